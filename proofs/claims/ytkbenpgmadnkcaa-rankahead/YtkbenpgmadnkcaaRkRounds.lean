/-
  The contract of Round.
-/
import Derived.Test.YtkbenpgmadnkcaaRkMeets
namespace Go.Proofs
open Go.RowKit Go.Shelf

theorem Rk.own_wider {w : World} {B B' : Nat} {e : TypeId} {size : Nat} {v : Value} {n : Nat} {cs : List Value} (h : w.ownsRow B e size v n cs) (hB : B' ≤ B) : w.ownsRow B' e size v n cs := by
  rcases h with ⟨hl, h | ⟨g, cap, cur, h1, h2, h3⟩⟩
  · exact ⟨hl, .inl h⟩
  · exact ⟨hl, .inr ⟨g, cap, cur, h1, Nat.le_trans hB h2, h3⟩⟩

set_option maxHeartbeats 2000000 in
theorem Rk.round_hold (bn bl n c : Nat) (a : Option Addr) (es : List (Nat × Nat)) (w : World) (hn : n ≤ 64) (hes : ∀ e, e ∈ es → e.1 < n ∧ e.2 < n) (hbn : bn < w.heap.size) (hbl : bl < w.heap.size) (hcn : w.cell? ⟨bn, 0, none⟩ = some (.int .i64 n)) (hcl : w.cell? ⟨bl, 0, none⟩ = some (.slice a es.length c))
    (hE : Rk.Eds w w.heap.size a (Rk.up es)) (hm : es.length ≤ 1000000000000000) : Rk.Hold 26 #[.pointer (some ⟨bn, 0, none⟩), .pointer (some ⟨bl, 0, none⟩)] (fun i => Rk.lead es i i) n w := by
  intro W i hi hW
  show Calls Try.prog 26 #[.int .i64 i, .pointer (some ⟨bn, 0, none⟩), .pointer (some ⟨bl, 0, none⟩)] W _
  have c0 : W.cell? ⟨bn, 0, none⟩ = some (.int .i64 n) := (hW.cell (p := ⟨bn, 0, none⟩) hbn).trans hcn
  have c1 : W.cell? ⟨bl, 0, none⟩ = some (.slice a es.length c) := (hW.cell (p := ⟨bl, 0, none⟩) hbl).trans hcl
  have H1 : Hid _ := Try.goes_any n i a c es W hn hi hes ((hE.below hW).wider hW.size) hm
  clear hcn hcl hE hW hes
  go_enter Try.func26, Try.ntmps26
  go_wp2_with fail
  refine Calls.mono H1.out ?_
  rintro e W2 ⟨rfl, hb⟩
  go_wp2
  go_ret
  exact ⟨rfl, hb⟩

set_option maxHeartbeats 4000000 in
theorem Try.round_err (n err : Int) (a : Option Addr) (c : Nat) (rs : List (Int × Int)) (w : World) (hE : Rk.Eds w w.heap.size a rs) (hm : rs.length ≤ 1000000000000000) (he : Rk.chk n rs = err) (h0 : err ≠ 0) :
    Calls Try.prog 12 #[.int .i64 n, .slice a rs.length c] w fun e w' => e = .returned (.tuple #[.slice none 0 0, .int .i64 err]) ∧ Below w.heap.size w w' := by
  have A0 : Below w.heap.size w ((w.alloc (.cells #[.int .i64 n] 3)).alloc (.cells #[.slice a rs.length c] 22)) := ((Below.refl _ w).alloc (Nat.le_refl _) _).alloc (by simp) _
  have H1 : Hid _ := Try.check_any n a c rs ((w.alloc (.cells #[.int .i64 n] 3)).alloc (.cells #[.slice a rs.length c] 22)) ((hE.below A0).wider A0.size) hm
  rw [he] at H1
  have hd : (err == 0) = false := by simpa using h0
  have HA : Hid _ := A0
  obtain ⟨m, hmm⟩ : ∃ m, rs.length = m := ⟨_, rfl⟩
  rw [hmm] at H1 HA ⊢
  clear hE hm he hmm h0 A0
  go_enter Try.func12, Try.ntmps12
  go_wp2_with fail
  refine Calls.mono H1.out ?_
  rintro e W1 ⟨rfl, hb⟩
  go_wp2
  go_ret2
  exact ⟨rfl, HA.out.trans (hb.mono HA.out.size)⟩

set_option maxHeartbeats 4000000 in
theorem Try.round_ok (n : Nat) (a : Option Addr) (c : Nat) (es : List (Nat × Nat)) (w : World) (hn : n ≤ 64) (hes : ∀ e, e ∈ es → e.1 < n ∧ e.2 < n) (hE : Rk.Eds w w.heap.size a (Rk.up es)) (hm : es.length ≤ 1000000000000000) (hck : Rk.chk n (Rk.up es) = 0) :
    Calls Try.prog 12 #[.int .i64 n, .slice a es.length c] w fun e w' => ∃ v, e = .returned (.tuple #[v, .int .i64 0]) ∧
      w'.ownsRow w.heap.size 3 1 v ((List.range n).filter (fun i => Rk.lead es i i)).length (Rk.nums ((List.range n).filter (fun i => Rk.lead es i i))) ∧ Below w.heap.size w w' := by
  have A0 : Below w.heap.size w ((w.alloc (.cells #[.int .i64 n] 3)).alloc (.cells #[.slice a es.length c] 22)) := ((Below.refl _ w).alloc (Nat.le_refl _) _).alloc (by simp) _
  have E0 := (hE.below A0).wider A0.size
  have H1 : Hid _ := Try.check_any n a c (Rk.up es) ((w.alloc (.cells #[.int .i64 n] 3)).alloc (.cells #[.slice a es.length c] 22)) E0 (by rw [Rk.up_length]; exact hm)
  rw [hck, Rk.up_length] at H1
  have HX : Hid (Below w.heap.size w ((w.alloc (.cells #[.int .i64 n] 3)).alloc (.cells #[.slice a es.length c] 22)) ∧ n ≤ 64 ∧ (∀ e, e ∈ es → e.1 < n ∧ e.2 < n) ∧ Rk.Eds ((w.alloc (.cells #[.int .i64 n] 3)).alloc (.cells #[.slice a es.length c] 22)) (w.heap.size + 2) a (Rk.up es) ∧ es.length ≤ 1000000000000000) :=
    ⟨A0, hn, hes, by simpa using E0, hm⟩
  clear hE hm hn hes hck A0 E0
  go_enter Try.func12, Try.ntmps12
  go_wp2_with fail
  refine Calls.mono H1.out ?_
  rintro e W1 ⟨rfl, hb⟩
  have hb' : Below (w.heap.size + 2) ((w.alloc (.cells #[.int .i64 n] 3)).alloc (.cells #[.slice a es.length c] 22)) W1 := by simpa using hb
  have hs := hb'.size
  have hz : w.heap.size + 2 ≤ W1.heap.size := by simpa using hs
  have k0 : W1.cell? ⟨w.heap.size, 0, none⟩ = some (.int .i64 n) := by rw [hb'.cell (p := ⟨w.heap.size, 0, none⟩) (by show w.heap.size < _; omega)]; simp
  have k1 : W1.cell? ⟨w.heap.size + 1, 0, none⟩ = some (.slice a es.length c) := by rw [hb'.cell (p := ⟨w.heap.size + 1, 0, none⟩) (by show w.heap.size + 1 < _; omega)]; simp
  have H2 : Hid _ := Try.things_any (fun i => Rk.lead es i i) 26 #[.pointer (some ⟨w.heap.size, 0, none⟩), .pointer (some ⟨w.heap.size + 1, 0, none⟩)] Rk.enters_round n W1
    (Rk.round_hold w.heap.size (w.heap.size + 1) n c a es W1 HX.out.2.1 HX.out.2.2.1 (by omega) (by omega) k0 k1 ((HX.out.2.2.2.1.below hb').wider hz) HX.out.2.2.2.2) HX.out.2.1
  have HB : Hid (Below w.heap.size w W1) := HX.out.1.trans (hb'.mono (by omega))
  clear hb hb' hs H1 HX
  go_wp2_with fail
  refine Calls.mono H2.out ?_
  rintro e W4 ⟨v, rfl, hown, hb4⟩
  obtain ⟨av, cv, rfl⟩ := Rk.own_shape hown
  go_wp2
  go_ret2
  exact ⟨_, rfl, Rk.own_wider hown HB.out.size, HB.out.trans (hb4.mono HB.out.size)⟩

end Go.Proofs
