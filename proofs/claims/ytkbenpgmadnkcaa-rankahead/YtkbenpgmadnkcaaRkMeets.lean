/-
  The contracts of Meets and Round.
-/
import Derived.Test.YtkbenpgmadnkcaaRkRound
namespace Go.Proofs
open Go.RowKit Go.Shelf

theorem Rk.inB_iff (n i : Int) : Rk.inB n i = true ↔ 0 ≤ i ∧ i < n := by simp [Rk.inB]
/-- What a right graph is. -/
theorem Rk.chk_ok {n : Int} {rs : List (Int × Int)} (h : Rk.chk n rs = 0) : ∃ (k : Nat) (es : List (Nat × Nat)), n = k ∧ k ≤ 64 ∧ rs = Rk.up es ∧ es.length ≤ 256 ∧ ∀ e, e ∈ es → e.1 < k ∧ e.2 < k := by
  unfold Rk.chk at h
  split at h
  · simp at h
  · next h1 =>
    split at h
    · simp at h
    · next h2 =>
      split at h
      · simp at h
      · next h3 =>
        obtain ⟨k, rfl⟩ : ∃ k : Nat, n = k := ⟨n.toNat, by omega⟩
        rw [Bool.not_eq_true, List.any_eq_false] at h3
        have hr : ∀ e, e ∈ rs → 0 ≤ e.1 ∧ e.1 < k ∧ 0 ≤ e.2 ∧ e.2 < k := by
          intro e he
          have := h3 e he
          simp only [Rk.outB, Bool.or_eq_true, Bool.not_eq_true', not_or, Bool.not_eq_false, Rk.inB_iff] at this
          exact ⟨this.1.1, this.1.2, this.2.1, this.2.2⟩
        refine ⟨k, rs.map fun e => (e.1.toNat, e.2.toNat), rfl, by omega, ?_, by simp; omega, ?_⟩
        · rw [Rk.up, List.map_map]
          symm
          refine (List.map_congr_left (fun e he => ?_)).trans (List.map_id rs)
          have := hr e he
          obtain ⟨x, y⟩ := e
          simp only [Function.comp_apply, id_eq, Prod.mk.injEq]
          omega
        · intro e he
          obtain ⟨x, hx, rfl⟩ := List.mem_map.1 he
          have := hr x hx
          simp only
          omega

set_option maxHeartbeats 4000000 in
theorem Try.meets_err (n from_ err : Int) (a : Option Addr) (c : Nat) (rs : List (Int × Int)) (w : World) (hE : Rk.Eds w w.heap.size a rs) (hm : rs.length ≤ 1000000000000000) (he : Rk.chk n rs = err) (h0 : err ≠ 0) :
    Calls Try.prog 10 #[.int .i64 n, .slice a rs.length c, .int .i64 from_] w fun e w' => e = .returned (.tuple #[.slice none 0 0, .int .i64 err]) ∧ Below w.heap.size w w' := by
  have H1 : Hid _ := Try.check_any n a c rs w hE hm
  rw [he] at H1
  have hd : (err == 0) = false := by simpa using h0
  obtain ⟨m, hmm⟩ : ∃ m, rs.length = m := ⟨_, rfl⟩
  rw [hmm] at H1 ⊢
  clear hE hm he hmm h0
  go_enter Try.func10, Try.ntmps10
  go_wp2_with fail
  refine Calls.mono H1.out ?_
  rintro e W1 ⟨rfl, hb⟩
  go_wp2
  go_ret2
  exact ⟨rfl, hb⟩

set_option maxHeartbeats 4000000 in
theorem Try.meets_none (n from_ : Int) (a : Option Addr) (c : Nat) (rs : List (Int × Int)) (w : World) (hE : Rk.Eds w w.heap.size a rs) (hm : rs.length ≤ 1000000000000000) (he : Rk.chk n rs = 0) (h0 : Rk.inB n from_ = false) :
    Calls Try.prog 10 #[.int .i64 n, .slice a rs.length c, .int .i64 from_] w fun e w' => e = .returned (.tuple #[.slice none 0 0, .int .i64 6]) ∧ Below w.heap.size w w' := by
  have H1 : Hid _ := Try.check_any n a c rs w hE hm
  rw [he] at H1
  have HI : Hid ((decide (0 ≤ from_) && decide (from_ < n)) = false) := h0
  obtain ⟨m, hmm⟩ : ∃ m, rs.length = m := ⟨_, rfl⟩
  rw [hmm] at H1 ⊢
  clear hE hm he hmm h0
  go_enter Try.func10, Try.ntmps10
  go_wp2_with fail
  refine Calls.mono H1.out ?_
  rintro e W1 ⟨rfl, hb⟩
  go_wp2_with fail
  refine (Try.within_any n from_ _).mono ?_
  rintro e W2 ⟨rfl, rfl⟩
  rw [HI.out]
  go_wp2
  go_ret2
  exact ⟨rfl, hb⟩

set_option maxHeartbeats 4000000 in
theorem Try.meets_ok (n i : Nat) (a : Option Addr) (c : Nat) (es : List (Nat × Nat)) (w : World) (hn : n ≤ 64) (hi : i < n) (hes : ∀ e, e ∈ es → e.1 < n ∧ e.2 < n) (hE : Rk.Eds w w.heap.size a (Rk.up es)) (hm : es.length ≤ 1000000000000000) (hck : Rk.chk n (Rk.up es) = 0) :
    Calls Try.prog 10 #[.int .i64 n, .slice a es.length c, .int .i64 i] w fun e w' => ∃ v, e = .returned (.tuple #[v, .int .i64 0]) ∧
      w'.ownsRow w.heap.size 3 1 v ((List.range n).filter (Rk.met es i)).length (Rk.nums ((List.range n).filter (Rk.met es i))) ∧ Below w.heap.size w w' := by
  have H1 : Hid _ := Try.check_any n a c (Rk.up es) w hE (by rw [Rk.up_length]; exact hm)
  rw [hck, Rk.up_length] at H1
  have HI : Hid ((decide ((0 : Int) ≤ i) && decide ((i : Int) < n)) = true) := by show _ = _; simp; omega
  have HX : Hid (n ≤ 64 ∧ i < n ∧ (∀ e, e ∈ es → e.1 < n ∧ e.2 < n) ∧ Rk.Eds w w.heap.size a (Rk.up es) ∧ es.length ≤ 1000000000000000) := ⟨hn, hi, hes, hE, hm⟩
  clear hE hm hn hi hes hck
  go_enter Try.func10, Try.ntmps10
  go_wp2_with fail
  refine Calls.mono H1.out ?_
  rintro e W1 ⟨rfl, hb⟩
  go_wp2_with fail
  refine (Try.within_any n i _).mono ?_
  rintro e W2 ⟨rfl, rfl⟩
  rw [HI.out]
  have H2 : Hid _ := Try.mark_any n i a c es W2 HX.out.1 HX.out.2.1 HX.out.2.2.1 ((HX.out.2.2.2.1.below hb).wider hb.size) HX.out.2.2.2.2
  have HB : Hid (Below w.heap.size w W2) := hb
  clear hb H1
  go_wp2_with fail
  refine Calls.mono H2.out ?_
  rintro e W3 ⟨rfl, hbits, hb3⟩
  have hs3 := hbits.lt
  have A3 : Below W3.heap.size W3 (W3.alloc (.cells #[.slice (some ⟨W2.heap.size, 0, none⟩) n n] 43)) := (Below.refl _ W3).alloc (Nat.le_refl _) _
  have B3 : Below w.heap.size w (W3.alloc (.cells #[.slice (some ⟨W2.heap.size, 0, none⟩) n n] 43)) := (HB.out.trans (hb3.mono HB.out.size)).alloc (by have := HB.out.size; omega) _
  have H3 : Hid _ := Try.things_any (Rk.met es i) 24 #[.pointer (some ⟨W3.heap.size, 0, none⟩)] Rk.enters_meets n (W3.alloc (.cells #[.slice (some ⟨W2.heap.size, 0, none⟩) n n] 43))
    (Rk.meets_hold W3.heap.size W2.heap.size n (Rk.met es i) _ (by simp) (by simp) (hbits.below A3 hs3)) HX.out.1
  have HB3 : Hid _ := B3
  clear hbits hb3 A3 B3 H2 HX
  go_wp2_with fail
  refine Calls.mono H3.out ?_
  rintro e W4 ⟨v, rfl, hown, hb4⟩
  obtain ⟨av, cv, rfl⟩ := Rk.own_shape hown
  go_wp2
  go_ret2
  refine ⟨_, rfl, ?_, HB3.out.trans (hb4.mono HB3.out.size)⟩
  rcases hown with ⟨hl, h | ⟨g, cap, cur, h1, h2, h3⟩⟩
  · exact ⟨hl, .inl h⟩
  · exact ⟨hl, .inr ⟨g, cap, cur, h1, Nat.le_trans HB3.out.size h2, h3⟩⟩

end Go.Proofs
