/-
  The contracts of Meets, goesRound and Round.
-/
import Derived.Test.YtkbenpgmadnkcaaRkThings
namespace Go.Proofs
open Go.RowKit Go.Shelf

theorem Rk.enters_meets : ∀ args w, (callFunc 24 args).run Try.prog w = .ok (.enter 24 args) w := enters_of Try.func24 (by kernel_rfl) rfl
theorem Rk.enters_goes : ∀ args w, (callFunc 34 args).run Try.prog w = .ok (.enter 34 args) w := enters_of Try.func34 (by kernel_rfl) rfl
theorem Rk.enters_round : ∀ args w, (callFunc 26 args).run Try.prog w = .ok (.enter 26 args) w := enters_of Try.func26 (by kernel_rfl) rfl

set_option maxHeartbeats 2000000 in
theorem Rk.meets_hold (bm g n : Nat) (p : Nat → Bool) (w : World) (hbm : bm < w.heap.size) (hc : w.cell? ⟨bm, 0, none⟩ = some (.slice (some ⟨g, 0, none⟩) n n)) (hb : Rk.Bits w g ((List.range n).map p)) : Rk.Hold 24 #[.pointer (some ⟨bm, 0, none⟩)] p n w := by
  intro W i hi hW
  show Calls Try.prog 24 #[.int .i64 i, .pointer (some ⟨bm, 0, none⟩)] W _
  have c0 : W.cell? ⟨bm, 0, none⟩ = some (.slice (some ⟨g, 0, none⟩) n n) := (hW.cell (p := ⟨bm, 0, none⟩) hbm).trans hc
  have c1 : W.cell? ⟨g, i, none⟩ = some (.bool (p i)) := (hb.below hW hb.lt).cell i (p i) (by simp [hi])
  have hi' : (i : Int) < n := by omega
  clear hc hb hW
  go_enter Try.func24, Try.ntmps24
  go_wp2
  go_ret
  exact ⟨rfl, Below.refl _ _⟩

/-- Does an edge lead back to i from one that is met? -/
noncomputable def Rk.backB (es : List (Nat × Nat)) (i : Nat) (x : Int × Int) : Bool := decide (x.2 = (i : Int)) && Rk.met es i x.1.toNat
theorem Rk.back_any (es : List (Nat × Nat)) (i : Nat) : (Rk.up es).any (Rk.backB es i) = Rk.lead es i i := by
  rw [Bool.eq_iff_iff, Rk.lead_iff, List.any_eq_true]
  constructor
  · rintro ⟨x, hx, h⟩
    obtain ⟨e, he, rfl⟩ := List.mem_map.1 hx
    simp only [Rk.backB, Bool.and_eq_true, decide_eq_true_eq, Int.toNat_natCast, Rk.met_iff] at h
    have h2 : e.2 = i := by omega
    exact ⟨e.1, h.2, by rw [← h2]; exact he⟩
  · rintro ⟨b, h, m⟩
    refine ⟨((b : Int), (i : Int)), List.mem_map.2 ⟨(b, i), m, rfl⟩, ?_⟩
    simp [Rk.backB, Rk.met_iff, h]

set_option maxHeartbeats 2000000 in
theorem Rk.goes_pred (bi bm g n i : Nat) (es : List (Nat × Nat)) (w : World) (hes : ∀ e, e ∈ es → e.1 < n ∧ e.2 < n) (hbi : bi < w.heap.size) (hbm : bm < w.heap.size) (hci : w.cell? ⟨bi, 0, none⟩ = some (.int .i64 i)) (hcm : w.cell? ⟨bm, 0, none⟩ = some (.slice (some ⟨g, 0, none⟩) n n))
    (hb : Rk.Bits w g ((List.range n).map (Rk.met es i))) : Rk.Pred 34 #[.pointer (some ⟨bi, 0, none⟩), .pointer (some ⟨bm, 0, none⟩)] (Rk.backB es i) (Rk.up es) w := by
  intro W x y hxy hW
  show Calls Try.prog 34 #[.agg #[.int .i64 x, .int .i64 y], .pointer (some ⟨bi, 0, none⟩), .pointer (some ⟨bm, 0, none⟩)] W _
  obtain ⟨e, he, hee⟩ := List.mem_map.1 hxy
  obtain ⟨x, y⟩ := e
  simp only [Prod.mk.injEq] at hee
  obtain ⟨rfl, rfl⟩ := hee
  obtain ⟨hx, hy⟩ : x < n ∧ y < n := hes _ he
  have B0 : Hid (Below w.heap.size w (W.alloc (.cells #[.int .i64 x, .int .i64 y] 45))) := hW.alloc hW.size _
  have ci : W.cell? ⟨bi, 0, none⟩ = some (.int .i64 i) := (hW.cell (p := ⟨bi, 0, none⟩) hbi).trans hci
  have cm : W.cell? ⟨bm, 0, none⟩ = some (.slice (some ⟨g, 0, none⟩) n n) := (hW.cell (p := ⟨bm, 0, none⟩) hbm).trans hcm
  have cx : W.cell? ⟨g, x, none⟩ = some (.bool (Rk.met es i x)) := (hb.below hW hb.lt).cell x _ (by simp [hx])
  have hz := hW.size
  have z1 : bi < W.heap.size := by omega
  have z2 : bm < W.heap.size := by omega
  have z3 : g < W.heap.size := by have := hb.lt; omega
  have hx' : (x : Int) < n := by omega
  have HR : Hid (Rk.backB es i ((x : Int), (y : Int)) = (decide ((y : Int) = i) && Rk.met es i x)) := rfl
  obtain ⟨q, hq⟩ : ∃ q, Rk.met es i x = q := ⟨_, rfl⟩
  rw [HR.out, hq]
  rw [hq] at cx
  clear hW hb hci hcm hq HR hxy he hes
  by_cases hyi : y = i
  · subst hyi
    go_enter Try.func34, Try.ntmps34
    go_wp2
    go_ret
    exact ⟨by simp, B0.out⟩
  · have hd : ((y : Int) == (i : Int)) = false := by simp; omega
    have hd2 : decide ((y : Int) = (i : Int)) = false := by simp; omega
    rw [hd2]
    clear hyi hd2
    go_enter Try.func34, Try.ntmps34
    go_wp2
    go_ret
    exact ⟨by simp, B0.out⟩

set_option maxHeartbeats 4000000 in
theorem Try.goes_any (n i : Nat) (a : Option Addr) (c : Nat) (es : List (Nat × Nat)) (w : World) (hn : n ≤ 64) (hi : i < n) (hes : ∀ e, e ∈ es → e.1 < n ∧ e.2 < n) (hE : Rk.Eds w w.heap.size a (Rk.up es)) (hm : es.length ≤ 1000000000000000) :
    Calls Try.prog 27 #[.int .i64 n, .slice a es.length c, .int .i64 i] w fun e w' => e = .returned (.bool (Rk.lead es i i)) ∧ Below w.heap.size w w' := by
  have A0 : Below w.heap.size w (w.alloc (.cells #[.int .i64 i] 3)) := (Below.refl _ w).alloc (Nat.le_refl _) _
  have E0 := (hE.below A0).wider (B' := (w.alloc (.cells #[.int .i64 i] 3)).heap.size) (by simp)
  have H1 : Hid _ := Try.mark_any n i a c es (w.alloc (.cells #[.int .i64 i] 3)) hn hi hes E0 hm
  have HX : Hid (Below w.heap.size w (w.alloc (.cells #[.int .i64 i] 3)) ∧ Rk.Eds (w.alloc (.cells #[.int .i64 i] 3)) (w.heap.size + 1) a (Rk.up es) ∧ (∀ e, e ∈ es → e.1 < n ∧ e.2 < n) ∧ es.length ≤ 1000000000000000 ∧ (Rk.up es).length = es.length) := ⟨A0, by simpa using E0, hes, hm, Rk.up_length es⟩
  obtain ⟨q, hq⟩ : ∃ q, Rk.lead es i i = q := ⟨_, rfl⟩
  have HQ : Hid (Rk.lead es i i = q) := hq
  obtain ⟨m, hmm⟩ : ∃ m, es.length = m := ⟨_, rfl⟩
  rw [hq]
  rw [hmm] at H1 HX ⊢
  clear hE hes hm A0 E0 hq hmm
  go_enter Try.func27, Try.ntmps27
  go_wp2_with fail
  refine Calls.mono H1.out ?_
  rintro e W1 ⟨rfl, hbits, hb⟩
  have hs1 : w.heap.size + 1 < W1.heap.size := by have := hbits.lt; simpa using this
  have B2 : Below w.heap.size w (W1.alloc (.cells #[.slice (some ⟨w.heap.size + 1, 0, none⟩) n n] 43)) := (HX.out.1.trans (hb.mono (by simp))).alloc (by omega) _
  have A2 : Below W1.heap.size W1 (W1.alloc (.cells #[.slice (some ⟨w.heap.size + 1, 0, none⟩) n n] 43)) := (Below.refl _ W1).alloc (Nat.le_refl _) _
  have hci : (W1.alloc (.cells #[.slice (some ⟨w.heap.size + 1, 0, none⟩) n n] 43)).cell? ⟨w.heap.size, 0, none⟩ = some (.int .i64 i) := by
    rw [A2.cell (p := ⟨w.heap.size, 0, none⟩) (by show w.heap.size < _; omega), hb.cell (p := ⟨w.heap.size, 0, none⟩) (by simp)]
    simp
  have HP := Rk.goes_pred w.heap.size W1.heap.size (w.heap.size + 1) n i es (W1.alloc (.cells #[.slice (some ⟨w.heap.size + 1, 0, none⟩) n n] 43)) HX.out.2.2.1 (by simp; omega) (by simp) hci (by simp)
    (by simpa using hbits.below A2 (by simpa using hs1))
  have HE := ((HX.out.2.1.below (by simpa using hb)).below (A2.mono (by omega))).wider (B' := (W1.alloc (.cells #[.slice (some ⟨w.heap.size + 1, 0, none⟩) n n] 43)).heap.size) (by simp; omega)
  have hc := Try.contains_any (Rk.backB es i) 34 #[.pointer (some ⟨w.heap.size, 0, none⟩), .pointer (some ⟨W1.heap.size, 0, none⟩)] Rk.enters_goes a c (Rk.up es) _ HP HE (by rw [HX.out.2.2.2.2]; exact HX.out.2.2.2.1)
  rw [Rk.back_any, HQ.out, HX.out.2.2.2.2] at hc
  have HC : Hid _ := hc
  have HB2 : Hid _ := B2
  have HA2 : Hid _ := A2
  clear hbits hb B2 A2 hci HP HE hc H1 HX
  go_wp2_with fail
  refine Calls.mono HC.out ?_
  rintro e W2 ⟨rfl, hb2⟩
  have B3 : Hid (Below w.heap.size w W2) := HB2.out.trans (hb2.mono (by simp; omega))
  clear hb2
  go_wp2
  go_ret
  exact ⟨rfl, B3.out⟩

end Go.Proofs
