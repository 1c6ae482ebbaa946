/-
  The walk of RankBetween.
-/
import Derived.Test.YtkbenpgmadnkcaaRkAll
import Derived.Deep.DeepCutAuto
import Derived.Deep.RegionLaw
namespace Go.Proofs.Ytkbenpgmadnkcaa.RankBetween
open Go.RowKit Go.Shelf

/-- What lies there while the document's answer is asked for. -/
def St (w : World) (x y : Int) (a1 : Option Addr) (c1 : Nat) (L : List Nat) (W : World) : Prop :=
  Below w.heap.size w W ∧ W.ownsRow 0 3 1 (.slice a1 L.length c1) L.length (Rk.nums L) ∧ W.cell? ⟨w.heap.size, 0, none⟩ = some (.int .i64 x) ∧ W.cell? ⟨w.heap.size, 1, none⟩ = some (.int .i64 y)
theorem St.drew {w : World} {x y : Int} {a1 : Option Addr} {c1 : Nat} {L : List Nat} {W : World} (h : St w x y a1 c1 L W) : St w x y a1 c1 L W.drew := ⟨h.1.drew, h.2⟩
theorem St.go {w : World} {x y : Int} {a1 : Option Addr} {c1 : Nat} {L : List Nat} {W W' : World} (h : St w x y a1 c1 L W) (hz : w.heap.size < W.heap.size) (hb : Below W.heap.size W W') : St w x y a1 c1 L W' :=
  ⟨h.1.trans (hb.mono h.1.size), Rk.own_below h.2.1 hb, by rw [hb.cell (p := ⟨w.heap.size, 0, none⟩) hz]; exact h.2.2.1, by rw [hb.cell (p := ⟨w.heap.size, 1, none⟩) hz]; exact h.2.2.2⟩

set_option maxHeartbeats 8000000 in
theorem walk (n x y : Int) (a : Option Addr) (c : Nat) (rs : List (Int × Int)) (w : World) (hE : Rk.Eds w w.heap.size a rs) (hm : rs.length ≤ 1000000000000000) :
    Calls Try.prog 5 #[.int .i64 n, .slice a rs.length c, .agg #[.int .i64 x, .int .i64 y]] w fun e w' => e = .returned (.bool true) ∧ Below w.heap.size w w' := by
  obtain ⟨m, hmm⟩ : ∃ m, rs.length = m := ⟨_, rfl⟩
  have HE : Hid (Rk.Eds w w.heap.size a rs ∧ rs.length = m) := ⟨hE, hmm⟩
  rw [hmm] at hm ⊢
  have A0 : Hid (Below w.heap.size w (w.alloc (.cells #[.int .i64 x, .int .i64 y] 39))) := (Below.refl _ w).alloc (Nat.le_refl _) _
  clear hE hmm
  have hcase : (decide (24 < n) = true ∧ decide (n ≤ 64) = true) ∨ (decide (24 < n) = false ∧ 300 < m) ∨ ((decide (24 < n) = true ∧ decide (n ≤ 64) = false) ∧ 300 < m) ∨ (m ≤ 300 ∧ (decide (24 < n) = false ∨ (decide (24 < n) = true ∧ decide (n ≤ 64) = false))) := by
    rcases Decidable.em (24 < n) with h | h
    · rcases Decidable.em (n ≤ 64) with h2 | h2
      · exact .inl ⟨decide_eq_true h, decide_eq_true h2⟩
      · rcases Decidable.em (300 < m) with h3 | h3
        · exact .inr (.inr (.inl ⟨⟨decide_eq_true h, decide_eq_false h2⟩, h3⟩))
        · exact .inr (.inr (.inr ⟨by omega, .inr ⟨decide_eq_true h, decide_eq_false h2⟩⟩))
    · rcases Decidable.em (300 < m) with h3 | h3
      · exact .inr (.inl ⟨decide_eq_false h, h3⟩)
      · exact .inr (.inr (.inr ⟨by omega, .inl (decide_eq_false h)⟩))
  rcases hcase with ⟨d1, d2⟩ | ⟨d1, h3⟩ | ⟨⟨d1, d2⟩, h3⟩ | ⟨hm3, hor⟩
  · go_enter Try.func5, Try.ntmps5
    go_wp2_with fail
    refine (Try.three_any _).mono ?_
    rintro e W1 ⟨rfl, hb⟩
    go_wp2
    go_ret
    exact ⟨rfl, A0.out.trans (hb.mono (by simp))⟩
  · have d3 : decide ((300 : Int) < m) = true := decide_eq_true (by omega)
    have d3' : decide (300 < m) = true := decide_eq_true h3
    go_enter Try.func5, Try.ntmps5
    go_wp2_with fail
    refine (Try.three_any _).mono ?_
    rintro e W1 ⟨rfl, hb⟩
    go_wp2
    go_ret
    exact ⟨rfl, A0.out.trans (hb.mono (by simp))⟩
  · have d3 : decide ((300 : Int) < m) = true := decide_eq_true (by omega)
    have d3' : decide (300 < m) = true := decide_eq_true h3
    go_enter Try.func5, Try.ntmps5
    go_wp2_with fail
    refine (Try.three_any _).mono ?_
    rintro e W1 ⟨rfl, hb⟩
    go_wp2
    go_ret
    exact ⟨rfl, A0.out.trans (hb.mono (by simp))⟩
  · have d3 : decide ((300 : Int) < m) = false := decide_eq_false (by omega)
    have d3' : decide (300 < m) = false := decide_eq_false (by omega)
    obtain ⟨⟨L, err⟩, hR⟩ : ∃ R, Rk.betR n rs x y = R := ⟨_, rfl⟩
    have hLs : L.length ≤ 1000000 := by have := Rk.betR_small n rs x y; rw [hR] at this; exact Nat.le_trans this (by decide)
    have HR : Hid (Rk.betR n rs x y = (L, err)) := hR
    have H1 : Hid _ := Try.between_all n x y a c rs (w.alloc (.cells #[.int .i64 x, .int .i64 y] 39)) ((HE.out.1.below A0.out).wider A0.out.size) (by rw [HE.out.2]; omega)
    rw [HE.out.2, HR.out] at H1
    clear hR
    rcases hor with d1 | ⟨d1, d2⟩
    all_goals
      go_enter Try.func5, Try.ntmps5
      go_wp2_with fail
      refine Calls.mono H1.out ?_
      rintro e W1 ⟨v1, rfl, own1, hb1⟩
      obtain ⟨a1, c1, rfl⟩ := Rk.own_shape own1
      have hz : w.heap.size < W1.heap.size := by have := hb1.size; simp at this; omega
      have S1 : Hid (St w x y a1 c1 L W1) := ⟨A0.out.trans (hb1.mono (by simp)), Rk.own_wider own1 (Nat.zero_le _), by rw [hb1.cell (p := ⟨w.heap.size, 0, none⟩) (by simp)]; simp, by rw [hb1.cell (p := ⟨w.heap.size, 1, none⟩) (by simp)]; simp⟩
      have k0 := S1.out.2.2.1
      have k1 := S1.out.2.2.2
      have C2 : Hid (∀ W, W.heap = W1.heap → St w x y a1 c1 L W → Calls Try.prog 9 #[.slice a m c] W fun e w' => ∃ a2 c2, e = .returned (.slice a2 m c2) ∧ Hid (Rk.Eds w' w'.heap.size a2 rs ∧ St w x y a1 c1 L w') ∧ w.heap.size < w'.heap.size ∧ w'.cell? ⟨w.heap.size, 0, none⟩ = some (.int .i64 x) ∧ w'.cell? ⟨w.heap.size, 1, none⟩ = some (.int .i64 y)) := by
        intro W hWh hS
        have h := Try.refs_any a c rs W ((HE.out.1.below hS.1).wider hS.1.size) (by rw [HE.out.2]; omega)
        rw [HE.out.2] at h
        refine h.mono ?_
        rintro e W' ⟨⟨a2, c2, rfl, e2⟩, hb⟩
        have hz' : w.heap.size < W.heap.size := by rw [hWh]; exact hz
        have hS' := hS.go hz' hb
        exact ⟨a2, c2, rfl, ⟨e2, hS'⟩, Nat.lt_of_lt_of_le hz' hb.size, hS'.2.2.1, hS'.2.2.2⟩
      have C3 : Hid (∀ W a2 c2, (Rk.Eds W W.heap.size a2 rs ∧ St w x y a1 c1 L W) → w.heap.size < W.heap.size → Calls Try.prog 20 #[.int .i64 n, .slice a2 m c2, .agg #[.int .i64 x, .int .i64 y]] W fun e w' => ∃ a3 c3, e = .returned (.tuple #[.slice a3 L.length c3, .int .i64 err]) ∧ Hid (St w x y a1 c1 L w' ∧ w'.ownsRow 0 3 1 (.slice a3 L.length c3) L.length (Rk.nums L))) := by
        intro W a2 c2 hS hz'
        have h := Try.rbetween_all n x y a2 c2 rs W hS.1 (by rw [HE.out.2]; omega)
        rw [HR.out, HE.out.2] at h
        refine h.mono ?_
        rintro e W' ⟨v3, rfl, own3, hb⟩
        obtain ⟨a3, c3, rfl⟩ := Rk.own_shape own3
        exact ⟨a3, c3, rfl, hS.2.go hz' hb, Rk.own_wider own3 (Nat.zero_le _)⟩
      clear hb1 own1 H1
      go_upto_region 4 with fail
      go_region_law (first
        | (go_simp; go_at_call 9; refine Calls.mono (C2.out _ ?_ ?_) ?_; (exact rfl); (first | exact S1.out | exact S1.out.drew); rintro e W2 ⟨a2, c2, rfl, S2, hz2, q0, q1⟩)
        | (go_simp; go_at_call 20; refine Calls.mono (C3.out _ _ _ ?_ ?_) ?_; (first | exact S2.out | exact ⟨S2.out.1, S2.out.2.drew⟩); (exact hz2); rintro e W3 ⟨a3, c3, rfl, S3⟩)
        | fail)
      all_goals
        have C4 : Hid (∀ W, (St w x y a1 c1 L W ∧ W.ownsRow 0 3 1 (.slice a3 L.length c3) L.length (Rk.nums L)) → Calls Try.prog 14 #[.slice a1 L.length c1, .slice a3 L.length c3] W fun e w' => e = .returned (.bool true) ∧ Below w.heap.size w w') := fun W hS =>
          (Try.ints_same a1 a3 c1 c3 L W (Rk.nums_of_own hS.1.2.1) (Rk.nums_of_own hS.2) hLs).mono fun _ _ h => ⟨h.1, hS.1.1.trans (h.2.mono hS.1.1.size)⟩
        clear C2 C3 S1 S2 k0 k1 q0 q1
        go_wp2_with fail
        refine Calls.mono (C4.out _ ?_) ?_
        · first | exact S3.out | exact ⟨S3.out.1.drew, S3.out.2⟩
        rintro e W4 ⟨rfl, hb4⟩
        have HB4 : Hid (Below w.heap.size w W4) := hb4
        clear hb4 C4 S3
        go_wp2_with fail
        refine (Try.three_any _).mono ?_
        rintro e W5 ⟨rfl, hb5⟩
        go_wp2
        go_ret
        exact ⟨rfl, HB4.out.trans (hb5.mono HB4.out.size)⟩

end Go.Proofs.Ytkbenpgmadnkcaa.RankBetween
