/-
  The walk of RankMeets.
-/
import Derived.Test.YtkbenpgmadnkcaaRkAll
namespace Go.Proofs.Ytkbenpgmadnkcaa.RankMeets
open Go.RowKit Go.Shelf

set_option maxHeartbeats 8000000 in
theorem walk (n f : Int) (a : Option Addr) (c : Nat) (rs : List (Int × Int)) (w : World) (hE : Rk.Eds w w.heap.size a rs) (hm : rs.length ≤ 1000000000000000) :
    Calls Try.prog 3 #[.int .i64 n, .slice a rs.length c, .int .i64 f] w fun e w' => e = .returned (.bool true) ∧ Below w.heap.size w w' := by
  obtain ⟨m, hmm⟩ : ∃ m, rs.length = m := ⟨_, rfl⟩
  have HE : Hid (Rk.Eds w w.heap.size a rs ∧ rs.length = m) := ⟨hE, hmm⟩
  rw [hmm] at hm ⊢
  clear hE hmm
  have hcase : (decide (24 < n) = true ∧ decide (n ≤ 64) = true) ∨ (decide (24 < n) = false ∧ 300 < m) ∨ ((decide (24 < n) = true ∧ decide (n ≤ 64) = false) ∧ 300 < m) ∨ (m ≤ 300 ∧ (decide (24 < n) = false ∨ (decide (24 < n) = true ∧ decide (n ≤ 64) = false))) := by
    rcases Decidable.em (24 < n) with h | h
    · rcases Decidable.em (n ≤ 64) with h2 | h2
      · exact .inl ⟨decide_eq_true h, decide_eq_true h2⟩
      · rcases Decidable.em (300 < m) with h3 | h3
        · exact .inr (.inr (.inl ⟨⟨decide_eq_true h, decide_eq_false h2⟩, h3⟩))
        · exact .inr (.inr (.inr ⟨by omega, .inr ⟨decide_eq_true h, decide_eq_false h2⟩⟩))
    · rcases Decidable.em (300 < m) with h3 | h3
      · exact .inr (.inl ⟨decide_eq_false h, h3⟩)
      · exact .inr (.inr (.inr ⟨by omega, .inl (decide_eq_false h)⟩))
  rcases hcase with ⟨d1, d2⟩ | ⟨d1, h3⟩ | ⟨⟨d1, d2⟩, h3⟩ | ⟨hm3, hor⟩
  · go_enter Try.func3, Try.ntmps3
    go_wp2_with fail
    refine (Try.three_any _).mono ?_
    rintro e W1 ⟨rfl, hb⟩
    go_wp2
    go_ret
    exact ⟨rfl, hb⟩
  · have d3 : decide ((300 : Int) < m) = true := decide_eq_true (by omega)
    have d3' : decide (300 < m) = true := decide_eq_true h3
    go_enter Try.func3, Try.ntmps3
    go_wp2_with fail
    refine (Try.three_any _).mono ?_
    rintro e W1 ⟨rfl, hb⟩
    go_wp2
    go_ret
    exact ⟨rfl, hb⟩
  · have d3 : decide ((300 : Int) < m) = true := decide_eq_true (by omega)
    have d3' : decide (300 < m) = true := decide_eq_true h3
    go_enter Try.func3, Try.ntmps3
    go_wp2_with fail
    refine (Try.three_any _).mono ?_
    rintro e W1 ⟨rfl, hb⟩
    go_wp2
    go_ret
    exact ⟨rfl, hb⟩
  · have d3 : decide ((300 : Int) < m) = false := decide_eq_false (by omega)
    have d3' : decide (300 < m) = false := decide_eq_false (by omega)
    obtain ⟨⟨L, err⟩, hR⟩ : ∃ R, Rk.meetsR n rs f = R := ⟨_, rfl⟩
    obtain ⟨⟨M, er2⟩, hR2⟩ : ∃ R, Rk.roundR n rs = R := ⟨_, rfl⟩
    obtain ⟨ck, hck⟩ : ∃ k, Rk.chk n rs = k := ⟨_, rfl⟩
    have hLs : L.length ≤ 1000000 := by have := Rk.meetsR_small n rs f; rw [hR] at this; exact Nat.le_trans this (by decide)
    have hMs : M.length ≤ 1000000 := by have := Rk.roundR_small n rs; rw [hR2] at this; exact Nat.le_trans this (by decide)
    have HR : Hid (Rk.meetsR n rs f = (L, err) ∧ Rk.roundR n rs = (M, er2) ∧ Rk.chk n rs = ck) := ⟨hR, hR2, hck⟩
    have H1 : Hid _ := Try.refs_any a c rs w HE.out.1 (by rw [HE.out.2]; omega)
    rw [HE.out.2] at H1
    clear hR hR2 hck
    rcases hor with d1 | ⟨d1, d2⟩
    all_goals
      go_enter Try.func3, Try.ntmps3
      go_wp2_with fail
      refine Calls.mono H1.out ?_
      rintro e W1 ⟨⟨a1, c1, rfl, e1⟩, hb1⟩
      have S1 : Hid (Below w.heap.size w W1 ∧ Rk.Eds W1 W1.heap.size a1 rs) := ⟨hb1, e1⟩
      have H2 : Hid _ := Try.meets_all n f a c rs W1 ((HE.out.1.below hb1).wider hb1.size) (by rw [HE.out.2]; omega)
      rw [HR.out.1, HE.out.2] at H2
      clear hb1 e1 H1
      go_wp2_with fail
      refine Calls.mono H2.out ?_
      rintro e W2 ⟨v2, rfl, o2, hb2⟩
      obtain ⟨a2, c2, rfl⟩ := Rk.own_shape o2
      have S2 : Hid (Below w.heap.size w W2 ∧ Rk.Eds W2 W2.heap.size a1 rs ∧ W2.ownsRow 0 3 1 (.slice a2 L.length c2) L.length (Rk.nums L)) := ⟨S1.out.1.trans (hb2.mono S1.out.1.size), (S1.out.2.below hb2).wider hb2.size, Rk.own_wider o2 (Nat.zero_le _)⟩
      have H3 : Hid _ := Try.rmeets_all n f a1 c1 rs W2 S2.out.2.1 (by rw [HE.out.2]; omega)
      rw [HR.out.1, HE.out.2] at H3
      clear hb2 o2 H2 S1
      go_wp2_with fail
      refine Calls.mono H3.out ?_
      rintro e W3 ⟨v3, rfl, o3, hb3⟩
      obtain ⟨a3, c3, rfl⟩ := Rk.own_shape o3
      have S3 : Hid (Below w.heap.size w W3 ∧ Rk.Eds W3 W3.heap.size a1 rs ∧ W3.ownsRow 0 3 1 (.slice a2 L.length c2) L.length (Rk.nums L) ∧ W3.ownsRow 0 3 1 (.slice a3 L.length c3) L.length (Rk.nums L)) := ⟨S2.out.1.trans (hb3.mono S2.out.1.size), (S2.out.2.1.below hb3).wider hb3.size, Rk.own_below S2.out.2.2 hb3, Rk.own_wider o3 (Nat.zero_le _)⟩
      have H4 : Hid _ := Try.round_all n a c rs W3 ((HE.out.1.below S3.out.1).wider S3.out.1.size) (by rw [HE.out.2]; omega)
      rw [HR.out.2.1, HE.out.2] at H4
      clear hb3 o3 H3 S2
      go_wp2_with fail
      refine Calls.mono H4.out ?_
      rintro e W4 ⟨v4, rfl, o4, hb4⟩
      obtain ⟨a4, c4, rfl⟩ := Rk.own_shape o4
      have S4 : Hid (Below w.heap.size w W4 ∧ Rk.Eds W4 W4.heap.size a1 rs ∧ W4.ownsRow 0 3 1 (.slice a2 L.length c2) L.length (Rk.nums L) ∧ W4.ownsRow 0 3 1 (.slice a3 L.length c3) L.length (Rk.nums L) ∧ W4.ownsRow 0 3 1 (.slice a4 M.length c4) M.length (Rk.nums M)) := ⟨S3.out.1.trans (hb4.mono S3.out.1.size), (S3.out.2.1.below hb4).wider hb4.size, Rk.own_below S3.out.2.2.1 hb4, Rk.own_below S3.out.2.2.2 hb4, Rk.own_wider o4 (Nat.zero_le _)⟩
      have H5 : Hid _ := Try.rround_all n a1 c1 rs W4 S4.out.2.1 (by rw [HE.out.2]; omega)
      rw [HR.out.2.1, HE.out.2] at H5
      clear hb4 o4 H4 S3
      go_wp2_with fail
      refine Calls.mono H5.out ?_
      rintro e W5 ⟨v5, rfl, o5, hb5⟩
      obtain ⟨a5, c5, rfl⟩ := Rk.own_shape o5
      have S5 : Hid (Below w.heap.size w W5 ∧ Rk.Eds W5 W5.heap.size a1 rs ∧ W5.ownsRow 0 3 1 (.slice a4 M.length c4) M.length (Rk.nums M) ∧ W5.ownsRow 0 3 1 (.slice a5 M.length c5) M.length (Rk.nums M)) := ⟨S4.out.1.trans (hb5.mono S4.out.1.size), (S4.out.2.1.below hb5).wider hb5.size, Rk.own_below S4.out.2.2.2.2 hb5, Rk.own_wider o5 (Nat.zero_le _)⟩
      have H6 : Hid _ := Try.ints_same a2 a3 c2 c3 L W5 (Rk.nums_of_own (Rk.own_below S4.out.2.2.1 hb5)) (Rk.nums_of_own (Rk.own_below S4.out.2.2.2.1 hb5)) hLs
      clear hb5 o5 H5 S4
      go_wp2_with fail
      refine Calls.mono H6.out ?_
      rintro e W6 ⟨rfl, hb6⟩
      have S6 : Hid (Below w.heap.size w W6 ∧ Rk.Eds W6 W6.heap.size a1 rs) := ⟨S5.out.1.trans (hb6.mono S5.out.1.size), (S5.out.2.1.below hb6).wider hb6.size⟩
      have H7 : Hid _ := Try.ints_same a4 a5 c4 c5 M W6 (Rk.nums_of_own (Rk.own_below S5.out.2.2.1 hb6)) (Rk.nums_of_own (Rk.own_below S5.out.2.2.2 hb6)) hMs
      clear hb6 H6 S5
      go_wp2_with fail
      refine Calls.mono H7.out ?_
      rintro e W7 ⟨rfl, hb7⟩
      have S7 : Hid (Below w.heap.size w W7 ∧ Rk.Eds W7 W7.heap.size a1 rs) := ⟨S6.out.1.trans (hb7.mono S6.out.1.size), (S6.out.2.below hb7).wider hb7.size⟩
      have H8 : Hid _ := Try.check_any n a c rs W7 ((HE.out.1.below S7.out.1).wider S7.out.1.size) (by rw [HE.out.2]; omega)
      rw [HR.out.2.2, HE.out.2] at H8
      clear hb7 H7 S6
      go_wp2_with fail
      refine Calls.mono H8.out ?_
      rintro e W8 ⟨rfl, hb8⟩
      have S8 : Hid (Below w.heap.size w W8) := S7.out.1.trans (hb8.mono S7.out.1.size)
      have H9 : Hid _ := Try.rcheck_any n a1 c1 rs W8 ((S7.out.2.below hb8).wider hb8.size) (by rw [HE.out.2]; omega)
      rw [HR.out.2.2, HE.out.2] at H9
      clear hb8 H8 S7
      go_wp2_with fail
      refine Calls.mono H9.out ?_
      rintro e W9 ⟨rfl, hb9⟩
      have S9 : Hid (Below w.heap.size w W9) := S8.out.trans (hb9.mono S8.out.size)
      clear hb9 H9 S8
      go_wp2_with fail
      refine (Try.three_any _).mono ?_
      rintro e W10 ⟨rfl, hb10⟩
      go_wp2
      go_ret
      exact ⟨rfl, S9.out.trans (hb10.mono S9.out.size)⟩

end Go.Proofs.Ytkbenpgmadnkcaa.RankMeets
