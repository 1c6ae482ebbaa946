/-
  The walk of RankGrows.
-/
import Derived.Test.YtkbenpgmadnkcaaRkGrow
namespace Go.Proofs.Ytkbenpgmadnkcaa.RankGrows
open Go.RowKit Go.Shelf

theorem eds_tail {w : World} {B g off : Nat} {rs : List (Int × Int)} (h : Rk.Eds w B (some ⟨g, off, none⟩) rs) : Rk.Eds w B (some ⟨g, off + 2, none⟩) rs.tail := by
  intro j hj
  have hj' : j + 1 < rs.length := by rw [List.length_tail] at hj; omega
  obtain ⟨g', off', e, h1, h2, h3⟩ := h (j + 1) hj'
  simp only [Option.some.injEq, Addr.mk.injEq, and_true] at e
  obtain ⟨rfl, rfl⟩ := e
  rw [List.getElem_tail]
  refine ⟨g, off + 2, rfl, h1, ?_, ?_⟩
  · rw [show off + 2 + j * 2 = off + (j + 1) * 2 by omega]; exact h2
  · rw [show off + 2 + j * 2 + 1 = off + (j + 1) * 2 + 1 by omega]; exact h3

/-- What the walk begins with, wherever the rest of the edges lies. -/
def Starts (n f : Int) (v : Value) (L1 : List Nat) (e1 : Int) (w : World) : Prop := Calls Try.prog 10 #[.int .i64 n, v, .int .i64 f] w (Rk.Gives (L1, e1) w)

set_option maxHeartbeats 8000000 in
theorem walk (n f : Int) (a : Option Addr) (c : Nat) (rs : List (Int × Int)) (w : World) (hE : Rk.Eds w w.heap.size a rs) (hm : rs.length ≤ 1000000000000000) (hc : rs.length ≤ c) :
    Calls Try.prog 7 #[.int .i64 n, .slice a rs.length c, .int .i64 f] w fun e w' => e = .returned (.bool true) ∧ Below w.heap.size w w' := by
  obtain ⟨m, hmm⟩ : ∃ m, rs.length = m := ⟨_, rfl⟩
  have HE : Hid (Rk.Eds w w.heap.size a rs ∧ rs.length = m) := ⟨hE, hmm⟩
  rw [hmm] at hm hc ⊢
  clear hE hmm
  have hor : (decide (30 < n) = true ∧ decide (n ≤ 64) = true) ∨ decide (30 < n) = false ∨ (decide (30 < n) = true ∧ decide (n ≤ 64) = false) := by
    cases h1 : decide (30 < n)
    · exact .inr (.inl rfl)
    · cases h2 : decide (n ≤ 64)
      · exact .inr (.inr ⟨rfl, rfl⟩)
      · exact .inl ⟨rfl, rfl⟩
  rcases hor with ⟨d1, d2⟩ | hor
  · go_enter Try.func7, Try.ntmps7
    go_wp2_with fail
    refine (Try.three_any _).mono ?_
    rintro e W1 ⟨rfl, hb⟩
    go_wp2
    go_ret
    exact ⟨rfl, hb⟩
  · by_cases h0 : m < 1
    · have d3 : decide ((m : Int) < 1) = true := decide_eq_true (by omega)
      have hm0 : m = 0 := by omega
      subst hm0
      rcases hor with d1 | ⟨d1, d2⟩
      all_goals
        go_enter Try.func7, Try.ntmps7
        go_wp2_with fail
        refine (Try.three_any _).mono ?_
        rintro e W1 ⟨rfl, hb⟩
        go_wp2
        go_ret
        exact ⟨rfl, hb⟩
    · have d3 : decide ((m : Int) < 1) = false := decide_eq_false (by omega)
      have d3' : decide (m < 1) = false := decide_eq_false (by omega)
      have d3'' : ¬ m = 0 := by omega
      by_cases h4 : 256 < m
      · have d4 : decide ((256 : Int) < m) = true := decide_eq_true (by omega)
        have d4' : decide (256 < m) = true := decide_eq_true h4
        rcases hor with d1 | ⟨d1, d2⟩
        all_goals
          go_enter Try.func7, Try.ntmps7
          go_wp2_with fail
          refine (Try.three_any _).mono ?_
          rintro e W1 ⟨rfl, hb⟩
          go_wp2
          go_ret
          exact ⟨rfl, hb⟩
      · have d4 : decide ((256 : Int) < m) = false := decide_eq_false (by omega)
        have d4' : decide (256 < m) = false := decide_eq_false h4
        obtain ⟨g, off, rfl⟩ : ∃ g off, a = some ⟨g, off, none⟩ := by
          obtain ⟨g, off, h, _⟩ := HE.out.1 0 (by rw [HE.out.2]; omega)
          exact ⟨g, off, h⟩
        obtain ⟨⟨L1, e1⟩, hR1⟩ : ∃ R, Rk.meetsR n rs.tail f = R := ⟨_, rfl⟩
        obtain ⟨⟨L2, e2⟩, hR2⟩ : ∃ R, Rk.meetsR n rs f = R := ⟨_, rfl⟩
        have hL1 : L1.length ≤ 64 := by have := Rk.meetsR_small n rs.tail f; rw [hR1] at this; exact this
        have hL2 : L2.length ≤ 64 := by have := Rk.meetsR_small n rs f; rw [hR2] at this; exact this
        have HR : Hid ((e2 ≠ 0 → L2 = []) ∧ (e2 = 0 → e1 = 0 ∧ L1.Sublist L2)) := by
          refine ⟨fun h => ?_, fun h => ?_⟩
          · have := Rk.meets_nil (n := n) (rs := rs) (f := f) (by rw [hR2]; exact h)
            rwa [hR2] at this
          · have := Rk.meets_grow (n := n) (rs := rs) (f := f) (by rw [hR2]; exact h)
            rwa [hR1, hR2] at this
        have HM2 : Hid (Rk.meetsR n rs f = (L2, e2)) := hR2
        have htl : rs.tail.length = m - 1 := by rw [List.length_tail, HE.out.2]
        have HS : Hid (Starts n f (.slice (some ⟨g, off + 2, none⟩) (m - 1) (c - 1)) L1 e1 w ∧ (m - 1 = 0 → Starts n f (.slice (some ⟨g, off, none⟩) 0 0) L1 e1 w)) := by
          refine ⟨?_, fun hz => ?_⟩
          · have := Try.meets_all n f (some ⟨g, off + 2, none⟩) (c - 1) rs.tail w (eds_tail HE.out.1) (by omega)
            rw [hR1, htl] at this
            exact this
          · have ht : rs.tail = [] := List.eq_nil_of_length_eq_zero (by rw [htl]; exact hz)
            have := Try.meets_all n f (some ⟨g, off, none⟩) 0 rs.tail w (by rw [ht]; intro j hj; simp at hj) (by omega)
            rw [hR1, ht] at this
            exact this
        have hcs : c = 1 ∨ ¬ c = 1 := Decidable.em _
        have H2 : Hid (∀ W, Below w.heap.size w W → Calls Try.prog 10 #[.int .i64 n, .slice (some ⟨g, off, none⟩) m c, .int .i64 f] W (Rk.Gives (L2, e2) W)) := fun W hb => by
          have := Try.meets_all n f (some ⟨g, off, none⟩) c rs W ((HE.out.1.below hb).wider hb.size) (by rw [HE.out.2]; omega)
          rw [HM2.out, HE.out.2] at this
          exact this
        clear hR1 hR2 htl HM2 HE h0 h4 hm
        rcases hcs with rfl | hc1
        · obtain rfl : m = 1 := by omega
          have H1 : Hid _ := HS.out.2 rfl
          unfold Starts at H1
          clear HS
          rcases hor with d1 | ⟨d1, d2⟩
          all_goals
            go_enter Try.func7, Try.ntmps7
            go_wp2_with fail
            refine Calls.mono H1.out ?_
            rintro e W1 ⟨v1, rfl, o1, hb1⟩
            obtain ⟨a1, c1, rfl⟩ := Rk.own_shape o1
            have S1 : Hid (Below w.heap.size w W1 ∧ W1.ownsRow 0 3 1 (.slice a1 L1.length c1) L1.length (Rk.nums L1)) := ⟨hb1, Rk.own_wider o1 (Nat.zero_le _)⟩
            have H3 : Hid _ := H2.out W1 hb1
            clear hb1 o1 H1 H2
            go_wp2_with fail
            refine Calls.mono H3.out ?_
            rintro e W2 ⟨v2, rfl, o2, hb2⟩
            obtain ⟨a2, c2, rfl⟩ := Rk.own_shape o2
            have S2 : Hid (Below w.heap.size w W2 ∧ Rk.Nums W2 W2.heap.size a1 L1 ∧ Rk.Nums W2 W2.heap.size a2 L2) := ⟨S1.out.1.trans (hb2.mono S1.out.1.size), Rk.nums_of_own (Rk.own_below S1.out.2 hb2), Rk.nums_of_own o2⟩
            clear hb2 o2 H3 S1
            by_cases hz : e2 = 0
            · obtain ⟨hz1, hsub⟩ := HR.out.2 hz
              subst hz hz1
              have HL : Hid (L1.Sublist L2) := hsub
              clear hsub HR
              obtain ⟨k1, hk1⟩ : ∃ k, L1.length = k := ⟨_, rfl⟩
              obtain ⟨k2, hk2⟩ : ∃ k, L2.length = k := ⟨_, rfl⟩
              have HK : Hid (L1.length = k1 ∧ L2.length = k2) := ⟨hk1, hk2⟩
              rw [hk1] at hL1
              rw [hk2] at hL2
              simp only [hk1, hk2]
              clear hk1 hk2
              go_wp2
              go_loopg [11, 56] k2 (fun gk s11 s56 wr => ∃ k j : Nat, gk + k = k2 ∧ s56 = .int .i64 k ∧ s11 = .int .i64 j ∧ j ≤ k1 ∧ Hid ((L1.drop j).Sublist (L2.drop k) ∧ Below W2.heap.size W2 wr))
              case atStart => exact ⟨0, 0, by omega, rfl, rfl, by omega, by simpa using HL.out, Below.refl _ _⟩
              case round =>
                obtain ⟨k, j, hk, rfl, rfl, hj, HI⟩ := hrel
                by_cases hlt : k < k2
                · have hd : decide ((k : Int) < k2) = true := decide_eq_true (by omega)
                  have hkl : k < L2.length := by rw [HK.out.2]; exact hlt
                  obtain ⟨g2, o2, rfl, hg2, q2⟩ := S2.out.2.2 k hkl
                  rw [← HI.out.2.cell (p := ⟨g2, o2 + k, none⟩) hg2] at q2
                  obtain ⟨x, hx⟩ : ∃ x, L2[k] = x := ⟨_, rfl⟩
                  rw [hx] at q2
                  have hlt' : (k : Int) < k2 := by omega
                  have hS := HI.out.1
                  rw [Rk.drop_at L2 k hkl, hx] at hS
                  clear hx
                  by_cases hj1 : j < k1
                  · have hdj : decide ((j : Int) < k1) = true := decide_eq_true (by omega)
                    have hdj' : decide (j < k1) = true := decide_eq_true hj1
                    have hj' : (j : Int) < k1 := by omega
                    have hjl : j < L1.length := by rw [HK.out.1]; exact hj1
                    obtain ⟨g1, o1, rfl, hg1, q1⟩ := S2.out.2.1 j hjl
                    rw [← HI.out.2.cell (p := ⟨g1, o1 + j, none⟩) hg1] at q1
                    obtain ⟨y, hy⟩ : ∃ x, L1[j] = x := ⟨_, rfl⟩
                    rw [hy] at q1
                    rw [Rk.drop_at L1 j hjl, hy] at hS
                    by_cases hxy : y = x
                    · subst hxy
                      have HN : Hid ((L1.drop (j + 1)).Sublist (L2.drop (k + 1))) := List.cons_sublist_cons.1 hS
                      clear hS hy
                      go_wp2
                      go_roundg (gk - 1)
                      case measure => omega
                      case rel => exact ⟨k + 1, j + 1, by omega, by go_num, by go_num, by omega, HN.out, HI.out.2⟩
                    · have hxy' : ((y : Int) == (x : Int)) = false := by simp; omega
                      have HN : Hid ((L1.drop j).Sublist (L2.drop (k + 1))) := by
                        rw [Rk.drop_at L1 j hjl, hy]
                        rcases List.sublist_cons_iff.1 hS with h | ⟨r, h, _⟩
                        · exact h
                        · exact absurd (List.cons.inj h).1 hxy
                      clear hS hy hxy
                      go_wp2
                      go_roundg (gk - 1)
                      case measure => omega
                      case rel => exact ⟨k + 1, j, by omega, by go_num, by go_num, by omega, HN.out, HI.out.2⟩
                  · have hdj : decide ((j : Int) < k1) = false := decide_eq_false (by omega)
                    have hdj' : decide (j < k1) = false := decide_eq_false hj1
                    have HN : Hid ((L1.drop j).Sublist (L2.drop (k + 1))) := by
                      rw [List.drop_eq_nil_of_le (by rw [HK.out.1]; omega)]
                      exact List.nil_sublist _
                    clear hS
                    go_wp2
                    go_roundg (gk - 1)
                    case measure => omega
                    case rel => exact ⟨k + 1, j, by omega, by go_num, by go_num, by omega, HN.out, HI.out.2⟩
                · have hd : decide ((k : Int) < k2) = false := decide_eq_false (by omega)
                  obtain rfl : j = k1 := by
                    have hS := HI.out.1
                    have hnil : L2.drop k = [] := List.drop_eq_nil_of_le (by rw [HK.out.2]; omega)
                    rw [hnil, List.sublist_nil, List.drop_eq_nil_iff, HK.out.1] at hS
                    omega
                  have B5 : Hid (Below w.heap.size w wr) := S2.out.1.trans (HI.out.2.mono S2.out.1.size)
                  clear S2 HI HL
                  go_wp2_with fail
                  refine (Try.three_any _).mono ?_
                  rintro e W5 ⟨rfl, hb5⟩
                  go_wp2
                  go_ret
                  exact ⟨rfl, B5.out.trans (hb5.mono B5.out.size)⟩
            · have hd : (e2 == 0) = false := by simpa using hz
              obtain rfl : L2 = [] := HR.out.1 hz
              clear hz HR
              go_wp2_with fail
              refine (Try.three_any _).mono ?_
              rintro e W5 ⟨rfl, hb5⟩
              go_wp2
              go_ret
              exact ⟨rfl, S2.out.1.trans (hb5.mono S2.out.1.size)⟩
        · have H1 : Hid _ := HS.out.1
          unfold Starts at H1
          clear HS
          rcases hor with d1 | ⟨d1, d2⟩
          all_goals
            go_enter Try.func7, Try.ntmps7
            go_wp2_with fail
            refine Calls.mono H1.out ?_
            rintro e W1 ⟨v1, rfl, o1, hb1⟩
            obtain ⟨a1, c1, rfl⟩ := Rk.own_shape o1
            have S1 : Hid (Below w.heap.size w W1 ∧ W1.ownsRow 0 3 1 (.slice a1 L1.length c1) L1.length (Rk.nums L1)) := ⟨hb1, Rk.own_wider o1 (Nat.zero_le _)⟩
            have H3 : Hid _ := H2.out W1 hb1
            clear hb1 o1 H1 H2
            go_wp2_with fail
            refine Calls.mono H3.out ?_
            rintro e W2 ⟨v2, rfl, o2, hb2⟩
            obtain ⟨a2, c2, rfl⟩ := Rk.own_shape o2
            have S2 : Hid (Below w.heap.size w W2 ∧ Rk.Nums W2 W2.heap.size a1 L1 ∧ Rk.Nums W2 W2.heap.size a2 L2) := ⟨S1.out.1.trans (hb2.mono S1.out.1.size), Rk.nums_of_own (Rk.own_below S1.out.2 hb2), Rk.nums_of_own o2⟩
            clear hb2 o2 H3 S1
            by_cases hz : e2 = 0
            · obtain ⟨hz1, hsub⟩ := HR.out.2 hz
              subst hz hz1
              have HL : Hid (L1.Sublist L2) := hsub
              clear hsub HR
              obtain ⟨k1, hk1⟩ : ∃ k, L1.length = k := ⟨_, rfl⟩
              obtain ⟨k2, hk2⟩ : ∃ k, L2.length = k := ⟨_, rfl⟩
              have HK : Hid (L1.length = k1 ∧ L2.length = k2) := ⟨hk1, hk2⟩
              rw [hk1] at hL1
              rw [hk2] at hL2
              simp only [hk1, hk2]
              clear hk1 hk2
              go_wp2
              go_loopg [11, 56] k2 (fun gk s11 s56 wr => ∃ k j : Nat, gk + k = k2 ∧ s56 = .int .i64 k ∧ s11 = .int .i64 j ∧ j ≤ k1 ∧ Hid ((L1.drop j).Sublist (L2.drop k) ∧ Below W2.heap.size W2 wr))
              case atStart => exact ⟨0, 0, by omega, rfl, rfl, by omega, by simpa using HL.out, Below.refl _ _⟩
              case round =>
                obtain ⟨k, j, hk, rfl, rfl, hj, HI⟩ := hrel
                by_cases hlt : k < k2
                · have hd : decide ((k : Int) < k2) = true := decide_eq_true (by omega)
                  have hkl : k < L2.length := by rw [HK.out.2]; exact hlt
                  obtain ⟨g2, o2, rfl, hg2, q2⟩ := S2.out.2.2 k hkl
                  rw [← HI.out.2.cell (p := ⟨g2, o2 + k, none⟩) hg2] at q2
                  obtain ⟨x, hx⟩ : ∃ x, L2[k] = x := ⟨_, rfl⟩
                  rw [hx] at q2
                  have hlt' : (k : Int) < k2 := by omega
                  have hS := HI.out.1
                  rw [Rk.drop_at L2 k hkl, hx] at hS
                  clear hx
                  by_cases hj1 : j < k1
                  · have hdj : decide ((j : Int) < k1) = true := decide_eq_true (by omega)
                    have hdj' : decide (j < k1) = true := decide_eq_true hj1
                    have hj' : (j : Int) < k1 := by omega
                    have hjl : j < L1.length := by rw [HK.out.1]; exact hj1
                    obtain ⟨g1, o1, rfl, hg1, q1⟩ := S2.out.2.1 j hjl
                    rw [← HI.out.2.cell (p := ⟨g1, o1 + j, none⟩) hg1] at q1
                    obtain ⟨y, hy⟩ : ∃ x, L1[j] = x := ⟨_, rfl⟩
                    rw [hy] at q1
                    rw [Rk.drop_at L1 j hjl, hy] at hS
                    by_cases hxy : y = x
                    · subst hxy
                      have HN : Hid ((L1.drop (j + 1)).Sublist (L2.drop (k + 1))) := List.cons_sublist_cons.1 hS
                      clear hS hy
                      go_wp2
                      go_roundg (gk - 1)
                      case measure => omega
                      case rel => exact ⟨k + 1, j + 1, by omega, by go_num, by go_num, by omega, HN.out, HI.out.2⟩
                    · have hxy' : ((y : Int) == (x : Int)) = false := by simp; omega
                      have HN : Hid ((L1.drop j).Sublist (L2.drop (k + 1))) := by
                        rw [Rk.drop_at L1 j hjl, hy]
                        rcases List.sublist_cons_iff.1 hS with h | ⟨r, h, _⟩
                        · exact h
                        · exact absurd (List.cons.inj h).1 hxy
                      clear hS hy hxy
                      go_wp2
                      go_roundg (gk - 1)
                      case measure => omega
                      case rel => exact ⟨k + 1, j, by omega, by go_num, by go_num, by omega, HN.out, HI.out.2⟩
                  · have hdj : decide ((j : Int) < k1) = false := decide_eq_false (by omega)
                    have hdj' : decide (j < k1) = false := decide_eq_false hj1
                    have HN : Hid ((L1.drop j).Sublist (L2.drop (k + 1))) := by
                      rw [List.drop_eq_nil_of_le (by rw [HK.out.1]; omega)]
                      exact List.nil_sublist _
                    clear hS
                    go_wp2
                    go_roundg (gk - 1)
                    case measure => omega
                    case rel => exact ⟨k + 1, j, by omega, by go_num, by go_num, by omega, HN.out, HI.out.2⟩
                · have hd : decide ((k : Int) < k2) = false := decide_eq_false (by omega)
                  obtain rfl : j = k1 := by
                    have hS := HI.out.1
                    have hnil : L2.drop k = [] := List.drop_eq_nil_of_le (by rw [HK.out.2]; omega)
                    rw [hnil, List.sublist_nil, List.drop_eq_nil_iff, HK.out.1] at hS
                    omega
                  have B5 : Hid (Below w.heap.size w wr) := S2.out.1.trans (HI.out.2.mono S2.out.1.size)
                  clear S2 HI HL
                  go_wp2_with fail
                  refine (Try.three_any _).mono ?_
                  rintro e W5 ⟨rfl, hb5⟩
                  go_wp2
                  go_ret
                  exact ⟨rfl, B5.out.trans (hb5.mono B5.out.size)⟩
            · have hd : (e2 == 0) = false := by simpa using hz
              obtain rfl : L2 = [] := HR.out.1 hz
              clear hz HR
              go_wp2_with fail
              refine (Try.three_any _).mono ?_
              rintro e W5 ⟨rfl, hb5⟩
              go_wp2
              go_ret
              exact ⟨rfl, S2.out.1.trans (hb5.mono S2.out.1.size)⟩

end Go.Proofs.Ytkbenpgmadnkcaa.RankGrows
