/-
  The walk of RankOrders.
-/
import Derived.Test.YtkbenpgmadnkcaaRkAll
namespace Go.Proofs.Ytkbenpgmadnkcaa.RankOrders
open Go.RowKit Go.Shelf

set_option maxHeartbeats 8000000 in
theorem walk (n : Int) (a : Option Addr) (c : Nat) (rs : List (Int × Int)) (w : World) (hE : Rk.Eds w w.heap.size a rs) (hm : rs.length ≤ 1000000000000000) :
    Calls Try.prog 4 #[.int .i64 n, .slice a rs.length c] w fun e w' => e = .returned (.bool true) ∧ Below w.heap.size w w' := by
  obtain ⟨m, hmm⟩ : ∃ m, rs.length = m := ⟨_, rfl⟩
  have HE : Hid (Rk.Eds w w.heap.size a rs ∧ rs.length = m) := ⟨hE, hmm⟩
  rw [hmm] at hm ⊢
  clear hE hmm
  by_cases hbig : (24 < n ∧ n ≤ 64) ∨ 300 < m
  · rcases Decidable.em (24 < n ∧ n ≤ 64) with h | h
    · have d1 : decide (24 < n) = true := decide_eq_true h.1
      have d2 : decide (n ≤ 64) = true := decide_eq_true h.2
      clear h hbig
      go_enter Try.func4, Try.ntmps4
      go_wp2_with fail
      refine (Try.three_any _).mono ?_
      rintro e W1 ⟨rfl, hb⟩
      go_wp2
      go_ret
      exact ⟨rfl, hb⟩
    · have h3 : 300 < m := by omega
      have d3 : decide ((300 : Int) < m) = true := decide_eq_true (by omega)
      have d3' : decide (300 < m) = true := decide_eq_true h3
      clear hbig
      cases d1 : decide (24 < n)
      · clear h
        go_enter Try.func4, Try.ntmps4
        go_wp2_with fail
        refine (Try.three_any _).mono ?_
        rintro e W1 ⟨rfl, hb⟩
        go_wp2
        go_ret
        exact ⟨rfl, hb⟩
      · have d2 : decide (n ≤ 64) = false := decide_eq_false (fun h2 => h ⟨of_decide_eq_true d1, h2⟩)
        clear h
        go_enter Try.func4, Try.ntmps4
        go_wp2_with fail
        refine (Try.three_any _).mono ?_
        rintro e W1 ⟨rfl, hb⟩
        go_wp2
        go_ret
        exact ⟨rfl, hb⟩
  · have hm3 : m ≤ 300 := by omega
    have d3 : decide ((300 : Int) < m) = false := decide_eq_false (by omega)
    have d3' : decide (300 < m) = false := decide_eq_false (by omega)
    have hor : decide (24 < n) = false ∨ (decide (24 < n) = true ∧ decide (n ≤ 64) = false) := by
      rcases Decidable.em (24 < n) with h | h
      · exact .inr ⟨decide_eq_true h, decide_eq_false (by omega)⟩
      · exact .inl (decide_eq_false h)
    have H1 : Hid _ := Try.order_all n a c rs w HE.out.1 (by rw [HE.out.2]; omega)
    obtain ⟨⟨L, err⟩, hR⟩ : ∃ R, Rk.ordR n rs = R := ⟨_, rfl⟩
    have hLs : L.length ≤ 1000000 := by have := Rk.ordR_small n rs; rw [hR] at this; exact Nat.le_trans this (by decide)
    have HR : Hid (Rk.ordR n rs = (L, err)) := hR
    rw [hR, HE.out.2] at H1
    clear hbig hR
    rcases hor with d1 | ⟨d1, d2⟩
    all_goals
      go_enter Try.func4, Try.ntmps4
      go_wp2_with fail
      refine Calls.mono H1.out ?_
      rintro e W1 ⟨v1, rfl, own1, hb1⟩
      obtain ⟨a1, c1, rfl⟩ := Rk.own_shape own1
      have HB1 : Hid (Below w.heap.size w W1 ∧ W1.ownsRow w.heap.size 3 1 (.slice a1 L.length c1) L.length (Rk.nums L)) := ⟨hb1, own1⟩
      have H2 : Hid _ := Try.refs_any a c rs W1 ((HE.out.1.below hb1).wider hb1.size) (by rw [HE.out.2]; omega)
      rw [HE.out.2] at H2
      clear hb1 own1 H1
      go_wp2_with fail
      refine Calls.mono H2.out ?_
      rintro e W2 ⟨⟨a2, c2, rfl, e2⟩, hb2⟩
      have HB2 : Hid (Below w.heap.size w W2 ∧ W2.ownsRow w.heap.size 3 1 (.slice a1 L.length c1) L.length (Rk.nums L)) := ⟨HB1.out.1.trans (hb2.mono HB1.out.1.size), Rk.own_below HB1.out.2 hb2⟩
      have H3 : Hid _ := Try.rorder_all n a2 c2 rs W2 e2 (by rw [HE.out.2]; omega)
      rw [HR.out, HE.out.2] at H3
      clear hb2 e2 H2 HB1
      go_wp2_with fail
      refine Calls.mono H3.out ?_
      rintro e W3 ⟨v3, rfl, own3, hb3⟩
      obtain ⟨a3, c3, rfl⟩ := Rk.own_shape own3
      have HB3 : Hid (Below w.heap.size w W3) := HB2.out.1.trans (hb3.mono HB2.out.1.size)
      have H4 : Hid _ := Try.ints_same a1 a3 c1 c3 L W3 (Rk.nums_of_own (Rk.own_below HB2.out.2 hb3)) (Rk.nums_of_own own3) hLs
      clear hb3 own3 H3 HB2
      go_wp2_with fail
      refine Calls.mono H4.out ?_
      rintro e W4 ⟨rfl, hb4⟩
      have HB4 : Hid (Below w.heap.size w W4) := HB3.out.trans (hb4.mono HB3.out.size)
      clear hb4 H4 HB3
      go_wp2_with fail
      refine (Try.three_any _).mono ?_
      rintro e W5 ⟨rfl, hb5⟩
      go_wp2
      go_ret
      exact ⟨rfl, HB4.out.trans (hb5.mono HB4.out.size)⟩

end Go.Proofs.Ytkbenpgmadnkcaa.RankOrders
