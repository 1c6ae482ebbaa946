/-
  The contracts of the document's Check and Leads.
-/
import Derived.Test.YtkbenpgmadnkcaaRkBetween
namespace Go.Proofs
open Go.RowKit Go.Shelf

theorem Rk.outB_eq (n x y : Int) : Rk.outB n (x, y) = (decide (x < 0) || decide (n ≤ x) || decide (y < 0) || decide (n ≤ y)) := by
  rw [Bool.eq_iff_iff]
  simp only [Rk.outB, Rk.inB, Bool.or_eq_true, Bool.not_eq_true', Bool.and_eq_false_iff, decide_eq_true_eq, decide_eq_false_iff_not]
  omega

set_option maxHeartbeats 4000000 in
theorem Try.rcheck_any (n : Int) (a : Option Addr) (c : Nat) (rs : List (Int × Int)) (w : World) (hE : Rk.Eds w w.heap.size a rs) (hn : rs.length ≤ 1000000000000000) :
    Calls Try.prog 16 #[.int .i64 n, .slice a rs.length c] w fun e w' => e = .returned (.int .i64 (Rk.chk n rs)) ∧ Below w.heap.size w w' := by
  obtain ⟨m, hm⟩ : ∃ m, rs.length = m := ⟨_, rfl⟩
  have HE : Hid (Rk.Eds w w.heap.size a rs ∧ rs.length = m) := ⟨hE, hm⟩
  rw [hm] at hn ⊢
  obtain ⟨r, hr⟩ : ∃ r, Rk.chk n rs = r := ⟨_, rfl⟩
  have HR : Hid ((if n < 0 ∨ 64 < n then 1 else if 256 < m then 2 else if rs.any (Rk.outB n) = true then 4 else 0) = r) := by show _ = r; rw [← hr, ← hm]; rfl
  rw [hr]
  clear hE hr hm
  by_cases h1 : n < 0
  · have d1 : decide (n < 0) = true := decide_eq_true h1
    have hr : r = 1 := by rw [← HR.out, if_pos (.inl h1)]
    subst hr
    clear h1
    go_enter Try.func16, Try.ntmps16
    go_wp2
    go_ret
    exact ⟨rfl, Below.refl _ _⟩
  · have d1 : decide (n < 0) = false := decide_eq_false h1
    by_cases h2 : 64 < n
    · have d2 : decide (64 < n) = true := decide_eq_true h2
      have hr : r = 1 := by rw [← HR.out, if_pos (.inr h2)]
      subst hr
      clear h1 h2
      go_enter Try.func16, Try.ntmps16
      go_wp2
      go_ret
      exact ⟨rfl, Below.refl _ _⟩
    · have d2 : decide (64 < n) = false := decide_eq_false h2
      by_cases h3 : 256 < m
      · have hr : r = 2 := by rw [← HR.out, if_neg (show ¬ (n < 0 ∨ 64 < n) by omega), if_pos h3]
        subst hr
        have d3 : decide ((256 : Int) < m) = true := decide_eq_true (by omega)
        clear h1 h2
        go_enter Try.func16, Try.ntmps16
        go_wp2
        go_ret
        exact ⟨rfl, Below.refl _ _⟩
      · have d3 : decide ((256 : Int) < m) = false := decide_eq_false (by omega)
        have HR' : Hid ((if rs.any (Rk.outB n) = true then 4 else 0) = r) := by show _ = r; rw [← HR.out, if_neg (show ¬ (n < 0 ∨ 64 < n) by omega), if_neg h3]
        clear HR h1 h2
        go_enter Try.func16, Try.ntmps16
        go_wp2
        go_loopg [18] m (fun gk s18 wr => ∃ k : Nat, gk + k = m ∧ s18 = .int .i64 k ∧ Hid ((rs.take k).any (Rk.outB n) = false ∧ Below w.heap.size w wr))
        case atStart => exact ⟨0, by omega, rfl, by simp, Below.refl _ _⟩
        case round =>
          obtain ⟨k, hk, rfl, HB⟩ := hrel
          by_cases hlt : k < m
          · have hd : decide ((k : Int) < m) = true := decide_eq_true (by omega)
            have hkl : k < rs.length := by rw [HE.out.2]; exact hlt
            obtain ⟨q, off, rfl, hq, h0, h1⟩ := HE.out.1 k hkl
            obtain ⟨e, he⟩ : ∃ x, rs[k] = x := ⟨_, rfl⟩
            obtain ⟨x, y⟩ := e
            rw [he] at h0 h1
            have hc0 : wr.cell? ⟨q, off + k * 2, none⟩ = some (.int .i64 x) := by rw [HB.out.2.cell (p := ⟨q, off + k * 2, none⟩) hq]; exact h0
            have hc1 : wr.cell? ⟨q, off + k * 2 + 1, none⟩ = some (.int .i64 y) := by rw [HB.out.2.cell (p := ⟨q, off + k * 2 + 1, none⟩) hq]; exact h1
            have HX : Hid (rs[k] = (x, y)) := he
            have hqz : q < wr.heap.size := by have := HB.out.2.size; omega
            have hu := Try.underlying46
            have HA : Hid (Below w.heap.size w (wr.alloc (.cells #[.int .i64 x, .int .i64 y] 46))) := HB.out.2.alloc HB.out.2.size _
            have Hyes : Hid (Rk.outB n (x, y) = true → r = 4) := fun h => by
              rw [← HR'.out, if_pos (List.any_eq_true.2 ⟨rs[k], List.getElem_mem hkl, by rw [HX.out]; exact h⟩)]
            have Hno : Hid (Rk.outB n (x, y) = false → (rs.take (k + 1)).any (Rk.outB n) = false) := fun h => by
              rw [Tm.take_snoc _ _ hkl, List.any_append, HB.out.1, HX.out]
              simp [h]
            have HO : Hid _ := Rk.outB_eq n x y
            clear h0 h1 he
            cases e0 : decide (x < 0)
            · cases e1 : decide (n ≤ x)
              · cases e2 : decide (y < 0)
                · cases e3 : decide (n ≤ y)
                  · have H4 : Hid (Rk.outB n (x, y) = false) := by show _ = _; rw [HO.out, e0, e1, e2, e3]; rfl
                    go_wp2
                    go_roundg (gk - 1)
                    case measure => omega
                    case rel => exact ⟨k + 1, by omega, by go_num, Hno.out H4.out, HA.out⟩
                  · obtain rfl : r = 4 := Hyes.out (by rw [HO.out, e0, e1, e2, e3]; rfl)
                    go_wp2
                    go_ret
                    exact ⟨rfl, HA.out⟩
                · obtain rfl : r = 4 := Hyes.out (by rw [HO.out, e0, e1, e2]; rfl)
                  go_wp2
                  go_ret
                  exact ⟨rfl, HA.out⟩
              · obtain rfl : r = 4 := Hyes.out (by rw [HO.out, e0, e1]; rfl)
                go_wp2
                go_ret
                exact ⟨rfl, HA.out⟩
            · obtain rfl : r = 4 := Hyes.out (by rw [HO.out, e0]; rfl)
              go_wp2
              go_ret
              exact ⟨rfl, HA.out⟩
          · have hd : decide ((k : Int) < m) = false := decide_eq_false (by omega)
            have hr : r = 0 := by
              rw [← HR'.out]
              have := HB.out.1
              rw [List.take_of_length_le (by rw [HE.out.2]; omega)] at this
              rw [this]
              rfl
            subst hr
            go_wp2
            go_ret
            exact ⟨rfl, HB.out.2⟩

end Go.Proofs
