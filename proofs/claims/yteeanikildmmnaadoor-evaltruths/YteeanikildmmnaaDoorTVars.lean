/-
  The contracts of Fits and Set, of the program and of the document's answer.
-/
import Derived.Test.YteeanikildmmnaaDoorTSmall
namespace Go.Proofs
open Go.RowKit

def Tk.fitsB (x0 x1 x2 x3 : Int) : Bool := Tk.isNum x0 && Tk.isNum x1 && Tk.isNum x2 && Tk.isNum x3

set_option maxHeartbeats 1600000 in
theorem Tryd.fits_any (x0 x1 x2 x3 : Int) (w : World) :
    Calls Tryd.prog 16 #[.agg #[.int .i64 x0, .int .i64 x1, .int .i64 x2, .int .i64 x3]] w fun e w' => e = .returned (.bool (Tk.fitsB x0 x1 x2 x3)) ∧ Below w.heap.size w w' := by
  have i0 : ∀ w, (Instr.index 25 (.agg #[.int .i64 x0, .int .i64 x1, .int .i64 x2, .int .i64 x3]) (.int .i64 0)).run Tryd.prog w = .ok (.int .i64 x0) w := fun _ => by kernel_rfl
  have i1 : ∀ w, (Instr.index 25 (.agg #[.int .i64 x0, .int .i64 x1, .int .i64 x2, .int .i64 x3]) (.int .i64 1)).run Tryd.prog w = .ok (.int .i64 x1) w := fun _ => by kernel_rfl
  have i2 : ∀ w, (Instr.index 25 (.agg #[.int .i64 x0, .int .i64 x1, .int .i64 x2, .int .i64 x3]) (.int .i64 2)).run Tryd.prog w = .ok (.int .i64 x2) w := fun _ => by kernel_rfl
  have i3 : ∀ w, (Instr.index 25 (.agg #[.int .i64 x0, .int .i64 x1, .int .i64 x2, .int .i64 x3]) (.int .i64 3)).run Tryd.prog w = .ok (.int .i64 x3) w := fun _ => by kernel_rfl
  have B0 : Hid (Below w.heap.size w (w.alloc (.cells #[.int .i64 x0, .int .i64 x1, .int .i64 x2, .int .i64 x3] 25))) := (Below.refl _ w).alloc (Nat.le_refl _) _
  go_enter Tryd.func16, Tryd.ntmps16
  go_wp2
  refine wp_loop_rounds 5 ?_
  rw [rounds_succ]
  go_wp2_with fail
  refine (Tryd.isNumber_any x0 _).mono ?_
  rintro e W ⟨rfl, rfl⟩
  cases h0 : Tk.isNum x0
  · go_wp2
    go_ret
    exact ⟨Tk.ret_bool (by simp [Tk.fitsB, h0]), B0.out⟩
  · have H0 : Hid (Tk.isNum x0 = true) := h0
    clear h0
    go_wp2
    rw [rounds_succ]
    go_wp2_with fail
    refine (Tryd.isNumber_any x1 _).mono ?_
    rintro e W ⟨rfl, rfl⟩
    cases h1 : Tk.isNum x1
    · go_wp2
      go_ret
      exact ⟨Tk.ret_bool (by simp [Tk.fitsB, h1]), B0.out⟩
    · have H1 : Hid (Tk.isNum x1 = true) := h1
      clear h1
      go_wp2
      rw [rounds_succ]
      go_wp2_with fail
      refine (Tryd.isNumber_any x2 _).mono ?_
      rintro e W ⟨rfl, rfl⟩
      cases h2 : Tk.isNum x2
      · go_wp2
        go_ret
        exact ⟨Tk.ret_bool (by simp [Tk.fitsB, h2]), B0.out⟩
      · have H2 : Hid (Tk.isNum x2 = true) := h2
        clear h2
        go_wp2
        rw [rounds_succ]
        go_wp2_with fail
        refine (Tryd.isNumber_any x3 _).mono ?_
        rintro e W ⟨rfl, rfl⟩
        cases h3 : Tk.isNum x3
        · go_wp2
          go_ret
          exact ⟨Tk.ret_bool (by simp [Tk.fitsB, h3]), B0.out⟩
        · have H3 : Hid (Tk.isNum x3 = true) := h3
          clear h3
          go_wp2
          rw [rounds_succ]
          go_wp2
          go_ret
          exact ⟨Tk.ret_bool (by simp [Tk.fitsB, H0.out, H1.out, H2.out, H3.out]), B0.out⟩

set_option maxHeartbeats 1600000 in
theorem Tryd.refFits_any (x0 x1 x2 x3 : Int) (w : World) :
    Calls Tryd.prog 17 #[.agg #[.int .i64 x0, .int .i64 x1, .int .i64 x2, .int .i64 x3]] w fun e w' => e = .returned (.bool (Tk.fitsB x0 x1 x2 x3)) ∧ Below w.heap.size w w' := by
  have B0 : Hid (Below w.heap.size w (w.alloc (.cells #[.int .i64 x0, .int .i64 x1, .int .i64 x2, .int .i64 x3] 25))) := (Below.refl _ w).alloc (Nat.le_refl _) _
  go_enter Tryd.func17, Tryd.ntmps17
  go_wp2
  refine wp_loop_rounds 5 ?_
  rw [rounds_succ]
  cases h0 : Tk.isNum x0
  · obtain ha | ⟨hb, ha⟩ : decide (x0 < -1099511627776) = true ∨ (decide (x0 < -1099511627776) = false ∧ decide (1099511627776 < x0) = true) := by simp [Tk.isNum] at h0 ⊢; omega
    all_goals
      go_wp2
      go_ret
      exact ⟨Tk.ret_bool (by simp [Tk.fitsB, h0]), B0.out⟩
  · have p0 : decide (x0 < -1099511627776) = false := by simp [Tk.isNum] at h0 ⊢; omega
    have q0 : decide (1099511627776 < x0) = false := by simp [Tk.isNum] at h0 ⊢; omega
    have H0 : Hid (Tk.isNum x0 = true) := h0
    clear h0
    go_wp2
    rw [rounds_succ]
    cases h1 : Tk.isNum x1
    · obtain ha | ⟨hb, ha⟩ : decide (x1 < -1099511627776) = true ∨ (decide (x1 < -1099511627776) = false ∧ decide (1099511627776 < x1) = true) := by simp [Tk.isNum] at h1 ⊢; omega
      all_goals
        go_wp2
        go_ret
        exact ⟨Tk.ret_bool (by simp [Tk.fitsB, h1]), B0.out⟩
    · have p1 : decide (x1 < -1099511627776) = false := by simp [Tk.isNum] at h1 ⊢; omega
      have q1 : decide (1099511627776 < x1) = false := by simp [Tk.isNum] at h1 ⊢; omega
      have H1 : Hid (Tk.isNum x1 = true) := h1
      clear h1
      go_wp2
      rw [rounds_succ]
      cases h2 : Tk.isNum x2
      · obtain ha | ⟨hb, ha⟩ : decide (x2 < -1099511627776) = true ∨ (decide (x2 < -1099511627776) = false ∧ decide (1099511627776 < x2) = true) := by simp [Tk.isNum] at h2 ⊢; omega
        all_goals
          go_wp2
          go_ret
          exact ⟨Tk.ret_bool (by simp [Tk.fitsB, h2]), B0.out⟩
      · have p2 : decide (x2 < -1099511627776) = false := by simp [Tk.isNum] at h2 ⊢; omega
        have q2 : decide (1099511627776 < x2) = false := by simp [Tk.isNum] at h2 ⊢; omega
        have H2 : Hid (Tk.isNum x2 = true) := h2
        clear h2
        go_wp2
        rw [rounds_succ]
        cases h3 : Tk.isNum x3
        · obtain ha | ⟨hb, ha⟩ : decide (x3 < -1099511627776) = true ∨ (decide (x3 < -1099511627776) = false ∧ decide (1099511627776 < x3) = true) := by simp [Tk.isNum] at h3 ⊢; omega
          all_goals
            go_wp2
            go_ret
            exact ⟨Tk.ret_bool (by simp [Tk.fitsB, h3]), B0.out⟩
        · have p3 : decide (x3 < -1099511627776) = false := by simp [Tk.isNum] at h3 ⊢; omega
          have q3 : decide (1099511627776 < x3) = false := by simp [Tk.isNum] at h3 ⊢; omega
          have H3 : Hid (Tk.isNum x3 = true) := h3
          clear h3
          go_wp2
          rw [rounds_succ]
          go_wp2
          go_ret
          exact ⟨Tk.ret_bool (by simp [Tk.fitsB, H0.out, H1.out, H2.out, H3.out]), B0.out⟩

end Go.Proofs
