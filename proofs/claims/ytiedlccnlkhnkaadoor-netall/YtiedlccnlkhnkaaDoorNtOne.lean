/-
  Rule 1: nodeRight, wrongNodes.
-/
import Derived.Test.YtiedlccnlkhnkaaDoorNtIns
import Derived.Test.YtiedlccnlkhnkaaDoorNtSmall
namespace Go.Proofs
open Go.RowKit Go.Shelf

set_option maxRecDepth 20000 in
set_option maxHeartbeats 4000000 in
theorem Tryd.nodeRight_plain (k a op num m : Int) (sa : Option Addr) (n cap : Nat) (zb : Bool) (w : World) (hk : (k = 1 ∧ m = 0) ∨ (k = 2 ∧ m = 0) ∨ (k = 5 ∧ m = 0) ∨ (k = 6 ∧ m = 0) ∨ (k = 7 ∧ m = 0) ∨ (k = 3 ∧ m = 3) ∨ (k = 8 ∧ m = 4))
    (hZ : ∀ W, Calls Tryd.prog 78 #[.agg #[.int .i64 op, .int .i64 num, .slice sa n cap]] W fun e w' => e = .returned (.bool zb) ∧ Below W.heap.size W w') :
    Calls Tryd.prog 57 #[.agg #[.int .i64 k, .int .i64 a, .int .i64 op, .int .i64 num, .slice sa n cap]] w fun e w' => e = .returned (.bool (decide (0 ≤ a) && decide (a ≤ m) && zb)) ∧ Below w.heap.size w w' := by
  have B0 : Hid (Below w.heap.size w (w.alloc (.cells #[.int .i64 k, .int .i64 a, .int .i64 op, .int .i64 num, .slice sa n cap] 34))) := (Below.refl _ w).alloc (Nat.le_refl _) _
  have HZ : Hid _ := hZ
  clear hZ
  rcases hk with ⟨rfl, rfl⟩ | ⟨rfl, rfl⟩ | ⟨rfl, rfl⟩ | ⟨rfl, rfl⟩ | ⟨rfl, rfl⟩ | ⟨rfl, rfl⟩ | ⟨rfl, rfl⟩
  all_goals
    rcases Int.lt_or_le a 0 with h0 | h0
    · have e0 : decide (0 ≤ a) = false := decide_eq_false (by omega)
      rw [e0]
      clear h0
      go_enter Tryd.func57, Tryd.ntmps57
      go_wp2
      go_ret
      exact ⟨Tk.ret_bool rfl, B0.out⟩
    · have e0 : decide (0 ≤ a) = true := decide_eq_true h0
      rw [e0]
      first
      | (by_cases h1 : a ≤ 0; rotate_left; exact (by
          have e1 : decide (a ≤ 0) = false := decide_eq_false h1
          rw [e1]; clear h0 h1
          go_enter Tryd.func57, Tryd.ntmps57
          go_wp2
          go_ret
          exact ⟨Tk.ret_bool rfl, B0.out⟩)
         have e1 : decide (a ≤ 0) = true := decide_eq_true h1
         rw [e1])
      | (by_cases h1 : a ≤ 3; rotate_left; exact (by
          have e1 : decide (a ≤ 3) = false := decide_eq_false h1
          rw [e1]; clear h0 h1
          go_enter Tryd.func57, Tryd.ntmps57
          go_wp2
          go_ret
          exact ⟨Tk.ret_bool rfl, B0.out⟩)
         have e1 : decide (a ≤ 3) = true := decide_eq_true h1
         rw [e1])
      | (by_cases h1 : a ≤ 4; rotate_left; exact (by
          have e1 : decide (a ≤ 4) = false := decide_eq_false h1
          rw [e1]; clear h0 h1
          go_enter Tryd.func57, Tryd.ntmps57
          go_wp2
          go_ret
          exact ⟨Tk.ret_bool rfl, B0.out⟩)
         have e1 : decide (a ≤ 4) = true := decide_eq_true h1
         rw [e1])
      clear h0 h1
      go_enter Tryd.func57, Tryd.ntmps57
      go_wp2_with fail
      refine Calls.mono (HZ.out _) ?_
      rintro e W ⟨rfl, hb⟩
      have B2 : Hid (Below w.heap.size w W) := B0.out.trans (hb.mono B0.out.size)
      clear hb HZ
      go_wp2
      go_ret
      exact ⟨Tk.ret_bool rfl, B2.out⟩

end Go.Proofs
