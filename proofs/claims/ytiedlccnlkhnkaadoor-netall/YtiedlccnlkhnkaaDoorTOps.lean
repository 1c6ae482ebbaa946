/-
  The contracts of the document's small functions on operators; returns of numbers.
-/
import Derived.Test.YtiedlccnlkhnkaaDoorTmModel
namespace Go.Proofs
open Go.RowKit

theorem Tk.ret_ii {a b c d : Int} (h : a = c) (h' : b = d) : Ending.returned (.tuple #[.int .i64 a, .int .i64 b]) = .returned (.tuple #[.int .i64 c, .int .i64 d]) := by rw [h, h']
theorem Tk.ret_int {a b : Int} (h : a = b) : Ending.returned (.int .i64 a) = .returned (.int .i64 b) := by rw [h]

set_option maxHeartbeats 400000 in
theorem Tryd.refTruth_any (op : Int) (w : World) :
    Calls Tryd.prog 86 #[.int .i64 op] w fun e w' => e = .returned (.bool (decide (op = 4 ∨ 10 ≤ op))) ∧ w' = w := by
  by_cases h1 : op = 4 <;> by_cases h2 : 10 ≤ op
  all_goals
    go_enter Tryd.func86, Tryd.ntmps86
    go_wp2
    go_ret
    exact ⟨Tk.ret_bool (by first | (rw [Bool.eq_iff_iff]; done) | (rw [Bool.eq_iff_iff]; simp; done) | (rw [Bool.eq_iff_iff]; simp; omega)), rfl⟩

set_option maxHeartbeats 400000 in
theorem Tryd.refKids_any (op : Int) (w : World) :
    Calls Tryd.prog 95 #[.int .i64 op] w fun e w' => e = .returned (.int .i64 (Tm.kidsOf op)) ∧ w' = w := by
  by_cases h1 : op < 3
  · go_enter Tryd.func95, Tryd.ntmps95
    go_wp2
    go_ret
    exact ⟨Tk.ret_int (by unfold Tm.kidsOf; (repeat' split) <;> omega), rfl⟩
  · by_cases h2 : op < 5
    all_goals
      go_enter Tryd.func95, Tryd.ntmps95
      go_wp2
      go_ret
      exact ⟨Tk.ret_int (by unfold Tm.kidsOf; (repeat' split) <;> omega), rfl⟩

end Go.Proofs
