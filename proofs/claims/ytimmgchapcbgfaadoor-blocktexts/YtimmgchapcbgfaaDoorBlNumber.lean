/-
  number: a number's digits behind other bytes; a byte, then a number.
-/
import Derived.Test.YtimmgchapcbgfaaDoorSteps
import Derived.Test.YtimmgchapcbgfaaDoorAIShelf
import Derived.Test.YtimmgchapcbgfaaDoorBlModel
import Derived.Deep.DeepCutAuto
import Derived.Lib.Hide
namespace Go.Proofs
open Go.RowKit

theorem Tryd.infoByte : (Tryd.prog.info? 5).map (fun i => (i.zero, i.size, i.bytes)) = some (some (.int .u8 0), 1, 1) := by kernel_rfl

set_option maxHeartbeats 4000000 in
theorem Tryd.number_any (n : Int) (h0 : -9223372036854775808 ≤ n) (h1 : n ≤ 9223372036854775807) (B : Nat) (out : List UInt8) (sv : Value) (w : World) (hB : B ≤ w.heap.size)
    (hT : Lib.TabBelow Tryd.prog B w "internal/strconv.uint64pow10" .u64 Lib.pow10Tab) (hown : w.ownsRow B 5 1 sv out.length (Lib.byteCells out)) (hlen : out.length ≤ 1000000000) :
    Calls Tryd.prog 27 #[sv, .int .i64 n] w fun e w' => ∃ v', e = .returned v' ∧ w'.ownsRow B 5 1 v' (out ++ Lib.itoa n).length (Lib.byteCells (out ++ Lib.itoa n)) ∧ Below B w w' ∧ Lib.OthersKept 5 none w w' := by
  have h := Tryd.appendInt B out.length n h0 h1 sv (Lib.byteCells out) w hown hB (by omega) hT
  obtain ⟨a, c, rfl⟩ := Tk.own_shape hown
  have HC : Hid _ := h
  clear h hown hT
  go_enter Tryd.func27, Tryd.ntmps27
  go_wp2_with fail
  refine Calls.mono HC.out ?_
  rintro e W ⟨v', rfl, q, hb, ho⟩
  have X : Hid (W.ownsRow B 5 1 v' (out ++ Lib.itoa n).length (Lib.byteCells (out ++ Lib.itoa n)) ∧ Below B w W ∧ Lib.OthersKept 5 none w W) := ⟨Tk.own_eq q (by simp) (by rw [Lib.byteCells_append]), hb, ho⟩
  clear q hb ho HC
  go_wp2
  go_ret
  exact ⟨v', rfl, X.out⟩

end Go.Proofs
