/-
  The contract of the document's read at every level.
-/
import Derived.Test.YtehmmfmofdgheaaDoorTRefRead3
namespace Go.Proofs
open Go.RowKit

set_option maxHeartbeats 1000000 in
theorem Tryd.read_zero : Tk.ReadC 0 := by
  intro s i w hi hs
  have HB0 : Hid (Below w.heap.size w (w.alloc (.cells #[.int .i64 0, .int .i64 0, .slice none 0 0, .int .i64 (-1)] 98))) := (Below.refl _ w).alloc (Nat.le_refl _) _
  have HN0 : Hid ((w.alloc (.cells #[.int .i64 0, .int .i64 0, .slice none 0 0, .int .i64 (-1)] 98)).heap[w.heap.size]? = some (.cells #[.int .i64 0, .int .i64 0, .slice none 0 0, .int .i64 (-1)] 98 (0, 0))) := heap_alloc_new w _
  have h25 : (25 - ((0 : Nat) : Int)) = 25 := by omega
  rw [h25]
  clear hi hs h25
  go_enter Tryd.func59, Tryd.ntmps59
  go_wp2
  refine bodyPost_ret (Tk.results_got Tryd.results59 _ _ w.heap.size _ _ _ _ rfl HN0.out) rfl ?_
  exact ⟨_, _, _, _, _, _, rfl, HB0.out, rfl⟩
theorem Tryd.read_any : ∀ L : Nat, L ≤ 25 → Tk.ReadC L
  | 0, _ => Tryd.read_zero
  | L + 1, h => Tryd.read_succ L (by omega) (Tryd.read_any L (by omega))

end Go.Proofs
