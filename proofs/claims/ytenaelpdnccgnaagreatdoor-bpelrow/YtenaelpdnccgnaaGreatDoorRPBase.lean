import Derived.Test.YtenaelpdnccgnaaGreatDoorChecked
import Derived.WalkKit
namespace Go.Proofs
open Go.RowKit

theorem pE {α : Sort _} (a : α) : ∃ x, a = x := ⟨a, rfl⟩
theorem pB {w v : World} {o : Obj} (h : w.alloc o = v) : Below w.heap.size w v := by rw [← h]; exact (Below.refl _ w).alloc (Nat.le_refl _) _
theorem pH {w v : World} {o : Obj} (h : w.alloc o = v) : v.heap[w.heap.size]? = some o := by rw [← h]; exact heap_alloc_new w _

end Go.Proofs
