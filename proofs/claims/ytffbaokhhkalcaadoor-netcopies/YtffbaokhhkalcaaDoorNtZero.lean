/-
  The zero value of 24 joints, for seats whose program isn't loaded in parts (there it is given under the same names).
-/
import Derived.Test.YtffbaokhhkalcaaDoorNtSmall
namespace Go.Proofs


def Tryd.zeroCells69 : Array Value := (List.replicate 72 (Value.int .i64 0)).toArray
@[simp] theorem Tryd.zeroValue69 (w : World) : (zeroValue 69).run Tryd.prog w = .ok (.agg Tryd.zeroCells69) w := by kernel_rfl
@[simp] theorem Tryd.zeroCells69_size : Tryd.zeroCells69.size = 72 := by kernel_rfl
@[simp] theorem Tryd.zeroCells69_ne : Tryd.zeroCells69 ≠ #[] := by
  intro e
  have h := congrArg Array.size e
  rw [Tryd.zeroCells69_size] at h
  cases h

end Go.Proofs
