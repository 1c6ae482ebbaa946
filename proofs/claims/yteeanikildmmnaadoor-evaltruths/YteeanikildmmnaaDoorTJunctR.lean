/-
  What And or Or answers.
-/
import Derived.Test.YteeanikildmmnaaDoorTTruth
namespace Go.Proofs
/-- What And or Or answers. -/
def Tk.junctR (op : Int) (a b : Int × Bool × Int) : Bool × Int := if a.2.2 ≠ 0 ∨ a.2.1 = decide (op = 14) then (a.2.1, a.2.2) else (b.2.1, b.2.2)

end Go.Proofs
