/-
  The contracts of the document's Depth and form. · The contract of the document's form. · The contracts of the document's typed, Wrong and Check. · The contracts of the document's Wrong and Check.
-/
import Derived.Test.YtffbaokhhkalcaaDoorAllTChk
namespace Go.Proofs
open Go.RowKit

end Go.Proofs

namespace Go.Proofs
open Go.RowKit

theorem Tm.formedB_iff (op n : Int) (len : Nat) : Tm.formedB op n len = true ↔ 1 ≤ op ∧ op ≤ 14 ∧ len = Tm.kidsOf op ∧ 0 ≤ n ∧ n ≤ Tm.mostOf op := by simp [Tm.formedB]

/-- Of a term whose own form is wrong. -/
def Tm.Bad1 (op n : Int) (len : Nat) : Prop := op < 1 ∨ 14 < op ∨ len ≠ Tm.kidsOf op ∨ n < 0

end Go.Proofs

namespace Go.Proofs
open Go.RowKit

theorem Tm.asked_eq {T : Tm} (h : T.allForm = true) (hk : 0 < T.ks.length) : Tm.askedOf T.op = if decide (T.op = 4 ∨ 13 ≤ T.op) = true then 2 else 1 := by
  have := (Tm.formedB_iff _ _ _).1 (Tm.formed_of_all h).1
  have h3 : ¬ T.op < 3 := by
    intro h3
    have : T.ks.length = 0 := by rw [this.2.2.1]; unfold Tm.kidsOf; rw [if_pos h3]
    omega
  unfold Tm.askedOf
  rw [if_neg h3]
  simp
theorem Tm.is_eq (op : Int) : Tm.isOf op = if decide (op = 4 ∨ 10 ≤ op) = true then 2 else 1 := by
  unfold Tm.isOf
  simp

end Go.Proofs

namespace Go.Proofs
open Go.RowKit

end Go.Proofs
