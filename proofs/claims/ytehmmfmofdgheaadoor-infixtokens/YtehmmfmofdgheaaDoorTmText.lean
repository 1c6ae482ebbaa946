/-
  Terms' texts: plain mathematics.
-/
import Derived.Test.YtehmmfmofdgheaaDoorAllTChk
import Derived.Test.YtehmmfmofdgheaaDoorTShelf
namespace Go.Proofs
open Go.RowKit

namespace Tm
/-- What the table of operators has as text. -/
def opText (op : Int) : List UInt8 :=
  if op = 2 then [36] else if op = 3 then [110, 101, 103] else if op = 4 then [110, 111, 116] else if op = 5 then [97, 100, 100] else if op = 6 then [115, 117, 98] else if op = 7 then [109, 117, 108] else if op = 8 then [100, 105, 118] else
  if op = 9 then [109, 111, 100] else if op = 10 then [101, 113] else if op = 11 then [108, 116] else if op = 12 then [108, 101] else if op = 13 then [97, 110, 100] else if op = 14 then [111, 114] else []
theorem ite_len {c : Prop} [Decidable c] {a b : List UInt8} (h1 : a.length ≤ 3) (h2 : b.length ≤ 3) : (if c then a else b).length ≤ 3 := by
  split
  · exact h1
  · exact h2
theorem opText_le (op : Int) : (opText op).length ≤ 3 := by
  unfold opText
  repeat (refine ite_len (by decide) ?_)
  decide

mutual
def txt : Tm → List UInt8 | mk op n ks => if kidsOf op = 0 then opText op ++ Lib.itoa n else 40 :: (opText op ++ (txts ks ++ [41]))
def txts : List Tm → List UInt8 | [] => [] | k :: r => 32 :: (txt k ++ txts r)
end
theorem txt_eq (T : Tm) : T.txt = if kidsOf T.op = 0 then opText T.op ++ Lib.itoa T.num else 40 :: (opText T.op ++ (txts T.ks ++ [41])) := by cases T; rfl
theorem txts_snoc (l : List Tm) (a : Tm) : txts (l ++ [a]) = txts l ++ 32 :: a.txt := by
  induction l with
  | nil => simp [txts]
  | cons k r ih => simp only [List.cons_append, txts, ih, List.append_assoc]
theorem txts_take (l : List Tm) (k : Nat) (h : k < l.length) : txts (l.take (k + 1)) = txts (l.take k) ++ 32 :: l[k].txt := by rw [take_snoc l k h, txts_snoc]
theorem txts_le (l : List Tm) : ∀ k, (txts (l.take k)).length ≤ (txts l).length := by
  induction l with
  | nil => simp [txts]
  | cons a r ih =>
    intro k
    cases k with
    | zero => simp [txts]
    | succ k => simp only [List.take_succ_cons, txts, List.length_cons, List.length_append]; have := ih k; omega

/-- What write makes of a term behind other bytes: all of it, or more than is told anyway. -/
def Wrote (out : List UInt8) (l : List UInt8) (bs : List UInt8) : Prop := (bs = out ++ l ∨ (20000 < bs.length ∧ 20000 < out.length + l.length)) ∧ bs.length ≤ out.length + l.length
end Tm

theorem Tk.Ops.text {w : World} (h : Tk.Ops w) (o : Nat) (h1 : 1 ≤ o) (h2 : o ≤ 14) : w.cell? ⟨1, o * 5, none⟩ = some (.string ⟨(Tm.opText o).toArray⟩) := by
  obtain ⟨t, fz, h⟩ := h
  obtain rfl | rfl | rfl | rfl | rfl | rfl | rfl | rfl | rfl | rfl | rfl | rfl | rfl | rfl : o = 1 ∨ o = 2 ∨ o = 3 ∨ o = 4 ∨ o = 5 ∨ o = 6 ∨ o = 7 ∨ o = 8 ∨ o = 9 ∨ o = 10 ∨ o = 11 ∨ o = 12 ∨ o = 13 ∨ o = 14 := by omega
  all_goals simp only [World.cell?, h]; rfl

end Go.Proofs
