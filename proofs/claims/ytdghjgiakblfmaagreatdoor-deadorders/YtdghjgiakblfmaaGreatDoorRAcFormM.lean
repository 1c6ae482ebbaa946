import Derived.Test.YtdghjgiakblfmaaGreatDoorRAcLinked
import Derived.Test.YtdghjgiakblfmaaGreatDoorRNtAll
namespace Go.Proofs
open Go.RowKit Go.Shelf
namespace Ac
def zeroOf (k : Int) : Ac := .mk k 0 0 0 (.mk 0 0 []) [] [] [] [] []
noncomputable def leftB (T : Ac) : Bool := by classical exact decide (Same1 T (zeroOf T.kind)) && decide (T.ks.length = 0)
def numB (x c : Int) : Bool := decide (0 ≤ x) && decide (x < c)
def rest (T : Ac) : Ac :=
 if T.kind = 1 then T
 else if T.kind = 5 then .mk T.kind 0 T.a T.b T.t T.cs T.ks T.ls T.ns T.fs
 else if T.kind = 2 ∨ T.kind = 4 then .mk T.kind 0 0 T.b T.t T.cs T.ks T.ls T.ns T.fs
 else if T.kind = 3 then .mk T.kind 0 0 T.b (.mk 0 0 []) T.cs T.ks T.ls T.ns T.fs
 else if T.kind = 10 then .mk T.kind 0 0 T.b T.t T.cs [] T.ls T.ns T.fs
 else if T.kind = 11 then .mk T.kind 0 0 0 T.t [] [] T.ls T.ns T.fs
 else if T.kind = 8 then .mk T.kind 0 0 T.b T.t [] [] T.ls T.ns T.fs
 else if T.kind = 9 then .mk T.kind 0 T.a T.b T.t T.cs [] T.ls T.ns T.fs
 else if T.kind = 6 ∨ T.kind = 7 then .mk T.kind T.node T.a T.b T.t T.cs [] T.ls T.ns T.fs
 else if T.kind = 12 then (if T.a = 3 then .mk T.kind 0 0 0 T.t [] T.ks T.ls T.ns T.fs else .mk T.kind 0 0 T.b T.t T.cs T.ks T.ls T.ns T.fs)
 else if T.kind = 13 then .mk T.kind T.node T.a T.b T.t T.cs [] [] T.ns T.fs
 else .mk T.kind T.node T.a T.b T.t T.cs T.ks T.ls [] []
noncomputable def rightB (T : Ac) : Bool :=
 if T.kind = 1 then T.holdsB
 else if T.kind = 5 then T.holdsB && numB T.node 24
 else if T.kind = 2 ∨ T.kind = 4 then (T.holdsB && numB T.node 24) && numB T.a 4
 else if T.kind = 3 then ((T.holdsB && numB T.node 24) && Nt.ofB T.t 1) && numB T.a 4
 else if T.kind = 10 then ((T.holdsB && numB T.node 24) && decide (T.ks.length = 1)) && numB T.a 5
 else if T.kind = 11 then ((((((T.holdsB && numB T.node 24) && decide (T.ks.length = 2)) && numB T.b T.cs.length) && decide (T.cs.length = T.ks.length)) && choiceB T.cs T.a) && numB T.a T.cs.length) && decide (2 ≤ T.ks.length)
 else if T.kind = 8 then ((((T.holdsB && numB T.node 24) && decide (T.cs.length = T.ks.length)) && choiceB T.cs T.a) && numB T.a T.cs.length) && decide (2 ≤ T.ks.length)
 else if T.kind = 9 then (T.holdsB && numB T.node 24) && decide (2 ≤ T.ks.length)
 else if T.kind = 6 ∨ T.kind = 7 then T.holdsB && decide (2 ≤ T.ks.length)
 else if T.kind = 12 then (if T.a = 3 then (((((T.holdsB && numB T.node 24) && decide (2 ≤ T.cs.length)) && choiceB T.cs T.b) && numB T.b T.cs.length) && decide (1 ≤ T.a)) && numB T.a 5 else ((T.holdsB && numB T.node 24) && decide (1 ≤ T.a)) && numB T.a 5)
 else if T.kind = 13 then T.holdsB && T.linkedB
 else if T.kind = 14 then T.holdsB && decide ((Nt.checkN T.ns T.fs).1 = 0)
 else false
noncomputable def formedB (T : Ac) : Bool := T.rightB && leftB T.rest
end Ac
structure Ak.Fm (w : World) (X Rb : Nat) (row : Array Value) (b : Bool) (W : World) : Prop where
 box : W.heap[X]? = some (.cells row 32 (0, 0))
 tr : W.heap[Rb]? = some (.cells #[.bool b] 4 (0, 0))
 ne : X ≠ Rb
 bx : w.heap.size ≤ X
 br : w.heap.size ≤ Rb
 bel : Below w.heap.size w W
theorem Ak.Fm.below {w W W' : World} {X Rb : Nat} {row : Array Value} {b : Bool} (h : Ak.Fm w X Rb row b W) (hb : Below W.heap.size W W') : Ak.Fm w X Rb row b W' :=
 ⟨(hb.block _ (Array.getElem?_eq_some_iff.1 h.box).1).trans h.box, (hb.block _ (Array.getElem?_eq_some_iff.1 h.tr).1).trans h.tr, h.ne, h.bx, h.br, h.bel.trans (hb.mono h.bel.size)⟩
theorem Ak.Fm.setR {w W : World} {X Rb : Nat} {row : Array Value} {b : Bool} (h : Ak.Fm w X Rb row b W) (b' : Bool) : Ak.Fm w X Rb row b' (W.setCell ⟨Rb, 0, none⟩ (.bool b')) :=
 ⟨(Below.heap_setCell _ _ _ _ h.ne).trans h.box, by simp [World.setCell, Array.getElem?_modify, h.tr], h.ne, h.bx, h.br, h.bel.trans ((Below.refl _ W).setCell (p := ⟨Rb, 0, none⟩) h.br _)⟩
theorem Ak.Fm.setX {w W : World} {X Rb : Nat} {row : Array Value} {b : Bool} (h : Ak.Fm w X Rb row b W) (i : Nat) (v : Value) : Ak.Fm w X Rb (row.setIfInBounds i v) b (W.setCell ⟨X, i, none⟩ v) :=
 ⟨by simp [World.setCell, Array.getElem?_modify, h.box], (Below.heap_setCell _ _ _ _ (Ne.symm h.ne)).trans h.tr, h.ne, h.bx, h.br, h.bel.trans ((Below.refl _ W).setCell (p := ⟨X, i, none⟩) h.bx _)⟩
theorem Ak.Fm.fx {w W : World} {X Rb : Nat} {row : Array Value} {b : Bool} (h : Ak.Fm w X Rb row b W) (i : Nat) : W.frozen? ⟨X, i, none⟩ = false := by simp [World.frozen?, h.box]
theorem Ak.Fm.fr {w W : World} {X Rb : Nat} {row : Array Value} {b : Bool} (h : Ak.Fm w X Rb row b W) : W.frozen? ⟨Rb, 0, none⟩ = false := by simp [World.frozen?, h.tr]
theorem Ak.Fm.cr {w W : World} {X Rb : Nat} {row : Array Value} {b : Bool} (h : Ak.Fm w X Rb row b W) : W.cell? ⟨Rb, 0, none⟩ = some (.bool b) := by simp [World.cell?, h.tr]
end Go.Proofs
