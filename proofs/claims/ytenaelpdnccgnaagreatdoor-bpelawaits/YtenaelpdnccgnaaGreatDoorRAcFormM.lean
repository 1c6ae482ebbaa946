import Derived.Test.YtenaelpdnccgnaaGreatDoorRAcLinked
import Derived.Test.YtenaelpdnccgnaaGreatDoorRNtFour
set_option maxRecDepth 100000
set_option maxHeartbeats 32000000
namespace Go.Proofs
open Go.RowKit Go.Shelf
namespace Ac
def zeroOf (k:Int):Ac:=.mk k 0 0 0 (.mk 0 0 []) [] [] [] [] []
noncomputable def leftB (T:Ac):Bool:=by classical exact decide (Same1 T (zeroOf T.kind))&&decide (T.ks.length=0)
def numB (x c:Int):Bool:=decide (0<=x)&&decide (x<c)
def rest (T:Ac):Ac:=
 if T.kind=1 then T
 else if T.kind=5 then .mk T.kind 0 T.a T.b T.t T.cs T.ks T.ls T.ns T.fs
 else if T.kind=2∨T.kind=4 then .mk T.kind 0 0 T.b T.t T.cs T.ks T.ls T.ns T.fs
 else if T.kind=3 then .mk T.kind 0 0 T.b (.mk 0 0 []) T.cs T.ks T.ls T.ns T.fs
 else if T.kind=10 then .mk T.kind 0 0 T.b T.t T.cs [] T.ls T.ns T.fs
 else if T.kind=11 then .mk T.kind 0 0 0 T.t [] [] T.ls T.ns T.fs
 else if T.kind=8 then .mk T.kind 0 0 T.b T.t [] [] T.ls T.ns T.fs
 else if T.kind=9 then .mk T.kind 0 T.a T.b T.t T.cs [] T.ls T.ns T.fs
 else if T.kind=6∨T.kind=7 then .mk T.kind T.node T.a T.b T.t T.cs [] T.ls T.ns T.fs
 else if T.kind=12 then(if T.a=3 then .mk T.kind 0 0 0 T.t [] T.ks T.ls T.ns T.fs else .mk T.kind 0 0 T.b T.t T.cs T.ks T.ls T.ns T.fs)
 else if T.kind=13 then .mk T.kind T.node T.a T.b T.t T.cs [] [] T.ns T.fs
 else .mk T.kind T.node T.a T.b T.t T.cs T.ks T.ls [] []
noncomputable def rightB (T:Ac):Bool:=
 if T.kind=1 then T.holdsB
 else if T.kind=5 then T.holdsB&&numB T.node 24
 else if T.kind=2∨T.kind=4 then(T.holdsB&&numB T.node 24)&&numB T.a 4
 else if T.kind=3 then((T.holdsB&&numB T.node 24)&&Nt.ofB T.t 1)&&numB T.a 4
 else if T.kind=10 then((T.holdsB&&numB T.node 24)&&decide (T.ks.length=1))&&numB T.a 5
 else if T.kind=11 then((((((T.holdsB&&numB T.node 24)&&decide (T.ks.length=2))&&numB T.b T.cs.length)&&decide (T.cs.length=T.ks.length))&&choiceB T.cs T.a)&&numB T.a T.cs.length)&&decide (2<=T.ks.length)
 else if T.kind=8 then((((T.holdsB&&numB T.node 24)&&decide (T.cs.length=T.ks.length))&&choiceB T.cs T.a)&&numB T.a T.cs.length)&&decide (2<=T.ks.length)
 else if T.kind=9 then(T.holdsB&&numB T.node 24)&&decide (2<=T.ks.length)
 else if T.kind=6∨T.kind=7 then T.holdsB&&decide (2<=T.ks.length)
 else if T.kind=12 then(if T.a=3 then(((((T.holdsB&&numB T.node 24)&&decide (2<=T.cs.length))&&choiceB T.cs T.b)&&numB T.b T.cs.length)&&decide (1<=T.a))&&numB T.a 5 else((T.holdsB&&numB T.node 24)&&decide (1<=T.a))&&numB T.a 5)
 else if T.kind=13 then T.holdsB&&T.linkedB
 else if T.kind=14 then T.holdsB&&decide ((Nt.checkN T.ns T.fs).1=0)
 else false
noncomputable def formedB (T:Ac):Bool:=T.rightB&&leftB T.rest
end Ac
structure Ak.Fm (w:World)(X Rb:Nat)(row:Array Value)(b:Bool)(W:World):Prop where
 box:W.heap[X]? =some (.cells row 32 (0,0))
 tr:W.heap[Rb]? =some (.cells #[.bool b] 4 (0,0))
 ne:X≠Rb
 bx:w.heap.size<=X
 br:w.heap.size<=Rb
 bel:Below w.heap.size w W
theorem Ak.Fm.below {w W W':World}{X Rb:Nat}{row:Array Value}{b:Bool}(h:Ak.Fm w X Rb row b W)(hb:Below W.heap.size W W'):Ak.Fm w X Rb row b W':=
 ⟨(hb.block _ (Array.getElem?_eq_some_iff.1 h.box).1).trans h.box,(hb.block _ (Array.getElem?_eq_some_iff.1 h.tr).1).trans h.tr,h.ne,h.bx,h.br,h.bel.trans (hb.mono h.bel.size)⟩
theorem Ak.Fm.setR {w W:World}{X Rb:Nat}{row:Array Value}{b:Bool}(h:Ak.Fm w X Rb row b W)(b':Bool):Ak.Fm w X Rb row b' (W.setCell ⟨Rb,0,none⟩ (.bool b')):=
 ⟨(Below.heap_setCell _ _ _ _ h.ne).trans h.box,by simp[World.setCell,Array.getElem?_modify,h.tr],h.ne,h.bx,h.br,h.bel.trans ((Below.refl _ W).setCell (p:=⟨Rb,0,none⟩) h.br _)⟩
theorem Ak.Fm.setX {w W:World}{X Rb:Nat}{row:Array Value}{b:Bool}(h:Ak.Fm w X Rb row b W)(i:Nat)(v:Value):Ak.Fm w X Rb (row.setIfInBounds i v) b (W.setCell ⟨X,i,none⟩ v):=
 ⟨by simp[World.setCell,Array.getElem?_modify,h.box],(Below.heap_setCell _ _ _ _ (Ne.symm h.ne)).trans h.tr,h.ne,h.bx,h.br,h.bel.trans ((Below.refl _ W).setCell (p:=⟨X,i,none⟩) h.bx _)⟩
theorem Ak.Fm.cell {w W:World}{X Rb:Nat}{row:Array Value}{b:Bool}(h:Ak.Fm w X Rb row b W)(i:Nat):W.cell? ⟨X,i,none⟩=row[i]? :=by simp[World.cell?,h.box]
theorem Ak.Fm.fx {w W:World}{X Rb:Nat}{row:Array Value}{b:Bool}(h:Ak.Fm w X Rb row b W)(i:Nat):W.frozen? ⟨X,i,none⟩=false:=by simp[World.frozen?,h.box]
theorem Ak.Fm.fr {w W:World}{X Rb:Nat}{row:Array Value}{b:Bool}(h:Ak.Fm w X Rb row b W):W.frozen? ⟨Rb,0,none⟩=false:=by simp[World.frozen?,h.tr]
theorem Ak.Fm.cr {w W:World}{X Rb:Nat}{row:Array Value}{b:Bool}(h:Ak.Fm w X Rb row b W):W.cell? ⟨Rb,0,none⟩=some (.bool b):=by simp[World.cell?,h.tr]
theorem Ak.iact:(Tryz.prog.info? 32).map (·.size)=some 12:=by kernel_rfl
theorem Ak.fm_box {w w1:World}{Y:Array Value}(h:w.alloc (.cells Y 32)=w1):Hid (Below w.heap.size w w1/\w1.heap[w.heap.size]? =some (.cells Y 32 (0,0))):=by
 subst h;exact⟨(Below.refl _ w).alloc (Nat.le_refl _) _,heap_alloc_new w _⟩
theorem Ak.fm_new {w w1 W2 W3:World}{Y:Array Value}{b:Bool}(h:Below w.heap.size w w1/\w1.heap[w.heap.size]? =some (.cells Y 32 (0,0)))(hb:Below w1.heap.size w1 W2)(h3:W2.alloc (.cells #[.bool b] 4)=W3):Hid (Ak.Fm w w.heap.size W2.heap.size Y b W3):=by
 subst h3;have hl:=(Array.getElem?_eq_some_iff.1 h.2).1;have h2:=(hb.block _ hl).trans h.2;have hl2:=(Array.getElem?_eq_some_iff.1 h2).1;have b3:Below W2.heap.size W2 (W2.alloc (.cells #[.bool b] 4)):=(Below.refl _ W2).alloc (Nat.le_refl _) _;have b2:Below w.heap.size w W2:=h.1.trans (hb.mono h.1.size);exact⟨(b3.block _ hl2).trans h2,heap_alloc_new W2 _,by omega,Nat.le_refl _,b2.size,b2.trans (b3.mono b2.size)⟩
end Go.Proofs
namespace Go.Proofs
namespace Ac
def hasA (k:Int):Bool:=decide (k=2∨k=3∨k=4∨k=8∨k=10∨k=11∨k=12)
def hasB' (k a:Int):Bool:=decide (k=11∨(k=12/\a=3))
def hasC (k a:Int):Bool:=decide (k=8∨k=11∨(k=12/\a=3))
def hasK (k:Int):Bool:=decide (k=6∨k=7∨k=8∨k=9∨k=10∨k=11∨k=13)
def Bare (T:Ac):Prop:=
 (hasNodeB T.kind=false->T.node=0)/\(hasA T.kind=false->T.a=0)/\(hasB' T.kind T.a=false->T.b=0)/\(T.kind≠3->Nt.zeroB T.t=true)/\
 (hasC T.kind T.a=false->T.cs.length=0)/\(hasK T.kind=false->T.ks.length=0)/\(T.kind≠13->T.ls.length=0)/\(T.kind≠14->T.ns.length=0/\T.fs.length=0)
def Conds (cs:List Tm)(o:Int):Prop:=(0<=o/\o<cs.length)/\choiceB cs o=true
def kidD (k a:Int)(n:Nat)(x y:Int):Bool:=
 if k=12 then(if a=1 then decide (x=1)&&decide (2<=y)else if a=3 then decide (x=1)&&decide (y=n)else if a=2∨a=4 then decide (2<=x)&&decide (y=1)else true)else decide (x=1)&&decide (y=1)
def inN (ls:List (Int×Int))(i:Int):Nat:=ls.countP λl=>decide (l.2=i)
def outN (ls:List (Int×Int))(i:Int):Nat:=ls.countP λl=>decide (l.1=i)
def LinkD (T:Ac):Prop:=T.ls.all (inR T.ks.length)=true/\(inN T.ls (-1)=1/\outN T.ls (-1)=1/\T.ls.length<=40/\T.ks.length<=64)/\
 (∀i (h:i<T.ks.length),kidD T.ks[i].kind T.ks[i].a T.ks[i].cs.length (inN T.ls i) (outN T.ls i)=true)/\freeB T.ks.length (bet T.ls)=true
def Numbered (T:Ac):Prop:=
 T.kind=1∨T.kind=5∨((T.kind=2∨T.kind=4)/\0<=T.a/\T.a<=3)∨(T.kind=3/\(0<=T.a/\T.a<=3)/\Nt.ofB T.t 1=true)∨((T.kind=6∨T.kind=7∨T.kind=9)/\2<=T.ks.length)∨
 (T.kind=8/\2<=T.ks.length/\T.cs.length=T.ks.length/\Conds T.cs T.a)∨(T.kind=10/\T.ks.length=1/\0<=T.a/\T.a<=4)∨
 (T.kind=11/\T.ks.length=2/\T.cs.length=2/\Conds T.cs T.a/\(T.b=0∨T.b=1))∨(T.kind=12/\T.a=3/\2<=T.cs.length/\Conds T.cs T.b)∨(T.kind=12/\T.a≠3/\1<=T.a/\T.a<=4)∨
 (T.kind=13/\1<=T.ks.length/\T.LinkD)∨(T.kind=14/\(Nt.checkN T.ns T.fs).1=0)
def kidBadD (K k:Int):Bool:=decide (13<=k∨(k=12/\K≠13)∨(k=10/\K≠9)∨(k≠10/\K=9))
def FormD (T:Ac):Prop:=T.Bare/\(0<=T.node/\T.node<=23)/\T.Numbered/\∀k∈T.ks,kidBadD T.kind k.kind=false
end Ac
end Go.Proofs
