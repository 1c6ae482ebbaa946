import Derived.Test.YtenaelpdnccgnaaGreatDoorRAcLinked
import Derived.Test.YtenaelpdnccgnaaGreatDoorRNtFour
import Derived.Test.YtenaelpdnccgnaaGreatDoorRTPlainA
set_option maxRecDepth 100000
set_option maxHeartbeats 32000000
namespace Go.Proofs
open Go.RowKit Go.Shelf
namespace Ac
def zeroOf (k:Int):Ac:=.mk k 0 0 0 (.mk 0 0 []) [] [] [] [] []
noncomputable def leftB (T:Ac):Bool:=by classical exact decide (Same1 T (zeroOf T.kind))&&decide (T.ks.length=0)
def numB (x c:Int):Bool:=decide (0<=x)&&decide (x<c)
def rest (T:Ac):Ac:=
 if T.kind=1 then T
 else if T.kind=5 then .mk T.kind 0 T.a T.b T.t T.cs T.ks T.ls T.ns T.fs
 else if T.kind=2∨T.kind=4 then .mk T.kind 0 0 T.b T.t T.cs T.ks T.ls T.ns T.fs
 else if T.kind=3 then .mk T.kind 0 0 T.b (.mk 0 0 []) T.cs T.ks T.ls T.ns T.fs
 else if T.kind=10 then .mk T.kind 0 0 T.b T.t T.cs [] T.ls T.ns T.fs
 else if T.kind=11 then .mk T.kind 0 0 0 T.t [] [] T.ls T.ns T.fs
 else if T.kind=8 then .mk T.kind 0 0 T.b T.t [] [] T.ls T.ns T.fs
 else if T.kind=9 then .mk T.kind 0 T.a T.b T.t T.cs [] T.ls T.ns T.fs
 else if T.kind=6∨T.kind=7 then .mk T.kind T.node T.a T.b T.t T.cs [] T.ls T.ns T.fs
 else if T.kind=12 then(if T.a=3 then .mk T.kind 0 0 0 T.t [] T.ks T.ls T.ns T.fs else .mk T.kind 0 0 T.b T.t T.cs T.ks T.ls T.ns T.fs)
 else if T.kind=13 then .mk T.kind T.node T.a T.b T.t T.cs [] [] T.ns T.fs
 else .mk T.kind T.node T.a T.b T.t T.cs T.ks T.ls [] []
noncomputable def rightB (T:Ac):Bool:=
 if T.kind=1 then T.holdsB
 else if T.kind=5 then T.holdsB&&numB T.node 24
 else if T.kind=2∨T.kind=4 then(T.holdsB&&numB T.node 24)&&numB T.a 4
 else if T.kind=3 then((T.holdsB&&numB T.node 24)&&Nt.ofB T.t 1)&&numB T.a 4
 else if T.kind=10 then((T.holdsB&&numB T.node 24)&&decide (T.ks.length=1))&&numB T.a 5
 else if T.kind=11 then((((((T.holdsB&&numB T.node 24)&&decide (T.ks.length=2))&&numB T.b T.cs.length)&&decide (T.cs.length=T.ks.length))&&choiceB T.cs T.a)&&numB T.a T.cs.length)&&decide (2<=T.ks.length)
 else if T.kind=8 then((((T.holdsB&&numB T.node 24)&&decide (T.cs.length=T.ks.length))&&choiceB T.cs T.a)&&numB T.a T.cs.length)&&decide (2<=T.ks.length)
 else if T.kind=9 then(T.holdsB&&numB T.node 24)&&decide (2<=T.ks.length)
 else if T.kind=6∨T.kind=7 then T.holdsB&&decide (2<=T.ks.length)
 else if T.kind=12 then(if T.a=3 then(((((T.holdsB&&numB T.node 24)&&decide (2<=T.cs.length))&&choiceB T.cs T.b)&&numB T.b T.cs.length)&&decide (1<=T.a))&&numB T.a 5 else((T.holdsB&&numB T.node 24)&&decide (1<=T.a))&&numB T.a 5)
 else if T.kind=13 then T.holdsB&&T.linkedB
 else if T.kind=14 then T.holdsB&&decide ((Nt.checkN T.ns T.fs).1=0)
 else false
noncomputable def formedB (T:Ac):Bool:=T.rightB&&leftB T.rest
end Ac
structure Ak.Fm (w:World)(X Rb:Nat)(row:Array Value)(b:Bool)(W:World):Prop where
 box:W.heap[X]? =some (.cells row 32 (0,0))
 tr:W.heap[Rb]? =some (.cells #[.bool b] 4 (0,0))
 ne:X≠Rb
 bx:w.heap.size<=X
 br:w.heap.size<=Rb
 bel:Below w.heap.size w W
theorem Ak.Fm.below {w W W':World}{X Rb:Nat}{row:Array Value}{b:Bool}(h:Ak.Fm w X Rb row b W)(hb:Below W.heap.size W W'):Ak.Fm w X Rb row b W':=
 ⟨(hb.block _ (Array.getElem?_eq_some_iff.1 h.box).1).trans h.box,(hb.block _ (Array.getElem?_eq_some_iff.1 h.tr).1).trans h.tr,h.ne,h.bx,h.br,h.bel.trans (hb.mono h.bel.size)⟩
theorem Ak.Fm.setR {w W:World}{X Rb:Nat}{row:Array Value}{b:Bool}(h:Ak.Fm w X Rb row b W)(b':Bool):Ak.Fm w X Rb row b' (W.setCell ⟨Rb,0,none⟩ (.bool b')):=
 ⟨(Below.heap_setCell _ _ _ _ h.ne).trans h.box,by simp[World.setCell,Array.getElem?_modify,h.tr],h.ne,h.bx,h.br,h.bel.trans ((Below.refl _ W).setCell (p:=⟨Rb,0,none⟩) h.br _)⟩
theorem Ak.Fm.setX {w W:World}{X Rb:Nat}{row:Array Value}{b:Bool}(h:Ak.Fm w X Rb row b W)(i:Nat)(v:Value):Ak.Fm w X Rb (row.setIfInBounds i v) b (W.setCell ⟨X,i,none⟩ v):=
 ⟨by simp[World.setCell,Array.getElem?_modify,h.box],(Below.heap_setCell _ _ _ _ (Ne.symm h.ne)).trans h.tr,h.ne,h.bx,h.br,h.bel.trans ((Below.refl _ W).setCell (p:=⟨X,i,none⟩) h.bx _)⟩
theorem Ak.Fm.cell {w W:World}{X Rb:Nat}{row:Array Value}{b:Bool}(h:Ak.Fm w X Rb row b W)(i:Nat):W.cell? ⟨X,i,none⟩=row[i]? :=by simp[World.cell?,h.box]
theorem Ak.Fm.fx {w W:World}{X Rb:Nat}{row:Array Value}{b:Bool}(h:Ak.Fm w X Rb row b W)(i:Nat):W.frozen? ⟨X,i,none⟩=false:=by simp[World.frozen?,h.box]
theorem Ak.Fm.fr {w W:World}{X Rb:Nat}{row:Array Value}{b:Bool}(h:Ak.Fm w X Rb row b W):W.frozen? ⟨Rb,0,none⟩=false:=by simp[World.frozen?,h.tr]
theorem Ak.Fm.cr {w W:World}{X Rb:Nat}{row:Array Value}{b:Bool}(h:Ak.Fm w X Rb row b W):W.cell? ⟨Rb,0,none⟩=some (.bool b):=by simp[World.cell?,h.tr]
theorem Ak.iact:(Tryz.prog.info? 32).map (·.size)=some 12:=by kernel_rfl
theorem Ak.fm_box {w w1:World}{Y:Array Value}(h:w.alloc (.cells Y 32)=w1):Hid (Below w.heap.size w w1/\w1.heap[w.heap.size]? =some (.cells Y 32 (0,0))):=by
 subst h;exact⟨(Below.refl _ w).alloc (Nat.le_refl _) _,heap_alloc_new w _⟩
theorem Ak.fm_new {w w1 W2 W3:World}{Y:Array Value}{b:Bool}(h:Below w.heap.size w w1/\w1.heap[w.heap.size]? =some (.cells Y 32 (0,0)))(hb:Below w1.heap.size w1 W2)(h3:W2.alloc (.cells #[.bool b] 4)=W3):Hid (Ak.Fm w w.heap.size W2.heap.size Y b W3):=by
 subst h3;have hl:=(Array.getElem?_eq_some_iff.1 h.2).1;have h2:=(hb.block _ hl).trans h.2;have hl2:=(Array.getElem?_eq_some_iff.1 h2).1;have b3:Below W2.heap.size W2 (W2.alloc (.cells #[.bool b] 4)):=(Below.refl _ W2).alloc (Nat.le_refl _) _;have b2:Below w.heap.size w W2:=h.1.trans (hb.mono h.1.size);exact⟨(b3.block _ hl2).trans h2,heap_alloc_new W2 _,by omega,Nat.le_refl _,b2.size,b2.trans (b3.mono b2.size)⟩
end Go.Proofs
namespace Go.Proofs
namespace Ac
def hasA (k:Int):Bool:=decide (k=2∨k=3∨k=4∨k=8∨k=10∨k=11∨k=12)
def hasB' (k a:Int):Bool:=decide (k=11∨(k=12/\a=3))
def hasC (k a:Int):Bool:=decide (k=8∨k=11∨(k=12/\a=3))
def hasK (k:Int):Bool:=decide (k=6∨k=7∨k=8∨k=9∨k=10∨k=11∨k=13)
def Bare (T:Ac):Prop:=
 (hasNodeB T.kind=false->T.node=0)/\(hasA T.kind=false->T.a=0)/\(hasB' T.kind T.a=false->T.b=0)/\(T.kind≠3->Nt.zeroB T.t=true)/\
 (hasC T.kind T.a=false->T.cs.length=0)/\(hasK T.kind=false->T.ks.length=0)/\(T.kind≠13->T.ls.length=0)/\(T.kind≠14->T.ns.length=0/\T.fs.length=0)
def Conds (cs:List Tm)(o:Int):Prop:=(0<=o/\o<cs.length)/\choiceB cs o=true
def kidD (k a:Int)(n:Nat)(x y:Int):Bool:=
 if k=12 then(if a=1 then decide (x=1)&&decide (2<=y)else if a=3 then decide (x=1)&&decide (y=n)else if a=2∨a=4 then decide (2<=x)&&decide (y=1)else true)else decide (x=1)&&decide (y=1)
def inN (ls:List (Int×Int))(i:Int):Nat:=ls.countP λl=>decide (l.2=i)
def outN (ls:List (Int×Int))(i:Int):Nat:=ls.countP λl=>decide (l.1=i)
def LinkD (T:Ac):Prop:=T.ls.all (inR T.ks.length)=true/\(inN T.ls (-1)=1/\outN T.ls (-1)=1/\T.ls.length<=40/\T.ks.length<=64)/\
 (∀i (h:i<T.ks.length),kidD T.ks[i].kind T.ks[i].a T.ks[i].cs.length (inN T.ls i) (outN T.ls i)=true)/\freeB T.ks.length (bet T.ls)=true
def Numbered (T:Ac):Prop:=
 T.kind=1∨T.kind=5∨((T.kind=2∨T.kind=4)/\0<=T.a/\T.a<=3)∨(T.kind=3/\(0<=T.a/\T.a<=3)/\Nt.ofB T.t 1=true)∨((T.kind=6∨T.kind=7∨T.kind=9)/\2<=T.ks.length)∨
 (T.kind=8/\2<=T.ks.length/\T.cs.length=T.ks.length/\Conds T.cs T.a)∨(T.kind=10/\T.ks.length=1/\0<=T.a/\T.a<=4)∨
 (T.kind=11/\T.ks.length=2/\T.cs.length=2/\Conds T.cs T.a/\(T.b=0∨T.b=1))∨(T.kind=12/\T.a=3/\2<=T.cs.length/\Conds T.cs T.b)∨(T.kind=12/\T.a≠3/\1<=T.a/\T.a<=4)∨
 (T.kind=13/\1<=T.ks.length/\T.LinkD)∨(T.kind=14/\(Nt.checkN T.ns T.fs).1=0)
def kidBadD (K k:Int):Bool:=decide (13<=k∨(k=12/\K≠13)∨(k=10/\K≠9)∨(k≠10/\K=9))
def FormD (T:Ac):Prop:=T.Bare/\(0<=T.node/\T.node<=23)/\T.Numbered/\∀k∈T.ks,kidBadD T.kind k.kind=false
end Ac
end Go.Proofs
namespace Go.Proofs
open Go.RowKit Go.Shelf
def Ac.hasL (k a:Int):List UInt8:=
 if k=2∨k=4 then [110,97]else if k=3 then [110,97,116]else if k=5 then [110]else if k=6∨k=7 then [107]else if k=8 then [110,97,107,99]
 else if k=9 then [110,107]else if k=10 then [110,97,107]else if k=11 then [110,97,98,107,99]else if k=12 then(if a=3 then [110,97,98,99]else [110,97])
 else if k=13 then [107,108]else if k=14 then [112]else []
theorem Tryz.r16Has_any (k a:Int)(x1 x3 x4 x5 x6 x7 x8 x9 x10 x11:Value)(w:World):
  Calls Tryz.prog 54 #[.agg #[.int .i64 k,x1,.int .i64 a,x3,x4,x5,x6,x7,x8,x9,x10,x11]] w λe w'=>e=.returned (.string ⟨(Ac.hasL k a).toArray⟩)/\Below w.heap.size w w':=by
 obtain⟨R,hR⟩:=pE (Ac.hasL k a);rw[hR];obtain⟨w1,hw1⟩:=pE (w.alloc (.cells #[.int .i64 k,x1,.int .i64 a,x3,x4,x5,x6,x7,x8,x9,x10,x11] 44));have B1:Hid (Below w.heap.size w w1):=by show Below _ _ _;rw[<-hw1];exact(Below.refl _ w).alloc (Nat.le_refl _) _
 have N1:w1.heap[w.heap.size]? =some (.cells #[.int .i64 k,x1,.int .i64 a,x3,x4,x5,x6,x7,x8,x9,x10,x11] 44 (0,0)):=by rw[<-hw1];exact heap_alloc_new w _
 have c0:w1.cell? ⟨w.heap.size,0,none⟩=some (.int .i64 k):=by simp[World.cell?,N1]
 have c2:w1.cell? ⟨w.heap.size,2,none⟩=some (.int .i64 a):=by simp[World.cell?,N1]
 have H1:Hid _:=hw1;have HR:Hid (Ac.hasL k a=R):=hR;clear hw1 N1 hR
 go_enter Tryz.func54,Tryz.ntmps54
 go_upto_region 1 with fail
 rw[H1.out];clear H1
 by_cases k2:k=2
 ·subst k2;go_wp2;go_ret;exact⟨by rw[<-HR.out];rfl,B1.out⟩
 have e2:(k==2)=false:=by simpa using k2
 by_cases k4:k=4
 ·subst k4;go_wp2;go_ret;exact⟨by rw[<-HR.out];rfl,B1.out⟩
 have e4:(k==4)=false:=by simpa using k4
 by_cases k3:k=3
 ·subst k3;go_wp2;go_ret;exact⟨by rw[<-HR.out];rfl,B1.out⟩
 have e3:(k==3)=false:=by simpa using k3
 by_cases k5:k=5
 ·subst k5;go_wp2;go_ret;exact⟨by rw[<-HR.out];rfl,B1.out⟩
 have e5:(k==5)=false:=by simpa using k5
 by_cases k6:k=6
 ·subst k6;go_wp2;go_ret;exact⟨by rw[<-HR.out];rfl,B1.out⟩
 have e6:(k==6)=false:=by simpa using k6
 by_cases k7:k=7
 ·subst k7;go_wp2;go_ret;exact⟨by rw[<-HR.out];rfl,B1.out⟩
 have e7:(k==7)=false:=by simpa using k7
 by_cases k8:k=8
 ·subst k8;go_wp2;go_ret;exact⟨by rw[<-HR.out];rfl,B1.out⟩
 have e8:(k==8)=false:=by simpa using k8
 by_cases k9:k=9
 ·subst k9;go_wp2;go_ret;exact⟨by rw[<-HR.out];rfl,B1.out⟩
 have e9:(k==9)=false:=by simpa using k9
 by_cases k10:k=10
 ·subst k10;go_wp2;go_ret;exact⟨by rw[<-HR.out];rfl,B1.out⟩
 have e10:(k==10)=false:=by simpa using k10
 by_cases k11:k=11
 ·subst k11;go_wp2;go_ret;exact⟨by rw[<-HR.out];rfl,B1.out⟩
 have e11:(k==11)=false:=by simpa using k11
 by_cases k12:k=12
 ·subst k12
  by_cases a3:a=3
  ·subst a3;go_wp2;go_ret;exact⟨by rw[<-HR.out];rfl,B1.out⟩
  have f3:(a==3)=false:=by simpa using a3
  have HQ:Hid (R= [110,97]):=by show _=_;rw[<-HR.out];unfold Ac.hasL;rw[if_neg a3];rfl
  clear a3;go_wp2;go_ret;exact⟨by rw[HQ.out];rfl,B1.out⟩
 have e12:(k==12)=false:=by simpa using k12
 by_cases k13:k=13
 ·subst k13;go_wp2;go_ret;exact⟨by rw[<-HR.out];rfl,B1.out⟩
 have e13:(k==13)=false:=by simpa using k13
 by_cases k14:k=14
 ·subst k14;go_wp2;go_ret;exact⟨by rw[<-HR.out];rfl,B1.out⟩
 have e14:(k==14)=false:=by simpa using k14
 have HQ:Hid (R= []):=by
  show _=_;rw[<-HR.out];unfold Ac.hasL;rw[if_neg (by omega),if_neg k3,if_neg k5,if_neg (by omega),if_neg k8,if_neg k9,if_neg k10,if_neg k11,if_neg k12,if_neg k13,if_neg k14]
 clear k2 k3 k4 k5 k6 k7 k8 k9 k10 k11 k12 k13 k14;go_wp2;go_ret;exact⟨by rw[HQ.out];rfl,B1.out⟩
def Ac.inB (L:List UInt8)(c:Int):Bool:=L.any λb=>decide ((b.toNat:Int)=c)
theorem Tryz.r16in_any (s:ByteArray)(c:Int)(w:World)(hs:s.size<=2147483647):
  Calls Tryz.prog 53 #[.string s,.int .u8 c] w λe w'=>e=.returned (.bool (Ac.inB s.data.toList c))/\w'=w:=by
 obtain⟨n,hn⟩:=pE (s.size);obtain⟨R,hR⟩:=pE (Ac.inB s.data.toList c);rw[hR];have HR:Hid (Ac.inB s.data.toList c=R):=hR;clear hR
 go_enter Tryz.func53,Tryz.ntmps53
 go_wp2
 go_loopg [5] s.size (λgk s5 wr=>∃j:Nat,gk+j=s.size/\s5=.int .i64 j/\wr=w/\Hid (∀i (h:i<s.size),i<j->¬((s[i].toNat:Int)=c)))
 case atStart=>exact⟨0,by omega,rfl,rfl,λi _ h=>absurd h (by omega)⟩
 case round=>
  obtain⟨j,hj,rfl,rfl,HJ⟩:=hrel
  by_cases hlt:j<s.size
  ·have hd:decide ((j:Int)<s.size)=true:=decide_eq_true (by omega)
   by_cases hc:(s[j].toNat:Int)=c
   ·have he:((s[j].toNat:Int)==c)=true:=by simpa using hc
    have HQ:Hid (R=true):=by
     show _=_;rw[<-HR.out];unfold Ac.inB;rw[List.any_eq_true];exact⟨s[j],List.getElem_mem (l:=s.data.toList) (n:=j) hlt,decide_eq_true hc⟩
    clear hc;go_wp2;go_ret;exact⟨by rw[HQ.out];rfl,rfl⟩
   have he:((s[j].toNat:Int)==c)=false:=by simpa using hc
   have HC:Hid (¬((s[j].toNat:Int)=c)):=hc;clear hc;go_wp2;go_roundg (gk-1)
   case measure=>omega
   case rel=>
    refine⟨j+1,by omega,by go_num,rfl,λi h hi=> ?_⟩
    by_cases e:i=j
    ·subst e;exact HC.out
    exact HJ.out i h (by omega)
  have hd:decide ((j:Int)<s.size)=false:=decide_eq_false (by omega)
  have HQ:Hid (R=false):=by
   show _=_;rw[<-HR.out];unfold Ac.inB;rw[List.any_eq_false];intro b hb;obtain⟨i,hi,rfl⟩:=List.getElem_of_mem hb;have hi':i<s.size:=hi;exact λh=>HJ.out i hi' (by omega) (of_decide_eq_true h)
  go_wp2;go_ret;exact⟨by rw[HQ.out];rfl,rfl⟩
theorem Tryz.r16none_any (d:Nat)(T:Tm)(v:Value)(w:World)(hT:Tm.Lies w w.heap.size d v T)(hsz:T.size<=2147483647):
  Calls Tryz.prog 75 #[.agg #[.int .i64 T.op,.int .i64 T.num,v]] w λe w'=>e=.returned (.bool (Nt.zeroB T))/\Below w.heap.size w w':=by
 obtain⟨a,cap,rfl⟩:=hT.shape;have A0:Below w.heap.size w (w.alloc (.cells #[.int .i64 T.op,.int .i64 T.num,.slice a T.ks.length cap] 24)):=(Below.refl _ w).alloc (Nat.le_refl _) _;have hc:=Tryz.plainTerm_any d T (.mk 0 0 []) (.slice a T.ks.length cap) (.slice none 0 0) 1 _ _ ((hT.below A0).wider A0.size) (Tm.lies_zero _ _) (Nat.le_refl _) hsz (by simp[Tm.size,Tm.sizes]);obtain⟨o,ho⟩:=pE (T.op);obtain⟨m,hm⟩:=pE (T.num);obtain⟨n,hn⟩:=pE (T.ks.length);obtain⟨b,hb⟩:=pE (Nt.zeroB T);rw[ho,hm,hn]at hc A0;rw[Nt.zero_iff,hb]at hc;rw[hb,ho,hm,hn];simp only[Tm.op,Tm.num]at hc;have HC:Hid _:=hc;have HA:Hid _:=A0;clear hc A0 hT hsz ho hm hn hb
 go_enter Tryz.func75,Tryz.ntmps75
 go_wp2_with fail
 refine Calls.mono HC.out ?_;rintro e W1 ⟨⟨r,rfl,hr⟩,hb1⟩;have B1:Hid (Below w.heap.size w W1):=HA.out.trans (hb1.mono HA.out.size);have hrb:r=b:=by cases r<;>cases b<;>simp at hr⊢
 subst hrb;clear hb1 HC hr;go_wp2;go_ret;exact⟨rfl,B1.out⟩
theorem Tryz.r16Ins_any (x0 x1 x2 x3 x4 x5 x6 x7 x8 x10 x11:Value)(la:Option Addr)(m lc:Nat)(ls:List (Int×Int))(kid:Int)(w:World)(hL:Ac.Lks w w.heap.size la ls)(hm:ls.length=m)(h60:m<=2147483647):
  Calls Tryz.prog 105 #[.agg #[x0,x1,x2,x3,x4,x5,x6,x7,x8,.slice la m lc,x10,x11],.int .i64 kid] w λe w'=>e=.returned (.int .i64 (Ac.inN ls kid))/\Below w.heap.size w w':=by
 obtain⟨R,hR⟩:=pE (Ac.inN ls kid);rw[hR];obtain⟨w1,hw1⟩:=pE (w.alloc (.cells #[x0,x1,x2,x3,x4,x5,x6,x7,x8,.slice la m lc,x10,x11] 44));have B1:=pB hw1
 have N1:w1.heap[w.heap.size]? =some (.cells #[x0,x1,x2,x3,x4,x5,x6,x7,x8,.slice la m lc,x10,x11] 44 (0,0)):=by rw[<-hw1];exact heap_alloc_new w _
 have c9:w1.cell? ⟨w.heap.size,9,none⟩=some (.slice la m lc):=by simp[World.cell?,N1]
 have H1:Hid _:=hw1;have HB:Hid (Below w.heap.size w w1):=B1;have HL:Hid (Ac.Lks w w.heap.size la ls/\ls.length=m):=⟨hL,hm⟩;have HR:Hid (Ac.inN (ls.take m) kid=R):=by show _=_;rw[<-hm,List.take_length];exact hR
 clear hL hm hR hw1 B1 N1
 go_enter Tryz.func105,Tryz.ntmps105
 go_upto_region 1 with fail
 rw[H1.out];go_wp2
 go_loopg [5,11] m (λgk s5 s11 wr=>∃j c:Nat,gk+j=m/\s11=.int .i64 j/\s5=.int .i64 c/\c<=j/\Hid (c=Ac.inN (ls.take j) kid/\Below w1.heap.size w1 wr))
 case atStart=>exact⟨0,0,by omega,rfl,rfl,Nat.le_refl _,rfl,Below.refl _ w1⟩
 case round=>
  obtain⟨j,c,hj,rfl,rfl,hcj,HJ⟩:=hrel;clear c9
  by_cases hlt:j<m
  rotate_left
  ·have hd:decide ((j:Int)<m)=false:=decide_eq_false (by omega)
   have hE:c=R:=by
    obtain rfl:j=m:=by omega
    rw[HJ.out.1,HR.out]
   have HX:Hid (Below w.heap.size w wr):=HB.out.trans (HJ.out.2.mono HB.out.size);subst hE;go_wp2;go_ret;exact⟨rfl,HX.out⟩
  have hd:decide ((j:Int)<m)=true:=decide_eq_true (by omega);have hjl:j<ls.length:=by rw[HL.out.2];exact hlt
  obtain⟨q,off,rfl,hq,d0,d1⟩:=HL.out.1 j hjl;obtain⟨x,hx⟩:=pE (ls[j]);obtain⟨a,b⟩:=x;rw[hx]at d0 d1;have j0:(0:Int)<=j:=by omega
  have j1:(j:Int)<m:=by omega
  have BW:Below w.heap.size w wr:=HB.out.trans (HJ.out.2.mono HB.out.size);have e0:wr.cell? ⟨q,off+j*2,none⟩=some (.int .i64 a):=by rw[BW.cell (p:=⟨q,off+j*2,none⟩) hq];exact d0
  have e1:wr.cell? ⟨q,off+j*2+1,none⟩=some (.int .i64 b):=by rw[BW.cell (p:=⟨q,off+j*2+1,none⟩) hq];exact d1
  have HS:Hid (Ac.inN (ls.take (j+1)) kid=c+if b=kid then 1 else 0):=by
   show _=_;rw[List.take_succ_eq_append_getElem hjl,hx,HJ.out.1];unfold Ac.inN;rw[List.countP_append,List.countP_singleton]
   by_cases q:b=kid<;>simp[q]
  have HB2:Hid (Below w1.heap.size w1 (wr.alloc (.cells #[.int .i64 a,.int .i64 b] 70))):=HJ.out.2.alloc HJ.out.2.size _;clear d0 d1 hx hjl hq BW HJ
  by_cases ha:b=kid
  ·have he:(b==kid)=true:=by simpa using ha
   have HN:Hid (Ac.inN (ls.take (j+1)) kid=c+1):=by show _=_;rw[HS.out,if_pos ha]
   clear ha HS;go_wp2;go_roundg (gk-1)
   case measure=>omega
   case rel=>exact⟨j+1,c+1,by omega,by go_num,by go_num,by omega,HN.out.symm,HB2.out⟩
  have he:(b==kid)=false:=by simpa using ha
  have HN:Hid (Ac.inN (ls.take (j+1)) kid=c):=by show _=_;rw[HS.out,if_neg ha,Nat.add_zero]
  clear ha HS;go_wp2;go_roundg (gk-1)
  case measure=>omega
  case rel=>exact⟨j+1,c,by omega,by go_num,by go_num,by omega,HN.out.symm,HB2.out⟩
theorem Tryz.r16Outs_any (x0 x1 x2 x3 x4 x5 x6 x7 x8 x10 x11:Value)(la:Option Addr)(m lc:Nat)(ls:List (Int×Int))(kid:Int)(w:World)(hL:Ac.Lks w w.heap.size la ls)(hm:ls.length=m)(h60:m<=2147483647):
  Calls Tryz.prog 106 #[.agg #[x0,x1,x2,x3,x4,x5,x6,x7,x8,.slice la m lc,x10,x11],.int .i64 kid] w λe w'=>e=.returned (.int .i64 (Ac.outN ls kid))/\Below w.heap.size w w':=by
 obtain⟨R,hR⟩:=pE (Ac.outN ls kid);rw[hR];obtain⟨w1,hw1⟩:=pE (w.alloc (.cells #[x0,x1,x2,x3,x4,x5,x6,x7,x8,.slice la m lc,x10,x11] 44));have B1:=pB hw1
 have N1:w1.heap[w.heap.size]? =some (.cells #[x0,x1,x2,x3,x4,x5,x6,x7,x8,.slice la m lc,x10,x11] 44 (0,0)):=by rw[<-hw1];exact heap_alloc_new w _
 have c9:w1.cell? ⟨w.heap.size,9,none⟩=some (.slice la m lc):=by simp[World.cell?,N1]
 have H1:Hid _:=hw1;have HB:Hid (Below w.heap.size w w1):=B1;have HL:Hid (Ac.Lks w w.heap.size la ls/\ls.length=m):=⟨hL,hm⟩;have HR:Hid (Ac.outN (ls.take m) kid=R):=by show _=_;rw[<-hm,List.take_length];exact hR
 clear hL hm hR hw1 B1 N1
 go_enter Tryz.func106,Tryz.ntmps106
 go_upto_region 1 with fail
 rw[H1.out];go_wp2
 go_loopg [5,11] m (λgk s5 s11 wr=>∃j c:Nat,gk+j=m/\s11=.int .i64 j/\s5=.int .i64 c/\c<=j/\Hid (c=Ac.outN (ls.take j) kid/\Below w1.heap.size w1 wr))
 case atStart=>exact⟨0,0,by omega,rfl,rfl,Nat.le_refl _,rfl,Below.refl _ w1⟩
 case round=>
  obtain⟨j,c,hj,rfl,rfl,hcj,HJ⟩:=hrel;clear c9
  by_cases hlt:j<m
  rotate_left
  ·have hd:decide ((j:Int)<m)=false:=decide_eq_false (by omega)
   have hE:c=R:=by
    obtain rfl:j=m:=by omega
    rw[HJ.out.1,HR.out]
   have HX:Hid (Below w.heap.size w wr):=HB.out.trans (HJ.out.2.mono HB.out.size);subst hE;go_wp2;go_ret;exact⟨rfl,HX.out⟩
  have hd:decide ((j:Int)<m)=true:=decide_eq_true (by omega);have hjl:j<ls.length:=by rw[HL.out.2];exact hlt
  obtain⟨q,off,rfl,hq,d0,d1⟩:=HL.out.1 j hjl;obtain⟨x,hx⟩:=pE (ls[j]);obtain⟨a,b⟩:=x;rw[hx]at d0 d1;have j0:(0:Int)<=j:=by omega
  have j1:(j:Int)<m:=by omega
  have BW:Below w.heap.size w wr:=HB.out.trans (HJ.out.2.mono HB.out.size);have e0:wr.cell? ⟨q,off+j*2,none⟩=some (.int .i64 a):=by rw[BW.cell (p:=⟨q,off+j*2,none⟩) hq];exact d0
  have e1:wr.cell? ⟨q,off+j*2+1,none⟩=some (.int .i64 b):=by rw[BW.cell (p:=⟨q,off+j*2+1,none⟩) hq];exact d1
  have HS:Hid (Ac.outN (ls.take (j+1)) kid=c+if a=kid then 1 else 0):=by
   show _=_;rw[List.take_succ_eq_append_getElem hjl,hx,HJ.out.1];unfold Ac.outN;rw[List.countP_append,List.countP_singleton]
   by_cases q:a=kid<;>simp[q]
  have HB2:Hid (Below w1.heap.size w1 (wr.alloc (.cells #[.int .i64 a,.int .i64 b] 70))):=HJ.out.2.alloc HJ.out.2.size _;clear d0 d1 hx hjl hq BW HJ
  by_cases ha:a=kid
  ·have he:(a==kid)=true:=by simpa using ha
   have HN:Hid (Ac.outN (ls.take (j+1)) kid=c+1):=by show _=_;rw[HS.out,if_pos ha]
   clear ha HS;go_wp2;go_roundg (gk-1)
   case measure=>omega
   case rel=>exact⟨j+1,c+1,by omega,by go_num,by go_num,by omega,HN.out.symm,HB2.out⟩
  have he:(a==kid)=false:=by simpa using ha
  have HN:Hid (Ac.outN (ls.take (j+1)) kid=c):=by show _=_;rw[HS.out,if_neg ha,Nat.add_zero]
  clear ha HS;go_wp2;go_roundg (gk-1)
  case measure=>omega
  case rel=>exact⟨j+1,c,by omega,by go_num,by go_num,by omega,HN.out.symm,HB2.out⟩
theorem Tryz.r16kid_any (d e:Nat)(T:Ac)(V:Ac.Vs)(w:World)(hT:Ac.Lies w w.heap.size e d V T)(hm:T.ls.length<=2147483647)(_hks:T.ks.length<=2147483647)(i:Nat)(hi:i<T.ks.length):
  Calls Tryz.prog 107 #[.agg (Ac.row T V),.int .i64 i] w λe w'=>e=.returned (.bool (Ac.kidD T.ks[i].kind T.ks[i].a T.ks[i].cs.length (Ac.inN T.ls i) (Ac.outN T.ls i)))/\Below w.heap.size w w':=by
 cases d with
 |zero=>exact hT.elim
 |succ d=>
 obtain⟨ka,kc,hvk⟩:=hT.kids;obtain⟨la,lc,hvl,hL⟩:=hT.own.l;obtain⟨n,hn⟩:=pE (T.ks.length);obtain⟨m,hml⟩:=pE (T.ls.length);rw[hn]at hvk;rw[hml]at hvl;obtain⟨x0,x1,x2,x3,x4,x5,x6,x7,x10,x11,hrow⟩:∃x0 x1 x2 x3 x4 x5 x6 x7 x10 x11,Ac.row T V=#[x0,x1,x2,x3,x4,x5,x6,x7,.slice ka n kc,.slice la m lc,x10,x11]:=⟨_,_,_,_,_,_,_,_,_,_,by unfold Ac.row;rw[hvk,hvl]⟩;obtain⟨x,hx⟩:=pE (Ac.inN T.ls i);obtain⟨y,hy⟩:=pE (Ac.outN T.ls i);obtain⟨K,hK⟩:=pE (T.ks[i].kind);obtain⟨A,hA⟩:=pE (T.ks[i].a);obtain⟨q,hq⟩:=pE (T.ks[i].cs.length);obtain⟨R,hR⟩:=pE (Ac.kidD K A q x y);rw[hrow,hx,hy,hK,hA,hq,hR];have HR:Hid (Ac.kidD K A q x y=R):=hR;obtain⟨w1,hw1⟩:=pE (w.alloc (.cells #[x0,x1,x2,x3,x4,x5,x6,x7,.slice ka n kc,.slice la m lc,x10,x11] 44));have B1:=pB hw1
 have N1:w1.heap[w.heap.size]? =some (.cells #[x0,x1,x2,x3,x4,x5,x6,x7,.slice ka n kc,.slice la m lc,x10,x11] 44 (0,0)):=by rw[<-hw1];exact heap_alloc_new w _
 have H1:Hid _:=hw1;have HB:Hid (Below w.heap.size w w1):=B1;have HT:Hid (Ac.Lies w w.heap.size e (d+1) V T/\V.k=.slice ka n kc):=⟨hT,hvk⟩
 have HI:Hid (∀W,Below w.heap.size w W->Calls Tryz.prog 105 #[.agg #[x0,x1,x2,x3,x4,x5,x6,x7,.slice ka n kc,.slice la m lc,x10,x11],.int .i64 i] W λe w'=>e=.returned (.int .i64 x)/\Below W.heap.size W w'):=λW hb=>by
  have h:=Tryz.r16Ins_any x0 x1 x2 x3 x4 x5 x6 x7 (.slice ka n kc) x10 x11 la m lc T.ls i W ((hL.keep hb.block).wider hb.size) hml (by omega);rw[hx]at h;exact h
 have HO:Hid (∀W,Below w.heap.size w W->Calls Tryz.prog 106 #[.agg #[x0,x1,x2,x3,x4,x5,x6,x7,.slice ka n kc,.slice la m lc,x10,x11],.int .i64 i] W λe w'=>e=.returned (.int .i64 y)/\Below W.heap.size W w'):=λW hb=>by
  have h:=Tryz.r16Outs_any x0 x1 x2 x3 x4 x5 x6 x7 (.slice ka n kc) x10 x11 la m lc T.ls i W ((hL.keep hb.block).wider hb.size) hml (by omega);rw[hy]at h;exact h
 have HX:Hid (∃h:i<T.ks.length,(T.ks[i]'h).kind=K/\(T.ks[i]'h).a=A/\(T.ks[i]'h).cs.length=q):=⟨hi,hK,hA,hq⟩;have i0:(0:Int)<=i:=by omega
 have i1:(i:Int)<n:=by omega
 have HN:Hid (i<T.ks.length):=hi;have ha:=Tryz.underlying44;have ia:(Tryz.prog.info? 44).map (·.size)=some (#[x0,x1,x2,x3,x4,x5,x6,x7,.slice ka n kc,.slice la m lc,x10,x11]:Array Value).size:=Ak.rinfo;obtain⟨W3,hW3⟩:∃W3:World->Prop,W3=λW=>Below w1.heap.size w1 W:=⟨_,rfl⟩;clear hW3 W3;clear hT hvk hvl hL hm hml hrow hx hy hK hA hq hR hw1 B1 hi _hks hn
 go_enter Tryz.func107,Tryz.ntmps107
 go_upto_region 1 with fail
 rw[H1.out]
 go_wp2_with (refine wpList_load_row rfl 44 _ rfl _ rfl 44 _ (0,0) _ N1 ha rfl ia ?_)
 refine Calls.mono (HI.out _ HB.out) ?_;rintro e W2 ⟨rfl,b2⟩;have B2:Hid (Below w1.heap.size w1 W2):=b2;have HB2:Hid (Below w.heap.size w W2):=HB.out.trans (b2.mono HB.out.size);have N2:=(b2.block _ (Array.getElem?_eq_some_iff.1 N1).1).trans N1;clear b2 N1 HI H1
 go_wp2_with (refine wpList_load_row rfl 44 _ rfl _ rfl 44 _ (0,0) _ N2 ha rfl ia ?_)
 refine Calls.mono (HO.out _ HB2.out) ?_;rintro e W3 ⟨rfl,b3⟩;have HB3:Hid (Below w.heap.size w W3):=HB2.out.trans (b3.mono HB2.out.size);have N3:=(b3.block _ (Array.getElem?_eq_some_iff.1 N2).1).trans N2;have c8:W3.cell? ⟨w.heap.size,8,none⟩=some (.slice ka n kc):=by simp[World.cell?,N3]
 obtain⟨g,off,U,xs,w4,D⟩:=Ak.kid_at HT.out.1 HT.out.2 HB3.out i HN.out;obtain⟨_,z0,z2,z7⟩:=HX.out;have hr0:xs[0]? =some (.int .i64 K):=by rw[<-D.row,<-z0];rfl
 have hr2:xs[2]? =some (.int .i64 A):=by rw[<-D.row,<-z2];rfl
 obtain⟨ca,cc,hvc,_⟩:=D.lies.own.c;have hr7:xs[7]? =some (.slice ca q cc):=by rw[<-D.row,<-z7,<-hvc];rfl
 obtain⟨rfl,-,ryr,xone,ix,ixl,NZ,ez,hw4,NK,-,HD,-⟩:=D;obtain⟨kb,hkb⟩:=pE (W3.heap.size);have HKB:Hid (W3.heap.size=kb):=hkb;have HW4:Hid _:=hw4;have HX4:Hid (Below w.heap.size w w4):=HD;rw[hkb]at NK;have k0:w4.cell? ⟨kb,0,none⟩=some (.int .i64 K):=by simp[World.cell?,NK,hr0]
 have k2:w4.cell? ⟨kb,2,none⟩=some (.int .i64 A):=by simp[World.cell?,NK,hr2]
 have k7:w4.cell? ⟨kb,5+2,none⟩=some (.slice ca q cc):=by simp[World.cell?,NK,hr7]
 have k7':w4.cell? ⟨kb,7,none⟩=some (.slice ca q cc):=k7;clear z0 z2 z7 b3 N2 N3 HO hr0 hr2 hr7 hvc hw4 hkb HD NK
 go_upto_region 4 with(first
  |refine wpList_load_mid rfl 44 _ rfl g (off+i*12) rfl xs.toList _ ryr ha rfl ixl ?_
  |refine wpList_store_row rfl 44 _ _ rfl W3.heap.size xs rfl rfl 44 _ NZ ix ez xone ?_)
 rw[HW4.out,HKB.out];clear ryr NZ HW4 HKB c8 ix ixl ez xone HB HB2 HB3 B2 i0 i1 ia;have ex1:((x:Int)==1)=decide ((x:Int)=1):=rfl;have ey1:((y:Int)==1)=decide ((y:Int)=1):=rfl;have eyq:((y:Int)==(q:Int))=decide ((y:Int)=q):=rfl
 by_cases hK:K=12
 rotate_left
 ·have eK:(K !=12)=true:=by simpa using hK
  have HQ:Hid (R=(decide ((x:Int)=1)&&decide ((y:Int)=1))):=by show _=_;rw[<-HR.out,Ac.kidD,if_neg hK]
  clear hK HR
  by_cases hx1:(x:Int)=1
  ·rw[decide_eq_true hx1]at ex1
   have HQ2:Hid (R=decide ((y:Int)=1)):=by show _=_;rw[HQ.out,decide_eq_true hx1,Bool.true_and]
   clear hx1 HQ;go_wp2;go_ret;exact⟨by rw[HQ2.out];rfl,HX4.out⟩
  rw[decide_eq_false hx1]at ex1;have HQ2:Hid (R=false):=by show _=_;rw[HQ.out,decide_eq_false hx1,Bool.false_and]
  clear hx1 HQ;go_wp2;go_ret;exact⟨by rw[HQ2.out];rfl,HX4.out⟩
 have eK:(K !=12)=false:=by simp[hK]
 by_cases a1:A=1
 ·have f1:(A==1)=true:=by simp[a1]
  have HQ:Hid (R=(decide ((x:Int)=1)&&decide (2<=(y:Int)))):=by show _=_;rw[<-HR.out,Ac.kidD,if_pos hK,if_pos a1]
  clear hK a1 HR
  by_cases hx1:(x:Int)=1
  ·rw[decide_eq_true hx1]at ex1
   have HQ2:Hid (R=decide (2<=(y:Int))):=by show _=_;rw[HQ.out,decide_eq_true hx1,Bool.true_and]
   clear hx1 HQ;go_wp2;go_ret;exact⟨by rw[HQ2.out];rfl,HX4.out⟩
  rw[decide_eq_false hx1]at ex1;have HQ2:Hid (R=false):=by show _=_;rw[HQ.out,decide_eq_false hx1,Bool.false_and]
  clear hx1 HQ;go_wp2;go_ret;exact⟨by rw[HQ2.out];rfl,HX4.out⟩
 have f1:(A==1)=false:=by simpa using a1
 by_cases a3:A=3
 ·have f3:(A==3)=true:=by simp[a3]
  have HQ:Hid (R=(decide ((x:Int)=1)&&decide ((y:Int)=q))):=by show _=_;rw[<-HR.out,Ac.kidD,if_pos hK,if_neg a1,if_pos a3]
  clear hK a1 a3 HR
  by_cases hx1:(x:Int)=1
  ·rw[decide_eq_true hx1]at ex1
   have HQ2:Hid (R=decide ((y:Int)=q)):=by show _=_;rw[HQ.out,decide_eq_true hx1,Bool.true_and]
   clear hx1 HQ;go_wp2;go_ret;exact⟨by rw[HQ2.out];rfl,HX4.out⟩
  rw[decide_eq_false hx1]at ex1;have HQ2:Hid (R=false):=by show _=_;rw[HQ.out,decide_eq_false hx1,Bool.false_and]
  clear hx1 HQ;go_wp2;go_ret;exact⟨by rw[HQ2.out];rfl,HX4.out⟩
 have f3:(A==3)=false:=by simpa using a3
 by_cases a24:A=2∨A=4
 rotate_left
 ·have f2:(A==2)=false:=by simpa using λh=>a24 (.inl h)
  have f4:(A==4)=false:=by simpa using λh=>a24 (.inr h)
  have HQ:Hid (R=true):=by show _=_;rw[<-HR.out,Ac.kidD,if_pos hK,if_neg a1,if_neg a3,if_neg a24]
  clear hK a1 a3 a24 HR ex1 ey1 eyq;go_wp2;go_ret;exact⟨by rw[HQ.out];rfl,HX4.out⟩
 have HQ:Hid (R=(decide (2<=(x:Int))&&decide ((y:Int)=1))):=by show _=_;rw[<-HR.out,Ac.kidD,if_pos hK,if_neg a1,if_neg a3,if_pos a24]
 clear hK a1 a3 HR
 rcases a24 with rfl|rfl
 ·by_cases hx1:2<=(x:Int)
  ·have ex2:decide (2<=(x:Int))=true:=decide_eq_true hx1
   have HQ2:Hid (R=decide ((y:Int)=1)):=by show _=_;rw[HQ.out,ex2,Bool.true_and]
   clear HQ ex1;go_wp2;go_ret;exact⟨by rw[HQ2.out];rfl,HX4.out⟩
  have ex2:decide (2<=(x:Int))=false:=decide_eq_false hx1;have HQ2:Hid (R=false):=by show _=_;rw[HQ.out,ex2,Bool.false_and]
  clear HQ ex1;go_wp2;go_ret;exact⟨by rw[HQ2.out];rfl,HX4.out⟩
 by_cases hx1:2<=(x:Int)
 ·have ex2:decide (2<=(x:Int))=true:=decide_eq_true hx1
  have HQ2:Hid (R=decide ((y:Int)=1)):=by show _=_;rw[HQ.out,ex2,Bool.true_and]
  clear HQ ex1;go_wp2;go_ret;exact⟨by rw[HQ2.out];rfl,HX4.out⟩
 have ex2:decide (2<=(x:Int))=false:=decide_eq_false hx1;have HQ2:Hid (R=false):=by show _=_;rw[HQ.out,ex2,Bool.false_and]
 clear HQ ex1;go_wp2;go_ret;exact⟨by rw[HQ2.out];rfl,HX4.out⟩
end Go.Proofs
