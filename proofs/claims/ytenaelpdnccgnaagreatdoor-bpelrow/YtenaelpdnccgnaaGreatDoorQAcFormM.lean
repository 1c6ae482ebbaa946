import Derived.Test.YtenaelpdnccgnaaGreatDoorQAcLinked
import Derived.Test.YtenaelpdnccgnaaGreatDoorQNtFour
set_option maxRecDepth 100000
set_option maxHeartbeats 32000000
namespace Go.Proofs
open Go.RowKit Go.Shelf
namespace Ac
def zeroOf (k:Int):Ac:=.mk k 0 0 0 (.mk 0 0 []) [] [] [] [] []
noncomputable def leftB (T:Ac):Bool:=by classical exact decide (Same1 T (zeroOf T.kind))&&decide (T.ks.length=0)
def numB (x c:Int):Bool:=decide (0<=x)&&decide (x<c)
def rest (T:Ac):Ac:=
 if T.kind=1 then T
 else if T.kind=5 then .mk T.kind 0 T.a T.b T.t T.cs T.ks T.ls T.ns T.fs
 else if T.kind=2∨T.kind=4 then .mk T.kind 0 0 T.b T.t T.cs T.ks T.ls T.ns T.fs
 else if T.kind=3 then .mk T.kind 0 0 T.b (.mk 0 0 []) T.cs T.ks T.ls T.ns T.fs
 else if T.kind=10 then .mk T.kind 0 0 T.b T.t T.cs [] T.ls T.ns T.fs
 else if T.kind=11 then .mk T.kind 0 0 0 T.t [] [] T.ls T.ns T.fs
 else if T.kind=8 then .mk T.kind 0 0 T.b T.t [] [] T.ls T.ns T.fs
 else if T.kind=9 then .mk T.kind 0 T.a T.b T.t T.cs [] T.ls T.ns T.fs
 else if T.kind=6∨T.kind=7 then .mk T.kind T.node T.a T.b T.t T.cs [] T.ls T.ns T.fs
 else if T.kind=12 then(if T.a=3 then .mk T.kind 0 0 0 T.t [] T.ks T.ls T.ns T.fs else .mk T.kind 0 0 T.b T.t T.cs T.ks T.ls T.ns T.fs)
 else if T.kind=13 then .mk T.kind T.node T.a T.b T.t T.cs [] [] T.ns T.fs
 else .mk T.kind T.node T.a T.b T.t T.cs T.ks T.ls [] []
noncomputable def rightB (T:Ac):Bool:=
 if T.kind=1 then T.holdsB
 else if T.kind=5 then T.holdsB&&numB T.node 24
 else if T.kind=2∨T.kind=4 then(T.holdsB&&numB T.node 24)&&numB T.a 4
 else if T.kind=3 then((T.holdsB&&numB T.node 24)&&Nt.ofB T.t 1)&&numB T.a 4
 else if T.kind=10 then((T.holdsB&&numB T.node 24)&&decide (T.ks.length=1))&&numB T.a 5
 else if T.kind=11 then((((((T.holdsB&&numB T.node 24)&&decide (T.ks.length=2))&&numB T.b T.cs.length)&&decide (T.cs.length=T.ks.length))&&choiceB T.cs T.a)&&numB T.a T.cs.length)&&decide (2<=T.ks.length)
 else if T.kind=8 then((((T.holdsB&&numB T.node 24)&&decide (T.cs.length=T.ks.length))&&choiceB T.cs T.a)&&numB T.a T.cs.length)&&decide (2<=T.ks.length)
 else if T.kind=9 then(T.holdsB&&numB T.node 24)&&decide (2<=T.ks.length)
 else if T.kind=6∨T.kind=7 then T.holdsB&&decide (2<=T.ks.length)
 else if T.kind=12 then(if T.a=3 then(((((T.holdsB&&numB T.node 24)&&decide (2<=T.cs.length))&&choiceB T.cs T.b)&&numB T.b T.cs.length)&&decide (1<=T.a))&&numB T.a 5 else((T.holdsB&&numB T.node 24)&&decide (1<=T.a))&&numB T.a 5)
 else if T.kind=13 then T.holdsB&&T.linkedB
 else if T.kind=14 then T.holdsB&&decide ((Nt.checkN T.ns T.fs).1=0)
 else false
noncomputable def formedB (T:Ac):Bool:=T.rightB&&leftB T.rest
end Ac
structure Ak.Fm (w:World)(X Rb:Nat)(row:Array Value)(b:Bool)(W:World):Prop where
 box:W.heap[X]? =some (.cells row 32 (0,0))
 tr:W.heap[Rb]? =some (.cells #[.bool b] 4 (0,0))
 ne:X≠Rb
 bx:w.heap.size<=X
 br:w.heap.size<=Rb
 bel:Below w.heap.size w W
theorem Ak.Fm.below {w W W':World}{X Rb:Nat}{row:Array Value}{b:Bool}(h:Ak.Fm w X Rb row b W)(hb:Below W.heap.size W W'):Ak.Fm w X Rb row b W':=
 ⟨(hb.block _ (Array.getElem?_eq_some_iff.1 h.box).1).trans h.box,(hb.block _ (Array.getElem?_eq_some_iff.1 h.tr).1).trans h.tr,h.ne,h.bx,h.br,h.bel.trans (hb.mono h.bel.size)⟩
theorem Ak.Fm.setR {w W:World}{X Rb:Nat}{row:Array Value}{b:Bool}(h:Ak.Fm w X Rb row b W)(b':Bool):Ak.Fm w X Rb row b' (W.setCell ⟨Rb,0,none⟩ (.bool b')):=
 ⟨(Below.heap_setCell _ _ _ _ h.ne).trans h.box,by simp[World.setCell,Array.getElem?_modify,h.tr],h.ne,h.bx,h.br,h.bel.trans ((Below.refl _ W).setCell (p:=⟨Rb,0,none⟩) h.br _)⟩
theorem Ak.Fm.setX {w W:World}{X Rb:Nat}{row:Array Value}{b:Bool}(h:Ak.Fm w X Rb row b W)(i:Nat)(v:Value):Ak.Fm w X Rb (row.setIfInBounds i v) b (W.setCell ⟨X,i,none⟩ v):=
 ⟨by simp[World.setCell,Array.getElem?_modify,h.box],(Below.heap_setCell _ _ _ _ (Ne.symm h.ne)).trans h.tr,h.ne,h.bx,h.br,h.bel.trans ((Below.refl _ W).setCell (p:=⟨X,i,none⟩) h.bx _)⟩
theorem Ak.Fm.cell {w W:World}{X Rb:Nat}{row:Array Value}{b:Bool}(h:Ak.Fm w X Rb row b W)(i:Nat):W.cell? ⟨X,i,none⟩=row[i]? :=by simp[World.cell?,h.box]
theorem Ak.Fm.fx {w W:World}{X Rb:Nat}{row:Array Value}{b:Bool}(h:Ak.Fm w X Rb row b W)(i:Nat):W.frozen? ⟨X,i,none⟩=false:=by simp[World.frozen?,h.box]
theorem Ak.Fm.fr {w W:World}{X Rb:Nat}{row:Array Value}{b:Bool}(h:Ak.Fm w X Rb row b W):W.frozen? ⟨Rb,0,none⟩=false:=by simp[World.frozen?,h.tr]
theorem Ak.Fm.cr {w W:World}{X Rb:Nat}{row:Array Value}{b:Bool}(h:Ak.Fm w X Rb row b W):W.cell? ⟨Rb,0,none⟩=some (.bool b):=by simp[World.cell?,h.tr]
theorem Ak.iact:(Tryz.prog.info? 32).map (·.size)=some 12:=by kernel_rfl
theorem Ak.fm_box {w w1:World}{Y:Array Value}(h:w.alloc (.cells Y 32)=w1):Hid (Below w.heap.size w w1/\w1.heap[w.heap.size]? =some (.cells Y 32 (0,0))):=by
 subst h;exact⟨(Below.refl _ w).alloc (Nat.le_refl _) _,heap_alloc_new w _⟩
theorem Ak.fm_new {w w1 W2 W3:World}{Y:Array Value}{b:Bool}(h:Below w.heap.size w w1/\w1.heap[w.heap.size]? =some (.cells Y 32 (0,0)))(hb:Below w1.heap.size w1 W2)(h3:W2.alloc (.cells #[.bool b] 4)=W3):Hid (Ak.Fm w w.heap.size W2.heap.size Y b W3):=by
 subst h3;have hl:=(Array.getElem?_eq_some_iff.1 h.2).1;have h2:=(hb.block _ hl).trans h.2;have hl2:=(Array.getElem?_eq_some_iff.1 h2).1;have b3:Below W2.heap.size W2 (W2.alloc (.cells #[.bool b] 4)):=(Below.refl _ W2).alloc (Nat.le_refl _) _;have b2:Below w.heap.size w W2:=h.1.trans (hb.mono h.1.size);exact⟨(b3.block _ hl2).trans h2,heap_alloc_new W2 _,by omega,Nat.le_refl _,b2.size,b2.trans (b3.mono b2.size)⟩
end Go.Proofs
namespace Go.Proofs
namespace Ac
def hasA (k:Int):Bool:=decide (k=2∨k=3∨k=4∨k=8∨k=10∨k=11∨k=12)
def hasB' (k a:Int):Bool:=decide (k=11∨(k=12/\a=3))
def hasC (k a:Int):Bool:=decide (k=8∨k=11∨(k=12/\a=3))
def hasK (k:Int):Bool:=decide (k=6∨k=7∨k=8∨k=9∨k=10∨k=11∨k=13)
def Bare (T:Ac):Prop:=
 (hasNodeB T.kind=false->T.node=0)/\(hasA T.kind=false->T.a=0)/\(hasB' T.kind T.a=false->T.b=0)/\(T.kind≠3->Nt.zeroB T.t=true)/\
 (hasC T.kind T.a=false->T.cs.length=0)/\(hasK T.kind=false->T.ks.length=0)/\(T.kind≠13->T.ls.length=0)/\(T.kind≠14->T.ns.length=0/\T.fs.length=0)
def Conds (cs:List Tm)(o:Int):Prop:=(0<=o/\o<cs.length)/\choiceB cs o=true
def kidD (k a:Int)(n:Nat)(x y:Int):Bool:=
 if k=12 then(if a=1 then decide (x=1)&&decide (2<=y)else if a=3 then decide (x=1)&&decide (y=n)else if a=2∨a=4 then decide (2<=x)&&decide (y=1)else true)else decide (x=1)&&decide (y=1)
def inN (ls:List (Int×Int))(i:Int):Nat:=ls.countP λl=>decide (l.2=i)
def outN (ls:List (Int×Int))(i:Int):Nat:=ls.countP λl=>decide (l.1=i)
def LinkD (T:Ac):Prop:=T.ls.all (inR T.ks.length)=true/\(inN T.ls (-1)=1/\outN T.ls (-1)=1/\T.ls.length<=40/\T.ks.length<=64)/\
 (∀i (h:i<T.ks.length),kidD T.ks[i].kind T.ks[i].a T.ks[i].cs.length (inN T.ls i) (outN T.ls i)=true)/\freeB T.ks.length (bet T.ls)=true
def Numbered (T:Ac):Prop:=
 T.kind=1∨T.kind=5∨((T.kind=2∨T.kind=4)/\0<=T.a/\T.a<=3)∨(T.kind=3/\(0<=T.a/\T.a<=3)/\Nt.ofB T.t 1=true)∨((T.kind=6∨T.kind=7∨T.kind=9)/\2<=T.ks.length)∨
 (T.kind=8/\2<=T.ks.length/\T.cs.length=T.ks.length/\Conds T.cs T.a)∨(T.kind=10/\T.ks.length=1/\0<=T.a/\T.a<=4)∨
 (T.kind=11/\T.ks.length=2/\T.cs.length=2/\Conds T.cs T.a/\(T.b=0∨T.b=1))∨(T.kind=12/\T.a=3/\2<=T.cs.length/\Conds T.cs T.b)∨(T.kind=12/\T.a≠3/\1<=T.a/\T.a<=4)∨
 (T.kind=13/\1<=T.ks.length/\T.LinkD)∨(T.kind=14/\(Nt.checkN T.ns T.fs).1=0)
def kidBadD (K k:Int):Bool:=decide (13<=k∨(k=12/\K≠13)∨(k=10/\K≠9)∨(k≠10/\K=9))
def FormD (T:Ac):Prop:=T.Bare/\(0<=T.node/\T.node<=23)/\T.Numbered/\∀k∈T.ks,kidBadD T.kind k.kind=false
end Ac
end Go.Proofs
namespace Go.Proofs
open Go.RowKit Go.Shelf
def Ac.hasL (k a:Int):List UInt8:=
 if k=2∨k=4 then [110,97]else if k=3 then [110,97,116]else if k=5 then [110]else if k=6∨k=7 then [107]else if k=8 then [110,97,107,99]
 else if k=9 then [110,107]else if k=10 then [110,97,107]else if k=11 then [110,97,98,107,99]else if k=12 then(if a=3 then [110,97,98,99]else [110,97])
 else if k=13 then [107,108]else if k=14 then [112]else []
theorem Tryz.r16Has_any (k a:Int)(x1 x3 x4 x5 x6 x7 x8 x9 x10 x11:Value)(w:World):
  Calls Tryz.prog 54 #[.agg #[.int .i64 k,x1,.int .i64 a,x3,x4,x5,x6,x7,x8,x9,x10,x11]] w λe w'=>e=.returned (.string ⟨(Ac.hasL k a).toArray⟩)/\Below w.heap.size w w':=by
 obtain⟨R,hR⟩:=pE (Ac.hasL k a);rw[hR];obtain⟨w1,hw1⟩:=pE (w.alloc (.cells #[.int .i64 k,x1,.int .i64 a,x3,x4,x5,x6,x7,x8,x9,x10,x11] 44));have B1:Hid (Below w.heap.size w w1):=by show Below _ _ _;rw[<-hw1];exact(Below.refl _ w).alloc (Nat.le_refl _) _
 have N1:w1.heap[w.heap.size]? =some (.cells #[.int .i64 k,x1,.int .i64 a,x3,x4,x5,x6,x7,x8,x9,x10,x11] 44 (0,0)):=by rw[<-hw1];exact heap_alloc_new w _
 have c0:w1.cell? ⟨w.heap.size,0,none⟩=some (.int .i64 k):=by simp[World.cell?,N1]
 have c2:w1.cell? ⟨w.heap.size,2,none⟩=some (.int .i64 a):=by simp[World.cell?,N1]
 have H1:Hid _:=hw1;have HR:Hid (Ac.hasL k a=R):=hR;clear hw1 N1 hR
 go_enter Tryz.func54,Tryz.ntmps54
 go_upto_region 1 with fail
 rw[H1.out];clear H1
 by_cases k2:k=2
 ·subst k2;go_wp2;go_ret;exact⟨by rw[<-HR.out];rfl,B1.out⟩
 have e2:(k==2)=false:=by simpa using k2
 by_cases k4:k=4
 ·subst k4;go_wp2;go_ret;exact⟨by rw[<-HR.out];rfl,B1.out⟩
 have e4:(k==4)=false:=by simpa using k4
 by_cases k3:k=3
 ·subst k3;go_wp2;go_ret;exact⟨by rw[<-HR.out];rfl,B1.out⟩
 have e3:(k==3)=false:=by simpa using k3
 by_cases k5:k=5
 ·subst k5;go_wp2;go_ret;exact⟨by rw[<-HR.out];rfl,B1.out⟩
 have e5:(k==5)=false:=by simpa using k5
 by_cases k6:k=6
 ·subst k6;go_wp2;go_ret;exact⟨by rw[<-HR.out];rfl,B1.out⟩
 have e6:(k==6)=false:=by simpa using k6
 by_cases k7:k=7
 ·subst k7;go_wp2;go_ret;exact⟨by rw[<-HR.out];rfl,B1.out⟩
 have e7:(k==7)=false:=by simpa using k7
 by_cases k8:k=8
 ·subst k8;go_wp2;go_ret;exact⟨by rw[<-HR.out];rfl,B1.out⟩
 have e8:(k==8)=false:=by simpa using k8
 by_cases k9:k=9
 ·subst k9;go_wp2;go_ret;exact⟨by rw[<-HR.out];rfl,B1.out⟩
 have e9:(k==9)=false:=by simpa using k9
 by_cases k10:k=10
 ·subst k10;go_wp2;go_ret;exact⟨by rw[<-HR.out];rfl,B1.out⟩
 have e10:(k==10)=false:=by simpa using k10
 by_cases k11:k=11
 ·subst k11;go_wp2;go_ret;exact⟨by rw[<-HR.out];rfl,B1.out⟩
 have e11:(k==11)=false:=by simpa using k11
 by_cases k12:k=12
 ·subst k12
  by_cases a3:a=3
  ·subst a3;go_wp2;go_ret;exact⟨by rw[<-HR.out];rfl,B1.out⟩
  have f3:(a==3)=false:=by simpa using a3
  have HQ:Hid (R= [110,97]):=by show _=_;rw[<-HR.out];unfold Ac.hasL;rw[if_neg a3];rfl
  clear a3;go_wp2;go_ret;exact⟨by rw[HQ.out];rfl,B1.out⟩
 have e12:(k==12)=false:=by simpa using k12
 by_cases k13:k=13
 ·subst k13;go_wp2;go_ret;exact⟨by rw[<-HR.out];rfl,B1.out⟩
 have e13:(k==13)=false:=by simpa using k13
 by_cases k14:k=14
 ·subst k14;go_wp2;go_ret;exact⟨by rw[<-HR.out];rfl,B1.out⟩
 have e14:(k==14)=false:=by simpa using k14
 have HQ:Hid (R= []):=by
  show _=_;rw[<-HR.out];unfold Ac.hasL;rw[if_neg (by omega),if_neg k3,if_neg k5,if_neg (by omega),if_neg k8,if_neg k9,if_neg k10,if_neg k11,if_neg k12,if_neg k13,if_neg k14]
 clear k2 k3 k4 k5 k6 k7 k8 k9 k10 k11 k12 k13 k14;go_wp2;go_ret;exact⟨by rw[HQ.out];rfl,B1.out⟩
def Ac.inB (L:List UInt8)(c:Int):Bool:=L.any λb=>decide ((b.toNat:Int)=c)
theorem Tryz.r16in_any (s:ByteArray)(c:Int)(w:World)(hs:s.size<=2147483647):
  Calls Tryz.prog 53 #[.string s,.int .u8 c] w λe w'=>e=.returned (.bool (Ac.inB s.data.toList c))/\w'=w:=by
 obtain⟨n,hn⟩:=pE (s.size);obtain⟨R,hR⟩:=pE (Ac.inB s.data.toList c);rw[hR];have HR:Hid (Ac.inB s.data.toList c=R):=hR;clear hR
 go_enter Tryz.func53,Tryz.ntmps53
 go_wp2
 go_loopg [5] s.size (λgk s5 wr=>∃j:Nat,gk+j=s.size/\s5=.int .i64 j/\wr=w/\Hid (∀i (h:i<s.size),i<j->¬((s[i].toNat:Int)=c)))
 case atStart=>exact⟨0,by omega,rfl,rfl,λi _ h=>absurd h (by omega)⟩
 case round=>
  obtain⟨j,hj,rfl,rfl,HJ⟩:=hrel
  by_cases hlt:j<s.size
  ·have hd:decide ((j:Int)<s.size)=true:=decide_eq_true (by omega)
   by_cases hc:(s[j].toNat:Int)=c
   ·have he:((s[j].toNat:Int)==c)=true:=by simpa using hc
    have HQ:Hid (R=true):=by
     show _=_;rw[<-HR.out];unfold Ac.inB;rw[List.any_eq_true];exact⟨s[j],List.getElem_mem (l:=s.data.toList) (n:=j) hlt,decide_eq_true hc⟩
    clear hc;go_wp2;go_ret;exact⟨by rw[HQ.out];rfl,rfl⟩
   have he:((s[j].toNat:Int)==c)=false:=by simpa using hc
   have HC:Hid (¬((s[j].toNat:Int)=c)):=hc;clear hc;go_wp2;go_roundg (gk-1)
   case measure=>omega
   case rel=>
    refine⟨j+1,by omega,by go_num,rfl,λi h hi=> ?_⟩
    by_cases e:i=j
    ·subst e;exact HC.out
    exact HJ.out i h (by omega)
  have hd:decide ((j:Int)<s.size)=false:=decide_eq_false (by omega)
  have HQ:Hid (R=false):=by
   show _=_;rw[<-HR.out];unfold Ac.inB;rw[List.any_eq_false];intro b hb;obtain⟨i,hi,rfl⟩:=List.getElem_of_mem hb;have hi':i<s.size:=hi;exact λh=>HJ.out i hi' (by omega) (of_decide_eq_true h)
  go_wp2;go_ret;exact⟨by rw[HQ.out];rfl,rfl⟩
theorem Tryz.r16none_any (d:Nat)(T:Tm)(v:Value)(w:World)(hT:Tm.Lies w w.heap.size d v T)(hsz:T.size<=2147483647):
  Calls Tryz.prog 75 #[.agg #[.int .i64 T.op,.int .i64 T.num,v]] w λe w'=>e=.returned (.bool (Nt.zeroB T))/\Below w.heap.size w w':=by
 obtain⟨a,cap,rfl⟩:=hT.shape;have A0:Below w.heap.size w (w.alloc (.cells #[.int .i64 T.op,.int .i64 T.num,.slice a T.ks.length cap] 24)):=(Below.refl _ w).alloc (Nat.le_refl _) _;have hc:=Tryz.plainTerm_any d T (.mk 0 0 []) (.slice a T.ks.length cap) (.slice none 0 0) 1 _ _ ((hT.below A0).wider A0.size) (Tm.lies_zero _ _) (Nat.le_refl _) hsz (by simp[Tm.size,Tm.sizes]);obtain⟨o,ho⟩:=pE (T.op);obtain⟨m,hm⟩:=pE (T.num);obtain⟨n,hn⟩:=pE (T.ks.length);obtain⟨b,hb⟩:=pE (Nt.zeroB T);rw[ho,hm,hn]at hc A0;rw[Nt.zero_iff,hb]at hc;rw[hb,ho,hm,hn];simp only[Tm.op,Tm.num]at hc;have HC:Hid _:=hc;have HA:Hid _:=A0;clear hc A0 hT hsz ho hm hn hb
 go_enter Tryz.func75,Tryz.ntmps75
 go_wp2_with fail
 refine Calls.mono HC.out ?_;rintro e W1 ⟨⟨r,rfl,hr⟩,hb1⟩;have B1:Hid (Below w.heap.size w W1):=HA.out.trans (hb1.mono HA.out.size);have hrb:r=b:=by cases r<;>cases b<;>simp at hr⊢
 subst hrb;clear hb1 HC hr;go_wp2;go_ret;exact⟨rfl,B1.out⟩
theorem Tryz.r16Ins_any (x0 x1 x2 x3 x4 x5 x6 x7 x8 x10 x11:Value)(la:Option Addr)(m lc:Nat)(ls:List (Int×Int))(kid:Int)(w:World)(hL:Ac.Lks w w.heap.size la ls)(hm:ls.length=m)(h60:m<=2147483647):
  Calls Tryz.prog 105 #[.agg #[x0,x1,x2,x3,x4,x5,x6,x7,x8,.slice la m lc,x10,x11],.int .i64 kid] w λe w'=>e=.returned (.int .i64 (Ac.inN ls kid))/\Below w.heap.size w w':=by
 obtain⟨R,hR⟩:=pE (Ac.inN ls kid);rw[hR];obtain⟨w1,hw1⟩:=pE (w.alloc (.cells #[x0,x1,x2,x3,x4,x5,x6,x7,x8,.slice la m lc,x10,x11] 44));have B1:=pB hw1
 have N1:w1.heap[w.heap.size]? =some (.cells #[x0,x1,x2,x3,x4,x5,x6,x7,x8,.slice la m lc,x10,x11] 44 (0,0)):=by rw[<-hw1];exact heap_alloc_new w _
 have c9:w1.cell? ⟨w.heap.size,9,none⟩=some (.slice la m lc):=by simp[World.cell?,N1]
 have H1:Hid _:=hw1;have HB:Hid (Below w.heap.size w w1):=B1;have HL:Hid (Ac.Lks w w.heap.size la ls/\ls.length=m):=⟨hL,hm⟩;have HR:Hid (Ac.inN (ls.take m) kid=R):=by show _=_;rw[<-hm,List.take_length];exact hR
 clear hL hm hR hw1 B1 N1
 go_enter Tryz.func105,Tryz.ntmps105
 go_upto_region 1 with fail
 rw[H1.out];go_wp2
 go_loopg [5,11] m (λgk s5 s11 wr=>∃j c:Nat,gk+j=m/\s11=.int .i64 j/\s5=.int .i64 c/\c<=j/\Hid (c=Ac.inN (ls.take j) kid/\Below w1.heap.size w1 wr))
 case atStart=>exact⟨0,0,by omega,rfl,rfl,Nat.le_refl _,rfl,Below.refl _ w1⟩
 case round=>
  obtain⟨j,c,hj,rfl,rfl,hcj,HJ⟩:=hrel;clear c9
  by_cases hlt:j<m
  rotate_left
  ·have hd:decide ((j:Int)<m)=false:=decide_eq_false (by omega)
   have hE:c=R:=by
    obtain rfl:j=m:=by omega
    rw[HJ.out.1,HR.out]
   have HX:Hid (Below w.heap.size w wr):=HB.out.trans (HJ.out.2.mono HB.out.size);subst hE;go_wp2;go_ret;exact⟨rfl,HX.out⟩
  have hd:decide ((j:Int)<m)=true:=decide_eq_true (by omega);have hjl:j<ls.length:=by rw[HL.out.2];exact hlt
  obtain⟨q,off,rfl,hq,d0,d1⟩:=HL.out.1 j hjl;obtain⟨x,hx⟩:=pE (ls[j]);obtain⟨a,b⟩:=x;rw[hx]at d0 d1;have j0:(0:Int)<=j:=by omega
  have j1:(j:Int)<m:=by omega
  have BW:Below w.heap.size w wr:=HB.out.trans (HJ.out.2.mono HB.out.size);have e0:wr.cell? ⟨q,off+j*2,none⟩=some (.int .i64 a):=by rw[BW.cell (p:=⟨q,off+j*2,none⟩) hq];exact d0
  have e1:wr.cell? ⟨q,off+j*2+1,none⟩=some (.int .i64 b):=by rw[BW.cell (p:=⟨q,off+j*2+1,none⟩) hq];exact d1
  have HS:Hid (Ac.inN (ls.take (j+1)) kid=c+if b=kid then 1 else 0):=by
   show _=_;rw[List.take_succ_eq_append_getElem hjl,hx,HJ.out.1];unfold Ac.inN;rw[List.countP_append,List.countP_singleton]
   by_cases q:b=kid<;>simp[q]
  have HB2:Hid (Below w1.heap.size w1 (wr.alloc (.cells #[.int .i64 a,.int .i64 b] 70))):=HJ.out.2.alloc HJ.out.2.size _;clear d0 d1 hx hjl hq BW HJ
  by_cases ha:b=kid
  ·have he:(b==kid)=true:=by simpa using ha
   have HN:Hid (Ac.inN (ls.take (j+1)) kid=c+1):=by show _=_;rw[HS.out,if_pos ha]
   clear ha HS;go_wp2;go_roundg (gk-1)
   case measure=>omega
   case rel=>exact⟨j+1,c+1,by omega,by go_num,by go_num,by omega,HN.out.symm,HB2.out⟩
  have he:(b==kid)=false:=by simpa using ha
  have HN:Hid (Ac.inN (ls.take (j+1)) kid=c):=by show _=_;rw[HS.out,if_neg ha,Nat.add_zero]
  clear ha HS;go_wp2;go_roundg (gk-1)
  case measure=>omega
  case rel=>exact⟨j+1,c,by omega,by go_num,by go_num,by omega,HN.out.symm,HB2.out⟩
theorem Tryz.r16Outs_any (x0 x1 x2 x3 x4 x5 x6 x7 x8 x10 x11:Value)(la:Option Addr)(m lc:Nat)(ls:List (Int×Int))(kid:Int)(w:World)(hL:Ac.Lks w w.heap.size la ls)(hm:ls.length=m)(h60:m<=2147483647):
  Calls Tryz.prog 106 #[.agg #[x0,x1,x2,x3,x4,x5,x6,x7,x8,.slice la m lc,x10,x11],.int .i64 kid] w λe w'=>e=.returned (.int .i64 (Ac.outN ls kid))/\Below w.heap.size w w':=by
 obtain⟨R,hR⟩:=pE (Ac.outN ls kid);rw[hR];obtain⟨w1,hw1⟩:=pE (w.alloc (.cells #[x0,x1,x2,x3,x4,x5,x6,x7,x8,.slice la m lc,x10,x11] 44));have B1:=pB hw1
 have N1:w1.heap[w.heap.size]? =some (.cells #[x0,x1,x2,x3,x4,x5,x6,x7,x8,.slice la m lc,x10,x11] 44 (0,0)):=by rw[<-hw1];exact heap_alloc_new w _
 have c9:w1.cell? ⟨w.heap.size,9,none⟩=some (.slice la m lc):=by simp[World.cell?,N1]
 have H1:Hid _:=hw1;have HB:Hid (Below w.heap.size w w1):=B1;have HL:Hid (Ac.Lks w w.heap.size la ls/\ls.length=m):=⟨hL,hm⟩;have HR:Hid (Ac.outN (ls.take m) kid=R):=by show _=_;rw[<-hm,List.take_length];exact hR
 clear hL hm hR hw1 B1 N1
 go_enter Tryz.func106,Tryz.ntmps106
 go_upto_region 1 with fail
 rw[H1.out];go_wp2
 go_loopg [5,11] m (λgk s5 s11 wr=>∃j c:Nat,gk+j=m/\s11=.int .i64 j/\s5=.int .i64 c/\c<=j/\Hid (c=Ac.outN (ls.take j) kid/\Below w1.heap.size w1 wr))
 case atStart=>exact⟨0,0,by omega,rfl,rfl,Nat.le_refl _,rfl,Below.refl _ w1⟩
 case round=>
  obtain⟨j,c,hj,rfl,rfl,hcj,HJ⟩:=hrel;clear c9
  by_cases hlt:j<m
  rotate_left
  ·have hd:decide ((j:Int)<m)=false:=decide_eq_false (by omega)
   have hE:c=R:=by
    obtain rfl:j=m:=by omega
    rw[HJ.out.1,HR.out]
   have HX:Hid (Below w.heap.size w wr):=HB.out.trans (HJ.out.2.mono HB.out.size);subst hE;go_wp2;go_ret;exact⟨rfl,HX.out⟩
  have hd:decide ((j:Int)<m)=true:=decide_eq_true (by omega);have hjl:j<ls.length:=by rw[HL.out.2];exact hlt
  obtain⟨q,off,rfl,hq,d0,d1⟩:=HL.out.1 j hjl;obtain⟨x,hx⟩:=pE (ls[j]);obtain⟨a,b⟩:=x;rw[hx]at d0 d1;have j0:(0:Int)<=j:=by omega
  have j1:(j:Int)<m:=by omega
  have BW:Below w.heap.size w wr:=HB.out.trans (HJ.out.2.mono HB.out.size);have e0:wr.cell? ⟨q,off+j*2,none⟩=some (.int .i64 a):=by rw[BW.cell (p:=⟨q,off+j*2,none⟩) hq];exact d0
  have e1:wr.cell? ⟨q,off+j*2+1,none⟩=some (.int .i64 b):=by rw[BW.cell (p:=⟨q,off+j*2+1,none⟩) hq];exact d1
  have HS:Hid (Ac.outN (ls.take (j+1)) kid=c+if a=kid then 1 else 0):=by
   show _=_;rw[List.take_succ_eq_append_getElem hjl,hx,HJ.out.1];unfold Ac.outN;rw[List.countP_append,List.countP_singleton]
   by_cases q:a=kid<;>simp[q]
  have HB2:Hid (Below w1.heap.size w1 (wr.alloc (.cells #[.int .i64 a,.int .i64 b] 70))):=HJ.out.2.alloc HJ.out.2.size _;clear d0 d1 hx hjl hq BW HJ
  by_cases ha:a=kid
  ·have he:(a==kid)=true:=by simpa using ha
   have HN:Hid (Ac.outN (ls.take (j+1)) kid=c+1):=by show _=_;rw[HS.out,if_pos ha]
   clear ha HS;go_wp2;go_roundg (gk-1)
   case measure=>omega
   case rel=>exact⟨j+1,c+1,by omega,by go_num,by go_num,by omega,HN.out.symm,HB2.out⟩
  have he:(a==kid)=false:=by simpa using ha
  have HN:Hid (Ac.outN (ls.take (j+1)) kid=c):=by show _=_;rw[HS.out,if_neg ha,Nat.add_zero]
  clear ha HS;go_wp2;go_roundg (gk-1)
  case measure=>omega
  case rel=>exact⟨j+1,c,by omega,by go_num,by go_num,by omega,HN.out.symm,HB2.out⟩
end Go.Proofs
