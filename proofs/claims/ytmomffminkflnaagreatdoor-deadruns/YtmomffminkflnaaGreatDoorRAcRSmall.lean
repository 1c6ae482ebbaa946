import Derived.Test.YtmomffminkflnaaGreatDoorRDdR4
set_option maxRecDepth 100000
set_option maxHeartbeats 32000000
namespace Go.Proofs
open Go.RowKit Go.Shelf
def Ac.hasL(k a:Int):List UInt8:=
 if k=2∨k=4 then [110,97]else if k=3 then [110,97,116]else if k=5 then [110]else if k=6∨k=7 then [107]else if k=8 then [110,97,107,99]
 else if k=9 then [110,107]else if k=10 then [110,97,107]else if k=11 then [110,97,98,107,99]else if k=12 then(if a=3 then [110,97,98,99]else [110,97])
 else if k=13 then [107,108]else if k=14 then [112]else []
theorem Tryz.r16Has_any(k a:Int)(x1 x3 x4 x5 x6 x7 x8 x9 x10 x11:Value)(w:World):
  Calls Tryz.prog 53 #[.agg #[.int .i64 k,x1, .int .i64 a,x3,x4,x5,x6,x7,x8,x9,x10,x11]]w λe w'=>e= .returned(.string⟨(Ac.hasL k a).toArray⟩)/\Below w.heap.size w w':=by
 obtain⟨R,hR⟩: ∃R,Ac.hasL k a=R:=⟨_,rfl⟩;rw [hR];obtain⟨w1,hw1⟩: ∃z,w.alloc(.cells #[.int .i64 k,x1, .int .i64 a,x3,x4,x5,x6,x7,x8,x9,x10,x11]48)=z:=⟨_,rfl⟩;have B1:Hid(Below w.heap.size w w1):=by show Below _ _ _;rw [<-hw1];exact(Below.refl _ w).alloc(Nat.le_refl _)_
 have N1:w1.heap[w.heap.size]? =some(.cells #[.int .i64 k,x1, .int .i64 a,x3,x4,x5,x6,x7,x8,x9,x10,x11]48(0,0)):=by rw [<-hw1];exact heap_alloc_new w _
 have c0:w1.cell? ⟨w.heap.size,0,none⟩=some(.int .i64 k):=by simp [World.cell?,N1]
 have c2:w1.cell? ⟨w.heap.size,2,none⟩=some(.int .i64 a):=by simp [World.cell?,N1]
 have H1:Hid _:=hw1;have HR:Hid(Ac.hasL k a=R):=hR;clear hw1 N1 hR
 go_enter Tryz.func53,Tryz.ntmps53
 go_upto_region 1 with fail
 rw [H1.out];clear H1
 by_cases k2:k=2
 ·subst k2;go_wp2;go_ret;exact⟨by rw [<-HR.out];rfl,B1.out⟩
 have e2:(k==2)=false:=by simpa using k2
 by_cases k4:k=4
 ·subst k4;go_wp2;go_ret;exact⟨by rw [<-HR.out];rfl,B1.out⟩
 have e4:(k==4)=false:=by simpa using k4
 by_cases k3:k=3
 ·subst k3;go_wp2;go_ret;exact⟨by rw [<-HR.out];rfl,B1.out⟩
 have e3:(k==3)=false:=by simpa using k3
 by_cases k5:k=5
 ·subst k5;go_wp2;go_ret;exact⟨by rw [<-HR.out];rfl,B1.out⟩
 have e5:(k==5)=false:=by simpa using k5
 by_cases k6:k=6
 ·subst k6;go_wp2;go_ret;exact⟨by rw [<-HR.out];rfl,B1.out⟩
 have e6:(k==6)=false:=by simpa using k6
 by_cases k7:k=7
 ·subst k7;go_wp2;go_ret;exact⟨by rw [<-HR.out];rfl,B1.out⟩
 have e7:(k==7)=false:=by simpa using k7
 by_cases k8:k=8
 ·subst k8;go_wp2;go_ret;exact⟨by rw [<-HR.out];rfl,B1.out⟩
 have e8:(k==8)=false:=by simpa using k8
 by_cases k9:k=9
 ·subst k9;go_wp2;go_ret;exact⟨by rw [<-HR.out];rfl,B1.out⟩
 have e9:(k==9)=false:=by simpa using k9
 by_cases k10:k=10
 ·subst k10;go_wp2;go_ret;exact⟨by rw [<-HR.out];rfl,B1.out⟩
 have e10:(k==10)=false:=by simpa using k10
 by_cases k11:k=11
 ·subst k11;go_wp2;go_ret;exact⟨by rw [<-HR.out];rfl,B1.out⟩
 have e11:(k==11)=false:=by simpa using k11
 by_cases k12:k=12
 ·subst k12
  by_cases a3:a=3
  ·subst a3;go_wp2;go_ret;exact⟨by rw [<-HR.out];rfl,B1.out⟩
  have f3:(a==3)=false:=by simpa using a3
  have HQ:Hid(R= [110,97]):=by show _=_;rw [<-HR.out];unfold Ac.hasL;rw [if_neg a3];rfl
  clear a3;go_wp2;go_ret;exact⟨by rw [HQ.out];rfl,B1.out⟩
 have e12:(k==12)=false:=by simpa using k12
 by_cases k13:k=13
 ·subst k13;go_wp2;go_ret;exact⟨by rw [<-HR.out];rfl,B1.out⟩
 have e13:(k==13)=false:=by simpa using k13
 by_cases k14:k=14
 ·subst k14;go_wp2;go_ret;exact⟨by rw [<-HR.out];rfl,B1.out⟩
 have e14:(k==14)=false:=by simpa using k14
 have HQ:Hid(R= []):=by
  show _=_;rw [<-HR.out];unfold Ac.hasL;rw [if_neg(by omega),if_neg k3,if_neg k5,if_neg(by omega),if_neg k8,if_neg k9,if_neg k10,if_neg k11,if_neg k12,if_neg k13,if_neg k14]
 clear k2 k3 k4 k5 k6 k7 k8 k9 k10 k11 k12 k13 k14;go_wp2;go_ret;exact⟨by rw [HQ.out];rfl,B1.out⟩
def Ac.inB(L:List UInt8)(c:Int):Bool:=L.any λb=>decide((b.toNat:Int)=c)
theorem Tryz.r16in_any(s:ByteArray)(c:Int)(w:World)(hs:s.size<=2147483647):
  Calls Tryz.prog 52 #[.string s, .int .u8 c]w λe w'=>e= .returned(.bool(Ac.inB s.data.toList c))/\w'=w:=by
 obtain⟨n,hn⟩: ∃n,s.size=n:=⟨_,rfl⟩;obtain⟨R,hR⟩: ∃R,Ac.inB s.data.toList c=R:=⟨_,rfl⟩;rw [hR];have HR:Hid(Ac.inB s.data.toList c=R):=hR;clear hR
 go_enter Tryz.func52,Tryz.ntmps52
 go_wp2
 go_loopg [5]s.size(λgk s5 wr=> ∃j:Nat,gk+j=s.size/\s5= .int .i64 j/\wr=w/\Hid(∀i(h:i<s.size),i<j-> ¬((s[i].toNat:Int)=c)))
 case atStart=>exact⟨0,by omega,rfl,rfl,λi _ h=>absurd h(by omega)⟩
 case round=>
  obtain⟨j,hj,rfl,rfl,HJ⟩:=hrel
  by_cases hlt:j<s.size
  ·have hd:decide((j:Int)<s.size)=true:=decide_eq_true(by omega)
   by_cases hc:(s[j].toNat:Int)=c
   ·have he:((s[j].toNat:Int)==c)=true:=by simpa using hc
    have HQ:Hid(R=true):=by
     show _=_;rw [<-HR.out];unfold Ac.inB;rw [List.any_eq_true];exact⟨s[j],List.getElem_mem(l:=s.data.toList)(n:=j)hlt,decide_eq_true hc⟩
    clear hc;go_wp2;go_ret;exact⟨by rw [HQ.out];rfl,rfl⟩
   have he:((s[j].toNat:Int)==c)=false:=by simpa using hc
   have HC:Hid(¬((s[j].toNat:Int)=c)):=hc;clear hc;go_wp2;go_roundg(gk-1)
   case measure=>omega
   case rel=>
    refine⟨j+1,by omega,by go_num,rfl,λi h hi=> ?_⟩
    by_cases e:i=j
    ·subst e;exact HC.out
    exact HJ.out i h(by omega)
  have hd:decide((j:Int)<s.size)=false:=decide_eq_false(by omega)
  have HQ:Hid(R=false):=by
   show _=_;rw [<-HR.out];unfold Ac.inB;rw [List.any_eq_false];intro b hb;obtain⟨i,hi,rfl⟩:=List.getElem_of_mem hb;have hi':i<s.size:=hi;exact λh=>HJ.out i hi'(by omega)(of_decide_eq_true h)
  go_wp2;go_ret;exact⟨by rw [HQ.out];rfl,rfl⟩
theorem Tryz.r16none_any(d:Nat)(T:Tm)(v:Value)(w:World)(hT:Tm.Lies w w.heap.size d v T)(hsz:T.size<=2147483647):
  Calls Tryz.prog 67 #[.agg #[.int .i64 T.op, .int .i64 T.num,v]]w λe w'=>e= .returned(.bool(Nt.zeroB T))/\Below w.heap.size w w':=by
 obtain⟨a,cap,rfl⟩:=hT.shape;have A0:Below w.heap.size w(w.alloc(.cells #[.int .i64 T.op, .int .i64 T.num, .slice a T.ks.length cap]24)):=(Below.refl _ w).alloc(Nat.le_refl _)_;have hc:=Tryz.plainTerm_any d T(.mk 0 0 [])(.slice a T.ks.length cap)(.slice none 0 0)1 _ _((hT.below A0).wider A0.size)(Tm.lies_zero _ _)(Nat.le_refl _)hsz(by simp [Tm.size,Tm.sizes]);obtain⟨o,ho⟩: ∃o,T.op=o:=⟨_,rfl⟩;obtain⟨m,hm⟩: ∃m,T.num=m:=⟨_,rfl⟩;obtain⟨n,hn⟩: ∃n,T.ks.length=n:=⟨_,rfl⟩;obtain⟨b,hb⟩: ∃b,Nt.zeroB T=b:=⟨_,rfl⟩;rw [ho,hm,hn]at hc A0;rw [Nt.zero_iff,hb]at hc;rw [hb,ho,hm,hn];simp only [Tm.op,Tm.num]at hc;have HC:Hid _:=hc;have HA:Hid _:=A0;clear hc A0 hT hsz ho hm hn hb
 go_enter Tryz.func67,Tryz.ntmps67
 go_wp2_with fail
 refine Calls.mono HC.out ?_;rintro e W1⟨⟨r,rfl,hr⟩,hb1⟩;have B1:Hid(Below w.heap.size w W1):=HA.out.trans(hb1.mono HA.out.size);have hrb:r=b:=by cases r<;>cases b<;>simp at hr⊢
 subst hrb;clear hb1 HC hr;go_wp2;go_ret;exact⟨rfl,B1.out⟩
theorem Tryz.r16Ins_any(x0 x1 x2 x3 x4 x5 x6 x7 x8 x10 x11:Value)(la:Option Addr)(m lc:Nat)(ls:List(Int×Int))(kid:Int)(w:World)(hL:Ac.Lks w w.heap.size la ls)(hm:ls.length=m)(h60:m<=2147483647):
  Calls Tryz.prog 89 #[.agg #[x0,x1,x2,x3,x4,x5,x6,x7,x8, .slice la m lc,x10,x11], .int .i64 kid]w λe w'=>e= .returned(.int .i64(Ac.inN ls kid))/\Below w.heap.size w w':=by
 obtain⟨R,hR⟩: ∃R,Ac.inN ls kid=R:=⟨_,rfl⟩;rw [hR];obtain⟨w1,hw1⟩: ∃z,w.alloc(.cells #[x0,x1,x2,x3,x4,x5,x6,x7,x8, .slice la m lc,x10,x11]48)=z:=⟨_,rfl⟩;have B1:Below w.heap.size w w1:=by rw [<-hw1];exact(Below.refl _ w).alloc(Nat.le_refl _)_
 have N1:w1.heap[w.heap.size]? =some(.cells #[x0,x1,x2,x3,x4,x5,x6,x7,x8, .slice la m lc,x10,x11]48(0,0)):=by rw [<-hw1];exact heap_alloc_new w _
 have c9:w1.cell? ⟨w.heap.size,9,none⟩=some(.slice la m lc):=by simp [World.cell?,N1]
 have H1:Hid _:=hw1;have HB:Hid(Below w.heap.size w w1):=B1;have HL:Hid(Ac.Lks w w.heap.size la ls/\ls.length=m):=⟨hL,hm⟩;have HR:Hid(Ac.inN(ls.take m)kid=R):=by show _=_;rw [<-hm,List.take_length];exact hR
 clear hL hm hR hw1 B1 N1
 go_enter Tryz.func89,Tryz.ntmps89
 go_upto_region 1 with fail
 rw [H1.out];go_wp2
 go_loopg [5,11]m(λgk s5 s11 wr=> ∃j c:Nat,gk+j=m/\s11= .int .i64 j/\s5= .int .i64 c/\c<=j/\Hid(c=Ac.inN(ls.take j)kid/\Below w1.heap.size w1 wr))
 case atStart=>exact⟨0,0,by omega,rfl,rfl,Nat.le_refl _,rfl,Below.refl _ w1⟩
 case round=>
  obtain⟨j,c,hj,rfl,rfl,hcj,HJ⟩:=hrel;clear c9
  by_cases hlt:j<m
  rotate_left
  ·have hd:decide((j:Int)<m)=false:=decide_eq_false(by omega)
   have hE:c=R:=by
    obtain rfl:j=m:=by omega
    rw [HJ.out.1,HR.out]
   have HX:Hid(Below w.heap.size w wr):=HB.out.trans(HJ.out.2.mono HB.out.size);subst hE;go_wp2;go_ret;exact⟨rfl,HX.out⟩
  have hd:decide((j:Int)<m)=true:=decide_eq_true(by omega);have hjl:j<ls.length:=by rw [HL.out.2];exact hlt
  obtain⟨q,off,rfl,hq,d0,d1⟩:=HL.out.1 j hjl;obtain⟨x,hx⟩: ∃x,ls[j]=x:=⟨_,rfl⟩;obtain⟨a,b⟩:=x;rw [hx]at d0 d1;have j0:(0:Int)<=j:=by omega
  have j1:(j:Int)<m:=by omega
  have BW:Below w.heap.size w wr:=HB.out.trans(HJ.out.2.mono HB.out.size);have e0:wr.cell? ⟨q,off+j*2,none⟩=some(.int .i64 a):=by rw [BW.cell(p:=⟨q,off+j*2,none⟩)hq];exact d0
  have e1:wr.cell? ⟨q,off+j*2+1,none⟩=some(.int .i64 b):=by rw [BW.cell(p:=⟨q,off+j*2+1,none⟩)hq];exact d1
  have HS:Hid(Ac.inN(ls.take(j+1))kid=c+if b=kid then 1 else 0):=by
   show _=_;rw [List.take_succ_eq_append_getElem hjl,hx,HJ.out.1];unfold Ac.inN;rw [List.countP_append,List.countP_singleton]
   by_cases q:b=kid<;>simp [q]
  have HB2:Hid(Below w1.heap.size w1(wr.alloc(.cells #[.int .i64 a, .int .i64 b]83))):=HJ.out.2.alloc HJ.out.2.size _;clear d0 d1 hx hjl hq BW HJ
  by_cases ha:b=kid
  ·have he:(b==kid)=true:=by simpa using ha
   have HN:Hid(Ac.inN(ls.take(j+1))kid=c+1):=by show _=_;rw [HS.out,if_pos ha]
   clear ha HS;go_wp2;go_roundg(gk-1)
   case measure=>omega
   case rel=>exact⟨j+1,c+1,by omega,by go_num,by go_num,by omega,HN.out.symm,HB2.out⟩
  have he:(b==kid)=false:=by simpa using ha
  have HN:Hid(Ac.inN(ls.take(j+1))kid=c):=by show _=_;rw [HS.out,if_neg ha,Nat.add_zero]
  clear ha HS;go_wp2;go_roundg(gk-1)
  case measure=>omega
  case rel=>exact⟨j+1,c,by omega,by go_num,by go_num,by omega,HN.out.symm,HB2.out⟩
theorem Tryz.r16Outs_any(x0 x1 x2 x3 x4 x5 x6 x7 x8 x10 x11:Value)(la:Option Addr)(m lc:Nat)(ls:List(Int×Int))(kid:Int)(w:World)(hL:Ac.Lks w w.heap.size la ls)(hm:ls.length=m)(h60:m<=2147483647):
  Calls Tryz.prog 90 #[.agg #[x0,x1,x2,x3,x4,x5,x6,x7,x8, .slice la m lc,x10,x11], .int .i64 kid]w λe w'=>e= .returned(.int .i64(Ac.outN ls kid))/\Below w.heap.size w w':=by
 obtain⟨R,hR⟩: ∃R,Ac.outN ls kid=R:=⟨_,rfl⟩;rw [hR];obtain⟨w1,hw1⟩: ∃z,w.alloc(.cells #[x0,x1,x2,x3,x4,x5,x6,x7,x8, .slice la m lc,x10,x11]48)=z:=⟨_,rfl⟩;have B1:Below w.heap.size w w1:=by rw [<-hw1];exact(Below.refl _ w).alloc(Nat.le_refl _)_
 have N1:w1.heap[w.heap.size]? =some(.cells #[x0,x1,x2,x3,x4,x5,x6,x7,x8, .slice la m lc,x10,x11]48(0,0)):=by rw [<-hw1];exact heap_alloc_new w _
 have c9:w1.cell? ⟨w.heap.size,9,none⟩=some(.slice la m lc):=by simp [World.cell?,N1]
 have H1:Hid _:=hw1;have HB:Hid(Below w.heap.size w w1):=B1;have HL:Hid(Ac.Lks w w.heap.size la ls/\ls.length=m):=⟨hL,hm⟩;have HR:Hid(Ac.outN(ls.take m)kid=R):=by show _=_;rw [<-hm,List.take_length];exact hR
 clear hL hm hR hw1 B1 N1
 go_enter Tryz.func90,Tryz.ntmps90
 go_upto_region 1 with fail
 rw [H1.out];go_wp2
 go_loopg [5,11]m(λgk s5 s11 wr=> ∃j c:Nat,gk+j=m/\s11= .int .i64 j/\s5= .int .i64 c/\c<=j/\Hid(c=Ac.outN(ls.take j)kid/\Below w1.heap.size w1 wr))
 case atStart=>exact⟨0,0,by omega,rfl,rfl,Nat.le_refl _,rfl,Below.refl _ w1⟩
 case round=>
  obtain⟨j,c,hj,rfl,rfl,hcj,HJ⟩:=hrel;clear c9
  by_cases hlt:j<m
  rotate_left
  ·have hd:decide((j:Int)<m)=false:=decide_eq_false(by omega)
   have hE:c=R:=by
    obtain rfl:j=m:=by omega
    rw [HJ.out.1,HR.out]
   have HX:Hid(Below w.heap.size w wr):=HB.out.trans(HJ.out.2.mono HB.out.size);subst hE;go_wp2;go_ret;exact⟨rfl,HX.out⟩
  have hd:decide((j:Int)<m)=true:=decide_eq_true(by omega);have hjl:j<ls.length:=by rw [HL.out.2];exact hlt
  obtain⟨q,off,rfl,hq,d0,d1⟩:=HL.out.1 j hjl;obtain⟨x,hx⟩: ∃x,ls[j]=x:=⟨_,rfl⟩;obtain⟨a,b⟩:=x;rw [hx]at d0 d1;have j0:(0:Int)<=j:=by omega
  have j1:(j:Int)<m:=by omega
  have BW:Below w.heap.size w wr:=HB.out.trans(HJ.out.2.mono HB.out.size);have e0:wr.cell? ⟨q,off+j*2,none⟩=some(.int .i64 a):=by rw [BW.cell(p:=⟨q,off+j*2,none⟩)hq];exact d0
  have e1:wr.cell? ⟨q,off+j*2+1,none⟩=some(.int .i64 b):=by rw [BW.cell(p:=⟨q,off+j*2+1,none⟩)hq];exact d1
  have HS:Hid(Ac.outN(ls.take(j+1))kid=c+if a=kid then 1 else 0):=by
   show _=_;rw [List.take_succ_eq_append_getElem hjl,hx,HJ.out.1];unfold Ac.outN;rw [List.countP_append,List.countP_singleton]
   by_cases q:a=kid<;>simp [q]
  have HB2:Hid(Below w1.heap.size w1(wr.alloc(.cells #[.int .i64 a, .int .i64 b]83))):=HJ.out.2.alloc HJ.out.2.size _;clear d0 d1 hx hjl hq BW HJ
  by_cases ha:a=kid
  ·have he:(a==kid)=true:=by simpa using ha
   have HN:Hid(Ac.outN(ls.take(j+1))kid=c+1):=by show _=_;rw [HS.out,if_pos ha]
   clear ha HS;go_wp2;go_roundg(gk-1)
   case measure=>omega
   case rel=>exact⟨j+1,c+1,by omega,by go_num,by go_num,by omega,HN.out.symm,HB2.out⟩
  have he:(a==kid)=false:=by simpa using ha
  have HN:Hid(Ac.outN(ls.take(j+1))kid=c):=by show _=_;rw [HS.out,if_neg ha,Nat.add_zero]
  clear ha HS;go_wp2;go_roundg(gk-1)
  case measure=>omega
  case rel=>exact⟨j+1,c,by omega,by go_num,by go_num,by omega,HN.out.symm,HB2.out⟩
theorem Tryz.r16bare_lit (k nd a b op nu : Int) (ta ca ka la na fa : Option Addr) (tn tc nc cc nk kc nl lc nn ncap nf fcap : Nat) (s : ByteArray) (z bn ba bb bt bc bk bl bp : Bool) (w : World)
    (hb : (bn = true /\ ba = true /\ bb = false /\ bt = false /\ bc = false /\ bk = false /\ bl = false /\ bp = false) ∨ (bn = true /\ ba = true /\ bb = false /\ bt = true /\ bc = false /\ bk = false /\ bl = false /\ bp = false) ∨ (bn = true /\ ba = false /\ bb = false /\ bt = false /\ bc = false /\ bk = false /\ bl = false /\ bp = false) ∨ (bn = false /\ ba = false /\ bb = false /\ bt = false /\ bc = false /\ bk = true /\ bl = false /\ bp = false) ∨ (bn = true /\ ba = true /\ bb = false /\ bt = false /\ bc = true /\ bk = true /\ bl = false /\ bp = false) ∨ (bn = true /\ ba = false /\ bb = false /\ bt = false /\ bc = false /\ bk = true /\ bl = false /\ bp = false) ∨ (bn = true /\ ba = true /\ bb = false /\ bt = false /\ bc = false /\ bk = true /\ bl = false /\ bp = false) ∨ (bn = true /\ ba = true /\ bb = true /\ bt = false /\ bc = true /\ bk = true /\ bl = false /\ bp = false) ∨ (bn = true /\ ba = true /\ bb = true /\ bt = false /\ bc = true /\ bk = false /\ bl = false /\ bp = false) ∨ (bn = false /\ ba = false /\ bb = false /\ bt = false /\ bc = false /\ bk = true /\ bl = true /\ bp = false) ∨ (bn = false /\ ba = false /\ bb = false /\ bt = false /\ bc = false /\ bk = false /\ bl = false /\ bp = true) ∨ (bn = false /\ ba = false /\ bb = false /\ bt = false /\ bc = false /\ bk = false /\ bl = false /\ bp = false))
    (CH0 : ∀ W, Below w.heap.size w W -> Calls Tryz.prog 53 #[.agg #[.int .i64 k, .int .i64 nd, .int .i64 a, .int .i64 b, .int .i64 op, .int .i64 nu, .slice ta tn tc, .slice ca nc cc, .slice ka nk kc, .slice la nl lc, .slice na nn ncap, .slice fa nf fcap]] W λe w' => e = .returned (.string s) /\ Below W.heap.size W w')
    (Cn0 : ∀ W, Calls Tryz.prog 52 #[.string s, .int .u8 110] W λe w' => e = .returned (.bool bn) /\ w' = W)
    (Ca0 : ∀ W, Calls Tryz.prog 52 #[.string s, .int .u8 97] W λe w' => e = .returned (.bool ba) /\ w' = W)
    (Cb0 : ∀ W, Calls Tryz.prog 52 #[.string s, .int .u8 98] W λe w' => e = .returned (.bool bb) /\ w' = W)
    (Ct0 : ∀ W, Calls Tryz.prog 52 #[.string s, .int .u8 116] W λe w' => e = .returned (.bool bt) /\ w' = W)
    (Cc0 : ∀ W, Calls Tryz.prog 52 #[.string s, .int .u8 99] W λe w' => e = .returned (.bool bc) /\ w' = W)
    (Ck0 : ∀ W, Calls Tryz.prog 52 #[.string s, .int .u8 107] W λe w' => e = .returned (.bool bk) /\ w' = W)
    (Cl0 : ∀ W, Calls Tryz.prog 52 #[.string s, .int .u8 108] W λe w' => e = .returned (.bool bl) /\ w' = W)
    (Cp0 : ∀ W, Calls Tryz.prog 52 #[.string s, .int .u8 112] W λe w' => e = .returned (.bool bp) /\ w' = W)
    (CZ0 : ∀ W, Below w.heap.size w W -> Calls Tryz.prog 67 #[.agg #[.int .i64 op, .int .i64 nu, .slice ta tn tc]] W λe w' => e = .returned (.bool z) /\ Below W.heap.size W w') :
    Calls Tryz.prog 50 #[.agg #[.int .i64 k, .int .i64 nd, .int .i64 a, .int .i64 b, .int .i64 op, .int .i64 nu, .slice ta tn tc, .slice ca nc cc, .slice ka nk kc, .slice la nl lc, .slice na nn ncap, .slice fa nf fcap]] w λe w' => Ak.Told ((bn = false -> nd = 0) /\ (ba = false -> a = 0) /\ (bb = false -> b = 0) /\ (bt = false -> z = true) /\ (bc = false -> nc = 0) /\ (bk = false -> nk = 0) /\ (bl = false -> nl = 0) /\ (bp = false -> nn = 0 /\ nf = 0)) e /\ Below w.heap.size w w' := by
  obtain ⟨Cn, hCn⟩ : ∃ C : Prop, (bn = false -> nd = 0) = C := ⟨_, rfl⟩;have Dn : Hid (Cn = (bn = false -> nd = 0)) := hCn.symm;obtain ⟨Ca, hCa⟩ : ∃ C : Prop, (ba = false -> a = 0) = C := ⟨_, rfl⟩;have Da : Hid (Ca = (ba = false -> a = 0)) := hCa.symm;obtain ⟨Cb, hCb⟩ : ∃ C : Prop, (bb = false -> b = 0) = C := ⟨_, rfl⟩;have Db : Hid (Cb = (bb = false -> b = 0)) := hCb.symm;obtain ⟨Ct, hCt⟩ : ∃ C : Prop, (bt = false -> z = true) = C := ⟨_, rfl⟩;have Dt : Hid (Ct = (bt = false -> z = true)) := hCt.symm;obtain ⟨Cc, hCc⟩ : ∃ C : Prop, (bc = false -> nc = 0) = C := ⟨_, rfl⟩;have Dc : Hid (Cc = (bc = false -> nc = 0)) := hCc.symm;obtain ⟨Ck, hCk⟩ : ∃ C : Prop, (bk = false -> nk = 0) = C := ⟨_, rfl⟩;have Dk : Hid (Ck = (bk = false -> nk = 0)) := hCk.symm;obtain ⟨Cl, hCl⟩ : ∃ C : Prop, (bl = false -> nl = 0) = C := ⟨_, rfl⟩;have Dl : Hid (Cl = (bl = false -> nl = 0)) := hCl.symm;obtain ⟨Cp, hCp⟩ : ∃ C : Prop, (bp = false -> nn = 0 /\ nf = 0) = C := ⟨_, rfl⟩;have Dp : Hid (Cp = (bp = false -> nn = 0 /\ nf = 0)) := hCp.symm;rw [hCn, hCa, hCb, hCt, hCc, hCk, hCl, hCp];obtain ⟨P, hP⟩ : ∃ P : Prop, (Cn /\ Ca /\ Cb /\ Ct /\ Cc /\ Ck /\ Cl /\ Cp) = P := ⟨_, rfl⟩;rw [hP];have HP : Hid (P ↔ (Cn /\ Ca /\ Cb /\ Ct /\ Cc /\ Ck /\ Cl /\ Cp)) := by show _ ↔ _; rw [<- hP]
  have CH : Hid _ := CH0;have CZ : Hid _ := CZ0;obtain ⟨gn, hgn⟩ : ∃ g, g = bn := ⟨_, rfl⟩;have Hn : Hid (gn = bn) := hgn;have Cn' : Hid _ := Cn0;obtain ⟨ga, hga⟩ : ∃ g, g = ba := ⟨_, rfl⟩;have Ha : Hid (ga = ba) := hga;have Ca' : Hid _ := Ca0;obtain ⟨gb, hgb⟩ : ∃ g, g = bb := ⟨_, rfl⟩;have Hb : Hid (gb = bb) := hgb;have Cb' : Hid _ := Cb0;obtain ⟨gt, hgt⟩ : ∃ g, g = bt := ⟨_, rfl⟩;have Ht : Hid (gt = bt) := hgt;have Ct' : Hid _ := Ct0;obtain ⟨gc, hgc⟩ : ∃ g, g = bc := ⟨_, rfl⟩;have Hc : Hid (gc = bc) := hgc;have Cc' : Hid _ := Cc0;obtain ⟨gk, hgk⟩ : ∃ g, g = bk := ⟨_, rfl⟩;have Hk : Hid (gk = bk) := hgk;have Ck' : Hid _ := Ck0;obtain ⟨gl, hgl⟩ : ∃ g, g = bl := ⟨_, rfl⟩;have Hl : Hid (gl = bl) := hgl;have Cl' : Hid _ := Cl0;obtain ⟨gp, hgp⟩ : ∃ g, g = bp := ⟨_, rfl⟩;have Hp : Hid (gp = bp) := hgp;have Cp' : Hid _ := Cp0;clear hP CH0 CZ0 hCn hgn Cn0 hCa hga Ca0 hCb hgb Cb0 hCt hgt Ct0 hCc hgc Cc0 hCk hgk Ck0 hCl hgl Cl0 hCp hgp Cp0;obtain ⟨w1, hw1⟩ : ∃ x, w.alloc (.cells #[.int .i64 k, .int .i64 nd, .int .i64 a, .int .i64 b, .int .i64 op, .int .i64 nu, .slice ta tn tc, .slice ca nc cc, .slice ka nk kc, .slice la nl lc, .slice na nn ncap, .slice fa nf fcap] 48) = x := ⟨_, rfl⟩;have B1 : Hid (Below w.heap.size w w1) := by show Below _ _ _; rw [<- hw1]; exact (Below.refl _ w).alloc (Nat.le_refl _) _
  have N1 : w1.heap[w.heap.size]? = some (.cells #[.int .i64 k, .int .i64 nd, .int .i64 a, .int .i64 b, .int .i64 op, .int .i64 nu, .slice ta tn tc, .slice ca nc cc, .slice ka nk kc, .slice la nl lc, .slice na nn ncap, .slice fa nf fcap] 48 (0, 0)) := by rw [<- hw1]; exact heap_alloc_new w _
  have HCELL : Hid (∀ W, Below w1.heap.size w1 W -> W.cell? ⟨w.heap.size, 0, none⟩ = some (.int .i64 k) /\ W.cell? ⟨w.heap.size, 1, none⟩ = some (.int .i64 nd) /\ W.cell? ⟨w.heap.size, 2, none⟩ = some (.int .i64 a) /\ W.cell? ⟨w.heap.size, 3, none⟩ = some (.int .i64 b) /\ W.cell? ⟨w.heap.size, 4, none⟩ = some (.int .i64 op) /\ W.cell? ⟨w.heap.size, 5, none⟩ = some (.int .i64 nu) /\ W.cell? ⟨w.heap.size, 6, none⟩ = some (.slice ta tn tc) /\ W.cell? ⟨w.heap.size, 7, none⟩ = some (.slice ca nc cc) /\ W.cell? ⟨w.heap.size, 8, none⟩ = some (.slice ka nk kc) /\ W.cell? ⟨w.heap.size, 9, none⟩ = some (.slice la nl lc) /\ W.cell? ⟨w.heap.size, 10, none⟩ = some (.slice na nn ncap) /\ W.cell? ⟨w.heap.size, 11, none⟩ = some (.slice fa nf fcap)) := λW hb => by
    have h := (hb.block _ (Array.getElem?_eq_some_iff.1 N1).1).trans N1;simp [World.cell?, h]
  have ha := Tryz.underlying48;have ia : (Tryz.prog.info? 48).map (·.size) = some (#[.int .i64 k, .int .i64 nd, .int .i64 a, .int .i64 b, .int .i64 op, .int .i64 nu, .slice ta tn tc, .slice ca nc cc, .slice ka nk kc, .slice la nl lc, .slice na nn ncap, .slice fa nf fcap] : Array Value).size := Ak.rinfo;have H1 : Hid _ := hw1;clear hw1
  rcases hb with ⟨rfl, rfl, rfl, rfl, rfl, rfl, rfl, rfl⟩ | ⟨rfl, rfl, rfl, rfl, rfl, rfl, rfl, rfl⟩ | ⟨rfl, rfl, rfl, rfl, rfl, rfl, rfl, rfl⟩ | ⟨rfl, rfl, rfl, rfl, rfl, rfl, rfl, rfl⟩ | ⟨rfl, rfl, rfl, rfl, rfl, rfl, rfl, rfl⟩ | ⟨rfl, rfl, rfl, rfl, rfl, rfl, rfl, rfl⟩ | ⟨rfl, rfl, rfl, rfl, rfl, rfl, rfl, rfl⟩ | ⟨rfl, rfl, rfl, rfl, rfl, rfl, rfl, rfl⟩ | ⟨rfl, rfl, rfl, rfl, rfl, rfl, rfl, rfl⟩ | ⟨rfl, rfl, rfl, rfl, rfl, rfl, rfl, rfl⟩ | ⟨rfl, rfl, rfl, rfl, rfl, rfl, rfl, rfl⟩ | ⟨rfl, rfl, rfl, rfl, rfl, rfl, rfl, rfl⟩
  all_goals (
    go_enter Tryz.func50, Tryz.ntmps50
    go_upto_region 1 with fail
    rw [H1.out];clear H1
    go_wp2_with (refine wpList_load_row rfl 48 _ rfl _ rfl 48 _ (0, 0) _ N1 ha rfl ia ?_)
    refine Calls.mono (CH.out _ B1.out) ?_;rintro e W2 ⟨rfl, b2⟩;have BB : Hid (Below w1.heap.size w1 W2) := b2;have B2 : Hid (Below w.heap.size w W2) := B1.out.trans (b2.mono B1.out.size);clear N1 b2 CH B1;have B1 := B2;clear B2;obtain ⟨p0, p1, p2, p3, p4, p5, p6, p7, p8, p9, p10, p11⟩ := HCELL.out W2 BB.out
    go_wp2_with fail
    refine Calls.mono (Cn'.out _) ?_;rintro e Wq ⟨rfl, hWq⟩;obtain rfl := hWq.symm
    first
      | (have hq : Hid (gn = false) := Hn
         clear hq
         by_cases q : nd = 0
         rotate_left
         · have f : (nd != 0) = true := by simpa using q
           have HQ : Hid (¬ P) := λh => by
             have h1 := (HP.out.1 h).1;rw [Dn.out] at h1;exact q (h1 (by first | rfl | trivial))
           clear q;go_wp2;go_ret;exact ⟨Ak.Told.no HQ.out, B1.out⟩
         have f : (nd != 0) = false := by simp [q]
         have En : Hid Cn := by show Cn; rw [Dn.out]; exact λ_ => q
         clear q)
      | (have En : Hid Cn := by show Cn; rw [Dn.out]; exact λh => by cases h)
    go_wp2_with fail
    refine Calls.mono (Ca'.out _) ?_;rintro e Wq ⟨rfl, hWq⟩;obtain rfl := hWq.symm
    first
      | (have hq : Hid (ga = false) := Ha
         clear hq
         by_cases q : a = 0
         rotate_left
         · have f : (a != 0) = true := by simpa using q
           have HQ : Hid (¬ P) := λh => by
             have h1 := (HP.out.1 h).2.1;rw [Da.out] at h1;exact q (h1 (by first | rfl | trivial))
           clear q;go_wp2;go_ret;exact ⟨Ak.Told.no HQ.out, B1.out⟩
         have f : (a != 0) = false := by simp [q]
         have Ea : Hid Ca := by show Ca; rw [Da.out]; exact λ_ => q
         clear q)
      | (have Ea : Hid Ca := by show Ca; rw [Da.out]; exact λh => by cases h)
    go_wp2_with fail
    refine Calls.mono (Cb'.out _) ?_;rintro e Wq ⟨rfl, hWq⟩;obtain rfl := hWq.symm
    first
      | (have hq : Hid (gb = false) := Hb
         clear hq
         by_cases q : b = 0
         rotate_left
         · have f : (b != 0) = true := by simpa using q
           have HQ : Hid (¬ P) := λh => by
             have h1 := (HP.out.1 h).2.2.1;rw [Db.out] at h1;exact q (h1 (by first | rfl | trivial))
           clear q;go_wp2;go_ret;exact ⟨Ak.Told.no HQ.out, B1.out⟩
         have f : (b != 0) = false := by simp [q]
         have Eb : Hid Cb := by show Cb; rw [Db.out]; exact λ_ => q
         clear q)
      | (have Eb : Hid Cb := by show Cb; rw [Db.out]; exact λh => by cases h)
    go_wp2_with fail
    refine Calls.mono (Ct'.out _) ?_;rintro e Wq ⟨rfl, hWq⟩;obtain rfl := hWq.symm
    first
      | (have hq : Hid (gt = false) := Ht
         clear hq
         go_wp2_with fail
         refine Calls.mono (CZ.out _ B1.out) ?_;rintro e W3 ⟨rfl, b3⟩;have BB3 : Hid (Below w1.heap.size w1 W3) := BB.out.trans (b3.mono BB.out.size);have B3 : Hid (Below w.heap.size w W3) := B1.out.trans (b3.mono B1.out.size);clear b3 B1 BB p0 p1 p2 p3 p4 p5 p6 p7 p8 p9 p10 p11;have B1 := B3;clear B3;obtain ⟨p0, p1, p2, p3, p4, p5, p6, p7, p8, p9, p10, p11⟩ := HCELL.out W3 BB3.out
         by_cases q : z = true
         rotate_left
         · have q' : z = false := by simpa using q
           have HQ : Hid (¬ P) := λh => by
             have h1 := (HP.out.1 h).2.2.2.1;rw [Dt.out] at h1;exact q (h1 (by first | rfl | trivial))
           subst q';clear q;go_wp2;go_ret;exact ⟨Ak.Told.no HQ.out, B1.out⟩
         have Et : Hid Ct := by show Ct; rw [Dt.out]; exact λ_ => q
         subst q)
      | (have Et : Hid Ct := by show Ct; rw [Dt.out]; exact λh => by cases h)
    go_wp2_with fail
    refine Calls.mono (Cc'.out _) ?_;rintro e Wq ⟨rfl, hWq⟩;obtain rfl := hWq.symm
    first
      | (have hq : Hid (gc = false) := Hc
         clear hq
         by_cases q : nc = 0
         rotate_left
         · have f : ((nc : Int) != 0) = true := by simp; omega
           have HQ : Hid (¬ P) := λh => by
             have h1 := (HP.out.1 h).2.2.2.2.1;rw [Dc.out] at h1;exact q (h1 (by first | rfl | trivial))
           clear q;go_wp2;go_ret;exact ⟨Ak.Told.no HQ.out, B1.out⟩
         have f : ((nc : Int) != 0) = false := by simp [q]
         have Ec : Hid Cc := by show Cc; rw [Dc.out]; exact λ_ => q
         clear q)
      | (have Ec : Hid Cc := by show Cc; rw [Dc.out]; exact λh => by cases h)
    go_wp2_with fail
    refine Calls.mono (Ck'.out _) ?_;rintro e Wq ⟨rfl, hWq⟩;obtain rfl := hWq.symm
    first
      | (have hq : Hid (gk = false) := Hk
         clear hq
         by_cases q : nk = 0
         rotate_left
         · have f : ((nk : Int) != 0) = true := by simp; omega
           have HQ : Hid (¬ P) := λh => by
             have h1 := (HP.out.1 h).2.2.2.2.2.1;rw [Dk.out] at h1;exact q (h1 (by first | rfl | trivial))
           clear q;go_wp2;go_ret;exact ⟨Ak.Told.no HQ.out, B1.out⟩
         have f : ((nk : Int) != 0) = false := by simp [q]
         have Ek : Hid Ck := by show Ck; rw [Dk.out]; exact λ_ => q
         clear q)
      | (have Ek : Hid Ck := by show Ck; rw [Dk.out]; exact λh => by cases h)
    go_wp2_with fail
    refine Calls.mono (Cl'.out _) ?_;rintro e Wq ⟨rfl, hWq⟩;obtain rfl := hWq.symm
    first
      | (have hq : Hid (gl = false) := Hl
         clear hq
         by_cases q : nl = 0
         rotate_left
         · have f : ((nl : Int) != 0) = true := by simp; omega
           have HQ : Hid (¬ P) := λh => by
             have h1 := (HP.out.1 h).2.2.2.2.2.2.1;rw [Dl.out] at h1;exact q (h1 (by first | rfl | trivial))
           clear q;go_wp2;go_ret;exact ⟨Ak.Told.no HQ.out, B1.out⟩
         have f : ((nl : Int) != 0) = false := by simp [q]
         have El : Hid Cl := by show Cl; rw [Dl.out]; exact λ_ => q
         clear q)
      | (have El : Hid Cl := by show Cl; rw [Dl.out]; exact λh => by cases h)
    go_wp2_with fail
    refine Calls.mono (Cp'.out _) ?_;rintro e Wq ⟨rfl, hWq⟩;obtain rfl := hWq.symm
    first
      | (have hq : Hid (gp = true) := Hp
         clear hq;have Ep : Hid Cp := by show Cp; rw [Dp.out]; exact λh => by cases h
         go_wp2;go_ret
         exact ⟨Ak.Told.yes (HP.out.2 ⟨En.out, Ea.out, Eb.out, Et.out, Ec.out, Ek.out, El.out, Ep.out⟩), B1.out⟩)
      | (by_cases q : nn = 0
         · have f : ((nn : Int) == 0) = true := by simp [q]
           by_cases q2 : nf = 0
           · have f2 : ((nf : Int) == 0) = true := by simp [q2]
             have Ep : Hid Cp := by show Cp; rw [Dp.out]; exact λ_ => ⟨q, q2⟩
             clear q q2;go_wp2;go_ret;exact ⟨Ak.Told.yes (HP.out.2 ⟨En.out, Ea.out, Eb.out, Et.out, Ec.out, Ek.out, El.out, Ep.out⟩), B1.out⟩
           have f2 : ((nf : Int) == 0) = false := by simp; omega
           have HQ : Hid (¬ P) := λh => by
             have h1 := (HP.out.1 h).2.2.2.2.2.2.2;rw [Dp.out] at h1;exact q2 (h1 (by first | rfl | trivial)).2
           clear q q2;go_wp2;go_ret;exact ⟨Ak.Told.no HQ.out, B1.out⟩
         have f : ((nn : Int) == 0) = false := by simp; omega
         have HQ : Hid (¬ P) := λh => by
           have h1 := (HP.out.1 h).2.2.2.2.2.2.2;rw [Dp.out] at h1;exact q (h1 (by first | rfl | trivial)).1
         clear q;go_wp2;go_ret
         exact ⟨Ak.Told.no HQ.out, B1.out⟩))
theorem Tryz.r16conds_any(cs:List Tm)(a:Option Addr)(cap:Nat)(other:Int)(e:Nat)(w:World)(hT:Ac.Tms w w.heap.size e a cs)(hsz: ∀x∈cs,x.size<=2147483647)(hn:cs.length<=2147483647):
  Calls Tryz.prog 69 #[.slice a cs.length cap, .int .i64 other]w λe w'=>e= .returned(.bool((decide(0<=other)&&decide(other<cs.length))&&Ac.choiceB cs other))/\Below w.heap.size w w':=by
 obtain⟨n,hln⟩: ∃n,cs.length=n:=⟨_,rfl⟩;obtain⟨R,hR⟩: ∃b,Ac.choiceB cs other=b:=⟨_,rfl⟩;have H:Hid(Ac.Tms w w.heap.size e a cs/\(∀x∈cs,x.size<=2147483647)/\cs.length=n/\Ac.choiceB cs other=R):=⟨hT,hsz,hln,hR⟩;rw [hln]at hn;rw [hln,hR];clear hT hsz hln hR;have ez:((n:Nat):Int)=(n:Int):=rfl;clear ez
 by_cases o1:other<0
 ·have f1:decide(other<0)=true:=decide_eq_true o1
  have HQ:Hid(((decide(0<=other)&&decide(other<(n:Int)))&&R)=false):=by show _=_;rw [decide_eq_false(show¬0<=other by omega)];rfl
  rw [HQ.out];clear o1 HQ
  go_enter Tryz.func69,Tryz.ntmps69
  go_wp2;go_ret;exact⟨rfl,Below.refl _ w⟩
 have f1:decide(other<0)=false:=decide_eq_false o1
 by_cases o2:(n:Int)<=other
 ·have f2:decide((n:Int)<=other)=true:=decide_eq_true o2
  have HQ:Hid(((decide(0<=other)&&decide(other<(n:Int)))&&R)=false):=by show _=_;rw [decide_eq_false(show¬other<(n:Int)by omega),Bool.and_false];rfl
  rw [HQ.out];clear o1 o2 HQ
  go_enter Tryz.func69,Tryz.ntmps69
  go_wp2;go_ret;exact⟨rfl,Below.refl _ w⟩
 have f2:decide((n:Int)<=other)=false:=decide_eq_false o2;rw [decide_eq_true(show 0<=other by omega),decide_eq_true(show other<(n:Int)by omega),Bool.true_and,Bool.true_and];clear o1 o2
 go_enter Tryz.func69,Tryz.ntmps69
 go_wp2
 go_loopg [5,17]n(λgk _ i wr=> ∃j:Nat,gk+j=n/\i= .int .i64 j/\Hid((∀i(h:i<cs.length),i<j->Ac.choiceAt other i cs[i]=true)/\Below w.heap.size w wr))
 case atStart=>exact⟨0,by omega,rfl,λi _ h=>absurd h(by omega),Below.refl _ w⟩
 case round=>
  obtain⟨j,hj,rfl,HJ⟩:=hrel
  by_cases hjn:j<n
  rotate_left
  ·have hd:decide((j:Int)<n)=false:=decide_eq_false(by omega)
   go_wp2;go_ret;refine⟨Tk.ret_bool ?_,HJ.out.2⟩;rw [<-H.out.2.2.2];exact(Ac.choice_yes λi h=>HJ.out.1 i h(by have:=H.out.2.2.1;omega)).symm
  have hd:decide((j:Int)<n)=true:=decide_eq_true(by omega);have hjk:j<cs.length:=by rw [H.out.2.2.1];exact hjn
  obtain⟨g,off,u,rfl,hg,q0,q1,q2,hlu⟩:=H.out.1 j hjk;obtain⟨x,hx⟩: ∃x,cs[j]=x:=⟨_,rfl⟩;have hxs:=H.out.2.1 _(List.getElem_mem hjk);rw [hx]at q0 q1 hlu hxs;rw [<-HJ.out.2.cell(p:=⟨g,off+j*3,none⟩)hg]at q0;rw [<-HJ.out.2.cell(p:=⟨g,off+j*3+1,none⟩)hg]at q1;rw [<-HJ.out.2.cell(p:=⟨g,off+j*3+2,none⟩)hg]at q2;obtain⟨ua,uc,rfl⟩:=hlu.shape;obtain⟨un,hun⟩: ∃n,x.ks.length=n:=⟨_,rfl⟩;obtain⟨y0,hy0⟩: ∃n,x.op=n:=⟨_,rfl⟩;obtain⟨y1,hy1⟩: ∃n,x.num=n:=⟨_,rfl⟩;rw [hun]at q2 hlu;rw [hy0]at q0;rw [hy1]at q1;have BA:Below wr.heap.size wr(wr.alloc(.cells #[.int .i64 y0, .int .i64 y1, .slice ua un uc]24)):=(Below.refl _ wr).alloc(Nat.le_refl _)_;obtain⟨W1,hW1⟩: ∃z,wr.alloc(.cells #[.int .i64 y0, .int .i64 y1, .slice ua un uc]24)=z:=⟨_,rfl⟩;rw [hW1]at BA;have bw:Below w.heap.size w W1:=HJ.out.2.trans(BA.mono HJ.out.2.size);have hlW:Tm.Lies W1 W1.heap.size e(.slice ua un uc)x:=(hlu.below bw).wider bw.size;have CS:=Tryz.r16none_any e x(.slice ua un uc)W1 hlW hxs;have CO:=Tryz.r16of_any 2 e x(.slice ua un uc)W1 hlW hxs;rw [hy0,hy1]at CS CO;have HS:Hid _:=CS;have HO:Hid _:=CO;have HX:Hid(cs[j]=x/\Below w.heap.size w W1):=⟨hx,bw⟩;have HW:Hid(wr.alloc(.cells #[.int .i64 y0, .int .i64 y1, .slice ua un uc]24)=W1):=hW1
  have GV:W1.heap[wr.heap.size]? =some(.cells #[.int .i64 y0, .int .i64 y1, .slice ua un uc]24(0,0)):=by rw [<-hW1];exact heap_alloc_new wr _
  have v0:W1.cell? ⟨wr.heap.size,0,none⟩=some(.int .i64 y0):=by simp [World.cell?,GV]
  have v1:W1.cell? ⟨wr.heap.size,1,none⟩=some(.int .i64 y1):=by simp [World.cell?,GV]
  have v2:W1.cell? ⟨wr.heap.size,2,none⟩=some(.slice ua un uc):=by simp [World.cell?,GV]
  have hj0:(0:Int)<=j:=by omega
  have hjn':(j:Int)<n:=by omega
  clear BA hW1 bw hlW CS CO hlu hxs hx hun hy0 hy1 GV
  by_cases hjo:(j:Int)=other
  ·have e1:((j:Int)==other)=true:=by simpa using hjo
   have e2:((j:Int) !=other)=false:=by simpa using hjo
   have HE:Hid(Ac.choiceAt other j x=Nt.zeroB x):=by show _=_;unfold Ac.choiceAt;rw [if_pos hjo]
   obtain⟨r,hr⟩: ∃r,Nt.zeroB x=r:=⟨_,rfl⟩;rw [hr]at HE HS;clear hjo HO hr
   go_upto_region 6 with fail
   rw [HW.out]
   go_wp2_with fail
   refine Calls.mono HS.out ?_;rintro e W2⟨rfl,hb2⟩;have B2:Hid(Below w.heap.size w W2):=HX.out.2.trans(hb2.mono HX.out.2.size);clear hb2 HS
   cases r with
   |true=>
    go_wp2;go_roundg(gk-1)
    case measure=>omega
    case rel=>
     refine⟨j+1,by omega,by go_num,λi h hi=> ?_,B2.out⟩
     rcases Nat.lt_or_ge i j with h1|h1
     ·exact HJ.out.1 i h h1
     have:i=j:=by omega
     subst this;rw [HX.out.1,HE.out]
   |false=>
    go_wp2;go_ret;refine⟨Tk.ret_bool ?_,B2.out⟩;rw [<-H.out.2.2.2];exact(Ac.choice_no hjk(by rw [HX.out.1,HE.out])).symm
  have e1:((j:Int)==other)=false:=by simpa using hjo
  have e2:((j:Int) !=other)=true:=by simpa using hjo
  have HE:Hid(Ac.choiceAt other j x=Nt.ofB x 2):=by show _=_;unfold Ac.choiceAt;rw [if_neg hjo]
  obtain⟨r,hr⟩: ∃r,Nt.ofB x 2=r:=⟨_,rfl⟩;rw [hr]at HE HO;clear hjo HS hr
  go_upto_region 6 with fail
  rw [HW.out]
  go_wp2_with fail
  refine Calls.mono HO.out ?_;rintro e W2⟨rfl,hb2⟩;have B2:Hid(Below w.heap.size w W2):=HX.out.2.trans(hb2.mono HX.out.2.size);clear hb2 HO
  cases r with
  |true=>
   go_wp2;go_roundg(gk-1)
   case measure=>omega
   case rel=>
    refine⟨j+1,by omega,by go_num,λi h hi=> ?_,B2.out⟩
    rcases Nat.lt_or_ge i j with h1|h1
    ·exact HJ.out.1 i h h1
    have:i=j:=by omega
    subst this;rw [HX.out.1,HE.out]
  |false=>
   go_wp2;go_ret;refine⟨Tk.ret_bool ?_,B2.out⟩;rw [<-H.out.2.2.2];exact(Ac.choice_no hjk(by rw [HX.out.1,HE.out])).symm
theorem Tryz.r16kid_any(d e:Nat)(T:Ac)(V:Ac.Vs)(w:World)(hT:Ac.Lies w w.heap.size e d V T)(hm:T.ls.length<=2147483647)(_hks:T.ks.length<=2147483647)(i:Nat)(hi:i<T.ks.length):
  Calls Tryz.prog 91 #[.agg(Ac.row T V), .int .i64 i]w λe w'=>e= .returned(.bool(Ac.kidD T.ks[i].kind T.ks[i].a T.ks[i].cs.length(Ac.inN T.ls i)(Ac.outN T.ls i)))/\Below w.heap.size w w':=by
 cases d with
 |zero=>exact hT.elim
 |succ d=>
 obtain⟨ka,kc,hvk⟩:=hT.kids;obtain⟨la,lc,hvl,hL⟩:=hT.own.l;obtain⟨n,hn⟩: ∃n,T.ks.length=n:=⟨_,rfl⟩;obtain⟨m,hml⟩: ∃n,T.ls.length=n:=⟨_,rfl⟩;rw [hn]at hvk;rw [hml]at hvl;obtain⟨x0,x1,x2,x3,x4,x5,x6,x7,x10,x11,hrow⟩: ∃x0 x1 x2 x3 x4 x5 x6 x7 x10 x11,Ac.row T V= #[x0,x1,x2,x3,x4,x5,x6,x7, .slice ka n kc, .slice la m lc,x10,x11]:=⟨_,_,_,_,_,_,_,_,_,_,by unfold Ac.row;rw [hvk,hvl]⟩;obtain⟨x,hx⟩: ∃x,Ac.inN T.ls i=x:=⟨_,rfl⟩;obtain⟨y,hy⟩: ∃x,Ac.outN T.ls i=x:=⟨_,rfl⟩;obtain⟨K,hK⟩: ∃x,T.ks[i].kind=x:=⟨_,rfl⟩;obtain⟨A,hA⟩: ∃x,T.ks[i].a=x:=⟨_,rfl⟩;obtain⟨q,hq⟩: ∃x,T.ks[i].cs.length=x:=⟨_,rfl⟩;obtain⟨R,hR⟩: ∃R,Ac.kidD K A q x y=R:=⟨_,rfl⟩;rw [hrow,hx,hy,hK,hA,hq,hR];have HR:Hid(Ac.kidD K A q x y=R):=hR;obtain⟨w1,hw1⟩: ∃z,w.alloc(.cells #[x0,x1,x2,x3,x4,x5,x6,x7, .slice ka n kc, .slice la m lc,x10,x11]48)=z:=⟨_,rfl⟩;have B1:Below w.heap.size w w1:=by rw [<-hw1];exact(Below.refl _ w).alloc(Nat.le_refl _)_
 have N1:w1.heap[w.heap.size]? =some(.cells #[x0,x1,x2,x3,x4,x5,x6,x7, .slice ka n kc, .slice la m lc,x10,x11]48(0,0)):=by rw [<-hw1];exact heap_alloc_new w _
 have H1:Hid _:=hw1;have HB:Hid(Below w.heap.size w w1):=B1;have HT:Hid(Ac.Lies w w.heap.size e(d+1)V T/\V.k= .slice ka n kc):=⟨hT,hvk⟩
 have HI:Hid(∀W,Below w.heap.size w W->Calls Tryz.prog 89 #[.agg #[x0,x1,x2,x3,x4,x5,x6,x7, .slice ka n kc, .slice la m lc,x10,x11], .int .i64 i]W λe w'=>e= .returned(.int .i64 x)/\Below W.heap.size W w'):=λW hb=>by
  have h:=Tryz.r16Ins_any x0 x1 x2 x3 x4 x5 x6 x7(.slice ka n kc)x10 x11 la m lc T.ls i W((hL.keep hb.block).wider hb.size)hml(by omega);rw [hx]at h;exact h
 have HO:Hid(∀W,Below w.heap.size w W->Calls Tryz.prog 90 #[.agg #[x0,x1,x2,x3,x4,x5,x6,x7, .slice ka n kc, .slice la m lc,x10,x11], .int .i64 i]W λe w'=>e= .returned(.int .i64 y)/\Below W.heap.size W w'):=λW hb=>by
  have h:=Tryz.r16Outs_any x0 x1 x2 x3 x4 x5 x6 x7(.slice ka n kc)x10 x11 la m lc T.ls i W((hL.keep hb.block).wider hb.size)hml(by omega);rw [hy]at h;exact h
 have HX:Hid(∃h:i<T.ks.length,(T.ks[i]'h).kind=K/\(T.ks[i]'h).a=A/\(T.ks[i]'h).cs.length=q):=⟨hi,hK,hA,hq⟩;have i0:(0:Int)<=i:=by omega
 have i1:(i:Int)<n:=by omega
 have HN:Hid(i<T.ks.length):=hi;have ha:=Tryz.underlying48;have ia:(Tryz.prog.info? 48).map(·.size)=some(#[x0,x1,x2,x3,x4,x5,x6,x7, .slice ka n kc, .slice la m lc,x10,x11]:Array Value).size:=Ak.rinfo;obtain⟨W3,hW3⟩: ∃W3:World->Prop,W3=λW=>Below w1.heap.size w1 W:=⟨_,rfl⟩;clear hW3 W3;clear hT hvk hvl hL hm hml hrow hx hy hK hA hq hR hw1 B1 hi _hks hn
 go_enter Tryz.func91,Tryz.ntmps91
 go_upto_region 1 with fail
 rw [H1.out]
 go_wp2_with(refine wpList_load_row rfl 48 _ rfl _ rfl 48 _(0,0)_ N1 ha rfl ia ?_)
 refine Calls.mono(HI.out _ HB.out) ?_;rintro e W2⟨rfl,b2⟩;have B2:Hid(Below w1.heap.size w1 W2):=b2;have HB2:Hid(Below w.heap.size w W2):=HB.out.trans(b2.mono HB.out.size);have N2:=(b2.block _(Array.getElem?_eq_some_iff.1 N1).1).trans N1;clear b2 N1 HI H1
 go_wp2_with(refine wpList_load_row rfl 48 _ rfl _ rfl 48 _(0,0)_ N2 ha rfl ia ?_)
 refine Calls.mono(HO.out _ HB2.out) ?_;rintro e W3⟨rfl,b3⟩;have HB3:Hid(Below w.heap.size w W3):=HB2.out.trans(b3.mono HB2.out.size);have N3:=(b3.block _(Array.getElem?_eq_some_iff.1 N2).1).trans N2;have c8:W3.cell? ⟨w.heap.size,8,none⟩=some(.slice ka n kc):=by simp [World.cell?,N3]
 obtain⟨g,off,U,xs,w4,D⟩:=Ak.kid_at HT.out.1 HT.out.2 HB3.out i HN.out;obtain⟨_,z0,z2,z7⟩:=HX.out;have hr0:xs[0]? =some(.int .i64 K):=by rw [<-D.row,<-z0];rfl
 have hr2:xs[2]? =some(.int .i64 A):=by rw [<-D.row,<-z2];rfl
 obtain⟨ca,cc,hvc,_⟩:=D.lies.own.c;have hr7:xs[7]? =some(.slice ca q cc):=by rw [<-D.row,<-z7,<-hvc];rfl
 obtain⟨rfl,-,ryr,xone,ix,ixl,NZ,ez,hw4,NK,-,HD,-⟩:=D;obtain⟨kb,hkb⟩: ∃z,W3.heap.size=z:=⟨_,rfl⟩;have HKB:Hid(W3.heap.size=kb):=hkb;have HW4:Hid _:=hw4;have HX4:Hid(Below w.heap.size w w4):=HD;rw [hkb]at NK;have k0:w4.cell? ⟨kb,0,none⟩=some(.int .i64 K):=by simp [World.cell?,NK,hr0]
 have k2:w4.cell? ⟨kb,2,none⟩=some(.int .i64 A):=by simp [World.cell?,NK,hr2]
 have k7:w4.cell? ⟨kb,5+2,none⟩=some(.slice ca q cc):=by simp [World.cell?,NK,hr7]
 have k7':w4.cell? ⟨kb,7,none⟩=some(.slice ca q cc):=k7;clear z0 z2 z7 b3 N2 N3 HO hr0 hr2 hr7 hvc hw4 hkb HD NK
 go_upto_region 4 with(first
  |refine wpList_load_mid rfl 48 _ rfl g(off+i*12)rfl xs.toList _ ryr ha rfl ixl ?_
  |refine wpList_store_row rfl 48 _ _ rfl W3.heap.size xs rfl rfl 48 _ NZ ix ez xone ?_)
 rw [HW4.out,HKB.out];clear ryr NZ HW4 HKB c8 ix ixl ez xone HB HB2 HB3 B2 i0 i1 ia;have ex1:((x:Int)==1)=decide((x:Int)=1):=rfl;have ey1:((y:Int)==1)=decide((y:Int)=1):=rfl;have eyq:((y:Int)==(q:Int))=decide((y:Int)=q):=rfl
 by_cases hK:K=12
 rotate_left
 ·have eK:(K !=12)=true:=by simpa using hK
  have HQ:Hid(R=(decide((x:Int)=1)&&decide((y:Int)=1))):=by show _=_;rw [<-HR.out,Ac.kidD,if_neg hK]
  clear hK HR
  by_cases hx1:(x:Int)=1
  ·rw [decide_eq_true hx1]at ex1
   have HQ2:Hid(R=decide((y:Int)=1)):=by show _=_;rw [HQ.out,decide_eq_true hx1,Bool.true_and]
   clear hx1 HQ;go_wp2;go_ret;exact⟨by rw [HQ2.out];rfl,HX4.out⟩
  rw [decide_eq_false hx1]at ex1;have HQ2:Hid(R=false):=by show _=_;rw [HQ.out,decide_eq_false hx1,Bool.false_and]
  clear hx1 HQ;go_wp2;go_ret;exact⟨by rw [HQ2.out];rfl,HX4.out⟩
 have eK:(K !=12)=false:=by simp [hK]
 by_cases a1:A=1
 ·have f1:(A==1)=true:=by simp [a1]
  have HQ:Hid(R=(decide((x:Int)=1)&&decide(2<=(y:Int)))):=by show _=_;rw [<-HR.out,Ac.kidD,if_pos hK,if_pos a1]
  clear hK a1 HR
  by_cases hx1:(x:Int)=1
  ·rw [decide_eq_true hx1]at ex1
   have HQ2:Hid(R=decide(2<=(y:Int))):=by show _=_;rw [HQ.out,decide_eq_true hx1,Bool.true_and]
   clear hx1 HQ;go_wp2;go_ret;exact⟨by rw [HQ2.out];rfl,HX4.out⟩
  rw [decide_eq_false hx1]at ex1;have HQ2:Hid(R=false):=by show _=_;rw [HQ.out,decide_eq_false hx1,Bool.false_and]
  clear hx1 HQ;go_wp2;go_ret;exact⟨by rw [HQ2.out];rfl,HX4.out⟩
 have f1:(A==1)=false:=by simpa using a1
 by_cases a3:A=3
 ·have f3:(A==3)=true:=by simp [a3]
  have HQ:Hid(R=(decide((x:Int)=1)&&decide((y:Int)=q))):=by show _=_;rw [<-HR.out,Ac.kidD,if_pos hK,if_neg a1,if_pos a3]
  clear hK a1 a3 HR
  by_cases hx1:(x:Int)=1
  ·rw [decide_eq_true hx1]at ex1
   have HQ2:Hid(R=decide((y:Int)=q)):=by show _=_;rw [HQ.out,decide_eq_true hx1,Bool.true_and]
   clear hx1 HQ;go_wp2;go_ret;exact⟨by rw [HQ2.out];rfl,HX4.out⟩
  rw [decide_eq_false hx1]at ex1;have HQ2:Hid(R=false):=by show _=_;rw [HQ.out,decide_eq_false hx1,Bool.false_and]
  clear hx1 HQ;go_wp2;go_ret;exact⟨by rw [HQ2.out];rfl,HX4.out⟩
 have f3:(A==3)=false:=by simpa using a3
 by_cases a24:A=2∨A=4
 rotate_left
 ·have f2:(A==2)=false:=by simpa using λh=>a24(.inl h)
  have f4:(A==4)=false:=by simpa using λh=>a24(.inr h)
  have HQ:Hid(R=true):=by show _=_;rw [<-HR.out,Ac.kidD,if_pos hK,if_neg a1,if_neg a3,if_neg a24]
  clear hK a1 a3 a24 HR ex1 ey1 eyq;go_wp2;go_ret;exact⟨by rw [HQ.out];rfl,HX4.out⟩
 have HQ:Hid(R=(decide(2<=(x:Int))&&decide((y:Int)=1))):=by show _=_;rw [<-HR.out,Ac.kidD,if_pos hK,if_neg a1,if_neg a3,if_pos a24]
 clear hK a1 a3 HR
 rcases a24 with rfl|rfl
 ·by_cases hx1:2<=(x:Int)
  ·have ex2:decide(2<=(x:Int))=true:=decide_eq_true hx1
   have HQ2:Hid(R=decide((y:Int)=1)):=by show _=_;rw [HQ.out,ex2,Bool.true_and]
   clear HQ ex1;go_wp2;go_ret;exact⟨by rw [HQ2.out];rfl,HX4.out⟩
  have ex2:decide(2<=(x:Int))=false:=decide_eq_false hx1;have HQ2:Hid(R=false):=by show _=_;rw [HQ.out,ex2,Bool.false_and]
  clear HQ ex1;go_wp2;go_ret;exact⟨by rw [HQ2.out];rfl,HX4.out⟩
 by_cases hx1:2<=(x:Int)
 ·have ex2:decide(2<=(x:Int))=true:=decide_eq_true hx1
  have HQ2:Hid(R=decide((y:Int)=1)):=by show _=_;rw [HQ.out,ex2,Bool.true_and]
  clear HQ ex1;go_wp2;go_ret;exact⟨by rw [HQ2.out];rfl,HX4.out⟩
 have ex2:decide(2<=(x:Int))=false:=decide_eq_false hx1;have HQ2:Hid(R=false):=by show _=_;rw [HQ.out,ex2,Bool.false_and]
 clear HQ ex1;go_wp2;go_ret;exact⟨by rw [HQ2.out];rfl,HX4.out⟩
theorem Rk.outB_eq(n x y:Int):Rk.outB n(x,y)=(decide(x<0)||decide(n<=x)||decide(y<0)||decide(n<=y)):=by
 rw [Bool.eq_iff_iff];simp only [Rk.outB,Rk.inB,Bool.or_eq_true,Bool.not_eq_true',Bool.and_eq_false_iff,decide_eq_true_eq,decide_eq_false_iff_not];omega
theorem Tryz.rcheck_any(n:Int)(a:Option Addr)(c:Nat)(rs:List(Int×Int))(w:World)(hE:Rk.Eds w w.heap.size a rs)(hn:rs.length<=1000000000000000):
  Calls Tryz.prog 116 #[.int .i64 n, .slice a rs.length c]w λe w'=>e= .returned(.int .i64(Rk.chk n rs))/\Below w.heap.size w w':=by
 obtain⟨m,hm⟩: ∃m,rs.length=m:=⟨_,rfl⟩;have HE:Hid(Rk.Eds w w.heap.size a rs/\rs.length=m):=⟨hE,hm⟩;rw [hm]at hn⊢;obtain⟨r,hr⟩: ∃r,Rk.chk n rs=r:=⟨_,rfl⟩;have HR:Hid((if n<0∨64<n then 1 else if 256<m then 2 else if rs.any(Rk.outB n)=true then 4 else 0)=r):=by show _=r;rw [<-hr,<-hm];rfl
 rw [hr];clear hE hr hm
 by_cases h1:n<0
 ·have d1:decide(n<0)=true:=decide_eq_true h1
  have hr:r=1:=by rw [<-HR.out,if_pos(.inl h1)]
  subst hr;clear h1
  go_enter Tryz.func116,Tryz.ntmps116
  go_wp2;go_ret;exact⟨rfl,Below.refl _ _⟩
 have d1:decide(n<0)=false:=decide_eq_false h1
 by_cases h2:64<n
 ·have d2:decide(64<n)=true:=decide_eq_true h2
  have hr:r=1:=by rw [<-HR.out,if_pos(.inr h2)]
  subst hr;clear h1 h2
  go_enter Tryz.func116,Tryz.ntmps116
  go_wp2;go_ret;exact⟨rfl,Below.refl _ _⟩
 have d2:decide(64<n)=false:=decide_eq_false h2
 by_cases h3:256<m
 ·have hr:r=2:=by rw [<-HR.out,if_neg(show¬(n<0∨64<n)by omega),if_pos h3]
  subst hr;have d3:decide((256:Int)<m)=true:=decide_eq_true(by omega);clear h1 h2
  go_enter Tryz.func116,Tryz.ntmps116
  go_wp2;go_ret;exact⟨rfl,Below.refl _ _⟩
 have d3:decide((256:Int)<m)=false:=decide_eq_false(by omega);have HR':Hid((if rs.any(Rk.outB n)=true then 4 else 0)=r):=by show _=r;rw [<-HR.out,if_neg(show¬(n<0∨64<n)by omega),if_neg h3]
 clear HR h1 h2
 go_enter Tryz.func116,Tryz.ntmps116
 go_wp2
 go_loopg [18]m(λgk s18 wr=> ∃k:Nat,gk+k=m/\s18= .int .i64 k/\Hid((rs.take k).any(Rk.outB n)=false/\Below w.heap.size w wr))
 case atStart=>exact⟨0,by omega,rfl,by simp,Below.refl _ _⟩
 case round=>
  obtain⟨k,hk,rfl,HB⟩:=hrel
  by_cases hlt:k<m
  rotate_left
  ·have hd:decide((k:Int)<m)=false:=decide_eq_false(by omega)
   have hr:r=0:=by
    rw [<-HR'.out];have:=HB.out.1;rw [List.take_of_length_le(by rw [HE.out.2];omega)]at this;rw [this];rfl
   subst hr;go_wp2;go_ret;exact⟨rfl,HB.out.2⟩
  have hd:decide((k:Int)<m)=true:=decide_eq_true(by omega);have hkl:k<rs.length:=by rw [HE.out.2];exact hlt
  obtain⟨q,off,rfl,hq,h0,h1⟩:=HE.out.1 k hkl;obtain⟨e,he⟩: ∃x,rs[k]=x:=⟨_,rfl⟩;obtain⟨x,y⟩:=e;rw [he]at h0 h1;have hc0:wr.cell? ⟨q,off+k*2,none⟩=some(.int .i64 x):=by rw [HB.out.2.cell(p:=⟨q,off+k*2,none⟩)hq];exact h0
  have hc1:wr.cell? ⟨q,off+k*2+1,none⟩=some(.int .i64 y):=by rw [HB.out.2.cell(p:=⟨q,off+k*2+1,none⟩)hq];exact h1
  have HX:Hid(rs[k]=(x,y)):=he;have hqz:q<wr.heap.size:=by have:=HB.out.2.size;omega
  have hu:=Tryz.underlying143;have HA:Hid(Below w.heap.size w(wr.alloc(.cells #[.int .i64 x, .int .i64 y]143))):=HB.out.2.alloc HB.out.2.size _
  have Hyes:Hid(Rk.outB n(x,y)=true->r=4):=λh=>by
   rw [<-HR'.out,if_pos(List.any_eq_true.2⟨rs[k],List.getElem_mem hkl,by rw [HX.out];exact h⟩)]
  have Hno:Hid(Rk.outB n(x,y)=false->(rs.take(k+1)).any(Rk.outB n)=false):=λh=>by
   rw [Tm.take_snoc _ _ hkl,List.any_append,HB.out.1,HX.out];simp [h]
  have HO:Hid _:=Rk.outB_eq n x y;clear h0 h1 he
  cases e0:decide(x<0)
  ·cases e1:decide(n<=x)
   ·cases e2:decide(y<0)
    ·cases e3:decide(n<=y)
     ·have H4:Hid(Rk.outB n(x,y)=false):=by show _=_;rw [HO.out,e0,e1,e2,e3];rfl
      go_wp2;go_roundg(gk-1)
      case measure=>omega
      case rel=>exact⟨k+1,by omega,by go_num,Hno.out H4.out,HA.out⟩
     obtain rfl:r=4:=Hyes.out(by rw [HO.out,e0,e1,e2,e3];rfl);go_wp2;go_ret;exact⟨rfl,HA.out⟩
    obtain rfl:r=4:=Hyes.out(by rw [HO.out,e0,e1,e2];rfl);go_wp2;go_ret;exact⟨rfl,HA.out⟩
   obtain rfl:r=4:=Hyes.out(by rw [HO.out,e0,e1];rfl);go_wp2;go_ret;exact⟨rfl,HA.out⟩
  obtain rfl:r=4:=Hyes.out(by rw [HO.out,e0];rfl);go_wp2;go_ret;exact⟨rfl,HA.out⟩
end Go.Proofs
