import Derived.Test.YtmomffminkflnaaGreatDoorRAllNtOne
set_option maxRecDepth 100000
set_option maxHeartbeats 32000000
namespace Go.Proofs
open Go.RowKit Go.Shelf
theorem Tryz.fm_6(x1 x2 x3 x4 x5:Int)(a6 a7 a8 a9 aA aB:Option Addr)(n6 c6 n7 c7 n8 c8 n9 c9 nA cA nB cB:Nat)(w:World)(hb:Bool)(P:Prop)(_hn7:n7<=1000)(hn8:n8<=1000)(CH0: ∀W,Below w.heap.size w W->Calls Tryz.prog 58 #[.agg #[.int .i64 6, .int .i64 x1, .int .i64 x2, .int .i64 x3, .int .i64 x4, .int .i64 x5, .slice a6 n6 c6, .slice a7 n7 c7, .slice a8 n8 c8, .slice a9 n9 c9, .slice aA nA cA, .slice aB nB cB]]W λe w'=>e= .returned(.bool hb)/\Below W.heap.size W w')(CA0: ∀W,Below w.heap.size w W->Calls Tryz.prog 65 #[.agg #[.int .i64 6, .int .i64 x1, .int .i64 x2, .int .i64 x3, .int .i64 x4, .int .i64 x5, .slice a6 n6 c6, .slice a7 n7 c7, .slice none 0 0, .slice a9 n9 c9, .slice aA nA cA, .slice aB nB cB], .agg #[.int .i64 6, .int .i64 0, .int .i64 0, .int .i64 0, .int .i64 0, .int .i64 0, .slice none 0 0, .slice none 0 0, .slice none 0 0, .slice none 0 0, .slice none 0 0, .slice none 0 0]]W λe w'=>Ak.Told P e/\Below W.heap.size W w'):
  Calls Tryz.prog 48 #[.agg #[.int .i64 6, .int .i64 x1, .int .i64 x2, .int .i64 x3, .int .i64 x4, .int .i64 x5, .slice a6 n6 c6, .slice a7 n7 c7, .slice a8 n8 c8, .slice a9 n9 c9, .slice aA nA cA, .slice aB nB cB]]w λe w'=>Ak.Told(hb=true/\2<=n8/\P/\True)e/\Below w.heap.size w w':=by
 obtain⟨Q,hQ⟩: ∃Q:Prop,(hb=true/\2<=n8/\P/\True)=Q:=⟨_,rfl⟩;rw [hQ];have HQ:Hid(Q↔hb=true/\2<=n8/\P/\True):=by rw [<-hQ];exact Iff.rfl
 have CH:Hid _:=CH0;have CA:Hid _:=CA0;obtain⟨w1,hw1⟩: ∃x,w.alloc(.cells #[.int .i64 6, .int .i64 x1, .int .i64 x2, .int .i64 x3, .int .i64 x4, .int .i64 x5, .slice a6 n6 c6, .slice a7 n7 c7, .slice a8 n8 c8, .slice a9 n9 c9, .slice aA nA cA, .slice aB nB cB]32)=x:=⟨_,rfl⟩;have A1:Below w.heap.size w w1:=by rw [<-hw1];exact(Below.refl _ w).alloc(Nat.le_refl _)_
 have G1:w1.heap[w.heap.size]? =some(.cells #[.int .i64 6, .int .i64 x1, .int .i64 x2, .int .i64 x3, .int .i64 x4, .int .i64 x5, .slice a6 n6 c6, .slice a7 n7 c7, .slice a8 n8 c8, .slice a9 n9 c9, .slice aA nA cA, .slice aB nB cB]32(0,0)):=by rw [<-hw1];exact heap_alloc_new w _
 have ca:w1.cell? ⟨w.heap.size,0,none⟩=some(.int .i64 6)/\w1.cell? ⟨w.heap.size,1,none⟩=some(.int .i64 x1)/\w1.cell? ⟨w.heap.size,2,none⟩=some(.int .i64 x2)/\w1.cell? ⟨w.heap.size,3,none⟩=some(.int .i64 x3)/\w1.cell? ⟨w.heap.size,4,none⟩=some(.int .i64 x4)/\w1.cell? ⟨w.heap.size,5,none⟩=some(.int .i64 x5)/\w1.cell? ⟨w.heap.size,6,none⟩=some(.slice a6 n6 c6)/\w1.cell? ⟨w.heap.size,7,none⟩=some(.slice a7 n7 c7)/\w1.cell? ⟨w.heap.size,8,none⟩=some(.slice a8 n8 c8)/\w1.cell? ⟨w.heap.size,9,none⟩=some(.slice a9 n9 c9)/\w1.cell? ⟨w.heap.size,10,none⟩=some(.slice aA nA cA)/\w1.cell? ⟨w.heap.size,11,none⟩=some(.slice aB nB cB):=by simp [World.cell?,G1]
 obtain⟨m0,m1,m2,m3,m4,m5,m6,m7,m8,m9,m10,m11⟩:=ca;have H1:Hid(w.alloc(.cells #[.int .i64 6, .int .i64 x1, .int .i64 x2, .int .i64 x3, .int .i64 x4, .int .i64 x5, .slice a6 n6 c6, .slice a7 n7 c7, .slice a8 n8 c8, .slice a9 n9 c9, .slice aA nA cA, .slice aB nB cB]32)=w1):=hw1;have HA:Hid(Below w.heap.size w w1/\w1.heap[w.heap.size]? =some(.cells #[.int .i64 6, .int .i64 x1, .int .i64 x2, .int .i64 x3, .int .i64 x4, .int .i64 x5, .slice a6 n6 c6, .slice a7 n7 c7, .slice a8 n8 c8, .slice a9 n9 c9, .slice aA nA cA, .slice aB nB cB]32(0,0))):=⟨A1,G1⟩;clear hw1 A1 G1 CH0 CA0 hQ
 go_enter Tryz.func48,Tryz.ntmps48
 go_upto_region 1 with fail
 rw [H1.out]
 go_wp2_with fail
 refine Calls.mono(CH.out _ HA.out.1) ?_;rintro e W2⟨rfl,hb2⟩;clear H1 CH m0 m1 m2 m3 m4 m5 m6 m7 m8 m9 m10 m11
 go_upto_region 3 with fail
 obtain⟨W3,hW3⟩: ∃z,W2.alloc(.cells #[.bool hb]4)=z:=⟨_,rfl⟩;have hx2:W2.heap[w.heap.size]? =some(.cells #[.int .i64 6, .int .i64 x1, .int .i64 x2, .int .i64 x3, .int .i64 x4, .int .i64 x5, .slice a6 n6 c6, .slice a7 n7 c7, .slice a8 n8 c8, .slice a9 n9 c9, .slice aA nA cA, .slice aB nB cB]32(0,0)):=(hb2.block _(Array.getElem?_eq_some_iff.1 HA.out.2).1).trans HA.out.2;have hl2:=(Array.getElem?_eq_some_iff.1 hx2).1
 have FW3:Hid(Ak.Fm w w.heap.size W2.heap.size #[.int .i64 6, .int .i64 x1, .int .i64 x2, .int .i64 x3, .int .i64 x4, .int .i64 x5, .slice a6 n6 c6, .slice a7 n7 c7, .slice a8 n8 c8, .slice a9 n9 c9, .slice aA nA cA, .slice aB nB cB]hb W3):=by
  have b3:Below W2.heap.size W2 W3:=by rw [<-hW3];exact(Below.refl _ W2).alloc(Nat.le_refl _)_
  have b2:Below w.heap.size w W2:=HA.out.1.trans(hb2.mono HA.out.1.size);exact⟨(b3.block _ hl2).trans hx2,by rw [<-hW3];exact heap_alloc_new W2 _,by omega,Nat.le_refl _,b2.size,b2.trans(b3.mono b2.size)⟩
 rw [hW3];obtain⟨rb,hrb⟩: ∃z,W2.heap.size=z:=⟨_,rfl⟩;rw [hrb]at FW3⊢;clear hW3 hx2 hl2 hb2 hrb HA;have k0:W3.cell? ⟨w.heap.size,0,none⟩=some(.int .i64 6):=by simp [World.cell?,FW3.out.box]
 have CN:Hid _:=Tryz.hasNode_any 6 W3
 go_wp2_with fail
 refine Calls.mono CN.out ?_;rintro e W4⟨rfl,hw4⟩;obtain rfl:=hw4.symm;clear CN;have ehn:Ac.hasNodeB 6=false:=rfl;rw [ehn];clear ehn;obtain⟨r1,hr1⟩: ∃z,(hb&&(decide(2<=n8)))=z:=⟨_,rfl⟩;have Hr1:Hid(r1=true↔hb=true/\2<=n8):=by show _↔_;rw [<-hr1];simp
 go_upto_region 32 with fail
 have kr:=FW3.out.cr;have fr:=FW3.out.fr;have k8:W3.cell? ⟨w.heap.size,8,none⟩=some(.slice a8 n8 c8):=FW3.out.cell 8
 go_cut []from 43 to 179(λwx=>Hid(Ak.Fm w w.heap.size rb #[.int .i64 6, .int .i64 x1, .int .i64 x2, .int .i64 x3, .int .i64 x4, .int .i64 x5, .slice a6 n6 c6, .slice a7 n7 c7, .slice a8 n8 c8, .slice a9 n9 c9, .slice aA nA cA, .slice aB nB cB]r1 wx))
 case first=>
  cases hb with
  |false=>
   go_wp2_with fail
   go_meet;exact by rw [<-hr1];exact FW3.out.setR _
  |true=>
  by_cases q: ¬(2<=n8)
  ·have dq:decide((2:Int)<=n8)=false:=decide_eq_false(by omega)
   have dq2: ¬(2:Int)<=n8:=by omega
   have e:r1=false:=by rw [<-hr1];simp [q]
   clear q hr1
   go_wp2_with fail
   go_meet;exact by rw [e];exact FW3.out.setR _
  replace q:=Decidable.not_not.1 q;have dq:decide((2:Int)<=n8)=true:=decide_eq_true(by omega);have dq2:(2:Int)<=n8:=by omega
  have e:r1=true:=by rw [<-hr1];simp [q]
  clear q hr1
  go_wp2_with fail
  go_meet;exact by rw [e];exact FW3.out.setR _
 case rest=>
 rename World=>W18;have FW18:Hid _:=hcut;clear hcut kr fr k8 hr1;have kz8:W18.cell? ⟨w.heap.size,8,none⟩=some(.slice a8 n8 c8):=FW18.out.cell 8;have fz8:=FW18.out.fx 8
 go_upto_region 46 with fail
 obtain⟨W19,hW19⟩: ∃z,(W18.setCell⟨w.heap.size,8,none⟩(.slice none 0 0))=z:=⟨_,rfl⟩;rw [hW19];have FW19:Hid(Ak.Fm w w.heap.size rb #[.int .i64 6, .int .i64 x1, .int .i64 x2, .int .i64 x3, .int .i64 x4, .int .i64 x5, .slice a6 n6 c6, .slice a7 n7 c7, .slice none 0 0, .slice a9 n9 c9, .slice aA nA cA, .slice aB nB cB]r1 W19):=by rw [<-hW19];exact(FW18.out.setX 8(.slice none 0 0))
 clear hW19 kz8 fz8;have HRA:Hid(r1=true↔hb=true/\2<=n8):=Hr1.out;have kr:=FW19.out.cr
 cases r1 with
 |false=>
  have HN:Hid(¬Q):=λh=>absurd(HRA.out.2⟨(HQ.out.1 h).1,(HQ.out.1 h).2.1⟩)(by decide);go_wp2;go_ret;exact⟨Ak.Told.no HN.out,FW19.out.bel⟩
 |true=>
 have hh:=HRA.out.1 rfl;have HH:Hid _:=hh;clear hh;have k0:W19.cell? ⟨w.heap.size,0,none⟩=some(.int .i64 6):=FW19.out.cell 0;have k1:W19.cell? ⟨w.heap.size,1,none⟩=some(.int .i64 x1):=FW19.out.cell 1;have k2:W19.cell? ⟨w.heap.size,2,none⟩=some(.int .i64 x2):=FW19.out.cell 2;have k3:W19.cell? ⟨w.heap.size,3,none⟩=some(.int .i64 x3):=FW19.out.cell 3;have k4:W19.cell? ⟨w.heap.size,4,none⟩=some(.int .i64 x4):=FW19.out.cell 4;have k5:W19.cell? ⟨w.heap.size,5,none⟩=some(.int .i64 x5):=FW19.out.cell 5;have k6:W19.cell? ⟨w.heap.size,6,none⟩=some(.slice a6 n6 c6):=FW19.out.cell 6;have k7:W19.cell? ⟨w.heap.size,7,none⟩=some(.slice a7 n7 c7):=FW19.out.cell 7;have k8:W19.cell? ⟨w.heap.size,8,none⟩=some(.slice none 0 0):=FW19.out.cell 8;have k9:W19.cell? ⟨w.heap.size,9,none⟩=some(.slice a9 n9 c9):=FW19.out.cell 9;have k10:W19.cell? ⟨w.heap.size,10,none⟩=some(.slice aA nA cA):=FW19.out.cell 10;have k11:W19.cell? ⟨w.heap.size,11,none⟩=some(.slice aB nB cB):=FW19.out.cell 11
 go_wp2_with fail
 clear kr k0 k1 k2 k3 k4 k5 k6 k7 k8 k9 k10 k11;refine Calls.mono(CA.out _ FW19.out.bel) ?_;rintro e W20⟨⟨r,rfl,hr⟩,hbe⟩;have FW20:Hid(Ak.Fm w w.heap.size rb #[.int .i64 6, .int .i64 x1, .int .i64 x2, .int .i64 x3, .int .i64 x4, .int .i64 x5, .slice a6 n6 c6, .slice a7 n7 c7, .slice none 0 0, .slice a9 n9 c9, .slice aA nA cA, .slice aB nB cB]true W20/\(r=true↔P)):=⟨FW19.out.below hbe,hr⟩;clear hbe hr
 cases r with
 |false=>
  have HN:Hid(¬Q):=λh=>absurd(FW20.out.2.2(HQ.out.1 h).2.2.1)(by decide);go_wp2;go_ret;exact⟨Ak.Told.no HN.out,FW20.out.1.bel⟩
 |true=>
 have HP:Hid P:=FW20.out.2.1(by first|rfl|trivial);have k8:W20.cell? ⟨w.heap.size,8,none⟩=some(.slice none 0 0):=FW20.out.1.cell 8;go_wp2;go_ret;exact⟨Ak.Told.yes(HQ.out.2⟨HH.out.1,HH.out.2,HP.out,trivial⟩),FW20.out.1.bel⟩
theorem Tryz.fm_7(x1 x2 x3 x4 x5:Int)(a6 a7 a8 a9 aA aB:Option Addr)(n6 c6 n7 c7 n8 c8 n9 c9 nA cA nB cB:Nat)(w:World)(hb:Bool)(P:Prop)(_hn7:n7<=1000)(hn8:n8<=1000)(CH0: ∀W,Below w.heap.size w W->Calls Tryz.prog 58 #[.agg #[.int .i64 7, .int .i64 x1, .int .i64 x2, .int .i64 x3, .int .i64 x4, .int .i64 x5, .slice a6 n6 c6, .slice a7 n7 c7, .slice a8 n8 c8, .slice a9 n9 c9, .slice aA nA cA, .slice aB nB cB]]W λe w'=>e= .returned(.bool hb)/\Below W.heap.size W w')(CA0: ∀W,Below w.heap.size w W->Calls Tryz.prog 65 #[.agg #[.int .i64 7, .int .i64 x1, .int .i64 x2, .int .i64 x3, .int .i64 x4, .int .i64 x5, .slice a6 n6 c6, .slice a7 n7 c7, .slice none 0 0, .slice a9 n9 c9, .slice aA nA cA, .slice aB nB cB], .agg #[.int .i64 7, .int .i64 0, .int .i64 0, .int .i64 0, .int .i64 0, .int .i64 0, .slice none 0 0, .slice none 0 0, .slice none 0 0, .slice none 0 0, .slice none 0 0, .slice none 0 0]]W λe w'=>Ak.Told P e/\Below W.heap.size W w'):
  Calls Tryz.prog 48 #[.agg #[.int .i64 7, .int .i64 x1, .int .i64 x2, .int .i64 x3, .int .i64 x4, .int .i64 x5, .slice a6 n6 c6, .slice a7 n7 c7, .slice a8 n8 c8, .slice a9 n9 c9, .slice aA nA cA, .slice aB nB cB]]w λe w'=>Ak.Told(hb=true/\2<=n8/\P/\True)e/\Below w.heap.size w w':=by
 obtain⟨Q,hQ⟩: ∃Q:Prop,(hb=true/\2<=n8/\P/\True)=Q:=⟨_,rfl⟩;rw [hQ];have HQ:Hid(Q↔hb=true/\2<=n8/\P/\True):=by rw [<-hQ];exact Iff.rfl
 have CH:Hid _:=CH0;have CA:Hid _:=CA0;obtain⟨w1,hw1⟩: ∃x,w.alloc(.cells #[.int .i64 7, .int .i64 x1, .int .i64 x2, .int .i64 x3, .int .i64 x4, .int .i64 x5, .slice a6 n6 c6, .slice a7 n7 c7, .slice a8 n8 c8, .slice a9 n9 c9, .slice aA nA cA, .slice aB nB cB]32)=x:=⟨_,rfl⟩;have A1:Below w.heap.size w w1:=by rw [<-hw1];exact(Below.refl _ w).alloc(Nat.le_refl _)_
 have G1:w1.heap[w.heap.size]? =some(.cells #[.int .i64 7, .int .i64 x1, .int .i64 x2, .int .i64 x3, .int .i64 x4, .int .i64 x5, .slice a6 n6 c6, .slice a7 n7 c7, .slice a8 n8 c8, .slice a9 n9 c9, .slice aA nA cA, .slice aB nB cB]32(0,0)):=by rw [<-hw1];exact heap_alloc_new w _
 have ca:w1.cell? ⟨w.heap.size,0,none⟩=some(.int .i64 7)/\w1.cell? ⟨w.heap.size,1,none⟩=some(.int .i64 x1)/\w1.cell? ⟨w.heap.size,2,none⟩=some(.int .i64 x2)/\w1.cell? ⟨w.heap.size,3,none⟩=some(.int .i64 x3)/\w1.cell? ⟨w.heap.size,4,none⟩=some(.int .i64 x4)/\w1.cell? ⟨w.heap.size,5,none⟩=some(.int .i64 x5)/\w1.cell? ⟨w.heap.size,6,none⟩=some(.slice a6 n6 c6)/\w1.cell? ⟨w.heap.size,7,none⟩=some(.slice a7 n7 c7)/\w1.cell? ⟨w.heap.size,8,none⟩=some(.slice a8 n8 c8)/\w1.cell? ⟨w.heap.size,9,none⟩=some(.slice a9 n9 c9)/\w1.cell? ⟨w.heap.size,10,none⟩=some(.slice aA nA cA)/\w1.cell? ⟨w.heap.size,11,none⟩=some(.slice aB nB cB):=by simp [World.cell?,G1]
 obtain⟨m0,m1,m2,m3,m4,m5,m6,m7,m8,m9,m10,m11⟩:=ca;have H1:Hid(w.alloc(.cells #[.int .i64 7, .int .i64 x1, .int .i64 x2, .int .i64 x3, .int .i64 x4, .int .i64 x5, .slice a6 n6 c6, .slice a7 n7 c7, .slice a8 n8 c8, .slice a9 n9 c9, .slice aA nA cA, .slice aB nB cB]32)=w1):=hw1;have HA:Hid(Below w.heap.size w w1/\w1.heap[w.heap.size]? =some(.cells #[.int .i64 7, .int .i64 x1, .int .i64 x2, .int .i64 x3, .int .i64 x4, .int .i64 x5, .slice a6 n6 c6, .slice a7 n7 c7, .slice a8 n8 c8, .slice a9 n9 c9, .slice aA nA cA, .slice aB nB cB]32(0,0))):=⟨A1,G1⟩;clear hw1 A1 G1 CH0 CA0 hQ
 go_enter Tryz.func48,Tryz.ntmps48
 go_upto_region 1 with fail
 rw [H1.out]
 go_wp2_with fail
 refine Calls.mono(CH.out _ HA.out.1) ?_;rintro e W2⟨rfl,hb2⟩;clear H1 CH m0 m1 m2 m3 m4 m5 m6 m7 m8 m9 m10 m11
 go_upto_region 3 with fail
 obtain⟨W3,hW3⟩: ∃z,W2.alloc(.cells #[.bool hb]4)=z:=⟨_,rfl⟩;have hx2:W2.heap[w.heap.size]? =some(.cells #[.int .i64 7, .int .i64 x1, .int .i64 x2, .int .i64 x3, .int .i64 x4, .int .i64 x5, .slice a6 n6 c6, .slice a7 n7 c7, .slice a8 n8 c8, .slice a9 n9 c9, .slice aA nA cA, .slice aB nB cB]32(0,0)):=(hb2.block _(Array.getElem?_eq_some_iff.1 HA.out.2).1).trans HA.out.2;have hl2:=(Array.getElem?_eq_some_iff.1 hx2).1
 have FW3:Hid(Ak.Fm w w.heap.size W2.heap.size #[.int .i64 7, .int .i64 x1, .int .i64 x2, .int .i64 x3, .int .i64 x4, .int .i64 x5, .slice a6 n6 c6, .slice a7 n7 c7, .slice a8 n8 c8, .slice a9 n9 c9, .slice aA nA cA, .slice aB nB cB]hb W3):=by
  have b3:Below W2.heap.size W2 W3:=by rw [<-hW3];exact(Below.refl _ W2).alloc(Nat.le_refl _)_
  have b2:Below w.heap.size w W2:=HA.out.1.trans(hb2.mono HA.out.1.size);exact⟨(b3.block _ hl2).trans hx2,by rw [<-hW3];exact heap_alloc_new W2 _,by omega,Nat.le_refl _,b2.size,b2.trans(b3.mono b2.size)⟩
 rw [hW3];obtain⟨rb,hrb⟩: ∃z,W2.heap.size=z:=⟨_,rfl⟩;rw [hrb]at FW3⊢;clear hW3 hx2 hl2 hb2 hrb HA;have k0:W3.cell? ⟨w.heap.size,0,none⟩=some(.int .i64 7):=by simp [World.cell?,FW3.out.box]
 have CN:Hid _:=Tryz.hasNode_any 7 W3
 go_wp2_with fail
 refine Calls.mono CN.out ?_;rintro e W4⟨rfl,hw4⟩;obtain rfl:=hw4.symm;clear CN;have ehn:Ac.hasNodeB 7=false:=rfl;rw [ehn];clear ehn;obtain⟨r1,hr1⟩: ∃z,(hb&&(decide(2<=n8)))=z:=⟨_,rfl⟩;have Hr1:Hid(r1=true↔hb=true/\2<=n8):=by show _↔_;rw [<-hr1];simp
 go_upto_region 32 with fail
 have kr:=FW3.out.cr;have fr:=FW3.out.fr;have k8:W3.cell? ⟨w.heap.size,8,none⟩=some(.slice a8 n8 c8):=FW3.out.cell 8
 go_cut []from 43 to 179(λwx=>Hid(Ak.Fm w w.heap.size rb #[.int .i64 7, .int .i64 x1, .int .i64 x2, .int .i64 x3, .int .i64 x4, .int .i64 x5, .slice a6 n6 c6, .slice a7 n7 c7, .slice a8 n8 c8, .slice a9 n9 c9, .slice aA nA cA, .slice aB nB cB]r1 wx))
 case first=>
  cases hb with
  |false=>
   go_wp2_with fail
   go_meet;exact by rw [<-hr1];exact FW3.out.setR _
  |true=>
  by_cases q: ¬(2<=n8)
  ·have dq:decide((2:Int)<=n8)=false:=decide_eq_false(by omega)
   have dq2: ¬(2:Int)<=n8:=by omega
   have e:r1=false:=by rw [<-hr1];simp [q]
   clear q hr1
   go_wp2_with fail
   go_meet;exact by rw [e];exact FW3.out.setR _
  replace q:=Decidable.not_not.1 q;have dq:decide((2:Int)<=n8)=true:=decide_eq_true(by omega);have dq2:(2:Int)<=n8:=by omega
  have e:r1=true:=by rw [<-hr1];simp [q]
  clear q hr1
  go_wp2_with fail
  go_meet;exact by rw [e];exact FW3.out.setR _
 case rest=>
 rename World=>W18;have FW18:Hid _:=hcut;clear hcut kr fr k8 hr1;have kz8:W18.cell? ⟨w.heap.size,8,none⟩=some(.slice a8 n8 c8):=FW18.out.cell 8;have fz8:=FW18.out.fx 8
 go_upto_region 46 with fail
 obtain⟨W19,hW19⟩: ∃z,(W18.setCell⟨w.heap.size,8,none⟩(.slice none 0 0))=z:=⟨_,rfl⟩;rw [hW19];have FW19:Hid(Ak.Fm w w.heap.size rb #[.int .i64 7, .int .i64 x1, .int .i64 x2, .int .i64 x3, .int .i64 x4, .int .i64 x5, .slice a6 n6 c6, .slice a7 n7 c7, .slice none 0 0, .slice a9 n9 c9, .slice aA nA cA, .slice aB nB cB]r1 W19):=by rw [<-hW19];exact(FW18.out.setX 8(.slice none 0 0))
 clear hW19 kz8 fz8;have HRA:Hid(r1=true↔hb=true/\2<=n8):=Hr1.out;have kr:=FW19.out.cr
 cases r1 with
 |false=>
  have HN:Hid(¬Q):=λh=>absurd(HRA.out.2⟨(HQ.out.1 h).1,(HQ.out.1 h).2.1⟩)(by decide);go_wp2;go_ret;exact⟨Ak.Told.no HN.out,FW19.out.bel⟩
 |true=>
 have hh:=HRA.out.1 rfl;have HH:Hid _:=hh;clear hh;have k0:W19.cell? ⟨w.heap.size,0,none⟩=some(.int .i64 7):=FW19.out.cell 0;have k1:W19.cell? ⟨w.heap.size,1,none⟩=some(.int .i64 x1):=FW19.out.cell 1;have k2:W19.cell? ⟨w.heap.size,2,none⟩=some(.int .i64 x2):=FW19.out.cell 2;have k3:W19.cell? ⟨w.heap.size,3,none⟩=some(.int .i64 x3):=FW19.out.cell 3;have k4:W19.cell? ⟨w.heap.size,4,none⟩=some(.int .i64 x4):=FW19.out.cell 4;have k5:W19.cell? ⟨w.heap.size,5,none⟩=some(.int .i64 x5):=FW19.out.cell 5;have k6:W19.cell? ⟨w.heap.size,6,none⟩=some(.slice a6 n6 c6):=FW19.out.cell 6;have k7:W19.cell? ⟨w.heap.size,7,none⟩=some(.slice a7 n7 c7):=FW19.out.cell 7;have k8:W19.cell? ⟨w.heap.size,8,none⟩=some(.slice none 0 0):=FW19.out.cell 8;have k9:W19.cell? ⟨w.heap.size,9,none⟩=some(.slice a9 n9 c9):=FW19.out.cell 9;have k10:W19.cell? ⟨w.heap.size,10,none⟩=some(.slice aA nA cA):=FW19.out.cell 10;have k11:W19.cell? ⟨w.heap.size,11,none⟩=some(.slice aB nB cB):=FW19.out.cell 11
 go_wp2_with fail
 clear kr k0 k1 k2 k3 k4 k5 k6 k7 k8 k9 k10 k11;refine Calls.mono(CA.out _ FW19.out.bel) ?_;rintro e W20⟨⟨r,rfl,hr⟩,hbe⟩;have FW20:Hid(Ak.Fm w w.heap.size rb #[.int .i64 7, .int .i64 x1, .int .i64 x2, .int .i64 x3, .int .i64 x4, .int .i64 x5, .slice a6 n6 c6, .slice a7 n7 c7, .slice none 0 0, .slice a9 n9 c9, .slice aA nA cA, .slice aB nB cB]true W20/\(r=true↔P)):=⟨FW19.out.below hbe,hr⟩;clear hbe hr
 cases r with
 |false=>
  have HN:Hid(¬Q):=λh=>absurd(FW20.out.2.2(HQ.out.1 h).2.2.1)(by decide);go_wp2;go_ret;exact⟨Ak.Told.no HN.out,FW20.out.1.bel⟩
 |true=>
 have HP:Hid P:=FW20.out.2.1(by first|rfl|trivial);have k8:W20.cell? ⟨w.heap.size,8,none⟩=some(.slice none 0 0):=FW20.out.1.cell 8;go_wp2;go_ret;exact⟨Ak.Told.yes(HQ.out.2⟨HH.out.1,HH.out.2,HP.out,trivial⟩),FW20.out.1.bel⟩
theorem Tryz.fm_9(x1 x2 x3 x4 x5:Int)(a6 a7 a8 a9 aA aB:Option Addr)(n6 c6 n7 c7 n8 c8 n9 c9 nA cA nB cB:Nat)(w:World)(hb:Bool)(P:Prop)(_hn7:n7<=1000)(hn8:n8<=1000)(CH0: ∀W,Below w.heap.size w W->Calls Tryz.prog 58 #[.agg #[.int .i64 9, .int .i64 x1, .int .i64 x2, .int .i64 x3, .int .i64 x4, .int .i64 x5, .slice a6 n6 c6, .slice a7 n7 c7, .slice a8 n8 c8, .slice a9 n9 c9, .slice aA nA cA, .slice aB nB cB]]W λe w'=>e= .returned(.bool hb)/\Below W.heap.size W w')(CA0: ∀W,Below w.heap.size w W->Calls Tryz.prog 65 #[.agg #[.int .i64 9, .int .i64 0, .int .i64 x2, .int .i64 x3, .int .i64 x4, .int .i64 x5, .slice a6 n6 c6, .slice a7 n7 c7, .slice none 0 0, .slice a9 n9 c9, .slice aA nA cA, .slice aB nB cB], .agg #[.int .i64 9, .int .i64 0, .int .i64 0, .int .i64 0, .int .i64 0, .int .i64 0, .slice none 0 0, .slice none 0 0, .slice none 0 0, .slice none 0 0, .slice none 0 0, .slice none 0 0]]W λe w'=>Ak.Told P e/\Below W.heap.size W w'):
  Calls Tryz.prog 48 #[.agg #[.int .i64 9, .int .i64 x1, .int .i64 x2, .int .i64 x3, .int .i64 x4, .int .i64 x5, .slice a6 n6 c6, .slice a7 n7 c7, .slice a8 n8 c8, .slice a9 n9 c9, .slice aA nA cA, .slice aB nB cB]]w λe w'=>Ak.Told(hb=true/\(0<=x1/\x1<24)/\2<=n8/\P/\True)e/\Below w.heap.size w w':=by
 obtain⟨Q,hQ⟩: ∃Q:Prop,(hb=true/\(0<=x1/\x1<24)/\2<=n8/\P/\True)=Q:=⟨_,rfl⟩;rw [hQ];have HQ:Hid(Q↔hb=true/\(0<=x1/\x1<24)/\2<=n8/\P/\True):=by rw [<-hQ];exact Iff.rfl
 have CH:Hid _:=CH0;have CA:Hid _:=CA0;obtain⟨w1,hw1⟩: ∃x,w.alloc(.cells #[.int .i64 9, .int .i64 x1, .int .i64 x2, .int .i64 x3, .int .i64 x4, .int .i64 x5, .slice a6 n6 c6, .slice a7 n7 c7, .slice a8 n8 c8, .slice a9 n9 c9, .slice aA nA cA, .slice aB nB cB]32)=x:=⟨_,rfl⟩;have A1:Below w.heap.size w w1:=by rw [<-hw1];exact(Below.refl _ w).alloc(Nat.le_refl _)_
 have G1:w1.heap[w.heap.size]? =some(.cells #[.int .i64 9, .int .i64 x1, .int .i64 x2, .int .i64 x3, .int .i64 x4, .int .i64 x5, .slice a6 n6 c6, .slice a7 n7 c7, .slice a8 n8 c8, .slice a9 n9 c9, .slice aA nA cA, .slice aB nB cB]32(0,0)):=by rw [<-hw1];exact heap_alloc_new w _
 have ca:w1.cell? ⟨w.heap.size,0,none⟩=some(.int .i64 9)/\w1.cell? ⟨w.heap.size,1,none⟩=some(.int .i64 x1)/\w1.cell? ⟨w.heap.size,2,none⟩=some(.int .i64 x2)/\w1.cell? ⟨w.heap.size,3,none⟩=some(.int .i64 x3)/\w1.cell? ⟨w.heap.size,4,none⟩=some(.int .i64 x4)/\w1.cell? ⟨w.heap.size,5,none⟩=some(.int .i64 x5)/\w1.cell? ⟨w.heap.size,6,none⟩=some(.slice a6 n6 c6)/\w1.cell? ⟨w.heap.size,7,none⟩=some(.slice a7 n7 c7)/\w1.cell? ⟨w.heap.size,8,none⟩=some(.slice a8 n8 c8)/\w1.cell? ⟨w.heap.size,9,none⟩=some(.slice a9 n9 c9)/\w1.cell? ⟨w.heap.size,10,none⟩=some(.slice aA nA cA)/\w1.cell? ⟨w.heap.size,11,none⟩=some(.slice aB nB cB):=by simp [World.cell?,G1]
 obtain⟨m0,m1,m2,m3,m4,m5,m6,m7,m8,m9,m10,m11⟩:=ca;have H1:Hid(w.alloc(.cells #[.int .i64 9, .int .i64 x1, .int .i64 x2, .int .i64 x3, .int .i64 x4, .int .i64 x5, .slice a6 n6 c6, .slice a7 n7 c7, .slice a8 n8 c8, .slice a9 n9 c9, .slice aA nA cA, .slice aB nB cB]32)=w1):=hw1;have HA:Hid(Below w.heap.size w w1/\w1.heap[w.heap.size]? =some(.cells #[.int .i64 9, .int .i64 x1, .int .i64 x2, .int .i64 x3, .int .i64 x4, .int .i64 x5, .slice a6 n6 c6, .slice a7 n7 c7, .slice a8 n8 c8, .slice a9 n9 c9, .slice aA nA cA, .slice aB nB cB]32(0,0))):=⟨A1,G1⟩;clear hw1 A1 G1 CH0 CA0 hQ
 go_enter Tryz.func48,Tryz.ntmps48
 go_upto_region 1 with fail
 rw [H1.out]
 go_wp2_with fail
 refine Calls.mono(CH.out _ HA.out.1) ?_;rintro e W2⟨rfl,hb2⟩;clear H1 CH m0 m1 m2 m3 m4 m5 m6 m7 m8 m9 m10 m11
 go_upto_region 3 with fail
 obtain⟨W3,hW3⟩: ∃z,W2.alloc(.cells #[.bool hb]4)=z:=⟨_,rfl⟩;have hx2:W2.heap[w.heap.size]? =some(.cells #[.int .i64 9, .int .i64 x1, .int .i64 x2, .int .i64 x3, .int .i64 x4, .int .i64 x5, .slice a6 n6 c6, .slice a7 n7 c7, .slice a8 n8 c8, .slice a9 n9 c9, .slice aA nA cA, .slice aB nB cB]32(0,0)):=(hb2.block _(Array.getElem?_eq_some_iff.1 HA.out.2).1).trans HA.out.2;have hl2:=(Array.getElem?_eq_some_iff.1 hx2).1
 have FW3:Hid(Ak.Fm w w.heap.size W2.heap.size #[.int .i64 9, .int .i64 x1, .int .i64 x2, .int .i64 x3, .int .i64 x4, .int .i64 x5, .slice a6 n6 c6, .slice a7 n7 c7, .slice a8 n8 c8, .slice a9 n9 c9, .slice aA nA cA, .slice aB nB cB]hb W3):=by
  have b3:Below W2.heap.size W2 W3:=by rw [<-hW3];exact(Below.refl _ W2).alloc(Nat.le_refl _)_
  have b2:Below w.heap.size w W2:=HA.out.1.trans(hb2.mono HA.out.1.size);exact⟨(b3.block _ hl2).trans hx2,by rw [<-hW3];exact heap_alloc_new W2 _,by omega,Nat.le_refl _,b2.size,b2.trans(b3.mono b2.size)⟩
 rw [hW3];obtain⟨rb,hrb⟩: ∃z,W2.heap.size=z:=⟨_,rfl⟩;rw [hrb]at FW3⊢;clear hW3 hx2 hl2 hb2 hrb HA;have k0:W3.cell? ⟨w.heap.size,0,none⟩=some(.int .i64 9):=by simp [World.cell?,FW3.out.box]
 have CN:Hid _:=Tryz.hasNode_any 9 W3
 go_wp2_with fail
 refine Calls.mono CN.out ?_;rintro e W4⟨rfl,hw4⟩;obtain rfl:=hw4.symm;clear CN;have ehn:Ac.hasNodeB 9=true:=rfl;rw [ehn];clear ehn;have kx:W3.cell? ⟨w.heap.size,1,none⟩=some(.int .i64 x1):=FW3.out.cell 1
 go_wp2_with fail
 refine Calls.mono(Tryz.atake_any w.heap.size 1 rb x1 24 hb W3 kx(FW3.out.fx 1)FW3.out.cr FW3.out.fr FW3.out.ne) ?_;rintro e W23⟨rfl,hw2⟩;obtain⟨r1,hr1⟩: ∃z,(hb&&(decide(0<=x1)&&decide(x1<24)))=z:=⟨_,rfl⟩;have FW23:Hid(Ak.Fm w w.heap.size rb #[.int .i64 9, .int .i64 0, .int .i64 x2, .int .i64 x3, .int .i64 x4, .int .i64 x5, .slice a6 n6 c6, .slice a7 n7 c7, .slice a8 n8 c8, .slice a9 n9 c9, .slice aA nA cA, .slice aB nB cB]r1 W23):=by show Ak.Fm _ _ _ _ _ _;rw [hw2,hr1];exact(FW3.out.setR r1).setX 1(.int .i64 0)
 have Hr1:Hid(r1=true↔hb=true/\(0<=x1/\x1<24)):=by show _↔_;rw [<-hr1];simp
 clear hw2 hr1 kx;have kk:W23.cell? ⟨w.heap.size,0,none⟩=some(.int .i64 9):=FW23.out.cell 0;obtain⟨r2,hr2⟩: ∃z,(r1&&(decide(2<=n8)))=z:=⟨_,rfl⟩;have Hr2:Hid(r2=true↔r1=true/\2<=n8):=by show _↔_;rw [<-hr2];simp
 go_upto_region 32 with fail
 have kr:=FW23.out.cr;have fr:=FW23.out.fr;have k8:W23.cell? ⟨w.heap.size,8,none⟩=some(.slice a8 n8 c8):=FW23.out.cell 8
 go_cut []from 43 to 179(λwx=>Hid(Ak.Fm w w.heap.size rb #[.int .i64 9, .int .i64 0, .int .i64 x2, .int .i64 x3, .int .i64 x4, .int .i64 x5, .slice a6 n6 c6, .slice a7 n7 c7, .slice a8 n8 c8, .slice a9 n9 c9, .slice aA nA cA, .slice aB nB cB]r2 wx))
 case first=>
  cases r1 with
  |false=>
   go_wp2_with fail
   go_meet;exact by rw [<-hr2];exact FW23.out.setR _
  |true=>
  by_cases q: ¬(2<=n8)
  ·have dq:decide((2:Int)<=n8)=false:=decide_eq_false(by omega)
   have dq2: ¬(2:Int)<=n8:=by omega
   have e:r2=false:=by rw [<-hr2];simp [q]
   clear q hr2
   go_wp2_with fail
   go_meet;exact by rw [e];exact FW23.out.setR _
  replace q:=Decidable.not_not.1 q;have dq:decide((2:Int)<=n8)=true:=decide_eq_true(by omega);have dq2:(2:Int)<=n8:=by omega
  have e:r2=true:=by rw [<-hr2];simp [q]
  clear q hr2
  go_wp2_with fail
  go_meet;exact by rw [e];exact FW23.out.setR _
 case rest=>
 rename World=>W24;have FW24:Hid _:=hcut;clear hcut kr fr k8 hr2;have kz8:W24.cell? ⟨w.heap.size,8,none⟩=some(.slice a8 n8 c8):=FW24.out.cell 8;have fz8:=FW24.out.fx 8
 go_upto_region 46 with fail
 obtain⟨W25,hW25⟩: ∃z,(W24.setCell⟨w.heap.size,8,none⟩(.slice none 0 0))=z:=⟨_,rfl⟩;rw [hW25];have FW25:Hid(Ak.Fm w w.heap.size rb #[.int .i64 9, .int .i64 0, .int .i64 x2, .int .i64 x3, .int .i64 x4, .int .i64 x5, .slice a6 n6 c6, .slice a7 n7 c7, .slice none 0 0, .slice a9 n9 c9, .slice aA nA cA, .slice aB nB cB]r2 W25):=by rw [<-hW25];exact(FW24.out.setX 8(.slice none 0 0))
 clear hW25 kz8 fz8;have HRA:Hid(r2=true↔hb=true/\(0<=x1/\x1<24)/\2<=n8):=by show _↔_;rw [Hr2.out,Hr1.out];simp only [and_assoc]
 have kr:=FW25.out.cr
 cases r2 with
 |false=>
  have HN:Hid(¬Q):=λh=>absurd(HRA.out.2⟨(HQ.out.1 h).1,(HQ.out.1 h).2.1,(HQ.out.1 h).2.2.1⟩)(by decide);go_wp2;go_ret;exact⟨Ak.Told.no HN.out,FW25.out.bel⟩
 |true=>
 have hh:=HRA.out.1 rfl;have HH:Hid _:=hh;clear hh;have k0:W25.cell? ⟨w.heap.size,0,none⟩=some(.int .i64 9):=FW25.out.cell 0;have k1:W25.cell? ⟨w.heap.size,1,none⟩=some(.int .i64 0):=FW25.out.cell 1;have k2:W25.cell? ⟨w.heap.size,2,none⟩=some(.int .i64 x2):=FW25.out.cell 2;have k3:W25.cell? ⟨w.heap.size,3,none⟩=some(.int .i64 x3):=FW25.out.cell 3;have k4:W25.cell? ⟨w.heap.size,4,none⟩=some(.int .i64 x4):=FW25.out.cell 4;have k5:W25.cell? ⟨w.heap.size,5,none⟩=some(.int .i64 x5):=FW25.out.cell 5;have k6:W25.cell? ⟨w.heap.size,6,none⟩=some(.slice a6 n6 c6):=FW25.out.cell 6;have k7:W25.cell? ⟨w.heap.size,7,none⟩=some(.slice a7 n7 c7):=FW25.out.cell 7;have k8:W25.cell? ⟨w.heap.size,8,none⟩=some(.slice none 0 0):=FW25.out.cell 8;have k9:W25.cell? ⟨w.heap.size,9,none⟩=some(.slice a9 n9 c9):=FW25.out.cell 9;have k10:W25.cell? ⟨w.heap.size,10,none⟩=some(.slice aA nA cA):=FW25.out.cell 10;have k11:W25.cell? ⟨w.heap.size,11,none⟩=some(.slice aB nB cB):=FW25.out.cell 11
 go_wp2_with fail
 clear kr k0 k1 k2 k3 k4 k5 k6 k7 k8 k9 k10 k11;refine Calls.mono(CA.out _ FW25.out.bel) ?_;rintro e W26⟨⟨r,rfl,hr⟩,hbe⟩;have FW26:Hid(Ak.Fm w w.heap.size rb #[.int .i64 9, .int .i64 0, .int .i64 x2, .int .i64 x3, .int .i64 x4, .int .i64 x5, .slice a6 n6 c6, .slice a7 n7 c7, .slice none 0 0, .slice a9 n9 c9, .slice aA nA cA, .slice aB nB cB]true W26/\(r=true↔P)):=⟨FW25.out.below hbe,hr⟩;clear hbe hr
 cases r with
 |false=>
  have HN:Hid(¬Q):=λh=>absurd(FW26.out.2.2(HQ.out.1 h).2.2.2.1)(by decide);go_wp2;go_ret;exact⟨Ak.Told.no HN.out,FW26.out.1.bel⟩
 |true=>
 have HP:Hid P:=FW26.out.2.1(by first|rfl|trivial);have k8:W26.cell? ⟨w.heap.size,8,none⟩=some(.slice none 0 0):=FW26.out.1.cell 8;go_wp2;go_ret;exact⟨Ak.Told.yes(HQ.out.2⟨HH.out.1,HH.out.2.1,HH.out.2.2,HP.out,trivial⟩),FW26.out.1.bel⟩
end Go.Proofs
