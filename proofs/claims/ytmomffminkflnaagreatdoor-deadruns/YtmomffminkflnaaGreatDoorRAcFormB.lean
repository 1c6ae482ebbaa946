import Derived.Test.YtmomffminkflnaaGreatDoorRAllNtOne
set_option maxRecDepth 100000
set_option maxHeartbeats 32000000
namespace Go.Proofs
open Go.RowKit Go.Shelf
theorem Tryz.fm_1(x1 x2 x3 x4 x5:Int)(a6 a7 a8 a9 aA aB:Option Addr)(n6 c6 n7 c7 n8 c8 n9 c9 nA cA nB cB:Nat)(w:World)(hb:Bool)(P:Prop)(_hn7:n7<=1000)(_hn8:n8<=1000)(CH0: ∀W,Below w.heap.size w W->Calls Tryz.prog 58 #[.agg #[.int .i64 1, .int .i64 x1, .int .i64 x2, .int .i64 x3, .int .i64 x4, .int .i64 x5, .slice a6 n6 c6, .slice a7 n7 c7, .slice a8 n8 c8, .slice a9 n9 c9, .slice aA nA cA, .slice aB nB cB]]W λe w'=>e= .returned(.bool hb)/\Below W.heap.size W w')(CA0: ∀W,Below w.heap.size w W->Calls Tryz.prog 65 #[.agg #[.int .i64 1, .int .i64 x1, .int .i64 x2, .int .i64 x3, .int .i64 x4, .int .i64 x5, .slice a6 n6 c6, .slice a7 n7 c7, .slice a8 n8 c8, .slice a9 n9 c9, .slice aA nA cA, .slice aB nB cB], .agg #[.int .i64 1, .int .i64 0, .int .i64 0, .int .i64 0, .int .i64 0, .int .i64 0, .slice none 0 0, .slice none 0 0, .slice none 0 0, .slice none 0 0, .slice none 0 0, .slice none 0 0]]W λe w'=>Ak.Told P e/\Below W.heap.size W w'):
  Calls Tryz.prog 48 #[.agg #[.int .i64 1, .int .i64 x1, .int .i64 x2, .int .i64 x3, .int .i64 x4, .int .i64 x5, .slice a6 n6 c6, .slice a7 n7 c7, .slice a8 n8 c8, .slice a9 n9 c9, .slice aA nA cA, .slice aB nB cB]]w λe w'=>Ak.Told(hb=true/\P/\n8=0)e/\Below w.heap.size w w':=by
 obtain⟨Q,hQ⟩: ∃Q:Prop,(hb=true/\P/\n8=0)=Q:=⟨_,rfl⟩;rw [hQ];have HQ:Hid(Q↔hb=true/\P/\n8=0):=by rw [<-hQ];exact Iff.rfl
 have CH:Hid _:=CH0;have CA:Hid _:=CA0;obtain⟨w1,hw1⟩: ∃x,w.alloc(.cells #[.int .i64 1, .int .i64 x1, .int .i64 x2, .int .i64 x3, .int .i64 x4, .int .i64 x5, .slice a6 n6 c6, .slice a7 n7 c7, .slice a8 n8 c8, .slice a9 n9 c9, .slice aA nA cA, .slice aB nB cB]32)=x:=⟨_,rfl⟩;have A1:Below w.heap.size w w1:=by rw [<-hw1];exact(Below.refl _ w).alloc(Nat.le_refl _)_
 have G1:w1.heap[w.heap.size]? =some(.cells #[.int .i64 1, .int .i64 x1, .int .i64 x2, .int .i64 x3, .int .i64 x4, .int .i64 x5, .slice a6 n6 c6, .slice a7 n7 c7, .slice a8 n8 c8, .slice a9 n9 c9, .slice aA nA cA, .slice aB nB cB]32(0,0)):=by rw [<-hw1];exact heap_alloc_new w _
 have ca:w1.cell? ⟨w.heap.size,0,none⟩=some(.int .i64 1)/\w1.cell? ⟨w.heap.size,1,none⟩=some(.int .i64 x1)/\w1.cell? ⟨w.heap.size,2,none⟩=some(.int .i64 x2)/\w1.cell? ⟨w.heap.size,3,none⟩=some(.int .i64 x3)/\w1.cell? ⟨w.heap.size,4,none⟩=some(.int .i64 x4)/\w1.cell? ⟨w.heap.size,5,none⟩=some(.int .i64 x5)/\w1.cell? ⟨w.heap.size,6,none⟩=some(.slice a6 n6 c6)/\w1.cell? ⟨w.heap.size,7,none⟩=some(.slice a7 n7 c7)/\w1.cell? ⟨w.heap.size,8,none⟩=some(.slice a8 n8 c8)/\w1.cell? ⟨w.heap.size,9,none⟩=some(.slice a9 n9 c9)/\w1.cell? ⟨w.heap.size,10,none⟩=some(.slice aA nA cA)/\w1.cell? ⟨w.heap.size,11,none⟩=some(.slice aB nB cB):=by simp [World.cell?,G1]
 obtain⟨m0,m1,m2,m3,m4,m5,m6,m7,m8,m9,m10,m11⟩:=ca;have H1:Hid(w.alloc(.cells #[.int .i64 1, .int .i64 x1, .int .i64 x2, .int .i64 x3, .int .i64 x4, .int .i64 x5, .slice a6 n6 c6, .slice a7 n7 c7, .slice a8 n8 c8, .slice a9 n9 c9, .slice aA nA cA, .slice aB nB cB]32)=w1):=hw1;have HA:Hid(Below w.heap.size w w1/\w1.heap[w.heap.size]? =some(.cells #[.int .i64 1, .int .i64 x1, .int .i64 x2, .int .i64 x3, .int .i64 x4, .int .i64 x5, .slice a6 n6 c6, .slice a7 n7 c7, .slice a8 n8 c8, .slice a9 n9 c9, .slice aA nA cA, .slice aB nB cB]32(0,0))):=⟨A1,G1⟩;clear hw1 A1 G1 CH0 CA0 hQ
 go_enter Tryz.func48,Tryz.ntmps48
 go_upto_region 1 with fail
 rw [H1.out]
 go_wp2_with fail
 refine Calls.mono(CH.out _ HA.out.1) ?_;rintro e W2⟨rfl,hb2⟩;clear H1 CH m0 m1 m2 m3 m4 m5 m6 m7 m8 m9 m10 m11
 go_upto_region 3 with fail
 obtain⟨W3,hW3⟩: ∃z,W2.alloc(.cells #[.bool hb]4)=z:=⟨_,rfl⟩;have hx2:W2.heap[w.heap.size]? =some(.cells #[.int .i64 1, .int .i64 x1, .int .i64 x2, .int .i64 x3, .int .i64 x4, .int .i64 x5, .slice a6 n6 c6, .slice a7 n7 c7, .slice a8 n8 c8, .slice a9 n9 c9, .slice aA nA cA, .slice aB nB cB]32(0,0)):=(hb2.block _(Array.getElem?_eq_some_iff.1 HA.out.2).1).trans HA.out.2;have hl2:=(Array.getElem?_eq_some_iff.1 hx2).1
 have FW3:Hid(Ak.Fm w w.heap.size W2.heap.size #[.int .i64 1, .int .i64 x1, .int .i64 x2, .int .i64 x3, .int .i64 x4, .int .i64 x5, .slice a6 n6 c6, .slice a7 n7 c7, .slice a8 n8 c8, .slice a9 n9 c9, .slice aA nA cA, .slice aB nB cB]hb W3):=by
  have b3:Below W2.heap.size W2 W3:=by rw [<-hW3];exact(Below.refl _ W2).alloc(Nat.le_refl _)_
  have b2:Below w.heap.size w W2:=HA.out.1.trans(hb2.mono HA.out.1.size);exact⟨(b3.block _ hl2).trans hx2,by rw [<-hW3];exact heap_alloc_new W2 _,by omega,Nat.le_refl _,b2.size,b2.trans(b3.mono b2.size)⟩
 rw [hW3];obtain⟨rb,hrb⟩: ∃z,W2.heap.size=z:=⟨_,rfl⟩;rw [hrb]at FW3⊢;clear hW3 hx2 hl2 hb2 hrb HA;have k0:W3.cell? ⟨w.heap.size,0,none⟩=some(.int .i64 1):=by simp [World.cell?,FW3.out.box]
 have CN:Hid _:=Tryz.hasNode_any 1 W3
 go_wp2_with fail
 refine Calls.mono CN.out ?_;rintro e W4⟨rfl,hw4⟩;obtain rfl:=hw4.symm;clear CN;have ehn:Ac.hasNodeB 1=false:=rfl;rw [ehn];clear ehn;have HRA:Hid(hb=true↔hb=true):=Iff.rfl;have kr:=FW3.out.cr
 cases hb with
 |false=>
  have HN:Hid(¬Q):=λh=>absurd(HRA.out.2(HQ.out.1 h).1)(by decide);go_wp2;go_ret;exact⟨Ak.Told.no HN.out,FW3.out.bel⟩
 |true=>
 have hh:=HRA.out.1 rfl;have HH:Hid _:=hh;clear hh;have k0:W3.cell? ⟨w.heap.size,0,none⟩=some(.int .i64 1):=FW3.out.cell 0;have k1:W3.cell? ⟨w.heap.size,1,none⟩=some(.int .i64 x1):=FW3.out.cell 1;have k2:W3.cell? ⟨w.heap.size,2,none⟩=some(.int .i64 x2):=FW3.out.cell 2;have k3:W3.cell? ⟨w.heap.size,3,none⟩=some(.int .i64 x3):=FW3.out.cell 3;have k4:W3.cell? ⟨w.heap.size,4,none⟩=some(.int .i64 x4):=FW3.out.cell 4;have k5:W3.cell? ⟨w.heap.size,5,none⟩=some(.int .i64 x5):=FW3.out.cell 5;have k6:W3.cell? ⟨w.heap.size,6,none⟩=some(.slice a6 n6 c6):=FW3.out.cell 6;have k7:W3.cell? ⟨w.heap.size,7,none⟩=some(.slice a7 n7 c7):=FW3.out.cell 7;have k8:W3.cell? ⟨w.heap.size,8,none⟩=some(.slice a8 n8 c8):=FW3.out.cell 8;have k9:W3.cell? ⟨w.heap.size,9,none⟩=some(.slice a9 n9 c9):=FW3.out.cell 9;have k10:W3.cell? ⟨w.heap.size,10,none⟩=some(.slice aA nA cA):=FW3.out.cell 10;have k11:W3.cell? ⟨w.heap.size,11,none⟩=some(.slice aB nB cB):=FW3.out.cell 11
 go_wp2_with fail
 clear kr k0 k1 k2 k3 k4 k5 k6 k7 k8 k9 k10 k11;refine Calls.mono(CA.out _ FW3.out.bel) ?_;rintro e W12⟨⟨r,rfl,hr⟩,hbe⟩;have FW12:Hid(Ak.Fm w w.heap.size rb #[.int .i64 1, .int .i64 x1, .int .i64 x2, .int .i64 x3, .int .i64 x4, .int .i64 x5, .slice a6 n6 c6, .slice a7 n7 c7, .slice a8 n8 c8, .slice a9 n9 c9, .slice aA nA cA, .slice aB nB cB]true W12/\(r=true↔P)):=⟨FW3.out.below hbe,hr⟩;clear hbe hr
 cases r with
 |false=>
  have HN:Hid(¬Q):=λh=>absurd(FW12.out.2.2(HQ.out.1 h).2.1)(by decide);go_wp2;go_ret;exact⟨Ak.Told.no HN.out,FW12.out.1.bel⟩
 |true=>
 have HP:Hid P:=FW12.out.2.1(by first|rfl|trivial);have k8:W12.cell? ⟨w.heap.size,8,none⟩=some(.slice a8 n8 c8):=FW12.out.1.cell 8
 by_cases qz:n8=0
 ·have dz:((n8:Int)==0)=true:=by simp;omega
  have HZ:Hid(n8=0):=qz;clear qz;go_wp2;go_ret;exact⟨Ak.Told.yes(HQ.out.2⟨HH.out,HP.out,HZ.out⟩),FW12.out.1.bel⟩
 have dz:((n8:Int)==0)=false:=by simp;omega
 have HN:Hid(¬Q):=λh=>qz(HQ.out.1 h).2.2;clear qz;go_wp2;go_ret;exact⟨Ak.Told.no HN.out,FW12.out.1.bel⟩
theorem Tryz.fm_5(x1 x2 x3 x4 x5:Int)(a6 a7 a8 a9 aA aB:Option Addr)(n6 c6 n7 c7 n8 c8 n9 c9 nA cA nB cB:Nat)(w:World)(hb:Bool)(P:Prop)(_hn7:n7<=1000)(_hn8:n8<=1000)(CH0: ∀W,Below w.heap.size w W->Calls Tryz.prog 58 #[.agg #[.int .i64 5, .int .i64 x1, .int .i64 x2, .int .i64 x3, .int .i64 x4, .int .i64 x5, .slice a6 n6 c6, .slice a7 n7 c7, .slice a8 n8 c8, .slice a9 n9 c9, .slice aA nA cA, .slice aB nB cB]]W λe w'=>e= .returned(.bool hb)/\Below W.heap.size W w')(CA0: ∀W,Below w.heap.size w W->Calls Tryz.prog 65 #[.agg #[.int .i64 5, .int .i64 0, .int .i64 x2, .int .i64 x3, .int .i64 x4, .int .i64 x5, .slice a6 n6 c6, .slice a7 n7 c7, .slice a8 n8 c8, .slice a9 n9 c9, .slice aA nA cA, .slice aB nB cB], .agg #[.int .i64 5, .int .i64 0, .int .i64 0, .int .i64 0, .int .i64 0, .int .i64 0, .slice none 0 0, .slice none 0 0, .slice none 0 0, .slice none 0 0, .slice none 0 0, .slice none 0 0]]W λe w'=>Ak.Told P e/\Below W.heap.size W w'):
  Calls Tryz.prog 48 #[.agg #[.int .i64 5, .int .i64 x1, .int .i64 x2, .int .i64 x3, .int .i64 x4, .int .i64 x5, .slice a6 n6 c6, .slice a7 n7 c7, .slice a8 n8 c8, .slice a9 n9 c9, .slice aA nA cA, .slice aB nB cB]]w λe w'=>Ak.Told(hb=true/\(0<=x1/\x1<24)/\P/\n8=0)e/\Below w.heap.size w w':=by
 obtain⟨Q,hQ⟩: ∃Q:Prop,(hb=true/\(0<=x1/\x1<24)/\P/\n8=0)=Q:=⟨_,rfl⟩;rw [hQ];have HQ:Hid(Q↔hb=true/\(0<=x1/\x1<24)/\P/\n8=0):=by rw [<-hQ];exact Iff.rfl
 have CH:Hid _:=CH0;have CA:Hid _:=CA0;obtain⟨w1,hw1⟩: ∃x,w.alloc(.cells #[.int .i64 5, .int .i64 x1, .int .i64 x2, .int .i64 x3, .int .i64 x4, .int .i64 x5, .slice a6 n6 c6, .slice a7 n7 c7, .slice a8 n8 c8, .slice a9 n9 c9, .slice aA nA cA, .slice aB nB cB]32)=x:=⟨_,rfl⟩;have A1:Below w.heap.size w w1:=by rw [<-hw1];exact(Below.refl _ w).alloc(Nat.le_refl _)_
 have G1:w1.heap[w.heap.size]? =some(.cells #[.int .i64 5, .int .i64 x1, .int .i64 x2, .int .i64 x3, .int .i64 x4, .int .i64 x5, .slice a6 n6 c6, .slice a7 n7 c7, .slice a8 n8 c8, .slice a9 n9 c9, .slice aA nA cA, .slice aB nB cB]32(0,0)):=by rw [<-hw1];exact heap_alloc_new w _
 have ca:w1.cell? ⟨w.heap.size,0,none⟩=some(.int .i64 5)/\w1.cell? ⟨w.heap.size,1,none⟩=some(.int .i64 x1)/\w1.cell? ⟨w.heap.size,2,none⟩=some(.int .i64 x2)/\w1.cell? ⟨w.heap.size,3,none⟩=some(.int .i64 x3)/\w1.cell? ⟨w.heap.size,4,none⟩=some(.int .i64 x4)/\w1.cell? ⟨w.heap.size,5,none⟩=some(.int .i64 x5)/\w1.cell? ⟨w.heap.size,6,none⟩=some(.slice a6 n6 c6)/\w1.cell? ⟨w.heap.size,7,none⟩=some(.slice a7 n7 c7)/\w1.cell? ⟨w.heap.size,8,none⟩=some(.slice a8 n8 c8)/\w1.cell? ⟨w.heap.size,9,none⟩=some(.slice a9 n9 c9)/\w1.cell? ⟨w.heap.size,10,none⟩=some(.slice aA nA cA)/\w1.cell? ⟨w.heap.size,11,none⟩=some(.slice aB nB cB):=by simp [World.cell?,G1]
 obtain⟨m0,m1,m2,m3,m4,m5,m6,m7,m8,m9,m10,m11⟩:=ca;have H1:Hid(w.alloc(.cells #[.int .i64 5, .int .i64 x1, .int .i64 x2, .int .i64 x3, .int .i64 x4, .int .i64 x5, .slice a6 n6 c6, .slice a7 n7 c7, .slice a8 n8 c8, .slice a9 n9 c9, .slice aA nA cA, .slice aB nB cB]32)=w1):=hw1;have HA:Hid(Below w.heap.size w w1/\w1.heap[w.heap.size]? =some(.cells #[.int .i64 5, .int .i64 x1, .int .i64 x2, .int .i64 x3, .int .i64 x4, .int .i64 x5, .slice a6 n6 c6, .slice a7 n7 c7, .slice a8 n8 c8, .slice a9 n9 c9, .slice aA nA cA, .slice aB nB cB]32(0,0))):=⟨A1,G1⟩;clear hw1 A1 G1 CH0 CA0 hQ
 go_enter Tryz.func48,Tryz.ntmps48
 go_upto_region 1 with fail
 rw [H1.out]
 go_wp2_with fail
 refine Calls.mono(CH.out _ HA.out.1) ?_;rintro e W2⟨rfl,hb2⟩;clear H1 CH m0 m1 m2 m3 m4 m5 m6 m7 m8 m9 m10 m11
 go_upto_region 3 with fail
 obtain⟨W3,hW3⟩: ∃z,W2.alloc(.cells #[.bool hb]4)=z:=⟨_,rfl⟩;have hx2:W2.heap[w.heap.size]? =some(.cells #[.int .i64 5, .int .i64 x1, .int .i64 x2, .int .i64 x3, .int .i64 x4, .int .i64 x5, .slice a6 n6 c6, .slice a7 n7 c7, .slice a8 n8 c8, .slice a9 n9 c9, .slice aA nA cA, .slice aB nB cB]32(0,0)):=(hb2.block _(Array.getElem?_eq_some_iff.1 HA.out.2).1).trans HA.out.2;have hl2:=(Array.getElem?_eq_some_iff.1 hx2).1
 have FW3:Hid(Ak.Fm w w.heap.size W2.heap.size #[.int .i64 5, .int .i64 x1, .int .i64 x2, .int .i64 x3, .int .i64 x4, .int .i64 x5, .slice a6 n6 c6, .slice a7 n7 c7, .slice a8 n8 c8, .slice a9 n9 c9, .slice aA nA cA, .slice aB nB cB]hb W3):=by
  have b3:Below W2.heap.size W2 W3:=by rw [<-hW3];exact(Below.refl _ W2).alloc(Nat.le_refl _)_
  have b2:Below w.heap.size w W2:=HA.out.1.trans(hb2.mono HA.out.1.size);exact⟨(b3.block _ hl2).trans hx2,by rw [<-hW3];exact heap_alloc_new W2 _,by omega,Nat.le_refl _,b2.size,b2.trans(b3.mono b2.size)⟩
 rw [hW3];obtain⟨rb,hrb⟩: ∃z,W2.heap.size=z:=⟨_,rfl⟩;rw [hrb]at FW3⊢;clear hW3 hx2 hl2 hb2 hrb HA;have k0:W3.cell? ⟨w.heap.size,0,none⟩=some(.int .i64 5):=by simp [World.cell?,FW3.out.box]
 have CN:Hid _:=Tryz.hasNode_any 5 W3
 go_wp2_with fail
 refine Calls.mono CN.out ?_;rintro e W4⟨rfl,hw4⟩;obtain rfl:=hw4.symm;clear CN;have ehn:Ac.hasNodeB 5=true:=rfl;rw [ehn];clear ehn;have kx:W3.cell? ⟨w.heap.size,1,none⟩=some(.int .i64 x1):=FW3.out.cell 1
 go_wp2_with fail
 refine Calls.mono(Tryz.atake_any w.heap.size 1 rb x1 24 hb W3 kx(FW3.out.fx 1)FW3.out.cr FW3.out.fr FW3.out.ne) ?_;rintro e W15⟨rfl,hw2⟩;obtain⟨r1,hr1⟩: ∃z,(hb&&(decide(0<=x1)&&decide(x1<24)))=z:=⟨_,rfl⟩;have FW15:Hid(Ak.Fm w w.heap.size rb #[.int .i64 5, .int .i64 0, .int .i64 x2, .int .i64 x3, .int .i64 x4, .int .i64 x5, .slice a6 n6 c6, .slice a7 n7 c7, .slice a8 n8 c8, .slice a9 n9 c9, .slice aA nA cA, .slice aB nB cB]r1 W15):=by show Ak.Fm _ _ _ _ _ _;rw [hw2,hr1];exact(FW3.out.setR r1).setX 1(.int .i64 0)
 have Hr1:Hid(r1=true↔hb=true/\(0<=x1/\x1<24)):=by show _↔_;rw [<-hr1];simp
 clear hw2 hr1 kx;have kk:W15.cell? ⟨w.heap.size,0,none⟩=some(.int .i64 5):=FW15.out.cell 0;have HRA:Hid(r1=true↔hb=true/\(0<=x1/\x1<24)):=Hr1.out;have kr:=FW15.out.cr
 cases r1 with
 |false=>
  have HN:Hid(¬Q):=λh=>absurd(HRA.out.2⟨(HQ.out.1 h).1,(HQ.out.1 h).2.1⟩)(by decide);go_wp2;go_ret;exact⟨Ak.Told.no HN.out,FW15.out.bel⟩
 |true=>
 have hh:=HRA.out.1 rfl;have HH:Hid _:=hh;clear hh;have k0:W15.cell? ⟨w.heap.size,0,none⟩=some(.int .i64 5):=FW15.out.cell 0;have k1:W15.cell? ⟨w.heap.size,1,none⟩=some(.int .i64 0):=FW15.out.cell 1;have k2:W15.cell? ⟨w.heap.size,2,none⟩=some(.int .i64 x2):=FW15.out.cell 2;have k3:W15.cell? ⟨w.heap.size,3,none⟩=some(.int .i64 x3):=FW15.out.cell 3;have k4:W15.cell? ⟨w.heap.size,4,none⟩=some(.int .i64 x4):=FW15.out.cell 4;have k5:W15.cell? ⟨w.heap.size,5,none⟩=some(.int .i64 x5):=FW15.out.cell 5;have k6:W15.cell? ⟨w.heap.size,6,none⟩=some(.slice a6 n6 c6):=FW15.out.cell 6;have k7:W15.cell? ⟨w.heap.size,7,none⟩=some(.slice a7 n7 c7):=FW15.out.cell 7;have k8:W15.cell? ⟨w.heap.size,8,none⟩=some(.slice a8 n8 c8):=FW15.out.cell 8;have k9:W15.cell? ⟨w.heap.size,9,none⟩=some(.slice a9 n9 c9):=FW15.out.cell 9;have k10:W15.cell? ⟨w.heap.size,10,none⟩=some(.slice aA nA cA):=FW15.out.cell 10;have k11:W15.cell? ⟨w.heap.size,11,none⟩=some(.slice aB nB cB):=FW15.out.cell 11
 go_wp2_with fail
 clear kr k0 k1 k2 k3 k4 k5 k6 k7 k8 k9 k10 k11;refine Calls.mono(CA.out _ FW15.out.bel) ?_;rintro e W16⟨⟨r,rfl,hr⟩,hbe⟩;have FW16:Hid(Ak.Fm w w.heap.size rb #[.int .i64 5, .int .i64 0, .int .i64 x2, .int .i64 x3, .int .i64 x4, .int .i64 x5, .slice a6 n6 c6, .slice a7 n7 c7, .slice a8 n8 c8, .slice a9 n9 c9, .slice aA nA cA, .slice aB nB cB]true W16/\(r=true↔P)):=⟨FW15.out.below hbe,hr⟩;clear hbe hr
 cases r with
 |false=>
  have HN:Hid(¬Q):=λh=>absurd(FW16.out.2.2(HQ.out.1 h).2.2.1)(by decide);go_wp2;go_ret;exact⟨Ak.Told.no HN.out,FW16.out.1.bel⟩
 |true=>
 have HP:Hid P:=FW16.out.2.1(by first|rfl|trivial);have k8:W16.cell? ⟨w.heap.size,8,none⟩=some(.slice a8 n8 c8):=FW16.out.1.cell 8
 by_cases qz:n8=0
 ·have dz:((n8:Int)==0)=true:=by simp;omega
  have HZ:Hid(n8=0):=qz;clear qz;go_wp2;go_ret;exact⟨Ak.Told.yes(HQ.out.2⟨HH.out.1,HH.out.2,HP.out,HZ.out⟩),FW16.out.1.bel⟩
 have dz:((n8:Int)==0)=false:=by simp;omega
 have HN:Hid(¬Q):=λh=>qz(HQ.out.1 h).2.2.2;clear qz;go_wp2;go_ret;exact⟨Ak.Told.no HN.out,FW16.out.1.bel⟩
theorem Tryz.fm_2(x1 x2 x3 x4 x5:Int)(a6 a7 a8 a9 aA aB:Option Addr)(n6 c6 n7 c7 n8 c8 n9 c9 nA cA nB cB:Nat)(w:World)(hb:Bool)(P:Prop)(_hn7:n7<=1000)(_hn8:n8<=1000)(CH0: ∀W,Below w.heap.size w W->Calls Tryz.prog 58 #[.agg #[.int .i64 2, .int .i64 x1, .int .i64 x2, .int .i64 x3, .int .i64 x4, .int .i64 x5, .slice a6 n6 c6, .slice a7 n7 c7, .slice a8 n8 c8, .slice a9 n9 c9, .slice aA nA cA, .slice aB nB cB]]W λe w'=>e= .returned(.bool hb)/\Below W.heap.size W w')(CA0: ∀W,Below w.heap.size w W->Calls Tryz.prog 65 #[.agg #[.int .i64 2, .int .i64 0, .int .i64 0, .int .i64 x3, .int .i64 x4, .int .i64 x5, .slice a6 n6 c6, .slice a7 n7 c7, .slice a8 n8 c8, .slice a9 n9 c9, .slice aA nA cA, .slice aB nB cB], .agg #[.int .i64 2, .int .i64 0, .int .i64 0, .int .i64 0, .int .i64 0, .int .i64 0, .slice none 0 0, .slice none 0 0, .slice none 0 0, .slice none 0 0, .slice none 0 0, .slice none 0 0]]W λe w'=>Ak.Told P e/\Below W.heap.size W w'):
  Calls Tryz.prog 48 #[.agg #[.int .i64 2, .int .i64 x1, .int .i64 x2, .int .i64 x3, .int .i64 x4, .int .i64 x5, .slice a6 n6 c6, .slice a7 n7 c7, .slice a8 n8 c8, .slice a9 n9 c9, .slice aA nA cA, .slice aB nB cB]]w λe w'=>Ak.Told(hb=true/\(0<=x1/\x1<24)/\(0<=x2/\x2<4)/\P/\n8=0)e/\Below w.heap.size w w':=by
 obtain⟨Q,hQ⟩: ∃Q:Prop,(hb=true/\(0<=x1/\x1<24)/\(0<=x2/\x2<4)/\P/\n8=0)=Q:=⟨_,rfl⟩;rw [hQ];have HQ:Hid(Q↔hb=true/\(0<=x1/\x1<24)/\(0<=x2/\x2<4)/\P/\n8=0):=by rw [<-hQ];exact Iff.rfl
 have CH:Hid _:=CH0;have CA:Hid _:=CA0;obtain⟨w1,hw1⟩: ∃x,w.alloc(.cells #[.int .i64 2, .int .i64 x1, .int .i64 x2, .int .i64 x3, .int .i64 x4, .int .i64 x5, .slice a6 n6 c6, .slice a7 n7 c7, .slice a8 n8 c8, .slice a9 n9 c9, .slice aA nA cA, .slice aB nB cB]32)=x:=⟨_,rfl⟩;have A1:Below w.heap.size w w1:=by rw [<-hw1];exact(Below.refl _ w).alloc(Nat.le_refl _)_
 have G1:w1.heap[w.heap.size]? =some(.cells #[.int .i64 2, .int .i64 x1, .int .i64 x2, .int .i64 x3, .int .i64 x4, .int .i64 x5, .slice a6 n6 c6, .slice a7 n7 c7, .slice a8 n8 c8, .slice a9 n9 c9, .slice aA nA cA, .slice aB nB cB]32(0,0)):=by rw [<-hw1];exact heap_alloc_new w _
 have ca:w1.cell? ⟨w.heap.size,0,none⟩=some(.int .i64 2)/\w1.cell? ⟨w.heap.size,1,none⟩=some(.int .i64 x1)/\w1.cell? ⟨w.heap.size,2,none⟩=some(.int .i64 x2)/\w1.cell? ⟨w.heap.size,3,none⟩=some(.int .i64 x3)/\w1.cell? ⟨w.heap.size,4,none⟩=some(.int .i64 x4)/\w1.cell? ⟨w.heap.size,5,none⟩=some(.int .i64 x5)/\w1.cell? ⟨w.heap.size,6,none⟩=some(.slice a6 n6 c6)/\w1.cell? ⟨w.heap.size,7,none⟩=some(.slice a7 n7 c7)/\w1.cell? ⟨w.heap.size,8,none⟩=some(.slice a8 n8 c8)/\w1.cell? ⟨w.heap.size,9,none⟩=some(.slice a9 n9 c9)/\w1.cell? ⟨w.heap.size,10,none⟩=some(.slice aA nA cA)/\w1.cell? ⟨w.heap.size,11,none⟩=some(.slice aB nB cB):=by simp [World.cell?,G1]
 obtain⟨m0,m1,m2,m3,m4,m5,m6,m7,m8,m9,m10,m11⟩:=ca;have H1:Hid(w.alloc(.cells #[.int .i64 2, .int .i64 x1, .int .i64 x2, .int .i64 x3, .int .i64 x4, .int .i64 x5, .slice a6 n6 c6, .slice a7 n7 c7, .slice a8 n8 c8, .slice a9 n9 c9, .slice aA nA cA, .slice aB nB cB]32)=w1):=hw1;have HA:Hid(Below w.heap.size w w1/\w1.heap[w.heap.size]? =some(.cells #[.int .i64 2, .int .i64 x1, .int .i64 x2, .int .i64 x3, .int .i64 x4, .int .i64 x5, .slice a6 n6 c6, .slice a7 n7 c7, .slice a8 n8 c8, .slice a9 n9 c9, .slice aA nA cA, .slice aB nB cB]32(0,0))):=⟨A1,G1⟩;clear hw1 A1 G1 CH0 CA0 hQ
 go_enter Tryz.func48,Tryz.ntmps48
 go_upto_region 1 with fail
 rw [H1.out]
 go_wp2_with fail
 refine Calls.mono(CH.out _ HA.out.1) ?_;rintro e W2⟨rfl,hb2⟩;clear H1 CH m0 m1 m2 m3 m4 m5 m6 m7 m8 m9 m10 m11
 go_upto_region 3 with fail
 obtain⟨W3,hW3⟩: ∃z,W2.alloc(.cells #[.bool hb]4)=z:=⟨_,rfl⟩;have hx2:W2.heap[w.heap.size]? =some(.cells #[.int .i64 2, .int .i64 x1, .int .i64 x2, .int .i64 x3, .int .i64 x4, .int .i64 x5, .slice a6 n6 c6, .slice a7 n7 c7, .slice a8 n8 c8, .slice a9 n9 c9, .slice aA nA cA, .slice aB nB cB]32(0,0)):=(hb2.block _(Array.getElem?_eq_some_iff.1 HA.out.2).1).trans HA.out.2;have hl2:=(Array.getElem?_eq_some_iff.1 hx2).1
 have FW3:Hid(Ak.Fm w w.heap.size W2.heap.size #[.int .i64 2, .int .i64 x1, .int .i64 x2, .int .i64 x3, .int .i64 x4, .int .i64 x5, .slice a6 n6 c6, .slice a7 n7 c7, .slice a8 n8 c8, .slice a9 n9 c9, .slice aA nA cA, .slice aB nB cB]hb W3):=by
  have b3:Below W2.heap.size W2 W3:=by rw [<-hW3];exact(Below.refl _ W2).alloc(Nat.le_refl _)_
  have b2:Below w.heap.size w W2:=HA.out.1.trans(hb2.mono HA.out.1.size);exact⟨(b3.block _ hl2).trans hx2,by rw [<-hW3];exact heap_alloc_new W2 _,by omega,Nat.le_refl _,b2.size,b2.trans(b3.mono b2.size)⟩
 rw [hW3];obtain⟨rb,hrb⟩: ∃z,W2.heap.size=z:=⟨_,rfl⟩;rw [hrb]at FW3⊢;clear hW3 hx2 hl2 hb2 hrb HA;have k0:W3.cell? ⟨w.heap.size,0,none⟩=some(.int .i64 2):=by simp [World.cell?,FW3.out.box]
 have CN:Hid _:=Tryz.hasNode_any 2 W3
 go_wp2_with fail
 refine Calls.mono CN.out ?_;rintro e W4⟨rfl,hw4⟩;obtain rfl:=hw4.symm;clear CN;have ehn:Ac.hasNodeB 2=true:=rfl;rw [ehn];clear ehn;have kx:W3.cell? ⟨w.heap.size,1,none⟩=some(.int .i64 x1):=FW3.out.cell 1
 go_wp2_with fail
 refine Calls.mono(Tryz.atake_any w.heap.size 1 rb x1 24 hb W3 kx(FW3.out.fx 1)FW3.out.cr FW3.out.fr FW3.out.ne) ?_;rintro e W19⟨rfl,hw2⟩;obtain⟨r1,hr1⟩: ∃z,(hb&&(decide(0<=x1)&&decide(x1<24)))=z:=⟨_,rfl⟩;have FW19:Hid(Ak.Fm w w.heap.size rb #[.int .i64 2, .int .i64 0, .int .i64 x2, .int .i64 x3, .int .i64 x4, .int .i64 x5, .slice a6 n6 c6, .slice a7 n7 c7, .slice a8 n8 c8, .slice a9 n9 c9, .slice aA nA cA, .slice aB nB cB]r1 W19):=by show Ak.Fm _ _ _ _ _ _;rw [hw2,hr1];exact(FW3.out.setR r1).setX 1(.int .i64 0)
 have Hr1:Hid(r1=true↔hb=true/\(0<=x1/\x1<24)):=by show _↔_;rw [<-hr1];simp
 clear hw2 hr1 kx;have kk:W19.cell? ⟨w.heap.size,0,none⟩=some(.int .i64 2):=FW19.out.cell 0;have kx:W19.cell? ⟨w.heap.size,2,none⟩=some(.int .i64 x2):=FW19.out.cell 2
 go_wp2_with fail
 refine Calls.mono(Tryz.atake_any w.heap.size 2 rb x2 4 r1 W19 kx(FW19.out.fx 2)FW19.out.cr FW19.out.fr FW19.out.ne) ?_;rintro e W20⟨rfl,hw2⟩;obtain⟨r2,hr2⟩: ∃z,(r1&&(decide(0<=x2)&&decide(x2<4)))=z:=⟨_,rfl⟩;have FW20:Hid(Ak.Fm w w.heap.size rb #[.int .i64 2, .int .i64 0, .int .i64 0, .int .i64 x3, .int .i64 x4, .int .i64 x5, .slice a6 n6 c6, .slice a7 n7 c7, .slice a8 n8 c8, .slice a9 n9 c9, .slice aA nA cA, .slice aB nB cB]r2 W20):=by show Ak.Fm _ _ _ _ _ _;rw [hw2,hr2];exact(FW19.out.setR r2).setX 2(.int .i64 0)
 have Hr2:Hid(r2=true↔r1=true/\(0<=x2/\x2<4)):=by show _↔_;rw [<-hr2];simp
 clear hw2 hr2 kx;have HRA:Hid(r2=true↔hb=true/\(0<=x1/\x1<24)/\(0<=x2/\x2<4)):=by show _↔_;rw [Hr2.out,Hr1.out];simp only [and_assoc]
 have kr:=FW20.out.cr
 cases r2 with
 |false=>
  have HN:Hid(¬Q):=λh=>absurd(HRA.out.2⟨(HQ.out.1 h).1,(HQ.out.1 h).2.1,(HQ.out.1 h).2.2.1⟩)(by decide);go_wp2;go_ret;exact⟨Ak.Told.no HN.out,FW20.out.bel⟩
 |true=>
 have hh:=HRA.out.1 rfl;have HH:Hid _:=hh;clear hh;have k0:W20.cell? ⟨w.heap.size,0,none⟩=some(.int .i64 2):=FW20.out.cell 0;have k1:W20.cell? ⟨w.heap.size,1,none⟩=some(.int .i64 0):=FW20.out.cell 1;have k2:W20.cell? ⟨w.heap.size,2,none⟩=some(.int .i64 0):=FW20.out.cell 2;have k3:W20.cell? ⟨w.heap.size,3,none⟩=some(.int .i64 x3):=FW20.out.cell 3;have k4:W20.cell? ⟨w.heap.size,4,none⟩=some(.int .i64 x4):=FW20.out.cell 4;have k5:W20.cell? ⟨w.heap.size,5,none⟩=some(.int .i64 x5):=FW20.out.cell 5;have k6:W20.cell? ⟨w.heap.size,6,none⟩=some(.slice a6 n6 c6):=FW20.out.cell 6;have k7:W20.cell? ⟨w.heap.size,7,none⟩=some(.slice a7 n7 c7):=FW20.out.cell 7;have k8:W20.cell? ⟨w.heap.size,8,none⟩=some(.slice a8 n8 c8):=FW20.out.cell 8;have k9:W20.cell? ⟨w.heap.size,9,none⟩=some(.slice a9 n9 c9):=FW20.out.cell 9;have k10:W20.cell? ⟨w.heap.size,10,none⟩=some(.slice aA nA cA):=FW20.out.cell 10;have k11:W20.cell? ⟨w.heap.size,11,none⟩=some(.slice aB nB cB):=FW20.out.cell 11
 go_wp2_with fail
 clear kr k0 k1 k2 k3 k4 k5 k6 k7 k8 k9 k10 k11;refine Calls.mono(CA.out _ FW20.out.bel) ?_;rintro e W21⟨⟨r,rfl,hr⟩,hbe⟩;have FW21:Hid(Ak.Fm w w.heap.size rb #[.int .i64 2, .int .i64 0, .int .i64 0, .int .i64 x3, .int .i64 x4, .int .i64 x5, .slice a6 n6 c6, .slice a7 n7 c7, .slice a8 n8 c8, .slice a9 n9 c9, .slice aA nA cA, .slice aB nB cB]true W21/\(r=true↔P)):=⟨FW20.out.below hbe,hr⟩;clear hbe hr
 cases r with
 |false=>
  have HN:Hid(¬Q):=λh=>absurd(FW21.out.2.2(HQ.out.1 h).2.2.2.1)(by decide);go_wp2;go_ret;exact⟨Ak.Told.no HN.out,FW21.out.1.bel⟩
 |true=>
 have HP:Hid P:=FW21.out.2.1(by first|rfl|trivial);have k8:W21.cell? ⟨w.heap.size,8,none⟩=some(.slice a8 n8 c8):=FW21.out.1.cell 8
 by_cases qz:n8=0
 ·have dz:((n8:Int)==0)=true:=by simp;omega
  have HZ:Hid(n8=0):=qz;clear qz;go_wp2;go_ret;exact⟨Ak.Told.yes(HQ.out.2⟨HH.out.1,HH.out.2.1,HH.out.2.2,HP.out,HZ.out⟩),FW21.out.1.bel⟩
 have dz:((n8:Int)==0)=false:=by simp;omega
 have HN:Hid(¬Q):=λh=>qz(HQ.out.1 h).2.2.2.2;clear qz;go_wp2;go_ret;exact⟨Ak.Told.no HN.out,FW21.out.1.bel⟩
theorem Tryz.fm_4(x1 x2 x3 x4 x5:Int)(a6 a7 a8 a9 aA aB:Option Addr)(n6 c6 n7 c7 n8 c8 n9 c9 nA cA nB cB:Nat)(w:World)(hb:Bool)(P:Prop)(_hn7:n7<=1000)(_hn8:n8<=1000)(CH0: ∀W,Below w.heap.size w W->Calls Tryz.prog 58 #[.agg #[.int .i64 4, .int .i64 x1, .int .i64 x2, .int .i64 x3, .int .i64 x4, .int .i64 x5, .slice a6 n6 c6, .slice a7 n7 c7, .slice a8 n8 c8, .slice a9 n9 c9, .slice aA nA cA, .slice aB nB cB]]W λe w'=>e= .returned(.bool hb)/\Below W.heap.size W w')(CA0: ∀W,Below w.heap.size w W->Calls Tryz.prog 65 #[.agg #[.int .i64 4, .int .i64 0, .int .i64 0, .int .i64 x3, .int .i64 x4, .int .i64 x5, .slice a6 n6 c6, .slice a7 n7 c7, .slice a8 n8 c8, .slice a9 n9 c9, .slice aA nA cA, .slice aB nB cB], .agg #[.int .i64 4, .int .i64 0, .int .i64 0, .int .i64 0, .int .i64 0, .int .i64 0, .slice none 0 0, .slice none 0 0, .slice none 0 0, .slice none 0 0, .slice none 0 0, .slice none 0 0]]W λe w'=>Ak.Told P e/\Below W.heap.size W w'):
  Calls Tryz.prog 48 #[.agg #[.int .i64 4, .int .i64 x1, .int .i64 x2, .int .i64 x3, .int .i64 x4, .int .i64 x5, .slice a6 n6 c6, .slice a7 n7 c7, .slice a8 n8 c8, .slice a9 n9 c9, .slice aA nA cA, .slice aB nB cB]]w λe w'=>Ak.Told(hb=true/\(0<=x1/\x1<24)/\(0<=x2/\x2<4)/\P/\n8=0)e/\Below w.heap.size w w':=by
 obtain⟨Q,hQ⟩: ∃Q:Prop,(hb=true/\(0<=x1/\x1<24)/\(0<=x2/\x2<4)/\P/\n8=0)=Q:=⟨_,rfl⟩;rw [hQ];have HQ:Hid(Q↔hb=true/\(0<=x1/\x1<24)/\(0<=x2/\x2<4)/\P/\n8=0):=by rw [<-hQ];exact Iff.rfl
 have CH:Hid _:=CH0;have CA:Hid _:=CA0;obtain⟨w1,hw1⟩: ∃x,w.alloc(.cells #[.int .i64 4, .int .i64 x1, .int .i64 x2, .int .i64 x3, .int .i64 x4, .int .i64 x5, .slice a6 n6 c6, .slice a7 n7 c7, .slice a8 n8 c8, .slice a9 n9 c9, .slice aA nA cA, .slice aB nB cB]32)=x:=⟨_,rfl⟩;have A1:Below w.heap.size w w1:=by rw [<-hw1];exact(Below.refl _ w).alloc(Nat.le_refl _)_
 have G1:w1.heap[w.heap.size]? =some(.cells #[.int .i64 4, .int .i64 x1, .int .i64 x2, .int .i64 x3, .int .i64 x4, .int .i64 x5, .slice a6 n6 c6, .slice a7 n7 c7, .slice a8 n8 c8, .slice a9 n9 c9, .slice aA nA cA, .slice aB nB cB]32(0,0)):=by rw [<-hw1];exact heap_alloc_new w _
 have ca:w1.cell? ⟨w.heap.size,0,none⟩=some(.int .i64 4)/\w1.cell? ⟨w.heap.size,1,none⟩=some(.int .i64 x1)/\w1.cell? ⟨w.heap.size,2,none⟩=some(.int .i64 x2)/\w1.cell? ⟨w.heap.size,3,none⟩=some(.int .i64 x3)/\w1.cell? ⟨w.heap.size,4,none⟩=some(.int .i64 x4)/\w1.cell? ⟨w.heap.size,5,none⟩=some(.int .i64 x5)/\w1.cell? ⟨w.heap.size,6,none⟩=some(.slice a6 n6 c6)/\w1.cell? ⟨w.heap.size,7,none⟩=some(.slice a7 n7 c7)/\w1.cell? ⟨w.heap.size,8,none⟩=some(.slice a8 n8 c8)/\w1.cell? ⟨w.heap.size,9,none⟩=some(.slice a9 n9 c9)/\w1.cell? ⟨w.heap.size,10,none⟩=some(.slice aA nA cA)/\w1.cell? ⟨w.heap.size,11,none⟩=some(.slice aB nB cB):=by simp [World.cell?,G1]
 obtain⟨m0,m1,m2,m3,m4,m5,m6,m7,m8,m9,m10,m11⟩:=ca;have H1:Hid(w.alloc(.cells #[.int .i64 4, .int .i64 x1, .int .i64 x2, .int .i64 x3, .int .i64 x4, .int .i64 x5, .slice a6 n6 c6, .slice a7 n7 c7, .slice a8 n8 c8, .slice a9 n9 c9, .slice aA nA cA, .slice aB nB cB]32)=w1):=hw1;have HA:Hid(Below w.heap.size w w1/\w1.heap[w.heap.size]? =some(.cells #[.int .i64 4, .int .i64 x1, .int .i64 x2, .int .i64 x3, .int .i64 x4, .int .i64 x5, .slice a6 n6 c6, .slice a7 n7 c7, .slice a8 n8 c8, .slice a9 n9 c9, .slice aA nA cA, .slice aB nB cB]32(0,0))):=⟨A1,G1⟩;clear hw1 A1 G1 CH0 CA0 hQ
 go_enter Tryz.func48,Tryz.ntmps48
 go_upto_region 1 with fail
 rw [H1.out]
 go_wp2_with fail
 refine Calls.mono(CH.out _ HA.out.1) ?_;rintro e W2⟨rfl,hb2⟩;clear H1 CH m0 m1 m2 m3 m4 m5 m6 m7 m8 m9 m10 m11
 go_upto_region 3 with fail
 obtain⟨W3,hW3⟩: ∃z,W2.alloc(.cells #[.bool hb]4)=z:=⟨_,rfl⟩;have hx2:W2.heap[w.heap.size]? =some(.cells #[.int .i64 4, .int .i64 x1, .int .i64 x2, .int .i64 x3, .int .i64 x4, .int .i64 x5, .slice a6 n6 c6, .slice a7 n7 c7, .slice a8 n8 c8, .slice a9 n9 c9, .slice aA nA cA, .slice aB nB cB]32(0,0)):=(hb2.block _(Array.getElem?_eq_some_iff.1 HA.out.2).1).trans HA.out.2;have hl2:=(Array.getElem?_eq_some_iff.1 hx2).1
 have FW3:Hid(Ak.Fm w w.heap.size W2.heap.size #[.int .i64 4, .int .i64 x1, .int .i64 x2, .int .i64 x3, .int .i64 x4, .int .i64 x5, .slice a6 n6 c6, .slice a7 n7 c7, .slice a8 n8 c8, .slice a9 n9 c9, .slice aA nA cA, .slice aB nB cB]hb W3):=by
  have b3:Below W2.heap.size W2 W3:=by rw [<-hW3];exact(Below.refl _ W2).alloc(Nat.le_refl _)_
  have b2:Below w.heap.size w W2:=HA.out.1.trans(hb2.mono HA.out.1.size);exact⟨(b3.block _ hl2).trans hx2,by rw [<-hW3];exact heap_alloc_new W2 _,by omega,Nat.le_refl _,b2.size,b2.trans(b3.mono b2.size)⟩
 rw [hW3];obtain⟨rb,hrb⟩: ∃z,W2.heap.size=z:=⟨_,rfl⟩;rw [hrb]at FW3⊢;clear hW3 hx2 hl2 hb2 hrb HA;have k0:W3.cell? ⟨w.heap.size,0,none⟩=some(.int .i64 4):=by simp [World.cell?,FW3.out.box]
 have CN:Hid _:=Tryz.hasNode_any 4 W3
 go_wp2_with fail
 refine Calls.mono CN.out ?_;rintro e W4⟨rfl,hw4⟩;obtain rfl:=hw4.symm;clear CN;have ehn:Ac.hasNodeB 4=true:=rfl;rw [ehn];clear ehn;have kx:W3.cell? ⟨w.heap.size,1,none⟩=some(.int .i64 x1):=FW3.out.cell 1
 go_wp2_with fail
 refine Calls.mono(Tryz.atake_any w.heap.size 1 rb x1 24 hb W3 kx(FW3.out.fx 1)FW3.out.cr FW3.out.fr FW3.out.ne) ?_;rintro e W19⟨rfl,hw2⟩;obtain⟨r1,hr1⟩: ∃z,(hb&&(decide(0<=x1)&&decide(x1<24)))=z:=⟨_,rfl⟩;have FW19:Hid(Ak.Fm w w.heap.size rb #[.int .i64 4, .int .i64 0, .int .i64 x2, .int .i64 x3, .int .i64 x4, .int .i64 x5, .slice a6 n6 c6, .slice a7 n7 c7, .slice a8 n8 c8, .slice a9 n9 c9, .slice aA nA cA, .slice aB nB cB]r1 W19):=by show Ak.Fm _ _ _ _ _ _;rw [hw2,hr1];exact(FW3.out.setR r1).setX 1(.int .i64 0)
 have Hr1:Hid(r1=true↔hb=true/\(0<=x1/\x1<24)):=by show _↔_;rw [<-hr1];simp
 clear hw2 hr1 kx;have kk:W19.cell? ⟨w.heap.size,0,none⟩=some(.int .i64 4):=FW19.out.cell 0;have kx:W19.cell? ⟨w.heap.size,2,none⟩=some(.int .i64 x2):=FW19.out.cell 2
 go_wp2_with fail
 refine Calls.mono(Tryz.atake_any w.heap.size 2 rb x2 4 r1 W19 kx(FW19.out.fx 2)FW19.out.cr FW19.out.fr FW19.out.ne) ?_;rintro e W20⟨rfl,hw2⟩;obtain⟨r2,hr2⟩: ∃z,(r1&&(decide(0<=x2)&&decide(x2<4)))=z:=⟨_,rfl⟩;have FW20:Hid(Ak.Fm w w.heap.size rb #[.int .i64 4, .int .i64 0, .int .i64 0, .int .i64 x3, .int .i64 x4, .int .i64 x5, .slice a6 n6 c6, .slice a7 n7 c7, .slice a8 n8 c8, .slice a9 n9 c9, .slice aA nA cA, .slice aB nB cB]r2 W20):=by show Ak.Fm _ _ _ _ _ _;rw [hw2,hr2];exact(FW19.out.setR r2).setX 2(.int .i64 0)
 have Hr2:Hid(r2=true↔r1=true/\(0<=x2/\x2<4)):=by show _↔_;rw [<-hr2];simp
 clear hw2 hr2 kx;have HRA:Hid(r2=true↔hb=true/\(0<=x1/\x1<24)/\(0<=x2/\x2<4)):=by show _↔_;rw [Hr2.out,Hr1.out];simp only [and_assoc]
 have kr:=FW20.out.cr
 cases r2 with
 |false=>
  have HN:Hid(¬Q):=λh=>absurd(HRA.out.2⟨(HQ.out.1 h).1,(HQ.out.1 h).2.1,(HQ.out.1 h).2.2.1⟩)(by decide);go_wp2;go_ret;exact⟨Ak.Told.no HN.out,FW20.out.bel⟩
 |true=>
 have hh:=HRA.out.1 rfl;have HH:Hid _:=hh;clear hh;have k0:W20.cell? ⟨w.heap.size,0,none⟩=some(.int .i64 4):=FW20.out.cell 0;have k1:W20.cell? ⟨w.heap.size,1,none⟩=some(.int .i64 0):=FW20.out.cell 1;have k2:W20.cell? ⟨w.heap.size,2,none⟩=some(.int .i64 0):=FW20.out.cell 2;have k3:W20.cell? ⟨w.heap.size,3,none⟩=some(.int .i64 x3):=FW20.out.cell 3;have k4:W20.cell? ⟨w.heap.size,4,none⟩=some(.int .i64 x4):=FW20.out.cell 4;have k5:W20.cell? ⟨w.heap.size,5,none⟩=some(.int .i64 x5):=FW20.out.cell 5;have k6:W20.cell? ⟨w.heap.size,6,none⟩=some(.slice a6 n6 c6):=FW20.out.cell 6;have k7:W20.cell? ⟨w.heap.size,7,none⟩=some(.slice a7 n7 c7):=FW20.out.cell 7;have k8:W20.cell? ⟨w.heap.size,8,none⟩=some(.slice a8 n8 c8):=FW20.out.cell 8;have k9:W20.cell? ⟨w.heap.size,9,none⟩=some(.slice a9 n9 c9):=FW20.out.cell 9;have k10:W20.cell? ⟨w.heap.size,10,none⟩=some(.slice aA nA cA):=FW20.out.cell 10;have k11:W20.cell? ⟨w.heap.size,11,none⟩=some(.slice aB nB cB):=FW20.out.cell 11
 go_wp2_with fail
 clear kr k0 k1 k2 k3 k4 k5 k6 k7 k8 k9 k10 k11;refine Calls.mono(CA.out _ FW20.out.bel) ?_;rintro e W21⟨⟨r,rfl,hr⟩,hbe⟩;have FW21:Hid(Ak.Fm w w.heap.size rb #[.int .i64 4, .int .i64 0, .int .i64 0, .int .i64 x3, .int .i64 x4, .int .i64 x5, .slice a6 n6 c6, .slice a7 n7 c7, .slice a8 n8 c8, .slice a9 n9 c9, .slice aA nA cA, .slice aB nB cB]true W21/\(r=true↔P)):=⟨FW20.out.below hbe,hr⟩;clear hbe hr
 cases r with
 |false=>
  have HN:Hid(¬Q):=λh=>absurd(FW21.out.2.2(HQ.out.1 h).2.2.2.1)(by decide);go_wp2;go_ret;exact⟨Ak.Told.no HN.out,FW21.out.1.bel⟩
 |true=>
 have HP:Hid P:=FW21.out.2.1(by first|rfl|trivial);have k8:W21.cell? ⟨w.heap.size,8,none⟩=some(.slice a8 n8 c8):=FW21.out.1.cell 8
 by_cases qz:n8=0
 ·have dz:((n8:Int)==0)=true:=by simp;omega
  have HZ:Hid(n8=0):=qz;clear qz;go_wp2;go_ret;exact⟨Ak.Told.yes(HQ.out.2⟨HH.out.1,HH.out.2.1,HH.out.2.2,HP.out,HZ.out⟩),FW21.out.1.bel⟩
 have dz:((n8:Int)==0)=false:=by simp;omega
 have HN:Hid(¬Q):=λh=>qz(HQ.out.1 h).2.2.2.2;clear qz;go_wp2;go_ret;exact⟨Ak.Told.no HN.out,FW21.out.1.bel⟩
end Go.Proofs
