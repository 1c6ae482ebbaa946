import Derived.Test.YtmomffminkflnaaGreatDoorRAllNtOne
set_option maxRecDepth 100000
set_option maxHeartbeats 32000000
namespace Go.Proofs
open Go.RowKit Go.Shelf
theorem Tryz.fm_3(x1 x2 x3 x4 x5:Int)(a6 a7 a8 a9 aA aB:Option Addr)(n6 c6 n7 c7 n8 c8 n9 c9 nA cA nB cB:Nat)(w:World)(hb:Bool)(P:Prop)(ob:Bool)(_hn7:n7<=1000)(_hn8:n8<=1000)(CH0: ∀W,Below w.heap.size w W->Calls Tryz.prog 58 #[.agg #[.int .i64 3, .int .i64 x1, .int .i64 x2, .int .i64 x3, .int .i64 x4, .int .i64 x5, .slice a6 n6 c6, .slice a7 n7 c7, .slice a8 n8 c8, .slice a9 n9 c9, .slice aA nA cA, .slice aB nB cB]]W λe w'=>e= .returned(.bool hb)/\Below W.heap.size W w')(CA0: ∀W,Below w.heap.size w W->Calls Tryz.prog 65 #[.agg #[.int .i64 3, .int .i64 0, .int .i64 0, .int .i64 x3, .int .i64 0, .int .i64 0, .slice none 0 0, .slice a7 n7 c7, .slice a8 n8 c8, .slice a9 n9 c9, .slice aA nA cA, .slice aB nB cB], .agg #[.int .i64 3, .int .i64 0, .int .i64 0, .int .i64 0, .int .i64 0, .int .i64 0, .slice none 0 0, .slice none 0 0, .slice none 0 0, .slice none 0 0, .slice none 0 0, .slice none 0 0]]W λe w'=>Ak.Told P e/\Below W.heap.size W w')(CO0: ∀W,Below w.heap.size w W->Calls Tryz.prog 61 #[.int .i64 1, .agg #[.int .i64 x4, .int .i64 x5, .slice a6 n6 c6]]W λe w'=>e= .returned(.bool ob)/\Below W.heap.size W w'):
  Calls Tryz.prog 48 #[.agg #[.int .i64 3, .int .i64 x1, .int .i64 x2, .int .i64 x3, .int .i64 x4, .int .i64 x5, .slice a6 n6 c6, .slice a7 n7 c7, .slice a8 n8 c8, .slice a9 n9 c9, .slice aA nA cA, .slice aB nB cB]]w λe w'=>Ak.Told(hb=true/\(0<=x1/\x1<24)/\ob=true/\(0<=x2/\x2<4)/\P/\n8=0)e/\Below w.heap.size w w':=by
 obtain⟨Q,hQ⟩: ∃Q:Prop,(hb=true/\(0<=x1/\x1<24)/\ob=true/\(0<=x2/\x2<4)/\P/\n8=0)=Q:=⟨_,rfl⟩;rw [hQ];have HQ:Hid(Q↔hb=true/\(0<=x1/\x1<24)/\ob=true/\(0<=x2/\x2<4)/\P/\n8=0):=by rw [<-hQ];exact Iff.rfl
 have CH:Hid _:=CH0;have CA:Hid _:=CA0;have CO:Hid _:=CO0;clear CO0;obtain⟨w1,hw1⟩: ∃x,w.alloc(.cells #[.int .i64 3, .int .i64 x1, .int .i64 x2, .int .i64 x3, .int .i64 x4, .int .i64 x5, .slice a6 n6 c6, .slice a7 n7 c7, .slice a8 n8 c8, .slice a9 n9 c9, .slice aA nA cA, .slice aB nB cB]32)=x:=⟨_,rfl⟩;have A1:Below w.heap.size w w1:=by rw [<-hw1];exact(Below.refl _ w).alloc(Nat.le_refl _)_
 have G1:w1.heap[w.heap.size]? =some(.cells #[.int .i64 3, .int .i64 x1, .int .i64 x2, .int .i64 x3, .int .i64 x4, .int .i64 x5, .slice a6 n6 c6, .slice a7 n7 c7, .slice a8 n8 c8, .slice a9 n9 c9, .slice aA nA cA, .slice aB nB cB]32(0,0)):=by rw [<-hw1];exact heap_alloc_new w _
 have ca:w1.cell? ⟨w.heap.size,0,none⟩=some(.int .i64 3)/\w1.cell? ⟨w.heap.size,1,none⟩=some(.int .i64 x1)/\w1.cell? ⟨w.heap.size,2,none⟩=some(.int .i64 x2)/\w1.cell? ⟨w.heap.size,3,none⟩=some(.int .i64 x3)/\w1.cell? ⟨w.heap.size,4,none⟩=some(.int .i64 x4)/\w1.cell? ⟨w.heap.size,5,none⟩=some(.int .i64 x5)/\w1.cell? ⟨w.heap.size,6,none⟩=some(.slice a6 n6 c6)/\w1.cell? ⟨w.heap.size,7,none⟩=some(.slice a7 n7 c7)/\w1.cell? ⟨w.heap.size,8,none⟩=some(.slice a8 n8 c8)/\w1.cell? ⟨w.heap.size,9,none⟩=some(.slice a9 n9 c9)/\w1.cell? ⟨w.heap.size,10,none⟩=some(.slice aA nA cA)/\w1.cell? ⟨w.heap.size,11,none⟩=some(.slice aB nB cB):=by simp [World.cell?,G1]
 obtain⟨m0,m1,m2,m3,m4,m5,m6,m7,m8,m9,m10,m11⟩:=ca;have H1:Hid(w.alloc(.cells #[.int .i64 3, .int .i64 x1, .int .i64 x2, .int .i64 x3, .int .i64 x4, .int .i64 x5, .slice a6 n6 c6, .slice a7 n7 c7, .slice a8 n8 c8, .slice a9 n9 c9, .slice aA nA cA, .slice aB nB cB]32)=w1):=hw1;have HA:Hid(Below w.heap.size w w1/\w1.heap[w.heap.size]? =some(.cells #[.int .i64 3, .int .i64 x1, .int .i64 x2, .int .i64 x3, .int .i64 x4, .int .i64 x5, .slice a6 n6 c6, .slice a7 n7 c7, .slice a8 n8 c8, .slice a9 n9 c9, .slice aA nA cA, .slice aB nB cB]32(0,0))):=⟨A1,G1⟩;clear hw1 A1 G1 CH0 CA0 hQ
 go_enter Tryz.func48,Tryz.ntmps48
 go_upto_region 1 with fail
 rw [H1.out]
 go_wp2_with fail
 refine Calls.mono(CH.out _ HA.out.1) ?_;rintro e W2⟨rfl,hb2⟩;clear H1 CH m0 m1 m2 m3 m4 m5 m6 m7 m8 m9 m10 m11
 go_upto_region 3 with fail
 obtain⟨W3,hW3⟩: ∃z,W2.alloc(.cells #[.bool hb]4)=z:=⟨_,rfl⟩;have hx2:W2.heap[w.heap.size]? =some(.cells #[.int .i64 3, .int .i64 x1, .int .i64 x2, .int .i64 x3, .int .i64 x4, .int .i64 x5, .slice a6 n6 c6, .slice a7 n7 c7, .slice a8 n8 c8, .slice a9 n9 c9, .slice aA nA cA, .slice aB nB cB]32(0,0)):=(hb2.block _(Array.getElem?_eq_some_iff.1 HA.out.2).1).trans HA.out.2;have hl2:=(Array.getElem?_eq_some_iff.1 hx2).1
 have FW3:Hid(Ak.Fm w w.heap.size W2.heap.size #[.int .i64 3, .int .i64 x1, .int .i64 x2, .int .i64 x3, .int .i64 x4, .int .i64 x5, .slice a6 n6 c6, .slice a7 n7 c7, .slice a8 n8 c8, .slice a9 n9 c9, .slice aA nA cA, .slice aB nB cB]hb W3):=by
  have b3:Below W2.heap.size W2 W3:=by rw [<-hW3];exact(Below.refl _ W2).alloc(Nat.le_refl _)_
  have b2:Below w.heap.size w W2:=HA.out.1.trans(hb2.mono HA.out.1.size);exact⟨(b3.block _ hl2).trans hx2,by rw [<-hW3];exact heap_alloc_new W2 _,by omega,Nat.le_refl _,b2.size,b2.trans(b3.mono b2.size)⟩
 rw [hW3];obtain⟨rb,hrb⟩: ∃z,W2.heap.size=z:=⟨_,rfl⟩;rw [hrb]at FW3⊢;clear hW3 hx2 hl2 hb2 hrb HA;have k0:W3.cell? ⟨w.heap.size,0,none⟩=some(.int .i64 3):=by simp [World.cell?,FW3.out.box]
 have CN:Hid _:=Tryz.hasNode_any 3 W3
 go_wp2_with fail
 refine Calls.mono CN.out ?_;rintro e W4⟨rfl,hw4⟩;obtain rfl:=hw4.symm;clear CN;have ehn:Ac.hasNodeB 3=true:=rfl;rw [ehn];clear ehn;have kx:W3.cell? ⟨w.heap.size,1,none⟩=some(.int .i64 x1):=FW3.out.cell 1
 go_wp2_with fail
 refine Calls.mono(Tryz.atake_any w.heap.size 1 rb x1 24 hb W3 kx(FW3.out.fx 1)FW3.out.cr FW3.out.fr FW3.out.ne) ?_;rintro e W30⟨rfl,hw2⟩;obtain⟨r1,hr1⟩: ∃z,(hb&&(decide(0<=x1)&&decide(x1<24)))=z:=⟨_,rfl⟩;have FW30:Hid(Ak.Fm w w.heap.size rb #[.int .i64 3, .int .i64 0, .int .i64 x2, .int .i64 x3, .int .i64 x4, .int .i64 x5, .slice a6 n6 c6, .slice a7 n7 c7, .slice a8 n8 c8, .slice a9 n9 c9, .slice aA nA cA, .slice aB nB cB]r1 W30):=by show Ak.Fm _ _ _ _ _ _;rw [hw2,hr1];exact(FW3.out.setR r1).setX 1(.int .i64 0)
 have Hr1:Hid(r1=true↔hb=true/\(0<=x1/\x1<24)):=by show _↔_;rw [<-hr1];simp
 clear hw2 hr1 kx;have kk:W30.cell? ⟨w.heap.size,0,none⟩=some(.int .i64 3):=FW30.out.cell 0;obtain⟨r2,hr2⟩: ∃z,(r1&&(ob))=z:=⟨_,rfl⟩;have Hr2:Hid(r2=true↔r1=true/\ob=true):=by show _↔_;rw [<-hr2];simp
 go_upto_region 20 with fail
 have kr:=FW30.out.cr;have fr:=FW30.out.fr;have k4:W30.cell? ⟨w.heap.size,4,none⟩=some(.int .i64 x4):=FW30.out.cell 4;have k5:W30.cell? ⟨w.heap.size,5,none⟩=some(.int .i64 x5):=FW30.out.cell 5;have k6:W30.cell? ⟨w.heap.size,6,none⟩=some(.slice a6 n6 c6):=FW30.out.cell 6
 go_cut []from 43 to 179(λwx=>Hid(Ak.Fm w w.heap.size rb #[.int .i64 3, .int .i64 0, .int .i64 x2, .int .i64 x3, .int .i64 x4, .int .i64 x5, .slice a6 n6 c6, .slice a7 n7 c7, .slice a8 n8 c8, .slice a9 n9 c9, .slice aA nA cA, .slice aB nB cB]r2 wx))
 case first=>
  cases r1 with
  |false=>
   go_wp2_with fail
   go_meet;exact by rw [<-hr2];exact FW30.out.setR _
  |true=>
  have e:r2=ob:=by rw [<-hr2];simp
  clear hr2
  go_wp2_with fail
  refine Calls.mono(CO.out _ FW30.out.bel) ?_;rintro e' W32⟨rfl,hbe⟩;have FW32:Hid(Ak.Fm w w.heap.size rb #[.int .i64 3, .int .i64 0, .int .i64 x2, .int .i64 x3, .int .i64 x4, .int .i64 x5, .slice a6 n6 c6, .slice a7 n7 c7, .slice a8 n8 c8, .slice a9 n9 c9, .slice aA nA cA, .slice aB nB cB]true W32):=FW30.out.below hbe;clear hbe kr fr k4 k5 k6;have kr:=FW32.out.cr;have fr:=FW32.out.fr
  go_wp2_with fail
  go_meet;exact by rw [e];exact FW32.out.setR _
 case rest=>
 rename World=>W31;have FW31:Hid _:=hcut;clear hcut kr fr k4 k5 k6 hr2;have kz4:W31.cell? ⟨w.heap.size,4,none⟩=some(.int .i64 x4):=FW31.out.cell 4;have fz4:=FW31.out.fx 4;have kz5:W31.cell? ⟨w.heap.size,5,none⟩=some(.int .i64 x5):=FW31.out.cell 5;have fz5:=FW31.out.fx 5;have kz6:W31.cell? ⟨w.heap.size,6,none⟩=some(.slice a6 n6 c6):=FW31.out.cell 6;have fz6:=FW31.out.fx 6
 go_upto_region 22 with fail
 obtain⟨W33,hW33⟩: ∃z,(((W31.setCell⟨w.heap.size,4,none⟩(.int .i64 0)).setCell⟨w.heap.size,5,none⟩(.int .i64 0)).setCell⟨w.heap.size,6,none⟩(.slice none 0 0))=z:=⟨_,rfl⟩;rw [hW33];have FW33:Hid(Ak.Fm w w.heap.size rb #[.int .i64 3, .int .i64 0, .int .i64 x2, .int .i64 x3, .int .i64 0, .int .i64 0, .slice none 0 0, .slice a7 n7 c7, .slice a8 n8 c8, .slice a9 n9 c9, .slice aA nA cA, .slice aB nB cB]r2 W33):=by rw [<-hW33];exact(((FW31.out.setX 4(.int .i64 0)).setX 5(.int .i64 0)).setX 6(.slice none 0 0))
 clear hW33 kz4 fz4 kz5 fz5 kz6 fz6;have kx:W33.cell? ⟨w.heap.size,2,none⟩=some(.int .i64 x2):=FW33.out.cell 2
 go_wp2_with fail
 refine Calls.mono(Tryz.atake_any w.heap.size 2 rb x2 4 r2 W33 kx(FW33.out.fx 2)FW33.out.cr FW33.out.fr FW33.out.ne) ?_;rintro e W34⟨rfl,hw2⟩;obtain⟨r3,hr3⟩: ∃z,(r2&&(decide(0<=x2)&&decide(x2<4)))=z:=⟨_,rfl⟩;have FW34:Hid(Ak.Fm w w.heap.size rb #[.int .i64 3, .int .i64 0, .int .i64 0, .int .i64 x3, .int .i64 0, .int .i64 0, .slice none 0 0, .slice a7 n7 c7, .slice a8 n8 c8, .slice a9 n9 c9, .slice aA nA cA, .slice aB nB cB]r3 W34):=by show Ak.Fm _ _ _ _ _ _;rw [hw2,hr3];exact(FW33.out.setR r3).setX 2(.int .i64 0)
 have Hr3:Hid(r3=true↔r2=true/\(0<=x2/\x2<4)):=by show _↔_;rw [<-hr3];simp
 clear hw2 hr3 kx;have HRA:Hid(r3=true↔hb=true/\(0<=x1/\x1<24)/\ob=true/\(0<=x2/\x2<4)):=by show _↔_;rw [Hr3.out,Hr2.out,Hr1.out];simp only [and_assoc]
 have kr:=FW34.out.cr
 cases r3 with
 |false=>
  have HN:Hid(¬Q):=λh=>absurd(HRA.out.2⟨(HQ.out.1 h).1,(HQ.out.1 h).2.1,(HQ.out.1 h).2.2.1,(HQ.out.1 h).2.2.2.1⟩)(by decide);go_wp2;go_ret;exact⟨Ak.Told.no HN.out,FW34.out.bel⟩
 |true=>
 have hh:=HRA.out.1 rfl;have HH:Hid _:=hh;clear hh;have k0:W34.cell? ⟨w.heap.size,0,none⟩=some(.int .i64 3):=FW34.out.cell 0;have k1:W34.cell? ⟨w.heap.size,1,none⟩=some(.int .i64 0):=FW34.out.cell 1;have k2:W34.cell? ⟨w.heap.size,2,none⟩=some(.int .i64 0):=FW34.out.cell 2;have k3:W34.cell? ⟨w.heap.size,3,none⟩=some(.int .i64 x3):=FW34.out.cell 3;have k4:W34.cell? ⟨w.heap.size,4,none⟩=some(.int .i64 0):=FW34.out.cell 4;have k5:W34.cell? ⟨w.heap.size,5,none⟩=some(.int .i64 0):=FW34.out.cell 5;have k6:W34.cell? ⟨w.heap.size,6,none⟩=some(.slice none 0 0):=FW34.out.cell 6;have k7:W34.cell? ⟨w.heap.size,7,none⟩=some(.slice a7 n7 c7):=FW34.out.cell 7;have k8:W34.cell? ⟨w.heap.size,8,none⟩=some(.slice a8 n8 c8):=FW34.out.cell 8;have k9:W34.cell? ⟨w.heap.size,9,none⟩=some(.slice a9 n9 c9):=FW34.out.cell 9;have k10:W34.cell? ⟨w.heap.size,10,none⟩=some(.slice aA nA cA):=FW34.out.cell 10;have k11:W34.cell? ⟨w.heap.size,11,none⟩=some(.slice aB nB cB):=FW34.out.cell 11
 go_wp2_with fail
 clear kr k0 k1 k2 k3 k4 k5 k6 k7 k8 k9 k10 k11;refine Calls.mono(CA.out _ FW34.out.bel) ?_;rintro e W35⟨⟨r,rfl,hr⟩,hbe⟩;have FW35:Hid(Ak.Fm w w.heap.size rb #[.int .i64 3, .int .i64 0, .int .i64 0, .int .i64 x3, .int .i64 0, .int .i64 0, .slice none 0 0, .slice a7 n7 c7, .slice a8 n8 c8, .slice a9 n9 c9, .slice aA nA cA, .slice aB nB cB]true W35/\(r=true↔P)):=⟨FW34.out.below hbe,hr⟩;clear hbe hr
 cases r with
 |false=>
  have HN:Hid(¬Q):=λh=>absurd(FW35.out.2.2(HQ.out.1 h).2.2.2.2.1)(by decide);go_wp2;go_ret;exact⟨Ak.Told.no HN.out,FW35.out.1.bel⟩
 |true=>
 have HP:Hid P:=FW35.out.2.1(by first|rfl|trivial);have k8:W35.cell? ⟨w.heap.size,8,none⟩=some(.slice a8 n8 c8):=FW35.out.1.cell 8
 by_cases qz:n8=0
 ·have dz:((n8:Int)==0)=true:=by simp;omega
  have HZ:Hid(n8=0):=qz;clear qz;go_wp2;go_ret;exact⟨Ak.Told.yes(HQ.out.2⟨HH.out.1,HH.out.2.1,HH.out.2.2.1,HH.out.2.2.2,HP.out,HZ.out⟩),FW35.out.1.bel⟩
 have dz:((n8:Int)==0)=false:=by simp;omega
 have HN:Hid(¬Q):=λh=>qz(HQ.out.1 h).2.2.2.2.2;clear qz;go_wp2;go_ret;exact⟨Ak.Told.no HN.out,FW35.out.1.bel⟩
theorem Tryz.fm_10(x1 x2 x3 x4 x5:Int)(a6 a7 a8 a9 aA aB:Option Addr)(n6 c6 n7 c7 n8 c8 n9 c9 nA cA nB cB:Nat)(w:World)(hb:Bool)(P:Prop)(_hn7:n7<=1000)(_hn8:n8<=1000)(CH0: ∀W,Below w.heap.size w W->Calls Tryz.prog 58 #[.agg #[.int .i64 10, .int .i64 x1, .int .i64 x2, .int .i64 x3, .int .i64 x4, .int .i64 x5, .slice a6 n6 c6, .slice a7 n7 c7, .slice a8 n8 c8, .slice a9 n9 c9, .slice aA nA cA, .slice aB nB cB]]W λe w'=>e= .returned(.bool hb)/\Below W.heap.size W w')(CA0: ∀W,Below w.heap.size w W->Calls Tryz.prog 65 #[.agg #[.int .i64 10, .int .i64 0, .int .i64 0, .int .i64 x3, .int .i64 x4, .int .i64 x5, .slice a6 n6 c6, .slice a7 n7 c7, .slice none 0 0, .slice a9 n9 c9, .slice aA nA cA, .slice aB nB cB], .agg #[.int .i64 10, .int .i64 0, .int .i64 0, .int .i64 0, .int .i64 0, .int .i64 0, .slice none 0 0, .slice none 0 0, .slice none 0 0, .slice none 0 0, .slice none 0 0, .slice none 0 0]]W λe w'=>Ak.Told P e/\Below W.heap.size W w'):
  Calls Tryz.prog 48 #[.agg #[.int .i64 10, .int .i64 x1, .int .i64 x2, .int .i64 x3, .int .i64 x4, .int .i64 x5, .slice a6 n6 c6, .slice a7 n7 c7, .slice a8 n8 c8, .slice a9 n9 c9, .slice aA nA cA, .slice aB nB cB]]w λe w'=>Ak.Told(hb=true/\(0<=x1/\x1<24)/\n8=1/\(0<=x2/\x2<5)/\P/\True)e/\Below w.heap.size w w':=by
 obtain⟨Q,hQ⟩: ∃Q:Prop,(hb=true/\(0<=x1/\x1<24)/\n8=1/\(0<=x2/\x2<5)/\P/\True)=Q:=⟨_,rfl⟩;rw [hQ];have HQ:Hid(Q↔hb=true/\(0<=x1/\x1<24)/\n8=1/\(0<=x2/\x2<5)/\P/\True):=by rw [<-hQ];exact Iff.rfl
 have CH:Hid _:=CH0;have CA:Hid _:=CA0;obtain⟨w1,hw1⟩: ∃x,w.alloc(.cells #[.int .i64 10, .int .i64 x1, .int .i64 x2, .int .i64 x3, .int .i64 x4, .int .i64 x5, .slice a6 n6 c6, .slice a7 n7 c7, .slice a8 n8 c8, .slice a9 n9 c9, .slice aA nA cA, .slice aB nB cB]32)=x:=⟨_,rfl⟩;have A1:Below w.heap.size w w1:=by rw [<-hw1];exact(Below.refl _ w).alloc(Nat.le_refl _)_
 have G1:w1.heap[w.heap.size]? =some(.cells #[.int .i64 10, .int .i64 x1, .int .i64 x2, .int .i64 x3, .int .i64 x4, .int .i64 x5, .slice a6 n6 c6, .slice a7 n7 c7, .slice a8 n8 c8, .slice a9 n9 c9, .slice aA nA cA, .slice aB nB cB]32(0,0)):=by rw [<-hw1];exact heap_alloc_new w _
 have ca:w1.cell? ⟨w.heap.size,0,none⟩=some(.int .i64 10)/\w1.cell? ⟨w.heap.size,1,none⟩=some(.int .i64 x1)/\w1.cell? ⟨w.heap.size,2,none⟩=some(.int .i64 x2)/\w1.cell? ⟨w.heap.size,3,none⟩=some(.int .i64 x3)/\w1.cell? ⟨w.heap.size,4,none⟩=some(.int .i64 x4)/\w1.cell? ⟨w.heap.size,5,none⟩=some(.int .i64 x5)/\w1.cell? ⟨w.heap.size,6,none⟩=some(.slice a6 n6 c6)/\w1.cell? ⟨w.heap.size,7,none⟩=some(.slice a7 n7 c7)/\w1.cell? ⟨w.heap.size,8,none⟩=some(.slice a8 n8 c8)/\w1.cell? ⟨w.heap.size,9,none⟩=some(.slice a9 n9 c9)/\w1.cell? ⟨w.heap.size,10,none⟩=some(.slice aA nA cA)/\w1.cell? ⟨w.heap.size,11,none⟩=some(.slice aB nB cB):=by simp [World.cell?,G1]
 obtain⟨m0,m1,m2,m3,m4,m5,m6,m7,m8,m9,m10,m11⟩:=ca;have H1:Hid(w.alloc(.cells #[.int .i64 10, .int .i64 x1, .int .i64 x2, .int .i64 x3, .int .i64 x4, .int .i64 x5, .slice a6 n6 c6, .slice a7 n7 c7, .slice a8 n8 c8, .slice a9 n9 c9, .slice aA nA cA, .slice aB nB cB]32)=w1):=hw1;have HA:Hid(Below w.heap.size w w1/\w1.heap[w.heap.size]? =some(.cells #[.int .i64 10, .int .i64 x1, .int .i64 x2, .int .i64 x3, .int .i64 x4, .int .i64 x5, .slice a6 n6 c6, .slice a7 n7 c7, .slice a8 n8 c8, .slice a9 n9 c9, .slice aA nA cA, .slice aB nB cB]32(0,0))):=⟨A1,G1⟩;clear hw1 A1 G1 CH0 CA0 hQ
 go_enter Tryz.func48,Tryz.ntmps48
 go_upto_region 1 with fail
 rw [H1.out]
 go_wp2_with fail
 refine Calls.mono(CH.out _ HA.out.1) ?_;rintro e W2⟨rfl,hb2⟩;clear H1 CH m0 m1 m2 m3 m4 m5 m6 m7 m8 m9 m10 m11
 go_upto_region 3 with fail
 obtain⟨W3,hW3⟩: ∃z,W2.alloc(.cells #[.bool hb]4)=z:=⟨_,rfl⟩;have hx2:W2.heap[w.heap.size]? =some(.cells #[.int .i64 10, .int .i64 x1, .int .i64 x2, .int .i64 x3, .int .i64 x4, .int .i64 x5, .slice a6 n6 c6, .slice a7 n7 c7, .slice a8 n8 c8, .slice a9 n9 c9, .slice aA nA cA, .slice aB nB cB]32(0,0)):=(hb2.block _(Array.getElem?_eq_some_iff.1 HA.out.2).1).trans HA.out.2;have hl2:=(Array.getElem?_eq_some_iff.1 hx2).1
 have FW3:Hid(Ak.Fm w w.heap.size W2.heap.size #[.int .i64 10, .int .i64 x1, .int .i64 x2, .int .i64 x3, .int .i64 x4, .int .i64 x5, .slice a6 n6 c6, .slice a7 n7 c7, .slice a8 n8 c8, .slice a9 n9 c9, .slice aA nA cA, .slice aB nB cB]hb W3):=by
  have b3:Below W2.heap.size W2 W3:=by rw [<-hW3];exact(Below.refl _ W2).alloc(Nat.le_refl _)_
  have b2:Below w.heap.size w W2:=HA.out.1.trans(hb2.mono HA.out.1.size);exact⟨(b3.block _ hl2).trans hx2,by rw [<-hW3];exact heap_alloc_new W2 _,by omega,Nat.le_refl _,b2.size,b2.trans(b3.mono b2.size)⟩
 rw [hW3];obtain⟨rb,hrb⟩: ∃z,W2.heap.size=z:=⟨_,rfl⟩;rw [hrb]at FW3⊢;clear hW3 hx2 hl2 hb2 hrb HA;have k0:W3.cell? ⟨w.heap.size,0,none⟩=some(.int .i64 10):=by simp [World.cell?,FW3.out.box]
 have CN:Hid _:=Tryz.hasNode_any 10 W3
 go_wp2_with fail
 refine Calls.mono CN.out ?_;rintro e W4⟨rfl,hw4⟩;obtain rfl:=hw4.symm;clear CN;have ehn:Ac.hasNodeB 10=true:=rfl;rw [ehn];clear ehn;have kx:W3.cell? ⟨w.heap.size,1,none⟩=some(.int .i64 x1):=FW3.out.cell 1
 go_wp2_with fail
 refine Calls.mono(Tryz.atake_any w.heap.size 1 rb x1 24 hb W3 kx(FW3.out.fx 1)FW3.out.cr FW3.out.fr FW3.out.ne) ?_;rintro e W29⟨rfl,hw2⟩;obtain⟨r1,hr1⟩: ∃z,(hb&&(decide(0<=x1)&&decide(x1<24)))=z:=⟨_,rfl⟩;have FW29:Hid(Ak.Fm w w.heap.size rb #[.int .i64 10, .int .i64 0, .int .i64 x2, .int .i64 x3, .int .i64 x4, .int .i64 x5, .slice a6 n6 c6, .slice a7 n7 c7, .slice a8 n8 c8, .slice a9 n9 c9, .slice aA nA cA, .slice aB nB cB]r1 W29):=by show Ak.Fm _ _ _ _ _ _;rw [hw2,hr1];exact(FW3.out.setR r1).setX 1(.int .i64 0)
 have Hr1:Hid(r1=true↔hb=true/\(0<=x1/\x1<24)):=by show _↔_;rw [<-hr1];simp
 clear hw2 hr1 kx;have kk:W29.cell? ⟨w.heap.size,0,none⟩=some(.int .i64 10):=FW29.out.cell 0;obtain⟨r2,hr2⟩: ∃z,(r1&&(decide(n8=1)))=z:=⟨_,rfl⟩;have Hr2:Hid(r2=true↔r1=true/\n8=1):=by show _↔_;rw [<-hr2];simp
 go_upto_region 24 with fail
 have kr:=FW29.out.cr;have fr:=FW29.out.fr;have k8:W29.cell? ⟨w.heap.size,8,none⟩=some(.slice a8 n8 c8):=FW29.out.cell 8
 go_cut []from 43 to 179(λwx=>Hid(Ak.Fm w w.heap.size rb #[.int .i64 10, .int .i64 0, .int .i64 x2, .int .i64 x3, .int .i64 x4, .int .i64 x5, .slice a6 n6 c6, .slice a7 n7 c7, .slice a8 n8 c8, .slice a9 n9 c9, .slice aA nA cA, .slice aB nB cB]r2 wx))
 case first=>
  cases r1 with
  |false=>
   go_wp2_with fail
   go_meet;exact by rw [<-hr2];exact FW29.out.setR _
  |true=>
  by_cases q: ¬(n8=1)
  ·have dq:((n8:Int)==1)=false:=by simp;omega
   have e:r2=false:=by rw [<-hr2];simp [q]
   clear q hr2
   go_wp2_with fail
   go_meet;exact by rw [e];exact FW29.out.setR _
  replace q:=Decidable.not_not.1 q;have dq:((n8:Int)==1)=true:=by simp;omega
  have e:r2=true:=by rw [<-hr2];simp [q]
  clear q hr2
  go_wp2_with fail
  go_meet;exact by rw [e];exact FW29.out.setR _
 case rest=>
 rename World=>W30;have FW30:Hid _:=hcut;clear hcut kr fr k8 hr2;have kx:W30.cell? ⟨w.heap.size,2,none⟩=some(.int .i64 x2):=FW30.out.cell 2
 go_wp2_with fail
 refine Calls.mono(Tryz.atake_any w.heap.size 2 rb x2 5 r2 W30 kx(FW30.out.fx 2)FW30.out.cr FW30.out.fr FW30.out.ne) ?_;rintro e W31⟨rfl,hw2⟩;obtain⟨r3,hr3⟩: ∃z,(r2&&(decide(0<=x2)&&decide(x2<5)))=z:=⟨_,rfl⟩;have FW31:Hid(Ak.Fm w w.heap.size rb #[.int .i64 10, .int .i64 0, .int .i64 0, .int .i64 x3, .int .i64 x4, .int .i64 x5, .slice a6 n6 c6, .slice a7 n7 c7, .slice a8 n8 c8, .slice a9 n9 c9, .slice aA nA cA, .slice aB nB cB]r3 W31):=by show Ak.Fm _ _ _ _ _ _;rw [hw2,hr3];exact(FW30.out.setR r3).setX 2(.int .i64 0)
 have Hr3:Hid(r3=true↔r2=true/\(0<=x2/\x2<5)):=by show _↔_;rw [<-hr3];simp
 clear hw2 hr3 kx;have kz8:W31.cell? ⟨w.heap.size,8,none⟩=some(.slice a8 n8 c8):=FW31.out.cell 8;have fz8:=FW31.out.fx 8
 go_upto_region 46 with fail
 obtain⟨W32,hW32⟩: ∃z,(W31.setCell⟨w.heap.size,8,none⟩(.slice none 0 0))=z:=⟨_,rfl⟩;rw [hW32];have FW32:Hid(Ak.Fm w w.heap.size rb #[.int .i64 10, .int .i64 0, .int .i64 0, .int .i64 x3, .int .i64 x4, .int .i64 x5, .slice a6 n6 c6, .slice a7 n7 c7, .slice none 0 0, .slice a9 n9 c9, .slice aA nA cA, .slice aB nB cB]r3 W32):=by rw [<-hW32];exact(FW31.out.setX 8(.slice none 0 0))
 clear hW32 kz8 fz8;have HRA:Hid(r3=true↔hb=true/\(0<=x1/\x1<24)/\n8=1/\(0<=x2/\x2<5)):=by show _↔_;rw [Hr3.out,Hr2.out,Hr1.out];simp only [and_assoc]
 have kr:=FW32.out.cr
 cases r3 with
 |false=>
  have HN:Hid(¬Q):=λh=>absurd(HRA.out.2⟨(HQ.out.1 h).1,(HQ.out.1 h).2.1,(HQ.out.1 h).2.2.1,(HQ.out.1 h).2.2.2.1⟩)(by decide);go_wp2;go_ret;exact⟨Ak.Told.no HN.out,FW32.out.bel⟩
 |true=>
 have hh:=HRA.out.1 rfl;have HH:Hid _:=hh;clear hh;have k0:W32.cell? ⟨w.heap.size,0,none⟩=some(.int .i64 10):=FW32.out.cell 0;have k1:W32.cell? ⟨w.heap.size,1,none⟩=some(.int .i64 0):=FW32.out.cell 1;have k2:W32.cell? ⟨w.heap.size,2,none⟩=some(.int .i64 0):=FW32.out.cell 2;have k3:W32.cell? ⟨w.heap.size,3,none⟩=some(.int .i64 x3):=FW32.out.cell 3;have k4:W32.cell? ⟨w.heap.size,4,none⟩=some(.int .i64 x4):=FW32.out.cell 4;have k5:W32.cell? ⟨w.heap.size,5,none⟩=some(.int .i64 x5):=FW32.out.cell 5;have k6:W32.cell? ⟨w.heap.size,6,none⟩=some(.slice a6 n6 c6):=FW32.out.cell 6;have k7:W32.cell? ⟨w.heap.size,7,none⟩=some(.slice a7 n7 c7):=FW32.out.cell 7;have k8:W32.cell? ⟨w.heap.size,8,none⟩=some(.slice none 0 0):=FW32.out.cell 8;have k9:W32.cell? ⟨w.heap.size,9,none⟩=some(.slice a9 n9 c9):=FW32.out.cell 9;have k10:W32.cell? ⟨w.heap.size,10,none⟩=some(.slice aA nA cA):=FW32.out.cell 10;have k11:W32.cell? ⟨w.heap.size,11,none⟩=some(.slice aB nB cB):=FW32.out.cell 11
 go_wp2_with fail
 clear kr k0 k1 k2 k3 k4 k5 k6 k7 k8 k9 k10 k11;refine Calls.mono(CA.out _ FW32.out.bel) ?_;rintro e W33⟨⟨r,rfl,hr⟩,hbe⟩;have FW33:Hid(Ak.Fm w w.heap.size rb #[.int .i64 10, .int .i64 0, .int .i64 0, .int .i64 x3, .int .i64 x4, .int .i64 x5, .slice a6 n6 c6, .slice a7 n7 c7, .slice none 0 0, .slice a9 n9 c9, .slice aA nA cA, .slice aB nB cB]true W33/\(r=true↔P)):=⟨FW32.out.below hbe,hr⟩;clear hbe hr
 cases r with
 |false=>
  have HN:Hid(¬Q):=λh=>absurd(FW33.out.2.2(HQ.out.1 h).2.2.2.2.1)(by decide);go_wp2;go_ret;exact⟨Ak.Told.no HN.out,FW33.out.1.bel⟩
 |true=>
 have HP:Hid P:=FW33.out.2.1(by first|rfl|trivial);have k8:W33.cell? ⟨w.heap.size,8,none⟩=some(.slice none 0 0):=FW33.out.1.cell 8;go_wp2;go_ret;exact⟨Ak.Told.yes(HQ.out.2⟨HH.out.1,HH.out.2.1,HH.out.2.2.1,HH.out.2.2.2,HP.out,trivial⟩),FW33.out.1.bel⟩
theorem Tryz.fm_8(x1 x2 x3 x4 x5:Int)(a6 a7 a8 a9 aA aB:Option Addr)(n6 c6 n7 c7 n8 c8 n9 c9 nA cA nB cB:Nat)(w:World)(hb:Bool)(P:Prop)(ob:Bool)(_hn7:n7<=1000)(hn8:n8<=1000)(CH0: ∀W,Below w.heap.size w W->Calls Tryz.prog 58 #[.agg #[.int .i64 8, .int .i64 x1, .int .i64 x2, .int .i64 x3, .int .i64 x4, .int .i64 x5, .slice a6 n6 c6, .slice a7 n7 c7, .slice a8 n8 c8, .slice a9 n9 c9, .slice aA nA cA, .slice aB nB cB]]W λe w'=>e= .returned(.bool hb)/\Below W.heap.size W w')(CA0: ∀W,Below w.heap.size w W->Calls Tryz.prog 65 #[.agg #[.int .i64 8, .int .i64 0, .int .i64 0, .int .i64 x3, .int .i64 x4, .int .i64 x5, .slice a6 n6 c6, .slice none 0 0, .slice none 0 0, .slice a9 n9 c9, .slice aA nA cA, .slice aB nB cB], .agg #[.int .i64 8, .int .i64 0, .int .i64 0, .int .i64 0, .int .i64 0, .int .i64 0, .slice none 0 0, .slice none 0 0, .slice none 0 0, .slice none 0 0, .slice none 0 0, .slice none 0 0]]W λe w'=>Ak.Told P e/\Below W.heap.size W w')(CC0: ∀W,Below w.heap.size w W->Calls Tryz.prog 62 #[.slice a7 n7 c7, .int .i64 x2]W λe w'=>e= .returned(.bool ob)/\Below W.heap.size W w'):
  Calls Tryz.prog 48 #[.agg #[.int .i64 8, .int .i64 x1, .int .i64 x2, .int .i64 x3, .int .i64 x4, .int .i64 x5, .slice a6 n6 c6, .slice a7 n7 c7, .slice a8 n8 c8, .slice a9 n9 c9, .slice aA nA cA, .slice aB nB cB]]w λe w'=>Ak.Told(hb=true/\(0<=x1/\x1<24)/\n7=n8/\ob=true/\(0<=x2/\x2<(n7:Int))/\2<=n8/\P/\True)e/\Below w.heap.size w w':=by
 obtain⟨Q,hQ⟩: ∃Q:Prop,(hb=true/\(0<=x1/\x1<24)/\n7=n8/\ob=true/\(0<=x2/\x2<(n7:Int))/\2<=n8/\P/\True)=Q:=⟨_,rfl⟩;rw [hQ];have HQ:Hid(Q↔hb=true/\(0<=x1/\x1<24)/\n7=n8/\ob=true/\(0<=x2/\x2<(n7:Int))/\2<=n8/\P/\True):=by rw [<-hQ];exact Iff.rfl
 have CH:Hid _:=CH0;have CA:Hid _:=CA0;have CC:Hid _:=CC0;clear CC0;obtain⟨w1,hw1⟩: ∃x,w.alloc(.cells #[.int .i64 8, .int .i64 x1, .int .i64 x2, .int .i64 x3, .int .i64 x4, .int .i64 x5, .slice a6 n6 c6, .slice a7 n7 c7, .slice a8 n8 c8, .slice a9 n9 c9, .slice aA nA cA, .slice aB nB cB]32)=x:=⟨_,rfl⟩;have A1:Below w.heap.size w w1:=by rw [<-hw1];exact(Below.refl _ w).alloc(Nat.le_refl _)_
 have G1:w1.heap[w.heap.size]? =some(.cells #[.int .i64 8, .int .i64 x1, .int .i64 x2, .int .i64 x3, .int .i64 x4, .int .i64 x5, .slice a6 n6 c6, .slice a7 n7 c7, .slice a8 n8 c8, .slice a9 n9 c9, .slice aA nA cA, .slice aB nB cB]32(0,0)):=by rw [<-hw1];exact heap_alloc_new w _
 have ca:w1.cell? ⟨w.heap.size,0,none⟩=some(.int .i64 8)/\w1.cell? ⟨w.heap.size,1,none⟩=some(.int .i64 x1)/\w1.cell? ⟨w.heap.size,2,none⟩=some(.int .i64 x2)/\w1.cell? ⟨w.heap.size,3,none⟩=some(.int .i64 x3)/\w1.cell? ⟨w.heap.size,4,none⟩=some(.int .i64 x4)/\w1.cell? ⟨w.heap.size,5,none⟩=some(.int .i64 x5)/\w1.cell? ⟨w.heap.size,6,none⟩=some(.slice a6 n6 c6)/\w1.cell? ⟨w.heap.size,7,none⟩=some(.slice a7 n7 c7)/\w1.cell? ⟨w.heap.size,8,none⟩=some(.slice a8 n8 c8)/\w1.cell? ⟨w.heap.size,9,none⟩=some(.slice a9 n9 c9)/\w1.cell? ⟨w.heap.size,10,none⟩=some(.slice aA nA cA)/\w1.cell? ⟨w.heap.size,11,none⟩=some(.slice aB nB cB):=by simp [World.cell?,G1]
 obtain⟨m0,m1,m2,m3,m4,m5,m6,m7,m8,m9,m10,m11⟩:=ca;have H1:Hid(w.alloc(.cells #[.int .i64 8, .int .i64 x1, .int .i64 x2, .int .i64 x3, .int .i64 x4, .int .i64 x5, .slice a6 n6 c6, .slice a7 n7 c7, .slice a8 n8 c8, .slice a9 n9 c9, .slice aA nA cA, .slice aB nB cB]32)=w1):=hw1;have HA:Hid(Below w.heap.size w w1/\w1.heap[w.heap.size]? =some(.cells #[.int .i64 8, .int .i64 x1, .int .i64 x2, .int .i64 x3, .int .i64 x4, .int .i64 x5, .slice a6 n6 c6, .slice a7 n7 c7, .slice a8 n8 c8, .slice a9 n9 c9, .slice aA nA cA, .slice aB nB cB]32(0,0))):=⟨A1,G1⟩;clear hw1 A1 G1 CH0 CA0 hQ
 go_enter Tryz.func48,Tryz.ntmps48
 go_upto_region 1 with fail
 rw [H1.out]
 go_wp2_with fail
 refine Calls.mono(CH.out _ HA.out.1) ?_;rintro e W2⟨rfl,hb2⟩;clear H1 CH m0 m1 m2 m3 m4 m5 m6 m7 m8 m9 m10 m11
 go_upto_region 3 with fail
 obtain⟨W3,hW3⟩: ∃z,W2.alloc(.cells #[.bool hb]4)=z:=⟨_,rfl⟩;have hx2:W2.heap[w.heap.size]? =some(.cells #[.int .i64 8, .int .i64 x1, .int .i64 x2, .int .i64 x3, .int .i64 x4, .int .i64 x5, .slice a6 n6 c6, .slice a7 n7 c7, .slice a8 n8 c8, .slice a9 n9 c9, .slice aA nA cA, .slice aB nB cB]32(0,0)):=(hb2.block _(Array.getElem?_eq_some_iff.1 HA.out.2).1).trans HA.out.2;have hl2:=(Array.getElem?_eq_some_iff.1 hx2).1
 have FW3:Hid(Ak.Fm w w.heap.size W2.heap.size #[.int .i64 8, .int .i64 x1, .int .i64 x2, .int .i64 x3, .int .i64 x4, .int .i64 x5, .slice a6 n6 c6, .slice a7 n7 c7, .slice a8 n8 c8, .slice a9 n9 c9, .slice aA nA cA, .slice aB nB cB]hb W3):=by
  have b3:Below W2.heap.size W2 W3:=by rw [<-hW3];exact(Below.refl _ W2).alloc(Nat.le_refl _)_
  have b2:Below w.heap.size w W2:=HA.out.1.trans(hb2.mono HA.out.1.size);exact⟨(b3.block _ hl2).trans hx2,by rw [<-hW3];exact heap_alloc_new W2 _,by omega,Nat.le_refl _,b2.size,b2.trans(b3.mono b2.size)⟩
 rw [hW3];obtain⟨rb,hrb⟩: ∃z,W2.heap.size=z:=⟨_,rfl⟩;rw [hrb]at FW3⊢;clear hW3 hx2 hl2 hb2 hrb HA;have k0:W3.cell? ⟨w.heap.size,0,none⟩=some(.int .i64 8):=by simp [World.cell?,FW3.out.box]
 have CN:Hid _:=Tryz.hasNode_any 8 W3
 go_wp2_with fail
 refine Calls.mono CN.out ?_;rintro e W4⟨rfl,hw4⟩;obtain rfl:=hw4.symm;clear CN;have ehn:Ac.hasNodeB 8=true:=rfl;rw [ehn];clear ehn;have kx:W3.cell? ⟨w.heap.size,1,none⟩=some(.int .i64 x1):=FW3.out.cell 1
 go_wp2_with fail
 refine Calls.mono(Tryz.atake_any w.heap.size 1 rb x1 24 hb W3 kx(FW3.out.fx 1)FW3.out.cr FW3.out.fr FW3.out.ne) ?_;rintro e W48⟨rfl,hw2⟩;obtain⟨r1,hr1⟩: ∃z,(hb&&(decide(0<=x1)&&decide(x1<24)))=z:=⟨_,rfl⟩;have FW48:Hid(Ak.Fm w w.heap.size rb #[.int .i64 8, .int .i64 0, .int .i64 x2, .int .i64 x3, .int .i64 x4, .int .i64 x5, .slice a6 n6 c6, .slice a7 n7 c7, .slice a8 n8 c8, .slice a9 n9 c9, .slice aA nA cA, .slice aB nB cB]r1 W48):=by show Ak.Fm _ _ _ _ _ _;rw [hw2,hr1];exact(FW3.out.setR r1).setX 1(.int .i64 0)
 have Hr1:Hid(r1=true↔hb=true/\(0<=x1/\x1<24)):=by show _↔_;rw [<-hr1];simp
 clear hw2 hr1 kx;have kk:W48.cell? ⟨w.heap.size,0,none⟩=some(.int .i64 8):=FW48.out.cell 0;obtain⟨r2,hr2⟩: ∃z,(r1&&(decide(n7=n8)&&ob))=z:=⟨_,rfl⟩;have Hr2:Hid(r2=true↔r1=true/\n7=n8/\ob=true):=by show _↔_;rw [<-hr2];simp
 go_upto_region 29 with fail
 have kr:=FW48.out.cr;have fr:=FW48.out.fr;have k2:W48.cell? ⟨w.heap.size,2,none⟩=some(.int .i64 x2):=FW48.out.cell 2;have k7:W48.cell? ⟨w.heap.size,7,none⟩=some(.slice a7 n7 c7):=FW48.out.cell 7;have k8:W48.cell? ⟨w.heap.size,8,none⟩=some(.slice a8 n8 c8):=FW48.out.cell 8
 go_cut []from 43 to 179(λwx=>Hid(Ak.Fm w w.heap.size rb #[.int .i64 8, .int .i64 0, .int .i64 x2, .int .i64 x3, .int .i64 x4, .int .i64 x5, .slice a6 n6 c6, .slice a7 n7 c7, .slice a8 n8 c8, .slice a9 n9 c9, .slice aA nA cA, .slice aB nB cB]r2 wx))
 case first=>
  cases r1 with
  |false=>
   go_wp2_with fail
   go_meet;exact by rw [<-hr2];exact FW48.out.setR _
  |true=>
  by_cases q: ¬(n7=n8)
  ·have dq:((n7:Int)==(n8:Int))=false:=by simp;omega
   have e:r2=false:=by rw [<-hr2];simp [q]
   clear q hr2
   go_wp2_with fail
   go_meet;exact by rw [e];exact FW48.out.setR _
  replace q:=Decidable.not_not.1 q;have dq:((n7:Int)==(n8:Int))=true:=by simp;omega
  have e:r2=ob:=by rw [<-hr2];simp [q]
  clear q hr2
  go_wp2_with fail
  refine Calls.mono(CC.out _ FW48.out.bel) ?_;rintro e' W50⟨rfl,hbe⟩;have FW50:Hid(Ak.Fm w w.heap.size rb #[.int .i64 8, .int .i64 0, .int .i64 x2, .int .i64 x3, .int .i64 x4, .int .i64 x5, .slice a6 n6 c6, .slice a7 n7 c7, .slice a8 n8 c8, .slice a9 n9 c9, .slice aA nA cA, .slice aB nB cB]true W50):=FW48.out.below hbe;clear hbe kr fr k2 k7 k8;have kr:=FW50.out.cr;have fr:=FW50.out.fr
  go_wp2_with fail
  go_meet;exact by rw [e];exact FW50.out.setR _
 case rest=>
 rename World=>W49;have FW49:Hid _:=hcut;clear hcut kr fr k2 k7 k8 hr2;have kx:W49.cell? ⟨w.heap.size,2,none⟩=some(.int .i64 x2):=FW49.out.cell 2;have k7:W49.cell? ⟨w.heap.size,7,none⟩=some(.slice a7 n7 c7):=FW49.out.cell 7
 go_wp2_with fail
 refine Calls.mono(Tryz.atake_any w.heap.size 2 rb x2(n7:Int)r2 W49 kx(FW49.out.fx 2)FW49.out.cr FW49.out.fr FW49.out.ne) ?_;rintro e W51⟨rfl,hw2⟩;obtain⟨r3,hr3⟩: ∃z,(r2&&(decide(0<=x2)&&decide(x2<(n7:Int))))=z:=⟨_,rfl⟩;have FW51:Hid(Ak.Fm w w.heap.size rb #[.int .i64 8, .int .i64 0, .int .i64 0, .int .i64 x3, .int .i64 x4, .int .i64 x5, .slice a6 n6 c6, .slice a7 n7 c7, .slice a8 n8 c8, .slice a9 n9 c9, .slice aA nA cA, .slice aB nB cB]r3 W51):=by show Ak.Fm _ _ _ _ _ _;rw [hw2,hr3];exact(FW49.out.setR r3).setX 2(.int .i64 0)
 have Hr3:Hid(r3=true↔r2=true/\(0<=x2/\x2<(n7:Int))):=by show _↔_;rw [<-hr3];simp
 clear hw2 hr3 kx k7;have kz7:W51.cell? ⟨w.heap.size,7,none⟩=some(.slice a7 n7 c7):=FW51.out.cell 7;have fz7:=FW51.out.fx 7
 go_upto_region 32 with fail
 obtain⟨W52,hW52⟩: ∃z,(W51.setCell⟨w.heap.size,7,none⟩(.slice none 0 0))=z:=⟨_,rfl⟩;rw [hW52];have FW52:Hid(Ak.Fm w w.heap.size rb #[.int .i64 8, .int .i64 0, .int .i64 0, .int .i64 x3, .int .i64 x4, .int .i64 x5, .slice a6 n6 c6, .slice none 0 0, .slice a8 n8 c8, .slice a9 n9 c9, .slice aA nA cA, .slice aB nB cB]r3 W52):=by rw [<-hW52];exact(FW51.out.setX 7(.slice none 0 0))
 clear hW52 kz7 fz7;obtain⟨r4,hr4⟩: ∃z,(r3&&(decide(2<=n8)))=z:=⟨_,rfl⟩;have Hr4:Hid(r4=true↔r3=true/\2<=n8):=by show _↔_;rw [<-hr4];simp
 have kr:=FW52.out.cr;have fr:=FW52.out.fr;have k8:W52.cell? ⟨w.heap.size,8,none⟩=some(.slice a8 n8 c8):=FW52.out.cell 8
 go_cut []from 43 to 179(λwx=>Hid(Ak.Fm w w.heap.size rb #[.int .i64 8, .int .i64 0, .int .i64 0, .int .i64 x3, .int .i64 x4, .int .i64 x5, .slice a6 n6 c6, .slice none 0 0, .slice a8 n8 c8, .slice a9 n9 c9, .slice aA nA cA, .slice aB nB cB]r4 wx))
 case first=>
  cases r3 with
  |false=>
   go_wp2_with fail
   go_meet;exact by rw [<-hr4];exact FW52.out.setR _
  |true=>
  by_cases q: ¬(2<=n8)
  ·have dq:decide((2:Int)<=n8)=false:=decide_eq_false(by omega)
   have dq2: ¬(2:Int)<=n8:=by omega
   have e:r4=false:=by rw [<-hr4];simp [q]
   clear q hr4
   go_wp2_with fail
   go_meet;exact by rw [e];exact FW52.out.setR _
  replace q:=Decidable.not_not.1 q;have dq:decide((2:Int)<=n8)=true:=decide_eq_true(by omega);have dq2:(2:Int)<=n8:=by omega
  have e:r4=true:=by rw [<-hr4];simp [q]
  clear q hr4
  go_wp2_with fail
  go_meet;exact by rw [e];exact FW52.out.setR _
 case rest=>
 rename World=>W53;have FW53:Hid _:=hcut;clear hcut kr fr k8 hr4;have kz8:W53.cell? ⟨w.heap.size,8,none⟩=some(.slice a8 n8 c8):=FW53.out.cell 8;have fz8:=FW53.out.fx 8
 go_upto_region 46 with fail
 obtain⟨W54,hW54⟩: ∃z,(W53.setCell⟨w.heap.size,8,none⟩(.slice none 0 0))=z:=⟨_,rfl⟩;rw [hW54];have FW54:Hid(Ak.Fm w w.heap.size rb #[.int .i64 8, .int .i64 0, .int .i64 0, .int .i64 x3, .int .i64 x4, .int .i64 x5, .slice a6 n6 c6, .slice none 0 0, .slice none 0 0, .slice a9 n9 c9, .slice aA nA cA, .slice aB nB cB]r4 W54):=by rw [<-hW54];exact(FW53.out.setX 8(.slice none 0 0))
 clear hW54 kz8 fz8;have HRA:Hid(r4=true↔hb=true/\(0<=x1/\x1<24)/\n7=n8/\ob=true/\(0<=x2/\x2<(n7:Int))/\2<=n8):=by show _↔_;rw [Hr4.out,Hr3.out,Hr2.out,Hr1.out];simp only [and_assoc]
 have kr:=FW54.out.cr
 cases r4 with
 |false=>
  have HN:Hid(¬Q):=λh=>absurd(HRA.out.2⟨(HQ.out.1 h).1,(HQ.out.1 h).2.1,(HQ.out.1 h).2.2.1,(HQ.out.1 h).2.2.2.1,(HQ.out.1 h).2.2.2.2.1,(HQ.out.1 h).2.2.2.2.2.1⟩)(by decide);go_wp2;go_ret;exact⟨Ak.Told.no HN.out,FW54.out.bel⟩
 |true=>
 have hh:=HRA.out.1 rfl;have HH:Hid _:=hh;clear hh;have k0:W54.cell? ⟨w.heap.size,0,none⟩=some(.int .i64 8):=FW54.out.cell 0;have k1:W54.cell? ⟨w.heap.size,1,none⟩=some(.int .i64 0):=FW54.out.cell 1;have k2:W54.cell? ⟨w.heap.size,2,none⟩=some(.int .i64 0):=FW54.out.cell 2;have k3:W54.cell? ⟨w.heap.size,3,none⟩=some(.int .i64 x3):=FW54.out.cell 3;have k4:W54.cell? ⟨w.heap.size,4,none⟩=some(.int .i64 x4):=FW54.out.cell 4;have k5:W54.cell? ⟨w.heap.size,5,none⟩=some(.int .i64 x5):=FW54.out.cell 5;have k6:W54.cell? ⟨w.heap.size,6,none⟩=some(.slice a6 n6 c6):=FW54.out.cell 6;have k7:W54.cell? ⟨w.heap.size,7,none⟩=some(.slice none 0 0):=FW54.out.cell 7;have k8:W54.cell? ⟨w.heap.size,8,none⟩=some(.slice none 0 0):=FW54.out.cell 8;have k9:W54.cell? ⟨w.heap.size,9,none⟩=some(.slice a9 n9 c9):=FW54.out.cell 9;have k10:W54.cell? ⟨w.heap.size,10,none⟩=some(.slice aA nA cA):=FW54.out.cell 10;have k11:W54.cell? ⟨w.heap.size,11,none⟩=some(.slice aB nB cB):=FW54.out.cell 11
 go_wp2_with fail
 clear kr k0 k1 k2 k3 k4 k5 k6 k7 k8 k9 k10 k11;refine Calls.mono(CA.out _ FW54.out.bel) ?_;rintro e W55⟨⟨r,rfl,hr⟩,hbe⟩;have FW55:Hid(Ak.Fm w w.heap.size rb #[.int .i64 8, .int .i64 0, .int .i64 0, .int .i64 x3, .int .i64 x4, .int .i64 x5, .slice a6 n6 c6, .slice none 0 0, .slice none 0 0, .slice a9 n9 c9, .slice aA nA cA, .slice aB nB cB]true W55/\(r=true↔P)):=⟨FW54.out.below hbe,hr⟩;clear hbe hr
 cases r with
 |false=>
  have HN:Hid(¬Q):=λh=>absurd(FW55.out.2.2(HQ.out.1 h).2.2.2.2.2.2.1)(by decide);go_wp2;go_ret;exact⟨Ak.Told.no HN.out,FW55.out.1.bel⟩
 |true=>
 have HP:Hid P:=FW55.out.2.1(by first|rfl|trivial);have k8:W55.cell? ⟨w.heap.size,8,none⟩=some(.slice none 0 0):=FW55.out.1.cell 8;go_wp2;go_ret;exact⟨Ak.Told.yes(HQ.out.2⟨HH.out.1,HH.out.2.1,HH.out.2.2.1,HH.out.2.2.2.1,HH.out.2.2.2.2.1,HH.out.2.2.2.2.2,HP.out,trivial⟩),FW55.out.1.bel⟩
theorem Tryz.fm_11(x1 x2 x3 x4 x5:Int)(a6 a7 a8 a9 aA aB:Option Addr)(n6 c6 n7 c7 n8 c8 n9 c9 nA cA nB cB:Nat)(w:World)(hb:Bool)(P:Prop)(ob:Bool)(_hn7:n7<=1000)(hn8:n8<=1000)(CH0: ∀W,Below w.heap.size w W->Calls Tryz.prog 58 #[.agg #[.int .i64 11, .int .i64 x1, .int .i64 x2, .int .i64 x3, .int .i64 x4, .int .i64 x5, .slice a6 n6 c6, .slice a7 n7 c7, .slice a8 n8 c8, .slice a9 n9 c9, .slice aA nA cA, .slice aB nB cB]]W λe w'=>e= .returned(.bool hb)/\Below W.heap.size W w')(CA0: ∀W,Below w.heap.size w W->Calls Tryz.prog 65 #[.agg #[.int .i64 11, .int .i64 0, .int .i64 0, .int .i64 0, .int .i64 x4, .int .i64 x5, .slice a6 n6 c6, .slice none 0 0, .slice none 0 0, .slice a9 n9 c9, .slice aA nA cA, .slice aB nB cB], .agg #[.int .i64 11, .int .i64 0, .int .i64 0, .int .i64 0, .int .i64 0, .int .i64 0, .slice none 0 0, .slice none 0 0, .slice none 0 0, .slice none 0 0, .slice none 0 0, .slice none 0 0]]W λe w'=>Ak.Told P e/\Below W.heap.size W w')(CC0: ∀W,Below w.heap.size w W->Calls Tryz.prog 62 #[.slice a7 n7 c7, .int .i64 x2]W λe w'=>e= .returned(.bool ob)/\Below W.heap.size W w'):
  Calls Tryz.prog 48 #[.agg #[.int .i64 11, .int .i64 x1, .int .i64 x2, .int .i64 x3, .int .i64 x4, .int .i64 x5, .slice a6 n6 c6, .slice a7 n7 c7, .slice a8 n8 c8, .slice a9 n9 c9, .slice aA nA cA, .slice aB nB cB]]w λe w'=>Ak.Told(hb=true/\(0<=x1/\x1<24)/\n8=2/\(0<=x3/\x3<(n7:Int))/\n7=n8/\ob=true/\(0<=x2/\x2<(n7:Int))/\2<=n8/\P/\True)e/\Below w.heap.size w w':=by
 obtain⟨Q,hQ⟩: ∃Q:Prop,(hb=true/\(0<=x1/\x1<24)/\n8=2/\(0<=x3/\x3<(n7:Int))/\n7=n8/\ob=true/\(0<=x2/\x2<(n7:Int))/\2<=n8/\P/\True)=Q:=⟨_,rfl⟩;rw [hQ];have HQ:Hid(Q↔hb=true/\(0<=x1/\x1<24)/\n8=2/\(0<=x3/\x3<(n7:Int))/\n7=n8/\ob=true/\(0<=x2/\x2<(n7:Int))/\2<=n8/\P/\True):=by rw [<-hQ];exact Iff.rfl
 have CH:Hid _:=CH0;have CA:Hid _:=CA0;have CC:Hid _:=CC0;clear CC0;obtain⟨w1,hw1⟩: ∃x,w.alloc(.cells #[.int .i64 11, .int .i64 x1, .int .i64 x2, .int .i64 x3, .int .i64 x4, .int .i64 x5, .slice a6 n6 c6, .slice a7 n7 c7, .slice a8 n8 c8, .slice a9 n9 c9, .slice aA nA cA, .slice aB nB cB]32)=x:=⟨_,rfl⟩;have A1:Below w.heap.size w w1:=by rw [<-hw1];exact(Below.refl _ w).alloc(Nat.le_refl _)_
 have G1:w1.heap[w.heap.size]? =some(.cells #[.int .i64 11, .int .i64 x1, .int .i64 x2, .int .i64 x3, .int .i64 x4, .int .i64 x5, .slice a6 n6 c6, .slice a7 n7 c7, .slice a8 n8 c8, .slice a9 n9 c9, .slice aA nA cA, .slice aB nB cB]32(0,0)):=by rw [<-hw1];exact heap_alloc_new w _
 have ca:w1.cell? ⟨w.heap.size,0,none⟩=some(.int .i64 11)/\w1.cell? ⟨w.heap.size,1,none⟩=some(.int .i64 x1)/\w1.cell? ⟨w.heap.size,2,none⟩=some(.int .i64 x2)/\w1.cell? ⟨w.heap.size,3,none⟩=some(.int .i64 x3)/\w1.cell? ⟨w.heap.size,4,none⟩=some(.int .i64 x4)/\w1.cell? ⟨w.heap.size,5,none⟩=some(.int .i64 x5)/\w1.cell? ⟨w.heap.size,6,none⟩=some(.slice a6 n6 c6)/\w1.cell? ⟨w.heap.size,7,none⟩=some(.slice a7 n7 c7)/\w1.cell? ⟨w.heap.size,8,none⟩=some(.slice a8 n8 c8)/\w1.cell? ⟨w.heap.size,9,none⟩=some(.slice a9 n9 c9)/\w1.cell? ⟨w.heap.size,10,none⟩=some(.slice aA nA cA)/\w1.cell? ⟨w.heap.size,11,none⟩=some(.slice aB nB cB):=by simp [World.cell?,G1]
 obtain⟨m0,m1,m2,m3,m4,m5,m6,m7,m8,m9,m10,m11⟩:=ca;have H1:Hid(w.alloc(.cells #[.int .i64 11, .int .i64 x1, .int .i64 x2, .int .i64 x3, .int .i64 x4, .int .i64 x5, .slice a6 n6 c6, .slice a7 n7 c7, .slice a8 n8 c8, .slice a9 n9 c9, .slice aA nA cA, .slice aB nB cB]32)=w1):=hw1;have HA:Hid(Below w.heap.size w w1/\w1.heap[w.heap.size]? =some(.cells #[.int .i64 11, .int .i64 x1, .int .i64 x2, .int .i64 x3, .int .i64 x4, .int .i64 x5, .slice a6 n6 c6, .slice a7 n7 c7, .slice a8 n8 c8, .slice a9 n9 c9, .slice aA nA cA, .slice aB nB cB]32(0,0))):=⟨A1,G1⟩;clear hw1 A1 G1 CH0 CA0 hQ
 go_enter Tryz.func48,Tryz.ntmps48
 go_upto_region 1 with fail
 rw [H1.out]
 go_wp2_with fail
 refine Calls.mono(CH.out _ HA.out.1) ?_;rintro e W2⟨rfl,hb2⟩;clear H1 CH m0 m1 m2 m3 m4 m5 m6 m7 m8 m9 m10 m11
 go_upto_region 3 with fail
 obtain⟨W3,hW3⟩: ∃z,W2.alloc(.cells #[.bool hb]4)=z:=⟨_,rfl⟩;have hx2:W2.heap[w.heap.size]? =some(.cells #[.int .i64 11, .int .i64 x1, .int .i64 x2, .int .i64 x3, .int .i64 x4, .int .i64 x5, .slice a6 n6 c6, .slice a7 n7 c7, .slice a8 n8 c8, .slice a9 n9 c9, .slice aA nA cA, .slice aB nB cB]32(0,0)):=(hb2.block _(Array.getElem?_eq_some_iff.1 HA.out.2).1).trans HA.out.2;have hl2:=(Array.getElem?_eq_some_iff.1 hx2).1
 have FW3:Hid(Ak.Fm w w.heap.size W2.heap.size #[.int .i64 11, .int .i64 x1, .int .i64 x2, .int .i64 x3, .int .i64 x4, .int .i64 x5, .slice a6 n6 c6, .slice a7 n7 c7, .slice a8 n8 c8, .slice a9 n9 c9, .slice aA nA cA, .slice aB nB cB]hb W3):=by
  have b3:Below W2.heap.size W2 W3:=by rw [<-hW3];exact(Below.refl _ W2).alloc(Nat.le_refl _)_
  have b2:Below w.heap.size w W2:=HA.out.1.trans(hb2.mono HA.out.1.size);exact⟨(b3.block _ hl2).trans hx2,by rw [<-hW3];exact heap_alloc_new W2 _,by omega,Nat.le_refl _,b2.size,b2.trans(b3.mono b2.size)⟩
 rw [hW3];obtain⟨rb,hrb⟩: ∃z,W2.heap.size=z:=⟨_,rfl⟩;rw [hrb]at FW3⊢;clear hW3 hx2 hl2 hb2 hrb HA;have k0:W3.cell? ⟨w.heap.size,0,none⟩=some(.int .i64 11):=by simp [World.cell?,FW3.out.box]
 have CN:Hid _:=Tryz.hasNode_any 11 W3
 go_wp2_with fail
 refine Calls.mono CN.out ?_;rintro e W4⟨rfl,hw4⟩;obtain rfl:=hw4.symm;clear CN;have ehn:Ac.hasNodeB 11=true:=rfl;rw [ehn];clear ehn;have kx:W3.cell? ⟨w.heap.size,1,none⟩=some(.int .i64 x1):=FW3.out.cell 1
 go_wp2_with fail
 refine Calls.mono(Tryz.atake_any w.heap.size 1 rb x1 24 hb W3 kx(FW3.out.fx 1)FW3.out.cr FW3.out.fr FW3.out.ne) ?_;rintro e W67⟨rfl,hw2⟩;obtain⟨r1,hr1⟩: ∃z,(hb&&(decide(0<=x1)&&decide(x1<24)))=z:=⟨_,rfl⟩;have FW67:Hid(Ak.Fm w w.heap.size rb #[.int .i64 11, .int .i64 0, .int .i64 x2, .int .i64 x3, .int .i64 x4, .int .i64 x5, .slice a6 n6 c6, .slice a7 n7 c7, .slice a8 n8 c8, .slice a9 n9 c9, .slice aA nA cA, .slice aB nB cB]r1 W67):=by show Ak.Fm _ _ _ _ _ _;rw [hw2,hr1];exact(FW3.out.setR r1).setX 1(.int .i64 0)
 have Hr1:Hid(r1=true↔hb=true/\(0<=x1/\x1<24)):=by show _↔_;rw [<-hr1];simp
 clear hw2 hr1 kx;have kk:W67.cell? ⟨w.heap.size,0,none⟩=some(.int .i64 11):=FW67.out.cell 0;obtain⟨r2,hr2⟩: ∃z,(r1&&(decide(n8=2)))=z:=⟨_,rfl⟩;have Hr2:Hid(r2=true↔r1=true/\n8=2):=by show _↔_;rw [<-hr2];simp
 go_upto_region 27 with fail
 have kr:=FW67.out.cr;have fr:=FW67.out.fr;have k8:W67.cell? ⟨w.heap.size,8,none⟩=some(.slice a8 n8 c8):=FW67.out.cell 8
 go_cut []from 43 to 179(λwx=>Hid(Ak.Fm w w.heap.size rb #[.int .i64 11, .int .i64 0, .int .i64 x2, .int .i64 x3, .int .i64 x4, .int .i64 x5, .slice a6 n6 c6, .slice a7 n7 c7, .slice a8 n8 c8, .slice a9 n9 c9, .slice aA nA cA, .slice aB nB cB]r2 wx))
 case first=>
  cases r1 with
  |false=>
   go_wp2_with fail
   go_meet;exact by rw [<-hr2];exact FW67.out.setR _
  |true=>
  by_cases q: ¬(n8=2)
  ·have dq:((n8:Int)==2)=false:=by simp;omega
   have e:r2=false:=by rw [<-hr2];simp [q]
   clear q hr2
   go_wp2_with fail
   go_meet;exact by rw [e];exact FW67.out.setR _
  replace q:=Decidable.not_not.1 q;have dq:((n8:Int)==2)=true:=by simp;omega
  have e:r2=true:=by rw [<-hr2];simp [q]
  clear q hr2
  go_wp2_with fail
  go_meet;exact by rw [e];exact FW67.out.setR _
 case rest=>
 rename World=>W68;have FW68:Hid _:=hcut;clear hcut kr fr k8 hr2;have kx:W68.cell? ⟨w.heap.size,3,none⟩=some(.int .i64 x3):=FW68.out.cell 3;have k7:W68.cell? ⟨w.heap.size,7,none⟩=some(.slice a7 n7 c7):=FW68.out.cell 7
 go_wp2_with fail
 refine Calls.mono(Tryz.atake_any w.heap.size 3 rb x3(n7:Int)r2 W68 kx(FW68.out.fx 3)FW68.out.cr FW68.out.fr FW68.out.ne) ?_;rintro e W69⟨rfl,hw2⟩;obtain⟨r3,hr3⟩: ∃z,(r2&&(decide(0<=x3)&&decide(x3<(n7:Int))))=z:=⟨_,rfl⟩;have FW69:Hid(Ak.Fm w w.heap.size rb #[.int .i64 11, .int .i64 0, .int .i64 x2, .int .i64 0, .int .i64 x4, .int .i64 x5, .slice a6 n6 c6, .slice a7 n7 c7, .slice a8 n8 c8, .slice a9 n9 c9, .slice aA nA cA, .slice aB nB cB]r3 W69):=by show Ak.Fm _ _ _ _ _ _;rw [hw2,hr3];exact(FW68.out.setR r3).setX 3(.int .i64 0)
 have Hr3:Hid(r3=true↔r2=true/\(0<=x3/\x3<(n7:Int))):=by show _↔_;rw [<-hr3];simp
 clear hw2 hr3 kx k7;obtain⟨r4,hr4⟩: ∃z,(r3&&(decide(n7=n8)&&ob))=z:=⟨_,rfl⟩;have Hr4:Hid(r4=true↔r3=true/\n7=n8/\ob=true):=by show _↔_;rw [<-hr4];simp
 go_upto_region 29 with fail
 have kr:=FW69.out.cr;have fr:=FW69.out.fr;have k2:W69.cell? ⟨w.heap.size,2,none⟩=some(.int .i64 x2):=FW69.out.cell 2;have k7:W69.cell? ⟨w.heap.size,7,none⟩=some(.slice a7 n7 c7):=FW69.out.cell 7;have k8:W69.cell? ⟨w.heap.size,8,none⟩=some(.slice a8 n8 c8):=FW69.out.cell 8
 go_cut []from 43 to 179(λwx=>Hid(Ak.Fm w w.heap.size rb #[.int .i64 11, .int .i64 0, .int .i64 x2, .int .i64 0, .int .i64 x4, .int .i64 x5, .slice a6 n6 c6, .slice a7 n7 c7, .slice a8 n8 c8, .slice a9 n9 c9, .slice aA nA cA, .slice aB nB cB]r4 wx))
 case first=>
  cases r3 with
  |false=>
   go_wp2_with fail
   go_meet;exact by rw [<-hr4];exact FW69.out.setR _
  |true=>
  by_cases q: ¬(n7=n8)
  ·have dq:((n7:Int)==(n8:Int))=false:=by simp;omega
   have e:r4=false:=by rw [<-hr4];simp [q]
   clear q hr4
   go_wp2_with fail
   go_meet;exact by rw [e];exact FW69.out.setR _
  replace q:=Decidable.not_not.1 q;have dq:((n7:Int)==(n8:Int))=true:=by simp;omega
  have e:r4=ob:=by rw [<-hr4];simp [q]
  clear q hr4
  go_wp2_with fail
  refine Calls.mono(CC.out _ FW69.out.bel) ?_;rintro e' W71⟨rfl,hbe⟩;have FW71:Hid(Ak.Fm w w.heap.size rb #[.int .i64 11, .int .i64 0, .int .i64 x2, .int .i64 0, .int .i64 x4, .int .i64 x5, .slice a6 n6 c6, .slice a7 n7 c7, .slice a8 n8 c8, .slice a9 n9 c9, .slice aA nA cA, .slice aB nB cB]true W71):=FW69.out.below hbe;clear hbe kr fr k2 k7 k8;have kr:=FW71.out.cr;have fr:=FW71.out.fr
  go_wp2_with fail
  go_meet;exact by rw [e];exact FW71.out.setR _
 case rest=>
 rename World=>W70;have FW70:Hid _:=hcut;clear hcut kr fr k2 k7 k8 hr4;have kx:W70.cell? ⟨w.heap.size,2,none⟩=some(.int .i64 x2):=FW70.out.cell 2;have k7:W70.cell? ⟨w.heap.size,7,none⟩=some(.slice a7 n7 c7):=FW70.out.cell 7
 go_wp2_with fail
 refine Calls.mono(Tryz.atake_any w.heap.size 2 rb x2(n7:Int)r4 W70 kx(FW70.out.fx 2)FW70.out.cr FW70.out.fr FW70.out.ne) ?_;rintro e W72⟨rfl,hw2⟩;obtain⟨r5,hr5⟩: ∃z,(r4&&(decide(0<=x2)&&decide(x2<(n7:Int))))=z:=⟨_,rfl⟩;have FW72:Hid(Ak.Fm w w.heap.size rb #[.int .i64 11, .int .i64 0, .int .i64 0, .int .i64 0, .int .i64 x4, .int .i64 x5, .slice a6 n6 c6, .slice a7 n7 c7, .slice a8 n8 c8, .slice a9 n9 c9, .slice aA nA cA, .slice aB nB cB]r5 W72):=by show Ak.Fm _ _ _ _ _ _;rw [hw2,hr5];exact(FW70.out.setR r5).setX 2(.int .i64 0)
 have Hr5:Hid(r5=true↔r4=true/\(0<=x2/\x2<(n7:Int))):=by show _↔_;rw [<-hr5];simp
 clear hw2 hr5 kx k7;have kz7:W72.cell? ⟨w.heap.size,7,none⟩=some(.slice a7 n7 c7):=FW72.out.cell 7;have fz7:=FW72.out.fx 7
 go_upto_region 32 with fail
 obtain⟨W73,hW73⟩: ∃z,(W72.setCell⟨w.heap.size,7,none⟩(.slice none 0 0))=z:=⟨_,rfl⟩;rw [hW73];have FW73:Hid(Ak.Fm w w.heap.size rb #[.int .i64 11, .int .i64 0, .int .i64 0, .int .i64 0, .int .i64 x4, .int .i64 x5, .slice a6 n6 c6, .slice none 0 0, .slice a8 n8 c8, .slice a9 n9 c9, .slice aA nA cA, .slice aB nB cB]r5 W73):=by rw [<-hW73];exact(FW72.out.setX 7(.slice none 0 0))
 clear hW73 kz7 fz7;obtain⟨r6,hr6⟩: ∃z,(r5&&(decide(2<=n8)))=z:=⟨_,rfl⟩;have Hr6:Hid(r6=true↔r5=true/\2<=n8):=by show _↔_;rw [<-hr6];simp
 have kr:=FW73.out.cr;have fr:=FW73.out.fr;have k8:W73.cell? ⟨w.heap.size,8,none⟩=some(.slice a8 n8 c8):=FW73.out.cell 8
 go_cut []from 43 to 179(λwx=>Hid(Ak.Fm w w.heap.size rb #[.int .i64 11, .int .i64 0, .int .i64 0, .int .i64 0, .int .i64 x4, .int .i64 x5, .slice a6 n6 c6, .slice none 0 0, .slice a8 n8 c8, .slice a9 n9 c9, .slice aA nA cA, .slice aB nB cB]r6 wx))
 case first=>
  cases r5 with
  |false=>
   go_wp2_with fail
   go_meet;exact by rw [<-hr6];exact FW73.out.setR _
  |true=>
  by_cases q: ¬(2<=n8)
  ·have dq:decide((2:Int)<=n8)=false:=decide_eq_false(by omega)
   have dq2: ¬(2:Int)<=n8:=by omega
   have e:r6=false:=by rw [<-hr6];simp [q]
   clear q hr6
   go_wp2_with fail
   go_meet;exact by rw [e];exact FW73.out.setR _
  replace q:=Decidable.not_not.1 q;have dq:decide((2:Int)<=n8)=true:=decide_eq_true(by omega);have dq2:(2:Int)<=n8:=by omega
  have e:r6=true:=by rw [<-hr6];simp [q]
  clear q hr6
  go_wp2_with fail
  go_meet;exact by rw [e];exact FW73.out.setR _
 case rest=>
 rename World=>W74;have FW74:Hid _:=hcut;clear hcut kr fr k8 hr6;have kz8:W74.cell? ⟨w.heap.size,8,none⟩=some(.slice a8 n8 c8):=FW74.out.cell 8;have fz8:=FW74.out.fx 8
 go_upto_region 46 with fail
 obtain⟨W75,hW75⟩: ∃z,(W74.setCell⟨w.heap.size,8,none⟩(.slice none 0 0))=z:=⟨_,rfl⟩;rw [hW75];have FW75:Hid(Ak.Fm w w.heap.size rb #[.int .i64 11, .int .i64 0, .int .i64 0, .int .i64 0, .int .i64 x4, .int .i64 x5, .slice a6 n6 c6, .slice none 0 0, .slice none 0 0, .slice a9 n9 c9, .slice aA nA cA, .slice aB nB cB]r6 W75):=by rw [<-hW75];exact(FW74.out.setX 8(.slice none 0 0))
 clear hW75 kz8 fz8;have HRA:Hid(r6=true↔hb=true/\(0<=x1/\x1<24)/\n8=2/\(0<=x3/\x3<(n7:Int))/\n7=n8/\ob=true/\(0<=x2/\x2<(n7:Int))/\2<=n8):=by show _↔_;rw [Hr6.out,Hr5.out,Hr4.out,Hr3.out,Hr2.out,Hr1.out];simp only [and_assoc]
 have kr:=FW75.out.cr
 cases r6 with
 |false=>
  have HN:Hid(¬Q):=λh=>absurd(HRA.out.2⟨(HQ.out.1 h).1,(HQ.out.1 h).2.1,(HQ.out.1 h).2.2.1,(HQ.out.1 h).2.2.2.1,(HQ.out.1 h).2.2.2.2.1,(HQ.out.1 h).2.2.2.2.2.1,(HQ.out.1 h).2.2.2.2.2.2.1,(HQ.out.1 h).2.2.2.2.2.2.2.1⟩)(by decide);go_wp2;go_ret;exact⟨Ak.Told.no HN.out,FW75.out.bel⟩
 |true=>
 have hh:=HRA.out.1 rfl;have HH:Hid _:=hh;clear hh;have k0:W75.cell? ⟨w.heap.size,0,none⟩=some(.int .i64 11):=FW75.out.cell 0;have k1:W75.cell? ⟨w.heap.size,1,none⟩=some(.int .i64 0):=FW75.out.cell 1;have k2:W75.cell? ⟨w.heap.size,2,none⟩=some(.int .i64 0):=FW75.out.cell 2;have k3:W75.cell? ⟨w.heap.size,3,none⟩=some(.int .i64 0):=FW75.out.cell 3;have k4:W75.cell? ⟨w.heap.size,4,none⟩=some(.int .i64 x4):=FW75.out.cell 4;have k5:W75.cell? ⟨w.heap.size,5,none⟩=some(.int .i64 x5):=FW75.out.cell 5;have k6:W75.cell? ⟨w.heap.size,6,none⟩=some(.slice a6 n6 c6):=FW75.out.cell 6;have k7:W75.cell? ⟨w.heap.size,7,none⟩=some(.slice none 0 0):=FW75.out.cell 7;have k8:W75.cell? ⟨w.heap.size,8,none⟩=some(.slice none 0 0):=FW75.out.cell 8;have k9:W75.cell? ⟨w.heap.size,9,none⟩=some(.slice a9 n9 c9):=FW75.out.cell 9;have k10:W75.cell? ⟨w.heap.size,10,none⟩=some(.slice aA nA cA):=FW75.out.cell 10;have k11:W75.cell? ⟨w.heap.size,11,none⟩=some(.slice aB nB cB):=FW75.out.cell 11
 go_wp2_with fail
 clear kr k0 k1 k2 k3 k4 k5 k6 k7 k8 k9 k10 k11;refine Calls.mono(CA.out _ FW75.out.bel) ?_;rintro e W76⟨⟨r,rfl,hr⟩,hbe⟩;have FW76:Hid(Ak.Fm w w.heap.size rb #[.int .i64 11, .int .i64 0, .int .i64 0, .int .i64 0, .int .i64 x4, .int .i64 x5, .slice a6 n6 c6, .slice none 0 0, .slice none 0 0, .slice a9 n9 c9, .slice aA nA cA, .slice aB nB cB]true W76/\(r=true↔P)):=⟨FW75.out.below hbe,hr⟩;clear hbe hr
 cases r with
 |false=>
  have HN:Hid(¬Q):=λh=>absurd(FW76.out.2.2(HQ.out.1 h).2.2.2.2.2.2.2.2.1)(by decide);go_wp2;go_ret;exact⟨Ak.Told.no HN.out,FW76.out.1.bel⟩
 |true=>
 have HP:Hid P:=FW76.out.2.1(by first|rfl|trivial);have k8:W76.cell? ⟨w.heap.size,8,none⟩=some(.slice none 0 0):=FW76.out.1.cell 8;go_wp2;go_ret;exact⟨Ak.Told.yes(HQ.out.2⟨HH.out.1,HH.out.2.1,HH.out.2.2.1,HH.out.2.2.2.1,HH.out.2.2.2.2.1,HH.out.2.2.2.2.2.1,HH.out.2.2.2.2.2.2.1,HH.out.2.2.2.2.2.2.2,HP.out,trivial⟩),FW76.out.1.bel⟩
end Go.Proofs
