import Derived.Test.YtmomffminkflnaaGreatDoorRAllNtOne
set_option maxRecDepth 100000
set_option maxHeartbeats 32000000
namespace Go.Proofs
open Go.RowKit Go.Shelf
theorem Tryz.fm_12a(x1 x3 x4 x5:Int)(a6 a7 a8 a9 aA aB:Option Addr)(n6 c6 n7 c7 n8 c8 n9 c9 nA cA nB cB:Nat)(w:World)(hb:Bool)(P:Prop)(ob:Bool)(hn7:n7<=1000)(_hn8:n8<=1000)(CH0: ∀W,Below w.heap.size w W->Calls Tryz.prog 58 #[.agg #[.int .i64 12, .int .i64 x1, .int .i64 3, .int .i64 x3, .int .i64 x4, .int .i64 x5, .slice a6 n6 c6, .slice a7 n7 c7, .slice a8 n8 c8, .slice a9 n9 c9, .slice aA nA cA, .slice aB nB cB]]W λe w'=>e= .returned(.bool hb)/\Below W.heap.size W w')(CA0: ∀W,Below w.heap.size w W->Calls Tryz.prog 65 #[.agg #[.int .i64 12, .int .i64 0, .int .i64 0, .int .i64 0, .int .i64 x4, .int .i64 x5, .slice a6 n6 c6, .slice none 0 0, .slice a8 n8 c8, .slice a9 n9 c9, .slice aA nA cA, .slice aB nB cB], .agg #[.int .i64 12, .int .i64 0, .int .i64 0, .int .i64 0, .int .i64 0, .int .i64 0, .slice none 0 0, .slice none 0 0, .slice none 0 0, .slice none 0 0, .slice none 0 0, .slice none 0 0]]W λe w'=>Ak.Told P e/\Below W.heap.size W w')(CC0: ∀W,Below w.heap.size w W->Calls Tryz.prog 62 #[.slice a7 n7 c7, .int .i64 x3]W λe w'=>e= .returned(.bool ob)/\Below W.heap.size W w'):
  Calls Tryz.prog 48 #[.agg #[.int .i64 12, .int .i64 x1, .int .i64 3, .int .i64 x3, .int .i64 x4, .int .i64 x5, .slice a6 n6 c6, .slice a7 n7 c7, .slice a8 n8 c8, .slice a9 n9 c9, .slice aA nA cA, .slice aB nB cB]]w λe w'=>Ak.Told(hb=true/\(0<=x1/\x1<24)/\2<=n7/\ob=true/\(0<=x3/\x3<(n7:Int))/\True/\True/\P/\n8=0)e/\Below w.heap.size w w':=by
 obtain⟨Q,hQ⟩: ∃Q:Prop,(hb=true/\(0<=x1/\x1<24)/\2<=n7/\ob=true/\(0<=x3/\x3<(n7:Int))/\True/\True/\P/\n8=0)=Q:=⟨_,rfl⟩;rw [hQ];have HQ:Hid(Q↔hb=true/\(0<=x1/\x1<24)/\2<=n7/\ob=true/\(0<=x3/\x3<(n7:Int))/\True/\True/\P/\n8=0):=by rw [<-hQ];exact Iff.rfl
 have CH:Hid _:=CH0;have CA:Hid _:=CA0;have CC:Hid _:=CC0;clear CC0;obtain⟨w1,hw1⟩: ∃x,w.alloc(.cells #[.int .i64 12, .int .i64 x1, .int .i64 3, .int .i64 x3, .int .i64 x4, .int .i64 x5, .slice a6 n6 c6, .slice a7 n7 c7, .slice a8 n8 c8, .slice a9 n9 c9, .slice aA nA cA, .slice aB nB cB]32)=x:=⟨_,rfl⟩;have A1:Below w.heap.size w w1:=by rw [<-hw1];exact(Below.refl _ w).alloc(Nat.le_refl _)_
 have G1:w1.heap[w.heap.size]? =some(.cells #[.int .i64 12, .int .i64 x1, .int .i64 3, .int .i64 x3, .int .i64 x4, .int .i64 x5, .slice a6 n6 c6, .slice a7 n7 c7, .slice a8 n8 c8, .slice a9 n9 c9, .slice aA nA cA, .slice aB nB cB]32(0,0)):=by rw [<-hw1];exact heap_alloc_new w _
 have ca:w1.cell? ⟨w.heap.size,0,none⟩=some(.int .i64 12)/\w1.cell? ⟨w.heap.size,1,none⟩=some(.int .i64 x1)/\w1.cell? ⟨w.heap.size,2,none⟩=some(.int .i64 3)/\w1.cell? ⟨w.heap.size,3,none⟩=some(.int .i64 x3)/\w1.cell? ⟨w.heap.size,4,none⟩=some(.int .i64 x4)/\w1.cell? ⟨w.heap.size,5,none⟩=some(.int .i64 x5)/\w1.cell? ⟨w.heap.size,6,none⟩=some(.slice a6 n6 c6)/\w1.cell? ⟨w.heap.size,7,none⟩=some(.slice a7 n7 c7)/\w1.cell? ⟨w.heap.size,8,none⟩=some(.slice a8 n8 c8)/\w1.cell? ⟨w.heap.size,9,none⟩=some(.slice a9 n9 c9)/\w1.cell? ⟨w.heap.size,10,none⟩=some(.slice aA nA cA)/\w1.cell? ⟨w.heap.size,11,none⟩=some(.slice aB nB cB):=by simp [World.cell?,G1]
 obtain⟨m0,m1,m2,m3,m4,m5,m6,m7,m8,m9,m10,m11⟩:=ca;have H1:Hid(w.alloc(.cells #[.int .i64 12, .int .i64 x1, .int .i64 3, .int .i64 x3, .int .i64 x4, .int .i64 x5, .slice a6 n6 c6, .slice a7 n7 c7, .slice a8 n8 c8, .slice a9 n9 c9, .slice aA nA cA, .slice aB nB cB]32)=w1):=hw1;have HA:Hid(Below w.heap.size w w1/\w1.heap[w.heap.size]? =some(.cells #[.int .i64 12, .int .i64 x1, .int .i64 3, .int .i64 x3, .int .i64 x4, .int .i64 x5, .slice a6 n6 c6, .slice a7 n7 c7, .slice a8 n8 c8, .slice a9 n9 c9, .slice aA nA cA, .slice aB nB cB]32(0,0))):=⟨A1,G1⟩;clear hw1 A1 G1 CH0 CA0 hQ
 go_enter Tryz.func48,Tryz.ntmps48
 go_upto_region 1 with fail
 rw [H1.out]
 go_wp2_with fail
 refine Calls.mono(CH.out _ HA.out.1) ?_;rintro e W2⟨rfl,hb2⟩;clear H1 CH m0 m1 m2 m3 m4 m5 m6 m7 m8 m9 m10 m11
 go_upto_region 3 with fail
 obtain⟨W3,hW3⟩: ∃z,W2.alloc(.cells #[.bool hb]4)=z:=⟨_,rfl⟩;have hx2:W2.heap[w.heap.size]? =some(.cells #[.int .i64 12, .int .i64 x1, .int .i64 3, .int .i64 x3, .int .i64 x4, .int .i64 x5, .slice a6 n6 c6, .slice a7 n7 c7, .slice a8 n8 c8, .slice a9 n9 c9, .slice aA nA cA, .slice aB nB cB]32(0,0)):=(hb2.block _(Array.getElem?_eq_some_iff.1 HA.out.2).1).trans HA.out.2;have hl2:=(Array.getElem?_eq_some_iff.1 hx2).1
 have FW3:Hid(Ak.Fm w w.heap.size W2.heap.size #[.int .i64 12, .int .i64 x1, .int .i64 3, .int .i64 x3, .int .i64 x4, .int .i64 x5, .slice a6 n6 c6, .slice a7 n7 c7, .slice a8 n8 c8, .slice a9 n9 c9, .slice aA nA cA, .slice aB nB cB]hb W3):=by
  have b3:Below W2.heap.size W2 W3:=by rw [<-hW3];exact(Below.refl _ W2).alloc(Nat.le_refl _)_
  have b2:Below w.heap.size w W2:=HA.out.1.trans(hb2.mono HA.out.1.size);exact⟨(b3.block _ hl2).trans hx2,by rw [<-hW3];exact heap_alloc_new W2 _,by omega,Nat.le_refl _,b2.size,b2.trans(b3.mono b2.size)⟩
 rw [hW3];obtain⟨rb,hrb⟩: ∃z,W2.heap.size=z:=⟨_,rfl⟩;rw [hrb]at FW3⊢;clear hW3 hx2 hl2 hb2 hrb HA;have k0:W3.cell? ⟨w.heap.size,0,none⟩=some(.int .i64 12):=by simp [World.cell?,FW3.out.box]
 have CN:Hid _:=Tryz.hasNode_any 12 W3
 go_wp2_with fail
 refine Calls.mono CN.out ?_;rintro e W4⟨rfl,hw4⟩;obtain rfl:=hw4.symm;clear CN;have ehn:Ac.hasNodeB 12=true:=rfl;rw [ehn];clear ehn;have kx:W3.cell? ⟨w.heap.size,1,none⟩=some(.int .i64 x1):=FW3.out.cell 1
 go_wp2_with fail
 refine Calls.mono(Tryz.atake_any w.heap.size 1 rb x1 24 hb W3 kx(FW3.out.fx 1)FW3.out.cr FW3.out.fr FW3.out.ne) ?_;rintro e W46⟨rfl,hw2⟩;obtain⟨r1,hr1⟩: ∃z,(hb&&(decide(0<=x1)&&decide(x1<24)))=z:=⟨_,rfl⟩;have FW46:Hid(Ak.Fm w w.heap.size rb #[.int .i64 12, .int .i64 0, .int .i64 3, .int .i64 x3, .int .i64 x4, .int .i64 x5, .slice a6 n6 c6, .slice a7 n7 c7, .slice a8 n8 c8, .slice a9 n9 c9, .slice aA nA cA, .slice aB nB cB]r1 W46):=by show Ak.Fm _ _ _ _ _ _;rw [hw2,hr1];exact(FW3.out.setR r1).setX 1(.int .i64 0)
 have Hr1:Hid(r1=true↔hb=true/\(0<=x1/\x1<24)):=by show _↔_;rw [<-hr1];simp
 clear hw2 hr1 kx;have kk:W46.cell? ⟨w.heap.size,0,none⟩=some(.int .i64 12):=FW46.out.cell 0;have kk2:W46.cell? ⟨w.heap.size,2,none⟩=some(.int .i64 3):=FW46.out.cell 2;obtain⟨r2,hr2⟩: ∃z,(r1&&(decide(2<=n7)&&ob))=z:=⟨_,rfl⟩;have Hr2:Hid(r2=true↔r1=true/\2<=n7/\ob=true):=by show _↔_;rw [<-hr2];simp
 go_upto_region 35 with fail
 have kr:=FW46.out.cr;have fr:=FW46.out.fr;have k3:W46.cell? ⟨w.heap.size,3,none⟩=some(.int .i64 x3):=FW46.out.cell 3;have k7:W46.cell? ⟨w.heap.size,7,none⟩=some(.slice a7 n7 c7):=FW46.out.cell 7
 go_cut []from 43 to 179(λwx=>Hid(Ak.Fm w w.heap.size rb #[.int .i64 12, .int .i64 0, .int .i64 3, .int .i64 x3, .int .i64 x4, .int .i64 x5, .slice a6 n6 c6, .slice a7 n7 c7, .slice a8 n8 c8, .slice a9 n9 c9, .slice aA nA cA, .slice aB nB cB]r2 wx))
 case first=>
  cases r1 with
  |false=>
   go_wp2_with fail
   go_meet;exact by rw [<-hr2];exact FW46.out.setR _
  |true=>
  by_cases q: ¬(2<=n7)
  ·have dq:decide((2:Int)<=n7)=false:=decide_eq_false(by omega)
   have dq2: ¬(2:Int)<=n7:=by omega
   have e:r2=false:=by rw [<-hr2];simp [q]
   clear q hr2
   go_wp2_with fail
   go_meet;exact by rw [e];exact FW46.out.setR _
  replace q:=Decidable.not_not.1 q;have dq:decide((2:Int)<=n7)=true:=decide_eq_true(by omega);have dq2:(2:Int)<=n7:=by omega
  have e:r2=ob:=by rw [<-hr2];simp [q]
  clear q hr2
  go_wp2_with fail
  refine Calls.mono(CC.out _ FW46.out.bel) ?_;rintro e' W48⟨rfl,hbe⟩;have FW48:Hid(Ak.Fm w w.heap.size rb #[.int .i64 12, .int .i64 0, .int .i64 3, .int .i64 x3, .int .i64 x4, .int .i64 x5, .slice a6 n6 c6, .slice a7 n7 c7, .slice a8 n8 c8, .slice a9 n9 c9, .slice aA nA cA, .slice aB nB cB]true W48):=FW46.out.below hbe;clear hbe kr fr k3 k7;have kr:=FW48.out.cr;have fr:=FW48.out.fr
  go_wp2_with fail
  go_meet;exact by rw [e];exact FW48.out.setR _
 case rest=>
 rename World=>W47;have FW47:Hid _:=hcut;clear hcut kr fr k3 k7 hr2;have kx:W47.cell? ⟨w.heap.size,3,none⟩=some(.int .i64 x3):=FW47.out.cell 3;have k7:W47.cell? ⟨w.heap.size,7,none⟩=some(.slice a7 n7 c7):=FW47.out.cell 7
 go_wp2_with fail
 refine Calls.mono(Tryz.atake_any w.heap.size 3 rb x3(n7:Int)r2 W47 kx(FW47.out.fx 3)FW47.out.cr FW47.out.fr FW47.out.ne) ?_;rintro e W49⟨rfl,hw2⟩;obtain⟨r3,hr3⟩: ∃z,(r2&&(decide(0<=x3)&&decide(x3<(n7:Int))))=z:=⟨_,rfl⟩;have FW49:Hid(Ak.Fm w w.heap.size rb #[.int .i64 12, .int .i64 0, .int .i64 3, .int .i64 0, .int .i64 x4, .int .i64 x5, .slice a6 n6 c6, .slice a7 n7 c7, .slice a8 n8 c8, .slice a9 n9 c9, .slice aA nA cA, .slice aB nB cB]r3 W49):=by show Ak.Fm _ _ _ _ _ _;rw [hw2,hr3];exact(FW47.out.setR r3).setX 3(.int .i64 0)
 have Hr3:Hid(r3=true↔r2=true/\(0<=x3/\x3<(n7:Int))):=by show _↔_;rw [<-hr3];simp
 clear hw2 hr3 kx k7;have kz7:W49.cell? ⟨w.heap.size,7,none⟩=some(.slice a7 n7 c7):=FW49.out.cell 7;have fz7:=FW49.out.fx 7
 go_upto_region 38 with fail
 obtain⟨W50,hW50⟩: ∃z,(W49.setCell⟨w.heap.size,7,none⟩(.slice none 0 0))=z:=⟨_,rfl⟩;rw [hW50];have FW50:Hid(Ak.Fm w w.heap.size rb #[.int .i64 12, .int .i64 0, .int .i64 3, .int .i64 0, .int .i64 x4, .int .i64 x5, .slice a6 n6 c6, .slice none 0 0, .slice a8 n8 c8, .slice a9 n9 c9, .slice aA nA cA, .slice aB nB cB]r3 W50):=by rw [<-hW50];exact(FW49.out.setX 7(.slice none 0 0))
 clear hW50 kz7 fz7;obtain⟨r4,hr4⟩: ∃z,(r3&&(true))=z:=⟨_,rfl⟩;have Hr4:Hid(r4=true↔r3=true/\True):=by show _↔_;rw [<-hr4];simp
 have kr:=FW50.out.cr;have fr:=FW50.out.fr;have k2:W50.cell? ⟨w.heap.size,2,none⟩=some(.int .i64 3):=FW50.out.cell 2
 go_cut []from 43 to 179(λwx=>Hid(Ak.Fm w w.heap.size rb #[.int .i64 12, .int .i64 0, .int .i64 3, .int .i64 0, .int .i64 x4, .int .i64 x5, .slice a6 n6 c6, .slice none 0 0, .slice a8 n8 c8, .slice a9 n9 c9, .slice aA nA cA, .slice aB nB cB]r4 wx))
 case first=>
  cases r3 with
  |false=>
   go_wp2_with fail
   go_meet;exact by rw [<-hr4];exact FW50.out.setR _
  |true=>
  have e:r4=true:=by rw [<-hr4];simp
  clear hr4
  go_wp2_with fail
  go_meet;exact by rw [e];exact FW50.out.setR _
 case rest=>
 rename World=>W51;have FW51:Hid _:=hcut;clear hcut kr fr k2 hr4;have kx:W51.cell? ⟨w.heap.size,2,none⟩=some(.int .i64 3):=FW51.out.cell 2
 go_wp2_with fail
 refine Calls.mono(Tryz.atake_any w.heap.size 2 rb 3 5 r4 W51 kx(FW51.out.fx 2)FW51.out.cr FW51.out.fr FW51.out.ne) ?_;rintro e W52⟨rfl,hw2⟩;obtain⟨r5,hr5⟩: ∃z,(r4&&(decide(0<=(3:Int))&&decide((3:Int)<5)))=z:=⟨_,rfl⟩;have FW52:Hid(Ak.Fm w w.heap.size rb #[.int .i64 12, .int .i64 0, .int .i64 0, .int .i64 0, .int .i64 x4, .int .i64 x5, .slice a6 n6 c6, .slice none 0 0, .slice a8 n8 c8, .slice a9 n9 c9, .slice aA nA cA, .slice aB nB cB]r5 W52):=by show Ak.Fm _ _ _ _ _ _;rw [hw2,hr5];exact(FW51.out.setR r5).setX 2(.int .i64 0)
 have Hr5:Hid(r5=true↔r4=true/\True):=by show _↔_;rw [<-hr5];simp
 clear hw2 hr5 kx;have HRA:Hid(r5=true↔hb=true/\(0<=x1/\x1<24)/\2<=n7/\ob=true/\(0<=x3/\x3<(n7:Int))/\True/\True):=by show _↔_;rw [Hr5.out,Hr4.out,Hr3.out,Hr2.out,Hr1.out];simp only [and_assoc]
 have kr:=FW52.out.cr
 cases r5 with
 |false=>
  have HN:Hid(¬Q):=λh=>absurd(HRA.out.2⟨(HQ.out.1 h).1,(HQ.out.1 h).2.1,(HQ.out.1 h).2.2.1,(HQ.out.1 h).2.2.2.1,(HQ.out.1 h).2.2.2.2.1,(HQ.out.1 h).2.2.2.2.2.1,(HQ.out.1 h).2.2.2.2.2.2.1⟩)(by decide);go_wp2;go_ret;exact⟨Ak.Told.no HN.out,FW52.out.bel⟩
 |true=>
 have hh:=HRA.out.1 rfl;have HH:Hid _:=hh;clear hh;have k0:W52.cell? ⟨w.heap.size,0,none⟩=some(.int .i64 12):=FW52.out.cell 0;have k1:W52.cell? ⟨w.heap.size,1,none⟩=some(.int .i64 0):=FW52.out.cell 1;have k2:W52.cell? ⟨w.heap.size,2,none⟩=some(.int .i64 0):=FW52.out.cell 2;have k3:W52.cell? ⟨w.heap.size,3,none⟩=some(.int .i64 0):=FW52.out.cell 3;have k4:W52.cell? ⟨w.heap.size,4,none⟩=some(.int .i64 x4):=FW52.out.cell 4;have k5:W52.cell? ⟨w.heap.size,5,none⟩=some(.int .i64 x5):=FW52.out.cell 5;have k6:W52.cell? ⟨w.heap.size,6,none⟩=some(.slice a6 n6 c6):=FW52.out.cell 6;have k7:W52.cell? ⟨w.heap.size,7,none⟩=some(.slice none 0 0):=FW52.out.cell 7;have k8:W52.cell? ⟨w.heap.size,8,none⟩=some(.slice a8 n8 c8):=FW52.out.cell 8;have k9:W52.cell? ⟨w.heap.size,9,none⟩=some(.slice a9 n9 c9):=FW52.out.cell 9;have k10:W52.cell? ⟨w.heap.size,10,none⟩=some(.slice aA nA cA):=FW52.out.cell 10;have k11:W52.cell? ⟨w.heap.size,11,none⟩=some(.slice aB nB cB):=FW52.out.cell 11
 go_wp2_with fail
 clear kr k0 k1 k2 k3 k4 k5 k6 k7 k8 k9 k10 k11;refine Calls.mono(CA.out _ FW52.out.bel) ?_;rintro e W53⟨⟨r,rfl,hr⟩,hbe⟩;have FW53:Hid(Ak.Fm w w.heap.size rb #[.int .i64 12, .int .i64 0, .int .i64 0, .int .i64 0, .int .i64 x4, .int .i64 x5, .slice a6 n6 c6, .slice none 0 0, .slice a8 n8 c8, .slice a9 n9 c9, .slice aA nA cA, .slice aB nB cB]true W53/\(r=true↔P)):=⟨FW52.out.below hbe,hr⟩;clear hbe hr
 cases r with
 |false=>
  have HN:Hid(¬Q):=λh=>absurd(FW53.out.2.2(HQ.out.1 h).2.2.2.2.2.2.2.1)(by decide);go_wp2;go_ret;exact⟨Ak.Told.no HN.out,FW53.out.1.bel⟩
 |true=>
 have HP:Hid P:=FW53.out.2.1(by first|rfl|trivial);have k8:W53.cell? ⟨w.heap.size,8,none⟩=some(.slice a8 n8 c8):=FW53.out.1.cell 8
 by_cases qz:n8=0
 ·have dz:((n8:Int)==0)=true:=by simp;omega
  have HZ:Hid(n8=0):=qz;clear qz;go_wp2;go_ret;exact⟨Ak.Told.yes(HQ.out.2⟨HH.out.1,HH.out.2.1,HH.out.2.2.1,HH.out.2.2.2.1,HH.out.2.2.2.2.1,HH.out.2.2.2.2.2.1,HH.out.2.2.2.2.2.2,HP.out,HZ.out⟩),FW53.out.1.bel⟩
 have dz:((n8:Int)==0)=false:=by simp;omega
 have HN:Hid(¬Q):=λh=>qz(HQ.out.1 h).2.2.2.2.2.2.2.2;clear qz;go_wp2;go_ret;exact⟨Ak.Told.no HN.out,FW53.out.1.bel⟩
theorem Tryz.fm_13(x1 x2 x3 x4 x5:Int)(a6 a7 a8 a9 aA aB:Option Addr)(n6 c6 n7 c7 n8 c8 n9 c9 nA cA nB cB:Nat)(w:World)(hb:Bool)(P:Prop)(ob:Bool)(_hn7:n7<=1000)(_hn8:n8<=1000)(CH0: ∀W,Below w.heap.size w W->Calls Tryz.prog 58 #[.agg #[.int .i64 13, .int .i64 x1, .int .i64 x2, .int .i64 x3, .int .i64 x4, .int .i64 x5, .slice a6 n6 c6, .slice a7 n7 c7, .slice a8 n8 c8, .slice a9 n9 c9, .slice aA nA cA, .slice aB nB cB]]W λe w'=>e= .returned(.bool hb)/\Below W.heap.size W w')(CA0: ∀W,Below w.heap.size w W->Calls Tryz.prog 65 #[.agg #[.int .i64 13, .int .i64 x1, .int .i64 x2, .int .i64 x3, .int .i64 x4, .int .i64 x5, .slice a6 n6 c6, .slice a7 n7 c7, .slice none 0 0, .slice none 0 0, .slice aA nA cA, .slice aB nB cB], .agg #[.int .i64 13, .int .i64 0, .int .i64 0, .int .i64 0, .int .i64 0, .int .i64 0, .slice none 0 0, .slice none 0 0, .slice none 0 0, .slice none 0 0, .slice none 0 0, .slice none 0 0]]W λe w'=>Ak.Told P e/\Below W.heap.size W w')(CL0: ∀W,Below w.heap.size w W->Calls Tryz.prog 63 #[.agg #[.int .i64 13, .int .i64 x1, .int .i64 x2, .int .i64 x3, .int .i64 x4, .int .i64 x5, .slice a6 n6 c6, .slice a7 n7 c7, .slice a8 n8 c8, .slice a9 n9 c9, .slice aA nA cA, .slice aB nB cB]]W λe w'=>e= .returned(.bool ob)/\Below W.heap.size W w'):
  Calls Tryz.prog 48 #[.agg #[.int .i64 13, .int .i64 x1, .int .i64 x2, .int .i64 x3, .int .i64 x4, .int .i64 x5, .slice a6 n6 c6, .slice a7 n7 c7, .slice a8 n8 c8, .slice a9 n9 c9, .slice aA nA cA, .slice aB nB cB]]w λe w'=>Ak.Told(hb=true/\ob=true/\P/\True)e/\Below w.heap.size w w':=by
 obtain⟨Q,hQ⟩: ∃Q:Prop,(hb=true/\ob=true/\P/\True)=Q:=⟨_,rfl⟩;rw [hQ];have HQ:Hid(Q↔hb=true/\ob=true/\P/\True):=by rw [<-hQ];exact Iff.rfl
 have CH:Hid _:=CH0;have CA:Hid _:=CA0;have CL:Hid _:=CL0;clear CL0;obtain⟨w1,hw1⟩: ∃x,w.alloc(.cells #[.int .i64 13, .int .i64 x1, .int .i64 x2, .int .i64 x3, .int .i64 x4, .int .i64 x5, .slice a6 n6 c6, .slice a7 n7 c7, .slice a8 n8 c8, .slice a9 n9 c9, .slice aA nA cA, .slice aB nB cB]32)=x:=⟨_,rfl⟩;have A1:Below w.heap.size w w1:=by rw [<-hw1];exact(Below.refl _ w).alloc(Nat.le_refl _)_
 have G1:w1.heap[w.heap.size]? =some(.cells #[.int .i64 13, .int .i64 x1, .int .i64 x2, .int .i64 x3, .int .i64 x4, .int .i64 x5, .slice a6 n6 c6, .slice a7 n7 c7, .slice a8 n8 c8, .slice a9 n9 c9, .slice aA nA cA, .slice aB nB cB]32(0,0)):=by rw [<-hw1];exact heap_alloc_new w _
 have ca:w1.cell? ⟨w.heap.size,0,none⟩=some(.int .i64 13)/\w1.cell? ⟨w.heap.size,1,none⟩=some(.int .i64 x1)/\w1.cell? ⟨w.heap.size,2,none⟩=some(.int .i64 x2)/\w1.cell? ⟨w.heap.size,3,none⟩=some(.int .i64 x3)/\w1.cell? ⟨w.heap.size,4,none⟩=some(.int .i64 x4)/\w1.cell? ⟨w.heap.size,5,none⟩=some(.int .i64 x5)/\w1.cell? ⟨w.heap.size,6,none⟩=some(.slice a6 n6 c6)/\w1.cell? ⟨w.heap.size,7,none⟩=some(.slice a7 n7 c7)/\w1.cell? ⟨w.heap.size,8,none⟩=some(.slice a8 n8 c8)/\w1.cell? ⟨w.heap.size,9,none⟩=some(.slice a9 n9 c9)/\w1.cell? ⟨w.heap.size,10,none⟩=some(.slice aA nA cA)/\w1.cell? ⟨w.heap.size,11,none⟩=some(.slice aB nB cB):=by simp [World.cell?,G1]
 obtain⟨m0,m1,m2,m3,m4,m5,m6,m7,m8,m9,m10,m11⟩:=ca;have H1:Hid(w.alloc(.cells #[.int .i64 13, .int .i64 x1, .int .i64 x2, .int .i64 x3, .int .i64 x4, .int .i64 x5, .slice a6 n6 c6, .slice a7 n7 c7, .slice a8 n8 c8, .slice a9 n9 c9, .slice aA nA cA, .slice aB nB cB]32)=w1):=hw1;have HA:Hid(Below w.heap.size w w1/\w1.heap[w.heap.size]? =some(.cells #[.int .i64 13, .int .i64 x1, .int .i64 x2, .int .i64 x3, .int .i64 x4, .int .i64 x5, .slice a6 n6 c6, .slice a7 n7 c7, .slice a8 n8 c8, .slice a9 n9 c9, .slice aA nA cA, .slice aB nB cB]32(0,0))):=⟨A1,G1⟩;clear hw1 A1 G1 CH0 CA0 hQ
 go_enter Tryz.func48,Tryz.ntmps48
 go_upto_region 1 with fail
 rw [H1.out]
 go_wp2_with fail
 refine Calls.mono(CH.out _ HA.out.1) ?_;rintro e W2⟨rfl,hb2⟩;clear H1 CH m0 m1 m2 m3 m4 m5 m6 m7 m8 m9 m10 m11
 go_upto_region 3 with fail
 obtain⟨W3,hW3⟩: ∃z,W2.alloc(.cells #[.bool hb]4)=z:=⟨_,rfl⟩;have hx2:W2.heap[w.heap.size]? =some(.cells #[.int .i64 13, .int .i64 x1, .int .i64 x2, .int .i64 x3, .int .i64 x4, .int .i64 x5, .slice a6 n6 c6, .slice a7 n7 c7, .slice a8 n8 c8, .slice a9 n9 c9, .slice aA nA cA, .slice aB nB cB]32(0,0)):=(hb2.block _(Array.getElem?_eq_some_iff.1 HA.out.2).1).trans HA.out.2;have hl2:=(Array.getElem?_eq_some_iff.1 hx2).1
 have FW3:Hid(Ak.Fm w w.heap.size W2.heap.size #[.int .i64 13, .int .i64 x1, .int .i64 x2, .int .i64 x3, .int .i64 x4, .int .i64 x5, .slice a6 n6 c6, .slice a7 n7 c7, .slice a8 n8 c8, .slice a9 n9 c9, .slice aA nA cA, .slice aB nB cB]hb W3):=by
  have b3:Below W2.heap.size W2 W3:=by rw [<-hW3];exact(Below.refl _ W2).alloc(Nat.le_refl _)_
  have b2:Below w.heap.size w W2:=HA.out.1.trans(hb2.mono HA.out.1.size);exact⟨(b3.block _ hl2).trans hx2,by rw [<-hW3];exact heap_alloc_new W2 _,by omega,Nat.le_refl _,b2.size,b2.trans(b3.mono b2.size)⟩
 rw [hW3];obtain⟨rb,hrb⟩: ∃z,W2.heap.size=z:=⟨_,rfl⟩;rw [hrb]at FW3⊢;clear hW3 hx2 hl2 hb2 hrb HA;have k0:W3.cell? ⟨w.heap.size,0,none⟩=some(.int .i64 13):=by simp [World.cell?,FW3.out.box]
 have CN:Hid _:=Tryz.hasNode_any 13 W3
 go_wp2_with fail
 refine Calls.mono CN.out ?_;rintro e W4⟨rfl,hw4⟩;obtain rfl:=hw4.symm;clear CN;have ehn:Ac.hasNodeB 13=false:=rfl;rw [ehn];clear ehn;obtain⟨r1,hr1⟩: ∃z,(hb&&(ob))=z:=⟨_,rfl⟩;have Hr1:Hid(r1=true↔hb=true/\ob=true):=by show _↔_;rw [<-hr1];simp
 go_upto_region 40 with fail
 have kr:=FW3.out.cr;have fr:=FW3.out.fr;have k0:W3.cell? ⟨w.heap.size,0,none⟩=some(.int .i64 13):=FW3.out.cell 0;have k1:W3.cell? ⟨w.heap.size,1,none⟩=some(.int .i64 x1):=FW3.out.cell 1;have k2:W3.cell? ⟨w.heap.size,2,none⟩=some(.int .i64 x2):=FW3.out.cell 2;have k3:W3.cell? ⟨w.heap.size,3,none⟩=some(.int .i64 x3):=FW3.out.cell 3;have k4:W3.cell? ⟨w.heap.size,4,none⟩=some(.int .i64 x4):=FW3.out.cell 4;have k5:W3.cell? ⟨w.heap.size,5,none⟩=some(.int .i64 x5):=FW3.out.cell 5;have k6:W3.cell? ⟨w.heap.size,6,none⟩=some(.slice a6 n6 c6):=FW3.out.cell 6;have k7:W3.cell? ⟨w.heap.size,7,none⟩=some(.slice a7 n7 c7):=FW3.out.cell 7;have k8:W3.cell? ⟨w.heap.size,8,none⟩=some(.slice a8 n8 c8):=FW3.out.cell 8;have k9:W3.cell? ⟨w.heap.size,9,none⟩=some(.slice a9 n9 c9):=FW3.out.cell 9;have k10:W3.cell? ⟨w.heap.size,10,none⟩=some(.slice aA nA cA):=FW3.out.cell 10;have k11:W3.cell? ⟨w.heap.size,11,none⟩=some(.slice aB nB cB):=FW3.out.cell 11
 go_cut []from 43 to 179(λwx=>Hid(Ak.Fm w w.heap.size rb #[.int .i64 13, .int .i64 x1, .int .i64 x2, .int .i64 x3, .int .i64 x4, .int .i64 x5, .slice a6 n6 c6, .slice a7 n7 c7, .slice a8 n8 c8, .slice a9 n9 c9, .slice aA nA cA, .slice aB nB cB]r1 wx))
 case first=>
  cases hb with
  |false=>
   go_wp2_with fail
   go_meet;exact by rw [<-hr1];exact FW3.out.setR _
  |true=>
  have e:r1=ob:=by rw [<-hr1];simp
  clear hr1
  go_wp2_with fail
  refine Calls.mono(CL.out _ FW3.out.bel) ?_;rintro e' W21⟨rfl,hbe⟩;have FW21:Hid(Ak.Fm w w.heap.size rb #[.int .i64 13, .int .i64 x1, .int .i64 x2, .int .i64 x3, .int .i64 x4, .int .i64 x5, .slice a6 n6 c6, .slice a7 n7 c7, .slice a8 n8 c8, .slice a9 n9 c9, .slice aA nA cA, .slice aB nB cB]true W21):=FW3.out.below hbe;clear hbe kr fr k0 k1 k2 k3 k4 k5 k6 k7 k8 k9 k10 k11;have kr:=FW21.out.cr;have fr:=FW21.out.fr
  go_wp2_with fail
  go_meet;exact by rw [e];exact FW21.out.setR _
 case rest=>
 rename World=>W20;have FW20:Hid _:=hcut;clear hcut kr fr k0 k1 k2 k3 k4 k5 k6 k7 k8 k9 k10 k11 hr1;have kz8:W20.cell? ⟨w.heap.size,8,none⟩=some(.slice a8 n8 c8):=FW20.out.cell 8;have fz8:=FW20.out.fx 8;have kz9:W20.cell? ⟨w.heap.size,9,none⟩=some(.slice a9 n9 c9):=FW20.out.cell 9;have fz9:=FW20.out.fx 9
 go_upto_region 46 with fail
 obtain⟨W22,hW22⟩: ∃z,((W20.setCell⟨w.heap.size,8,none⟩(.slice none 0 0)).setCell⟨w.heap.size,9,none⟩(.slice none 0 0))=z:=⟨_,rfl⟩;rw [hW22];have FW22:Hid(Ak.Fm w w.heap.size rb #[.int .i64 13, .int .i64 x1, .int .i64 x2, .int .i64 x3, .int .i64 x4, .int .i64 x5, .slice a6 n6 c6, .slice a7 n7 c7, .slice none 0 0, .slice none 0 0, .slice aA nA cA, .slice aB nB cB]r1 W22):=by rw [<-hW22];exact((FW20.out.setX 8(.slice none 0 0)).setX 9(.slice none 0 0))
 clear hW22 kz8 fz8 kz9 fz9;have HRA:Hid(r1=true↔hb=true/\ob=true):=Hr1.out;have kr:=FW22.out.cr
 cases r1 with
 |false=>
  have HN:Hid(¬Q):=λh=>absurd(HRA.out.2⟨(HQ.out.1 h).1,(HQ.out.1 h).2.1⟩)(by decide);go_wp2;go_ret;exact⟨Ak.Told.no HN.out,FW22.out.bel⟩
 |true=>
 have hh:=HRA.out.1 rfl;have HH:Hid _:=hh;clear hh;have k0:W22.cell? ⟨w.heap.size,0,none⟩=some(.int .i64 13):=FW22.out.cell 0;have k1:W22.cell? ⟨w.heap.size,1,none⟩=some(.int .i64 x1):=FW22.out.cell 1;have k2:W22.cell? ⟨w.heap.size,2,none⟩=some(.int .i64 x2):=FW22.out.cell 2;have k3:W22.cell? ⟨w.heap.size,3,none⟩=some(.int .i64 x3):=FW22.out.cell 3;have k4:W22.cell? ⟨w.heap.size,4,none⟩=some(.int .i64 x4):=FW22.out.cell 4;have k5:W22.cell? ⟨w.heap.size,5,none⟩=some(.int .i64 x5):=FW22.out.cell 5;have k6:W22.cell? ⟨w.heap.size,6,none⟩=some(.slice a6 n6 c6):=FW22.out.cell 6;have k7:W22.cell? ⟨w.heap.size,7,none⟩=some(.slice a7 n7 c7):=FW22.out.cell 7;have k8:W22.cell? ⟨w.heap.size,8,none⟩=some(.slice none 0 0):=FW22.out.cell 8;have k9:W22.cell? ⟨w.heap.size,9,none⟩=some(.slice none 0 0):=FW22.out.cell 9;have k10:W22.cell? ⟨w.heap.size,10,none⟩=some(.slice aA nA cA):=FW22.out.cell 10;have k11:W22.cell? ⟨w.heap.size,11,none⟩=some(.slice aB nB cB):=FW22.out.cell 11
 go_wp2_with fail
 clear kr k0 k1 k2 k3 k4 k5 k6 k7 k8 k9 k10 k11;refine Calls.mono(CA.out _ FW22.out.bel) ?_;rintro e W23⟨⟨r,rfl,hr⟩,hbe⟩;have FW23:Hid(Ak.Fm w w.heap.size rb #[.int .i64 13, .int .i64 x1, .int .i64 x2, .int .i64 x3, .int .i64 x4, .int .i64 x5, .slice a6 n6 c6, .slice a7 n7 c7, .slice none 0 0, .slice none 0 0, .slice aA nA cA, .slice aB nB cB]true W23/\(r=true↔P)):=⟨FW22.out.below hbe,hr⟩;clear hbe hr
 cases r with
 |false=>
  have HN:Hid(¬Q):=λh=>absurd(FW23.out.2.2(HQ.out.1 h).2.2.1)(by decide);go_wp2;go_ret;exact⟨Ak.Told.no HN.out,FW23.out.1.bel⟩
 |true=>
 have HP:Hid P:=FW23.out.2.1(by first|rfl|trivial);have k8:W23.cell? ⟨w.heap.size,8,none⟩=some(.slice none 0 0):=FW23.out.1.cell 8;go_wp2;go_ret;exact⟨Ak.Told.yes(HQ.out.2⟨HH.out.1,HH.out.2,HP.out,trivial⟩),FW23.out.1.bel⟩
theorem Tryz.fm_14(x1 x2 x3 x4 x5:Int)(a6 a7 a8 a9 aA aB:Option Addr)(n6 c6 n7 c7 n8 c8 n9 c9 nA cA nB cB:Nat)(w:World)(hb:Bool)(P:Prop)(ru rv:Nat)(_hn7:n7<=1000)(_hn8:n8<=1000)(CH0: ∀W,Below w.heap.size w W->Calls Tryz.prog 58 #[.agg #[.int .i64 14, .int .i64 x1, .int .i64 x2, .int .i64 x3, .int .i64 x4, .int .i64 x5, .slice a6 n6 c6, .slice a7 n7 c7, .slice a8 n8 c8, .slice a9 n9 c9, .slice aA nA cA, .slice aB nB cB]]W λe w'=>e= .returned(.bool hb)/\Below W.heap.size W w')(CA0: ∀W,Below w.heap.size w W->Calls Tryz.prog 65 #[.agg #[.int .i64 14, .int .i64 x1, .int .i64 x2, .int .i64 x3, .int .i64 x4, .int .i64 x5, .slice a6 n6 c6, .slice a7 n7 c7, .slice a8 n8 c8, .slice a9 n9 c9, .slice none 0 0, .slice none 0 0], .agg #[.int .i64 14, .int .i64 0, .int .i64 0, .int .i64 0, .int .i64 0, .int .i64 0, .slice none 0 0, .slice none 0 0, .slice none 0 0, .slice none 0 0, .slice none 0 0, .slice none 0 0]]W λe w'=>Ak.Told P e/\Below W.heap.size W w')(CR0: ∀W,Below w.heap.size w W->Calls Tryz.prog 64 #[.agg #[.slice aA nA cA, .slice aB nB cB]]W λe w'=>e= .returned(.tuple #[.int .i64(ru:Int), .int .i64(rv:Int)])/\Below W.heap.size W w'):
  Calls Tryz.prog 48 #[.agg #[.int .i64 14, .int .i64 x1, .int .i64 x2, .int .i64 x3, .int .i64 x4, .int .i64 x5, .slice a6 n6 c6, .slice a7 n7 c7, .slice a8 n8 c8, .slice a9 n9 c9, .slice aA nA cA, .slice aB nB cB]]w λe w'=>Ak.Told(hb=true/\ru=0/\P/\n8=0)e/\Below w.heap.size w w':=by
 obtain⟨Q,hQ⟩: ∃Q:Prop,(hb=true/\ru=0/\P/\n8=0)=Q:=⟨_,rfl⟩;rw [hQ];have HQ:Hid(Q↔hb=true/\ru=0/\P/\n8=0):=by rw [<-hQ];exact Iff.rfl
 have CH:Hid _:=CH0;have CA:Hid _:=CA0;have CR:Hid _:=CR0;clear CR0;obtain⟨w1,hw1⟩: ∃x,w.alloc(.cells #[.int .i64 14, .int .i64 x1, .int .i64 x2, .int .i64 x3, .int .i64 x4, .int .i64 x5, .slice a6 n6 c6, .slice a7 n7 c7, .slice a8 n8 c8, .slice a9 n9 c9, .slice aA nA cA, .slice aB nB cB]32)=x:=⟨_,rfl⟩;have A1:Below w.heap.size w w1:=by rw [<-hw1];exact(Below.refl _ w).alloc(Nat.le_refl _)_
 have G1:w1.heap[w.heap.size]? =some(.cells #[.int .i64 14, .int .i64 x1, .int .i64 x2, .int .i64 x3, .int .i64 x4, .int .i64 x5, .slice a6 n6 c6, .slice a7 n7 c7, .slice a8 n8 c8, .slice a9 n9 c9, .slice aA nA cA, .slice aB nB cB]32(0,0)):=by rw [<-hw1];exact heap_alloc_new w _
 have ca:w1.cell? ⟨w.heap.size,0,none⟩=some(.int .i64 14)/\w1.cell? ⟨w.heap.size,1,none⟩=some(.int .i64 x1)/\w1.cell? ⟨w.heap.size,2,none⟩=some(.int .i64 x2)/\w1.cell? ⟨w.heap.size,3,none⟩=some(.int .i64 x3)/\w1.cell? ⟨w.heap.size,4,none⟩=some(.int .i64 x4)/\w1.cell? ⟨w.heap.size,5,none⟩=some(.int .i64 x5)/\w1.cell? ⟨w.heap.size,6,none⟩=some(.slice a6 n6 c6)/\w1.cell? ⟨w.heap.size,7,none⟩=some(.slice a7 n7 c7)/\w1.cell? ⟨w.heap.size,8,none⟩=some(.slice a8 n8 c8)/\w1.cell? ⟨w.heap.size,9,none⟩=some(.slice a9 n9 c9)/\w1.cell? ⟨w.heap.size,10,none⟩=some(.slice aA nA cA)/\w1.cell? ⟨w.heap.size,11,none⟩=some(.slice aB nB cB):=by simp [World.cell?,G1]
 obtain⟨m0,m1,m2,m3,m4,m5,m6,m7,m8,m9,m10,m11⟩:=ca;have H1:Hid(w.alloc(.cells #[.int .i64 14, .int .i64 x1, .int .i64 x2, .int .i64 x3, .int .i64 x4, .int .i64 x5, .slice a6 n6 c6, .slice a7 n7 c7, .slice a8 n8 c8, .slice a9 n9 c9, .slice aA nA cA, .slice aB nB cB]32)=w1):=hw1;have HA:Hid(Below w.heap.size w w1/\w1.heap[w.heap.size]? =some(.cells #[.int .i64 14, .int .i64 x1, .int .i64 x2, .int .i64 x3, .int .i64 x4, .int .i64 x5, .slice a6 n6 c6, .slice a7 n7 c7, .slice a8 n8 c8, .slice a9 n9 c9, .slice aA nA cA, .slice aB nB cB]32(0,0))):=⟨A1,G1⟩;clear hw1 A1 G1 CH0 CA0 hQ
 go_enter Tryz.func48,Tryz.ntmps48
 go_upto_region 1 with fail
 rw [H1.out]
 go_wp2_with fail
 refine Calls.mono(CH.out _ HA.out.1) ?_;rintro e W2⟨rfl,hb2⟩;clear H1 CH m0 m1 m2 m3 m4 m5 m6 m7 m8 m9 m10 m11
 go_upto_region 3 with fail
 obtain⟨W3,hW3⟩: ∃z,W2.alloc(.cells #[.bool hb]4)=z:=⟨_,rfl⟩;have hx2:W2.heap[w.heap.size]? =some(.cells #[.int .i64 14, .int .i64 x1, .int .i64 x2, .int .i64 x3, .int .i64 x4, .int .i64 x5, .slice a6 n6 c6, .slice a7 n7 c7, .slice a8 n8 c8, .slice a9 n9 c9, .slice aA nA cA, .slice aB nB cB]32(0,0)):=(hb2.block _(Array.getElem?_eq_some_iff.1 HA.out.2).1).trans HA.out.2;have hl2:=(Array.getElem?_eq_some_iff.1 hx2).1
 have FW3:Hid(Ak.Fm w w.heap.size W2.heap.size #[.int .i64 14, .int .i64 x1, .int .i64 x2, .int .i64 x3, .int .i64 x4, .int .i64 x5, .slice a6 n6 c6, .slice a7 n7 c7, .slice a8 n8 c8, .slice a9 n9 c9, .slice aA nA cA, .slice aB nB cB]hb W3):=by
  have b3:Below W2.heap.size W2 W3:=by rw [<-hW3];exact(Below.refl _ W2).alloc(Nat.le_refl _)_
  have b2:Below w.heap.size w W2:=HA.out.1.trans(hb2.mono HA.out.1.size);exact⟨(b3.block _ hl2).trans hx2,by rw [<-hW3];exact heap_alloc_new W2 _,by omega,Nat.le_refl _,b2.size,b2.trans(b3.mono b2.size)⟩
 rw [hW3];obtain⟨rb,hrb⟩: ∃z,W2.heap.size=z:=⟨_,rfl⟩;rw [hrb]at FW3⊢;clear hW3 hx2 hl2 hb2 hrb HA;have k0:W3.cell? ⟨w.heap.size,0,none⟩=some(.int .i64 14):=by simp [World.cell?,FW3.out.box]
 have CN:Hid _:=Tryz.hasNode_any 14 W3
 go_wp2_with fail
 refine Calls.mono CN.out ?_;rintro e W4⟨rfl,hw4⟩;obtain rfl:=hw4.symm;clear CN;have ehn:Ac.hasNodeB 14=false:=rfl;rw [ehn];clear ehn;have kA:W3.cell? ⟨w.heap.size,10,none⟩=some(.slice aA nA cA):=FW3.out.cell 10;have kB:W3.cell? ⟨w.heap.size,11,none⟩=some(.slice aB nB cB):=FW3.out.cell 11
 go_wp2_with fail
 refine Calls.mono(CR.out _ FW3.out.bel) ?_;rintro e W20⟨rfl,hbe⟩;have FW20:Hid(Ak.Fm w w.heap.size rb #[.int .i64 14, .int .i64 x1, .int .i64 x2, .int .i64 x3, .int .i64 x4, .int .i64 x5, .slice a6 n6 c6, .slice a7 n7 c7, .slice a8 n8 c8, .slice a9 n9 c9, .slice aA nA cA, .slice aB nB cB]hb W20):=FW3.out.below hbe;clear hbe kA kB;obtain⟨r1,hr1⟩: ∃z,(hb&&(decide(ru=0)))=z:=⟨_,rfl⟩;have Hr1:Hid(r1=true↔hb=true/\ru=0):=by show _↔_;rw [<-hr1];simp
 go_upto_region 43 with fail
 have kr:=FW20.out.cr;have fr:=FW20.out.fr
 go_cut []from 43 to 179(λwx=>Hid(Ak.Fm w w.heap.size rb #[.int .i64 14, .int .i64 x1, .int .i64 x2, .int .i64 x3, .int .i64 x4, .int .i64 x5, .slice a6 n6 c6, .slice a7 n7 c7, .slice a8 n8 c8, .slice a9 n9 c9, .slice aA nA cA, .slice aB nB cB]r1 wx))
 case first=>
  cases hb with
  |false=>
   go_wp2_with fail
   go_meet;exact by rw [<-hr1];exact FW20.out.setR _
  |true=>
  by_cases q: ¬(ru=0)
  ·have dq:((ru:Int)==0)=false:=by simp;omega
   have e:r1=false:=by rw [<-hr1];simp [q]
   clear q hr1
   go_wp2_with fail
   go_meet;exact by rw [e];exact FW20.out.setR _
  replace q:=Decidable.not_not.1 q;have dq:((ru:Int)==0)=true:=by simp;omega
  have e:r1=true:=by rw [<-hr1];simp [q]
  clear q hr1
  go_wp2_with fail
  go_meet;exact by rw [e];exact FW20.out.setR _
 case rest=>
 rename World=>W21;have FW21:Hid _:=hcut;clear hcut kr fr  hr1;have kz10:W21.cell? ⟨w.heap.size,10,none⟩=some(.slice aA nA cA):=FW21.out.cell 10;have fz10:=FW21.out.fx 10;have kz11:W21.cell? ⟨w.heap.size,11,none⟩=some(.slice aB nB cB):=FW21.out.cell 11;have fz11:=FW21.out.fx 11
 go_upto_region 46 with fail
 obtain⟨W22,hW22⟩: ∃z,((W21.setCell⟨w.heap.size,10,none⟩(.slice none 0 0)).setCell⟨w.heap.size,11,none⟩(.slice none 0 0))=z:=⟨_,rfl⟩;rw [hW22];have FW22:Hid(Ak.Fm w w.heap.size rb #[.int .i64 14, .int .i64 x1, .int .i64 x2, .int .i64 x3, .int .i64 x4, .int .i64 x5, .slice a6 n6 c6, .slice a7 n7 c7, .slice a8 n8 c8, .slice a9 n9 c9, .slice none 0 0, .slice none 0 0]r1 W22):=by rw [<-hW22];exact((FW21.out.setX 10(.slice none 0 0)).setX 11(.slice none 0 0))
 clear hW22 kz10 fz10 kz11 fz11;have HRA:Hid(r1=true↔hb=true/\ru=0):=Hr1.out;have kr:=FW22.out.cr
 cases r1 with
 |false=>
  have HN:Hid(¬Q):=λh=>absurd(HRA.out.2⟨(HQ.out.1 h).1,(HQ.out.1 h).2.1⟩)(by decide);go_wp2;go_ret;exact⟨Ak.Told.no HN.out,FW22.out.bel⟩
 |true=>
 have hh:=HRA.out.1 rfl;have HH:Hid _:=hh;clear hh;have k0:W22.cell? ⟨w.heap.size,0,none⟩=some(.int .i64 14):=FW22.out.cell 0;have k1:W22.cell? ⟨w.heap.size,1,none⟩=some(.int .i64 x1):=FW22.out.cell 1;have k2:W22.cell? ⟨w.heap.size,2,none⟩=some(.int .i64 x2):=FW22.out.cell 2;have k3:W22.cell? ⟨w.heap.size,3,none⟩=some(.int .i64 x3):=FW22.out.cell 3;have k4:W22.cell? ⟨w.heap.size,4,none⟩=some(.int .i64 x4):=FW22.out.cell 4;have k5:W22.cell? ⟨w.heap.size,5,none⟩=some(.int .i64 x5):=FW22.out.cell 5;have k6:W22.cell? ⟨w.heap.size,6,none⟩=some(.slice a6 n6 c6):=FW22.out.cell 6;have k7:W22.cell? ⟨w.heap.size,7,none⟩=some(.slice a7 n7 c7):=FW22.out.cell 7;have k8:W22.cell? ⟨w.heap.size,8,none⟩=some(.slice a8 n8 c8):=FW22.out.cell 8;have k9:W22.cell? ⟨w.heap.size,9,none⟩=some(.slice a9 n9 c9):=FW22.out.cell 9;have k10:W22.cell? ⟨w.heap.size,10,none⟩=some(.slice none 0 0):=FW22.out.cell 10;have k11:W22.cell? ⟨w.heap.size,11,none⟩=some(.slice none 0 0):=FW22.out.cell 11
 go_wp2_with fail
 clear kr k0 k1 k2 k3 k4 k5 k6 k7 k8 k9 k10 k11;refine Calls.mono(CA.out _ FW22.out.bel) ?_;rintro e W23⟨⟨r,rfl,hr⟩,hbe⟩;have FW23:Hid(Ak.Fm w w.heap.size rb #[.int .i64 14, .int .i64 x1, .int .i64 x2, .int .i64 x3, .int .i64 x4, .int .i64 x5, .slice a6 n6 c6, .slice a7 n7 c7, .slice a8 n8 c8, .slice a9 n9 c9, .slice none 0 0, .slice none 0 0]true W23/\(r=true↔P)):=⟨FW22.out.below hbe,hr⟩;clear hbe hr
 cases r with
 |false=>
  have HN:Hid(¬Q):=λh=>absurd(FW23.out.2.2(HQ.out.1 h).2.2.1)(by decide);go_wp2;go_ret;exact⟨Ak.Told.no HN.out,FW23.out.1.bel⟩
 |true=>
 have HP:Hid P:=FW23.out.2.1(by first|rfl|trivial);have k8:W23.cell? ⟨w.heap.size,8,none⟩=some(.slice a8 n8 c8):=FW23.out.1.cell 8
 by_cases qz:n8=0
 ·have dz:((n8:Int)==0)=true:=by simp;omega
  have HZ:Hid(n8=0):=qz;clear qz;go_wp2;go_ret;exact⟨Ak.Told.yes(HQ.out.2⟨HH.out.1,HH.out.2,HP.out,HZ.out⟩),FW23.out.1.bel⟩
 have dz:((n8:Int)==0)=false:=by simp;omega
 have HN:Hid(¬Q):=λh=>qz(HQ.out.1 h).2.2.2;clear qz;go_wp2;go_ret;exact⟨Ak.Told.no HN.out,FW23.out.1.bel⟩
theorem Tryz.fm_12b(x1 x2 x3 x4 x5:Int)(a6 a7 a8 a9 aA aB:Option Addr)(n6 c6 n7 c7 n8 c8 n9 c9 nA cA nB cB:Nat)(w:World)(hb:Bool)(P:Prop)(_hn7:n7<=1000)(_hn8:n8<=1000)(CH0: ∀W,Below w.heap.size w W->Calls Tryz.prog 58 #[.agg #[.int .i64 12, .int .i64 x1, .int .i64 x2, .int .i64 x3, .int .i64 x4, .int .i64 x5, .slice a6 n6 c6, .slice a7 n7 c7, .slice a8 n8 c8, .slice a9 n9 c9, .slice aA nA cA, .slice aB nB cB]]W λe w'=>e= .returned(.bool hb)/\Below W.heap.size W w')(CA0: ∀W,Below w.heap.size w W->Calls Tryz.prog 65 #[.agg #[.int .i64 12, .int .i64 0, .int .i64 0, .int .i64 x3, .int .i64 x4, .int .i64 x5, .slice a6 n6 c6, .slice a7 n7 c7, .slice a8 n8 c8, .slice a9 n9 c9, .slice aA nA cA, .slice aB nB cB], .agg #[.int .i64 12, .int .i64 0, .int .i64 0, .int .i64 0, .int .i64 0, .int .i64 0, .slice none 0 0, .slice none 0 0, .slice none 0 0, .slice none 0 0, .slice none 0 0, .slice none 0 0]]W λe w'=>Ak.Told P e/\Below W.heap.size W w')(ha: ¬x2=3):
  Calls Tryz.prog 48 #[.agg #[.int .i64 12, .int .i64 x1, .int .i64 x2, .int .i64 x3, .int .i64 x4, .int .i64 x5, .slice a6 n6 c6, .slice a7 n7 c7, .slice a8 n8 c8, .slice a9 n9 c9, .slice aA nA cA, .slice aB nB cB]]w λe w'=>Ak.Told(hb=true/\(0<=x1/\x1<24)/\1<=x2/\(0<=x2/\x2<5)/\P/\n8=0)e/\Below w.heap.size w w':=by
 obtain⟨Q,hQ⟩: ∃Q:Prop,(hb=true/\(0<=x1/\x1<24)/\1<=x2/\(0<=x2/\x2<5)/\P/\n8=0)=Q:=⟨_,rfl⟩;rw [hQ];have HQ:Hid(Q↔hb=true/\(0<=x1/\x1<24)/\1<=x2/\(0<=x2/\x2<5)/\P/\n8=0):=by rw [<-hQ];exact Iff.rfl
 have CH:Hid _:=CH0;have CA:Hid _:=CA0;have da:(x2==3)=false:=by simpa using ha
 clear ha;obtain⟨w1,hw1⟩: ∃x,w.alloc(.cells #[.int .i64 12, .int .i64 x1, .int .i64 x2, .int .i64 x3, .int .i64 x4, .int .i64 x5, .slice a6 n6 c6, .slice a7 n7 c7, .slice a8 n8 c8, .slice a9 n9 c9, .slice aA nA cA, .slice aB nB cB]32)=x:=⟨_,rfl⟩;have A1:Below w.heap.size w w1:=by rw [<-hw1];exact(Below.refl _ w).alloc(Nat.le_refl _)_
 have G1:w1.heap[w.heap.size]? =some(.cells #[.int .i64 12, .int .i64 x1, .int .i64 x2, .int .i64 x3, .int .i64 x4, .int .i64 x5, .slice a6 n6 c6, .slice a7 n7 c7, .slice a8 n8 c8, .slice a9 n9 c9, .slice aA nA cA, .slice aB nB cB]32(0,0)):=by rw [<-hw1];exact heap_alloc_new w _
 have ca:w1.cell? ⟨w.heap.size,0,none⟩=some(.int .i64 12)/\w1.cell? ⟨w.heap.size,1,none⟩=some(.int .i64 x1)/\w1.cell? ⟨w.heap.size,2,none⟩=some(.int .i64 x2)/\w1.cell? ⟨w.heap.size,3,none⟩=some(.int .i64 x3)/\w1.cell? ⟨w.heap.size,4,none⟩=some(.int .i64 x4)/\w1.cell? ⟨w.heap.size,5,none⟩=some(.int .i64 x5)/\w1.cell? ⟨w.heap.size,6,none⟩=some(.slice a6 n6 c6)/\w1.cell? ⟨w.heap.size,7,none⟩=some(.slice a7 n7 c7)/\w1.cell? ⟨w.heap.size,8,none⟩=some(.slice a8 n8 c8)/\w1.cell? ⟨w.heap.size,9,none⟩=some(.slice a9 n9 c9)/\w1.cell? ⟨w.heap.size,10,none⟩=some(.slice aA nA cA)/\w1.cell? ⟨w.heap.size,11,none⟩=some(.slice aB nB cB):=by simp [World.cell?,G1]
 obtain⟨m0,m1,m2,m3,m4,m5,m6,m7,m8,m9,m10,m11⟩:=ca;have H1:Hid(w.alloc(.cells #[.int .i64 12, .int .i64 x1, .int .i64 x2, .int .i64 x3, .int .i64 x4, .int .i64 x5, .slice a6 n6 c6, .slice a7 n7 c7, .slice a8 n8 c8, .slice a9 n9 c9, .slice aA nA cA, .slice aB nB cB]32)=w1):=hw1;have HA:Hid(Below w.heap.size w w1/\w1.heap[w.heap.size]? =some(.cells #[.int .i64 12, .int .i64 x1, .int .i64 x2, .int .i64 x3, .int .i64 x4, .int .i64 x5, .slice a6 n6 c6, .slice a7 n7 c7, .slice a8 n8 c8, .slice a9 n9 c9, .slice aA nA cA, .slice aB nB cB]32(0,0))):=⟨A1,G1⟩;clear hw1 A1 G1 CH0 CA0 hQ
 go_enter Tryz.func48,Tryz.ntmps48
 go_upto_region 1 with fail
 rw [H1.out]
 go_wp2_with fail
 refine Calls.mono(CH.out _ HA.out.1) ?_;rintro e W2⟨rfl,hb2⟩;clear H1 CH m0 m1 m2 m3 m4 m5 m6 m7 m8 m9 m10 m11
 go_upto_region 3 with fail
 obtain⟨W3,hW3⟩: ∃z,W2.alloc(.cells #[.bool hb]4)=z:=⟨_,rfl⟩;have hx2:W2.heap[w.heap.size]? =some(.cells #[.int .i64 12, .int .i64 x1, .int .i64 x2, .int .i64 x3, .int .i64 x4, .int .i64 x5, .slice a6 n6 c6, .slice a7 n7 c7, .slice a8 n8 c8, .slice a9 n9 c9, .slice aA nA cA, .slice aB nB cB]32(0,0)):=(hb2.block _(Array.getElem?_eq_some_iff.1 HA.out.2).1).trans HA.out.2;have hl2:=(Array.getElem?_eq_some_iff.1 hx2).1
 have FW3:Hid(Ak.Fm w w.heap.size W2.heap.size #[.int .i64 12, .int .i64 x1, .int .i64 x2, .int .i64 x3, .int .i64 x4, .int .i64 x5, .slice a6 n6 c6, .slice a7 n7 c7, .slice a8 n8 c8, .slice a9 n9 c9, .slice aA nA cA, .slice aB nB cB]hb W3):=by
  have b3:Below W2.heap.size W2 W3:=by rw [<-hW3];exact(Below.refl _ W2).alloc(Nat.le_refl _)_
  have b2:Below w.heap.size w W2:=HA.out.1.trans(hb2.mono HA.out.1.size);exact⟨(b3.block _ hl2).trans hx2,by rw [<-hW3];exact heap_alloc_new W2 _,by omega,Nat.le_refl _,b2.size,b2.trans(b3.mono b2.size)⟩
 rw [hW3];obtain⟨rb,hrb⟩: ∃z,W2.heap.size=z:=⟨_,rfl⟩;rw [hrb]at FW3⊢;clear hW3 hx2 hl2 hb2 hrb HA;have k0:W3.cell? ⟨w.heap.size,0,none⟩=some(.int .i64 12):=by simp [World.cell?,FW3.out.box]
 have CN:Hid _:=Tryz.hasNode_any 12 W3
 go_wp2_with fail
 refine Calls.mono CN.out ?_;rintro e W4⟨rfl,hw4⟩;obtain rfl:=hw4.symm;clear CN;have ehn:Ac.hasNodeB 12=true:=rfl;rw [ehn];clear ehn;have kx:W3.cell? ⟨w.heap.size,1,none⟩=some(.int .i64 x1):=FW3.out.cell 1
 go_wp2_with fail
 refine Calls.mono(Tryz.atake_any w.heap.size 1 rb x1 24 hb W3 kx(FW3.out.fx 1)FW3.out.cr FW3.out.fr FW3.out.ne) ?_;rintro e W24⟨rfl,hw2⟩;obtain⟨r1,hr1⟩: ∃z,(hb&&(decide(0<=x1)&&decide(x1<24)))=z:=⟨_,rfl⟩;have FW24:Hid(Ak.Fm w w.heap.size rb #[.int .i64 12, .int .i64 0, .int .i64 x2, .int .i64 x3, .int .i64 x4, .int .i64 x5, .slice a6 n6 c6, .slice a7 n7 c7, .slice a8 n8 c8, .slice a9 n9 c9, .slice aA nA cA, .slice aB nB cB]r1 W24):=by show Ak.Fm _ _ _ _ _ _;rw [hw2,hr1];exact(FW3.out.setR r1).setX 1(.int .i64 0)
 have Hr1:Hid(r1=true↔hb=true/\(0<=x1/\x1<24)):=by show _↔_;rw [<-hr1];simp
 clear hw2 hr1 kx;have kk:W24.cell? ⟨w.heap.size,0,none⟩=some(.int .i64 12):=FW24.out.cell 0;have kk2:W24.cell? ⟨w.heap.size,2,none⟩=some(.int .i64 x2):=FW24.out.cell 2;obtain⟨r2,hr2⟩: ∃z,(r1&&(decide(1<=x2)))=z:=⟨_,rfl⟩;have Hr2:Hid(r2=true↔r1=true/\1<=x2):=by show _↔_;rw [<-hr2];simp
 go_upto_region 38 with fail
 have kr:=FW24.out.cr;have fr:=FW24.out.fr;have k2:W24.cell? ⟨w.heap.size,2,none⟩=some(.int .i64 x2):=FW24.out.cell 2
 go_cut []from 43 to 179(λwx=>Hid(Ak.Fm w w.heap.size rb #[.int .i64 12, .int .i64 0, .int .i64 x2, .int .i64 x3, .int .i64 x4, .int .i64 x5, .slice a6 n6 c6, .slice a7 n7 c7, .slice a8 n8 c8, .slice a9 n9 c9, .slice aA nA cA, .slice aB nB cB]r2 wx))
 case first=>
  cases r1 with
  |false=>
   go_wp2_with fail
   go_meet;exact by rw [<-hr2];exact FW24.out.setR _
  |true=>
  by_cases q: ¬(1<=x2)
  ·have dq:decide((1:Int)<=x2)=false:=decide_eq_false(by omega)
   have e:r2=false:=by rw [<-hr2];simp [q]
   clear q hr2
   go_wp2_with fail
   go_meet;exact by rw [e];exact FW24.out.setR _
  replace q:=Decidable.not_not.1 q;have dq:decide((1:Int)<=x2)=true:=decide_eq_true(by omega);have e:r2=true:=by rw [<-hr2];simp [q]
  clear q hr2
  go_wp2_with fail
  go_meet;exact by rw [e];exact FW24.out.setR _
 case rest=>
 rename World=>W25;have FW25:Hid _:=hcut;clear hcut kr fr k2 hr2;have kx:W25.cell? ⟨w.heap.size,2,none⟩=some(.int .i64 x2):=FW25.out.cell 2
 go_wp2_with fail
 refine Calls.mono(Tryz.atake_any w.heap.size 2 rb x2 5 r2 W25 kx(FW25.out.fx 2)FW25.out.cr FW25.out.fr FW25.out.ne) ?_;rintro e W26⟨rfl,hw2⟩;obtain⟨r3,hr3⟩: ∃z,(r2&&(decide(0<=x2)&&decide(x2<5)))=z:=⟨_,rfl⟩;have FW26:Hid(Ak.Fm w w.heap.size rb #[.int .i64 12, .int .i64 0, .int .i64 0, .int .i64 x3, .int .i64 x4, .int .i64 x5, .slice a6 n6 c6, .slice a7 n7 c7, .slice a8 n8 c8, .slice a9 n9 c9, .slice aA nA cA, .slice aB nB cB]r3 W26):=by show Ak.Fm _ _ _ _ _ _;rw [hw2,hr3];exact(FW25.out.setR r3).setX 2(.int .i64 0)
 have Hr3:Hid(r3=true↔r2=true/\(0<=x2/\x2<5)):=by show _↔_;rw [<-hr3];simp
 clear hw2 hr3 kx;have HRA:Hid(r3=true↔hb=true/\(0<=x1/\x1<24)/\1<=x2/\(0<=x2/\x2<5)):=by show _↔_;rw [Hr3.out,Hr2.out,Hr1.out];simp only [and_assoc]
 have kr:=FW26.out.cr
 cases r3 with
 |false=>
  have HN:Hid(¬Q):=λh=>absurd(HRA.out.2⟨(HQ.out.1 h).1,(HQ.out.1 h).2.1,(HQ.out.1 h).2.2.1,(HQ.out.1 h).2.2.2.1⟩)(by decide);go_wp2;go_ret;exact⟨Ak.Told.no HN.out,FW26.out.bel⟩
 |true=>
 have hh:=HRA.out.1 rfl;have HH:Hid _:=hh;clear hh;have k0:W26.cell? ⟨w.heap.size,0,none⟩=some(.int .i64 12):=FW26.out.cell 0;have k1:W26.cell? ⟨w.heap.size,1,none⟩=some(.int .i64 0):=FW26.out.cell 1;have k2:W26.cell? ⟨w.heap.size,2,none⟩=some(.int .i64 0):=FW26.out.cell 2;have k3:W26.cell? ⟨w.heap.size,3,none⟩=some(.int .i64 x3):=FW26.out.cell 3;have k4:W26.cell? ⟨w.heap.size,4,none⟩=some(.int .i64 x4):=FW26.out.cell 4;have k5:W26.cell? ⟨w.heap.size,5,none⟩=some(.int .i64 x5):=FW26.out.cell 5;have k6:W26.cell? ⟨w.heap.size,6,none⟩=some(.slice a6 n6 c6):=FW26.out.cell 6;have k7:W26.cell? ⟨w.heap.size,7,none⟩=some(.slice a7 n7 c7):=FW26.out.cell 7;have k8:W26.cell? ⟨w.heap.size,8,none⟩=some(.slice a8 n8 c8):=FW26.out.cell 8;have k9:W26.cell? ⟨w.heap.size,9,none⟩=some(.slice a9 n9 c9):=FW26.out.cell 9;have k10:W26.cell? ⟨w.heap.size,10,none⟩=some(.slice aA nA cA):=FW26.out.cell 10;have k11:W26.cell? ⟨w.heap.size,11,none⟩=some(.slice aB nB cB):=FW26.out.cell 11
 go_wp2_with fail
 clear kr k0 k1 k2 k3 k4 k5 k6 k7 k8 k9 k10 k11;refine Calls.mono(CA.out _ FW26.out.bel) ?_;rintro e W27⟨⟨r,rfl,hr⟩,hbe⟩;have FW27:Hid(Ak.Fm w w.heap.size rb #[.int .i64 12, .int .i64 0, .int .i64 0, .int .i64 x3, .int .i64 x4, .int .i64 x5, .slice a6 n6 c6, .slice a7 n7 c7, .slice a8 n8 c8, .slice a9 n9 c9, .slice aA nA cA, .slice aB nB cB]true W27/\(r=true↔P)):=⟨FW26.out.below hbe,hr⟩;clear hbe hr
 cases r with
 |false=>
  have HN:Hid(¬Q):=λh=>absurd(FW27.out.2.2(HQ.out.1 h).2.2.2.2.1)(by decide);go_wp2;go_ret;exact⟨Ak.Told.no HN.out,FW27.out.1.bel⟩
 |true=>
 have HP:Hid P:=FW27.out.2.1(by first|rfl|trivial);have k8:W27.cell? ⟨w.heap.size,8,none⟩=some(.slice a8 n8 c8):=FW27.out.1.cell 8
 by_cases qz:n8=0
 ·have dz:((n8:Int)==0)=true:=by simp;omega
  have HZ:Hid(n8=0):=qz;clear qz;go_wp2;go_ret;exact⟨Ak.Told.yes(HQ.out.2⟨HH.out.1,HH.out.2.1,HH.out.2.2.1,HH.out.2.2.2,HP.out,HZ.out⟩),FW27.out.1.bel⟩
 have dz:((n8:Int)==0)=false:=by simp;omega
 have HN:Hid(¬Q):=λh=>qz(HQ.out.1 h).2.2.2.2.2;clear qz;go_wp2;go_ret;exact⟨Ak.Told.no HN.out,FW27.out.1.bel⟩
end Go.Proofs
