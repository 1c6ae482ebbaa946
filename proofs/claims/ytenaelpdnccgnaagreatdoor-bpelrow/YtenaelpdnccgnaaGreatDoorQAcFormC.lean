import Derived.Test.YtenaelpdnccgnaaGreatDoorQAcFormM
set_option maxRecDepth 100000
set_option maxHeartbeats 32000000
namespace Go.Proofs
open Go.RowKit Go.Shelf
theorem Tryz.fm_3 {x1 x2 x3 x4 x5:Int}{a6 a7 a8 a9 aA aB:Option Addr}{n6 c6 n7 c7 n8 c8 n9 c9 nA cA nB cB:Nat}{w:World}{hb:Bool}{P:Prop}{ob:Bool}(_:n7<=1000)(_:n8<=1000)(CH0:∀W,Below w.heap.size w W->Calls Tryz.prog 43 #[.agg #[.int .i64 3,.int .i64 x1,.int .i64 x2,.int .i64 x3,.int .i64 x4,.int .i64 x5,.slice a6 n6 c6,.slice a7 n7 c7,.slice a8 n8 c8,.slice a9 n9 c9,.slice aA nA cA,.slice aB nB cB]] W λe w'=>e=.returned (.bool hb)/\Below W.heap.size W w')(CA0:∀W,Below w.heap.size w W->Calls Tryz.prog 40 #[.agg #[.int .i64 3,.int .i64 0,.int .i64 0,.int .i64 x3,.int .i64 0,.int .i64 0,.slice none 0 0,.slice a7 n7 c7,.slice a8 n8 c8,.slice a9 n9 c9,.slice aA nA cA,.slice aB nB cB],.agg #[.int .i64 3,.int .i64 0,.int .i64 0,.int .i64 0,.int .i64 0,.int .i64 0,.slice none 0 0,.slice none 0 0,.slice none 0 0,.slice none 0 0,.slice none 0 0,.slice none 0 0]] W λe w'=>Ak.Told P e/\Below W.heap.size W w')(CO0:∀W,Below w.heap.size w W->Calls Tryz.prog 46 #[.int .i64 1,.agg #[.int .i64 x4,.int .i64 x5,.slice a6 n6 c6]] W λe w'=>e=.returned (.bool ob)/\Below W.heap.size W w'):
  Calls Tryz.prog 26 #[.agg #[.int .i64 3,.int .i64 x1,.int .i64 x2,.int .i64 x3,.int .i64 x4,.int .i64 x5,.slice a6 n6 c6,.slice a7 n7 c7,.slice a8 n8 c8,.slice a9 n9 c9,.slice aA nA cA,.slice aB nB cB]] w λe w'=>Ak.Told (hb=true/\(0<=x1/\x1<24)/\ob=true/\(0<=x2/\x2<4)/\P/\n8=0) e/\Below w.heap.size w w':=by
 obtain⟨Q,hQ⟩:∃Q:Prop,(hb=true/\(0<=x1/\x1<24)/\ob=true/\(0<=x2/\x2<4)/\P/\n8=0)=Q:=⟨_,rfl⟩;rw[hQ];have HQ:Hid (Q↔_):=(Iff.of_eq hQ).symm;have CH:Hid _:=CH0;have CA:Hid _:=CA0;have CO:Hid _:=CO0;clear CO0;clear CH0 CA0 hQ;obtain⟨Y,hY⟩:∃z:Array Value,#[.int .i64 3,.int .i64 x1,.int .i64 x2,.int .i64 x3,.int .i64 x4,.int .i64 x5,.slice a6 n6 c6,.slice a7 n7 c7,.slice a8 n8 c8,.slice a9 n9 c9,.slice aA nA cA,.slice aB nB cB]=z:=⟨_,rfl⟩;rw[hY]at CH⊢;have ia:(Tryz.prog.info? 32).map (·.size)=some Y.size:=by rw[<-hY];exact Ak.iact
 have ha:=Tryz.underlying32;obtain⟨w1,hw1⟩:=pE (w.alloc (.cells Y 32));have HA:=Ak.fm_box hw1;have G1:=HA.out.2;have H1:Hid _:=hw1;clear hw1
 go_enter Tryz.func26,Tryz.ntmps26
 go_upto_region 1 with fail
 rw[H1.out]
 go_wp2_with (refine wpList_load_row rfl 32 _ rfl _ rfl 32 _ (0,0) _ G1 ha rfl ia ?_)
 refine Calls.mono (CH.out _ HA.out.1) ?_;rintro e W2 ⟨rfl,hb2⟩;clear H1 CH G1 ia ha
 go_upto_region 3 with fail
 obtain⟨W3,hW3⟩:=pE (W2.alloc (.cells #[.bool hb] 4));have FW3:=Ak.fm_new HA.out hb2 hW3;rw[hW3];obtain⟨rb,hrb⟩:=pE (W2.heap.size);rw[hrb]at FW3⊢;clear hW3 hb2 hrb HA;subst hY;have k0:W3.cell? ⟨w.heap.size,0,none⟩=some (.int .i64 3):=FW3.out.cell 0
 go_wp2_with fail
 refine Calls.mono (Tryz.hasNode_any 3 W3) ?_;rintro e W4 ⟨rfl,hw4⟩;obtain rfl:=hw4.symm;rw[show Ac.hasNodeB 3=true from rfl];have kx:W3.cell? ⟨w.heap.size,1,none⟩=some (.int .i64 x1):=FW3.out.cell 1
 go_wp2_with fail
 refine Calls.mono (Tryz.atake_any w.heap.size 1 rb x1 24 hb W3 kx (FW3.out.fx 1) FW3.out.cr FW3.out.fr FW3.out.ne) ?_;rintro e W11 ⟨rfl,hw2⟩;obtain⟨r1,hr1⟩:=pE ((hb&&(decide (0<=x1)&&decide (x1<24))));have FW11:Hid (Ak.Fm w w.heap.size rb #[.int .i64 3,.int .i64 0,.int .i64 x2,.int .i64 x3,.int .i64 x4,.int .i64 x5,.slice a6 n6 c6,.slice a7 n7 c7,.slice a8 n8 c8,.slice a9 n9 c9,.slice aA nA cA,.slice aB nB cB] r1 W11):=by show Ak.Fm _ _ _ _ _ _;rw[hw2,hr1];exact(FW3.out.setR r1).setX 1 (.int .i64 0)
 have Hr1:Hid (r1=true↔hb=true/\(0<=x1/\x1<24)):=by show _↔_;rw[<-hr1];simp
 clear hw2 hr1 kx;have kk:W11.cell? ⟨w.heap.size,0,none⟩=some (.int .i64 3):=FW11.out.cell 0;obtain⟨r2,hr2⟩:=pE ((r1&&(ob)));have Hr2:Hid (r2=true↔r1=true/\ob=true):=by show _↔_;rw[<-hr2];simp
 go_upto_region 20 with fail
 have kr:=FW11.out.cr;have fr:=FW11.out.fr;have k4:W11.cell? ⟨w.heap.size,4,none⟩=some (.int .i64 x4):=FW11.out.cell 4;have k5:W11.cell? ⟨w.heap.size,5,none⟩=some (.int .i64 x5):=FW11.out.cell 5;have k6:W11.cell? ⟨w.heap.size,6,none⟩=some (.slice a6 n6 c6):=FW11.out.cell 6
 go_cut []from 43 to 179 (λwx=>Hid (Ak.Fm w w.heap.size rb #[.int .i64 3,.int .i64 0,.int .i64 x2,.int .i64 x3,.int .i64 x4,.int .i64 x5,.slice a6 n6 c6,.slice a7 n7 c7,.slice a8 n8 c8,.slice a9 n9 c9,.slice aA nA cA,.slice aB nB cB] r2 wx))
 case first=>
  cases r1 with
  |false=>
   go_wp2_with fail
   go_meet;exact by rw[<-hr2];exact FW11.out.setR _
  |true=>
  have e:r2=ob:=by rw[<-hr2];simp
  clear hr2
  go_wp2_with fail
  refine Calls.mono (CO.out _ FW11.out.bel) ?_;rintro e' W13 ⟨rfl,hbe⟩;have FW13:Hid (Ak.Fm w w.heap.size rb #[.int .i64 3,.int .i64 0,.int .i64 x2,.int .i64 x3,.int .i64 x4,.int .i64 x5,.slice a6 n6 c6,.slice a7 n7 c7,.slice a8 n8 c8,.slice a9 n9 c9,.slice aA nA cA,.slice aB nB cB] true W13):=FW11.out.below hbe;clear hbe kr fr k4 k5 k6;have kr:=FW13.out.cr;have fr:=FW13.out.fr
  go_wp2_with fail
  go_meet;exact by rw[e];exact FW13.out.setR _
 case rest=>
 rename World=>W12;have FW12:Hid _:=hcut;clear hcut kr fr k4 k5 k6 hr2;have kz4:W12.cell? ⟨w.heap.size,4,none⟩=some (.int .i64 x4):=FW12.out.cell 4;have fz4:=FW12.out.fx 4;have kz5:W12.cell? ⟨w.heap.size,5,none⟩=some (.int .i64 x5):=FW12.out.cell 5;have fz5:=FW12.out.fx 5;have kz6:W12.cell? ⟨w.heap.size,6,none⟩=some (.slice a6 n6 c6):=FW12.out.cell 6;have fz6:=FW12.out.fx 6
 go_upto_region 22 with fail
 obtain⟨W14,hW14⟩:=pE ((((W12.setCell ⟨w.heap.size,4,none⟩ (.int .i64 0)).setCell ⟨w.heap.size,5,none⟩ (.int .i64 0)).setCell ⟨w.heap.size,6,none⟩ (.slice none 0 0)));rw[hW14];have FW14:Hid (Ak.Fm w w.heap.size rb #[.int .i64 3,.int .i64 0,.int .i64 x2,.int .i64 x3,.int .i64 0,.int .i64 0,.slice none 0 0,.slice a7 n7 c7,.slice a8 n8 c8,.slice a9 n9 c9,.slice aA nA cA,.slice aB nB cB] r2 W14):=by rw[<-hW14];exact(((FW12.out.setX 4 (.int .i64 0)).setX 5 (.int .i64 0)).setX 6 (.slice none 0 0))
 clear hW14 kz4 fz4 kz5 fz5 kz6 fz6;have kx:W14.cell? ⟨w.heap.size,2,none⟩=some (.int .i64 x2):=FW14.out.cell 2
 go_wp2_with fail
 refine Calls.mono (Tryz.atake_any w.heap.size 2 rb x2 4 r2 W14 kx (FW14.out.fx 2) FW14.out.cr FW14.out.fr FW14.out.ne) ?_;rintro e W15 ⟨rfl,hw2⟩;obtain⟨r3,hr3⟩:=pE ((r2&&(decide (0<=x2)&&decide (x2<4))));have FW15:Hid (Ak.Fm w w.heap.size rb #[.int .i64 3,.int .i64 0,.int .i64 0,.int .i64 x3,.int .i64 0,.int .i64 0,.slice none 0 0,.slice a7 n7 c7,.slice a8 n8 c8,.slice a9 n9 c9,.slice aA nA cA,.slice aB nB cB] r3 W15):=by show Ak.Fm _ _ _ _ _ _;rw[hw2,hr3];exact(FW14.out.setR r3).setX 2 (.int .i64 0)
 have Hr3:Hid (r3=true↔r2=true/\(0<=x2/\x2<4)):=by show _↔_;rw[<-hr3];simp
 clear hw2 hr3 kx;have HRA:Hid (r3=true↔hb=true/\(0<=x1/\x1<24)/\ob=true/\(0<=x2/\x2<4)):=by show _↔_;rw[Hr3.out,Hr2.out,Hr1.out];simp only[and_assoc]
 have kr:=FW15.out.cr
 cases r3 with
 |false=>
  have HN:Hid (¬Q):=λh=>absurd (HRA.out.2 ⟨(HQ.out.1 h).1,(HQ.out.1 h).2.1,(HQ.out.1 h).2.2.1,(HQ.out.1 h).2.2.2.1⟩) (by decide);go_wp2;go_ret;exact⟨Ak.Told.no HN.out,FW15.out.bel⟩
 |true=>
 have hh:=HRA.out.1 rfl;have HH:Hid _:=hh;clear hh;have k0:W15.cell? ⟨w.heap.size,0,none⟩=some (.int .i64 3):=FW15.out.cell 0;have k1:W15.cell? ⟨w.heap.size,1,none⟩=some (.int .i64 0):=FW15.out.cell 1;have k2:W15.cell? ⟨w.heap.size,2,none⟩=some (.int .i64 0):=FW15.out.cell 2;have k3:W15.cell? ⟨w.heap.size,3,none⟩=some (.int .i64 x3):=FW15.out.cell 3;have k4:W15.cell? ⟨w.heap.size,4,none⟩=some (.int .i64 0):=FW15.out.cell 4;have k5:W15.cell? ⟨w.heap.size,5,none⟩=some (.int .i64 0):=FW15.out.cell 5;have k6:W15.cell? ⟨w.heap.size,6,none⟩=some (.slice none 0 0):=FW15.out.cell 6;have k7:W15.cell? ⟨w.heap.size,7,none⟩=some (.slice a7 n7 c7):=FW15.out.cell 7;have k8:W15.cell? ⟨w.heap.size,8,none⟩=some (.slice a8 n8 c8):=FW15.out.cell 8;have k9:W15.cell? ⟨w.heap.size,9,none⟩=some (.slice a9 n9 c9):=FW15.out.cell 9;have k10:W15.cell? ⟨w.heap.size,10,none⟩=some (.slice aA nA cA):=FW15.out.cell 10;have k11:W15.cell? ⟨w.heap.size,11,none⟩=some (.slice aB nB cB):=FW15.out.cell 11
 go_wp2_with fail
 clear kr k0 k1 k2 k3 k4 k5 k6 k7 k8 k9 k10 k11;refine Calls.mono (CA.out _ FW15.out.bel) ?_;rintro e W16 ⟨⟨r,rfl,hr⟩,hbe⟩;have FW16:Hid (Ak.Fm w w.heap.size rb #[.int .i64 3,.int .i64 0,.int .i64 0,.int .i64 x3,.int .i64 0,.int .i64 0,.slice none 0 0,.slice a7 n7 c7,.slice a8 n8 c8,.slice a9 n9 c9,.slice aA nA cA,.slice aB nB cB] true W16/\(r=true↔P)):=⟨FW15.out.below hbe,hr⟩;clear hbe hr
 cases r with
 |false=>
  have HN:Hid (¬Q):=λh=>absurd (FW16.out.2.2 (HQ.out.1 h).2.2.2.2.1) (by decide);go_wp2;go_ret;exact⟨Ak.Told.no HN.out,FW16.out.1.bel⟩
 |true=>
 have HP:Hid P:=FW16.out.2.1 (by first|rfl|trivial);have k8:W16.cell? ⟨w.heap.size,8,none⟩=some (.slice a8 n8 c8):=FW16.out.1.cell 8
 by_cases qz:n8=0
 ·have dz:((n8:Int)==0)=true:=by simp;omega
  have HZ:Hid (n8=0):=qz;clear qz;go_wp2;go_ret;exact⟨Ak.Told.yes (HQ.out.2 ⟨HH.out.1,HH.out.2.1,HH.out.2.2.1,HH.out.2.2.2,HP.out,HZ.out⟩),FW16.out.1.bel⟩
 have dz:((n8:Int)==0)=false:=by simp;omega
 have HN:Hid (¬Q):=λh=>qz (HQ.out.1 h).2.2.2.2.2;clear qz;go_wp2;go_ret;exact⟨Ak.Told.no HN.out,FW16.out.1.bel⟩
theorem Tryz.fm_10 {x1 x2 x3 x4 x5:Int}{a6 a7 a8 a9 aA aB:Option Addr}{n6 c6 n7 c7 n8 c8 n9 c9 nA cA nB cB:Nat}{w:World}{hb:Bool}{P:Prop}(_:n7<=1000)(_:n8<=1000)(CH0:∀W,Below w.heap.size w W->Calls Tryz.prog 43 #[.agg #[.int .i64 10,.int .i64 x1,.int .i64 x2,.int .i64 x3,.int .i64 x4,.int .i64 x5,.slice a6 n6 c6,.slice a7 n7 c7,.slice a8 n8 c8,.slice a9 n9 c9,.slice aA nA cA,.slice aB nB cB]] W λe w'=>e=.returned (.bool hb)/\Below W.heap.size W w')(CA0:∀W,Below w.heap.size w W->Calls Tryz.prog 40 #[.agg #[.int .i64 10,.int .i64 0,.int .i64 0,.int .i64 x3,.int .i64 x4,.int .i64 x5,.slice a6 n6 c6,.slice a7 n7 c7,.slice none 0 0,.slice a9 n9 c9,.slice aA nA cA,.slice aB nB cB],.agg #[.int .i64 10,.int .i64 0,.int .i64 0,.int .i64 0,.int .i64 0,.int .i64 0,.slice none 0 0,.slice none 0 0,.slice none 0 0,.slice none 0 0,.slice none 0 0,.slice none 0 0]] W λe w'=>Ak.Told P e/\Below W.heap.size W w'):
  Calls Tryz.prog 26 #[.agg #[.int .i64 10,.int .i64 x1,.int .i64 x2,.int .i64 x3,.int .i64 x4,.int .i64 x5,.slice a6 n6 c6,.slice a7 n7 c7,.slice a8 n8 c8,.slice a9 n9 c9,.slice aA nA cA,.slice aB nB cB]] w λe w'=>Ak.Told (hb=true/\(0<=x1/\x1<24)/\n8=1/\(0<=x2/\x2<5)/\P/\True) e/\Below w.heap.size w w':=by
 obtain⟨Q,hQ⟩:∃Q:Prop,(hb=true/\(0<=x1/\x1<24)/\n8=1/\(0<=x2/\x2<5)/\P/\True)=Q:=⟨_,rfl⟩;rw[hQ];have HQ:Hid (Q↔_):=(Iff.of_eq hQ).symm;have CH:Hid _:=CH0;have CA:Hid _:=CA0;clear CH0 CA0 hQ;obtain⟨Y,hY⟩:∃z:Array Value,#[.int .i64 10,.int .i64 x1,.int .i64 x2,.int .i64 x3,.int .i64 x4,.int .i64 x5,.slice a6 n6 c6,.slice a7 n7 c7,.slice a8 n8 c8,.slice a9 n9 c9,.slice aA nA cA,.slice aB nB cB]=z:=⟨_,rfl⟩;rw[hY]at CH⊢;have ia:(Tryz.prog.info? 32).map (·.size)=some Y.size:=by rw[<-hY];exact Ak.iact
 have ha:=Tryz.underlying32;obtain⟨w1,hw1⟩:=pE (w.alloc (.cells Y 32));have HA:=Ak.fm_box hw1;have G1:=HA.out.2;have H1:Hid _:=hw1;clear hw1
 go_enter Tryz.func26,Tryz.ntmps26
 go_upto_region 1 with fail
 rw[H1.out]
 go_wp2_with (refine wpList_load_row rfl 32 _ rfl _ rfl 32 _ (0,0) _ G1 ha rfl ia ?_)
 refine Calls.mono (CH.out _ HA.out.1) ?_;rintro e W2 ⟨rfl,hb2⟩;clear H1 CH G1 ia ha
 go_upto_region 3 with fail
 obtain⟨W3,hW3⟩:=pE (W2.alloc (.cells #[.bool hb] 4));have FW3:=Ak.fm_new HA.out hb2 hW3;rw[hW3];obtain⟨rb,hrb⟩:=pE (W2.heap.size);rw[hrb]at FW3⊢;clear hW3 hb2 hrb HA;subst hY;have k0:W3.cell? ⟨w.heap.size,0,none⟩=some (.int .i64 10):=FW3.out.cell 0
 go_wp2_with fail
 refine Calls.mono (Tryz.hasNode_any 10 W3) ?_;rintro e W4 ⟨rfl,hw4⟩;obtain rfl:=hw4.symm;rw[show Ac.hasNodeB 10=true from rfl];have kx:W3.cell? ⟨w.heap.size,1,none⟩=some (.int .i64 x1):=FW3.out.cell 1
 go_wp2_with fail
 refine Calls.mono (Tryz.atake_any w.heap.size 1 rb x1 24 hb W3 kx (FW3.out.fx 1) FW3.out.cr FW3.out.fr FW3.out.ne) ?_;rintro e W11 ⟨rfl,hw2⟩;obtain⟨r1,hr1⟩:=pE ((hb&&(decide (0<=x1)&&decide (x1<24))));have FW11:Hid (Ak.Fm w w.heap.size rb #[.int .i64 10,.int .i64 0,.int .i64 x2,.int .i64 x3,.int .i64 x4,.int .i64 x5,.slice a6 n6 c6,.slice a7 n7 c7,.slice a8 n8 c8,.slice a9 n9 c9,.slice aA nA cA,.slice aB nB cB] r1 W11):=by show Ak.Fm _ _ _ _ _ _;rw[hw2,hr1];exact(FW3.out.setR r1).setX 1 (.int .i64 0)
 have Hr1:Hid (r1=true↔hb=true/\(0<=x1/\x1<24)):=by show _↔_;rw[<-hr1];simp
 clear hw2 hr1 kx;have kk:W11.cell? ⟨w.heap.size,0,none⟩=some (.int .i64 10):=FW11.out.cell 0;obtain⟨r2,hr2⟩:=pE ((r1&&(decide (n8=1))));have Hr2:Hid (r2=true↔r1=true/\n8=1):=by show _↔_;rw[<-hr2];simp
 go_upto_region 24 with fail
 have kr:=FW11.out.cr;have fr:=FW11.out.fr;have k8:W11.cell? ⟨w.heap.size,8,none⟩=some (.slice a8 n8 c8):=FW11.out.cell 8
 go_cut []from 43 to 179 (λwx=>Hid (Ak.Fm w w.heap.size rb #[.int .i64 10,.int .i64 0,.int .i64 x2,.int .i64 x3,.int .i64 x4,.int .i64 x5,.slice a6 n6 c6,.slice a7 n7 c7,.slice a8 n8 c8,.slice a9 n9 c9,.slice aA nA cA,.slice aB nB cB] r2 wx))
 case first=>
  cases r1 with
  |false=>
   go_wp2_with fail
   go_meet;exact by rw[<-hr2];exact FW11.out.setR _
  |true=>
  by_cases q:¬(n8=1)
  ·have dq:((n8:Int)==1)=false:=by simp;omega
   have e:r2=false:=by rw[<-hr2];simp[q]
   clear q hr2
   go_wp2_with fail
   go_meet;exact by rw[e];exact FW11.out.setR _
  replace q:=Decidable.not_not.1 q;have dq:((n8:Int)==1)=true:=by simp;omega
  have e:r2=true:=by rw[<-hr2];simp[q]
  clear q hr2
  go_wp2_with fail
  go_meet;exact by rw[e];exact FW11.out.setR _
 case rest=>
 rename World=>W12;have FW12:Hid _:=hcut;clear hcut kr fr k8 hr2;have kx:W12.cell? ⟨w.heap.size,2,none⟩=some (.int .i64 x2):=FW12.out.cell 2
 go_wp2_with fail
 refine Calls.mono (Tryz.atake_any w.heap.size 2 rb x2 5 r2 W12 kx (FW12.out.fx 2) FW12.out.cr FW12.out.fr FW12.out.ne) ?_;rintro e W13 ⟨rfl,hw2⟩;obtain⟨r3,hr3⟩:=pE ((r2&&(decide (0<=x2)&&decide (x2<5))));have FW13:Hid (Ak.Fm w w.heap.size rb #[.int .i64 10,.int .i64 0,.int .i64 0,.int .i64 x3,.int .i64 x4,.int .i64 x5,.slice a6 n6 c6,.slice a7 n7 c7,.slice a8 n8 c8,.slice a9 n9 c9,.slice aA nA cA,.slice aB nB cB] r3 W13):=by show Ak.Fm _ _ _ _ _ _;rw[hw2,hr3];exact(FW12.out.setR r3).setX 2 (.int .i64 0)
 have Hr3:Hid (r3=true↔r2=true/\(0<=x2/\x2<5)):=by show _↔_;rw[<-hr3];simp
 clear hw2 hr3 kx;have kz8:W13.cell? ⟨w.heap.size,8,none⟩=some (.slice a8 n8 c8):=FW13.out.cell 8;have fz8:=FW13.out.fx 8
 go_upto_region 46 with fail
 obtain⟨W14,hW14⟩:=pE ((W13.setCell ⟨w.heap.size,8,none⟩ (.slice none 0 0)));rw[hW14];have FW14:Hid (Ak.Fm w w.heap.size rb #[.int .i64 10,.int .i64 0,.int .i64 0,.int .i64 x3,.int .i64 x4,.int .i64 x5,.slice a6 n6 c6,.slice a7 n7 c7,.slice none 0 0,.slice a9 n9 c9,.slice aA nA cA,.slice aB nB cB] r3 W14):=by rw[<-hW14];exact(FW13.out.setX 8 (.slice none 0 0))
 clear hW14 kz8 fz8;have HRA:Hid (r3=true↔hb=true/\(0<=x1/\x1<24)/\n8=1/\(0<=x2/\x2<5)):=by show _↔_;rw[Hr3.out,Hr2.out,Hr1.out];simp only[and_assoc]
 have kr:=FW14.out.cr
 cases r3 with
 |false=>
  have HN:Hid (¬Q):=λh=>absurd (HRA.out.2 ⟨(HQ.out.1 h).1,(HQ.out.1 h).2.1,(HQ.out.1 h).2.2.1,(HQ.out.1 h).2.2.2.1⟩) (by decide);go_wp2;go_ret;exact⟨Ak.Told.no HN.out,FW14.out.bel⟩
 |true=>
 have hh:=HRA.out.1 rfl;have HH:Hid _:=hh;clear hh;have k0:W14.cell? ⟨w.heap.size,0,none⟩=some (.int .i64 10):=FW14.out.cell 0;have k1:W14.cell? ⟨w.heap.size,1,none⟩=some (.int .i64 0):=FW14.out.cell 1;have k2:W14.cell? ⟨w.heap.size,2,none⟩=some (.int .i64 0):=FW14.out.cell 2;have k3:W14.cell? ⟨w.heap.size,3,none⟩=some (.int .i64 x3):=FW14.out.cell 3;have k4:W14.cell? ⟨w.heap.size,4,none⟩=some (.int .i64 x4):=FW14.out.cell 4;have k5:W14.cell? ⟨w.heap.size,5,none⟩=some (.int .i64 x5):=FW14.out.cell 5;have k6:W14.cell? ⟨w.heap.size,6,none⟩=some (.slice a6 n6 c6):=FW14.out.cell 6;have k7:W14.cell? ⟨w.heap.size,7,none⟩=some (.slice a7 n7 c7):=FW14.out.cell 7;have k8:W14.cell? ⟨w.heap.size,8,none⟩=some (.slice none 0 0):=FW14.out.cell 8;have k9:W14.cell? ⟨w.heap.size,9,none⟩=some (.slice a9 n9 c9):=FW14.out.cell 9;have k10:W14.cell? ⟨w.heap.size,10,none⟩=some (.slice aA nA cA):=FW14.out.cell 10;have k11:W14.cell? ⟨w.heap.size,11,none⟩=some (.slice aB nB cB):=FW14.out.cell 11
 go_wp2_with fail
 clear kr k0 k1 k2 k3 k4 k5 k6 k7 k8 k9 k10 k11;refine Calls.mono (CA.out _ FW14.out.bel) ?_;rintro e W15 ⟨⟨r,rfl,hr⟩,hbe⟩;have FW15:Hid (Ak.Fm w w.heap.size rb #[.int .i64 10,.int .i64 0,.int .i64 0,.int .i64 x3,.int .i64 x4,.int .i64 x5,.slice a6 n6 c6,.slice a7 n7 c7,.slice none 0 0,.slice a9 n9 c9,.slice aA nA cA,.slice aB nB cB] true W15/\(r=true↔P)):=⟨FW14.out.below hbe,hr⟩;clear hbe hr
 cases r with
 |false=>
  have HN:Hid (¬Q):=λh=>absurd (FW15.out.2.2 (HQ.out.1 h).2.2.2.2.1) (by decide);go_wp2;go_ret;exact⟨Ak.Told.no HN.out,FW15.out.1.bel⟩
 |true=>
 have HP:Hid P:=FW15.out.2.1 (by first|rfl|trivial);have k8:W15.cell? ⟨w.heap.size,8,none⟩=some (.slice none 0 0):=FW15.out.1.cell 8;go_wp2;go_ret;exact⟨Ak.Told.yes (HQ.out.2 ⟨HH.out.1,HH.out.2.1,HH.out.2.2.1,HH.out.2.2.2,HP.out,trivial⟩),FW15.out.1.bel⟩
end Go.Proofs
