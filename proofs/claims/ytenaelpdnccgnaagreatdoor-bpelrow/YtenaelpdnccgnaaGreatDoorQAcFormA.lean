import Derived.Test.YtenaelpdnccgnaaGreatDoorQAcFormM
set_option maxRecDepth 100000
set_option maxHeartbeats 32000000
namespace Go.Proofs
open Go.RowKit Go.Shelf
theorem Tryz.fm_6 {x1 x2 x3 x4 x5:Int}{a6 a7 a8 a9 aA aB:Option Addr}{n6 c6 n7 c7 n8 c8 n9 c9 nA cA nB cB:Nat}{w:World}{hb:Bool}{P:Prop}(_:n7<=1000)(_:n8<=1000)(CH0:∀W,Below w.heap.size w W->Calls Tryz.prog 43 #[.agg #[.int .i64 6,.int .i64 x1,.int .i64 x2,.int .i64 x3,.int .i64 x4,.int .i64 x5,.slice a6 n6 c6,.slice a7 n7 c7,.slice a8 n8 c8,.slice a9 n9 c9,.slice aA nA cA,.slice aB nB cB]] W λe w'=>e=.returned (.bool hb)/\Below W.heap.size W w')(CA0:∀W,Below w.heap.size w W->Calls Tryz.prog 40 #[.agg #[.int .i64 6,.int .i64 x1,.int .i64 x2,.int .i64 x3,.int .i64 x4,.int .i64 x5,.slice a6 n6 c6,.slice a7 n7 c7,.slice none 0 0,.slice a9 n9 c9,.slice aA nA cA,.slice aB nB cB],.agg #[.int .i64 6,.int .i64 0,.int .i64 0,.int .i64 0,.int .i64 0,.int .i64 0,.slice none 0 0,.slice none 0 0,.slice none 0 0,.slice none 0 0,.slice none 0 0,.slice none 0 0]] W λe w'=>Ak.Told P e/\Below W.heap.size W w'):
  Calls Tryz.prog 26 #[.agg #[.int .i64 6,.int .i64 x1,.int .i64 x2,.int .i64 x3,.int .i64 x4,.int .i64 x5,.slice a6 n6 c6,.slice a7 n7 c7,.slice a8 n8 c8,.slice a9 n9 c9,.slice aA nA cA,.slice aB nB cB]] w λe w'=>Ak.Told (hb=true/\2<=n8/\P/\True) e/\Below w.heap.size w w':=by
 obtain⟨Q,hQ⟩:∃Q:Prop,(hb=true/\2<=n8/\P/\True)=Q:=⟨_,rfl⟩;rw[hQ];have HQ:Hid (Q↔_):=(Iff.of_eq hQ).symm;have CH:Hid _:=CH0;have CA:Hid _:=CA0;clear CH0 CA0 hQ;obtain⟨Y,hY⟩:∃z:Array Value,#[.int .i64 6,.int .i64 x1,.int .i64 x2,.int .i64 x3,.int .i64 x4,.int .i64 x5,.slice a6 n6 c6,.slice a7 n7 c7,.slice a8 n8 c8,.slice a9 n9 c9,.slice aA nA cA,.slice aB nB cB]=z:=⟨_,rfl⟩;rw[hY]at CH⊢;have ia:(Tryz.prog.info? 32).map (·.size)=some Y.size:=by rw[<-hY];exact Ak.iact
 have ha:=Tryz.underlying32;obtain⟨w1,hw1⟩:=pE (w.alloc (.cells Y 32));have HA:=Ak.fm_box hw1;have G1:=HA.out.2;have H1:Hid _:=hw1;clear hw1
 go_enter Tryz.func26,Tryz.ntmps26
 go_upto_region 1 with fail
 rw[H1.out]
 go_wp2_with (refine wpList_load_row rfl 32 _ rfl _ rfl 32 _ (0,0) _ G1 ha rfl ia ?_)
 refine Calls.mono (CH.out _ HA.out.1) ?_;rintro e W2 ⟨rfl,hb2⟩;clear H1 CH G1 ia ha
 go_upto_region 3 with fail
 obtain⟨W3,hW3⟩:=pE (W2.alloc (.cells #[.bool hb] 4));have FW3:=Ak.fm_new HA.out hb2 hW3;rw[hW3];obtain⟨rb,hrb⟩:=pE (W2.heap.size);rw[hrb]at FW3⊢;clear hW3 hb2 hrb HA;subst hY;have k0:W3.cell? ⟨w.heap.size,0,none⟩=some (.int .i64 6):=FW3.out.cell 0
 go_wp2_with fail
 refine Calls.mono (Tryz.hasNode_any 6 W3) ?_;rintro e W4 ⟨rfl,hw4⟩;obtain rfl:=hw4.symm;rw[show Ac.hasNodeB 6=false from rfl];obtain⟨r1,hr1⟩:=pE ((hb&&(decide (2<=n8))));have Hr1:Hid (r1=true↔hb=true/\2<=n8):=by show _↔_;rw[<-hr1];simp
 go_upto_region 32 with fail
 have kr:=FW3.out.cr;have fr:=FW3.out.fr;have k8:W3.cell? ⟨w.heap.size,8,none⟩=some (.slice a8 n8 c8):=FW3.out.cell 8
 go_cut []from 43 to 179 (λwx=>Hid (Ak.Fm w w.heap.size rb #[.int .i64 6,.int .i64 x1,.int .i64 x2,.int .i64 x3,.int .i64 x4,.int .i64 x5,.slice a6 n6 c6,.slice a7 n7 c7,.slice a8 n8 c8,.slice a9 n9 c9,.slice aA nA cA,.slice aB nB cB] r1 wx))
 case first=>
  cases hb with
  |false=>
   go_wp2_with fail
   go_meet;exact by rw[<-hr1];exact FW3.out.setR _
  |true=>
  by_cases q:¬(2<=n8)
  ·have dq:decide ((2:Int)<=n8)=false:=decide_eq_false (by omega)
   have dq2:¬(2:Int)<=n8:=by omega
   have e:r1=false:=by rw[<-hr1];simp[q]
   clear q hr1
   go_wp2_with fail
   go_meet;exact by rw[e];exact FW3.out.setR _
  replace q:=Decidable.not_not.1 q;have dq:decide ((2:Int)<=n8)=true:=decide_eq_true (by omega);have dq2:(2:Int)<=n8:=by omega
  have e:r1=true:=by rw[<-hr1];simp[q]
  clear q hr1
  go_wp2_with fail
  go_meet;exact by rw[e];exact FW3.out.setR _
 case rest=>
 rename World=>W11;have FW11:Hid _:=hcut;clear hcut kr fr k8 hr1;have kz8:W11.cell? ⟨w.heap.size,8,none⟩=some (.slice a8 n8 c8):=FW11.out.cell 8;have fz8:=FW11.out.fx 8
 go_upto_region 46 with fail
 obtain⟨W12,hW12⟩:=pE ((W11.setCell ⟨w.heap.size,8,none⟩ (.slice none 0 0)));rw[hW12];have FW12:Hid (Ak.Fm w w.heap.size rb #[.int .i64 6,.int .i64 x1,.int .i64 x2,.int .i64 x3,.int .i64 x4,.int .i64 x5,.slice a6 n6 c6,.slice a7 n7 c7,.slice none 0 0,.slice a9 n9 c9,.slice aA nA cA,.slice aB nB cB] r1 W12):=by rw[<-hW12];exact(FW11.out.setX 8 (.slice none 0 0))
 clear hW12 kz8 fz8;have HRA:Hid (r1=true↔hb=true/\2<=n8):=Hr1.out;have kr:=FW12.out.cr
 cases r1 with
 |false=>
  have HN:Hid (¬Q):=λh=>absurd (HRA.out.2 ⟨(HQ.out.1 h).1,(HQ.out.1 h).2.1⟩) (by decide);go_wp2;go_ret;exact⟨Ak.Told.no HN.out,FW12.out.bel⟩
 |true=>
 have hh:=HRA.out.1 rfl;have HH:Hid _:=hh;clear hh;have k0:W12.cell? ⟨w.heap.size,0,none⟩=some (.int .i64 6):=FW12.out.cell 0;have k1:W12.cell? ⟨w.heap.size,1,none⟩=some (.int .i64 x1):=FW12.out.cell 1;have k2:W12.cell? ⟨w.heap.size,2,none⟩=some (.int .i64 x2):=FW12.out.cell 2;have k3:W12.cell? ⟨w.heap.size,3,none⟩=some (.int .i64 x3):=FW12.out.cell 3;have k4:W12.cell? ⟨w.heap.size,4,none⟩=some (.int .i64 x4):=FW12.out.cell 4;have k5:W12.cell? ⟨w.heap.size,5,none⟩=some (.int .i64 x5):=FW12.out.cell 5;have k6:W12.cell? ⟨w.heap.size,6,none⟩=some (.slice a6 n6 c6):=FW12.out.cell 6;have k7:W12.cell? ⟨w.heap.size,7,none⟩=some (.slice a7 n7 c7):=FW12.out.cell 7;have k8:W12.cell? ⟨w.heap.size,8,none⟩=some (.slice none 0 0):=FW12.out.cell 8;have k9:W12.cell? ⟨w.heap.size,9,none⟩=some (.slice a9 n9 c9):=FW12.out.cell 9;have k10:W12.cell? ⟨w.heap.size,10,none⟩=some (.slice aA nA cA):=FW12.out.cell 10;have k11:W12.cell? ⟨w.heap.size,11,none⟩=some (.slice aB nB cB):=FW12.out.cell 11
 go_wp2_with fail
 clear kr k0 k1 k2 k3 k4 k5 k6 k7 k8 k9 k10 k11;refine Calls.mono (CA.out _ FW12.out.bel) ?_;rintro e W13 ⟨⟨r,rfl,hr⟩,hbe⟩;have FW13:Hid (Ak.Fm w w.heap.size rb #[.int .i64 6,.int .i64 x1,.int .i64 x2,.int .i64 x3,.int .i64 x4,.int .i64 x5,.slice a6 n6 c6,.slice a7 n7 c7,.slice none 0 0,.slice a9 n9 c9,.slice aA nA cA,.slice aB nB cB] true W13/\(r=true↔P)):=⟨FW12.out.below hbe,hr⟩;clear hbe hr
 cases r with
 |false=>
  have HN:Hid (¬Q):=λh=>absurd (FW13.out.2.2 (HQ.out.1 h).2.2.1) (by decide);go_wp2;go_ret;exact⟨Ak.Told.no HN.out,FW13.out.1.bel⟩
 |true=>
 have HP:Hid P:=FW13.out.2.1 (by first|rfl|trivial);have k8:W13.cell? ⟨w.heap.size,8,none⟩=some (.slice none 0 0):=FW13.out.1.cell 8;go_wp2;go_ret;exact⟨Ak.Told.yes (HQ.out.2 ⟨HH.out.1,HH.out.2,HP.out,trivial⟩),FW13.out.1.bel⟩
theorem Tryz.fm_7 {x1 x2 x3 x4 x5:Int}{a6 a7 a8 a9 aA aB:Option Addr}{n6 c6 n7 c7 n8 c8 n9 c9 nA cA nB cB:Nat}{w:World}{hb:Bool}{P:Prop}(_:n7<=1000)(_:n8<=1000)(CH0:∀W,Below w.heap.size w W->Calls Tryz.prog 43 #[.agg #[.int .i64 7,.int .i64 x1,.int .i64 x2,.int .i64 x3,.int .i64 x4,.int .i64 x5,.slice a6 n6 c6,.slice a7 n7 c7,.slice a8 n8 c8,.slice a9 n9 c9,.slice aA nA cA,.slice aB nB cB]] W λe w'=>e=.returned (.bool hb)/\Below W.heap.size W w')(CA0:∀W,Below w.heap.size w W->Calls Tryz.prog 40 #[.agg #[.int .i64 7,.int .i64 x1,.int .i64 x2,.int .i64 x3,.int .i64 x4,.int .i64 x5,.slice a6 n6 c6,.slice a7 n7 c7,.slice none 0 0,.slice a9 n9 c9,.slice aA nA cA,.slice aB nB cB],.agg #[.int .i64 7,.int .i64 0,.int .i64 0,.int .i64 0,.int .i64 0,.int .i64 0,.slice none 0 0,.slice none 0 0,.slice none 0 0,.slice none 0 0,.slice none 0 0,.slice none 0 0]] W λe w'=>Ak.Told P e/\Below W.heap.size W w'):
  Calls Tryz.prog 26 #[.agg #[.int .i64 7,.int .i64 x1,.int .i64 x2,.int .i64 x3,.int .i64 x4,.int .i64 x5,.slice a6 n6 c6,.slice a7 n7 c7,.slice a8 n8 c8,.slice a9 n9 c9,.slice aA nA cA,.slice aB nB cB]] w λe w'=>Ak.Told (hb=true/\2<=n8/\P/\True) e/\Below w.heap.size w w':=by
 obtain⟨Q,hQ⟩:∃Q:Prop,(hb=true/\2<=n8/\P/\True)=Q:=⟨_,rfl⟩;rw[hQ];have HQ:Hid (Q↔_):=(Iff.of_eq hQ).symm;have CH:Hid _:=CH0;have CA:Hid _:=CA0;clear CH0 CA0 hQ;obtain⟨Y,hY⟩:∃z:Array Value,#[.int .i64 7,.int .i64 x1,.int .i64 x2,.int .i64 x3,.int .i64 x4,.int .i64 x5,.slice a6 n6 c6,.slice a7 n7 c7,.slice a8 n8 c8,.slice a9 n9 c9,.slice aA nA cA,.slice aB nB cB]=z:=⟨_,rfl⟩;rw[hY]at CH⊢;have ia:(Tryz.prog.info? 32).map (·.size)=some Y.size:=by rw[<-hY];exact Ak.iact
 have ha:=Tryz.underlying32;obtain⟨w1,hw1⟩:=pE (w.alloc (.cells Y 32));have HA:=Ak.fm_box hw1;have G1:=HA.out.2;have H1:Hid _:=hw1;clear hw1
 go_enter Tryz.func26,Tryz.ntmps26
 go_upto_region 1 with fail
 rw[H1.out]
 go_wp2_with (refine wpList_load_row rfl 32 _ rfl _ rfl 32 _ (0,0) _ G1 ha rfl ia ?_)
 refine Calls.mono (CH.out _ HA.out.1) ?_;rintro e W2 ⟨rfl,hb2⟩;clear H1 CH G1 ia ha
 go_upto_region 3 with fail
 obtain⟨W3,hW3⟩:=pE (W2.alloc (.cells #[.bool hb] 4));have FW3:=Ak.fm_new HA.out hb2 hW3;rw[hW3];obtain⟨rb,hrb⟩:=pE (W2.heap.size);rw[hrb]at FW3⊢;clear hW3 hb2 hrb HA;subst hY;have k0:W3.cell? ⟨w.heap.size,0,none⟩=some (.int .i64 7):=FW3.out.cell 0
 go_wp2_with fail
 refine Calls.mono (Tryz.hasNode_any 7 W3) ?_;rintro e W4 ⟨rfl,hw4⟩;obtain rfl:=hw4.symm;rw[show Ac.hasNodeB 7=false from rfl];obtain⟨r1,hr1⟩:=pE ((hb&&(decide (2<=n8))));have Hr1:Hid (r1=true↔hb=true/\2<=n8):=by show _↔_;rw[<-hr1];simp
 go_upto_region 32 with fail
 have kr:=FW3.out.cr;have fr:=FW3.out.fr;have k8:W3.cell? ⟨w.heap.size,8,none⟩=some (.slice a8 n8 c8):=FW3.out.cell 8
 go_cut []from 43 to 179 (λwx=>Hid (Ak.Fm w w.heap.size rb #[.int .i64 7,.int .i64 x1,.int .i64 x2,.int .i64 x3,.int .i64 x4,.int .i64 x5,.slice a6 n6 c6,.slice a7 n7 c7,.slice a8 n8 c8,.slice a9 n9 c9,.slice aA nA cA,.slice aB nB cB] r1 wx))
 case first=>
  cases hb with
  |false=>
   go_wp2_with fail
   go_meet;exact by rw[<-hr1];exact FW3.out.setR _
  |true=>
  by_cases q:¬(2<=n8)
  ·have dq:decide ((2:Int)<=n8)=false:=decide_eq_false (by omega)
   have dq2:¬(2:Int)<=n8:=by omega
   have e:r1=false:=by rw[<-hr1];simp[q]
   clear q hr1
   go_wp2_with fail
   go_meet;exact by rw[e];exact FW3.out.setR _
  replace q:=Decidable.not_not.1 q;have dq:decide ((2:Int)<=n8)=true:=decide_eq_true (by omega);have dq2:(2:Int)<=n8:=by omega
  have e:r1=true:=by rw[<-hr1];simp[q]
  clear q hr1
  go_wp2_with fail
  go_meet;exact by rw[e];exact FW3.out.setR _
 case rest=>
 rename World=>W11;have FW11:Hid _:=hcut;clear hcut kr fr k8 hr1;have kz8:W11.cell? ⟨w.heap.size,8,none⟩=some (.slice a8 n8 c8):=FW11.out.cell 8;have fz8:=FW11.out.fx 8
 go_upto_region 46 with fail
 obtain⟨W12,hW12⟩:=pE ((W11.setCell ⟨w.heap.size,8,none⟩ (.slice none 0 0)));rw[hW12];have FW12:Hid (Ak.Fm w w.heap.size rb #[.int .i64 7,.int .i64 x1,.int .i64 x2,.int .i64 x3,.int .i64 x4,.int .i64 x5,.slice a6 n6 c6,.slice a7 n7 c7,.slice none 0 0,.slice a9 n9 c9,.slice aA nA cA,.slice aB nB cB] r1 W12):=by rw[<-hW12];exact(FW11.out.setX 8 (.slice none 0 0))
 clear hW12 kz8 fz8;have HRA:Hid (r1=true↔hb=true/\2<=n8):=Hr1.out;have kr:=FW12.out.cr
 cases r1 with
 |false=>
  have HN:Hid (¬Q):=λh=>absurd (HRA.out.2 ⟨(HQ.out.1 h).1,(HQ.out.1 h).2.1⟩) (by decide);go_wp2;go_ret;exact⟨Ak.Told.no HN.out,FW12.out.bel⟩
 |true=>
 have hh:=HRA.out.1 rfl;have HH:Hid _:=hh;clear hh;have k0:W12.cell? ⟨w.heap.size,0,none⟩=some (.int .i64 7):=FW12.out.cell 0;have k1:W12.cell? ⟨w.heap.size,1,none⟩=some (.int .i64 x1):=FW12.out.cell 1;have k2:W12.cell? ⟨w.heap.size,2,none⟩=some (.int .i64 x2):=FW12.out.cell 2;have k3:W12.cell? ⟨w.heap.size,3,none⟩=some (.int .i64 x3):=FW12.out.cell 3;have k4:W12.cell? ⟨w.heap.size,4,none⟩=some (.int .i64 x4):=FW12.out.cell 4;have k5:W12.cell? ⟨w.heap.size,5,none⟩=some (.int .i64 x5):=FW12.out.cell 5;have k6:W12.cell? ⟨w.heap.size,6,none⟩=some (.slice a6 n6 c6):=FW12.out.cell 6;have k7:W12.cell? ⟨w.heap.size,7,none⟩=some (.slice a7 n7 c7):=FW12.out.cell 7;have k8:W12.cell? ⟨w.heap.size,8,none⟩=some (.slice none 0 0):=FW12.out.cell 8;have k9:W12.cell? ⟨w.heap.size,9,none⟩=some (.slice a9 n9 c9):=FW12.out.cell 9;have k10:W12.cell? ⟨w.heap.size,10,none⟩=some (.slice aA nA cA):=FW12.out.cell 10;have k11:W12.cell? ⟨w.heap.size,11,none⟩=some (.slice aB nB cB):=FW12.out.cell 11
 go_wp2_with fail
 clear kr k0 k1 k2 k3 k4 k5 k6 k7 k8 k9 k10 k11;refine Calls.mono (CA.out _ FW12.out.bel) ?_;rintro e W13 ⟨⟨r,rfl,hr⟩,hbe⟩;have FW13:Hid (Ak.Fm w w.heap.size rb #[.int .i64 7,.int .i64 x1,.int .i64 x2,.int .i64 x3,.int .i64 x4,.int .i64 x5,.slice a6 n6 c6,.slice a7 n7 c7,.slice none 0 0,.slice a9 n9 c9,.slice aA nA cA,.slice aB nB cB] true W13/\(r=true↔P)):=⟨FW12.out.below hbe,hr⟩;clear hbe hr
 cases r with
 |false=>
  have HN:Hid (¬Q):=λh=>absurd (FW13.out.2.2 (HQ.out.1 h).2.2.1) (by decide);go_wp2;go_ret;exact⟨Ak.Told.no HN.out,FW13.out.1.bel⟩
 |true=>
 have HP:Hid P:=FW13.out.2.1 (by first|rfl|trivial);have k8:W13.cell? ⟨w.heap.size,8,none⟩=some (.slice none 0 0):=FW13.out.1.cell 8;go_wp2;go_ret;exact⟨Ak.Told.yes (HQ.out.2 ⟨HH.out.1,HH.out.2,HP.out,trivial⟩),FW13.out.1.bel⟩
theorem Tryz.fm_9 {x1 x2 x3 x4 x5:Int}{a6 a7 a8 a9 aA aB:Option Addr}{n6 c6 n7 c7 n8 c8 n9 c9 nA cA nB cB:Nat}{w:World}{hb:Bool}{P:Prop}(_:n7<=1000)(_:n8<=1000)(CH0:∀W,Below w.heap.size w W->Calls Tryz.prog 43 #[.agg #[.int .i64 9,.int .i64 x1,.int .i64 x2,.int .i64 x3,.int .i64 x4,.int .i64 x5,.slice a6 n6 c6,.slice a7 n7 c7,.slice a8 n8 c8,.slice a9 n9 c9,.slice aA nA cA,.slice aB nB cB]] W λe w'=>e=.returned (.bool hb)/\Below W.heap.size W w')(CA0:∀W,Below w.heap.size w W->Calls Tryz.prog 40 #[.agg #[.int .i64 9,.int .i64 0,.int .i64 x2,.int .i64 x3,.int .i64 x4,.int .i64 x5,.slice a6 n6 c6,.slice a7 n7 c7,.slice none 0 0,.slice a9 n9 c9,.slice aA nA cA,.slice aB nB cB],.agg #[.int .i64 9,.int .i64 0,.int .i64 0,.int .i64 0,.int .i64 0,.int .i64 0,.slice none 0 0,.slice none 0 0,.slice none 0 0,.slice none 0 0,.slice none 0 0,.slice none 0 0]] W λe w'=>Ak.Told P e/\Below W.heap.size W w'):
  Calls Tryz.prog 26 #[.agg #[.int .i64 9,.int .i64 x1,.int .i64 x2,.int .i64 x3,.int .i64 x4,.int .i64 x5,.slice a6 n6 c6,.slice a7 n7 c7,.slice a8 n8 c8,.slice a9 n9 c9,.slice aA nA cA,.slice aB nB cB]] w λe w'=>Ak.Told (hb=true/\(0<=x1/\x1<24)/\2<=n8/\P/\True) e/\Below w.heap.size w w':=by
 obtain⟨Q,hQ⟩:∃Q:Prop,(hb=true/\(0<=x1/\x1<24)/\2<=n8/\P/\True)=Q:=⟨_,rfl⟩;rw[hQ];have HQ:Hid (Q↔_):=(Iff.of_eq hQ).symm;have CH:Hid _:=CH0;have CA:Hid _:=CA0;clear CH0 CA0 hQ;obtain⟨Y,hY⟩:∃z:Array Value,#[.int .i64 9,.int .i64 x1,.int .i64 x2,.int .i64 x3,.int .i64 x4,.int .i64 x5,.slice a6 n6 c6,.slice a7 n7 c7,.slice a8 n8 c8,.slice a9 n9 c9,.slice aA nA cA,.slice aB nB cB]=z:=⟨_,rfl⟩;rw[hY]at CH⊢;have ia:(Tryz.prog.info? 32).map (·.size)=some Y.size:=by rw[<-hY];exact Ak.iact
 have ha:=Tryz.underlying32;obtain⟨w1,hw1⟩:=pE (w.alloc (.cells Y 32));have HA:=Ak.fm_box hw1;have G1:=HA.out.2;have H1:Hid _:=hw1;clear hw1
 go_enter Tryz.func26,Tryz.ntmps26
 go_upto_region 1 with fail
 rw[H1.out]
 go_wp2_with (refine wpList_load_row rfl 32 _ rfl _ rfl 32 _ (0,0) _ G1 ha rfl ia ?_)
 refine Calls.mono (CH.out _ HA.out.1) ?_;rintro e W2 ⟨rfl,hb2⟩;clear H1 CH G1 ia ha
 go_upto_region 3 with fail
 obtain⟨W3,hW3⟩:=pE (W2.alloc (.cells #[.bool hb] 4));have FW3:=Ak.fm_new HA.out hb2 hW3;rw[hW3];obtain⟨rb,hrb⟩:=pE (W2.heap.size);rw[hrb]at FW3⊢;clear hW3 hb2 hrb HA;subst hY;have k0:W3.cell? ⟨w.heap.size,0,none⟩=some (.int .i64 9):=FW3.out.cell 0
 go_wp2_with fail
 refine Calls.mono (Tryz.hasNode_any 9 W3) ?_;rintro e W4 ⟨rfl,hw4⟩;obtain rfl:=hw4.symm;rw[show Ac.hasNodeB 9=true from rfl];have kx:W3.cell? ⟨w.heap.size,1,none⟩=some (.int .i64 x1):=FW3.out.cell 1
 go_wp2_with fail
 refine Calls.mono (Tryz.atake_any w.heap.size 1 rb x1 24 hb W3 kx (FW3.out.fx 1) FW3.out.cr FW3.out.fr FW3.out.ne) ?_;rintro e W11 ⟨rfl,hw2⟩;obtain⟨r1,hr1⟩:=pE ((hb&&(decide (0<=x1)&&decide (x1<24))));have FW11:Hid (Ak.Fm w w.heap.size rb #[.int .i64 9,.int .i64 0,.int .i64 x2,.int .i64 x3,.int .i64 x4,.int .i64 x5,.slice a6 n6 c6,.slice a7 n7 c7,.slice a8 n8 c8,.slice a9 n9 c9,.slice aA nA cA,.slice aB nB cB] r1 W11):=by show Ak.Fm _ _ _ _ _ _;rw[hw2,hr1];exact(FW3.out.setR r1).setX 1 (.int .i64 0)
 have Hr1:Hid (r1=true↔hb=true/\(0<=x1/\x1<24)):=by show _↔_;rw[<-hr1];simp
 clear hw2 hr1 kx;have kk:W11.cell? ⟨w.heap.size,0,none⟩=some (.int .i64 9):=FW11.out.cell 0;obtain⟨r2,hr2⟩:=pE ((r1&&(decide (2<=n8))));have Hr2:Hid (r2=true↔r1=true/\2<=n8):=by show _↔_;rw[<-hr2];simp
 go_upto_region 32 with fail
 have kr:=FW11.out.cr;have fr:=FW11.out.fr;have k8:W11.cell? ⟨w.heap.size,8,none⟩=some (.slice a8 n8 c8):=FW11.out.cell 8
 go_cut []from 43 to 179 (λwx=>Hid (Ak.Fm w w.heap.size rb #[.int .i64 9,.int .i64 0,.int .i64 x2,.int .i64 x3,.int .i64 x4,.int .i64 x5,.slice a6 n6 c6,.slice a7 n7 c7,.slice a8 n8 c8,.slice a9 n9 c9,.slice aA nA cA,.slice aB nB cB] r2 wx))
 case first=>
  cases r1 with
  |false=>
   go_wp2_with fail
   go_meet;exact by rw[<-hr2];exact FW11.out.setR _
  |true=>
  by_cases q:¬(2<=n8)
  ·have dq:decide ((2:Int)<=n8)=false:=decide_eq_false (by omega)
   have dq2:¬(2:Int)<=n8:=by omega
   have e:r2=false:=by rw[<-hr2];simp[q]
   clear q hr2
   go_wp2_with fail
   go_meet;exact by rw[e];exact FW11.out.setR _
  replace q:=Decidable.not_not.1 q;have dq:decide ((2:Int)<=n8)=true:=decide_eq_true (by omega);have dq2:(2:Int)<=n8:=by omega
  have e:r2=true:=by rw[<-hr2];simp[q]
  clear q hr2
  go_wp2_with fail
  go_meet;exact by rw[e];exact FW11.out.setR _
 case rest=>
 rename World=>W12;have FW12:Hid _:=hcut;clear hcut kr fr k8 hr2;have kz8:W12.cell? ⟨w.heap.size,8,none⟩=some (.slice a8 n8 c8):=FW12.out.cell 8;have fz8:=FW12.out.fx 8
 go_upto_region 46 with fail
 obtain⟨W13,hW13⟩:=pE ((W12.setCell ⟨w.heap.size,8,none⟩ (.slice none 0 0)));rw[hW13];have FW13:Hid (Ak.Fm w w.heap.size rb #[.int .i64 9,.int .i64 0,.int .i64 x2,.int .i64 x3,.int .i64 x4,.int .i64 x5,.slice a6 n6 c6,.slice a7 n7 c7,.slice none 0 0,.slice a9 n9 c9,.slice aA nA cA,.slice aB nB cB] r2 W13):=by rw[<-hW13];exact(FW12.out.setX 8 (.slice none 0 0))
 clear hW13 kz8 fz8;have HRA:Hid (r2=true↔hb=true/\(0<=x1/\x1<24)/\2<=n8):=by show _↔_;rw[Hr2.out,Hr1.out];simp only[and_assoc]
 have kr:=FW13.out.cr
 cases r2 with
 |false=>
  have HN:Hid (¬Q):=λh=>absurd (HRA.out.2 ⟨(HQ.out.1 h).1,(HQ.out.1 h).2.1,(HQ.out.1 h).2.2.1⟩) (by decide);go_wp2;go_ret;exact⟨Ak.Told.no HN.out,FW13.out.bel⟩
 |true=>
 have hh:=HRA.out.1 rfl;have HH:Hid _:=hh;clear hh;have k0:W13.cell? ⟨w.heap.size,0,none⟩=some (.int .i64 9):=FW13.out.cell 0;have k1:W13.cell? ⟨w.heap.size,1,none⟩=some (.int .i64 0):=FW13.out.cell 1;have k2:W13.cell? ⟨w.heap.size,2,none⟩=some (.int .i64 x2):=FW13.out.cell 2;have k3:W13.cell? ⟨w.heap.size,3,none⟩=some (.int .i64 x3):=FW13.out.cell 3;have k4:W13.cell? ⟨w.heap.size,4,none⟩=some (.int .i64 x4):=FW13.out.cell 4;have k5:W13.cell? ⟨w.heap.size,5,none⟩=some (.int .i64 x5):=FW13.out.cell 5;have k6:W13.cell? ⟨w.heap.size,6,none⟩=some (.slice a6 n6 c6):=FW13.out.cell 6;have k7:W13.cell? ⟨w.heap.size,7,none⟩=some (.slice a7 n7 c7):=FW13.out.cell 7;have k8:W13.cell? ⟨w.heap.size,8,none⟩=some (.slice none 0 0):=FW13.out.cell 8;have k9:W13.cell? ⟨w.heap.size,9,none⟩=some (.slice a9 n9 c9):=FW13.out.cell 9;have k10:W13.cell? ⟨w.heap.size,10,none⟩=some (.slice aA nA cA):=FW13.out.cell 10;have k11:W13.cell? ⟨w.heap.size,11,none⟩=some (.slice aB nB cB):=FW13.out.cell 11
 go_wp2_with fail
 clear kr k0 k1 k2 k3 k4 k5 k6 k7 k8 k9 k10 k11;refine Calls.mono (CA.out _ FW13.out.bel) ?_;rintro e W14 ⟨⟨r,rfl,hr⟩,hbe⟩;have FW14:Hid (Ak.Fm w w.heap.size rb #[.int .i64 9,.int .i64 0,.int .i64 x2,.int .i64 x3,.int .i64 x4,.int .i64 x5,.slice a6 n6 c6,.slice a7 n7 c7,.slice none 0 0,.slice a9 n9 c9,.slice aA nA cA,.slice aB nB cB] true W14/\(r=true↔P)):=⟨FW13.out.below hbe,hr⟩;clear hbe hr
 cases r with
 |false=>
  have HN:Hid (¬Q):=λh=>absurd (FW14.out.2.2 (HQ.out.1 h).2.2.2.1) (by decide);go_wp2;go_ret;exact⟨Ak.Told.no HN.out,FW14.out.1.bel⟩
 |true=>
 have HP:Hid P:=FW14.out.2.1 (by first|rfl|trivial);have k8:W14.cell? ⟨w.heap.size,8,none⟩=some (.slice none 0 0):=FW14.out.1.cell 8;go_wp2;go_ret;exact⟨Ak.Told.yes (HQ.out.2 ⟨HH.out.1,HH.out.2.1,HH.out.2.2,HP.out,trivial⟩),FW14.out.1.bel⟩
end Go.Proofs
