import Derived.Test.YtenaelpdnccgnaaGreatDoorQAcFormM
set_option maxRecDepth 100000
set_option maxHeartbeats 32000000
namespace Go.Proofs
open Go.RowKit Go.Shelf
theorem Tryz.fm_12b {x1 x2 x3 x4 x5:Int}{a6 a7 a8 a9 aA aB:Option Addr}{n6 c6 n7 c7 n8 c8 n9 c9 nA cA nB cB:Nat}{w:World}{hb:Bool}{P:Prop}(_:n7<=1000)(_:n8<=1000)(CH0:∀W,Below w.heap.size w W->Calls Tryz.prog 43 #[.agg #[.int .i64 12,.int .i64 x1,.int .i64 x2,.int .i64 x3,.int .i64 x4,.int .i64 x5,.slice a6 n6 c6,.slice a7 n7 c7,.slice a8 n8 c8,.slice a9 n9 c9,.slice aA nA cA,.slice aB nB cB]] W λe w'=>e=.returned (.bool hb)/\Below W.heap.size W w')(CA0:∀W,Below w.heap.size w W->Calls Tryz.prog 40 #[.agg #[.int .i64 12,.int .i64 0,.int .i64 0,.int .i64 x3,.int .i64 x4,.int .i64 x5,.slice a6 n6 c6,.slice a7 n7 c7,.slice a8 n8 c8,.slice a9 n9 c9,.slice aA nA cA,.slice aB nB cB],.agg #[.int .i64 12,.int .i64 0,.int .i64 0,.int .i64 0,.int .i64 0,.int .i64 0,.slice none 0 0,.slice none 0 0,.slice none 0 0,.slice none 0 0,.slice none 0 0,.slice none 0 0]] W λe w'=>Ak.Told P e/\Below W.heap.size W w')(ha:¬x2=3):
  Calls Tryz.prog 26 #[.agg #[.int .i64 12,.int .i64 x1,.int .i64 x2,.int .i64 x3,.int .i64 x4,.int .i64 x5,.slice a6 n6 c6,.slice a7 n7 c7,.slice a8 n8 c8,.slice a9 n9 c9,.slice aA nA cA,.slice aB nB cB]] w λe w'=>Ak.Told (hb=true/\(0<=x1/\x1<24)/\1<=x2/\(0<=x2/\x2<5)/\P/\n8=0) e/\Below w.heap.size w w':=by
 obtain⟨Q,hQ⟩:∃Q:Prop,(hb=true/\(0<=x1/\x1<24)/\1<=x2/\(0<=x2/\x2<5)/\P/\n8=0)=Q:=⟨_,rfl⟩;rw[hQ];have HQ:Hid (Q↔_):=(Iff.of_eq hQ).symm;have CH:Hid _:=CH0;have CA:Hid _:=CA0;have da:(x2==3)=false:=by simpa using ha
 clear ha;clear CH0 CA0 hQ;obtain⟨Y,hY⟩:∃z:Array Value,#[.int .i64 12,.int .i64 x1,.int .i64 x2,.int .i64 x3,.int .i64 x4,.int .i64 x5,.slice a6 n6 c6,.slice a7 n7 c7,.slice a8 n8 c8,.slice a9 n9 c9,.slice aA nA cA,.slice aB nB cB]=z:=⟨_,rfl⟩;rw[hY]at CH⊢;have ia:(Tryz.prog.info? 32).map (·.size)=some Y.size:=by rw[<-hY];exact Ak.iact
 have ha:=Tryz.underlying32;obtain⟨w1,hw1⟩:=pE (w.alloc (.cells Y 32));have HA:=Ak.fm_box hw1;have G1:=HA.out.2;have H1:Hid _:=hw1;clear hw1
 go_enter Tryz.func26,Tryz.ntmps26
 go_upto_region 1 with fail
 rw[H1.out]
 go_wp2_with (refine wpList_load_row rfl 32 _ rfl _ rfl 32 _ (0,0) _ G1 ha rfl ia ?_)
 refine Calls.mono (CH.out _ HA.out.1) ?_;rintro e W2 ⟨rfl,hb2⟩;clear H1 CH G1 ia ha
 go_upto_region 3 with fail
 obtain⟨W3,hW3⟩:=pE (W2.alloc (.cells #[.bool hb] 4));have FW3:=Ak.fm_new HA.out hb2 hW3;rw[hW3];obtain⟨rb,hrb⟩:=pE (W2.heap.size);rw[hrb]at FW3⊢;clear hW3 hb2 hrb HA;subst hY;have k0:W3.cell? ⟨w.heap.size,0,none⟩=some (.int .i64 12):=FW3.out.cell 0
 go_wp2_with fail
 refine Calls.mono (Tryz.hasNode_any 12 W3) ?_;rintro e W4 ⟨rfl,hw4⟩;obtain rfl:=hw4.symm;rw[show Ac.hasNodeB 12=true from rfl];have kx:W3.cell? ⟨w.heap.size,1,none⟩=some (.int .i64 x1):=FW3.out.cell 1
 go_wp2_with fail
 refine Calls.mono (Tryz.atake_any w.heap.size 1 rb x1 24 hb W3 kx (FW3.out.fx 1) FW3.out.cr FW3.out.fr FW3.out.ne) ?_;rintro e W11 ⟨rfl,hw2⟩;obtain⟨r1,hr1⟩:=pE ((hb&&(decide (0<=x1)&&decide (x1<24))));have FW11:Hid (Ak.Fm w w.heap.size rb #[.int .i64 12,.int .i64 0,.int .i64 x2,.int .i64 x3,.int .i64 x4,.int .i64 x5,.slice a6 n6 c6,.slice a7 n7 c7,.slice a8 n8 c8,.slice a9 n9 c9,.slice aA nA cA,.slice aB nB cB] r1 W11):=by show Ak.Fm _ _ _ _ _ _;rw[hw2,hr1];exact(FW3.out.setR r1).setX 1 (.int .i64 0)
 have Hr1:Hid (r1=true↔hb=true/\(0<=x1/\x1<24)):=by show _↔_;rw[<-hr1];simp
 clear hw2 hr1 kx;have kk:W11.cell? ⟨w.heap.size,0,none⟩=some (.int .i64 12):=FW11.out.cell 0;have kk2:W11.cell? ⟨w.heap.size,2,none⟩=some (.int .i64 x2):=FW11.out.cell 2;obtain⟨r2,hr2⟩:=pE ((r1&&(decide (1<=x2))));have Hr2:Hid (r2=true↔r1=true/\1<=x2):=by show _↔_;rw[<-hr2];simp
 go_upto_region 38 with fail
 have kr:=FW11.out.cr;have fr:=FW11.out.fr;have k2:W11.cell? ⟨w.heap.size,2,none⟩=some (.int .i64 x2):=FW11.out.cell 2
 go_cut []from 43 to 179 (λwx=>Hid (Ak.Fm w w.heap.size rb #[.int .i64 12,.int .i64 0,.int .i64 x2,.int .i64 x3,.int .i64 x4,.int .i64 x5,.slice a6 n6 c6,.slice a7 n7 c7,.slice a8 n8 c8,.slice a9 n9 c9,.slice aA nA cA,.slice aB nB cB] r2 wx))
 case first=>
  cases r1 with
  |false=>
   go_wp2_with fail
   go_meet;exact by rw[<-hr2];exact FW11.out.setR _
  |true=>
  by_cases q:¬(1<=x2)
  ·have dq:decide ((1:Int)<=x2)=false:=decide_eq_false (by omega)
   have e:r2=false:=by rw[<-hr2];simp[q]
   clear q hr2
   go_wp2_with fail
   go_meet;exact by rw[e];exact FW11.out.setR _
  replace q:=Decidable.not_not.1 q;have dq:decide ((1:Int)<=x2)=true:=decide_eq_true (by omega);have e:r2=true:=by rw[<-hr2];simp[q]
  clear q hr2
  go_wp2_with fail
  go_meet;exact by rw[e];exact FW11.out.setR _
 case rest=>
 rename World=>W12;have FW12:Hid _:=hcut;clear hcut kr fr k2 hr2;have kx:W12.cell? ⟨w.heap.size,2,none⟩=some (.int .i64 x2):=FW12.out.cell 2
 go_wp2_with fail
 refine Calls.mono (Tryz.atake_any w.heap.size 2 rb x2 5 r2 W12 kx (FW12.out.fx 2) FW12.out.cr FW12.out.fr FW12.out.ne) ?_;rintro e W13 ⟨rfl,hw2⟩;obtain⟨r3,hr3⟩:=pE ((r2&&(decide (0<=x2)&&decide (x2<5))));have FW13:Hid (Ak.Fm w w.heap.size rb #[.int .i64 12,.int .i64 0,.int .i64 0,.int .i64 x3,.int .i64 x4,.int .i64 x5,.slice a6 n6 c6,.slice a7 n7 c7,.slice a8 n8 c8,.slice a9 n9 c9,.slice aA nA cA,.slice aB nB cB] r3 W13):=by show Ak.Fm _ _ _ _ _ _;rw[hw2,hr3];exact(FW12.out.setR r3).setX 2 (.int .i64 0)
 have Hr3:Hid (r3=true↔r2=true/\(0<=x2/\x2<5)):=by show _↔_;rw[<-hr3];simp
 clear hw2 hr3 kx;have HRA:Hid (r3=true↔hb=true/\(0<=x1/\x1<24)/\1<=x2/\(0<=x2/\x2<5)):=by show _↔_;rw[Hr3.out,Hr2.out,Hr1.out];simp only[and_assoc]
 have kr:=FW13.out.cr
 cases r3 with
 |false=>
  have HN:Hid (¬Q):=λh=>absurd (HRA.out.2 ⟨(HQ.out.1 h).1,(HQ.out.1 h).2.1,(HQ.out.1 h).2.2.1,(HQ.out.1 h).2.2.2.1⟩) (by decide);go_wp2;go_ret;exact⟨Ak.Told.no HN.out,FW13.out.bel⟩
 |true=>
 have hh:=HRA.out.1 rfl;have HH:Hid _:=hh;clear hh;have k0:W13.cell? ⟨w.heap.size,0,none⟩=some (.int .i64 12):=FW13.out.cell 0;have k1:W13.cell? ⟨w.heap.size,1,none⟩=some (.int .i64 0):=FW13.out.cell 1;have k2:W13.cell? ⟨w.heap.size,2,none⟩=some (.int .i64 0):=FW13.out.cell 2;have k3:W13.cell? ⟨w.heap.size,3,none⟩=some (.int .i64 x3):=FW13.out.cell 3;have k4:W13.cell? ⟨w.heap.size,4,none⟩=some (.int .i64 x4):=FW13.out.cell 4;have k5:W13.cell? ⟨w.heap.size,5,none⟩=some (.int .i64 x5):=FW13.out.cell 5;have k6:W13.cell? ⟨w.heap.size,6,none⟩=some (.slice a6 n6 c6):=FW13.out.cell 6;have k7:W13.cell? ⟨w.heap.size,7,none⟩=some (.slice a7 n7 c7):=FW13.out.cell 7;have k8:W13.cell? ⟨w.heap.size,8,none⟩=some (.slice a8 n8 c8):=FW13.out.cell 8;have k9:W13.cell? ⟨w.heap.size,9,none⟩=some (.slice a9 n9 c9):=FW13.out.cell 9;have k10:W13.cell? ⟨w.heap.size,10,none⟩=some (.slice aA nA cA):=FW13.out.cell 10;have k11:W13.cell? ⟨w.heap.size,11,none⟩=some (.slice aB nB cB):=FW13.out.cell 11
 go_wp2_with fail
 clear kr k0 k1 k2 k3 k4 k5 k6 k7 k8 k9 k10 k11;refine Calls.mono (CA.out _ FW13.out.bel) ?_;rintro e W14 ⟨⟨r,rfl,hr⟩,hbe⟩;have FW14:Hid (Ak.Fm w w.heap.size rb #[.int .i64 12,.int .i64 0,.int .i64 0,.int .i64 x3,.int .i64 x4,.int .i64 x5,.slice a6 n6 c6,.slice a7 n7 c7,.slice a8 n8 c8,.slice a9 n9 c9,.slice aA nA cA,.slice aB nB cB] true W14/\(r=true↔P)):=⟨FW13.out.below hbe,hr⟩;clear hbe hr
 cases r with
 |false=>
  have HN:Hid (¬Q):=λh=>absurd (FW14.out.2.2 (HQ.out.1 h).2.2.2.2.1) (by decide);go_wp2;go_ret;exact⟨Ak.Told.no HN.out,FW14.out.1.bel⟩
 |true=>
 have HP:Hid P:=FW14.out.2.1 (by first|rfl|trivial);have k8:W14.cell? ⟨w.heap.size,8,none⟩=some (.slice a8 n8 c8):=FW14.out.1.cell 8
 by_cases qz:n8=0
 ·have dz:((n8:Int)==0)=true:=by simp;omega
  have HZ:Hid (n8=0):=qz;clear qz;go_wp2;go_ret;exact⟨Ak.Told.yes (HQ.out.2 ⟨HH.out.1,HH.out.2.1,HH.out.2.2.1,HH.out.2.2.2,HP.out,HZ.out⟩),FW14.out.1.bel⟩
 have dz:((n8:Int)==0)=false:=by simp;omega
 have HN:Hid (¬Q):=λh=>qz (HQ.out.1 h).2.2.2.2.2;clear qz;go_wp2;go_ret;exact⟨Ak.Told.no HN.out,FW14.out.1.bel⟩
theorem Tryz.r16conds_any (cs:List Tm)(a:Option Addr)(cap:Nat)(other:Int)(e:Nat)(w:World)(hT:Ac.Tms w w.heap.size e a cs)(hsz:∀x∈cs,x.size<=2147483647)(hn:cs.length<=2147483647):
  Calls Tryz.prog 77 #[.slice a cs.length cap,.int .i64 other] w λe w'=>e=.returned (.bool ((decide (0<=other)&&decide (other<cs.length))&&Ac.choiceB cs other))/\Below w.heap.size w w':=by
 obtain⟨n,hln⟩:=pE (cs.length);obtain⟨R,hR⟩:=pE (Ac.choiceB cs other);have H:Hid (Ac.Tms w w.heap.size e a cs/\(∀x∈cs,x.size<=2147483647)/\cs.length=n/\Ac.choiceB cs other=R):=⟨hT,hsz,hln,hR⟩;rw[hln]at hn;rw[hln,hR];clear hT hsz hln hR;have ez:((n:Nat):Int)=(n:Int):=rfl;clear ez
 by_cases o1:other<0
 ·have f1:decide (other<0)=true:=decide_eq_true o1
  have HQ:Hid (((decide (0<=other)&&decide (other<(n:Int)))&&R)=false):=by show _=_;rw[decide_eq_false (show¬0<=other by omega)];rfl
  rw[HQ.out];clear o1 HQ
  go_enter Tryz.func77,Tryz.ntmps77
  go_wp2;go_ret;exact⟨rfl,Below.refl _ w⟩
 have f1:decide (other<0)=false:=decide_eq_false o1
 by_cases o2:(n:Int)<=other
 ·have f2:decide ((n:Int)<=other)=true:=decide_eq_true o2
  have HQ:Hid (((decide (0<=other)&&decide (other<(n:Int)))&&R)=false):=by show _=_;rw[decide_eq_false (show¬other<(n:Int)by omega),Bool.and_false];rfl
  rw[HQ.out];clear o1 o2 HQ
  go_enter Tryz.func77,Tryz.ntmps77
  go_wp2;go_ret;exact⟨rfl,Below.refl _ w⟩
 have f2:decide ((n:Int)<=other)=false:=decide_eq_false o2;rw[decide_eq_true (show 0<=other by omega),decide_eq_true (show other<(n:Int)by omega),Bool.true_and,Bool.true_and];clear o1 o2
 go_enter Tryz.func77,Tryz.ntmps77
 go_wp2
 go_loopg [5,17] n (λgk _ i wr=>∃j:Nat,gk+j=n/\i=.int .i64 j/\Hid ((∀i (h:i<cs.length),i<j->Ac.choiceAt other i cs[i]=true)/\Below w.heap.size w wr))
 case atStart=>exact⟨0,by omega,rfl,λi _ h=>absurd h (by omega),Below.refl _ w⟩
 case round=>
  obtain⟨j,hj,rfl,HJ⟩:=hrel
  by_cases hjn:j<n
  rotate_left
  ·have hd:decide ((j:Int)<n)=false:=decide_eq_false (by omega)
   go_wp2;go_ret;refine⟨Tk.ret_bool ?_,HJ.out.2⟩;rw[<-H.out.2.2.2];exact(Ac.choice_yes λi h=>HJ.out.1 i h (by have:=H.out.2.2.1;omega)).symm
  have hd:decide ((j:Int)<n)=true:=decide_eq_true (by omega);have hjk:j<cs.length:=by rw[H.out.2.2.1];exact hjn
  obtain⟨g,off,u,rfl,hg,q0,q1,q2,hlu⟩:=H.out.1 j hjk;obtain⟨x,hx⟩:=pE (cs[j]);have hxs:=H.out.2.1 _ (List.getElem_mem hjk);rw[hx]at q0 q1 hlu hxs;rw[<-HJ.out.2.cell (p:=⟨g,off+j*3,none⟩) hg]at q0;rw[<-HJ.out.2.cell (p:=⟨g,off+j*3+1,none⟩) hg]at q1;rw[<-HJ.out.2.cell (p:=⟨g,off+j*3+2,none⟩) hg]at q2;obtain⟨ua,uc,rfl⟩:=hlu.shape;obtain⟨un,hun⟩:=pE (x.ks.length);obtain⟨y0,hy0⟩:=pE (x.op);obtain⟨y1,hy1⟩:=pE (x.num);rw[hun]at q2 hlu;rw[hy0]at q0;rw[hy1]at q1;have BA:Below wr.heap.size wr (wr.alloc (.cells #[.int .i64 y0,.int .i64 y1,.slice ua un uc] 24)):=(Below.refl _ wr).alloc (Nat.le_refl _) _;obtain⟨W1,hW1⟩:=pE (wr.alloc (.cells #[.int .i64 y0,.int .i64 y1,.slice ua un uc] 24));rw[hW1]at BA;have bw:Below w.heap.size w W1:=HJ.out.2.trans (BA.mono HJ.out.2.size);have hlW:Tm.Lies W1 W1.heap.size e (.slice ua un uc) x:=(hlu.below bw).wider bw.size;have CS:=Tryz.r16none_any e x (.slice ua un uc) W1 hlW hxs;have CO:=Tryz.r16of_any 2 e x (.slice ua un uc) W1 hlW hxs;rw[hy0,hy1]at CS CO;have HS:Hid _:=CS;have HO:Hid _:=CO;have HX:Hid (cs[j]=x/\Below w.heap.size w W1):=⟨hx,bw⟩;have HW:Hid (wr.alloc (.cells #[.int .i64 y0,.int .i64 y1,.slice ua un uc] 24)=W1):=hW1
  have GV:W1.heap[wr.heap.size]? =some (.cells #[.int .i64 y0,.int .i64 y1,.slice ua un uc] 24 (0,0)):=by rw[<-hW1];exact heap_alloc_new wr _
  have v0:W1.cell? ⟨wr.heap.size,0,none⟩=some (.int .i64 y0):=by simp[World.cell?,GV]
  have v1:W1.cell? ⟨wr.heap.size,1,none⟩=some (.int .i64 y1):=by simp[World.cell?,GV]
  have v2:W1.cell? ⟨wr.heap.size,2,none⟩=some (.slice ua un uc):=by simp[World.cell?,GV]
  have hj0:(0:Int)<=j:=by omega
  have hjn':(j:Int)<n:=by omega
  clear BA hW1 bw hlW CS CO hlu hxs hx hun hy0 hy1 GV
  by_cases hjo:(j:Int)=other
  ·have e1:((j:Int)==other)=true:=by simpa using hjo
   have e2:((j:Int) !=other)=false:=by simpa using hjo
   have HE:Hid (Ac.choiceAt other j x=Nt.zeroB x):=by show _=_;unfold Ac.choiceAt;rw[if_pos hjo]
   obtain⟨r,hr⟩:=pE (Nt.zeroB x);rw[hr]at HE HS;clear hjo HO hr
   go_upto_region 6 with fail
   rw[HW.out]
   go_wp2_with fail
   refine Calls.mono HS.out ?_;rintro e W2 ⟨rfl,hb2⟩;have B2:Hid (Below w.heap.size w W2):=HX.out.2.trans (hb2.mono HX.out.2.size);clear hb2 HS
   cases r with
   |true=>
    go_wp2;go_roundg (gk-1)
    case measure=>omega
    case rel=>
     refine⟨j+1,by omega,by go_num,λi h hi=> ?_,B2.out⟩
     rcases Nat.lt_or_ge i j with h1|h1
     ·exact HJ.out.1 i h h1
     have:i=j:=by omega
     subst this;rw[HX.out.1,HE.out]
   |false=>
    go_wp2;go_ret;refine⟨Tk.ret_bool ?_,B2.out⟩;rw[<-H.out.2.2.2];exact(Ac.choice_no hjk (by rw[HX.out.1,HE.out])).symm
  have e1:((j:Int)==other)=false:=by simpa using hjo
  have e2:((j:Int) !=other)=true:=by simpa using hjo
  have HE:Hid (Ac.choiceAt other j x=Nt.ofB x 2):=by show _=_;unfold Ac.choiceAt;rw[if_neg hjo]
  obtain⟨r,hr⟩:=pE (Nt.ofB x 2);rw[hr]at HE HO;clear hjo HS hr
  go_upto_region 6 with fail
  rw[HW.out]
  go_wp2_with fail
  refine Calls.mono HO.out ?_;rintro e W2 ⟨rfl,hb2⟩;have B2:Hid (Below w.heap.size w W2):=HX.out.2.trans (hb2.mono HX.out.2.size);clear hb2 HO
  cases r with
  |true=>
   go_wp2;go_roundg (gk-1)
   case measure=>omega
   case rel=>
    refine⟨j+1,by omega,by go_num,λi h hi=> ?_,B2.out⟩
    rcases Nat.lt_or_ge i j with h1|h1
    ·exact HJ.out.1 i h h1
    have:i=j:=by omega
    subst this;rw[HX.out.1,HE.out]
  |false=>
   go_wp2;go_ret;refine⟨Tk.ret_bool ?_,B2.out⟩;rw[<-H.out.2.2.2];exact(Ac.choice_no hjk (by rw[HX.out.1,HE.out])).symm
namespace Ac
structure OwnB (w:World)(B e:Nat)(V:Vs)(T:Ac):Prop where
 t:Tm.Lies w B e V.t T.t
 c:∃a cap,V.c=.slice a T.cs.length cap/\Tms w B e a T.cs
 n:∃a cap,V.n=.slice a T.ns.length cap/\Nt.Nds w B e a T.ns
 f:∃a cap,V.f=.slice a T.fs.length cap/\Nt.Fls w B e a T.fs
theorem OwnB.keep {w w':World}{B e:Nat}{V:Vs}{T:Ac}(h:OwnB w B e V T)(hk:∀k,k<B->w'.heap[k]? =w.heap[k]?):OwnB w' B e V T:=by
 obtain⟨h1,⟨a2,c2,e2,h2⟩,⟨a4,c4,e4,h4⟩,⟨a5,c5,e5,h5⟩⟩:=h;exact⟨h1.keep hk,⟨a2,c2,e2,h2.keep hk⟩,⟨a4,c4,e4,nds_keep h4 hk⟩,⟨a5,c5,e5,fls_keep h5 hk⟩⟩
theorem Own.ownB {w:World}{B e:Nat}{V:Vs}{T:Ac}(h:Own w B e V T)(vk vl:Value):OwnB w B e ⟨V.t,V.c,vk,vl,V.n,V.f⟩ T:=⟨h.t,h.c,h.n,h.f⟩
def LksP (w:World)(P:Nat->Prop)(v:Value)(ls:List (Int×Int)):Prop:=∃a cap,v=.slice a ls.length cap/\
 ∀j (h:j<ls.length),∃g off,a=some ⟨g,off,none⟩/\P g/\w.cell? ⟨g,off+j*2,none⟩=some (.int .i64 ls[j].1)/\w.cell? ⟨g,off+j*2+1,none⟩=some (.int .i64 ls[j].2)
theorem LksP.keep {w w':World}{P P':Nat->Prop}{v:Value}{ls:List (Int×Int)}(h:LksP w P v ls)(hk:∀k,P k->w'.heap[k]? =w.heap[k]?)(hP:∀k,P k->P' k):LksP w' P' v ls:=by
 obtain⟨a,cap,hv,h⟩:=h;refine⟨a,cap,hv,λj hj=> ?_⟩;obtain⟨g,off,ha,hg,h0,h1⟩:=h j hj;have hc:∀o,w'.cell? ⟨g,o,none⟩=w.cell? ⟨g,o,none⟩:=λo=>World.cell?_of_block (w:=w) (hk g hg);exact⟨g,off,ha,hP g hg,by rw[hc];exact h0,by rw[hc];exact h1⟩
def LiesP (w:World)(B e:Nat)(P:Nat->Prop):Nat->Vs->Ac->Prop
 |0,_,_=>False
 |d+1,V,T=>OwnB w B e V T/\LksP w P V.l T.ls/\∃a cap,V.k=.slice a T.ks.length cap/\∀j (h:j<T.ks.length),∃g off U,a=some ⟨g,off,none⟩/\P g/\Row w g (off+j*12) (row T.ks[j] U)/\LiesP w B e P d U T.ks[j]
theorem LiesP.keep {w w':World}{B e:Nat}{P P':Nat->Prop}(hB:∀k,k<B->w'.heap[k]? =w.heap[k]?)(hk:∀k,P k->w'.heap[k]? =w.heap[k]?)(hP:∀k,P k->P' k):∀{d:Nat} {V:Vs} {T:Ac},LiesP w B e P d V T->LiesP w' B e P' d V T
 |0,_,_,h=>h.elim
 |d+1,V,T,h=>by
  obtain⟨ho,hl,a,cap,hv,h⟩:=h;refine⟨ho.keep hB,hl.keep hk hP,a,cap,hv,λj hj=> ?_⟩;obtain⟨g,off,U,ha,hg,hr,h1⟩:=h j hj;exact⟨g,off,U,ha,hP g hg,hr.keep (hk g hg),LiesP.keep hB hk hP h1⟩
theorem LiesP.lies {w:World}{B B' e:Nat}{P:Nat->Prop}(hB:B<=B')(hP:∀k,P k->k<B'):∀{d:Nat} {V:Vs} {T:Ac},LiesP w B e P d V T->Lies w B' e d V T
 |0,_,_,h=>h.elim
 |d+1,V,T,h=>by
  obtain⟨⟨h1,⟨a2,c2,e2,h2⟩,⟨a4,c4,e4,h4⟩,⟨a5,c5,e5,h5⟩⟩,⟨a3,c3,e3,h3⟩,a,cap,hv,h⟩:=h;refine⟨⟨h1.wider hB,⟨a2,c2,e2,h2.wider hB⟩,⟨a3,c3,e3,λj hj=> ?_⟩,⟨a4,c4,e4,h4.wider hB⟩,⟨a5,c5,e5,h5.wider hB⟩⟩,a,cap,hv,λj hj=> ?_⟩
  ·obtain⟨g,off,ha,hg,q0,q1⟩:=h3 j hj
   exact⟨g,off,ha,hP g hg,q0,q1⟩
  obtain⟨g,off,U,ha,hg,hr,h1⟩:=h j hj;exact⟨g,off,U,ha,hP g hg,hr,LiesP.lies hB hP h1⟩
theorem LiesP.upto {w:World}{B e:Nat}{P:Nat->Prop} :∀{d d':Nat} {V:Vs} {T:Ac},LiesP w B e P d V T->d<=d'->LiesP w B e P d' V T
 |0,_,_,_,h,_=>h.elim
 |d+1,0,_,_,_,h'=>by omega
 |d+1,d'+1,V,T,h,h'=>by
  obtain⟨ho,hl,a,cap,hv,h⟩:=h;refine⟨ho,hl,a,cap,hv,λj hj=> ?_⟩;obtain⟨g,off,U,ha,hg,hr,h1⟩:=h j hj;exact⟨g,off,U,ha,hg,hr,LiesP.upto h1 (by omega)⟩
theorem LiesP.shape {w:World}{B e d:Nat}{P:Nat->Prop}{V:Vs}{T:Ac}(h:LiesP w B e P d V T):∃a6 c6 a7 c7 a8 c8 a9 c9 a10 c10 a11 c11,V=⟨.slice a6 T.t.ks.length c6,.slice a7 T.cs.length c7,.slice a8 T.ks.length c8,.slice a9 T.ls.length c9,.slice a10 T.ns.length c10,.slice a11 T.fs.length c11⟩:=by
 cases d with
 |zero=>exact h.elim
 |succ d=>
  obtain⟨ho,⟨a9,c9,e9,_⟩,a8,c8,e8,_⟩:=h;obtain⟨a6,c6,e6⟩:=ho.t.shape;obtain⟨a7,c7,e7,_⟩:=ho.c;obtain⟨a10,c10,e10,_⟩:=ho.n;obtain⟨a11,c11,e11,_⟩:=ho.f;refine⟨a6,c6,a7,c7,a8,c8,a9,c9,a10,c10,a11,c11, ?_⟩
  cases V
  simp only at e6 e7 e8 e9 e10 e11;rw[e6,e7,e8,e9,e10,e11]
theorem LiesP.ones {w:World}{B e d:Nat}{P:Nat->Prop}{V:Vs}{T:Ac}(h:LiesP w B e P d V T):(row T V).all (·.oneCell')=true:=by
 obtain⟨a6,c6,a7,c7,a8,c8,a9,c9,a10,c10,a11,c11,rfl⟩:=h.shape;simp[row,Value.oneCell']
end Ac
theorem Ak.rows_ne {X:World}{B B':Nat}{e e':TypeId}{s s':Nat}{v v':Value}{n n':Nat}{cs cs':List Value}(h:X.ownsRow B e s v n cs)(h':X.ownsRow B' e' s' v' n' cs')(hne:e≠e'){k:Nat}(hk:v.ownBlock=some k):v'.ownBlock≠some k:=by
 rcases h.2 with⟨rfl,_⟩|⟨g,cap,cur,rfl,_,hg,_⟩
 ·cases hk
 have e2:g=k:=Option.some.inj hk;subst e2
 rcases h'.2 with⟨rfl,_⟩|⟨g',cap',cur',rfl,_,hg',_⟩
 ·simp[Value.ownBlock]
 intro e1;have e3:g'=g:=Option.some.inj e1;subst e3;rw[hg']at hg
 cases hg
 exact hne rfl
theorem Ak.row_lt {X:World}{B:Nat}{e:TypeId}{s:Nat}{v:Value}{n:Nat}{cs:List Value}(h:X.ownsRow B e s v n cs){k:Nat}(hk:v.ownBlock=some k):B<=k/\k<X.heap.size:=by
 rcases h.2 with⟨rfl,_⟩|⟨g,cap,cur,rfl,hb,hg,_⟩
 ·cases hk
 have e2:g=k:=Option.some.inj hk;subst e2;exact⟨hb,(Array.getElem?_eq_some_iff.1 hg).1⟩
theorem Ak.own_kept {w w':World}{B:Nat}{e:TypeId}{size:Nat}{v:Value}{n:Nat}{cs:List Value}(h:w.ownsRow B e size v n cs)(hb:∀k,v.ownBlock=some k->w'.heap[k]? =w.heap[k]?):w'.ownsRow B e size v n cs:=
 ⟨h.1,h.2.imp id fun⟨g,cap,cur,hv,h1,h2,h3⟩=>⟨g,cap,cur,hv,h1,(hb g (by rw[hv];rfl)).trans h2,h3⟩⟩
def Ak.kCells (qs:List (Ac×Ac.Vs)):List Value:=qs.flatMap λq=>(Ac.row q.1 q.2).toList
theorem Ak.kCells_append (a b:List (Ac×Ac.Vs)):Ak.kCells (a++b)=Ak.kCells a++Ak.kCells b:=by simp[Ak.kCells]
theorem Ak.ecells_append (a b:List (Int×Int)):Ak.ecells (a++b)=Ak.ecells a++Ak.ecells b:=by simp[Ak.ecells]
theorem Ak.kCells_at:∀(qs:List (Ac×Ac.Vs)) (j i:Nat) (h:j<qs.length) (hi:i<12),(Ak.kCells qs)[j*12+i]? =some ((Ac.row qs[j].1 qs[j].2)[i]'(by simpa [Ac.row]using hi))
 | [],j,_,h,_=>by simp at h
 |q::r,0,i,_,hi=>by
  have e:Ak.kCells (q::r)=(Ac.row q.1 q.2).toList++Ak.kCells r:=by simp[Ak.kCells]
  rw[e,List.getElem?_append_left (by simp[Ac.row];omega),Nat.zero_mul,Nat.zero_add,Array.getElem?_toList];exact Array.getElem?_eq_getElem _
 |q::r,j+1,i,h,hi=>by
  have e:Ak.kCells (q::r)=(Ac.row q.1 q.2).toList++Ak.kCells r:=by simp[Ak.kCells]
  have hl:(Ac.row q.1 q.2).toList.length=12:=rfl;rw[e,List.getElem?_append_right (by rw[hl];omega),hl,show(j+1)*12+i-12=j*12+i by omega];exact Ak.kCells_at r j i (by simpa using h) hi
def Ak.Far (b n:Nat)(vK vL:Value)(k:Nat):Prop:=b+3<=k/\k<n/\vK.ownBlock≠some k/\vL.ownBlock≠some k
structure Ak.Rf (w:World)(B e:Nat)(bx:Array Value)(T:Ac)(V:Ac.Vs)(vK vL:Value)(qs:List (Ac×Ac.Vs))(xs:List (Int×Int))(X:World):Prop where
 box:X.heap[w.heap.size]? =some (.cells bx 32 (0,0))
 res:X.heap[w.heap.size+1]? =some (.cells #[.int .i64 0,.int .i64 0,.int .i64 0,.int .i64 0,.int .i64 0,.int .i64 0,.slice none 0 0,.slice none 0 0,.slice none 0 0,.slice none 0 0,.slice none 0 0,.slice none 0 0] 44 (0,0))
 var:X.heap[w.heap.size+1+1]? =some (.cells (Ac.row T ⟨V.t,V.c,vK,vL,V.n,V.f⟩) 44 (0,0))
 ownK:X.ownsRow (w.heap.size+3) 44 12 vK qs.length (Ak.kCells qs)
 ownL:X.ownsRow (w.heap.size+3) 70 2 vL xs.length (Ak.ecells xs)
 lies:∀q∈qs,∃d,Ac.LiesP X B e (Ak.Far w.heap.size X.heap.size vK vL) d q.2 q.1
 below:Below w.heap.size w X
section
variable {w:World} {B e:Nat} {bx:Array Value} {T:Ac} {V:Ac.Vs} {vK vL:Value} {qs:List (Ac×Ac.Vs)} {xs:List (Int×Int)} {X X' W6:World}
theorem Ak.Rf.lt (h:Ak.Rf w B e bx T V vK vL qs xs X):w.heap.size+1+1<X.heap.size:=(Array.getElem?_eq_some_iff.1 h.var).1
theorem Ak.Rf.step (h:Ak.Rf w B e bx T V vK vL qs xs X)(hB:B<=w.heap.size)(hb:Below X.heap.size X X'):Ak.Rf w B e bx T V vK vL qs xs X':=by
 have hz:=h.lt
 exact⟨(hb.block _ (by omega)).trans h.box,(hb.block _ (by omega)).trans h.res,(hb.block _ hz).trans h.var,Ak.own_kept h.ownK λk hk=>hb.block k (Ak.row_lt h.ownK hk).2,Ak.own_kept h.ownL λk hk=>hb.block k (Ak.row_lt h.ownL hk).2,
  λq hq=>by obtain⟨d,hd⟩:=h.lies q hq;exact⟨d,hd.keep (λk hk=>hb.block k (by omega)) (λk hk=>hb.block k hk.2.1) λk hk=>⟨hk.1,Nat.lt_of_lt_of_le hk.2.1 hb.size,hk.2.2⟩⟩,h.below.trans (hb.mono h.below.size)⟩
theorem Ak.Rf.midL (h:Ak.Rf w B e bx T V vK vL qs xs X)(g6:X.grownBy W6 vL.ownBlock):W6.heap[w.heap.size+1+1]? =some (.cells (Ac.row T ⟨V.t,V.c,vK,vL,V.n,V.f⟩) 44 (0,0)):=
 (g6.block _ h.lt (by intro e;have:=(Ak.row_lt h.ownL e.symm).1;omega)).trans h.var
theorem Ak.Rf.midK (h:Ak.Rf w B e bx T V vK vL qs xs X)(g6:X.grownBy W6 vK.ownBlock):W6.heap[w.heap.size+1+1]? =some (.cells (Ac.row T ⟨V.t,V.c,vK,vL,V.n,V.f⟩) 44 (0,0)):=
 (g6.block _ h.lt (by intro e;have:=(Ak.row_lt h.ownK e.symm).1;omega)).trans h.var
theorem Ak.Rf.kid {x:Ac}{U:Ac.Vs}{g cap H:Nat}(h:Ak.Rf w B e bx T V vK vL qs xs X)(hB:B<=w.heap.size)(hx:∃d,Ac.LiesP X B e (Ak.Far w.heap.size X.heap.size vK vL) d U x)(hH:X.heap.size=H)
  (o6:W6.ownsRow (w.heap.size+3) 44 12 (.slice (some ⟨g,0,none⟩) (qs.length+1) cap) (qs.length+1) (Ak.kCells qs++(Ac.row x U).toList)) (g6:X.grownBy W6 vK.ownBlock) (hg:vK.ownBlock=some g∨g=H):
  Ak.Rf w B e bx T V (.slice (some ⟨g,0,none⟩) (qs.length+1) cap) vL (qs++ [(x,U)]) xs (W6.setCell ⟨w.heap.size+1+1,8,none⟩ (.slice (some ⟨g,0,none⟩) (qs.length+1) cap)):=by
 have hz:=h.lt;have hv:=h.midK g6;have hk:∀k,k<w.heap.size+3->k<X.heap.size->W6.heap[k]? =X.heap[k]? :=λk h1 h2=>g6.block k h2 (by intro e;have:=(Ak.row_lt h.ownK e.symm).1;omega)
 have key:∀(d:Nat) (U:Ac.Vs) (E:Ac),Ac.LiesP X B e (Ak.Far w.heap.size X.heap.size vK vL) d U E->Ac.LiesP (W6.setCell ⟨w.heap.size+1+1,8,none⟩ (.slice (some ⟨g,0,none⟩) (qs.length+1) cap)) B e (Ak.Far w.heap.size (W6.setCell ⟨w.heap.size+1+1,8,none⟩ (.slice (some ⟨g,0,none⟩) (qs.length+1) cap)).heap.size (.slice (some ⟨g,0,none⟩) (qs.length+1) cap) vL) d U E:=λd U E hE=>
  hE.keep (λk hkB=>(Below.heap_setCell _ _ _ _ (by show k≠w.heap.size+1+1;omega)).trans (hk k (by omega) (by omega)))
   (λk hk=>(Below.heap_setCell _ _ _ _ (by have:=hk.1;show k≠w.heap.size+1+1;omega)).trans (g6.block k hk.2.1 (Ne.symm hk.2.2.1))) λk hk=>⟨hk.1,by have:=g6.size;have:=hk.2.1;simp[World.setCell];omega,by
   intro e;have e':g=k:=Option.some.inj e;subst e'
   rcases hg with hg|hg
   ·exact hk.2.2.1 hg
   have:=hk.2.1;omega,hk.2.2.2⟩
 refine⟨?_, ?_, ?_, ?_, ?_, ?_, ?_⟩
 ·rw[Below.heap_setCell _ _ _ _ (by show _≠w.heap.size+1+1;omega)];exact(hk _ (by omega) (by omega)).trans h.box
 ·rw[Below.heap_setCell _ _ _ _ (by show _≠w.heap.size+1+1;omega)];exact(hk _ (by omega) (by omega)).trans h.res
 ·simp[World.setCell,Array.getElem?_modify,hv,Ac.row]
 ·rw[Ak.kCells_append,List.length_append]
  have e1:Ak.kCells [(x,U)]=(Ac.row x U).toList:=by simp[Ak.kCells]
  rw[e1];exact ownsRow_setCell_below o6 (by show w.heap.size+1+1<_;omega) _
 ·refine ownsRow_setCell_below (Ak.own_kept h.ownL λk hk1=>g6.block k (Ak.row_lt h.ownL hk1).2 ?_) (by show w.heap.size+1+1<_;omega) _
  intro e;exact Ak.rows_ne h.ownL h.ownK (by decide) hk1 e.symm
 ·intro q hq
  rcases List.mem_append.1 hq with hq|hq
  ·obtain⟨d,hd⟩:=h.lies q hq
   exact⟨d,key _ _ _ hd⟩
  rw[List.mem_singleton.1 hq];obtain⟨d,hd⟩:=hx;exact⟨d,key _ _ _ hd⟩
 exact(h.below.trans ⟨g6.os,g6.tape,g6.output,g6.size,λj hj=>hk j (by omega) (by omega)⟩).setCell (by show _<=w.heap.size+1+1;omega) _
theorem Ak.Rf.link {x:Int×Int}{g cap H:Nat}(h:Ak.Rf w B e bx T V vK vL qs xs X)(hB:B<=w.heap.size)(hH:X.heap.size=H)
  (o6:W6.ownsRow (w.heap.size+3) 70 2 (.slice (some ⟨g,0,none⟩) (xs.length+1) cap) (xs.length+1) (Ak.ecells xs++ [.int .i64 x.1,.int .i64 x.2])) (g6:X.grownBy W6 vL.ownBlock) (hg:vL.ownBlock=some g∨g=H):
  Ak.Rf w B e bx T V vK (.slice (some ⟨g,0,none⟩) (xs.length+1) cap) qs (xs++ [x]) (W6.setCell ⟨w.heap.size+1+1,9,none⟩ (.slice (some ⟨g,0,none⟩) (xs.length+1) cap)):=by
 have hz:=h.lt;have hv:=h.midL g6;have hk:∀k,k<w.heap.size+3->k<X.heap.size->W6.heap[k]? =X.heap[k]? :=λk h1 h2=>g6.block k h2 (by intro e;have:=(Ak.row_lt h.ownL e.symm).1;omega);refine⟨?_, ?_, ?_, ?_, ?_, ?_, ?_⟩
 ·rw[Below.heap_setCell _ _ _ _ (by show _≠w.heap.size+1+1;omega)];exact(hk _ (by omega) (by omega)).trans h.box
 ·rw[Below.heap_setCell _ _ _ _ (by show _≠w.heap.size+1+1;omega)];exact(hk _ (by omega) (by omega)).trans h.res
 ·simp[World.setCell,Array.getElem?_modify,hv,Ac.row]
 ·refine ownsRow_setCell_below (Ak.own_kept h.ownK λk hk1=>g6.block k (Ak.row_lt h.ownK hk1).2 ?_) (by show w.heap.size+1+1<_;omega) _
  intro e;exact Ak.rows_ne h.ownK h.ownL (by decide) hk1 e.symm
 ·rw[Ak.ecells_append,List.length_append]
  exact ownsRow_setCell_below o6 (by show w.heap.size+1+1<_;omega) _
 ·intro q hq
  obtain⟨d,hd⟩:=h.lies q hq;refine⟨d,hd.keep (λk hkB=>(Below.heap_setCell _ _ _ _ (by show k≠w.heap.size+1+1;omega)).trans (hk k (by omega) (by omega))) (λk hk=>(Below.heap_setCell _ _ _ _ (by have:=hk.1;show k≠w.heap.size+1+1;omega)).trans (g6.block k hk.2.1 (Ne.symm hk.2.2.2))) λk hk=>⟨hk.1,by have:=g6.size;have:=hk.2.1;simp[World.setCell];omega,hk.2.2.1, ?_⟩⟩;intro e;have e':g=k:=Option.some.inj e;subst e'
  rcases hg with hg|hg
  ·exact hk.2.2.2 hg
  have:=hk.2.1;omega
 exact(h.below.trans ⟨g6.os,g6.tape,g6.output,g6.size,λj hj=>hk j (by omega) (by omega)⟩).setCell (by show _<=w.heap.size+1+1;omega) _
end
theorem Ak.maxL {w:World}{B e:Nat}{P:Nat->Prop} :∀(l:List (Ac×Ac.Vs)),(∀q∈l,∃d,Ac.LiesP w B e P d q.2 q.1)->∃D,∀q∈l,Ac.LiesP w B e P D q.2 q.1
 | [],_=>⟨0,λ_ h=>by cases h⟩
 |a::l,h=>by
  obtain⟨D,hD⟩:=Ak.maxL l λq hq=>h q (by simp[hq]);obtain⟨d,hd⟩:=h a (by simp);refine⟨max D d,λq hq=> ?_⟩
  rcases List.mem_cons.1 hq with rfl|hq
  ·exact hd.upto (Nat.le_max_right _ _)
  exact(hD q hq).upto (Nat.le_max_left _ _)
theorem Ak.Rf.all {w:World}{B e:Nat}{bx:Array Value}{T:Ac}{V:Ac.Vs}{vK vL:Value}{qs:List (Ac×Ac.Vs)}{X:World}(h:Ak.Rf w B e bx T V vK vL qs T.ls X)(hB:B<=w.heap.size)(hk:qs.map (·.1)=T.ks)(ho:Ac.Own w B e V T):∃d,Ac.LiesP X B e (λk=>w.heap.size+3<=k/\k<X.heap.size) d ⟨V.t,V.c,vK,vL,V.n,V.f⟩ T:=by
 obtain⟨D,hD⟩:=Ak.maxL qs h.lies;have hlen:T.ks.length=qs.length:=by rw[<-hk];simp
 refine⟨D+1,(ho.ownB vK vL).keep λk hk=>h.below.block k (by omega), ?_, ?_⟩
 ·rcases h.ownL.2 with⟨rfl,h0⟩|⟨g,cap,cur,rfl,hb,hg,_⟩
  ·exact⟨none,0,by rw[h0],λj hj=>by omega⟩
  refine⟨_,_,rfl,λj hj=>⟨g,0,rfl,⟨hb,(Array.getElem?_eq_some_iff.1 hg).1⟩, ?_⟩⟩;obtain⟨c0,c1⟩:=Ak.ecells_at T.ls j hj
  have hc:∀o u,(Ak.ecells T.ls)[o]? =some u->X.cell? ⟨g,o,none⟩=some u:=λo u hu=>by
   have h1:=h.ownL.cells (g:=g) rfl o u hu;rw[Go.WideShapes.add_plain,Nat.zero_add]at h1;exact h1
  rw[Nat.zero_add];exact⟨hc _ _ c0,hc _ _ c1⟩
 rcases h.ownK.2 with⟨rfl,h0⟩|⟨g,cap,cur,rfl,hb,hg,_⟩
 ·exact⟨none,0,by rw[hlen,h0],λj hj=>by omega⟩
 refine⟨_,_,by rw[hlen],λj hj=> ?_⟩;have hj':j<qs.length:=by omega
 have he:T.ks[j]=qs[j].1:=by simp[<-hk]
 refine⟨g,0,qs[j].2,rfl,⟨hb,(Array.getElem?_eq_some_iff.1 hg).1⟩,λi hi=> ?_, ?_⟩
 ·have hi':i<12:=by simpa [Ac.row]using hi
  have h1:=h.ownK.cells (g:=g) rfl _ _ (Ak.kCells_at qs j i hj' hi');rw[Go.WideShapes.add_plain]at h1;rw[Nat.zero_add]at h1⊢;rw[h1]
  congr 1
  simp only[he]
 rw[he];exact(hD _ (List.getElem_mem hj')).keep (λ_ _=>rfl) (λ_ _=>rfl) λk hk=>⟨hk.1,hk.2.1⟩
end Go.Proofs
namespace Go.Proofs
open Go.RowKit Go.ChangeShapes Go.WideShapes Go.Deep
instance:Inhabited Ac:=⟨.mk 0 0 0 0 (.mk 0 0 []) [] [] [] [] []⟩
instance:Inhabited Ac.Vs:=⟨⟨.bool false,.bool false,.bool false,.bool false,.bool false,.bool false⟩⟩
theorem Ak.cellsAct:Tryz.prog.cellsOf 32=12:=by kernel_rfl
theorem Ak.cellsActs:Tryz.prog.cellsOf 25=1:=by kernel_rfl
theorem Ak.cellsLink:Tryz.prog.cellsOf 69=2:=by kernel_rfl
theorem Ak.cellsLinks:Tryz.prog.cellsOf 26=1:=by kernel_rfl
theorem Ak.list9 {α:Type}{l:List α}(h:l.length=9):∃a b c d e f g h i,l= [a,b,c,d,e,f,g,h,i]:=by
 match l,h with
 | [a,b,c,d,e,f,g,h,i],_=>exact⟨a,b,c,d,e,f,g,h,i,rfl⟩
theorem Ak.list12 {α:Type}{l:List α}(h:l.length=12):∃a b c d e f g h i j k m,l= [a,b,c,d,e,f,g,h,i,j,k,m]:=by
 match l,h with
 | [a,b,c,d,e,f,g,h,i,j,k,m],_=>exact⟨a,b,c,d,e,f,g,h,i,j,k,m,rfl⟩
theorem Ac.Lies.more {w:World}{B e:Nat} :∀{d:Nat} {V:Ac.Vs} {T:Ac},Ac.Lies w B e d V T->Ac.Lies w B e (d+1) V T
 |0,_,_,h=>h.elim
 |d+1,V,T,h=>by
  obtain⟨ho,a,cap,hv,h⟩:=h;refine⟨ho,a,cap,hv,λj hj=> ?_⟩;obtain⟨g,off,U,ha,hg,hr,h1⟩:=h j hj;exact⟨g,off,U,ha,hg,hr,h1.more⟩
theorem Ac.Lies.up {w:World}{B e d d':Nat}{V:Ac.Vs}{T:Ac}(h:Ac.Lies w B e d V T)(hd:d<=d'):Ac.Lies w B e d' V T:=by
 induction hd with
 |refl=>exact h
 |step _ ih=>exact ih.more
section
variable {H:Type} {enc:TypeId×Value->H} {w:World} {spare:Nat->Bool} {held:Bool}
theorem Ak.ea (g off c k:Nat):((⟨g,off,none⟩:Addr).add c).add k=⟨g,off+c+k,none⟩:=by rw[Go.WideShapes.add_plain,Go.WideShapes.add_plain]
theorem Ak.open_conds (fuel:Nat)(c:Value)(x:DataW H×List MemPlace)(h:DataW.trod enc Tryz.prog w 0 spare held fuel 22 [c]=some x):∃a cap cs,c=.slice a (cs:List Tm).length cap/\Ac.Tms w w.heap.size fuel a cs:=by
 rcases DataW.trod_slice Tryz.underlying22 h with⟨e2,_⟩|⟨a,len,cap,elems,rest,n',hn',e2,_,_,hlc,_,hlen,hel,_,_⟩
 ·obtain rfl:c=.slice none 0 0:=(List.cons.inj e2).1
  exact⟨none,0, [],rfl,λj hj=>by simp at hj⟩
 obtain rfl:c=.slice (some a) len cap:=(List.cons.inj e2).1;subst hn'
 have each:∀i,i<len->∃q:Tm,∃u,w.cell? (a.add (i*3))=some (.int .i64 q.op)/\w.cell? ((a.add (i*3)).add 1)=some (.int .i64 q.num)/\w.cell? ((a.add (i*3)).add 2)=some u/\Tm.Lies w w.heap.size n' u q:=by
  intro i hi;have h1:=hel i hi;rw[Tk.cellsTerm,List.getElem?_eq_getElem (by omega)]at h1;obtain⟨cs',h2,h3⟩:=Option.bind_eq_some_iff.1 h1;obtain⟨q,u,rfl,hq⟩:=Tm.open_term n' cs' _ h3;obtain⟨_,hl3,hc⟩:=World.cells?_some h2;exact⟨q,u,by simpa [Addr.add]using hc 0 (by simp),by simpa using hc 1 (by simp),by simpa using hc 2 (by simp),hq⟩
 by_cases hz:len=0
 ·subst hz
  exact⟨some a,cap, [],rfl,λj hj=>by simp at hj⟩
 obtain⟨q,hq⟩:=choose_lt each;have hlen':((List.range len).map q).length=len:=by simp
 refine⟨some a,cap,(List.range len).map q,by rw[hlen'],λj hj=> ?_⟩;obtain⟨g,off,spot⟩:=a;obtain⟨_,h0,_⟩:=hq 0 (by omega);have hspot:spot=none:=by simpa [Addr.add]using World.cell?_spot h0
 subst hspot
 have hg:g<w.heap.size:=by
  have:=Tk.cell_lt h0;simpa [Addr.add]using this
 have hget:((List.range len).map q)[j]=q j:=by simp
 rw[hget];rw[hlen']at hj;obtain⟨u,p0,p1,p2,p3⟩:=hq j hj;rw[Go.WideShapes.add_plain]at p0;rw[Ak.ea]at p1 p2;exact⟨g,off,u,rfl,hg,p0,p1,p2,p3.up (by omega)⟩
theorem Ak.open_links (fuel:Nat)(c:Value)(x:DataW H×List MemPlace)(h:DataW.trod enc Tryz.prog w 0 spare held fuel 26 [c]=some x):∃a cap ls,c=.slice a (ls:List (Int×Int)).length cap/\Ac.Lks w w.heap.size a ls:=by
 rcases DataW.trod_slice Tryz.underlying26 h with⟨e2,_⟩|⟨a,len,cap,elems,rest,n',hn',e2,_,_,hlc,_,hlen,hel,_,_⟩
 ·obtain rfl:c=.slice none 0 0:=(List.cons.inj e2).1
  exact⟨none,0, [],rfl,λj hj=>by simp at hj⟩
 obtain rfl:c=.slice (some a) len cap:=(List.cons.inj e2).1;subst hn'
 have each:∀i,i<len->∃q:Int×Int,w.cell? (a.add (i*2))=some (.int .i64 q.1)/\w.cell? ((a.add (i*2)).add 1)=some (.int .i64 q.2):=by
  intro i hi;have h1:=hel i hi;rw[Ak.cellsLink,List.getElem?_eq_getElem (by omega)]at h1;obtain⟨cs',h2,h3⟩:=Option.bind_eq_some_iff.1 h1;obtain⟨ys,n,rfl,hx,hl,hy,hf⟩:=DataW.trod_struct Tryz.underlying69 h3;rw[Ak.cellsLink]at hl;have hy:ys.length=2:=hy;obtain⟨c0,c1,rfl⟩:=Nt.list2 hl;obtain⟨y0,y1,rfl⟩:=Nt.list2 hy;have g0:DataW.trod enc Tryz.prog w 0 spare held n 3 (([c0,c1].drop 0).take (Tryz.prog.cellsOf 3))= [y0,y1][0]? :=hf 0 _ rfl;have g1:DataW.trod enc Tryz.prog w 0 spare held n 3 (([c0,c1].drop 1).take (Tryz.prog.cellsOf 3))= [y0,y1][1]? :=hf 1 _ rfl;rw[Tk.cellsInt1]at g0 g1;obtain⟨o,e0,_⟩:=DataW.trod_int Tryz.underlying3 g0;obtain⟨m,e1,_⟩:=DataW.trod_int Tryz.underlying3 g1;obtain rfl:c0=.int .i64 o:=(List.cons.inj e0).1;obtain rfl:c1=.int .i64 m:=(List.cons.inj e1).1;obtain⟨_,hl3,hc⟩:=World.cells?_some h2;exact⟨(o,m),by simpa [Addr.add]using hc 0 (by simp),by simpa using hc 1 (by simp)⟩
 by_cases hz:len=0
 ·subst hz
  exact⟨some a,cap, [],rfl,λj hj=>by simp at hj⟩
 obtain⟨q,hq⟩:=choose_lt each;have hlen':((List.range len).map q).length=len:=by simp
 refine⟨some a,cap,(List.range len).map q,by rw[hlen'],λj hj=> ?_⟩;obtain⟨g,off,spot⟩:=a;obtain⟨h0,_⟩:=hq 0 (by omega);have hspot:spot=none:=by simpa [Addr.add]using World.cell?_spot h0
 subst hspot
 have hg:g<w.heap.size:=by
  have:=Tk.cell_lt h0;simpa [Addr.add]using this
 have hget:((List.range len).map q)[j]=q j:=by simp
 rw[hget];rw[hlen']at hj;obtain⟨p0,p1⟩:=hq j hj;rw[Go.WideShapes.add_plain]at p0;rw[Ak.ea]at p1;exact⟨g,off,rfl,hg,p0,p1⟩
theorem Ac.open_cells:∀(fuel:Nat) (cs:List Value) (x:DataW H×List MemPlace),DataW.trod enc Tryz.prog w 0 spare held fuel 32 cs=some x->
  ∃(T:Ac) (V:Ac.Vs),cs=(Ac.row T V).toList/\∀e,fuel<=e->Ac.Lies w w.heap.size e fuel V T:=by
 intro fuel
 induction fuel using Nat.strongRecOn with
 |_ fuel ih=>
  intro cs x h;obtain⟨ys,n,rfl,hx,hl,hy,hf⟩:=DataW.trod_struct Tryz.underlying32 h;rw[Ak.cellsAct]at hl;have hy:ys.length=9:=hy;obtain⟨c0,c1,c2,c3,c4,c5,c6,c7,c8,c9,c10,c11,hcs⟩:=Ak.list12 hl;obtain⟨y0,y1,y2,y3,y4,y5,y6,y7,y8,hys⟩:=Ak.list9 hy;subst hcs;subst hys;have g0:DataW.trod enc Tryz.prog w 0 spare held n 3 (([c0,c1,c2,c3,c4,c5,c6,c7,c8,c9,c10,c11].drop 0).take (Tryz.prog.cellsOf 3))=some y0:=hf 0 _ rfl;have g1:DataW.trod enc Tryz.prog w 0 spare held n 3 (([c0,c1,c2,c3,c4,c5,c6,c7,c8,c9,c10,c11].drop 1).take (Tryz.prog.cellsOf 3))=some y1:=hf 1 _ rfl;have g2:DataW.trod enc Tryz.prog w 0 spare held n 3 (([c0,c1,c2,c3,c4,c5,c6,c7,c8,c9,c10,c11].drop 2).take (Tryz.prog.cellsOf 3))=some y2:=hf 2 _ rfl;have g3:DataW.trod enc Tryz.prog w 0 spare held n 3 (([c0,c1,c2,c3,c4,c5,c6,c7,c8,c9,c10,c11].drop 3).take (Tryz.prog.cellsOf 3))=some y3:=hf 3 _ rfl;have g4:DataW.trod enc Tryz.prog w 0 spare held n 24 (([c0,c1,c2,c3,c4,c5,c6,c7,c8,c9,c10,c11].drop 4).take (Tryz.prog.cellsOf 24))=some y4:=hf 4 _ rfl;have g5:DataW.trod enc Tryz.prog w 0 spare held n 22 (([c0,c1,c2,c3,c4,c5,c6,c7,c8,c9,c10,c11].drop 7).take (Tryz.prog.cellsOf 22))=some y5:=hf 5 _ rfl;have g6:DataW.trod enc Tryz.prog w 0 spare held n 25 (([c0,c1,c2,c3,c4,c5,c6,c7,c8,c9,c10,c11].drop 8).take (Tryz.prog.cellsOf 25))=some y6:=hf 6 _ rfl
  have g7:DataW.trod enc Tryz.prog w 0 spare held n 26 (([c0,c1,c2,c3,c4,c5,c6,c7,c8,c9,c10,c11].drop 9).take (Tryz.prog.cellsOf 26))=some y7:=hf 7 _ rfl;have g8:DataW.trod enc Tryz.prog w 0 spare held n 30 (([c0,c1,c2,c3,c4,c5,c6,c7,c8,c9,c10,c11].drop 10).take (Tryz.prog.cellsOf 30))=some y8:=hf 8 _ rfl;rw[Tk.cellsInt1]at g0 g1 g2 g3;rw[Tk.cellsTerm]at g4;rw[Tk.cellsTerms]at g5;rw[Ak.cellsActs]at g6;rw[Ak.cellsLinks]at g7;rw[Nt.cellsNet]at g8;obtain⟨k0,e0,_⟩:=DataW.trod_int Tryz.underlying3 g0;obtain⟨k1,e1,_⟩:=DataW.trod_int Tryz.underlying3 g1;obtain⟨k2,e2,_⟩:=DataW.trod_int Tryz.underlying3 g2;obtain⟨k3,e3,_⟩:=DataW.trod_int Tryz.underlying3 g3;obtain rfl:c0=.int .i64 k0:=(List.cons.inj e0).1;obtain rfl:c1=.int .i64 k1:=(List.cons.inj e1).1;obtain rfl:c2=.int .i64 k2:=(List.cons.inj e2).1;obtain rfl:c3=.int .i64 k3:=(List.cons.inj e3).1;obtain⟨S,v,hS,hSl⟩:=Tm.open_term n _ _ g4;have h4: [c4,c5,c6]= [.int .i64 S.op,.int .i64 S.num,v]:=hS;simp only[List.cons.injEq,and_true]at h4;obtain⟨rfl,rfl,rfl⟩:=h4;obtain⟨ca,cc,cs,rfl,hcs⟩:=Ak.open_conds n c7 _ g5;obtain⟨la,lc,ls,rfl,hls⟩:=Ak.open_links n c9 _ g7;obtain⟨zs,n2,rfl,hx2,hl2,hy2,hf2⟩:=DataW.trod_struct Tryz.underlying30 g8;have hy2:zs.length=2:=hy2;obtain⟨z0,z1,rfl⟩:=Nt.list2 hy2
  have m0:DataW.trod enc Tryz.prog w 0 spare held n2 27 (([c10,c11].drop 0).take (Tryz.prog.cellsOf 27))=some z0:=hf2 0 _ rfl;have m1:DataW.trod enc Tryz.prog w 0 spare held n2 28 (([c10,c11].drop 1).take (Tryz.prog.cellsOf 28))=some z1:=hf2 1 _ rfl;rw[Nt.cellsNodes]at m0;rw[Nt.cellsFlows]at m1;obtain⟨an,cn,ns,rfl,hN⟩:=Nt.open_nodes n2 c10 _ m0;obtain⟨af,cf,fs,rfl,hF⟩:=Nt.open_flows n2 c11 _ m1
  have hN':∀e,n2<=e->Nt.Nds w w.heap.size e an ns:=λe he j hj=>by
   obtain⟨g,off,u,p1,p2,p3,p4,p5,p6,p7,p8⟩:=hN j hj;exact⟨g,off,u,p1,p2,p3,p4,p5,p6,p7,p8.up he⟩
  have hF':∀e,n2<=e->Nt.Fls w w.heap.size e af fs:=λe he j hj=>by
   obtain⟨g,off,u,p1,p2,p3,p4,p5,p6,p7,p8,p9⟩:=hF j hj;exact⟨g,off,u,p1,p2,p3,p4,p5,p6,p7,p8,p9.up he⟩
  have hcs':∀e,n2+1<=e->Ac.Tms w w.heap.size e ca cs:=λe he j hj=>by
   obtain⟨g,off,u,p1,p2,p3,p4,p5,p6⟩:=hcs j hj;exact⟨g,off,u,p1,p2,p3,p4,p5,p6.up he⟩
  have own:∀(ks:List Ac) (vk:Value) e,n2+1+1<=e->Ac.Own w w.heap.size e ⟨c6,.slice ca cs.length cc,vk,.slice la ls.length lc,.slice an ns.length cn,.slice af fs.length cf⟩ (.mk k0 k1 k2 k3 S cs ks ls ns fs):=λks vk e he=>
   ⟨hSl.up (by omega),⟨_,_,rfl,hcs' e (by omega)⟩,⟨_,_,rfl,hls⟩,⟨_,_,rfl,hN' e (by omega)⟩,⟨_,_,rfl,hF' e (by omega)⟩⟩
  rcases DataW.trod_slice Tryz.underlying25 g6 with⟨e6,_⟩|⟨a,len,cap,elems,rest,n',hn',e6,_,_,hlc,_,hlen,hel,_,_⟩
  ·obtain rfl:c8=.slice none 0 0:=(List.cons.inj e6).1
   exact⟨.mk k0 k1 k2 k3 S cs [] ls ns fs,⟨c6,.slice ca cs.length cc,.slice none 0 0,.slice la ls.length lc,.slice an ns.length cn,.slice af fs.length cf⟩,rfl,λe he=>⟨own [] _ e he,none,0,rfl,λj hj=>absurd hj (Nat.not_lt_zero j)⟩⟩
  obtain rfl:c8=.slice (some a) len cap:=(List.cons.inj e6).1;obtain rfl:n2=n':=by omega
  have each:∀i,i<len->∃q:Ac,∃U:Ac.Vs,(∀k (hk:k<(Ac.row q U).size),w.cell? ((a.add (i*12)).add k)=some (Ac.row q U)[k])/\∀e,n2<=e->Ac.Lies w w.heap.size e n2 U q:=by
   intro i hi;have h1:=hel i hi;rw[Ak.cellsAct,List.getElem?_eq_getElem (by omega)]at h1;obtain⟨cs',h2,h3⟩:=Option.bind_eq_some_iff.1 h1;obtain⟨q,U,rfl,hq⟩:=ih n2 (by omega) cs' _ h3;obtain⟨_,hl3,hc⟩:=World.cells?_some h2;refine⟨q,U,λk hk=> ?_,hq⟩;have:=hc k (by simpa [Ac.row]using hk);rw[this]
   simp
  obtain⟨q,hq⟩:=choose_lt each;obtain⟨U,hU⟩:=choose_lt hq;have hlen':((List.range len).map q).length=len:=by simp
  refine⟨.mk k0 k1 k2 k3 S cs ((List.range len).map q) ls ns fs,⟨c6,.slice ca cs.length cc,.slice (some a) len cap,.slice la ls.length lc,.slice an ns.length cn,.slice af fs.length cf⟩,rfl,λe he=>⟨own _ _ e he,some a,cap,by rw[show(Ac.mk k0 k1 k2 k3 S cs ((List.range len).map q) ls ns fs).ks=(List.range len).map q from rfl,hlen'],λj hj=> ?_⟩⟩;have hj':j<((List.range len).map q).length:=hj;have hjl:j<len:=by rw[hlen']at hj';exact hj'
  obtain⟨g,off,spot⟩:=a;have h0:=(hU 0 (by omega)).1 0 (by simp[Ac.row]);have hspot:spot=none:=by simpa [Addr.add]using World.cell?_spot h0
  subst hspot
  have hg:g<w.heap.size:=by
   have:=Tk.cell_lt h0;simpa [Addr.add]using this
  have hget:(Ac.mk k0 k1 k2 k3 S cs ((List.range len).map q) ls ns fs).ks[j]'hj=q j:=by
   show((List.range len).map q)[j]=q j
   simp
  refine⟨g,off,U j,rfl,hg, ?_, ?_⟩
  ·rw[hget]
   intro k hk;have:=(hU j hjl).1 k hk;rw[Ak.ea]at this;exact this
  rw[hget];exact((hU j hjl).2 e (by omega)).up (by omega)
end
theorem Ac.open_act {H:Type}{enc:TypeId×Value->H}{w:World}{spare:Nat->Bool}{held:Bool}{r:Go.Reach}{b0:Nat}{v:Value}{d:DataW H}{ps:List MemPlace}(hval:Value.okWide Tryz.prog w r b0 32 v)(h:DataW.Trod enc Tryz.prog w 0 spare held 32 v d ps):
  ∃(T:Ac) (V:Ac.Vs) (e dd:Nat),v=.agg (Ac.row T V)/\Ac.Lies w w.heap.size e dd V T:=by
 obtain⟨cs,rfl,_⟩:=okWide_struct Tryz.underlying32 hval;obtain⟨fuel,hf0⟩:=h;obtain⟨T,V,hcs,hL⟩:=Ac.open_cells fuel _ _ hf0;refine⟨T,V,fuel,fuel, ?_,hL fuel (Nat.le_refl _)⟩;have:cs.toList=(Ac.row T V).toList:=hcs
 congr 1
 exact Array.ext' this
def Dd.Nums (w:World)(B:Nat)(a:Option Addr)(l:List Int):Prop:=∀j (h:j<l.length),∃g off,a=some ⟨g,off,none⟩/\g<B/\w.cell? ⟨g,off+j,none⟩=some (.int .i64 l[j])
section
variable {H:Type} {enc:TypeId×Value->H} {w:World} {spare:Nat->Bool} {held:Bool}
end
end Go.Proofs
