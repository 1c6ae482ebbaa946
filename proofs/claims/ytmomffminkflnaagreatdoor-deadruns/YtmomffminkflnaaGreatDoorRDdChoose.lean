import Derived.Test.YtmomffminkflnaaGreatDoorRDdFinish
set_option maxRecDepth 100000
set_option maxHeartbeats 32000000
namespace Go.Proofs
open Go.RowKit Go.Shelf
def Dd.choR (wb:Bool)(ls kk:List (Int×Int))(l:List Int)(kid out:Int):List Int×Int:=
 if Dd.checkI wb kk.length ls.length l≠0 then(Dd.zeros,Dd.checkI wb kk.length ls.length l)else if Dd.runsB kk.length l kid=false∨Dd.gateB kk kid.toNat=false then(Dd.zeros,6)else if Dd.linkAt kid ls 0 out<0 then(Dd.zeros,1)else(Dd.chose ls kk l kid.toNat (Dd.linkAt kid ls 0 out).toNat,0)
theorem Dd.linkAt_or (kid:Int):∀(l:List (Int×Int)) (b:Nat) (o:Int),Dd.linkAt kid l b o= -1∨∃c:Nat,c<l.length/\Dd.linkAt kid l b o=(b+c:Nat)
 | [],_,_=> .inl rfl
 |x::r,b,o=>by
  rw[Dd.linkAt]
  by_cases e:x.1=kid
  ·rw[if_pos e]
   by_cases z:o=0
   ·rw[if_pos z];exact .inr ⟨0,by simp,rfl⟩
   rw[if_neg z]
   rcases Dd.linkAt_or kid r (b+1) (o-1)with h|⟨c,h1,h2⟩
   ·exact .inl h
   exact .inr ⟨c+1,by simp;omega,by rw[h2];omega⟩
  rw[if_neg e]
  rcases Dd.linkAt_or kid r (b+1) o with h|⟨c,h1,h2⟩
  ·exact .inl h
  exact .inr ⟨c+1,by simp;omega,by rw[h2];omega⟩
theorem Tryz.deadChoose_any (x0 x1 x2 x3 x4 x5 x6 x7 x10 x11:Value)(ka la:Option Addr)(n kc m lc:Nat)(ls kk:List (Int×Int))(l:List Int)(kid out:Int)(wb:Bool)(w:World)(hL:Ac.Lks w w.heap.size la ls)(hK:Dd.Kds w w.heap.size ka kk)(hl:l.length=104)(hm:ls.length=m)(hn:kk.length=n)(hW:wb=true->Dd.Web ls kk)(ho0: -9223372036854775808<=out)(ho1:out<=9223372036854775807)
  (CW0:∀W,Below w.heap.size w W->Calls Tryz.prog 26 #[.agg #[x0,x1,x2,x3,x4,x5,x6,x7,.slice ka n kc,.slice la m lc,x10,x11]] W λe w'=>e=.returned (.bool wb)/\Below W.heap.size W w'):
  Calls Tryz.prog 23 #[.agg #[x0,x1,x2,x3,x4,x5,x6,x7,.slice ka n kc,.slice la m lc,x10,x11],.agg (Dd.row l),.int .i64 kid,.int .i64 out] w λe w'=>e=.returned (Dd.two (Dd.choR wb ls kk l kid out))/\Below w.heap.size w w':=by
 obtain⟨R,hR⟩:=pE (Dd.choR wb ls kk l kid out);rw[hR];obtain⟨w1,hw1⟩:=pE ((((w.alloc (.cells #[x0,x1,x2,x3,x4,x5,x6,x7,.slice ka n kc,.slice la m lc,x10,x11] 32)).alloc (.cells (Dd.row l) 41)).alloc (.cells Tryz.zeroCells41 41)));have F1:=Dd.Fr.new w #[x0,x1,x2,x3,x4,x5,x6,x7,.slice ka n kc,.slice la m lc,x10,x11] hl;rw[hw1]at F1;have H1:Hid _:=hw1;have hh:wb=true->m<=40/\n<=64:=λh=>⟨by have:=(hW h).l40;omega,by have:=(hW h).k64;omega⟩;have CC:Hid _:=Tryz.deadCheck_any x0 x1 x2 x3 x4 x5 x6 x7 x10 x11 ka la n kc m lc l wb w1 hl hh (λW hb=>CW0 W (F1.bel.trans (hb.mono F1.bel.size)));have HF:Hid (∀W,Below w1.heap.size w1 W->Dd.Fr w #[x0,x1,x2,x3,x4,x5,x6,x7,.slice ka n kc,.slice la m lc,x10,x11] l Dd.zeros W):=λW hb=>F1.below hb
 have HR:Hid (R=if Dd.checkI wb n m l≠0 then(Dd.zeros,Dd.checkI wb n m l)else if Dd.runsB n l kid=false∨Dd.gateB kk kid.toNat=false then(Dd.zeros,6)else if Dd.linkAt kid ls 0 out<0 then(Dd.zeros,1)else(Dd.chose ls kk l kid.toNat (Dd.linkAt kid ls 0 out).toNat,0)):=by
  show _=_;rw[<-hR,<-hm,<-hn];rfl
 have HB:Hid (Ac.Lks w w.heap.size la ls/\Dd.Kds w w.heap.size ka kk/\l.length=104/\ls.length=m/\kk.length=n):=⟨hL,hK,hl,hm,hn⟩;have HW:Hid (wb=true->Dd.Web ls kk):=hW;obtain⟨c,hc⟩:=pE (Dd.checkI wb n m l);rw[hc]at CC HR;have HC:Hid (Dd.checkI wb n m l=c):=hc;have NA:=F1.bx;unfold Dd.Bx at NA;have NS:=F1.st.h;have ha:=Tryz.underlying32;have hu:=Tryz.underlying41;have ia:(Tryz.prog.info? 32).map (·.size)=some (#[x0,x1,x2,x3,x4,x5,x6,x7,.slice ka n kc,.slice la m lc,x10,x11]:Array Value).size:=Dd.info_act;have il:=Dd.info_row hl;have zl:(Tryz.prog.info? 41).map (·.size)=some (Dd.row Dd.zeros).size:=Dd.info_row Dd.zeros_length;have zo:=Dd.row_one Dd.zeros;have zz:Tryz.zeroCells41=Dd.row Dd.zeros:=Dd.zero_row;have HZ:Hid (Tryz.zeroCells41=Dd.row Dd.zeros):=zz;have HO:Hid (-9223372036854775808<=out/\out<=9223372036854775807):=⟨ho0,ho1⟩;clear hL hK hl hm hn hR hw1 F1 hW hh hc CW0 zz ho0 ho1
 by_cases hc0:c=0
 rotate_left
 ·have e0:(c !=0)=true:=by simpa using hc0
  have HQ:Hid (R=(Dd.zeros,c)):=by
   have h:=HR.out;rw[if_pos hc0]at h;exact h
  clear hc0
  go_enter Tryz.func23,Tryz.ntmps23
  go_upto_region 1 with fail
  rw[H1.out]
  go_wp2_with (first
   |refine wpList_load_row rfl 32 _ rfl _ rfl 32 _ (0,0) _ NA ha rfl ia ?_
   |refine wpList_load_row rfl 41 _ rfl _ rfl 41 (Dd.row l) (0,0) _ NS hu rfl il ?_)
  refine Calls.mono CC.out ?_;rintro e W2 ⟨rfl,hb2⟩;have F2:=HF.out W2 hb2;have HF2:Hid _:=F2;have HB2:Hid (Below w1.heap.size w1 W2):=hb2;have NR:=F2.rs.h;clear hb2 F2 CC NA NS;have NRz:=HF2.out.rs.h;have zl':=zl;have zo':=zo;rw[<-HZ.out]at NRz zl' zo';have HX:Hid (Below w.heap.size w _):=HF2.out.bel
  go_wp2_with (refine wpList_store_row rfl 41 _ _ rfl (w.heap.size+1+1) Tryz.zeroCells41 rfl rfl 41 _ NRz zl' rfl zo' ?_)
  refine bodyPost_ret (Dd.results2 Tryz.results23 _ _ (w.heap.size+1+1) Tryz.zeroCells41 rfl (run_loadVar_row _ (w.heap.size+1+1) 41 41 Tryz.zeroCells41 (0,0) _ (setRow_heap _ _ _ _ _ _ NRz) hu rfl zl')) rfl ⟨?_,Tk.below_row HX.out (by omega) _⟩;rw[HQ.out,HZ.out];rfl
 have e0:(c !=0)=false:=by simp[hc0]
 have hwb:wb=true:=by
  cases wb with
  |true=>rfl
  |false=>have h:=HC.out;rw[hc0]at h;simp[Dd.checkI]at h
 have hWb:=HW.out hwb;obtain⟨r,hr⟩:=pE (Dd.runsB n l kid);have n64:n<=64:=by have:=hWb.k64;have:=HB.out.2.2.2.2;omega
 have CR:Hid (∀W,Calls Tryz.prog 32 #[.agg #[x0,x1,x2,x3,x4,x5,x6,x7,.slice ka n kc,.slice la m lc,x10,x11],.agg (Dd.row l),.int .i64 kid] W λe w'=>e=.returned (.bool r)/\Below W.heap.size W w'):=λW=>by
  have h:=Tryz.deadRuns_any x0 x1 x2 x3 x4 x5 x6 x7 (.slice la m lc) x10 x11 ka n kc l kid W HB.out.2.2.1 n64;rw[hr]at h;exact h
 have HR2:Hid (R=if r=false∨Dd.gateB kk kid.toNat=false then(Dd.zeros,6)else if Dd.linkAt kid ls 0 out<0 then(Dd.zeros,1)else(Dd.chose ls kk l kid.toNat (Dd.linkAt kid ls 0 out).toNat,0)):=by
  have h:=HR.out;rw[if_neg (by omega),hr]at h;exact h
 have HRR:Hid (Dd.runsB n l kid=r):=hr;have HWB:Hid (Dd.Web ls kk):=hWb;clear hc0 hr hwb hWb HR
 go_enter Tryz.func23,Tryz.ntmps23
 go_upto_region 1 with fail
 rw[H1.out]
 go_wp2_with (first
  |refine wpList_load_row rfl 32 _ rfl _ rfl 32 _ (0,0) _ NA ha rfl ia ?_
  |refine wpList_load_row rfl 41 _ rfl _ rfl 41 (Dd.row l) (0,0) _ NS hu rfl il ?_)
 refine Calls.mono CC.out ?_;rintro e W2 ⟨rfl,hb2⟩;have F2:=HF.out W2 hb2;have HF2:Hid _:=F2;have HB2:Hid (Below w1.heap.size w1 W2):=hb2;have NR:=F2.rs.h;clear hb2 F2 CC NA NS
 go_upto_region 4 with fail
 have NA2:=HF2.out.bx;unfold Dd.Bx at NA2;have NS2:=HF2.out.st.h
 cases r with
 |false=>
  have HQ:Hid (R=(Dd.zeros,6)):=by
   have h:=HR2.out;rw[if_pos (.inl rfl)]at h;exact h
  go_wp2_with (first
   |refine wpList_load_row rfl 32 _ rfl _ rfl 32 _ (0,0) _ NA2 ha rfl ia ?_
   |refine wpList_load_row rfl 41 _ rfl _ rfl 41 (Dd.row l) (0,0) _ NS2 hu rfl il ?_)
  refine Calls.mono (CR.out _) ?_;rintro e W3 ⟨rfl,hb3⟩;have HF3:Hid _:=HF2.out.below hb3;clear hb3 NA2 NS2 NR;have NRz:=HF3.out.rs.h;have zl':=zl;have zo':=zo;rw[<-HZ.out]at NRz zl' zo';have HX:Hid (Below w.heap.size w _):=HF3.out.bel
  go_wp2_with (refine wpList_store_row rfl 41 _ _ rfl (w.heap.size+1+1) Tryz.zeroCells41 rfl rfl 41 _ NRz zl' rfl zo' ?_)
  refine bodyPost_ret (Dd.results2 Tryz.results23 _ _ (w.heap.size+1+1) Tryz.zeroCells41 rfl (run_loadVar_row _ (w.heap.size+1+1) 41 41 Tryz.zeroCells41 (0,0) _ (setRow_heap _ _ _ _ _ _ NRz) hu rfl zl')) rfl ⟨?_,Tk.below_row HX.out (by omega) _⟩;rw[HQ.out,HZ.out];rfl
 |true=>
  obtain⟨k,rfl,hk⟩:∃k:Nat,kid=k/\k<n:=by
   have h:=HRR.out;unfold Dd.runsB at h;rw[Bool.and_eq_true,Bool.and_eq_true,decide_eq_true_iff,decide_eq_true_iff]at h;exact⟨kid.toNat,by omega,by omega⟩
  obtain⟨g,off,rfl,hg,q0,q2⟩:=HB.out.2.1 k (by rw[HB.out.2.2.2.2];exact hk);have hkl:k<kk.length:=by rw[HB.out.2.2.2.2];exact hk
  obtain⟨x,hx⟩:=pE (kk[k]'hkl);obtain⟨K,A⟩:=x;rw[hx]at q0;have hgt:Dd.gateB kk k=decide (K=12):=by unfold Dd.gateB;rw[List.getElem?_eq_getElem hkl,hx];rfl
  have p0:(0:Int)<=k:=by omega
  have p1:(k:Int)<n:=by omega
  have p2:(k:Int)<64:=by omega
  have HG:Hid (R=if K=12 then(if Dd.linkAt k ls 0 out<0 then(Dd.zeros,1)else(Dd.chose ls kk l k (Dd.linkAt k ls 0 out).toNat,0))else(Dd.zeros,6)):=by
   have h:=HR2.out;rw[show((k:Int)).toNat=k by omega,hgt]at h
   by_cases hK:K=12
   ·rw[if_neg (by rintro(e|e);cases e;exact absurd hK (of_decide_eq_false e))]at h;rw[if_pos hK];exact h
   rw[if_pos (.inr (decide_eq_false hK))]at h;rw[if_neg hK];exact h
  have HKL:Hid (k<n/\g<w.heap.size/\w.cell? ⟨g,off+k*12,none⟩=some (.int .i64 K)):=⟨hk,hg,q0⟩;clear hx hkl hgt q0 q2 hg HR2
  go_wp2_with (first
   |refine wpList_load_row rfl 32 _ rfl _ rfl 32 _ (0,0) _ NA2 ha rfl ia ?_
   |refine wpList_load_row rfl 41 _ rfl _ rfl 41 (Dd.row l) (0,0) _ NS2 hu rfl il ?_)
  refine Calls.mono (CR.out _) ?_;rintro e W3 ⟨rfl,hb3⟩;have HF3:Hid _:=HF2.out.below hb3;have c8:=HF3.out.cs.2.2.2.2.2.2.2.2.1;have r0:W3.cell? ⟨g,off+k*12,none⟩=some (.int .i64 K):=by rw[HF3.out.bel.cell (p:=⟨g,off+k*12,none⟩) HKL.out.2.1];exact HKL.out.2.2
  clear hb3 NA2 NS2 NR
  by_cases hK:K=12
  rotate_left
  ·have eK:(K !=12)=true:=by simpa using hK
   have HQ:Hid (R=(Dd.zeros,6)):=by
    have h:=HG.out;rw[if_neg hK]at h;exact h
   clear hK HG;have NRz:=HF3.out.rs.h;have zl':=zl;have zo':=zo;rw[<-HZ.out]at NRz zl' zo';have HX:Hid (Below w.heap.size w _):=HF3.out.bel
   go_wp2_with (refine wpList_store_row rfl 41 _ _ rfl (w.heap.size+1+1) Tryz.zeroCells41 rfl rfl 41 _ NRz zl' rfl zo' ?_)
   refine bodyPost_ret (Dd.results2 Tryz.results23 _ _ (w.heap.size+1+1) Tryz.zeroCells41 rfl (run_loadVar_row _ (w.heap.size+1+1) 41 41 Tryz.zeroCells41 (0,0) _ (setRow_heap _ _ _ _ _ _ NRz) hu rfl zl')) rfl ⟨?_,Tk.below_row HX.out (by omega) _⟩;rw[HQ.out,HZ.out];rfl
  have eK:(K !=12)=false:=by simp[hK]
  obtain⟨v,hv⟩:=pE (Dd.linkAt k ls 0 out)
  have HQ0:Hid (R=if v<0 then(Dd.zeros,1)else(Dd.chose ls kk l k v.toNat,0)):=by
   have h:=HG.out;rw[if_pos hK,hv]at h;exact h
  have HV:Hid (v= -1∨∃c:Nat,c<m/\v=c):=by
   rcases Dd.linkAt_or k ls 0 out with h|⟨c,h1,h2⟩
   ·exact .inl (hv.symm.trans h)
   exact .inr ⟨c,by have:=HB.out.2.2.2.1;omega,by rw[<-hv,h2];omega⟩
  have CL:Hid (∀W,Below w.heap.size w W->Calls Tryz.prog 37 #[.agg #[x0,x1,x2,x3,x4,x5,x6,x7,.slice (some ⟨g,off,none⟩) n kc,.slice la m lc,x10,x11],.int .i64 k,.int .i64 out] W λe w'=>e=.returned (.int .i64 v)/\Below W.heap.size W w'):=λW hb=>by
   have h:=Tryz.linkAt_any x0 x1 x2 x3 x4 x5 x6 x7 (.slice (some ⟨g,off,none⟩) n kc) x10 x11 la m lc ls k out W ((HB.out.1.keep hb.block).wider hb.size) HB.out.2.2.2.1 (by have:=HWB.out.l40;have:=HB.out.2.2.2.1;omega) HO.out.1 HO.out.2;rw[hv]at h;exact h
  clear hK HG hv
  go_upto_region 6 with fail
  have NA3:=HF3.out.bx;unfold Dd.Bx at NA3
  go_wp2_with (refine wpList_load_row rfl 32 _ rfl _ rfl 32 _ (0,0) _ NA3 ha rfl ia ?_)
  refine Calls.mono (CL.out _ HF3.out.bel) ?_;rintro e W4 ⟨rfl,hb4⟩;have HF4:Hid _:=HF3.out.below hb4;clear hb4 NA3 CL c8 r0
  by_cases hv0:v<0
  ·have ev:decide (v<0)=true:=decide_eq_true hv0
   have HQ:Hid (R=(Dd.zeros,1)):=by
    have h:=HQ0.out;rw[if_pos hv0]at h;exact h
   clear hv0 HQ0;have NRz:=HF4.out.rs.h;have zl':=zl;have zo':=zo;rw[<-HZ.out]at NRz zl' zo';have HX:Hid (Below w.heap.size w _):=HF4.out.bel
   go_wp2_with (refine wpList_store_row rfl 41 _ _ rfl (w.heap.size+1+1) Tryz.zeroCells41 rfl rfl 41 _ NRz zl' rfl zo' ?_)
   refine bodyPost_ret (Dd.results2 Tryz.results23 _ _ (w.heap.size+1+1) Tryz.zeroCells41 rfl (run_loadVar_row _ (w.heap.size+1+1) 41 41 Tryz.zeroCells41 (0,0) _ (setRow_heap _ _ _ _ _ _ NRz) hu rfl zl')) rfl ⟨?_,Tk.below_row HX.out (by omega) _⟩;rw[HQ.out,HZ.out];rfl
  have ev:decide (v<0)=false:=decide_eq_false hv0
  obtain⟨c2,hc2,rfl⟩:∃c:Nat,c<m/\v=c:=by
   rcases HV.out with h|h
   ·omega
   exact h
  have i0:(0:Int)<=c2:=by omega
  have i1:(c2:Int)<40:=by have:=HWB.out.l40;have:=HB.out.2.2.2.1;omega
  obtain⟨s1,hs1⟩:=pE (l.set (40+k) 2);have hs1l:s1.length=104:=by rw[<-hs1,List.length_set];exact HB.out.2.2.1
  obtain⟨s2,hs2⟩:=pE (Dd.left ls s1 k 2);have hs2l:s2.length=104:=by rw[<-hs2,Dd.left_length];exact hs1l
  obtain⟨s3,hs3⟩:=pE (s2.set c2 1);have hs3l:s3.length=104:=by rw[<-hs3,List.length_set];exact hs2l
  obtain⟨t,ht⟩:=pE (Dd.settle ls kk s3);have htl:t.length=104:=by rw[<-ht];exact Dd.settle_length HWB.out hs3l
  have HQ2:Hid (R=(t,0)):=by
   have h:=HQ0.out;rw[if_neg hv0,show((c2:Int)).toNat=c2 by omega]at h;unfold Dd.chose at h;rw[hs1,hs2,hs3,ht]at h;exact h
  have CE:Hid (∀W,Below w.heap.size w W->Calls Tryz.prog 28 #[.agg #[x0,x1,x2,x3,x4,x5,x6,x7,.slice (some ⟨g,off,none⟩) n kc,.slice la m lc,x10,x11],.agg (Dd.row s1),.int .i64 k,.int .i64 2] W λe w'=>e=.returned (.agg (Dd.row s2))/\Below W.heap.size W w'):=λW hb=>by
   have h:=Tryz.left_any x0 x1 x2 x3 x4 x5 x6 x7 (.slice (some ⟨g,off,none⟩) n kc) x10 x11 la m lc ls s1 k 2 W ((HB.out.1.keep hb.block).wider hb.size) hs1l HB.out.2.2.2.1 (by have:=HWB.out.l40;have:=HB.out.2.2.2.1;omega);rw[hs2]at h;exact h
  have CS:Hid (∀W,Below w.heap.size w W->Calls Tryz.prog 27 #[.agg #[x0,x1,x2,x3,x4,x5,x6,x7,.slice (some ⟨g,off,none⟩) n kc,.slice la m lc,x10,x11],.agg (Dd.row s3)] W λe w'=>e=.returned (.agg (Dd.row t))/\Below W.heap.size W w'):=λW hb=>by
   have h:=Tryz.settle_any x0 x1 x2 x3 x4 x5 x6 x7 x10 x11 (some ⟨g,off,none⟩) la n kc m lc ls kk s3 W ((HB.out.1.keep hb.block).wider hb.size) ((HB.out.2.1.keep hb.block).wider hb.size) hs3l HB.out.2.2.2.1 HB.out.2.2.2.2 HWB.out;rw[ht]at h;exact h
  have F5:Dd.Fr w #[x0,x1,x2,x3,x4,x5,x6,x7,.slice (some ⟨g,off,none⟩) n kc,.slice la m lc,x10,x11] s1 Dd.zeros (W4.setCell ⟨w.heap.size+1,40+k,none⟩ (.int .i64 2)):=by
   have h:=HF4.out.put (40+k) 2;rw[hs1]at h;exact h
  have f4:=HF4.out.st.frozen (40+k);have s4:=HF4.out.st.cell (40+k) (by have:=HKL.out.1;omega);obtain⟨W5,hW5⟩:=pE (W4.setCell ⟨w.heap.size+1,40+k,none⟩ (.int .i64 2));rw[hW5]at F5;have HF5:Hid (Dd.Fr w #[x0,x1,x2,x3,x4,x5,x6,x7,.slice (some ⟨g,off,none⟩) n kc,.slice la m lc,x10,x11] s1 Dd.zeros W5):=F5;have HW5:Hid _:=hW5;have HLL:Hid (s2.set c2 1=s3/\s1.length=104/\s2.length=104/\s3.length=104/\t.length=104):=⟨hs3,hs1l,hs2l,hs3l,htl⟩;clear hv0 HQ0 hc2 hs1 hs1l hs2 hs2l hs3 hs3l ht htl hW5 F5 HV
  go_upto_region 10 with fail
  rw[HW5.out];have NA5:=HF5.out.bx;unfold Dd.Bx at NA5;have NS5:=HF5.out.st.h;have i5:=Dd.info_row HLL.out.2.1;clear f4 s4 HW5
  go_wp2_with (first
   |refine wpList_load_row rfl 32 _ rfl _ rfl 32 _ (0,0) _ NA5 ha rfl ia ?_
   |refine wpList_load_row rfl 41 _ rfl _ rfl 41 (Dd.row s1) (0,0) _ NS5 hu rfl i5 ?_)
  refine Calls.mono (CE.out _ HF5.out.bel) ?_;rintro e W6 ⟨rfl,hb6⟩;have HF6:Hid _:=HF5.out.below hb6;have NS6:=HF6.out.st.h;have i6:=Dd.info_row HLL.out.2.2.1;have e6:(Dd.row s1).size=(Dd.row s2).size:=by rw[Dd.row_size,Dd.row_size,HLL.out.2.1,HLL.out.2.2.1]
  have o6:=Dd.row_one s2;have F7:=HF6.out.setS HLL.out.2.2.1;have f7:=F7.st.frozen c2;have s7:=F7.st.cell c2 (by omega)
  have F8:Dd.Fr w #[x0,x1,x2,x3,x4,x5,x6,x7,.slice (some ⟨g,off,none⟩) n kc,.slice la m lc,x10,x11] s3 Dd.zeros ((W6.setRow (w.heap.size+1) (Dd.row s2)).setCell ⟨w.heap.size+1,c2,none⟩ (.int .i64 1)):=by
   have h:=F7.put c2 1;rw[HLL.out.1]at h;exact h
  obtain⟨W8,hW8⟩:=pE ((W6.setRow (w.heap.size+1) (Dd.row s2)).setCell ⟨w.heap.size+1,c2,none⟩ (.int .i64 1));rw[hW8]at F8;have HF8:Hid (Dd.Fr w #[x0,x1,x2,x3,x4,x5,x6,x7,.slice (some ⟨g,off,none⟩) n kc,.slice la m lc,x10,x11] s3 Dd.zeros W8):=F8;have HW8:Hid _:=hW8;clear hb6 NA5 NS5 i5 F7 F8 hW8
  go_upto_region 12 with(refine wpList_store_row rfl 41 _ _ rfl (w.heap.size+1) (Dd.row s2) rfl rfl 41 _ NS6 i6 e6 o6 ?_)
  rw[HW8.out];have NA8:=HF8.out.bx;unfold Dd.Bx at NA8;have NS8:=HF8.out.st.h;have i8:=Dd.info_row HLL.out.2.2.2.1;clear f7 s7 HW8 NS6 i6 e6 o6
  go_wp2_with (first
   |refine wpList_load_row rfl 32 _ rfl _ rfl 32 _ (0,0) _ NA8 ha rfl ia ?_
   |refine wpList_load_row rfl 41 _ rfl _ rfl 41 (Dd.row s3) (0,0) _ NS8 hu rfl i8 ?_)
  refine Calls.mono (CS.out _ HF8.out.bel) ?_;rintro e W9 ⟨rfl,hb9⟩;have HF9:Hid _:=HF8.out.below hb9;have NR9:=HF9.out.rs.h;have it:=Dd.info_row HLL.out.2.2.2.2;have ot:=Dd.row_one t;have ez:(Dd.row Dd.zeros).size=(Dd.row t).size:=by rw[Dd.row_size,Dd.row_size,HLL.out.2.2.2.2,Dd.zeros_length]
  have HX:Hid (Below w.heap.size w W9):=HF9.out.bel;clear hb9 NA8 NS8 i8
  go_wp2_with (refine wpList_store_row rfl 41 _ _ rfl (w.heap.size+1+1) (Dd.row t) rfl rfl 41 _ NR9 it ez ot ?_)
  refine bodyPost_ret (Dd.results2 Tryz.results23 _ _ (w.heap.size+1+1) (Dd.row t) rfl (run_loadVar_row _ (w.heap.size+1+1) 41 41 (Dd.row t) (0,0) _ (setRow_heap _ _ _ _ _ _ NR9) hu rfl it)) rfl ⟨?_,Tk.below_row HX.out (by omega) _⟩;rw[HQ2.out];rfl
end Go.Proofs
