import Derived.Test.YtmomffminkflnaaGreatDoorRDdTell
import Derived.Deep.MidRow
set_option maxRecDepth 100000
set_option maxHeartbeats 32000000
namespace Go.Proofs
open Go.RowKit Go.Shelf
theorem Dd.step_row {P:Program}{ops:Array Oper}{o:Oper}{a:Act}{w:World}{K:Act->World->Prop}{Q:Exit->Act->World->Prop}{E:Prop}(hg:o.guard=none)(ty:TypeId)(x y:Operand)(hop:o.op=.store ty x y)(g:Nat)(cells:Array Value)(hx:a.eval x=.pointer (some ⟨g,0,none⟩))(hy:a.eval y=.agg cells)
  (t:TypeId) (old:Array Value) (hgb:w.heap[g]? =some (.cells old t (0,0))) (hi:(P.info? ty).map (·.size)=some cells.size) (hold:old.size=cells.size) (h1:cells.all (·.oneCell')=true) (hK:K (a.put o.dst undef) (w.setRow g cells)):
  if Region.wanted o (yielded ops a.tmps)=true then Oper.wp P o a w K Q else E:=by
 rw[if_pos (by simp[Region.wanted,hg])];exact wp_store_row ty x y hop g cells hx hy t old hgb hi hold h1 hK
theorem Dd.range_st {W:World}{g:Nat}{l:List Int}(h:Dd.At W g l):W.rangeAt g 0 (Dd.ints l):=λj v hv=>by
 rw[Nat.zero_add];have h1:=h.h;simp only[World.cell?,h1];simpa [Dd.row]using hv
theorem Dd.range_bx {W:World}{g:Nat}{xs:List Value}(h:Dd.Bx W g xs.toArray):W.rangeAt g 0 xs:=λj v hv=>by
 rw[Nat.zero_add];unfold Dd.Bx at h;simp only[World.cell?,h];simpa using hv
def Dd.two (p:List Int×Int):Value:=.tuple #[.agg (Dd.row p.1),.int .i64 p.2]
def Dd.finR (wb:Bool)(ls kk:List (Int×Int))(l:List Int)(kid:Int):List Int×Int:=
 if Dd.checkI wb kk.length ls.length l≠0 then(Dd.zeros,Dd.checkI wb kk.length ls.length l)else if Dd.runsB kk.length l kid=false∨Dd.gateB kk kid.toNat=true then(Dd.zeros,6)else(Dd.finished ls kk l kid.toNat,0)
theorem Tryz.deadFinish_any (x0 x1 x2 x3 x4 x5 x6 x7 x10 x11:Value)(ka la:Option Addr)(n kc m lc:Nat)(ls kk:List (Int×Int))(l:List Int)(kid:Int)(wb:Bool)(w:World)(hL:Ac.Lks w w.heap.size la ls)(hK:Dd.Kds w w.heap.size ka kk)(hl:l.length=104)(hm:ls.length=m)(hn:kk.length=n)(hW:wb=true->Dd.Web ls kk)
  (CW0:∀W,Below w.heap.size w W->Calls Tryz.prog 26 #[.agg #[x0,x1,x2,x3,x4,x5,x6,x7,.slice ka n kc,.slice la m lc,x10,x11]] W λe w'=>e=.returned (.bool wb)/\Below W.heap.size W w'):
  Calls Tryz.prog 17 #[.agg #[x0,x1,x2,x3,x4,x5,x6,x7,.slice ka n kc,.slice la m lc,x10,x11],.agg (Dd.row l),.int .i64 kid] w λe w'=>e=.returned (Dd.two (Dd.finR wb ls kk l kid))/\Below w.heap.size w w':=by
 obtain⟨R,hR⟩:=pE (Dd.finR wb ls kk l kid);rw[hR];obtain⟨w1,hw1⟩:=pE ((((w.alloc (.cells #[x0,x1,x2,x3,x4,x5,x6,x7,.slice ka n kc,.slice la m lc,x10,x11] 32)).alloc (.cells (Dd.row l) 41)).alloc (.cells Tryz.zeroCells41 41)));have F1:=Dd.Fr.new w #[x0,x1,x2,x3,x4,x5,x6,x7,.slice ka n kc,.slice la m lc,x10,x11] hl;rw[hw1]at F1;have H1:Hid _:=hw1;have hh:wb=true->m<=40/\n<=64:=λh=>⟨by have:=(hW h).l40;omega,by have:=(hW h).k64;omega⟩;have CC:Hid _:=Tryz.deadCheck_any x0 x1 x2 x3 x4 x5 x6 x7 x10 x11 ka la n kc m lc l wb w1 hl hh (λW hb=>CW0 W (F1.bel.trans (hb.mono F1.bel.size)));have HF:Hid (∀W,Below w1.heap.size w1 W->Dd.Fr w #[x0,x1,x2,x3,x4,x5,x6,x7,.slice ka n kc,.slice la m lc,x10,x11] l Dd.zeros W):=λW hb=>F1.below hb
 have HR:Hid (R=if Dd.checkI wb n m l≠0 then(Dd.zeros,Dd.checkI wb n m l)else if Dd.runsB n l kid=false∨Dd.gateB kk kid.toNat=true then(Dd.zeros,6)else(Dd.finished ls kk l kid.toNat,0)):=by
  show _=_;rw[<-hR,<-hm,<-hn];rfl
 have HB:Hid (Ac.Lks w w.heap.size la ls/\Dd.Kds w w.heap.size ka kk/\l.length=104/\ls.length=m/\kk.length=n):=⟨hL,hK,hl,hm,hn⟩;have HW:Hid (wb=true->Dd.Web ls kk):=hW;obtain⟨c,hc⟩:=pE (Dd.checkI wb n m l);rw[hc]at CC HR;have HC:Hid (Dd.checkI wb n m l=c):=hc;have NA:=F1.bx;unfold Dd.Bx at NA;have NS:=F1.st.h;have ha:=Tryz.underlying32;have hu:=Tryz.underlying41;have ia:(Tryz.prog.info? 32).map (·.size)=some (#[x0,x1,x2,x3,x4,x5,x6,x7,.slice ka n kc,.slice la m lc,x10,x11]:Array Value).size:=Dd.info_act;have il:=Dd.info_row hl;have zl:(Tryz.prog.info? 41).map (·.size)=some (Dd.row Dd.zeros).size:=Dd.info_row Dd.zeros_length;have zo:=Dd.row_one Dd.zeros;have zz:Tryz.zeroCells41=Dd.row Dd.zeros:=Dd.zero_row;have HZ:Hid (Tryz.zeroCells41=Dd.row Dd.zeros):=zz;clear hL hK hl hm hn hR hw1 F1 hW hh hc CW0 zz
 by_cases hc0:c=0
 rotate_left
 ·have e0:(c !=0)=true:=by simpa using hc0
  have HQ:Hid (R=(Dd.zeros,c)):=by
   have h:=HR.out;rw[if_pos hc0]at h;exact h
  clear hc0
  go_enter Tryz.func17,Tryz.ntmps17
  go_upto_region 1 with fail
  rw[H1.out]
  go_wp2_with (first
   |refine wpList_load_row rfl 32 _ rfl _ rfl 32 _ (0,0) _ NA ha rfl ia ?_
   |refine wpList_load_row rfl 41 _ rfl _ rfl 41 (Dd.row l) (0,0) _ NS hu rfl il ?_)
  refine Calls.mono CC.out ?_;rintro e W2 ⟨rfl,hb2⟩;have F2:=HF.out W2 hb2;have HF2:Hid _:=F2;have HB2:Hid (Below w1.heap.size w1 W2):=hb2;have NR:=F2.rs.h;clear hb2 F2 CC NA NS;have NRz:=HF2.out.rs.h;have zl':=zl;have zo':=zo;rw[<-HZ.out]at NRz zl' zo';have HX:Hid (Below w.heap.size w _):=HF2.out.bel
  go_wp2_with (refine wpList_store_row rfl 41 _ _ rfl (w.heap.size+1+1) Tryz.zeroCells41 rfl rfl 41 _ NRz zl' rfl zo' ?_)
  refine bodyPost_ret (Dd.results2 Tryz.results17 _ _ (w.heap.size+1+1) Tryz.zeroCells41 rfl (run_loadVar_row _ (w.heap.size+1+1) 41 41 Tryz.zeroCells41 (0,0) _ (setRow_heap _ _ _ _ _ _ NRz) hu rfl zl')) rfl ⟨?_,Tk.below_row HX.out (by omega) _⟩;rw[HQ.out,HZ.out];rfl
 have e0:(c !=0)=false:=by simp[hc0]
 have hwb:wb=true:=by
  cases wb with
  |true=>rfl
  |false=>have h:=HC.out;rw[hc0]at h;simp[Dd.checkI]at h
 have hWb:=HW.out hwb;obtain⟨r,hr⟩:=pE (Dd.runsB n l kid);have n64:n<=64:=by have:=hWb.k64;have:=HB.out.2.2.2.2;omega
 have CR:Hid (∀W,Calls Tryz.prog 32 #[.agg #[x0,x1,x2,x3,x4,x5,x6,x7,.slice ka n kc,.slice la m lc,x10,x11],.agg (Dd.row l),.int .i64 kid] W λe w'=>e=.returned (.bool r)/\Below W.heap.size W w'):=λW=>by
  have h:=Tryz.deadRuns_any x0 x1 x2 x3 x4 x5 x6 x7 (.slice la m lc) x10 x11 ka n kc l kid W HB.out.2.2.1 n64;rw[hr]at h;exact h
 have HR2:Hid (R=if r=false∨Dd.gateB kk kid.toNat=true then(Dd.zeros,6)else(Dd.finished ls kk l kid.toNat,0)):=by
  have h:=HR.out;rw[if_neg (by omega),hr]at h;exact h
 have HRR:Hid (Dd.runsB n l kid=r):=hr;have HWB:Hid (Dd.Web ls kk):=hWb;clear hc0 hr hwb hWb HR
 go_enter Tryz.func17,Tryz.ntmps17
 go_upto_region 1 with fail
 rw[H1.out]
 go_wp2_with (first
  |refine wpList_load_row rfl 32 _ rfl _ rfl 32 _ (0,0) _ NA ha rfl ia ?_
  |refine wpList_load_row rfl 41 _ rfl _ rfl 41 (Dd.row l) (0,0) _ NS hu rfl il ?_)
 refine Calls.mono CC.out ?_;rintro e W2 ⟨rfl,hb2⟩;have F2:=HF.out W2 hb2;have HF2:Hid _:=F2;have HB2:Hid (Below w1.heap.size w1 W2):=hb2;have NR:=F2.rs.h;clear hb2 F2 CC NA NS
 go_upto_region 4 with fail
 have NA2:=HF2.out.bx;unfold Dd.Bx at NA2;have NS2:=HF2.out.st.h
 cases r with
 |false=>
  have HQ:Hid (R=(Dd.zeros,6)):=by
   have h:=HR2.out;rw[if_pos (.inl rfl)]at h;exact h
  go_wp2_with (first
   |refine wpList_load_row rfl 32 _ rfl _ rfl 32 _ (0,0) _ NA2 ha rfl ia ?_
   |refine wpList_load_row rfl 41 _ rfl _ rfl 41 (Dd.row l) (0,0) _ NS2 hu rfl il ?_)
  refine Calls.mono (CR.out _) ?_;rintro e W3 ⟨rfl,hb3⟩;have HF3:Hid _:=HF2.out.below hb3;clear hb3 NA2 NS2 NR;have NRz:=HF3.out.rs.h;have zl':=zl;have zo':=zo;rw[<-HZ.out]at NRz zl' zo';have HX:Hid (Below w.heap.size w _):=HF3.out.bel
  go_wp2_with (refine wpList_store_row rfl 41 _ _ rfl (w.heap.size+1+1) Tryz.zeroCells41 rfl rfl 41 _ NRz zl' rfl zo' ?_)
  refine bodyPost_ret (Dd.results2 Tryz.results17 _ _ (w.heap.size+1+1) Tryz.zeroCells41 rfl (run_loadVar_row _ (w.heap.size+1+1) 41 41 Tryz.zeroCells41 (0,0) _ (setRow_heap _ _ _ _ _ _ NRz) hu rfl zl')) rfl ⟨?_,Tk.below_row HX.out (by omega) _⟩;rw[HQ.out,HZ.out];rfl
 |true=>
  obtain⟨k,rfl,hk⟩:∃k:Nat,kid=k/\k<n:=by
   have h:=HRR.out;unfold Dd.runsB at h;rw[Bool.and_eq_true,Bool.and_eq_true,decide_eq_true_iff,decide_eq_true_iff]at h;exact⟨kid.toNat,by omega,by omega⟩
  obtain⟨g,off,rfl,hg,q0,q2⟩:=HB.out.2.1 k (by rw[HB.out.2.2.2.2];exact hk);have hkl:k<kk.length:=by rw[HB.out.2.2.2.2];exact hk
  obtain⟨x,hx⟩:=pE (kk[k]'hkl);obtain⟨K,A⟩:=x;rw[hx]at q0;have hgt:Dd.gateB kk k=decide (K=12):=by unfold Dd.gateB;rw[List.getElem?_eq_getElem hkl,hx];rfl
  have p0:(0:Int)<=k:=by omega
  have p1:(k:Int)<n:=by omega
  have HG:Hid (R=if K=12 then(Dd.zeros,6)else(Dd.finished ls kk l k,0)):=by
   have h:=HR2.out;rw[show((k:Int)).toNat=k by omega,hgt]at h
   by_cases hK:K=12
   ·rw[if_pos (.inr (decide_eq_true hK))]at h;rw[if_pos hK];exact h
   rw[if_neg (by rintro(e|e);cases e;exact hK (of_decide_eq_true e))]at h;rw[if_neg hK];exact h
  have HKL:Hid (k<n/\g<w.heap.size/\w.cell? ⟨g,off+k*12,none⟩=some (.int .i64 K)):=⟨hk,hg,q0⟩;clear hx hkl hgt q0 q2 hg HR2
  go_wp2_with (first
   |refine wpList_load_row rfl 32 _ rfl _ rfl 32 _ (0,0) _ NA2 ha rfl ia ?_
   |refine wpList_load_row rfl 41 _ rfl _ rfl 41 (Dd.row l) (0,0) _ NS2 hu rfl il ?_)
  refine Calls.mono (CR.out _) ?_;rintro e W3 ⟨rfl,hb3⟩;have HF3:Hid _:=HF2.out.below hb3;have c8:=HF3.out.cs.2.2.2.2.2.2.2.2.1;have r0:W3.cell? ⟨g,off+k*12,none⟩=some (.int .i64 K):=by rw[HF3.out.bel.cell (p:=⟨g,off+k*12,none⟩) HKL.out.2.1];exact HKL.out.2.2
  clear hb3 NA2 NS2 NR
  by_cases hK:K=12
  ·have eK:(K==12)=true:=by simp[hK]
   have HQ:Hid (R=(Dd.zeros,6)):=by
    have h:=HG.out;rw[if_pos hK]at h;exact h
   clear hK HG;have NRz:=HF3.out.rs.h;have zl':=zl;have zo':=zo;rw[<-HZ.out]at NRz zl' zo';have HX:Hid (Below w.heap.size w _):=HF3.out.bel
   go_wp2_with (refine wpList_store_row rfl 41 _ _ rfl (w.heap.size+1+1) Tryz.zeroCells41 rfl rfl 41 _ NRz zl' rfl zo' ?_)
   refine bodyPost_ret (Dd.results2 Tryz.results17 _ _ (w.heap.size+1+1) Tryz.zeroCells41 rfl (run_loadVar_row _ (w.heap.size+1+1) 41 41 Tryz.zeroCells41 (0,0) _ (setRow_heap _ _ _ _ _ _ NRz) hu rfl zl')) rfl ⟨?_,Tk.below_row HX.out (by omega) _⟩;rw[HQ.out,HZ.out];rfl
  have eK:(K==12)=false:=by simpa using hK
  have HQ:Hid (R=(Dd.finished ls kk l k,0)):=by
   have h:=HG.out;rw[if_neg hK]at h;exact h
  clear hK HG;obtain⟨s,hs⟩:=pE (Dd.ended ls l k 2);have hsl:s.length=104:=by rw[<-hs,Dd.ended_length];exact HB.out.2.2.1
  obtain⟨t,ht⟩:=pE (Dd.settle ls kk s);have htl:t.length=104:=by rw[<-ht];exact Dd.settle_length HWB.out hsl
  have HQ2:Hid (R=(t,0)):=by
   have h:=HQ.out;unfold Dd.finished at h;rw[hs,ht]at h;exact h
  have CE:Hid (∀W,Below w.heap.size w W->Calls Tryz.prog 33 #[.agg #[x0,x1,x2,x3,x4,x5,x6,x7,.slice (some ⟨g,off,none⟩) n kc,.slice la m lc,x10,x11],.agg (Dd.row l),.int .i64 k,.int .i64 2] W λe w'=>e=.returned (.agg (Dd.row s))/\Below W.heap.size W w'):=λW hb=>by
   have h:=Tryz.ended_any x0 x1 x2 x3 x4 x5 x6 x7 (.slice (some ⟨g,off,none⟩) n kc) x10 x11 la m lc ls l k 2 W ((HB.out.1.keep hb.block).wider hb.size) HB.out.2.2.1 HB.out.2.2.2.1 (by have:=HWB.out.l40;have:=HB.out.2.2.2.1;omega) (by have:=HKL.out.1;omega);rw[hs]at h;exact h
  have CS:Hid (∀W,Below w.heap.size w W->Calls Tryz.prog 27 #[.agg #[x0,x1,x2,x3,x4,x5,x6,x7,.slice (some ⟨g,off,none⟩) n kc,.slice la m lc,x10,x11],.agg (Dd.row s)] W λe w'=>e=.returned (.agg (Dd.row t))/\Below W.heap.size W w'):=λW hb=>by
   have h:=Tryz.settle_any x0 x1 x2 x3 x4 x5 x6 x7 x10 x11 (some ⟨g,off,none⟩) la n kc m lc ls kk s W ((HB.out.1.keep hb.block).wider hb.size) ((HB.out.2.1.keep hb.block).wider hb.size) hsl HB.out.2.2.2.1 HB.out.2.2.2.2 HWB.out;rw[ht]at h;exact h
  have ial:(Tryz.prog.info? 32).map (·.size)=some ([x0,x1,x2,x3,x4,x5,x6,x7,.slice (some ⟨g,off,none⟩) n kc,.slice la m lc,x10,x11]:List Value).length:=ia;have ill:(Tryz.prog.info? 41).map (·.size)=some (Dd.ints l).length:=by have:=il;rw[Dd.row_size]at this;rw[this];simp[Dd.ints]
  have it:=Dd.info_row htl;have ot:=Dd.row_one t;have ez:(Dd.row Dd.zeros).size=(Dd.row t).size:=by rw[Dd.row_size,Dd.row_size,htl,Dd.zeros_length]
  have HS:Hid (∀W,Dd.Fr w #[x0,x1,x2,x3,x4,x5,x6,x7,.slice (some ⟨g,off,none⟩) n kc,.slice la m lc,x10,x11] l Dd.zeros W->(W.rangeAt w.heap.size 0 [x0,x1,x2,x3,x4,x5,x6,x7,.slice (some ⟨g,off,none⟩) n kc,.slice la m lc,x10,x11]/\W.rangeAt (w.heap.size+1) 0 (Dd.ints l))):=λW h=>⟨Dd.range_bx h.bx,Dd.range_st h.st⟩;have HST:Hid (∀W,Dd.Fr w #[x0,x1,x2,x3,x4,x5,x6,x7,.slice (some ⟨g,off,none⟩) n kc,.slice la m lc,x10,x11] l t W->(W.rangeAt w.heap.size 0 [x0,x1,x2,x3,x4,x5,x6,x7,.slice (some ⟨g,off,none⟩) n kc,.slice la m lc,x10,x11]/\W.rangeAt (w.heap.size+1) 0 (Dd.ints l))):=λW h=>⟨Dd.range_bx h.bx,Dd.range_st h.st⟩;have HTL:Hid (t.length=104):=htl;clear hs hsl ht htl HQ
  go_upto_region 6 with fail
  have HFd:Hid (Dd.Fr w #[x0,x1,x2,x3,x4,x5,x6,x7,.slice (some ⟨g,off,none⟩) n kc,.slice la m lc,x10,x11] l Dd.zeros W3.drew):=HF3.out.below ⟨rfl,rfl,rfl,Nat.le_refl _,λ_ _=>rfl⟩;refine wp_region_held_drew (S:=(λV=>V.rangeAt w.heap.size 0 [x0,x1,x2,x3,x4,x5,x6,x7,.slice (some ⟨g,off,none⟩) n kc,.slice la m lc,x10,x11]/\V.rangeAt (w.heap.size+1) 0 (Dd.ints l))) (by kernel_rfl) ?_ (λhHeld=> ?_)
  ·exact HS.out _ HFd.out
  refine Nt.takeS (v:=.agg #[x0,x1,x2,x3,x4,x5,x6,x7,.slice (some ⟨g,off,none⟩) n kc,.slice la m lc,x10,x11]) 0 31 rfl rfl (by kernel_rfl) (by kernel_rfl) (by kernel_rfl) (λ_ _ _ h=>h) (yieldsIf_load_mid (by rfl) 32 _ rfl w.heap.size 0 rfl [x0,x1,x2,x3,x4,x5,x6,x7,.slice (some ⟨g,off,none⟩) n kc,.slice la m lc,x10,x11] _ (λ_ hw=>hw.1) ha rfl ial) hHeld ?_;simp only[List.set_cons_succ,List.set_cons_zero];refine Nt.takeS (v:=.agg #[x0,x1,x2,x3,x4,x5,x6,x7,.slice (some ⟨g,off,none⟩) n kc,.slice la m lc,x10,x11]) 1 32 rfl rfl (by kernel_rfl) (by kernel_rfl) (by kernel_rfl) (λ_ _ _ h=>h) (yieldsIf_load_mid (by rfl) 32 _ rfl w.heap.size 0 rfl [x0,x1,x2,x3,x4,x5,x6,x7,.slice (some ⟨g,off,none⟩) n kc,.slice la m lc,x10,x11] _ (λ_ hw=>hw.1) ha rfl ial) hHeld ?_;simp only[List.set_cons_succ,List.set_cons_zero];refine Nt.takeS (v:=.agg (Dd.row l)) 2 33 rfl rfl (by kernel_rfl) (by kernel_rfl) (by kernel_rfl) (λ_ _ _ h=>h) (yieldsIf_load_mid (by rfl) 41 _ rfl (w.heap.size+1) 0 rfl (Dd.ints l) _ (λ_ hw=>hw.2) hu rfl ill) hHeld ?_;simp only[List.set_cons_succ,List.set_cons_zero];refine Nt.takeS (v:= ?va3) 3 34 rfl rfl (by kernel_rfl) (by kernel_rfl) (by kernel_rfl) (λ_ _ _ h=>h) (Or.inl ⟨by rfl, ?ya3⟩) hHeld ?ra3
  case ya3=>(intro w hSw;(try dsimp only at hSw);go_simp;all_goals (with_reducible rfl))
  simp only[List.set_cons_succ,List.set_cons_zero];refine wpAnyH_ready (rs:= [4]) (by kernel_rfl) (by simp) ?_;refine AllReadyH.cons rfl (λK hK=> ?_) AllReadyH.nil;go_simp
  go_at_call 33
  refine Calls.mono (CE.out _ HFd.out.bel) ?_;rintro e W5 ⟨rfl,hb5⟩;have HF5:Hid _:=HFd.out.below hb5;clear hb5
  go_wp2_with fail
  refine hK.out _ _ ?_ (λhH4=> ?_)
  ·exact HS.out _ HF5.out
  clear hK K
  first|refine Nt.normS 35 rfl ?_|skip
  first|(simp only[List.set_cons_succ,List.set_cons_zero])|(simp only[List.set_cons_zero])|skip
  refine wpAnyH_ready (rs:= [5]) (by kernel_rfl) (by simp) ?_;refine AllReadyH.cons rfl (λK hK=> ?_) AllReadyH.nil;go_simp
  go_at_call 27
  refine Calls.mono (CS.out _ HF5.out.bel) ?_;rintro e W6 ⟨rfl,hb6⟩;have HF6:Hid _:=HF5.out.below hb6;clear hb6
  go_wp2_with fail
  refine hK.out _ _ ?_ (λhH5=> ?_)
  ·exact HS.out _ HF6.out
  clear hK K
  first|refine Nt.normS 36 rfl ?_|skip
  first|(simp only[List.set_cons_succ,List.set_cons_zero])|(simp only[List.set_cons_zero])|skip
  refine wpAnyH_ready (rs:= [6]) (by kernel_rfl) (by simp) ?_;refine AllReadyH.cons rfl (λK hK=> ?_) AllReadyH.nil;have NR6:=HF6.out.rs.h;refine Dd.step_row rfl 41 _ _ rfl (w.heap.size+1+1) (Dd.row t) rfl rfl 41 _ NR6 it ez ot ?_;refine hK.out _ _ ?_ (λhH6=> ?_)
  ·exact HST.out _ (HF6.out.setR HTL.out)
  clear hK K;refine Nt.takeS (v:= ?va7) 7 7 rfl rfl (by kernel_rfl) (by kernel_rfl) (by kernel_rfl) (λ_ _ _ h=>h) (Or.inl ⟨by rfl, ?ya7⟩) hH6 ?ra7
  case ya7=>(intro w hSw;(try dsimp only at hSw);go_simp;all_goals (with_reducible rfl))
  simp only[List.set_cons_succ,List.set_cons_zero];refine wpAnyH_done (by kernel_rfl) ?_ _
  go_wp2_with fail
  have NR6:=HF6.out.rs.h;have HX:Hid (Below w.heap.size w W6):=HF6.out.bel;refine bodyPost_ret (Dd.results2 Tryz.results17 _ _ (w.heap.size+1+1) (Dd.row t) rfl (run_loadVar_row _ (w.heap.size+1+1) 41 41 (Dd.row t) (0,0) _ (setRow_heap _ _ _ _ _ _ NR6) hu rfl it)) rfl ⟨?_,Tk.below_row HX.out (by omega) _⟩;rw[HQ2.out];rfl
end Go.Proofs
