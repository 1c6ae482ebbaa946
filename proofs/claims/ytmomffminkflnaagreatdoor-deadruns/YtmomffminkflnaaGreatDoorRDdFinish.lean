import Derived.Test.YtmomffminkflnaaGreatDoorRDdEq
import Derived.Deep.MidRow
set_option maxRecDepth 100000
set_option maxHeartbeats 32000000
namespace Go.Proofs
open Go.RowKit Go.Shelf
theorem Dd.step_row {P:Program} {ops:Array Oper} {o:Oper} {a:Act} {w:World} {K:Act->World->Prop} {Q:Exit->Act->World->Prop} {E:Prop} (hg:o.guard=none)(ty:TypeId)(x y:Operand)(hop:o.op= .store ty x y)(g:Nat)(cells:Array Value)(hx:a.eval x= .pointer(some⟨g,0,none⟩))(hy:a.eval y= .agg cells)
  (t:TypeId)(old:Array Value)(hgb:w.heap[g]? =some(.cells old t(0,0)))(hi:(P.info? ty).map(·.size)=some cells.size)(hold:old.size=cells.size)(h1:cells.all(·.oneCell')=true)(hK:K(a.put o.dst undef)(w.setRow g cells)):
  if Region.wanted o(yielded ops a.tmps)=true then Oper.wp P o a w K Q else E:=by
 rw [if_pos(by simp [Region.wanted,hg])];exact wp_store_row ty x y hop g cells hx hy t old hgb hi hold h1 hK
theorem Dd.range_st {W:World} {g:Nat} {l:List Int} (h:Dd.At W g l):W.rangeAt g 0(Dd.ints l):=λj v hv=>by
 rw [Nat.zero_add];have h1:=h.h;simp only [World.cell?,h1];simpa [Dd.row]using hv
theorem Dd.range_bx {W:World} {g:Nat} {xs:List Value} (h:Dd.Bx W g xs.toArray):W.rangeAt g 0 xs:=λj v hv=>by
 rw [Nat.zero_add];unfold Dd.Bx at h;simp only [World.cell?,h];simpa using hv
def Dd.two(p:List Int×Int):Value:= .tuple #[.agg(Dd.row p.1), .int .i64 p.2]
def Dd.finR(wb:Bool)(ls kk:List(Int×Int))(l:List Int)(kid:Int):List Int×Int:=
 if Dd.checkI wb kk.length ls.length l≠0 then(Dd.zeros,Dd.checkI wb kk.length ls.length l)else if Dd.runsB kk.length l kid=false∨Dd.gateB kk kid.toNat=true then(Dd.zeros,6)else(Dd.finished ls kk l kid.toNat,0)
theorem Tryz.deadFinish_any(x0 x1 x2 x3 x4 x5 x6 x7 x10 x11:Value)(ka la:Option Addr)(n kc m lc:Nat)(ls kk:List(Int×Int))(l:List Int)(kid:Int)(wb:Bool)(w:World)(hL:Ac.Lks w w.heap.size la ls)(hK:Dd.Kds w w.heap.size ka kk)(hl:l.length=104)(hm:ls.length=m)(hn:kk.length=n)(hW:wb=true->Dd.Web ls kk)
  (CW0: ∀W,Below w.heap.size w W->Calls Tryz.prog 26 #[.agg #[x0,x1,x2,x3,x4,x5,x6,x7, .slice ka n kc, .slice la m lc,x10,x11]]W λe w'=>e= .returned(.bool wb)/\Below W.heap.size W w'):
  Calls Tryz.prog 17 #[.agg #[x0,x1,x2,x3,x4,x5,x6,x7, .slice ka n kc, .slice la m lc,x10,x11], .agg(Dd.row l), .int .i64 kid]w λe w'=>e= .returned(Dd.two(Dd.finR wb ls kk l kid))/\Below w.heap.size w w':=by
 obtain⟨R,hR⟩: ∃R,Dd.finR wb ls kk l kid=R:=⟨_,rfl⟩;rw [hR];obtain⟨w1,hw1⟩: ∃z,(((w.alloc(.cells #[x0,x1,x2,x3,x4,x5,x6,x7, .slice ka n kc, .slice la m lc,x10,x11]32)).alloc(.cells(Dd.row l)41)).alloc(.cells Tryz.zeroCells41 41))=z:=⟨_,rfl⟩;have F1:=Dd.Fr.new w #[x0,x1,x2,x3,x4,x5,x6,x7, .slice ka n kc, .slice la m lc,x10,x11]hl;rw [hw1]at F1;have H1:Hid _:=hw1;have hh:wb=true->m<=40/\n<=64:=λh=>⟨by have:=(hW h).l40;omega,by have:=(hW h).k64;omega⟩;have CC:Hid _:=Tryz.deadCheck_any x0 x1 x2 x3 x4 x5 x6 x7 x10 x11 ka la n kc m lc l wb w1 hl hh(λW hb=>CW0 W(F1.bel.trans(hb.mono F1.bel.size)));have HF:Hid(∀W,Below w1.heap.size w1 W->Dd.Fr w #[x0,x1,x2,x3,x4,x5,x6,x7, .slice ka n kc, .slice la m lc,x10,x11]l Dd.zeros W):=λW hb=>F1.below hb
 have HR:Hid(R=if Dd.checkI wb n m l≠0 then(Dd.zeros,Dd.checkI wb n m l)else if Dd.runsB n l kid=false∨Dd.gateB kk kid.toNat=true then(Dd.zeros,6)else(Dd.finished ls kk l kid.toNat,0)):=by
  show _=_;rw [<-hR,<-hm,<-hn];rfl
 have HB:Hid(Ac.Lks w w.heap.size la ls/\Dd.Kds w w.heap.size ka kk/\l.length=104/\ls.length=m/\kk.length=n):=⟨hL,hK,hl,hm,hn⟩;have HW:Hid(wb=true->Dd.Web ls kk):=hW;obtain⟨c,hc⟩: ∃c,Dd.checkI wb n m l=c:=⟨_,rfl⟩;rw [hc]at CC HR;have HC:Hid(Dd.checkI wb n m l=c):=hc;have NA:=F1.bx;unfold Dd.Bx at NA;have NS:=F1.st.h;have ha:=Tryz.underlying32;have hu:=Tryz.underlying41;have ia:(Tryz.prog.info? 32).map(·.size)=some(#[x0,x1,x2,x3,x4,x5,x6,x7, .slice ka n kc, .slice la m lc,x10,x11]:Array Value).size:=Dd.info_act;have il:=Dd.info_row hl;have zl:(Tryz.prog.info? 41).map(·.size)=some(Dd.row Dd.zeros).size:=Dd.info_row Dd.zeros_length;have zo:=Dd.row_one Dd.zeros;have zz:Tryz.zeroCells41=Dd.row Dd.zeros:=Dd.zero_row;have HZ:Hid(Tryz.zeroCells41=Dd.row Dd.zeros):=zz;clear hL hK hl hm hn hR hw1 F1 hW hh hc CW0 zz
 by_cases hc0:c=0
 rotate_left
 ·have e0:(c !=0)=true:=by simpa using hc0
  have HQ:Hid(R=(Dd.zeros,c)):=by
   have h:=HR.out;rw [if_pos hc0]at h;exact h
  clear hc0
  go_enter Tryz.func17,Tryz.ntmps17
  go_upto_region 1 with fail
  rw [H1.out]
  go_wp2_with(first
   |refine wpList_load_row rfl 32 _ rfl _ rfl 32 _(0,0)_ NA ha rfl ia ?_
   |refine wpList_load_row rfl 41 _ rfl _ rfl 41(Dd.row l)(0,0)_ NS hu rfl il ?_)
  refine Calls.mono CC.out ?_;rintro e W2⟨rfl,hb2⟩;have F2:=HF.out W2 hb2;have HF2:Hid _:=F2;have HB2:Hid(Below w1.heap.size w1 W2):=hb2;have NR:=F2.rs.h;clear hb2 F2 CC NA NS;have NRz:=HF2.out.rs.h;have zl':=zl;have zo':=zo;rw [<-HZ.out]at NRz zl' zo';have HX:Hid(Below w.heap.size w _):=HF2.out.bel
  go_wp2_with(refine wpList_store_row rfl 41 _ _ rfl(w.heap.size+1+1)Tryz.zeroCells41 rfl rfl 41 _ NRz zl' rfl zo' ?_)
  refine bodyPost_ret(Dd.results2 Tryz.results17 _ _(w.heap.size+1+1)Tryz.zeroCells41 rfl(run_loadVar_row _(w.heap.size+1+1)41 41 Tryz.zeroCells41(0,0)_(setRow_heap _ _ _ _ _ _ NRz)hu rfl zl'))rfl⟨?_,Tk.below_row HX.out(by omega)_⟩;rw [HQ.out,HZ.out];rfl
 have e0:(c !=0)=false:=by simp [hc0]
 have hwb:wb=true:=by
  cases wb with
  |true=>rfl
  |false=>have h:=HC.out;rw [hc0]at h;simp [Dd.checkI]at h
 have hWb:=HW.out hwb;obtain⟨r,hr⟩: ∃r,Dd.runsB n l kid=r:=⟨_,rfl⟩;have n64:n<=64:=by have:=hWb.k64;have:=HB.out.2.2.2.2;omega
 have CR:Hid(∀W,Calls Tryz.prog 32 #[.agg #[x0,x1,x2,x3,x4,x5,x6,x7, .slice ka n kc, .slice la m lc,x10,x11], .agg(Dd.row l), .int .i64 kid]W λe w'=>e= .returned(.bool r)/\Below W.heap.size W w'):=λW=>by
  have h:=Tryz.deadRuns_any x0 x1 x2 x3 x4 x5 x6 x7(.slice la m lc)x10 x11 ka n kc l kid W HB.out.2.2.1 n64;rw [hr]at h;exact h
 have HR2:Hid(R=if r=false∨Dd.gateB kk kid.toNat=true then(Dd.zeros,6)else(Dd.finished ls kk l kid.toNat,0)):=by
  have h:=HR.out;rw [if_neg(by omega),hr]at h;exact h
 have HRR:Hid(Dd.runsB n l kid=r):=hr;have HWB:Hid(Dd.Web ls kk):=hWb;clear hc0 hr hwb hWb HR
 go_enter Tryz.func17,Tryz.ntmps17
 go_upto_region 1 with fail
 rw [H1.out]
 go_wp2_with(first
  |refine wpList_load_row rfl 32 _ rfl _ rfl 32 _(0,0)_ NA ha rfl ia ?_
  |refine wpList_load_row rfl 41 _ rfl _ rfl 41(Dd.row l)(0,0)_ NS hu rfl il ?_)
 refine Calls.mono CC.out ?_;rintro e W2⟨rfl,hb2⟩;have F2:=HF.out W2 hb2;have HF2:Hid _:=F2;have HB2:Hid(Below w1.heap.size w1 W2):=hb2;have NR:=F2.rs.h;clear hb2 F2 CC NA NS
 go_upto_region 4 with fail
 have NA2:=HF2.out.bx;unfold Dd.Bx at NA2;have NS2:=HF2.out.st.h
 cases r with
 |false=>
  have HQ:Hid(R=(Dd.zeros,6)):=by
   have h:=HR2.out;rw [if_pos(.inl rfl)]at h;exact h
  go_wp2_with(first
   |refine wpList_load_row rfl 32 _ rfl _ rfl 32 _(0,0)_ NA2 ha rfl ia ?_
   |refine wpList_load_row rfl 41 _ rfl _ rfl 41(Dd.row l)(0,0)_ NS2 hu rfl il ?_)
  refine Calls.mono(CR.out _) ?_;rintro e W3⟨rfl,hb3⟩;have HF3:Hid _:=HF2.out.below hb3;clear hb3 NA2 NS2 NR;have NRz:=HF3.out.rs.h;have zl':=zl;have zo':=zo;rw [<-HZ.out]at NRz zl' zo';have HX:Hid(Below w.heap.size w _):=HF3.out.bel
  go_wp2_with(refine wpList_store_row rfl 41 _ _ rfl(w.heap.size+1+1)Tryz.zeroCells41 rfl rfl 41 _ NRz zl' rfl zo' ?_)
  refine bodyPost_ret(Dd.results2 Tryz.results17 _ _(w.heap.size+1+1)Tryz.zeroCells41 rfl(run_loadVar_row _(w.heap.size+1+1)41 41 Tryz.zeroCells41(0,0)_(setRow_heap _ _ _ _ _ _ NRz)hu rfl zl'))rfl⟨?_,Tk.below_row HX.out(by omega)_⟩;rw [HQ.out,HZ.out];rfl
 |true=>
  obtain⟨k,rfl,hk⟩: ∃k:Nat,kid=k/\k<n:=by
   have h:=HRR.out;unfold Dd.runsB at h;rw [Bool.and_eq_true,Bool.and_eq_true,decide_eq_true_iff,decide_eq_true_iff]at h;exact⟨kid.toNat,by omega,by omega⟩
  obtain⟨g,off,rfl,hg,q0,q2⟩:=HB.out.2.1 k(by rw [HB.out.2.2.2.2];exact hk);have hkl:k<kk.length:=by rw [HB.out.2.2.2.2];exact hk
  obtain⟨x,hx⟩: ∃x,kk[k]'hkl=x:=⟨_,rfl⟩;obtain⟨K,A⟩:=x;rw [hx]at q0;have hgt:Dd.gateB kk k=decide(K=12):=by unfold Dd.gateB;rw [List.getElem?_eq_getElem hkl,hx];rfl
  have p0:(0:Int)<=k:=by omega
  have p1:(k:Int)<n:=by omega
  have HG:Hid(R=if K=12 then(Dd.zeros,6)else(Dd.finished ls kk l k,0)):=by
   have h:=HR2.out;rw [show((k:Int)).toNat=k by omega,hgt]at h
   by_cases hK:K=12
   ·rw [if_pos(.inr(decide_eq_true hK))]at h;rw [if_pos hK];exact h
   rw [if_neg(by rintro(e|e);cases e;exact hK(of_decide_eq_true e))]at h;rw [if_neg hK];exact h
  have HKL:Hid(k<n/\g<w.heap.size/\w.cell? ⟨g,off+k*12,none⟩=some(.int .i64 K)):=⟨hk,hg,q0⟩;clear hx hkl hgt q0 q2 hg HR2
  go_wp2_with(first
   |refine wpList_load_row rfl 32 _ rfl _ rfl 32 _(0,0)_ NA2 ha rfl ia ?_
   |refine wpList_load_row rfl 41 _ rfl _ rfl 41(Dd.row l)(0,0)_ NS2 hu rfl il ?_)
  refine Calls.mono(CR.out _) ?_;rintro e W3⟨rfl,hb3⟩;have HF3:Hid _:=HF2.out.below hb3;have c8:=HF3.out.cs.2.2.2.2.2.2.2.2.1;have r0:W3.cell? ⟨g,off+k*12,none⟩=some(.int .i64 K):=by rw [HF3.out.bel.cell(p:=⟨g,off+k*12,none⟩)HKL.out.2.1];exact HKL.out.2.2
  clear hb3 NA2 NS2 NR
  by_cases hK:K=12
  ·have eK:(K==12)=true:=by simp [hK]
   have HQ:Hid(R=(Dd.zeros,6)):=by
    have h:=HG.out;rw [if_pos hK]at h;exact h
   clear hK HG;have NRz:=HF3.out.rs.h;have zl':=zl;have zo':=zo;rw [<-HZ.out]at NRz zl' zo';have HX:Hid(Below w.heap.size w _):=HF3.out.bel
   go_wp2_with(refine wpList_store_row rfl 41 _ _ rfl(w.heap.size+1+1)Tryz.zeroCells41 rfl rfl 41 _ NRz zl' rfl zo' ?_)
   refine bodyPost_ret(Dd.results2 Tryz.results17 _ _(w.heap.size+1+1)Tryz.zeroCells41 rfl(run_loadVar_row _(w.heap.size+1+1)41 41 Tryz.zeroCells41(0,0)_(setRow_heap _ _ _ _ _ _ NRz)hu rfl zl'))rfl⟨?_,Tk.below_row HX.out(by omega)_⟩;rw [HQ.out,HZ.out];rfl
  have eK:(K==12)=false:=by simpa using hK
  have HQ:Hid(R=(Dd.finished ls kk l k,0)):=by
   have h:=HG.out;rw [if_neg hK]at h;exact h
  clear hK HG;obtain⟨s,hs⟩: ∃s,Dd.ended ls l k 2=s:=⟨_,rfl⟩;have hsl:s.length=104:=by rw [<-hs,Dd.ended_length];exact HB.out.2.2.1
  obtain⟨t,ht⟩: ∃t,Dd.settle ls kk s=t:=⟨_,rfl⟩;have htl:t.length=104:=by rw [<-ht];exact Dd.settle_length HWB.out hsl
  have HQ2:Hid(R=(t,0)):=by
   have h:=HQ.out;unfold Dd.finished at h;rw [hs,ht]at h;exact h
  have CE:Hid(∀W,Below w.heap.size w W->Calls Tryz.prog 33 #[.agg #[x0,x1,x2,x3,x4,x5,x6,x7, .slice(some⟨g,off,none⟩)n kc, .slice la m lc,x10,x11], .agg(Dd.row l), .int .i64 k, .int .i64 2]W λe w'=>e= .returned(.agg(Dd.row s))/\Below W.heap.size W w'):=λW hb=>by
   have h:=Tryz.ended_any x0 x1 x2 x3 x4 x5 x6 x7(.slice(some⟨g,off,none⟩)n kc)x10 x11 la m lc ls l k 2 W((HB.out.1.keep hb.block).wider hb.size)HB.out.2.2.1 HB.out.2.2.2.1(by have:=HWB.out.l40;have:=HB.out.2.2.2.1;omega)(by have:=HKL.out.1;omega);rw [hs]at h;exact h
  have CS:Hid(∀W,Below w.heap.size w W->Calls Tryz.prog 27 #[.agg #[x0,x1,x2,x3,x4,x5,x6,x7, .slice(some⟨g,off,none⟩)n kc, .slice la m lc,x10,x11], .agg(Dd.row s)]W λe w'=>e= .returned(.agg(Dd.row t))/\Below W.heap.size W w'):=λW hb=>by
   have h:=Tryz.settle_any x0 x1 x2 x3 x4 x5 x6 x7 x10 x11(some⟨g,off,none⟩)la n kc m lc ls kk s W((HB.out.1.keep hb.block).wider hb.size)((HB.out.2.1.keep hb.block).wider hb.size)hsl HB.out.2.2.2.1 HB.out.2.2.2.2 HWB.out;rw [ht]at h;exact h
  have ial:(Tryz.prog.info? 32).map(·.size)=some([x0,x1,x2,x3,x4,x5,x6,x7, .slice(some⟨g,off,none⟩)n kc, .slice la m lc,x10,x11]:List Value).length:=ia;have ill:(Tryz.prog.info? 41).map(·.size)=some(Dd.ints l).length:=by have:=il;rw [Dd.row_size]at this;rw [this];simp [Dd.ints]
  have it:=Dd.info_row htl;have ot:=Dd.row_one t;have ez:(Dd.row Dd.zeros).size=(Dd.row t).size:=by rw [Dd.row_size,Dd.row_size,htl,Dd.zeros_length]
  have HS:Hid(∀W,Dd.Fr w #[x0,x1,x2,x3,x4,x5,x6,x7, .slice(some⟨g,off,none⟩)n kc, .slice la m lc,x10,x11]l Dd.zeros W->(W.rangeAt w.heap.size 0 [x0,x1,x2,x3,x4,x5,x6,x7, .slice(some⟨g,off,none⟩)n kc, .slice la m lc,x10,x11]/\W.rangeAt(w.heap.size+1)0(Dd.ints l))):=λW h=>⟨Dd.range_bx h.bx,Dd.range_st h.st⟩;have HST:Hid(∀W,Dd.Fr w #[x0,x1,x2,x3,x4,x5,x6,x7, .slice(some⟨g,off,none⟩)n kc, .slice la m lc,x10,x11]l t W->(W.rangeAt w.heap.size 0 [x0,x1,x2,x3,x4,x5,x6,x7, .slice(some⟨g,off,none⟩)n kc, .slice la m lc,x10,x11]/\W.rangeAt(w.heap.size+1)0(Dd.ints l))):=λW h=>⟨Dd.range_bx h.bx,Dd.range_st h.st⟩;have HTL:Hid(t.length=104):=htl;clear hs hsl ht htl HQ
  go_upto_region 6 with fail
  have HFd:Hid(Dd.Fr w #[x0,x1,x2,x3,x4,x5,x6,x7, .slice(some⟨g,off,none⟩)n kc, .slice la m lc,x10,x11]l Dd.zeros W3.drew):=HF3.out.below⟨rfl,rfl,rfl,Nat.le_refl _,λ_ _=>rfl⟩;refine wp_region_held_drew(S:=(λV=>V.rangeAt w.heap.size 0 [x0,x1,x2,x3,x4,x5,x6,x7, .slice(some⟨g,off,none⟩)n kc, .slice la m lc,x10,x11]/\V.rangeAt(w.heap.size+1)0(Dd.ints l)))(by kernel_rfl) ?_(λhHeld=> ?_)
  ·exact HS.out _ HFd.out
  refine Nt.takeS(v:= .agg #[x0,x1,x2,x3,x4,x5,x6,x7, .slice(some⟨g,off,none⟩)n kc, .slice la m lc,x10,x11])0 31 rfl rfl(by kernel_rfl)(by kernel_rfl)(by kernel_rfl)(λ_ _ _ h=>h)(yieldsIf_load_mid(by rfl)32 _ rfl w.heap.size 0 rfl [x0,x1,x2,x3,x4,x5,x6,x7, .slice(some⟨g,off,none⟩)n kc, .slice la m lc,x10,x11]_(λ_ hw=>hw.1)ha rfl ial)hHeld ?_;simp only [List.set_cons_succ,List.set_cons_zero];refine Nt.takeS(v:= .agg #[x0,x1,x2,x3,x4,x5,x6,x7, .slice(some⟨g,off,none⟩)n kc, .slice la m lc,x10,x11])1 32 rfl rfl(by kernel_rfl)(by kernel_rfl)(by kernel_rfl)(λ_ _ _ h=>h)(yieldsIf_load_mid(by rfl)32 _ rfl w.heap.size 0 rfl [x0,x1,x2,x3,x4,x5,x6,x7, .slice(some⟨g,off,none⟩)n kc, .slice la m lc,x10,x11]_(λ_ hw=>hw.1)ha rfl ial)hHeld ?_;simp only [List.set_cons_succ,List.set_cons_zero];refine Nt.takeS(v:= .agg(Dd.row l))2 33 rfl rfl(by kernel_rfl)(by kernel_rfl)(by kernel_rfl)(λ_ _ _ h=>h)(yieldsIf_load_mid(by rfl)41 _ rfl(w.heap.size+1)0 rfl(Dd.ints l)_(λ_ hw=>hw.2)hu rfl ill)hHeld ?_;simp only [List.set_cons_succ,List.set_cons_zero];refine Nt.takeS(v:= ?va3)3 34 rfl rfl(by kernel_rfl)(by kernel_rfl)(by kernel_rfl)(λ_ _ _ h=>h)(Or.inl⟨by rfl, ?ya3⟩)hHeld ?ra3
  case ya3=>(intro w hSw;(try dsimp only at hSw);go_simp;all_goals(with_reducible rfl))
  simp only [List.set_cons_succ,List.set_cons_zero];refine wpAnyH_ready(rs:= [4])(by kernel_rfl)(by simp) ?_;refine AllReadyH.cons rfl(λK hK=> ?_)AllReadyH.nil;go_simp
  go_at_call 33
  refine Calls.mono(CE.out _ HFd.out.bel) ?_;rintro e W5⟨rfl,hb5⟩;have HF5:Hid _:=HFd.out.below hb5;clear hb5
  go_wp2_with fail
  refine hK.out _ _ ?_(λhH4=> ?_)
  ·exact HS.out _ HF5.out
  clear hK K
  first|refine Nt.normS 35 rfl ?_|skip
  first|(simp only [List.set_cons_succ,List.set_cons_zero])|(simp only [List.set_cons_zero])|skip
  refine wpAnyH_ready(rs:= [5])(by kernel_rfl)(by simp) ?_;refine AllReadyH.cons rfl(λK hK=> ?_)AllReadyH.nil;go_simp
  go_at_call 27
  refine Calls.mono(CS.out _ HF5.out.bel) ?_;rintro e W6⟨rfl,hb6⟩;have HF6:Hid _:=HF5.out.below hb6;clear hb6
  go_wp2_with fail
  refine hK.out _ _ ?_(λhH5=> ?_)
  ·exact HS.out _ HF6.out
  clear hK K
  first|refine Nt.normS 36 rfl ?_|skip
  first|(simp only [List.set_cons_succ,List.set_cons_zero])|(simp only [List.set_cons_zero])|skip
  refine wpAnyH_ready(rs:= [6])(by kernel_rfl)(by simp) ?_;refine AllReadyH.cons rfl(λK hK=> ?_)AllReadyH.nil;have NR6:=HF6.out.rs.h;refine Dd.step_row rfl 41 _ _ rfl(w.heap.size+1+1)(Dd.row t)rfl rfl 41 _ NR6 it ez ot ?_;refine hK.out _ _ ?_(λhH6=> ?_)
  ·exact HST.out _(HF6.out.setR HTL.out)
  clear hK K;refine Nt.takeS(v:= ?va7)7 7 rfl rfl(by kernel_rfl)(by kernel_rfl)(by kernel_rfl)(λ_ _ _ h=>h)(Or.inl⟨by rfl, ?ya7⟩)hH6 ?ra7
  case ya7=>(intro w hSw;(try dsimp only at hSw);go_simp;all_goals(with_reducible rfl))
  simp only [List.set_cons_succ,List.set_cons_zero];refine wpAnyH_done(by kernel_rfl) ?_ _
  go_wp2_with fail
  have NR6:=HF6.out.rs.h;have HX:Hid(Below w.heap.size w W6):=HF6.out.bel;refine bodyPost_ret(Dd.results2 Tryz.results17 _ _(w.heap.size+1+1)(Dd.row t)rfl(run_loadVar_row _(w.heap.size+1+1)41 41(Dd.row t)(0,0)_(setRow_heap _ _ _ _ _ _ NR6)hu rfl it))rfl⟨?_,Tk.below_row HX.out(by omega)_⟩;rw [HQ2.out];rfl
def Dd.startR(wb:Bool)(ls kk:List(Int×Int)):List Int×Int:=if wb=true then(Dd.start ls kk,0)else(Dd.zeros,4)
theorem Tryz.deadStart_any(x0 x1 x2 x3 x4 x5 x6 x7 x10 x11:Value)(ka la:Option Addr)(n kc m lc:Nat)(ls kk:List(Int×Int))(wb:Bool)(w:World)(hL:Ac.Lks w w.heap.size la ls)(hK:Dd.Kds w w.heap.size ka kk)(hm:ls.length=m)(hn:kk.length=n)(hW:wb=true->Dd.Web ls kk)
  (CW0: ∀W,Below w.heap.size w W->Calls Tryz.prog 26 #[.agg #[x0,x1,x2,x3,x4,x5,x6,x7, .slice ka n kc, .slice la m lc,x10,x11]]W λe w'=>e= .returned(.bool wb)/\Below W.heap.size W w'):
  Calls Tryz.prog 11 #[.agg #[x0,x1,x2,x3,x4,x5,x6,x7, .slice ka n kc, .slice la m lc,x10,x11]]w λe w'=>e= .returned(Dd.two(Dd.startR wb ls kk))/\Below w.heap.size w w':=by
 obtain⟨w1,hw1⟩: ∃z,(w.alloc(.cells #[x0,x1,x2,x3,x4,x5,x6,x7, .slice ka n kc, .slice la m lc,x10,x11]32)).alloc(.cells Tryz.zeroCells41 41)=z:=⟨_,rfl⟩;have h0:Dd.Bx(w.alloc(.cells #[x0,x1,x2,x3,x4,x5,x6,x7, .slice ka n kc, .slice la m lc,x10,x11]32))w.heap.size #[x0,x1,x2,x3,x4,x5,x6,x7, .slice ka n kc, .slice la m lc,x10,x11]:=heap_alloc_new w _;have h1:=Dd.At.new(w.alloc(.cells #[x0,x1,x2,x3,x4,x5,x6,x7, .slice ka n kc, .slice la m lc,x10,x11]32))Dd.zeros_length;rw [show(w.alloc(.cells #[x0,x1,x2,x3,x4,x5,x6,x7, .slice ka n kc, .slice la m lc,x10,x11]32)).heap.size=w.heap.size+1 by simp,<-Dd.zero_row,hw1]at h1;have h2:Dd.Bx w1 w.heap.size #[x0,x1,x2,x3,x4,x5,x6,x7, .slice ka n kc, .slice la m lc,x10,x11]:=by rw [<-hw1];exact h0.keep(Below.heap_alloc _ _ _ h0.lt)
 have B1:Below w.heap.size w w1:=by rw [<-hw1];exact((Below.refl _ w).alloc(Nat.le_refl _)_).alloc(by simp)_
 have H1:Hid _:=hw1;have CW:Hid _:=CW0 w1 B1;have HF:Hid(∀W,Below w1.heap.size w1 W->Dd.Bx W w.heap.size #[x0,x1,x2,x3,x4,x5,x6,x7, .slice ka n kc, .slice la m lc,x10,x11]/\Dd.At W(w.heap.size+1)Dd.zeros/\Below w.heap.size w W):=λW hb=>⟨h2.below hb h2.lt,h1.below hb h1.lt,B1.trans(hb.mono B1.size)⟩;have HB:Hid(Ac.Lks w w.heap.size la ls/\Dd.Kds w w.heap.size ka kk/\ls.length=m/\kk.length=n):=⟨hL,hK,hm,hn⟩;have NA:=h2;unfold Dd.Bx at NA;have ha:=Tryz.underlying32;have hu:=Tryz.underlying41;have ia:(Tryz.prog.info? 32).map(·.size)=some(#[x0,x1,x2,x3,x4,x5,x6,x7, .slice ka n kc, .slice la m lc,x10,x11]:Array Value).size:=Dd.info_act;have zl:(Tryz.prog.info? 41).map(·.size)=some(Dd.row Dd.zeros).size:=Dd.info_row Dd.zeros_length;have zo:=Dd.row_one Dd.zeros;have HZ:Hid(Tryz.zeroCells41=Dd.row Dd.zeros):=Dd.zero_row;clear hL hK hm hn hw1 h0 h1 h2 B1 CW0
 cases wb with
 |false=>
  have HQ:Hid(Dd.startR false ls kk=(Dd.zeros,4)):=rfl;clear hW
  go_enter Tryz.func11,Tryz.ntmps11
  go_upto_region 1 with fail
  rw [H1.out]
  go_wp2_with(refine wpList_load_row rfl 32 _ rfl _ rfl 32 _(0,0)_ NA ha rfl ia ?_)
  refine Calls.mono CW.out ?_;rintro e W2⟨rfl,hb2⟩;have NRz:=(HF.out W2 hb2).2.1.h;rw [<-HZ.out]at NRz zl zo;have HX:Hid(Below w.heap.size w W2):=(HF.out W2 hb2).2.2;clear hb2 CW
  go_wp2_with(refine wpList_store_row rfl 41 _ _ rfl(w.heap.size+1)Tryz.zeroCells41 rfl rfl 41 _ NRz zl rfl zo ?_)
  refine bodyPost_ret(Dd.results2 Tryz.results11 _ _(w.heap.size+1)Tryz.zeroCells41 rfl(run_loadVar_row _(w.heap.size+1)41 41 Tryz.zeroCells41(0,0)_(setRow_heap _ _ _ _ _ _ NRz)hu rfl zl))rfl⟨?_,Tk.below_row HX.out(by omega)_⟩;rw [HQ.out,HZ.out];rfl
 |true=>
 have HW:Hid(Dd.Web ls kk):=hW rfl;obtain⟨s,hs⟩: ∃s,Dd.left ls Dd.zeros(-1)1=s:=⟨_,rfl⟩;have hsl:s.length=104:=by rw [<-hs,Dd.left_length];exact Dd.zeros_length
 obtain⟨t,ht⟩: ∃t,Dd.settle ls kk s=t:=⟨_,rfl⟩;have htl:t.length=104:=by rw [<-ht];exact Dd.settle_length HW.out hsl
 have HQ2:Hid(Dd.startR true ls kk=(t,0)):=by
  show(Dd.start ls kk,(0:Int))=_;unfold Dd.start;rw [hs,ht]
 have CE:Hid(∀W,Below w.heap.size w W->Calls Tryz.prog 28 #[.agg #[x0,x1,x2,x3,x4,x5,x6,x7, .slice ka n kc, .slice la m lc,x10,x11], .agg Tryz.zeroCells41, .int .i64(-1), .int .i64 1]W λe w'=>e= .returned(.agg(Dd.row s))/\Below W.heap.size W w'):=λW hb=>by
  have h:=Tryz.left_any x0 x1 x2 x3 x4 x5 x6 x7(.slice ka n kc)x10 x11 la m lc ls Dd.zeros(-1)1 W((HB.out.1.keep hb.block).wider hb.size)Dd.zeros_length HB.out.2.2.1(by have:=HW.out.l40;have:=HB.out.2.2.1;omega);rw [hs,<-Dd.zero_row]at h;exact h
 have CS:Hid(∀W,Below w.heap.size w W->Calls Tryz.prog 27 #[.agg #[x0,x1,x2,x3,x4,x5,x6,x7, .slice ka n kc, .slice la m lc,x10,x11], .agg(Dd.row s)]W λe w'=>e= .returned(.agg(Dd.row t))/\Below W.heap.size W w'):=λW hb=>by
  have h:=Tryz.settle_any x0 x1 x2 x3 x4 x5 x6 x7 x10 x11 ka la n kc m lc ls kk s W((HB.out.1.keep hb.block).wider hb.size)((HB.out.2.1.keep hb.block).wider hb.size)hsl HB.out.2.2.1 HB.out.2.2.2 HW.out;rw [ht]at h;exact h
 have ial:(Tryz.prog.info? 32).map(·.size)=some([x0,x1,x2,x3,x4,x5,x6,x7, .slice ka n kc, .slice la m lc,x10,x11]:List Value).length:=ia;have it:=Dd.info_row htl;have ot:=Dd.row_one t;have ez:(Dd.row Dd.zeros).size=(Dd.row t).size:=by rw [Dd.row_size,Dd.row_size,htl,Dd.zeros_length]
 clear hs hsl ht htl
 go_enter Tryz.func11,Tryz.ntmps11
 go_upto_region 1 with fail
 rw [H1.out]
 go_wp2_with(refine wpList_load_row rfl 32 _ rfl _ rfl 32 _(0,0)_ NA ha rfl ia ?_)
 refine Calls.mono CW.out ?_;rintro e W2⟨rfl,hb2⟩
 have HFd:Hid(Dd.Bx W2.drew w.heap.size #[x0,x1,x2,x3,x4,x5,x6,x7, .slice ka n kc, .slice la m lc,x10,x11]/\Dd.At W2.drew(w.heap.size+1)Dd.zeros/\Below w.heap.size w W2.drew):=by
  have h:=HF.out W2 hb2;exact⟨h.1,⟨h.2.1.h,h.2.1.len⟩,h.2.2.drew⟩
 clear hb2 CW NA
 go_upto_region 3 with fail
 refine wp_region_held_drew(S:=(λV=>V.rangeAt w.heap.size 0 [x0,x1,x2,x3,x4,x5,x6,x7, .slice ka n kc, .slice la m lc,x10,x11]))(by kernel_rfl) ?_(λhHeld=> ?_)
 ·exact Dd.range_bx HFd.out.1
 refine Nt.takeS(v:= .agg #[x0,x1,x2,x3,x4,x5,x6,x7, .slice ka n kc, .slice la m lc,x10,x11])0 8 rfl rfl(by kernel_rfl)(by kernel_rfl)(by kernel_rfl)(λ_ _ _ h=>h)(yieldsIf_load_mid(by rfl)32 _ rfl w.heap.size 0 rfl [x0,x1,x2,x3,x4,x5,x6,x7, .slice ka n kc, .slice la m lc,x10,x11]_(λ_ hw=>hw)ha rfl ial)hHeld ?_;simp only [List.set_cons_succ,List.set_cons_zero];refine Nt.takeS(v:= .agg #[x0,x1,x2,x3,x4,x5,x6,x7, .slice ka n kc, .slice la m lc,x10,x11])1 9 rfl rfl(by kernel_rfl)(by kernel_rfl)(by kernel_rfl)(λ_ _ _ h=>h)(yieldsIf_load_mid(by rfl)32 _ rfl w.heap.size 0 rfl [x0,x1,x2,x3,x4,x5,x6,x7, .slice ka n kc, .slice la m lc,x10,x11]_(λ_ hw=>hw)ha rfl ial)hHeld ?_;simp only [List.set_cons_succ,List.set_cons_zero];refine Nt.takeS(v:= ?va2)2 10 rfl rfl(by kernel_rfl)(by kernel_rfl)(by kernel_rfl)(λ_ _ _ h=>h)(Or.inl⟨by rfl, ?ya2⟩)hHeld ?ra2
 case ya2=>(intro w hSw;(try dsimp only at hSw);go_simp;all_goals(with_reducible rfl))
 simp only [List.set_cons_succ,List.set_cons_zero];refine wpAnyH_ready(rs:= [3])(by kernel_rfl)(by simp) ?_;refine AllReadyH.cons rfl(λK hK=> ?_)AllReadyH.nil;go_simp
 go_at_call 28
 refine Calls.mono(CE.out _ HFd.out.2.2) ?_;rintro e W5⟨rfl,hb5⟩;have HF5:Hid(Dd.Bx W5 w.heap.size #[x0,x1,x2,x3,x4,x5,x6,x7, .slice ka n kc, .slice la m lc,x10,x11]/\Dd.At W5(w.heap.size+1)Dd.zeros/\Below w.heap.size w W5):=⟨HFd.out.1.below hb5 HFd.out.1.lt,HFd.out.2.1.below hb5 HFd.out.2.1.lt,HFd.out.2.2.trans(hb5.mono HFd.out.2.2.size)⟩;clear hb5
 go_wp2_with fail
 refine hK.out _ _ ?_(λhH4=> ?_)
 ·exact Dd.range_bx HF5.out.1
 clear hK K
 first|refine Nt.normS 11 rfl ?_|skip
 first|(simp only [List.set_cons_succ,List.set_cons_zero])|(simp only [List.set_cons_zero])|skip
 refine wpAnyH_ready(rs:= [4])(by kernel_rfl)(by simp) ?_;refine AllReadyH.cons rfl(λK hK=> ?_)AllReadyH.nil;go_simp
 go_at_call 27
 refine Calls.mono(CS.out _ HF5.out.2.2) ?_;rintro e W6⟨rfl,hb6⟩;have HF6:Hid(Dd.Bx W6 w.heap.size #[x0,x1,x2,x3,x4,x5,x6,x7, .slice ka n kc, .slice la m lc,x10,x11]/\Dd.At W6(w.heap.size+1)Dd.zeros/\Below w.heap.size w W6):=⟨HF5.out.1.below hb6 HF5.out.1.lt,HF5.out.2.1.below hb6 HF5.out.2.1.lt,HF5.out.2.2.trans(hb6.mono HF5.out.2.2.size)⟩;clear hb6
 go_wp2_with fail
 refine hK.out _ _ ?_(λhH5=> ?_)
 ·exact Dd.range_bx HF6.out.1
 clear hK K
 first|refine Nt.normS 12 rfl ?_|skip
 first|(simp only [List.set_cons_succ,List.set_cons_zero])|(simp only [List.set_cons_zero])|skip
 refine wpAnyH_ready(rs:= [5])(by kernel_rfl)(by simp) ?_;refine AllReadyH.cons rfl(λK hK=> ?_)AllReadyH.nil;have NR6:=HF6.out.2.1.h;refine Dd.step_row rfl 41 _ _ rfl(w.heap.size+1)(Dd.row t)rfl rfl 41 _ NR6 it ez ot ?_;refine hK.out _ _ ?_(λhH6=> ?_)
 ·exact Dd.range_bx(HF6.out.1.keep(setRow_other _ _ _ _(by omega)))
 clear hK K;refine Nt.takeS(v:= ?va7)6 3 rfl rfl(by kernel_rfl)(by kernel_rfl)(by kernel_rfl)(λ_ _ _ h=>h)(Or.inl⟨by rfl, ?ya7⟩)hH6 ?ra7
 case ya7=>(intro w hSw;(try dsimp only at hSw);go_simp;all_goals(with_reducible rfl))
 simp only [List.set_cons_succ,List.set_cons_zero];refine wpAnyH_done(by kernel_rfl) ?_ _
 go_wp2_with fail
 have NR6:=HF6.out.2.1.h;have HX:Hid(Below w.heap.size w W6):=HF6.out.2.2;refine bodyPost_ret(Dd.results2 Tryz.results11 _ _(w.heap.size+1)(Dd.row t)rfl(run_loadVar_row _(w.heap.size+1)41 41(Dd.row t)(0,0)_(setRow_heap _ _ _ _ _ _ NR6)hu rfl it))rfl⟨?_,Tk.below_row HX.out(by omega)_⟩;rw [HQ2.out];rfl
def Dd.choR(wb:Bool)(ls kk:List(Int×Int))(l:List Int)(kid out:Int):List Int×Int:=
 if Dd.checkI wb kk.length ls.length l≠0 then(Dd.zeros,Dd.checkI wb kk.length ls.length l)else if Dd.runsB kk.length l kid=false∨Dd.gateB kk kid.toNat=false then(Dd.zeros,6)else if Dd.linkAt kid ls 0 out<0 then(Dd.zeros,1)else(Dd.chose ls kk l kid.toNat(Dd.linkAt kid ls 0 out).toNat,0)
theorem Dd.linkAt_or(kid:Int): ∀(l:List(Int×Int))(b:Nat)(o:Int),Dd.linkAt kid l b o= -1∨ ∃c:Nat,c<l.length/\Dd.linkAt kid l b o=(b+c:Nat)
 | [],_,_=> .inl rfl
 |x::r,b,o=>by
  rw [Dd.linkAt]
  by_cases e:x.1=kid
  ·rw [if_pos e]
   by_cases z:o=0
   ·rw [if_pos z];exact .inr⟨0,by simp,rfl⟩
   rw [if_neg z]
   rcases Dd.linkAt_or kid r(b+1)(o-1)with h|⟨c,h1,h2⟩
   ·exact .inl h
   exact .inr⟨c+1,by simp;omega,by rw [h2];omega⟩
  rw [if_neg e]
  rcases Dd.linkAt_or kid r(b+1)o with h|⟨c,h1,h2⟩
  ·exact .inl h
  exact .inr⟨c+1,by simp;omega,by rw [h2];omega⟩
theorem Tryz.deadChoose_any(x0 x1 x2 x3 x4 x5 x6 x7 x10 x11:Value)(ka la:Option Addr)(n kc m lc:Nat)(ls kk:List(Int×Int))(l:List Int)(kid out:Int)(wb:Bool)(w:World)(hL:Ac.Lks w w.heap.size la ls)(hK:Dd.Kds w w.heap.size ka kk)(hl:l.length=104)(hm:ls.length=m)(hn:kk.length=n)(hW:wb=true->Dd.Web ls kk)(ho0: -9223372036854775808<=out)(ho1:out<=9223372036854775807)
  (CW0: ∀W,Below w.heap.size w W->Calls Tryz.prog 26 #[.agg #[x0,x1,x2,x3,x4,x5,x6,x7, .slice ka n kc, .slice la m lc,x10,x11]]W λe w'=>e= .returned(.bool wb)/\Below W.heap.size W w'):
  Calls Tryz.prog 23 #[.agg #[x0,x1,x2,x3,x4,x5,x6,x7, .slice ka n kc, .slice la m lc,x10,x11], .agg(Dd.row l), .int .i64 kid, .int .i64 out]w λe w'=>e= .returned(Dd.two(Dd.choR wb ls kk l kid out))/\Below w.heap.size w w':=by
 obtain⟨R,hR⟩: ∃R,Dd.choR wb ls kk l kid out=R:=⟨_,rfl⟩;rw [hR];obtain⟨w1,hw1⟩: ∃z,(((w.alloc(.cells #[x0,x1,x2,x3,x4,x5,x6,x7, .slice ka n kc, .slice la m lc,x10,x11]32)).alloc(.cells(Dd.row l)41)).alloc(.cells Tryz.zeroCells41 41))=z:=⟨_,rfl⟩;have F1:=Dd.Fr.new w #[x0,x1,x2,x3,x4,x5,x6,x7, .slice ka n kc, .slice la m lc,x10,x11]hl;rw [hw1]at F1;have H1:Hid _:=hw1;have hh:wb=true->m<=40/\n<=64:=λh=>⟨by have:=(hW h).l40;omega,by have:=(hW h).k64;omega⟩;have CC:Hid _:=Tryz.deadCheck_any x0 x1 x2 x3 x4 x5 x6 x7 x10 x11 ka la n kc m lc l wb w1 hl hh(λW hb=>CW0 W(F1.bel.trans(hb.mono F1.bel.size)));have HF:Hid(∀W,Below w1.heap.size w1 W->Dd.Fr w #[x0,x1,x2,x3,x4,x5,x6,x7, .slice ka n kc, .slice la m lc,x10,x11]l Dd.zeros W):=λW hb=>F1.below hb
 have HR:Hid(R=if Dd.checkI wb n m l≠0 then(Dd.zeros,Dd.checkI wb n m l)else if Dd.runsB n l kid=false∨Dd.gateB kk kid.toNat=false then(Dd.zeros,6)else if Dd.linkAt kid ls 0 out<0 then(Dd.zeros,1)else(Dd.chose ls kk l kid.toNat(Dd.linkAt kid ls 0 out).toNat,0)):=by
  show _=_;rw [<-hR,<-hm,<-hn];rfl
 have HB:Hid(Ac.Lks w w.heap.size la ls/\Dd.Kds w w.heap.size ka kk/\l.length=104/\ls.length=m/\kk.length=n):=⟨hL,hK,hl,hm,hn⟩;have HW:Hid(wb=true->Dd.Web ls kk):=hW;obtain⟨c,hc⟩: ∃c,Dd.checkI wb n m l=c:=⟨_,rfl⟩;rw [hc]at CC HR;have HC:Hid(Dd.checkI wb n m l=c):=hc;have NA:=F1.bx;unfold Dd.Bx at NA;have NS:=F1.st.h;have ha:=Tryz.underlying32;have hu:=Tryz.underlying41;have ia:(Tryz.prog.info? 32).map(·.size)=some(#[x0,x1,x2,x3,x4,x5,x6,x7, .slice ka n kc, .slice la m lc,x10,x11]:Array Value).size:=Dd.info_act;have il:=Dd.info_row hl;have zl:(Tryz.prog.info? 41).map(·.size)=some(Dd.row Dd.zeros).size:=Dd.info_row Dd.zeros_length;have zo:=Dd.row_one Dd.zeros;have zz:Tryz.zeroCells41=Dd.row Dd.zeros:=Dd.zero_row;have HZ:Hid(Tryz.zeroCells41=Dd.row Dd.zeros):=zz;have HO:Hid(-9223372036854775808<=out/\out<=9223372036854775807):=⟨ho0,ho1⟩;clear hL hK hl hm hn hR hw1 F1 hW hh hc CW0 zz ho0 ho1
 by_cases hc0:c=0
 rotate_left
 ·have e0:(c !=0)=true:=by simpa using hc0
  have HQ:Hid(R=(Dd.zeros,c)):=by
   have h:=HR.out;rw [if_pos hc0]at h;exact h
  clear hc0
  go_enter Tryz.func23,Tryz.ntmps23
  go_upto_region 1 with fail
  rw [H1.out]
  go_wp2_with(first
   |refine wpList_load_row rfl 32 _ rfl _ rfl 32 _(0,0)_ NA ha rfl ia ?_
   |refine wpList_load_row rfl 41 _ rfl _ rfl 41(Dd.row l)(0,0)_ NS hu rfl il ?_)
  refine Calls.mono CC.out ?_;rintro e W2⟨rfl,hb2⟩;have F2:=HF.out W2 hb2;have HF2:Hid _:=F2;have HB2:Hid(Below w1.heap.size w1 W2):=hb2;have NR:=F2.rs.h;clear hb2 F2 CC NA NS;have NRz:=HF2.out.rs.h;have zl':=zl;have zo':=zo;rw [<-HZ.out]at NRz zl' zo';have HX:Hid(Below w.heap.size w _):=HF2.out.bel
  go_wp2_with(refine wpList_store_row rfl 41 _ _ rfl(w.heap.size+1+1)Tryz.zeroCells41 rfl rfl 41 _ NRz zl' rfl zo' ?_)
  refine bodyPost_ret(Dd.results2 Tryz.results23 _ _(w.heap.size+1+1)Tryz.zeroCells41 rfl(run_loadVar_row _(w.heap.size+1+1)41 41 Tryz.zeroCells41(0,0)_(setRow_heap _ _ _ _ _ _ NRz)hu rfl zl'))rfl⟨?_,Tk.below_row HX.out(by omega)_⟩;rw [HQ.out,HZ.out];rfl
 have e0:(c !=0)=false:=by simp [hc0]
 have hwb:wb=true:=by
  cases wb with
  |true=>rfl
  |false=>have h:=HC.out;rw [hc0]at h;simp [Dd.checkI]at h
 have hWb:=HW.out hwb;obtain⟨r,hr⟩: ∃r,Dd.runsB n l kid=r:=⟨_,rfl⟩;have n64:n<=64:=by have:=hWb.k64;have:=HB.out.2.2.2.2;omega
 have CR:Hid(∀W,Calls Tryz.prog 32 #[.agg #[x0,x1,x2,x3,x4,x5,x6,x7, .slice ka n kc, .slice la m lc,x10,x11], .agg(Dd.row l), .int .i64 kid]W λe w'=>e= .returned(.bool r)/\Below W.heap.size W w'):=λW=>by
  have h:=Tryz.deadRuns_any x0 x1 x2 x3 x4 x5 x6 x7(.slice la m lc)x10 x11 ka n kc l kid W HB.out.2.2.1 n64;rw [hr]at h;exact h
 have HR2:Hid(R=if r=false∨Dd.gateB kk kid.toNat=false then(Dd.zeros,6)else if Dd.linkAt kid ls 0 out<0 then(Dd.zeros,1)else(Dd.chose ls kk l kid.toNat(Dd.linkAt kid ls 0 out).toNat,0)):=by
  have h:=HR.out;rw [if_neg(by omega),hr]at h;exact h
 have HRR:Hid(Dd.runsB n l kid=r):=hr;have HWB:Hid(Dd.Web ls kk):=hWb;clear hc0 hr hwb hWb HR
 go_enter Tryz.func23,Tryz.ntmps23
 go_upto_region 1 with fail
 rw [H1.out]
 go_wp2_with(first
  |refine wpList_load_row rfl 32 _ rfl _ rfl 32 _(0,0)_ NA ha rfl ia ?_
  |refine wpList_load_row rfl 41 _ rfl _ rfl 41(Dd.row l)(0,0)_ NS hu rfl il ?_)
 refine Calls.mono CC.out ?_;rintro e W2⟨rfl,hb2⟩;have F2:=HF.out W2 hb2;have HF2:Hid _:=F2;have HB2:Hid(Below w1.heap.size w1 W2):=hb2;have NR:=F2.rs.h;clear hb2 F2 CC NA NS
 go_upto_region 4 with fail
 have NA2:=HF2.out.bx;unfold Dd.Bx at NA2;have NS2:=HF2.out.st.h
 cases r with
 |false=>
  have HQ:Hid(R=(Dd.zeros,6)):=by
   have h:=HR2.out;rw [if_pos(.inl rfl)]at h;exact h
  go_wp2_with(first
   |refine wpList_load_row rfl 32 _ rfl _ rfl 32 _(0,0)_ NA2 ha rfl ia ?_
   |refine wpList_load_row rfl 41 _ rfl _ rfl 41(Dd.row l)(0,0)_ NS2 hu rfl il ?_)
  refine Calls.mono(CR.out _) ?_;rintro e W3⟨rfl,hb3⟩;have HF3:Hid _:=HF2.out.below hb3;clear hb3 NA2 NS2 NR;have NRz:=HF3.out.rs.h;have zl':=zl;have zo':=zo;rw [<-HZ.out]at NRz zl' zo';have HX:Hid(Below w.heap.size w _):=HF3.out.bel
  go_wp2_with(refine wpList_store_row rfl 41 _ _ rfl(w.heap.size+1+1)Tryz.zeroCells41 rfl rfl 41 _ NRz zl' rfl zo' ?_)
  refine bodyPost_ret(Dd.results2 Tryz.results23 _ _(w.heap.size+1+1)Tryz.zeroCells41 rfl(run_loadVar_row _(w.heap.size+1+1)41 41 Tryz.zeroCells41(0,0)_(setRow_heap _ _ _ _ _ _ NRz)hu rfl zl'))rfl⟨?_,Tk.below_row HX.out(by omega)_⟩;rw [HQ.out,HZ.out];rfl
 |true=>
  obtain⟨k,rfl,hk⟩: ∃k:Nat,kid=k/\k<n:=by
   have h:=HRR.out;unfold Dd.runsB at h;rw [Bool.and_eq_true,Bool.and_eq_true,decide_eq_true_iff,decide_eq_true_iff]at h;exact⟨kid.toNat,by omega,by omega⟩
  obtain⟨g,off,rfl,hg,q0,q2⟩:=HB.out.2.1 k(by rw [HB.out.2.2.2.2];exact hk);have hkl:k<kk.length:=by rw [HB.out.2.2.2.2];exact hk
  obtain⟨x,hx⟩: ∃x,kk[k]'hkl=x:=⟨_,rfl⟩;obtain⟨K,A⟩:=x;rw [hx]at q0;have hgt:Dd.gateB kk k=decide(K=12):=by unfold Dd.gateB;rw [List.getElem?_eq_getElem hkl,hx];rfl
  have p0:(0:Int)<=k:=by omega
  have p1:(k:Int)<n:=by omega
  have p2:(k:Int)<64:=by omega
  have HG:Hid(R=if K=12 then(if Dd.linkAt k ls 0 out<0 then(Dd.zeros,1)else(Dd.chose ls kk l k(Dd.linkAt k ls 0 out).toNat,0))else(Dd.zeros,6)):=by
   have h:=HR2.out;rw [show((k:Int)).toNat=k by omega,hgt]at h
   by_cases hK:K=12
   ·rw [if_neg(by rintro(e|e);cases e;exact absurd hK(of_decide_eq_false e))]at h;rw [if_pos hK];exact h
   rw [if_pos(.inr(decide_eq_false hK))]at h;rw [if_neg hK];exact h
  have HKL:Hid(k<n/\g<w.heap.size/\w.cell? ⟨g,off+k*12,none⟩=some(.int .i64 K)):=⟨hk,hg,q0⟩;clear hx hkl hgt q0 q2 hg HR2
  go_wp2_with(first
   |refine wpList_load_row rfl 32 _ rfl _ rfl 32 _(0,0)_ NA2 ha rfl ia ?_
   |refine wpList_load_row rfl 41 _ rfl _ rfl 41(Dd.row l)(0,0)_ NS2 hu rfl il ?_)
  refine Calls.mono(CR.out _) ?_;rintro e W3⟨rfl,hb3⟩;have HF3:Hid _:=HF2.out.below hb3;have c8:=HF3.out.cs.2.2.2.2.2.2.2.2.1;have r0:W3.cell? ⟨g,off+k*12,none⟩=some(.int .i64 K):=by rw [HF3.out.bel.cell(p:=⟨g,off+k*12,none⟩)HKL.out.2.1];exact HKL.out.2.2
  clear hb3 NA2 NS2 NR
  by_cases hK:K=12
  rotate_left
  ·have eK:(K !=12)=true:=by simpa using hK
   have HQ:Hid(R=(Dd.zeros,6)):=by
    have h:=HG.out;rw [if_neg hK]at h;exact h
   clear hK HG;have NRz:=HF3.out.rs.h;have zl':=zl;have zo':=zo;rw [<-HZ.out]at NRz zl' zo';have HX:Hid(Below w.heap.size w _):=HF3.out.bel
   go_wp2_with(refine wpList_store_row rfl 41 _ _ rfl(w.heap.size+1+1)Tryz.zeroCells41 rfl rfl 41 _ NRz zl' rfl zo' ?_)
   refine bodyPost_ret(Dd.results2 Tryz.results23 _ _(w.heap.size+1+1)Tryz.zeroCells41 rfl(run_loadVar_row _(w.heap.size+1+1)41 41 Tryz.zeroCells41(0,0)_(setRow_heap _ _ _ _ _ _ NRz)hu rfl zl'))rfl⟨?_,Tk.below_row HX.out(by omega)_⟩;rw [HQ.out,HZ.out];rfl
  have eK:(K !=12)=false:=by simp [hK]
  obtain⟨v,hv⟩: ∃v,Dd.linkAt k ls 0 out=v:=⟨_,rfl⟩
  have HQ0:Hid(R=if v<0 then(Dd.zeros,1)else(Dd.chose ls kk l k v.toNat,0)):=by
   have h:=HG.out;rw [if_pos hK,hv]at h;exact h
  have HV:Hid(v= -1∨ ∃c:Nat,c<m/\v=c):=by
   rcases Dd.linkAt_or k ls 0 out with h|⟨c,h1,h2⟩
   ·exact .inl(hv.symm.trans h)
   exact .inr⟨c,by have:=HB.out.2.2.2.1;omega,by rw [<-hv,h2];omega⟩
  have CL:Hid(∀W,Below w.heap.size w W->Calls Tryz.prog 37 #[.agg #[x0,x1,x2,x3,x4,x5,x6,x7, .slice(some⟨g,off,none⟩)n kc, .slice la m lc,x10,x11], .int .i64 k, .int .i64 out]W λe w'=>e= .returned(.int .i64 v)/\Below W.heap.size W w'):=λW hb=>by
   have h:=Tryz.linkAt_any x0 x1 x2 x3 x4 x5 x6 x7(.slice(some⟨g,off,none⟩)n kc)x10 x11 la m lc ls k out W((HB.out.1.keep hb.block).wider hb.size)HB.out.2.2.2.1(by have:=HWB.out.l40;have:=HB.out.2.2.2.1;omega)HO.out.1 HO.out.2;rw [hv]at h;exact h
  clear hK HG hv
  go_upto_region 6 with fail
  have NA3:=HF3.out.bx;unfold Dd.Bx at NA3
  go_wp2_with(refine wpList_load_row rfl 32 _ rfl _ rfl 32 _(0,0)_ NA3 ha rfl ia ?_)
  refine Calls.mono(CL.out _ HF3.out.bel) ?_;rintro e W4⟨rfl,hb4⟩;have HF4:Hid _:=HF3.out.below hb4;clear hb4 NA3 CL c8 r0
  by_cases hv0:v<0
  ·have ev:decide(v<0)=true:=decide_eq_true hv0
   have HQ:Hid(R=(Dd.zeros,1)):=by
    have h:=HQ0.out;rw [if_pos hv0]at h;exact h
   clear hv0 HQ0;have NRz:=HF4.out.rs.h;have zl':=zl;have zo':=zo;rw [<-HZ.out]at NRz zl' zo';have HX:Hid(Below w.heap.size w _):=HF4.out.bel
   go_wp2_with(refine wpList_store_row rfl 41 _ _ rfl(w.heap.size+1+1)Tryz.zeroCells41 rfl rfl 41 _ NRz zl' rfl zo' ?_)
   refine bodyPost_ret(Dd.results2 Tryz.results23 _ _(w.heap.size+1+1)Tryz.zeroCells41 rfl(run_loadVar_row _(w.heap.size+1+1)41 41 Tryz.zeroCells41(0,0)_(setRow_heap _ _ _ _ _ _ NRz)hu rfl zl'))rfl⟨?_,Tk.below_row HX.out(by omega)_⟩;rw [HQ.out,HZ.out];rfl
  have ev:decide(v<0)=false:=decide_eq_false hv0
  obtain⟨c2,hc2,rfl⟩: ∃c:Nat,c<m/\v=c:=by
   rcases HV.out with h|h
   ·omega
   exact h
  have i0:(0:Int)<=c2:=by omega
  have i1:(c2:Int)<40:=by have:=HWB.out.l40;have:=HB.out.2.2.2.1;omega
  obtain⟨s1,hs1⟩: ∃s,l.set(40+k)2=s:=⟨_,rfl⟩;have hs1l:s1.length=104:=by rw [<-hs1,List.length_set];exact HB.out.2.2.1
  obtain⟨s2,hs2⟩: ∃s,Dd.left ls s1 k 2=s:=⟨_,rfl⟩;have hs2l:s2.length=104:=by rw [<-hs2,Dd.left_length];exact hs1l
  obtain⟨s3,hs3⟩: ∃s,s2.set c2 1=s:=⟨_,rfl⟩;have hs3l:s3.length=104:=by rw [<-hs3,List.length_set];exact hs2l
  obtain⟨t,ht⟩: ∃t,Dd.settle ls kk s3=t:=⟨_,rfl⟩;have htl:t.length=104:=by rw [<-ht];exact Dd.settle_length HWB.out hs3l
  have HQ2:Hid(R=(t,0)):=by
   have h:=HQ0.out;rw [if_neg hv0,show((c2:Int)).toNat=c2 by omega]at h;unfold Dd.chose at h;rw [hs1,hs2,hs3,ht]at h;exact h
  have CE:Hid(∀W,Below w.heap.size w W->Calls Tryz.prog 28 #[.agg #[x0,x1,x2,x3,x4,x5,x6,x7, .slice(some⟨g,off,none⟩)n kc, .slice la m lc,x10,x11], .agg(Dd.row s1), .int .i64 k, .int .i64 2]W λe w'=>e= .returned(.agg(Dd.row s2))/\Below W.heap.size W w'):=λW hb=>by
   have h:=Tryz.left_any x0 x1 x2 x3 x4 x5 x6 x7(.slice(some⟨g,off,none⟩)n kc)x10 x11 la m lc ls s1 k 2 W((HB.out.1.keep hb.block).wider hb.size)hs1l HB.out.2.2.2.1(by have:=HWB.out.l40;have:=HB.out.2.2.2.1;omega);rw [hs2]at h;exact h
  have CS:Hid(∀W,Below w.heap.size w W->Calls Tryz.prog 27 #[.agg #[x0,x1,x2,x3,x4,x5,x6,x7, .slice(some⟨g,off,none⟩)n kc, .slice la m lc,x10,x11], .agg(Dd.row s3)]W λe w'=>e= .returned(.agg(Dd.row t))/\Below W.heap.size W w'):=λW hb=>by
   have h:=Tryz.settle_any x0 x1 x2 x3 x4 x5 x6 x7 x10 x11(some⟨g,off,none⟩)la n kc m lc ls kk s3 W((HB.out.1.keep hb.block).wider hb.size)((HB.out.2.1.keep hb.block).wider hb.size)hs3l HB.out.2.2.2.1 HB.out.2.2.2.2 HWB.out;rw [ht]at h;exact h
  have F5:Dd.Fr w #[x0,x1,x2,x3,x4,x5,x6,x7, .slice(some⟨g,off,none⟩)n kc, .slice la m lc,x10,x11]s1 Dd.zeros(W4.setCell⟨w.heap.size+1,40+k,none⟩(.int .i64 2)):=by
   have h:=HF4.out.put(40+k)2;rw [hs1]at h;exact h
  have f4:=HF4.out.st.frozen(40+k);have s4:=HF4.out.st.cell(40+k)(by have:=HKL.out.1;omega);obtain⟨W5,hW5⟩: ∃z,W4.setCell⟨w.heap.size+1,40+k,none⟩(.int .i64 2)=z:=⟨_,rfl⟩;rw [hW5]at F5;have HF5:Hid(Dd.Fr w #[x0,x1,x2,x3,x4,x5,x6,x7, .slice(some⟨g,off,none⟩)n kc, .slice la m lc,x10,x11]s1 Dd.zeros W5):=F5;have HW5:Hid _:=hW5;have HLL:Hid(s2.set c2 1=s3/\s1.length=104/\s2.length=104/\s3.length=104/\t.length=104):=⟨hs3,hs1l,hs2l,hs3l,htl⟩;clear hv0 HQ0 hc2 hs1 hs1l hs2 hs2l hs3 hs3l ht htl hW5 F5 HV
  go_upto_region 10 with fail
  rw [HW5.out];have NA5:=HF5.out.bx;unfold Dd.Bx at NA5;have NS5:=HF5.out.st.h;have i5:=Dd.info_row HLL.out.2.1;clear f4 s4 HW5
  go_wp2_with(first
   |refine wpList_load_row rfl 32 _ rfl _ rfl 32 _(0,0)_ NA5 ha rfl ia ?_
   |refine wpList_load_row rfl 41 _ rfl _ rfl 41(Dd.row s1)(0,0)_ NS5 hu rfl i5 ?_)
  refine Calls.mono(CE.out _ HF5.out.bel) ?_;rintro e W6⟨rfl,hb6⟩;have HF6:Hid _:=HF5.out.below hb6;have NS6:=HF6.out.st.h;have i6:=Dd.info_row HLL.out.2.2.1;have e6:(Dd.row s1).size=(Dd.row s2).size:=by rw [Dd.row_size,Dd.row_size,HLL.out.2.1,HLL.out.2.2.1]
  have o6:=Dd.row_one s2;have F7:=HF6.out.setS HLL.out.2.2.1;have f7:=F7.st.frozen c2;have s7:=F7.st.cell c2(by omega)
  have F8:Dd.Fr w #[x0,x1,x2,x3,x4,x5,x6,x7, .slice(some⟨g,off,none⟩)n kc, .slice la m lc,x10,x11]s3 Dd.zeros((W6.setRow(w.heap.size+1)(Dd.row s2)).setCell⟨w.heap.size+1,c2,none⟩(.int .i64 1)):=by
   have h:=F7.put c2 1;rw [HLL.out.1]at h;exact h
  obtain⟨W8,hW8⟩: ∃z,(W6.setRow(w.heap.size+1)(Dd.row s2)).setCell⟨w.heap.size+1,c2,none⟩(.int .i64 1)=z:=⟨_,rfl⟩;rw [hW8]at F8;have HF8:Hid(Dd.Fr w #[x0,x1,x2,x3,x4,x5,x6,x7, .slice(some⟨g,off,none⟩)n kc, .slice la m lc,x10,x11]s3 Dd.zeros W8):=F8;have HW8:Hid _:=hW8;clear hb6 NA5 NS5 i5 F7 F8 hW8
  go_upto_region 12 with(refine wpList_store_row rfl 41 _ _ rfl(w.heap.size+1)(Dd.row s2)rfl rfl 41 _ NS6 i6 e6 o6 ?_)
  rw [HW8.out];have NA8:=HF8.out.bx;unfold Dd.Bx at NA8;have NS8:=HF8.out.st.h;have i8:=Dd.info_row HLL.out.2.2.2.1;clear f7 s7 HW8 NS6 i6 e6 o6
  go_wp2_with(first
   |refine wpList_load_row rfl 32 _ rfl _ rfl 32 _(0,0)_ NA8 ha rfl ia ?_
   |refine wpList_load_row rfl 41 _ rfl _ rfl 41(Dd.row s3)(0,0)_ NS8 hu rfl i8 ?_)
  refine Calls.mono(CS.out _ HF8.out.bel) ?_;rintro e W9⟨rfl,hb9⟩;have HF9:Hid _:=HF8.out.below hb9;have NR9:=HF9.out.rs.h;have it:=Dd.info_row HLL.out.2.2.2.2;have ot:=Dd.row_one t;have ez:(Dd.row Dd.zeros).size=(Dd.row t).size:=by rw [Dd.row_size,Dd.row_size,HLL.out.2.2.2.2,Dd.zeros_length]
  have HX:Hid(Below w.heap.size w W9):=HF9.out.bel;clear hb9 NA8 NS8 i8
  go_wp2_with(refine wpList_store_row rfl 41 _ _ rfl(w.heap.size+1+1)(Dd.row t)rfl rfl 41 _ NR9 it ez ot ?_)
  refine bodyPost_ret(Dd.results2 Tryz.results23 _ _(w.heap.size+1+1)(Dd.row t)rfl(run_loadVar_row _(w.heap.size+1+1)41 41(Dd.row t)(0,0)_(setRow_heap _ _ _ _ _ _ NR9)hu rfl it))rfl⟨?_,Tk.below_row HX.out(by omega)_⟩;rw [HQ2.out];rfl
def Dd.runL(wb:Bool)(n m:Nat)(l:List Int):List Nat:=if Dd.checkI wb n m l≠0 then []else Dd.running n l
def Dd.lastI(ls:List(Int×Int)):Int:=match ls.findIdx? (λx=>decide(x.2= -1))with
 |some i=>(i:Int)
 |none=> -1
def Dd.overB(wb:Bool)(n:Nat)(ls:List(Int×Int))(l:List Int):Bool:=if Dd.checkI wb n ls.length l≠0 then false else decide(l.getD(Dd.lastI ls).toNat 0=1)
theorem Dd.run_step(_n:Nat)(l:List Int)(k:Nat):Dd.running(k+1)l=Dd.running k l++if l.getD(40+k)0=1 then [k]else []:=by
 unfold Dd.running;rw [List.range_succ,List.filter_append]
 congr 1
 rw [List.filter_cons,List.filter_nil]
 by_cases h:l.getD(40+k)0=1
 ·rw [if_pos(decide_eq_true h),if_pos h]
 rw [if_neg(by simpa using h),if_neg h]
structure Dd.F2(w:World)(xs:Array Value)(l:List Int)(W:World):Prop where
 bx:Dd.Bx W w.heap.size xs
 st:Dd.At W(w.heap.size+1)l
 bel:Below w.heap.size w W
theorem Dd.F2.new(w:World)(xs:Array Value) {l:List Int} (h:l.length=104):Dd.F2 w xs l((w.alloc(.cells xs 32)).alloc(.cells(Dd.row l)41)):=by
 have h0:Dd.Bx(w.alloc(.cells xs 32))w.heap.size xs:=heap_alloc_new w _;have h1:=Dd.At.new(w.alloc(.cells xs 32))h;rw [show(w.alloc(.cells xs 32)).heap.size=w.heap.size+1 by simp]at h1;exact⟨h0.keep(Below.heap_alloc _ _ _ h0.lt),h1,((Below.refl _ w).alloc(Nat.le_refl _)_).alloc(by simp)_⟩
theorem Dd.F2.below {w W W':World} {xs:Array Value} {l:List Int} (h:Dd.F2 w xs l W)(hb:Below W.heap.size W W'):Dd.F2 w xs l W':=
 ⟨h.bx.below hb h.bx.lt,h.st.below hb h.st.lt,h.bel.trans(hb.mono h.bel.size)⟩
theorem Tryz.deadRunning_any(x0 x1 x2 x3 x4 x5 x6 x7 x10 x11:Value)(ka la:Option Addr)(n kc m lc:Nat)(l:List Int)(wb:Bool)(w:World)(hl:l.length=104)(h40:wb=true->m<=40/\n<=64)
  (CW0: ∀W,Below w.heap.size w W->Calls Tryz.prog 26 #[.agg #[x0,x1,x2,x3,x4,x5,x6,x7, .slice ka n kc, .slice la m lc,x10,x11]]W λe w'=>e= .returned(.bool wb)/\Below W.heap.size W w'):
  Calls Tryz.prog 14 #[.agg #[x0,x1,x2,x3,x4,x5,x6,x7, .slice ka n kc, .slice la m lc,x10,x11], .agg(Dd.row l)]w λe w'=>Nt.Gives(Dd.runL wb n m l)w e w':=by
 obtain⟨i0,hi,hz0,hz1,hz2⟩:=info_parts Tryz.infoIntR;obtain⟨w1,hw1⟩: ∃z,(w.alloc(.cells #[x0,x1,x2,x3,x4,x5,x6,x7, .slice ka n kc, .slice la m lc,x10,x11]32)).alloc(.cells(Dd.row l)41)=z:=⟨_,rfl⟩;have F1:=Dd.F2.new w #[x0,x1,x2,x3,x4,x5,x6,x7, .slice ka n kc, .slice la m lc,x10,x11]hl;rw [hw1]at F1;have H1:Hid _:=hw1;have CC:Hid _:=Tryz.deadCheck_any x0 x1 x2 x3 x4 x5 x6 x7 x10 x11 ka la n kc m lc l wb w1 hl h40(λW hb=>CW0 W(F1.bel.trans(hb.mono F1.bel.size)));obtain⟨c,hc⟩: ∃c,Dd.checkI wb n m l=c:=⟨_,rfl⟩;obtain⟨R,hR⟩: ∃R,Dd.runL wb n m l=R:=⟨_,rfl⟩;rw [hc]at CC;rw [hR]
 have HR:Hid(R=if c≠0 then []else Dd.running n l):=by
  show _=_;rw [<-hR,Dd.runL,hc]
 have HC:Hid(Dd.checkI wb n m l=c):=hc;have HF:Hid(∀W,Below w1.heap.size w1 W->Dd.F2 w #[x0,x1,x2,x3,x4,x5,x6,x7, .slice ka n kc, .slice la m lc,x10,x11]l W):=λW hb=>F1.below hb;have H4:Hid(wb=true->m<=40/\n<=64):=h40;have NA:=F1.bx;unfold Dd.Bx at NA;have NS:=F1.st.h;have ha:=Tryz.underlying32;have hu:=Tryz.underlying41;have ia:(Tryz.prog.info? 32).map(·.size)=some(#[x0,x1,x2,x3,x4,x5,x6,x7, .slice ka n kc, .slice la m lc,x10,x11]:Array Value).size:=Dd.info_act;have il:=Dd.info_row hl;clear hw1 F1 hl h40 CW0 hc hR
 by_cases hc0:c=0
 rotate_left
 ·have e0:(c !=0)=true:=by simpa using hc0
  have HQ:Hid(R= []):=by
   have h:=HR.out;rw [if_pos hc0]at h;exact h
  clear hc0
  go_enter Tryz.func14,Tryz.ntmps14
  go_upto_region 1 with fail
  rw [H1.out]
  go_wp2_with(first
   |refine wpList_load_row rfl 32 _ rfl _ rfl 32 _(0,0)_ NA ha rfl ia ?_
   |refine wpList_load_row rfl 41 _ rfl _ rfl 41(Dd.row l)(0,0)_ NS hu rfl il ?_)
  refine Calls.mono CC.out ?_;rintro e W2⟨rfl,hb2⟩;have HX:Hid(Below w.heap.size w W2):=(HF.out W2 hb2).bel;clear hb2 CC NA NS HF;go_wp2;go_ret;rw [HQ.out];exact⟨_,rfl,World.ownsRow_nil _ _ _ _,HX.out⟩
 have e0:(c !=0)=false:=by simp [hc0]
 have hwb:wb=true:=by
  cases wb with
  |true=>rfl
  |false=>have h:=HC.out;rw [hc0]at h;simp [Dd.checkI]at h
 have n64:n<=64:=(H4.out hwb).2
 have HQ:Hid(R=Dd.running n l):=by
  have h:=HR.out;rw [if_neg(by omega)]at h;exact h
 clear hc0 hwb HR
 go_enter Tryz.func14,Tryz.ntmps14
 go_upto_region 1 with fail
 rw [H1.out]
 go_wp2_with(first
  |refine wpList_load_row rfl 32 _ rfl _ rfl 32 _(0,0)_ NA ha rfl ia ?_
  |refine wpList_load_row rfl 41 _ rfl _ rfl 41(Dd.row l)(0,0)_ NS hu rfl il ?_)
 refine Calls.mono CC.out ?_;rintro e W2⟨rfl,hb2⟩;have HF2:Hid(Dd.F2 w #[x0,x1,x2,x3,x4,x5,x6,x7, .slice ka n kc, .slice la m lc,x10,x11]l W2):=HF.out W2 hb2
 have c8:W2.cell? ⟨w.heap.size,8,none⟩=some(.slice ka n kc):=by
  have h:=HF2.out.bx;unfold Dd.Bx at h;simp [World.cell?,h]
 clear hb2 CC NA NS HF;go_wp2
 go_loopg [5,6,14]n(λgk s5 _ s14 wr=> ∃(k r:Nat)(L:List Nat),gk+k=n/\s14= .int .i64 k/\r<=k/\Hid(L=Dd.running k l/\L.length=r/\Below W2.heap.size W2 wr)/\wr.ownsRow W2.heap.size 3 1 s5 r(Rk.nums L))
 case atStart=>exact⟨0,0, [],by omega,rfl,Nat.le_refl _,⟨rfl,rfl,Below.refl _ W2⟩,World.ownsRow_nil _ _ _ _⟩
 case round=>
  obtain⟨k,r,L,hk,rfl,hr,HB,hown⟩:=hrel;obtain⟨av,cv,rfl⟩:=Rk.own_shape hown;clear c8
  by_cases hlt:k<n
  rotate_left
  ·have hd:decide((k:Int)<n)=false:=decide_eq_false(by omega)
   have HE:Hid(L=R/\L.length=r):=by
    obtain rfl:k=n:=by omega
    exact⟨HB.out.1.trans HQ.out.symm,HB.out.2.1⟩
   go_wp2;go_ret;rw [<-HE.out.1];refine⟨_,rfl, ?_,HF2.out.bel.trans(HB.out.2.2.mono HF2.out.bel.size)⟩;have h:=Nt.own_lower hown HF2.out.bel.size;rw [<-HE.out.2]at h;rw [<-HE.out.2];exact h
  have hd:decide((k:Int)<n)=true:=decide_eq_true(by omega);obtain⟨v,hv⟩: ∃v,l.getD(40+k)0=v:=⟨_,rfl⟩;have s1:=(HF2.out.below HB.out.2.2).st.cell(40+k)(by omega);rw [hv]at s1;have p0:(0:Int)<=k:=by omega
  have p1:(k:Int)<64:=by omega
  have HS:Hid(Dd.running(k+1)l=L++if v=1 then [k]else []):=by
   show _=_;rw [Dd.run_step n l k,<-HB.out.1,hv]
  clear hv
  by_cases h1:v=1
  ·have e1:(v==1)=true:=by simp [h1]
   have HN:Hid(Dd.running(k+1)l=L++ [k]):=by
    have h:=HS.out;rw [if_pos h1]at h;exact h
   clear h1 HS;have hs1:=HB.out.2.2.size
   go_wp2_with(at_builtin;refine wpList_append_own _ rfl _ _ 51 rfl W2.heap.size 3 i0(.int .i64 0)1 8 Tryz.underlying51 hi hz0 hz1 hz2 rfl(by decide)_ _ _ rfl(hown.alloc _)⟨wr.heap.size,0,none⟩1 1 [.int .i64 k]rfl rfl(Rk.one_cell wr k 3)(Rk.one_one k) ?c3 ?c4 ?c5 ?_)
   case c3=>unfold maxLen;omega
   case c4=>omega
   case c5=>simp;omega
   intro v' W3 own2 g2 _;obtain⟨a2,c2,rfl⟩:=Rk.own_shape own2;go_wp2;go_roundg(gk-1)
   case measure=>omega
   case rel=>
    refine⟨k+1,r+1,L++ [k],by omega,by go_num,by omega,⟨HN.out.symm,by simp [HB.out.2.1],Rk.below_grown(HB.out.2.2.alloc hs1 _)(by simp;omega)(hown.alloc _)g2⟩, ?_⟩;rw [Rk.nums_snoc];exact own2
  have e1:(v==1)=false:=by simpa using h1
  have HN:Hid(Dd.running(k+1)l=L):=by
   have h:=HS.out;rw [if_neg h1,List.append_nil]at h;exact h
  clear h1 HS;go_wp2;go_roundg(gk-1)
  case measure=>omega
  case rel=>exact⟨k+1,r,L,by omega,by go_num,by omega,⟨HN.out.symm,HB.out.2.1,HB.out.2.2⟩,hown⟩
end Go.Proofs
