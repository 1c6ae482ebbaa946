import Derived.Test.YtmomffminkflnaaGreatDoorRDdR5
set_option maxRecDepth 100000
set_option maxHeartbeats 32000000
namespace Go.Proofs
open Go.RowKit Go.Shelf
def Dd.finD (c:Int)(ls kk:List (Int×Int))(l:List Int)(kid:Int):List Int:=
 if c≠0 then Dd.zeros++ [c]else if Dd.runsB kk.length l kid=false∨Dd.gateB kk kid.toNat=true then Dd.zeros++ [6]else Dd.settledF ls kk kk.length (Dd.left ls (l.set (40+kid.toNat) 2) kid 1)++ [0]
structure Dd.GFr (w:World)(xs:Array Value)(l:List Int)(W:World):Prop where
 bx:Dd.RBx W w.heap.size xs
 st:Dd.RAt W (w.heap.size+1) l
 rs:W.heap[w.heap.size+1+1]? =some (.cells Tryz.zeroCells59 59 (0,0))
 bel:Below w.heap.size w W
theorem Dd.GFr.new (w:World)(xs:Array Value){l:List Int}(h:l.length=104):Dd.GFr w xs l (((w.alloc (.cells xs 48)).alloc (.cells (Dd.row l) 53)).alloc (.cells Tryz.zeroCells59 59)):=by
 have h0:Dd.RBx (w.alloc (.cells xs 48)) w.heap.size xs:=heap_alloc_new w _;have h1:=Dd.RAt.new (w.alloc (.cells xs 48)) h;rw[show(w.alloc (.cells xs 48)).heap.size=w.heap.size+1 by simp]at h1;have h2:=heap_alloc_new ((w.alloc (.cells xs 48)).alloc (.cells (Dd.row l) 53)) (.cells Tryz.zeroCells59 59);rw[show((w.alloc (.cells xs 48)).alloc (.cells (Dd.row l) 53)).heap.size=w.heap.size+1+1 by simp]at h2;refine⟨(h0.keep (Below.heap_alloc _ _ _ h0.lt)).keep (Below.heap_alloc _ _ _ (by simp;omega)),h1.keep (Below.heap_alloc _ _ _ h1.lt),h2, ?_⟩;exact(((Below.refl _ w).alloc (Nat.le_refl _) _).alloc (by simp) _).alloc (by simp;omega) _
theorem Dd.GFr.below {w W W':World}{xs:Array Value}{l:List Int}(h:Dd.GFr w xs l W)(hb:Below W.heap.size W W'):Dd.GFr w xs l W':=
 ⟨h.bx.below hb h.bx.lt,h.st.below hb h.st.lt,(hb.block _ (Array.getElem?_eq_some_iff.1 h.rs).1).trans h.rs,h.bel.trans (hb.mono h.bel.size)⟩
theorem Dd.Kid12.below {w W:World}{ka:Option Addr}{kk:List (Int×Int)}(h:Dd.Kid12 w w.heap.size ka kk)(hb:Below w.heap.size w W):Dd.Kid12 W W.heap.size ka kk:=λi hi=>by
 obtain⟨g,off,xs,q1,q2,q3,q4,q5,q6,q7⟩:=h i hi;exact⟨g,off,xs,q1,Nat.lt_of_lt_of_le q2 hb.size,q3,q4,q5,q6,λi v hv=>by rw[hb.cell (p:=⟨g,_,none⟩) q2];exact q7 i v hv⟩
theorem Dd.gate_get {kk:List (Int×Int)}{i:Nat}{K A:Int}(h:kk[i]? =some (K,A)):Dd.gateB kk i=decide (K=12):=by unfold Dd.gateB;rw[h];rfl
theorem Tryz.r19Finish_any (x0 x1 x2 x3 x4 x5 x6 x7 x10 x11:Value)(ka la:Option Addr)(n kc m lc:Nat)(ls kk:List (Int×Int))(l:List Int)(kid c:Int)(w:World)(hL:Ac.Lks w w.heap.size la ls)(hm:ls.length=m)
  (hK:Dd.Kid12 w w.heap.size ka kk) (hn:kk.length=n) (hl:l.length=104) (h40:c=0->m<=40/\n<=64)
  (CK0:∀W,Below w.heap.size w W->Calls Tryz.prog 20 #[.agg #[x0,x1,x2,x3,x4,x5,x6,x7,.slice ka n kc,.slice la m lc,x10,x11],.agg (Dd.row l)] W λe w'=>e=.returned (.int .i64 c)/\Below W.heap.size W w'):
  Calls Tryz.prog 18 #[.agg #[x0,x1,x2,x3,x4,x5,x6,x7,.slice ka n kc,.slice la m lc,x10,x11],.agg (Dd.row l),.int .i64 kid] w λe w'=>e=.returned (.agg (Dd.row (Dd.finD c ls kk l kid)))/\Below w.heap.size w w':=by
 obtain⟨R,hR⟩:=pE (Dd.finD c ls kk l kid);rw[hR];have HR:Hid (Dd.finD c ls kk l kid=R):=hR;obtain⟨w1,hw1⟩:=pE ((((w.alloc (.cells #[x0,x1,x2,x3,x4,x5,x6,x7,.slice ka n kc,.slice la m lc,x10,x11] 48)).alloc (.cells (Dd.row l) 53)).alloc (.cells Tryz.zeroCells59 59)));have F1:=Dd.GFr.new w #[x0,x1,x2,x3,x4,x5,x6,x7,.slice ka n kc,.slice la m lc,x10,x11] hl;rw[hw1]at F1;have H1:Hid _:=hw1;have HF:Hid (∀W,Below w1.heap.size w1 W->Dd.GFr w #[x0,x1,x2,x3,x4,x5,x6,x7,.slice ka n kc,.slice la m lc,x10,x11] l W):=λW hb=>F1.below hb;have CK:Hid _:=CK0 w1 F1.bel;have HK:Hid (Ac.Lks w w.heap.size la ls/\Dd.Kid12 w w.heap.size ka kk/\ls.length=m/\kk.length=n/\l.length=104):=⟨hL,hK,hm,hn,hl⟩;have NA:=F1.bx;have NS:=F1.st.h;unfold Dd.RBx at NA;have ha:=Tryz.underlying48;have hu:=Tryz.underlying53;have hg:=Tryz.underlying59;have ia:(Tryz.prog.info? 48).map (·.size)=some (#[x0,x1,x2,x3,x4,x5,x6,x7,.slice ka n kc,.slice la m lc,x10,x11]:Array Value).size:=Ak.rinfo;have il:=Dd.rinfo_row hl
 have HG:Hid (∀t:List Int,t.length=105->(Tryz.prog.info? 59).map (·.size)=some (Dd.row t).size/\(Tryz.zeroCells59).size=(Dd.row t).size/\(Dd.row t).all (·.oneCell')=true):=λt ht=>
  ⟨Dd.rginfo_row ht,by rw[Dd.rgz,Dd.row_size,Dd.row_size,ht];rfl,Dd.row_one t⟩
 obtain⟨ka0,hka0⟩:=pE (ka);have HKA:Hid (ka=ka0):=hka0;clear hR hw1 F1 CK0 hL hK hm hn hl hka0
 go_enter Tryz.func18,Tryz.ntmps18
 go_upto_region 1 with fail
 rw[H1.out];clear H1
 go_wp2_with (first
  |refine wpList_load_row rfl 48 _ rfl _ rfl 48 _ (0,0) _ NA ha rfl ia ?_
  |refine wpList_load_row rfl 53 _ rfl _ rfl 53 (Dd.row l) (0,0) _ NS hu rfl il ?_)
 refine Calls.mono CK.out ?_;rintro e W2 ⟨rfl,hb2⟩;have HB2:Hid (Below w1.heap.size w1 W2):=hb2;clear hb2 NA NS CK;have F2:=HF.out W2 HB2.out;have HX2:Hid (Below w.heap.size w W2):=F2.bel;have NR:=F2.rs
 by_cases hc:c=0
 rotate_left
 ·have fc:(c !=0)=true:=by simpa using hc
  have HQ:Hid (R=Dd.zeros++ [c]):=by show _=_;rw[<-HR.out];unfold Dd.finD;rw[if_pos hc]
  have hbt:=Dd.built_err c;obtain⟨ig,zg,og⟩:=HG.out (Dd.zeros++ [c]) (Dd.got_len Dd.zeros_length c);clear hc h40 F2
  go_wp2_with (first
   |refine wpList_buildTo rfl 59 _ rfl (some 17) rfl (Dd.row (Dd.zeros++ [c])) (Eq.trans (congrArg (Tryz.prog.built 59) (by kernel_rfl)) hbt) ?_
   |refine wpList_store_row rfl 59 _ _ rfl (w.heap.size+1+1) (Dd.row (Dd.zeros++ [c])) rfl rfl 59 _ NR ig zg og ?_)
  refine bodyPost_ret (v:=.agg (Dd.row (Dd.zeros++ [c]))) (results_cell_row Tryz.results18 _ _ (w.heap.size+1+1) 59 (Dd.row (Dd.zeros++ [c])) (0,0) _ rfl (setRow_heap _ _ _ _ _ _ NR) hg rfl ig) rfl ⟨?_,Tk.below_row HX2.out (by omega) _⟩;rw[HQ.out]
 have fc:(c !=0)=false:=by simp[hc]
 obtain⟨hm40,hn64⟩:=h40 hc;have HC0:Hid (c=0):=hc;have c8:W2.cell? ⟨w.heap.size,8,none⟩=some (.slice ka n kc):=by have h:=F2.bx;unfold Dd.RBx at h;simp[World.cell?,h]
 have HST:Hid (Dd.RAt W2 (w.heap.size+1) l):=F2.st
 have HN6:Hid ((Dd.runsB n l kid=false∨Dd.gateB kk kid.toNat=true)->R=Dd.zeros++ [6]):=λh=>by
  rw[<-HR.out];unfold Dd.finD;rw[if_neg (λh2=>h2 HC0.out),HK.out.2.2.2.1,if_pos h]
 have hbt:=Dd.built_err 6;obtain⟨ig,zg,og⟩:=HG.out (Dd.zeros++ [6]) (Dd.got_len Dd.zeros_length 6);clear hc h40 F2
 by_cases g1:kid<0
 ·have f1:decide (kid<0)=true:=decide_eq_true g1
  have HQ:Hid (R=Dd.zeros++ [6]):=HN6.out (.inl (by unfold Dd.runsB;rw[decide_eq_false (show¬0<=kid by omega)];rfl));clear g1
  go_wp2_with (first
   |refine wpList_buildTo rfl 59 _ rfl (some 43) rfl (Dd.row (Dd.zeros++ [6])) (Eq.trans (congrArg (Tryz.prog.built 59) (by kernel_rfl)) hbt) ?_
   |refine wpList_store_row rfl 59 _ _ rfl (w.heap.size+1+1) (Dd.row (Dd.zeros++ [6])) rfl rfl 59 _ NR ig zg og ?_)
  refine bodyPost_ret (v:=.agg (Dd.row (Dd.zeros++ [6]))) (results_cell_row Tryz.results18 _ _ (w.heap.size+1+1) 59 (Dd.row (Dd.zeros++ [6])) (0,0) _ rfl (setRow_heap _ _ _ _ _ _ NR) hg rfl ig) rfl ⟨?_,Tk.below_row HX2.out (by omega) _⟩;rw[HQ.out]
 have f1:decide (kid<0)=false:=decide_eq_false g1
 by_cases g2:(n:Int)<=kid
 ·have f2:decide ((n:Int)<=kid)=true:=decide_eq_true g2
  have HQ:Hid (R=Dd.zeros++ [6]):=HN6.out (.inl (by unfold Dd.runsB;rw[decide_eq_false (show¬kid<n by omega),Bool.and_false];rfl));clear g1 g2
  go_wp2_with (first
   |refine wpList_buildTo rfl 59 _ rfl (some 43) rfl (Dd.row (Dd.zeros++ [6])) (Eq.trans (congrArg (Tryz.prog.built 59) (by kernel_rfl)) hbt) ?_
   |refine wpList_store_row rfl 59 _ _ rfl (w.heap.size+1+1) (Dd.row (Dd.zeros++ [6])) rfl rfl 59 _ NR ig zg og ?_)
  refine bodyPost_ret (v:=.agg (Dd.row (Dd.zeros++ [6]))) (results_cell_row Tryz.results18 _ _ (w.heap.size+1+1) 59 (Dd.row (Dd.zeros++ [6])) (0,0) _ rfl (setRow_heap _ _ _ _ _ _ NR) hg rfl ig) rfl ⟨?_,Tk.below_row HX2.out (by omega) _⟩;rw[HQ.out]
 have f2:decide ((n:Int)<=kid)=false:=decide_eq_false g2;obtain⟨i,rfl⟩:∃i:Nat,kid=i:=⟨kid.toNat,by omega⟩;have hin:i<n:=by omega
 have j0:(0:Int)<=i:=by omega
 have j1:(i:Int)<n:=by omega
 have j2:(i:Int)<64:=by omega
 obtain⟨v,hv⟩:=pE (l.getD (40+i) 0);have sv:=HST.out.cell (40+i) (by omega);rw[hv]at sv;have HV:Hid (l.getD (40+i) 0=v):=hv;clear g1 hv
 by_cases g3:v=1
 rotate_left
 ·have f3:(v !=1)=true:=by simpa using g3
  have HQ:Hid (R=Dd.zeros++ [6]):=HN6.out (.inl (by unfold Dd.runsB;rw[Int.toNat_natCast,HV.out,decide_eq_false g3,Bool.and_false]));clear g3
  go_wp2_with (first
   |refine wpList_buildTo rfl 59 _ rfl (some 43) rfl (Dd.row (Dd.zeros++ [6])) (Eq.trans (congrArg (Tryz.prog.built 59) (by kernel_rfl)) hbt) ?_
   |refine wpList_store_row rfl 59 _ _ rfl (w.heap.size+1+1) (Dd.row (Dd.zeros++ [6])) rfl rfl 59 _ NR ig zg og ?_)
  refine bodyPost_ret (v:=.agg (Dd.row (Dd.zeros++ [6]))) (results_cell_row Tryz.results18 _ _ (w.heap.size+1+1) 59 (Dd.row (Dd.zeros++ [6])) (0,0) _ rfl (setRow_heap _ _ _ _ _ _ NR) hg rfl ig) rfl ⟨?_,Tk.below_row HX2.out (by omega) _⟩;rw[HQ.out]
 have f3:(v !=1)=false:=by simp[g3]
 obtain⟨g,off,xs,rfl,hgl,x12,xone,y0,y2,ry⟩:=HK.out.2.1 i (by have:=HK.out.2.2.2.1;omega);obtain⟨K,hKK⟩:∃K,(kk[i]'(by have:=HK.out.2.2.2.1;omega)).1=K:=⟨_,rfl⟩
 have HKI:Hid (kk[i]? =some (K,(kk[i]'(by have:=HK.out.2.2.2.1;omega)).2)):=by
  show _=_;rw[List.getElem?_eq_getElem (by have:=HK.out.2.2.2.1;omega),<-hKK]
 rw[hKK]at y0
 have yk:W2.cell? ⟨g,off+i*12,none⟩=some (.int .i64 K):=by
  rw[HX2.out.cell (p:=⟨g,off+i*12,none⟩) hgl];have h:=ry 0 (.int .i64 K) (by rw[Array.getElem?_toList];exact y0);simpa using h
 have HRUN:Hid (Dd.runsB n l (i:Int)=true):=by
  show _=_;unfold Dd.runsB;rw[Int.toNat_natCast,HV.out,decide_eq_true j0,decide_eq_true j1,decide_eq_true g3];rfl
 clear g3 hKK y0 y2 ry xone x12 hgl
 by_cases g4:K=12
 ·have f4:(K==12)=true:=by simp[g4]
  have HQ:Hid (R=Dd.zeros++ [6]):=HN6.out (.inr (by rw[Int.toNat_natCast,Dd.gate_get HKI.out];exact decide_eq_true g4));clear g4
  go_wp2_with (first
   |refine wpList_buildTo rfl 59 _ rfl (some 43) rfl (Dd.row (Dd.zeros++ [6])) (Eq.trans (congrArg (Tryz.prog.built 59) (by kernel_rfl)) hbt) ?_
   |refine wpList_store_row rfl 59 _ _ rfl (w.heap.size+1+1) (Dd.row (Dd.zeros++ [6])) rfl rfl 59 _ NR ig zg og ?_)
  refine bodyPost_ret (v:=.agg (Dd.row (Dd.zeros++ [6]))) (results_cell_row Tryz.results18 _ _ (w.heap.size+1+1) 59 (Dd.row (Dd.zeros++ [6])) (0,0) _ rfl (setRow_heap _ _ _ _ _ _ NR) hg rfl ig) rfl ⟨?_,Tk.below_row HX2.out (by omega) _⟩;rw[HQ.out]
 have f4:(K==12)=false:=by simpa using g4
 obtain⟨Lo,hLo⟩:=pE (Dd.outsD ls (i:Int));obtain⟨S,hS⟩:=pE (Dd.left ls (l.set (40+i) 2) (i:Int) 1);have hSl:S.length=104:=by rw[<-hS,Dd.left_length,List.length_set];exact HK.out.2.2.2.2
 obtain⟨T,hT⟩:=pE (Dd.settledF ls kk n S);have hTl:T.length=104:=by rw[<-hT];exact Dd.settledF_len ls kk n S hSl
 obtain⟨r,hr⟩:=pE (Lo.length)
 have hr40:r<=40:=by
  have h:=List.length_filter_le (λz=>decide (((ls[z]?).map Prod.fst)=some (i:Int))) (List.range ls.length);have h2:=HK.out.2.2.1;rw[List.length_range]at h;have h3:(Dd.outsD ls i).length=r:=by rw[hLo];exact hr
  unfold Dd.outsD at h3;omega
 have HLo:Hid (Lo.length=r/\(∀i (h:i<Lo.length),Lo[i]<40)/\Dd.setL 1 Lo (l.set (40+i) 2)=S/\R=T++ [0]/\S.length=104/\T.length=104):=⟨hr,λz h=>by
  have:=Dd.outs_lt (ls:=ls) (kid:=i) (i:=Lo[z]) (by rw[hLo];exact List.getElem_mem h);have h2:=HK.out.2.2.1;omega,by rw[<-hLo,<-hS];exact Dd.setL_left ls i 1 _,by
  rw[<-HR.out];unfold Dd.finD;rw[if_neg (λh2=>h2 HC0.out),HK.out.2.2.2.1,if_neg,Int.toNat_natCast,hS,hT];rintro(h|h)
  ·rw[HRUN.out]at h;cases h
  rw[Int.toNat_natCast,Dd.gate_get HKI.out]at h;exact g4 (of_decide_eq_true h),hSl,hTl⟩
 have CU:Hid (∀W,Below w.heap.size w W->Calls Tryz.prog 30 #[.agg #[x0,x1,x2,x3,x4,x5,x6,x7,.slice (some ⟨g,off,none⟩) n kc,.slice la m lc,x10,x11],.int .i64 (i:Int)] W λe w'=>Nt.Gives Lo W e w'):=λW hb=>by
  have h:=Tryz.r19Outs_any x0 x1 x2 x3 x4 x5 x6 x7 (.slice (some ⟨g,off,none⟩) n kc) x10 x11 la m lc ls i W ((HK.out.1.keep hb.block).wider hb.size) HK.out.2.2.1 (by omega);rw[hLo]at h;exact h
 have CS:Hid (∀W,Below w.heap.size w W->Calls Tryz.prog 31 #[.agg #[x0,x1,x2,x3,x4,x5,x6,x7,.slice (some ⟨g,off,none⟩) n kc,.slice la m lc,x10,x11],.agg (Dd.row S)] W λe w'=>e=.returned (.agg (Dd.row T))/\Below W.heap.size W w'):=λW hb=>by
  rw[<-hT];exact Tryz.r19Settled_any x0 x1 x2 x3 x4 x5 x6 x7 x10 x11 (some ⟨g,off,none⟩) la n kc m lc ls kk S W ((HK.out.1.keep hb.block).wider hb.size) HK.out.2.2.1 hm40 (HK.out.2.1.below hb) HK.out.2.2.2.1 hn64 hSl
 clear hLo hS hT hr ig zg og hbt NR g4 HRUN HN6
 -- x, a copy of s
 have NZ:(W2.alloc (.cells Tryz.zeroCells53 53)).heap[W2.heap.size]? =some (.cells Tryz.zeroCells53 53 (0,0)):=heap_alloc_new W2 _;obtain⟨w3,hw3⟩:=pE ((W2.alloc (.cells Tryz.zeroCells53 53)).setRow W2.heap.size (Dd.row l));have A3:Dd.RAt w3 W2.heap.size l:=by rw[<-hw3];exact⟨setRow_heap _ _ _ _ _ _ NZ,HK.out.2.2.2.2⟩
 have B3:Below W2.heap.size W2 w3:=by rw[<-hw3];exact Tk.below_row ((Below.refl _ W2).alloc (Nat.le_refl _) _) (Nat.le_refl _) _
 obtain⟨xb,hxb⟩:=pE (W2.heap.size);have HXB:Hid (W2.heap.size=xb/\w1.heap.size<=xb):=⟨hxb,by rw[<-hxb];exact HB2.out.size⟩;have H3:Hid _:=hw3;have NS2:=HST.out.h
 have HB3:Hid (Below w1.heap.size w1 (w3.setCell ⟨xb,40+i,none⟩ (.int .i64 2))/\Dd.RAt (w3.setCell ⟨xb,40+i,none⟩ (.int .i64 2)) xb (l.set (40+i) 2)):=by
  refine⟨(HB2.out.trans (B3.mono HB2.out.size)).setCell (p:=⟨xb,40+i,none⟩) HXB.out.2 _, ?_⟩;rw[hxb]at A3;exact A3.put (40+i) 2
 have f5:=A3.frozen (40+i);have s5:=A3.cell (40+i) (by omega);rw[hxb]at f5 s5;have zs:(Tryz.zeroCells53).size=(Dd.row l).size:=by rw[Dd.rzero_row,Dd.row_size,Dd.row_size,HK.out.2.2.2.2,Dd.zeros_length]
 have ol:=Dd.row_one l;have NA4:=(HF.out _ HB3.out.1).bx;unfold Dd.RBx at NA4;clear A3 B3 hw3 hxb
 go_upto_region 6 with fail
 go_upto_region 7 with(first
  |refine wpList_load_row rfl 53 _ rfl _ rfl 53 (Dd.row l) (0,0) _ NS2 hu rfl il ?_
  |refine wpList_store_row rfl 53 _ _ rfl W2.heap.size (Dd.row l) rfl rfl 53 _ NZ il zs ol ?_)
 rw[H3.out,HXB.out.1];clear NS2 NZ H3 zs ol c8 sv yk
 go_upto_region 8 with fail
 obtain⟨w4,hw4⟩:=pE (w3.setCell ⟨xb,40+i,none⟩ (.int .i64 2));rw[hw4]at HB3 NA4⊢;clear hw4 f5 s5
 go_wp2_with (refine wpList_load_row rfl 48 _ rfl _ rfl 48 _ (0,0) _ NA4 ha rfl ia ?_)
 refine Calls.mono (CU.out _ (HF.out _ HB3.out.1).bel) ?_;rintro e W5 ⟨v5,rfl,how,hb5⟩;rw[HLo.out.1]at how;obtain⟨ra,rc,rfl⟩:=Rk.own_shape how;have HOW:Hid (W5.ownsRow w4.heap.size 3 1 (.slice ra r rc) Lo.length (Rk.nums Lo)):=by show World.ownsRow _ _ _ _ _ _ _;rw[HLo.out.1];exact how
 have HW5:Hid (Below w1.heap.size w1 W5/\Dd.RAt W5 xb (l.set (40+i) 2)/\xb<w4.heap.size):=⟨HB3.out.1.trans (hb5.mono HB3.out.1.size),HB3.out.2.below hb5 HB3.out.2.lt,HB3.out.2.lt⟩;clear how hb5 NA4 CU;go_wp2
 go_loopg [10,52] r (λgk _ s52 wr=>∃q:Nat,gk+q=r/\s52=.int .i64 q/\Hid (Below w1.heap.size w1 wr/\Dd.RAt wr xb (Dd.setL 1 (Lo.take q) (l.set (40+i) 2))/\∀b,b≠xb->wr.heap[b]? =W5.heap[b]?))
 case atStart=>exact⟨0,by omega,rfl,HW5.out.1,HW5.out.2.1,λ_ _=>rfl⟩
 case round=>
  obtain⟨q,hq,rfl,HQ⟩:=hrel
  by_cases hlt:q<r
  ·have hd:decide ((q:Int)<r)=true:=decide_eq_true (by omega)
   have hql:q<Lo.length:=by rw[HLo.out.1];exact hlt
   obtain⟨g',off',rfl,hg',cq⟩:=Dd.own_from HOW.out q hql;obtain⟨z,hz⟩:=pE (Lo[q]);have hz40:=HLo.out.2.1 q hql;rw[hz]at cq hz40;have hgx:g'≠xb:=by have:=HW5.out.2.2;omega
   have cq2:wr.cell? ⟨g',off'+q,none⟩=some (.int .i64 z):=by rw[World.cell?_of_block (w:=W5) (HQ.out.2.2 g' hgx)];exact cq
   have hf:=HQ.out.2.1.frozen z;have hcz:=HQ.out.2.1.cell z (by omega);have z0:(0:Int)<=z:=by omega
   have z1:(z:Int)<40:=by omega
   have q0:(0:Int)<=q:=by omega
   have q1:(q:Int)<r:=by omega
   have HNX:Hid (Below w1.heap.size w1 (wr.setCell ⟨xb,z,none⟩ (.int .i64 1))/\Dd.RAt (wr.setCell ⟨xb,z,none⟩ (.int .i64 1)) xb (Dd.setL 1 (Lo.take (q+1)) (l.set (40+i) 2))/\∀b,b≠xb->(wr.setCell ⟨xb,z,none⟩ (.int .i64 1)).heap[b]? =W5.heap[b]?):=by
    refine⟨HQ.out.1.setCell (p:=⟨xb,z,none⟩) HXB.out.2 _, ?_,λb hb=>(Below.heap_setCell _ _ _ _ hb).trans (HQ.out.2.2 b hb)⟩;rw[List.take_succ_eq_append_getElem hql,hz,Dd.setL_snoc];exact HQ.out.2.1.put z 1
   clear cq hz hgx HQ hg';go_wp2;go_roundg (gk-1)
   case measure=>omega
   case rel=>exact⟨q+1,by omega,by go_num,HNX.out⟩
  have hd:decide ((q:Int)<r)=false:=decide_eq_false (by omega)
  have HSX:Hid (Dd.RAt wr xb S):=by
   have h:=HQ.out.2.1;rw[List.take_of_length_le (by rw[HLo.out.1];omega),HLo.out.2.2.1]at h;exact h
  have FR:=HF.out wr HQ.out.1;have NA:=FR.bx;unfold Dd.RBx at NA;have NSS:=HSX.out.h;have iS:=Dd.rinfo_row HLo.out.2.2.2.2.1;have HBW:Hid (Below w1.heap.size w1 wr):=HQ.out.1;have HCS:Hid _:=CS.out wr FR.bel;have hbt:=Dd.built_got HLo.out.2.2.2.2.2;obtain⟨ig,zg,og⟩:=HG.out (T++ [0]) (Dd.got_len HLo.out.2.2.2.2.2 0);clear FR HQ HOW
  go_wp2_with (first
   |refine wpList_load_row rfl 48 _ rfl _ rfl 48 _ (0,0) _ NA ha rfl ia ?_
   |refine wpList_load_row rfl 53 _ rfl _ rfl 53 (Dd.row S) (0,0) _ NSS hu rfl iS ?_)
  refine Calls.mono HCS.out ?_;rintro e W6 ⟨rfl,b6⟩;have FR:=HF.out _ (HBW.out.trans (b6.mono HBW.out.size));have NR:=FR.rs;have HX:Hid (Below w.heap.size w W6):=FR.bel;clear FR b6 NA NSS HCS
  go_wp2_with (first
   |refine wpList_buildTo rfl 59 _ rfl (some 63) rfl (Dd.row (T++ [0])) (Eq.trans (congrArg (Tryz.prog.built 59) (by kernel_rfl)) hbt) ?_
   |refine wpList_store_row rfl 59 _ _ rfl (w.heap.size+1+1) (Dd.row (T++ [0])) rfl rfl 59 _ NR ig zg og ?_)
  refine bodyPost_ret (v:=.agg (Dd.row (T++ [0]))) (results_cell_row Tryz.results18 _ _ (w.heap.size+1+1) 59 (Dd.row (T++ [0])) (0,0) _ rfl (setRow_heap _ _ _ _ _ _ NR) hg rfl ig) rfl ⟨?_,Tk.below_row HX.out (by omega) _⟩;rw[HLo.out.2.2.2.1]
end Go.Proofs
