import Derived.Test.YtenaelpdnccgnaaGreatDoorRAcPairs
set_option maxRecDepth 100000
set_option maxHeartbeats 32000000
namespace Go.Proofs
open Go.RowKit Go.Shelf
theorem Tryz.aalike_any (e e' B:Nat)(S T:Ac)(U V:Ac.Vs)(w:World)(hS:Ac.Own w B e U S)(hT:Ac.Own w B e' V T)(hB:B<=w.heap.size)(h0:0<w.heap.size)(hF:S.Fit):
  Calls Tryz.prog 40 #[.agg (Ac.row S U),.agg (Ac.row T V)] w λe w'=>Ak.Told (Ac.Same1 S T) e/\Below w.heap.size w w':=by
 have HP:Hid (Ac.Same1 S T↔S.kind=T.kind/\S.node=T.node/\S.a=T.a/\S.b=T.b/\S.t=T.t/\S.cs=T.cs/\S.ls=T.ls/\S.ns=T.ns/\S.fs=T.fs):=Iff.rfl;obtain⟨x6a,x6c,ex6⟩:=hS.t.shape;obtain⟨x7a,x7c,ex7,hx7⟩:=hS.c;obtain⟨x9a,x9c,ex9,hx9⟩:=hS.l;obtain⟨xAa,xAc,exA,hxA⟩:=hS.n;obtain⟨xBa,xBc,exB,hxB⟩:=hS.f;obtain⟨y6a,y6c,ey6⟩:=hT.t.shape;obtain⟨y7a,y7c,ey7,hy7⟩:=hT.c;obtain⟨y9a,y9c,ey9,hy9⟩:=hT.l;obtain⟨yAa,yAc,eyA,hyA⟩:=hT.n;obtain⟨yBa,yBc,eyB,hyB⟩:=hT.f;obtain⟨x8,ex8⟩:=pE (U.k);obtain⟨y8,ey8⟩:=pE (V.k);have hx6:=hS.t;have hy6:=hT.t;rw[ex6]at hx6;rw[ey6]at hy6
 have CT:∀W,Below w.heap.size w W->Calls Tryz.prog 61 #[.agg #[.int .i64 S.t.op,.int .i64 S.t.num,.slice x6a S.t.ks.length x6c],.agg #[.int .i64 T.t.op,.int .i64 T.t.num,.slice y6a T.t.ks.length y6c]] W λe w'=>Ak.Told (S.t=T.t) e/\Below W.heap.size W w':=λW hb=>
  (Tryz.termSame_any e e' S.t T.t _ _ W ((hx6.below (hb.mono hB)).wider (Nat.le_trans hB hb.size)) ((hy6.below (hb.mono hB)).wider (Nat.le_trans hB hb.size)) (by have:=hb.size;omega) hF.t.1 hF.t.2).mono λ_ _ h=>⟨h.1,h.2⟩
 have CC:∀W,Below w.heap.size w W->Calls Tryz.prog 62 #[.slice x7a S.cs.length x7c,.slice y7a T.cs.length y7c,.func (.func 61) #[] #[]] W λe w'=>Ak.Told (S.cs=T.cs) e/\Below W.heap.size W w':=λW hb=>
  (Tryz.condsEq_any e e' B S.cs T.cs x7a y7a x7c y7c W (hx7.keep (hb.mono hB).block) (hy7.keep (hb.mono hB).block) (Nat.le_trans hB hb.size) (by have:=hb.size;omega) hF.c (by have:=hF.cl;omega)).mono λ_ _ h=>⟨h.1,h.2⟩
 have CL:∀W,Below w.heap.size w W->Calls Tryz.prog 63 #[.slice x9a S.ls.length x9c,.slice y9a T.ls.length y9c] W λe w'=>Ak.Told (S.ls=T.ls) e/\Below W.heap.size W w':=λW hb=>
  (Tryz.alinksEq_any S.ls T.ls x9a y9a x9c y9c B W (hx9.keep (hb.mono hB).block) (hy9.keep (hb.mono hB).block) (Nat.le_trans hB hb.size) (by have:=hF.ll;omega)).mono λ_ _ h=>⟨h.1,h.2⟩
 have CN:∀W,Below w.heap.size w W->Calls Tryz.prog 64 #[.slice xAa S.ns.length xAc,.slice yAa T.ns.length yAc,.func (.func 65) #[] #[]] W λe w'=>Ak.Told (S.ns=T.ns) e/\Below W.heap.size W w':=λW hb=>
  (Tryz.nodesEq_any e e' B S.ns T.ns xAa yAa xAc yAc W (Ac.nds_keep hxA (hb.mono hB).block) (Ac.nds_keep hyA (hb.mono hB).block) (Nat.le_trans hB hb.size) (by have:=hb.size;omega) hF.n (by have:=hF.nl;omega)).mono λ_ _ h=>⟨h.1,h.2⟩
 have CF:∀W,Below w.heap.size w W->Calls Tryz.prog 66 #[.slice xBa S.fs.length xBc,.slice yBa T.fs.length yBc,.func (.func 67) #[] #[]] W λe w'=>Ak.Told (S.fs=T.fs) e/\Below W.heap.size W w':=λW hb=>
  (Tryz.flowsEq_any e e' B S.fs T.fs xBa yBa xBc yBc W (Ac.fls_keep hxB (hb.mono hB).block) (Ac.fls_keep hyB (hb.mono hB).block) (Nat.le_trans hB hb.size) (by have:=hb.size;omega) hF.f (by have:=hF.fl;omega)).mono λ_ _ h=>⟨h.1,h.2⟩
 unfold Ac.row;rw[ex6,ex7,ex8,ex9,exA,exB,ey6,ey7,ey8,ey9,eyA,eyB];obtain⟨x0,hx_0⟩:=pE (S.kind);obtain⟨y0,hy_0⟩:=pE (T.kind);rw[hx_0,hy_0]at HP⊢;obtain⟨x1,hx_1⟩:=pE (S.node);obtain⟨y1,hy_1⟩:=pE (T.node);rw[hx_1,hy_1]at HP⊢;obtain⟨x2,hx_2⟩:=pE (S.a);obtain⟨y2,hy_2⟩:=pE (T.a);rw[hx_2,hy_2]at HP⊢;obtain⟨x3,hx_3⟩:=pE (S.b);obtain⟨y3,hy_3⟩:=pE (T.b);rw[hx_3,hy_3]at HP⊢;obtain⟨x4,hx_4⟩:=pE (S.t.op);obtain⟨x5,hx_5⟩:=pE (S.t.num);obtain⟨x6n,hx_6⟩:=pE (S.t.ks.length);rw[hx_4,hx_5,hx_6]at CT⊢;obtain⟨x7n,hx_7⟩:=pE (S.cs.length);rw[hx_7]at CC⊢;obtain⟨x9n,hx_9⟩:=pE (S.ls.length);rw[hx_9]at CL⊢;obtain⟨xAn,hx_A⟩:=pE (S.ns.length);rw[hx_A]at CN⊢;obtain⟨xBn,hx_B⟩:=pE (S.fs.length);rw[hx_B]at CF⊢;obtain⟨y4,hy_4⟩:=pE (T.t.op);obtain⟨y5,hy_5⟩:=pE (T.t.num);obtain⟨y6n,hy_6⟩:=pE (T.t.ks.length);rw[hy_4,hy_5,hy_6]at CT⊢;obtain⟨y7n,hy_7⟩:=pE (T.cs.length);rw[hy_7]at CC⊢;obtain⟨y9n,hy_9⟩:=pE (T.ls.length);rw[hy_9]at CL⊢;obtain⟨yAn,hy_A⟩:=pE (T.ns.length);rw[hy_A]at CN⊢
 obtain⟨yBn,hy_B⟩:=pE (T.fs.length);rw[hy_B]at CF⊢;have A2:Below w.heap.size w ((w.alloc (.cells #[.int .i64 x0,.int .i64 x1,.int .i64 x2,.int .i64 x3,.int .i64 x4,.int .i64 x5,.slice x6a x6n x6c,.slice x7a x7n x7c,x8,.slice x9a x9n x9c,.slice xAa xAn xAc,.slice xBa xBn xBc] 32)).alloc (.cells #[.int .i64 y0,.int .i64 y1,.int .i64 y2,.int .i64 y3,.int .i64 y4,.int .i64 y5,.slice y6a y6n y6c,.slice y7a y7n y7c,y8,.slice y9a y9n y9c,.slice yAa yAn yAc,.slice yBa yBn yBc] 32)):=((Below.refl _ w).alloc (Nat.le_refl _) _).alloc (by simp) _
 have G2:((w.alloc (.cells #[.int .i64 x0,.int .i64 x1,.int .i64 x2,.int .i64 x3,.int .i64 x4,.int .i64 x5,.slice x6a x6n x6c,.slice x7a x7n x7c,x8,.slice x9a x9n x9c,.slice xAa xAn xAc,.slice xBa xBn xBc] 32)).alloc (.cells #[.int .i64 y0,.int .i64 y1,.int .i64 y2,.int .i64 y3,.int .i64 y4,.int .i64 y5,.slice y6a y6n y6c,.slice y7a y7n y7c,y8,.slice y9a y9n y9c,.slice yAa yAn yAc,.slice yBa yBn yBc] 32)).heap[w.heap.size+1]? =some (.cells #[.int .i64 y0,.int .i64 y1,.int .i64 y2,.int .i64 y3,.int .i64 y4,.int .i64 y5,.slice y6a y6n y6c,.slice y7a y7n y7c,y8,.slice y9a y9n y9c,.slice yAa yAn yAc,.slice yBa yBn yBc] 32 (0,0)):=by
  have:=heap_alloc_new (w.alloc (.cells #[.int .i64 x0,.int .i64 x1,.int .i64 x2,.int .i64 x3,.int .i64 x4,.int .i64 x5,.slice x6a x6n x6c,.slice x7a x7n x7c,x8,.slice x9a x9n x9c,.slice xAa xAn xAc,.slice xBa xBn xBc] 32)) (.cells #[.int .i64 y0,.int .i64 y1,.int .i64 y2,.int .i64 y3,.int .i64 y4,.int .i64 y5,.slice y6a y6n y6c,.slice y7a y7n y7c,y8,.slice y9a y9n y9c,.slice yAa yAn yAc,.slice yBa yBn yBc] 32);simpa using this
 have G1:((w.alloc (.cells #[.int .i64 x0,.int .i64 x1,.int .i64 x2,.int .i64 x3,.int .i64 x4,.int .i64 x5,.slice x6a x6n x6c,.slice x7a x7n x7c,x8,.slice x9a x9n x9c,.slice xAa xAn xAc,.slice xBa xBn xBc] 32)).alloc (.cells #[.int .i64 y0,.int .i64 y1,.int .i64 y2,.int .i64 y3,.int .i64 y4,.int .i64 y5,.slice y6a y6n y6c,.slice y7a y7n y7c,y8,.slice y9a y9n y9c,.slice yAa yAn yAc,.slice yBa yBn yBc] 32)).heap[w.heap.size]? =some (.cells #[.int .i64 x0,.int .i64 x1,.int .i64 x2,.int .i64 x3,.int .i64 x4,.int .i64 x5,.slice x6a x6n x6c,.slice x7a x7n x7c,x8,.slice x9a x9n x9c,.slice xAa xAn xAc,.slice xBa xBn xBc] 32 (0,0)):=by
  rw[Below.heap_alloc _ _ _ (by simp)];exact heap_alloc_new _ _
 obtain⟨w2,hw2⟩:=pE (((w.alloc (.cells #[.int .i64 x0,.int .i64 x1,.int .i64 x2,.int .i64 x3,.int .i64 x4,.int .i64 x5,.slice x6a x6n x6c,.slice x7a x7n x7c,x8,.slice x9a x9n x9c,.slice xAa xAn xAc,.slice xBa xBn xBc] 32)).alloc (.cells #[.int .i64 y0,.int .i64 y1,.int .i64 y2,.int .i64 y3,.int .i64 y4,.int .i64 y5,.slice y6a y6n y6c,.slice y7a y7n y7c,y8,.slice y9a y9n y9c,.slice yAa yAn yAc,.slice yBa yBn yBc] 32)));rw[hw2]at A2 G1 G2;have HW:Hid (((w.alloc (.cells #[.int .i64 x0,.int .i64 x1,.int .i64 x2,.int .i64 x3,.int .i64 x4,.int .i64 x5,.slice x6a x6n x6c,.slice x7a x7n x7c,x8,.slice x9a x9n x9c,.slice xAa xAn xAc,.slice xBa xBn xBc] 32)).alloc (.cells #[.int .i64 y0,.int .i64 y1,.int .i64 y2,.int .i64 y3,.int .i64 y4,.int .i64 y5,.slice y6a y6n y6c,.slice y7a y7n y7c,y8,.slice y9a y9n y9c,.slice yAa yAn yAc,.slice yBa yBn yBc] 32))=w2):=hw2
 have cAll:∀W,Below w2.heap.size w2 W->W.cell? ⟨w.heap.size,0,none⟩=some (.int .i64 x0)/\W.cell? ⟨w.heap.size,1,none⟩=some (.int .i64 x1)/\W.cell? ⟨w.heap.size,2,none⟩=some (.int .i64 x2)/\W.cell? ⟨w.heap.size,3,none⟩=some (.int .i64 x3)/\W.cell? ⟨w.heap.size,4,none⟩=some (.int .i64 x4)/\W.cell? ⟨w.heap.size,5,none⟩=some (.int .i64 x5)/\W.cell? ⟨w.heap.size,6,none⟩=some (.slice x6a x6n x6c)/\W.cell? ⟨w.heap.size,7,none⟩=some (.slice x7a x7n x7c)/\W.cell? ⟨w.heap.size,9,none⟩=some (.slice x9a x9n x9c)/\W.cell? ⟨w.heap.size,10,none⟩=some (.slice xAa xAn xAc)/\W.cell? ⟨w.heap.size,11,none⟩=some (.slice xBa xBn xBc)/\W.cell? ⟨w.heap.size+1,0,none⟩=some (.int .i64 y0)/\W.cell? ⟨w.heap.size+1,1,none⟩=some (.int .i64 y1)/\W.cell? ⟨w.heap.size+1,2,none⟩=some (.int .i64 y2)/\W.cell? ⟨w.heap.size+1,3,none⟩=some (.int .i64 y3)/\W.cell? ⟨w.heap.size+1,4,none⟩=some (.int .i64 y4)/\W.cell? ⟨w.heap.size+1,5,none⟩=some (.int .i64 y5)/\W.cell? ⟨w.heap.size+1,6,none⟩=some (.slice y6a y6n y6c)/\W.cell? ⟨w.heap.size+1,7,none⟩=some (.slice y7a y7n y7c)/\W.cell? ⟨w.heap.size+1,9,none⟩=some (.slice y9a y9n y9c)/\W.cell? ⟨w.heap.size+1,10,none⟩=some (.slice yAa yAn yAc)/\W.cell? ⟨w.heap.size+1,11,none⟩=some (.slice yBa yBn yBc):=λW hb=>by
  have g1:=(hb.block _ (Array.getElem?_eq_some_iff.1 G1).1).trans G1;have g2:=(hb.block _ (Array.getElem?_eq_some_iff.1 G2).1).trans G2;simp[World.cell?,g1,g2]
 have HCT:Hid _:=CT;have HCC:Hid _:=CC;have HCL:Hid _:=CL;have HCN:Hid _:=CN;have HCF:Hid _:=CF;have HA:Hid (Below w.heap.size w w2):=A2;have HCA:Hid _:=cAll;have HBB:Hid (∀W,Below w2.heap.size w2 W->Below w.heap.size w W):=λW hb=>A2.trans (hb.mono A2.size);obtain⟨a0,a1,a2,a3,a4,a5,a6,a7,a8,a9,a10,b0,b1,b2,b3,b4,b5,b6,b7,b8,b9,b10⟩:=cAll w2 (Below.refl _ _);rw[<-hw2]at a0 a1 a2 a3 a4 a5 a6 a7 a8 a9 a10 b0 b1 b2 b3 b4 b5 b6 b7 b8 b9 b10;clear CT CC CL CN CF A2 G1 G2 cAll hw2 hS hT hF ex6 ey6 ex7 ey7 ex8 ey8 ex9 ey9 exA eyA exB eyB hx6 hy6 hx7 hy7 hx9 hy9 hxA hyA hxB hyB hx_0 hy_0 hx_1 hy_1 hx_2 hy_2 hx_3 hy_3 hx_4 hy_4 hx_5 hy_5 hx_6 hy_6 hx_7 hy_7 hx_9 hy_9 hx_A hy_A hx_B hy_B hB h0
 by_cases q0:¬x0=y0
 ·have d0:(x0==y0)=false:=by simpa using q0
  have HN:Hid (¬Ac.Same1 S T):=λh=>q0 (HP.out.1 h).1;clear q0
  go_enter Tryz.func40,Tryz.ntmps40
  go_wp2;go_ret;exact⟨Ak.Told.no HN.out,by first|exact HA.out|(rw[HW.out];exact HA.out)⟩
 replace q0:=Decidable.not_not.1 q0;have d0:(x0==y0)=true:=by simpa using q0
 have Q0:Hid (x0=y0):=q0;clear q0
 by_cases q1:¬x1=y1
 ·have d1:(x1==y1)=false:=by simpa using q1
  have HN:Hid (¬Ac.Same1 S T):=λh=>q1 (HP.out.1 h).2.1;clear q1
  go_enter Tryz.func40,Tryz.ntmps40
  go_wp2;go_ret;exact⟨Ak.Told.no HN.out,by first|exact HA.out|(rw[HW.out];exact HA.out)⟩
 replace q1:=Decidable.not_not.1 q1;have d1:(x1==y1)=true:=by simpa using q1
 have Q1:Hid (x1=y1):=q1;clear q1
 by_cases q2:¬x2=y2
 ·have d2:(x2==y2)=false:=by simpa using q2
  have HN:Hid (¬Ac.Same1 S T):=λh=>q2 (HP.out.1 h).2.2.1;clear q2
  go_enter Tryz.func40,Tryz.ntmps40
  go_wp2;go_ret;exact⟨Ak.Told.no HN.out,by first|exact HA.out|(rw[HW.out];exact HA.out)⟩
 replace q2:=Decidable.not_not.1 q2;have d2:(x2==y2)=true:=by simpa using q2
 have Q2:Hid (x2=y2):=q2;clear q2
 by_cases q3:¬x3=y3
 ·have d3:(x3==y3)=false:=by simpa using q3
  have HN:Hid (¬Ac.Same1 S T):=λh=>q3 (HP.out.1 h).2.2.2.1;clear q3
  go_enter Tryz.func40,Tryz.ntmps40
  go_wp2;go_ret;exact⟨Ak.Told.no HN.out,by first|exact HA.out|(rw[HW.out];exact HA.out)⟩
 replace q3:=Decidable.not_not.1 q3;have d3:(x3==y3)=true:=by simpa using q3
 have Q3:Hid (x3=y3):=q3;clear q3
 go_enter Tryz.func40,Tryz.ntmps40
 go_wp2_with fail
 rw[HW.out];have B00:Hid (Below w2.heap.size w2 w2):=Below.refl _ _;clear a0 a1 a2 a3 a4 a5 a6 a7 a8 a9 a10 b0 b1 b2 b3 b4 b5 b6 b7 b8 b9 b10;refine Calls.mono (HCT.out _ (HBB.out _ B00.out)) ?_;rintro e X0 ⟨⟨r0,rfl,hr0⟩,hb0⟩;have B0:Hid (Below w2.heap.size w2 X0):=B00.out.trans (hb0.mono B00.out.size);have R0:Hid (r0=true↔S.t=T.t):=hr0;clear hr0 hb0
 cases r0 with
 |false=>
  go_wp2;go_ret;refine⟨Ak.Told.no λh=> ?_,HBB.out _ B0.out⟩;have:=R0.out.2 (HP.out.1 h).2.2.2.2.1;simp at this
 |true=>
 replace R0:Hid (S.t=T.t):=R0.out.1 (by first|rfl|trivial);obtain⟨a0,a1,a2,a3,a4,a5,a6,a7,a8,a9,a10,b0,b1,b2,b3,b4,b5,b6,b7,b8,b9,b10⟩:=HCA.out X0 B0.out;clear a0 a1 a2 a3 a4 a5 a6 a8 a9 a10 b0 b1 b2 b3 b4 b5 b6 b8 b9 b10
 go_wp2_with fail
 clear a7 b7;refine Calls.mono (HCC.out _ (HBB.out _ B0.out)) ?_;rintro e X1 ⟨⟨r1,rfl,hr1⟩,hb1⟩;have B1:Hid (Below w2.heap.size w2 X1):=B0.out.trans (hb1.mono B0.out.size);have R1:Hid (r1=true↔S.cs=T.cs):=hr1;clear hr1 hb1
 cases r1 with
 |false=>
  go_wp2;go_ret;refine⟨Ak.Told.no λh=> ?_,HBB.out _ B1.out⟩;have:=R1.out.2 (HP.out.1 h).2.2.2.2.2.1;simp at this
 |true=>
 replace R1:Hid (S.cs=T.cs):=R1.out.1 (by first|rfl|trivial);obtain⟨a0,a1,a2,a3,a4,a5,a6,a7,a8,a9,a10,b0,b1,b2,b3,b4,b5,b6,b7,b8,b9,b10⟩:=HCA.out X1 B1.out;clear a0 a1 a2 a3 a4 a5 a6 a7 a9 a10 b0 b1 b2 b3 b4 b5 b6 b7 b9 b10
 go_wp2_with fail
 clear a8 b8;refine Calls.mono (HCL.out _ (HBB.out _ B1.out)) ?_;rintro e X2 ⟨⟨r2,rfl,hr2⟩,hb2⟩;have B2:Hid (Below w2.heap.size w2 X2):=B1.out.trans (hb2.mono B1.out.size);have R2:Hid (r2=true↔S.ls=T.ls):=hr2;clear hr2 hb2
 cases r2 with
 |false=>
  go_wp2;go_ret;refine⟨Ak.Told.no λh=> ?_,HBB.out _ B2.out⟩;have:=R2.out.2 (HP.out.1 h).2.2.2.2.2.2.1;simp at this
 |true=>
 replace R2:Hid (S.ls=T.ls):=R2.out.1 (by first|rfl|trivial);obtain⟨a0,a1,a2,a3,a4,a5,a6,a7,a8,a9,a10,b0,b1,b2,b3,b4,b5,b6,b7,b8,b9,b10⟩:=HCA.out X2 B2.out;clear a0 a1 a2 a3 a4 a5 a6 a7 a8 a10 b0 b1 b2 b3 b4 b5 b6 b7 b8 b10
 go_wp2_with fail
 clear a9 b9;refine Calls.mono (HCN.out _ (HBB.out _ B2.out)) ?_;rintro e X3 ⟨⟨r3,rfl,hr3⟩,hb3⟩;have B3:Hid (Below w2.heap.size w2 X3):=B2.out.trans (hb3.mono B2.out.size);have R3:Hid (r3=true↔S.ns=T.ns):=hr3;clear hr3 hb3
 cases r3 with
 |false=>
  go_wp2;go_ret;refine⟨Ak.Told.no λh=> ?_,HBB.out _ B3.out⟩;have:=R3.out.2 (HP.out.1 h).2.2.2.2.2.2.2.1;simp at this
 |true=>
 replace R3:Hid (S.ns=T.ns):=R3.out.1 (by first|rfl|trivial);obtain⟨a0,a1,a2,a3,a4,a5,a6,a7,a8,a9,a10,b0,b1,b2,b3,b4,b5,b6,b7,b8,b9,b10⟩:=HCA.out X3 B3.out;clear a0 a1 a2 a3 a4 a5 a6 a7 a8 a9 b0 b1 b2 b3 b4 b5 b6 b7 b8 b9
 go_wp2_with fail
 clear a10 b10;refine Calls.mono (HCF.out _ (HBB.out _ B3.out)) ?_;rintro e X4 ⟨⟨r4,rfl,hr4⟩,hb4⟩;have B4:Hid (Below w2.heap.size w2 X4):=B3.out.trans (hb4.mono B3.out.size);have R4:Hid (r4=true↔S.fs=T.fs):=hr4;clear hr4 hb4;go_wp2;go_ret;refine⟨Ak.Told.iff (R4.out.trans ⟨λh=>HP.out.2 ⟨Q0.out,Q1.out,Q2.out,Q3.out,R0.out,R1.out,R2.out,R3.out,h⟩,λh=>(HP.out.1 h).2.2.2.2.2.2.2.2⟩),HBB.out _ B4.out⟩
end Go.Proofs
