import Derived.Test.YtmomffminkflnaaGreatDoorRAcPairs
import Derived.Test.YtmomffminkflnaaGreatDoorRRqRounds
import Derived.Great.BuildSlice
import Derived.Deep.AppendLies
set_option maxRecDepth 100000
set_option maxHeartbeats 32000000
namespace Go.Proofs
open Go.RowKit Go.Shelf
theorem Tryz.aalike_any (e e' B:Nat)(S T:Ac)(U V:Ac.Vs)(w:World)(hS:Ac.Own w B e U S)(hT:Ac.Own w B e' V T)(hB:B<=w.heap.size)(h0:0<w.heap.size)(hF:S.Fit):
  Calls Tryz.prog 65 #[.agg (Ac.row S U),.agg (Ac.row T V)] w λe w'=>Ak.Told (Ac.Same1 S T) e/\Below w.heap.size w w':=by
 have HP:Hid (Ac.Same1 S T↔S.kind=T.kind/\S.node=T.node/\S.a=T.a/\S.b=T.b/\S.t=T.t/\S.cs=T.cs/\S.ls=T.ls/\S.ns=T.ns/\S.fs=T.fs):=Iff.rfl;obtain⟨x6a,x6c,ex6⟩:=hS.t.shape;obtain⟨x7a,x7c,ex7,hx7⟩:=hS.c;obtain⟨x9a,x9c,ex9,hx9⟩:=hS.l;obtain⟨xAa,xAc,exA,hxA⟩:=hS.n;obtain⟨xBa,xBc,exB,hxB⟩:=hS.f;obtain⟨y6a,y6c,ey6⟩:=hT.t.shape;obtain⟨y7a,y7c,ey7,hy7⟩:=hT.c;obtain⟨y9a,y9c,ey9,hy9⟩:=hT.l;obtain⟨yAa,yAc,eyA,hyA⟩:=hT.n;obtain⟨yBa,yBc,eyB,hyB⟩:=hT.f;obtain⟨x8,ex8⟩:=pE (U.k);obtain⟨y8,ey8⟩:=pE (V.k);have hx6:=hS.t;have hy6:=hT.t;rw[ex6]at hx6;rw[ey6]at hy6
 have CT:∀W,Below w.heap.size w W->Calls Tryz.prog 77 #[.agg #[.int .i64 S.t.op,.int .i64 S.t.num,.slice x6a S.t.ks.length x6c],.agg #[.int .i64 T.t.op,.int .i64 T.t.num,.slice y6a T.t.ks.length y6c]] W λe w'=>Ak.Told (S.t=T.t) e/\Below W.heap.size W w':=λW hb=>
  (Tryz.termSame_any e e' S.t T.t _ _ W ((hx6.below (hb.mono hB)).wider (Nat.le_trans hB hb.size)) ((hy6.below (hb.mono hB)).wider (Nat.le_trans hB hb.size)) (by have:=hb.size;omega) hF.t.1 hF.t.2).mono λ_ _ h=>⟨h.1,h.2⟩
 have CC:∀W,Below w.heap.size w W->Calls Tryz.prog 81 #[.slice x7a S.cs.length x7c,.slice y7a T.cs.length y7c,.func (.func 77) #[] #[]] W λe w'=>Ak.Told (S.cs=T.cs) e/\Below W.heap.size W w':=λW hb=>
  (Tryz.condsEq_any e e' B S.cs T.cs x7a y7a x7c y7c W (hx7.keep (hb.mono hB).block) (hy7.keep (hb.mono hB).block) (Nat.le_trans hB hb.size) (by have:=hb.size;omega) hF.c (by have:=hF.cl;omega)).mono λ_ _ h=>⟨h.1,h.2⟩
 have CL:∀W,Below w.heap.size w W->Calls Tryz.prog 82 #[.slice x9a S.ls.length x9c,.slice y9a T.ls.length y9c] W λe w'=>Ak.Told (S.ls=T.ls) e/\Below W.heap.size W w':=λW hb=>
  (Tryz.alinksEq_any S.ls T.ls x9a y9a x9c y9c B W (hx9.keep (hb.mono hB).block) (hy9.keep (hb.mono hB).block) (Nat.le_trans hB hb.size) (by have:=hF.ll;omega)).mono λ_ _ h=>⟨h.1,h.2⟩
 have CN:∀W,Below w.heap.size w W->Calls Tryz.prog 83 #[.slice xAa S.ns.length xAc,.slice yAa T.ns.length yAc,.func (.func 84) #[] #[]] W λe w'=>Ak.Told (S.ns=T.ns) e/\Below W.heap.size W w':=λW hb=>
  (Tryz.nodesEq_any e e' B S.ns T.ns xAa yAa xAc yAc W (Ac.nds_keep hxA (hb.mono hB).block) (Ac.nds_keep hyA (hb.mono hB).block) (Nat.le_trans hB hb.size) (by have:=hb.size;omega) hF.n (by have:=hF.nl;omega)).mono λ_ _ h=>⟨h.1,h.2⟩
 have CF:∀W,Below w.heap.size w W->Calls Tryz.prog 85 #[.slice xBa S.fs.length xBc,.slice yBa T.fs.length yBc,.func (.func 86) #[] #[]] W λe w'=>Ak.Told (S.fs=T.fs) e/\Below W.heap.size W w':=λW hb=>
  (Tryz.flowsEq_any e e' B S.fs T.fs xBa yBa xBc yBc W (Ac.fls_keep hxB (hb.mono hB).block) (Ac.fls_keep hyB (hb.mono hB).block) (Nat.le_trans hB hb.size) (by have:=hb.size;omega) hF.f (by have:=hF.fl;omega)).mono λ_ _ h=>⟨h.1,h.2⟩
 unfold Ac.row;rw[ex6,ex7,ex8,ex9,exA,exB,ey6,ey7,ey8,ey9,eyA,eyB];obtain⟨x0,hx_0⟩:=pE (S.kind);obtain⟨y0,hy_0⟩:=pE (T.kind);rw[hx_0,hy_0]at HP⊢;obtain⟨x1,hx_1⟩:=pE (S.node);obtain⟨y1,hy_1⟩:=pE (T.node);rw[hx_1,hy_1]at HP⊢;obtain⟨x2,hx_2⟩:=pE (S.a);obtain⟨y2,hy_2⟩:=pE (T.a);rw[hx_2,hy_2]at HP⊢;obtain⟨x3,hx_3⟩:=pE (S.b);obtain⟨y3,hy_3⟩:=pE (T.b);rw[hx_3,hy_3]at HP⊢;obtain⟨x4,hx_4⟩:=pE (S.t.op);obtain⟨x5,hx_5⟩:=pE (S.t.num);obtain⟨x6n,hx_6⟩:=pE (S.t.ks.length);rw[hx_4,hx_5,hx_6]at CT⊢;obtain⟨x7n,hx_7⟩:=pE (S.cs.length);rw[hx_7]at CC⊢;obtain⟨x9n,hx_9⟩:=pE (S.ls.length);rw[hx_9]at CL⊢;obtain⟨xAn,hx_A⟩:=pE (S.ns.length);rw[hx_A]at CN⊢;obtain⟨xBn,hx_B⟩:=pE (S.fs.length);rw[hx_B]at CF⊢;obtain⟨y4,hy_4⟩:=pE (T.t.op);obtain⟨y5,hy_5⟩:=pE (T.t.num);obtain⟨y6n,hy_6⟩:=pE (T.t.ks.length);rw[hy_4,hy_5,hy_6]at CT⊢;obtain⟨y7n,hy_7⟩:=pE (T.cs.length);rw[hy_7]at CC⊢;obtain⟨y9n,hy_9⟩:=pE (T.ls.length);rw[hy_9]at CL⊢;obtain⟨yAn,hy_A⟩:=pE (T.ns.length);rw[hy_A]at CN⊢
 obtain⟨yBn,hy_B⟩:=pE (T.fs.length);rw[hy_B]at CF⊢;have A2:Below w.heap.size w ((w.alloc (.cells #[.int .i64 x0,.int .i64 x1,.int .i64 x2,.int .i64 x3,.int .i64 x4,.int .i64 x5,.slice x6a x6n x6c,.slice x7a x7n x7c,x8,.slice x9a x9n x9c,.slice xAa xAn xAc,.slice xBa xBn xBc] 32)).alloc (.cells #[.int .i64 y0,.int .i64 y1,.int .i64 y2,.int .i64 y3,.int .i64 y4,.int .i64 y5,.slice y6a y6n y6c,.slice y7a y7n y7c,y8,.slice y9a y9n y9c,.slice yAa yAn yAc,.slice yBa yBn yBc] 32)):=((Below.refl _ w).alloc (Nat.le_refl _) _).alloc (by simp) _
 have G2:((w.alloc (.cells #[.int .i64 x0,.int .i64 x1,.int .i64 x2,.int .i64 x3,.int .i64 x4,.int .i64 x5,.slice x6a x6n x6c,.slice x7a x7n x7c,x8,.slice x9a x9n x9c,.slice xAa xAn xAc,.slice xBa xBn xBc] 32)).alloc (.cells #[.int .i64 y0,.int .i64 y1,.int .i64 y2,.int .i64 y3,.int .i64 y4,.int .i64 y5,.slice y6a y6n y6c,.slice y7a y7n y7c,y8,.slice y9a y9n y9c,.slice yAa yAn yAc,.slice yBa yBn yBc] 32)).heap[w.heap.size+1]? =some (.cells #[.int .i64 y0,.int .i64 y1,.int .i64 y2,.int .i64 y3,.int .i64 y4,.int .i64 y5,.slice y6a y6n y6c,.slice y7a y7n y7c,y8,.slice y9a y9n y9c,.slice yAa yAn yAc,.slice yBa yBn yBc] 32 (0,0)):=by
  have:=heap_alloc_new (w.alloc (.cells #[.int .i64 x0,.int .i64 x1,.int .i64 x2,.int .i64 x3,.int .i64 x4,.int .i64 x5,.slice x6a x6n x6c,.slice x7a x7n x7c,x8,.slice x9a x9n x9c,.slice xAa xAn xAc,.slice xBa xBn xBc] 32)) (.cells #[.int .i64 y0,.int .i64 y1,.int .i64 y2,.int .i64 y3,.int .i64 y4,.int .i64 y5,.slice y6a y6n y6c,.slice y7a y7n y7c,y8,.slice y9a y9n y9c,.slice yAa yAn yAc,.slice yBa yBn yBc] 32);simpa using this
 have G1:((w.alloc (.cells #[.int .i64 x0,.int .i64 x1,.int .i64 x2,.int .i64 x3,.int .i64 x4,.int .i64 x5,.slice x6a x6n x6c,.slice x7a x7n x7c,x8,.slice x9a x9n x9c,.slice xAa xAn xAc,.slice xBa xBn xBc] 32)).alloc (.cells #[.int .i64 y0,.int .i64 y1,.int .i64 y2,.int .i64 y3,.int .i64 y4,.int .i64 y5,.slice y6a y6n y6c,.slice y7a y7n y7c,y8,.slice y9a y9n y9c,.slice yAa yAn yAc,.slice yBa yBn yBc] 32)).heap[w.heap.size]? =some (.cells #[.int .i64 x0,.int .i64 x1,.int .i64 x2,.int .i64 x3,.int .i64 x4,.int .i64 x5,.slice x6a x6n x6c,.slice x7a x7n x7c,x8,.slice x9a x9n x9c,.slice xAa xAn xAc,.slice xBa xBn xBc] 32 (0,0)):=by
  rw[Below.heap_alloc _ _ _ (by simp)];exact heap_alloc_new _ _
 obtain⟨w2,hw2⟩:=pE (((w.alloc (.cells #[.int .i64 x0,.int .i64 x1,.int .i64 x2,.int .i64 x3,.int .i64 x4,.int .i64 x5,.slice x6a x6n x6c,.slice x7a x7n x7c,x8,.slice x9a x9n x9c,.slice xAa xAn xAc,.slice xBa xBn xBc] 32)).alloc (.cells #[.int .i64 y0,.int .i64 y1,.int .i64 y2,.int .i64 y3,.int .i64 y4,.int .i64 y5,.slice y6a y6n y6c,.slice y7a y7n y7c,y8,.slice y9a y9n y9c,.slice yAa yAn yAc,.slice yBa yBn yBc] 32)));rw[hw2]at A2 G1 G2;have HW:Hid (((w.alloc (.cells #[.int .i64 x0,.int .i64 x1,.int .i64 x2,.int .i64 x3,.int .i64 x4,.int .i64 x5,.slice x6a x6n x6c,.slice x7a x7n x7c,x8,.slice x9a x9n x9c,.slice xAa xAn xAc,.slice xBa xBn xBc] 32)).alloc (.cells #[.int .i64 y0,.int .i64 y1,.int .i64 y2,.int .i64 y3,.int .i64 y4,.int .i64 y5,.slice y6a y6n y6c,.slice y7a y7n y7c,y8,.slice y9a y9n y9c,.slice yAa yAn yAc,.slice yBa yBn yBc] 32))=w2):=hw2
 have cAll:∀W,Below w2.heap.size w2 W->W.cell? ⟨w.heap.size,0,none⟩=some (.int .i64 x0)/\W.cell? ⟨w.heap.size,1,none⟩=some (.int .i64 x1)/\W.cell? ⟨w.heap.size,2,none⟩=some (.int .i64 x2)/\W.cell? ⟨w.heap.size,3,none⟩=some (.int .i64 x3)/\W.cell? ⟨w.heap.size,4,none⟩=some (.int .i64 x4)/\W.cell? ⟨w.heap.size,5,none⟩=some (.int .i64 x5)/\W.cell? ⟨w.heap.size,6,none⟩=some (.slice x6a x6n x6c)/\W.cell? ⟨w.heap.size,7,none⟩=some (.slice x7a x7n x7c)/\W.cell? ⟨w.heap.size,9,none⟩=some (.slice x9a x9n x9c)/\W.cell? ⟨w.heap.size,10,none⟩=some (.slice xAa xAn xAc)/\W.cell? ⟨w.heap.size,11,none⟩=some (.slice xBa xBn xBc)/\W.cell? ⟨w.heap.size+1,0,none⟩=some (.int .i64 y0)/\W.cell? ⟨w.heap.size+1,1,none⟩=some (.int .i64 y1)/\W.cell? ⟨w.heap.size+1,2,none⟩=some (.int .i64 y2)/\W.cell? ⟨w.heap.size+1,3,none⟩=some (.int .i64 y3)/\W.cell? ⟨w.heap.size+1,4,none⟩=some (.int .i64 y4)/\W.cell? ⟨w.heap.size+1,5,none⟩=some (.int .i64 y5)/\W.cell? ⟨w.heap.size+1,6,none⟩=some (.slice y6a y6n y6c)/\W.cell? ⟨w.heap.size+1,7,none⟩=some (.slice y7a y7n y7c)/\W.cell? ⟨w.heap.size+1,9,none⟩=some (.slice y9a y9n y9c)/\W.cell? ⟨w.heap.size+1,10,none⟩=some (.slice yAa yAn yAc)/\W.cell? ⟨w.heap.size+1,11,none⟩=some (.slice yBa yBn yBc):=λW hb=>by
  have g1:=(hb.block _ (Array.getElem?_eq_some_iff.1 G1).1).trans G1;have g2:=(hb.block _ (Array.getElem?_eq_some_iff.1 G2).1).trans G2;simp[World.cell?,g1,g2]
 have HCT:Hid _:=CT;have HCC:Hid _:=CC;have HCL:Hid _:=CL;have HCN:Hid _:=CN;have HCF:Hid _:=CF;have HA:Hid (Below w.heap.size w w2):=A2;have HCA:Hid _:=cAll;have HBB:Hid (∀W,Below w2.heap.size w2 W->Below w.heap.size w W):=λW hb=>A2.trans (hb.mono A2.size);obtain⟨a0,a1,a2,a3,a4,a5,a6,a7,a8,a9,a10,b0,b1,b2,b3,b4,b5,b6,b7,b8,b9,b10⟩:=cAll w2 (Below.refl _ _);rw[<-hw2]at a0 a1 a2 a3 a4 a5 a6 a7 a8 a9 a10 b0 b1 b2 b3 b4 b5 b6 b7 b8 b9 b10;clear CT CC CL CN CF A2 G1 G2 cAll hw2 hS hT hF ex6 ey6 ex7 ey7 ex8 ey8 ex9 ey9 exA eyA exB eyB hx6 hy6 hx7 hy7 hx9 hy9 hxA hyA hxB hyB hx_0 hy_0 hx_1 hy_1 hx_2 hy_2 hx_3 hy_3 hx_4 hy_4 hx_5 hy_5 hx_6 hy_6 hx_7 hy_7 hx_9 hy_9 hx_A hy_A hx_B hy_B hB h0
 by_cases q0:¬x0=y0
 ·have d0:(x0==y0)=false:=by simpa using q0
  have HN:Hid (¬Ac.Same1 S T):=λh=>q0 (HP.out.1 h).1;clear q0
  go_enter Tryz.func65,Tryz.ntmps65
  go_wp2;go_ret;exact⟨Ak.Told.no HN.out,by first|exact HA.out|(rw[HW.out];exact HA.out)⟩
 replace q0:=Decidable.not_not.1 q0;have d0:(x0==y0)=true:=by simpa using q0
 have Q0:Hid (x0=y0):=q0;clear q0
 by_cases q1:¬x1=y1
 ·have d1:(x1==y1)=false:=by simpa using q1
  have HN:Hid (¬Ac.Same1 S T):=λh=>q1 (HP.out.1 h).2.1;clear q1
  go_enter Tryz.func65,Tryz.ntmps65
  go_wp2;go_ret;exact⟨Ak.Told.no HN.out,by first|exact HA.out|(rw[HW.out];exact HA.out)⟩
 replace q1:=Decidable.not_not.1 q1;have d1:(x1==y1)=true:=by simpa using q1
 have Q1:Hid (x1=y1):=q1;clear q1
 by_cases q2:¬x2=y2
 ·have d2:(x2==y2)=false:=by simpa using q2
  have HN:Hid (¬Ac.Same1 S T):=λh=>q2 (HP.out.1 h).2.2.1;clear q2
  go_enter Tryz.func65,Tryz.ntmps65
  go_wp2;go_ret;exact⟨Ak.Told.no HN.out,by first|exact HA.out|(rw[HW.out];exact HA.out)⟩
 replace q2:=Decidable.not_not.1 q2;have d2:(x2==y2)=true:=by simpa using q2
 have Q2:Hid (x2=y2):=q2;clear q2
 by_cases q3:¬x3=y3
 ·have d3:(x3==y3)=false:=by simpa using q3
  have HN:Hid (¬Ac.Same1 S T):=λh=>q3 (HP.out.1 h).2.2.2.1;clear q3
  go_enter Tryz.func65,Tryz.ntmps65
  go_wp2;go_ret;exact⟨Ak.Told.no HN.out,by first|exact HA.out|(rw[HW.out];exact HA.out)⟩
 replace q3:=Decidable.not_not.1 q3;have d3:(x3==y3)=true:=by simpa using q3
 have Q3:Hid (x3=y3):=q3;clear q3
 go_enter Tryz.func65,Tryz.ntmps65
 go_wp2_with fail
 rw[HW.out];have B00:Hid (Below w2.heap.size w2 w2):=Below.refl _ _;clear a0 a1 a2 a3 a4 a5 a6 a7 a8 a9 a10 b0 b1 b2 b3 b4 b5 b6 b7 b8 b9 b10;refine Calls.mono (HCT.out _ (HBB.out _ B00.out)) ?_;rintro e X0 ⟨⟨r0,rfl,hr0⟩,hb0⟩;have B0:Hid (Below w2.heap.size w2 X0):=B00.out.trans (hb0.mono B00.out.size);have R0:Hid (r0=true↔S.t=T.t):=hr0;clear hr0 hb0
 cases r0 with
 |false=>
  go_wp2;go_ret;refine⟨Ak.Told.no λh=> ?_,HBB.out _ B0.out⟩;have:=R0.out.2 (HP.out.1 h).2.2.2.2.1;simp at this
 |true=>
 replace R0:Hid (S.t=T.t):=R0.out.1 (by first|rfl|trivial);obtain⟨a0,a1,a2,a3,a4,a5,a6,a7,a8,a9,a10,b0,b1,b2,b3,b4,b5,b6,b7,b8,b9,b10⟩:=HCA.out X0 B0.out;clear a0 a1 a2 a3 a4 a5 a6 a8 a9 a10 b0 b1 b2 b3 b4 b5 b6 b8 b9 b10
 go_wp2_with fail
 clear a7 b7;refine Calls.mono (HCC.out _ (HBB.out _ B0.out)) ?_;rintro e X1 ⟨⟨r1,rfl,hr1⟩,hb1⟩;have B1:Hid (Below w2.heap.size w2 X1):=B0.out.trans (hb1.mono B0.out.size);have R1:Hid (r1=true↔S.cs=T.cs):=hr1;clear hr1 hb1
 cases r1 with
 |false=>
  go_wp2;go_ret;refine⟨Ak.Told.no λh=> ?_,HBB.out _ B1.out⟩;have:=R1.out.2 (HP.out.1 h).2.2.2.2.2.1;simp at this
 |true=>
 replace R1:Hid (S.cs=T.cs):=R1.out.1 (by first|rfl|trivial);obtain⟨a0,a1,a2,a3,a4,a5,a6,a7,a8,a9,a10,b0,b1,b2,b3,b4,b5,b6,b7,b8,b9,b10⟩:=HCA.out X1 B1.out;clear a0 a1 a2 a3 a4 a5 a6 a7 a9 a10 b0 b1 b2 b3 b4 b5 b6 b7 b9 b10
 go_wp2_with fail
 clear a8 b8;refine Calls.mono (HCL.out _ (HBB.out _ B1.out)) ?_;rintro e X2 ⟨⟨r2,rfl,hr2⟩,hb2⟩;have B2:Hid (Below w2.heap.size w2 X2):=B1.out.trans (hb2.mono B1.out.size);have R2:Hid (r2=true↔S.ls=T.ls):=hr2;clear hr2 hb2
 cases r2 with
 |false=>
  go_wp2;go_ret;refine⟨Ak.Told.no λh=> ?_,HBB.out _ B2.out⟩;have:=R2.out.2 (HP.out.1 h).2.2.2.2.2.2.1;simp at this
 |true=>
 replace R2:Hid (S.ls=T.ls):=R2.out.1 (by first|rfl|trivial);obtain⟨a0,a1,a2,a3,a4,a5,a6,a7,a8,a9,a10,b0,b1,b2,b3,b4,b5,b6,b7,b8,b9,b10⟩:=HCA.out X2 B2.out;clear a0 a1 a2 a3 a4 a5 a6 a7 a8 a10 b0 b1 b2 b3 b4 b5 b6 b7 b8 b10
 go_wp2_with fail
 clear a9 b9;refine Calls.mono (HCN.out _ (HBB.out _ B2.out)) ?_;rintro e X3 ⟨⟨r3,rfl,hr3⟩,hb3⟩;have B3:Hid (Below w2.heap.size w2 X3):=B2.out.trans (hb3.mono B2.out.size);have R3:Hid (r3=true↔S.ns=T.ns):=hr3;clear hr3 hb3
 cases r3 with
 |false=>
  go_wp2;go_ret;refine⟨Ak.Told.no λh=> ?_,HBB.out _ B3.out⟩;have:=R3.out.2 (HP.out.1 h).2.2.2.2.2.2.2.1;simp at this
 |true=>
 replace R3:Hid (S.ns=T.ns):=R3.out.1 (by first|rfl|trivial);obtain⟨a0,a1,a2,a3,a4,a5,a6,a7,a8,a9,a10,b0,b1,b2,b3,b4,b5,b6,b7,b8,b9,b10⟩:=HCA.out X3 B3.out;clear a0 a1 a2 a3 a4 a5 a6 a7 a8 a9 b0 b1 b2 b3 b4 b5 b6 b7 b8 b9
 go_wp2_with fail
 clear a10 b10;refine Calls.mono (HCF.out _ (HBB.out _ B3.out)) ?_;rintro e X4 ⟨⟨r4,rfl,hr4⟩,hb4⟩;have B4:Hid (Below w2.heap.size w2 X4):=B3.out.trans (hb4.mono B3.out.size);have R4:Hid (r4=true↔S.fs=T.fs):=hr4;clear hr4 hb4;go_wp2;go_ret;refine⟨Ak.Told.iff (R4.out.trans ⟨λh=>HP.out.2 ⟨Q0.out,Q1.out,Q2.out,Q3.out,R0.out,R1.out,R2.out,R3.out,h⟩,λh=>(HP.out.1 h).2.2.2.2.2.2.2.2⟩),HBB.out _ B4.out⟩
namespace Ac
def inR (n:Nat)(l:Int×Int):Bool:=decide (-1<=l.1/\ -1<=l.2/\l.1<n/\l.2<n)
def insL (ls:List (Int×Int))(n:Nat):List Nat:=(List.range (n+1)).map λi:Nat=>ls.countP λl=>decide (l.2+1=(i:Int))
def outsL (ls:List (Int×Int))(n:Nat):List Nat:=(List.range (n+1)).map λi:Nat=>ls.countP λl=>decide (l.1+1=(i:Int))
def bet (ls:List (Int×Int)):List (Int×Int):=ls.filter λl=>decide (0<=l.1)&&decide (0<=l.2)
theorem insL_length (ls:List (Int×Int))(n:Nat):(insL ls n).length=n+1:=by simp[insL]
theorem outsL_length (ls:List (Int×Int))(n:Nat):(outsL ls n).length=n+1:=by simp[outsL]
theorem insL_at (ls:List (Int×Int))(n i:Nat)(h:i<n+1):(insL ls n)[i]? =some (ls.countP λl=>decide (l.2+1=(i:Int))):=by
 unfold insL;rw[List.getElem?_map,List.getElem?_range h];rfl
theorem outsL_at (ls:List (Int×Int))(n i:Nat)(h:i<n+1):(outsL ls n)[i]? =some (ls.countP λl=>decide (l.1+1=(i:Int))):=by
 unfold outsL;rw[List.getElem?_map,List.getElem?_range h];rfl
theorem insL_snoc (ls:List (Int×Int))(n:Nat)(l:Int×Int)(k c:Nat)(hk:(k:Int)=l.2+1)(hn:k<n+1)(hc:(insL ls n)[k]? =some c):insL (ls++ [l]) n=(insL ls n).set k (c+1):=by
 apply List.ext_getElem?;intro i
 rcases Nat.lt_or_ge i (n+1)with hi|hi
 ·rw[insL_at _ _ _ hi,List.getElem?_set,insL_length]
  rw[insL_at _ _ _ hn,Option.some.injEq]at hc
  by_cases h:k=i
  ·subst h
   rw[if_pos rfl,if_pos hi,List.countP_append,hc];simp[hk]
  rw[if_neg h,insL_at _ _ _ hi,List.countP_append];have:¬l.2+1=(i:Int):=by omega
  simp[this]
 rw[List.getElem?_eq_none (by rw[insL_length];exact hi),List.getElem?_eq_none (by rw[List.length_set,insL_length];exact hi)]
theorem outsL_snoc (ls:List (Int×Int))(n:Nat)(l:Int×Int)(k c:Nat)(hk:(k:Int)=l.1+1)(hn:k<n+1)(hc:(outsL ls n)[k]? =some c):outsL (ls++ [l]) n=(outsL ls n).set k (c+1):=by
 apply List.ext_getElem?;intro i
 rcases Nat.lt_or_ge i (n+1)with hi|hi
 ·rw[outsL_at _ _ _ hi,List.getElem?_set,outsL_length]
  rw[outsL_at _ _ _ hn,Option.some.injEq]at hc
  by_cases h:k=i
  ·subst h
   rw[if_pos rfl,if_pos hi,List.countP_append,hc];simp[hk]
  rw[if_neg h,outsL_at _ _ _ hi,List.countP_append];have:¬l.1+1=(i:Int):=by omega
  simp[this]
 rw[List.getElem?_eq_none (by rw[outsL_length];exact hi),List.getElem?_eq_none (by rw[List.length_set,outsL_length];exact hi)]
theorem bet_snoc (ls:List (Int×Int))(l:Int×Int):bet (ls++ [l])=bet ls++if(decide (0<=l.1)&&decide (0<=l.2))=true then [l]else []:=by
 unfold bet;rw[List.filter_append]
 congr 1
 cases h:(decide (0<=l.1)&&decide (0<=l.2))<;>simp[h]
theorem bet_length (ls:List (Int×Int)):(bet ls).length<=ls.length:=List.length_filter_le _ _
def around (T:Ac):List Ac:=.mk 0 0 0 0 (.mk 0 0 []) [] [] [] [] []::T.ks
def joinedAt (T:Ac)(i:Nat):Bool:=((T.around[i]?).map λk=>joinedB k.kind k.a k.cs.length (((insL T.ls T.ks.length)[i]?).getD 0:Nat) (((outsL T.ls T.ks.length)[i]?).getD 0:Nat)).getD true
noncomputable def freeB (n:Nat)(rs:List (Int×Int)):Bool:=if Rk.chk n rs≠0 then false else((List.range n).filter λi=>Rk.lead (rs.map λe=>(e.1.toNat,e.2.toNat)) i i).isEmpty
noncomputable def linkedB (T:Ac):Bool:= !decide (T.ks.length=0)&&decide (T.ls.length<=40)&&T.ls.all (inR T.ks.length)&&(List.range (T.ks.length+1)).all T.joinedAt&&freeB T.ks.length (bet T.ls)
end Ac
theorem Ak.infoAct:(Tryz.prog.info? 32).map (λi=>(i.zero,i.size,i.bytes))=some (some (.agg #[.int .i64 0,.int .i64 0,.int .i64 0,.int .i64 0,.int .i64 0,.int .i64 0,.slice none 0 0,.slice none 0 0,.slice none 0 0,.slice none 0 0,.slice none 0 0,.slice none 0 0]),12,192):=by kernel_rfl
theorem Ak.infoEdge:(Tryz.prog.info? 128).map (λi=>(i.zero,i.size,i.bytes))=some (some (.agg #[.int .i64 0,.int .i64 0]),2,16):=by kernel_rfl
theorem Ak.flat_len {f:Nat->List Value}(hf:∀j,(f j).length=12)(n:Nat):((List.range n).flatMap f).length=n*12:=by
 induction n with
 |zero=>rfl
 |succ n ih=>rw[List.range_succ,List.flatMap_append,List.length_append,ih];simp[hf];omega
theorem Ak.flat_at {f:Nat->List Value}(hf:∀j,(f j).length=12)(n j i:Nat)(hj:j<n)(hi:i<12):((List.range n).flatMap f)[j*12+i]? =(f j)[i]? :=by
 induction n with
 |zero=>omega
 |succ n ih=>
  rw[List.range_succ,List.flatMap_append]
  rcases Nat.lt_or_ge j n with h|h
  ·rw[List.getElem?_append_left (by rw[Ak.flat_len hf];omega)]
   exact ih h
  have:j=n:=by omega
  subst this;rw[List.getElem?_append_right (by rw[Ak.flat_len hf];omega),Ak.flat_len hf]
  simp
def Ac.kcells (T:Ac)(U:Nat->Ac.Vs):List Value:=(List.range T.ks.length).flatMap λj=>(Ac.row ((T.ks[j]?).getD (.mk 0 0 0 0 (.mk 0 0 []) [] [] [] [] [])) (U j)).toList
theorem Ac.kcells_len (T:Ac)(U:Nat->Ac.Vs):(T.kcells U).length=T.ks.length*12:=Ak.flat_len (λ_=>rfl) _
theorem Ac.kcells_at (T:Ac)(U:Nat->Ac.Vs)(j i:Nat)(hj:j<T.ks.length)(hi:i<12):(T.kcells U)[j*12+i]? =some ((Ac.row T.ks[j] (U j))[i]'(by simpa [Ac.row]using hi)):=by
 unfold Ac.kcells;rw[Ak.flat_at (λ_=>rfl) _ j i hj hi,List.getElem?_eq_getElem hj];simp only[Option.getD_some,Array.getElem?_toList];rw[Array.getElem?_eq_getElem (by simpa [Ac.row]using hi)]
theorem Ac.kcells_one {w:World}{B e d:Nat}{T:Ac}{U:Nat->Ac.Vs}(h:∀j (h:j<T.ks.length),Ac.Lies w B e d (U j) T.ks[j]):∀u∈T.kcells U,u.oneCell'=true:=by
 intro u hu;obtain⟨j,hj,hu⟩:=List.mem_flatMap.1 hu;have hj':=List.mem_range.1 hj;have h1:=(h j hj').ones;rw[List.getElem?_eq_getElem hj']at hu;rw[Array.all_eq_true_iff_forall_mem]at h1;exact h1 u (by simpa using hu)
def Ak.Ats (w:World)(g:Nat)(l:List Nat):Prop:=w.heap[g]? =some (.cells (l.map λi:Nat=>Value.int .i64 (i:Int)).toArray 3 (0,0))
theorem Ak.Ats.lt {w:World}{g:Nat}{l:List Nat}(h:Ak.Ats w g l):g<w.heap.size:=(Array.getElem?_eq_some_iff.1 h).1
theorem Ak.Ats.cell {w:World}{g:Nat}{l:List Nat}(h:Ak.Ats w g l)(j x:Nat)(hj:l[j]? =some x):w.cell? ⟨g,j,none⟩=some (.int .i64 (x:Int)):=by
 unfold Ak.Ats at h;simp[World.cell?,h,hj]
theorem Ak.Ats.frozen {w:World}{g:Nat}{l:List Nat}(h:Ak.Ats w g l)(j:Nat):w.frozen? ⟨g,j,none⟩=false:=by
 unfold Ak.Ats at h;simp[World.frozen?,h]
theorem Ak.Ats.put {w:World}{g:Nat}{l:List Nat}(h:Ak.Ats w g l)(j x:Nat):Ak.Ats (w.setCell ⟨g,j,none⟩ (.int .i64 (x:Int))) g (l.set j x):=by
 unfold Ak.Ats at*;simp[World.setCell,Array.getElem?_modify,h,List.map_set]
theorem Ak.Ats.keep {w w':World}{g:Nat}{l:List Nat}(h:Ak.Ats w g l)(hk:w'.heap[g]? =w.heap[g]?):Ak.Ats w' g l:=by unfold Ak.Ats;rw[hk];exact h
def Ak.irow (n:Nat):Array Value:=((List.replicate n 0).map λi:Nat=>Value.int .i64 (i:Int)).toArray
theorem Ak.infoIntA:(Tryz.prog.info? 3).map (λi=>(i.zero,i.size,i.bytes))=some (some (.int .i64 0),1,8):=by kernel_rfl
theorem Ak.make_ints (n:Nat)(hn:n<=2000)(w:World):(Instr.makeSlice 51 (.int .i64 (n:Int)) (.int .i64 (n:Int))).run Tryz.prog w=.ok (.slice (some ⟨w.heap.size,0,none⟩) n n) (w.alloc (.cells (Ak.irow n) 3)):=by
 have h:=run_make_row' (P:=Tryz.prog) 51 3 (.int .i64 0) 8 Tryz.underlying51 Ak.infoIntA rfl .i64 .i64 n (by omega) (by omega) w;rw[h,show madeCells #[Value.int .i64 0] n=Ak.irow n from ?_];apply Array.toList_inj.1;rw[toList_madeCells_one];simp[Ak.irow]
theorem Ak.ats_new (w:World)(n:Nat):Ak.Ats (w.alloc (.cells (Ak.irow n) 3)) w.heap.size (List.replicate n 0):=heap_alloc_new w _
theorem Ac.insL_nil (n:Nat):Ac.insL [] n=List.replicate (n+1) 0:=by
 unfold Ac.insL;rw[List.eq_replicate_iff];exact⟨by simp,by simp⟩
theorem Ac.outsL_nil (n:Nat):Ac.outsL [] n=List.replicate (n+1) 0:=by
 unfold Ac.outsL;rw[List.eq_replicate_iff];exact⟨by simp,by simp⟩
def Ak.ecells (es:List (Int×Int)):List Value:=es.flatMap λe=> [.int .i64 e.1,.int .i64 e.2]
theorem Ak.ecells_at (es:List (Int×Int))(j:Nat)(hj:j<es.length):(Ak.ecells es)[j*2]? =some (.int .i64 es[j].1)/\(Ak.ecells es)[j*2+1]? =some (.int .i64 es[j].2):=by
 induction es generalizing j with
 |nil=>simp at hj
 |cons a r ih=>
  have hc:Ak.ecells (a::r)=.int .i64 a.1::.int .i64 a.2::Ak.ecells r:=rfl;rw[hc]
  cases j with
  |zero=>simp
  |succ i=>
   have:=ih i (by simpa using hj);rw[show(i+1)*2=i*2+1+1 by omega];simpa using this
theorem Ak.eds_of_own {w:World}{B m c:Nat}{a:Option Addr}{es:List (Int×Int)}(h:w.ownsRow B 128 2 (.slice a m c) es.length (Ak.ecells es)):Rk.Eds w w.heap.size a es:=by
 intro j hj
 rcases h.2 with⟨e,hn⟩|⟨g,cap,cur,e,h3,h4,h5,h6,h7,h8⟩
 ·omega
 simp only[Value.slice.injEq]at e;obtain⟨rfl,-,rfl⟩:=e;have hk:=Ak.ecells_at es j hj;rw[<-h8,List.getElem?_take,List.getElem?_take,if_pos (by omega),if_pos (by omega),Array.getElem?_toList,Array.getElem?_toList]at hk;refine⟨g,0,rfl,(Array.getElem?_eq_some_iff.1 h4).1, ?_, ?_⟩
 ·simp only[World.cell?,h4,Nat.zero_add];exact hk.1
 simp only[World.cell?,h4,Nat.zero_add];exact hk.2
theorem Ak.own_shape {w:World}{B:Nat}{e:TypeId}{size:Nat}{v:Value}{n:Nat}{cs:List Value}(h:w.ownsRow B e size v n cs):∃a c,v=.slice a n c:=by
 rcases h.2 with⟨rfl,rfl⟩|⟨g,cap,cur,rfl,_⟩
 ·exact⟨none,0,rfl⟩
 exact⟨_,_,rfl⟩
theorem Tryz.round_free (n:Nat)(a:Option Addr)(c:Nat)(rs:List (Int×Int))(w:World)(hE:Rk.Eds w w.heap.size a rs)(hm:rs.length<=1000000):
  Calls Tryz.prog 79 #[.int .i64 (n:Int),.slice a rs.length c] w λe w'=>∃la ln lc err,e=.returned (.tuple #[.slice la ln lc,.int .i64 err])/\(decide (err=0)&&decide (ln=0))=Ac.freeB n rs/\Below w.heap.size w w':=by
 unfold Ac.freeB
 split
 ·next h=>
  refine(Tryz.round_err n _ a c rs w hE (by omega) rfl h).mono λe w' ⟨h1,h2⟩=>⟨none,0,0,Rk.chk n rs,h1, ?_,h2⟩;simp[h]
 next h=>
 have h0:Rk.chk n rs=0:=Decidable.not_not.1 h;obtain⟨k,es,hk1,hk,rfl,hl,hes⟩:=Rk.chk_ok h0;obtain rfl:n=k:=by omega
 have key:=Tryz.round_ok n a c es w hk hes hE (by rw[Rk.up_length]at hm;omega) h0
 have hd:((Rk.up es).map λe=>(e.1.toNat,e.2.toNat))=es:=by
  rw[Rk.up,List.map_map];exact(List.map_congr_left λe _=>by simp).trans (List.map_id es)
 rw[Rk.up_length,hd];refine key.mono λe w' ⟨v,he,hown,hb⟩=> ?_;obtain⟨la,lc,rfl⟩:=Ak.own_shape hown;refine⟨la,_,lc,0,he, ?_,hb⟩;rw[decide_eq_true rfl,Bool.true_and]
 cases (List.range n).filter (λi=>Rk.lead es i i)<;>rfl
def Ac.V0:Ac.Vs:=⟨.slice none 0 0,.slice none 0 0,.slice none 0 0,.slice none 0 0,.slice none 0 0,.slice none 0 0⟩
def Ac.UA (U:Nat->Ac.Vs)(i:Nat):Ac.Vs:=if i=0 then Ac.V0 else U (i-1)
theorem Ak.zero_own (w:World):(w.alloc (.cells #[.int .i64 0,.int .i64 0,.int .i64 0,.int .i64 0,.int .i64 0,.int .i64 0,.slice none 0 0,.slice none 0 0,.slice none 0 0,.slice none 0 0,.slice none 0 0,.slice none 0 0] 32)).ownsRow w.heap.size 32 12 (.slice (some ⟨w.heap.size,0,none⟩) 1 1) 1 [.int .i64 0,.int .i64 0,.int .i64 0,.int .i64 0,.int .i64 0,.int .i64 0,.slice none 0 0,.slice none 0 0,.slice none 0 0,.slice none 0 0,.slice none 0 0,.slice none 0 0]:=
 ⟨rfl,.inr ⟨w.heap.size,1,#[.int .i64 0,.int .i64 0,.int .i64 0,.int .i64 0,.int .i64 0,.int .i64 0,.slice none 0 0,.slice none 0 0,.slice none 0 0,.slice none 0 0,.slice none 0 0,.slice none 0 0],rfl,Nat.le_refl _,heap_alloc_new w _,Nat.le_refl _,by unfold maxLen;omega,rfl,rfl⟩⟩
theorem Ak.rows_of {W:World}{B n c gk:Nat}{T:Ac}{U:Nat->Ac.Vs}(h:W.ownsRow B 32 12 (.slice (some ⟨gk,0,none⟩) (1+n) c) (1+n) ([.int .i64 0,.int .i64 0,.int .i64 0,.int .i64 0,.int .i64 0,.int .i64 0,.slice none 0 0,.slice none 0 0,.slice none 0 0,.slice none 0 0,.slice none 0 0,.slice none 0 0]++T.kcells U))(_hn:T.ks.length=n):∀i (hi:i<T.around.length),Ac.Row W gk (i*12) (Ac.row T.around[i] (Ac.UA U i)):=by
 intro i hi k hk;have hk12:k<12:=by simpa [Ac.row]using hk
 have hc:=h.cells (g:=gk) rfl (i*12+k);rw[Go.WideShapes.add_plain,Nat.zero_add]at hc;apply hc
 cases i with
 |zero=>
  rw[Nat.zero_mul,Nat.zero_add,List.getElem?_append_left (by simpa using hk12)]
  rcases(by omega:k=0∨k=1∨k=2∨k=3∨k=4∨k=5∨k=6∨k=7∨k=8∨k=9∨k=10∨k=11)with rfl|rfl|rfl|rfl|rfl|rfl|rfl|rfl|rfl|rfl|rfl|rfl<;>rfl
 |succ i=>
  have hi':i<T.ks.length:=by simpa [Ac.around]using hi
  rw[List.getElem?_append_right (by simp;omega)];have e1:(i+1)*12+k-([.int .i64 0,.int .i64 0,.int .i64 0,.int .i64 0,.int .i64 0,.int .i64 0,.slice none 0 0,.slice none 0 0,.slice none 0 0,.slice none 0 0,.slice none 0 0,.slice none 0 0]:List Value).length=i*12+k:=by simp;omega
  rw[e1,Ac.kcells_at T U i k hi' hk12];rfl
end Go.Proofs
namespace Go.Proofs
open Go.RowKit
theorem Rk.sweep_take {n:Nat} :∀(es:List (Nat×Nat)) (bs:List Bool),(∀e,e∈es->e.1<n/\e.2<n)->(Rk.sweep es bs).take n=Rk.sweep es (bs.take n)
 | [],_,_=>rfl
 |e::es,bs,h=>by
  have h1:=h e List.mem_cons_self;rw[Rk.sweep,Rk.sweep,Rk.sweep_take es _ (λx hx=>h x (List.mem_cons_of_mem _ hx))]
  congr 1
  rw[List.getElem?_take_of_lt h1.1]
  split
  ·rw[List.take_set]
  rfl
theorem Rk.sweeps_take {n:Nat}{es:List (Nat×Nat)}(h:∀e,e∈es->e.1<n/\e.2<n):∀(k:Nat) (bs:List Bool),(Rk.sweeps es k bs).take n=Rk.sweeps es k (bs.take n)
 |0,_=>rfl
 |k+1,bs=>by rw[Rk.sweeps,Rk.sweeps,Rk.sweeps_take h k,Rk.sweep_take es bs h]
theorem Nt.way_sweep {fs:List (Nat×Nat)}{n a:Nat}(hf:∀e,e∈fs->e.2<n):∀(es:List (Nat×Nat)) (bs:List Bool),(∀e,e∈es->e∈fs)->Rk.Way fs n a bs->Rk.Way fs n a (Rk.sweep es bs)
 | [],_,_,h=>h
 |e::es,bs,hs,h=>by
  rw[Rk.sweep];refine Nt.way_sweep hf es _ (λx hx=>hs x (List.mem_cons_of_mem _ hx)) ?_
  split
  ·next hx=>exact h.mark (hs e List.mem_cons_self) hx (hf e (hs e List.mem_cons_self))
  exact h
theorem Nt.way_sweeps {fs:List (Nat×Nat)}{n a:Nat}(hf:∀e,e∈fs->e.2<n):∀(k:Nat) (bs:List Bool),Rk.Way fs n a bs->Rk.Way fs n a (Rk.sweeps fs k bs)
 |0,_,h=>h
 |k+1,bs,h=>Nt.way_sweeps hf k _ (Nt.way_sweep hf fs bs (λ_ h=>h) h)
theorem Nt.sweeps_met {es:List (Nat×Nat)}{n a:Nat}(hes:∀e,e∈es->e.1<n/\e.2<n)(ha:a<n):Rk.sweeps es n ((List.replicate n false).set a true)=(List.range n).map (Rk.met es a):=by
 refine(Nt.way_sweeps (λe h=>(hes e h).2) n _ (Rk.Way.start es ha)).done ?_;refine Rk.sweeps_shut n _ (λe h=>by simpa using(hes e h).2) ?_;have:=Rk.left_le ((List.replicate n false).set a true);simpa using this
theorem Nt.sweeps_long {es:List (Nat×Nat)}{n a N:Nat}(hes:∀e,e∈es->e.1<n/\e.2<n)(ha:a<n)(hN:n<=N)(i:Nat)(hi:i<n):(Rk.sweeps es n ((List.replicate N false).set a true))[i]? =some (Rk.met es a i):=by
 have h:=Rk.sweeps_take hes n ((List.replicate N false).set a true);rw[List.take_set,List.take_replicate,Nat.min_eq_left hN,Nt.sweeps_met hes ha]at h;rw[<-List.getElem?_take_of_lt hi,h];simp[hi]
def Nt.back (es:List (Nat×Nat)):List (Nat×Nat):=es.map λe=>(e.2,e.1)
theorem Nt.met_back (es:List (Nat×Nat))(a b:Nat):Rk.met (Nt.back es) b a=Rk.met es a b:=by
 rw[Bool.eq_iff_iff,Rk.met_iff,Rk.met_iff];exact Rk.back_iff es a b
theorem Nt.back_lt {es:List (Nat×Nat)}{n:Nat}(hes:∀e,e∈es->e.1<n/\e.2<n):∀e,e∈Nt.back es->e.1<n/\e.2<n:=by
 intro e he;obtain⟨x,hx,rfl⟩:=List.mem_map.1 he;have:=hes x hx;exact⟨this.2,this.1⟩
theorem Nt.edges_lt {ns:List Nd}{fs:List Fl}(h:∀f,f∈fs->0<=f.fr/\f.fr<ns.length/\0<=f.to/\f.to<ns.length):∀e,e∈Nt.edges fs->e.1<ns.length/\e.2<ns.length:=by
 intro e he;obtain⟨f,hf,rfl⟩:=List.mem_map.1 he;have:=h f hf;exact⟨by show f.fr.toNat<_;omega,by show f.to.toNat<_;omega⟩
theorem Nt.edges_get (fs:List Fl)(k:Nat)(h:k<fs.length):(Nt.edges fs)[k]'(by simpa [Nt.edges]using h)=(fs[k].fr.toNat,fs[k].to.toNat):=by simp[Nt.edges]
theorem Nt.edges_length (fs:List Fl):(Nt.edges fs).length=fs.length:=by simp[Nt.edges]
theorem Nt.back_length (es:List (Nat×Nat)):(Nt.back es).length=es.length:=by simp[Nt.back]
end Go.Proofs
namespace Go.Proofs
open Go.RowKit Go.Shelf
theorem Tryz.rround_ok (n:Nat)(a:Option Addr)(c:Nat)(es:List (Nat×Nat))(w:World)(hn:n<=64)(hes:∀e,e∈es->e.1<n/\e.2<n)(hE:Rk.Eds w w.heap.size a (Rk.up es))(hm:es.length<=1000000000000000)(hck:Rk.chk n (Rk.up es)=0):
  Calls Tryz.prog 92 #[.int .i64 n,.slice a es.length c] w λe w'=>∃v,e=.returned (.tuple #[v,.int .i64 0])/\
   w'.ownsRow w.heap.size 3 1 v ((List.range n).filter (λi=>Rk.lead es i i)).length (Rq.nums ((List.range n).filter (λi=>Rk.lead es i i)))/\Below w.heap.size w w':=by
 obtain⟨i0,hi,hz0,hz1,hz2⟩:=info_parts Tryz.infoIntQ;have H1:Hid _:=Tryz.rcheck_any n a c (Rk.up es) w hE (by rw[Rk.up_length];exact hm);rw[hck,Rk.up_length]at H1;have HX:Hid (n<=64/\(∀e,e∈es->e.1<n/\e.2<n)/\Rk.Eds w w.heap.size a (Rk.up es)/\es.length<=1000000000000000):=⟨hn,hes,hE,hm⟩;clear hE hm hes hck
 go_enter Tryz.func92,Tryz.ntmps92
 go_wp2_with fail
 refine Calls.mono H1.out ?_;rintro e W1 ⟨rfl,hb⟩;have HB0:Hid (Below w.heap.size w W1):=hb;clear hb H1;go_wp2
 go_loopg [7,8] n (λgk s5 s8 wr=>∃(k r:Nat) (L:List Nat),gk+k=n/\s8=.int .i64 k/\r<=k/\Hid (L=(List.range k).filter (λi=>Rk.lead es i i)/\L.length=r/\Below w.heap.size w wr)/\wr.ownsRow w.heap.size 3 1 s5 r (Rq.nums L))
 case atStart=>exact⟨0,0, [],by omega,rfl,Nat.le_refl _,⟨rfl,rfl,HB0.out⟩,World.ownsRow_nil _ _ _ _⟩
 case round=>
  obtain⟨k,r,L,hk,rfl,hr,HB,hown⟩:=hrel;obtain⟨av,cv,rfl⟩:=Rq.own_shape hown
  by_cases hlt:k<n
  rotate_left
  ·have hd:decide ((k:Int)<n)=false:=decide_eq_false (by omega)
   go_wp2;go_ret2;obtain rfl:k=n:=by omega
   rw[<-HB.out.1,HB.out.2.1];exact⟨_,rfl,hown,HB.out.2.2⟩
  have hd:decide ((k:Int)<n)=true:=decide_eq_true (by omega)
  have HF:Hid ((List.range (k+1)).filter (λi=>Rk.lead es i i)=L++if((λi=>Rk.lead es i i)) k=true then [k]else []):=by
   show _=_;rw[List.range_succ,List.filter_append,<-HB.out.1]
   cases hq:((λi=>Rk.lead es i i)) k<;>simp[hq]
  have HC:Hid _:=Tryz.rleads_any n k k a c es wr HX.out.1 hlt HX.out.2.1 ((HX.out.2.2.1.below HB.out.2.2).wider HB.out.2.2.size) HX.out.2.2.2;obtain⟨q,hq⟩:=pE (Rk.lead es k k);simp only[hq]at HC HF;clear hq
  cases q
  ·go_wp2_with (first|(go_at_call 117;refine Calls.mono HC.out ?_;rintro e W2 ⟨rfl,hb2⟩;have own1:=Rq.own_below hown hb2;have B2:Hid (Below w.heap.size w W2):=HB.out.2.2.trans (hb2.mono HB.out.2.2.size);have hs2:w.heap.size<=W2.heap.size:=B2.out.size;clear hb2 hown)|fail)
   go_roundg (gk-1)
   case measure=>omega
   case rel=>
    refine⟨k+1,r,L,by omega,by go_num,by omega,⟨?_,HB.out.2.1,B2.out⟩,own1⟩;rw[HF.out];simp
  go_wp2_with (first
   |(go_at_call 117;refine Calls.mono HC.out ?_;rintro e W2 ⟨rfl,hb2⟩;have own1:=Rq.own_below hown hb2;have B2:Hid (Below w.heap.size w W2):=HB.out.2.2.trans (hb2.mono HB.out.2.2.size);have hs2:w.heap.size<=W2.heap.size:=B2.out.size;clear hb2 hown)
   |(at_builtin;refine wpList_append_own _ rfl _ _ 51 rfl w.heap.size 3 i0 (.int .i64 0) 1 8 Tryz.underlying51 hi hz0 hz1 hz2 rfl (by decide) _ _ _ rfl (own1.alloc _) ⟨W2.heap.size,0,none⟩ 1 1 [.int .i64 k] rfl rfl (Rq.one_cell W2 k 3) (Rq.one_one k) ?c3 ?c4 ?c5 ?_))
  case c3=>unfold maxLen;omega
  case c4=>omega
  case c5=>first|omega|(simp;omega)
  intro v' W3 own3 g3 _;obtain⟨a3,c3',rfl⟩:=Rq.own_shape own3;have HZ:Hid (Below w.heap.size w W3):=Rq.below_grown (B2.out.alloc hs2 _) (by simp;omega) (own1.alloc _) g3;clear g3 own1;go_wp2;go_roundg (gk-1)
  case measure=>omega
  case rel=>
   refine⟨k+1,r+1,L++ [k],by omega,by go_num,by omega,⟨?_,by simp[HB.out.2.1],HZ.out⟩, ?_⟩
   ·rw[HF.out];rfl
   rw[Rq.nums_snoc];exact own3
namespace Ac
structure OwnB (w:World)(B e:Nat)(V:Vs)(T:Ac):Prop where
 t:Tm.Lies w B e V.t T.t
 c:∃a cap,V.c=.slice a T.cs.length cap/\Tms w B e a T.cs
 n:∃a cap,V.n=.slice a T.ns.length cap/\Nt.Nds w B e a T.ns
 f:∃a cap,V.f=.slice a T.fs.length cap/\Nt.Fls w B e a T.fs
theorem OwnB.keep {w w':World}{B e:Nat}{V:Vs}{T:Ac}(h:OwnB w B e V T)(hk:∀k,k<B->w'.heap[k]? =w.heap[k]?):OwnB w' B e V T:=by
 obtain⟨h1,⟨a2,c2,e2,h2⟩,⟨a4,c4,e4,h4⟩,⟨a5,c5,e5,h5⟩⟩:=h;exact⟨h1.keep hk,⟨a2,c2,e2,h2.keep hk⟩,⟨a4,c4,e4,nds_keep h4 hk⟩,⟨a5,c5,e5,fls_keep h5 hk⟩⟩
theorem Own.ownB {w:World}{B e:Nat}{V:Vs}{T:Ac}(h:Own w B e V T)(vk vl:Value):OwnB w B e ⟨V.t,V.c,vk,vl,V.n,V.f⟩ T:=⟨h.t,h.c,h.n,h.f⟩
def LksP (w:World)(P:Nat->Prop)(v:Value)(ls:List (Int×Int)):Prop:=∃a cap,v=.slice a ls.length cap/\
 ∀j (h:j<ls.length),∃g off,a=some ⟨g,off,none⟩/\P g/\w.cell? ⟨g,off+j*2,none⟩=some (.int .i64 ls[j].1)/\w.cell? ⟨g,off+j*2+1,none⟩=some (.int .i64 ls[j].2)
theorem LksP.keep {w w':World}{P P':Nat->Prop}{v:Value}{ls:List (Int×Int)}(h:LksP w P v ls)(hk:∀k,P k->w'.heap[k]? =w.heap[k]?)(hP:∀k,P k->P' k):LksP w' P' v ls:=by
 obtain⟨a,cap,hv,h⟩:=h;refine⟨a,cap,hv,λj hj=> ?_⟩;obtain⟨g,off,ha,hg,h0,h1⟩:=h j hj;have hc:∀o,w'.cell? ⟨g,o,none⟩=w.cell? ⟨g,o,none⟩:=λo=>World.cell?_of_block (w:=w) (hk g hg);exact⟨g,off,ha,hP g hg,by rw[hc];exact h0,by rw[hc];exact h1⟩
def LiesP (w:World)(B e:Nat)(P:Nat->Prop):Nat->Vs->Ac->Prop
 |0,_,_=>False
 |d+1,V,T=>OwnB w B e V T/\LksP w P V.l T.ls/\∃a cap,V.k=.slice a T.ks.length cap/\∀j (h:j<T.ks.length),∃g off U,a=some ⟨g,off,none⟩/\P g/\Row w g (off+j*12) (row T.ks[j] U)/\LiesP w B e P d U T.ks[j]
theorem LiesP.keep {w w':World}{B e:Nat}{P P':Nat->Prop}(hB:∀k,k<B->w'.heap[k]? =w.heap[k]?)(hk:∀k,P k->w'.heap[k]? =w.heap[k]?)(hP:∀k,P k->P' k):∀{d:Nat} {V:Vs} {T:Ac},LiesP w B e P d V T->LiesP w' B e P' d V T
 |0,_,_,h=>h.elim
 |d+1,V,T,h=>by
  obtain⟨ho,hl,a,cap,hv,h⟩:=h;refine⟨ho.keep hB,hl.keep hk hP,a,cap,hv,λj hj=> ?_⟩;obtain⟨g,off,U,ha,hg,hr,h1⟩:=h j hj;exact⟨g,off,U,ha,hP g hg,hr.keep (hk g hg),LiesP.keep hB hk hP h1⟩
theorem LiesP.lies {w:World}{B B' e:Nat}{P:Nat->Prop}(hB:B<=B')(hP:∀k,P k->k<B'):∀{d:Nat} {V:Vs} {T:Ac},LiesP w B e P d V T->Lies w B' e d V T
 |0,_,_,h=>h.elim
 |d+1,V,T,h=>by
  obtain⟨⟨h1,⟨a2,c2,e2,h2⟩,⟨a4,c4,e4,h4⟩,⟨a5,c5,e5,h5⟩⟩,⟨a3,c3,e3,h3⟩,a,cap,hv,h⟩:=h;refine⟨⟨h1.wider hB,⟨a2,c2,e2,h2.wider hB⟩,⟨a3,c3,e3,λj hj=> ?_⟩,⟨a4,c4,e4,h4.wider hB⟩,⟨a5,c5,e5,h5.wider hB⟩⟩,a,cap,hv,λj hj=> ?_⟩
  ·obtain⟨g,off,ha,hg,q0,q1⟩:=h3 j hj
   exact⟨g,off,ha,hP g hg,q0,q1⟩
  obtain⟨g,off,U,ha,hg,hr,h1⟩:=h j hj;exact⟨g,off,U,ha,hP g hg,hr,LiesP.lies hB hP h1⟩
theorem LiesP.upto {w:World}{B e:Nat}{P:Nat->Prop} :∀{d d':Nat} {V:Vs} {T:Ac},LiesP w B e P d V T->d<=d'->LiesP w B e P d' V T
 |0,_,_,_,h,_=>h.elim
 |d+1,0,_,_,_,h'=>by omega
 |d+1,d'+1,V,T,h,h'=>by
  obtain⟨ho,hl,a,cap,hv,h⟩:=h;refine⟨ho,hl,a,cap,hv,λj hj=> ?_⟩;obtain⟨g,off,U,ha,hg,hr,h1⟩:=h j hj;exact⟨g,off,U,ha,hg,hr,LiesP.upto h1 (by omega)⟩
theorem LiesP.shape {w:World}{B e d:Nat}{P:Nat->Prop}{V:Vs}{T:Ac}(h:LiesP w B e P d V T):∃a6 c6 a7 c7 a8 c8 a9 c9 a10 c10 a11 c11,V=⟨.slice a6 T.t.ks.length c6,.slice a7 T.cs.length c7,.slice a8 T.ks.length c8,.slice a9 T.ls.length c9,.slice a10 T.ns.length c10,.slice a11 T.fs.length c11⟩:=by
 cases d with
 |zero=>exact h.elim
 |succ d=>
  obtain⟨ho,⟨a9,c9,e9,_⟩,a8,c8,e8,_⟩:=h;obtain⟨a6,c6,e6⟩:=ho.t.shape;obtain⟨a7,c7,e7,_⟩:=ho.c;obtain⟨a10,c10,e10,_⟩:=ho.n;obtain⟨a11,c11,e11,_⟩:=ho.f;refine⟨a6,c6,a7,c7,a8,c8,a9,c9,a10,c10,a11,c11, ?_⟩
  cases V
  simp only at e6 e7 e8 e9 e10 e11;rw[e6,e7,e8,e9,e10,e11]
theorem LiesP.ones {w:World}{B e d:Nat}{P:Nat->Prop}{V:Vs}{T:Ac}(h:LiesP w B e P d V T):(row T V).all (·.oneCell')=true:=by
 obtain⟨a6,c6,a7,c7,a8,c8,a9,c9,a10,c10,a11,c11,rfl⟩:=h.shape;simp[row,Value.oneCell']
end Ac
theorem Ak.rows_ne {X:World}{B B':Nat}{e e':TypeId}{s s':Nat}{v v':Value}{n n':Nat}{cs cs':List Value}(h:X.ownsRow B e s v n cs)(h':X.ownsRow B' e' s' v' n' cs')(hne:e≠e'){k:Nat}(hk:v.ownBlock=some k):v'.ownBlock≠some k:=by
 rcases h.2 with⟨rfl,_⟩|⟨g,cap,cur,rfl,_,hg,_⟩
 ·cases hk
 have e2:g=k:=Option.some.inj hk;subst e2
 rcases h'.2 with⟨rfl,_⟩|⟨g',cap',cur',rfl,_,hg',_⟩
 ·simp[Value.ownBlock]
 intro e1;have e3:g'=g:=Option.some.inj e1;subst e3;rw[hg']at hg
 cases hg
 exact hne rfl
theorem Ak.row_lt {X:World}{B:Nat}{e:TypeId}{s:Nat}{v:Value}{n:Nat}{cs:List Value}(h:X.ownsRow B e s v n cs){k:Nat}(hk:v.ownBlock=some k):B<=k/\k<X.heap.size:=by
 rcases h.2 with⟨rfl,_⟩|⟨g,cap,cur,rfl,hb,hg,_⟩
 ·cases hk
 have e2:g=k:=Option.some.inj hk;subst e2;exact⟨hb,(Array.getElem?_eq_some_iff.1 hg).1⟩
theorem Ak.own_kept {w w':World}{B:Nat}{e:TypeId}{size:Nat}{v:Value}{n:Nat}{cs:List Value}(h:w.ownsRow B e size v n cs)(hb:∀k,v.ownBlock=some k->w'.heap[k]? =w.heap[k]?):w'.ownsRow B e size v n cs:=
 ⟨h.1,h.2.imp id fun⟨g,cap,cur,hv,h1,h2,h3⟩=>⟨g,cap,cur,hv,h1,(hb g (by rw[hv];rfl)).trans h2,h3⟩⟩
def Ak.kCells (qs:List (Ac×Ac.Vs)):List Value:=qs.flatMap λq=>(Ac.row q.1 q.2).toList
theorem Ak.kCells_append (a b:List (Ac×Ac.Vs)):Ak.kCells (a++b)=Ak.kCells a++Ak.kCells b:=by simp[Ak.kCells]
theorem Ak.ecells_append (a b:List (Int×Int)):Ak.ecells (a++b)=Ak.ecells a++Ak.ecells b:=by simp[Ak.ecells]
theorem Ak.kCells_at:∀(qs:List (Ac×Ac.Vs)) (j i:Nat) (h:j<qs.length) (hi:i<12),(Ak.kCells qs)[j*12+i]? =some ((Ac.row qs[j].1 qs[j].2)[i]'(by simpa [Ac.row]using hi))
 | [],j,_,h,_=>by simp at h
 |q::r,0,i,_,hi=>by
  have e:Ak.kCells (q::r)=(Ac.row q.1 q.2).toList++Ak.kCells r:=by simp[Ak.kCells]
  rw[e,List.getElem?_append_left (by simp[Ac.row];omega),Nat.zero_mul,Nat.zero_add,Array.getElem?_toList];exact Array.getElem?_eq_getElem _
 |q::r,j+1,i,h,hi=>by
  have e:Ak.kCells (q::r)=(Ac.row q.1 q.2).toList++Ak.kCells r:=by simp[Ak.kCells]
  have hl:(Ac.row q.1 q.2).toList.length=12:=rfl;rw[e,List.getElem?_append_right (by rw[hl];omega),hl,show(j+1)*12+i-12=j*12+i by omega];exact Ak.kCells_at r j i (by simpa using h) hi
def Ak.Far (b n:Nat)(vK vL:Value)(k:Nat):Prop:=b+3<=k/\k<n/\vK.ownBlock≠some k/\vL.ownBlock≠some k
structure Ak.Rf (w:World)(B e:Nat)(bx:Array Value)(T:Ac)(V:Ac.Vs)(vK vL:Value)(qs:List (Ac×Ac.Vs))(xs:List (Int×Int))(X:World):Prop where
 box:X.heap[w.heap.size]? =some (.cells bx 32 (0,0))
 res:X.heap[w.heap.size+1]? =some (.cells #[.int .i64 0,.int .i64 0,.int .i64 0,.int .i64 0,.int .i64 0,.int .i64 0,.slice none 0 0,.slice none 0 0,.slice none 0 0,.slice none 0 0,.slice none 0 0,.slice none 0 0] 48 (0,0))
 var:X.heap[w.heap.size+1+1]? =some (.cells (Ac.row T ⟨V.t,V.c,vK,vL,V.n,V.f⟩) 48 (0,0))
 ownK:X.ownsRow (w.heap.size+3) 48 12 vK qs.length (Ak.kCells qs)
 ownL:X.ownsRow (w.heap.size+3) 83 2 vL xs.length (Ak.ecells xs)
 lies:∀q∈qs,∃d,Ac.LiesP X B e (Ak.Far w.heap.size X.heap.size vK vL) d q.2 q.1
 below:Below w.heap.size w X
section
variable {w:World} {B e:Nat} {bx:Array Value} {T:Ac} {V:Ac.Vs} {vK vL:Value} {qs:List (Ac×Ac.Vs)} {xs:List (Int×Int)} {X X' W6:World}
theorem Ak.Rf.lt (h:Ak.Rf w B e bx T V vK vL qs xs X):w.heap.size+1+1<X.heap.size:=(Array.getElem?_eq_some_iff.1 h.var).1
theorem Ak.Rf.step (h:Ak.Rf w B e bx T V vK vL qs xs X)(hB:B<=w.heap.size)(hb:Below X.heap.size X X'):Ak.Rf w B e bx T V vK vL qs xs X':=by
 have hz:=h.lt
 exact⟨(hb.block _ (by omega)).trans h.box,(hb.block _ (by omega)).trans h.res,(hb.block _ hz).trans h.var,Ak.own_kept h.ownK λk hk=>hb.block k (Ak.row_lt h.ownK hk).2,Ak.own_kept h.ownL λk hk=>hb.block k (Ak.row_lt h.ownL hk).2,
  λq hq=>by obtain⟨d,hd⟩:=h.lies q hq;exact⟨d,hd.keep (λk hk=>hb.block k (by omega)) (λk hk=>hb.block k hk.2.1) λk hk=>⟨hk.1,Nat.lt_of_lt_of_le hk.2.1 hb.size,hk.2.2⟩⟩,h.below.trans (hb.mono h.below.size)⟩
theorem Ak.Rf.midL (h:Ak.Rf w B e bx T V vK vL qs xs X)(g6:X.grownBy W6 vL.ownBlock):W6.heap[w.heap.size+1+1]? =some (.cells (Ac.row T ⟨V.t,V.c,vK,vL,V.n,V.f⟩) 48 (0,0)):=
 (g6.block _ h.lt (by intro e;have:=(Ak.row_lt h.ownL e.symm).1;omega)).trans h.var
theorem Ak.Rf.midK (h:Ak.Rf w B e bx T V vK vL qs xs X)(g6:X.grownBy W6 vK.ownBlock):W6.heap[w.heap.size+1+1]? =some (.cells (Ac.row T ⟨V.t,V.c,vK,vL,V.n,V.f⟩) 48 (0,0)):=
 (g6.block _ h.lt (by intro e;have:=(Ak.row_lt h.ownK e.symm).1;omega)).trans h.var
theorem Ak.Rf.kid {x:Ac}{U:Ac.Vs}{g cap H:Nat}(h:Ak.Rf w B e bx T V vK vL qs xs X)(hB:B<=w.heap.size)(hx:∃d,Ac.LiesP X B e (Ak.Far w.heap.size X.heap.size vK vL) d U x)(hH:X.heap.size=H)
  (o6:W6.ownsRow (w.heap.size+3) 48 12 (.slice (some ⟨g,0,none⟩) (qs.length+1) cap) (qs.length+1) (Ak.kCells qs++(Ac.row x U).toList)) (g6:X.grownBy W6 vK.ownBlock) (hg:vK.ownBlock=some g∨g=H):
  Ak.Rf w B e bx T V (.slice (some ⟨g,0,none⟩) (qs.length+1) cap) vL (qs++ [(x,U)]) xs (W6.setCell ⟨w.heap.size+1+1,8,none⟩ (.slice (some ⟨g,0,none⟩) (qs.length+1) cap)):=by
 have hz:=h.lt;have hv:=h.midK g6;have hk:∀k,k<w.heap.size+3->k<X.heap.size->W6.heap[k]? =X.heap[k]? :=λk h1 h2=>g6.block k h2 (by intro e;have:=(Ak.row_lt h.ownK e.symm).1;omega)
 have key:∀(d:Nat) (U:Ac.Vs) (E:Ac),Ac.LiesP X B e (Ak.Far w.heap.size X.heap.size vK vL) d U E->Ac.LiesP (W6.setCell ⟨w.heap.size+1+1,8,none⟩ (.slice (some ⟨g,0,none⟩) (qs.length+1) cap)) B e (Ak.Far w.heap.size (W6.setCell ⟨w.heap.size+1+1,8,none⟩ (.slice (some ⟨g,0,none⟩) (qs.length+1) cap)).heap.size (.slice (some ⟨g,0,none⟩) (qs.length+1) cap) vL) d U E:=λd U E hE=>
  hE.keep (λk hkB=>(Below.heap_setCell _ _ _ _ (by show k≠w.heap.size+1+1;omega)).trans (hk k (by omega) (by omega)))
   (λk hk=>(Below.heap_setCell _ _ _ _ (by have:=hk.1;show k≠w.heap.size+1+1;omega)).trans (g6.block k hk.2.1 (Ne.symm hk.2.2.1))) λk hk=>⟨hk.1,by have:=g6.size;have:=hk.2.1;simp[World.setCell];omega,by
   intro e;have e':g=k:=Option.some.inj e;subst e'
   rcases hg with hg|hg
   ·exact hk.2.2.1 hg
   have:=hk.2.1;omega,hk.2.2.2⟩
 refine⟨?_, ?_, ?_, ?_, ?_, ?_, ?_⟩
 ·rw[Below.heap_setCell _ _ _ _ (by show _≠w.heap.size+1+1;omega)];exact(hk _ (by omega) (by omega)).trans h.box
 ·rw[Below.heap_setCell _ _ _ _ (by show _≠w.heap.size+1+1;omega)];exact(hk _ (by omega) (by omega)).trans h.res
 ·simp[World.setCell,Array.getElem?_modify,hv,Ac.row]
 ·rw[Ak.kCells_append,List.length_append]
  have e1:Ak.kCells [(x,U)]=(Ac.row x U).toList:=by simp[Ak.kCells]
  rw[e1];exact ownsRow_setCell_below o6 (by show w.heap.size+1+1<_;omega) _
 ·refine ownsRow_setCell_below (Ak.own_kept h.ownL λk hk1=>g6.block k (Ak.row_lt h.ownL hk1).2 ?_) (by show w.heap.size+1+1<_;omega) _
  intro e;exact Ak.rows_ne h.ownL h.ownK (by decide) hk1 e.symm
 ·intro q hq
  rcases List.mem_append.1 hq with hq|hq
  ·obtain⟨d,hd⟩:=h.lies q hq
   exact⟨d,key _ _ _ hd⟩
  rw[List.mem_singleton.1 hq];obtain⟨d,hd⟩:=hx;exact⟨d,key _ _ _ hd⟩
 exact(h.below.trans ⟨g6.os,g6.tape,g6.output,g6.size,λj hj=>hk j (by omega) (by omega)⟩).setCell (by show _<=w.heap.size+1+1;omega) _
theorem Ak.Rf.link {x:Int×Int}{g cap H:Nat}(h:Ak.Rf w B e bx T V vK vL qs xs X)(hB:B<=w.heap.size)(hH:X.heap.size=H)
  (o6:W6.ownsRow (w.heap.size+3) 83 2 (.slice (some ⟨g,0,none⟩) (xs.length+1) cap) (xs.length+1) (Ak.ecells xs++ [.int .i64 x.1,.int .i64 x.2])) (g6:X.grownBy W6 vL.ownBlock) (hg:vL.ownBlock=some g∨g=H):
  Ak.Rf w B e bx T V vK (.slice (some ⟨g,0,none⟩) (xs.length+1) cap) qs (xs++ [x]) (W6.setCell ⟨w.heap.size+1+1,9,none⟩ (.slice (some ⟨g,0,none⟩) (xs.length+1) cap)):=by
 have hz:=h.lt;have hv:=h.midL g6;have hk:∀k,k<w.heap.size+3->k<X.heap.size->W6.heap[k]? =X.heap[k]? :=λk h1 h2=>g6.block k h2 (by intro e;have:=(Ak.row_lt h.ownL e.symm).1;omega);refine⟨?_, ?_, ?_, ?_, ?_, ?_, ?_⟩
 ·rw[Below.heap_setCell _ _ _ _ (by show _≠w.heap.size+1+1;omega)];exact(hk _ (by omega) (by omega)).trans h.box
 ·rw[Below.heap_setCell _ _ _ _ (by show _≠w.heap.size+1+1;omega)];exact(hk _ (by omega) (by omega)).trans h.res
 ·simp[World.setCell,Array.getElem?_modify,hv,Ac.row]
 ·refine ownsRow_setCell_below (Ak.own_kept h.ownK λk hk1=>g6.block k (Ak.row_lt h.ownK hk1).2 ?_) (by show w.heap.size+1+1<_;omega) _
  intro e;exact Ak.rows_ne h.ownK h.ownL (by decide) hk1 e.symm
 ·rw[Ak.ecells_append,List.length_append]
  exact ownsRow_setCell_below o6 (by show w.heap.size+1+1<_;omega) _
 ·intro q hq
  obtain⟨d,hd⟩:=h.lies q hq;refine⟨d,hd.keep (λk hkB=>(Below.heap_setCell _ _ _ _ (by show k≠w.heap.size+1+1;omega)).trans (hk k (by omega) (by omega))) (λk hk=>(Below.heap_setCell _ _ _ _ (by have:=hk.1;show k≠w.heap.size+1+1;omega)).trans (g6.block k hk.2.1 (Ne.symm hk.2.2.2))) λk hk=>⟨hk.1,by have:=g6.size;have:=hk.2.1;simp[World.setCell];omega,hk.2.2.1, ?_⟩⟩;intro e;have e':g=k:=Option.some.inj e;subst e'
  rcases hg with hg|hg
  ·exact hk.2.2.2 hg
  have:=hk.2.1;omega
 exact(h.below.trans ⟨g6.os,g6.tape,g6.output,g6.size,λj hj=>hk j (by omega) (by omega)⟩).setCell (by show _<=w.heap.size+1+1;omega) _
end
theorem Ak.maxL {w:World}{B e:Nat}{P:Nat->Prop} :∀(l:List (Ac×Ac.Vs)),(∀q∈l,∃d,Ac.LiesP w B e P d q.2 q.1)->∃D,∀q∈l,Ac.LiesP w B e P D q.2 q.1
 | [],_=>⟨0,λ_ h=>by cases h⟩
 |a::l,h=>by
  obtain⟨D,hD⟩:=Ak.maxL l λq hq=>h q (by simp[hq]);obtain⟨d,hd⟩:=h a (by simp);refine⟨max D d,λq hq=> ?_⟩
  rcases List.mem_cons.1 hq with rfl|hq
  ·exact hd.upto (Nat.le_max_right _ _)
  exact(hD q hq).upto (Nat.le_max_left _ _)
theorem Ak.Rf.all {w:World}{B e:Nat}{bx:Array Value}{T:Ac}{V:Ac.Vs}{vK vL:Value}{qs:List (Ac×Ac.Vs)}{X:World}(h:Ak.Rf w B e bx T V vK vL qs T.ls X)(hB:B<=w.heap.size)(hk:qs.map (·.1)=T.ks)(ho:Ac.Own w B e V T):∃d,Ac.LiesP X B e (λk=>w.heap.size+3<=k/\k<X.heap.size) d ⟨V.t,V.c,vK,vL,V.n,V.f⟩ T:=by
 obtain⟨D,hD⟩:=Ak.maxL qs h.lies;have hlen:T.ks.length=qs.length:=by rw[<-hk];simp
 refine⟨D+1,(ho.ownB vK vL).keep λk hk=>h.below.block k (by omega), ?_, ?_⟩
 ·rcases h.ownL.2 with⟨rfl,h0⟩|⟨g,cap,cur,rfl,hb,hg,_⟩
  ·exact⟨none,0,by rw[h0],λj hj=>by omega⟩
  refine⟨_,_,rfl,λj hj=>⟨g,0,rfl,⟨hb,(Array.getElem?_eq_some_iff.1 hg).1⟩, ?_⟩⟩;obtain⟨c0,c1⟩:=Ak.ecells_at T.ls j hj
  have hc:∀o u,(Ak.ecells T.ls)[o]? =some u->X.cell? ⟨g,o,none⟩=some u:=λo u hu=>by
   have h1:=h.ownL.cells (g:=g) rfl o u hu;rw[Go.WideShapes.add_plain,Nat.zero_add]at h1;exact h1
  rw[Nat.zero_add];exact⟨hc _ _ c0,hc _ _ c1⟩
 rcases h.ownK.2 with⟨rfl,h0⟩|⟨g,cap,cur,rfl,hb,hg,_⟩
 ·exact⟨none,0,by rw[hlen,h0],λj hj=>by omega⟩
 refine⟨_,_,by rw[hlen],λj hj=> ?_⟩;have hj':j<qs.length:=by omega
 have he:T.ks[j]=qs[j].1:=by simp[<-hk]
 refine⟨g,0,qs[j].2,rfl,⟨hb,(Array.getElem?_eq_some_iff.1 hg).1⟩,λi hi=> ?_, ?_⟩
 ·have hi':i<12:=by simpa [Ac.row]using hi
  have h1:=h.ownK.cells (g:=g) rfl _ _ (Ak.kCells_at qs j i hj' hi');rw[Go.WideShapes.add_plain]at h1;rw[Nat.zero_add]at h1⊢;rw[h1]
  congr 1
  simp only[he]
 rw[he];exact(hD _ (List.getElem_mem hj')).keep (λ_ _=>rfl) (λ_ _=>rfl) λk hk=>⟨hk.1,hk.2.1⟩
end Go.Proofs
