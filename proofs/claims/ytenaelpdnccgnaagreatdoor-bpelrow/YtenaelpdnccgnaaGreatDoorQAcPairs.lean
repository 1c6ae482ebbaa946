import Derived.Test.YtenaelpdnccgnaaGreatDoorQNtTake
set_option maxRecDepth 100000
set_option maxHeartbeats 32000000
namespace Go.Proofs
open Go.RowKit Go.Shelf
theorem Tryz.alinksEq_any (l1 l2:List (Int×Int))(a b:Option Addr)(ca cb B:Nat)(w:World)(h1:Ac.Lks w B a l1)(h2:Ac.Lks w B b l2)(hB:B<=w.heap.size)(hn1:l1.length<=2147483647):
  Calls Tryz.prog 63 #[.slice a l1.length ca,.slice b l2.length cb] w λe w'=>(∃r,e=.returned (.bool r)/\(r=true↔l1=l2))/\Below w.heap.size w w':=by
 obtain⟨n,hn⟩:=pE (l1.length);obtain⟨m,hm⟩:=pE (l2.length);have HX:Hid (Ac.Lks w B a l1/\Ac.Lks w B b l2/\l1.length=n/\l2.length=m/\B<=w.heap.size):=⟨h1,h2,hn,hm,hB⟩;rw[hn]at hn1;rw[hn,hm];clear h1 h2 hn hm hB
 by_cases hnm:n=m
 rotate_left
 ·have hd:((n:Int)==(m:Int))=false:=by simp;omega
  go_enter Tryz.func63,Tryz.ntmps63
  go_wp2;go_ret;refine⟨⟨false,rfl,λh=>by simp at h,λh=> ?_⟩,Below.refl _ _⟩;have:=congrArg List.length h;rw[HX.out.2.2.1,HX.out.2.2.2.1]at this;exact absurd this hnm
 subst hnm
 go_enter Tryz.func63,Tryz.ntmps63
 go_wp2
 go_loopg [13] n (λgk i wr=>∃j:Nat,gk+j=n/\i=.int .i64 j/\Hid (Below w.heap.size w wr/\l1.take j=l2.take j))
 case atStart=>exact⟨0,by omega,rfl,Below.refl _ _,by simp⟩
 case round=>
  obtain⟨j,hj,rfl,HJ⟩:=hrel
  by_cases hjn:j<n
  rotate_left
  ·have hd:decide ((j:Int)<n)=false:=decide_eq_false (by omega)
   go_wp2;go_ret;refine⟨⟨true,rfl,λ_=> ?_,λ_=>rfl⟩,HJ.out.1⟩;have h:=HJ.out.2
   rwa [List.take_of_length_le (by rw[HX.out.2.2.1];omega),List.take_of_length_le (by rw[HX.out.2.2.2.1];omega)]at h
  have hd:decide ((j:Int)<n)=true:=decide_eq_true (by omega);have hj1:(j:Int)<n:=by omega
  have hj0:(0:Int)<=j:=by omega
  have hx:j<l1.length:=by rw[HX.out.2.2.1];exact hjn
  have hy:j<l2.length:=by rw[HX.out.2.2.2.1];exact hjn
  obtain⟨g1,off1,rfl,hg1,p0,p1⟩:=HX.out.1 j hx;obtain⟨g2,off2,rfl,hg2,q0,q1⟩:=HX.out.2.1 j hy;obtain⟨x,hxe⟩:=pE (l1[j]);obtain⟨y,hye⟩:=pE (l2[j]);obtain⟨x0,x1⟩:=x;obtain⟨y0,y1⟩:=y;rw[hxe]at p0 p1;rw[hye]at q0 q1;have hc1:∀p,wr.cell? ⟨g1,p,none⟩=w.cell? ⟨g1,p,none⟩:=λp=>HJ.out.1.cell (p:=⟨g1,p,none⟩) (by have:=HX.out.2.2.2.2;show g1<_;omega);have hc2:∀p,wr.cell? ⟨g2,p,none⟩=w.cell? ⟨g2,p,none⟩:=λp=>HJ.out.1.cell (p:=⟨g2,p,none⟩) (by have:=HX.out.2.2.2.2;show g2<_;omega);have a0:wr.cell? ⟨g1,off1+j*2,none⟩=some (.int .i64 x0):=by rw[hc1];exact p0
  have a1:wr.cell? ⟨g1,off1+j*2+1,none⟩=some (.int .i64 x1):=by rw[hc1];exact p1
  have b0:wr.cell? ⟨g2,off2+j*2,none⟩=some (.int .i64 y0):=by rw[hc2];exact q0
  have b1:wr.cell? ⟨g2,off2+j*2+1,none⟩=some (.int .i64 y1):=by rw[hc2];exact q1
  have HXY:Hid (l1[j]=(x0,x1)/\l2[j]=(y0,y1)):=⟨hxe,hye⟩;clear hg1 hg2 p0 p1 q0 q1 hxe hye hc1 hc2;have hu:=Tryz.underlying69
  have hcase:(x0=y0/\x1=y1)∨((x0==y0)=true/\(x1==y1)=false)∨((x0==y0)=false):=by
   by_cases h0:x0=y0<;>by_cases h1:x1=y1<;>simp[h0,h1]
  rcases hcase with⟨rfl,rfl⟩|⟨e0,e1⟩|e0
  ·go_wp2
   go_region_held3 (λW=>W.cell? ⟨g1,off1+j*2,none⟩=some (.int .i64 x0)/\W.cell? ⟨g1,off1+j*2+1,none⟩=some (.int .i64 x1)/\W.cell? ⟨g2,off2+j*2,none⟩=some (.int .i64 x0)/\W.cell? ⟨g2,off2+j*2+1,none⟩=some (.int .i64 x1)) (go_keep) (fail)
   have HN:Hid (l1.take (j+1)=l2.take (j+1)):=by
    show _=_;rw[Ac.take_snoc _ _ hx,Ac.take_snoc _ _ hy,HJ.out.2,HXY.out.1,HXY.out.2]
   go_simp;go_wp2;go_roundg (gk-1)
   case measure=>omega
   case rel=>exact⟨j+1,by omega,by go_num,by first|exact HJ.out.1|exact HJ.out.1.drew,HN.out⟩
  ·have HNE:Hid (l1≠l2):=λh=>by
    subst h;have:=HXY.out.1.symm.trans HXY.out.2;simp only[Prod.mk.injEq]at this;simp[this.2]at e1
   go_wp2
   go_region_held3 (λW=>W.cell? ⟨g1,off1+j*2,none⟩=some (.int .i64 x0)/\W.cell? ⟨g1,off1+j*2+1,none⟩=some (.int .i64 x1)/\W.cell? ⟨g2,off2+j*2,none⟩=some (.int .i64 y0)/\W.cell? ⟨g2,off2+j*2+1,none⟩=some (.int .i64 y1)) (go_keep) (fail)
   go_simp;go_wp2;go_ret;exact⟨⟨false,rfl,λh=>by simp at h,λh=>(HNE.out h).elim⟩,by first|exact HJ.out.1|exact HJ.out.1.drew⟩
  have HNE:Hid (l1≠l2):=λh=>by
   subst h;have:=HXY.out.1.symm.trans HXY.out.2;simp only[Prod.mk.injEq]at this;simp[this.1]at e0
  go_wp2
  go_region_held3 (λW=>W.cell? ⟨g1,off1+j*2,none⟩=some (.int .i64 x0)/\W.cell? ⟨g1,off1+j*2+1,none⟩=some (.int .i64 x1)/\W.cell? ⟨g2,off2+j*2,none⟩=some (.int .i64 y0)/\W.cell? ⟨g2,off2+j*2+1,none⟩=some (.int .i64 y1)) (go_keep) (fail)
  go_simp;go_wp2;go_ret;exact⟨⟨false,rfl,λh=>by simp at h,λh=>(HNE.out h).elim⟩,by first|exact HJ.out.1|exact HJ.out.1.drew⟩
def Ak.Told (P:Prop)(e:Ending):Prop:=∃r,e=.returned (.bool r)/\(r=true↔P)
theorem Ak.Told.no {P:Prop}(h:¬P):Ak.Told P (.returned (.bool false)):=⟨false,rfl,(λh=>by cases h),λhp=>absurd hp h⟩
theorem Ak.Told.yes {P:Prop}(h:P):Ak.Told P (.returned (.bool true)):=⟨true,rfl,λ_=>h,λ_=>rfl⟩
theorem Ak.Told.iff {P:Prop}{r:Bool}(h:r=true↔P):Ak.Told P (.returned (.bool r)):=⟨r,rfl,h⟩
theorem Tryz.sameNode_any (e e':Nat)(x y:Nd)(u v:Value)(w:World)(hx:Tm.Lies w w.heap.size e u x.t)(hy:Tm.Lies w w.heap.size e' v y.t)(h0:0<w.heap.size)(hsz:x.t.size<=2147483647)(hdp:x.t.depth<=1000):
  Calls Tryz.prog 65 #[.agg #[.int .i64 x.kind,.int .i64 x.a,.int .i64 x.t.op,.int .i64 x.t.num,u],.agg #[.int .i64 y.kind,.int .i64 y.a,.int .i64 y.t.op,.int .i64 y.t.num,v]] w λe w'=>Ak.Told (x=y) e/\Below w.heap.size w w':=by
 have HIFF:Hid (x=y↔x.kind=y.kind/\x.a=y.a/\x.t=y.t):=by
  cases x;cases y
  simp[Hid]
 obtain⟨ua,uc,rfl⟩:=hx.shape;obtain⟨va,vc,rfl⟩:=hy.shape;obtain⟨X,hX⟩:=pE (x.t);obtain⟨Y,hY⟩:=pE (y.t);rw[hX]at hx hsz hdp HIFF;rw[hY]at hy HIFF;rw[hX,hY];obtain⟨x0,hx0⟩:=pE (x.kind);obtain⟨y0,hy0⟩:=pE (y.kind);rw[hx0,hy0]at HIFF⊢;obtain⟨x1,hx1⟩:=pE (x.a);obtain⟨y1,hy1⟩:=pE (y.a);rw[hx1,hy1]at HIFF⊢;obtain⟨un,hun⟩:=pE (X.ks.length);obtain⟨vn,hvn⟩:=pE (Y.ks.length);rw[hun]at hx;rw[hvn]at hy;rw[hun,hvn];obtain⟨w2,hw2⟩:=pE ((w.alloc (.cells #[.int .i64 x0,.int .i64 x1,.int .i64 X.op,.int .i64 X.num,.slice ua un uc] 62)).alloc (.cells #[.int .i64 y0,.int .i64 y1,.int .i64 Y.op,.int .i64 Y.num,.slice va vn vc] 62));have A2:Below w.heap.size w w2:=by rw[<-hw2];exact((Below.refl _ w).alloc (Nat.le_refl _) _).alloc (by simp) _
 have CS:=Tryz.termSame_any e e' X Y (.slice ua un uc) (.slice va vn vc) w2 ((hx.below A2).wider A2.size) ((hy.below A2).wider A2.size) (by have:=A2.size;omega) hsz hdp;obtain⟨o,ho⟩:=pE (X.op);obtain⟨m,hm⟩:=pE (X.num);obtain⟨o',ho'⟩:=pE (Y.op);obtain⟨m',hm'⟩:=pE (Y.num);rw[ho,hm,ho',hm']at CS hw2;rw[ho,hm,ho',hm'];have HC:Hid _:=CS;have HA:Hid (Below w.heap.size w w2):=A2;have HW:Hid ((w.alloc (.cells #[.int .i64 x0,.int .i64 x1,.int .i64 o,.int .i64 m,.slice ua un uc] 62)).alloc (.cells #[.int .i64 y0,.int .i64 y1,.int .i64 o',.int .i64 m',.slice va vn vc] 62)=w2):=hw2
 have G2:w2.heap[w.heap.size+1]? =some (.cells #[.int .i64 y0,.int .i64 y1,.int .i64 o',.int .i64 m',.slice va vn vc] 62 (0,0)):=by
  rw[<-hw2];have:=heap_alloc_new (w.alloc (.cells #[.int .i64 x0,.int .i64 x1,.int .i64 o,.int .i64 m,.slice ua un uc] 62)) (.cells #[.int .i64 y0,.int .i64 y1,.int .i64 o',.int .i64 m',.slice va vn vc] 62);simpa using this
 have G1:w2.heap[w.heap.size]? =some (.cells #[.int .i64 x0,.int .i64 x1,.int .i64 o,.int .i64 m,.slice ua un uc] 62 (0,0)):=by
  rw[<-hw2,Below.heap_alloc _ _ _ (by simp)];exact heap_alloc_new _ _
 have ca:w2.cell? ⟨w.heap.size,0,none⟩=some (.int .i64 x0)/\w2.cell? ⟨w.heap.size,1,none⟩=some (.int .i64 x1)/\w2.cell? ⟨w.heap.size,2,none⟩=some (.int .i64 o)/\w2.cell? ⟨w.heap.size,3,none⟩=some (.int .i64 m)/\w2.cell? ⟨w.heap.size,4,none⟩=some (.slice ua un uc):=by simp[World.cell?,G1]
 have cb:w2.cell? ⟨w.heap.size+1,0,none⟩=some (.int .i64 y0)/\w2.cell? ⟨w.heap.size+1,1,none⟩=some (.int .i64 y1)/\w2.cell? ⟨w.heap.size+1,2,none⟩=some (.int .i64 o')/\w2.cell? ⟨w.heap.size+1,3,none⟩=some (.int .i64 m')/\w2.cell? ⟨w.heap.size+1,4,none⟩=some (.slice va vn vc):=by simp[World.cell?,G2]
 obtain⟨a0,a1,a2,a3,a4⟩:=ca;obtain⟨b0,b1,b2,b3,b4⟩:=cb;clear CS A2 hw2 hx hy hX hY hun hvn ho hm ho' hm' hsz hdp G1 G2 hx0 hy0 hx1 hy1
 by_cases q0:¬x0=y0
 ·have d0:(x0==y0)=false:=by simpa using q0
  have HN:Hid (¬x=y):=λh=>q0 (HIFF.out.1 h).1;clear q0
  go_enter Tryz.func65,Tryz.ntmps65
  go_upto_region 1 with fail
  rw[HW.out];go_wp2;go_ret;exact⟨Ak.Told.no HN.out,HA.out⟩
 replace q0:=Decidable.not_not.1 q0;have d0:(x0==y0)=true:=by simpa using q0
 have Q0:Hid (x0=y0):=q0;clear q0
 by_cases q1:¬x1=y1
 ·have d1:(x1==y1)=false:=by simpa using q1
  have HN:Hid (¬x=y):=λh=>q1 (HIFF.out.1 h).2.1;clear q1
  go_enter Tryz.func65,Tryz.ntmps65
  go_upto_region 1 with fail
  rw[HW.out];go_wp2;go_ret;exact⟨Ak.Told.no HN.out,HA.out⟩
 replace q1:=Decidable.not_not.1 q1;have d1:(x1==y1)=true:=by simpa using q1
 have Q1:Hid (x1=y1):=q1;clear q1
 go_enter Tryz.func65,Tryz.ntmps65
 go_upto_region 1 with fail
 rw[HW.out]
 go_wp2_with fail
 refine Calls.mono HC.out ?_;rintro e W3 ⟨⟨r,rfl,hr⟩,hb3⟩;have H3:Hid (Below w.heap.size w W3/\(r=true↔x=y)):=⟨HA.out.trans (hb3.mono HA.out.size),by rw[hr,HIFF.out];exact⟨λh=>⟨Q0.out,Q1.out,h⟩,λh=>h.2.2⟩⟩;clear hr hb3;go_wp2;go_ret;exact⟨Ak.Told.iff H3.out.2,H3.out.1⟩
theorem Tryz.sameFlow_any (e e':Nat)(x y:Fl)(u v:Value)(w:World)(hx:Tm.Lies w w.heap.size e u x.c)(hy:Tm.Lies w w.heap.size e' v y.c)(h0:0<w.heap.size)(hsz:x.c.size<=2147483647)(hdp:x.c.depth<=1000):
  Calls Tryz.prog 67 #[.agg #[.int .i64 x.fr,.int .i64 x.to,.bool x.els,.int .i64 x.c.op,.int .i64 x.c.num,u],.agg #[.int .i64 y.fr,.int .i64 y.to,.bool y.els,.int .i64 y.c.op,.int .i64 y.c.num,v]] w λe w'=>Ak.Told (x=y) e/\Below w.heap.size w w':=by
 have HIFF:Hid (x=y↔x.fr=y.fr/\x.to=y.to/\x.els=y.els/\x.c=y.c):=by
  cases x;cases y
  simp[Hid]
 obtain⟨ua,uc,rfl⟩:=hx.shape;obtain⟨va,vc,rfl⟩:=hy.shape;obtain⟨X,hX⟩:=pE (x.c);obtain⟨Y,hY⟩:=pE (y.c);rw[hX]at hx hsz hdp HIFF;rw[hY]at hy HIFF;rw[hX,hY];obtain⟨x0,hx0⟩:=pE (x.fr);obtain⟨y0,hy0⟩:=pE (y.fr);rw[hx0,hy0]at HIFF⊢;obtain⟨x1,hx1⟩:=pE (x.to);obtain⟨y1,hy1⟩:=pE (y.to);rw[hx1,hy1]at HIFF⊢;obtain⟨x2,hx2⟩:=pE (x.els);obtain⟨y2,hy2⟩:=pE (y.els);rw[hx2,hy2]at HIFF⊢;obtain⟨un,hun⟩:=pE (X.ks.length);obtain⟨vn,hvn⟩:=pE (Y.ks.length);rw[hun]at hx;rw[hvn]at hy;rw[hun,hvn];obtain⟨w2,hw2⟩:=pE ((w.alloc (.cells #[.int .i64 x0,.int .i64 x1,.bool x2,.int .i64 X.op,.int .i64 X.num,.slice ua un uc] 64)).alloc (.cells #[.int .i64 y0,.int .i64 y1,.bool y2,.int .i64 Y.op,.int .i64 Y.num,.slice va vn vc] 64));have A2:Below w.heap.size w w2:=by rw[<-hw2];exact((Below.refl _ w).alloc (Nat.le_refl _) _).alloc (by simp) _
 have CS:=Tryz.termSame_any e e' X Y (.slice ua un uc) (.slice va vn vc) w2 ((hx.below A2).wider A2.size) ((hy.below A2).wider A2.size) (by have:=A2.size;omega) hsz hdp;obtain⟨o,ho⟩:=pE (X.op);obtain⟨m,hm⟩:=pE (X.num);obtain⟨o',ho'⟩:=pE (Y.op);obtain⟨m',hm'⟩:=pE (Y.num);rw[ho,hm,ho',hm']at CS hw2;rw[ho,hm,ho',hm'];have HC:Hid _:=CS;have HA:Hid (Below w.heap.size w w2):=A2;have HW:Hid ((w.alloc (.cells #[.int .i64 x0,.int .i64 x1,.bool x2,.int .i64 o,.int .i64 m,.slice ua un uc] 64)).alloc (.cells #[.int .i64 y0,.int .i64 y1,.bool y2,.int .i64 o',.int .i64 m',.slice va vn vc] 64)=w2):=hw2
 have G2:w2.heap[w.heap.size+1]? =some (.cells #[.int .i64 y0,.int .i64 y1,.bool y2,.int .i64 o',.int .i64 m',.slice va vn vc] 64 (0,0)):=by
  rw[<-hw2];have:=heap_alloc_new (w.alloc (.cells #[.int .i64 x0,.int .i64 x1,.bool x2,.int .i64 o,.int .i64 m,.slice ua un uc] 64)) (.cells #[.int .i64 y0,.int .i64 y1,.bool y2,.int .i64 o',.int .i64 m',.slice va vn vc] 64);simpa using this
 have G1:w2.heap[w.heap.size]? =some (.cells #[.int .i64 x0,.int .i64 x1,.bool x2,.int .i64 o,.int .i64 m,.slice ua un uc] 64 (0,0)):=by
  rw[<-hw2,Below.heap_alloc _ _ _ (by simp)];exact heap_alloc_new _ _
 have ca:w2.cell? ⟨w.heap.size,0,none⟩=some (.int .i64 x0)/\w2.cell? ⟨w.heap.size,1,none⟩=some (.int .i64 x1)/\w2.cell? ⟨w.heap.size,2,none⟩=some (.bool x2)/\w2.cell? ⟨w.heap.size,3,none⟩=some (.int .i64 o)/\w2.cell? ⟨w.heap.size,4,none⟩=some (.int .i64 m)/\w2.cell? ⟨w.heap.size,5,none⟩=some (.slice ua un uc):=by simp[World.cell?,G1]
 have cb:w2.cell? ⟨w.heap.size+1,0,none⟩=some (.int .i64 y0)/\w2.cell? ⟨w.heap.size+1,1,none⟩=some (.int .i64 y1)/\w2.cell? ⟨w.heap.size+1,2,none⟩=some (.bool y2)/\w2.cell? ⟨w.heap.size+1,3,none⟩=some (.int .i64 o')/\w2.cell? ⟨w.heap.size+1,4,none⟩=some (.int .i64 m')/\w2.cell? ⟨w.heap.size+1,5,none⟩=some (.slice va vn vc):=by simp[World.cell?,G2]
 obtain⟨a0,a1,a2,a3,a4,a5⟩:=ca;obtain⟨b0,b1,b2,b3,b4,b5⟩:=cb;clear CS A2 hw2 hx hy hX hY hun hvn ho hm ho' hm' hsz hdp G1 G2 hx0 hy0 hx1 hy1 hx2 hy2
 by_cases q0:¬x0=y0
 ·have d0:(x0==y0)=false:=by simpa using q0
  have HN:Hid (¬x=y):=λh=>q0 (HIFF.out.1 h).1;clear q0
  go_enter Tryz.func67,Tryz.ntmps67
  go_upto_region 1 with fail
  rw[HW.out];go_wp2;go_ret;exact⟨Ak.Told.no HN.out,HA.out⟩
 replace q0:=Decidable.not_not.1 q0;have d0:(x0==y0)=true:=by simpa using q0
 have Q0:Hid (x0=y0):=q0;clear q0
 by_cases q1:¬x1=y1
 ·have d1:(x1==y1)=false:=by simpa using q1
  have HN:Hid (¬x=y):=λh=>q1 (HIFF.out.1 h).2.1;clear q1
  go_enter Tryz.func67,Tryz.ntmps67
  go_upto_region 1 with fail
  rw[HW.out];go_wp2;go_ret;exact⟨Ak.Told.no HN.out,HA.out⟩
 replace q1:=Decidable.not_not.1 q1;have d1:(x1==y1)=true:=by simpa using q1
 have Q1:Hid (x1=y1):=q1;clear q1
 by_cases q2:¬x2=y2
 ·have d2:(x2==y2)=false:=by simpa using q2
  have HN:Hid (¬x=y):=λh=>q2 (HIFF.out.1 h).2.2.1;clear q2
  go_enter Tryz.func67,Tryz.ntmps67
  go_upto_region 1 with fail
  rw[HW.out];go_wp2;go_ret;exact⟨Ak.Told.no HN.out,HA.out⟩
 replace q2:=Decidable.not_not.1 q2;have d2:(x2==y2)=true:=by simpa using q2
 have Q2:Hid (x2=y2):=q2;clear q2
 go_enter Tryz.func67,Tryz.ntmps67
 go_upto_region 1 with fail
 rw[HW.out]
 go_wp2_with fail
 refine Calls.mono HC.out ?_;rintro e W3 ⟨⟨r,rfl,hr⟩,hb3⟩;have H3:Hid (Below w.heap.size w W3/\(r=true↔x=y)):=⟨HA.out.trans (hb3.mono HA.out.size),by rw[hr,HIFF.out];exact⟨λh=>⟨Q0.out,Q1.out,Q2.out,h⟩,λh=>h.2.2.2⟩⟩;clear hr hb3;go_wp2;go_ret;exact⟨Ak.Told.iff H3.out.2,H3.out.1⟩
def Ac.Same1 (S T:Ac):Prop:=S.kind=T.kind/\S.node=T.node/\S.a=T.a/\S.b=T.b/\S.t=T.t/\S.cs=T.cs/\S.ls=T.ls/\S.ns=T.ns/\S.fs=T.fs
structure Ac.Fit (T:Ac):Prop where
 t:T.t.size<=2147483647/\T.t.depth<=1000
 c:∀x∈T.cs,x.size<=2147483647/\x.depth<=1000
 n:∀x∈T.ns,x.t.size<=2147483647/\x.t.depth<=1000
 f:∀x∈T.fs,x.c.size<=2147483647/\x.c.depth<=1000
 cl:T.cs.length<=1000
 kl:T.ks.length<=1000
 ll:T.ls.length<=1000
 nl:T.ns.length<=100
 fl:T.fs.length<=100
theorem Ak.all_get {α:Type}{l m:List α}(h:l.length=m.length)(hj:∀j,j<l.length->l[j]? =m[j]?):l=m:=by
 apply List.ext_getElem?;intro j
 rcases Nat.lt_or_ge j l.length with h1|h1
 ·exact hj j h1
 rw[List.getElem?_eq_none h1,List.getElem?_eq_none (by omega)]
theorem Tryz.condsEq_any (e e' B:Nat)(l m:List Tm)(a b:Option Addr)(ca cb:Nat)(w:World)(h1:Ac.Tms w B e a l)(h2:Ac.Tms w B e' b m)(hB:B<=w.heap.size)(h0:0<w.heap.size)(hs:∀x∈l,x.size<=2147483647/\x.depth<=1000)(hn:l.length<=2147483647):
  Calls Tryz.prog 62 #[.slice a l.length ca,.slice b m.length cb,.func (.func 61) #[] #[]] w λe w'=>Ak.Told (l=m) e/\Below w.heap.size w w':=by
 have e1:∀j,j<l.length->∃u:Value,∃g off,a=some ⟨g,off,none⟩/\g<B/\w.cell? ⟨g,off+j*3,none⟩=some (.int .i64 ((l[j]?).getD (.mk 0 0 [])).op)/\w.cell? ⟨g,off+j*3+1,none⟩=some (.int .i64 ((l[j]?).getD (.mk 0 0 [])).num)/\w.cell? ⟨g,off+j*3+2,none⟩=some u/\Tm.Lies w B e u ((l[j]?).getD (.mk 0 0 [])):=λj hj=>by
  obtain⟨g,off,u,h1,h2,h3,h4,h5,h6⟩:=h1 j hj;rw[List.getElem?_eq_getElem hj];exact⟨u,g,off,h1,h2,h3,h4,h5,h6⟩
 have e2:∀j,j<m.length->∃u:Value,∃g off,b=some ⟨g,off,none⟩/\g<B/\w.cell? ⟨g,off+j*3,none⟩=some (.int .i64 ((m[j]?).getD (.mk 0 0 [])).op)/\w.cell? ⟨g,off+j*3+1,none⟩=some (.int .i64 ((m[j]?).getD (.mk 0 0 [])).num)/\w.cell? ⟨g,off+j*3+2,none⟩=some u/\Tm.Lies w B e' u ((m[j]?).getD (.mk 0 0 [])):=λj hj=>by
  obtain⟨g,off,u,h1,h2,h3,h4,h5,h6⟩:=h2 j hj;rw[List.getElem?_eq_getElem hj];exact⟨u,g,off,h1,h2,h3,h4,h5,h6⟩
 haveI:Inhabited Value:=⟨.bool false⟩
 obtain⟨u,hu⟩:=Go.Deep.choose_lt e1;obtain⟨v,hv⟩:=Go.Deep.choose_lt e2
 have key:=Tryz.eqTerm_any (B:=B) l.length m.length a b ca cb 61 (λj=>l[j]? =m[j]?) (λj=> .int .i64 ((l[j]?).getD (.mk 0 0 [])).op) (λj=> .int .i64 ((l[j]?).getD (.mk 0 0 [])).num) u (λj=> .int .i64 ((m[j]?).getD (.mk 0 0 [])).op) (λj=> .int .i64 ((m[j]?).getD (.mk 0 0 [])).num) v w hB (enters_of Tryz.func61 (by kernel_rfl) rfl)
  (λj hj=>by
   obtain⟨g,off,p1,p2,p3,p4,p5,p6⟩:=hu j hj;obtain⟨ua,uc,hus⟩:=p6.shape
   exact⟨g,off,p1,p2,⟨p3,p4,p5⟩,by rw[hus];simp[Value.oneCell']⟩)
  (λj hj=>by
   obtain⟨g,off,p1,p2,p3,p4,p5,p6⟩:=hv j hj;obtain⟨ua,uc,hus⟩:=p6.shape
   exact⟨g,off,p1,p2,⟨p3,p4,p5⟩,by rw[hus];simp[Value.oneCell']⟩)
  (λhlm j W hj hb=>by
   obtain⟨_,_,_,_,_,_,_,p6⟩:=hu j hj;obtain⟨_,_,_,_,_,_,_,q6⟩:=hv j (by omega);have hs1:=hs _ (List.getElem_mem hj);rw[List.getElem?_eq_getElem hj,List.getElem?_eq_getElem (by omega:j<m.length)]at*;refine(Tryz.termSame_any e e' l[j] m[j] (u j) (v j) W ((p6.below (hb.mono hB)).wider (Nat.le_trans hB hb.size)) ((q6.below (hb.mono hB)).wider (Nat.le_trans hB hb.size)) (by have:=hb.size;omega) hs1.1 hs1.2).mono λe w' h=>⟨?_,h.2⟩;obtain⟨r,hr1,hr2⟩:=h.1
   exact⟨r,hr1,by rw[hr2,Option.some.injEq]⟩) hn
 refine key.mono λe w' h=>⟨?_,h.2⟩;obtain⟨r,hr1,hr2⟩:=h.1;refine⟨r,hr1,hr2.trans ⟨λh=>Ak.all_get h.1 h.2,λh=> ?_⟩⟩;subst h;exact⟨rfl,λ_ _=>rfl⟩
theorem Tryz.nodesEq_any (e e' B:Nat)(l m:List Nd)(a b:Option Addr)(ca cb:Nat)(w:World)(h1:Nt.Nds w B e a l)(h2:Nt.Nds w B e' b m)(hB:B<=w.heap.size)(h0:0<w.heap.size)(hs:∀x∈l,x.t.size<=2147483647/\x.t.depth<=1000)(hn:l.length<=2147483647):
  Calls Tryz.prog 64 #[.slice a l.length ca,.slice b m.length cb,.func (.func 65) #[] #[]] w λe w'=>Ak.Told (l=m) e/\Below w.heap.size w w':=by
 have e1:∀j,j<l.length->∃u:Value,∃g off,a=some ⟨g,off,none⟩/\g<B/\w.cell? ⟨g,off+j*5,none⟩=some (.int .i64 ((l[j]?).getD ⟨0,0,.mk 0 0 []⟩).kind)/\w.cell? ⟨g,off+j*5+1,none⟩=some (.int .i64 ((l[j]?).getD ⟨0,0,.mk 0 0 []⟩).a)/\w.cell? ⟨g,off+j*5+2,none⟩=some (.int .i64 ((l[j]?).getD ⟨0,0,.mk 0 0 []⟩).t.op)/\w.cell? ⟨g,off+j*5+3,none⟩=some (.int .i64 ((l[j]?).getD ⟨0,0,.mk 0 0 []⟩).t.num)/\w.cell? ⟨g,off+j*5+4,none⟩=some (u)/\Tm.Lies w B e u ((l[j]?).getD ⟨0,0,.mk 0 0 []⟩).t:=λj hj=>by
  obtain⟨g,off,u,h1,h2,h3,h4,h5,h6,h7,h8⟩:=h1 j hj;rw[List.getElem?_eq_getElem hj];exact⟨u,g,off,h1,h2,h3,h4,h5,h6,h7,h8⟩
 have e2:∀j,j<m.length->∃u:Value,∃g off,b=some ⟨g,off,none⟩/\g<B/\w.cell? ⟨g,off+j*5,none⟩=some (.int .i64 ((m[j]?).getD ⟨0,0,.mk 0 0 []⟩).kind)/\w.cell? ⟨g,off+j*5+1,none⟩=some (.int .i64 ((m[j]?).getD ⟨0,0,.mk 0 0 []⟩).a)/\w.cell? ⟨g,off+j*5+2,none⟩=some (.int .i64 ((m[j]?).getD ⟨0,0,.mk 0 0 []⟩).t.op)/\w.cell? ⟨g,off+j*5+3,none⟩=some (.int .i64 ((m[j]?).getD ⟨0,0,.mk 0 0 []⟩).t.num)/\w.cell? ⟨g,off+j*5+4,none⟩=some (u)/\Tm.Lies w B e' u ((m[j]?).getD ⟨0,0,.mk 0 0 []⟩).t:=λj hj=>by
  obtain⟨g,off,u,h1,h2,h3,h4,h5,h6,h7,h8⟩:=h2 j hj;rw[List.getElem?_eq_getElem hj];exact⟨u,g,off,h1,h2,h3,h4,h5,h6,h7,h8⟩
 haveI:Inhabited Value:=⟨.bool false⟩
 obtain⟨u,hu⟩:=Go.Deep.choose_lt e1;obtain⟨v,hv⟩:=Go.Deep.choose_lt e2
 have key:=Tryz.eqNode_any (B:=B) l.length m.length a b ca cb 65 (λj=>l[j]? =m[j]?) (λj=> .int .i64 ((l[j]?).getD ⟨0,0,.mk 0 0 []⟩).kind) (λj=> .int .i64 ((l[j]?).getD ⟨0,0,.mk 0 0 []⟩).a) (λj=> .int .i64 ((l[j]?).getD ⟨0,0,.mk 0 0 []⟩).t.op) (λj=> .int .i64 ((l[j]?).getD ⟨0,0,.mk 0 0 []⟩).t.num) u (λj=> .int .i64 ((m[j]?).getD ⟨0,0,.mk 0 0 []⟩).kind) (λj=> .int .i64 ((m[j]?).getD ⟨0,0,.mk 0 0 []⟩).a) (λj=> .int .i64 ((m[j]?).getD ⟨0,0,.mk 0 0 []⟩).t.op) (λj=> .int .i64 ((m[j]?).getD ⟨0,0,.mk 0 0 []⟩).t.num) v w hB (enters_of Tryz.func65 (by kernel_rfl) rfl)
  (λj hj=>by
   obtain⟨g,off,p1,p2,p3,p4,p5,p6,p7,pz⟩:=hu j hj;obtain⟨ua,uc,hus⟩:=pz.shape
   exact⟨g,off,p1,p2,⟨p3,p4,p5,p6,p7⟩,by rw[hus];simp[Value.oneCell']⟩)
  (λj hj=>by
   obtain⟨g,off,p1,p2,p3,p4,p5,p6,p7,pz⟩:=hv j hj;obtain⟨ua,uc,hus⟩:=pz.shape
   exact⟨g,off,p1,p2,⟨p3,p4,p5,p6,p7⟩,by rw[hus];simp[Value.oneCell']⟩)
  (λhlm j W hj hb=>by
   obtain⟨_,_,_,_,_,_,_,_,_,p6⟩:=hu j hj;obtain⟨_,_,_,_,_,_,_,_,_,q6⟩:=hv j (by omega);have hs1:=hs _ (List.getElem_mem hj);rw[List.getElem?_eq_getElem hj,List.getElem?_eq_getElem (by omega:j<m.length)]at*;refine(Tryz.sameNode_any e e' l[j] m[j] (u j) (v j) W ((p6.below (hb.mono hB)).wider (Nat.le_trans hB hb.size)) ((q6.below (hb.mono hB)).wider (Nat.le_trans hB hb.size)) (by have:=hb.size;omega) hs1.1 hs1.2).mono λe w' h=>⟨?_,h.2⟩;obtain⟨r,hr1,hr2⟩:=h.1
   exact⟨r,hr1,by rw[hr2,Option.some.injEq]⟩) hn
 refine key.mono λe w' h=>⟨?_,h.2⟩;obtain⟨r,hr1,hr2⟩:=h.1;refine⟨r,hr1,hr2.trans ⟨λh=>Ak.all_get h.1 h.2,λh=> ?_⟩⟩;subst h;exact⟨rfl,λ_ _=>rfl⟩
theorem Tryz.flowsEq_any (e e' B:Nat)(l m:List Fl)(a b:Option Addr)(ca cb:Nat)(w:World)(h1:Nt.Fls w B e a l)(h2:Nt.Fls w B e' b m)(hB:B<=w.heap.size)(h0:0<w.heap.size)(hs:∀x∈l,x.c.size<=2147483647/\x.c.depth<=1000)(hn:l.length<=2147483647):
  Calls Tryz.prog 66 #[.slice a l.length ca,.slice b m.length cb,.func (.func 67) #[] #[]] w λe w'=>Ak.Told (l=m) e/\Below w.heap.size w w':=by
 have e1:∀j,j<l.length->∃u:Value,∃g off,a=some ⟨g,off,none⟩/\g<B/\w.cell? ⟨g,off+j*6,none⟩=some (.int .i64 ((l[j]?).getD ⟨0,0,false,.mk 0 0 []⟩).fr)/\w.cell? ⟨g,off+j*6+1,none⟩=some (.int .i64 ((l[j]?).getD ⟨0,0,false,.mk 0 0 []⟩).to)/\w.cell? ⟨g,off+j*6+2,none⟩=some (.bool ((l[j]?).getD ⟨0,0,false,.mk 0 0 []⟩).els)/\w.cell? ⟨g,off+j*6+3,none⟩=some (.int .i64 ((l[j]?).getD ⟨0,0,false,.mk 0 0 []⟩).c.op)/\w.cell? ⟨g,off+j*6+4,none⟩=some (.int .i64 ((l[j]?).getD ⟨0,0,false,.mk 0 0 []⟩).c.num)/\w.cell? ⟨g,off+j*6+5,none⟩=some (u)/\Tm.Lies w B e u ((l[j]?).getD ⟨0,0,false,.mk 0 0 []⟩).c:=λj hj=>by
  obtain⟨g,off,u,h1,h2,h3,h4,h5,h6,h7,h8,h9⟩:=h1 j hj;rw[List.getElem?_eq_getElem hj];exact⟨u,g,off,h1,h2,h3,h4,h5,h6,h7,h8,h9⟩
 have e2:∀j,j<m.length->∃u:Value,∃g off,b=some ⟨g,off,none⟩/\g<B/\w.cell? ⟨g,off+j*6,none⟩=some (.int .i64 ((m[j]?).getD ⟨0,0,false,.mk 0 0 []⟩).fr)/\w.cell? ⟨g,off+j*6+1,none⟩=some (.int .i64 ((m[j]?).getD ⟨0,0,false,.mk 0 0 []⟩).to)/\w.cell? ⟨g,off+j*6+2,none⟩=some (.bool ((m[j]?).getD ⟨0,0,false,.mk 0 0 []⟩).els)/\w.cell? ⟨g,off+j*6+3,none⟩=some (.int .i64 ((m[j]?).getD ⟨0,0,false,.mk 0 0 []⟩).c.op)/\w.cell? ⟨g,off+j*6+4,none⟩=some (.int .i64 ((m[j]?).getD ⟨0,0,false,.mk 0 0 []⟩).c.num)/\w.cell? ⟨g,off+j*6+5,none⟩=some (u)/\Tm.Lies w B e' u ((m[j]?).getD ⟨0,0,false,.mk 0 0 []⟩).c:=λj hj=>by
  obtain⟨g,off,u,h1,h2,h3,h4,h5,h6,h7,h8,h9⟩:=h2 j hj;rw[List.getElem?_eq_getElem hj];exact⟨u,g,off,h1,h2,h3,h4,h5,h6,h7,h8,h9⟩
 haveI:Inhabited Value:=⟨.bool false⟩
 obtain⟨u,hu⟩:=Go.Deep.choose_lt e1;obtain⟨v,hv⟩:=Go.Deep.choose_lt e2
 have key:=Tryz.eqFlow_any (B:=B) l.length m.length a b ca cb 67 (λj=>l[j]? =m[j]?) (λj=> .int .i64 ((l[j]?).getD ⟨0,0,false,.mk 0 0 []⟩).fr) (λj=> .int .i64 ((l[j]?).getD ⟨0,0,false,.mk 0 0 []⟩).to) (λj=> .bool ((l[j]?).getD ⟨0,0,false,.mk 0 0 []⟩).els) (λj=> .int .i64 ((l[j]?).getD ⟨0,0,false,.mk 0 0 []⟩).c.op) (λj=> .int .i64 ((l[j]?).getD ⟨0,0,false,.mk 0 0 []⟩).c.num) u (λj=> .int .i64 ((m[j]?).getD ⟨0,0,false,.mk 0 0 []⟩).fr) (λj=> .int .i64 ((m[j]?).getD ⟨0,0,false,.mk 0 0 []⟩).to) (λj=> .bool ((m[j]?).getD ⟨0,0,false,.mk 0 0 []⟩).els) (λj=> .int .i64 ((m[j]?).getD ⟨0,0,false,.mk 0 0 []⟩).c.op) (λj=> .int .i64 ((m[j]?).getD ⟨0,0,false,.mk 0 0 []⟩).c.num) v w hB (enters_of Tryz.func67 (by kernel_rfl) rfl)
  (λj hj=>by
   obtain⟨g,off,p1,p2,p3,p4,p5,p6,p7,p8,pz⟩:=hu j hj;obtain⟨ua,uc,hus⟩:=pz.shape
   exact⟨g,off,p1,p2,⟨p3,p4,p5,p6,p7,p8⟩,by rw[hus];simp[Value.oneCell']⟩)
  (λj hj=>by
   obtain⟨g,off,p1,p2,p3,p4,p5,p6,p7,p8,pz⟩:=hv j hj;obtain⟨ua,uc,hus⟩:=pz.shape
   exact⟨g,off,p1,p2,⟨p3,p4,p5,p6,p7,p8⟩,by rw[hus];simp[Value.oneCell']⟩)
  (λhlm j W hj hb=>by
   obtain⟨_,_,_,_,_,_,_,_,_,_,p6⟩:=hu j hj;obtain⟨_,_,_,_,_,_,_,_,_,_,q6⟩:=hv j (by omega);have hs1:=hs _ (List.getElem_mem hj);rw[List.getElem?_eq_getElem hj,List.getElem?_eq_getElem (by omega:j<m.length)]at*;refine(Tryz.sameFlow_any e e' l[j] m[j] (u j) (v j) W ((p6.below (hb.mono hB)).wider (Nat.le_trans hB hb.size)) ((q6.below (hb.mono hB)).wider (Nat.le_trans hB hb.size)) (by have:=hb.size;omega) hs1.1 hs1.2).mono λe w' h=>⟨?_,h.2⟩;obtain⟨r,hr1,hr2⟩:=h.1
   exact⟨r,hr1,by rw[hr2,Option.some.injEq]⟩) hn
 refine key.mono λe w' h=>⟨?_,h.2⟩;obtain⟨r,hr1,hr2⟩:=h.1;refine⟨r,hr1,hr2.trans ⟨λh=>Ak.all_get h.1 h.2,λh=> ?_⟩⟩;subst h;exact⟨rfl,λ_ _=>rfl⟩
theorem Tryz.aalike_any (e e' B:Nat)(S T:Ac)(U V:Ac.Vs)(w:World)(hS:Ac.Own w B e U S)(hT:Ac.Own w B e' V T)(hB:B<=w.heap.size)(h0:0<w.heap.size)(hF:S.Fit):
  Calls Tryz.prog 40 #[.agg (Ac.row S U),.agg (Ac.row T V)] w λe w'=>Ak.Told (Ac.Same1 S T) e/\Below w.heap.size w w':=by
 have HP:Hid (Ac.Same1 S T↔S.kind=T.kind/\S.node=T.node/\S.a=T.a/\S.b=T.b/\S.t=T.t/\S.cs=T.cs/\S.ls=T.ls/\S.ns=T.ns/\S.fs=T.fs):=Iff.rfl;obtain⟨x6a,x6c,ex6⟩:=hS.t.shape;obtain⟨x7a,x7c,ex7,hx7⟩:=hS.c;obtain⟨x9a,x9c,ex9,hx9⟩:=hS.l;obtain⟨xAa,xAc,exA,hxA⟩:=hS.n;obtain⟨xBa,xBc,exB,hxB⟩:=hS.f;obtain⟨y6a,y6c,ey6⟩:=hT.t.shape;obtain⟨y7a,y7c,ey7,hy7⟩:=hT.c;obtain⟨y9a,y9c,ey9,hy9⟩:=hT.l;obtain⟨yAa,yAc,eyA,hyA⟩:=hT.n;obtain⟨yBa,yBc,eyB,hyB⟩:=hT.f;obtain⟨x8,ex8⟩:=pE (U.k);obtain⟨y8,ey8⟩:=pE (V.k);have hx6:=hS.t;have hy6:=hT.t;rw[ex6]at hx6;rw[ey6]at hy6
 have CT:∀W,Below w.heap.size w W->Calls Tryz.prog 61 #[.agg #[.int .i64 S.t.op,.int .i64 S.t.num,.slice x6a S.t.ks.length x6c],.agg #[.int .i64 T.t.op,.int .i64 T.t.num,.slice y6a T.t.ks.length y6c]] W λe w'=>Ak.Told (S.t=T.t) e/\Below W.heap.size W w':=λW hb=>
  (Tryz.termSame_any e e' S.t T.t _ _ W ((hx6.below (hb.mono hB)).wider (Nat.le_trans hB hb.size)) ((hy6.below (hb.mono hB)).wider (Nat.le_trans hB hb.size)) (by have:=hb.size;omega) hF.t.1 hF.t.2).mono λ_ _ h=>⟨h.1,h.2⟩
 have CC:∀W,Below w.heap.size w W->Calls Tryz.prog 62 #[.slice x7a S.cs.length x7c,.slice y7a T.cs.length y7c,.func (.func 61) #[] #[]] W λe w'=>Ak.Told (S.cs=T.cs) e/\Below W.heap.size W w':=λW hb=>
  (Tryz.condsEq_any e e' B S.cs T.cs x7a y7a x7c y7c W (hx7.keep (hb.mono hB).block) (hy7.keep (hb.mono hB).block) (Nat.le_trans hB hb.size) (by have:=hb.size;omega) hF.c (by have:=hF.cl;omega)).mono λ_ _ h=>⟨h.1,h.2⟩
 have CL:∀W,Below w.heap.size w W->Calls Tryz.prog 63 #[.slice x9a S.ls.length x9c,.slice y9a T.ls.length y9c] W λe w'=>Ak.Told (S.ls=T.ls) e/\Below W.heap.size W w':=λW hb=>
  (Tryz.alinksEq_any S.ls T.ls x9a y9a x9c y9c B W (hx9.keep (hb.mono hB).block) (hy9.keep (hb.mono hB).block) (Nat.le_trans hB hb.size) (by have:=hF.ll;omega)).mono λ_ _ h=>⟨h.1,h.2⟩
 have CN:∀W,Below w.heap.size w W->Calls Tryz.prog 64 #[.slice xAa S.ns.length xAc,.slice yAa T.ns.length yAc,.func (.func 65) #[] #[]] W λe w'=>Ak.Told (S.ns=T.ns) e/\Below W.heap.size W w':=λW hb=>
  (Tryz.nodesEq_any e e' B S.ns T.ns xAa yAa xAc yAc W (Ac.nds_keep hxA (hb.mono hB).block) (Ac.nds_keep hyA (hb.mono hB).block) (Nat.le_trans hB hb.size) (by have:=hb.size;omega) hF.n (by have:=hF.nl;omega)).mono λ_ _ h=>⟨h.1,h.2⟩
 have CF:∀W,Below w.heap.size w W->Calls Tryz.prog 66 #[.slice xBa S.fs.length xBc,.slice yBa T.fs.length yBc,.func (.func 67) #[] #[]] W λe w'=>Ak.Told (S.fs=T.fs) e/\Below W.heap.size W w':=λW hb=>
  (Tryz.flowsEq_any e e' B S.fs T.fs xBa yBa xBc yBc W (Ac.fls_keep hxB (hb.mono hB).block) (Ac.fls_keep hyB (hb.mono hB).block) (Nat.le_trans hB hb.size) (by have:=hb.size;omega) hF.f (by have:=hF.fl;omega)).mono λ_ _ h=>⟨h.1,h.2⟩
 unfold Ac.row;rw[ex6,ex7,ex8,ex9,exA,exB,ey6,ey7,ey8,ey9,eyA,eyB];obtain⟨x0,hx_0⟩:=pE (S.kind);obtain⟨y0,hy_0⟩:=pE (T.kind);rw[hx_0,hy_0]at HP⊢;obtain⟨x1,hx_1⟩:=pE (S.node);obtain⟨y1,hy_1⟩:=pE (T.node);rw[hx_1,hy_1]at HP⊢;obtain⟨x2,hx_2⟩:=pE (S.a);obtain⟨y2,hy_2⟩:=pE (T.a);rw[hx_2,hy_2]at HP⊢;obtain⟨x3,hx_3⟩:=pE (S.b);obtain⟨y3,hy_3⟩:=pE (T.b);rw[hx_3,hy_3]at HP⊢;obtain⟨x4,hx_4⟩:=pE (S.t.op);obtain⟨x5,hx_5⟩:=pE (S.t.num);obtain⟨x6n,hx_6⟩:=pE (S.t.ks.length);rw[hx_4,hx_5,hx_6]at CT⊢;obtain⟨x7n,hx_7⟩:=pE (S.cs.length);rw[hx_7]at CC⊢;obtain⟨x9n,hx_9⟩:=pE (S.ls.length);rw[hx_9]at CL⊢;obtain⟨xAn,hx_A⟩:=pE (S.ns.length);rw[hx_A]at CN⊢;obtain⟨xBn,hx_B⟩:=pE (S.fs.length);rw[hx_B]at CF⊢;obtain⟨y4,hy_4⟩:=pE (T.t.op);obtain⟨y5,hy_5⟩:=pE (T.t.num);obtain⟨y6n,hy_6⟩:=pE (T.t.ks.length);rw[hy_4,hy_5,hy_6]at CT⊢;obtain⟨y7n,hy_7⟩:=pE (T.cs.length);rw[hy_7]at CC⊢;obtain⟨y9n,hy_9⟩:=pE (T.ls.length);rw[hy_9]at CL⊢;obtain⟨yAn,hy_A⟩:=pE (T.ns.length);rw[hy_A]at CN⊢
 obtain⟨yBn,hy_B⟩:=pE (T.fs.length);rw[hy_B]at CF⊢;have A2:Below w.heap.size w ((w.alloc (.cells #[.int .i64 x0,.int .i64 x1,.int .i64 x2,.int .i64 x3,.int .i64 x4,.int .i64 x5,.slice x6a x6n x6c,.slice x7a x7n x7c,x8,.slice x9a x9n x9c,.slice xAa xAn xAc,.slice xBa xBn xBc] 32)).alloc (.cells #[.int .i64 y0,.int .i64 y1,.int .i64 y2,.int .i64 y3,.int .i64 y4,.int .i64 y5,.slice y6a y6n y6c,.slice y7a y7n y7c,y8,.slice y9a y9n y9c,.slice yAa yAn yAc,.slice yBa yBn yBc] 32)):=((Below.refl _ w).alloc (Nat.le_refl _) _).alloc (by simp) _
 have G2:((w.alloc (.cells #[.int .i64 x0,.int .i64 x1,.int .i64 x2,.int .i64 x3,.int .i64 x4,.int .i64 x5,.slice x6a x6n x6c,.slice x7a x7n x7c,x8,.slice x9a x9n x9c,.slice xAa xAn xAc,.slice xBa xBn xBc] 32)).alloc (.cells #[.int .i64 y0,.int .i64 y1,.int .i64 y2,.int .i64 y3,.int .i64 y4,.int .i64 y5,.slice y6a y6n y6c,.slice y7a y7n y7c,y8,.slice y9a y9n y9c,.slice yAa yAn yAc,.slice yBa yBn yBc] 32)).heap[w.heap.size+1]? =some (.cells #[.int .i64 y0,.int .i64 y1,.int .i64 y2,.int .i64 y3,.int .i64 y4,.int .i64 y5,.slice y6a y6n y6c,.slice y7a y7n y7c,y8,.slice y9a y9n y9c,.slice yAa yAn yAc,.slice yBa yBn yBc] 32 (0,0)):=by
  have:=heap_alloc_new (w.alloc (.cells #[.int .i64 x0,.int .i64 x1,.int .i64 x2,.int .i64 x3,.int .i64 x4,.int .i64 x5,.slice x6a x6n x6c,.slice x7a x7n x7c,x8,.slice x9a x9n x9c,.slice xAa xAn xAc,.slice xBa xBn xBc] 32)) (.cells #[.int .i64 y0,.int .i64 y1,.int .i64 y2,.int .i64 y3,.int .i64 y4,.int .i64 y5,.slice y6a y6n y6c,.slice y7a y7n y7c,y8,.slice y9a y9n y9c,.slice yAa yAn yAc,.slice yBa yBn yBc] 32);simpa using this
 have G1:((w.alloc (.cells #[.int .i64 x0,.int .i64 x1,.int .i64 x2,.int .i64 x3,.int .i64 x4,.int .i64 x5,.slice x6a x6n x6c,.slice x7a x7n x7c,x8,.slice x9a x9n x9c,.slice xAa xAn xAc,.slice xBa xBn xBc] 32)).alloc (.cells #[.int .i64 y0,.int .i64 y1,.int .i64 y2,.int .i64 y3,.int .i64 y4,.int .i64 y5,.slice y6a y6n y6c,.slice y7a y7n y7c,y8,.slice y9a y9n y9c,.slice yAa yAn yAc,.slice yBa yBn yBc] 32)).heap[w.heap.size]? =some (.cells #[.int .i64 x0,.int .i64 x1,.int .i64 x2,.int .i64 x3,.int .i64 x4,.int .i64 x5,.slice x6a x6n x6c,.slice x7a x7n x7c,x8,.slice x9a x9n x9c,.slice xAa xAn xAc,.slice xBa xBn xBc] 32 (0,0)):=by
  rw[Below.heap_alloc _ _ _ (by simp)];exact heap_alloc_new _ _
 obtain⟨w2,hw2⟩:=pE (((w.alloc (.cells #[.int .i64 x0,.int .i64 x1,.int .i64 x2,.int .i64 x3,.int .i64 x4,.int .i64 x5,.slice x6a x6n x6c,.slice x7a x7n x7c,x8,.slice x9a x9n x9c,.slice xAa xAn xAc,.slice xBa xBn xBc] 32)).alloc (.cells #[.int .i64 y0,.int .i64 y1,.int .i64 y2,.int .i64 y3,.int .i64 y4,.int .i64 y5,.slice y6a y6n y6c,.slice y7a y7n y7c,y8,.slice y9a y9n y9c,.slice yAa yAn yAc,.slice yBa yBn yBc] 32)));rw[hw2]at A2 G1 G2;have HW:Hid (((w.alloc (.cells #[.int .i64 x0,.int .i64 x1,.int .i64 x2,.int .i64 x3,.int .i64 x4,.int .i64 x5,.slice x6a x6n x6c,.slice x7a x7n x7c,x8,.slice x9a x9n x9c,.slice xAa xAn xAc,.slice xBa xBn xBc] 32)).alloc (.cells #[.int .i64 y0,.int .i64 y1,.int .i64 y2,.int .i64 y3,.int .i64 y4,.int .i64 y5,.slice y6a y6n y6c,.slice y7a y7n y7c,y8,.slice y9a y9n y9c,.slice yAa yAn yAc,.slice yBa yBn yBc] 32))=w2):=hw2
 have cAll:∀W,Below w2.heap.size w2 W->W.cell? ⟨w.heap.size,0,none⟩=some (.int .i64 x0)/\W.cell? ⟨w.heap.size,1,none⟩=some (.int .i64 x1)/\W.cell? ⟨w.heap.size,2,none⟩=some (.int .i64 x2)/\W.cell? ⟨w.heap.size,3,none⟩=some (.int .i64 x3)/\W.cell? ⟨w.heap.size,4,none⟩=some (.int .i64 x4)/\W.cell? ⟨w.heap.size,5,none⟩=some (.int .i64 x5)/\W.cell? ⟨w.heap.size,6,none⟩=some (.slice x6a x6n x6c)/\W.cell? ⟨w.heap.size,7,none⟩=some (.slice x7a x7n x7c)/\W.cell? ⟨w.heap.size,9,none⟩=some (.slice x9a x9n x9c)/\W.cell? ⟨w.heap.size,10,none⟩=some (.slice xAa xAn xAc)/\W.cell? ⟨w.heap.size,11,none⟩=some (.slice xBa xBn xBc)/\W.cell? ⟨w.heap.size+1,0,none⟩=some (.int .i64 y0)/\W.cell? ⟨w.heap.size+1,1,none⟩=some (.int .i64 y1)/\W.cell? ⟨w.heap.size+1,2,none⟩=some (.int .i64 y2)/\W.cell? ⟨w.heap.size+1,3,none⟩=some (.int .i64 y3)/\W.cell? ⟨w.heap.size+1,4,none⟩=some (.int .i64 y4)/\W.cell? ⟨w.heap.size+1,5,none⟩=some (.int .i64 y5)/\W.cell? ⟨w.heap.size+1,6,none⟩=some (.slice y6a y6n y6c)/\W.cell? ⟨w.heap.size+1,7,none⟩=some (.slice y7a y7n y7c)/\W.cell? ⟨w.heap.size+1,9,none⟩=some (.slice y9a y9n y9c)/\W.cell? ⟨w.heap.size+1,10,none⟩=some (.slice yAa yAn yAc)/\W.cell? ⟨w.heap.size+1,11,none⟩=some (.slice yBa yBn yBc):=λW hb=>by
  have g1:=(hb.block _ (Array.getElem?_eq_some_iff.1 G1).1).trans G1;have g2:=(hb.block _ (Array.getElem?_eq_some_iff.1 G2).1).trans G2;simp[World.cell?,g1,g2]
 have HCT:Hid _:=CT;have HCC:Hid _:=CC;have HCL:Hid _:=CL;have HCN:Hid _:=CN;have HCF:Hid _:=CF;have HA:Hid (Below w.heap.size w w2):=A2;have HCA:Hid _:=cAll;have HBB:Hid (∀W,Below w2.heap.size w2 W->Below w.heap.size w W):=λW hb=>A2.trans (hb.mono A2.size);obtain⟨a0,a1,a2,a3,a4,a5,a6,a7,a8,a9,a10,b0,b1,b2,b3,b4,b5,b6,b7,b8,b9,b10⟩:=cAll w2 (Below.refl _ _);rw[<-hw2]at a0 a1 a2 a3 a4 a5 a6 a7 a8 a9 a10 b0 b1 b2 b3 b4 b5 b6 b7 b8 b9 b10;clear CT CC CL CN CF A2 G1 G2 cAll hw2 hS hT hF ex6 ey6 ex7 ey7 ex8 ey8 ex9 ey9 exA eyA exB eyB hx6 hy6 hx7 hy7 hx9 hy9 hxA hyA hxB hyB hx_0 hy_0 hx_1 hy_1 hx_2 hy_2 hx_3 hy_3 hx_4 hy_4 hx_5 hy_5 hx_6 hy_6 hx_7 hy_7 hx_9 hy_9 hx_A hy_A hx_B hy_B hB h0
 by_cases q0:¬x0=y0
 ·have d0:(x0==y0)=false:=by simpa using q0
  have HN:Hid (¬Ac.Same1 S T):=λh=>q0 (HP.out.1 h).1;clear q0
  go_enter Tryz.func40,Tryz.ntmps40
  go_wp2;go_ret;exact⟨Ak.Told.no HN.out,by first|exact HA.out|(rw[HW.out];exact HA.out)⟩
 replace q0:=Decidable.not_not.1 q0;have d0:(x0==y0)=true:=by simpa using q0
 have Q0:Hid (x0=y0):=q0;clear q0
 by_cases q1:¬x1=y1
 ·have d1:(x1==y1)=false:=by simpa using q1
  have HN:Hid (¬Ac.Same1 S T):=λh=>q1 (HP.out.1 h).2.1;clear q1
  go_enter Tryz.func40,Tryz.ntmps40
  go_wp2;go_ret;exact⟨Ak.Told.no HN.out,by first|exact HA.out|(rw[HW.out];exact HA.out)⟩
 replace q1:=Decidable.not_not.1 q1;have d1:(x1==y1)=true:=by simpa using q1
 have Q1:Hid (x1=y1):=q1;clear q1
 by_cases q2:¬x2=y2
 ·have d2:(x2==y2)=false:=by simpa using q2
  have HN:Hid (¬Ac.Same1 S T):=λh=>q2 (HP.out.1 h).2.2.1;clear q2
  go_enter Tryz.func40,Tryz.ntmps40
  go_wp2;go_ret;exact⟨Ak.Told.no HN.out,by first|exact HA.out|(rw[HW.out];exact HA.out)⟩
 replace q2:=Decidable.not_not.1 q2;have d2:(x2==y2)=true:=by simpa using q2
 have Q2:Hid (x2=y2):=q2;clear q2
 by_cases q3:¬x3=y3
 ·have d3:(x3==y3)=false:=by simpa using q3
  have HN:Hid (¬Ac.Same1 S T):=λh=>q3 (HP.out.1 h).2.2.2.1;clear q3
  go_enter Tryz.func40,Tryz.ntmps40
  go_wp2;go_ret;exact⟨Ak.Told.no HN.out,by first|exact HA.out|(rw[HW.out];exact HA.out)⟩
 replace q3:=Decidable.not_not.1 q3;have d3:(x3==y3)=true:=by simpa using q3
 have Q3:Hid (x3=y3):=q3;clear q3
 go_enter Tryz.func40,Tryz.ntmps40
 go_wp2_with fail
 rw[HW.out];have B00:Hid (Below w2.heap.size w2 w2):=Below.refl _ _;clear a0 a1 a2 a3 a4 a5 a6 a7 a8 a9 a10 b0 b1 b2 b3 b4 b5 b6 b7 b8 b9 b10;refine Calls.mono (HCT.out _ (HBB.out _ B00.out)) ?_;rintro e X0 ⟨⟨r0,rfl,hr0⟩,hb0⟩;have B0:Hid (Below w2.heap.size w2 X0):=B00.out.trans (hb0.mono B00.out.size);have R0:Hid (r0=true↔S.t=T.t):=hr0;clear hr0 hb0
 cases r0 with
 |false=>
  go_wp2;go_ret;refine⟨Ak.Told.no λh=> ?_,HBB.out _ B0.out⟩;have:=R0.out.2 (HP.out.1 h).2.2.2.2.1;simp at this
 |true=>
 replace R0:Hid (S.t=T.t):=R0.out.1 (by first|rfl|trivial);obtain⟨a0,a1,a2,a3,a4,a5,a6,a7,a8,a9,a10,b0,b1,b2,b3,b4,b5,b6,b7,b8,b9,b10⟩:=HCA.out X0 B0.out;clear a0 a1 a2 a3 a4 a5 a6 a8 a9 a10 b0 b1 b2 b3 b4 b5 b6 b8 b9 b10
 go_wp2_with fail
 clear a7 b7;refine Calls.mono (HCC.out _ (HBB.out _ B0.out)) ?_;rintro e X1 ⟨⟨r1,rfl,hr1⟩,hb1⟩;have B1:Hid (Below w2.heap.size w2 X1):=B0.out.trans (hb1.mono B0.out.size);have R1:Hid (r1=true↔S.cs=T.cs):=hr1;clear hr1 hb1
 cases r1 with
 |false=>
  go_wp2;go_ret;refine⟨Ak.Told.no λh=> ?_,HBB.out _ B1.out⟩;have:=R1.out.2 (HP.out.1 h).2.2.2.2.2.1;simp at this
 |true=>
 replace R1:Hid (S.cs=T.cs):=R1.out.1 (by first|rfl|trivial);obtain⟨a0,a1,a2,a3,a4,a5,a6,a7,a8,a9,a10,b0,b1,b2,b3,b4,b5,b6,b7,b8,b9,b10⟩:=HCA.out X1 B1.out;clear a0 a1 a2 a3 a4 a5 a6 a7 a9 a10 b0 b1 b2 b3 b4 b5 b6 b7 b9 b10
 go_wp2_with fail
 clear a8 b8;refine Calls.mono (HCL.out _ (HBB.out _ B1.out)) ?_;rintro e X2 ⟨⟨r2,rfl,hr2⟩,hb2⟩;have B2:Hid (Below w2.heap.size w2 X2):=B1.out.trans (hb2.mono B1.out.size);have R2:Hid (r2=true↔S.ls=T.ls):=hr2;clear hr2 hb2
 cases r2 with
 |false=>
  go_wp2;go_ret;refine⟨Ak.Told.no λh=> ?_,HBB.out _ B2.out⟩;have:=R2.out.2 (HP.out.1 h).2.2.2.2.2.2.1;simp at this
 |true=>
 replace R2:Hid (S.ls=T.ls):=R2.out.1 (by first|rfl|trivial);obtain⟨a0,a1,a2,a3,a4,a5,a6,a7,a8,a9,a10,b0,b1,b2,b3,b4,b5,b6,b7,b8,b9,b10⟩:=HCA.out X2 B2.out;clear a0 a1 a2 a3 a4 a5 a6 a7 a8 a10 b0 b1 b2 b3 b4 b5 b6 b7 b8 b10
 go_wp2_with fail
 clear a9 b9;refine Calls.mono (HCN.out _ (HBB.out _ B2.out)) ?_;rintro e X3 ⟨⟨r3,rfl,hr3⟩,hb3⟩;have B3:Hid (Below w2.heap.size w2 X3):=B2.out.trans (hb3.mono B2.out.size);have R3:Hid (r3=true↔S.ns=T.ns):=hr3;clear hr3 hb3
 cases r3 with
 |false=>
  go_wp2;go_ret;refine⟨Ak.Told.no λh=> ?_,HBB.out _ B3.out⟩;have:=R3.out.2 (HP.out.1 h).2.2.2.2.2.2.2.1;simp at this
 |true=>
 replace R3:Hid (S.ns=T.ns):=R3.out.1 (by first|rfl|trivial);obtain⟨a0,a1,a2,a3,a4,a5,a6,a7,a8,a9,a10,b0,b1,b2,b3,b4,b5,b6,b7,b8,b9,b10⟩:=HCA.out X3 B3.out;clear a0 a1 a2 a3 a4 a5 a6 a7 a8 a9 b0 b1 b2 b3 b4 b5 b6 b7 b8 b9
 go_wp2_with fail
 clear a10 b10;refine Calls.mono (HCF.out _ (HBB.out _ B3.out)) ?_;rintro e X4 ⟨⟨r4,rfl,hr4⟩,hb4⟩;have B4:Hid (Below w2.heap.size w2 X4):=B3.out.trans (hb4.mono B3.out.size);have R4:Hid (r4=true↔S.fs=T.fs):=hr4;clear hr4 hb4;go_wp2;go_ret;refine⟨Ak.Told.iff (R4.out.trans ⟨λh=>HP.out.2 ⟨Q0.out,Q1.out,Q2.out,Q3.out,R0.out,R1.out,R2.out,R3.out,h⟩,λh=>(HP.out.1 h).2.2.2.2.2.2.2.2⟩),HBB.out _ B4.out⟩
end Go.Proofs
