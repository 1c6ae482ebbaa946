import Derived.Deep.MidRow
import Derived.Test.YtenaelpdnccgnaaGreatDoorRAcRSize
import Derived.Test.YtenaelpdnccgnaaGreatDoorRNtRef4
import Derived.Test.YtenaelpdnccgnaaGreatDoorRNtFour
set_option maxRecDepth 100000
set_option maxHeartbeats 32000000
namespace Go.Proofs
open Go.RowKit Go.Shelf
def Bw.leaf (k nd:Int):Array Value:=#[.int .i64 k,.int .i64 nd,.int .i64 0,.int .i64 0,.int .i64 0,.int .i64 0,.slice none 0 0,.slice none 0 0,.slice none 0 0,.slice none 0 0,.slice none 0 0,.slice none 0 0]
def Bw.root (K cap:Nat):Array Value:=#[.int .i64 6,.int .i64 0,.int .i64 0,.int .i64 0,.int .i64 0,.int .i64 0,.slice none 0 0,.slice none 0 0,.slice (some ⟨K,0,none⟩) 2 cap,.slice none 0 0,.slice none 0 0,.slice none 0 0]
theorem Bw.leaf_size (k nd:Int):(Bw.leaf k nd).size=12:=rfl
theorem Bw.leaf_one (k nd:Int):(Bw.leaf k nd).all (·.oneCell')=true:=by kernel_rfl
theorem Bw.zero_size:(#[.int .i64 0,.int .i64 0,.int .i64 0,.int .i64 0,.int .i64 0,.int .i64 0,.slice none 0 0,.slice none 0 0,.slice none 0 0,.slice none 0 0,.slice none 0 0,.slice none 0 0]:Array Value).size=12:=rfl
theorem Bw.info:(Tryz.prog.info? 32).map (·.size)=some 12:=by kernel_rfl
def Bw.Bx (q:Nat)(r:Int)(W:World):Prop:=W.heap[q]? =some (.cells #[.int .i64 r] 3 (0,0))
theorem Bw.Bx.c {q:Nat}{r:Int}{W:World}(h:Bw.Bx q r W):W.cell? ⟨q,0,none⟩=some (.int .i64 r):=by unfold Bw.Bx at h;simp[World.cell?,h]
theorem Bw.Bx.f {q:Nat}{r:Int}{W:World}(h:Bw.Bx q r W):W.frozen? ⟨q,0,none⟩=false:=by unfold Bw.Bx at h;simp[World.frozen?,h]
theorem Bw.Bx.lt {q:Nat}{r:Int}{W:World}(h:Bw.Bx q r W):q<W.heap.size:=(Array.getElem?_eq_some_iff.1 h).1
theorem Bw.Bx.put {q:Nat}{r:Int}{W:World}(h:Bw.Bx q r W)(s:Int):Bw.Bx q s (W.setCell ⟨q,0,none⟩ (.int .i64 s)):=by unfold Bw.Bx at h⊢;simp[World.setCell,Array.getElem?_modify,h]
theorem Bw.Bx.below {q:Nat}{r:Int}{W W':World}(h:Bw.Bx q r W)(hb:Below W.heap.size W W'):Bw.Bx q r W':=(hb.block _ h.lt).trans h
def Bw.Two (K:Nat)(k1 n1 k2 n2:Int)(W:World):Prop:=W.rangeAt K 0 (Bw.leaf k1 n1).toList/\W.rangeAt K 12 (Bw.leaf k2 n2).toList
theorem Bw.Two.keep {K:Nat}{k1 n1 k2 n2:Int}{W W':World}(h:Bw.Two K k1 n1 k2 n2 W)(hb:W'.heap[K]? =W.heap[K]?):Bw.Two K k1 n1 k2 n2 W':=
 ⟨λj v hv=>(World.cell?_of_block hb).trans (h.1 j v hv),λj v hv=>(World.cell?_of_block hb).trans (h.2 j v hv)⟩
theorem Tryz.bwRes_leaf (k nd lv r:Int)(q:Nat)(w:World)(hq:Bw.Bx q r w)(h1:0<=lv)(h2:lv<=1000)(h3:lv<=r)(h4:r<=20000000):
  Calls Tryz.prog 30 #[.agg (Bw.leaf k nd),.int .i64 lv,.pointer (some ⟨q,0,none⟩)] w λe w'=>e=.returned (.bool true)/\Bw.Bx q (r-lv) w'/\Tk.But (λi=>i=q) w w':=by
 obtain⟨w1,hw1⟩:=pE (w.alloc (.cells (Bw.leaf k nd) 32));have B1:=pB hw1;have N1:=pH hw1;have Q1:Bw.Bx q r w1:=hq.below B1;have kq:=Q1.c;have fq:=Q1.f;obtain⟨w2,hw2⟩:=pE (w1.setCell ⟨q,0,none⟩ (.int .i64 (r-lv)));have Q2:Hid (Bw.Bx q (r-lv) w2/\Tk.But (λi=>i=q) w w2):=⟨by rw[<-hw2];exact Q1.put _,by rw[<-hw2];exact(Tk.But.of_below B1:Tk.But (λi=>i=q) w w1).setCell (p:=⟨q,0,none⟩) rfl _⟩;have hne:w.heap.size≠q:=by have:=hq.lt;omega
 have N2:w2.heap[w.heap.size]? =some (.cells (Bw.leaf k nd) 32 (0,0)):=by rw[<-hw2,Below.heap_setCell w1 ⟨q,0,none⟩ _ _ hne];exact N1
 have k8:w2.cell? ⟨w.heap.size,8,none⟩=some (.slice none 0 0):=by simp[World.cell?,N2,Bw.leaf]
 have kq2:=Q2.out.1.c;have H1:Hid _:=hw1;have H2:Hid _:=hw2;have d1:decide (r-lv<0)=false:=decide_eq_false (by omega);have d2:decide (1000<lv)=false:=decide_eq_false (by omega);clear hw1 hw2 B1 N1 N2 Q1 hq hne
 go_enter Tryz.func30,Tryz.ntmps30
 go_upto_region 1 with fail
 rw[H1.out]
 go_upto_region 2 with fail
 rw[H2.out];clear H1 H2 kq fq;go_wp2;refine wp_loop_rounds 1 ?_;rw[rounds_succ];go_wp2;go_ret;exact⟨rfl,Q2.out⟩
theorem Tryz.bwRes_root (K cap:Nat)(k1 n1 k2 n2:Int)(q:Nat)(r:Int)(w:World)(hq:Bw.Bx q r w)(hT:Bw.Two K k1 n1 k2 n2 w)(hK:K<w.heap.size)(hKq:K≠q)(h3:100<=r)(h4:r<=20000000):
  Calls Tryz.prog 30 #[.agg (Bw.root K cap),.int .i64 1,.pointer (some ⟨q,0,none⟩)] w λe w'=>e=.returned (.bool true)/\Tk.But (λi=>i=q) w w':=by
 obtain⟨w1,hw1⟩:=pE (w.alloc (.cells (Bw.root K cap) 32));have B1:=pB hw1;have N1:=pH hw1;have Q1:Bw.Bx q r w1:=hq.below B1;have kq:=Q1.c;have fq:=Q1.f;obtain⟨w2,hw2⟩:=pE (w1.setCell ⟨q,0,none⟩ (.int .i64 (r-1)));have Qw2:Hid (Bw.Bx q (r-1) w2/\Tk.But (λi=>i=q) w w2):=⟨by rw[<-hw2];exact Q1.put _,by rw[<-hw2];exact(Tk.But.of_below B1:Tk.But (λi=>i=q) w w1).setCell (p:=⟨q,0,none⟩) rfl _⟩;have hne:w.heap.size≠q:=by have:=hq.lt;omega
 have N2:w2.heap[w.heap.size]? =some (.cells (Bw.root K cap) 32 (0,0)):=by rw[<-hw2,Below.heap_setCell w1 ⟨q,0,none⟩ _ _ hne];exact N1
 have k8:w2.cell? ⟨w.heap.size,8,none⟩=some (.slice (some ⟨K,0,none⟩) 2 cap):=by simp[World.cell?,N2,Bw.root]
 have kq2:=Qw2.out.1.c;have HT:Hid (∀W,Tk.But (λi=>i=q) w W->Bw.Two K k1 n1 k2 n2 W):=λW hb=>hT.keep (hb.block K hK hKq);have H1:Hid _:=hw1;have H2:Hid _:=hw2;have d2:decide ((1000:Int)<1)=false:=by decide
 have d1:decide (r-1<0)=false:=decide_eq_false (by omega);have hu:=Tryz.underlying32;have hi1:(Tryz.prog.info? 32).map (·.size)=some (Bw.leaf k1 n1).toList.length:=Bw.info;have hi2:(Tryz.prog.info? 32).map (·.size)=some (Bw.leaf k2 n2).toList.length:=Bw.info;have R1:=(HT.out w2 Qw2.out.2).1;have HR:Hid (100<=r/\r<=20000000):=⟨h3,h4⟩;clear hw1 hw2 B1 N1 N2 Q1 hq hne hT
 go_enter Tryz.func30,Tryz.ntmps30
 go_upto_region 1 with fail
 rw[H1.out]
 go_upto_region 2 with fail
 rw[H2.out];clear H1 H2 kq fq;go_wp2;refine wp_loop_rounds 3 ?_;rw[rounds_succ];have NZ1:(w2.alloc (.cells #[.int .i64 0,.int .i64 0,.int .i64 0,.int .i64 0,.int .i64 0,.int .i64 0,.slice none 0 0,.slice none 0 0,.slice none 0 0,.slice none 0 0,.slice none 0 0,.slice none 0 0] 32)).heap[w2.heap.size]? =some (.cells #[.int .i64 0,.int .i64 0,.int .i64 0,.int .i64 0,.int .i64 0,.int .i64 0,.slice none 0 0,.slice none 0 0,.slice none 0 0,.slice none 0 0,.slice none 0 0,.slice none 0 0] 32 (0,0)):=heap_alloc_new w2 _;obtain⟨v1,hv1⟩:=pE ((w2.alloc (.cells #[.int .i64 0,.int .i64 0,.int .i64 0,.int .i64 0,.int .i64 0,.int .i64 0,.slice none 0 0,.slice none 0 0,.slice none 0 0,.slice none 0 0,.slice none 0 0,.slice none 0 0] 32)).setRow w2.heap.size (Bw.leaf k1 n1));have Nv1:v1.heap[w2.heap.size]? =some (.cells (Bw.leaf k1 n1) 32 (0,0)):=by rw[<-hv1];exact setRow_heap _ _ _ _ _ _ NZ1
 have Bv1:Below w2.heap.size w2 v1:=by rw[<-hv1];exact Tk.below_row ((Below.refl _ w2).alloc (Nat.le_refl _) _) (Nat.le_refl _) _
 have Qv1:Hid (Bw.Bx q (r-1) v1/\Tk.But (λi=>i=q) w v1):=⟨Qw2.out.1.below Bv1,Qw2.out.2.trans (.of_below Bv1)⟩;have Hv1:Hid _:=hv1;clear hv1 Bv1
 go_upto_region 7 with(first
  |refine wpList_load_mid rfl 32 _ rfl K 0 rfl (Bw.leaf k1 n1).toList _ R1 hu rfl hi1 ?_
  |refine wpList_store_row rfl 32 _ _ rfl w2.heap.size (Bw.leaf k1 n1) rfl rfl 32 _ NZ1 Bw.info (Bw.zero_size.trans (Bw.leaf_size _ _).symm) (Bw.leaf_one _ _) ?_)
 rw[Hv1.out]
 go_wp2_with (refine wpList_load_row rfl 32 _ rfl _ rfl 32 _ (0,0) _ Nv1 hu rfl Bw.info ?_)
 refine Calls.mono (Tryz.bwRes_leaf k1 n1 2 (r-1) q v1 Qv1.out.1 (by decide) (by decide) (by have:=HR.out.1;omega) (by have:=HR.out.2;omega)) ?_;rintro e u1 ⟨rfl,b1,t1⟩;have Qu1:Hid (Bw.Bx q (r-1-2) u1/\Tk.But (λi=>i=q) w u1):=⟨b1,Qv1.out.2.trans t1⟩;clear b1 t1 Hv1 Nv1 NZ1 R1;go_wp2;have R2:=(HT.out u1 Qu1.out.2).2;rw[rounds_succ];have NZ2:(u1.alloc (.cells #[.int .i64 0,.int .i64 0,.int .i64 0,.int .i64 0,.int .i64 0,.int .i64 0,.slice none 0 0,.slice none 0 0,.slice none 0 0,.slice none 0 0,.slice none 0 0,.slice none 0 0] 32)).heap[u1.heap.size]? =some (.cells #[.int .i64 0,.int .i64 0,.int .i64 0,.int .i64 0,.int .i64 0,.int .i64 0,.slice none 0 0,.slice none 0 0,.slice none 0 0,.slice none 0 0,.slice none 0 0,.slice none 0 0] 32 (0,0)):=heap_alloc_new u1 _;obtain⟨v2,hv2⟩:=pE ((u1.alloc (.cells #[.int .i64 0,.int .i64 0,.int .i64 0,.int .i64 0,.int .i64 0,.int .i64 0,.slice none 0 0,.slice none 0 0,.slice none 0 0,.slice none 0 0,.slice none 0 0,.slice none 0 0] 32)).setRow u1.heap.size (Bw.leaf k2 n2));have Nv2:v2.heap[u1.heap.size]? =some (.cells (Bw.leaf k2 n2) 32 (0,0)):=by rw[<-hv2];exact setRow_heap _ _ _ _ _ _ NZ2
 have Bv2:Below u1.heap.size u1 v2:=by rw[<-hv2];exact Tk.below_row ((Below.refl _ u1).alloc (Nat.le_refl _) _) (Nat.le_refl _) _
 have Qv2:Hid (Bw.Bx q (r-1-2) v2/\Tk.But (λi=>i=q) w v2):=⟨Qu1.out.1.below Bv2,Qu1.out.2.trans (.of_below Bv2)⟩;have Hv2:Hid _:=hv2;clear hv2 Bv2
 go_upto_region 7 with(first
  |refine wpList_load_mid rfl 32 _ rfl K 12 rfl (Bw.leaf k2 n2).toList _ R2 hu rfl hi2 ?_
  |refine wpList_store_row rfl 32 _ _ rfl u1.heap.size (Bw.leaf k2 n2) rfl rfl 32 _ NZ2 Bw.info (Bw.zero_size.trans (Bw.leaf_size _ _).symm) (Bw.leaf_one _ _) ?_)
 rw[Hv2.out]
 go_wp2_with (refine wpList_load_row rfl 32 _ rfl _ rfl 32 _ (0,0) _ Nv2 hu rfl Bw.info ?_)
 refine Calls.mono (Tryz.bwRes_leaf k2 n2 2 (r-1-2) q v2 Qv2.out.1 (by decide) (by decide) (by have:=HR.out.1;omega) (by have:=HR.out.2;omega)) ?_;rintro e u2 ⟨rfl,b2,t2⟩;have Qu2:Hid (Bw.Bx q (r-1-2-2) u2/\Tk.But (λi=>i=q) w u2):=⟨b2,Qv2.out.2.trans t2⟩;clear b2 t2 Hv2 Nv2 NZ2 R2;go_wp2;rw[rounds_succ];go_wp2;go_ret;exact⟨rfl,Qu2.out.2⟩
end Go.Proofs
namespace Go.Proofs
open Go
theorem Nt.put_some (ts:List Value)(ds:List Deferred)(d:Tmp)(v:Value):Act.put ⟨ts.toArray,ds⟩ (some d) v=⟨(ts.set d v).toArray,ds⟩:=by
 simp[Act.put]
theorem Nt.takeS {P:Program}{md:Region.Mode}{ops:Array Oper}{Q:Exit->Act->World->Prop}{S:World->Prop}(i:Nat){oi:Oper}{v:Value}{fuel:Nat}{listed:Array Bool}{ts:List Value}{ds:List Deferred}{w:World}(d:Tmp)(hi:ops[i]? =some oi)(hd:oi.dst=some d)
  (hs:Region.noSelect ops=true) (hf:Region.free md ops listed i=true) (hr:(Region.ready md ops listed).contains i=true)
  (hQ:∀c a w,Q (.panic c) (a.put oi.dst v) w->Q (.panic c) a w) (hy:YieldsIf P ops S oi v ⟨ts.toArray,ds⟩) (hS:S w)
  (h:wpAnyH P md ops Q S fuel (listed.setIfInBounds i true) ⟨(ts.set d v).toArray,ds⟩ w):wpAnyH P md ops Q S (fuel+1) listed ⟨ts.toArray,ds⟩ w:=
 wpAnyH_take hi hs hf hr hQ hy hS (by rw[hd,Nt.put_some];exact h)
end Go.Proofs
namespace Go.Proofs
open Go.RowKit Go.Shelf
structure Nt.Kw (w:World)(box:Array Value)(W:World):Prop where
 below:Below w.heap.size w W
 box:W.heap[w.heap.size]? =some (.cells box 30 (0,0))
 ans:W.heap[w.heap.size+1]? =some (.cells #[.int .i64 0,.int .i64 0] 123 (0,0))
end Go.Proofs
