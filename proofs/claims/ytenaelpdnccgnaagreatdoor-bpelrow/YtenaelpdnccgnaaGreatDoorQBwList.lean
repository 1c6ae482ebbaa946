import Derived.Test.YtenaelpdnccgnaaGreatDoorQBwRes
set_option maxRecDepth 100000
set_option maxHeartbeats 32000000
namespace Go.Proofs
open Go.RowKit Go.Shelf
def Bw.item (p a:Int)(r:Array Value):List Value:=.int .i64 p::.int .i64 a::r.toList
theorem Bw.infoItem:(Tryz.prog.info? 53).map (λi=>(i.zero,i.size,i.bytes))=some (some (.agg #[.int .i64 0,.int .i64 0,.int .i64 0,.int .i64 0,.int .i64 0,.int .i64 0,.int .i64 0,.int .i64 0,.slice none 0 0,.slice none 0 0,.slice none 0 0,.slice none 0 0,.slice none 0 0,.slice none 0 0]),14,208):=by kernel_rfl
def Bw.Own (B n:Nat)(v:Value)(xs:List Value)(W:World):Prop:=W.ownsRow B 53 14 v n xs
theorem Tryz.bwList_leaf (k nd p q:Int)(B n cap:Nat)(a:Option Addr)(xs:List Value)(w:World)(hv:Bw.Own B n (.slice a n cap) xs w)(hn:n<=100)(hB:B<=w.heap.size):
  Calls Tryz.prog 31 #[.slice a n cap,.int .i64 p,.int .i64 q,.agg (Bw.leaf k nd)] w λe w'=>∃g c,e=.returned (.slice (some ⟨g,0,none⟩) (n+1) c)/\Bw.Own B (n+1) (.slice (some ⟨g,0,none⟩) (n+1) c) (xs++Bw.item p q (Bw.leaf k nd)) w'/\Below B w w':=by
 obtain⟨i0,hi,hz0,hz1,hz2⟩:=info_parts Bw.infoItem;obtain⟨w1,hw1⟩:=pE (w.alloc (.cells #[.int .i64 k,.int .i64 nd,.int .i64 0,.int .i64 0,.int .i64 0,.int .i64 0,.slice none 0 0,.slice none 0 0,.slice none 0 0,.slice none 0 0,.slice none 0 0,.slice none 0 0] 32));have B1:=pB hw1;have N1:w1.heap[w.heap.size]? =some (.cells #[.int .i64 k,.int .i64 nd,.int .i64 0,.int .i64 0,.int .i64 0,.int .i64 0,.slice none 0 0,.slice none 0 0,.slice none 0 0,.slice none 0 0,.slice none 0 0,.slice none 0 0] 32 (0,0)):=pH hw1;have hlf:(Tryz.prog.info? 32).map (·.size)=some (#[.int .i64 k,.int .i64 nd,.int .i64 0,.int .i64 0,.int .i64 0,.int .i64 0,.slice none 0 0,.slice none 0 0,.slice none 0 0,.slice none 0 0,.slice none 0 0,.slice none 0 0]:Array Value).size:=Bw.info;have V1:w1.ownsRow B 53 14 (.slice a n cap) n xs:=by rw[<-hw1];exact hv.alloc _
 obtain⟨w2,hw2⟩:=pE (w1.alloc (.cells #[.int .i64 p,.int .i64 q,.int .i64 k,.int .i64 nd,.int .i64 0,.int .i64 0,.int .i64 0,.int .i64 0,.slice none 0 0,.slice none 0 0,.slice none 0 0,.slice none 0 0,.slice none 0 0,.slice none 0 0] 53));have B2:=pB hw2;have N2:=pH hw2;have V2:Hid (w2.ownsRow B 53 14 (.slice a n cap) n xs):=by show World.ownsRow _ _ _ _ _ _ _;rw[<-hw2];exact V1.alloc _
 have hlt1:=(Array.getElem?_eq_some_iff.1 N1).1;have N12:w2.heap[w.heap.size]? =some (.cells (Bw.leaf k nd) 32 (0,0)):=(B2.block _ hlt1).trans N1;have hu:=Tryz.underlying32;have HN:Hid (∀j u,(#[.int .i64 p,.int .i64 q,.int .i64 k,.int .i64 nd,.int .i64 0,.int .i64 0,.int .i64 0,.int .i64 0,.slice none 0 0,.slice none 0 0,.slice none 0 0,.slice none 0 0,.slice none 0 0,.slice none 0 0]:Array Value).toList[j]? =some u->w2.cell? ((⟨w1.heap.size,0,none⟩:Addr).add j)=some u):=World.news_of_block N2
 have HO:Hid (∀u∈(#[.int .i64 p,.int .i64 q,.int .i64 k,.int .i64 nd,.int .i64 0,.int .i64 0,.int .i64 0,.int .i64 0,.slice none 0 0,.slice none 0 0,.slice none 0 0,.slice none 0 0,.slice none 0 0,.slice none 0 0]:Array Value).toList,u.oneCell'=true):=by
  intro u hu';have h:(#[.int .i64 p,.int .i64 q,.int .i64 k,.int .i64 nd,.int .i64 0,.int .i64 0,.int .i64 0,.int .i64 0,.slice none 0 0,.slice none 0 0,.slice none 0 0,.slice none 0 0,.slice none 0 0,.slice none 0 0]:Array Value).toList.all (·.oneCell')=true:=by kernel_rfl
  exact List.all_eq_true.1 h u hu'
 have HW:Hid (Below w.heap.size w w2/\w.heap.size<w2.heap.size/\w2.heap[w.heap.size]? =some (.cells (Bw.leaf k nd) 32 (0,0))/\B<=w.heap.size):=⟨B1.trans (B2.mono B1.size),by have:=B2.size;omega,N12,hB⟩;have HB:Hid (∀k,(Value.slice a n cap).ownBlock=some k->k<w.heap.size):=λk h=>(World.ownsRow.lt hv k h).2;have H1:Hid _:=hw1;have H2:Hid _:=hw2;clear hv hw1 hw2 B1 B2 N12 V1 hlt1 hB;show Calls _ _ #[.slice a n cap,.int .i64 p,.int .i64 q,.agg #[.int .i64 k,.int .i64 nd,.int .i64 0,.int .i64 0,.int .i64 0,.int .i64 0,.slice none 0 0,.slice none 0 0,.slice none 0 0,.slice none 0 0,.slice none 0 0,.slice none 0 0]] _ _
 go_enter Tryz.func31,Tryz.ntmps31
 go_upto_region 2 with fail
 rw[H1.out];clear H1
 go_wp2_with (first
  |refine wpList_load_row rfl 32 _ rfl _ rfl 32 _ (0,0) _ N1 hu rfl hlf ?_
  |(at_builtin;rw[H2.out];refine wpList_append_lies _ rfl _ _ 47 rfl B 53 i0 (.agg #[.int .i64 0,.int .i64 0,.int .i64 0,.int .i64 0,.int .i64 0,.int .i64 0,.int .i64 0,.int .i64 0,.slice none 0 0,.slice none 0 0,.slice none 0 0,.slice none 0 0,.slice none 0 0,.slice none 0 0]) 14 208 Tryz.underlying47 hi hz0 hz1 hz2 rfl (by decide) (.slice a n cap) n xs rfl V2.out ⟨w1.heap.size,0,none⟩ 1 1 (#[.int .i64 p,.int .i64 q,.int .i64 k,.int .i64 nd,.int .i64 0,.int .i64 0,.int .i64 0,.int .i64 0,.slice none 0 0,.slice none 0 0,.slice none 0 0,.slice none 0 0,.slice none 0 0,.slice none 0 0]:Array Value).toList rfl rfl HN.out HO.out (by decide) ?c3 ?c4 ?c5 _ rfl ?_))
 case c3=>unfold maxLen;omega
 case c4=>omega
 case c5=>have:=HW.out.2.1;have:=HW.out.2.2.2;omega
 intro g c W3 own3 g3 hg hlt;have B3:Below B w2 W3:=Rk.below_grown (Below.refl _ _) (by have:=HW.out.2.1;have:=HW.out.2.2.2;omega) V2.out g3;have HE:Hid (Bw.Own B (n+1) (.slice (some ⟨g,0,none⟩) (n+1) c) (xs++Bw.item p q (Bw.leaf k nd)) W3/\Below B w W3):=⟨own3,(HW.out.1.mono HW.out.2.2.2).trans B3⟩;have N3:W3.heap[w.heap.size]? =some (.cells #[.int .i64 k,.int .i64 nd,.int .i64 0,.int .i64 0,.int .i64 0,.int .i64 0,.slice none 0 0,.slice none 0 0,.slice none 0 0,.slice none 0 0,.slice none 0 0,.slice none 0 0] 32 (0,0)):=(g3.block _ HW.out.2.1 (λe=>by have:=HB.out _ e.symm;omega)).trans HW.out.2.2.1;have k8:W3.cell? ⟨w.heap.size,8,none⟩=some (.slice none 0 0):=by simp[World.cell?,N3]
 clear own3 g3 hg hlt B3 N1 N2 N3 H2 V2 HN HO HW HB hi hz0 hz1 hz2;go_wp2;refine wp_loop_rounds 1 ?_;rw[rounds_succ];go_wp2;go_ret;exact⟨g,c,rfl,HE.out⟩
theorem Tryz.bwList_root (K cap:Nat)(k1 n1 k2 n2:Int)(w:World)(hT:Bw.Two K k1 n1 k2 n2 w)(hK:K<w.heap.size):
  Calls Tryz.prog 31 #[.slice none 0 0,.int .i64 (-1),.int .i64 0,.agg (Bw.root K cap)] w λe w'=>∃g c,e=.returned (.slice (some ⟨g,0,none⟩) 3 c)/\Bw.Own w.heap.size 3 (.slice (some ⟨g,0,none⟩) 3 c) (((Bw.item (-1) 0 (Bw.root K cap))++Bw.item 0 0 (Bw.leaf k1 n1))++Bw.item 0 1 (Bw.leaf k2 n2)) w'/\Below w.heap.size w w':=by
 obtain⟨i0,hi,hz0,hz1,hz2⟩:=info_parts Bw.infoItem;obtain⟨w1,hw1⟩:=pE (w.alloc (.cells #[.int .i64 6,.int .i64 0,.int .i64 0,.int .i64 0,.int .i64 0,.int .i64 0,.slice none 0 0,.slice none 0 0,.slice (some ⟨K,0,none⟩) 2 cap,.slice none 0 0,.slice none 0 0,.slice none 0 0] 32));have B1:=pB hw1;have N1:w1.heap[w.heap.size]? =some (.cells #[.int .i64 6,.int .i64 0,.int .i64 0,.int .i64 0,.int .i64 0,.int .i64 0,.slice none 0 0,.slice none 0 0,.slice (some ⟨K,0,none⟩) 2 cap,.slice none 0 0,.slice none 0 0,.slice none 0 0] 32 (0,0)):=pH hw1;have hlf:(Tryz.prog.info? 32).map (·.size)=some (#[.int .i64 6,.int .i64 0,.int .i64 0,.int .i64 0,.int .i64 0,.int .i64 0,.slice none 0 0,.slice none 0 0,.slice (some ⟨K,0,none⟩) 2 cap,.slice none 0 0,.slice none 0 0,.slice none 0 0]:Array Value).size:=Bw.info;obtain⟨w2,hw2⟩:=pE (w1.alloc (.cells #[.int .i64 (-1),.int .i64 0,.int .i64 6,.int .i64 0,.int .i64 0,.int .i64 0,.int .i64 0,.int .i64 0,.slice none 0 0,.slice none 0 0,.slice (some ⟨K,0,none⟩) 2 cap,.slice none 0 0,.slice none 0 0,.slice none 0 0] 53));have B2:=pB hw2;have N2:=pH hw2;have V2:Hid (w2.ownsRow w.heap.size 53 14 (.slice none 0 0) 0 []):=World.ownsRow_nil _ _ _ _;have hlt1:=(Array.getElem?_eq_some_iff.1 N1).1
 have N12:w2.heap[w.heap.size]? =some (.cells #[.int .i64 6,.int .i64 0,.int .i64 0,.int .i64 0,.int .i64 0,.int .i64 0,.slice none 0 0,.slice none 0 0,.slice (some ⟨K,0,none⟩) 2 cap,.slice none 0 0,.slice none 0 0,.slice none 0 0] 32 (0,0)):=(B2.block _ hlt1).trans N1;have hu:=Tryz.underlying32;have hi1:(Tryz.prog.info? 32).map (·.size)=some (Bw.leaf k1 n1).toList.length:=Bw.info;have hi2:(Tryz.prog.info? 32).map (·.size)=some (Bw.leaf k2 n2).toList.length:=Bw.info;have HN:Hid (∀j u,(#[.int .i64 (-1),.int .i64 0,.int .i64 6,.int .i64 0,.int .i64 0,.int .i64 0,.int .i64 0,.int .i64 0,.slice none 0 0,.slice none 0 0,.slice (some ⟨K,0,none⟩) 2 cap,.slice none 0 0,.slice none 0 0,.slice none 0 0]:Array Value).toList[j]? =some u->w2.cell? ((⟨w1.heap.size,0,none⟩:Addr).add j)=some u):=World.news_of_block N2
 have HO:Hid (∀u∈(#[.int .i64 (-1),.int .i64 0,.int .i64 6,.int .i64 0,.int .i64 0,.int .i64 0,.int .i64 0,.int .i64 0,.slice none 0 0,.slice none 0 0,.slice (some ⟨K,0,none⟩) 2 cap,.slice none 0 0,.slice none 0 0,.slice none 0 0]:Array Value).toList,u.oneCell'=true):=by
  intro u hu';have h:(#[.int .i64 (-1),.int .i64 0,.int .i64 6,.int .i64 0,.int .i64 0,.int .i64 0,.int .i64 0,.int .i64 0,.slice none 0 0,.slice none 0 0,.slice (some ⟨K,0,none⟩) 2 cap,.slice none 0 0,.slice none 0 0,.slice none 0 0]:Array Value).toList.all (·.oneCell')=true:=by kernel_rfl
  exact List.all_eq_true.1 h u hu'
 have HW:Hid (Below w.heap.size w w2/\w.heap.size<w2.heap.size/\w2.heap[w.heap.size]? =some (.cells #[.int .i64 6,.int .i64 0,.int .i64 0,.int .i64 0,.int .i64 0,.int .i64 0,.slice none 0 0,.slice none 0 0,.slice (some ⟨K,0,none⟩) 2 cap,.slice none 0 0,.slice none 0 0,.slice none 0 0] 32 (0,0))):=⟨B1.trans (B2.mono B1.size),by have:=B2.size;omega,N12⟩;have HT:Hid (∀W,Below w.heap.size w W->Bw.Two K k1 n1 k2 n2 W):=λW hb=>hT.keep (hb.block K hK);have H1:Hid _:=hw1;have H2:Hid _:=hw2;clear hw1 hw2 B1 B2 N12 hlt1 hT;show Calls _ _ #[.slice none 0 0,.int .i64 (-1),.int .i64 0,.agg #[.int .i64 6,.int .i64 0,.int .i64 0,.int .i64 0,.int .i64 0,.int .i64 0,.slice none 0 0,.slice none 0 0,.slice (some ⟨K,0,none⟩) 2 cap,.slice none 0 0,.slice none 0 0,.slice none 0 0]] _ _
 go_enter Tryz.func31,Tryz.ntmps31
 go_upto_region 2 with fail
 rw[H1.out];clear H1
 go_wp2_with (first
  |refine wpList_load_row rfl 32 _ rfl _ rfl 32 _ (0,0) _ N1 hu rfl hlf ?_
  |(at_builtin;rw[H2.out];refine wpList_append_lies _ rfl _ _ 47 rfl w.heap.size 53 i0 (.agg #[.int .i64 0,.int .i64 0,.int .i64 0,.int .i64 0,.int .i64 0,.int .i64 0,.int .i64 0,.int .i64 0,.slice none 0 0,.slice none 0 0,.slice none 0 0,.slice none 0 0,.slice none 0 0,.slice none 0 0]) 14 208 Tryz.underlying47 hi hz0 hz1 hz2 rfl (by decide) (.slice none 0 0) 0 [] rfl V2.out ⟨w1.heap.size,0,none⟩ 1 1 (#[.int .i64 (-1),.int .i64 0,.int .i64 6,.int .i64 0,.int .i64 0,.int .i64 0,.int .i64 0,.int .i64 0,.slice none 0 0,.slice none 0 0,.slice (some ⟨K,0,none⟩) 2 cap,.slice none 0 0,.slice none 0 0,.slice none 0 0]:Array Value).toList rfl rfl HN.out HO.out (by decide) ?c3 (by omega) ?c5 _ rfl ?_))
 case c3=>unfold maxLen;omega
 case c5=>have:=HW.out.2.1;omega
 intro g c W3 own3 g3 hg hlt;have B3:Below w.heap.size w2 W3:=Rk.below_grown (Below.refl _ _) (by have:=HW.out.2.1;omega) V2.out g3;have QW3:Hid (Bw.Own w.heap.size 1 (.slice (some ⟨g,0,none⟩) 1 c) (Bw.item (-1) 0 (Bw.root K cap)) W3/\Below w.heap.size w W3):=⟨own3,HW.out.1.trans B3⟩;have N3:W3.heap[w.heap.size]? =some (.cells #[.int .i64 6,.int .i64 0,.int .i64 0,.int .i64 0,.int .i64 0,.int .i64 0,.slice none 0 0,.slice none 0 0,.slice (some ⟨K,0,none⟩) 2 cap,.slice none 0 0,.slice none 0 0,.slice none 0 0] 32 (0,0)):=(g3.block _ HW.out.2.1 (λe=>by simp[Value.ownBlock]at e)).trans HW.out.2.2;have k8:W3.cell? ⟨w.heap.size,8,none⟩=some (.slice (some ⟨K,0,none⟩) 2 cap):=by simp[World.cell?,N3]
 clear own3 g3 hg hlt B3 N1 N2 N3 H2 V2 HN HO HW hi hz0 hz1 hz2;go_wp2;refine wp_loop_rounds 3 ?_;rw[rounds_succ];have R1:=(HT.out W3 QW3.out.2).1;have NZ1:(W3.alloc (.cells #[.int .i64 0,.int .i64 0,.int .i64 0,.int .i64 0,.int .i64 0,.int .i64 0,.slice none 0 0,.slice none 0 0,.slice none 0 0,.slice none 0 0,.slice none 0 0,.slice none 0 0] 32)).heap[W3.heap.size]? =some (.cells #[.int .i64 0,.int .i64 0,.int .i64 0,.int .i64 0,.int .i64 0,.int .i64 0,.slice none 0 0,.slice none 0 0,.slice none 0 0,.slice none 0 0,.slice none 0 0,.slice none 0 0] 32 (0,0)):=heap_alloc_new W3 _;obtain⟨v1,hv1⟩:=pE ((W3.alloc (.cells #[.int .i64 0,.int .i64 0,.int .i64 0,.int .i64 0,.int .i64 0,.int .i64 0,.slice none 0 0,.slice none 0 0,.slice none 0 0,.slice none 0 0,.slice none 0 0,.slice none 0 0] 32)).setRow W3.heap.size (Bw.leaf k1 n1));have Nv1:v1.heap[W3.heap.size]? =some (.cells (Bw.leaf k1 n1) 32 (0,0)):=by rw[<-hv1];exact setRow_heap _ _ _ _ _ _ NZ1
 have Bv1:Below W3.heap.size W3 v1:=by rw[<-hv1];exact Tk.below_row ((Below.refl _ W3).alloc (Nat.le_refl _) _) (Nat.le_refl _) _
 have Qv1:Hid (Bw.Own w.heap.size 1 (.slice (some ⟨g,0,none⟩) 1 c) (Bw.item (-1) 0 (Bw.root K cap)) v1/\Below w.heap.size w v1):=⟨World.ownsRow.kept (row:=none) QW3.out.1 ⟨Bv1.os,Bv1.tape,Bv1.output,Bv1.size,λk hk _=>Bv1.block k hk⟩ (.inr (by simp[Value.ownBlock])),QW3.out.2.trans (Bv1.mono QW3.out.2.size)⟩;have Hv1:Hid _:=hv1;clear hv1 Bv1
 go_upto_region 6 with(first
  |refine wpList_load_mid rfl 32 _ rfl K 0 rfl (Bw.leaf k1 n1).toList _ R1 hu rfl hi1 ?_
  |refine wpList_store_row rfl 32 _ _ rfl W3.heap.size (Bw.leaf k1 n1) rfl rfl 32 _ NZ1 Bw.info (Bw.zero_size.trans (Bw.leaf_size _ _).symm) (Bw.leaf_one _ _) ?_)
 rw[Hv1.out]
 go_wp2_with (refine wpList_load_row rfl 32 _ rfl _ rfl 32 _ (0,0) _ Nv1 hu rfl Bw.info ?_)
 refine Calls.mono (Tryz.bwList_leaf k1 n1 0 0 w.heap.size 1 _ _ (Bw.item (-1) 0 (Bw.root K cap)) v1 Qv1.out.1 (by decide) Qv1.out.2.size) ?_;rintro e u1 ⟨g1,c1,rfl,o1,t1⟩;have Qu1:Hid (Bw.Own w.heap.size 2 (.slice (some ⟨g1,0,none⟩) 2 c1) ((Bw.item (-1) 0 (Bw.root K cap))++Bw.item 0 0 (Bw.leaf k1 n1)) u1/\Below w.heap.size w u1):=⟨o1,Qv1.out.2.trans t1⟩;clear o1 t1 Hv1 Nv1 NZ1 R1;go_wp2;rw[rounds_succ];have R2:=(HT.out u1 Qu1.out.2).2;have NZ2:(u1.alloc (.cells #[.int .i64 0,.int .i64 0,.int .i64 0,.int .i64 0,.int .i64 0,.int .i64 0,.slice none 0 0,.slice none 0 0,.slice none 0 0,.slice none 0 0,.slice none 0 0,.slice none 0 0] 32)).heap[u1.heap.size]? =some (.cells #[.int .i64 0,.int .i64 0,.int .i64 0,.int .i64 0,.int .i64 0,.int .i64 0,.slice none 0 0,.slice none 0 0,.slice none 0 0,.slice none 0 0,.slice none 0 0,.slice none 0 0] 32 (0,0)):=heap_alloc_new u1 _;obtain⟨v2,hv2⟩:=pE ((u1.alloc (.cells #[.int .i64 0,.int .i64 0,.int .i64 0,.int .i64 0,.int .i64 0,.int .i64 0,.slice none 0 0,.slice none 0 0,.slice none 0 0,.slice none 0 0,.slice none 0 0,.slice none 0 0] 32)).setRow u1.heap.size (Bw.leaf k2 n2));have Nv2:v2.heap[u1.heap.size]? =some (.cells (Bw.leaf k2 n2) 32 (0,0)):=by rw[<-hv2];exact setRow_heap _ _ _ _ _ _ NZ2
 have Bv2:Below u1.heap.size u1 v2:=by rw[<-hv2];exact Tk.below_row ((Below.refl _ u1).alloc (Nat.le_refl _) _) (Nat.le_refl _) _
 have Qv2:Hid (Bw.Own w.heap.size 2 (.slice (some ⟨g1,0,none⟩) 2 c1) ((Bw.item (-1) 0 (Bw.root K cap))++Bw.item 0 0 (Bw.leaf k1 n1)) v2/\Below w.heap.size w v2):=⟨World.ownsRow.kept (row:=none) Qu1.out.1 ⟨Bv2.os,Bv2.tape,Bv2.output,Bv2.size,λk hk _=>Bv2.block k hk⟩ (.inr (by simp[Value.ownBlock])),Qu1.out.2.trans (Bv2.mono Qu1.out.2.size)⟩;have Hv2:Hid _:=hv2;clear hv2 Bv2
 go_upto_region 6 with(first
  |refine wpList_load_mid rfl 32 _ rfl K 12 rfl (Bw.leaf k2 n2).toList _ R2 hu rfl hi2 ?_
  |refine wpList_store_row rfl 32 _ _ rfl u1.heap.size (Bw.leaf k2 n2) rfl rfl 32 _ NZ2 Bw.info (Bw.zero_size.trans (Bw.leaf_size _ _).symm) (Bw.leaf_one _ _) ?_)
 rw[Hv2.out]
 go_wp2_with (refine wpList_load_row rfl 32 _ rfl _ rfl 32 _ (0,0) _ Nv2 hu rfl Bw.info ?_)
 refine Calls.mono (Tryz.bwList_leaf k2 n2 0 1 w.heap.size 2 _ _ ((Bw.item (-1) 0 (Bw.root K cap))++Bw.item 0 0 (Bw.leaf k1 n1)) v2 Qv2.out.1 (by decide) Qv2.out.2.size) ?_;rintro e u2 ⟨g2,c2,rfl,o2,t2⟩;have Qu2:Hid (Bw.Own w.heap.size 3 (.slice (some ⟨g2,0,none⟩) 3 c2) (((Bw.item (-1) 0 (Bw.root K cap))++Bw.item 0 0 (Bw.leaf k1 n1))++Bw.item 0 1 (Bw.leaf k2 n2)) u2/\Below w.heap.size w u2):=⟨o2,Qv2.out.2.trans t2⟩;clear o2 t2 Hv2 Nv2 NZ2 R2;go_wp2;rw[rounds_succ];go_wp2;go_ret;exact⟨g2,c2,rfl,Qu2.out⟩
def Bw.At (g o:Nat)(r:Array Value)(W:World):Prop:=∃cur T,W.heap[g]? =some (.cells cur T (0,0))/\∀i,i<12->cur[o+i]? =r[i]?
theorem Bw.At.lt {g o:Nat}{r:Array Value}{W:World}(h:Bw.At g o r W):g<W.heap.size:=by
 obtain⟨cur,T,h1,_⟩:=h;exact(Array.getElem?_eq_some_iff.1 h1).1
theorem Bw.At.cell {g o:Nat}{r:Array Value}{W:World}(h:Bw.At g o r W)(i:Nat)(hi:i<12):W.cell? ⟨g,o+i,none⟩=r[i]? :=by
 obtain⟨cur,T,h1,h2⟩:=h;simp only[World.cell?,h1];exact h2 i hi
theorem Bw.At.frozen {g o:Nat}{r:Array Value}{W:World}(h:Bw.At g o r W)(i:Nat):W.frozen? ⟨g,i,none⟩=false:=by
 obtain⟨cur,T,h1,h2⟩:=h;simp[World.frozen?,h1]
theorem Bw.At.keep {g o:Nat}{r:Array Value}{W W':World}(h:Bw.At g o r W)(hk:W'.heap[g]? =W.heap[g]?):Bw.At g o r W':=by
 obtain⟨cur,T,h1,h2⟩:=h;exact⟨cur,T,hk.trans h1,h2⟩
theorem Bw.same {W:World}{g i:Nat}{v:Value}{cur:Array Value}{T:TypeId}{fr:Nat×Nat}(h:W.heap[g]? =some (.cells cur T fr))(hv:cur[i]? =some v):W.setCell ⟨g,i,none⟩ v=W:=by
 have hc:cur.setIfInBounds i v=cur:=by
  refine Array.ext_getElem? λk=> ?_;rw[Array.getElem?_setIfInBounds]
  split
  ·rename_i e
   subst e
   split
   ·exact hv.symm
   rename_i hn
   rw[Array.getElem?_eq_none (by omega)]
  rfl
 have hh:(W.setCell ⟨g,i,none⟩ v).heap=W.heap:=by
  refine Array.ext_getElem? λk=> ?_;unfold World.setCell;rw[Array.getElem?_modify]
  split
  ·rename_i e
   subst e;simp[h,hc]
  rfl
 calc W.setCell ⟨g,i,none⟩ v= {W with heap:=(W.setCell ⟨g,i,none⟩ v).heap} :=rfl
  _=W:=by rw[hh]
theorem Bw.At.same {g o:Nat}{r:Array Value}{W:World}(h:Bw.At g o r W){i:Nat}(hi:i<12){v:Value}(hv:r[i]? =some v):W.setCell ⟨g,o+i,none⟩ v=W:=by
 obtain⟨cur,T,h1,h2⟩:=h;exact Bw.same h1 ((h2 i hi).trans hv)
theorem Bw.At.put {g o:Nat}{r:Array Value}{W:World}(h:Bw.At g o r W)(i:Nat)(hi:i<12)(hr:r.size=12)(v:Value):Bw.At g o (r.setIfInBounds i v) (W.setCell ⟨g,o+i,none⟩ v):=by
 obtain⟨cur,T,h1,h2⟩:=h;refine⟨cur.setIfInBounds (o+i) v,T,by simp[World.setCell,Array.getElem?_modify,h1],λj hj=> ?_⟩;have h3:=h2 j hj;have h4:=h2 i hi
 have hl:o+i<cur.size:=by
  rw[Array.getElem?_eq_getElem (by omega:i<r.size)]at h4;exact(Array.getElem?_eq_some_iff.1 h4).1
 rw[Array.getElem?_setIfInBounds,Array.getElem?_setIfInBounds]
 by_cases q:i=j
 ·subst q
  simp[hl,hr,hi]
 rw[if_neg (by omega),if_neg q];exact h3
theorem Bw.At.put_other {g o:Nat}{r:Array Value}{W:World}(h:Bw.At g o r W)(p:Nat)(hp:p<o∨o+12<=p)(v:Value):Bw.At g o r (W.setCell ⟨g,p,none⟩ v):=by
 obtain⟨cur,T,h1,h2⟩:=h;refine⟨cur.setIfInBounds p v,T,by simp[World.setCell,Array.getElem?_modify,h1],λj hj=> ?_⟩;rw[Array.getElem?_setIfInBounds,if_neg (by omega)];exact h2 j hj
theorem Bw.At.of_take {g n:Nat}{cur:Array Value}{T:TypeId}{W:World}{xs:List Value}(h:W.heap[g]? =some (.cells cur T (0,0)))(hx:cur.toList.take n=xs)(o:Nat)(r:Array Value)(hr:∀i,i<12->xs[o+i]? =r[i]?)(ho:o+12<=n):Bw.At g o r W:=by
 refine⟨cur,T,h,λi hi=> ?_⟩;rw[<-hr i hi,<-hx,List.getElem?_take,if_pos (by omega)]
 simp
theorem Bw.infoPtr:(Tryz.prog.info? 96).map (λi=>(i.zero,i.size,i.bytes))=some (some (.pointer none),1,8):=by kernel_rfl
theorem Tryz.bwOwn_leaf (g o:Nat)(k nd:Int)(B n cap:Nat)(a:Option Addr)(xs:List Value)(w:World)(hA:Bw.At g o (Bw.leaf k nd) w)(hv:w.ownsRow B 96 1 (.slice a n cap) n xs)(hn:n<=100)(hB:B<=w.heap.size)(hg:∀b,(Value.slice a n cap).ownBlock=some b->b≠g):
  Calls Tryz.prog 55 #[.pointer (some ⟨g,o,none⟩),.slice a n cap] w λe w'=>∃g' c,e=.returned (.slice (some ⟨g',0,none⟩) (n+1) c)/\w'.ownsRow B 96 1 (.slice (some ⟨g',0,none⟩) (n+1) c) (n+1) (xs++ [.pointer (some ⟨g,o+4,none⟩)])/\w.grownBy w' (Value.slice a n cap).ownBlock/\((Value.slice a n cap).ownBlock=some g'∨w.heap.size<=g'):=by
 have c7:w.cell? ⟨g,o+7,none⟩=some (.slice none 0 0):=hA.cell 7 (by decide);have c8:w.cell? ⟨g,o+8,none⟩=some (.slice none 0 0):=hA.cell 8 (by decide);have c9:w.cell? ⟨g,o+9,none⟩=some (.slice none 0 0):=hA.cell 9 (by decide);have f7:w.drew.frozen? ⟨g,o+7,none⟩=false:=hA.frozen (o+7);have f8:w.drew.frozen? ⟨g,o+8,none⟩=false:=hA.frozen (o+8);have f9:w.drew.frozen? ⟨g,o+9,none⟩=false:=hA.frozen (o+9);have e7:w.drew.cell? ⟨g,o+7,none⟩=some (.slice none 0 0):=c7;have e8:w.drew.cell? ⟨g,o+8,none⟩=some (.slice none 0 0):=c8;have e9:w.drew.cell? ⟨g,o+9,none⟩=some (.slice none 0 0):=c9;have hs7:w.drew.setCell ⟨g,o+7,none⟩ (.slice none 0 0)=w.drew:=(hA.keep (W':=w.drew) rfl).same (by decide) rfl;have hs8:w.drew.setCell ⟨g,o+8,none⟩ (.slice none 0 0)=w.drew:=(hA.keep (W':=w.drew) rfl).same (by decide) rfl;have hs9:w.drew.setCell ⟨g,o+9,none⟩ (.slice none 0 0)=w.drew:=(hA.keep (W':=w.drew) rfl).same (by decide) rfl;have HS:Hid (w.cell? ⟨g,o+7,none⟩=some (.slice none 0 0)/\w.cell? ⟨g,o+8,none⟩=some (.slice none 0 0)/\w.cell? ⟨g,o+9,none⟩=some (.slice none 0 0)):=⟨c7,c8,c9⟩
 go_enter Tryz.func55,Tryz.ntmps55
 go_upto_region 1 with fail
 refine wp_region_held_drew (S:=(λV=>V.cell? ⟨g,o+7,none⟩=some (.slice none 0 0)/\V.cell? ⟨g,o+8,none⟩=some (.slice none 0 0)/\V.cell? ⟨g,o+9,none⟩=some (.slice none 0 0))) (by kernel_rfl) ?_ (λhHeld=> ?_)
 ·exact HS.out
 refine Nt.takeS (v:= ?va0) 0 9 rfl rfl (by kernel_rfl) (by kernel_rfl) (by kernel_rfl) (λ_ _ _ h=>h) (Or.inl ⟨by rfl, ?ya0⟩) hHeld ?ra0
 case ya0=>(intro w hSw;(try dsimp only at hSw);go_simp;all_goals (with_reducible rfl))
 simp only[List.set_cons_succ,List.set_cons_zero];refine Nt.takeS (v:= ?va1) 1 10 rfl rfl (by kernel_rfl) (by kernel_rfl) (by kernel_rfl) (λ_ _ _ h=>h) (Or.inl ⟨by rfl, ?ya1⟩) hHeld ?ra1
 case ya1=>(intro w hSw;(try dsimp only at hSw);go_simp;all_goals (with_reducible rfl))
 simp only[List.set_cons_succ,List.set_cons_zero];refine Nt.takeS (v:= ?va2) 2 11 rfl rfl (by kernel_rfl) (by kernel_rfl) (by kernel_rfl) (λ_ _ _ h=>h) (Or.inl ⟨by rfl, ?ya2⟩) hHeld ?ra2
 case ya2=>(intro w hSw;(try dsimp only at hSw);go_simp;all_goals (with_reducible rfl))
 simp only[List.set_cons_succ,List.set_cons_zero];refine Nt.takeS (v:= ?va3) 3 12 rfl rfl (by kernel_rfl) (by kernel_rfl) (by kernel_rfl) (λ_ _ _ h=>h) (Or.inl ⟨by rfl, ?ya3⟩) hHeld ?ra3
 case ya3=>(intro w hSw;(try dsimp only at hSw);go_simp;all_goals (with_reducible rfl))
 simp only[List.set_cons_succ,List.set_cons_zero];refine Nt.takeS (v:= ?va4) 4 13 rfl rfl (by kernel_rfl) (by kernel_rfl) (by kernel_rfl) (λ_ _ _ h=>h) (Or.inl ⟨by rfl, ?ya4⟩) hHeld ?ra4
 case ya4=>(intro w hSw;(try dsimp only at hSw);go_simp;all_goals (with_reducible rfl))
 simp only[List.set_cons_succ,List.set_cons_zero];refine Nt.takeS (v:= ?va5) 5 14 rfl rfl (by kernel_rfl) (by kernel_rfl) (by kernel_rfl) (λ_ _ _ h=>h) (Or.inl ⟨by rfl, ?ya5⟩) hHeld ?ra5
 case ya5=>(intro w hSw;(try dsimp only at hSw);go_simp;all_goals (with_reducible rfl))
 simp only[List.set_cons_succ,List.set_cons_zero];refine Nt.takeS (v:= ?va6) 6 15 rfl rfl (by kernel_rfl) (by kernel_rfl) (by kernel_rfl) (λ_ _ _ h=>h) (Or.inl ⟨by rfl, ?ya6⟩) hHeld ?ra6
 case ya6=>(intro w hSw;(try dsimp only at hSw);go_simp;all_goals (with_reducible rfl))
 simp only[List.set_cons_succ,List.set_cons_zero];refine Nt.takeS (v:= ?va8) 8 17 rfl rfl (by kernel_rfl) (by kernel_rfl) (by kernel_rfl) (λ_ _ _ h=>h) (Or.inl ⟨by rfl, ?ya8⟩) hHeld ?ra8
 case ya8=>(intro w hSw;(try dsimp only at hSw);go_simp;all_goals (with_reducible rfl))
 simp only[List.set_cons_succ,List.set_cons_zero];refine Nt.takeS (v:= ?va9) 9 18 rfl rfl (by kernel_rfl) (by kernel_rfl) (by kernel_rfl) (λ_ _ _ h=>h) (Or.inl ⟨by rfl, ?ya9⟩) hHeld ?ra9
 case ya9=>(intro w hSw;(try dsimp only at hSw);go_simp;all_goals (with_reducible rfl))
 simp only[List.set_cons_succ,List.set_cons_zero];refine Nt.takeS (v:= ?va10) 10 19 rfl rfl (by kernel_rfl) (by kernel_rfl) (by kernel_rfl) (λ_ _ _ h=>h) (Or.inl ⟨by rfl, ?ya10⟩) hHeld ?ra10
 case ya10=>(intro w hSw;(try dsimp only at hSw);go_simp;all_goals (with_reducible rfl))
 simp only[List.set_cons_succ,List.set_cons_zero];refine Nt.takeS (v:= ?va11) 11 20 rfl rfl (by kernel_rfl) (by kernel_rfl) (by kernel_rfl) (λ_ _ _ h=>h) (Or.inl ⟨by rfl, ?ya11⟩) hHeld ?ra11
 case ya11=>(intro w hSw;(try dsimp only at hSw);go_simp;all_goals (with_reducible rfl))
 simp only[List.set_cons_succ,List.set_cons_zero];refine Nt.takeS (v:= ?va13) 13 22 rfl rfl (by kernel_rfl) (by kernel_rfl) (by kernel_rfl) (λ_ _ _ h=>h) (Or.inl ⟨by rfl, ?ya13⟩) hHeld ?ra13
 case ya13=>(intro w hSw;(try dsimp only at hSw);go_simp;all_goals (with_reducible rfl))
 simp only[List.set_cons_succ,List.set_cons_zero];refine Nt.takeS (v:= ?va14) 14 23 rfl rfl (by kernel_rfl) (by kernel_rfl) (by kernel_rfl) (λ_ _ _ h=>h) (Or.inl ⟨by rfl, ?ya14⟩) hHeld ?ra14
 case ya14=>(intro w hSw;(try dsimp only at hSw);go_simp;all_goals (with_reducible rfl))
 simp only[List.set_cons_succ,List.set_cons_zero];refine Nt.takeS (v:= ?va15) 15 24 rfl rfl (by kernel_rfl) (by kernel_rfl) (by kernel_rfl) (λ_ _ _ h=>h) (Or.inl ⟨by rfl, ?ya15⟩) hHeld ?ra15
 case ya15=>(intro w hSw;(try dsimp only at hSw);go_simp;all_goals (with_reducible rfl))
 simp only[List.set_cons_succ,List.set_cons_zero];refine Nt.takeS (v:= ?va16) 16 25 rfl rfl (by kernel_rfl) (by kernel_rfl) (by kernel_rfl) (λ_ _ _ h=>h) (Or.inl ⟨by rfl, ?ya16⟩) hHeld ?ra16
 case ya16=>(intro w hSw;(try dsimp only at hSw);go_simp;all_goals (with_reducible rfl))
 simp only[List.set_cons_succ,List.set_cons_zero];refine wpAnyH_ready (rs:= [7]) (by kernel_rfl) (by simp) ?_;refine AllReadyH.cons rfl (λK hK=> ?_) AllReadyH.nil;go_simp
 go_at_call 80
 refine Calls.mono (Tryz.cloneTerm_nil _ 0) ?_;rintro e' W' ⟨rfl,hw⟩;obtain rfl:=hw.symm
 go_wp2_with fail
 refine hK.out _ _ ?_ (λhT7=> ?_)
 ·exact HS.out
 clear hK K
 first|refine Nt.normS 16 rfl ?_|skip
 first|(simp only[List.set_cons_succ,List.set_cons_zero])|skip
 refine wpAnyH_ready (rs:= [12]) (by kernel_rfl) (by simp) ?_;refine AllReadyH.cons rfl (λK hK=> ?_) AllReadyH.nil;go_simp
 go_at_call 81
 refine Calls.mono (Tryz.cloneAct_nil _ 0) ?_;rintro e' W' ⟨rfl,hw⟩;obtain rfl:=hw.symm
 go_wp2_with fail
 refine hK.out _ _ ?_ (λhT12=> ?_)
 ·exact HS.out
 clear hK K
 first|refine Nt.normS 21 rfl ?_|skip
 first|(simp only[List.set_cons_succ,List.set_cons_zero])|skip
 refine wpAnyH_ready (rs:= [17]) (by kernel_rfl) (by simp) ?_;refine AllReadyH.cons rfl (λK hK=> ?_) AllReadyH.nil;go_simp
 go_at_call 82
 refine Calls.mono (Tryz.cloneLink_nil _ 0) ?_;rintro e' W' ⟨rfl,hw⟩;obtain rfl:=hw.symm
 go_wp2_with fail
 refine hK.out _ _ ?_ (λhT17=> ?_)
 ·exact HS.out
 clear hK K
 first|refine Nt.normS 26 rfl ?_|skip
 first|(simp only[List.set_cons_succ,List.set_cons_zero])|skip
 refine Nt.takeS (v:= ?vb18) 18 27 rfl rfl (by kernel_rfl) (by kernel_rfl) (by kernel_rfl) (λ_ _ _ h=>h) (Or.inl ⟨by rfl, ?yb18⟩) hT17 ?rb18
 case yb18=>(intro w hSw;(try dsimp only at hSw);go_simp;all_goals (with_reducible rfl))
 simp only[List.set_cons_succ,List.set_cons_zero];refine Nt.takeS (v:= ?vb19) 19 28 rfl rfl (by kernel_rfl) (by kernel_rfl) (by kernel_rfl) (λ_ _ _ h=>h) (Or.inl ⟨by rfl, ?yb19⟩) hT17 ?rb19
 case yb19=>(intro w hSw;(try dsimp only at hSw);go_simp;all_goals (with_reducible rfl))
 simp only[List.set_cons_succ,List.set_cons_zero];refine wpAnyH_ready (rs:= [20]) (by kernel_rfl) (by simp) ?_;refine AllReadyH.cons rfl (λK hK=> ?_) AllReadyH.nil;go_simp;refine hK.out _ _ ?_ (λhT20=> ?_)
 ·exact HS.out
 clear hK K;refine Nt.takeS (v:= ?vc21) 21 29 rfl rfl (by kernel_rfl) (by kernel_rfl) (by kernel_rfl) (λ_ _ _ h=>h) (Or.inl ⟨by rfl, ?yc21⟩) hT20 ?rc21
 case yc21=>(intro w hSw;(try dsimp only at hSw);go_simp;all_goals (with_reducible rfl))
 simp only[List.set_cons_succ,List.set_cons_zero];refine Nt.takeS (v:= ?vc22) 22 30 rfl rfl (by kernel_rfl) (by kernel_rfl) (by kernel_rfl) (λ_ _ _ h=>h) (Or.inl ⟨by rfl, ?yc22⟩) hT20 ?rc22
 case yc22=>(intro w hSw;(try dsimp only at hSw);go_simp;all_goals (with_reducible rfl))
 simp only[List.set_cons_succ,List.set_cons_zero];refine wpAnyH_ready (rs:= [23]) (by kernel_rfl) (by simp) ?_;refine AllReadyH.cons rfl (λK hK=> ?_) AllReadyH.nil;go_simp;refine hK.out _ _ ?_ (λhT23=> ?_)
 ·exact HS.out
 clear hK K;refine Nt.takeS (v:= ?vd24) 24 31 rfl rfl (by kernel_rfl) (by kernel_rfl) (by kernel_rfl) (λ_ _ _ h=>h) (Or.inl ⟨by rfl, ?yd24⟩) hT23 ?rd24
 case yd24=>(intro w hSw;(try dsimp only at hSw);go_simp;all_goals (with_reducible rfl))
 simp only[List.set_cons_succ,List.set_cons_zero];refine Nt.takeS (v:= ?vd25) 25 32 rfl rfl (by kernel_rfl) (by kernel_rfl) (by kernel_rfl) (λ_ _ _ h=>h) (Or.inl ⟨by rfl, ?yd25⟩) hT23 ?rd25
 case yd25=>(intro w hSw;(try dsimp only at hSw);go_simp;all_goals (with_reducible rfl))
 simp only[List.set_cons_succ,List.set_cons_zero];refine wpAnyH_ready (rs:= [26]) (by kernel_rfl) (by simp) ?_;refine AllReadyH.cons rfl (λK hK=> ?_) AllReadyH.nil;go_simp;refine hK.out _ _ ?_ (λhT26=> ?_)
 ·exact HS.out
 clear hK K;refine wpAnyH_done (by kernel_rfl) ?_ _;have HA:Hid (Bw.At g o (Bw.leaf k nd) w):=hA;obtain⟨wd,hwd⟩:=pE w.drew;rw[hwd];have HD:Hid (wd.heap=w.heap/\wd.os=w.os/\wd.tape=w.tape/\wd.output=w.output):=by rw[<-hwd];exact⟨rfl,rfl,rfl,rfl⟩
 have hAd:Bw.At g o (Bw.leaf k nd) wd:=hA.keep (by rw[HD.out.1]);have HS2:Hid (wd.cell? ⟨g,o+10,none⟩=some (.slice none 0 0)/\wd.cell? ⟨g,o+11,none⟩=some (.slice none 0 0)):=⟨hAd.cell 10 (by decide),hAd.cell 11 (by decide)⟩;have e10:wd.drew.cell? ⟨g,o+10,none⟩=some (.slice none 0 0):=HS2.out.1;have e11:wd.drew.cell? ⟨g,o+11,none⟩=some (.slice none 0 0):=HS2.out.2;have f10:wd.drew.frozen? ⟨g,o+10,none⟩=false:=hAd.frozen (o+10);have f11:wd.drew.frozen? ⟨g,o+11,none⟩=false:=hAd.frozen (o+11);have hs10:wd.drew.setCell ⟨g,o+10,none⟩ (.slice none 0 0)=wd.drew:=(hAd.keep (W':=wd.drew) rfl).same (by decide) rfl;have hs11:wd.drew.setCell ⟨g,o+11,none⟩ (.slice none 0 0)=wd.drew:=(hAd.keep (W':=wd.drew) rfl).same (by decide) rfl;clear c7 c8 c9 f7 f8 f9 e7 e8 e9 hs7 hs8 hs9 hwd hT7 hT12 hT17 hT20 hT23 hT26 hHeld hA HS
 go_upto_region 2 with fail
 refine wp_region_held_drew (S:=(λV=>V.cell? ⟨g,o+10,none⟩=some (.slice none 0 0)/\V.cell? ⟨g,o+11,none⟩=some (.slice none 0 0))) (by kernel_rfl) ?_ (λhHeld=> ?_)
 ·exact HS2.out
 refine Nt.takeS (v:= ?ve0) 0 33 rfl rfl (by kernel_rfl) (by kernel_rfl) (by kernel_rfl) (λ_ _ _ h=>h) (Or.inl ⟨by rfl, ?ye0⟩) hHeld ?re0
 case ye0=>(intro w hSw;(try dsimp only at hSw);go_simp;all_goals (with_reducible rfl))
 simp only[List.set_cons_succ,List.set_cons_zero];refine Nt.takeS (v:= ?ve1) 1 34 rfl rfl (by kernel_rfl) (by kernel_rfl) (by kernel_rfl) (λ_ _ _ h=>h) (Or.inl ⟨by rfl, ?ye1⟩) hHeld ?re1
 case ye1=>(intro w hSw;(try dsimp only at hSw);go_simp;all_goals (with_reducible rfl))
 simp only[List.set_cons_succ,List.set_cons_zero];refine Nt.takeS (v:= ?ve2) 2 35 rfl rfl (by kernel_rfl) (by kernel_rfl) (by kernel_rfl) (λ_ _ _ h=>h) (Or.inl ⟨by rfl, ?ye2⟩) hHeld ?re2
 case ye2=>(intro w hSw;(try dsimp only at hSw);go_simp;all_goals (with_reducible rfl))
 simp only[List.set_cons_succ,List.set_cons_zero];refine Nt.takeS (v:= ?ve3) 3 36 rfl rfl (by kernel_rfl) (by kernel_rfl) (by kernel_rfl) (λ_ _ _ h=>h) (Or.inl ⟨by rfl, ?ye3⟩) hHeld ?re3
 case ye3=>(intro w hSw;(try dsimp only at hSw);go_simp;all_goals (with_reducible rfl))
 simp only[List.set_cons_succ,List.set_cons_zero];refine Nt.takeS (v:= ?ve4) 4 37 rfl rfl (by kernel_rfl) (by kernel_rfl) (by kernel_rfl) (λ_ _ _ h=>h) (Or.inl ⟨by rfl, ?ye4⟩) hHeld ?re4
 case ye4=>(intro w hSw;(try dsimp only at hSw);go_simp;all_goals (with_reducible rfl))
 simp only[List.set_cons_succ,List.set_cons_zero];refine Nt.takeS (v:= ?ve5) 5 38 rfl rfl (by kernel_rfl) (by kernel_rfl) (by kernel_rfl) (λ_ _ _ h=>h) (Or.inl ⟨by rfl, ?ye5⟩) hHeld ?re5
 case ye5=>(intro w hSw;(try dsimp only at hSw);go_simp;all_goals (with_reducible rfl))
 simp only[List.set_cons_succ,List.set_cons_zero];refine Nt.takeS (v:= ?ve7) 7 40 rfl rfl (by kernel_rfl) (by kernel_rfl) (by kernel_rfl) (λ_ _ _ h=>h) (Or.inl ⟨by rfl, ?ye7⟩) hHeld ?re7
 case ye7=>(intro w hSw;(try dsimp only at hSw);go_simp;all_goals (with_reducible rfl))
 simp only[List.set_cons_succ,List.set_cons_zero];refine Nt.takeS (v:= ?ve8) 8 41 rfl rfl (by kernel_rfl) (by kernel_rfl) (by kernel_rfl) (λ_ _ _ h=>h) (Or.inl ⟨by rfl, ?ye8⟩) hHeld ?re8
 case ye8=>(intro w hSw;(try dsimp only at hSw);go_simp;all_goals (with_reducible rfl))
 simp only[List.set_cons_succ,List.set_cons_zero];refine Nt.takeS (v:= ?ve9) 9 42 rfl rfl (by kernel_rfl) (by kernel_rfl) (by kernel_rfl) (λ_ _ _ h=>h) (Or.inl ⟨by rfl, ?ye9⟩) hHeld ?re9
 case ye9=>(intro w hSw;(try dsimp only at hSw);go_simp;all_goals (with_reducible rfl))
 simp only[List.set_cons_succ,List.set_cons_zero];refine Nt.takeS (v:= ?ve10) 10 43 rfl rfl (by kernel_rfl) (by kernel_rfl) (by kernel_rfl) (λ_ _ _ h=>h) (Or.inl ⟨by rfl, ?ye10⟩) hHeld ?re10
 case ye10=>(intro w hSw;(try dsimp only at hSw);go_simp;all_goals (with_reducible rfl))
 simp only[List.set_cons_succ,List.set_cons_zero];refine Nt.takeS (v:= ?ve11) 11 44 rfl rfl (by kernel_rfl) (by kernel_rfl) (by kernel_rfl) (λ_ _ _ h=>h) (Or.inl ⟨by rfl, ?ye11⟩) hHeld ?re11
 case ye11=>(intro w hSw;(try dsimp only at hSw);go_simp;all_goals (with_reducible rfl))
 simp only[List.set_cons_succ,List.set_cons_zero];refine wpAnyH_ready (rs:= [6]) (by kernel_rfl) (by simp) ?_;refine AllReadyH.cons rfl (λK hK=> ?_) AllReadyH.nil;go_simp
 go_at_call 83
 refine Calls.mono (Tryz.cloneNode_nil _ 0) ?_;rintro e' W' ⟨rfl,hw⟩;obtain rfl:=hw.symm
 go_wp2_with fail
 refine hK.out _ _ ?_ (λhT6=> ?_)
 ·exact HS2.out
 clear hK K
 first|refine Nt.normS 39 rfl ?_|skip
 first|(simp only[List.set_cons_succ,List.set_cons_zero])|skip
 refine wpAnyH_ready (rs:= [12]) (by kernel_rfl) (by simp) ?_;refine AllReadyH.cons rfl (λK hK=> ?_) AllReadyH.nil;go_simp
 go_at_call 84
 refine Calls.mono (Tryz.cloneFlow_nil _ 0) ?_;rintro e' W' ⟨rfl,hw⟩;obtain rfl:=hw.symm
 go_wp2_with fail
 refine hK.out _ _ ?_ (λhT12=> ?_)
 ·exact HS2.out
 clear hK K
 first|refine Nt.normS 45 rfl ?_|skip
 first|(simp only[List.set_cons_succ,List.set_cons_zero])|skip
 refine Nt.takeS (v:= ?vf13) 13 46 rfl rfl (by kernel_rfl) (by kernel_rfl) (by kernel_rfl) (λ_ _ _ h=>h) (Or.inl ⟨by rfl, ?yf13⟩) hT12 ?rf13
 case yf13=>(intro w hSw;(try dsimp only at hSw);go_simp;all_goals (with_reducible rfl))
 simp only[List.set_cons_succ,List.set_cons_zero];refine Nt.takeS (v:= ?vf14) 14 47 rfl rfl (by kernel_rfl) (by kernel_rfl) (by kernel_rfl) (λ_ _ _ h=>h) (Or.inl ⟨by rfl, ?yf14⟩) hT12 ?rf14
 case yf14=>(intro w hSw;(try dsimp only at hSw);go_simp;all_goals (with_reducible rfl))
 simp only[List.set_cons_succ,List.set_cons_zero];refine Nt.takeS (v:= ?vf15) 15 48 rfl rfl (by kernel_rfl) (by kernel_rfl) (by kernel_rfl) (λ_ _ _ h=>h) (Or.inl ⟨by rfl, ?yf15⟩) hT12 ?rf15
 case yf15=>(intro w hSw;(try dsimp only at hSw);go_simp;all_goals (with_reducible rfl))
 simp only[List.set_cons_succ,List.set_cons_zero];refine wpAnyH_ready (rs:= [16]) (by kernel_rfl) (by simp) ?_;refine AllReadyH.cons rfl (λK hK=> ?_) AllReadyH.nil;go_simp;refine hK.out _ _ ?_ (λhT16=> ?_)
 ·exact HS2.out
 clear hK K;refine wpAnyH_done (by kernel_rfl) ?_ _;obtain⟨wf,hwf⟩:=pE wd.drew;rw[hwf];have HDf:Hid (wf.heap=w.heap/\wf.os=w.os/\wf.tape=w.tape/\wf.output=w.output):=by rw[<-hwf];exact HD.out
 have HVf:Hid (wf.ownsRow B 96 1 (.slice a n cap) n xs):=World.ownsRow.kept (row:=none) hv ⟨HDf.out.2.1,HDf.out.2.2.1,HDf.out.2.2.2,by rw[HDf.out.1];exact Nat.le_refl _,λk _ _=>by rw[HDf.out.1]⟩ (by cases (Value.slice a n cap).ownBlock<;>simp);obtain⟨i0,hi,hz0,hz1,hz2⟩:=info_parts Bw.infoPtr;obtain⟨wg,hwg⟩:=pE (wf.alloc (.cells #[.pointer (some ⟨g,o+4,none⟩)] 96));have Ng:=pH hwg;have Bg:=pB hwg;have HVg:Hid (wg.ownsRow B 96 1 (.slice a n cap) n xs):=by show World.ownsRow _ _ _ _ _ _ _;rw[<-hwg];exact HVf.out.alloc _
 have HN:Hid (∀j u,(#[.pointer (some ⟨g,o+4,none⟩)]:Array Value).toList[j]? =some u->wg.cell? ((⟨wf.heap.size,0,none⟩:Addr).add j)=some u):=World.news_of_block Ng
 have HO:Hid (∀u∈(#[.pointer (some ⟨g,o+4,none⟩)]:Array Value).toList,u.oneCell'=true):=by
  intro u hu;obtain rfl:=List.mem_singleton.1 hu;rfl
 have hlt:=HA.out.lt;have HG:Hid (Below w.heap.size w wg/\g<w.heap.size/\B<=w.heap.size/\n<=100/\(∀b,(Value.slice a n cap).ownBlock=some b->b≠g)):=⟨⟨Bg.os.trans HDf.out.2.1,Bg.tape.trans HDf.out.2.2.1,Bg.output.trans HDf.out.2.2.2,by have:=Bg.size;rw[HDf.out.1]at this;exact this,λk hk=>(Bg.block k (by rw[HDf.out.1];exact hk)).trans (by rw[HDf.out.1])⟩,hlt,hB,hn,hg⟩;have H1:Hid _:=hwg;clear hwf hwg Ng Bg hv hlt HS2 e10 e11 f10 f11 hs10 hs11 hT6 hT12 hT16 hAd HD hg hB hHeld
 go_upto_region 4 with(at_builtin;rw[H1.out];refine wpList_append_lies _ rfl _ _ 92 rfl B 96 i0 (.pointer none) 1 8 Tryz.underlying92 hi hz0 hz1 hz2 rfl (by decide) (.slice a n cap) n xs rfl HVg.out ⟨wf.heap.size,0,none⟩ 1 1 (#[.pointer (some ⟨g,o+4,none⟩)]:Array Value).toList rfl rfl HN.out HO.out (by decide) ?c3 ?c4 ?c5 _ rfl ?_)
 case c3=>unfold maxLen;omega
 case c4=>omega
 case c5=>have:=HG.out.1.size;have:=HG.out.2.2.1;omega
 intro g' c W3 own3 g3 hg' hlt3;have hk3:W3.heap[g]? =w.heap[g]? :=(g3.block g (by have:=HG.out.1.size;have:=HG.out.2.1;omega) (λe=>HG.out.2.2.2.2 g e.symm rfl)).trans (HG.out.1.block g HG.out.2.1);have hA3:Bw.At g o (Bw.leaf k nd) W3:=HA.out.keep hk3;have p7:W3.cell? ⟨g,o+7,none⟩=some (.slice none 0 0):=hA3.cell 7 (by decide);have p8:W3.cell? ⟨g,o+8,none⟩=some (.slice none 0 0):=hA3.cell 8 (by decide);have p10:W3.cell? ⟨g,o+10,none⟩=some (.slice none 0 0):=hA3.cell 10 (by decide);have p11:W3.cell? ⟨g,o+11,none⟩=some (.slice none 0 0):=hA3.cell 11 (by decide)
 have HE:Hid (W3.ownsRow B 96 1 (.slice (some ⟨g',0,none⟩) (n+1) c) (n+1) (xs++ [.pointer (some ⟨g,o+4,none⟩)])/\w.grownBy W3 (Value.slice a n cap).ownBlock/\((Value.slice a n cap).ownBlock=some g'∨w.heap.size<=g')):=
  ⟨own3,⟨g3.os.trans HG.out.1.os,g3.tape.trans HG.out.1.tape,g3.output.trans HG.out.1.output,Nat.le_trans HG.out.1.size g3.size,λk hk he=>(g3.block k (Nat.lt_of_lt_of_le hk HG.out.1.size) he).trans (HG.out.1.block k hk)⟩,hg'.imp id λe=>by rw[e];exact HG.out.1.size⟩
 clear own3 g3 hg' hlt3 hk3 hA3 hi hz0 hz1 hz2 H1 HN HO HVg HVf HDf HA HG;go_wp2;refine wp_loop_rounds 1 ?_;rw[rounds_succ];go_wp2;refine wp_loop_rounds 1 ?_;rw[rounds_succ];go_wp2;refine wp_loop_rounds 1 ?_;rw[rounds_succ];go_wp2;refine wp_loop_rounds 1 ?_;rw[rounds_succ];go_wp2;go_ret;exact⟨g',c,rfl,HE.out⟩
def Rk.Bits (w:World)(g:Nat)(bs:List Bool):Prop:=w.heap[g]? =some (.cells (bs.map Value.bool).toArray 4 (0,0))
theorem Rk.Bits.lt {w:World}{g:Nat}{bs:List Bool}(h:Rk.Bits w g bs):g<w.heap.size:=(Array.getElem?_eq_some_iff.1 h).1
theorem Rk.Bits.cell {w:World}{g:Nat}{bs:List Bool}(h:Rk.Bits w g bs)(j:Nat)(b:Bool)(hj:bs[j]? =some b):w.cell? ⟨g,j,none⟩=some (.bool b):=by
 unfold Rk.Bits at h;simp[World.cell?,h,hj]
theorem Rk.Bits.frozen {w:World}{g:Nat}{bs:List Bool}(h:Rk.Bits w g bs)(j:Nat):w.frozen? ⟨g,j,none⟩=false:=by
 unfold Rk.Bits at h;simp[World.frozen?,h]
theorem Rk.Bits.put {w:World}{g:Nat}{bs:List Bool}(h:Rk.Bits w g bs)(j:Nat)(b:Bool):Rk.Bits (w.setCell ⟨g,j,none⟩ (.bool b)) g (bs.set j b):=by
 unfold Rk.Bits at*;simp[World.setCell,Array.getElem?_modify,h]
theorem Rk.Bits.keep {w w':World}{g:Nat}{bs:List Bool}(h:Rk.Bits w g bs)(hk:w'.heap[g]? =w.heap[g]?):Rk.Bits w' g bs:=by unfold Rk.Bits;rw[hk];exact h
theorem Tryz.infoBool:(Tryz.prog.info? 4).map (λi=>(i.zero,i.size,i.bytes))=some (some (.bool false),1,1):=by kernel_rfl
theorem Nt.box2' {W:World}{b:Nat}{v u:Value}{t:TypeId}(h:W.heap[b]? =some (.cells #[v,u] t (0,0))):W.cell? ⟨b,0,none⟩=some v/\W.cell? ⟨b,1,none⟩=some u:=⟨by simp[World.cell?,h],by simp[World.cell?,h]⟩
def Rk.row (n:Nat):Array Value:=((List.replicate n false).map Value.bool).toArray
theorem Rk.make_bools (n:Nat)(hn:n<=64)(w:World):(Instr.makeSlice 156 (.int .i64 (n:Int)) (.int .i64 (n:Int))).run Tryz.prog w=.ok (.slice (some ⟨w.heap.size,0,none⟩) n n) (w.alloc (.cells (Rk.row n) 4)):=by
 have h:=run_make_row' (P:=Tryz.prog) 156 4 (.bool false) 1 Tryz.underlying156 Tryz.infoBool rfl .i64 .i64 n (by omega) (by omega) w;rw[h,show madeCells #[Value.bool false] n=Rk.row n from ?_];apply Array.toList_inj.1;rw[toList_madeCells_one];simp[Rk.row]
theorem Rk.row_bits (w:World)(n:Nat):Rk.Bits (w.alloc (.cells (Rk.row n) 4)) w.heap.size (List.replicate n false):=heap_alloc_new w (.cells (Rk.row n) 4)
theorem Rk.drop_at {α:Type}(l:List α)(k:Nat)(h:k<l.length):l.drop k=l[k]::l.drop (k+1):=List.drop_eq_getElem_cons h
theorem Tryz.rReach_any (a0:Nat)(an:Option Addr)(cn:Nat)(af:Option Addr)(cf d:Nat)(ns:List Nd)(fs:List Fl)(w:World)(hH:Nt.Has w w.heap.size d an af ns fs)(hn24:ns.length<=24)(hes:∀f,f∈fs->0<=f.fr/\f.fr<ns.length/\0<=f.to/\f.to<ns.length)(ha:a0<ns.length):
  Calls Tryz.prog 113 #[.agg #[.slice an ns.length cn,.slice af fs.length cf],.int .i64 a0] w λe w'=>∃g,e=.returned (.slice (some ⟨g,0,none⟩) ns.length ns.length)/\w.heap.size<=g/\Rk.Bits w' g ((List.range ns.length).map (Rk.met (Nt.edges fs) a0))/\Below w.heap.size w w':=by
 obtain⟨w0,hw0⟩:=pE (w.alloc (.cells #[.slice an ns.length cn,.slice af fs.length cf] 30));have A0:=pB hw0
 have G0:w0.heap[w.heap.size]? =some (.cells #[.slice an ns.length cn,.slice af fs.length cf] 30 (0,0)):=by rw[<-hw0];exact heap_alloc_new w _
 have hs0:w0.heap.size=w.heap.size+1:=by rw[<-hw0];simp
 have hmet:=Nt.sweeps_met (Nt.edges_lt hes) ha;have hmk:=Rk.make_bools ns.length (by omega);obtain⟨es,hE⟩:=pE (Nt.edges fs);rw[hE]at hmet
 have HES:Hid (∀k (h:k<fs.length),∃x y:Nat,x<ns.length/\y<ns.length/\fs[k].fr=x/\fs[k].to=y/\es[k]? =some (x,y)):=λk hk=>by
  have:=hes _ (List.getElem_mem hk);refine⟨fs[k].fr.toNat,fs[k].to.toNat,by omega,by omega,by omega,by omega, ?_⟩;rw[<-hE,List.getElem?_eq_getElem (by rw[Nt.edges_length];exact hk),Nt.edges_get fs k hk]
 have hel:es.length=fs.length:=by rw[<-hE,Nt.edges_length]
 obtain⟨n,hnn⟩:=pE (ns.length);obtain⟨m,hmm⟩:=pE (fs.length);have HFL:Hid (Nt.Fls w w.heap.size d af fs):=hH.fls;have hm100:m<=100:=by have:=hH.flen;omega
 rw[hnn]at hn24 ha hmet hmk HES;rw[hnn,hmm]at hw0 G0;rw[hE,hnn,hmm];have ha':(a0:Int)<n:=by omega
 have ha0:(0:Int)<=a0:=by omega
 have H0:Hid (w.alloc (.cells #[.slice an n cn,.slice af m cf] 30)=w0):=hw0;obtain⟨w1,hw1⟩:=pE (w0.alloc (.cells (Rk.row n) 4));have X1:Rk.Bits w1 w0.heap.size (List.replicate n false):=by rw[<-hw1];exact Rk.row_bits w0 n
 have A1:Below w.heap.size w w1:=by rw[<-hw1];exact A0.alloc A0.size _
 have G1:w1.heap[w.heap.size]? =some (.cells #[.slice an n cn,.slice af m cf] 30 (0,0)):=by rw[<-hw1,Below.heap_alloc _ _ _ ((Array.getElem?_eq_some_iff.1 G0).1)];exact G0
 have k0:=X1.cell a0 false (by simp[ha]);have k1:=X1.frozen a0;have Y1:Rk.Bits (w1.setCell ⟨w0.heap.size,a0,none⟩ (.bool true)) w0.heap.size ((List.replicate n false).set a0 true):=X1.put a0 true;obtain⟨w2,hw2⟩:=pE (w1.setCell ⟨w0.heap.size,a0,none⟩ (.bool true));rw[hw2]at Y1
 -- what a world on the way holds
 have HK2:Hid (w2.heap[w.heap.size]? =some (.cells #[.slice an n cn,.slice af m cf] 30 (0,0))/\Below w.heap.size w w2/\Rk.Bits w2 w0.heap.size ((List.replicate n false).set a0 true)):=by
  refine⟨?_, ?_,Y1⟩
  ·rw[<-hw2,Below.heap_setCell _ _ _ _ (by show w.heap.size≠w0.heap.size;omega)];exact G1
  rw[<-hw2];exact A1.setCell (p:=⟨w0.heap.size,a0,none⟩) (by show w.heap.size<=w0.heap.size;omega) _
 have HW1:Hid (w0.alloc (.cells (Rk.row n) 4)=w1):=hw1;have HW2:Hid (w1.setCell ⟨w0.heap.size,a0,none⟩ (.bool true)=w2):=hw2;have HM:Hid (Rk.sweeps es n ((List.replicate n false).set a0 true)=(List.range n).map (Rk.met es a0)/\es.length=m/\w0.heap.size=w.heap.size+1/\fs.length=m):=⟨hmet,by omega,hs0,hmm⟩;obtain⟨p0,p1⟩:=Nt.box2' G0;obtain⟨p2,p3⟩:=Nt.box2' G1;obtain⟨b2,hb2⟩:=pE (w0.heap.size);have HB2:Hid (w0.heap.size=b2):=hb2;have hlt0:w.heap.size<w0.heap.size:=by omega
 clear hH hes hmet hE hel hnn hmm A0 G0 A1 G1 X1 Y1 hw0 hw1 hw2 hs0 hb2
 go_enter Tryz.func113,Tryz.ntmps113
 go_upto_region 1 with fail
 rw[H0.out]
 go_upto_region 2 with fail
 rw[HW1.out]
 go_upto_region 3 with fail
 rw[HW2.out];obtain⟨q0,q1⟩:=Nt.box2' HK2.out.1;clear p0 p1 p2 p3 k0 k1 hmk H0 HW1 HW2;rw[HB2.out];rw[HB2.out]at HK2 HM;go_wp2
 go_loopg [18] n (λgk s18 wr=>∃(j:Nat) (cur:List Bool),gk+j=n/\s18=.int .i64 j/\Hid (Rk.sweeps es (n-j) cur=(List.range n).map (Rk.met es a0)/\cur.length=n/\Rk.Bits wr b2 cur/\Below w.heap.size w wr/\wr.heap[w.heap.size]? =some (.cells #[.slice an n cn,.slice af m cf] 30 (0,0))))
 case atStart=>exact⟨0,_,by omega,rfl,HM.out.1,by simp,HK2.out.2.2,HK2.out.2.1,HK2.out.1⟩
 case round=>
  obtain⟨j,cur,hj,rfl,HI⟩:=hrel;clear q0 q1
  by_cases hlt:j<n
  rotate_left
  ·have hd:decide ((j:Int)<n)=false:=decide_eq_false (by omega)
   have HF:Hid (cur=(List.range n).map (Rk.met es a0)):=by
    show _=_;rw[<-HI.out.1,show n-j=0 by omega];rfl
   go_wp2;go_ret;exact⟨b2,rfl,by have:=HM.out.2.2.1;omega,by rw[<-HF.out];exact HI.out.2.2.1,HI.out.2.2.2.1⟩
  have hd:decide ((j:Int)<n)=true:=decide_eq_true (by omega);obtain⟨q0,q1⟩:=Nt.box2' HI.out.2.2.2.2
  have HSW:Hid (Rk.sweeps es (n-(j+1)) (Rk.sweep es cur)=(List.range n).map (Rk.met es a0)):=by
   show _=_;rw[<-HI.out.1,show n-j=(n-(j+1))+1 by omega,Rk.sweeps]
  obtain⟨g1,hg1⟩:=pE (gk);go_wp2
  go_loopg [23] m (λgk s23 wr=>∃(k:Nat) (cu2:List Bool),gk+k=m/\s23=.int .i64 k/\Hid (Rk.sweep (es.drop k) cu2=Rk.sweep es cur/\cu2.length=n/\Rk.Bits wr b2 cu2/\Below w.heap.size w wr/\wr.heap[w.heap.size]? =some (.cells #[.slice an n cn,.slice af m cf] 30 (0,0))))
  case atStart=>exact⟨0,cur,by omega,rfl,rfl,HI.out.2.1,HI.out.2.2.1,HI.out.2.2.2.1,HI.out.2.2.2.2⟩
  case round=>
   obtain⟨k,cu2,hk,rfl,HJ⟩:=hrel;clear q0 q1
   by_cases hlt2:k<m
   rotate_left
   ·have hd2:decide ((k:Int)<m)=false:=decide_eq_false (by omega)
    have HF:Hid (cu2=Rk.sweep es cur):=by
     show _=_;rw[<-HJ.out.1,List.drop_of_length_le (by rw[HM.out.2.1];omega)];rfl
    go_wp2;go_roundg (g1-1)
    case measure=>omega
    case rel=>exact⟨j+1,cu2,by omega,by go_num,by rw[HF.out];exact HSW.out,HJ.out.2.1,HJ.out.2.2.1,HJ.out.2.2.2.1,HJ.out.2.2.2.2⟩
   have hd2:decide ((k:Int)<m)=true:=decide_eq_true (by omega);have hkl:k<fs.length:=by rw[HM.out.2.2.2];exact hlt2
   obtain⟨q,off,u,rfl,hq,h0,h1,h2,h3,h4,h5,h6⟩:=HFL.out k hkl;obtain⟨x,y,hx,hy,hfx,hfy,hek⟩:=HES.out k hkl;obtain⟨au,cu,rfl⟩:=h6.shape;rw[hfx]at h0;rw[hfy]at h1;obtain⟨nu,hnu⟩:=pE (fs[k].c.ks.length);obtain⟨els,hel⟩:=pE (fs[k].els);obtain⟨op,hop⟩:=pE (fs[k].c.op);obtain⟨num,hnum⟩:=pE (fs[k].c.num);rw[hnu]at h5;rw[hel]at h2;rw[hop]at h3;rw[hnum]at h4;have hc:∀o,wr.cell? ⟨q,o,none⟩=w.cell? ⟨q,o,none⟩:=λo=>HJ.out.2.2.2.1.cell (p:=⟨q,o,none⟩) hq;have c0:=(hc _).trans h0;have c1:=(hc _).trans h1;have c2:=(hc _).trans h2;have c3:=(hc _).trans h3;have c4:=(hc _).trans h4;have c5:=(hc _).trans h5;have hx':(x:Int)<n:=by omega
   have hy':(y:Int)<n:=by omega
   have hx0:(0:Int)<=x:=by omega
   have hy0:(0:Int)<=y:=by omega
   have hz:b2<wr.heap.size:=HJ.out.2.2.1.lt;have hu:=Tryz.underlying64;obtain⟨b1,hb1⟩:∃b,cu2[x]? =some b:=⟨_,List.getElem?_eq_getElem (by rw[HJ.out.2.1];exact hx)⟩;obtain⟨b3,hb3⟩:∃b,cu2[y]? =some b:=⟨_,List.getElem?_eq_getElem (by rw[HJ.out.2.1];exact hy)⟩;have k1:=HJ.out.2.2.1.cell x b1 hb1;have k2:=HJ.out.2.2.1.cell y b3 hb3;have f2:=HJ.out.2.2.1.frozen y;have hbx:w.heap.size<wr.heap.size:=(Array.getElem?_eq_some_iff.1 HJ.out.2.2.2.2).1
   have HNX:Hid (Rk.sweep (es.drop (k+1)) (if b1=true then cu2.set y true else cu2)=Rk.sweep es cur):=by
    show _=_;rw[<-HJ.out.1,Rk.drop_at es k (by rw[HM.out.2.1];exact hlt2),Rk.sweep];obtain⟨hh,he⟩:=List.getElem?_eq_some_iff.1 hek;rw[he]
    congr 1
    simp only[hb1,Option.some.injEq]
   have HA:Hid (Rk.Bits (wr.alloc (.cells #[.int .i64 (x:Int),.int .i64 (y:Int),.bool els,.int .i64 op,.int .i64 num,.slice au nu cu] 64)) b2 cu2/\Below w.heap.size w (wr.alloc (.cells #[.int .i64 (x:Int),.int .i64 (y:Int),.bool els,.int .i64 op,.int .i64 num,.slice au nu cu] 64))/\(wr.alloc (.cells #[.int .i64 (x:Int),.int .i64 (y:Int),.bool els,.int .i64 op,.int .i64 num,.slice au nu cu] 64)).heap[w.heap.size]? =some (.cells #[.slice an n cn,.slice (some ⟨q,off,none⟩) m cf] 30 (0,0))):=
    ⟨HJ.out.2.2.1.keep (Below.heap_alloc _ _ _ hz),HJ.out.2.2.2.1.alloc HJ.out.2.2.2.1.size _,by rw[Below.heap_alloc _ _ _ hbx];exact HJ.out.2.2.2.2⟩
   have hne:w.heap.size≠b2:=by have:=HM.out.2.2.1;omega
   have HS:Hid (Rk.Bits ((wr.setCell ⟨b2,y,none⟩ (.bool true)).alloc (.cells #[.int .i64 (x:Int),.int .i64 (y:Int),.bool els,.int .i64 op,.int .i64 num,.slice au nu cu] 64)) b2 (cu2.set y true)/\Below w.heap.size w ((wr.setCell ⟨b2,y,none⟩ (.bool true)).alloc (.cells #[.int .i64 (x:Int),.int .i64 (y:Int),.bool els,.int .i64 op,.int .i64 num,.slice au nu cu] 64))/\((wr.setCell ⟨b2,y,none⟩ (.bool true)).alloc (.cells #[.int .i64 (x:Int),.int .i64 (y:Int),.bool els,.int .i64 op,.int .i64 num,.slice au nu cu] 64)).heap[w.heap.size]? =some (.cells #[.slice an n cn,.slice (some ⟨q,off,none⟩) m cf] 30 (0,0))):=
    ⟨(HJ.out.2.2.1.put y true).keep (Below.heap_alloc _ _ _ (by simpa using hz)),(HJ.out.2.2.2.1.setCell (p:=⟨b2,y,none⟩) (by show w.heap.size<=b2;have:=HM.out.2.2.1;omega) _).alloc (by simpa using HJ.out.2.2.2.1.size) _,by rw[Below.heap_alloc _ _ _ (by simpa using hbx),Below.heap_setCell _ _ _ _ hne];exact HJ.out.2.2.2.2⟩
   clear h0 h1 h2 h3 h4 h5 h6 hc hnu hel hop hnum hq hfx hfy hek hb1 hb3
   cases b1
   ·go_wp2
    go_roundg (gk-1)
    case measure=>omega
    case rel=>exact⟨k+1,_,by omega,by go_num,HNX.out,HJ.out.2.1,HA.out.1,HA.out.2.1,HA.out.2.2⟩
   go_wp2;go_roundg (gk-1)
   case measure=>omega
   case rel=>exact⟨k+1,_,by omega,by go_num,HNX.out,by simpa using HJ.out.2.1,HS.out.1,HS.out.2.1,HS.out.2.2⟩
end Go.Proofs
namespace Go.Proofs
namespace Dd
structure Inv (ls kk:List (Int×Int))(s:List Int):Prop where
 len:s.length=104
 lv:∀i,i<40->0<=s.getD i 0/\s.getD i 0<=if i<ls.length then 2 else 0
 kv:∀k,k<64->0<=s.getD (40+k) 0/\s.getD (40+k) 0<=if k<kk.length then 3 else 0
 lo:∀i f,(ls[i]?).map Prod.fst=some ((f:Nat):Int)->(s.getD i 0=0↔s.getD (40+f) 0<2)
 out:∀i,(ls[i]?).map Prod.fst=some (-1)->s.getD i 0=1
 gt:∀k,s.getD (40+k) 0=1->¬Auto kk k
 skip:∀i f,(ls[i]?).map Prod.fst=some ((f:Nat):Int)->s.getD (40+f) 0=3->s.getD i 0=2
 done:∀i f,(ls[i]?).map Prod.fst=some ((f:Nat):Int)->s.getD (40+f) 0=2->(gateB kk f=true->doesI kk f≠3)->s.getD i 0=1
 fate:∀k,k<kk.length->s.getD (40+k) 0≠0->∃p,scan ls s k ls.length=some p/\(Dies kk k p->s.getD (40+k) 0=3)/\(¬Dies kk k p->Auto kk k->s.getD (40+k) 0=2)/\(¬Dies kk k p->¬Auto kk k->s.getD (40+k) 0=1∨s.getD (40+k) 0=2)
structure Web (ls kk:List (Int×Int)):Prop where
 l40:ls.length<=40
 k64:kk.length<=64
 fr:∀(i:Nat) (x:Int),(ls[i]?).map Prod.fst=some x->x= -1∨∃f:Nat,x=f/\f<kk.length
structure Kept (ls kk:List (Int×Int))(s t:List Int):Prop where
 l:∀i,i<40->s.getD i 0≠0->t.getD i 0=s.getD i 0
 k:∀k,k<64->s.getD (40+k) 0≠0->t.getD (40+k) 0=s.getD (40+k) 0
 d:∀k,k<64->¬Auto kk k->t.getD (40+k) 0=2->s.getD (40+k) 0=2
def Calm (ls kk:List (Int×Int))(s:List Int):Prop:=∀k,k<kk.length->s.getD (40+k) 0≠0∨scan ls s k ls.length=none
end Dd
end Go.Proofs
