import Derived.Test.YtenaelpdnccgnaaGreatDoorRBwRes
import Derived.Deep.AppendLies
import Derived.Test.YtenaelpdnccgnaaGreatDoorRAcPairs
set_option maxRecDepth 100000
set_option maxHeartbeats 32000000
namespace Go.Proofs
open Go.RowKit Go.Shelf
def Bw.item (p a:Int)(r:Array Value):List Value:=.int .i64 p::.int .i64 a::r.toList
theorem Bw.infoItem:(Tryz.prog.info? 53).map (λi=>(i.zero,i.size,i.bytes))=some (some (.agg #[.int .i64 0,.int .i64 0,.int .i64 0,.int .i64 0,.int .i64 0,.int .i64 0,.int .i64 0,.int .i64 0,.slice none 0 0,.slice none 0 0,.slice none 0 0,.slice none 0 0,.slice none 0 0,.slice none 0 0]),14,208):=by kernel_rfl
def Bw.Own (B n:Nat)(v:Value)(xs:List Value)(W:World):Prop:=W.ownsRow B 53 14 v n xs
theorem Tryz.bwList_leaf (k nd p q:Int)(B n cap:Nat)(a:Option Addr)(xs:List Value)(w:World)(hv:Bw.Own B n (.slice a n cap) xs w)(hn:n<=100)(hB:B<=w.heap.size):
  Calls Tryz.prog 31 #[.slice a n cap,.int .i64 p,.int .i64 q,.agg (Bw.leaf k nd)] w λe w'=>∃g c,e=.returned (.slice (some ⟨g,0,none⟩) (n+1) c)/\Bw.Own B (n+1) (.slice (some ⟨g,0,none⟩) (n+1) c) (xs++Bw.item p q (Bw.leaf k nd)) w'/\Below B w w':=by
 obtain⟨i0,hi,hz0,hz1,hz2⟩:=info_parts Bw.infoItem;obtain⟨w1,hw1⟩:=pE (w.alloc (.cells #[.int .i64 k,.int .i64 nd,.int .i64 0,.int .i64 0,.int .i64 0,.int .i64 0,.slice none 0 0,.slice none 0 0,.slice none 0 0,.slice none 0 0,.slice none 0 0,.slice none 0 0] 32));have B1:=pB hw1;have N1:w1.heap[w.heap.size]? =some (.cells #[.int .i64 k,.int .i64 nd,.int .i64 0,.int .i64 0,.int .i64 0,.int .i64 0,.slice none 0 0,.slice none 0 0,.slice none 0 0,.slice none 0 0,.slice none 0 0,.slice none 0 0] 32 (0,0)):=pH hw1;have hlf:(Tryz.prog.info? 32).map (·.size)=some (#[.int .i64 k,.int .i64 nd,.int .i64 0,.int .i64 0,.int .i64 0,.int .i64 0,.slice none 0 0,.slice none 0 0,.slice none 0 0,.slice none 0 0,.slice none 0 0,.slice none 0 0]:Array Value).size:=Bw.info;have V1:w1.ownsRow B 53 14 (.slice a n cap) n xs:=by rw[<-hw1];exact hv.alloc _
 obtain⟨w2,hw2⟩:=pE (w1.alloc (.cells #[.int .i64 p,.int .i64 q,.int .i64 k,.int .i64 nd,.int .i64 0,.int .i64 0,.int .i64 0,.int .i64 0,.slice none 0 0,.slice none 0 0,.slice none 0 0,.slice none 0 0,.slice none 0 0,.slice none 0 0] 53));have B2:=pB hw2;have N2:=pH hw2;have V2:Hid (w2.ownsRow B 53 14 (.slice a n cap) n xs):=by show World.ownsRow _ _ _ _ _ _ _;rw[<-hw2];exact V1.alloc _
 have hlt1:=(Array.getElem?_eq_some_iff.1 N1).1;have N12:w2.heap[w.heap.size]? =some (.cells (Bw.leaf k nd) 32 (0,0)):=(B2.block _ hlt1).trans N1;have hu:=Tryz.underlying32;have HN:Hid (∀j u,(#[.int .i64 p,.int .i64 q,.int .i64 k,.int .i64 nd,.int .i64 0,.int .i64 0,.int .i64 0,.int .i64 0,.slice none 0 0,.slice none 0 0,.slice none 0 0,.slice none 0 0,.slice none 0 0,.slice none 0 0]:Array Value).toList[j]? =some u->w2.cell? ((⟨w1.heap.size,0,none⟩:Addr).add j)=some u):=World.news_of_block N2
 have HO:Hid (∀u∈(#[.int .i64 p,.int .i64 q,.int .i64 k,.int .i64 nd,.int .i64 0,.int .i64 0,.int .i64 0,.int .i64 0,.slice none 0 0,.slice none 0 0,.slice none 0 0,.slice none 0 0,.slice none 0 0,.slice none 0 0]:Array Value).toList,u.oneCell'=true):=by
  intro u hu';have h:(#[.int .i64 p,.int .i64 q,.int .i64 k,.int .i64 nd,.int .i64 0,.int .i64 0,.int .i64 0,.int .i64 0,.slice none 0 0,.slice none 0 0,.slice none 0 0,.slice none 0 0,.slice none 0 0,.slice none 0 0]:Array Value).toList.all (·.oneCell')=true:=by kernel_rfl
  exact List.all_eq_true.1 h u hu'
 have HW:Hid (Below w.heap.size w w2/\w.heap.size<w2.heap.size/\w2.heap[w.heap.size]? =some (.cells (Bw.leaf k nd) 32 (0,0))/\B<=w.heap.size):=⟨B1.trans (B2.mono B1.size),by have:=B2.size;omega,N12,hB⟩;have HB:Hid (∀k,(Value.slice a n cap).ownBlock=some k->k<w.heap.size):=λk h=>(World.ownsRow.lt hv k h).2;have H1:Hid _:=hw1;have H2:Hid _:=hw2;clear hv hw1 hw2 B1 B2 N12 V1 hlt1 hB;show Calls _ _ #[.slice a n cap,.int .i64 p,.int .i64 q,.agg #[.int .i64 k,.int .i64 nd,.int .i64 0,.int .i64 0,.int .i64 0,.int .i64 0,.slice none 0 0,.slice none 0 0,.slice none 0 0,.slice none 0 0,.slice none 0 0,.slice none 0 0]] _ _
 go_enter Tryz.func31,Tryz.ntmps31
 go_upto_region 2 with fail
 rw[H1.out];clear H1
 go_wp2_with (first
  |refine wpList_load_row rfl 32 _ rfl _ rfl 32 _ (0,0) _ N1 hu rfl hlf ?_
  |(at_builtin;rw[H2.out];refine wpList_append_lies _ rfl _ _ 47 rfl B 53 i0 (.agg #[.int .i64 0,.int .i64 0,.int .i64 0,.int .i64 0,.int .i64 0,.int .i64 0,.int .i64 0,.int .i64 0,.slice none 0 0,.slice none 0 0,.slice none 0 0,.slice none 0 0,.slice none 0 0,.slice none 0 0]) 14 208 Tryz.underlying47 hi hz0 hz1 hz2 rfl (by decide) (.slice a n cap) n xs rfl V2.out ⟨w1.heap.size,0,none⟩ 1 1 (#[.int .i64 p,.int .i64 q,.int .i64 k,.int .i64 nd,.int .i64 0,.int .i64 0,.int .i64 0,.int .i64 0,.slice none 0 0,.slice none 0 0,.slice none 0 0,.slice none 0 0,.slice none 0 0,.slice none 0 0]:Array Value).toList rfl rfl HN.out HO.out (by decide) ?c3 ?c4 ?c5 _ rfl ?_))
 case c3=>unfold maxLen;omega
 case c4=>omega
 case c5=>have:=HW.out.2.1;have:=HW.out.2.2.2;omega
 intro g c W3 own3 g3 hg hlt;have B3:Below B w2 W3:=Rk.below_grown (Below.refl _ _) (by have:=HW.out.2.1;have:=HW.out.2.2.2;omega) V2.out g3;have HE:Hid (Bw.Own B (n+1) (.slice (some ⟨g,0,none⟩) (n+1) c) (xs++Bw.item p q (Bw.leaf k nd)) W3/\Below B w W3):=⟨own3,(HW.out.1.mono HW.out.2.2.2).trans B3⟩;have N3:W3.heap[w.heap.size]? =some (.cells #[.int .i64 k,.int .i64 nd,.int .i64 0,.int .i64 0,.int .i64 0,.int .i64 0,.slice none 0 0,.slice none 0 0,.slice none 0 0,.slice none 0 0,.slice none 0 0,.slice none 0 0] 32 (0,0)):=(g3.block _ HW.out.2.1 (λe=>by have:=HB.out _ e.symm;omega)).trans HW.out.2.2.1;have k8:W3.cell? ⟨w.heap.size,8,none⟩=some (.slice none 0 0):=by simp[World.cell?,N3]
 clear own3 g3 hg hlt B3 N1 N2 N3 H2 V2 HN HO HW HB hi hz0 hz1 hz2;go_wp2;refine wp_loop_rounds 1 ?_;rw[rounds_succ];go_wp2;go_ret;exact⟨g,c,rfl,HE.out⟩
theorem Tryz.bwList_root (K cap:Nat)(k1 n1 k2 n2:Int)(w:World)(hT:Bw.Two K k1 n1 k2 n2 w)(hK:K<w.heap.size):
  Calls Tryz.prog 31 #[.slice none 0 0,.int .i64 (-1),.int .i64 0,.agg (Bw.root K cap)] w λe w'=>∃g c,e=.returned (.slice (some ⟨g,0,none⟩) 3 c)/\Bw.Own w.heap.size 3 (.slice (some ⟨g,0,none⟩) 3 c) (((Bw.item (-1) 0 (Bw.root K cap))++Bw.item 0 0 (Bw.leaf k1 n1))++Bw.item 0 1 (Bw.leaf k2 n2)) w'/\Below w.heap.size w w':=by
 obtain⟨i0,hi,hz0,hz1,hz2⟩:=info_parts Bw.infoItem;obtain⟨w1,hw1⟩:=pE (w.alloc (.cells #[.int .i64 6,.int .i64 0,.int .i64 0,.int .i64 0,.int .i64 0,.int .i64 0,.slice none 0 0,.slice none 0 0,.slice (some ⟨K,0,none⟩) 2 cap,.slice none 0 0,.slice none 0 0,.slice none 0 0] 32));have B1:=pB hw1;have N1:w1.heap[w.heap.size]? =some (.cells #[.int .i64 6,.int .i64 0,.int .i64 0,.int .i64 0,.int .i64 0,.int .i64 0,.slice none 0 0,.slice none 0 0,.slice (some ⟨K,0,none⟩) 2 cap,.slice none 0 0,.slice none 0 0,.slice none 0 0] 32 (0,0)):=pH hw1;have hlf:(Tryz.prog.info? 32).map (·.size)=some (#[.int .i64 6,.int .i64 0,.int .i64 0,.int .i64 0,.int .i64 0,.int .i64 0,.slice none 0 0,.slice none 0 0,.slice (some ⟨K,0,none⟩) 2 cap,.slice none 0 0,.slice none 0 0,.slice none 0 0]:Array Value).size:=Bw.info;obtain⟨w2,hw2⟩:=pE (w1.alloc (.cells #[.int .i64 (-1),.int .i64 0,.int .i64 6,.int .i64 0,.int .i64 0,.int .i64 0,.int .i64 0,.int .i64 0,.slice none 0 0,.slice none 0 0,.slice (some ⟨K,0,none⟩) 2 cap,.slice none 0 0,.slice none 0 0,.slice none 0 0] 53));have B2:=pB hw2;have N2:=pH hw2;have V2:Hid (w2.ownsRow w.heap.size 53 14 (.slice none 0 0) 0 []):=World.ownsRow_nil _ _ _ _;have hlt1:=(Array.getElem?_eq_some_iff.1 N1).1
 have N12:w2.heap[w.heap.size]? =some (.cells #[.int .i64 6,.int .i64 0,.int .i64 0,.int .i64 0,.int .i64 0,.int .i64 0,.slice none 0 0,.slice none 0 0,.slice (some ⟨K,0,none⟩) 2 cap,.slice none 0 0,.slice none 0 0,.slice none 0 0] 32 (0,0)):=(B2.block _ hlt1).trans N1;have hu:=Tryz.underlying32;have hi1:(Tryz.prog.info? 32).map (·.size)=some (Bw.leaf k1 n1).toList.length:=Bw.info;have hi2:(Tryz.prog.info? 32).map (·.size)=some (Bw.leaf k2 n2).toList.length:=Bw.info;have HN:Hid (∀j u,(#[.int .i64 (-1),.int .i64 0,.int .i64 6,.int .i64 0,.int .i64 0,.int .i64 0,.int .i64 0,.int .i64 0,.slice none 0 0,.slice none 0 0,.slice (some ⟨K,0,none⟩) 2 cap,.slice none 0 0,.slice none 0 0,.slice none 0 0]:Array Value).toList[j]? =some u->w2.cell? ((⟨w1.heap.size,0,none⟩:Addr).add j)=some u):=World.news_of_block N2
 have HO:Hid (∀u∈(#[.int .i64 (-1),.int .i64 0,.int .i64 6,.int .i64 0,.int .i64 0,.int .i64 0,.int .i64 0,.int .i64 0,.slice none 0 0,.slice none 0 0,.slice (some ⟨K,0,none⟩) 2 cap,.slice none 0 0,.slice none 0 0,.slice none 0 0]:Array Value).toList,u.oneCell'=true):=by
  intro u hu';have h:(#[.int .i64 (-1),.int .i64 0,.int .i64 6,.int .i64 0,.int .i64 0,.int .i64 0,.int .i64 0,.int .i64 0,.slice none 0 0,.slice none 0 0,.slice (some ⟨K,0,none⟩) 2 cap,.slice none 0 0,.slice none 0 0,.slice none 0 0]:Array Value).toList.all (·.oneCell')=true:=by kernel_rfl
  exact List.all_eq_true.1 h u hu'
 have HW:Hid (Below w.heap.size w w2/\w.heap.size<w2.heap.size/\w2.heap[w.heap.size]? =some (.cells #[.int .i64 6,.int .i64 0,.int .i64 0,.int .i64 0,.int .i64 0,.int .i64 0,.slice none 0 0,.slice none 0 0,.slice (some ⟨K,0,none⟩) 2 cap,.slice none 0 0,.slice none 0 0,.slice none 0 0] 32 (0,0))):=⟨B1.trans (B2.mono B1.size),by have:=B2.size;omega,N12⟩;have HT:Hid (∀W,Below w.heap.size w W->Bw.Two K k1 n1 k2 n2 W):=λW hb=>hT.keep (hb.block K hK);have H1:Hid _:=hw1;have H2:Hid _:=hw2;clear hw1 hw2 B1 B2 N12 hlt1 hT;show Calls _ _ #[.slice none 0 0,.int .i64 (-1),.int .i64 0,.agg #[.int .i64 6,.int .i64 0,.int .i64 0,.int .i64 0,.int .i64 0,.int .i64 0,.slice none 0 0,.slice none 0 0,.slice (some ⟨K,0,none⟩) 2 cap,.slice none 0 0,.slice none 0 0,.slice none 0 0]] _ _
 go_enter Tryz.func31,Tryz.ntmps31
 go_upto_region 2 with fail
 rw[H1.out];clear H1
 go_wp2_with (first
  |refine wpList_load_row rfl 32 _ rfl _ rfl 32 _ (0,0) _ N1 hu rfl hlf ?_
  |(at_builtin;rw[H2.out];refine wpList_append_lies _ rfl _ _ 47 rfl w.heap.size 53 i0 (.agg #[.int .i64 0,.int .i64 0,.int .i64 0,.int .i64 0,.int .i64 0,.int .i64 0,.int .i64 0,.int .i64 0,.slice none 0 0,.slice none 0 0,.slice none 0 0,.slice none 0 0,.slice none 0 0,.slice none 0 0]) 14 208 Tryz.underlying47 hi hz0 hz1 hz2 rfl (by decide) (.slice none 0 0) 0 [] rfl V2.out ⟨w1.heap.size,0,none⟩ 1 1 (#[.int .i64 (-1),.int .i64 0,.int .i64 6,.int .i64 0,.int .i64 0,.int .i64 0,.int .i64 0,.int .i64 0,.slice none 0 0,.slice none 0 0,.slice (some ⟨K,0,none⟩) 2 cap,.slice none 0 0,.slice none 0 0,.slice none 0 0]:Array Value).toList rfl rfl HN.out HO.out (by decide) ?c3 (by omega) ?c5 _ rfl ?_))
 case c3=>unfold maxLen;omega
 case c5=>have:=HW.out.2.1;omega
 intro g c W3 own3 g3 hg hlt;have B3:Below w.heap.size w2 W3:=Rk.below_grown (Below.refl _ _) (by have:=HW.out.2.1;omega) V2.out g3;have QW3:Hid (Bw.Own w.heap.size 1 (.slice (some ⟨g,0,none⟩) 1 c) (Bw.item (-1) 0 (Bw.root K cap)) W3/\Below w.heap.size w W3):=⟨own3,HW.out.1.trans B3⟩;have N3:W3.heap[w.heap.size]? =some (.cells #[.int .i64 6,.int .i64 0,.int .i64 0,.int .i64 0,.int .i64 0,.int .i64 0,.slice none 0 0,.slice none 0 0,.slice (some ⟨K,0,none⟩) 2 cap,.slice none 0 0,.slice none 0 0,.slice none 0 0] 32 (0,0)):=(g3.block _ HW.out.2.1 (λe=>by simp[Value.ownBlock]at e)).trans HW.out.2.2;have k8:W3.cell? ⟨w.heap.size,8,none⟩=some (.slice (some ⟨K,0,none⟩) 2 cap):=by simp[World.cell?,N3]
 clear own3 g3 hg hlt B3 N1 N2 N3 H2 V2 HN HO HW hi hz0 hz1 hz2;go_wp2;refine wp_loop_rounds 3 ?_;rw[rounds_succ];have R1:=(HT.out W3 QW3.out.2).1;have NZ1:(W3.alloc (.cells #[.int .i64 0,.int .i64 0,.int .i64 0,.int .i64 0,.int .i64 0,.int .i64 0,.slice none 0 0,.slice none 0 0,.slice none 0 0,.slice none 0 0,.slice none 0 0,.slice none 0 0] 32)).heap[W3.heap.size]? =some (.cells #[.int .i64 0,.int .i64 0,.int .i64 0,.int .i64 0,.int .i64 0,.int .i64 0,.slice none 0 0,.slice none 0 0,.slice none 0 0,.slice none 0 0,.slice none 0 0,.slice none 0 0] 32 (0,0)):=heap_alloc_new W3 _;obtain⟨v1,hv1⟩:=pE ((W3.alloc (.cells #[.int .i64 0,.int .i64 0,.int .i64 0,.int .i64 0,.int .i64 0,.int .i64 0,.slice none 0 0,.slice none 0 0,.slice none 0 0,.slice none 0 0,.slice none 0 0,.slice none 0 0] 32)).setRow W3.heap.size (Bw.leaf k1 n1));have Nv1:v1.heap[W3.heap.size]? =some (.cells (Bw.leaf k1 n1) 32 (0,0)):=by rw[<-hv1];exact setRow_heap _ _ _ _ _ _ NZ1
 have Bv1:Below W3.heap.size W3 v1:=by rw[<-hv1];exact Tk.below_row ((Below.refl _ W3).alloc (Nat.le_refl _) _) (Nat.le_refl _) _
 have Qv1:Hid (Bw.Own w.heap.size 1 (.slice (some ⟨g,0,none⟩) 1 c) (Bw.item (-1) 0 (Bw.root K cap)) v1/\Below w.heap.size w v1):=⟨World.ownsRow.kept (row:=none) QW3.out.1 ⟨Bv1.os,Bv1.tape,Bv1.output,Bv1.size,λk hk _=>Bv1.block k hk⟩ (.inr (by simp[Value.ownBlock])),QW3.out.2.trans (Bv1.mono QW3.out.2.size)⟩;have Hv1:Hid _:=hv1;clear hv1 Bv1
 go_upto_region 6 with(first
  |refine wpList_load_mid rfl 32 _ rfl K 0 rfl (Bw.leaf k1 n1).toList _ R1 hu rfl hi1 ?_
  |refine wpList_store_row rfl 32 _ _ rfl W3.heap.size (Bw.leaf k1 n1) rfl rfl 32 _ NZ1 Bw.info (Bw.zero_size.trans (Bw.leaf_size _ _).symm) (Bw.leaf_one _ _) ?_)
 rw[Hv1.out]
 go_wp2_with (refine wpList_load_row rfl 32 _ rfl _ rfl 32 _ (0,0) _ Nv1 hu rfl Bw.info ?_)
 refine Calls.mono (Tryz.bwList_leaf k1 n1 0 0 w.heap.size 1 _ _ (Bw.item (-1) 0 (Bw.root K cap)) v1 Qv1.out.1 (by decide) Qv1.out.2.size) ?_;rintro e u1 ⟨g1,c1,rfl,o1,t1⟩;have Qu1:Hid (Bw.Own w.heap.size 2 (.slice (some ⟨g1,0,none⟩) 2 c1) ((Bw.item (-1) 0 (Bw.root K cap))++Bw.item 0 0 (Bw.leaf k1 n1)) u1/\Below w.heap.size w u1):=⟨o1,Qv1.out.2.trans t1⟩;clear o1 t1 Hv1 Nv1 NZ1 R1;go_wp2;rw[rounds_succ];have R2:=(HT.out u1 Qu1.out.2).2;have NZ2:(u1.alloc (.cells #[.int .i64 0,.int .i64 0,.int .i64 0,.int .i64 0,.int .i64 0,.int .i64 0,.slice none 0 0,.slice none 0 0,.slice none 0 0,.slice none 0 0,.slice none 0 0,.slice none 0 0] 32)).heap[u1.heap.size]? =some (.cells #[.int .i64 0,.int .i64 0,.int .i64 0,.int .i64 0,.int .i64 0,.int .i64 0,.slice none 0 0,.slice none 0 0,.slice none 0 0,.slice none 0 0,.slice none 0 0,.slice none 0 0] 32 (0,0)):=heap_alloc_new u1 _;obtain⟨v2,hv2⟩:=pE ((u1.alloc (.cells #[.int .i64 0,.int .i64 0,.int .i64 0,.int .i64 0,.int .i64 0,.int .i64 0,.slice none 0 0,.slice none 0 0,.slice none 0 0,.slice none 0 0,.slice none 0 0,.slice none 0 0] 32)).setRow u1.heap.size (Bw.leaf k2 n2));have Nv2:v2.heap[u1.heap.size]? =some (.cells (Bw.leaf k2 n2) 32 (0,0)):=by rw[<-hv2];exact setRow_heap _ _ _ _ _ _ NZ2
 have Bv2:Below u1.heap.size u1 v2:=by rw[<-hv2];exact Tk.below_row ((Below.refl _ u1).alloc (Nat.le_refl _) _) (Nat.le_refl _) _
 have Qv2:Hid (Bw.Own w.heap.size 2 (.slice (some ⟨g1,0,none⟩) 2 c1) ((Bw.item (-1) 0 (Bw.root K cap))++Bw.item 0 0 (Bw.leaf k1 n1)) v2/\Below w.heap.size w v2):=⟨World.ownsRow.kept (row:=none) Qu1.out.1 ⟨Bv2.os,Bv2.tape,Bv2.output,Bv2.size,λk hk _=>Bv2.block k hk⟩ (.inr (by simp[Value.ownBlock])),Qu1.out.2.trans (Bv2.mono Qu1.out.2.size)⟩;have Hv2:Hid _:=hv2;clear hv2 Bv2
 go_upto_region 6 with(first
  |refine wpList_load_mid rfl 32 _ rfl K 12 rfl (Bw.leaf k2 n2).toList _ R2 hu rfl hi2 ?_
  |refine wpList_store_row rfl 32 _ _ rfl u1.heap.size (Bw.leaf k2 n2) rfl rfl 32 _ NZ2 Bw.info (Bw.zero_size.trans (Bw.leaf_size _ _).symm) (Bw.leaf_one _ _) ?_)
 rw[Hv2.out]
 go_wp2_with (refine wpList_load_row rfl 32 _ rfl _ rfl 32 _ (0,0) _ Nv2 hu rfl Bw.info ?_)
 refine Calls.mono (Tryz.bwList_leaf k2 n2 0 1 w.heap.size 2 _ _ ((Bw.item (-1) 0 (Bw.root K cap))++Bw.item 0 0 (Bw.leaf k1 n1)) v2 Qv2.out.1 (by decide) Qv2.out.2.size) ?_;rintro e u2 ⟨g2,c2,rfl,o2,t2⟩;have Qu2:Hid (Bw.Own w.heap.size 3 (.slice (some ⟨g2,0,none⟩) 3 c2) (((Bw.item (-1) 0 (Bw.root K cap))++Bw.item 0 0 (Bw.leaf k1 n1))++Bw.item 0 1 (Bw.leaf k2 n2)) u2/\Below w.heap.size w u2):=⟨o2,Qv2.out.2.trans t2⟩;clear o2 t2 Hv2 Nv2 NZ2 R2;go_wp2;rw[rounds_succ];go_wp2;go_ret;exact⟨g2,c2,rfl,Qu2.out⟩
theorem Nt.add_block (a:Addr)(j:Nat):(a.add j).block=a.block:=by cases j<;>simp[Addr.add]
theorem Tryz.cloneNode_nil (w:World)(c:Nat):
  Calls Tryz.prog 83 #[.slice none 0 c] w λe w'=>e=.returned (.slice none 0 0)/\w'=w:=by
 have hq:∀W:World,(binOp BinOp.eql 27 (.slice none 0 c) (.slice none 0 0)).run Tryz.prog W=.ok (.bool true) W:=λ_=>by kernel_rfl
 go_enter Tryz.func83,Tryz.ntmps83
 go_wp2;go_ret;exact⟨rfl,rfl⟩
theorem Tryz.cloneFlow_nil (w:World)(c:Nat):
  Calls Tryz.prog 84 #[.slice none 0 c] w λe w'=>e=.returned (.slice none 0 0)/\w'=w:=by
 have hq:∀W:World,(binOp BinOp.eql 28 (.slice none 0 c) (.slice none 0 0)).run Tryz.prog W=.ok (.bool true) W:=λ_=>by kernel_rfl
 go_enter Tryz.func84,Tryz.ntmps84
 go_wp2;go_ret;exact⟨rfl,rfl⟩
theorem Tryz.cloneTerm_nil (w:World)(c:Nat):
  Calls Tryz.prog 80 #[.slice none 0 c] w λe w'=>e=.returned (.slice none 0 0)/\w'=w:=by
 have hq:∀W:World,(binOp BinOp.eql 22 (.slice none 0 c) (.slice none 0 0)).run Tryz.prog W=.ok (.bool true) W:=λ_=>by kernel_rfl
 go_enter Tryz.func80,Tryz.ntmps80
 go_wp2;go_ret;exact⟨rfl,rfl⟩
theorem Rk.inB_iff (n i:Int):Rk.inB n i=true↔0<=i/\i<n:=by simp[Rk.inB]
theorem Rk.chk_ok {n:Int}{rs:List (Int×Int)}(h:Rk.chk n rs=0):∃(k:Nat) (es:List (Nat×Nat)),n=k/\k<=64/\rs=Rk.up es/\es.length<=256/\∀e,e∈es->e.1<k/\e.2<k:=by
 unfold Rk.chk at h
 split at h
 ·simp at h
 next h1=>
 split at h
 ·simp at h
 next h2=>
 split at h
 ·simp at h
 next h3=>
 obtain⟨k,rfl⟩:∃k:Nat,n=k:=⟨n.toNat,by omega⟩;rw[Bool.not_eq_true,List.any_eq_false]at h3
 have hr:∀e,e∈rs->0<=e.1/\e.1<k/\0<=e.2/\e.2<k:=by
  intro e he;have:=h3 e he;simp only[Rk.outB,Bool.or_eq_true,Bool.not_eq_true',not_or,Bool.not_eq_false,Rk.inB_iff]at this;exact⟨this.1.1,this.1.2,this.2.1,this.2.2⟩
 refine⟨k,rs.map λe=>(e.1.toNat,e.2.toNat),rfl,by omega, ?_,by simp;omega, ?_⟩
 ·rw[Rk.up,List.map_map]
  symm
  refine(List.map_congr_left (λe he=> ?_)).trans (List.map_id rs);have:=hr e he;obtain⟨x,y⟩:=e;simp only[Function.comp_apply,id_eq,Prod.mk.injEq];omega
 intro e he;obtain⟨x,hx,rfl⟩:=List.mem_map.1 he;have:=hr x hx;simp only;omega
theorem Rk.own_wider {w:World}{B B':Nat}{e:TypeId}{size:Nat}{v:Value}{n:Nat}{cs:List Value}(h:w.ownsRow B e size v n cs)(hB:B'<=B):w.ownsRow B' e size v n cs:=by
 rcases h with⟨hl,h|⟨g,cap,cur,h1,h2,h3⟩⟩
 ·exact⟨hl,.inl h⟩
 exact⟨hl,.inr ⟨g,cap,cur,h1,Nat.le_trans hB h2,h3⟩⟩
theorem Rk.round_hold (bn bl n c:Nat)(a:Option Addr)(es:List (Nat×Nat))(w:World)(hn:n<=64)(hes:∀e,e∈es->e.1<n/\e.2<n)(hbn:bn<w.heap.size)(hbl:bl<w.heap.size)(hcn:w.cell? ⟨bn,0,none⟩=some (.int .i64 n))(hcl:w.cell? ⟨bl,0,none⟩=some (.slice a es.length c))
  (hE:Rk.Eds w w.heap.size a (Rk.up es)) (hm:es.length<=1000000000000000):Rq.Hold 98 #[.pointer (some ⟨bn,0,none⟩),.pointer (some ⟨bl,0,none⟩)] (λi=>Rk.lead es i i) n w:=by
 intro W i hi hW;show Calls Tryz.prog 98 #[.int .i64 i,.pointer (some ⟨bn,0,none⟩),.pointer (some ⟨bl,0,none⟩)] W _;have c0:W.cell? ⟨bn,0,none⟩=some (.int .i64 n):=(hW.cell (p:=⟨bn,0,none⟩) hbn).trans hcn;have c1:W.cell? ⟨bl,0,none⟩=some (.slice a es.length c):=(hW.cell (p:=⟨bl,0,none⟩) hbl).trans hcl;have H1:Hid _:=Tryz.goes_any n i a c es W hn hi hes ((hE.below hW).wider hW.size) hm;clear hcn hcl hE hW hes
 go_enter Tryz.func98,Tryz.ntmps98
 go_wp2_with fail
 refine Calls.mono H1.out ?_;rintro e W2 ⟨rfl,hb⟩;go_wp2;go_ret;exact⟨rfl,hb⟩
theorem Tryz.round_err (n err:Int)(a:Option Addr)(c:Nat)(rs:List (Int×Int))(w:World)(hE:Rk.Eds w w.heap.size a rs)(hm:rs.length<=1000000000000000)(he:Rk.chk n rs=err)(h0:err≠0):
  Calls Tryz.prog 73 #[.int .i64 n,.slice a rs.length c] w λe w'=>e=.returned (.tuple #[.slice none 0 0,.int .i64 err])/\Below w.heap.size w w':=by
 have A0:Below w.heap.size w ((w.alloc (.cells #[.int .i64 n] 3)).alloc (.cells #[.slice a rs.length c] 112)):=((Below.refl _ w).alloc (Nat.le_refl _) _).alloc (by simp) _;have H1:Hid _:=Tryz.rkCheck_any n a c rs ((w.alloc (.cells #[.int .i64 n] 3)).alloc (.cells #[.slice a rs.length c] 112)) ((hE.below A0).wider A0.size) hm;rw[he]at H1;have hd:(err==0)=false:=by simpa using h0
 have HA:Hid _:=A0;obtain⟨m,hmm⟩:=pE (rs.length);rw[hmm]at H1 HA⊢;clear hE hm he hmm h0 A0
 go_enter Tryz.func73,Tryz.ntmps73
 go_wp2_with fail
 refine Calls.mono H1.out ?_;rintro e W1 ⟨rfl,hb⟩;go_wp2;go_ret2;exact⟨rfl,HA.out.trans (hb.mono HA.out.size)⟩
theorem Tryz.round_ok (n:Nat)(a:Option Addr)(c:Nat)(es:List (Nat×Nat))(w:World)(hn:n<=64)(hes:∀e,e∈es->e.1<n/\e.2<n)(hE:Rk.Eds w w.heap.size a (Rk.up es))(hm:es.length<=1000000000000000)(hck:Rk.chk n (Rk.up es)=0):
  Calls Tryz.prog 73 #[.int .i64 n,.slice a es.length c] w λe w'=>∃v,e=.returned (.tuple #[v,.int .i64 0])/\
   w'.ownsRow w.heap.size 3 1 v ((List.range n).filter (λi=>Rk.lead es i i)).length (Rq.nums ((List.range n).filter (λi=>Rk.lead es i i)))/\Below w.heap.size w w':=by
 have A0:Below w.heap.size w ((w.alloc (.cells #[.int .i64 n] 3)).alloc (.cells #[.slice a es.length c] 112)):=((Below.refl _ w).alloc (Nat.le_refl _) _).alloc (by simp) _;have E0:=(hE.below A0).wider A0.size;have H1:Hid _:=Tryz.rkCheck_any n a c (Rk.up es) ((w.alloc (.cells #[.int .i64 n] 3)).alloc (.cells #[.slice a es.length c] 112)) E0 (by rw[Rk.up_length];exact hm);rw[hck,Rk.up_length]at H1
 have HX:Hid (Below w.heap.size w ((w.alloc (.cells #[.int .i64 n] 3)).alloc (.cells #[.slice a es.length c] 112))/\n<=64/\(∀e,e∈es->e.1<n/\e.2<n)/\Rk.Eds ((w.alloc (.cells #[.int .i64 n] 3)).alloc (.cells #[.slice a es.length c] 112)) (w.heap.size+2) a (Rk.up es)/\es.length<=1000000000000000):=
  ⟨A0,hn,hes,by simpa using E0,hm⟩
 clear hE hm hn hes hck A0 E0
 go_enter Tryz.func73,Tryz.ntmps73
 go_wp2_with fail
 refine Calls.mono H1.out ?_;rintro e W1 ⟨rfl,hb⟩;have hb':Below (w.heap.size+2) ((w.alloc (.cells #[.int .i64 n] 3)).alloc (.cells #[.slice a es.length c] 112)) W1:=by simpa using hb
 have hs:=hb'.size;have hz:w.heap.size+2<=W1.heap.size:=by simpa using hs
 have k0:W1.cell? ⟨w.heap.size,0,none⟩=some (.int .i64 n):=by rw[hb'.cell (p:=⟨w.heap.size,0,none⟩) (by show w.heap.size<_;omega)];simp
 have k1:W1.cell? ⟨w.heap.size+1,0,none⟩=some (.slice a es.length c):=by rw[hb'.cell (p:=⟨w.heap.size+1,0,none⟩) (by show w.heap.size+1<_;omega)];simp
 have H2:Hid _:=Tryz.things_any (λi=>Rk.lead es i i) 98 #[.pointer (some ⟨w.heap.size,0,none⟩),.pointer (some ⟨w.heap.size+1,0,none⟩)] Rk.enters_round n W1
  (Rk.round_hold w.heap.size (w.heap.size+1) n c a es W1 HX.out.2.1 HX.out.2.2.1 (by omega) (by omega) k0 k1 ((HX.out.2.2.2.1.below hb').wider hz) HX.out.2.2.2.2) HX.out.2.1
 have HB:Hid (Below w.heap.size w W1):=HX.out.1.trans (hb'.mono (by omega));clear hb hb' hs H1 HX
 go_wp2_with fail
 refine Calls.mono H2.out ?_;rintro e W4 ⟨v,rfl,hown,hb4⟩;obtain⟨av,cv,rfl⟩:=Rq.own_shape hown;go_wp2;go_ret2;exact⟨_,rfl,Rk.own_wider hown HB.out.size,HB.out.trans (hb4.mono HB.out.size)⟩
def Bw.awB (m:Int)(T:Ac):Bool:=(decide (0<=m)&&decide (m<4))&&(((decide (T.kind=4)||decide (T.kind=10))&&decide (T.a=m))||(decide (T.kind=14)&&T.ns.any (Nt.waitB m)))
mutual
def Bw.aw (m:Int):Ac->Bool| .mk k n a b t c ks l x y=>Bw.awB m (.mk k n a b t c ks l x y)||Bw.aws m ks
def Bw.aws (m:Int):List Ac->Bool| []=>false|k::r=>Bw.aw m k||Bw.aws m r
end
theorem Bw.aw_eq (m:Int)(T:Ac):Bw.aw m T=(Bw.awB m T||Bw.aws m T.ks):=by cases T;rfl
theorem Bw.aws_snoc (m:Int)(l:List Ac)(x:Ac):Bw.aws m (l++ [x])=(Bw.aws m l||Bw.aw m x):=by
 induction l with
 |nil=>simp[Bw.aws]
 |cons k r ih=>simp only[List.cons_append,Bw.aws,ih,Bool.or_assoc]
theorem Bw.aws_take (m:Int)(l:List Ac)(j:Nat)(h:j<l.length):Bw.aws m (l.take (j+1))=(Bw.aws m (l.take j)||Bw.aw m l[j]):=by rw[Ac.take_snoc l j h,Bw.aws_snoc]
theorem Bw.aws_at (m:Int):∀(l:List Ac) (j:Nat) (h:j<l.length),Bw.aw m l[j]=true->Bw.aws m l=true
 | [],_,h,_=>by simp at h
 |k::r,0,_,e=>by rw[Bw.aws,show Bw.aw m k=true from e,Bool.true_or]
 |k::r,j+1,h,e=>by rw[Bw.aws,Bw.aws_at m r j (by simpa using h) e,Bool.or_true]
theorem Bw.any_at {α:Type}(p:α->Bool)(l:List α)(j:Nat)(h:j<l.length)(e:p l[j]=true):l.any p=true:=List.any_eq_true.2 ⟨l[j],List.getElem_mem _,e⟩
mutual
theorem Bw.aw_out {m:Int}(h:(decide (0<=m)&&decide (m<4))=false):∀T:Ac,Bw.aw m T=false
 | .mk k n a b t c ks l x y=>by rw[Bw.aw,Bw.awB,h,Bool.false_and,Bool.false_or];exact Bw.aws_out h ks
theorem Bw.aws_out {m:Int}(h:(decide (0<=m)&&decide (m<4))=false):∀l:List Ac,Bw.aws m l=false
 | []=>rfl
 |k::r=>by rw[Bw.aws,Bw.aw_out h k,Bw.aws_out h r];rfl
end
def Bw.stepA (m:Int)(T:Ac)(_:Bool):Bool×Bool:=(!Bw.awB m T,Bw.awB m T)
mutual
theorem Bw.go_aw (m:Int):∀(T:Ac) (s:Bool),T.go (Bw.stepA m) s=(!Bw.aw m T,Bw.aw m T)
 | .mk k n a b t c ks l x y,s=>by
   rw[Ac.go,Bw.aw]
   cases h:Bw.awB m (.mk k n a b t c ks l x y)
   ·have h1:Bw.stepA m (.mk k n a b t c ks l x y) s=(true,false):=by rw[Bw.stepA,h];rfl
    rw[h1,if_pos rfl,Bw.goes_aw m ks,Bool.false_or]
   have h1:Bw.stepA m (.mk k n a b t c ks l x y) s=(false,true):=by rw[Bw.stepA,h];rfl
   rw[h1,if_neg (by decide),Bool.true_or];rfl
theorem Bw.goes_aw (m:Int):∀l:List Ac,Ac.goes (Bw.stepA m) l false=(!Bw.aws m l,Bw.aws m l)
 | []=>rfl
 |k::r=>by
  rw[Ac.goes,Bw.go_aw m k,Bw.aws]
  cases h:Bw.aw m k
  ·rw[if_pos (show(!false,false).1=true from rfl),Bool.false_or]
   exact Bw.goes_aw m r
  rw[if_neg (show¬(!true,true).1=true by decide),Bool.true_or];rfl
end
end Go.Proofs
