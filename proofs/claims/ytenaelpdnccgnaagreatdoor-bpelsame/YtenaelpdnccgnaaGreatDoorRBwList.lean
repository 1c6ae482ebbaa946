import Derived.Test.YtenaelpdnccgnaaGreatDoorRBwRes
import Derived.Test.YtenaelpdnccgnaaGreatDoorRAcFormM
import Derived.Test.YtenaelpdnccgnaaGreatDoorRows
import Derived.ProofKit
import Derived.OpenShut
set_option maxRecDepth 100000
set_option maxHeartbeats 32000000
namespace Go.Proofs
open Go.RowKit Go.Shelf
def Bw.item (p a:Int)(r:Array Value):List Value:=.int .i64 p::.int .i64 a::r.toList
theorem Bw.infoItem:(Tryz.prog.info? 53).map (λi=>(i.zero,i.size,i.bytes))=some (some (.agg #[.int .i64 0,.int .i64 0,.int .i64 0,.int .i64 0,.int .i64 0,.int .i64 0,.int .i64 0,.int .i64 0,.slice none 0 0,.slice none 0 0,.slice none 0 0,.slice none 0 0,.slice none 0 0,.slice none 0 0]),14,208):=by kernel_rfl
def Bw.Own (B n:Nat)(v:Value)(xs:List Value)(W:World):Prop:=W.ownsRow B 53 14 v n xs
theorem Tryz.bwList_leaf (k nd p q:Int)(B n cap:Nat)(a:Option Addr)(xs:List Value)(w:World)(hv:Bw.Own B n (.slice a n cap) xs w)(hn:n<=100)(hB:B<=w.heap.size):
  Calls Tryz.prog 31 #[.slice a n cap,.int .i64 p,.int .i64 q,.agg (Bw.leaf k nd)] w λe w'=>∃g c,e=.returned (.slice (some ⟨g,0,none⟩) (n+1) c)/\Bw.Own B (n+1) (.slice (some ⟨g,0,none⟩) (n+1) c) (xs++Bw.item p q (Bw.leaf k nd)) w'/\Below B w w':=by
 obtain⟨i0,hi,hz0,hz1,hz2⟩:=info_parts Bw.infoItem;obtain⟨w1,hw1⟩:=pE (w.alloc (.cells #[.int .i64 k,.int .i64 nd,.int .i64 0,.int .i64 0,.int .i64 0,.int .i64 0,.slice none 0 0,.slice none 0 0,.slice none 0 0,.slice none 0 0,.slice none 0 0,.slice none 0 0] 32));have B1:=pB hw1;have N1:w1.heap[w.heap.size]? =some (.cells #[.int .i64 k,.int .i64 nd,.int .i64 0,.int .i64 0,.int .i64 0,.int .i64 0,.slice none 0 0,.slice none 0 0,.slice none 0 0,.slice none 0 0,.slice none 0 0,.slice none 0 0] 32 (0,0)):=pH hw1;have hlf:(Tryz.prog.info? 32).map (·.size)=some (#[.int .i64 k,.int .i64 nd,.int .i64 0,.int .i64 0,.int .i64 0,.int .i64 0,.slice none 0 0,.slice none 0 0,.slice none 0 0,.slice none 0 0,.slice none 0 0,.slice none 0 0]:Array Value).size:=Bw.info;have V1:w1.ownsRow B 53 14 (.slice a n cap) n xs:=by rw[<-hw1];exact hv.alloc _
 obtain⟨w2,hw2⟩:=pE (w1.alloc (.cells #[.int .i64 p,.int .i64 q,.int .i64 k,.int .i64 nd,.int .i64 0,.int .i64 0,.int .i64 0,.int .i64 0,.slice none 0 0,.slice none 0 0,.slice none 0 0,.slice none 0 0,.slice none 0 0,.slice none 0 0] 53));have B2:=pB hw2;have N2:=pH hw2;have V2:Hid (w2.ownsRow B 53 14 (.slice a n cap) n xs):=by show World.ownsRow _ _ _ _ _ _ _;rw[<-hw2];exact V1.alloc _
 have hlt1:=(Array.getElem?_eq_some_iff.1 N1).1;have N12:w2.heap[w.heap.size]? =some (.cells (Bw.leaf k nd) 32 (0,0)):=(B2.block _ hlt1).trans N1;have hu:=Tryz.underlying32;have HN:Hid (∀j u,(#[.int .i64 p,.int .i64 q,.int .i64 k,.int .i64 nd,.int .i64 0,.int .i64 0,.int .i64 0,.int .i64 0,.slice none 0 0,.slice none 0 0,.slice none 0 0,.slice none 0 0,.slice none 0 0,.slice none 0 0]:Array Value).toList[j]? =some u->w2.cell? ((⟨w1.heap.size,0,none⟩:Addr).add j)=some u):=World.news_of_block N2
 have HO:Hid (∀u∈(#[.int .i64 p,.int .i64 q,.int .i64 k,.int .i64 nd,.int .i64 0,.int .i64 0,.int .i64 0,.int .i64 0,.slice none 0 0,.slice none 0 0,.slice none 0 0,.slice none 0 0,.slice none 0 0,.slice none 0 0]:Array Value).toList,u.oneCell'=true):=by
  intro u hu';have h:(#[.int .i64 p,.int .i64 q,.int .i64 k,.int .i64 nd,.int .i64 0,.int .i64 0,.int .i64 0,.int .i64 0,.slice none 0 0,.slice none 0 0,.slice none 0 0,.slice none 0 0,.slice none 0 0,.slice none 0 0]:Array Value).toList.all (·.oneCell')=true:=by kernel_rfl
  exact List.all_eq_true.1 h u hu'
 have HW:Hid (Below w.heap.size w w2/\w.heap.size<w2.heap.size/\w2.heap[w.heap.size]? =some (.cells (Bw.leaf k nd) 32 (0,0))/\B<=w.heap.size):=⟨B1.trans (B2.mono B1.size),by have:=B2.size;omega,N12,hB⟩;have HB:Hid (∀k,(Value.slice a n cap).ownBlock=some k->k<w.heap.size):=λk h=>(World.ownsRow.lt hv k h).2;have H1:Hid _:=hw1;have H2:Hid _:=hw2;clear hv hw1 hw2 B1 B2 N12 V1 hlt1 hB;show Calls _ _ #[.slice a n cap,.int .i64 p,.int .i64 q,.agg #[.int .i64 k,.int .i64 nd,.int .i64 0,.int .i64 0,.int .i64 0,.int .i64 0,.slice none 0 0,.slice none 0 0,.slice none 0 0,.slice none 0 0,.slice none 0 0,.slice none 0 0]] _ _
 go_enter Tryz.func31,Tryz.ntmps31
 go_upto_region 2 with fail
 rw[H1.out];clear H1
 go_wp2_with (first
  |refine wpList_load_row rfl 32 _ rfl _ rfl 32 _ (0,0) _ N1 hu rfl hlf ?_
  |(at_builtin;rw[H2.out];refine wpList_append_lies _ rfl _ _ 47 rfl B 53 i0 (.agg #[.int .i64 0,.int .i64 0,.int .i64 0,.int .i64 0,.int .i64 0,.int .i64 0,.int .i64 0,.int .i64 0,.slice none 0 0,.slice none 0 0,.slice none 0 0,.slice none 0 0,.slice none 0 0,.slice none 0 0]) 14 208 Tryz.underlying47 hi hz0 hz1 hz2 rfl (by decide) (.slice a n cap) n xs rfl V2.out ⟨w1.heap.size,0,none⟩ 1 1 (#[.int .i64 p,.int .i64 q,.int .i64 k,.int .i64 nd,.int .i64 0,.int .i64 0,.int .i64 0,.int .i64 0,.slice none 0 0,.slice none 0 0,.slice none 0 0,.slice none 0 0,.slice none 0 0,.slice none 0 0]:Array Value).toList rfl rfl HN.out HO.out (by decide) ?c3 ?c4 ?c5 _ rfl ?_))
 case c3=>unfold maxLen;omega
 case c4=>omega
 case c5=>have:=HW.out.2.1;have:=HW.out.2.2.2;omega
 intro g c W3 own3 g3 hg hlt;have B3:Below B w2 W3:=Rk.below_grown (Below.refl _ _) (by have:=HW.out.2.1;have:=HW.out.2.2.2;omega) V2.out g3;have HE:Hid (Bw.Own B (n+1) (.slice (some ⟨g,0,none⟩) (n+1) c) (xs++Bw.item p q (Bw.leaf k nd)) W3/\Below B w W3):=⟨own3,(HW.out.1.mono HW.out.2.2.2).trans B3⟩;have N3:W3.heap[w.heap.size]? =some (.cells #[.int .i64 k,.int .i64 nd,.int .i64 0,.int .i64 0,.int .i64 0,.int .i64 0,.slice none 0 0,.slice none 0 0,.slice none 0 0,.slice none 0 0,.slice none 0 0,.slice none 0 0] 32 (0,0)):=(g3.block _ HW.out.2.1 (λe=>by have:=HB.out _ e.symm;omega)).trans HW.out.2.2.1;have k8:W3.cell? ⟨w.heap.size,8,none⟩=some (.slice none 0 0):=by simp[World.cell?,N3]
 clear own3 g3 hg hlt B3 N1 N2 N3 H2 V2 HN HO HW HB hi hz0 hz1 hz2;go_wp2;refine wp_loop_rounds 1 ?_;rw[rounds_succ];go_wp2;go_ret;exact⟨g,c,rfl,HE.out⟩
theorem Tryz.bwList_root (K cap:Nat)(k1 n1 k2 n2:Int)(w:World)(hT:Bw.Two K k1 n1 k2 n2 w)(hK:K<w.heap.size):
  Calls Tryz.prog 31 #[.slice none 0 0,.int .i64 (-1),.int .i64 0,.agg (Bw.root K cap)] w λe w'=>∃g c,e=.returned (.slice (some ⟨g,0,none⟩) 3 c)/\Bw.Own w.heap.size 3 (.slice (some ⟨g,0,none⟩) 3 c) (((Bw.item (-1) 0 (Bw.root K cap))++Bw.item 0 0 (Bw.leaf k1 n1))++Bw.item 0 1 (Bw.leaf k2 n2)) w'/\Below w.heap.size w w':=by
 obtain⟨i0,hi,hz0,hz1,hz2⟩:=info_parts Bw.infoItem;obtain⟨w1,hw1⟩:=pE (w.alloc (.cells #[.int .i64 6,.int .i64 0,.int .i64 0,.int .i64 0,.int .i64 0,.int .i64 0,.slice none 0 0,.slice none 0 0,.slice (some ⟨K,0,none⟩) 2 cap,.slice none 0 0,.slice none 0 0,.slice none 0 0] 32));have B1:=pB hw1;have N1:w1.heap[w.heap.size]? =some (.cells #[.int .i64 6,.int .i64 0,.int .i64 0,.int .i64 0,.int .i64 0,.int .i64 0,.slice none 0 0,.slice none 0 0,.slice (some ⟨K,0,none⟩) 2 cap,.slice none 0 0,.slice none 0 0,.slice none 0 0] 32 (0,0)):=pH hw1;have hlf:(Tryz.prog.info? 32).map (·.size)=some (#[.int .i64 6,.int .i64 0,.int .i64 0,.int .i64 0,.int .i64 0,.int .i64 0,.slice none 0 0,.slice none 0 0,.slice (some ⟨K,0,none⟩) 2 cap,.slice none 0 0,.slice none 0 0,.slice none 0 0]:Array Value).size:=Bw.info;obtain⟨w2,hw2⟩:=pE (w1.alloc (.cells #[.int .i64 (-1),.int .i64 0,.int .i64 6,.int .i64 0,.int .i64 0,.int .i64 0,.int .i64 0,.int .i64 0,.slice none 0 0,.slice none 0 0,.slice (some ⟨K,0,none⟩) 2 cap,.slice none 0 0,.slice none 0 0,.slice none 0 0] 53));have B2:=pB hw2;have N2:=pH hw2;have V2:Hid (w2.ownsRow w.heap.size 53 14 (.slice none 0 0) 0 []):=World.ownsRow_nil _ _ _ _;have hlt1:=(Array.getElem?_eq_some_iff.1 N1).1
 have N12:w2.heap[w.heap.size]? =some (.cells #[.int .i64 6,.int .i64 0,.int .i64 0,.int .i64 0,.int .i64 0,.int .i64 0,.slice none 0 0,.slice none 0 0,.slice (some ⟨K,0,none⟩) 2 cap,.slice none 0 0,.slice none 0 0,.slice none 0 0] 32 (0,0)):=(B2.block _ hlt1).trans N1;have hu:=Tryz.underlying32;have hi1:(Tryz.prog.info? 32).map (·.size)=some (Bw.leaf k1 n1).toList.length:=Bw.info;have hi2:(Tryz.prog.info? 32).map (·.size)=some (Bw.leaf k2 n2).toList.length:=Bw.info;have HN:Hid (∀j u,(#[.int .i64 (-1),.int .i64 0,.int .i64 6,.int .i64 0,.int .i64 0,.int .i64 0,.int .i64 0,.int .i64 0,.slice none 0 0,.slice none 0 0,.slice (some ⟨K,0,none⟩) 2 cap,.slice none 0 0,.slice none 0 0,.slice none 0 0]:Array Value).toList[j]? =some u->w2.cell? ((⟨w1.heap.size,0,none⟩:Addr).add j)=some u):=World.news_of_block N2
 have HO:Hid (∀u∈(#[.int .i64 (-1),.int .i64 0,.int .i64 6,.int .i64 0,.int .i64 0,.int .i64 0,.int .i64 0,.int .i64 0,.slice none 0 0,.slice none 0 0,.slice (some ⟨K,0,none⟩) 2 cap,.slice none 0 0,.slice none 0 0,.slice none 0 0]:Array Value).toList,u.oneCell'=true):=by
  intro u hu';have h:(#[.int .i64 (-1),.int .i64 0,.int .i64 6,.int .i64 0,.int .i64 0,.int .i64 0,.int .i64 0,.int .i64 0,.slice none 0 0,.slice none 0 0,.slice (some ⟨K,0,none⟩) 2 cap,.slice none 0 0,.slice none 0 0,.slice none 0 0]:Array Value).toList.all (·.oneCell')=true:=by kernel_rfl
  exact List.all_eq_true.1 h u hu'
 have HW:Hid (Below w.heap.size w w2/\w.heap.size<w2.heap.size/\w2.heap[w.heap.size]? =some (.cells #[.int .i64 6,.int .i64 0,.int .i64 0,.int .i64 0,.int .i64 0,.int .i64 0,.slice none 0 0,.slice none 0 0,.slice (some ⟨K,0,none⟩) 2 cap,.slice none 0 0,.slice none 0 0,.slice none 0 0] 32 (0,0))):=⟨B1.trans (B2.mono B1.size),by have:=B2.size;omega,N12⟩;have HT:Hid (∀W,Below w.heap.size w W->Bw.Two K k1 n1 k2 n2 W):=λW hb=>hT.keep (hb.block K hK);have H1:Hid _:=hw1;have H2:Hid _:=hw2;clear hw1 hw2 B1 B2 N12 hlt1 hT;show Calls _ _ #[.slice none 0 0,.int .i64 (-1),.int .i64 0,.agg #[.int .i64 6,.int .i64 0,.int .i64 0,.int .i64 0,.int .i64 0,.int .i64 0,.slice none 0 0,.slice none 0 0,.slice (some ⟨K,0,none⟩) 2 cap,.slice none 0 0,.slice none 0 0,.slice none 0 0]] _ _
 go_enter Tryz.func31,Tryz.ntmps31
 go_upto_region 2 with fail
 rw[H1.out];clear H1
 go_wp2_with (first
  |refine wpList_load_row rfl 32 _ rfl _ rfl 32 _ (0,0) _ N1 hu rfl hlf ?_
  |(at_builtin;rw[H2.out];refine wpList_append_lies _ rfl _ _ 47 rfl w.heap.size 53 i0 (.agg #[.int .i64 0,.int .i64 0,.int .i64 0,.int .i64 0,.int .i64 0,.int .i64 0,.int .i64 0,.int .i64 0,.slice none 0 0,.slice none 0 0,.slice none 0 0,.slice none 0 0,.slice none 0 0,.slice none 0 0]) 14 208 Tryz.underlying47 hi hz0 hz1 hz2 rfl (by decide) (.slice none 0 0) 0 [] rfl V2.out ⟨w1.heap.size,0,none⟩ 1 1 (#[.int .i64 (-1),.int .i64 0,.int .i64 6,.int .i64 0,.int .i64 0,.int .i64 0,.int .i64 0,.int .i64 0,.slice none 0 0,.slice none 0 0,.slice (some ⟨K,0,none⟩) 2 cap,.slice none 0 0,.slice none 0 0,.slice none 0 0]:Array Value).toList rfl rfl HN.out HO.out (by decide) ?c3 (by omega) ?c5 _ rfl ?_))
 case c3=>unfold maxLen;omega
 case c5=>have:=HW.out.2.1;omega
 intro g c W3 own3 g3 hg hlt;have B3:Below w.heap.size w2 W3:=Rk.below_grown (Below.refl _ _) (by have:=HW.out.2.1;omega) V2.out g3;have QW3:Hid (Bw.Own w.heap.size 1 (.slice (some ⟨g,0,none⟩) 1 c) (Bw.item (-1) 0 (Bw.root K cap)) W3/\Below w.heap.size w W3):=⟨own3,HW.out.1.trans B3⟩;have N3:W3.heap[w.heap.size]? =some (.cells #[.int .i64 6,.int .i64 0,.int .i64 0,.int .i64 0,.int .i64 0,.int .i64 0,.slice none 0 0,.slice none 0 0,.slice (some ⟨K,0,none⟩) 2 cap,.slice none 0 0,.slice none 0 0,.slice none 0 0] 32 (0,0)):=(g3.block _ HW.out.2.1 (λe=>by simp[Value.ownBlock]at e)).trans HW.out.2.2;have k8:W3.cell? ⟨w.heap.size,8,none⟩=some (.slice (some ⟨K,0,none⟩) 2 cap):=by simp[World.cell?,N3]
 clear own3 g3 hg hlt B3 N1 N2 N3 H2 V2 HN HO HW hi hz0 hz1 hz2;go_wp2;refine wp_loop_rounds 3 ?_;rw[rounds_succ];have R1:=(HT.out W3 QW3.out.2).1;have NZ1:(W3.alloc (.cells #[.int .i64 0,.int .i64 0,.int .i64 0,.int .i64 0,.int .i64 0,.int .i64 0,.slice none 0 0,.slice none 0 0,.slice none 0 0,.slice none 0 0,.slice none 0 0,.slice none 0 0] 32)).heap[W3.heap.size]? =some (.cells #[.int .i64 0,.int .i64 0,.int .i64 0,.int .i64 0,.int .i64 0,.int .i64 0,.slice none 0 0,.slice none 0 0,.slice none 0 0,.slice none 0 0,.slice none 0 0,.slice none 0 0] 32 (0,0)):=heap_alloc_new W3 _;obtain⟨v1,hv1⟩:=pE ((W3.alloc (.cells #[.int .i64 0,.int .i64 0,.int .i64 0,.int .i64 0,.int .i64 0,.int .i64 0,.slice none 0 0,.slice none 0 0,.slice none 0 0,.slice none 0 0,.slice none 0 0,.slice none 0 0] 32)).setRow W3.heap.size (Bw.leaf k1 n1));have Nv1:v1.heap[W3.heap.size]? =some (.cells (Bw.leaf k1 n1) 32 (0,0)):=by rw[<-hv1];exact setRow_heap _ _ _ _ _ _ NZ1
 have Bv1:Below W3.heap.size W3 v1:=by rw[<-hv1];exact Tk.below_row ((Below.refl _ W3).alloc (Nat.le_refl _) _) (Nat.le_refl _) _
 have Qv1:Hid (Bw.Own w.heap.size 1 (.slice (some ⟨g,0,none⟩) 1 c) (Bw.item (-1) 0 (Bw.root K cap)) v1/\Below w.heap.size w v1):=⟨World.ownsRow.kept (row:=none) QW3.out.1 ⟨Bv1.os,Bv1.tape,Bv1.output,Bv1.size,λk hk _=>Bv1.block k hk⟩ (.inr (by simp[Value.ownBlock])),QW3.out.2.trans (Bv1.mono QW3.out.2.size)⟩;have Hv1:Hid _:=hv1;clear hv1 Bv1
 go_upto_region 6 with(first
  |refine wpList_load_mid rfl 32 _ rfl K 0 rfl (Bw.leaf k1 n1).toList _ R1 hu rfl hi1 ?_
  |refine wpList_store_row rfl 32 _ _ rfl W3.heap.size (Bw.leaf k1 n1) rfl rfl 32 _ NZ1 Bw.info (Bw.zero_size.trans (Bw.leaf_size _ _).symm) (Bw.leaf_one _ _) ?_)
 rw[Hv1.out]
 go_wp2_with (refine wpList_load_row rfl 32 _ rfl _ rfl 32 _ (0,0) _ Nv1 hu rfl Bw.info ?_)
 refine Calls.mono (Tryz.bwList_leaf k1 n1 0 0 w.heap.size 1 _ _ (Bw.item (-1) 0 (Bw.root K cap)) v1 Qv1.out.1 (by decide) Qv1.out.2.size) ?_;rintro e u1 ⟨g1,c1,rfl,o1,t1⟩;have Qu1:Hid (Bw.Own w.heap.size 2 (.slice (some ⟨g1,0,none⟩) 2 c1) ((Bw.item (-1) 0 (Bw.root K cap))++Bw.item 0 0 (Bw.leaf k1 n1)) u1/\Below w.heap.size w u1):=⟨o1,Qv1.out.2.trans t1⟩;clear o1 t1 Hv1 Nv1 NZ1 R1;go_wp2;rw[rounds_succ];have R2:=(HT.out u1 Qu1.out.2).2;have NZ2:(u1.alloc (.cells #[.int .i64 0,.int .i64 0,.int .i64 0,.int .i64 0,.int .i64 0,.int .i64 0,.slice none 0 0,.slice none 0 0,.slice none 0 0,.slice none 0 0,.slice none 0 0,.slice none 0 0] 32)).heap[u1.heap.size]? =some (.cells #[.int .i64 0,.int .i64 0,.int .i64 0,.int .i64 0,.int .i64 0,.int .i64 0,.slice none 0 0,.slice none 0 0,.slice none 0 0,.slice none 0 0,.slice none 0 0,.slice none 0 0] 32 (0,0)):=heap_alloc_new u1 _;obtain⟨v2,hv2⟩:=pE ((u1.alloc (.cells #[.int .i64 0,.int .i64 0,.int .i64 0,.int .i64 0,.int .i64 0,.int .i64 0,.slice none 0 0,.slice none 0 0,.slice none 0 0,.slice none 0 0,.slice none 0 0,.slice none 0 0] 32)).setRow u1.heap.size (Bw.leaf k2 n2));have Nv2:v2.heap[u1.heap.size]? =some (.cells (Bw.leaf k2 n2) 32 (0,0)):=by rw[<-hv2];exact setRow_heap _ _ _ _ _ _ NZ2
 have Bv2:Below u1.heap.size u1 v2:=by rw[<-hv2];exact Tk.below_row ((Below.refl _ u1).alloc (Nat.le_refl _) _) (Nat.le_refl _) _
 have Qv2:Hid (Bw.Own w.heap.size 2 (.slice (some ⟨g1,0,none⟩) 2 c1) ((Bw.item (-1) 0 (Bw.root K cap))++Bw.item 0 0 (Bw.leaf k1 n1)) v2/\Below w.heap.size w v2):=⟨World.ownsRow.kept (row:=none) Qu1.out.1 ⟨Bv2.os,Bv2.tape,Bv2.output,Bv2.size,λk hk _=>Bv2.block k hk⟩ (.inr (by simp[Value.ownBlock])),Qu1.out.2.trans (Bv2.mono Qu1.out.2.size)⟩;have Hv2:Hid _:=hv2;clear hv2 Bv2
 go_upto_region 6 with(first
  |refine wpList_load_mid rfl 32 _ rfl K 12 rfl (Bw.leaf k2 n2).toList _ R2 hu rfl hi2 ?_
  |refine wpList_store_row rfl 32 _ _ rfl u1.heap.size (Bw.leaf k2 n2) rfl rfl 32 _ NZ2 Bw.info (Bw.zero_size.trans (Bw.leaf_size _ _).symm) (Bw.leaf_one _ _) ?_)
 rw[Hv2.out]
 go_wp2_with (refine wpList_load_row rfl 32 _ rfl _ rfl 32 _ (0,0) _ Nv2 hu rfl Bw.info ?_)
 refine Calls.mono (Tryz.bwList_leaf k2 n2 0 1 w.heap.size 2 _ _ ((Bw.item (-1) 0 (Bw.root K cap))++Bw.item 0 0 (Bw.leaf k1 n1)) v2 Qv2.out.1 (by decide) Qv2.out.2.size) ?_;rintro e u2 ⟨g2,c2,rfl,o2,t2⟩;have Qu2:Hid (Bw.Own w.heap.size 3 (.slice (some ⟨g2,0,none⟩) 3 c2) (((Bw.item (-1) 0 (Bw.root K cap))++Bw.item 0 0 (Bw.leaf k1 n1))++Bw.item 0 1 (Bw.leaf k2 n2)) u2/\Below w.heap.size w u2):=⟨o2,Qv2.out.2.trans t2⟩;clear o2 t2 Hv2 Nv2 NZ2 R2;go_wp2;rw[rounds_succ];go_wp2;go_ret;exact⟨g2,c2,rfl,Qu2.out⟩
def Bw.At (g o:Nat)(r:Array Value)(W:World):Prop:=∃cur T,W.heap[g]? =some (.cells cur T (0,0))/\∀i,i<12->cur[o+i]? =r[i]?
theorem Bw.At.lt {g o:Nat}{r:Array Value}{W:World}(h:Bw.At g o r W):g<W.heap.size:=by
 obtain⟨cur,T,h1,_⟩:=h;exact(Array.getElem?_eq_some_iff.1 h1).1
theorem Bw.At.cell {g o:Nat}{r:Array Value}{W:World}(h:Bw.At g o r W)(i:Nat)(hi:i<12):W.cell? ⟨g,o+i,none⟩=r[i]? :=by
 obtain⟨cur,T,h1,h2⟩:=h;simp only[World.cell?,h1];exact h2 i hi
theorem Bw.At.frozen {g o:Nat}{r:Array Value}{W:World}(h:Bw.At g o r W)(i:Nat):W.frozen? ⟨g,i,none⟩=false:=by
 obtain⟨cur,T,h1,h2⟩:=h;simp[World.frozen?,h1]
theorem Bw.At.keep {g o:Nat}{r:Array Value}{W W':World}(h:Bw.At g o r W)(hk:W'.heap[g]? =W.heap[g]?):Bw.At g o r W':=by
 obtain⟨cur,T,h1,h2⟩:=h;exact⟨cur,T,hk.trans h1,h2⟩
theorem Bw.same {W:World}{g i:Nat}{v:Value}{cur:Array Value}{T:TypeId}{fr:Nat×Nat}(h:W.heap[g]? =some (.cells cur T fr))(hv:cur[i]? =some v):W.setCell ⟨g,i,none⟩ v=W:=by
 have hc:cur.setIfInBounds i v=cur:=by
  refine Array.ext_getElem? λk=> ?_;rw[Array.getElem?_setIfInBounds]
  split
  ·rename_i e
   subst e
   split
   ·exact hv.symm
   rename_i hn
   rw[Array.getElem?_eq_none (by omega)]
  rfl
 have hh:(W.setCell ⟨g,i,none⟩ v).heap=W.heap:=by
  refine Array.ext_getElem? λk=> ?_;unfold World.setCell;rw[Array.getElem?_modify]
  split
  ·rename_i e
   subst e;simp[h,hc]
  rfl
 calc W.setCell ⟨g,i,none⟩ v= {W with heap:=(W.setCell ⟨g,i,none⟩ v).heap} :=rfl
  _=W:=by rw[hh]
theorem Bw.At.same {g o:Nat}{r:Array Value}{W:World}(h:Bw.At g o r W){i:Nat}(hi:i<12){v:Value}(hv:r[i]? =some v):W.setCell ⟨g,o+i,none⟩ v=W:=by
 obtain⟨cur,T,h1,h2⟩:=h;exact Bw.same h1 ((h2 i hi).trans hv)
theorem Bw.At.put {g o:Nat}{r:Array Value}{W:World}(h:Bw.At g o r W)(i:Nat)(hi:i<12)(hr:r.size=12)(v:Value):Bw.At g o (r.setIfInBounds i v) (W.setCell ⟨g,o+i,none⟩ v):=by
 obtain⟨cur,T,h1,h2⟩:=h;refine⟨cur.setIfInBounds (o+i) v,T,by simp[World.setCell,Array.getElem?_modify,h1],λj hj=> ?_⟩;have h3:=h2 j hj;have h4:=h2 i hi
 have hl:o+i<cur.size:=by
  rw[Array.getElem?_eq_getElem (by omega:i<r.size)]at h4;exact(Array.getElem?_eq_some_iff.1 h4).1
 rw[Array.getElem?_setIfInBounds,Array.getElem?_setIfInBounds]
 by_cases q:i=j
 ·subst q
  simp[hl,hr,hi]
 rw[if_neg (by omega),if_neg q];exact h3
theorem Bw.At.put_other {g o:Nat}{r:Array Value}{W:World}(h:Bw.At g o r W)(p:Nat)(hp:p<o∨o+12<=p)(v:Value):Bw.At g o r (W.setCell ⟨g,p,none⟩ v):=by
 obtain⟨cur,T,h1,h2⟩:=h;refine⟨cur.setIfInBounds p v,T,by simp[World.setCell,Array.getElem?_modify,h1],λj hj=> ?_⟩;rw[Array.getElem?_setIfInBounds,if_neg (by omega)];exact h2 j hj
theorem Bw.At.of_take {g n:Nat}{cur:Array Value}{T:TypeId}{W:World}{xs:List Value}(h:W.heap[g]? =some (.cells cur T (0,0)))(hx:cur.toList.take n=xs)(o:Nat)(r:Array Value)(hr:∀i,i<12->xs[o+i]? =r[i]?)(ho:o+12<=n):Bw.At g o r W:=by
 refine⟨cur,T,h,λi hi=> ?_⟩;rw[<-hr i hi,<-hx,List.getElem?_take,if_pos (by omega)]
 simp
end Go.Proofs
namespace Go.Proofs.YtenaelpdnccgnaaGreatDoor
open Go.ChangeShapes Go.WideShapes Go.ChangeAt Go.RowKit
theorem gOps:Tryz.prog.globalNamed "treenail/term.operators" =some 0:=by kernel_rfl
theorem gOpsType:(Tryz.prog.globals[0]?).map (·.type)=some 143:=by kernel_rfl
theorem cellsOps:Tryz.prog.cellsOf 143=75:=by kernel_rfl
theorem cellsOp:Tryz.prog.cellsOf 142=5:=by kernel_rfl
theorem cellsInt':Tryz.prog.cellsOf 3=1:=by kernel_rfl
theorem cellsString':Tryz.prog.cellsOf 9=1:=by kernel_rfl
theorem list5' {α:Type}{l:List α}(h:l.length=5):∃a b c d e,l= [a,b,c,d,e]:=by
 match l,h with
 | [a,b,c,d,e],_=>exact⟨a,b,c,d,e,rfl⟩
theorem op_one {H:Type}{enc:TypeId×Value->H}{W:World}{base:Nat}{sp:Nat->Bool}{held:Bool}{fuel:Nat}{cs:List Value}{x:DataW H×List MemPlace}{t:List UInt8}{n1 n2 n3 n4:Int}
  (h:DataW.trod enc Tryz.prog W base sp held fuel 142 cs=some x) (hx:x.1=.agg [.lit (.string t),.lit (.int .i64 n1),.lit (.int .i64 n2),.lit (.int .i64 n3),.lit (.int .i64 n4)]):
  cs= [.string ⟨t.toArray⟩,.int .i64 n1,.int .i64 n2,.int .i64 n3,.int .i64 n4]:=by
 obtain⟨ys,n,_,hx',hl,hy,hf⟩:=DataW.trod_struct Tryz.underlying142 h;rw[cellsOp]at hl;have hy:ys.length=5:=hy;obtain⟨c0,c1,c2,c3,c4,rfl⟩:=list5' hl;obtain⟨y0,y1,y2,y3,y4,rfl⟩:=list5' hy;have g0:DataW.trod enc Tryz.prog W base sp held n 9 (([c0,c1,c2,c3,c4].drop 0).take (Tryz.prog.cellsOf 9))= [y0,y1,y2,y3,y4][0]? :=hf 0 _ rfl;have g1:DataW.trod enc Tryz.prog W base sp held n 3 (([c0,c1,c2,c3,c4].drop 1).take (Tryz.prog.cellsOf 3))= [y0,y1,y2,y3,y4][1]? :=hf 1 _ rfl;have g2:DataW.trod enc Tryz.prog W base sp held n 3 (([c0,c1,c2,c3,c4].drop 2).take (Tryz.prog.cellsOf 3))= [y0,y1,y2,y3,y4][2]? :=hf 2 _ rfl;have g3:DataW.trod enc Tryz.prog W base sp held n 3 (([c0,c1,c2,c3,c4].drop 3).take (Tryz.prog.cellsOf 3))= [y0,y1,y2,y3,y4][3]? :=hf 3 _ rfl;have g4:DataW.trod enc Tryz.prog W base sp held n 3 (([c0,c1,c2,c3,c4].drop 4).take (Tryz.prog.cellsOf 3))= [y0,y1,y2,y3,y4][4]? :=hf 4 _ rfl;rw[cellsString']at g0;rw[cellsInt']at g1 g2 g3 g4;obtain⟨s,e0,d0,_⟩:=DataW.trod_string Tryz.underlying9 g0;obtain⟨m1,e1,d1,_⟩:=DataW.trod_int Tryz.underlying3 g1;obtain⟨m2,e2,d2,_⟩:=DataW.trod_int Tryz.underlying3 g2;obtain⟨m3,e3,d3,_⟩:=DataW.trod_int Tryz.underlying3 g3;obtain⟨m4,e4,d4,_⟩:=DataW.trod_int Tryz.underlying3 g4;obtain rfl:c0=.string s:=(List.cons.inj e0).1;obtain rfl:c1=.int .i64 m1:=(List.cons.inj e1).1
 obtain rfl:c2=.int .i64 m2:=(List.cons.inj e2).1;obtain rfl:c3=.int .i64 m3:=(List.cons.inj e3).1;obtain rfl:c4=.int .i64 m4:=(List.cons.inj e4).1;rw[hx']at hx;rw[d0,d1,d2,d3,d4]at hx;simp only[List.map_cons,List.map_nil,DataW.agg.injEq,List.cons.injEq,DataW.lit.injEq,Lit.int.injEq,Lit.string.injEq,and_true,true_and]at hx;obtain⟨rfl,rfl,rfl,rfl,rfl⟩:=hx;rfl
theorem ops_of_laid {W:World}(h:laidMet Tryz.prog [("treenail/term.operators",Rows.laid_treenail_term_operators)] W):Tk.Ops W:=by
 obtain⟨ps,⟨g',t',cs,fuel,p,q,hg',ht',hvar,hd,_,_⟩,_⟩:=h;obtain rfl:=Option.some.inj (gOps.symm.trans hg');obtain rfl:=Option.some.inj (gOpsType.symm.trans ht');obtain⟨xs,m,rfl,hx,hl,hxl,hf⟩:=DataW.trod_array Tryz.underlying143 hd;rw[cellsOps]at hl;simp only[cellsOp]at hf;have hx1:=congrArg Prod.fst hx;have hlen:xs.length=15:=hxl;simp only[Rows.laid_treenail_term_operators,DataW.agg.injEq]at hx1
 have row:∀(i:Nat) (t:List UInt8) (n1 n2 n3 n4:Int),i<15->(xs.map (·.1))[i]? =some (.agg [.lit (.string t),.lit (.int .i64 n1),.lit (.int .i64 n2),.lit (.int .i64 n3),.lit (.int .i64 n4)])->
   (cs.toList.drop (i*5)).take 5= [.string ⟨t.toArray⟩,.int .i64 n1,.int .i64 n2,.int .i64 n3,.int .i64 n4]:=by
  intro i t n1 n2 n3 n4 hi hL;obtain⟨x,hxi⟩:∃x,xs[i]? =some x:=⟨xs[i]'(by omega),List.getElem?_eq_getElem (by omega)⟩;rw[List.getElem?_map,hxi]at hL;exact op_one (x:=x) ((hf i hi).trans hxi) (by simpa using hL)
 have step:∀n,cs.toList.drop n=(cs.toList.drop n).take 5++cs.toList.drop (n+5):=λn=>by
  have:=(List.take_append_drop 5 (cs.toList.drop n)).symm;rw[List.drop_drop]at this;exact this
 have r0:=row 0 [] 0 0 0 0 (by decide) (by rw[<-hx1];rfl);have r1:=row 1 [] 0 0 1099511627776 1 (by decide) (by rw[<-hx1];rfl);have r2:=row 2 [36] 0 0 3 1 (by decide) (by rw[<-hx1];rfl);have r3:=row 3 [110,101,103] 1 1 0 1 (by decide) (by rw[<-hx1];rfl);have r4:=row 4 [110,111,116] 1 2 0 2 (by decide) (by rw[<-hx1];rfl);have r5:=row 5 [97,100,100] 2 1 0 1 (by decide) (by rw[<-hx1];rfl);have r6:=row 6 [115,117,98] 2 1 0 1 (by decide) (by rw[<-hx1];rfl);have r7:=row 7 [109,117,108] 2 1 0 1 (by decide) (by rw[<-hx1];rfl);have r8:=row 8 [100,105,118] 2 1 0 1 (by decide) (by rw[<-hx1];rfl);have r9:=row 9 [109,111,100] 2 1 0 1 (by decide) (by rw[<-hx1];rfl);have r10:=row 10 [101,113] 2 1 0 2 (by decide) (by rw[<-hx1];rfl);have r11:=row 11 [108,116] 2 1 0 2 (by decide) (by rw[<-hx1];rfl);have r12:=row 12 [108,101] 2 1 0 2 (by decide) (by rw[<-hx1];rfl);have r13:=row 13 [97,110,100] 2 2 0 2 (by decide) (by rw[<-hx1];rfl);have r14:=row 14 [111,114] 2 2 0 2 (by decide) (by rw[<-hx1];rfl)
 have hca:cs=Tk.opVals:=by
  apply Array.toList_inj.1;have h0:cs.toList=cs.toList.drop 0:=rfl;have h75:cs.toList.drop 75= []:=List.drop_eq_nil_iff.2 (by omega);rw[h0,step 0,step 5,step 10,step 15,step 20,step 25,step 30,step 35,step 40,step 45,step 50,step 55,step 60,step 65,step 70,h75];have q0:(cs.toList.drop 0).take 5=_:=r0;have q1:(cs.toList.drop 5).take 5=_:=r1;have q2:(cs.toList.drop 10).take 5=_:=r2;have q3:(cs.toList.drop 15).take 5=_:=r3;have q4:(cs.toList.drop 20).take 5=_:=r4;have q5:(cs.toList.drop 25).take 5=_:=r5;have q6:(cs.toList.drop 30).take 5=_:=r6;have q7:(cs.toList.drop 35).take 5=_:=r7;have q8:(cs.toList.drop 40).take 5=_:=r8;have q9:(cs.toList.drop 45).take 5=_:=r9;have q10:(cs.toList.drop 50).take 5=_:=r10;have q11:(cs.toList.drop 55).take 5=_:=r11;have q12:(cs.toList.drop 60).take 5=_:=r12;have q13:(cs.toList.drop 65).take 5=_:=r13;have q14:(cs.toList.drop 70).take 5=_:=r14;rw[q0,q1,q2,q3,q4,q5,q6,q7,q8,q9,q10,q11,q12,q13,q14];rfl
 subst hca;simp only[World.var?,gOps,Option.bind_some]at hvar
 split at hvar
 ·rename_i cs' t fz hh
  obtain rfl:=Option.some.inj hvar;exact⟨t,fz,hh⟩
 cases hvar
end Go.Proofs.YtenaelpdnccgnaaGreatDoor
