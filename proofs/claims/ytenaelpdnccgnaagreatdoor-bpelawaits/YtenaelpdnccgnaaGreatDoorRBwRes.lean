import Derived.Deep.MidRow
import Derived.Test.YtenaelpdnccgnaaGreatDoorRNsSame3
import Derived.Deep.OwnRows
import Derived.WalkMore
import Derived.Deep.Slices
import Derived.Test.YtenaelpdnccgnaaGreatDoorRAllNtTwoB
import Derived.Carry
import Derived.ProofKit
import Derived.SizedLaws
set_option maxRecDepth 100000
set_option maxHeartbeats 32000000
namespace Go.Proofs
open Go.RowKit Go.Shelf
def Bw.leaf (k nd:Int):Array Value:=#[.int .i64 k,.int .i64 nd,.int .i64 0,.int .i64 0,.int .i64 0,.int .i64 0,.slice none 0 0,.slice none 0 0,.slice none 0 0,.slice none 0 0,.slice none 0 0,.slice none 0 0]
def Bw.root (K cap:Nat):Array Value:=#[.int .i64 6,.int .i64 0,.int .i64 0,.int .i64 0,.int .i64 0,.int .i64 0,.slice none 0 0,.slice none 0 0,.slice (some ⟨K,0,none⟩) 2 cap,.slice none 0 0,.slice none 0 0,.slice none 0 0]
theorem Bw.leaf_size (k nd:Int):(Bw.leaf k nd).size=12:=rfl
theorem Bw.leaf_one (k nd:Int):(Bw.leaf k nd).all (·.oneCell')=true:=by kernel_rfl
theorem Bw.zero_size:(#[.int .i64 0,.int .i64 0,.int .i64 0,.int .i64 0,.int .i64 0,.int .i64 0,.slice none 0 0,.slice none 0 0,.slice none 0 0,.slice none 0 0,.slice none 0 0,.slice none 0 0]:Array Value).size=12:=rfl
theorem Bw.info:(Tryz.prog.info? 32).map (·.size)=some 12:=by kernel_rfl
def Bw.Bx (q:Nat)(r:Int)(W:World):Prop:=W.heap[q]? =some (.cells #[.int .i64 r] 3 (0,0))
theorem Bw.Bx.c {q:Nat}{r:Int}{W:World}(h:Bw.Bx q r W):W.cell? ⟨q,0,none⟩=some (.int .i64 r):=by unfold Bw.Bx at h;simp[World.cell?,h]
theorem Bw.Bx.f {q:Nat}{r:Int}{W:World}(h:Bw.Bx q r W):W.frozen? ⟨q,0,none⟩=false:=by unfold Bw.Bx at h;simp[World.frozen?,h]
theorem Bw.Bx.lt {q:Nat}{r:Int}{W:World}(h:Bw.Bx q r W):q<W.heap.size:=(Array.getElem?_eq_some_iff.1 h).1
theorem Bw.Bx.put {q:Nat}{r:Int}{W:World}(h:Bw.Bx q r W)(s:Int):Bw.Bx q s (W.setCell ⟨q,0,none⟩ (.int .i64 s)):=by unfold Bw.Bx at h⊢;simp[World.setCell,Array.getElem?_modify,h]
theorem Bw.Bx.below {q:Nat}{r:Int}{W W':World}(h:Bw.Bx q r W)(hb:Below W.heap.size W W'):Bw.Bx q r W':=(hb.block _ h.lt).trans h
def Bw.Two (K:Nat)(k1 n1 k2 n2:Int)(W:World):Prop:=W.rangeAt K 0 (Bw.leaf k1 n1).toList/\W.rangeAt K 12 (Bw.leaf k2 n2).toList
theorem Bw.Two.keep {K:Nat}{k1 n1 k2 n2:Int}{W W':World}(h:Bw.Two K k1 n1 k2 n2 W)(hb:W'.heap[K]? =W.heap[K]?):Bw.Two K k1 n1 k2 n2 W':=
 ⟨λj v hv=>(World.cell?_of_block hb).trans (h.1 j v hv),λj v hv=>(World.cell?_of_block hb).trans (h.2 j v hv)⟩
theorem Tryz.bwRes_leaf (k nd lv r:Int)(q:Nat)(w:World)(hq:Bw.Bx q r w)(h1:0<=lv)(h2:lv<=1000)(h3:lv<=r)(h4:r<=20000000):
  Calls Tryz.prog 30 #[.agg (Bw.leaf k nd),.int .i64 lv,.pointer (some ⟨q,0,none⟩)] w λe w'=>e=.returned (.bool true)/\Bw.Bx q (r-lv) w'/\Tk.But (λi=>i=q) w w':=by
 obtain⟨w1,hw1⟩:=pE (w.alloc (.cells (Bw.leaf k nd) 32));have B1:=pB hw1;have N1:=pH hw1;have Q1:Bw.Bx q r w1:=hq.below B1;have kq:=Q1.c;have fq:=Q1.f;obtain⟨w2,hw2⟩:=pE (w1.setCell ⟨q,0,none⟩ (.int .i64 (r-lv)));have Q2:Hid (Bw.Bx q (r-lv) w2/\Tk.But (λi=>i=q) w w2):=⟨by rw[<-hw2];exact Q1.put _,by rw[<-hw2];exact(Tk.But.of_below B1:Tk.But (λi=>i=q) w w1).setCell (p:=⟨q,0,none⟩) rfl _⟩;have hne:w.heap.size≠q:=by have:=hq.lt;omega
 have N2:w2.heap[w.heap.size]? =some (.cells (Bw.leaf k nd) 32 (0,0)):=by rw[<-hw2,Below.heap_setCell w1 ⟨q,0,none⟩ _ _ hne];exact N1
 have k8:w2.cell? ⟨w.heap.size,8,none⟩=some (.slice none 0 0):=by simp[World.cell?,N2,Bw.leaf]
 have kq2:=Q2.out.1.c;have H1:Hid _:=hw1;have H2:Hid _:=hw2;have d1:decide (r-lv<0)=false:=decide_eq_false (by omega);have d2:decide (1000<lv)=false:=decide_eq_false (by omega);clear hw1 hw2 B1 N1 N2 Q1 hq hne
 go_enter Tryz.func30,Tryz.ntmps30
 go_upto_region 1 with fail
 rw[H1.out]
 go_upto_region 2 with fail
 rw[H2.out];clear H1 H2 kq fq;go_wp2;refine wp_loop_rounds 1 ?_;rw[rounds_succ];go_wp2;go_ret;exact⟨rfl,Q2.out⟩
theorem Tryz.bwRes_root (K cap:Nat)(k1 n1 k2 n2:Int)(q:Nat)(r:Int)(w:World)(hq:Bw.Bx q r w)(hT:Bw.Two K k1 n1 k2 n2 w)(hK:K<w.heap.size)(hKq:K≠q)(h3:100<=r)(h4:r<=20000000):
  Calls Tryz.prog 30 #[.agg (Bw.root K cap),.int .i64 1,.pointer (some ⟨q,0,none⟩)] w λe w'=>e=.returned (.bool true)/\Tk.But (λi=>i=q) w w':=by
 obtain⟨w1,hw1⟩:=pE (w.alloc (.cells (Bw.root K cap) 32));have B1:=pB hw1;have N1:=pH hw1;have Q1:Bw.Bx q r w1:=hq.below B1;have kq:=Q1.c;have fq:=Q1.f;obtain⟨w2,hw2⟩:=pE (w1.setCell ⟨q,0,none⟩ (.int .i64 (r-1)));have Qw2:Hid (Bw.Bx q (r-1) w2/\Tk.But (λi=>i=q) w w2):=⟨by rw[<-hw2];exact Q1.put _,by rw[<-hw2];exact(Tk.But.of_below B1:Tk.But (λi=>i=q) w w1).setCell (p:=⟨q,0,none⟩) rfl _⟩;have hne:w.heap.size≠q:=by have:=hq.lt;omega
 have N2:w2.heap[w.heap.size]? =some (.cells (Bw.root K cap) 32 (0,0)):=by rw[<-hw2,Below.heap_setCell w1 ⟨q,0,none⟩ _ _ hne];exact N1
 have k8:w2.cell? ⟨w.heap.size,8,none⟩=some (.slice (some ⟨K,0,none⟩) 2 cap):=by simp[World.cell?,N2,Bw.root]
 have kq2:=Qw2.out.1.c;have HT:Hid (∀W,Tk.But (λi=>i=q) w W->Bw.Two K k1 n1 k2 n2 W):=λW hb=>hT.keep (hb.block K hK hKq);have H1:Hid _:=hw1;have H2:Hid _:=hw2;have d2:decide ((1000:Int)<1)=false:=by decide
 have d1:decide (r-1<0)=false:=decide_eq_false (by omega);have hu:=Tryz.underlying32;have hi1:(Tryz.prog.info? 32).map (·.size)=some (Bw.leaf k1 n1).toList.length:=Bw.info;have hi2:(Tryz.prog.info? 32).map (·.size)=some (Bw.leaf k2 n2).toList.length:=Bw.info;have R1:=(HT.out w2 Qw2.out.2).1;have HR:Hid (100<=r/\r<=20000000):=⟨h3,h4⟩;clear hw1 hw2 B1 N1 N2 Q1 hq hne hT
 go_enter Tryz.func30,Tryz.ntmps30
 go_upto_region 1 with fail
 rw[H1.out]
 go_upto_region 2 with fail
 rw[H2.out];clear H1 H2 kq fq;go_wp2;refine wp_loop_rounds 3 ?_;rw[rounds_succ];have NZ1:(w2.alloc (.cells #[.int .i64 0,.int .i64 0,.int .i64 0,.int .i64 0,.int .i64 0,.int .i64 0,.slice none 0 0,.slice none 0 0,.slice none 0 0,.slice none 0 0,.slice none 0 0,.slice none 0 0] 32)).heap[w2.heap.size]? =some (.cells #[.int .i64 0,.int .i64 0,.int .i64 0,.int .i64 0,.int .i64 0,.int .i64 0,.slice none 0 0,.slice none 0 0,.slice none 0 0,.slice none 0 0,.slice none 0 0,.slice none 0 0] 32 (0,0)):=heap_alloc_new w2 _;obtain⟨v1,hv1⟩:=pE ((w2.alloc (.cells #[.int .i64 0,.int .i64 0,.int .i64 0,.int .i64 0,.int .i64 0,.int .i64 0,.slice none 0 0,.slice none 0 0,.slice none 0 0,.slice none 0 0,.slice none 0 0,.slice none 0 0] 32)).setRow w2.heap.size (Bw.leaf k1 n1));have Nv1:v1.heap[w2.heap.size]? =some (.cells (Bw.leaf k1 n1) 32 (0,0)):=by rw[<-hv1];exact setRow_heap _ _ _ _ _ _ NZ1
 have Bv1:Below w2.heap.size w2 v1:=by rw[<-hv1];exact Tk.below_row ((Below.refl _ w2).alloc (Nat.le_refl _) _) (Nat.le_refl _) _
 have Qv1:Hid (Bw.Bx q (r-1) v1/\Tk.But (λi=>i=q) w v1):=⟨Qw2.out.1.below Bv1,Qw2.out.2.trans (.of_below Bv1)⟩;have Hv1:Hid _:=hv1;clear hv1 Bv1
 go_upto_region 7 with(first
  |refine wpList_load_mid rfl 32 _ rfl K 0 rfl (Bw.leaf k1 n1).toList _ R1 hu rfl hi1 ?_
  |refine wpList_store_row rfl 32 _ _ rfl w2.heap.size (Bw.leaf k1 n1) rfl rfl 32 _ NZ1 Bw.info (Bw.zero_size.trans (Bw.leaf_size _ _).symm) (Bw.leaf_one _ _) ?_)
 rw[Hv1.out]
 go_wp2_with (refine wpList_load_row rfl 32 _ rfl _ rfl 32 _ (0,0) _ Nv1 hu rfl Bw.info ?_)
 refine Calls.mono (Tryz.bwRes_leaf k1 n1 2 (r-1) q v1 Qv1.out.1 (by decide) (by decide) (by have:=HR.out.1;omega) (by have:=HR.out.2;omega)) ?_;rintro e u1 ⟨rfl,b1,t1⟩;have Qu1:Hid (Bw.Bx q (r-1-2) u1/\Tk.But (λi=>i=q) w u1):=⟨b1,Qv1.out.2.trans t1⟩;clear b1 t1 Hv1 Nv1 NZ1 R1;go_wp2;have R2:=(HT.out u1 Qu1.out.2).2;rw[rounds_succ];have NZ2:(u1.alloc (.cells #[.int .i64 0,.int .i64 0,.int .i64 0,.int .i64 0,.int .i64 0,.int .i64 0,.slice none 0 0,.slice none 0 0,.slice none 0 0,.slice none 0 0,.slice none 0 0,.slice none 0 0] 32)).heap[u1.heap.size]? =some (.cells #[.int .i64 0,.int .i64 0,.int .i64 0,.int .i64 0,.int .i64 0,.int .i64 0,.slice none 0 0,.slice none 0 0,.slice none 0 0,.slice none 0 0,.slice none 0 0,.slice none 0 0] 32 (0,0)):=heap_alloc_new u1 _;obtain⟨v2,hv2⟩:=pE ((u1.alloc (.cells #[.int .i64 0,.int .i64 0,.int .i64 0,.int .i64 0,.int .i64 0,.int .i64 0,.slice none 0 0,.slice none 0 0,.slice none 0 0,.slice none 0 0,.slice none 0 0,.slice none 0 0] 32)).setRow u1.heap.size (Bw.leaf k2 n2));have Nv2:v2.heap[u1.heap.size]? =some (.cells (Bw.leaf k2 n2) 32 (0,0)):=by rw[<-hv2];exact setRow_heap _ _ _ _ _ _ NZ2
 have Bv2:Below u1.heap.size u1 v2:=by rw[<-hv2];exact Tk.below_row ((Below.refl _ u1).alloc (Nat.le_refl _) _) (Nat.le_refl _) _
 have Qv2:Hid (Bw.Bx q (r-1-2) v2/\Tk.But (λi=>i=q) w v2):=⟨Qu1.out.1.below Bv2,Qu1.out.2.trans (.of_below Bv2)⟩;have Hv2:Hid _:=hv2;clear hv2 Bv2
 go_upto_region 7 with(first
  |refine wpList_load_mid rfl 32 _ rfl K 12 rfl (Bw.leaf k2 n2).toList _ R2 hu rfl hi2 ?_
  |refine wpList_store_row rfl 32 _ _ rfl u1.heap.size (Bw.leaf k2 n2) rfl rfl 32 _ NZ2 Bw.info (Bw.zero_size.trans (Bw.leaf_size _ _).symm) (Bw.leaf_one _ _) ?_)
 rw[Hv2.out]
 go_wp2_with (refine wpList_load_row rfl 32 _ rfl _ rfl 32 _ (0,0) _ Nv2 hu rfl Bw.info ?_)
 refine Calls.mono (Tryz.bwRes_leaf k2 n2 2 (r-1-2) q v2 Qv2.out.1 (by decide) (by decide) (by have:=HR.out.1;omega) (by have:=HR.out.2;omega)) ?_;rintro e u2 ⟨rfl,b2,t2⟩;have Qu2:Hid (Bw.Bx q (r-1-2-2) u2/\Tk.But (λi=>i=q) w u2):=⟨b2,Qv2.out.2.trans t2⟩;clear b2 t2 Hv2 Nv2 NZ2 R2;go_wp2;rw[rounds_succ];go_wp2;go_ret;exact⟨rfl,Qu2.out.2⟩
theorem Tryz.infoBoolQ:(Tryz.prog.info? 4).map (λi=>(i.zero,i.size,i.bytes))=some (some (.bool false),1,1):=by kernel_rfl
def Rq.row (n:Nat):Array Value:=((List.replicate n false).map Value.bool).toArray
theorem Rq.make_bools (n:Nat)(hn:n<=64)(w:World):(Instr.makeSlice 156 (.int .i64 (n:Int)) (.int .i64 (n:Int))).run Tryz.prog w=.ok (.slice (some ⟨w.heap.size,0,none⟩) n n) (w.alloc (.cells (Rq.row n) 4)):=by
 have h:=run_make_row' (P:=Tryz.prog) 156 4 (.bool false) 1 Tryz.underlying156 Tryz.infoBoolQ rfl .i64 .i64 n (by omega) (by omega) w;rw[h,show madeCells #[Value.bool false] n=Rq.row n from ?_];apply Array.toList_inj.1;rw[toList_madeCells_one];simp[Rq.row]
theorem Rq.row_bits (w:World)(n:Nat):Rq.Bits (w.alloc (.cells (Rq.row n) 4)) w.heap.size (List.replicate n false):=heap_alloc_new w (.cells (Rq.row n) 4)
theorem Tryz.mark_any (n a0:Nat)(a:Option Addr)(c:Nat)(es:List (Nat×Nat))(w:World)(hn:n<=64)(ha:a0<n)(hes:∀e,e∈es->e.1<n/\e.2<n)(hE:Rk.Eds w w.heap.size a (Rk.up es))(hm:es.length<=1000000000000000):
  Calls Tryz.prog 123 #[.int .i64 n,.slice a es.length c,.int .i64 a0] w λe w'=>
   e=.returned (.slice (some ⟨w.heap.size,0,none⟩) n n)/\Rq.Bits w' w.heap.size ((List.range n).map (Rk.met es a0))/\Below w.heap.size w w':=by
 have HE:Hid (Rk.Eds w w.heap.size a (Rk.up es)/\∀e,e∈es->e.1<n/\e.2<n):=⟨hE,hes⟩;have ha':(a0:Int)<n:=by omega
 have hmk:=Rq.make_bools n hn;obtain⟨m,hmm⟩:=pE (es.length);rw[hmm]at hm⊢;have HM:Hid (es.length=m):=hmm;have X1:=Rq.row_bits w n;have B1:Below w.heap.size w (w.alloc (.cells (Rq.row n) 4)):=(Below.refl _ w).alloc (Nat.le_refl _) _;have c1:(w.alloc (.cells (Rq.row n) 4)).cell? ⟨w.heap.size,a0,none⟩=some (.bool false):=X1.cell a0 false (by simp[ha]);have f1:=X1.frozen a0
 have X2:Hid (Rq.Bits (w.alloc (.cells ((Rq.row n).setIfInBounds a0 (.bool true)) 4)) w.heap.size ((List.replicate n false).set a0 true)):=by
  have:=heap_alloc_new w (.cells ((Rq.row n).setIfInBounds a0 (.bool true)) 4);show _=_;rw[this,Rq.row,List.setIfInBounds_toArray,List.map_set]
 have B2:Hid (Below w.heap.size w (w.alloc (.cells ((Rq.row n).setIfInBounds a0 (.bool true)) 4))):=(Below.refl _ w).alloc (Nat.le_refl _) _;clear hE hes hmm X1 B1
 go_enter Tryz.func123,Tryz.ntmps123
 go_wp2
 go_step3
 go_wp2
 go_step3
 go_wp2;clear hmk
 go_loopg [] 64 (λgk wr=>∃bs,Rk.left bs<=gk/\Hid (Rk.Way es n a0 bs/\Rq.Bits wr w.heap.size bs/\Below w.heap.size w wr))
 case atStart=>exact⟨_,by have:=Rk.left_le ((List.replicate n false).set a0 true);simp at this;omega,Rk.Way.start es ha,X2.out,B2.out⟩
 case round=>
  obtain⟨bs,hbl,HB⟩:=hrel;clear X2 B2 c1 f1;go_wp2
  go_loopg [17] m (λgi i wi=>∃k:Nat,gi+k=m/\i=.int .i64 k/\Hid (Rq.Bits wi w.heap.size bs/\Below w.heap.size w wi/\∀j (h:j<es.length),j<k->Rk.on bs es[j].1->Rk.on bs es[j].2))
  case atStart=>exact⟨0,by omega,rfl,HB.out.2.1,HB.out.2.2,λj _ h=>by omega⟩
  case round=>
   obtain⟨k,hk,rfl,HI⟩:=hrel
   by_cases hlt:k<m
   rotate_left
   ·have hd:decide ((k:Int)<m)=false:=decide_eq_false (by omega)
    go_wp2;rw[Exit.noGoto_ret];go_ret;refine⟨rfl, ?_,HI.out.2.1⟩
    have hall:Rk.Shut es bs:=by
     intro e he;obtain⟨j,hj,rfl⟩:=List.getElem_of_mem he;exact HI.out.2.2 j hj (by rw[HM.out]at hj;omega)
    rw[<-HB.out.1.done hall];exact HI.out.1
   have hd:decide ((k:Int)<m)=true:=decide_eq_true (by omega);have hkl:k<es.length:=by rw[HM.out];exact hlt
   obtain⟨q,off,rfl,hq,h0,h1⟩:=HE.out.1 k (by rw[Rk.up_length];exact hkl);obtain⟨e,he⟩:=pE (es[k]);obtain⟨x,y⟩:=e;have hxy:=HE.out.2 _ (List.getElem_mem hkl);rw[he]at hxy;obtain⟨hx,hy⟩:x<n/\y<n:=hxy;rw[Rk.up_get,he]at h0 h1;have hc0:wr.cell? ⟨q,off+k*2,none⟩=some (.int .i64 x):=by rw[HI.out.2.1.cell (p:=⟨q,off+k*2,none⟩) hq];exact h0
   have hc1:wr.cell? ⟨q,off+k*2+1,none⟩=some (.int .i64 y):=by rw[HI.out.2.1.cell (p:=⟨q,off+k*2+1,none⟩) hq];exact h1
   have HX:Hid (es[k]=(x,y)):=he;have hz:w.heap.size<wr.heap.size:=HI.out.1.lt;have hqz:q<wr.heap.size:=by omega
   have hx':(x:Int)<n:=by omega
   have hy':(y:Int)<n:=by omega
   have hu:=Tryz.underlying113;obtain⟨b1,hb1⟩:∃b,bs[x]? =some b:=⟨_,List.getElem?_eq_getElem (by rw[HB.out.1.1];exact hx)⟩;obtain⟨b2,hb2⟩:∃b,bs[y]? =some b:=⟨_,List.getElem?_eq_getElem (by rw[HB.out.1.1];exact hy)⟩;have k1:=HI.out.1.cell x b1 hb1;have k2:=HI.out.1.cell y b2 hb2;have f2:=HI.out.1.frozen y;have H12:Hid (bs[x]? =some b1/\bs[y]? =some b2):=⟨hb1,hb2⟩
   have HA:Hid (Below w.heap.size w (wr.alloc (.cells #[.int .i64 x,.int .i64 y] 113))/\Rq.Bits (wr.alloc (.cells #[.int .i64 x,.int .i64 y] 113)) w.heap.size bs):=
    ⟨HI.out.2.1.alloc (by omega) _,HI.out.1.keep (Below.heap_alloc _ _ _ hz)⟩
   clear h0 h1 he hb1 hb2
   have hrel2:(b1=true->b2=true)->∀j (h:j<es.length),j<k+1->Rk.on bs es[j].1->Rk.on bs es[j].2:=by
    intro hi j hj hj2 ho
    by_cases hjk:j=k
    ·subst hjk
     rw[HX.out]at ho⊢;have h1:=H12.out.1;have h2:=H12.out.2;have:b1=true:=by unfold Rk.on at ho;rw[h1]at ho;exact Option.some.inj ho
     rw[hi this]at h2;exact h2
    exact HI.out.2.2 j hj (by omega) ho
   have HR:Hid _:=hrel2;clear hrel2
   cases b1
   ·go_wp2
    go_roundg (gk-1)
    case measure=>omega
    case rel=>exact⟨k+1,by omega,by go_num,HA.out.2,HA.out.1,HR.out (by simp)⟩
   cases b2
   ·go_wp2
    go_roundg (Rk.left (bs.set y true))
    case measure=>have:=Rk.left_set bs y H12.out.2;omega
    case rel=>
     refine⟨bs.set y true,Nat.le_refl _,HB.out.1.mark (by rw[<-HX.out];exact List.getElem_mem hkl) H12.out.1 hy, ?_, ?_⟩
     ·exact(HI.out.1.put y true).keep (Below.heap_alloc _ _ _ (by simpa using hz))
     exact(HI.out.2.1.setCell (p:=⟨w.heap.size,y,none⟩) (Nat.le_refl _) _).alloc (by simp;omega) _
   go_wp2;go_roundg (gk-1)
   case measure=>omega
   case rel=>exact⟨k+1,by omega,by go_num,HA.out.2,HA.out.1,HR.out (by simp)⟩
theorem Tryz.infoIntQ:(Tryz.prog.info? 3).map (λi=>(i.zero,i.size,i.bytes))=some (some (.int .i64 0),1,8):=by kernel_rfl
def Rq.nums (l:List Nat):List Value:=l.map λi:Nat=>Value.int .i64 (i:Int)
theorem Rq.nums_snoc (l:List Nat)(i:Nat):Rq.nums (l++ [i])=Rq.nums l++ [.int .i64 (i:Int)]:=by simp[Rq.nums]
theorem Rq.own_shape {w:World}{B:Nat}{e:TypeId}{size:Nat}{v:Value}{n:Nat}{cs:List Value}(h:w.ownsRow B e size v n cs):∃a c,v=.slice a n c:=by
 rcases h.2 with⟨rfl,rfl⟩|⟨g,cap,cur,rfl,_⟩
 ·exact⟨none,0,rfl⟩
 exact⟨_,_,rfl⟩
theorem Rq.own_below {w w':World}{B:Nat}{e:TypeId}{size:Nat}{v:Value}{n:Nat}{cs:List Value}(h:w.ownsRow B e size v n cs)(hb:Below w.heap.size w w'):w'.ownsRow B e size v n cs:=by
 rcases h with⟨hl,h|⟨g,cap,cur,rfl,hB,hg,h4⟩⟩
 ·exact⟨hl,.inl h⟩
 exact⟨hl,.inr ⟨g,cap,cur,rfl,hB,by rw[hb.block g (Array.getElem?_eq_some_iff.1 hg).1];exact hg,h4⟩⟩
theorem Rq.below_grown {B:Nat}{a w w':World}{v:Value}{e:TypeId}{size n:Nat}{cs:List Value}(h:Below B a w)(hB:B<=w.heap.size)(ho:w.ownsRow B e size v n cs)(hg:w.grownBy w' v.ownBlock):Below B a w':=
 h.trans ⟨hg.os,hg.tape,hg.output,hg.size,λj hj=>hg.block j (by omega) (by
  intro he
  rcases ho.2 with⟨rfl,_⟩|⟨g,cap,cur,rfl,h1,_⟩
  ·simp[Value.ownBlock]at he
  simp[Value.ownBlock]at he
  omega)⟩
theorem Rq.one_cell (w:World)(i:Int)(t:TypeId):∀j u, [Value.int .i64 i][j]? =some u->(w.alloc (.cells #[.int .i64 i] t)).cell? ((⟨w.heap.size,0,none⟩:Addr).add j)=some u:=by
 intro j u hj
 match j,hj with
 |0,hj=>simp at hj;subst hj;simp[Addr.add]
theorem Rq.one_one (i:Int):∀u∈ [Value.int .i64 i],u.oneCell'=true:=by intro u hu;simp at hu;subst hu;rfl
def Rq.Hold (g:Nat)(lb:Array Value)(p:Nat->Bool)(n:Nat)(w:World):Prop:=
 ∀(W:World) (i:Nat),i<n->Below w.heap.size w W->Calls Tryz.prog g (#[.int .i64 (i:Int)]++lb) W λe w'=>e=.returned (.bool (p i))/\Below W.heap.size W w'
theorem Tryz.things_any (p:Nat->Bool)(g:Nat)(lb:Array Value)(eg:∀args w,(callFunc g args).run Tryz.prog w=.ok (.enter g args) w)(n:Nat)(w:World)(hp:Rq.Hold g lb p n w)(hn:n<=64):
  Calls Tryz.prog 97 #[.int .i64 n,.func (.func g) #[] lb] w λe w'=>∃v,e=.returned v/\w'.ownsRow w.heap.size 3 1 v ((List.range n).filter p).length (Rq.nums ((List.range n).filter p))/\Below w.heap.size w w':=by
 obtain⟨i0,hi,hz0,hz1,hz2⟩:=info_parts Tryz.infoIntQ;have HP:Hid _:=hp;clear hp
 go_enter Tryz.func97,Tryz.ntmps97
 go_wp2
 go_loopg [5,8] n (λgk s5 s8 wr=>∃(k r:Nat) (L:List Nat),gk+k=n/\s8=.int .i64 k/\r<=k/\Hid (L=(List.range k).filter p/\L.length=r/\Below w.heap.size w wr)/\wr.ownsRow w.heap.size 3 1 s5 r (Rq.nums L))
 case atStart=>exact⟨0,0, [],by omega,rfl,Nat.le_refl _,⟨rfl,rfl,Below.refl _ w⟩,World.ownsRow_nil _ _ _ _⟩
 case round=>
  obtain⟨k,r,L,hk,rfl,hr,HB,hown⟩:=hrel;obtain⟨av,cv,rfl⟩:=Rq.own_shape hown
  by_cases hlt:k<n
  rotate_left
  ·have hd:decide ((k:Int)<n)=false:=decide_eq_false (by omega)
   go_wp2;go_ret;obtain rfl:k=n:=by omega
   rw[<-HB.out.1,HB.out.2.1];exact⟨_,rfl,hown,HB.out.2.2⟩
  have hd:decide ((k:Int)<n)=true:=decide_eq_true (by omega);have hcall:=HP.out wr k hlt HB.out.2.2
  have HF:Hid ((List.range (k+1)).filter p=L++if p k=true then [k]else []):=by
   show _=_;rw[List.range_succ,List.filter_append,<-HB.out.1]
   cases hq:p k<;>simp[hq]
  cases hq:p k with
  |false=>
   rw[hq]at hcall HF;clear hq
   go_wp2_with (go_at_fn g;refine hcall.mono ?_;rintro e w1 ⟨rfl,hb⟩)
   go_roundg (gk-1)
   case measure=>omega
   case rel=>
    refine⟨k+1,r,L,by omega,by go_num,by omega,⟨?_,HB.out.2.1,HB.out.2.2.trans (hb.mono HB.out.2.2.size)⟩,Rq.own_below hown hb⟩;rw[HF.out];simp
  |true=>
   rw[hq]at hcall HF;clear hq
   go_wp2_with (first
    |(go_at_fn g;refine hcall.mono ?_;rintro e W1 ⟨rfl,hb⟩;have own1:=Rq.own_below hown hb;have B1:Hid (Below w.heap.size w W1):=HB.out.2.2.trans (hb.mono HB.out.2.2.size);have hs1:w.heap.size<=W1.heap.size:=B1.out.size;clear hb hown hcall)
    |(at_builtin;refine wpList_append_own _ rfl _ _ 111 rfl w.heap.size 3 i0 (.int .i64 0) 1 8 Tryz.underlying111 hi hz0 hz1 hz2 rfl (by decide) _ _ _ rfl (own1.alloc _) ⟨W1.heap.size,0,none⟩ 1 1 [.int .i64 k] rfl rfl (Rq.one_cell W1 k 3) (Rq.one_one k) ?c3 ?c4 ?c5 ?_))
   case c3=>unfold maxLen;omega
   case c4=>omega
   case c5=>simp;omega
   intro v' W2 own2 g2 _;obtain⟨a2,c2,rfl⟩:=Rq.own_shape own2;go_wp2;go_roundg (gk-1)
   case measure=>omega
   case rel=>
    refine⟨k+1,r+1,L++ [k],by omega,by go_num,by omega,⟨?_,by simp[HB.out.2.1],Rq.below_grown (B1.out.alloc hs1 _) (by simp;omega) (own1.alloc _) g2⟩, ?_⟩
    ·rw[HF.out];simp
    rw[Rq.nums_snoc];exact own2
theorem Rk.enters_goes:∀args w,(callFunc 124 args).run Tryz.prog w=.ok (.enter 124 args) w:=enters_of Tryz.func124 (by kernel_rfl) rfl
theorem Rk.enters_round:∀args w,(callFunc 98 args).run Tryz.prog w=.ok (.enter 98 args) w:=enters_of Tryz.func98 (by kernel_rfl) rfl
noncomputable def Rk.backB (es:List (Nat×Nat))(i:Nat)(x:Int×Int):Bool:=decide (x.2=(i:Int))&&Rk.met es i x.1.toNat
theorem Rk.back_any (es:List (Nat×Nat))(i:Nat):(Rk.up es).any (Rk.backB es i)=Rk.lead es i i:=by
 rw[Bool.eq_iff_iff,Rk.lead_iff,List.any_eq_true]
 constructor
 ·rintro⟨x,hx,h⟩
  obtain⟨e,he,rfl⟩:=List.mem_map.1 hx;simp only[Rk.backB,Bool.and_eq_true,decide_eq_true_eq,Int.toNat_natCast,Rk.met_iff]at h;have h2:e.2=i:=by omega
  exact⟨e.1,h.2,by rw[<-h2];exact he⟩
 rintro⟨b,h,m⟩;refine⟨((b:Int),(i:Int)),List.mem_map.2 ⟨(b,i),m,rfl⟩, ?_⟩;simp[Rk.backB,Rk.met_iff,h]
theorem Rk.goes_pred (bi bm g n i:Nat)(es:List (Nat×Nat))(w:World)(hes:∀e,e∈es->e.1<n/\e.2<n)(hbi:bi<w.heap.size)(hbm:bm<w.heap.size)(hci:w.cell? ⟨bi,0,none⟩=some (.int .i64 i))(hcm:w.cell? ⟨bm,0,none⟩=some (.slice (some ⟨g,0,none⟩) n n))
  (hb:Rq.Bits w g ((List.range n).map (Rk.met es i))):Rk.Pred 124 #[.pointer (some ⟨bi,0,none⟩),.pointer (some ⟨bm,0,none⟩)] (Rk.backB es i) (Rk.up es) w:=by
 intro W x y hxy hW;show Calls Tryz.prog 124 #[.agg #[.int .i64 x,.int .i64 y],.pointer (some ⟨bi,0,none⟩),.pointer (some ⟨bm,0,none⟩)] W _;obtain⟨e,he,hee⟩:=List.mem_map.1 hxy;obtain⟨x,y⟩:=e;simp only[Prod.mk.injEq]at hee;obtain⟨rfl,rfl⟩:=hee;obtain⟨hx,hy⟩:x<n/\y<n:=hes _ he;have B0:Hid (Below w.heap.size w (W.alloc (.cells #[.int .i64 x,.int .i64 y] 113))):=hW.alloc hW.size _;have ci:W.cell? ⟨bi,0,none⟩=some (.int .i64 i):=(hW.cell (p:=⟨bi,0,none⟩) hbi).trans hci;have cm:W.cell? ⟨bm,0,none⟩=some (.slice (some ⟨g,0,none⟩) n n):=(hW.cell (p:=⟨bm,0,none⟩) hbm).trans hcm;have cx:W.cell? ⟨g,x,none⟩=some (.bool (Rk.met es i x)):=(hb.below hW hb.lt).cell x _ (by simp[hx]);have hz:=hW.size;have z1:bi<W.heap.size:=by omega
 have z2:bm<W.heap.size:=by omega
 have z3:g<W.heap.size:=by have:=hb.lt;omega
 have hx':(x:Int)<n:=by omega
 have HR:Hid (Rk.backB es i ((x:Int),(y:Int))=(decide ((y:Int)=i)&&Rk.met es i x)):=rfl;obtain⟨q,hq⟩:=pE (Rk.met es i x);rw[HR.out,hq];rw[hq]at cx;clear hW hb hci hcm hq HR hxy he hes
 by_cases hyi:y=i
 ·subst hyi
  go_enter Tryz.func124,Tryz.ntmps124
  go_wp2;go_ret;exact⟨by simp,B0.out⟩
 have hd:((y:Int)==(i:Int))=false:=by simp;omega
 have hd2:decide ((y:Int)=(i:Int))=false:=by simp;omega
 rw[hd2];clear hyi hd2
 go_enter Tryz.func124,Tryz.ntmps124
 go_wp2;go_ret;exact⟨by simp,B0.out⟩
theorem Tryz.goes_any (n i:Nat)(a:Option Addr)(c:Nat)(es:List (Nat×Nat))(w:World)(hn:n<=64)(hi:i<n)(hes:∀e,e∈es->e.1<n/\e.2<n)(hE:Rk.Eds w w.heap.size a (Rk.up es))(hm:es.length<=1000000000000000):
  Calls Tryz.prog 99 #[.int .i64 n,.slice a es.length c,.int .i64 i] w λe w'=>e=.returned (.bool (Rk.lead es i i))/\Below w.heap.size w w':=by
 have A0:Below w.heap.size w (w.alloc (.cells #[.int .i64 i] 3)):=(Below.refl _ w).alloc (Nat.le_refl _) _;have E0:=(hE.below A0).wider (B':=(w.alloc (.cells #[.int .i64 i] 3)).heap.size) (by simp);have H1:Hid _:=Tryz.mark_any n i a c es (w.alloc (.cells #[.int .i64 i] 3)) hn hi hes E0 hm;have HX:Hid (Below w.heap.size w (w.alloc (.cells #[.int .i64 i] 3))/\Rk.Eds (w.alloc (.cells #[.int .i64 i] 3)) (w.heap.size+1) a (Rk.up es)/\(∀e,e∈es->e.1<n/\e.2<n)/\es.length<=1000000000000000/\(Rk.up es).length=es.length):=⟨A0,by simpa using E0,hes,hm,Rk.up_length es⟩;obtain⟨q,hq⟩:=pE (Rk.lead es i i);have HQ:Hid (Rk.lead es i i=q):=hq;obtain⟨m,hmm⟩:=pE (es.length);rw[hq];rw[hmm]at H1 HX⊢;clear hE hes hm A0 E0 hq hmm
 go_enter Tryz.func99,Tryz.ntmps99
 go_wp2_with fail
 refine Calls.mono H1.out ?_;rintro e W1 ⟨rfl,hbits,hb⟩;have hs1:w.heap.size+1<W1.heap.size:=by have:=hbits.lt;simpa using this
 have B2:Below w.heap.size w (W1.alloc (.cells #[.slice (some ⟨w.heap.size+1,0,none⟩) n n] 156)):=(HX.out.1.trans (hb.mono (by simp))).alloc (by omega) _;have A2:Below W1.heap.size W1 (W1.alloc (.cells #[.slice (some ⟨w.heap.size+1,0,none⟩) n n] 156)):=(Below.refl _ W1).alloc (Nat.le_refl _) _
 have hci:(W1.alloc (.cells #[.slice (some ⟨w.heap.size+1,0,none⟩) n n] 156)).cell? ⟨w.heap.size,0,none⟩=some (.int .i64 i):=by
  rw[A2.cell (p:=⟨w.heap.size,0,none⟩) (by show w.heap.size<_;omega),hb.cell (p:=⟨w.heap.size,0,none⟩) (by simp)]
  simp
 have HP:=Rk.goes_pred w.heap.size W1.heap.size (w.heap.size+1) n i es (W1.alloc (.cells #[.slice (some ⟨w.heap.size+1,0,none⟩) n n] 156)) HX.out.2.2.1 (by simp;omega) (by simp) hci (by simp)
  (by simpa using hbits.below A2 (by simpa using hs1))
 have HE:=((HX.out.2.1.below (by simpa using hb)).below (A2.mono (by omega))).wider (B':=(W1.alloc (.cells #[.slice (some ⟨w.heap.size+1,0,none⟩) n n] 156)).heap.size) (by simp;omega);have hc:=Tryz.contains_any (Rk.backB es i) 124 #[.pointer (some ⟨w.heap.size,0,none⟩),.pointer (some ⟨W1.heap.size,0,none⟩)] Rk.enters_goes a c (Rk.up es) _ HP HE (by rw[HX.out.2.2.2.2];exact HX.out.2.2.2.1);rw[Rk.back_any,HQ.out,HX.out.2.2.2.2]at hc;have HC:Hid _:=hc;have HB2:Hid _:=B2;have HA2:Hid _:=A2;clear hbits hb B2 A2 hci HP HE hc H1 HX
 go_wp2_with fail
 refine Calls.mono HC.out ?_;rintro e W2 ⟨rfl,hb2⟩;have B3:Hid (Below w.heap.size w W2):=HB2.out.trans (hb2.mono (by simp;omega));clear hb2;go_wp2;go_ret;exact⟨rfl,B3.out⟩
def Ak.Cn (b:Nat)(n:Nat)(w:World):Prop:=∃x:Int,w.heap[b]? =some (.cells #[.int .i64 x] 3 (0,0))/\(n<2147483648->x=n)
def Ac.stepN (_:Ac)(n:Nat):Bool×Nat:=(true,n+1)
mutual
theorem Ac.go_count:∀(T:Ac) (n:Nat),T.go Ac.stepN n=(true,n+T.size)
 | .mk _ _ _ _ _ _ ks _ _ _,n=>by
   rw[Ac.go,if_pos (show(Ac.stepN _ n).1=true from rfl),Ac.size];show Ac.goes Ac.stepN ks (n+1)=_;rw[Ac.goes_count ks (n+1)]
   congr 1
   omega
theorem Ac.goes_count:∀(l:List Ac) (n:Nat),Ac.goes Ac.stepN l n=(true,n+Ac.sizes l)
 | [],n=>by rw[Ac.goes,Ac.sizes];rfl
 |k::r,n=>by
  rw[Ac.goes,Ac.go_count k n,if_pos rfl,Ac.goes_count r,Ac.sizes]
  congr 1
  show n+k.size+Ac.sizes r=_;omega
end
theorem Tryz.size1_any (x0 x1 x2 x3 x4 x5 x6 x7 x8 x9 x10 x11:Value)(b:Nat)(x:Int)(w:World)(h:w.heap[b]? =some (.cells #[.int .i64 x] 3 (0,0))):
  Calls Tryz.prog 33 #[.agg #[x0,x1,x2,x3,x4,x5,x6,x7,x8,x9,x10,x11],.pointer (some ⟨b,0,none⟩)] w λe w'=>e=.returned (.bool true)/\w'.heap[b]? =some (.cells #[.int .i64 (IntKind.i64.wrap (x+1))] 3 (0,0))/\Tk.But (λx=>x=b) w w':=by
 obtain⟨w1,hw1⟩:=pE (w.alloc (.cells #[x0,x1,x2,x3,x4,x5,x6,x7,x8,x9,x10,x11] 32));have hlt:b<w.heap.size:=(Array.getElem?_eq_some_iff.1 h).1;have A1:=pB hw1
 have h1:w1.heap[b]? =some (.cells #[.int .i64 x] 3 (0,0)):=(A1.block b hlt).trans h;have c0:w1.cell? ⟨b,0,none⟩=some (.int .i64 x):=by simp[World.cell?,h1]
 have f0:w1.frozen? ⟨b,0,none⟩=false:=by simp[World.frozen?,h1]
 obtain⟨y,hy⟩:=pE (IntKind.i64.wrap (x+1));rw[hy];have HP:Hid ((w1.setCell ⟨b,0,none⟩ (.int .i64 y)).heap[b]? =some (.cells #[.int .i64 y] 3 (0,0))/\Tk.But (λx=>x=b) w (w1.setCell ⟨b,0,none⟩ (.int .i64 y))):=⟨by simp[World.setCell,Array.getElem?_modify,h1],(Tk.But.of_below A1).setCell (E:=λk=>k=b) (p:=⟨b,0,none⟩) rfl _⟩;have H1:Hid (w.alloc (.cells #[x0,x1,x2,x3,x4,x5,x6,x7,x8,x9,x10,x11] 32)=w1):=hw1;clear hw1 hlt A1 h1 h
 go_enter Tryz.func33,Tryz.ntmps33
 go_upto_region 1 with fail
 rw[H1.out];go_wp2;go_ret;exact⟨rfl,HP.out.1,HP.out.2⟩
theorem Ak.stepped_size (B e b bw:Nat)(hB:B<=b)(hne:b≠bw):Ak.Stepped Ac.stepN (λ_=>True) 33 #[.pointer (some ⟨b,0,none⟩)] (λn W=>Ak.Cn b n W) (λk=>k=b) B e bw where
 enters:=enters_of Tryz.func33 (by kernel_rfl) rfl
 calls:=λs W d T V _ hI _ _=>by
  obtain⟨x,hx,hn⟩:=hI;obtain⟨y0,y1,y2,y3,y4,y5,y6,y7,y8,y9,y10,y11,hrow⟩:∃y0 y1 y2 y3 y4 y5 y6 y7 y8 y9 y10 y11,Ac.row T V=#[y0,y1,y2,y3,y4,y5,y6,y7,y8,y9,y10,y11]:=⟨_,_,_,_,_,_,_,_,_,_,_,_,rfl⟩;rw[hrow];refine(Tryz.size1_any y0 y1 y2 y3 y4 y5 y6 y7 y8 y9 y10 y11 b x W hx).mono λe w' h=>⟨h.1,⟨_,h.2.1,λhs=> ?_⟩,h.2.2⟩;have hs':s+1<2147483648:=hs;have:=hn (by omega);show IntKind.i64.wrap (x+1)=((s+1:Nat):Int);rw[Go.IntWalk.i64_in _ (by omega)];omega
 keeps:=λs W W' hI hb=>by
  obtain⟨x,hx,hn⟩:=hI;exact⟨x,(hb.block b (Array.getElem?_eq_some_iff.1 hx).1 hne).trans hx,hn⟩
 above:=λk hk=>hk▸hB
 not_bw:=λh=>hne h.symm
theorem Tryz.aSize_any (d e:Nat)(T:Ac)(V:Ac.Vs)(w:World)(hT:Ac.Lies w w.heap.size e d V T)(h0:0<w.heap.size)(hsz:T.size<=2147483647)(hdp:T.depth<=1000):
  Calls Tryz.prog 16 #[.agg (Ac.row T V)] w λe w'=>e=.returned (.int .i64 (T.size:Int))/\Below w.heap.size w w':=by
 obtain⟨x0,x1,x2,x3,x4,x5,x6,x7,x8,x9,x10,x11,hrow⟩:∃x0 x1 x2 x3 x4 x5 x6 x7 x8 x9 x10 x11,Ac.row T V=#[x0,x1,x2,x3,x4,x5,x6,x7,x8,x9,x10,x11]:=⟨_,_,_,_,_,_,_,_,_,_,_,_,rfl⟩;rw[hrow];obtain⟨w1,hw1⟩:=pE (w.alloc (.cells #[x0,x1,x2,x3,x4,x5,x6,x7,x8,x9,x10,x11] 32));obtain⟨w2,hw2⟩:=pE (w1.alloc (.cells #[.int .i64 0] 3));have A1:=pB hw1
 have G1:w1.heap[w.heap.size]? =some (.cells #[x0,x1,x2,x3,x4,x5,x6,x7,x8,x9,x10,x11] 32 (0,0)):=by rw[<-hw1];exact heap_alloc_new w _
 have l1:=(Array.getElem?_eq_some_iff.1 G1).1;have A2:=pB hw2
 have G2:w2.heap[w.heap.size]? =some (.cells #[x0,x1,x2,x3,x4,x5,x6,x7,x8,x9,x10,x11] 32 (0,0)):=(A2.block _ l1).trans G1;have hC:w2.heap[w1.heap.size]? =some (.cells #[.int .i64 0] 3 (0,0)):=by rw[<-hw2];exact heap_alloc_new w1 _
 have l2:=(Array.getElem?_eq_some_iff.1 hC).1;have B2:Below w.heap.size w w2:=A1.trans (A2.mono A1.size);have cc:w2.cell? ⟨w.heap.size,0,none⟩=some x0/\w2.cell? ⟨w.heap.size,1,none⟩=some x1/\w2.cell? ⟨w.heap.size,2,none⟩=some x2/\w2.cell? ⟨w.heap.size,3,none⟩=some x3/\w2.cell? ⟨w.heap.size,4,none⟩=some x4/\w2.cell? ⟨w.heap.size,5,none⟩=some x5/\w2.cell? ⟨w.heap.size,6,none⟩=some x6/\w2.cell? ⟨w.heap.size,7,none⟩=some x7/\w2.cell? ⟨w.heap.size,8,none⟩=some x8/\w2.cell? ⟨w.heap.size,9,none⟩=some x9/\w2.cell? ⟨w.heap.size,10,none⟩=some x10/\w2.cell? ⟨w.heap.size,11,none⟩=some x11:=by simp[World.cell?,G2]
 obtain⟨m0,m1,m2,m3,m4,m5,m6,m7,m8,m9,m10,m11⟩:=cc;have key:=Tryz.athrough_any (step:=Ac.stepN) (P:=λ_=>True) (g:=33) (lb:=#[.pointer (some ⟨w1.heap.size,0,none⟩)]) (Inv:=λn W=>Ak.Cn w1.heap.size n W) (E:=λk=>k=w1.heap.size) (B:=w.heap.size) (e:=e) d 0 T V w2 (λbw hbw=>Ak.stepped_size w.heap.size e w1.heap.size bw (by omega) (by omega)) (hT.below B2) h0 B2.size ⟨0,hC,λ_=>rfl⟩ (λk hk=>by omega) hsz (Ac.all_true T);rw[hrow]at key;have HC:Hid _:=key;obtain⟨R,hR⟩:=pE (T.size);rw[hR];have HR:Hid (T.size=R/\T.depth<=1000/\T.size<=2147483647/\Below w.heap.size w w2/\w.heap.size<w1.heap.size):=⟨hR,hdp,hsz,B2,l1⟩;have H1:Hid (w.alloc (.cells #[x0,x1,x2,x3,x4,x5,x6,x7,x8,x9,x10,x11] 32)=w1):=hw1;have H2:Hid (w1.alloc (.cells #[.int .i64 0] 3)=w2):=hw2;clear key hT hrow hw1 hw2 A1 G1 A2 G2 hC l1 l2 B2 hR hsz hdp
 go_enter Tryz.func16,Tryz.ntmps16
 go_upto_region 1 with fail
 rw[H1.out]
 go_upto_region 2 with fail
 rw[H2.out]
 go_wp2_with fail
 refine Calls.mono HC.out ?_;rintro e W3 ⟨b,rfl,hbt,hend⟩;have h:=HR.out
 have hI:Ak.Cn w1.heap.size R W3:=by
  rcases hend with⟨_,_,h3,_⟩|⟨h4,_⟩
  ·rw[Ac.go_count,Nat.zero_add,h.1]at h3
   exact h3
  exact absurd ⟨h.2.1,h.2.2.1⟩ h4
 obtain⟨x,hx,hxn⟩:=hI;obtain rfl:x=R:=hxn (by omega);have c0:W3.cell? ⟨w1.heap.size,0,none⟩=some (.int .i64 (R:Int)):=by simp[World.cell?,hx]
 have H3:Hid (Below w.heap.size w W3):=h.2.2.2.1.trans (hbt.below h.2.2.2.1.size (λk hk=>by have:=h.2.2.2.2;omega));clear hbt hend HC h hx hxn;go_wp2;go_ret;exact⟨rfl,H3.out⟩
theorem Ac.Lies.kid12 {w:World}{B e d n cap:Nat}{V:Ac.Vs}{a:Option Addr}{T:Ac}(h:Ac.Lies w B e (d+1) V T)(hv:V.k=.slice a n cap)(j:Nat)(hj:j<T.ks.length):
  ∃g off U,a=some ⟨g,off,none⟩/\g<B/\w.rangeAt g (off+j*12) (Ac.row T.ks[j] U).toList/\Ac.Lies w B e d U T.ks[j]:=by
 obtain⟨g,off,U,ha,hg,hr,hl⟩:=h.kid hv j hj;refine⟨g,off,U,ha,hg,λi v hi=> ?_,hl⟩;rw[Array.getElem?_toList]at hi;obtain⟨h1,h2⟩:=Array.getElem?_eq_some_iff.1 hi;rw[<-h2];exact hr i h1
theorem Ak.rinfo:(Tryz.prog.info? 44).map (·.size)=some 12:=by kernel_rfl
structure Ak.Kd (w wr:World)(e d:Nat)(a:Option Addr)(j g off:Nat)(U:Ac.Vs)(xs:Array Value)(w2:World)(x:Ac):Prop where
 at_:a=some ⟨g,off,none⟩
 row:Ac.row x U=xs
 load:wr.rangeAt g (off+j*12) xs.toList
 one:xs.all (·.oneCell')=true
 is:(Tryz.prog.info? 44).map (·.size)=some xs.size
 il:(Tryz.prog.info? 44).map (·.size)=some xs.toList.length
 zero:(wr.alloc (.cells #[.int .i64 0,.int .i64 0,.int .i64 0,.int .i64 0,.int .i64 0,.int .i64 0,.slice none 0 0,.slice none 0 0,.slice none 0 0,.slice none 0 0,.slice none 0 0,.slice none 0 0] 44)).heap[wr.heap.size]? =some (.cells #[.int .i64 0,.int .i64 0,.int .i64 0,.int .i64 0,.int .i64 0,.int .i64 0,.slice none 0 0,.slice none 0 0,.slice none 0 0,.slice none 0 0,.slice none 0 0,.slice none 0 0] 44 (0,0))
 ez:(#[.int .i64 0,.int .i64 0,.int .i64 0,.int .i64 0,.int .i64 0,.int .i64 0,.slice none 0 0,.slice none 0 0,.slice none 0 0,.slice none 0 0,.slice none 0 0,.slice none 0 0]:Array Value).size=xs.size
 eq:(wr.alloc (.cells #[.int .i64 0,.int .i64 0,.int .i64 0,.int .i64 0,.int .i64 0,.int .i64 0,.slice none 0 0,.slice none 0 0,.slice none 0 0,.slice none 0 0,.slice none 0 0,.slice none 0 0] 44)).setRow wr.heap.size xs=w2
 box:w2.heap[wr.heap.size]? =some (.cells xs 44 (0,0))
 bel:Below wr.heap.size wr w2
 all:Below w.heap.size w w2
 lies:Ac.Lies w2 w2.heap.size e d U x
theorem Ak.kid_at {w wr:World}{e d n cap:Nat}{V:Ac.Vs}{a:Option Addr}{T:Ac}(h:Ac.Lies w w.heap.size e (d+1) V T)(hv:V.k=.slice a n cap)(hb:Below w.heap.size w wr)(j:Nat)(hj:j<T.ks.length):
  ∃g off U xs w2,Ak.Kd w wr e d a j g off U xs w2 T.ks[j]:=by
 obtain⟨g,off,U,ha,hg,ry,hl⟩:=h.kid12 hv j hj;have NZ:(wr.alloc (.cells #[.int .i64 0,.int .i64 0,.int .i64 0,.int .i64 0,.int .i64 0,.int .i64 0,.slice none 0 0,.slice none 0 0,.slice none 0 0,.slice none 0 0,.slice none 0 0,.slice none 0 0] 44)).heap[wr.heap.size]? =some (.cells #[.int .i64 0,.int .i64 0,.int .i64 0,.int .i64 0,.int .i64 0,.int .i64 0,.slice none 0 0,.slice none 0 0,.slice none 0 0,.slice none 0 0,.slice none 0 0,.slice none 0 0] 44 (0,0)):=heap_alloc_new wr _;have B2:Below wr.heap.size wr ((wr.alloc (.cells #[.int .i64 0,.int .i64 0,.int .i64 0,.int .i64 0,.int .i64 0,.int .i64 0,.slice none 0 0,.slice none 0 0,.slice none 0 0,.slice none 0 0,.slice none 0 0,.slice none 0 0] 44)).setRow wr.heap.size (Ac.row T.ks[j] U)):=Tk.below_row ((Below.refl _ wr).alloc (Nat.le_refl _) _) (Nat.le_refl _) _;have B3:=hb.trans (B2.mono hb.size);exact⟨g,off,U,Ac.row T.ks[j] U,_,ha,rfl,λi v hi=>by rw[hb.cell (p:=⟨g,off+j*12+i,none⟩) hg];exact ry i v hi,hl.ones,Ak.rinfo,Ak.rinfo,NZ,rfl,rfl,setRow_heap _ _ _ _ _ _ NZ,B2,B3,(hl.below B3).wider B3.size⟩
def Nt.waitB (m:Int)(x:Nd):Bool:=decide (x.kind=8)&&decide (x.a=m)
theorem Tryz.awaits1_any (k kind a op num:Int)(x:Option Addr)(n c b:Nat)(w:World)(hb:b<w.heap.size)(hc:w.cell? ⟨b,0,none⟩=some (.int .i64 k)):
  Calls Tryz.prog 86 #[.agg #[.int .i64 kind,.int .i64 a,.int .i64 op,.int .i64 num,.slice x n c],.pointer (some ⟨b,0,none⟩)] w λe w'=>e=.returned (.bool (decide (kind=8)&&decide (a=k)))/\Below w.heap.size w w':=by
 have B0:Hid (Below w.heap.size w (w.alloc (.cells #[.int .i64 kind,.int .i64 a,.int .i64 op,.int .i64 num,.slice x n c] 62))):=(Below.refl _ w).alloc (Nat.le_refl _) _;have hc':(w.alloc (.cells #[.int .i64 kind,.int .i64 a,.int .i64 op,.int .i64 num,.slice x n c] 62)).cell? ⟨b,0,none⟩=some (.int .i64 k):=by rw[B0.out.cell (p:=⟨b,0,none⟩) hb];exact hc
 have hne:b≠w.heap.size:=by omega
 clear hb
 by_cases h8:kind=8
 ·subst h8
  go_enter Tryz.func86,Tryz.ntmps86
  go_wp2;go_ret;exact⟨Tk.ret_bool (by simp;rfl),B0.out⟩
 have e8:(kind==8)=false:=by simpa using h8
 have HF:Hid (decide (kind=8)=false):=decide_eq_false h8;clear h8
 go_enter Tryz.func86,Tryz.ntmps86
 go_wp2;go_ret;exact⟨Tk.ret_bool (by rw[HF.out];rfl),B0.out⟩
theorem Nt.enters_awaits:∀args w,(callFunc 86 args).run Tryz.prog w=.ok (.enter 86 args) w:=enters_of Tryz.func86 (by kernel_rfl) rfl
theorem Tryz.ncontains_any (p:Nd->Bool)(g:Nat)(lb:Array Value)(eg:∀args w,(callFunc g args).run Tryz.prog w=.ok (.enter g args) w)(a:Option Addr)(c d:Nat)(ns:List Nd)(w:World)
  (hp:Nt.Pred g lb p ns w) (hE:Nt.Nds w w.heap.size d a ns) (hn:ns.length<=100):
  Calls Tryz.prog 85 #[.slice a ns.length c,.func (.func g) #[] lb] w λe w'=>e=.returned (.bool (ns.any p))/\Below w.heap.size w w':=by
 have h:=Tryz.nindex_any p g lb eg a c d ns w hp hE hn;obtain⟨r,hr⟩:=pE (Nt.findI p ns);obtain⟨n,hnn⟩:=pE (ns.length);have hq:=Nt.findI_any p ns;rw[hr]at hq;rw[<-hq];rw[hr,hnn]at h;rw[hnn];have HC:Hid _:=h;clear h hE hn hr hnn hq hp
 go_enter Tryz.func85,Tryz.ntmps85
 go_wp2_with fail
 refine Calls.mono HC.out ?_;rintro e W ⟨rfl,hb⟩;have B2:Hid (Below w.heap.size w W):=hb;clear hb HC;go_wp2;go_ret;exact⟨Tk.ret_bool rfl,B2.out⟩
def Nt.awaitsB (ns:List Nd)(m:Int):Bool:=decide (0<=m)&&decide (m<4)&&ns.any (Nt.waitB m)
theorem Tryz.awaits_any (k:Int)(an:Option Addr)(cn d:Nat)(af:Option Addr)(m cf:Nat)(ns:List Nd)(w:World)(hE:Nt.Nds w w.heap.size d an ns)(hn:ns.length<=100):
  Calls Tryz.prog 58 #[.agg #[.slice an ns.length cn,.slice af m cf],.int .i64 k] w λe w'=>e=.returned (.bool (Nt.awaitsB ns k))/\Below w.heap.size w w':=by
 obtain⟨w1,hw1⟩:=pE ((w.alloc (.cells #[.slice an ns.length cn,.slice af m cf] 30)).alloc (.cells #[.int .i64 k] 3));have A1:Below w.heap.size w w1:=by rw[<-hw1];exact((Below.refl _ w).alloc (Nat.le_refl _) _).alloc (by simp) _
 have hs1:w1.heap.size=w.heap.size+2:=by rw[<-hw1];simp
 have C1:w1.cell? ⟨w.heap.size+1,0,none⟩=some (.int .i64 k):=by
  rw[<-hw1];have:=heap_alloc_new (w.alloc (.cells #[.slice an ns.length cn,.slice af m cf] 30)) (.cells #[.int .i64 k] 3);simp at this;simp[World.cell?,this]
 have h:=Tryz.ncontains_any (Nt.waitB k) 86 #[.pointer (some ⟨w.heap.size+1,0,none⟩)] Nt.enters_awaits an cn d ns w1 (λW x a n c _ hb=>by
  have h:=Tryz.awaits1_any k x.kind x.a x.t.op x.t.num a n c (w.heap.size+1) W (by have:=hb.size;omega) (by rw[hb.cell (p:=⟨w.heap.size+1,0,none⟩) (by show w.heap.size+1<w1.heap.size;omega)];exact C1)
  exact h.mono λe w' h=>⟨h.1,hb.trans (h.2.mono hb.size)⟩) ((hE.below A1).wider A1.size) hn
 obtain⟨q,hq⟩:=pE (ns.any (Nt.waitB k));obtain⟨r,hr⟩:=pE (Nt.awaitsB ns k);obtain⟨n,hnn⟩:=pE (ns.length);rw[hq,hnn]at h;rw[hr,hnn];rw[hnn]at hw1;have HQ:Hid ((decide (0<=k)&&decide (k<4)&&q)=r):=by show _=_;rw[<-hr,Nt.awaitsB,hq]
 have HC:Hid _:=h;have H1:Hid ((w.alloc (.cells #[.slice an n cn,.slice af m cf] 30)).alloc (.cells #[.int .i64 k] 3)=w1):=hw1;have HA:Hid (Below w.heap.size w w1):=A1;clear h hE hn hr hnn hw1 A1 hs1 C1 hq
 by_cases hk:0<=k/\k<4
 ·have e1:decide (k<0)=false:=decide_eq_false (by omega)
  have e2:decide (4<=k)=false:=decide_eq_false (by omega);rw[decide_eq_true hk.1,decide_eq_true hk.2]at HQ;clear hk
  go_enter Tryz.func58,Tryz.ntmps58
  go_wp2_with fail
  rw[H1.out];refine Calls.mono HC.out ?_;rintro e W ⟨rfl,hb⟩;have B2:Hid (Below w.heap.size w W):=HA.out.trans (hb.mono HA.out.size);clear hb HC;go_wp2;go_ret;exact⟨Tk.ret_bool (by rw[<-HQ.out];rfl),B2.out⟩
 have HR:Hid (r=false):=by
  show r=false;rw[<-HQ.out];have:(decide (0<=k)&&decide (k<4))=false:=by simp;omega
  rw[this,Bool.false_and]
 by_cases h0:k<0
 ·have e1:decide (k<0)=true:=decide_eq_true h0
  clear hk h0 HC
  go_enter Tryz.func58,Tryz.ntmps58
  go_wp2;go_ret;exact⟨Tk.ret_bool HR.out.symm,by rw[H1.out];exact HA.out⟩
 have e1:decide (k<0)=false:=decide_eq_false h0;have e2:decide (4<=k)=true:=decide_eq_true (by omega);clear hk h0 HC
 go_enter Tryz.func58,Tryz.ntmps58
 go_wp2;go_ret;exact⟨Tk.ret_bool HR.out.symm,by rw[H1.out];exact HA.out⟩
end Go.Proofs
namespace Go.Proofs
open Go.RowKit Go.ChangeShapes Go.WideShapes
theorem Fk.laidOut:laidOutB Tryz.prog=true:=by kernel_rfl
theorem Fk.trodAll_below' {H:Type}{enc:TypeId×Value->H}{P:Program}(hl:laidOutB P=true){W W':World}(hb:Below W.heap.size W W'):∀{ts:List TypeId} {vs:List Value} {ds:List (DataW H)} {ps:List MemPlace},
  (ts.all λt=>P.readableRec t&&decide (t<P.types.size))=true->DataW.TrodAll enc P W 0 (λ_=>true) true ts vs ds ps->(∀x∈ps,x.block<W.heap.size)->
  DataW.TrodAll enc P W' 0 (λb=>decide (b<W.heap.size)) true ts vs ds ps
 | [], [], [],_,_,h,_=>h
 |t::_,_::_,_::_,_,hT,⟨p,q,h1,h2,e⟩,hs=>by
  simp only[List.all_cons,Bool.and_eq_true,decide_eq_true_eq]at hT
  exact⟨p,q,Below.trod hl hT.1.1 hT.1.2 h1 hb (λx hx=>hs x (by rw[e];exact List.mem_append_left _ hx)),
   Fk.trodAll_below' hl hb hT.2 h2 (λx hx=>hs x (by rw[e];exact List.mem_append_right _ hx)),e⟩
theorem Fk.trodAll_below {H:Type}{enc:TypeId×Value->H}{W W':World}(hb:Below W.heap.size W W'){ts:List TypeId}{vs:List Value}{ds:List (DataW H)}{ps:List MemPlace}
 (hT:(ts.all λt=>Tryz.prog.readableRec t&&decide (t<Tryz.prog.types.size))=true) (h:DataW.TrodAll enc Tryz.prog W 0 (λ_=>true) true ts vs ds ps) (hs:∀x∈ps,x.block<W.heap.size):
 DataW.TrodAll enc Tryz.prog W' 0 (λb=>decide (b<W.heap.size)) true ts vs ds ps:=Fk.trodAll_below' Fk.laidOut hb hT h hs
end Go.Proofs
