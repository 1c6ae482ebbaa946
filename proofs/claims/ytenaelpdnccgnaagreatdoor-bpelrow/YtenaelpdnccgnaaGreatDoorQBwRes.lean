import Derived.Deep.MidRow
import Derived.Test.YtenaelpdnccgnaaGreatDoorQRqRounds
import Derived.Test.YtenaelpdnccgnaaGreatDoorQNtRef2
set_option maxRecDepth 100000
set_option maxHeartbeats 32000000
namespace Go.Proofs
open Go.RowKit Go.Shelf
def Bw.leaf (k nd:Int):Array Value:=#[.int .i64 k,.int .i64 nd,.int .i64 0,.int .i64 0,.int .i64 0,.int .i64 0,.slice none 0 0,.slice none 0 0,.slice none 0 0,.slice none 0 0,.slice none 0 0,.slice none 0 0]
def Bw.root (K cap:Nat):Array Value:=#[.int .i64 6,.int .i64 0,.int .i64 0,.int .i64 0,.int .i64 0,.int .i64 0,.slice none 0 0,.slice none 0 0,.slice (some ⟨K,0,none⟩) 2 cap,.slice none 0 0,.slice none 0 0,.slice none 0 0]
theorem Bw.leaf_size (k nd:Int):(Bw.leaf k nd).size=12:=rfl
theorem Bw.leaf_one (k nd:Int):(Bw.leaf k nd).all (·.oneCell')=true:=by kernel_rfl
theorem Bw.zero_size:(#[.int .i64 0,.int .i64 0,.int .i64 0,.int .i64 0,.int .i64 0,.int .i64 0,.slice none 0 0,.slice none 0 0,.slice none 0 0,.slice none 0 0,.slice none 0 0,.slice none 0 0]:Array Value).size=12:=rfl
theorem Bw.info:(Tryz.prog.info? 32).map (·.size)=some 12:=by kernel_rfl
def Bw.Bx (q:Nat)(r:Int)(W:World):Prop:=W.heap[q]? =some (.cells #[.int .i64 r] 3 (0,0))
theorem Bw.Bx.c {q:Nat}{r:Int}{W:World}(h:Bw.Bx q r W):W.cell? ⟨q,0,none⟩=some (.int .i64 r):=by unfold Bw.Bx at h;simp[World.cell?,h]
theorem Bw.Bx.f {q:Nat}{r:Int}{W:World}(h:Bw.Bx q r W):W.frozen? ⟨q,0,none⟩=false:=by unfold Bw.Bx at h;simp[World.frozen?,h]
theorem Bw.Bx.lt {q:Nat}{r:Int}{W:World}(h:Bw.Bx q r W):q<W.heap.size:=(Array.getElem?_eq_some_iff.1 h).1
theorem Bw.Bx.put {q:Nat}{r:Int}{W:World}(h:Bw.Bx q r W)(s:Int):Bw.Bx q s (W.setCell ⟨q,0,none⟩ (.int .i64 s)):=by unfold Bw.Bx at h⊢;simp[World.setCell,Array.getElem?_modify,h]
theorem Bw.Bx.below {q:Nat}{r:Int}{W W':World}(h:Bw.Bx q r W)(hb:Below W.heap.size W W'):Bw.Bx q r W':=(hb.block _ h.lt).trans h
def Bw.Two (K:Nat)(k1 n1 k2 n2:Int)(W:World):Prop:=W.rangeAt K 0 (Bw.leaf k1 n1).toList/\W.rangeAt K 12 (Bw.leaf k2 n2).toList
theorem Bw.Two.keep {K:Nat}{k1 n1 k2 n2:Int}{W W':World}(h:Bw.Two K k1 n1 k2 n2 W)(hb:W'.heap[K]? =W.heap[K]?):Bw.Two K k1 n1 k2 n2 W':=
 ⟨λj v hv=>(World.cell?_of_block hb).trans (h.1 j v hv),λj v hv=>(World.cell?_of_block hb).trans (h.2 j v hv)⟩
theorem Tryz.bwRes_leaf (k nd lv r:Int)(q:Nat)(w:World)(hq:Bw.Bx q r w)(h1:0<=lv)(h2:lv<=1000)(h3:lv<=r)(h4:r<=20000000):
  Calls Tryz.prog 30 #[.agg (Bw.leaf k nd),.int .i64 lv,.pointer (some ⟨q,0,none⟩)] w λe w'=>e=.returned (.bool true)/\Bw.Bx q (r-lv) w'/\Tk.But (λi=>i=q) w w':=by
 obtain⟨w1,hw1⟩:=pE (w.alloc (.cells (Bw.leaf k nd) 32));have B1:=pB hw1;have N1:=pH hw1;have Q1:Bw.Bx q r w1:=hq.below B1;have kq:=Q1.c;have fq:=Q1.f;obtain⟨w2,hw2⟩:=pE (w1.setCell ⟨q,0,none⟩ (.int .i64 (r-lv)));have Q2:Hid (Bw.Bx q (r-lv) w2/\Tk.But (λi=>i=q) w w2):=⟨by rw[<-hw2];exact Q1.put _,by rw[<-hw2];exact(Tk.But.of_below B1:Tk.But (λi=>i=q) w w1).setCell (p:=⟨q,0,none⟩) rfl _⟩;have hne:w.heap.size≠q:=by have:=hq.lt;omega
 have N2:w2.heap[w.heap.size]? =some (.cells (Bw.leaf k nd) 32 (0,0)):=by rw[<-hw2,Below.heap_setCell w1 ⟨q,0,none⟩ _ _ hne];exact N1
 have k8:w2.cell? ⟨w.heap.size,8,none⟩=some (.slice none 0 0):=by simp[World.cell?,N2,Bw.leaf]
 have kq2:=Q2.out.1.c;have H1:Hid _:=hw1;have H2:Hid _:=hw2;have d1:decide (r-lv<0)=false:=decide_eq_false (by omega);have d2:decide (1000<lv)=false:=decide_eq_false (by omega);clear hw1 hw2 B1 N1 N2 Q1 hq hne
 go_enter Tryz.func30,Tryz.ntmps30
 go_upto_region 1 with fail
 rw[H1.out]
 go_upto_region 2 with fail
 rw[H2.out];clear H1 H2 kq fq;go_wp2;refine wp_loop_rounds 1 ?_;rw[rounds_succ];go_wp2;go_ret;exact⟨rfl,Q2.out⟩
theorem Tryz.bwRes_root (K cap:Nat)(k1 n1 k2 n2:Int)(q:Nat)(r:Int)(w:World)(hq:Bw.Bx q r w)(hT:Bw.Two K k1 n1 k2 n2 w)(hK:K<w.heap.size)(hKq:K≠q)(h3:100<=r)(h4:r<=20000000):
  Calls Tryz.prog 30 #[.agg (Bw.root K cap),.int .i64 1,.pointer (some ⟨q,0,none⟩)] w λe w'=>e=.returned (.bool true)/\Tk.But (λi=>i=q) w w':=by
 obtain⟨w1,hw1⟩:=pE (w.alloc (.cells (Bw.root K cap) 32));have B1:=pB hw1;have N1:=pH hw1;have Q1:Bw.Bx q r w1:=hq.below B1;have kq:=Q1.c;have fq:=Q1.f;obtain⟨w2,hw2⟩:=pE (w1.setCell ⟨q,0,none⟩ (.int .i64 (r-1)));have Qw2:Hid (Bw.Bx q (r-1) w2/\Tk.But (λi=>i=q) w w2):=⟨by rw[<-hw2];exact Q1.put _,by rw[<-hw2];exact(Tk.But.of_below B1:Tk.But (λi=>i=q) w w1).setCell (p:=⟨q,0,none⟩) rfl _⟩;have hne:w.heap.size≠q:=by have:=hq.lt;omega
 have N2:w2.heap[w.heap.size]? =some (.cells (Bw.root K cap) 32 (0,0)):=by rw[<-hw2,Below.heap_setCell w1 ⟨q,0,none⟩ _ _ hne];exact N1
 have k8:w2.cell? ⟨w.heap.size,8,none⟩=some (.slice (some ⟨K,0,none⟩) 2 cap):=by simp[World.cell?,N2,Bw.root]
 have kq2:=Qw2.out.1.c;have HT:Hid (∀W,Tk.But (λi=>i=q) w W->Bw.Two K k1 n1 k2 n2 W):=λW hb=>hT.keep (hb.block K hK hKq);have H1:Hid _:=hw1;have H2:Hid _:=hw2;have d2:decide ((1000:Int)<1)=false:=by decide
 have d1:decide (r-1<0)=false:=decide_eq_false (by omega);have hu:=Tryz.underlying32;have hi1:(Tryz.prog.info? 32).map (·.size)=some (Bw.leaf k1 n1).toList.length:=Bw.info;have hi2:(Tryz.prog.info? 32).map (·.size)=some (Bw.leaf k2 n2).toList.length:=Bw.info;have R1:=(HT.out w2 Qw2.out.2).1;have HR:Hid (100<=r/\r<=20000000):=⟨h3,h4⟩;clear hw1 hw2 B1 N1 N2 Q1 hq hne hT
 go_enter Tryz.func30,Tryz.ntmps30
 go_upto_region 1 with fail
 rw[H1.out]
 go_upto_region 2 with fail
 rw[H2.out];clear H1 H2 kq fq;go_wp2;refine wp_loop_rounds 3 ?_;rw[rounds_succ];have NZ1:(w2.alloc (.cells #[.int .i64 0,.int .i64 0,.int .i64 0,.int .i64 0,.int .i64 0,.int .i64 0,.slice none 0 0,.slice none 0 0,.slice none 0 0,.slice none 0 0,.slice none 0 0,.slice none 0 0] 32)).heap[w2.heap.size]? =some (.cells #[.int .i64 0,.int .i64 0,.int .i64 0,.int .i64 0,.int .i64 0,.int .i64 0,.slice none 0 0,.slice none 0 0,.slice none 0 0,.slice none 0 0,.slice none 0 0,.slice none 0 0] 32 (0,0)):=heap_alloc_new w2 _;obtain⟨v1,hv1⟩:=pE ((w2.alloc (.cells #[.int .i64 0,.int .i64 0,.int .i64 0,.int .i64 0,.int .i64 0,.int .i64 0,.slice none 0 0,.slice none 0 0,.slice none 0 0,.slice none 0 0,.slice none 0 0,.slice none 0 0] 32)).setRow w2.heap.size (Bw.leaf k1 n1));have Nv1:v1.heap[w2.heap.size]? =some (.cells (Bw.leaf k1 n1) 32 (0,0)):=by rw[<-hv1];exact setRow_heap _ _ _ _ _ _ NZ1
 have Bv1:Below w2.heap.size w2 v1:=by rw[<-hv1];exact Tk.below_row ((Below.refl _ w2).alloc (Nat.le_refl _) _) (Nat.le_refl _) _
 have Qv1:Hid (Bw.Bx q (r-1) v1/\Tk.But (λi=>i=q) w v1):=⟨Qw2.out.1.below Bv1,Qw2.out.2.trans (.of_below Bv1)⟩;have Hv1:Hid _:=hv1;clear hv1 Bv1
 go_upto_region 7 with(first
  |refine wpList_load_mid rfl 32 _ rfl K 0 rfl (Bw.leaf k1 n1).toList _ R1 hu rfl hi1 ?_
  |refine wpList_store_row rfl 32 _ _ rfl w2.heap.size (Bw.leaf k1 n1) rfl rfl 32 _ NZ1 Bw.info (Bw.zero_size.trans (Bw.leaf_size _ _).symm) (Bw.leaf_one _ _) ?_)
 rw[Hv1.out]
 go_wp2_with (refine wpList_load_row rfl 32 _ rfl _ rfl 32 _ (0,0) _ Nv1 hu rfl Bw.info ?_)
 refine Calls.mono (Tryz.bwRes_leaf k1 n1 2 (r-1) q v1 Qv1.out.1 (by decide) (by decide) (by have:=HR.out.1;omega) (by have:=HR.out.2;omega)) ?_;rintro e u1 ⟨rfl,b1,t1⟩;have Qu1:Hid (Bw.Bx q (r-1-2) u1/\Tk.But (λi=>i=q) w u1):=⟨b1,Qv1.out.2.trans t1⟩;clear b1 t1 Hv1 Nv1 NZ1 R1;go_wp2;have R2:=(HT.out u1 Qu1.out.2).2;rw[rounds_succ];have NZ2:(u1.alloc (.cells #[.int .i64 0,.int .i64 0,.int .i64 0,.int .i64 0,.int .i64 0,.int .i64 0,.slice none 0 0,.slice none 0 0,.slice none 0 0,.slice none 0 0,.slice none 0 0,.slice none 0 0] 32)).heap[u1.heap.size]? =some (.cells #[.int .i64 0,.int .i64 0,.int .i64 0,.int .i64 0,.int .i64 0,.int .i64 0,.slice none 0 0,.slice none 0 0,.slice none 0 0,.slice none 0 0,.slice none 0 0,.slice none 0 0] 32 (0,0)):=heap_alloc_new u1 _;obtain⟨v2,hv2⟩:=pE ((u1.alloc (.cells #[.int .i64 0,.int .i64 0,.int .i64 0,.int .i64 0,.int .i64 0,.int .i64 0,.slice none 0 0,.slice none 0 0,.slice none 0 0,.slice none 0 0,.slice none 0 0,.slice none 0 0] 32)).setRow u1.heap.size (Bw.leaf k2 n2));have Nv2:v2.heap[u1.heap.size]? =some (.cells (Bw.leaf k2 n2) 32 (0,0)):=by rw[<-hv2];exact setRow_heap _ _ _ _ _ _ NZ2
 have Bv2:Below u1.heap.size u1 v2:=by rw[<-hv2];exact Tk.below_row ((Below.refl _ u1).alloc (Nat.le_refl _) _) (Nat.le_refl _) _
 have Qv2:Hid (Bw.Bx q (r-1-2) v2/\Tk.But (λi=>i=q) w v2):=⟨Qu1.out.1.below Bv2,Qu1.out.2.trans (.of_below Bv2)⟩;have Hv2:Hid _:=hv2;clear hv2 Bv2
 go_upto_region 7 with(first
  |refine wpList_load_mid rfl 32 _ rfl K 12 rfl (Bw.leaf k2 n2).toList _ R2 hu rfl hi2 ?_
  |refine wpList_store_row rfl 32 _ _ rfl u1.heap.size (Bw.leaf k2 n2) rfl rfl 32 _ NZ2 Bw.info (Bw.zero_size.trans (Bw.leaf_size _ _).symm) (Bw.leaf_one _ _) ?_)
 rw[Hv2.out]
 go_wp2_with (refine wpList_load_row rfl 32 _ rfl _ rfl 32 _ (0,0) _ Nv2 hu rfl Bw.info ?_)
 refine Calls.mono (Tryz.bwRes_leaf k2 n2 2 (r-1-2) q v2 Qv2.out.1 (by decide) (by decide) (by have:=HR.out.1;omega) (by have:=HR.out.2;omega)) ?_;rintro e u2 ⟨rfl,b2,t2⟩;have Qu2:Hid (Bw.Bx q (r-1-2-2) u2/\Tk.But (λi=>i=q) w u2):=⟨b2,Qv2.out.2.trans t2⟩;clear b2 t2 Hv2 Nv2 NZ2 R2;go_wp2;rw[rounds_succ];go_wp2;go_ret;exact⟨rfl,Qu2.out.2⟩
theorem Tryz.infoActs:(Tryz.prog.info? 32).map (λi=>(i.zero,i.size,i.bytes))=some (some (.agg #[.int .i64 0,.int .i64 0,.int .i64 0,.int .i64 0,.int .i64 0,.int .i64 0,.slice none 0 0,.slice none 0 0,.slice none 0 0,.slice none 0 0,.slice none 0 0,.slice none 0 0]),12,192):=by kernel_rfl
theorem Tryz.cloneAct_nil (w:World)(c:Nat):
  Calls Tryz.prog 81 #[.slice none 0 c] w λe w'=>e=.returned (.slice none 0 0)/\w'=w:=by
 have hq:∀W:World,(binOp BinOp.eql 25 (.slice none 0 c) (.slice none 0 0)).run Tryz.prog W=.ok (.bool true) W:=λ_=>by kernel_rfl
 go_enter Tryz.func81,Tryz.ntmps81
 go_wp2;go_ret;exact⟨rfl,rfl⟩
theorem Tryz.cloneAct_any (ad:Addr)(n c:Nat)(xs:List Value)(w:World)(hl:xs.length=n*12)(hx:∀j v,xs[j]? =some v->w.cell? (ad.add j)=some v)(h1:∀v∈xs,v.oneCell'=true)(hb:0<n->ad.block<w.heap.size)(hn:n<=1000000):
  Calls Tryz.prog 81 #[.slice (some ad) n c] w λe w'=>∃g c',e=.returned (.slice (some ⟨g,0,none⟩) n c')/\Hid (w.heap.size<=g/\(∃cur,w'.heap[g]? =some (.cells cur 32 (0,0))/\cur.toList.take (n*12)=xs)/\Below w.heap.size w w'):=by
 obtain⟨i0,hi,hz0,hz1,hz2⟩:=info_parts Tryz.infoActs;have hq:∀W:World,(binOp BinOp.eql 25 (.slice (some ad) n c) (.slice none 0 0)).run Tryz.prog W=.ok (.bool false) W:=λ_=>by kernel_rfl
 have HC:Hid (∀j v,xs[j]? =some v->(w.alloc (.cells #[] 32)).cell? (ad.add j)=some v):=λj v hv=>by
  have hbl:Below w.heap.size w (w.alloc (.cells #[] 32)):=(Below.refl _ w).alloc (Nat.le_refl _) _;rw[hbl.cell (p:=ad.add j) (by rw[Nt.add_block];exact hb (by have:=(List.getElem?_eq_some_iff.1 hv).1;omega))];exact hx j v hv
 have H1:Hid (∀v,v∈xs->v.oneCell'=true):=h1;have HO:Hid ((w.alloc (.cells #[] 32)).ownsRow w.heap.size 32 12 (.slice (some ⟨w.heap.size,0,none⟩) 0 0) 0 []):=World.ownsRow_made w #[] 0 (Nat.le_refl _) (by unfold maxLen;omega) rfl;have HL:Hid (xs.length=n*12):=hl;clear hx h1 hb hl
 go_enter Tryz.func81,Tryz.ntmps81
 go_wp2_with (at_builtin;refine wpList_append_own _ rfl _ _ 25 rfl w.heap.size 32 i0 (.agg #[.int .i64 0,.int .i64 0,.int .i64 0,.int .i64 0,.int .i64 0,.int .i64 0,.slice none 0 0,.slice none 0 0,.slice none 0 0,.slice none 0 0,.slice none 0 0,.slice none 0 0]) 12 192 Tryz.underlying25 hi hz0 hz1 hz2 rfl (by decide) _ 0 [] rfl HO.out ad n c xs rfl HL.out HC.out H1.out ?c3 ?c4 ?c5 ?_)
 case c3=>unfold maxLen;omega
 case c4=>omega
 case c5=>simp
 intro v' W2 own2 g2 hne;have HB:Hid (Below w.heap.size w W2):=Rk.below_grown ((Below.refl _ w).alloc (Nat.le_refl _) _) (by simp) HO.out g2
 rcases own2.2 with⟨hv,_⟩|⟨g,cap,cur,rfl,hgB,hgc,_,_,_,hgr⟩
 ·exact(hne hv).elim
 have HV:Hid (w.heap.size<=g/\W2.heap[g]? =some (.cells cur 32 (0,0))/\cur.toList.take (n*12)=xs):=⟨hgB,hgc,by simpa using hgr⟩;clear own2 g2 hne hgB hgc hgr;go_wp2;go_ret;exact⟨g,cap,by first|rfl|simp,HV.out.1,⟨cur,HV.out.2⟩,HB.out⟩
theorem Tryz.cloneLink_nil (w:World)(c:Nat):
  Calls Tryz.prog 82 #[.slice none 0 c] w λe w'=>e=.returned (.slice none 0 0)/\w'=w:=by
 have hq:∀W:World,(binOp BinOp.eql 26 (.slice none 0 c) (.slice none 0 0)).run Tryz.prog W=.ok (.bool true) W:=λ_=>by kernel_rfl
 go_enter Tryz.func82,Tryz.ntmps82
 go_wp2;go_ret;exact⟨rfl,rfl⟩
end Go.Proofs
namespace Go.Proofs
open Go.RowKit
theorem Rk.sweep_take {n:Nat} :∀(es:List (Nat×Nat)) (bs:List Bool),(∀e,e∈es->e.1<n/\e.2<n)->(Rk.sweep es bs).take n=Rk.sweep es (bs.take n)
 | [],_,_=>rfl
 |e::es,bs,h=>by
  have h1:=h e List.mem_cons_self;rw[Rk.sweep,Rk.sweep,Rk.sweep_take es _ (λx hx=>h x (List.mem_cons_of_mem _ hx))]
  congr 1
  rw[List.getElem?_take_of_lt h1.1]
  split
  ·rw[List.take_set]
  rfl
theorem Rk.sweeps_take {n:Nat}{es:List (Nat×Nat)}(h:∀e,e∈es->e.1<n/\e.2<n):∀(k:Nat) (bs:List Bool),(Rk.sweeps es k bs).take n=Rk.sweeps es k (bs.take n)
 |0,_=>rfl
 |k+1,bs=>by rw[Rk.sweeps,Rk.sweeps,Rk.sweeps_take h k,Rk.sweep_take es bs h]
theorem Nt.way_sweep {fs:List (Nat×Nat)}{n a:Nat}(hf:∀e,e∈fs->e.2<n):∀(es:List (Nat×Nat)) (bs:List Bool),(∀e,e∈es->e∈fs)->Rk.Way fs n a bs->Rk.Way fs n a (Rk.sweep es bs)
 | [],_,_,h=>h
 |e::es,bs,hs,h=>by
  rw[Rk.sweep];refine Nt.way_sweep hf es _ (λx hx=>hs x (List.mem_cons_of_mem _ hx)) ?_
  split
  ·next hx=>exact h.mark (hs e List.mem_cons_self) hx (hf e (hs e List.mem_cons_self))
  exact h
theorem Nt.way_sweeps {fs:List (Nat×Nat)}{n a:Nat}(hf:∀e,e∈fs->e.2<n):∀(k:Nat) (bs:List Bool),Rk.Way fs n a bs->Rk.Way fs n a (Rk.sweeps fs k bs)
 |0,_,h=>h
 |k+1,bs,h=>Nt.way_sweeps hf k _ (Nt.way_sweep hf fs bs (λ_ h=>h) h)
theorem Nt.sweeps_met {es:List (Nat×Nat)}{n a:Nat}(hes:∀e,e∈es->e.1<n/\e.2<n)(ha:a<n):Rk.sweeps es n ((List.replicate n false).set a true)=(List.range n).map (Rk.met es a):=by
 refine(Nt.way_sweeps (λe h=>(hes e h).2) n _ (Rk.Way.start es ha)).done ?_;refine Rk.sweeps_shut n _ (λe h=>by simpa using(hes e h).2) ?_;have:=Rk.left_le ((List.replicate n false).set a true);simpa using this
theorem Nt.sweeps_long {es:List (Nat×Nat)}{n a N:Nat}(hes:∀e,e∈es->e.1<n/\e.2<n)(ha:a<n)(hN:n<=N)(i:Nat)(hi:i<n):(Rk.sweeps es n ((List.replicate N false).set a true))[i]? =some (Rk.met es a i):=by
 have h:=Rk.sweeps_take hes n ((List.replicate N false).set a true);rw[List.take_set,List.take_replicate,Nat.min_eq_left hN,Nt.sweeps_met hes ha]at h;rw[<-List.getElem?_take_of_lt hi,h];simp[hi]
def Nt.back (es:List (Nat×Nat)):List (Nat×Nat):=es.map λe=>(e.2,e.1)
theorem Nt.met_back (es:List (Nat×Nat))(a b:Nat):Rk.met (Nt.back es) b a=Rk.met es a b:=by
 rw[Bool.eq_iff_iff,Rk.met_iff,Rk.met_iff];exact Rk.back_iff es a b
theorem Nt.back_lt {es:List (Nat×Nat)}{n:Nat}(hes:∀e,e∈es->e.1<n/\e.2<n):∀e,e∈Nt.back es->e.1<n/\e.2<n:=by
 intro e he;obtain⟨x,hx,rfl⟩:=List.mem_map.1 he;have:=hes x hx;exact⟨this.2,this.1⟩
theorem Nt.edges_lt {ns:List Nd}{fs:List Fl}(h:∀f,f∈fs->0<=f.fr/\f.fr<ns.length/\0<=f.to/\f.to<ns.length):∀e,e∈Nt.edges fs->e.1<ns.length/\e.2<ns.length:=by
 intro e he;obtain⟨f,hf,rfl⟩:=List.mem_map.1 he;have:=h f hf;exact⟨by show f.fr.toNat<_;omega,by show f.to.toNat<_;omega⟩
theorem Nt.edges_get (fs:List Fl)(k:Nat)(h:k<fs.length):(Nt.edges fs)[k]'(by simpa [Nt.edges]using h)=(fs[k].fr.toNat,fs[k].to.toNat):=by simp[Nt.edges]
theorem Nt.edges_length (fs:List Fl):(Nt.edges fs).length=fs.length:=by simp[Nt.edges]
theorem Nt.back_length (es:List (Nat×Nat)):(Nt.back es).length=es.length:=by simp[Nt.back]
end Go.Proofs
namespace Go.Proofs
open Go.RowKit Go.Shelf
theorem Tryz.rround_ok (n:Nat)(a:Option Addr)(c:Nat)(es:List (Nat×Nat))(w:World)(hn:n<=64)(hes:∀e,e∈es->e.1<n/\e.2<n)(hE:Rk.Eds w w.heap.size a (Rk.up es))(hm:es.length<=1000000000000000)(hck:Rk.chk n (Rk.up es)=0):
  Calls Tryz.prog 108 #[.int .i64 n,.slice a es.length c] w λe w'=>∃v,e=.returned (.tuple #[v,.int .i64 0])/\
   w'.ownsRow w.heap.size 3 1 v ((List.range n).filter (λi=>Rk.lead es i i)).length (Rq.nums ((List.range n).filter (λi=>Rk.lead es i i)))/\Below w.heap.size w w':=by
 obtain⟨i0,hi,hz0,hz1,hz2⟩:=info_parts Tryz.infoIntQ;have H1:Hid _:=Tryz.rcheck_any n a c (Rk.up es) w hE (by rw[Rk.up_length];exact hm);rw[hck,Rk.up_length]at H1;have HX:Hid (n<=64/\(∀e,e∈es->e.1<n/\e.2<n)/\Rk.Eds w w.heap.size a (Rk.up es)/\es.length<=1000000000000000):=⟨hn,hes,hE,hm⟩;clear hE hm hes hck
 go_enter Tryz.func108,Tryz.ntmps108
 go_wp2_with fail
 refine Calls.mono H1.out ?_;rintro e W1 ⟨rfl,hb⟩;have HB0:Hid (Below w.heap.size w W1):=hb;clear hb H1;go_wp2
 go_loopg [7,8] n (λgk s5 s8 wr=>∃(k r:Nat) (L:List Nat),gk+k=n/\s8=.int .i64 k/\r<=k/\Hid (L=(List.range k).filter (λi=>Rk.lead es i i)/\L.length=r/\Below w.heap.size w wr)/\wr.ownsRow w.heap.size 3 1 s5 r (Rq.nums L))
 case atStart=>exact⟨0,0, [],by omega,rfl,Nat.le_refl _,⟨rfl,rfl,HB0.out⟩,World.ownsRow_nil _ _ _ _⟩
 case round=>
  obtain⟨k,r,L,hk,rfl,hr,HB,hown⟩:=hrel;obtain⟨av,cv,rfl⟩:=Rq.own_shape hown
  by_cases hlt:k<n
  rotate_left
  ·have hd:decide ((k:Int)<n)=false:=decide_eq_false (by omega)
   go_wp2;go_ret2;obtain rfl:k=n:=by omega
   rw[<-HB.out.1,HB.out.2.1];exact⟨_,rfl,hown,HB.out.2.2⟩
  have hd:decide ((k:Int)<n)=true:=decide_eq_true (by omega)
  have HF:Hid ((List.range (k+1)).filter (λi=>Rk.lead es i i)=L++if((λi=>Rk.lead es i i)) k=true then [k]else []):=by
   show _=_;rw[List.range_succ,List.filter_append,<-HB.out.1]
   cases hq:((λi=>Rk.lead es i i)) k<;>simp[hq]
  have HC:Hid _:=Tryz.rleads_any n k k a c es wr HX.out.1 hlt HX.out.2.1 ((HX.out.2.2.1.below HB.out.2.2).wider HB.out.2.2.size) HX.out.2.2.2;obtain⟨q,hq⟩:=pE (Rk.lead es k k);simp only[hq]at HC HF;clear hq
  cases q
  ·go_wp2_with (first|(go_at_call 141;refine Calls.mono HC.out ?_;rintro e W2 ⟨rfl,hb2⟩;have own1:=Rq.own_below hown hb2;have B2:Hid (Below w.heap.size w W2):=HB.out.2.2.trans (hb2.mono HB.out.2.2.size);have hs2:w.heap.size<=W2.heap.size:=B2.out.size;clear hb2 hown)|fail)
   go_roundg (gk-1)
   case measure=>omega
   case rel=>
    refine⟨k+1,r,L,by omega,by go_num,by omega,⟨?_,HB.out.2.1,B2.out⟩,own1⟩;rw[HF.out];simp
  go_wp2_with (first
   |(go_at_call 141;refine Calls.mono HC.out ?_;rintro e W2 ⟨rfl,hb2⟩;have own1:=Rq.own_below hown hb2;have B2:Hid (Below w.heap.size w W2):=HB.out.2.2.trans (hb2.mono HB.out.2.2.size);have hs2:w.heap.size<=W2.heap.size:=B2.out.size;clear hb2 hown)
   |(at_builtin;refine wpList_append_own _ rfl _ _ 111 rfl w.heap.size 3 i0 (.int .i64 0) 1 8 Tryz.underlying111 hi hz0 hz1 hz2 rfl (by decide) _ _ _ rfl (own1.alloc _) ⟨W2.heap.size,0,none⟩ 1 1 [.int .i64 k] rfl rfl (Rq.one_cell W2 k 3) (Rq.one_one k) ?c3 ?c4 ?c5 ?_))
  case c3=>unfold maxLen;omega
  case c4=>omega
  case c5=>first|omega|(simp;omega)
  intro v' W3 own3 g3 _;obtain⟨a3,c3',rfl⟩:=Rq.own_shape own3;have HZ:Hid (Below w.heap.size w W3):=Rq.below_grown (B2.out.alloc hs2 _) (by simp;omega) (own1.alloc _) g3;clear g3 own1;go_wp2;go_roundg (gk-1)
  case measure=>omega
  case rel=>
   refine⟨k+1,r+1,L++ [k],by omega,by go_num,by omega,⟨?_,by simp[HB.out.2.1],HZ.out⟩, ?_⟩
   ·rw[HF.out];rfl
   rw[Rq.nums_snoc];exact own3
theorem Tryz.rtwo_any (f:Fl)(v:Value)(an:Option Addr)(cn:Nat)(af:Option Addr)(cf d:Nat)(ns:List Nd)(fs:List Fl)(w:World)(hH:Nt.Has w w.heap.size d an af ns fs)(hT:Tm.Lies w w.heap.size d v f.c)(hsz:f.c.size<=2147483647):
  Calls Tryz.prog 110 #[.agg #[.slice an ns.length cn,.slice af fs.length cf],.agg #[.int .i64 f.fr,.int .i64 f.to,.bool f.els,.int .i64 f.c.op,.int .i64 f.c.num,v]] w λe w'=>e=.returned (.bool (Nt.twoB ns fs f))/\Below w.heap.size w w':=by
 obtain⟨au,cu,rfl⟩:=hT.shape;obtain⟨W0,hW0⟩:=pE ((w.alloc (.cells #[.slice an ns.length cn,.slice af fs.length cf] 30)).alloc (.cells #[.int .i64 f.fr,.int .i64 f.to,.bool f.els,.int .i64 f.c.op,.int .i64 f.c.num,.slice au f.c.ks.length cu] 64));have A0:Below w.heap.size w W0:=by rw[<-hW0];exact((Below.refl _ w).alloc (Nat.le_refl _) _).alloc (by simp) _
 have G0:W0.heap[w.heap.size]? =some (.cells #[.slice an ns.length cn,.slice af fs.length cf] 30 (0,0)):=by rw[<-hW0,Below.heap_alloc _ _ _ (by simp)];exact heap_alloc_new w _
 have F0:W0.heap[w.heap.size+1]? =some (.cells #[.int .i64 f.fr,.int .i64 f.to,.bool f.els,.int .i64 f.c.op,.int .i64 f.c.num,.slice au f.c.ks.length cu] 64 (0,0)):=by
  rw[<-hW0];have:=heap_alloc_new (w.alloc (.cells #[.slice an ns.length cn,.slice af fs.length cf] 30)) (.cells #[.int .i64 f.fr,.int .i64 f.to,.bool f.els,.int .i64 f.c.op,.int .i64 f.c.num,.slice au f.c.ks.length cu] 64);simpa using this
 have hof:∀W,Below w.heap.size w W->Calls Tryz.prog 142 #[.agg #[.int .i64 f.c.op,.int .i64 f.c.num,.slice au f.c.ks.length cu],.int .i64 2] W λe w'=>e=.returned (.bool (Nt.ofB f.c 2))/\Below W.heap.size W w':=λW hb=>
  Tryz.rof_any 2 d f.c (.slice au f.c.ks.length cu) W ((hT.below hb).wider hb.size) hsz
 have hnone:∀W,Calls Tryz.prog 143 #[.agg #[.int .i64 f.c.op,.int .i64 f.c.num,.slice au f.c.ks.length cu]] W λe w'=>e=.returned (.bool (Nt.zeroB f.c))/\Below W.heap.size W w':=λW=>Tryz.rnone_any f.c au cu W
 have houts:∀W,Below w.heap.size w W->Calls Tryz.prog 144 #[.agg #[.slice an ns.length cn,.slice af fs.length cf],.int .i64 f.fr] W λe w'=>∃a c,e=.returned (.slice a (Nt.outsN fs f.fr) c)/\Hid (Below W.heap.size W w'):=λW hb=>
  (Tryz.rOuts_any f.fr an ns.length cn af cf d fs W ((hH.fls.below hb).wider hb.size) hH.flen).mono λe w' h=>by
   obtain⟨x,hx,ho,hbb⟩:=h;obtain⟨a,c,rfl⟩:=Rk.own_shape ho;rw[Nt.outsL_len]at hx;exact⟨a,c,hx,hbb⟩
 have hnk:∀x:Nat,x<ns.length->∃g o2,an=some ⟨g,o2,none⟩/\g<w.heap.size/\∀W,Below w.heap.size w W->W.cell? ⟨g,o2+x*5,none⟩=some (.int .i64 (Nt.kindAt ns x)):=λx hx=>by
  obtain⟨g,o2,u',e1,e2,e3,_⟩:=hH.nds x hx;exact⟨g,o2,e1,e2,λW hb=>by rw[hb.cell (p:=⟨g,o2+x*5,none⟩) e2,Nt.kindAt_get ns x hx];exact e3⟩
 have hol:Nt.outsN fs f.fr<=100:=by unfold Nt.outsN;have:=List.countP_le_length (l:=fs) (p:=λg=>decide (g.fr=f.fr));have:=hH.flen;omega
 have hnl:=hH.nlen;obtain⟨nu,hnu⟩:=pE (f.c.ks.length);obtain⟨fr,hfr⟩:=pE (f.fr);obtain⟨tt,hto⟩:=pE (f.to);obtain⟨els,hel⟩:=pE (f.els);obtain⟨op,hop⟩:=pE (f.c.op);obtain⟨num,hnum⟩:=pE (f.c.num);obtain⟨n,hnn⟩:=pE (ns.length);obtain⟨m,hmm⟩:=pE (fs.length);obtain⟨ob,hob⟩:=pE (Nt.ofB f.c 2);obtain⟨zb,hzb⟩:=pE (Nt.zeroB f.c);obtain⟨o,ho⟩:=pE (Nt.outsN fs f.fr);obtain⟨r,hr⟩:=pE (Nt.twoB ns fs f);rw[hop,hnum,hnu,hob]at hof;rw[hop,hnum,hnu,hzb]at hnone;rw[ho]at hol houts;rw[hfr,hnn,hmm]at houts;rw[hfr,hto,hel,hop,hnum,hnu,hnn,hmm]at hW0;rw[hfr,hto,hel,hop,hnum,hnu]at F0;rw[hnn,hmm]at G0;rw[hr,hfr,hto,hel,hop,hnum,hnu,hnn,hmm];rw[hnn]at hnl
 have HB:Hid (∀W,Below W0.heap.size W0 W->W.cell? ⟨w.heap.size,0,none⟩=some (.slice an n cn)/\W.cell? ⟨w.heap.size,1,none⟩=some (.slice af m cf)/\W.heap[w.heap.size+1]? =some (.cells #[.int .i64 fr,.int .i64 tt,.bool els,.int .i64 op,.int .i64 num,.slice au nu cu] 64 (0,0))/\Below w.heap.size w W):=λW hb=>by
  obtain⟨p0,p1⟩:=Nt.box2 ((hb.block _ (Nt.lt_of G0)).trans G0);exact⟨p0,p1,(hb.block _ (Nt.lt_of F0)).trans F0,A0.trans (hb.mono A0.size)⟩
 have HR:Hid (Nt.twoB ns fs f=r/\f.fr=fr/\f.to=tt/\f.els=els/\ns.length=n/\Nt.ofB f.c 2=ob/\Nt.zeroB f.c=zb/\Nt.outsN fs f.fr=o):=⟨hr,hfr,hto,hel,hnn,hob,hzb,ho⟩;have HW0:Hid ((w.alloc (.cells #[.slice an n cn,.slice af m cf] 30)).alloc (.cells #[.int .i64 fr,.int .i64 tt,.bool els,.int .i64 op,.int .i64 num,.slice au nu cu] 64)=W0):=hW0;have CO:Hid (∀W,Below W0.heap.size W0 W->Calls Tryz.prog 144 #[.agg #[.slice an n cn,.slice af m cf],.int .i64 fr] W λe w'=>∃a c,e=.returned (.slice a o c)/\Hid (Below W0.heap.size W0 w')):=λW hb=>(houts W (A0.trans (hb.mono A0.size))).mono λe w' ⟨a,c,h1,h2⟩=>⟨a,c,h1,hb.trans (h2.out.mono hb.size)⟩;have CF:Hid (∀W,Below W0.heap.size W0 W->Calls Tryz.prog 142 #[.agg #[.int .i64 op,.int .i64 num,.slice au nu cu],.int .i64 2] W λe w'=>e=.returned (.bool ob)/\Hid (Below w.heap.size w w')):=λW hb=>(hof W (A0.trans (hb.mono A0.size))).mono λe w' ⟨h1,h2⟩=>⟨h1,(A0.trans (hb.mono A0.size)).trans (h2.mono (Nat.le_trans A0.size hb.size))⟩;have CN:Hid (∀W,Below W0.heap.size W0 W->Calls Tryz.prog 143 #[.agg #[.int .i64 op,.int .i64 num,.slice au nu cu]] W λe w'=>e=.returned (.bool zb)/\Hid (Below w.heap.size w w')):=λW hb=>(hnone W).mono λe w' ⟨h1,h2⟩=>⟨h1,(A0.trans (hb.mono A0.size)).trans (h2.mono (Nat.le_trans A0.size hb.size))⟩
 have NK:Hid (∀x:Nat,x<n->∃g o2,an=some ⟨g,o2,none⟩/\g<w.heap.size/\∀W,Below w.heap.size w W->W.cell? ⟨g,o2+x*5,none⟩=some (.int .i64 (Nt.kindAt ns x))):=λx hx=>hnk x (by omega);have HA:Hid (Below w.heap.size w W0):=A0;have BR:Hid (Below W0.heap.size W0 W0):=Below.refl _ _;clear hH hT hsz hof hnone houts hnk hnu hfr hto hel hop hnum hnn hmm hob hzb ho hr hW0 A0 G0 F0
 by_cases hbad:fr<0∨(n:Int)<=fr∨tt<0∨(n:Int)<=tt∨fr=tt
 ·have HD:Hid (r=false):=by
   show _=_;rw[<-HR.out.1]
   rcases hbad with h|h|h|h|h
   ·exact Nt.twoB_from (by rw[HR.out.2.2.2.2.1,HR.out.2.1];simp[Nt.isNodeB];omega)
   ·exact Nt.twoB_from (by rw[HR.out.2.2.2.2.1,HR.out.2.1];simp[Nt.isNodeB];omega)
   ·exact Nt.twoB_to (by rw[HR.out.2.2.2.2.1,HR.out.2.2.1];simp[Nt.isNodeB];omega)
   ·exact Nt.twoB_to (by rw[HR.out.2.2.2.2.1,HR.out.2.2.1];simp[Nt.isNodeB];omega)
   exact Nt.twoB_same (by rw[HR.out.2.1,HR.out.2.2.1];exact h)
  rw[HD.out];have hc:decide (fr<0)=true∨(decide (fr<0)=false/\decide ((n:Int)<=fr)=true)∨(decide (fr<0)=false/\decide ((n:Int)<=fr)=false/\decide (tt<0)=true)∨(decide (fr<0)=false/\decide ((n:Int)<=fr)=false/\decide (tt<0)=false/\decide ((n:Int)<=tt)=true)∨(decide (fr<0)=false/\decide ((n:Int)<=fr)=false/\decide (tt<0)=false/\decide ((n:Int)<=tt)=false/\(fr==tt)=true):=by simp;omega
  rcases hc with e1|⟨e1,e2⟩|⟨e1,e2,e3⟩|⟨e1,e2,e3,e4⟩|⟨e1,e2,e3,e4,e5⟩
  all_goals
   clear hbad CO CF CN NK HB
   go_enter Tryz.func110,Tryz.ntmps110
   go_wp2;go_ret;rw[HW0.out];exact⟨rfl,HA.out⟩
 have e1:decide (fr<0)=false:=decide_eq_false (by omega);have e2:decide ((n:Int)<=fr)=false:=decide_eq_false (by omega);have e3:decide (tt<0)=false:=decide_eq_false (by omega);have e4:decide ((n:Int)<=tt)=false:=decide_eq_false (by omega);have e5:(fr==tt)=false:=by simp;omega
 have HD:Hid (r=Nt.condB f (Nt.chosenB ns fs f)):=HR.out.1.symm.trans (Nt.twoB_rest (by rw[HR.out.2.2.2.2.1,HR.out.2.1];simp[Nt.isNodeB];omega) (by rw[HR.out.2.2.2.2.1,HR.out.2.2.1];simp[Nt.isNodeB];omega) (by rw[HR.out.2.1,HR.out.2.2.1];omega));obtain⟨x,hx⟩:∃x:Nat,fr=x:=⟨fr.toNat,by omega⟩;subst hx;have hxn:x<n:=by omega
 have e2n:decide (n<=x)=false:=decide_eq_false (by omega);have hx':(x:Int)<n:=by omega
 have hx0:(0:Int)<=x:=by omega
 obtain⟨g,o2,rfl,hg,hkc⟩:=NK.out x hxn;have hkw:=hkc W0 HA.out;have hkz:=hkc w (Below.refl _ w);obtain⟨kx,hkx⟩:=pE (Nt.kindAt ns x);rw[hkx]at hkw hkz
 have HCH:Hid (Nt.chosenB ns fs f=(decide (kx=5)&&decide (2<=o))):=by
  show _=_;rw[Nt.chosenB,HR.out.2.2.2.2.2.2.2,HR.out.2.1,Int.toNat_natCast,hkx]
 have HCD:Hid (∀ch,Nt.condB f ch=if ch=true/\els=false then ob else(ch==els)&&zb):=λch=>by rw[Nt.condB,HR.out.2.2.2.1,HR.out.2.2.2.2.2.1,HR.out.2.2.2.2.2.2.1]
 obtain⟨p0,p1,pf,-⟩:=HB.out W0 BR.out;obtain⟨f0,f1,f2,f3,f4,f5⟩:=Nt.flowBox pf;have KC:Hid (∀W,Below w.heap.size w W->W.cell? ⟨g,o2+x*5,none⟩=some (.int .i64 kx)):=λW hb=>by rw[hkc W hb,hkx]
 clear hbad hkx hkc NK pf
 by_cases h5:kx=5
 rotate_left
 ·have e6:(kx==5)=false:=by simpa using h5
  have e7:(kx !=5)=true:=by simpa using h5
  have HCF:Hid (Nt.chosenB ns fs f=false):=by show _=_;rw[HCH.out,decide_eq_false h5,Bool.false_and]
  cases els
  ·have HD2:Hid (r=zb):=by show _=_;rw[HD.out,HCD.out,HCF.out];simp
   clear HD HCD HCH HCF h5 CO CF
   go_enter Tryz.func110,Tryz.ntmps110
   go_wp2_with fail
   rw[HW0.out];refine Calls.mono (CN.out _ BR.out) ?_;rintro e W3 ⟨rfl,B3⟩;clear f0 f1 f2 f3 f4 f5;go_wp2;go_ret;exact⟨Tk.ret_bool HD2.out.symm,B3.out⟩
  have HD2:Hid (r=false):=by show _=_;rw[HD.out,HCD.out,HCF.out];simp
  clear HD HCD HCH HCF h5 CO CF CN
  go_enter Tryz.func110,Tryz.ntmps110
  go_wp2;go_ret;rw[HW0.out];exact⟨Tk.ret_bool HD2.out.symm,HA.out⟩
 subst h5;have q2:decide ((2:Int)<=o)=decide (2<=o):=decide_eq_decide.2 (by omega);have q3:decide ((o:Int)<2)= !decide (2<=o):=by rw[<-decide_not];exact decide_eq_decide.2 (by omega)
 cases hch:decide (2<=o)<;>cases els<;>rw[hch]at q2 q3
 ·have HD2:Hid (r=zb):=by show _=_;rw[HD.out,HCD.out,HCH.out,hch];simp
  clear HD HCD HCH hch
  go_enter Tryz.func110,Tryz.ntmps110
  go_wp2_with fail
  rw[HW0.out];refine Calls.mono (CO.out W0 BR.out) ?_;rintro e W1 ⟨a1,c1,rfl,B1⟩;clear f0 f1 f2 f3 f4 f5 hkw p0 p1;obtain⟨p0,p1,pf,BW1⟩:=HB.out W1 B1.out;obtain⟨f0,f1,f2,f3,f4,f5⟩:=Nt.flowBox pf;have hkw:=KC.out W1 BW1;have HBW:Hid (Below w.heap.size w W1):=BW1;clear pf BW1
  go_wp2_with fail
  refine Calls.mono (CN.out _ B1.out) ?_;rintro e W3 ⟨rfl,B3⟩;clear f0 f1 f2 f3 f4 f5;go_wp2;go_ret;exact⟨Tk.ret_bool HD2.out.symm,B3.out⟩
 ·have HD2:Hid (r=false):=by show _=_;rw[HD.out,HCD.out,HCH.out,hch];simp
  clear HD HCD HCH hch
  go_enter Tryz.func110,Tryz.ntmps110
  go_wp2_with fail
  rw[HW0.out];refine Calls.mono (CO.out W0 BR.out) ?_;rintro e W1 ⟨a1,c1,rfl,B1⟩;clear f0 f1 f2 f3 f4 f5 hkw p0 p1;obtain⟨p0,p1,pf,BW1⟩:=HB.out W1 B1.out;obtain⟨f0,f1,f2,f3,f4,f5⟩:=Nt.flowBox pf;have hkw:=KC.out W1 BW1;have HBW:Hid (Below w.heap.size w W1):=BW1;clear pf BW1
  go_wp2_with fail
  refine Calls.mono (CO.out W1 B1.out) ?_;rintro e W2 ⟨a2,c2,rfl,B2⟩;clear f0 f1 f2 f3 f4 f5 hkw p0 p1;obtain⟨p0,p1,pf,BW2⟩:=HB.out W2 B2.out;obtain⟨f0,f1,f2,f3,f4,f5⟩:=Nt.flowBox pf;have HBW2:Hid (Below w.heap.size w W2):=BW2;clear pf BW2;go_wp2;go_ret;exact⟨Tk.ret_bool HD2.out.symm,HBW2.out⟩
 ·have HD2:Hid (r=ob):=by show _=_;rw[HD.out,HCD.out,HCH.out,hch];simp
  clear HD HCD HCH hch
  go_enter Tryz.func110,Tryz.ntmps110
  go_wp2_with fail
  rw[HW0.out];refine Calls.mono (CO.out W0 BR.out) ?_;rintro e W1 ⟨a1,c1,rfl,B1⟩;clear f0 f1 f2 f3 f4 f5 hkw p0 p1;obtain⟨p0,p1,pf,BW1⟩:=HB.out W1 B1.out;obtain⟨f0,f1,f2,f3,f4,f5⟩:=Nt.flowBox pf;have hkw:=KC.out W1 BW1;have HBW:Hid (Below w.heap.size w W1):=BW1;clear pf BW1
  go_wp2_with fail
  refine Calls.mono (CF.out _ B1.out) ?_;rintro e W3 ⟨rfl,B3⟩;clear f0 f1 f2 f3 f4 f5;go_wp2;go_ret;exact⟨Tk.ret_bool HD2.out.symm,B3.out⟩
 have HD2:Hid (r=zb):=by show _=_;rw[HD.out,HCD.out,HCH.out,hch];simp
 clear HD HCD HCH hch
 go_enter Tryz.func110,Tryz.ntmps110
 go_wp2_with fail
 rw[HW0.out];refine Calls.mono (CO.out W0 BR.out) ?_;rintro e W1 ⟨a1,c1,rfl,B1⟩;clear f0 f1 f2 f3 f4 f5 hkw p0 p1;obtain⟨p0,p1,pf,BW1⟩:=HB.out W1 B1.out;obtain⟨f0,f1,f2,f3,f4,f5⟩:=Nt.flowBox pf;have hkw:=KC.out W1 BW1;have HBW:Hid (Below w.heap.size w W1):=BW1;clear pf BW1
 go_wp2_with fail
 refine Calls.mono (CO.out W1 B1.out) ?_;rintro e W2 ⟨a2,c2,rfl,B2⟩;clear f0 f1 f2 f3 f4 f5 hkw p0 p1;obtain⟨p0,p1,pf,BW2⟩:=HB.out W2 B2.out;obtain⟨f0,f1,f2,f3,f4,f5⟩:=Nt.flowBox pf;have HBW2:Hid (Below w.heap.size w W2):=BW2;clear pf BW2
 go_wp2_with fail
 refine Calls.mono (CN.out _ B2.out) ?_;rintro e W3 ⟨rfl,B3⟩;clear f0 f1 f2 f3 f4 f5;go_wp2;go_ret;exact⟨Tk.ret_bool HD2.out.symm,B3.out⟩
end Go.Proofs
