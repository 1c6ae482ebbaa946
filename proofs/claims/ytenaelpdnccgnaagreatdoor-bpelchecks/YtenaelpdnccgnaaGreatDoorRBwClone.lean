import Derived.Deep.Slices
import Derived.Test.YtenaelpdnccgnaaGreatDoorRRqRounds
set_option maxRecDepth 100000
set_option maxHeartbeats 32000000
namespace Go.Proofs
open Go.RowKit Go.Shelf
theorem Tryz.infoActs:(Tryz.prog.info? 32).map (λi=>(i.zero,i.size,i.bytes))=some (some (.agg #[.int .i64 0,.int .i64 0,.int .i64 0,.int .i64 0,.int .i64 0,.int .i64 0,.slice none 0 0,.slice none 0 0,.slice none 0 0,.slice none 0 0,.slice none 0 0,.slice none 0 0]),12,192):=by kernel_rfl
theorem Tryz.cloneAct_nil (w:World)(c:Nat):
  Calls Tryz.prog 81 #[.slice none 0 c] w λe w'=>e=.returned (.slice none 0 0)/\w'=w:=by
 have hq:∀W:World,(binOp BinOp.eql 25 (.slice none 0 c) (.slice none 0 0)).run Tryz.prog W=.ok (.bool true) W:=λ_=>by kernel_rfl
 go_enter Tryz.func81,Tryz.ntmps81
 go_wp2;go_ret;exact⟨rfl,rfl⟩
theorem Tryz.cloneAct_any (ad:Addr)(n c:Nat)(xs:List Value)(w:World)(hl:xs.length=n*12)(hx:∀j v,xs[j]? =some v->w.cell? (ad.add j)=some v)(h1:∀v∈xs,v.oneCell'=true)(hb:0<n->ad.block<w.heap.size)(hn:n<=1000000):
  Calls Tryz.prog 81 #[.slice (some ad) n c] w λe w'=>∃g c',e=.returned (.slice (some ⟨g,0,none⟩) n c')/\Hid (w.heap.size<=g/\(∃cur,w'.heap[g]? =some (.cells cur 32 (0,0))/\cur.toList.take (n*12)=xs)/\Below w.heap.size w w'):=by
 obtain⟨i0,hi,hz0,hz1,hz2⟩:=info_parts Tryz.infoActs;have hq:∀W:World,(binOp BinOp.eql 25 (.slice (some ad) n c) (.slice none 0 0)).run Tryz.prog W=.ok (.bool false) W:=λ_=>by kernel_rfl
 have HC:Hid (∀j v,xs[j]? =some v->(w.alloc (.cells #[] 32)).cell? (ad.add j)=some v):=λj v hv=>by
  have hbl:Below w.heap.size w (w.alloc (.cells #[] 32)):=(Below.refl _ w).alloc (Nat.le_refl _) _;rw[hbl.cell (p:=ad.add j) (by rw[Nt.add_block];exact hb (by have:=(List.getElem?_eq_some_iff.1 hv).1;omega))];exact hx j v hv
 have H1:Hid (∀v,v∈xs->v.oneCell'=true):=h1;have HO:Hid ((w.alloc (.cells #[] 32)).ownsRow w.heap.size 32 12 (.slice (some ⟨w.heap.size,0,none⟩) 0 0) 0 []):=World.ownsRow_made w #[] 0 (Nat.le_refl _) (by unfold maxLen;omega) rfl;have HL:Hid (xs.length=n*12):=hl;clear hx h1 hb hl
 go_enter Tryz.func81,Tryz.ntmps81
 go_wp2_with (at_builtin;refine wpList_append_own _ rfl _ _ 25 rfl w.heap.size 32 i0 (.agg #[.int .i64 0,.int .i64 0,.int .i64 0,.int .i64 0,.int .i64 0,.int .i64 0,.slice none 0 0,.slice none 0 0,.slice none 0 0,.slice none 0 0,.slice none 0 0,.slice none 0 0]) 12 192 Tryz.underlying25 hi hz0 hz1 hz2 rfl (by decide) _ 0 [] rfl HO.out ad n c xs rfl HL.out HC.out H1.out ?c3 ?c4 ?c5 ?_)
 case c3=>unfold maxLen;omega
 case c4=>omega
 case c5=>simp
 intro v' W2 own2 g2 hne;have HB:Hid (Below w.heap.size w W2):=Rk.below_grown ((Below.refl _ w).alloc (Nat.le_refl _) _) (by simp) HO.out g2
 rcases own2.2 with⟨hv,_⟩|⟨g,cap,cur,rfl,hgB,hgc,_,_,_,hgr⟩
 ·exact(hne hv).elim
 have HV:Hid (w.heap.size<=g/\W2.heap[g]? =some (.cells cur 32 (0,0))/\cur.toList.take (n*12)=xs):=⟨hgB,hgc,by simpa using hgr⟩;clear own2 g2 hne hgB hgc hgr;go_wp2;go_ret;exact⟨g,cap,by first|rfl|simp,HV.out.1,⟨cur,HV.out.2⟩,HB.out⟩
theorem Tryz.cloneLink_nil (w:World)(c:Nat):
  Calls Tryz.prog 82 #[.slice none 0 c] w λe w'=>e=.returned (.slice none 0 0)/\w'=w:=by
 have hq:∀W:World,(binOp BinOp.eql 26 (.slice none 0 c) (.slice none 0 0)).run Tryz.prog W=.ok (.bool true) W:=λ_=>by kernel_rfl
 go_enter Tryz.func82,Tryz.ntmps82
 go_wp2;go_ret;exact⟨rfl,rfl⟩
end Go.Proofs
namespace Go.Proofs
open Go.RowKit
theorem Rk.sweep_take {n:Nat} :∀(es:List (Nat×Nat)) (bs:List Bool),(∀e,e∈es->e.1<n/\e.2<n)->(Rk.sweep es bs).take n=Rk.sweep es (bs.take n)
 | [],_,_=>rfl
 |e::es,bs,h=>by
  have h1:=h e List.mem_cons_self;rw[Rk.sweep,Rk.sweep,Rk.sweep_take es _ (λx hx=>h x (List.mem_cons_of_mem _ hx))]
  congr 1
  rw[List.getElem?_take_of_lt h1.1]
  split
  ·rw[List.take_set]
  rfl
theorem Rk.sweeps_take {n:Nat}{es:List (Nat×Nat)}(h:∀e,e∈es->e.1<n/\e.2<n):∀(k:Nat) (bs:List Bool),(Rk.sweeps es k bs).take n=Rk.sweeps es k (bs.take n)
 |0,_=>rfl
 |k+1,bs=>by rw[Rk.sweeps,Rk.sweeps,Rk.sweeps_take h k,Rk.sweep_take es bs h]
theorem Nt.way_sweep {fs:List (Nat×Nat)}{n a:Nat}(hf:∀e,e∈fs->e.2<n):∀(es:List (Nat×Nat)) (bs:List Bool),(∀e,e∈es->e∈fs)->Rk.Way fs n a bs->Rk.Way fs n a (Rk.sweep es bs)
 | [],_,_,h=>h
 |e::es,bs,hs,h=>by
  rw[Rk.sweep];refine Nt.way_sweep hf es _ (λx hx=>hs x (List.mem_cons_of_mem _ hx)) ?_
  split
  ·next hx=>exact h.mark (hs e List.mem_cons_self) hx (hf e (hs e List.mem_cons_self))
  exact h
theorem Nt.way_sweeps {fs:List (Nat×Nat)}{n a:Nat}(hf:∀e,e∈fs->e.2<n):∀(k:Nat) (bs:List Bool),Rk.Way fs n a bs->Rk.Way fs n a (Rk.sweeps fs k bs)
 |0,_,h=>h
 |k+1,bs,h=>Nt.way_sweeps hf k _ (Nt.way_sweep hf fs bs (λ_ h=>h) h)
theorem Nt.sweeps_met {es:List (Nat×Nat)}{n a:Nat}(hes:∀e,e∈es->e.1<n/\e.2<n)(ha:a<n):Rk.sweeps es n ((List.replicate n false).set a true)=(List.range n).map (Rk.met es a):=by
 refine(Nt.way_sweeps (λe h=>(hes e h).2) n _ (Rk.Way.start es ha)).done ?_;refine Rk.sweeps_shut n _ (λe h=>by simpa using(hes e h).2) ?_;have:=Rk.left_le ((List.replicate n false).set a true);simpa using this
theorem Nt.sweeps_long {es:List (Nat×Nat)}{n a N:Nat}(hes:∀e,e∈es->e.1<n/\e.2<n)(ha:a<n)(hN:n<=N)(i:Nat)(hi:i<n):(Rk.sweeps es n ((List.replicate N false).set a true))[i]? =some (Rk.met es a i):=by
 have h:=Rk.sweeps_take hes n ((List.replicate N false).set a true);rw[List.take_set,List.take_replicate,Nat.min_eq_left hN,Nt.sweeps_met hes ha]at h;rw[<-List.getElem?_take_of_lt hi,h];simp[hi]
def Nt.back (es:List (Nat×Nat)):List (Nat×Nat):=es.map λe=>(e.2,e.1)
theorem Nt.met_back (es:List (Nat×Nat))(a b:Nat):Rk.met (Nt.back es) b a=Rk.met es a b:=by
 rw[Bool.eq_iff_iff,Rk.met_iff,Rk.met_iff];exact Rk.back_iff es a b
theorem Nt.back_lt {es:List (Nat×Nat)}{n:Nat}(hes:∀e,e∈es->e.1<n/\e.2<n):∀e,e∈Nt.back es->e.1<n/\e.2<n:=by
 intro e he;obtain⟨x,hx,rfl⟩:=List.mem_map.1 he;have:=hes x hx;exact⟨this.2,this.1⟩
theorem Nt.edges_lt {ns:List Nd}{fs:List Fl}(h:∀f,f∈fs->0<=f.fr/\f.fr<ns.length/\0<=f.to/\f.to<ns.length):∀e,e∈Nt.edges fs->e.1<ns.length/\e.2<ns.length:=by
 intro e he;obtain⟨f,hf,rfl⟩:=List.mem_map.1 he;have:=h f hf;exact⟨by show f.fr.toNat<_;omega,by show f.to.toNat<_;omega⟩
theorem Nt.edges_get (fs:List Fl)(k:Nat)(h:k<fs.length):(Nt.edges fs)[k]'(by simpa [Nt.edges]using h)=(fs[k].fr.toNat,fs[k].to.toNat):=by simp[Nt.edges]
theorem Nt.edges_length (fs:List Fl):(Nt.edges fs).length=fs.length:=by simp[Nt.edges]
theorem Nt.back_length (es:List (Nat×Nat)):(Nt.back es).length=es.length:=by simp[Nt.back]
end Go.Proofs
namespace Go.Proofs
open Go.RowKit Go.Shelf
theorem Ac.Lies.kid12 {w:World}{B e d n cap:Nat}{V:Ac.Vs}{a:Option Addr}{T:Ac}(h:Ac.Lies w B e (d+1) V T)(hv:V.k=.slice a n cap)(j:Nat)(hj:j<T.ks.length):
  ∃g off U,a=some ⟨g,off,none⟩/\g<B/\w.rangeAt g (off+j*12) (Ac.row T.ks[j] U).toList/\Ac.Lies w B e d U T.ks[j]:=by
 obtain⟨g,off,U,ha,hg,hr,hl⟩:=h.kid hv j hj;refine⟨g,off,U,ha,hg,λi v hi=> ?_,hl⟩;rw[Array.getElem?_toList]at hi;obtain⟨h1,h2⟩:=Array.getElem?_eq_some_iff.1 hi;rw[<-h2];exact hr i h1
theorem Ak.rinfo:(Tryz.prog.info? 44).map (·.size)=some 12:=by kernel_rfl
structure Ak.Kd (w wr:World)(e d:Nat)(a:Option Addr)(j g off:Nat)(U:Ac.Vs)(xs:Array Value)(w2:World)(x:Ac):Prop where
 at_:a=some ⟨g,off,none⟩
 row:Ac.row x U=xs
 load:wr.rangeAt g (off+j*12) xs.toList
 one:xs.all (·.oneCell')=true
 is:(Tryz.prog.info? 44).map (·.size)=some xs.size
 il:(Tryz.prog.info? 44).map (·.size)=some xs.toList.length
 zero:(wr.alloc (.cells #[.int .i64 0,.int .i64 0,.int .i64 0,.int .i64 0,.int .i64 0,.int .i64 0,.slice none 0 0,.slice none 0 0,.slice none 0 0,.slice none 0 0,.slice none 0 0,.slice none 0 0] 44)).heap[wr.heap.size]? =some (.cells #[.int .i64 0,.int .i64 0,.int .i64 0,.int .i64 0,.int .i64 0,.int .i64 0,.slice none 0 0,.slice none 0 0,.slice none 0 0,.slice none 0 0,.slice none 0 0,.slice none 0 0] 44 (0,0))
 ez:(#[.int .i64 0,.int .i64 0,.int .i64 0,.int .i64 0,.int .i64 0,.int .i64 0,.slice none 0 0,.slice none 0 0,.slice none 0 0,.slice none 0 0,.slice none 0 0,.slice none 0 0]:Array Value).size=xs.size
 eq:(wr.alloc (.cells #[.int .i64 0,.int .i64 0,.int .i64 0,.int .i64 0,.int .i64 0,.int .i64 0,.slice none 0 0,.slice none 0 0,.slice none 0 0,.slice none 0 0,.slice none 0 0,.slice none 0 0] 44)).setRow wr.heap.size xs=w2
 box:w2.heap[wr.heap.size]? =some (.cells xs 44 (0,0))
 bel:Below wr.heap.size wr w2
 all:Below w.heap.size w w2
 lies:Ac.Lies w2 w2.heap.size e d U x
theorem Ak.kid_at {w wr:World}{e d n cap:Nat}{V:Ac.Vs}{a:Option Addr}{T:Ac}(h:Ac.Lies w w.heap.size e (d+1) V T)(hv:V.k=.slice a n cap)(hb:Below w.heap.size w wr)(j:Nat)(hj:j<T.ks.length):
  ∃g off U xs w2,Ak.Kd w wr e d a j g off U xs w2 T.ks[j]:=by
 obtain⟨g,off,U,ha,hg,ry,hl⟩:=h.kid12 hv j hj;have NZ:(wr.alloc (.cells #[.int .i64 0,.int .i64 0,.int .i64 0,.int .i64 0,.int .i64 0,.int .i64 0,.slice none 0 0,.slice none 0 0,.slice none 0 0,.slice none 0 0,.slice none 0 0,.slice none 0 0] 44)).heap[wr.heap.size]? =some (.cells #[.int .i64 0,.int .i64 0,.int .i64 0,.int .i64 0,.int .i64 0,.int .i64 0,.slice none 0 0,.slice none 0 0,.slice none 0 0,.slice none 0 0,.slice none 0 0,.slice none 0 0] 44 (0,0)):=heap_alloc_new wr _;have B2:Below wr.heap.size wr ((wr.alloc (.cells #[.int .i64 0,.int .i64 0,.int .i64 0,.int .i64 0,.int .i64 0,.int .i64 0,.slice none 0 0,.slice none 0 0,.slice none 0 0,.slice none 0 0,.slice none 0 0,.slice none 0 0] 44)).setRow wr.heap.size (Ac.row T.ks[j] U)):=Tk.below_row ((Below.refl _ wr).alloc (Nat.le_refl _) _) (Nat.le_refl _) _;have B3:=hb.trans (B2.mono hb.size);exact⟨g,off,U,Ac.row T.ks[j] U,_,ha,rfl,λi v hi=>by rw[hb.cell (p:=⟨g,off+j*12+i,none⟩) hg];exact ry i v hi,hl.ones,Ak.rinfo,Ak.rinfo,NZ,rfl,rfl,setRow_heap _ _ _ _ _ _ NZ,B2,B3,(hl.below B3).wider B3.size⟩
theorem Ac.row_kids {T:Ac}{V:Ac.Vs}{a:Option Addr}{n cap:Nat}(h:V.k=.slice a n cap):∃x0 x1 x2 x3 x4 x5 x6 x7 x9 x10 x11,Ac.row T V=#[x0,x1,x2,x3,x4,x5,x6,x7,.slice a n cap,x9,x10,x11]:=⟨_,_,_,_,_,_,_,_,_,_,_,by unfold Ac.row;rw[h]⟩
theorem Tryz.r16Size_any:∀(d e:Nat) (T:Ac) (V:Ac.Vs) (w:World),Ac.Lies w w.heap.size e d V T->T.size<=2147483647->
  Calls Tryz.prog 21 #[.agg (Ac.row T V)] w λe w'=>e=.returned (.int .i64 T.size)/\Below w.heap.size w w':=by
 intro d
 induction d with
 |zero=>intro e T V w h;exact h.elim
 |succ d ih=>
  intro e T V w hT hsz;obtain⟨a,cap,hvk⟩:=hT.kids;obtain⟨n,hn⟩:=pE (T.ks.length);rw[hn]at hvk;have hnb:n<=2147483647:=by have h1:=Ac.length_le_sizes T.ks;have h2:=T.size_eq;omega
  obtain⟨x0,x1,x2,x3,x4,x5,x6,x7,x9,x10,x11,hrow⟩:=Ac.row_kids (T:=T) hvk;obtain⟨ts,hts⟩:=pE (T.size);rw[hrow,hts];obtain⟨w1,hw1⟩:=pE (w.alloc (.cells #[x0,x1,x2,x3,x4,x5,x6,x7,.slice a n cap,x9,x10,x11] 44));have B1:=pB hw1
  have N1:w1.heap[w.heap.size]? =some (.cells #[x0,x1,x2,x3,x4,x5,x6,x7,.slice a n cap,x9,x10,x11] 44 (0,0)):=by rw[<-hw1];exact heap_alloc_new w _
  have c8:w1.cell? ⟨w.heap.size,8,none⟩=some (.slice a n cap):=by simp[World.cell?,N1]
  have H1:Hid _:=hw1;have HB:Hid (Below w.heap.size w w1):=B1;have HT:Hid (Ac.Lies w w.heap.size e (d+1) V T/\V.k=.slice a n cap):=⟨hT,hvk⟩;have HI:Hid _:=ih;have HM:Hid (T.ks.length=n/\T.size<=2147483647/\T.size=ts):=⟨hn,hsz,hts⟩;have ha:=Tryz.underlying44;clear ih hT hsz hvk hn hrow hts hw1 B1 N1
  go_enter Tryz.func21,Tryz.ntmps21
  go_upto_region 1 with fail
  rw[H1.out];go_wp2
  go_loopg [3,9] n (λgk s i wr=>∃j c:Nat,gk+j=n/\i=.int .i64 j/\s=.int .i64 c/\c<=2147483647/\Hid (Below w1.heap.size w1 wr/\c=1+Ac.sizes (T.ks.take j)))
  case atStart=>exact⟨0,1,by omega,rfl,rfl,by omega,Below.refl _ w1,by simp[Ac.sizes]⟩
  case round=>
   obtain⟨j,c,hj,rfl,rfl,hcb,HJ⟩:=hrel;clear c8
   by_cases hjn:j<n
   rotate_left
   ·have hd:decide ((j:Int)<n)=false:=decide_eq_false (by omega)
    have hall:T.ks.take j=T.ks:=List.take_of_length_le (by rw[HM.out.1];omega)
    have hts:c=ts:=by
     have h1:=HJ.out.2;rw[hall]at h1;have h2:=T.size_eq;have h3:=HM.out.2.2;omega
    have HX:Hid (Below w.heap.size w wr):=HB.out.trans (HJ.out.1.mono HB.out.size);subst hts;go_wp2;go_ret;exact⟨rfl,HX.out⟩
   have hd:decide ((j:Int)<n)=true:=decide_eq_true (by omega);have hjk:j<T.ks.length:=by rw[HM.out.1];exact hjn
   have hxs:=Ac.sizes_get T.ks j hjk;have j0:(0:Int)<=j:=by omega
   have j1:(j:Int)<n:=by omega
   obtain⟨g,off,U,xs,w2,K⟩:=Ak.kid_at HT.out.1 HT.out.2 (HB.out.trans (HJ.out.1.mono HB.out.size)) j hjk;obtain⟨x,hx⟩:=pE (T.ks[j]);rw[hx]at hxs K;have hcall:=HI.out e x U w2 K.lies (by have:=HM.out.2.1;have:=T.size_eq;omega);obtain⟨fx,hfx⟩:=pE (x.size);rw[K.row,hfx]at hcall;have HC:Hid _:=hcall;have HY:Hid (T.ks[j]=x/\x.size=fx):=⟨hx,hfx⟩;have hsum:c+fx<=2147483647:=by have h1:=HM.out.2.1;have h2:=T.size_eq;have h3:=HJ.out.2;omega
   obtain⟨rfl,-,ryr,xone,ix,ixl,NZ,ez,hw2,NK,B2,-,-⟩:=K;have HB2:Hid (Below w1.heap.size w1 w2):=HJ.out.1.trans (B2.mono HJ.out.1.size);obtain⟨kb,hkb⟩:=pE (wr.heap.size);have HKB:Hid (wr.heap.size=kb):=hkb;have HW2:Hid _:=hw2;rw[hkb]at NK;clear hx hxs hcall hfx B2 hw2 hkb
   go_upto_region 5 with(first
    |refine wpList_load_mid rfl 44 _ rfl g (off+j*12) rfl xs.toList _ ryr ha rfl ixl ?_
    |refine wpList_store_row rfl 44 _ _ rfl wr.heap.size xs rfl rfl 44 _ NZ ix ez xone ?_)
   rw[HW2.out,HKB.out];clear ryr NZ HW2 HKB
   go_wp2_with (refine wpList_load_row rfl 44 _ rfl _ rfl 44 _ (0,0) _ NK ha rfl ix ?_)
   refine Calls.mono HC.out ?_;rintro e W3 ⟨rfl,b3⟩;have B3:Hid (Below w1.heap.size w1 W3):=HB2.out.trans (b3.mono HB2.out.size);clear b3 HC NK;go_wp2;go_roundg (gk-1)
   case measure=>omega
   case rel=>
    refine⟨j+1,c+fx,by omega,by go_num,by go_num,hsum,B3.out, ?_⟩;rw[Ac.sizes_take _ _ hjk,HY.out.1,HY.out.2,HJ.out.2];omega
theorem Tryz.r16Depth_any:∀(d e:Nat) (T:Ac) (V:Ac.Vs) (w:World),Ac.Lies w w.heap.size e d V T->T.size<=2147483647->
  Calls Tryz.prog 22 #[.agg (Ac.row T V)] w λe w'=>e=.returned (.int .i64 T.depth)/\Below w.heap.size w w':=by
 intro d
 induction d with
 |zero=>intro e T V w h;exact h.elim
 |succ d ih=>
  intro e T V w hT hsz;obtain⟨a,cap,hvk⟩:=hT.kids;obtain⟨n,hn⟩:=pE (T.ks.length);rw[hn]at hvk;have hnb:n<=2147483647:=by have h1:=Ac.length_le_sizes T.ks;have h2:=T.size_eq;omega
  obtain⟨x0,x1,x2,x3,x4,x5,x6,x7,x9,x10,x11,hrow⟩:=Ac.row_kids (T:=T) hvk;obtain⟨ts,hts⟩:=pE (T.depth);rw[hrow,hts];obtain⟨w1,hw1⟩:=pE (w.alloc (.cells #[x0,x1,x2,x3,x4,x5,x6,x7,.slice a n cap,x9,x10,x11] 44));have B1:=pB hw1
  have N1:w1.heap[w.heap.size]? =some (.cells #[x0,x1,x2,x3,x4,x5,x6,x7,.slice a n cap,x9,x10,x11] 44 (0,0)):=by rw[<-hw1];exact heap_alloc_new w _
  have c8:w1.cell? ⟨w.heap.size,8,none⟩=some (.slice a n cap):=by simp[World.cell?,N1]
  have H1:Hid _:=hw1;have HB:Hid (Below w.heap.size w w1):=B1;have HT:Hid (Ac.Lies w w.heap.size e (d+1) V T/\V.k=.slice a n cap):=⟨hT,hvk⟩;have HI:Hid _:=ih;have HM:Hid (T.ks.length=n/\T.size<=2147483647/\T.depth=ts):=⟨hn,hsz,hts⟩;have ha:=Tryz.underlying44;clear ih hT hsz hvk hn hrow hts hw1 B1 N1
  go_enter Tryz.func22,Tryz.ntmps22
  go_upto_region 1 with fail
  rw[H1.out];go_wp2
  go_loopg [3,10] n (λgk s i wr=>∃j c:Nat,gk+j=n/\i=.int .i64 j/\s=.int .i64 c/\c<=2147483647/\Hid (Below w1.heap.size w1 wr/\c=Ac.depths (T.ks.take j)))
  case atStart=>exact⟨0,0,by omega,rfl,rfl,by omega,Below.refl _ w1,by simp[Ac.depths]⟩
  case round=>
   obtain⟨j,c,hj,rfl,rfl,hcb,HJ⟩:=hrel;clear c8
   by_cases hjn:j<n
   rotate_left
   ·have hd:decide ((j:Int)<n)=false:=decide_eq_false (by omega)
    have hall:T.ks.take j=T.ks:=List.take_of_length_le (by rw[HM.out.1];omega)
    have hts:c+1=ts:=by
     have h1:=HJ.out.2;rw[hall]at h1;have h2:=T.depth_eq;have h3:=HM.out.2.2;omega
    have HX:Hid (Below w.heap.size w wr):=HB.out.trans (HJ.out.1.mono HB.out.size);subst hts;go_wp2;go_ret;exact⟨rfl,HX.out⟩
   have hd:decide ((j:Int)<n)=true:=decide_eq_true (by omega);have hjk:j<T.ks.length:=by rw[HM.out.1];exact hjn
   have hxs:=Ac.sizes_get T.ks j hjk;have j0:(0:Int)<=j:=by omega
   have j1:(j:Int)<n:=by omega
   obtain⟨g,off,U,xs,w2,K⟩:=Ak.kid_at HT.out.1 HT.out.2 (HB.out.trans (HJ.out.1.mono HB.out.size)) j hjk;obtain⟨x,hx⟩:=pE (T.ks[j]);rw[hx]at hxs K;have hcall:=HI.out e x U w2 K.lies (by have:=HM.out.2.1;have:=T.size_eq;omega);obtain⟨fx,hfx⟩:=pE (x.depth);rw[K.row,hfx]at hcall;have HC:Hid _:=hcall;have HY:Hid (T.ks[j]=x/\x.depth=fx):=⟨hx,hfx⟩;have hsum:fx<=2147483647:=by have h0:=x.depth_le_size;have h1:=HM.out.2.1;have h2:=T.size_eq;omega
   obtain⟨rfl,-,ryr,xone,ix,ixl,NZ,ez,hw2,NK,B2,-,-⟩:=K;have HB2:Hid (Below w1.heap.size w1 w2):=HJ.out.1.trans (B2.mono HJ.out.1.size);obtain⟨kb,hkb⟩:=pE (wr.heap.size);have HKB:Hid (wr.heap.size=kb):=hkb;have HW2:Hid _:=hw2;rw[hkb]at NK;clear hx hxs hcall hfx B2 hw2 hkb
   go_upto_region 5 with(first
    |refine wpList_load_mid rfl 44 _ rfl g (off+j*12) rfl xs.toList _ ryr ha rfl ixl ?_
    |refine wpList_store_row rfl 44 _ _ rfl wr.heap.size xs rfl rfl 44 _ NZ ix ez xone ?_)
   rw[HW2.out,HKB.out];clear ryr NZ HW2 HKB
   go_wp2_with (refine wpList_load_row rfl 44 _ rfl _ rfl 44 _ (0,0) _ NK ha rfl ix ?_)
   refine Calls.mono HC.out ?_;rintro e W3 ⟨rfl,b3⟩;have B3:Hid (Below w1.heap.size w1 W3):=HB2.out.trans (b3.mono HB2.out.size);clear b3 HC NK
   by_cases hlt:c<fx
   ·have hdd:decide ((c:Int)<fx)=true:=decide_eq_true (by omega)
    go_wp2;go_roundg (gk-1)
    case measure=>omega
    case rel=>
     refine⟨j+1,fx,by omega,by go_num,by go_num,hsum,B3.out, ?_⟩;rw[Ac.depths_take _ _ hjk,HY.out.1,HY.out.2,<-HJ.out.2];omega
   have hdd:decide ((c:Int)<fx)=false:=decide_eq_false (by omega);go_wp2;go_roundg (gk-1)
   case measure=>omega
   case rel=>
    refine⟨j+1,c,by omega,by go_num,by go_num,hcb,B3.out, ?_⟩;rw[Ac.depths_take _ _ hjk,HY.out.1,HY.out.2,<-HJ.out.2];omega
theorem Tryz.rround_ok (n:Nat)(a:Option Addr)(c:Nat)(es:List (Nat×Nat))(w:World)(hn:n<=64)(hes:∀e,e∈es->e.1<n/\e.2<n)(hE:Rk.Eds w w.heap.size a (Rk.up es))(hm:es.length<=1000000000000000)(hck:Rk.chk n (Rk.up es)=0):
  Calls Tryz.prog 108 #[.int .i64 n,.slice a es.length c] w λe w'=>∃v,e=.returned (.tuple #[v,.int .i64 0])/\
   w'.ownsRow w.heap.size 3 1 v ((List.range n).filter (λi=>Rk.lead es i i)).length (Rq.nums ((List.range n).filter (λi=>Rk.lead es i i)))/\Below w.heap.size w w':=by
 obtain⟨i0,hi,hz0,hz1,hz2⟩:=info_parts Tryz.infoIntQ;have H1:Hid _:=Tryz.rcheck_any n a c (Rk.up es) w hE (by rw[Rk.up_length];exact hm);rw[hck,Rk.up_length]at H1;have HX:Hid (n<=64/\(∀e,e∈es->e.1<n/\e.2<n)/\Rk.Eds w w.heap.size a (Rk.up es)/\es.length<=1000000000000000):=⟨hn,hes,hE,hm⟩;clear hE hm hes hck
 go_enter Tryz.func108,Tryz.ntmps108
 go_wp2_with fail
 refine Calls.mono H1.out ?_;rintro e W1 ⟨rfl,hb⟩;have HB0:Hid (Below w.heap.size w W1):=hb;clear hb H1;go_wp2
 go_loopg [7,8] n (λgk s5 s8 wr=>∃(k r:Nat) (L:List Nat),gk+k=n/\s8=.int .i64 k/\r<=k/\Hid (L=(List.range k).filter (λi=>Rk.lead es i i)/\L.length=r/\Below w.heap.size w wr)/\wr.ownsRow w.heap.size 3 1 s5 r (Rq.nums L))
 case atStart=>exact⟨0,0, [],by omega,rfl,Nat.le_refl _,⟨rfl,rfl,HB0.out⟩,World.ownsRow_nil _ _ _ _⟩
 case round=>
  obtain⟨k,r,L,hk,rfl,hr,HB,hown⟩:=hrel;obtain⟨av,cv,rfl⟩:=Rq.own_shape hown
  by_cases hlt:k<n
  rotate_left
  ·have hd:decide ((k:Int)<n)=false:=decide_eq_false (by omega)
   go_wp2;go_ret2;obtain rfl:k=n:=by omega
   rw[<-HB.out.1,HB.out.2.1];exact⟨_,rfl,hown,HB.out.2.2⟩
  have hd:decide ((k:Int)<n)=true:=decide_eq_true (by omega)
  have HF:Hid ((List.range (k+1)).filter (λi=>Rk.lead es i i)=L++if((λi=>Rk.lead es i i)) k=true then [k]else []):=by
   show _=_;rw[List.range_succ,List.filter_append,<-HB.out.1]
   cases hq:((λi=>Rk.lead es i i)) k<;>simp[hq]
  have HC:Hid _:=Tryz.rleads_any n k k a c es wr HX.out.1 hlt HX.out.2.1 ((HX.out.2.2.1.below HB.out.2.2).wider HB.out.2.2.size) HX.out.2.2.2;obtain⟨q,hq⟩:=pE (Rk.lead es k k);simp only[hq]at HC HF;clear hq
  cases q
  ·go_wp2_with (first|(go_at_call 141;refine Calls.mono HC.out ?_;rintro e W2 ⟨rfl,hb2⟩;have own1:=Rq.own_below hown hb2;have B2:Hid (Below w.heap.size w W2):=HB.out.2.2.trans (hb2.mono HB.out.2.2.size);have hs2:w.heap.size<=W2.heap.size:=B2.out.size;clear hb2 hown)|fail)
   go_roundg (gk-1)
   case measure=>omega
   case rel=>
    refine⟨k+1,r,L,by omega,by go_num,by omega,⟨?_,HB.out.2.1,B2.out⟩,own1⟩;rw[HF.out];simp
  go_wp2_with (first
   |(go_at_call 141;refine Calls.mono HC.out ?_;rintro e W2 ⟨rfl,hb2⟩;have own1:=Rq.own_below hown hb2;have B2:Hid (Below w.heap.size w W2):=HB.out.2.2.trans (hb2.mono HB.out.2.2.size);have hs2:w.heap.size<=W2.heap.size:=B2.out.size;clear hb2 hown)
   |(at_builtin;refine wpList_append_own _ rfl _ _ 111 rfl w.heap.size 3 i0 (.int .i64 0) 1 8 Tryz.underlying111 hi hz0 hz1 hz2 rfl (by decide) _ _ _ rfl (own1.alloc _) ⟨W2.heap.size,0,none⟩ 1 1 [.int .i64 k] rfl rfl (Rq.one_cell W2 k 3) (Rq.one_one k) ?c3 ?c4 ?c5 ?_))
  case c3=>unfold maxLen;omega
  case c4=>omega
  case c5=>first|omega|(simp;omega)
  intro v' W3 own3 g3 _;obtain⟨a3,c3',rfl⟩:=Rq.own_shape own3;have HZ:Hid (Below w.heap.size w W3):=Rq.below_grown (B2.out.alloc hs2 _) (by simp;omega) (own1.alloc _) g3;clear g3 own1;go_wp2;go_roundg (gk-1)
  case measure=>omega
  case rel=>
   refine⟨k+1,r+1,L++ [k],by omega,by go_num,by omega,⟨?_,by simp[HB.out.2.1],HZ.out⟩, ?_⟩
   ·rw[HF.out];rfl
   rw[Rq.nums_snoc];exact own3
theorem Tryz.rIns_any (i:Int)(an:Option Addr)(n cn:Nat)(af:Option Addr)(cf d:Nat)(fs:List Fl)(w:World)(hF:Nt.Fls w w.heap.size d af fs)(hl:fs.length<=100):
  Calls Tryz.prog 145 #[.agg #[.slice an n cn,.slice af fs.length cf],.int .i64 i] w λe w'=>Nt.Gives (Nt.insL fs i) w e w':=by
 obtain⟨i0,hi,hz0,hz1,hz2⟩:=info_parts Tryz.infoIntR;obtain⟨w1,hw1⟩:=pE (w.alloc (.cells #[.slice an n cn,.slice af fs.length cf] 30));have A1:=pB hw1
 obtain⟨m,hm⟩:=pE (fs.length);obtain⟨lf,hlf⟩:=pE (Nt.insL fs i);rw[hm]at hl hw1;rw[hm,hlf];have HF:Hid (Nt.Fls w w.heap.size d af fs/\fs.length=m/\Nt.insL fs i=lf):=⟨hF,hm,hlf⟩;have H1:Hid (w.alloc (.cells #[.slice an n cn,.slice af m cf] 30)=w1):=hw1;have HA:Hid (Below w.heap.size w w1):=A1;clear hF hm hw1 A1 hlf
 go_enter Tryz.func145,Tryz.ntmps145
 go_wp2;rw[H1.out]
 go_loopg [5,11] m (λgk s5 s11 wr=>∃(k r:Nat) (L:List Nat),gk+k=m/\s11=.int .i64 k/\r<=k/\Hid (L=(List.range k).filter (λk=>decide ((fs[k]?.map Fl.to)=some i))/\L.length=r/\Below w.heap.size w wr)/\wr.ownsRow w.heap.size 3 1 s5 r (Rk.nums L))
 case atStart=>exact⟨0,0, [],by omega,rfl,Nat.le_refl _,⟨rfl,rfl,HA.out⟩,World.ownsRow_nil _ _ _ _⟩
 case round=>
  obtain⟨k,r,L,hk,rfl,hr,HB,hown⟩:=hrel;clear H1 HA;obtain⟨av,cv,rfl⟩:=Rk.own_shape hown
  by_cases hlt:k<m
  rotate_left
  ·have hd:decide ((k:Int)<m)=false:=decide_eq_false (by omega)
   go_wp2;go_ret;obtain rfl:k=m:=by omega
   have h1:=HB.out.1;rw[<-HF.out.2.1]at h1;have h2:lf=L:=by rw[<-HF.out.2.2,h1];rfl
   rw[h2];exact⟨_,rfl,by rw[HB.out.2.1];exact hown,HB.out.2.2⟩
  have hd:decide ((k:Int)<m)=true:=decide_eq_true (by omega);have hkl:k<fs.length:=by rw[HF.out.2.1];exact hlt
  obtain⟨q,off,u,rfl,hq,h0,h1,h2,h3,h4,h5,h6⟩:=HF.out.1 k hkl;obtain⟨au,cu,rfl⟩:=h6.shape;obtain⟨f,hf⟩:=pE (fs[k]);rw[hf]at h0 h1 h2 h3 h4 h5;obtain⟨nu,hnu⟩:=pE (f.c.ks.length);obtain⟨fr,hfr⟩:=pE (f.fr);obtain⟨tt,hto⟩:=pE (f.to);obtain⟨els,hel⟩:=pE (f.els);obtain⟨op,hop⟩:=pE (f.c.op);obtain⟨num,hnum⟩:=pE (f.c.num);rw[hnu]at h5;rw[hfr]at h0;rw[hto]at h1;rw[hel]at h2;rw[hop]at h3;rw[hnum]at h4;have hc:∀o,wr.cell? ⟨q,o,none⟩=w.cell? ⟨q,o,none⟩:=λo=>HB.out.2.2.cell (p:=⟨q,o,none⟩) hq;have c0:=(hc _).trans h0;have c1:=(hc _).trans h1;have c2:=(hc _).trans h2;have c3:=(hc _).trans h3;have c4:=(hc _).trans h4;have c5:=(hc _).trans h5;have hu:=Tryz.underlying64;obtain⟨W0,hW0⟩:=pE (wr.alloc (.cells #[.int .i64 fr,.int .i64 tt,.bool els,.int .i64 op,.int .i64 num,.slice au nu cu] 64));have own1:W0.ownsRow w.heap.size 3 1 (.slice av r cv) r (Rk.nums L):=by rw[<-hW0];exact hown.alloc _
  have B0:Hid (Below w.heap.size w W0):=by show Below _ _ _;rw[<-hW0];exact HB.out.2.2.alloc HB.out.2.2.size _
  have hs0:w.heap.size<=W0.heap.size:=B0.out.size;have HW0:Hid (wr.alloc (.cells #[.int .i64 fr,.int .i64 tt,.bool els,.int .i64 op,.int .i64 num,.slice au nu cu] 64)=W0):=hW0
  have HF2:Hid ((List.range (k+1)).filter (λk=>decide ((fs[k]?.map Fl.to)=some i))=L++if tt=i then [k]else []):=by
   show _=_;rw[List.range_succ,List.filter_append,<-HB.out.1]
   congr 1
   simp only[List.filter_cons,List.filter_nil,List.getElem?_eq_getElem hkl,hf,Option.map_some,hto,Option.some.injEq,decide_eq_true_eq]
  clear h0 h1 h2 h3 h4 h5 h6 hc hf hnu hfr hto hel hop hnum hq hown hW0
  by_cases hti:tt=i
  ·have e1:(tt==i)=true:=by simpa using hti
   rw[if_pos hti]at HF2;clear hti
   go_upto_region 6 with fail
   rw[HW0.out]
   go_wp2_with (at_builtin;refine wpList_append_own _ rfl _ _ 111 rfl w.heap.size 3 i0 (.int .i64 0) 1 8 Tryz.underlying111 hi hz0 hz1 hz2 rfl (by decide) _ _ _ rfl (own1.alloc _) ⟨W0.heap.size,0,none⟩ 1 1 [.int .i64 k] rfl rfl (Rk.one_cell W0 k 3) (Rk.one_one k) ?c3 ?c4 ?c5 ?_)
   case c3=>unfold maxLen;omega
   case c4=>omega
   case c5=>simp;omega
   intro v' W2 own2 g2 _;obtain⟨a2,c2',rfl⟩:=Rk.own_shape own2;have B2:Hid (W2.ownsRow w.heap.size 3 1 (.slice a2 (r+1) c2') (r+1) (Rk.nums (L++ [k]))/\Below w.heap.size w W2):=⟨by rw[Rk.nums_snoc];exact own2,Rk.below_grown (B0.out.alloc hs0 _) (by simp;omega) (own1.alloc _) g2⟩;clear own1 own2 g2 HW0;go_wp2;go_roundg (gk-1)
   case measure=>omega
   case rel=>exact⟨k+1,r+1,L++ [k],by omega,by go_num,by omega,⟨HF2.out.symm,by simp[HB.out.2.1],B2.out.2⟩,B2.out.1⟩
  have e1:(tt==i)=false:=by simpa using hti
  rw[if_neg hti,List.append_nil]at HF2;clear hti;go_wp2;rw[HW0.out];go_roundg (gk-1)
  case measure=>omega
  case rel=>exact⟨k+1,r,L,by omega,by go_num,by omega,⟨HF2.out.symm,HB.out.2.1,B0.out⟩,own1⟩
theorem Tryz.rOuts_any (i:Int)(an:Option Addr)(n cn:Nat)(af:Option Addr)(cf d:Nat)(fs:List Fl)(w:World)(hF:Nt.Fls w w.heap.size d af fs)(hl:fs.length<=100):
  Calls Tryz.prog 144 #[.agg #[.slice an n cn,.slice af fs.length cf],.int .i64 i] w λe w'=>Nt.Gives (Nt.outsL fs i) w e w':=by
 obtain⟨i0,hi,hz0,hz1,hz2⟩:=info_parts Tryz.infoIntR;obtain⟨w1,hw1⟩:=pE (w.alloc (.cells #[.slice an n cn,.slice af fs.length cf] 30));have A1:=pB hw1
 obtain⟨m,hm⟩:=pE (fs.length);obtain⟨lf,hlf⟩:=pE (Nt.outsL fs i);rw[hm]at hl hw1;rw[hm,hlf];have HF:Hid (Nt.Fls w w.heap.size d af fs/\fs.length=m/\Nt.outsL fs i=lf):=⟨hF,hm,hlf⟩;have H1:Hid (w.alloc (.cells #[.slice an n cn,.slice af m cf] 30)=w1):=hw1;have HA:Hid (Below w.heap.size w w1):=A1;clear hF hm hw1 A1 hlf
 go_enter Tryz.func144,Tryz.ntmps144
 go_wp2;rw[H1.out]
 go_loopg [5,11] m (λgk s5 s11 wr=>∃(k r:Nat) (L:List Nat),gk+k=m/\s11=.int .i64 k/\r<=k/\Hid (L=(List.range k).filter (λk=>decide ((fs[k]?.map Fl.fr)=some i))/\L.length=r/\Below w.heap.size w wr)/\wr.ownsRow w.heap.size 3 1 s5 r (Rk.nums L))
 case atStart=>exact⟨0,0, [],by omega,rfl,Nat.le_refl _,⟨rfl,rfl,HA.out⟩,World.ownsRow_nil _ _ _ _⟩
 case round=>
  obtain⟨k,r,L,hk,rfl,hr,HB,hown⟩:=hrel;clear H1 HA;obtain⟨av,cv,rfl⟩:=Rk.own_shape hown
  by_cases hlt:k<m
  rotate_left
  ·have hd:decide ((k:Int)<m)=false:=decide_eq_false (by omega)
   go_wp2;go_ret;obtain rfl:k=m:=by omega
   have h1:=HB.out.1;rw[<-HF.out.2.1]at h1;have h2:lf=L:=by rw[<-HF.out.2.2,h1];rfl
   rw[h2];exact⟨_,rfl,by rw[HB.out.2.1];exact hown,HB.out.2.2⟩
  have hd:decide ((k:Int)<m)=true:=decide_eq_true (by omega);have hkl:k<fs.length:=by rw[HF.out.2.1];exact hlt
  obtain⟨q,off,u,rfl,hq,h0,h1,h2,h3,h4,h5,h6⟩:=HF.out.1 k hkl;obtain⟨au,cu,rfl⟩:=h6.shape;obtain⟨f,hf⟩:=pE (fs[k]);rw[hf]at h0 h1 h2 h3 h4 h5;obtain⟨nu,hnu⟩:=pE (f.c.ks.length);obtain⟨fr,hfr⟩:=pE (f.fr);obtain⟨tt,hto⟩:=pE (f.to);obtain⟨els,hel⟩:=pE (f.els);obtain⟨op,hop⟩:=pE (f.c.op);obtain⟨num,hnum⟩:=pE (f.c.num);rw[hnu]at h5;rw[hfr]at h0;rw[hto]at h1;rw[hel]at h2;rw[hop]at h3;rw[hnum]at h4;have hc:∀o,wr.cell? ⟨q,o,none⟩=w.cell? ⟨q,o,none⟩:=λo=>HB.out.2.2.cell (p:=⟨q,o,none⟩) hq;have c0:=(hc _).trans h0;have c1:=(hc _).trans h1;have c2:=(hc _).trans h2;have c3:=(hc _).trans h3;have c4:=(hc _).trans h4;have c5:=(hc _).trans h5;have hu:=Tryz.underlying64;obtain⟨W0,hW0⟩:=pE (wr.alloc (.cells #[.int .i64 fr,.int .i64 tt,.bool els,.int .i64 op,.int .i64 num,.slice au nu cu] 64));have own1:W0.ownsRow w.heap.size 3 1 (.slice av r cv) r (Rk.nums L):=by rw[<-hW0];exact hown.alloc _
  have B0:Hid (Below w.heap.size w W0):=by show Below _ _ _;rw[<-hW0];exact HB.out.2.2.alloc HB.out.2.2.size _
  have hs0:w.heap.size<=W0.heap.size:=B0.out.size;have HW0:Hid (wr.alloc (.cells #[.int .i64 fr,.int .i64 tt,.bool els,.int .i64 op,.int .i64 num,.slice au nu cu] 64)=W0):=hW0
  have HF2:Hid ((List.range (k+1)).filter (λk=>decide ((fs[k]?.map Fl.fr)=some i))=L++if fr=i then [k]else []):=by
   show _=_;rw[List.range_succ,List.filter_append,<-HB.out.1]
   congr 1
   simp only[List.filter_cons,List.filter_nil,List.getElem?_eq_getElem hkl,hf,Option.map_some,hfr,Option.some.injEq,decide_eq_true_eq]
  clear h0 h1 h2 h3 h4 h5 h6 hc hf hnu hfr hto hel hop hnum hq hown hW0
  by_cases hti:fr=i
  ·have e1:(fr==i)=true:=by simpa using hti
   rw[if_pos hti]at HF2;clear hti
   go_upto_region 6 with fail
   rw[HW0.out]
   go_wp2_with (at_builtin;refine wpList_append_own _ rfl _ _ 111 rfl w.heap.size 3 i0 (.int .i64 0) 1 8 Tryz.underlying111 hi hz0 hz1 hz2 rfl (by decide) _ _ _ rfl (own1.alloc _) ⟨W0.heap.size,0,none⟩ 1 1 [.int .i64 k] rfl rfl (Rk.one_cell W0 k 3) (Rk.one_one k) ?c3 ?c4 ?c5 ?_)
   case c3=>unfold maxLen;omega
   case c4=>omega
   case c5=>simp;omega
   intro v' W2 own2 g2 _;obtain⟨a2,c2',rfl⟩:=Rk.own_shape own2;have B2:Hid (W2.ownsRow w.heap.size 3 1 (.slice a2 (r+1) c2') (r+1) (Rk.nums (L++ [k]))/\Below w.heap.size w W2):=⟨by rw[Rk.nums_snoc];exact own2,Rk.below_grown (B0.out.alloc hs0 _) (by simp;omega) (own1.alloc _) g2⟩;clear own1 own2 g2 HW0;go_wp2;go_roundg (gk-1)
   case measure=>omega
   case rel=>exact⟨k+1,r+1,L++ [k],by omega,by go_num,by omega,⟨HF2.out.symm,by simp[HB.out.2.1],B2.out.2⟩,B2.out.1⟩
  have e1:(fr==i)=false:=by simpa using hti
  rw[if_neg hti,List.append_nil]at HF2;clear hti;go_wp2;rw[HW0.out];go_roundg (gk-1)
  case measure=>omega
  case rel=>exact⟨k+1,r,L,by omega,by go_num,by omega,⟨HF2.out.symm,HB.out.2.1,B0.out⟩,own1⟩
def Rk.Bits (w:World)(g:Nat)(bs:List Bool):Prop:=w.heap[g]? =some (.cells (bs.map Value.bool).toArray 4 (0,0))
theorem Rk.Bits.lt {w:World}{g:Nat}{bs:List Bool}(h:Rk.Bits w g bs):g<w.heap.size:=(Array.getElem?_eq_some_iff.1 h).1
theorem Rk.Bits.cell {w:World}{g:Nat}{bs:List Bool}(h:Rk.Bits w g bs)(j:Nat)(b:Bool)(hj:bs[j]? =some b):w.cell? ⟨g,j,none⟩=some (.bool b):=by
 unfold Rk.Bits at h;simp[World.cell?,h,hj]
theorem Rk.Bits.frozen {w:World}{g:Nat}{bs:List Bool}(h:Rk.Bits w g bs)(j:Nat):w.frozen? ⟨g,j,none⟩=false:=by
 unfold Rk.Bits at h;simp[World.frozen?,h]
theorem Rk.Bits.put {w:World}{g:Nat}{bs:List Bool}(h:Rk.Bits w g bs)(j:Nat)(b:Bool):Rk.Bits (w.setCell ⟨g,j,none⟩ (.bool b)) g (bs.set j b):=by
 unfold Rk.Bits at*;simp[World.setCell,Array.getElem?_modify,h]
theorem Rk.Bits.keep {w w':World}{g:Nat}{bs:List Bool}(h:Rk.Bits w g bs)(hk:w'.heap[g]? =w.heap[g]?):Rk.Bits w' g bs:=by unfold Rk.Bits;rw[hk];exact h
theorem Tryz.infoBool:(Tryz.prog.info? 4).map (λi=>(i.zero,i.size,i.bytes))=some (some (.bool false),1,1):=by kernel_rfl
theorem Nt.box2' {W:World}{b:Nat}{v u:Value}{t:TypeId}(h:W.heap[b]? =some (.cells #[v,u] t (0,0))):W.cell? ⟨b,0,none⟩=some v/\W.cell? ⟨b,1,none⟩=some u:=⟨by simp[World.cell?,h],by simp[World.cell?,h]⟩
def Rk.row (n:Nat):Array Value:=((List.replicate n false).map Value.bool).toArray
theorem Rk.make_bools (n:Nat)(hn:n<=64)(w:World):(Instr.makeSlice 156 (.int .i64 (n:Int)) (.int .i64 (n:Int))).run Tryz.prog w=.ok (.slice (some ⟨w.heap.size,0,none⟩) n n) (w.alloc (.cells (Rk.row n) 4)):=by
 have h:=run_make_row' (P:=Tryz.prog) 156 4 (.bool false) 1 Tryz.underlying156 Tryz.infoBool rfl .i64 .i64 n (by omega) (by omega) w;rw[h,show madeCells #[Value.bool false] n=Rk.row n from ?_];apply Array.toList_inj.1;rw[toList_madeCells_one];simp[Rk.row]
theorem Rk.row_bits (w:World)(n:Nat):Rk.Bits (w.alloc (.cells (Rk.row n) 4)) w.heap.size (List.replicate n false):=heap_alloc_new w (.cells (Rk.row n) 4)
theorem Rk.drop_at {α:Type}(l:List α)(k:Nat)(h:k<l.length):l.drop k=l[k]::l.drop (k+1):=List.drop_eq_getElem_cons h
theorem Tryz.rReach_any (a0:Nat)(an:Option Addr)(cn:Nat)(af:Option Addr)(cf d:Nat)(ns:List Nd)(fs:List Fl)(w:World)(hH:Nt.Has w w.heap.size d an af ns fs)(hn24:ns.length<=24)(hes:∀f,f∈fs->0<=f.fr/\f.fr<ns.length/\0<=f.to/\f.to<ns.length)(ha:a0<ns.length):
  Calls Tryz.prog 113 #[.agg #[.slice an ns.length cn,.slice af fs.length cf],.int .i64 a0] w λe w'=>∃g,e=.returned (.slice (some ⟨g,0,none⟩) ns.length ns.length)/\w.heap.size<=g/\Rk.Bits w' g ((List.range ns.length).map (Rk.met (Nt.edges fs) a0))/\Below w.heap.size w w':=by
 obtain⟨w0,hw0⟩:=pE (w.alloc (.cells #[.slice an ns.length cn,.slice af fs.length cf] 30));have A0:=pB hw0
 have G0:w0.heap[w.heap.size]? =some (.cells #[.slice an ns.length cn,.slice af fs.length cf] 30 (0,0)):=by rw[<-hw0];exact heap_alloc_new w _
 have hs0:w0.heap.size=w.heap.size+1:=by rw[<-hw0];simp
 have hmet:=Nt.sweeps_met (Nt.edges_lt hes) ha;have hmk:=Rk.make_bools ns.length (by omega);obtain⟨es,hE⟩:=pE (Nt.edges fs);rw[hE]at hmet
 have HES:Hid (∀k (h:k<fs.length),∃x y:Nat,x<ns.length/\y<ns.length/\fs[k].fr=x/\fs[k].to=y/\es[k]? =some (x,y)):=λk hk=>by
  have:=hes _ (List.getElem_mem hk);refine⟨fs[k].fr.toNat,fs[k].to.toNat,by omega,by omega,by omega,by omega, ?_⟩;rw[<-hE,List.getElem?_eq_getElem (by rw[Nt.edges_length];exact hk),Nt.edges_get fs k hk]
 have hel:es.length=fs.length:=by rw[<-hE,Nt.edges_length]
 obtain⟨n,hnn⟩:=pE (ns.length);obtain⟨m,hmm⟩:=pE (fs.length);have HFL:Hid (Nt.Fls w w.heap.size d af fs):=hH.fls;have hm100:m<=100:=by have:=hH.flen;omega
 rw[hnn]at hn24 ha hmet hmk HES;rw[hnn,hmm]at hw0 G0;rw[hE,hnn,hmm];have ha':(a0:Int)<n:=by omega
 have ha0:(0:Int)<=a0:=by omega
 have H0:Hid (w.alloc (.cells #[.slice an n cn,.slice af m cf] 30)=w0):=hw0;obtain⟨w1,hw1⟩:=pE (w0.alloc (.cells (Rk.row n) 4));have X1:Rk.Bits w1 w0.heap.size (List.replicate n false):=by rw[<-hw1];exact Rk.row_bits w0 n
 have A1:Below w.heap.size w w1:=by rw[<-hw1];exact A0.alloc A0.size _
 have G1:w1.heap[w.heap.size]? =some (.cells #[.slice an n cn,.slice af m cf] 30 (0,0)):=by rw[<-hw1,Below.heap_alloc _ _ _ ((Array.getElem?_eq_some_iff.1 G0).1)];exact G0
 have k0:=X1.cell a0 false (by simp[ha]);have k1:=X1.frozen a0;have Y1:Rk.Bits (w1.setCell ⟨w0.heap.size,a0,none⟩ (.bool true)) w0.heap.size ((List.replicate n false).set a0 true):=X1.put a0 true;obtain⟨w2,hw2⟩:=pE (w1.setCell ⟨w0.heap.size,a0,none⟩ (.bool true));rw[hw2]at Y1
 -- what a world on the way holds
 have HK2:Hid (w2.heap[w.heap.size]? =some (.cells #[.slice an n cn,.slice af m cf] 30 (0,0))/\Below w.heap.size w w2/\Rk.Bits w2 w0.heap.size ((List.replicate n false).set a0 true)):=by
  refine⟨?_, ?_,Y1⟩
  ·rw[<-hw2,Below.heap_setCell _ _ _ _ (by show w.heap.size≠w0.heap.size;omega)];exact G1
  rw[<-hw2];exact A1.setCell (p:=⟨w0.heap.size,a0,none⟩) (by show w.heap.size<=w0.heap.size;omega) _
 have HW1:Hid (w0.alloc (.cells (Rk.row n) 4)=w1):=hw1;have HW2:Hid (w1.setCell ⟨w0.heap.size,a0,none⟩ (.bool true)=w2):=hw2;have HM:Hid (Rk.sweeps es n ((List.replicate n false).set a0 true)=(List.range n).map (Rk.met es a0)/\es.length=m/\w0.heap.size=w.heap.size+1/\fs.length=m):=⟨hmet,by omega,hs0,hmm⟩;obtain⟨p0,p1⟩:=Nt.box2' G0;obtain⟨p2,p3⟩:=Nt.box2' G1;obtain⟨b2,hb2⟩:=pE (w0.heap.size);have HB2:Hid (w0.heap.size=b2):=hb2;have hlt0:w.heap.size<w0.heap.size:=by omega
 clear hH hes hmet hE hel hnn hmm A0 G0 A1 G1 X1 Y1 hw0 hw1 hw2 hs0 hb2
 go_enter Tryz.func113,Tryz.ntmps113
 go_upto_region 1 with fail
 rw[H0.out]
 go_upto_region 2 with fail
 rw[HW1.out]
 go_upto_region 3 with fail
 rw[HW2.out];obtain⟨q0,q1⟩:=Nt.box2' HK2.out.1;clear p0 p1 p2 p3 k0 k1 hmk H0 HW1 HW2;rw[HB2.out];rw[HB2.out]at HK2 HM;go_wp2
 go_loopg [18] n (λgk s18 wr=>∃(j:Nat) (cur:List Bool),gk+j=n/\s18=.int .i64 j/\Hid (Rk.sweeps es (n-j) cur=(List.range n).map (Rk.met es a0)/\cur.length=n/\Rk.Bits wr b2 cur/\Below w.heap.size w wr/\wr.heap[w.heap.size]? =some (.cells #[.slice an n cn,.slice af m cf] 30 (0,0))))
 case atStart=>exact⟨0,_,by omega,rfl,HM.out.1,by simp,HK2.out.2.2,HK2.out.2.1,HK2.out.1⟩
 case round=>
  obtain⟨j,cur,hj,rfl,HI⟩:=hrel;clear q0 q1
  by_cases hlt:j<n
  rotate_left
  ·have hd:decide ((j:Int)<n)=false:=decide_eq_false (by omega)
   have HF:Hid (cur=(List.range n).map (Rk.met es a0)):=by
    show _=_;rw[<-HI.out.1,show n-j=0 by omega];rfl
   go_wp2;go_ret;exact⟨b2,rfl,by have:=HM.out.2.2.1;omega,by rw[<-HF.out];exact HI.out.2.2.1,HI.out.2.2.2.1⟩
  have hd:decide ((j:Int)<n)=true:=decide_eq_true (by omega);obtain⟨q0,q1⟩:=Nt.box2' HI.out.2.2.2.2
  have HSW:Hid (Rk.sweeps es (n-(j+1)) (Rk.sweep es cur)=(List.range n).map (Rk.met es a0)):=by
   show _=_;rw[<-HI.out.1,show n-j=(n-(j+1))+1 by omega,Rk.sweeps]
  obtain⟨g1,hg1⟩:=pE (gk);go_wp2
  go_loopg [23] m (λgk s23 wr=>∃(k:Nat) (cu2:List Bool),gk+k=m/\s23=.int .i64 k/\Hid (Rk.sweep (es.drop k) cu2=Rk.sweep es cur/\cu2.length=n/\Rk.Bits wr b2 cu2/\Below w.heap.size w wr/\wr.heap[w.heap.size]? =some (.cells #[.slice an n cn,.slice af m cf] 30 (0,0))))
  case atStart=>exact⟨0,cur,by omega,rfl,rfl,HI.out.2.1,HI.out.2.2.1,HI.out.2.2.2.1,HI.out.2.2.2.2⟩
  case round=>
   obtain⟨k,cu2,hk,rfl,HJ⟩:=hrel;clear q0 q1
   by_cases hlt2:k<m
   rotate_left
   ·have hd2:decide ((k:Int)<m)=false:=decide_eq_false (by omega)
    have HF:Hid (cu2=Rk.sweep es cur):=by
     show _=_;rw[<-HJ.out.1,List.drop_of_length_le (by rw[HM.out.2.1];omega)];rfl
    go_wp2;go_roundg (g1-1)
    case measure=>omega
    case rel=>exact⟨j+1,cu2,by omega,by go_num,by rw[HF.out];exact HSW.out,HJ.out.2.1,HJ.out.2.2.1,HJ.out.2.2.2.1,HJ.out.2.2.2.2⟩
   have hd2:decide ((k:Int)<m)=true:=decide_eq_true (by omega);have hkl:k<fs.length:=by rw[HM.out.2.2.2];exact hlt2
   obtain⟨q,off,u,rfl,hq,h0,h1,h2,h3,h4,h5,h6⟩:=HFL.out k hkl;obtain⟨x,y,hx,hy,hfx,hfy,hek⟩:=HES.out k hkl;obtain⟨au,cu,rfl⟩:=h6.shape;rw[hfx]at h0;rw[hfy]at h1;obtain⟨nu,hnu⟩:=pE (fs[k].c.ks.length);obtain⟨els,hel⟩:=pE (fs[k].els);obtain⟨op,hop⟩:=pE (fs[k].c.op);obtain⟨num,hnum⟩:=pE (fs[k].c.num);rw[hnu]at h5;rw[hel]at h2;rw[hop]at h3;rw[hnum]at h4;have hc:∀o,wr.cell? ⟨q,o,none⟩=w.cell? ⟨q,o,none⟩:=λo=>HJ.out.2.2.2.1.cell (p:=⟨q,o,none⟩) hq;have c0:=(hc _).trans h0;have c1:=(hc _).trans h1;have c2:=(hc _).trans h2;have c3:=(hc _).trans h3;have c4:=(hc _).trans h4;have c5:=(hc _).trans h5;have hx':(x:Int)<n:=by omega
   have hy':(y:Int)<n:=by omega
   have hx0:(0:Int)<=x:=by omega
   have hy0:(0:Int)<=y:=by omega
   have hz:b2<wr.heap.size:=HJ.out.2.2.1.lt;have hu:=Tryz.underlying64;obtain⟨b1,hb1⟩:∃b,cu2[x]? =some b:=⟨_,List.getElem?_eq_getElem (by rw[HJ.out.2.1];exact hx)⟩;obtain⟨b3,hb3⟩:∃b,cu2[y]? =some b:=⟨_,List.getElem?_eq_getElem (by rw[HJ.out.2.1];exact hy)⟩;have k1:=HJ.out.2.2.1.cell x b1 hb1;have k2:=HJ.out.2.2.1.cell y b3 hb3;have f2:=HJ.out.2.2.1.frozen y;have hbx:w.heap.size<wr.heap.size:=(Array.getElem?_eq_some_iff.1 HJ.out.2.2.2.2).1
   have HNX:Hid (Rk.sweep (es.drop (k+1)) (if b1=true then cu2.set y true else cu2)=Rk.sweep es cur):=by
    show _=_;rw[<-HJ.out.1,Rk.drop_at es k (by rw[HM.out.2.1];exact hlt2),Rk.sweep];obtain⟨hh,he⟩:=List.getElem?_eq_some_iff.1 hek;rw[he]
    congr 1
    simp only[hb1,Option.some.injEq]
   have HA:Hid (Rk.Bits (wr.alloc (.cells #[.int .i64 (x:Int),.int .i64 (y:Int),.bool els,.int .i64 op,.int .i64 num,.slice au nu cu] 64)) b2 cu2/\Below w.heap.size w (wr.alloc (.cells #[.int .i64 (x:Int),.int .i64 (y:Int),.bool els,.int .i64 op,.int .i64 num,.slice au nu cu] 64))/\(wr.alloc (.cells #[.int .i64 (x:Int),.int .i64 (y:Int),.bool els,.int .i64 op,.int .i64 num,.slice au nu cu] 64)).heap[w.heap.size]? =some (.cells #[.slice an n cn,.slice (some ⟨q,off,none⟩) m cf] 30 (0,0))):=
    ⟨HJ.out.2.2.1.keep (Below.heap_alloc _ _ _ hz),HJ.out.2.2.2.1.alloc HJ.out.2.2.2.1.size _,by rw[Below.heap_alloc _ _ _ hbx];exact HJ.out.2.2.2.2⟩
   have hne:w.heap.size≠b2:=by have:=HM.out.2.2.1;omega
   have HS:Hid (Rk.Bits ((wr.setCell ⟨b2,y,none⟩ (.bool true)).alloc (.cells #[.int .i64 (x:Int),.int .i64 (y:Int),.bool els,.int .i64 op,.int .i64 num,.slice au nu cu] 64)) b2 (cu2.set y true)/\Below w.heap.size w ((wr.setCell ⟨b2,y,none⟩ (.bool true)).alloc (.cells #[.int .i64 (x:Int),.int .i64 (y:Int),.bool els,.int .i64 op,.int .i64 num,.slice au nu cu] 64))/\((wr.setCell ⟨b2,y,none⟩ (.bool true)).alloc (.cells #[.int .i64 (x:Int),.int .i64 (y:Int),.bool els,.int .i64 op,.int .i64 num,.slice au nu cu] 64)).heap[w.heap.size]? =some (.cells #[.slice an n cn,.slice (some ⟨q,off,none⟩) m cf] 30 (0,0))):=
    ⟨(HJ.out.2.2.1.put y true).keep (Below.heap_alloc _ _ _ (by simpa using hz)),(HJ.out.2.2.2.1.setCell (p:=⟨b2,y,none⟩) (by show w.heap.size<=b2;have:=HM.out.2.2.1;omega) _).alloc (by simpa using HJ.out.2.2.2.1.size) _,by rw[Below.heap_alloc _ _ _ (by simpa using hbx),Below.heap_setCell _ _ _ _ hne];exact HJ.out.2.2.2.2⟩
   clear h0 h1 h2 h3 h4 h5 h6 hc hnu hel hop hnum hq hfx hfy hek hb1 hb3
   cases b1
   ·go_wp2
    go_roundg (gk-1)
    case measure=>omega
    case rel=>exact⟨k+1,_,by omega,by go_num,HNX.out,HJ.out.2.1,HA.out.1,HA.out.2.1,HA.out.2.2⟩
   go_wp2;go_roundg (gk-1)
   case measure=>omega
   case rel=>exact⟨k+1,_,by omega,by go_num,HNX.out,by simpa using HJ.out.2.1,HS.out.1,HS.out.2.1,HS.out.2.2⟩
end Go.Proofs
