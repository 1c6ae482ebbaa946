import Derived.Test.YtenaelpdnccgnaaGreatDoorRBwOwn
import Derived.Test.YtenaelpdnccgnaaGreatDoorRAcFormAny
import Derived.Carry
import Derived.SizedLaws
set_option maxRecDepth 100000
set_option maxHeartbeats 32000000
namespace Go.Proofs
open Go.RowKit Go.Shelf
theorem Tryz.bwKids (b o:Nat)(w:World):
  Calls Tryz.prog 57 #[.pointer (some ⟨b,o,none⟩)] w λe w'=>e=.returned (.pointer (some ⟨b,o+2,none⟩))/\w'=w:=by
 go_enter Tryz.func57,Tryz.ntmps57
 go_wp2;go_ret;exact⟨rfl,rfl⟩
theorem Tryz.bwPart_nil (g0 n c:Nat)(w:World)(hn:n<=c)(hc:∀j,j<n->∃b o cur T,w.cell? ⟨g0,j,none⟩=some (.pointer (some ⟨b,o,none⟩))/\w.heap[b]? =some (.cells cur T (0,0))/\cur[o+2]? =some (.slice none 0 0))(h9:n<=1000):
  Calls Tryz.prog 56 #[.slice (some ⟨g0,0,none⟩) n c,.func (.func 57) #[] #[],.int .i64 53687091] w λe w'=>e=.returned (.tuple #[])/\w'=w:=by
 have HC:Hid _:=hc;have HN:Hid (n<=c/\n<=1000):=⟨hn,h9⟩;clear hc
 go_enter Tryz.func56,Tryz.ntmps56
 go_wp2
 go_loopg [0,2,6,7,8,9] n (λgk s0 s2 _ _ _ _ wr=>∃m:Nat,s0=.slice (some ⟨g0,0,none⟩) m c/\s2=.int .i64 53687091/\m<=gk/\m<=n/\w=wr)
 case atStart=>exact⟨n,rfl,rfl,Nat.le_refl _,Nat.le_refl _,rfl⟩
 case round=>
  obtain⟨m,rfl,rfl,hm,hmn,hw⟩:=hrel;obtain rfl:=hw
  by_cases hm0:0<m
  rotate_left
  ·obtain rfl:m=0:=by omega
   go_wp2
   go_end0
   exact⟨rfl,rfl⟩
  obtain⟨k,rfl⟩:∃k,m=k+1:=⟨m-1,by omega⟩;obtain⟨b,o,cur,T,hp,hb,hx⟩:=HC.out k (by omega);have hp':w.cell? ⟨g0,k,none⟩=some (.pointer (some ⟨b,o,none⟩)):=hp;have hvx:w.cell? ⟨b,o+2,none⟩=some (.slice none 0 0):=by simp only[World.cell?,hb];exact hx
  have hfx:w.frozen? ⟨b,o+2,none⟩=false:=by simp[World.frozen?,hb]
  have hsame:w.setCell ⟨b,o+2,none⟩ (.slice none 0 0)=w:=Bw.same hb hx;have ek:((k+1:Nat):Int)-1=k:=by omega
  have ek0:(0:Int)<=k:=by omega
  have ek1:(k:Int)<((k+1:Nat):Int):=by omega
  have ekc:(k:Int)<=c:=by omega
  have hneg:decide ((53687091:Int)<0)=false:=by decide
  clear hp hb hx
  go_wp2_with fail
  refine Calls.mono (Tryz.bwKids b o w) ?_;rintro e W1 ⟨rfl,hW1⟩;obtain rfl:=hW1.symm
  go_wp2_with fail
  refine Calls.mono (Tryz.cloneTerm_nil _ 0) ?_;rintro e W2 ⟨rfl,hW2⟩;obtain rfl:=hW2.symm;go_wp2;refine wp_loop_rounds 1 ?_;rw[rounds_succ];go_wp2
  go_roundg k
  case measure=>omega
  case rel=>exact⟨k,rfl,rfl,by omega,by omega,rfl⟩
theorem Bw.At.kid {g o:Nat}{r:Array Value}{W:World}(h:Bw.At g o r W)(hr:r[6]? =some (.slice none 0 0)):∃cur T,W.heap[g]? =some (.cells cur T (0,0))/\cur[o+4+2]? =some (.slice none 0 0):=by
 obtain⟨cur,T,h1,h2⟩:=h;exact⟨cur,T,h1,(h2 6 (by decide)).trans hr⟩
theorem Bw.own_cells {B g0 n c:Nat}{ps:List Value}{W:World}(h:W.ownsRow B 96 1 (.slice (some ⟨g0,0,none⟩) n c) n ps)(j:Nat)(v:Value)(hv:ps[j]? =some v):W.cell? ⟨g0,j,none⟩=some v:=by
 have h1:=World.ownsRow.cells h (g:=g0) rfl j v hv;have hadd:((⟨g0,0,none⟩:Addr).add j)=⟨g0,j,none⟩:=by cases j<;>simp[Addr.add]
 rwa [hadd]at h1
theorem Bw.own_cap {B g0 n c:Nat}{ps:List Value}{W:World}(h:W.ownsRow B 96 1 (.slice (some ⟨g0,0,none⟩) n c) n ps):n<=c:=by
 rcases h.2 with⟨e,_⟩|⟨g,cap,cur,hv,_,_,h4,_⟩
 ·simp at e
 simp only[Value.slice.injEq]at hv;omega
theorem Tryz.bwPart (g c kb cap:Nat)(k1 n1 k2 n2:Int)(w:World)(hA:Bw.At g 2 (Bw.root kb cap) w)(hA1:Bw.At g 16 (Bw.leaf k1 n1) w)(hA2:Bw.At g 30 (Bw.leaf k2 n2) w)(hT:Bw.Two kb k1 n1 k2 n2 w)(hK:kb<w.heap.size):
  Calls Tryz.prog 32 #[.slice (some ⟨g,0,none⟩) 3 c] w λe w'=>e=.returned (.tuple #[])/\Tk.But (λi=>i=g) w w':=by
 have HA:Hid (Bw.At g 16 (Bw.leaf k1 n1) w/\Bw.At g 30 (Bw.leaf k2 n2) w/\g<w.heap.size/\Bw.At g 2 (Bw.root kb cap) w):=⟨hA1,hA2,hA.lt,hA⟩;have C1:Hid _:=Tryz.bwOwn_root g 2 kb cap k1 n1 k2 n2 w hA hT hK;clear hA hA1 hA2 hT hK
 go_enter Tryz.func32,Tryz.ntmps32
 go_wp2;refine wp_loop_rounds 4 ?_;rw[rounds_succ]
 go_wp2_with fail
 refine Calls.mono C1.out ?_;rintro e W1 ⟨K',c',g1,d1,rfl,hKb,o1,hg1,a1,a2,b1,hne⟩;have hgl:=HA.out.2.2.1;have hge:w.heap.size<=g1:=(World.ownsRow.lt o1 g1 rfl).1
 have H1:Hid (Bw.At g 2 (Bw.root K' c') W1/\Bw.At g 16 (Bw.leaf k1 n1) W1/\Bw.At g 30 (Bw.leaf k2 n2) W1/\Bw.At K' 0 (Bw.leaf k1 n1) W1/\Bw.At K' 12 (Bw.leaf k2 n2) W1/\Tk.But (λi=>i=g) w W1/\g1≠K'/\w.heap.size<=g1/\W1.ownsRow w.heap.size 96 1 (.slice (some ⟨g1,0,none⟩) 3 d1) 3 [.pointer (some ⟨g,2+4,none⟩),.pointer (some ⟨K',4,none⟩),.pointer (some ⟨K',16,none⟩)]):=
  ⟨(HA.out.2.2.2.put 8 (by decide) rfl _).keep hg1,(HA.out.1.put_other 10 (.inl (by decide)) _).keep hg1,(HA.out.2.1.put_other 10 (.inl (by decide)) _).keep hg1,a1,a2,b1,hne,hge,o1⟩
 have C2:Hid _:=Tryz.bwOwn_leaf g 16 k1 n1 w.heap.size 3 d1 _ _ W1 H1.out.2.1 o1 (by decide) b1.size (λb hb=>by obtain rfl:=Option.some.inj hb;show g1≠g;omega);clear o1 hg1 a1 a2 b1 hne C1;go_wp2;rw[rounds_succ]
 go_wp2_with fail
 refine Calls.mono C2.out ?_;rintro e W2 ⟨g2,d2,rfl,o2,t2,q2⟩;have hs1:=H1.out.2.2.2.2.2.1.size;have hl1:=H1.out.2.2.2.1.lt;have keep1:∀k,k<W1.heap.size->k≠g1->W2.heap[k]? =W1.heap[k]? :=λk hk hn=>t2.block k hk (λe=>hn (Option.some.inj e))
 have hg2:g2≠K'/\g2≠g/\w.heap.size<=g2:=by
  rcases q2 with e|e
  ·obtain rfl:=Option.some.inj e
   exact⟨H1.out.2.2.2.2.2.2.1,by show g1≠g;omega,hge⟩
  exact⟨by omega,by omega,by omega⟩
 have H2:Hid (Bw.At g 2 (Bw.root K' c') W2/\Bw.At g 16 (Bw.leaf k1 n1) W2/\Bw.At g 30 (Bw.leaf k2 n2) W2/\Bw.At K' 0 (Bw.leaf k1 n1) W2/\Bw.At K' 12 (Bw.leaf k2 n2) W2/\Tk.But (λi=>i=g) w W2/\g2≠K'/\w.heap.size<=g2):=by
  have kg:=keep1 g (by omega) (by omega);have kK:=keep1 K' hl1 (Ne.symm H1.out.2.2.2.2.2.2.1);exact⟨H1.out.1.keep kg,H1.out.2.1.keep kg,H1.out.2.2.1.keep kg,H1.out.2.2.2.1.keep kK,H1.out.2.2.2.2.1.keep kK,⟨t2.os.trans H1.out.2.2.2.2.2.1.os,t2.tape.trans H1.out.2.2.2.2.2.1.tape,t2.output.trans H1.out.2.2.2.2.2.1.output,Nat.le_trans hs1 t2.size,λk h1 h2=>(keep1 k (by omega) (by omega)).trans (H1.out.2.2.2.2.2.1.block k h1 h2)⟩,hg2.1,hg2.2.2⟩
 have C3:Hid _:=Tryz.bwOwn_leaf g 30 k2 n2 w.heap.size 4 d2 _ _ W2 H2.out.2.2.1 o2 (by decide) H2.out.2.2.2.2.2.1.size (λb hb=>by obtain rfl:=Option.some.inj hb;show g2≠g;exact hg2.2.1);clear o2 t2 q2 keep1 hs1 hl1 hg2 C2 hge;go_wp2;rw[rounds_succ]
 go_wp2_with fail
 refine Calls.mono C3.out ?_;rintro e W3 ⟨g3,d3,rfl,o3,t3,q3⟩;have hs2:=H2.out.2.2.2.2.2.1.size;have hl2:=H2.out.2.2.2.1.lt;have hge2:=H2.out.2.2.2.2.2.2.2;have keep2:∀k,k<W2.heap.size->k≠g2->W3.heap[k]? =W2.heap[k]? :=λk hk hn=>t3.block k hk (λe=>hn (Option.some.inj e));have HE:Hid (Tk.But (λi=>i=g) w W3):=⟨t3.os.trans H2.out.2.2.2.2.2.1.os,t3.tape.trans H2.out.2.2.2.2.2.1.tape,t3.output.trans H2.out.2.2.2.2.2.1.output,Nat.le_trans hs2 t3.size,λk h1 h2=>(keep2 k (by omega) (by omega)).trans (H2.out.2.2.2.2.2.1.block k h1 h2)⟩;have kg:=keep2 g (by omega) (by omega);have kK:=keep2 K' hl2 (Ne.symm H2.out.2.2.2.2.2.2.1)
 have C4:Hid (Calls Tryz.prog 56 #[.slice (some ⟨g3,0,none⟩) 5 d3,.func (.func 57) #[] #[],.int .i64 53687091] W3 λe w'=>e=.returned (.tuple #[])/\w'=W3):=by
  refine Tryz.bwPart_nil g3 5 d3 W3 (Bw.own_cap o3) (λj hj=> ?_) (by decide);have oc:=Bw.own_cells o3
  match j,hj with
  |0,_=>obtain⟨cur,T,h1,h2⟩:=(H2.out.1.keep kg).kid rfl;exact⟨_,_,cur,T,oc 0 _ rfl,h1,h2⟩
  |1,_=>obtain⟨cur,T,h1,h2⟩:=(H2.out.2.2.2.1.keep kK).kid rfl;exact⟨_,_,cur,T,oc 1 _ rfl,h1,h2⟩
  |2,_=>obtain⟨cur,T,h1,h2⟩:=(H2.out.2.2.2.2.1.keep kK).kid rfl;exact⟨_,_,cur,T,oc 2 _ rfl,h1,h2⟩
  |3,_=>obtain⟨cur,T,h1,h2⟩:=(H2.out.2.1.keep kg).kid rfl;exact⟨_,_,cur,T,oc 3 _ rfl,h1,h2⟩
  |4,_=>obtain⟨cur,T,h1,h2⟩:=(H2.out.2.2.1.keep kg).kid rfl;exact⟨_,_,cur,T,oc 4 _ rfl,h1,h2⟩
 clear o3 t3 q3 keep2 kg kK C3 hs2 hl2 hge2 hgl;go_wp2;rw[rounds_succ]
 go_wp2_with fail
 refine Calls.mono C4.out ?_;rintro e W4 ⟨rfl,hW4⟩;obtain rfl:=hW4.symm;go_wp2
 go_end0
 exact⟨rfl,HE.out⟩
theorem Tryz.bwItems (kb cap:Nat)(k1 n1 k2 n2:Int)(w:World)(hT:Bw.Two kb k1 n1 k2 n2 w)(hK:kb<w.heap.size):
  Calls Tryz.prog 14 #[.agg (Bw.root kb cap)] w λe w'=>∃g c,e=.returned (.slice (some ⟨g,0,none⟩) 3 c)/\Below w.heap.size w w':=by
 obtain⟨w1,hw1⟩:=pE (w.alloc (.cells (Bw.root kb cap) 32));have B1:=pB hw1;have N1:=pH hw1;have s1:w1.heap.size=w.heap.size+1:=by rw[<-hw1];simp
 obtain⟨w2,hw2⟩:=pE (w1.alloc (.cells #[.int .i64 11184810] 3));have X2:Bw.Bx w1.heap.size 11184810 w2:=pH hw2;have B2:=pB hw2;have N2:w2.heap[w.heap.size]? =some (.cells (Bw.root kb cap) 32 (0,0)):=(B2.block _ (by omega)).trans N1;have b02:Below w.heap.size w w2:=B1.trans (B2.mono B1.size);have hu:=Tryz.underlying32
 have HB:Hid (∀W,Tk.But (λi=>i=w1.heap.size) w2 W->W.heap[w.heap.size]? =some (.cells (Bw.root kb cap) 32 (0,0))/\Below w.heap.size w W/\Bw.Two kb k1 n1 k2 n2 W/\kb<W.heap.size):=λW hb=>by
  have h1:Below w.heap.size w W:=b02.trans (hb.below b02.size (by intro k hk e;omega));exact⟨(hb.block _ (by have:=B2.size;omega) (by omega)).trans N2,h1,hT.keep (h1.block kb hK),Nat.lt_of_lt_of_le hK h1.size⟩
 have C1:Hid _:=Tryz.bwRes_root kb cap k1 n1 k2 n2 w1.heap.size 11184810 w2 X2 (HB.out w2 (.refl _ _)).2.2.1 (HB.out w2 (.refl _ _)).2.2.2 (by omega) (by decide) (by decide);have H1:Hid _:=hw1;have H2:Hid _:=hw2;clear hT hK hw1 hw2 B1 N1 s1 X2 B2 b02
 go_enter Tryz.func14,Tryz.ntmps14
 go_upto_region 1 with fail
 rw[H1.out]
 go_upto_region 2 with fail
 rw[H2.out];clear H1 H2
 go_wp2_with (refine wpList_load_row rfl 32 _ rfl _ rfl 32 _ (0,0) _ N2 hu rfl Bw.info ?_)
 refine Calls.mono C1.out ?_;rintro e W3 ⟨rfl,b3⟩;obtain⟨N3,h3,T3,k3⟩:=HB.out W3 b3;have H3:Hid (Below w.heap.size w W3/\Bw.Two kb k1 n1 k2 n2 W3/\kb<W3.heap.size):=⟨h3,T3,k3⟩;have C2:Hid _:=Tryz.bwList_root kb cap k1 n1 k2 n2 W3 T3 k3;clear b3 HB C1 N2 h3 T3 k3
 go_upto_region 4 with fail
 go_wp2_with (refine wpList_load_row rfl 32 _ rfl _ rfl 32 _ (0,0) _ N3 hu rfl Bw.info ?_)
 refine Calls.mono C2.out ?_;rintro e W4 ⟨g,c,rfl,o4,b4⟩
 have C3:Hid (Calls Tryz.prog 32 #[.slice (some ⟨g,0,none⟩) 3 c] W4 λe w'=>e=.returned (.tuple #[])/\Below w.heap.size w w'):=by
  rcases o4.2 with⟨e,_⟩|⟨g',cap',cur,hv,hge,hgc,hc1,_,hc3,hc4⟩
  ·simp at e
  simp only[Value.slice.injEq,Option.some.injEq,Addr.mk.injEq]at hv;obtain⟨⟨rfl,-,-⟩,-,rfl⟩:=hv;have hx:∀o (r:Array Value),r.size=12->o+12<=42->(∀i,i<12->(Bw.item (-1) 0 (Bw.root kb cap)++Bw.item 0 0 (Bw.leaf k1 n1)++Bw.item 0 1 (Bw.leaf k2 n2))[o+i]? =r[i]?)->Bw.At g o r W4:=λo r _ ho h=>Bw.At.of_take hgc hc4 o r h ho;refine(Tryz.bwPart g c kb cap k1 n1 k2 n2 W4 (hx 2 _ rfl (by decide) λi hi=> ?_) (hx 16 _ rfl (by decide) λi hi=> ?_) (hx 30 _ rfl (by decide) λi hi=> ?_) (H3.out.2.1.keep (b4.block kb H3.out.2.2)) (Nat.lt_of_lt_of_le H3.out.2.2 b4.size)).mono ?_
  ·match i,hi with
   |0,_|1,_|2,_|3,_|4,_|5,_|6,_|7,_|8,_|9,_|10,_|11,_=>rfl
  ·match i,hi with
   |0,_|1,_|2,_|3,_|4,_|5,_|6,_|7,_|8,_|9,_|10,_|11,_=>rfl
  ·match i,hi with
   |0,_|1,_|2,_|3,_|4,_|5,_|6,_|7,_|8,_|9,_|10,_|11,_=>rfl
  rintro e w' ⟨h1,h2⟩;have hs:=H3.out.1.size;have hb4:Below w.heap.size w W4:=H3.out.1.trans (b4.mono hs);exact⟨h1,hb4.trans (h2.below hb4.size (by intro k hk e;omega))⟩
 clear o4 b4 C2 N3
 go_wp2_with fail
 refine Calls.mono C3.out ?_;rintro e W5 ⟨rfl,b5⟩;have HE:Hid _:=b5;clear b5 C3;go_wp2;go_ret;exact⟨g,c,rfl,HE.out⟩
end Go.Proofs
namespace Go.Proofs
open Go.RowKit
namespace Bw
def eZ:Tm:=.mk 0 0 []
def e1:Ac:=.mk 2 1 0 0 eZ [] [] [] [] []
def e2:Ac:=.mk 5 2 0 0 eZ [] [] [] [] []
def eA:Ac:=.mk 6 0 0 0 eZ [] [e1,e2] [] [] []
def eB:Ac:=.mk 6 0 0 0 eZ [] [e1,e1] [] [] []
theorem e_same (T:Ac)(h:T.rest=Ac.zeroOf T.kind):Ac.Same1 T.rest (Ac.zeroOf T.kind):=by rw[h];exact⟨rfl,rfl,rfl,rfl,rfl,rfl,rfl,rfl,rfl⟩
theorem e1_form:e1.Formed:=(Ac.formed_2 rfl).2 ⟨by kernel_rfl,⟨by decide,by decide⟩,⟨by decide,by decide⟩,e_same e1 (by kernel_rfl),rfl⟩
theorem e2_form:e2.Formed:=(Ac.formed_5 rfl).2 ⟨by kernel_rfl,⟨by decide,by decide⟩,e_same e2 (by kernel_rfl),rfl⟩
theorem eA_form:eA.Formed:=(Ac.formed_6 rfl).2 ⟨by kernel_rfl,by decide,e_same eA (by kernel_rfl),trivial⟩
theorem eB_form:eB.Formed:=(Ac.formed_6 rfl).2 ⟨by kernel_rfl,by decide,e_same eB (by kernel_rfl),trivial⟩
theorem leaf_go (x:Ac)(hx:x.Formed)(hk:x.ks= []):(x.go Ac.stepF ()).1=true:=by
 rw[Ac.go_eq,if_pos (show(Ac.stepF x ()).1=true from(Ac.formB_iff x).2 hx),hk];rfl
theorem eA_go:(eA.go Ac.stepF ()).1=true:=by
 rw[Ac.go_eq,if_pos (show(Ac.stepF eA ()).1=true from(Ac.formB_iff eA).2 eA_form)];show(Ac.goes Ac.stepF [e1,e2] _).1=true;rw[Ac.goes,if_pos (leaf_go e1 e1_form rfl),Ac.goes,if_pos (leaf_go e2 e2_form rfl)];rfl
theorem eB_go:(eB.go Ac.stepF ()).1=true:=by
 rw[Ac.go_eq,if_pos (show(Ac.stepF eB ()).1=true from(Ac.formB_iff eB).2 eB_form)];show(Ac.goes Ac.stepF [e1,e1] _).1=true;rw[Ac.goes,if_pos (leaf_go e1 e1_form rfl),Ac.goes,if_pos (leaf_go e1 e1_form rfl)];rfl
theorem eA_check:eA.checkC=0:=by
 have h1:eA.tooB=false:=by kernel_rfl
 have h2:eA.twiceB=false:=by kernel_rfl
 unfold Ac.checkC;rw[h1,h2,if_neg (by decide),if_neg (λh=> ?_),if_neg (by decide)]
 rcases h with h|h|h
 ·exact absurd h (by decide)
 ·exact absurd h (by decide)
 rw[eA_go]at h;cases h
theorem eB_check:eB.checkC=8:=by
 have h1:eB.tooB=false:=by kernel_rfl
 have h2:eB.twiceB=true:=by kernel_rfl
 unfold Ac.checkC;rw[h1,h2,if_neg (by decide),if_neg (λh=> ?_),if_pos rfl]
 rcases h with h|h|h
 ·exact absurd h (by decide)
 ·exact absurd h (by decide)
 rw[eB_go]at h;cases h
theorem e_fit (k nd a b:Int)(ks:List Ac)(h:ks.length<=1000):(Ac.mk k nd a b eZ [] ks [] [] []).Fit:=by
 have nil:∀{α:Type} {P:α->Prop},∀x∈([]:List α),P x:=λx hx=>by cases hx
 exact⟨⟨(by decide:eZ.size<=2147483647),(by decide:eZ.depth<=1000)⟩,nil,nil,nil,Nat.zero_le _,h,Nat.zero_le _,Nat.zero_le _,Nat.zero_le _⟩
theorem leaf_fit (k nd a b:Int):(Ac.mk k nd a b eZ [] [] [] [] []).All Ac.Fit:=by
 rw[Ac.all_eq];exact⟨e_fit k nd a b [] (Nat.zero_le _),trivial⟩
theorem seq_fit (x y:Ac)(hx:x.All Ac.Fit)(hy:y.All Ac.Fit):(Ac.mk 6 0 0 0 eZ [] [x,y] [] [] []).All Ac.Fit:=by
 rw[Ac.all_eq];exact⟨e_fit 6 0 0 0 [x,y] (by show 2<=1000;decide),hx,hy,trivial⟩
theorem e1_fit:e1.All Ac.Fit:=leaf_fit 2 1 0 0
theorem e2_fit:e2.All Ac.Fit:=leaf_fit 5 2 0 0
theorem eA_fit:eA.All Ac.Fit:=seq_fit e1 e2 e1_fit e2_fit
theorem eB_fit:eB.All Ac.Fit:=seq_fit e1 e1 e1_fit e1_fit
def vN:Ac.Vs:=⟨.slice none 0 0,.slice none 0 0,.slice none 0 0,.slice none 0 0,.slice none 0 0,.slice none 0 0⟩
def vS (K:Nat):Ac.Vs:=⟨.slice none 0 0,.slice none 0 0,.slice (some ⟨K,0,none⟩) 2 2,.slice none 0 0,.slice none 0 0,.slice none 0 0⟩
theorem leaf_lies (W:World)(x:Ac)(hk:x.ks= [])(h:x.t=eZ/\x.cs= []/\x.ls= []/\x.ns= []/\x.fs= []):Ac.Lies W W.heap.size 1 1 vN x:=by
 obtain⟨k,nd,a,b,t,cs,ks,ls,ns,fs⟩:=x;obtain⟨rfl,rfl,rfl,rfl,rfl⟩:t=eZ/\cs= []/\ls= []/\ns= []/\fs= []:=h;obtain rfl:ks= []:=hk;exact⟨⟨⟨none,0,rfl,.inl rfl⟩,⟨none,0,rfl,λj h=>absurd h (Nat.not_lt_zero j)⟩,⟨none,0,rfl,λj h=>absurd h (Nat.not_lt_zero j)⟩,⟨none,0,rfl,λj h=>absurd h (Nat.not_lt_zero j)⟩,⟨none,0,rfl,λj h=>absurd h (Nat.not_lt_zero j)⟩⟩,none,0,rfl,λj hj=>absurd hj (Nat.not_lt_zero j)⟩
theorem row_of (W:World)(K o:Nat)(r:Array Value)(h:W.rangeAt K o r.toList):Ac.Row W K o r:=λi hi=>h i _ (by simp[hi])
theorem seq_lies (W:World)(K:Nat)(x y:Ac)(hK:K<W.heap.size)(hx:Ac.Lies W W.heap.size 1 1 vN x)(hy:Ac.Lies W W.heap.size 1 1 vN y)(rx:W.rangeAt K 0 (Ac.row x vN).toList)(ry:W.rangeAt K 12 (Ac.row y vN).toList):Ac.Lies W W.heap.size 1 2 (vS K) (.mk 6 0 0 0 eZ [] [x,y] [] [] []):=by
 refine⟨⟨⟨none,0,rfl,.inl rfl⟩,⟨none,0,rfl,λj h=>absurd h (Nat.not_lt_zero j)⟩,⟨none,0,rfl,λj h=>absurd h (Nat.not_lt_zero j)⟩,⟨none,0,rfl,λj h=>absurd h (Nat.not_lt_zero j)⟩,⟨none,0,rfl,λj h=>absurd h (Nat.not_lt_zero j)⟩⟩,some ⟨K,0,none⟩,2,rfl,λj hj=> ?_⟩
 match j,hj with
 |0,_=>exact⟨K,0,vN,rfl,hK,row_of W K 0 _ rx,hx⟩
 |1,_=>exact⟨K,0,vN,rfl,hK,row_of W K 12 _ ry,hy⟩
end Bw
def Tk.Rm (b:Nat)(k:Int)(w:World):Prop:=w.heap[b]? =some (.cells #[.int .i64 k] 36 (0,0))
theorem Tk.Rm.c0 {b:Nat}{k:Int}{w:World}(h:Tk.Rm b k w):w.cell? ⟨b,0,none⟩=some (.int .i64 k):=by simp only[Tk.Rm]at h;simp[World.cell?,h]
theorem Tk.Rm.f0 {b:Nat}{k:Int}{w:World}(h:Tk.Rm b k w):w.frozen? ⟨b,0,none⟩=false:=by simp only[Tk.Rm]at h;simp[World.frozen?,h]
theorem Tk.Rm.lt {b:Nat}{k:Int}{w:World}(h:Tk.Rm b k w):b<w.heap.size:=(Array.getElem?_eq_some_iff.1 h).1
theorem Tk.Rm.put {b:Nat}{k:Int}{w:World}(h:Tk.Rm b k w)(k':Int):Tk.Rm b k' (w.setCell ⟨b,0,none⟩ (.int .i64 k')):=by
 unfold Tk.Rm at*;simp[World.setCell,Array.getElem?_modify,h]
theorem Tk.Rm.keep {b:Nat}{k:Int}{w w':World}(h:Tk.Rm b k w)(hk:w'.heap[b]? =w.heap[b]?):Tk.Rm b k w':=by unfold Tk.Rm;rw[hk];exact h
def Tk.LargeEnd (T:Tm)(k:Nat)(b dp:Nat)(w:World)(e:Ending)(w':World):Prop:=
 Tk.But (λi=>i=b) w w'/\((e=.returned (.bool false)/\(T.size<=k/\T.depth+dp<=41)/\Tk.Rm b ((k-T.size:Nat):Int) w')∨e=.returned (.bool true))
theorem Tryz.deep_any:∀(d:Nat) (T:Tm) (v:Value) (k b:Nat) (dp:Nat) (B:Nat) (w:World),Tm.Lies w B d v T->B<=b->B<=w.heap.size->Tk.Rm b k w->k<=1000000->dp<=1000->
  Calls Tryz.prog 23 #[.agg #[.int .i64 T.op,.int .i64 T.num,v],.pointer (some ⟨b,0,none⟩),.int .i64 dp] w λe w'=>Tk.LargeEnd T k b dp w e w':=by
 intro d
 induction d with
 |zero=>intro T v k b dp B w h;exact h.elim
 |succ d ih=>
  intro T v k b dp B w hT hBb hBs hR hk hdp;obtain⟨a,cap,rfl⟩:=hT.shape;obtain⟨o,ho⟩:=pE (T.op);obtain⟨m,hm⟩:=pE (T.num);obtain⟨n,hn⟩:=pE (T.ks.length);rw[ho,hm,hn];rw[hn]at hT;have A0:Below w.heap.size w (w.alloc (.cells #[.int .i64 o,.int .i64 m,.slice a n cap] 24)):=(Below.refl _ w).alloc (Nat.le_refl _) _;have R0:Tk.Rm b k (w.alloc (.cells #[.int .i64 o,.int .i64 m,.slice a n cap] 24)):=hR.keep (A0.block b hR.lt);have c0:=R0.c0;have f0:=R0.f0;have R1:=R0.put ((k:Int)-1);obtain⟨w1,hw1⟩:=pE ((w.alloc (.cells #[.int .i64 o,.int .i64 m,.slice a n cap] 24)).setCell ⟨b,0,none⟩ (.int .i64 ((k:Int)-1)));have X1:Hid (Tk.But (λi=>i=b) w w1):=by show Tk.But _ _ _;rw[<-hw1];exact(Tk.But.of_below A0).setCell (E:=λi=>i=b) (p:=⟨b,0,none⟩) rfl _
  rw[hw1]at R1;have g0:=R1.c0
  have hbx:w1.heap[w.heap.size]? =some (.cells #[.int .i64 o,.int .i64 m,.slice a n cap] 24 (0,0)):=by
   rw[<-hw1,Below.heap_setCell _ _ _ _ (by have:=hR.lt;show w.heap.size≠b;omega)];exact heap_alloc_new w _
  have g2:w1.cell? ⟨w.heap.size,2,none⟩=some (.slice a n cap):=by simp[World.cell?,hbx]
  have HW1:Hid ((w.alloc (.cells #[.int .i64 o,.int .i64 m,.slice a n cap] 24)).setCell ⟨b,0,none⟩ (.int .i64 ((k:Int)-1))=w1):=hw1;have HT:Hid (Tm.Lies w B (d+1) (.slice a n cap) T):=hT;have HI:Hid _:=ih;have HM:Hid (T.op=o/\T.num=m/\T.ks.length=n/\B<=b/\B<=w.heap.size):=⟨ho,hm,hn,hBb,hBs⟩;have HR1:Hid (Tk.Rm b ((k:Int)-1) w1):=R1;have HRl:Hid (b<w.heap.size):=hR.lt;clear ih hT hR A0 R0 ho hm hn hw1 R1 hbx hBb hBs
  by_cases hbad:(k:Int)-1<0∨40<dp∨50<n
  ·obtain h1|⟨h1,h2⟩|⟨h1,h2,h3⟩:decide ((k:Int)-1<0)=true∨(decide ((k:Int)-1<0)=false/\decide ((40:Int)<dp)=true)∨(decide ((k:Int)-1<0)=false/\decide ((40:Int)<dp)=false/\decide ((50:Int)<n)=true):=by
    simp;omega
   all_goals
    clear hbad
    go_enter Tryz.func23,Tryz.ntmps23
    go_wp2;go_ret;exact⟨by rw[HW1.out];exact X1.out,.inr rfl⟩
  have h1:decide ((k:Int)-1<0)=false:=decide_eq_false (by omega);have h2:decide ((40:Int)<dp)=false:=decide_eq_false (by omega);have h3:decide ((50:Int)<n)=false:=decide_eq_false (by omega);have hn100:n<=100:=by omega
  have hdp':dp<=100:=by omega
  have HK:Hid (1<=k):=by show 1<=k;omega
  have HDP:Hid (dp<=40):=by show dp<=40;omega
  clear hbad
  go_enter Tryz.func23,Tryz.ntmps23
  go_wp2;rw[HW1.out]
  go_loopg [35] n (λg i wr=>∃j:Nat,g+j=n/\i=.int .i64 j/\Hid (Tk.But (λi=>i=b) w wr/\(Tm.sizes (T.ks.take j)<=k-1/\Tm.depths (T.ks.take j)+(dp+1)<=41)/\Tk.Rm b ((k-1-Tm.sizes (T.ks.take j):Nat):Int) wr))
  case atStart=>
   refine⟨0,by omega,rfl,X1.out,⟨by simp[Tm.sizes],by have:=HDP.out;simp[Tm.depths];omega⟩, ?_⟩;have:=HR1.out;rw[show(k:Int)-1=((k-1:Nat):Int)by have:=HK.out;omega]at this;simpa [Tm.sizes]using this
  case round=>
   obtain⟨j,hj,rfl,HJ⟩:=hrel
   by_cases hjn:j<n
   rotate_left
   ·have hd:decide ((j:Int)<n)=false:=decide_eq_false (by omega)
    have hall:T.ks.take j=T.ks:=List.take_of_length_le (by rw[HM.out.2.2.1];omega);have HZ:=HJ.out;rw[hall]at HZ;have HZ':Hid _:=HZ;clear HZ;go_wp2;go_ret;refine⟨HZ'.out.1,.inl ⟨rfl, ?_, ?_⟩⟩
    ·rw[T.size_eq,T.depth_eq];have h4:=HZ'.out.2.1;have:=HK.out;exact⟨by omega,by omega⟩
    rw[T.size_eq,show k-(Tm.sizes T.ks+1)=k-1-Tm.sizes T.ks by omega];exact HZ'.out.2.2
   have hd:decide ((j:Int)<n)=true:=decide_eq_true (by omega);have hjk:j<T.ks.length:=by rw[HM.out.2.2.1];exact hjn
   obtain⟨g,off,u,rfl,hg,q0,q1,q2,q3⟩:=HT.out.kid j hjk;obtain⟨x,hx⟩:=pE (T.ks[j]);rw[hx]at q0 q1 q3;obtain⟨au,cu,rfl⟩:=q3.shape;obtain⟨nx,hnx⟩:=pE (x.ks.length);rw[hnx]at q2 q3;obtain⟨y0,hy0⟩:=pE (x.op);obtain⟨y1,hz1⟩:=pE (x.num);rw[hy0]at q0;rw[hz1]at q1;have hE:∀i,i<B->¬(i=b):=λi hi=>by have:=HM.out;omega
   have hc:∀p,wr.cell? ⟨g,p,none⟩=w.cell? ⟨g,p,none⟩:=λp=>World.cell?_of_block (w:=w) (HJ.out.1.block g (by have:=HM.out;omega) (hE g hg));have hc0:wr.cell? ⟨g,off+j*3,none⟩=some (.int .i64 y0):=by rw[hc];exact q0
   have hc1:wr.cell? ⟨g,off+j*3+1,none⟩=some (.int .i64 y1):=by rw[hc];exact q1
   have hc2:wr.cell? ⟨g,off+j*3+2,none⟩=some (.slice au nx cu):=by rw[hc];exact q2
   have BA:Hid (Tk.But (λi=>i=b) w (wr.alloc (.cells #[.int .i64 y0,.int .i64 y1,.slice au nx cu] 24))):=HJ.out.1.alloc _
   have hcall:=HI.out x (.slice au nx cu) (k-1-Tm.sizes (T.ks.take j)) b (dp+1) B (wr.alloc (.cells #[.int .i64 y0,.int .i64 y1,.slice au nx cu] 24))
    (q3.keep λi hi=>BA.out.block i (by have:=HM.out;omega) (hE i hi)) HM.out.2.2.2.1 (by have:=HM.out;have:=BA.out.size;omega) (HJ.out.2.2.keep (Below.heap_alloc _ _ _ HJ.out.2.2.lt)) (by omega) (by omega)
   rw[hy0,hz1,show((dp+1:Nat):Int)=(dp:Int)+1 by omega]at hcall;have HC:Hid _:=hcall;have HY:Hid (T.ks[j]=x):=hx;clear hc q0 q1 q2 q3 hx hy0 hz1 hnx hcall hE g0 g2 c0 f0
   go_wp2_with fail
   refine Calls.mono HC.out ?_;rintro e W3 ⟨hb3,⟨rfl,hs3,hr3⟩|rfl⟩
   ·have B3:Hid (Tk.But (λi=>i=b) w W3):=BA.out.trans hb3
    have H3:Hid ((x.size<=k-1-Tm.sizes (T.ks.take j)/\x.depth+(dp+1)<=41)/\Tk.Rm b ((k-1-Tm.sizes (T.ks.take j)-x.size:Nat):Int) W3):=⟨hs3,hr3⟩;clear hb3 hs3 hr3 HC;go_wp2;go_roundg (gk-1)
    case measure=>omega
    case rel=>
     refine⟨j+1,by omega,by go_num,B3.out, ?_, ?_⟩
     ·rw[Tm.sizes_take _ _ hjk,Tm.depths_take _ _ hjk,HY.out];have h3:=H3.out.1;have h4:=HJ.out.2.1;exact⟨by omega,by omega⟩
     rw[Tm.sizes_take _ _ hjk,HY.out,<-Nat.sub_sub];exact H3.out.2
   have B3:Hid (Tk.But (λi=>i=b) w W3):=BA.out.trans hb3;clear hb3 HC;go_wp2;go_ret;exact⟨B3.out,.inr rfl⟩
end Go.Proofs
namespace Go.Proofs
open Go.RowKit Go.ChangeShapes Go.WideShapes Go.Deep
instance:Inhabited Tm:=⟨.mk 0 0 []⟩
theorem Tm.Lies.more {w:World}{B:Nat} :∀{d:Nat} {v:Value} {T:Tm},Tm.Lies w B d v T->Tm.Lies w B (d+1) v T
 |0,_,_,h=>h.elim
 |d+1,v,T,h=>by
  obtain⟨a,cap,hv,h⟩:=h;refine⟨a,cap,hv,h.elim .inl fun⟨g,off,ha,hg,hr⟩=> .inr ⟨g,off,ha,hg,λj hj=> ?_⟩⟩;obtain⟨u,h0,h1,h2,h3⟩:=hr j hj;exact⟨u,h0,h1,h2,Tm.Lies.more h3⟩
theorem Tk.cellsTerm:Tryz.prog.cellsOf 24=3:=by kernel_rfl
theorem Tk.cellsInt1:Tryz.prog.cellsOf 3=1:=by kernel_rfl
theorem Tk.cellsTerms:Tryz.prog.cellsOf 22=1:=by kernel_rfl
theorem Tk.list3 {α:Type}{l:List α}(h:l.length=3):∃a b c,l= [a,b,c]:=by
 match l,h with
 | [a,b,c],_=>exact⟨a,b,c,rfl⟩
theorem Tk.cell_lt {w:World}{a:Addr}{v:Value}(h:w.cell? a=some v):a.block<w.heap.size:=by
 rcases Nat.lt_or_ge a.block w.heap.size with h1|h1
 ·exact h1
 unfold World.cell? at h;simp[h1]at h
theorem Tm.open_term {H:Type}{enc:TypeId×Value->H}{w:World}{spare:Nat->Bool}{held:Bool} :∀(fuel:Nat) (cs:List Value) (x:DataW H×List MemPlace),DataW.trod enc Tryz.prog w 0 spare held fuel 24 cs=some x->
  ∃(T:Tm) (v:Value),cs= [.int .i64 T.op,.int .i64 T.num,v]/\Tm.Lies w w.heap.size fuel v T:=by
 intro fuel
 induction fuel using Nat.strongRecOn with
 |_ fuel ih=>
  intro cs x h;obtain⟨ys,n,rfl,hx,hl,hy,hf⟩:=DataW.trod_struct Tryz.underlying24 h;rw[Tk.cellsTerm]at hl;have hy:ys.length=3:=hy;obtain⟨c0,c1,c2,rfl⟩:=Tk.list3 hl;obtain⟨y0,y1,y2,rfl⟩:=Tk.list3 hy;have g0:DataW.trod enc Tryz.prog w 0 spare held n 3 (([c0,c1,c2].drop 0).take (Tryz.prog.cellsOf 3))= [y0,y1,y2][0]? :=hf 0 _ rfl;have g1:DataW.trod enc Tryz.prog w 0 spare held n 3 (([c0,c1,c2].drop 1).take (Tryz.prog.cellsOf 3))= [y0,y1,y2][1]? :=hf 1 _ rfl;have g2:DataW.trod enc Tryz.prog w 0 spare held n 22 (([c0,c1,c2].drop 2).take (Tryz.prog.cellsOf 22))= [y0,y1,y2][2]? :=hf 2 _ rfl;rw[Tk.cellsInt1]at g0 g1;rw[Tk.cellsTerms]at g2;obtain⟨o,e0,_⟩:=DataW.trod_int Tryz.underlying3 g0;obtain⟨m,e1,_⟩:=DataW.trod_int Tryz.underlying3 g1;obtain rfl:c0=.int .i64 o:=(List.cons.inj e0).1;obtain rfl:c1=.int .i64 m:=(List.cons.inj e1).1
  rcases DataW.trod_slice Tryz.underlying22 g2 with⟨e2,_⟩|⟨a,len,cap,elems,rest,n',hn',e2,_,_,hlc,_,hlen,hel,_,_⟩
  ·obtain rfl:c2=.slice none 0 0:=(List.cons.inj e2).1
   exact⟨.mk o m [],.slice none 0 0,rfl,none,0,rfl,.inl rfl⟩
  obtain rfl:c2=.slice (some a) len cap:=(List.cons.inj e2).1;subst hn'
  have each:∀i,i<len->∃q:Tm,∃u,w.cell? (a.add (i*3))=some (.int .i64 q.op)/\w.cell? ((a.add (i*3)).add 1)=some (.int .i64 q.num)/\w.cell? ((a.add (i*3)).add 2)=some u/\Tm.Lies w w.heap.size n' u q:=by
   intro i hi;have h1:=hel i hi;rw[Tk.cellsTerm,List.getElem?_eq_getElem (by omega)]at h1;obtain⟨cs',h2,h3⟩:=Option.bind_eq_some_iff.1 h1;obtain⟨q,u,rfl,hq⟩:=ih n' (by omega) cs' _ h3;obtain⟨_,hl3,hc⟩:=World.cells?_some h2;exact⟨q,u,by simpa [Addr.add]using hc 0 (by simp),by simpa using hc 1 (by simp),by simpa using hc 2 (by simp),hq⟩
  obtain⟨q,hq⟩:=choose_lt each;have hlen':((List.range len).map q).length=len:=by simp
  have hget:∀j (h:j<((List.range len).map q).length),((List.range len).map q)[j]=q j:=λj h=>by simp
  refine⟨.mk o m ((List.range len).map q),.slice (some a) len cap,rfl,some a,cap,by rw[show(Tm.mk o m ((List.range len).map q)).ks=(List.range len).map q from rfl,hlen'], ?_⟩
  by_cases hz:len=0
  ·subst hz;exact .inl rfl
  obtain⟨g,off,spot⟩:=a;obtain⟨_,h0,_⟩:=hq 0 (by omega);have hspot:spot=none:=by simpa [Addr.add]using World.cell?_spot h0
  subst hspot
  have hg:g<w.heap.size:=by
   have:=Tk.cell_lt h0;simpa [Addr.add]using this
  refine .inr ⟨g,off,rfl,hg,λj hj=> ?_⟩;have hj':j<((List.range len).map q).length:=hj;show∃u,w.cell? ⟨g,off+j*3,none⟩=some (.int .i64 (((List.range len).map q)[j]'hj').op)/\w.cell? ⟨g,off+j*3+1,none⟩=some (.int .i64 (((List.range len).map q)[j]'hj').num)/\w.cell? ⟨g,off+j*3+2,none⟩=some u/\Tm.Lies w w.heap.size (n'+1) u (((List.range len).map q)[j]'hj');rw[hget j hj'];rw[hlen']at hj';obtain⟨u,p0,p1,p2,p3⟩:=hq j hj';have ea:∀(c k:Nat),((⟨g,off,none⟩:Addr).add c).add k=⟨g,off+c+k,none⟩:=λc k=>by rw[Go.WideShapes.add_plain,Go.WideShapes.add_plain]
  rw[Go.WideShapes.add_plain]at p0;rw[ea]at p1 p2;exact⟨u,p0,p1,p2,p3.more⟩
end Go.Proofs
namespace Go.Proofs
open Go.RowKit Go.ChangeShapes Go.WideShapes
theorem Fk.laidOut:laidOutB Tryz.prog=true:=by kernel_rfl
theorem Fk.trodAll_below' {H:Type}{enc:TypeId×Value->H}{P:Program}(hl:laidOutB P=true){W W':World}(hb:Below W.heap.size W W'):∀{ts:List TypeId} {vs:List Value} {ds:List (DataW H)} {ps:List MemPlace},
  (ts.all λt=>P.readableRec t&&decide (t<P.types.size))=true->DataW.TrodAll enc P W 0 (λ_=>true) true ts vs ds ps->(∀x∈ps,x.block<W.heap.size)->
  DataW.TrodAll enc P W' 0 (λb=>decide (b<W.heap.size)) true ts vs ds ps
 | [], [], [],_,_,h,_=>h
 |t::_,_::_,_::_,_,hT,⟨p,q,h1,h2,e⟩,hs=>by
  simp only[List.all_cons,Bool.and_eq_true,decide_eq_true_eq]at hT
  exact⟨p,q,Below.trod hl hT.1.1 hT.1.2 h1 hb (λx hx=>hs x (by rw[e];exact List.mem_append_left _ hx)),
   Fk.trodAll_below' hl hb hT.2 h2 (λx hx=>hs x (by rw[e];exact List.mem_append_right _ hx)),e⟩
theorem Fk.trodAll_below {H:Type}{enc:TypeId×Value->H}{W W':World}(hb:Below W.heap.size W W'){ts:List TypeId}{vs:List Value}{ds:List (DataW H)}{ps:List MemPlace}
 (hT:(ts.all λt=>Tryz.prog.readableRec t&&decide (t<Tryz.prog.types.size))=true) (h:DataW.TrodAll enc Tryz.prog W 0 (λ_=>true) true ts vs ds ps) (hs:∀x∈ps,x.block<W.heap.size):
 DataW.TrodAll enc Tryz.prog W' 0 (λb=>decide (b<W.heap.size)) true ts vs ds ps:=Fk.trodAll_below' Fk.laidOut hb hT h hs
end Go.Proofs
namespace Go.Proofs
open Go.RowKit Go.ChangeShapes Go.WideShapes Go.Deep
theorem Tm.Lies.up {w:World}{B:Nat}{d e:Nat}{v:Value}{T:Tm}(h:Tm.Lies w B d v T)(he:d<=e):Tm.Lies w B e v T:=by
 induction he with
 |refl=>exact h
 |step _ ih=>exact ih.more
theorem Nt.cellsNode:Tryz.prog.cellsOf 62=5:=by kernel_rfl
theorem Nt.cellsFlow:Tryz.prog.cellsOf 64=6:=by kernel_rfl
theorem Nt.cellsNet:Tryz.prog.cellsOf 30=2:=by kernel_rfl
theorem Nt.cellsBool:Tryz.prog.cellsOf 4=1:=by kernel_rfl
theorem Nt.cellsNodes:Tryz.prog.cellsOf 27=1:=by kernel_rfl
theorem Nt.cellsFlows:Tryz.prog.cellsOf 28=1:=by kernel_rfl
theorem Nt.list2 {α:Type}{l:List α}(h:l.length=2):∃a b,l= [a,b]:=by
 match l,h with
 | [a,b],_=>exact⟨a,b,rfl⟩
theorem Nt.list4 {α:Type}{l:List α}(h:l.length=4):∃a b c d,l= [a,b,c,d]:=by
 match l,h with
 | [a,b,c,d],_=>exact⟨a,b,c,d,rfl⟩
theorem Nt.list5 {α:Type}{l:List α}(h:l.length=5):∃a b c d e,l= [a,b,c,d,e]:=by
 match l,h with
 | [a,b,c,d,e],_=>exact⟨a,b,c,d,e,rfl⟩
theorem Nt.list6 {α:Type}{l:List α}(h:l.length=6):∃a b c d e f,l= [a,b,c,d,e,f]:=by
 match l,h with
 | [a,b,c,d,e,f],_=>exact⟨a,b,c,d,e,f,rfl⟩
section
variable {H:Type} {enc:TypeId×Value->H} {w:World} {spare:Nat->Bool} {held:Bool}
theorem Nt.open_node (fuel:Nat)(cs:List Value)(x:DataW H×List MemPlace)(h:DataW.trod enc Tryz.prog w 0 spare held fuel 62 cs=some x):
  ∃(X:Nd) (v:Value),cs= [.int .i64 X.kind,.int .i64 X.a,.int .i64 X.t.op,.int .i64 X.t.num,v]/\Tm.Lies w w.heap.size fuel v X.t:=by
 obtain⟨ys,n,rfl,hx,hl,hy,hf⟩:=DataW.trod_struct Tryz.underlying62 h;rw[Nt.cellsNode]at hl;have hy:ys.length=3:=hy;obtain⟨c0,c1,c2,c3,c4,rfl⟩:=Nt.list5 hl;obtain⟨y0,y1,y2,rfl⟩:=Tk.list3 hy;have g0:DataW.trod enc Tryz.prog w 0 spare held n 3 (([c0,c1,c2,c3,c4].drop 0).take (Tryz.prog.cellsOf 3))= [y0,y1,y2][0]? :=hf 0 _ rfl;have g1:DataW.trod enc Tryz.prog w 0 spare held n 3 (([c0,c1,c2,c3,c4].drop 1).take (Tryz.prog.cellsOf 3))= [y0,y1,y2][1]? :=hf 1 _ rfl;have g2:DataW.trod enc Tryz.prog w 0 spare held n 24 (([c0,c1,c2,c3,c4].drop 2).take (Tryz.prog.cellsOf 24))= [y0,y1,y2][2]? :=hf 2 _ rfl;rw[Tk.cellsInt1]at g0 g1;rw[Tk.cellsTerm]at g2;obtain⟨o,e0,_⟩:=DataW.trod_int Tryz.underlying3 g0;obtain⟨m,e1,_⟩:=DataW.trod_int Tryz.underlying3 g1;obtain rfl:c0=.int .i64 o:=(List.cons.inj e0).1;obtain rfl:c1=.int .i64 m:=(List.cons.inj e1).1;obtain⟨T,v,hcs,hT⟩:=Tm.open_term n _ _ g2;have h3: [c2,c3,c4]= [.int .i64 T.op,.int .i64 T.num,v]:=hcs;simp only[List.cons.injEq,and_true]at h3;obtain⟨rfl,rfl,rfl⟩:=h3;exact⟨⟨o,m,T⟩,c4,rfl,hT.up (by omega)⟩
theorem Nt.open_flow (fuel:Nat)(cs:List Value)(x:DataW H×List MemPlace)(h:DataW.trod enc Tryz.prog w 0 spare held fuel 64 cs=some x):
  ∃(X:Fl) (v:Value),cs= [.int .i64 X.fr,.int .i64 X.to,.bool X.els,.int .i64 X.c.op,.int .i64 X.c.num,v]/\Tm.Lies w w.heap.size fuel v X.c:=by
 obtain⟨ys,n,rfl,hx,hl,hy,hf⟩:=DataW.trod_struct Tryz.underlying64 h;rw[Nt.cellsFlow]at hl;have hy:ys.length=4:=hy;obtain⟨c0,c1,c2,c3,c4,c5,rfl⟩:=Nt.list6 hl;obtain⟨y0,y1,y2,y3,rfl⟩:=Nt.list4 hy;have g0:DataW.trod enc Tryz.prog w 0 spare held n 3 (([c0,c1,c2,c3,c4,c5].drop 0).take (Tryz.prog.cellsOf 3))= [y0,y1,y2,y3][0]? :=hf 0 _ rfl;have g1:DataW.trod enc Tryz.prog w 0 spare held n 3 (([c0,c1,c2,c3,c4,c5].drop 1).take (Tryz.prog.cellsOf 3))= [y0,y1,y2,y3][1]? :=hf 1 _ rfl;have g2:DataW.trod enc Tryz.prog w 0 spare held n 4 (([c0,c1,c2,c3,c4,c5].drop 2).take (Tryz.prog.cellsOf 4))= [y0,y1,y2,y3][2]? :=hf 2 _ rfl;have g3:DataW.trod enc Tryz.prog w 0 spare held n 24 (([c0,c1,c2,c3,c4,c5].drop 3).take (Tryz.prog.cellsOf 24))= [y0,y1,y2,y3][3]? :=hf 3 _ rfl;rw[Tk.cellsInt1]at g0 g1;rw[Nt.cellsBool]at g2;rw[Tk.cellsTerm]at g3;obtain⟨o,e0,_⟩:=DataW.trod_int Tryz.underlying3 g0;obtain⟨m,e1,_⟩:=DataW.trod_int Tryz.underlying3 g1;obtain⟨b,e2,_⟩:=DataW.trod_bool Tryz.underlying4 g2;obtain rfl:c0=.int .i64 o:=(List.cons.inj e0).1;obtain rfl:c1=.int .i64 m:=(List.cons.inj e1).1;obtain rfl:c2=.bool b:=(List.cons.inj e2).1;obtain⟨T,v,hcs,hT⟩:=Tm.open_term n _ _ g3;have h3: [c3,c4,c5]= [.int .i64 T.op,.int .i64 T.num,v]:=hcs;simp only[List.cons.injEq,and_true]at h3;obtain⟨rfl,rfl,rfl⟩:=h3
 exact⟨⟨o,m,b,T⟩,c5,rfl,hT.up (by omega)⟩
theorem Nt.open_nodes (fuel:Nat)(c:Value)(x:DataW H×List MemPlace)(h:DataW.trod enc Tryz.prog w 0 spare held fuel 27 [c]=some x):∃a cap ns,c=.slice a (ns:List Nd).length cap/\Nt.Nds w w.heap.size fuel a ns:=by
 rcases DataW.trod_slice Tryz.underlying27 h with⟨e2,_⟩|⟨a,len,cap,elems,rest,n',hn',e2,_,_,hlc,_,hlen,hel,_,_⟩
 ·obtain rfl:c=.slice none 0 0:=(List.cons.inj e2).1
  exact⟨none,0, [],rfl,λj hj=>by simp at hj⟩
 obtain rfl:c=.slice (some a) len cap:=(List.cons.inj e2).1;subst hn'
 have each:∀i,i<len->∃q:Nd,∃u,w.cell? (a.add (i*5))=some (.int .i64 q.kind)/\w.cell? ((a.add (i*5)).add 1)=some (.int .i64 q.a)/\w.cell? ((a.add (i*5)).add 2)=some (.int .i64 q.t.op)/\w.cell? ((a.add (i*5)).add 3)=some (.int .i64 q.t.num)/\w.cell? ((a.add (i*5)).add 4)=some u/\Tm.Lies w w.heap.size n' u q.t:=by
  intro i hi;have h1:=hel i hi;rw[Nt.cellsNode,List.getElem?_eq_getElem (by omega)]at h1;obtain⟨cs',h2,h3⟩:=Option.bind_eq_some_iff.1 h1;obtain⟨q,u,rfl,hq⟩:=Nt.open_node n' cs' _ h3;obtain⟨_,hl3,hc⟩:=World.cells?_some h2;exact⟨q,u,by simpa [Addr.add]using hc 0 (by simp),by simpa using hc 1 (by simp),by simpa using hc 2 (by simp),by simpa using hc 3 (by simp),by simpa using hc 4 (by simp),hq⟩
 by_cases hz:len=0
 ·subst hz
  exact⟨some a,cap, [],rfl,λj hj=>by simp at hj⟩
 haveI:Inhabited Nd:=⟨⟨0,0,.mk 0 0 []⟩⟩
 obtain⟨q,hq⟩:=choose_lt each;have hlen':((List.range len).map q).length=len:=by simp
 refine⟨some a,cap,(List.range len).map q,by rw[hlen'],λj hj=> ?_⟩;obtain⟨g,off,spot⟩:=a;obtain⟨_,h0,_⟩:=hq 0 (by omega);have hspot:spot=none:=by simpa [Addr.add]using World.cell?_spot h0
 subst hspot
 have hg:g<w.heap.size:=by
  have:=Tk.cell_lt h0;simpa [Addr.add]using this
 have hget:((List.range len).map q)[j]=q j:=by simp
 rw[hget];rw[hlen']at hj;obtain⟨u,p0,p1,p2,p3,p4,p5⟩:=hq j hj;have ea:∀(c k:Nat),((⟨g,off,none⟩:Addr).add c).add k=⟨g,off+c+k,none⟩:=λc k=>by rw[Go.WideShapes.add_plain,Go.WideShapes.add_plain]
 rw[Go.WideShapes.add_plain]at p0;rw[ea]at p1 p2 p3 p4;exact⟨g,off,u,rfl,hg,p0,p1,p2,p3,p4,p5.up (by omega)⟩
theorem Nt.open_flows (fuel:Nat)(c:Value)(x:DataW H×List MemPlace)(h:DataW.trod enc Tryz.prog w 0 spare held fuel 28 [c]=some x):∃a cap fs,c=.slice a (fs:List Fl).length cap/\Nt.Fls w w.heap.size fuel a fs:=by
 rcases DataW.trod_slice Tryz.underlying28 h with⟨e2,_⟩|⟨a,len,cap,elems,rest,n',hn',e2,_,_,hlc,_,hlen,hel,_,_⟩
 ·obtain rfl:c=.slice none 0 0:=(List.cons.inj e2).1
  exact⟨none,0, [],rfl,λj hj=>by simp at hj⟩
 obtain rfl:c=.slice (some a) len cap:=(List.cons.inj e2).1;subst hn'
 have each:∀i,i<len->∃q:Fl,∃u,w.cell? (a.add (i*6))=some (.int .i64 q.fr)/\w.cell? ((a.add (i*6)).add 1)=some (.int .i64 q.to)/\w.cell? ((a.add (i*6)).add 2)=some (.bool q.els)/\w.cell? ((a.add (i*6)).add 3)=some (.int .i64 q.c.op)/\w.cell? ((a.add (i*6)).add 4)=some (.int .i64 q.c.num)/\w.cell? ((a.add (i*6)).add 5)=some u/\Tm.Lies w w.heap.size n' u q.c:=by
  intro i hi;have h1:=hel i hi;rw[Nt.cellsFlow,List.getElem?_eq_getElem (by omega)]at h1;obtain⟨cs',h2,h3⟩:=Option.bind_eq_some_iff.1 h1;obtain⟨q,u,rfl,hq⟩:=Nt.open_flow n' cs' _ h3;obtain⟨_,hl3,hc⟩:=World.cells?_some h2;exact⟨q,u,by simpa [Addr.add]using hc 0 (by simp),by simpa using hc 1 (by simp),by simpa using hc 2 (by simp),by simpa using hc 3 (by simp),by simpa using hc 4 (by simp),by simpa using hc 5 (by simp),hq⟩
 by_cases hz:len=0
 ·subst hz
  exact⟨some a,cap, [],rfl,λj hj=>by simp at hj⟩
 haveI:Inhabited Fl:=⟨⟨0,0,false,.mk 0 0 []⟩⟩
 obtain⟨q,hq⟩:=choose_lt each;have hlen':((List.range len).map q).length=len:=by simp
 refine⟨some a,cap,(List.range len).map q,by rw[hlen'],λj hj=> ?_⟩;obtain⟨g,off,spot⟩:=a;obtain⟨_,h0,_⟩:=hq 0 (by omega);have hspot:spot=none:=by simpa [Addr.add]using World.cell?_spot h0
 subst hspot
 have hg:g<w.heap.size:=by
  have:=Tk.cell_lt h0;simpa [Addr.add]using this
 have hget:((List.range len).map q)[j]=q j:=by simp
 rw[hget];rw[hlen']at hj;obtain⟨u,p0,p1,p2,p3,p4,p5,p6⟩:=hq j hj;have ea:∀(c k:Nat),((⟨g,off,none⟩:Addr).add c).add k=⟨g,off+c+k,none⟩:=λc k=>by rw[Go.WideShapes.add_plain,Go.WideShapes.add_plain]
 rw[Go.WideShapes.add_plain]at p0;rw[ea]at p1 p2 p3 p4 p5;exact⟨g,off,u,rfl,hg,p0,p1,p2,p3,p4,p5,p6.up (by omega)⟩
end
instance:Inhabited Ac:=⟨.mk 0 0 0 0 (.mk 0 0 []) [] [] [] [] []⟩
instance:Inhabited Ac.Vs:=⟨⟨.bool false,.bool false,.bool false,.bool false,.bool false,.bool false⟩⟩
theorem Ak.cellsAct:Tryz.prog.cellsOf 32=12:=by kernel_rfl
theorem Ak.cellsActs:Tryz.prog.cellsOf 25=1:=by kernel_rfl
theorem Ak.cellsLink:Tryz.prog.cellsOf 69=2:=by kernel_rfl
theorem Ak.cellsLinks:Tryz.prog.cellsOf 26=1:=by kernel_rfl
theorem Ak.list9 {α:Type}{l:List α}(h:l.length=9):∃a b c d e f g h i,l= [a,b,c,d,e,f,g,h,i]:=by
 match l,h with
 | [a,b,c,d,e,f,g,h,i],_=>exact⟨a,b,c,d,e,f,g,h,i,rfl⟩
theorem Ak.list12 {α:Type}{l:List α}(h:l.length=12):∃a b c d e f g h i j k m,l= [a,b,c,d,e,f,g,h,i,j,k,m]:=by
 match l,h with
 | [a,b,c,d,e,f,g,h,i,j,k,m],_=>exact⟨a,b,c,d,e,f,g,h,i,j,k,m,rfl⟩
theorem Ac.Lies.more {w:World}{B e:Nat} :∀{d:Nat} {V:Ac.Vs} {T:Ac},Ac.Lies w B e d V T->Ac.Lies w B e (d+1) V T
 |0,_,_,h=>h.elim
 |d+1,V,T,h=>by
  obtain⟨ho,a,cap,hv,h⟩:=h;refine⟨ho,a,cap,hv,λj hj=> ?_⟩;obtain⟨g,off,U,ha,hg,hr,h1⟩:=h j hj;exact⟨g,off,U,ha,hg,hr,h1.more⟩
theorem Ac.Lies.up {w:World}{B e d d':Nat}{V:Ac.Vs}{T:Ac}(h:Ac.Lies w B e d V T)(hd:d<=d'):Ac.Lies w B e d' V T:=by
 induction hd with
 |refl=>exact h
 |step _ ih=>exact ih.more
section
variable {H:Type} {enc:TypeId×Value->H} {w:World} {spare:Nat->Bool} {held:Bool}
theorem Ak.ea (g off c k:Nat):((⟨g,off,none⟩:Addr).add c).add k=⟨g,off+c+k,none⟩:=by rw[Go.WideShapes.add_plain,Go.WideShapes.add_plain]
theorem Ak.open_conds (fuel:Nat)(c:Value)(x:DataW H×List MemPlace)(h:DataW.trod enc Tryz.prog w 0 spare held fuel 22 [c]=some x):∃a cap cs,c=.slice a (cs:List Tm).length cap/\Ac.Tms w w.heap.size fuel a cs:=by
 rcases DataW.trod_slice Tryz.underlying22 h with⟨e2,_⟩|⟨a,len,cap,elems,rest,n',hn',e2,_,_,hlc,_,hlen,hel,_,_⟩
 ·obtain rfl:c=.slice none 0 0:=(List.cons.inj e2).1
  exact⟨none,0, [],rfl,λj hj=>by simp at hj⟩
 obtain rfl:c=.slice (some a) len cap:=(List.cons.inj e2).1;subst hn'
 have each:∀i,i<len->∃q:Tm,∃u,w.cell? (a.add (i*3))=some (.int .i64 q.op)/\w.cell? ((a.add (i*3)).add 1)=some (.int .i64 q.num)/\w.cell? ((a.add (i*3)).add 2)=some u/\Tm.Lies w w.heap.size n' u q:=by
  intro i hi;have h1:=hel i hi;rw[Tk.cellsTerm,List.getElem?_eq_getElem (by omega)]at h1;obtain⟨cs',h2,h3⟩:=Option.bind_eq_some_iff.1 h1;obtain⟨q,u,rfl,hq⟩:=Tm.open_term n' cs' _ h3;obtain⟨_,hl3,hc⟩:=World.cells?_some h2;exact⟨q,u,by simpa [Addr.add]using hc 0 (by simp),by simpa using hc 1 (by simp),by simpa using hc 2 (by simp),hq⟩
 by_cases hz:len=0
 ·subst hz
  exact⟨some a,cap, [],rfl,λj hj=>by simp at hj⟩
 obtain⟨q,hq⟩:=choose_lt each;have hlen':((List.range len).map q).length=len:=by simp
 refine⟨some a,cap,(List.range len).map q,by rw[hlen'],λj hj=> ?_⟩;obtain⟨g,off,spot⟩:=a;obtain⟨_,h0,_⟩:=hq 0 (by omega);have hspot:spot=none:=by simpa [Addr.add]using World.cell?_spot h0
 subst hspot
 have hg:g<w.heap.size:=by
  have:=Tk.cell_lt h0;simpa [Addr.add]using this
 have hget:((List.range len).map q)[j]=q j:=by simp
 rw[hget];rw[hlen']at hj;obtain⟨u,p0,p1,p2,p3⟩:=hq j hj;rw[Go.WideShapes.add_plain]at p0;rw[Ak.ea]at p1 p2;exact⟨g,off,u,rfl,hg,p0,p1,p2,p3.up (by omega)⟩
theorem Ak.open_links (fuel:Nat)(c:Value)(x:DataW H×List MemPlace)(h:DataW.trod enc Tryz.prog w 0 spare held fuel 26 [c]=some x):∃a cap ls,c=.slice a (ls:List (Int×Int)).length cap/\Ac.Lks w w.heap.size a ls:=by
 rcases DataW.trod_slice Tryz.underlying26 h with⟨e2,_⟩|⟨a,len,cap,elems,rest,n',hn',e2,_,_,hlc,_,hlen,hel,_,_⟩
 ·obtain rfl:c=.slice none 0 0:=(List.cons.inj e2).1
  exact⟨none,0, [],rfl,λj hj=>by simp at hj⟩
 obtain rfl:c=.slice (some a) len cap:=(List.cons.inj e2).1;subst hn'
 have each:∀i,i<len->∃q:Int×Int,w.cell? (a.add (i*2))=some (.int .i64 q.1)/\w.cell? ((a.add (i*2)).add 1)=some (.int .i64 q.2):=by
  intro i hi;have h1:=hel i hi;rw[Ak.cellsLink,List.getElem?_eq_getElem (by omega)]at h1;obtain⟨cs',h2,h3⟩:=Option.bind_eq_some_iff.1 h1;obtain⟨ys,n,rfl,hx,hl,hy,hf⟩:=DataW.trod_struct Tryz.underlying69 h3;rw[Ak.cellsLink]at hl;have hy:ys.length=2:=hy;obtain⟨c0,c1,rfl⟩:=Nt.list2 hl;obtain⟨y0,y1,rfl⟩:=Nt.list2 hy;have g0:DataW.trod enc Tryz.prog w 0 spare held n 3 (([c0,c1].drop 0).take (Tryz.prog.cellsOf 3))= [y0,y1][0]? :=hf 0 _ rfl;have g1:DataW.trod enc Tryz.prog w 0 spare held n 3 (([c0,c1].drop 1).take (Tryz.prog.cellsOf 3))= [y0,y1][1]? :=hf 1 _ rfl;rw[Tk.cellsInt1]at g0 g1;obtain⟨o,e0,_⟩:=DataW.trod_int Tryz.underlying3 g0;obtain⟨m,e1,_⟩:=DataW.trod_int Tryz.underlying3 g1;obtain rfl:c0=.int .i64 o:=(List.cons.inj e0).1;obtain rfl:c1=.int .i64 m:=(List.cons.inj e1).1;obtain⟨_,hl3,hc⟩:=World.cells?_some h2;exact⟨(o,m),by simpa [Addr.add]using hc 0 (by simp),by simpa using hc 1 (by simp)⟩
 by_cases hz:len=0
 ·subst hz
  exact⟨some a,cap, [],rfl,λj hj=>by simp at hj⟩
 obtain⟨q,hq⟩:=choose_lt each;have hlen':((List.range len).map q).length=len:=by simp
 refine⟨some a,cap,(List.range len).map q,by rw[hlen'],λj hj=> ?_⟩;obtain⟨g,off,spot⟩:=a;obtain⟨h0,_⟩:=hq 0 (by omega);have hspot:spot=none:=by simpa [Addr.add]using World.cell?_spot h0
 subst hspot
 have hg:g<w.heap.size:=by
  have:=Tk.cell_lt h0;simpa [Addr.add]using this
 have hget:((List.range len).map q)[j]=q j:=by simp
 rw[hget];rw[hlen']at hj;obtain⟨p0,p1⟩:=hq j hj;rw[Go.WideShapes.add_plain]at p0;rw[Ak.ea]at p1;exact⟨g,off,rfl,hg,p0,p1⟩
theorem Ac.open_cells:∀(fuel:Nat) (cs:List Value) (x:DataW H×List MemPlace),DataW.trod enc Tryz.prog w 0 spare held fuel 32 cs=some x->
  ∃(T:Ac) (V:Ac.Vs),cs=(Ac.row T V).toList/\∀e,fuel<=e->Ac.Lies w w.heap.size e fuel V T:=by
 intro fuel
 induction fuel using Nat.strongRecOn with
 |_ fuel ih=>
  intro cs x h;obtain⟨ys,n,rfl,hx,hl,hy,hf⟩:=DataW.trod_struct Tryz.underlying32 h;rw[Ak.cellsAct]at hl;have hy:ys.length=9:=hy;obtain⟨c0,c1,c2,c3,c4,c5,c6,c7,c8,c9,c10,c11,hcs⟩:=Ak.list12 hl;obtain⟨y0,y1,y2,y3,y4,y5,y6,y7,y8,hys⟩:=Ak.list9 hy;subst hcs;subst hys;have g0:DataW.trod enc Tryz.prog w 0 spare held n 3 (([c0,c1,c2,c3,c4,c5,c6,c7,c8,c9,c10,c11].drop 0).take (Tryz.prog.cellsOf 3))=some y0:=hf 0 _ rfl;have g1:DataW.trod enc Tryz.prog w 0 spare held n 3 (([c0,c1,c2,c3,c4,c5,c6,c7,c8,c9,c10,c11].drop 1).take (Tryz.prog.cellsOf 3))=some y1:=hf 1 _ rfl;have g2:DataW.trod enc Tryz.prog w 0 spare held n 3 (([c0,c1,c2,c3,c4,c5,c6,c7,c8,c9,c10,c11].drop 2).take (Tryz.prog.cellsOf 3))=some y2:=hf 2 _ rfl;have g3:DataW.trod enc Tryz.prog w 0 spare held n 3 (([c0,c1,c2,c3,c4,c5,c6,c7,c8,c9,c10,c11].drop 3).take (Tryz.prog.cellsOf 3))=some y3:=hf 3 _ rfl;have g4:DataW.trod enc Tryz.prog w 0 spare held n 24 (([c0,c1,c2,c3,c4,c5,c6,c7,c8,c9,c10,c11].drop 4).take (Tryz.prog.cellsOf 24))=some y4:=hf 4 _ rfl;have g5:DataW.trod enc Tryz.prog w 0 spare held n 22 (([c0,c1,c2,c3,c4,c5,c6,c7,c8,c9,c10,c11].drop 7).take (Tryz.prog.cellsOf 22))=some y5:=hf 5 _ rfl;have g6:DataW.trod enc Tryz.prog w 0 spare held n 25 (([c0,c1,c2,c3,c4,c5,c6,c7,c8,c9,c10,c11].drop 8).take (Tryz.prog.cellsOf 25))=some y6:=hf 6 _ rfl
  have g7:DataW.trod enc Tryz.prog w 0 spare held n 26 (([c0,c1,c2,c3,c4,c5,c6,c7,c8,c9,c10,c11].drop 9).take (Tryz.prog.cellsOf 26))=some y7:=hf 7 _ rfl;have g8:DataW.trod enc Tryz.prog w 0 spare held n 30 (([c0,c1,c2,c3,c4,c5,c6,c7,c8,c9,c10,c11].drop 10).take (Tryz.prog.cellsOf 30))=some y8:=hf 8 _ rfl;rw[Tk.cellsInt1]at g0 g1 g2 g3;rw[Tk.cellsTerm]at g4;rw[Tk.cellsTerms]at g5;rw[Ak.cellsActs]at g6;rw[Ak.cellsLinks]at g7;rw[Nt.cellsNet]at g8;obtain⟨k0,e0,_⟩:=DataW.trod_int Tryz.underlying3 g0;obtain⟨k1,e1,_⟩:=DataW.trod_int Tryz.underlying3 g1;obtain⟨k2,e2,_⟩:=DataW.trod_int Tryz.underlying3 g2;obtain⟨k3,e3,_⟩:=DataW.trod_int Tryz.underlying3 g3;obtain rfl:c0=.int .i64 k0:=(List.cons.inj e0).1;obtain rfl:c1=.int .i64 k1:=(List.cons.inj e1).1;obtain rfl:c2=.int .i64 k2:=(List.cons.inj e2).1;obtain rfl:c3=.int .i64 k3:=(List.cons.inj e3).1;obtain⟨S,v,hS,hSl⟩:=Tm.open_term n _ _ g4;have h4: [c4,c5,c6]= [.int .i64 S.op,.int .i64 S.num,v]:=hS;simp only[List.cons.injEq,and_true]at h4;obtain⟨rfl,rfl,rfl⟩:=h4;obtain⟨ca,cc,cs,rfl,hcs⟩:=Ak.open_conds n c7 _ g5;obtain⟨la,lc,ls,rfl,hls⟩:=Ak.open_links n c9 _ g7;obtain⟨zs,n2,rfl,hx2,hl2,hy2,hf2⟩:=DataW.trod_struct Tryz.underlying30 g8;have hy2:zs.length=2:=hy2;obtain⟨z0,z1,rfl⟩:=Nt.list2 hy2
  have m0:DataW.trod enc Tryz.prog w 0 spare held n2 27 (([c10,c11].drop 0).take (Tryz.prog.cellsOf 27))=some z0:=hf2 0 _ rfl;have m1:DataW.trod enc Tryz.prog w 0 spare held n2 28 (([c10,c11].drop 1).take (Tryz.prog.cellsOf 28))=some z1:=hf2 1 _ rfl;rw[Nt.cellsNodes]at m0;rw[Nt.cellsFlows]at m1;obtain⟨an,cn,ns,rfl,hN⟩:=Nt.open_nodes n2 c10 _ m0;obtain⟨af,cf,fs,rfl,hF⟩:=Nt.open_flows n2 c11 _ m1
  have hN':∀e,n2<=e->Nt.Nds w w.heap.size e an ns:=λe he j hj=>by
   obtain⟨g,off,u,p1,p2,p3,p4,p5,p6,p7,p8⟩:=hN j hj;exact⟨g,off,u,p1,p2,p3,p4,p5,p6,p7,p8.up he⟩
  have hF':∀e,n2<=e->Nt.Fls w w.heap.size e af fs:=λe he j hj=>by
   obtain⟨g,off,u,p1,p2,p3,p4,p5,p6,p7,p8,p9⟩:=hF j hj;exact⟨g,off,u,p1,p2,p3,p4,p5,p6,p7,p8,p9.up he⟩
  have hcs':∀e,n2+1<=e->Ac.Tms w w.heap.size e ca cs:=λe he j hj=>by
   obtain⟨g,off,u,p1,p2,p3,p4,p5,p6⟩:=hcs j hj;exact⟨g,off,u,p1,p2,p3,p4,p5,p6.up he⟩
  have own:∀(ks:List Ac) (vk:Value) e,n2+1+1<=e->Ac.Own w w.heap.size e ⟨c6,.slice ca cs.length cc,vk,.slice la ls.length lc,.slice an ns.length cn,.slice af fs.length cf⟩ (.mk k0 k1 k2 k3 S cs ks ls ns fs):=λks vk e he=>
   ⟨hSl.up (by omega),⟨_,_,rfl,hcs' e (by omega)⟩,⟨_,_,rfl,hls⟩,⟨_,_,rfl,hN' e (by omega)⟩,⟨_,_,rfl,hF' e (by omega)⟩⟩
  rcases DataW.trod_slice Tryz.underlying25 g6 with⟨e6,_⟩|⟨a,len,cap,elems,rest,n',hn',e6,_,_,hlc,_,hlen,hel,_,_⟩
  ·obtain rfl:c8=.slice none 0 0:=(List.cons.inj e6).1
   exact⟨.mk k0 k1 k2 k3 S cs [] ls ns fs,⟨c6,.slice ca cs.length cc,.slice none 0 0,.slice la ls.length lc,.slice an ns.length cn,.slice af fs.length cf⟩,rfl,λe he=>⟨own [] _ e he,none,0,rfl,λj hj=>absurd hj (Nat.not_lt_zero j)⟩⟩
  obtain rfl:c8=.slice (some a) len cap:=(List.cons.inj e6).1;obtain rfl:n2=n':=by omega
  have each:∀i,i<len->∃q:Ac,∃U:Ac.Vs,(∀k (hk:k<(Ac.row q U).size),w.cell? ((a.add (i*12)).add k)=some (Ac.row q U)[k])/\∀e,n2<=e->Ac.Lies w w.heap.size e n2 U q:=by
   intro i hi;have h1:=hel i hi;rw[Ak.cellsAct,List.getElem?_eq_getElem (by omega)]at h1;obtain⟨cs',h2,h3⟩:=Option.bind_eq_some_iff.1 h1;obtain⟨q,U,rfl,hq⟩:=ih n2 (by omega) cs' _ h3;obtain⟨_,hl3,hc⟩:=World.cells?_some h2;refine⟨q,U,λk hk=> ?_,hq⟩;have:=hc k (by simpa [Ac.row]using hk);rw[this]
   simp
  obtain⟨q,hq⟩:=choose_lt each;obtain⟨U,hU⟩:=choose_lt hq;have hlen':((List.range len).map q).length=len:=by simp
  refine⟨.mk k0 k1 k2 k3 S cs ((List.range len).map q) ls ns fs,⟨c6,.slice ca cs.length cc,.slice (some a) len cap,.slice la ls.length lc,.slice an ns.length cn,.slice af fs.length cf⟩,rfl,λe he=>⟨own _ _ e he,some a,cap,by rw[show(Ac.mk k0 k1 k2 k3 S cs ((List.range len).map q) ls ns fs).ks=(List.range len).map q from rfl,hlen'],λj hj=> ?_⟩⟩;have hj':j<((List.range len).map q).length:=hj;have hjl:j<len:=by rw[hlen']at hj';exact hj'
  obtain⟨g,off,spot⟩:=a;have h0:=(hU 0 (by omega)).1 0 (by simp[Ac.row]);have hspot:spot=none:=by simpa [Addr.add]using World.cell?_spot h0
  subst hspot
  have hg:g<w.heap.size:=by
   have:=Tk.cell_lt h0;simpa [Addr.add]using this
  have hget:(Ac.mk k0 k1 k2 k3 S cs ((List.range len).map q) ls ns fs).ks[j]'hj=q j:=by
   show((List.range len).map q)[j]=q j
   simp
  refine⟨g,off,U j,rfl,hg, ?_, ?_⟩
  ·rw[hget]
   intro k hk;have:=(hU j hjl).1 k hk;rw[Ak.ea]at this;exact this
  rw[hget];exact((hU j hjl).2 e (by omega)).up (by omega)
end
theorem Ac.open_act {H:Type}{enc:TypeId×Value->H}{w:World}{spare:Nat->Bool}{held:Bool}{r:Go.Reach}{b0:Nat}{v:Value}{d:DataW H}{ps:List MemPlace}(hval:Value.okWide Tryz.prog w r b0 32 v)(h:DataW.Trod enc Tryz.prog w 0 spare held 32 v d ps):
  ∃(T:Ac) (V:Ac.Vs) (e dd:Nat),v=.agg (Ac.row T V)/\Ac.Lies w w.heap.size e dd V T:=by
 obtain⟨cs,rfl,_⟩:=okWide_struct Tryz.underlying32 hval;obtain⟨fuel,hf0⟩:=h;obtain⟨T,V,hcs,hL⟩:=Ac.open_cells fuel _ _ hf0;refine⟨T,V,fuel,fuel, ?_,hL fuel (Nat.le_refl _)⟩;have:cs.toList=(Ac.row T V).toList:=hcs
 congr 1
 exact Array.ext' this
def Dd.Nums (w:World)(B:Nat)(a:Option Addr)(l:List Int):Prop:=∀j (h:j<l.length),∃g off,a=some ⟨g,off,none⟩/\g<B/\w.cell? ⟨g,off+j,none⟩=some (.int .i64 l[j])
section
variable {H:Type} {enc:TypeId×Value->H} {w:World} {spare:Nat->Bool} {held:Bool}
end
end Go.Proofs
