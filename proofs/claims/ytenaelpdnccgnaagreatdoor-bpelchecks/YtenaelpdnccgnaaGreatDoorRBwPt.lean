import Derived.Test.YtenaelpdnccgnaaGreatDoorRBwPart
import Derived.Test.YtenaelpdnccgnaaGreatDoorRAcFormAny
import Derived.Test.YtenaelpdnccgnaaGreatDoorRows
import Derived.OpenShut
set_option maxRecDepth 100000
set_option maxHeartbeats 32000000
namespace Go.Proofs
open Go.RowKit Go.Shelf
theorem Bw.At.kid {g o:Nat}{r:Array Value}{W:World}(h:Bw.At g o r W)(hr:r[6]? =some (.slice none 0 0)):∃cur T,W.heap[g]? =some (.cells cur T (0,0))/\cur[o+4+2]? =some (.slice none 0 0):=by
 obtain⟨cur,T,h1,h2⟩:=h;exact⟨cur,T,h1,(h2 6 (by decide)).trans hr⟩
theorem Bw.own_cells {B g0 n c:Nat}{ps:List Value}{W:World}(h:W.ownsRow B 96 1 (.slice (some ⟨g0,0,none⟩) n c) n ps)(j:Nat)(v:Value)(hv:ps[j]? =some v):W.cell? ⟨g0,j,none⟩=some v:=by
 have h1:=World.ownsRow.cells h (g:=g0) rfl j v hv;have hadd:((⟨g0,0,none⟩:Addr).add j)=⟨g0,j,none⟩:=by cases j<;>simp[Addr.add]
 rwa [hadd]at h1
theorem Bw.own_cap {B g0 n c:Nat}{ps:List Value}{W:World}(h:W.ownsRow B 96 1 (.slice (some ⟨g0,0,none⟩) n c) n ps):n<=c:=by
 rcases h.2 with⟨e,_⟩|⟨g,cap,cur,hv,_,_,h4,_⟩
 ·simp at e
 simp only[Value.slice.injEq]at hv;omega
theorem Tryz.bwPart (g c kb cap:Nat)(k1 n1 k2 n2:Int)(w:World)(hA:Bw.At g 2 (Bw.root kb cap) w)(hA1:Bw.At g 16 (Bw.leaf k1 n1) w)(hA2:Bw.At g 30 (Bw.leaf k2 n2) w)(hT:Bw.Two kb k1 n1 k2 n2 w)(hK:kb<w.heap.size):
  Calls Tryz.prog 32 #[.slice (some ⟨g,0,none⟩) 3 c] w λe w'=>e=.returned (.tuple #[])/\Tk.But (λi=>i=g) w w':=by
 have HA:Hid (Bw.At g 16 (Bw.leaf k1 n1) w/\Bw.At g 30 (Bw.leaf k2 n2) w/\g<w.heap.size/\Bw.At g 2 (Bw.root kb cap) w):=⟨hA1,hA2,hA.lt,hA⟩;have C1:Hid _:=Tryz.bwOwn_root g 2 kb cap k1 n1 k2 n2 w hA hT hK;clear hA hA1 hA2 hT hK
 go_enter Tryz.func32,Tryz.ntmps32
 go_wp2;refine wp_loop_rounds 4 ?_;rw[rounds_succ]
 go_wp2_with fail
 refine Calls.mono C1.out ?_;rintro e W1 ⟨K',c',g1,d1,rfl,hKb,o1,hg1,a1,a2,b1,hne⟩;have hgl:=HA.out.2.2.1;have hge:w.heap.size<=g1:=(World.ownsRow.lt o1 g1 rfl).1
 have H1:Hid (Bw.At g 2 (Bw.root K' c') W1/\Bw.At g 16 (Bw.leaf k1 n1) W1/\Bw.At g 30 (Bw.leaf k2 n2) W1/\Bw.At K' 0 (Bw.leaf k1 n1) W1/\Bw.At K' 12 (Bw.leaf k2 n2) W1/\Tk.But (λi=>i=g) w W1/\g1≠K'/\w.heap.size<=g1/\W1.ownsRow w.heap.size 96 1 (.slice (some ⟨g1,0,none⟩) 3 d1) 3 [.pointer (some ⟨g,2+4,none⟩),.pointer (some ⟨K',4,none⟩),.pointer (some ⟨K',16,none⟩)]):=
  ⟨(HA.out.2.2.2.put 8 (by decide) rfl _).keep hg1,(HA.out.1.put_other 10 (.inl (by decide)) _).keep hg1,(HA.out.2.1.put_other 10 (.inl (by decide)) _).keep hg1,a1,a2,b1,hne,hge,o1⟩
 have C2:Hid _:=Tryz.bwOwn_leaf g 16 k1 n1 w.heap.size 3 d1 _ _ W1 H1.out.2.1 o1 (by decide) b1.size (λb hb=>by obtain rfl:=Option.some.inj hb;show g1≠g;omega);clear o1 hg1 a1 a2 b1 hne C1;go_wp2;rw[rounds_succ]
 go_wp2_with fail
 refine Calls.mono C2.out ?_;rintro e W2 ⟨g2,d2,rfl,o2,t2,q2⟩;have hs1:=H1.out.2.2.2.2.2.1.size;have hl1:=H1.out.2.2.2.1.lt;have keep1:∀k,k<W1.heap.size->k≠g1->W2.heap[k]? =W1.heap[k]? :=λk hk hn=>t2.block k hk (λe=>hn (Option.some.inj e))
 have hg2:g2≠K'/\g2≠g/\w.heap.size<=g2:=by
  rcases q2 with e|e
  ·obtain rfl:=Option.some.inj e
   exact⟨H1.out.2.2.2.2.2.2.1,by show g1≠g;omega,hge⟩
  exact⟨by omega,by omega,by omega⟩
 have H2:Hid (Bw.At g 2 (Bw.root K' c') W2/\Bw.At g 16 (Bw.leaf k1 n1) W2/\Bw.At g 30 (Bw.leaf k2 n2) W2/\Bw.At K' 0 (Bw.leaf k1 n1) W2/\Bw.At K' 12 (Bw.leaf k2 n2) W2/\Tk.But (λi=>i=g) w W2/\g2≠K'/\w.heap.size<=g2):=by
  have kg:=keep1 g (by omega) (by omega);have kK:=keep1 K' hl1 (Ne.symm H1.out.2.2.2.2.2.2.1);exact⟨H1.out.1.keep kg,H1.out.2.1.keep kg,H1.out.2.2.1.keep kg,H1.out.2.2.2.1.keep kK,H1.out.2.2.2.2.1.keep kK,⟨t2.os.trans H1.out.2.2.2.2.2.1.os,t2.tape.trans H1.out.2.2.2.2.2.1.tape,t2.output.trans H1.out.2.2.2.2.2.1.output,Nat.le_trans hs1 t2.size,λk h1 h2=>(keep1 k (by omega) (by omega)).trans (H1.out.2.2.2.2.2.1.block k h1 h2)⟩,hg2.1,hg2.2.2⟩
 have C3:Hid _:=Tryz.bwOwn_leaf g 30 k2 n2 w.heap.size 4 d2 _ _ W2 H2.out.2.2.1 o2 (by decide) H2.out.2.2.2.2.2.1.size (λb hb=>by obtain rfl:=Option.some.inj hb;show g2≠g;exact hg2.2.1);clear o2 t2 q2 keep1 hs1 hl1 hg2 C2 hge;go_wp2;rw[rounds_succ]
 go_wp2_with fail
 refine Calls.mono C3.out ?_;rintro e W3 ⟨g3,d3,rfl,o3,t3,q3⟩;have hs2:=H2.out.2.2.2.2.2.1.size;have hl2:=H2.out.2.2.2.1.lt;have hge2:=H2.out.2.2.2.2.2.2.2;have keep2:∀k,k<W2.heap.size->k≠g2->W3.heap[k]? =W2.heap[k]? :=λk hk hn=>t3.block k hk (λe=>hn (Option.some.inj e));have HE:Hid (Tk.But (λi=>i=g) w W3):=⟨t3.os.trans H2.out.2.2.2.2.2.1.os,t3.tape.trans H2.out.2.2.2.2.2.1.tape,t3.output.trans H2.out.2.2.2.2.2.1.output,Nat.le_trans hs2 t3.size,λk h1 h2=>(keep2 k (by omega) (by omega)).trans (H2.out.2.2.2.2.2.1.block k h1 h2)⟩;have kg:=keep2 g (by omega) (by omega);have kK:=keep2 K' hl2 (Ne.symm H2.out.2.2.2.2.2.2.1)
 have C4:Hid (Calls Tryz.prog 56 #[.slice (some ⟨g3,0,none⟩) 5 d3,.func (.func 57) #[] #[],.int .i64 53687091] W3 λe w'=>e=.returned (.tuple #[])/\w'=W3):=by
  refine Tryz.bwPart_nil g3 5 d3 W3 (Bw.own_cap o3) (λj hj=> ?_) (by decide);have oc:=Bw.own_cells o3
  match j,hj with
  |0,_=>obtain⟨cur,T,h1,h2⟩:=(H2.out.1.keep kg).kid rfl;exact⟨_,_,cur,T,oc 0 _ rfl,h1,h2⟩
  |1,_=>obtain⟨cur,T,h1,h2⟩:=(H2.out.2.2.2.1.keep kK).kid rfl;exact⟨_,_,cur,T,oc 1 _ rfl,h1,h2⟩
  |2,_=>obtain⟨cur,T,h1,h2⟩:=(H2.out.2.2.2.2.1.keep kK).kid rfl;exact⟨_,_,cur,T,oc 2 _ rfl,h1,h2⟩
  |3,_=>obtain⟨cur,T,h1,h2⟩:=(H2.out.2.1.keep kg).kid rfl;exact⟨_,_,cur,T,oc 3 _ rfl,h1,h2⟩
  |4,_=>obtain⟨cur,T,h1,h2⟩:=(H2.out.2.2.1.keep kg).kid rfl;exact⟨_,_,cur,T,oc 4 _ rfl,h1,h2⟩
 clear o3 t3 q3 keep2 kg kK C3 hs2 hl2 hge2 hgl;go_wp2;rw[rounds_succ]
 go_wp2_with fail
 refine Calls.mono C4.out ?_;rintro e W4 ⟨rfl,hW4⟩;obtain rfl:=hW4.symm;go_wp2
 go_end0
 exact⟨rfl,HE.out⟩
theorem Tryz.bwItems (kb cap:Nat)(k1 n1 k2 n2:Int)(w:World)(hT:Bw.Two kb k1 n1 k2 n2 w)(hK:kb<w.heap.size):
  Calls Tryz.prog 14 #[.agg (Bw.root kb cap)] w λe w'=>∃g c,e=.returned (.slice (some ⟨g,0,none⟩) 3 c)/\Below w.heap.size w w':=by
 obtain⟨w1,hw1⟩:=pE (w.alloc (.cells (Bw.root kb cap) 32));have B1:=pB hw1;have N1:=pH hw1;have s1:w1.heap.size=w.heap.size+1:=by rw[<-hw1];simp
 obtain⟨w2,hw2⟩:=pE (w1.alloc (.cells #[.int .i64 11184810] 3));have X2:Bw.Bx w1.heap.size 11184810 w2:=pH hw2;have B2:=pB hw2;have N2:w2.heap[w.heap.size]? =some (.cells (Bw.root kb cap) 32 (0,0)):=(B2.block _ (by omega)).trans N1;have b02:Below w.heap.size w w2:=B1.trans (B2.mono B1.size);have hu:=Tryz.underlying32
 have HB:Hid (∀W,Tk.But (λi=>i=w1.heap.size) w2 W->W.heap[w.heap.size]? =some (.cells (Bw.root kb cap) 32 (0,0))/\Below w.heap.size w W/\Bw.Two kb k1 n1 k2 n2 W/\kb<W.heap.size):=λW hb=>by
  have h1:Below w.heap.size w W:=b02.trans (hb.below b02.size (by intro k hk e;omega));exact⟨(hb.block _ (by have:=B2.size;omega) (by omega)).trans N2,h1,hT.keep (h1.block kb hK),Nat.lt_of_lt_of_le hK h1.size⟩
 have C1:Hid _:=Tryz.bwRes_root kb cap k1 n1 k2 n2 w1.heap.size 11184810 w2 X2 (HB.out w2 (.refl _ _)).2.2.1 (HB.out w2 (.refl _ _)).2.2.2 (by omega) (by decide) (by decide);have H1:Hid _:=hw1;have H2:Hid _:=hw2;clear hT hK hw1 hw2 B1 N1 s1 X2 B2 b02
 go_enter Tryz.func14,Tryz.ntmps14
 go_upto_region 1 with fail
 rw[H1.out]
 go_upto_region 2 with fail
 rw[H2.out];clear H1 H2
 go_wp2_with (refine wpList_load_row rfl 32 _ rfl _ rfl 32 _ (0,0) _ N2 hu rfl Bw.info ?_)
 refine Calls.mono C1.out ?_;rintro e W3 ⟨rfl,b3⟩;obtain⟨N3,h3,T3,k3⟩:=HB.out W3 b3;have H3:Hid (Below w.heap.size w W3/\Bw.Two kb k1 n1 k2 n2 W3/\kb<W3.heap.size):=⟨h3,T3,k3⟩;have C2:Hid _:=Tryz.bwList_root kb cap k1 n1 k2 n2 W3 T3 k3;clear b3 HB C1 N2 h3 T3 k3
 go_upto_region 4 with fail
 go_wp2_with (refine wpList_load_row rfl 32 _ rfl _ rfl 32 _ (0,0) _ N3 hu rfl Bw.info ?_)
 refine Calls.mono C2.out ?_;rintro e W4 ⟨g,c,rfl,o4,b4⟩
 have C3:Hid (Calls Tryz.prog 32 #[.slice (some ⟨g,0,none⟩) 3 c] W4 λe w'=>e=.returned (.tuple #[])/\Below w.heap.size w w'):=by
  rcases o4.2 with⟨e,_⟩|⟨g',cap',cur,hv,hge,hgc,hc1,_,hc3,hc4⟩
  ·simp at e
  simp only[Value.slice.injEq,Option.some.injEq,Addr.mk.injEq]at hv;obtain⟨⟨rfl,-,-⟩,-,rfl⟩:=hv;have hx:∀o (r:Array Value),r.size=12->o+12<=42->(∀i,i<12->(Bw.item (-1) 0 (Bw.root kb cap)++Bw.item 0 0 (Bw.leaf k1 n1)++Bw.item 0 1 (Bw.leaf k2 n2))[o+i]? =r[i]?)->Bw.At g o r W4:=λo r _ ho h=>Bw.At.of_take hgc hc4 o r h ho;refine(Tryz.bwPart g c kb cap k1 n1 k2 n2 W4 (hx 2 _ rfl (by decide) λi hi=> ?_) (hx 16 _ rfl (by decide) λi hi=> ?_) (hx 30 _ rfl (by decide) λi hi=> ?_) (H3.out.2.1.keep (b4.block kb H3.out.2.2)) (Nat.lt_of_lt_of_le H3.out.2.2 b4.size)).mono ?_
  ·match i,hi with
   |0,_|1,_|2,_|3,_|4,_|5,_|6,_|7,_|8,_|9,_|10,_|11,_=>rfl
  ·match i,hi with
   |0,_|1,_|2,_|3,_|4,_|5,_|6,_|7,_|8,_|9,_|10,_|11,_=>rfl
  ·match i,hi with
   |0,_|1,_|2,_|3,_|4,_|5,_|6,_|7,_|8,_|9,_|10,_|11,_=>rfl
  rintro e w' ⟨h1,h2⟩;have hs:=H3.out.1.size;have hb4:Below w.heap.size w W4:=H3.out.1.trans (b4.mono hs);exact⟨h1,hb4.trans (h2.below hb4.size (by intro k hk e;omega))⟩
 clear o4 b4 C2 N3
 go_wp2_with fail
 refine Calls.mono C3.out ?_;rintro e W5 ⟨rfl,b5⟩;have HE:Hid _:=b5;clear b5 C3;go_wp2;go_ret;exact⟨g,c,rfl,HE.out⟩
end Go.Proofs
namespace Go.Proofs
open Go.RowKit
namespace Bw
def eZ:Tm:=.mk 0 0 []
def e1:Ac:=.mk 2 1 0 0 eZ [] [] [] [] []
def e2:Ac:=.mk 5 2 0 0 eZ [] [] [] [] []
def eA:Ac:=.mk 6 0 0 0 eZ [] [e1,e2] [] [] []
def eB:Ac:=.mk 6 0 0 0 eZ [] [e1,e1] [] [] []
theorem e_same (T:Ac)(h:T.rest=Ac.zeroOf T.kind):Ac.Same1 T.rest (Ac.zeroOf T.kind):=by rw[h];exact⟨rfl,rfl,rfl,rfl,rfl,rfl,rfl,rfl,rfl⟩
theorem e1_form:e1.Formed:=(Ac.formed_2 rfl).2 ⟨by kernel_rfl,⟨by decide,by decide⟩,⟨by decide,by decide⟩,e_same e1 (by kernel_rfl),rfl⟩
theorem e2_form:e2.Formed:=(Ac.formed_5 rfl).2 ⟨by kernel_rfl,⟨by decide,by decide⟩,e_same e2 (by kernel_rfl),rfl⟩
theorem eA_form:eA.Formed:=(Ac.formed_6 rfl).2 ⟨by kernel_rfl,by decide,e_same eA (by kernel_rfl),trivial⟩
theorem eB_form:eB.Formed:=(Ac.formed_6 rfl).2 ⟨by kernel_rfl,by decide,e_same eB (by kernel_rfl),trivial⟩
theorem leaf_go (x:Ac)(hx:x.Formed)(hk:x.ks= []):(x.go Ac.stepF ()).1=true:=by
 rw[Ac.go_eq,if_pos (show(Ac.stepF x ()).1=true from(Ac.formB_iff x).2 hx),hk];rfl
theorem eA_go:(eA.go Ac.stepF ()).1=true:=by
 rw[Ac.go_eq,if_pos (show(Ac.stepF eA ()).1=true from(Ac.formB_iff eA).2 eA_form)];show(Ac.goes Ac.stepF [e1,e2] _).1=true;rw[Ac.goes,if_pos (leaf_go e1 e1_form rfl),Ac.goes,if_pos (leaf_go e2 e2_form rfl)];rfl
theorem eB_go:(eB.go Ac.stepF ()).1=true:=by
 rw[Ac.go_eq,if_pos (show(Ac.stepF eB ()).1=true from(Ac.formB_iff eB).2 eB_form)];show(Ac.goes Ac.stepF [e1,e1] _).1=true;rw[Ac.goes,if_pos (leaf_go e1 e1_form rfl),Ac.goes,if_pos (leaf_go e1 e1_form rfl)];rfl
theorem eA_check:eA.checkC=0:=by
 have h1:eA.tooB=false:=by kernel_rfl
 have h2:eA.twiceB=false:=by kernel_rfl
 unfold Ac.checkC;rw[h1,h2,if_neg (by decide),if_neg (λh=> ?_),if_neg (by decide)]
 rcases h with h|h|h
 ·exact absurd h (by decide)
 ·exact absurd h (by decide)
 rw[eA_go]at h;cases h
theorem eB_check:eB.checkC=8:=by
 have h1:eB.tooB=false:=by kernel_rfl
 have h2:eB.twiceB=true:=by kernel_rfl
 unfold Ac.checkC;rw[h1,h2,if_neg (by decide),if_neg (λh=> ?_),if_pos rfl]
 rcases h with h|h|h
 ·exact absurd h (by decide)
 ·exact absurd h (by decide)
 rw[eB_go]at h;cases h
theorem e_fit (k nd a b:Int)(ks:List Ac)(h:ks.length<=1000):(Ac.mk k nd a b eZ [] ks [] [] []).Fit:=by
 have nil:∀{α:Type} {P:α->Prop},∀x∈([]:List α),P x:=λx hx=>by cases hx
 exact⟨⟨(by decide:eZ.size<=2147483647),(by decide:eZ.depth<=1000)⟩,nil,nil,nil,Nat.zero_le _,h,Nat.zero_le _,Nat.zero_le _,Nat.zero_le _⟩
theorem leaf_fit (k nd a b:Int):(Ac.mk k nd a b eZ [] [] [] [] []).All Ac.Fit:=by
 rw[Ac.all_eq];exact⟨e_fit k nd a b [] (Nat.zero_le _),trivial⟩
theorem seq_fit (x y:Ac)(hx:x.All Ac.Fit)(hy:y.All Ac.Fit):(Ac.mk 6 0 0 0 eZ [] [x,y] [] [] []).All Ac.Fit:=by
 rw[Ac.all_eq];exact⟨e_fit 6 0 0 0 [x,y] (by show 2<=1000;decide),hx,hy,trivial⟩
theorem e1_fit:e1.All Ac.Fit:=leaf_fit 2 1 0 0
theorem e2_fit:e2.All Ac.Fit:=leaf_fit 5 2 0 0
theorem eA_fit:eA.All Ac.Fit:=seq_fit e1 e2 e1_fit e2_fit
theorem eB_fit:eB.All Ac.Fit:=seq_fit e1 e1 e1_fit e1_fit
def vN:Ac.Vs:=⟨.slice none 0 0,.slice none 0 0,.slice none 0 0,.slice none 0 0,.slice none 0 0,.slice none 0 0⟩
def vS (K:Nat):Ac.Vs:=⟨.slice none 0 0,.slice none 0 0,.slice (some ⟨K,0,none⟩) 2 2,.slice none 0 0,.slice none 0 0,.slice none 0 0⟩
theorem leaf_lies (W:World)(x:Ac)(hk:x.ks= [])(h:x.t=eZ/\x.cs= []/\x.ls= []/\x.ns= []/\x.fs= []):Ac.Lies W W.heap.size 1 1 vN x:=by
 obtain⟨k,nd,a,b,t,cs,ks,ls,ns,fs⟩:=x;obtain⟨rfl,rfl,rfl,rfl,rfl⟩:t=eZ/\cs= []/\ls= []/\ns= []/\fs= []:=h;obtain rfl:ks= []:=hk;exact⟨⟨⟨none,0,rfl,.inl rfl⟩,⟨none,0,rfl,λj h=>absurd h (Nat.not_lt_zero j)⟩,⟨none,0,rfl,λj h=>absurd h (Nat.not_lt_zero j)⟩,⟨none,0,rfl,λj h=>absurd h (Nat.not_lt_zero j)⟩,⟨none,0,rfl,λj h=>absurd h (Nat.not_lt_zero j)⟩⟩,none,0,rfl,λj hj=>absurd hj (Nat.not_lt_zero j)⟩
theorem row_of (W:World)(K o:Nat)(r:Array Value)(h:W.rangeAt K o r.toList):Ac.Row W K o r:=λi hi=>h i _ (by simp[hi])
theorem seq_lies (W:World)(K:Nat)(x y:Ac)(hK:K<W.heap.size)(hx:Ac.Lies W W.heap.size 1 1 vN x)(hy:Ac.Lies W W.heap.size 1 1 vN y)(rx:W.rangeAt K 0 (Ac.row x vN).toList)(ry:W.rangeAt K 12 (Ac.row y vN).toList):Ac.Lies W W.heap.size 1 2 (vS K) (.mk 6 0 0 0 eZ [] [x,y] [] [] []):=by
 refine⟨⟨⟨none,0,rfl,.inl rfl⟩,⟨none,0,rfl,λj h=>absurd h (Nat.not_lt_zero j)⟩,⟨none,0,rfl,λj h=>absurd h (Nat.not_lt_zero j)⟩,⟨none,0,rfl,λj h=>absurd h (Nat.not_lt_zero j)⟩,⟨none,0,rfl,λj h=>absurd h (Nat.not_lt_zero j)⟩⟩,some ⟨K,0,none⟩,2,rfl,λj hj=> ?_⟩
 match j,hj with
 |0,_=>exact⟨K,0,vN,rfl,hK,row_of W K 0 _ rx,hx⟩
 |1,_=>exact⟨K,0,vN,rfl,hK,row_of W K 12 _ ry,hy⟩
end Bw
end Go.Proofs
namespace Go.Proofs
namespace Dd
def kkOf (T:Ac):List (Int×Int):=T.ks.map λx=>(x.kind,x.a)
theorem cover:∀(n:Nat) (ls:List (Int×Int)),(∀i:Nat,i<n->1<=ls.countP λl=>decide (l.2=(i:Int)))->n<=ls.countP λl=>decide (0<=l.2/\l.2<(n:Int))
 |0,_,_=>Nat.zero_le _
 |n+1,ls,h=>by
  have ih:=cover n ls λi hi=>h i (by omega);have h1:=h n (by omega)
  have h2:∀l:List (Int×Int),(l.countP λl=>decide (0<=l.2/\l.2<(n:Int)))+(l.countP λl=>decide (l.2=(n:Int)))<=l.countP λl=>decide (0<=l.2/\l.2<((n+1:Nat):Int)):=by
   intro l
   induction l with
   |nil=>simp
   |cons x r ihr=>
    rw[List.countP_cons,List.countP_cons,List.countP_cons]
    by_cases a:x.2=(n:Int)
    ·rw[decide_eq_false (show¬(0<=x.2/\x.2<(n:Int))by omega),decide_eq_true a,decide_eq_true (show 0<=x.2/\x.2<((n+1:Nat):Int)by omega),if_pos rfl,if_neg (by decide)]
     omega
    by_cases b:0<=x.2/\x.2<(n:Int)
    ·rw[decide_eq_true b,decide_eq_false a,decide_eq_true (show 0<=x.2/\x.2<((n+1:Nat):Int)by omega),if_pos rfl,if_neg (by decide)]
     omega
    rw[decide_eq_false b,decide_eq_false a,decide_eq_false (show¬(0<=x.2/\x.2<((n+1:Nat):Int))by omega),if_neg (by decide)];omega
  have:=h2 ls;omega
structure Right (T:Ac):Prop where
 web:Web T.ls (kkOf T)
 free:∃rk,Free T.ls rk
 tos:∀i (h:i<T.ls.length),-1<=T.ls[i].2/\T.ls[i].2<T.ks.length
 ins:∀k,k<T.ks.length->1<=T.ls.countP λl=>decide (l.2=(k:Int))
 outs:∀k (h:k<T.ks.length),T.ks[k].kind=12->T.ks[k].a=3->(T.ls.countP λl=>decide (l.1=(k:Int)))=T.ks[k].cs.length
 last:(T.ls.countP λl=>decide (l.2= -1))=1
 first:(T.ls.countP λl=>decide (l.1= -1))=1
 kids:0<T.ks.length
end Dd
end Go.Proofs
namespace Go.Proofs
namespace Ac
theorem numbered_kind {T:Ac}(h:T.Numbered):1<=T.kind/\T.kind<=14:=by unfold Numbered at h;omega
theorem formed_kind {T:Ac}(h:T.Formed):1<=T.kind/\T.kind<=14:=by
 unfold Formed at h
 rcases h with h|h|h|h|h|h|h|h|h|h|h|h|h|h|h<;>(have:=h.1;omega)
theorem formed_gate {T:Ac}(h:T.Formed)(hk:T.kind=12):1<=T.a/\T.a<=4:=by
 by_cases ha:T.a=3
 ·omega
 have:=(formed_12b hk ha).1 h;omega
theorem formD_gate {T:Ac}(h:T.FormD)(hk:T.kind=12):1<=T.a/\T.a<=4:=by
 have:=h.2.2.1;unfold Numbered at this;omega
theorem holds_iff {T:Ac}(hk:∀k∈T.ks,1<=k.kind/\k.kind<=14):T.holdsB=true↔∀k∈T.ks,kidBadD T.kind k.kind=false:=by
 unfold holdsB;rw[Bool.not_eq_true',List.any_eq_false]
 have e:∀k∈T.ks,(¬kidBad T.kind k.kind=true↔kidBadD T.kind k.kind=false):=λk hkm=>by
  have:=hk k hkm;rw[Bool.not_eq_true];unfold kidBad kidBadD;rw[decide_eq_false_iff_not]
  by_cases h1:k.kind=13∨k.kind=14
  ·rw[if_pos h1];simp;omega
  rw[if_neg h1]
  by_cases h2:k.kind=12
  ·rw[if_pos h2]
   by_cases h3:T.kind=13
   ·simp[h3];omega
   simp[h3];omega
  rw[if_neg h2];rw[show(k.kind==10)=decide (k.kind=10)from rfl,show(T.kind==9)=decide (T.kind=9)from rfl]
  by_cases h3:k.kind=10
  ·by_cases h4:T.kind=9
   ·rw[decide_eq_true h3,decide_eq_true h4];exact⟨λ_=>by omega,λ_=>by decide⟩
   rw[decide_eq_true h3,decide_eq_false h4];exact⟨λh=>absurd h (by decide),λh=>absurd (by omega) h⟩
  by_cases h4:T.kind=9
  ·rw[decide_eq_false h3,decide_eq_true h4];exact⟨λh=>absurd h (by decide),λh=>absurd (by omega) h⟩
  rw[decide_eq_false h3,decide_eq_false h4];exact⟨λ_=>by omega,λ_=>by decide⟩
 exact⟨λh k hkm=>(e k hkm).1 (h k hkm),λh k hkm=>(e k hkm).2 (h k hkm)⟩
theorem linked_iff {T:Ac}(hk:∀k∈T.ks,k.kind=12->1<=k.a/\k.a<=4):T.linkedB=true↔1<=T.ks.length/\T.LinkD:=by
 have hcover:∀(h:∀i (h:i<T.ks.length),kidD T.ks[i].kind T.ks[i].a T.ks[i].cs.length (inN T.ls i) (outN T.ls i)=true),∀i,i<T.ks.length->1<=inN T.ls i:=λh i hi=>by
  have h1:=h i hi;have h2:=hk T.ks[i] (List.getElem_mem hi);unfold kidD at h1
  split at h1
  ·rename_i h12
   have h2:=h2 h12
   split at h1
   ·rw[Bool.and_eq_true,decide_eq_true_iff]at h1;omega
   split at h1
   ·rw[Bool.and_eq_true,decide_eq_true_iff]at h1;omega
   split at h1
   ·rw[Bool.and_eq_true,decide_eq_true_iff]at h1;omega
   omega
  rw[Bool.and_eq_true,decide_eq_true_iff]at h1;omega
 have cvt:∀(f:Int×Int->Int) (k:Nat),(T.ls.countP λl=>decide (f l+1=((k+1:Nat):Int)))=T.ls.countP λl=>decide (f l=(k:Int)):=λf k=>by
  congr 1
  funext l
  by_cases e:f l=(k:Int)
  ·rw[decide_eq_true e,decide_eq_true (by omega)]
  rw[decide_eq_false e,decide_eq_false (by omega)]
 have cvo:∀(f:Int×Int->Int),(T.ls.countP λl=>decide (f l+1=((0:Nat):Int)))=T.ls.countP λl=>decide (f l= -1):=λf=>by
  congr 1
  funext l
  by_cases e:f l= -1
  ·rw[decide_eq_true e,decide_eq_true (by omega)]
  rw[decide_eq_false e,decide_eq_false (by omega)]
 have j0:T.joinedAt 0=(decide (inN T.ls (-1)=1)&&decide (outN T.ls (-1)=1)):=by
  unfold joinedAt;rw[insL_at _ _ _ (by omega),outsL_at _ _ _ (by omega),cvo (λl=>l.2),cvo (λl=>l.1)];show joinedB 0 0 0 ((T.ls.countP λl=>decide (l.2= -1):Nat):Int) ((T.ls.countP λl=>decide (l.1= -1):Nat):Int)=_;unfold joinedB inN outN;rw[if_neg (by decide)]
  congr 1<;>(rw[decide_eq_decide];omega)
 have j1:∀i (h:i<T.ks.length),T.joinedAt (i+1)=kidD T.ks[i].kind T.ks[i].a T.ks[i].cs.length (inN T.ls i) (outN T.ls i):=λi hi=>by
  unfold joinedAt;rw[insL_at _ _ _ (by omega),outsL_at _ _ _ (by omega),cvt (λl=>l.2) i,cvt (λl=>l.1) i];have:T.around[i+1]? =some T.ks[i]:=by simp[around,hi]
  rw[this];show joinedB T.ks[i].kind T.ks[i].a T.ks[i].cs.length ((inN T.ls i:Nat):Int) ((outN T.ls i:Nat):Int)=_;unfold joinedB kidD
  by_cases h12:T.ks[i].kind=12
  ·have h2:=hk T.ks[i] (List.getElem_mem hi) h12
   rw[if_pos h12,if_pos h12]
   by_cases a1:T.ks[i].a=1
   ·rw[if_pos a1,if_pos a1]
   rw[if_neg a1,if_neg a1]
   by_cases a3:T.ks[i].a=3
   ·rw[if_pos a3,if_pos a3]
   rw[if_neg a3,if_neg a3,if_pos (by omega)]
  rw[if_neg h12,if_neg h12]
 unfold linkedB LinkD;simp only[Bool.and_eq_true,decide_eq_true_iff,Bool.not_eq_true',decide_eq_false_iff_not]
 constructor
 ·rintro⟨⟨⟨⟨h1,h2⟩,h3⟩,h4⟩,h5⟩
  have h4:=List.all_eq_true.1 h4;have k0:=h4 0 (List.mem_range.2 (by omega));rw[j0,Bool.and_eq_true,decide_eq_true_iff,decide_eq_true_iff]at k0
  have k1:∀i (h:i<T.ks.length),kidD T.ks[i].kind T.ks[i].a T.ks[i].cs.length (inN T.ls i) (outN T.ls i)=true:=λi hi=>by
   rw[<-j1 i hi];exact h4 (i+1) (List.mem_range.2 (by omega))
  have h6:=Dd.cover T.ks.length T.ls (hcover k1);have h7:=List.countP_le_length (p:=λl:Int×Int=>decide (0<=l.2/\l.2<(T.ks.length:Int))) (l:=T.ls);exact⟨by omega,h3,⟨k0.1,k0.2,h2,by omega⟩,k1,h5⟩
 rintro⟨h1,h3,⟨k0,k0',h2,h64⟩,k1,h5⟩;refine⟨⟨⟨⟨by omega,h2⟩,h3⟩,List.all_eq_true.2 λi hi=> ?_⟩,h5⟩;have hi:=List.mem_range.1 hi
 cases i with
 |zero=>rw[j0,k0,k0'];rfl
 |succ i=>rw[j1 i (by omega)];exact k1 i (by omega)
theorem same1_iff {S T:Ac} :Same1 S T↔S.kind=T.kind/\S.node=T.node/\S.a=T.a/\S.b=T.b/\S.t=T.t/\S.cs=T.cs/\S.ls=T.ls/\S.ns=T.ns/\S.fs=T.fs:=Iff.rfl
theorem form_iff {T:Ac}(hk:∀k∈T.ks,(1<=k.kind/\k.kind<=14)/\(k.kind=12->1<=k.a/\k.a<=4)):T.FormD↔T.Formed:=by
 have hh:=holds_iff (T:=T) λk hkm=>(hk k hkm).1;have hl:=linked_iff (T:=T) λk hkm=>(hk k hkm).2;have z:T.t=.mk 0 0 []↔Nt.zeroB T.t=true:=Nt.zero_iff T.t;unfold FormD;rw[<-hh]
 by_cases hr:T.kind<1∨14<T.kind
 ·constructor
  ·rintro⟨_,_,h,_⟩;have:=numbered_kind h;omega
  intro h;have:=formed_kind h;omega
 have hkk:T.kind=1∨T.kind=2∨T.kind=3∨T.kind=4∨T.kind=5∨T.kind=6∨T.kind=7∨T.kind=8∨T.kind=9∨T.kind=10∨T.kind=11∨T.kind=12∨T.kind=13∨T.kind=14:=by omega
 obtain⟨H,hH⟩:=pE (T.holdsB);obtain⟨L,hL⟩:=pE (T.linkedB);obtain⟨D,hD⟩:=pE (T.LinkD);rw[hL,hD]at hl;rw[hH];clear hh hk
 rcases hkk with hK|hK|hK|hK|hK|hK|hK|hK|hK|hK|hK|hK|hK|hK
 ·rw[formed_1 hK,hH]
  unfold Bare Numbered Conds;rw[hD];clear hH hL hD hr;obtain⟨K,N,A,B,t,cs,ks,ls,ns,fs⟩:=T;obtain rfl:K=1:=hK;simp[hasNodeB,hasA,hasB',hasC,hasK,rest,zeroOf,same1_iff,kind,node,a,b,Ac.t,Ac.cs,Ac.ks,Ac.ls,Ac.ns,Ac.fs]at z hl⊢
  grind
 ·rw[formed_2 hK,hH]
  unfold Bare Numbered Conds;rw[hD];clear hH hL hD hr;obtain⟨K,N,A,B,t,cs,ks,ls,ns,fs⟩:=T;obtain rfl:K=2:=hK;simp[hasNodeB,hasA,hasB',hasC,hasK,rest,zeroOf,same1_iff,kind,node,a,b,Ac.t,Ac.cs,Ac.ks,Ac.ls,Ac.ns,Ac.fs]at z hl⊢
  grind
 ·rw[formed_3 hK,hH]
  unfold Bare Numbered Conds;rw[hD];clear hH hL hD hr;obtain⟨K,N,A,B,t,cs,ks,ls,ns,fs⟩:=T;obtain rfl:K=3:=hK;simp[hasNodeB,hasA,hasB',hasC,hasK,rest,zeroOf,same1_iff,kind,node,a,b,Ac.t,Ac.cs,Ac.ks,Ac.ls,Ac.ns,Ac.fs]at z hl⊢
  grind
 ·rw[formed_4 hK,hH]
  unfold Bare Numbered Conds;rw[hD];clear hH hL hD hr;obtain⟨K,N,A,B,t,cs,ks,ls,ns,fs⟩:=T;obtain rfl:K=4:=hK;simp[hasNodeB,hasA,hasB',hasC,hasK,rest,zeroOf,same1_iff,kind,node,a,b,Ac.t,Ac.cs,Ac.ks,Ac.ls,Ac.ns,Ac.fs]at z hl⊢
  grind
 ·rw[formed_5 hK,hH]
  unfold Bare Numbered Conds;rw[hD];clear hH hL hD hr;obtain⟨K,N,A,B,t,cs,ks,ls,ns,fs⟩:=T;obtain rfl:K=5:=hK;simp[hasNodeB,hasA,hasB',hasC,hasK,rest,zeroOf,same1_iff,kind,node,a,b,Ac.t,Ac.cs,Ac.ks,Ac.ls,Ac.ns,Ac.fs]at z hl⊢
  grind
 ·rw[formed_6 hK,hH]
  unfold Bare Numbered Conds;rw[hD];clear hH hL hD hr;obtain⟨K,N,A,B,t,cs,ks,ls,ns,fs⟩:=T;obtain rfl:K=6:=hK;simp[hasNodeB,hasA,hasB',hasC,hasK,rest,zeroOf,same1_iff,kind,node,a,b,Ac.t,Ac.cs,Ac.ks,Ac.ls,Ac.ns,Ac.fs]at z hl⊢
  grind
 ·rw[formed_7 hK,hH]
  unfold Bare Numbered Conds;rw[hD];clear hH hL hD hr;obtain⟨K,N,A,B,t,cs,ks,ls,ns,fs⟩:=T;obtain rfl:K=7:=hK;simp[hasNodeB,hasA,hasB',hasC,hasK,rest,zeroOf,same1_iff,kind,node,a,b,Ac.t,Ac.cs,Ac.ks,Ac.ls,Ac.ns,Ac.fs]at z hl⊢
  grind
 ·rw[formed_8 hK,hH]
  unfold Bare Numbered Conds;rw[hD];clear hH hL hD hr;obtain⟨K,N,A,B,t,cs,ks,ls,ns,fs⟩:=T;obtain rfl:K=8:=hK;simp[hasNodeB,hasA,hasB',hasC,hasK,rest,zeroOf,same1_iff,kind,node,a,b,Ac.t,Ac.cs,Ac.ks,Ac.ls,Ac.ns,Ac.fs]at z hl⊢
  grind
 ·rw[formed_9 hK,hH]
  unfold Bare Numbered Conds;rw[hD];clear hH hL hD hr;obtain⟨K,N,A,B,t,cs,ks,ls,ns,fs⟩:=T;obtain rfl:K=9:=hK;simp[hasNodeB,hasA,hasB',hasC,hasK,rest,zeroOf,same1_iff,kind,node,a,b,Ac.t,Ac.cs,Ac.ks,Ac.ls,Ac.ns,Ac.fs]at z hl⊢
  grind
 ·rw[formed_10 hK,hH]
  unfold Bare Numbered Conds;rw[hD];clear hH hL hD hr;obtain⟨K,N,A,B,t,cs,ks,ls,ns,fs⟩:=T;obtain rfl:K=10:=hK;simp[hasNodeB,hasA,hasB',hasC,hasK,rest,zeroOf,same1_iff,kind,node,a,b,Ac.t,Ac.cs,Ac.ks,Ac.ls,Ac.ns,Ac.fs]at z hl⊢
  grind
 ·rw[formed_11 hK,hH]
  unfold Bare Numbered Conds;rw[hD];clear hH hL hD hr;obtain⟨K,N,A,B,t,cs,ks,ls,ns,fs⟩:=T;obtain rfl:K=11:=hK;simp[hasNodeB,hasA,hasB',hasC,hasK,rest,zeroOf,same1_iff,kind,node,a,b,Ac.t,Ac.cs,Ac.ks,Ac.ls,Ac.ns,Ac.fs]at z hl⊢
  grind
 ·by_cases ha:T.a=3
  ·rw[formed_12a hK ha,hH]
   unfold Bare Numbered Conds;rw[hD];clear hH hL hD hr;obtain⟨K,N,A,B,t,cs,ks,ls,ns,fs⟩:=T;obtain rfl:K=12:=hK;obtain rfl:A=3:=ha;simp[hasNodeB,hasA,hasB',hasC,hasK,rest,zeroOf,same1_iff,kind,node,a,b,Ac.t,Ac.cs,Ac.ks,Ac.ls,Ac.ns,Ac.fs]at z hl⊢
   grind
  rw[formed_12b hK ha,hH];unfold Bare Numbered Conds;rw[hD];clear hH hL hD hr;obtain⟨K,N,A,B,t,cs,ks,ls,ns,fs⟩:=T;obtain rfl:K=12:=hK;replace ha:¬A=3:=ha;simp[hasNodeB,hasA,hasB',hasC,hasK,rest,zeroOf,same1_iff,kind,node,a,b,Ac.t,Ac.cs,Ac.ks,Ac.ls,Ac.ns,Ac.fs,ha]at z hl⊢
  grind
 ·rw[formed_13 hK,hH,hL]
  unfold Bare Numbered Conds;rw[hD];clear hH hL hD hr;obtain⟨K,N,A,B,t,cs,ks,ls,ns,fs⟩:=T;obtain rfl:K=13:=hK;simp[hasNodeB,hasA,hasB',hasC,hasK,rest,zeroOf,same1_iff,kind,node,a,b,Ac.t,Ac.cs,Ac.ks,Ac.ls,Ac.ns,Ac.fs]at z hl⊢
  grind
 rw[formed_14 hK,hH];unfold Bare Numbered Conds;rw[hD];clear hH hL hD hr;obtain⟨K,N,A,B,t,cs,ks,ls,ns,fs⟩:=T;obtain rfl:K=14:=hK;simp[hasNodeB,hasA,hasB',hasC,hasK,rest,zeroOf,same1_iff,kind,node,a,b,Ac.t,Ac.cs,Ac.ks,Ac.ls,Ac.ns,Ac.fs]at z hl⊢
 grind
end Ac
end Go.Proofs
namespace Go.Proofs
open Go.RowKit
namespace Ac
mutual
def times (i:Int):Ac->Nat|mk k n _ _ _ _ ks _ _ _=>(if hasNodeB k=true/\n=i then 1 else 0)+timess i ks
def timess (i:Int):List Ac->Nat| []=>0|k::r=>times i k+timess i r
end
theorem times_eq (i:Int)(T:Ac):T.times i=(if hasNodeB T.kind=true/\T.node=i then 1 else 0)+timess i T.ks:=by cases T;rfl
theorem timess_snoc (i:Int)(l:List Ac)(a:Ac):timess i (l++ [a])=timess i l+a.times i:=by
 induction l with
 |nil=>simp[timess]
 |cons k r ih=>simp only[List.cons_append,timess,ih];omega
theorem timess_take (i:Int)(l:List Ac)(k:Nat)(h:k<l.length):timess i (l.take (k+1))=timess i (l.take k)+l[k].times i:=by rw[take_snoc l k h,timess_snoc]
mutual
theorem times_le (i:Int):∀T:Ac,T.times i<=T.size
 |mk k n _ _ _ _ ks _ _ _=>by
  rw[times,size];have:=timess_le i ks
  split<;>omega
theorem timess_le (i:Int):∀l:List Ac,timess i l<=sizes l
 | []=>by simp[timess,sizes]
 |k::r=>by rw[timess,sizes];have:=times_le i k;have:=timess_le i r;omega
end
def mark (bs:List Bool)(i:Nat):Nat:=if bs[i]? =some true then 1 else 0
theorem mark_le (bs:List Bool)(i:Nat):mark bs i<=1:=by unfold mark;split<;>omega
mutual
theorem go_times:∀(T:Ac) (bs:List Bool),bs.length=24->T.All NodeOk->
  (((T.go enterS bs).1=true↔∀i,i<24->mark bs i+T.times (i:Int)<=1)/\((T.go enterS bs).1=true->(T.go enterS bs).2.length=24/\∀i,i<24->mark (T.go enterS bs).2 i=mark bs i+T.times (i:Int)))
 |mk k n a b t c ks l x y,bs,hb,hN=>by
  obtain⟨hN1,hN2⟩:=hN;obtain⟨q,s1,hq⟩:∃q s1,enterS (mk k n a b t c ks l x y) bs=(q,s1):=⟨_,_,rfl⟩
  have hs:q=true->s1.length=24/\∀i,i<24->mark s1 i=mark bs i+(if hasNodeB k=true/\n=(i:Int)then 1 else 0):=λhqt=>by
   unfold enterS at hq;change (if hasNodeB k=true then(!((bs[n.toNat]?).getD true),bs.set n.toNat true)else(true,bs))=(q,s1)at hq
   by_cases hk:hasNodeB k=true
   rotate_left
   ·rw[if_neg hk]at hq
    obtain⟨h1,h2⟩:=Prod.mk.inj hq;refine⟨by rw[<-h2];exact hb,λi hi=> ?_⟩;rw[if_neg (λh=>hk h.1),Nat.add_zero,h2]
   rw[if_pos hk]at hq;obtain⟨h1,h2⟩:=Prod.mk.inj hq;have hn:=hN1 hk;have hnn:n=(n.toNat:Int):=by have:0<=n:=hn.1;omega
   have hlt:n.toNat<24:=by have:n<24:=hn.2;omega
   refine⟨by rw[<-h2,List.length_set];exact hb,λi hi=> ?_⟩
   have h1':(bs[n.toNat]?).getD true=false:=by
    rw[hqt]at h1;have h1:(!((bs[n.toNat]?).getD true))=true:=h1;simpa using h1
   have hget:bs[n.toNat]? =some false:=by
    rw[List.getElem?_eq_getElem (by omega)]at h1'⊢;simpa using h1'
   rw[<-h2];unfold mark;show(if(bs.set n.toNat true)[i]? =some true then 1 else 0)=_
   by_cases e:n.toNat=i
   ·subst e
    rw[List.getElem?_set_self (by omega),if_pos rfl,hget,if_neg (by simp),if_pos ⟨hk,hnn⟩]
   rw[List.getElem?_set_ne e];have:¬(hasNodeB k=true/\n=(i:Int)):=λh=>e (by have:=h.2;omega);rw[if_neg this,Nat.add_zero]
  have hf:q=false->∃i,i<24/\mark bs i=1/\hasNodeB k=true/\n=(i:Int):=λhqf=>by
   unfold enterS at hq;change (if hasNodeB k=true then(!((bs[n.toNat]?).getD true),bs.set n.toNat true)else(true,bs))=(q,s1)at hq
   by_cases hk:hasNodeB k=true
   ·rw[if_pos hk]at hq
    obtain⟨h1,h2⟩:=Prod.mk.inj hq;have hn:=hN1 hk;have hnn:n=(n.toNat:Int):=by have:0<=n:=hn.1;omega
    have hlt:n.toNat<24:=by have:n<24:=hn.2;omega
    refine⟨n.toNat,hlt, ?_,hk,hnn⟩;rw[hqf]at h1;have h1:(!((bs[n.toNat]?).getD true))=false:=h1;unfold mark;rw[List.getElem?_eq_getElem (by omega)]at h1⊢;rw[if_pos];simpa using h1
   rw[if_neg hk]at hq;obtain⟨h1,h2⟩:=Prod.mk.inj hq;rw[hqf]at h1
   cases h1
  rw[go,hq];dsimp only
  cases q with
  |false=>
   rw[if_neg (by simp)];obtain⟨i,hi,hm,hk,hn⟩:=hf rfl;refine⟨⟨λh=>by simp at h,λh=> ?_⟩,λh=>by simp at h⟩;have:=h i hi;rw[times,if_pos ⟨hk,hn⟩]at this;omega
  |true=>
   obtain⟨h1,h2⟩:=hs rfl;obtain⟨i1,i2⟩:=goes_times ks s1 h1 hN2;rw[if_pos rfl];refine⟨i1.trans ?_,λh=>⟨(i2 h).1,λi hi=> ?_⟩⟩
   ·constructor
    ·intro h i hi
     have:=h i hi;rw[h2 i hi]at this;rw[times];omega
    intro h i hi;have:=h i hi;rw[times]at this;rw[h2 i hi];omega
   rw[(i2 h).2 i hi,h2 i hi,times];omega
theorem goes_times : ∀ (ks : List Ac) (bs : List Bool), bs.length = 24 -> Alls NodeOk ks ->
    (((goes enterS ks bs).1 = true ↔ ∀ i, i < 24 -> mark bs i + timess (i : Int) ks <= 1) /\ ((goes enterS ks bs).1 = true -> (goes enterS ks bs).2.length = 24 /\ ∀ i, i < 24 -> mark (goes enterS ks bs).2 i = mark bs i + timess (i : Int) ks))
  | [], bs, hb, _ => by
    rw [goes];refine ⟨⟨λ_ i _ => by rw [timess]; have := mark_le bs i; omega, λ_ => rfl⟩, λ_ => ⟨hb, λi _ => by rw [timess]; rfl⟩⟩
  | k :: r, bs, hb, hN => by
    obtain ⟨i1, i2⟩ := go_times k bs hb hN.1;rw [goes]
    by_cases h : (go enterS k bs).1 = true
    · rw [if_pos h]
      obtain ⟨h1, h2⟩ := i2 h;obtain ⟨j1, j2⟩ := goes_times r _ h1 hN.2;refine ⟨j1.trans ?_, λhh => ⟨(j2 hh).1, λi hi => ?_⟩⟩
      · constructor
        · intro hh i hi
          have := hh i hi;rw [h2 i hi] at this;rw [timess];omega
        intro hh i hi;have := hh i hi;rw [timess] at this;rw [h2 i hi];omega
      rw [(j2 hh).2 i hi, h2 i hi, timess];omega
    rw [if_neg h];refine ⟨⟨λhh => by simp at hh, λhh => ?_⟩, λhh => by simp at hh⟩
    exfalso
    refine h (i1.2 λi hi => ?_);have := hh i hi;rw [timess] at this;omega
end
theorem twice_iff {T:Ac}(h:T.All NodeOk):T.twiceB=true↔∃i:Nat,i<24/\1<T.times (i:Int):=by
 have h1:=(go_times T (List.replicate 24 false) (by simp) h).1
 have hm:∀i,mark (List.replicate 24 false) i=0:=λi=>by
  unfold mark;rw[if_neg];intro h2;have:=List.mem_of_getElem? h2;simp at this
 unfold twiceB;rw[Bool.not_eq_true',<-Bool.not_eq_true,h1]
 constructor
 ·intro hh
  by_cases q:∃i:Nat,i<24/\1<T.times (i:Int)
  ·exact q
  exfalso
  refine hh λi hi=> ?_;rw[hm];have:¬1<T.times (i:Int):=λh2=>q ⟨i,hi,h2⟩;omega
 rintro⟨i,hi,h2⟩ hh;have:=hh i hi;rw[hm]at this;omega
theorem mem_alls {P:Ac->Prop} :∀{l:List Ac},Alls P l->∀k∈l,P k
 |k::r,h,x,hx=>by
  rcases List.mem_cons.1 hx with rfl|hx
  ·have:=h.1;rw[all_eq]at this;exact this.1
  exact mem_alls h.2 x hx
theorem kid_ok {T:Ac}(h:T.FormD∨T.Formed):(1<=T.kind/\T.kind<=14)/\(T.kind=12->1<=T.a/\T.a<=4):=by
 rcases h with h|h
 ·exact⟨numbered_kind h.2.2.1,formD_gate h⟩
 exact⟨formed_kind h,formed_gate h⟩
mutual
theorem form_all:∀T:Ac,T.All FormD↔T.All Formed
 |mk k n a b t c ks l x y=>by
  have hk:=forms_all ks;rw[All,All,hk]
  constructor
  ·rintro⟨h1,h2⟩
   exact⟨(form_iff (T:=mk k n a b t c ks l x y) λz hz=>kid_ok (.inl (mem_alls (hk.2 h2) z hz))).1 h1,h2⟩
  rintro⟨h1,h2⟩;exact⟨(form_iff (T:=mk k n a b t c ks l x y) λz hz=>kid_ok (.inr (mem_alls h2 z hz))).2 h1,h2⟩
theorem forms_all:∀l:List Ac,Alls FormD l↔Alls Formed l
 | []=>Iff.rfl
 |k::r=>by rw[Alls,Alls,form_all k,forms_all r]
end
mutual
theorem form_go2:∀(T:Ac) (s:Unit),T.All Formed->(T.go stepF s).1=true
 |mk k n a b t c ks l x y,s,h=>by
  rw[go,if_pos (show((mk k n a b t c ks l x y).stepF s).1=true from(formB_iff _).2 h.1)];exact forms_go2 ks _ h.2
theorem forms_go2:∀(l:List Ac) (s:Unit),Alls Formed l->(goes stepF l s).1=true
 | [],_,_=>rfl
 |k::r,s,h=>by
  rw[goes,if_pos (show(go stepF k s).1=true from form_go2 k s h.1)];exact forms_go2 r _ h.2
end
theorem form_go {T:Ac}(s:Unit)(h:T.All Formed):(T.go stepF s).1=true:=form_go2 T s h
noncomputable def docC (T:Ac):Int:=by classical exact if 96<T.size∨24<T.depth then 2 else if T.kind=10∨T.kind=12∨¬T.All FormD then 4 else if∃i:Nat,i<24/\1<T.times (i:Int)then 8 else 0
theorem doc_check (T:Ac):T.docC=T.checkC:=by
 unfold docC checkC tooB;have ht:(!decide (T.depth<=24/\T.size<=96))=true↔(96<T.size∨24<T.depth):=by simp;omega
 by_cases h1:96<T.size∨24<T.depth
 ·rw[if_pos h1,if_pos (ht.2 h1)]
 rw[if_neg h1,if_neg (λh=>h1 (ht.1 h))]
 have hg:(T.go stepF ()).1=false↔¬T.All FormD:=by
  rw[form_all]
  constructor
  ·intro h h2
   rw[form_go () h2]at h
   cases h
  intro h
  cases hq:(T.go stepF ()).1 with
  |false=>rfl
  |true=>exact absurd (go_form T () hq) h
 by_cases h2:T.kind=10∨T.kind=12∨¬T.All FormD
 ·have hc:T.kind=10∨T.kind=12∨(T.go stepF ()).1=false:=by rw[hg];exact h2
  rw[if_pos h2,if_pos hc]
 have hc:¬(T.kind=10∨T.kind=12∨(T.go stepF ()).1=false):=by rw[hg];exact h2
 rw[if_neg h2,if_neg hc];have hall:T.All FormD:=Classical.not_not.1 λh=>h2 (.inr (.inr h));have hn:T.All NodeOk:=all_mono formed_node T ((form_all T).1 hall);have:=twice_iff hn
 by_cases h3:∃i:Nat,i<24/\1<T.times (i:Int)
 ·rw[if_pos h3,if_pos (this.2 h3)]
 rw[if_neg h3,if_neg (λh=>h3 (this.1 h))]
end Ac
end Go.Proofs
namespace Go.Proofs.YtenaelpdnccgnaaGreatDoor
open Go.ChangeShapes Go.WideShapes Go.ChangeAt Go.RowKit
theorem gOps:Tryz.prog.globalNamed "treenail/term.operators" =some 0:=by kernel_rfl
theorem gOpsType:(Tryz.prog.globals[0]?).map (·.type)=some 143:=by kernel_rfl
theorem cellsOps:Tryz.prog.cellsOf 143=75:=by kernel_rfl
theorem cellsOp:Tryz.prog.cellsOf 142=5:=by kernel_rfl
theorem cellsInt':Tryz.prog.cellsOf 3=1:=by kernel_rfl
theorem cellsString':Tryz.prog.cellsOf 9=1:=by kernel_rfl
theorem list5' {α:Type}{l:List α}(h:l.length=5):∃a b c d e,l= [a,b,c,d,e]:=by
 match l,h with
 | [a,b,c,d,e],_=>exact⟨a,b,c,d,e,rfl⟩
theorem op_one {H:Type}{enc:TypeId×Value->H}{W:World}{base:Nat}{sp:Nat->Bool}{held:Bool}{fuel:Nat}{cs:List Value}{x:DataW H×List MemPlace}{t:List UInt8}{n1 n2 n3 n4:Int}
  (h:DataW.trod enc Tryz.prog W base sp held fuel 142 cs=some x) (hx:x.1=.agg [.lit (.string t),.lit (.int .i64 n1),.lit (.int .i64 n2),.lit (.int .i64 n3),.lit (.int .i64 n4)]):
  cs= [.string ⟨t.toArray⟩,.int .i64 n1,.int .i64 n2,.int .i64 n3,.int .i64 n4]:=by
 obtain⟨ys,n,_,hx',hl,hy,hf⟩:=DataW.trod_struct Tryz.underlying142 h;rw[cellsOp]at hl;have hy:ys.length=5:=hy;obtain⟨c0,c1,c2,c3,c4,rfl⟩:=list5' hl;obtain⟨y0,y1,y2,y3,y4,rfl⟩:=list5' hy;have g0:DataW.trod enc Tryz.prog W base sp held n 9 (([c0,c1,c2,c3,c4].drop 0).take (Tryz.prog.cellsOf 9))= [y0,y1,y2,y3,y4][0]? :=hf 0 _ rfl;have g1:DataW.trod enc Tryz.prog W base sp held n 3 (([c0,c1,c2,c3,c4].drop 1).take (Tryz.prog.cellsOf 3))= [y0,y1,y2,y3,y4][1]? :=hf 1 _ rfl;have g2:DataW.trod enc Tryz.prog W base sp held n 3 (([c0,c1,c2,c3,c4].drop 2).take (Tryz.prog.cellsOf 3))= [y0,y1,y2,y3,y4][2]? :=hf 2 _ rfl;have g3:DataW.trod enc Tryz.prog W base sp held n 3 (([c0,c1,c2,c3,c4].drop 3).take (Tryz.prog.cellsOf 3))= [y0,y1,y2,y3,y4][3]? :=hf 3 _ rfl;have g4:DataW.trod enc Tryz.prog W base sp held n 3 (([c0,c1,c2,c3,c4].drop 4).take (Tryz.prog.cellsOf 3))= [y0,y1,y2,y3,y4][4]? :=hf 4 _ rfl;rw[cellsString']at g0;rw[cellsInt']at g1 g2 g3 g4;obtain⟨s,e0,d0,_⟩:=DataW.trod_string Tryz.underlying9 g0;obtain⟨m1,e1,d1,_⟩:=DataW.trod_int Tryz.underlying3 g1;obtain⟨m2,e2,d2,_⟩:=DataW.trod_int Tryz.underlying3 g2;obtain⟨m3,e3,d3,_⟩:=DataW.trod_int Tryz.underlying3 g3;obtain⟨m4,e4,d4,_⟩:=DataW.trod_int Tryz.underlying3 g4;obtain rfl:c0=.string s:=(List.cons.inj e0).1;obtain rfl:c1=.int .i64 m1:=(List.cons.inj e1).1
 obtain rfl:c2=.int .i64 m2:=(List.cons.inj e2).1;obtain rfl:c3=.int .i64 m3:=(List.cons.inj e3).1;obtain rfl:c4=.int .i64 m4:=(List.cons.inj e4).1;rw[hx']at hx;rw[d0,d1,d2,d3,d4]at hx;simp only[List.map_cons,List.map_nil,DataW.agg.injEq,List.cons.injEq,DataW.lit.injEq,Lit.int.injEq,Lit.string.injEq,and_true,true_and]at hx;obtain⟨rfl,rfl,rfl,rfl,rfl⟩:=hx;rfl
theorem ops_of_laid {W:World}(h:laidMet Tryz.prog [("treenail/term.operators",Rows.laid_treenail_term_operators)] W):Tk.Ops W:=by
 obtain⟨ps,⟨g',t',cs,fuel,p,q,hg',ht',hvar,hd,_,_⟩,_⟩:=h;obtain rfl:=Option.some.inj (gOps.symm.trans hg');obtain rfl:=Option.some.inj (gOpsType.symm.trans ht');obtain⟨xs,m,rfl,hx,hl,hxl,hf⟩:=DataW.trod_array Tryz.underlying143 hd;rw[cellsOps]at hl;simp only[cellsOp]at hf;have hx1:=congrArg Prod.fst hx;have hlen:xs.length=15:=hxl;simp only[Rows.laid_treenail_term_operators,DataW.agg.injEq]at hx1
 have row:∀(i:Nat) (t:List UInt8) (n1 n2 n3 n4:Int),i<15->(xs.map (·.1))[i]? =some (.agg [.lit (.string t),.lit (.int .i64 n1),.lit (.int .i64 n2),.lit (.int .i64 n3),.lit (.int .i64 n4)])->
   (cs.toList.drop (i*5)).take 5= [.string ⟨t.toArray⟩,.int .i64 n1,.int .i64 n2,.int .i64 n3,.int .i64 n4]:=by
  intro i t n1 n2 n3 n4 hi hL;obtain⟨x,hxi⟩:∃x,xs[i]? =some x:=⟨xs[i]'(by omega),List.getElem?_eq_getElem (by omega)⟩;rw[List.getElem?_map,hxi]at hL;exact op_one (x:=x) ((hf i hi).trans hxi) (by simpa using hL)
 have step:∀n,cs.toList.drop n=(cs.toList.drop n).take 5++cs.toList.drop (n+5):=λn=>by
  have:=(List.take_append_drop 5 (cs.toList.drop n)).symm;rw[List.drop_drop]at this;exact this
 have r0:=row 0 [] 0 0 0 0 (by decide) (by rw[<-hx1];rfl);have r1:=row 1 [] 0 0 1099511627776 1 (by decide) (by rw[<-hx1];rfl);have r2:=row 2 [36] 0 0 3 1 (by decide) (by rw[<-hx1];rfl);have r3:=row 3 [110,101,103] 1 1 0 1 (by decide) (by rw[<-hx1];rfl);have r4:=row 4 [110,111,116] 1 2 0 2 (by decide) (by rw[<-hx1];rfl);have r5:=row 5 [97,100,100] 2 1 0 1 (by decide) (by rw[<-hx1];rfl);have r6:=row 6 [115,117,98] 2 1 0 1 (by decide) (by rw[<-hx1];rfl);have r7:=row 7 [109,117,108] 2 1 0 1 (by decide) (by rw[<-hx1];rfl);have r8:=row 8 [100,105,118] 2 1 0 1 (by decide) (by rw[<-hx1];rfl);have r9:=row 9 [109,111,100] 2 1 0 1 (by decide) (by rw[<-hx1];rfl);have r10:=row 10 [101,113] 2 1 0 2 (by decide) (by rw[<-hx1];rfl);have r11:=row 11 [108,116] 2 1 0 2 (by decide) (by rw[<-hx1];rfl);have r12:=row 12 [108,101] 2 1 0 2 (by decide) (by rw[<-hx1];rfl);have r13:=row 13 [97,110,100] 2 2 0 2 (by decide) (by rw[<-hx1];rfl);have r14:=row 14 [111,114] 2 2 0 2 (by decide) (by rw[<-hx1];rfl)
 have hca:cs=Tk.opVals:=by
  apply Array.toList_inj.1;have h0:cs.toList=cs.toList.drop 0:=rfl;have h75:cs.toList.drop 75= []:=List.drop_eq_nil_iff.2 (by omega);rw[h0,step 0,step 5,step 10,step 15,step 20,step 25,step 30,step 35,step 40,step 45,step 50,step 55,step 60,step 65,step 70,h75];have q0:(cs.toList.drop 0).take 5=_:=r0;have q1:(cs.toList.drop 5).take 5=_:=r1;have q2:(cs.toList.drop 10).take 5=_:=r2;have q3:(cs.toList.drop 15).take 5=_:=r3;have q4:(cs.toList.drop 20).take 5=_:=r4;have q5:(cs.toList.drop 25).take 5=_:=r5;have q6:(cs.toList.drop 30).take 5=_:=r6;have q7:(cs.toList.drop 35).take 5=_:=r7;have q8:(cs.toList.drop 40).take 5=_:=r8;have q9:(cs.toList.drop 45).take 5=_:=r9;have q10:(cs.toList.drop 50).take 5=_:=r10;have q11:(cs.toList.drop 55).take 5=_:=r11;have q12:(cs.toList.drop 60).take 5=_:=r12;have q13:(cs.toList.drop 65).take 5=_:=r13;have q14:(cs.toList.drop 70).take 5=_:=r14;rw[q0,q1,q2,q3,q4,q5,q6,q7,q8,q9,q10,q11,q12,q13,q14];rfl
 subst hca;simp only[World.var?,gOps,Option.bind_some]at hvar
 split at hvar
 ·rename_i cs' t fz hh
  obtain rfl:=Option.some.inj hvar;exact⟨t,fz,hh⟩
 cases hvar
end Go.Proofs.YtenaelpdnccgnaaGreatDoor
