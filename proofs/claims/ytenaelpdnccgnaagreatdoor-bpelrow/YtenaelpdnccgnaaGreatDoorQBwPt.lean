import Derived.Test.YtenaelpdnccgnaaGreatDoorQBwPart
import Derived.Test.YtenaelpdnccgnaaGreatDoorQAcFormed
import Derived.Test.YtenaelpdnccgnaaGreatDoorRows
import Derived.OpenShut
set_option maxRecDepth 100000
set_option maxHeartbeats 32000000
namespace Go.Proofs
open Go.RowKit Go.Shelf
theorem Bw.At.kid {g o:Nat}{r:Array Value}{W:World}(h:Bw.At g o r W)(hr:r[6]? =some (.slice none 0 0)):∃cur T,W.heap[g]? =some (.cells cur T (0,0))/\cur[o+4+2]? =some (.slice none 0 0):=by
 obtain⟨cur,T,h1,h2⟩:=h;exact⟨cur,T,h1,(h2 6 (by decide)).trans hr⟩
theorem Bw.own_cells {B g0 n c:Nat}{ps:List Value}{W:World}(h:W.ownsRow B 96 1 (.slice (some ⟨g0,0,none⟩) n c) n ps)(j:Nat)(v:Value)(hv:ps[j]? =some v):W.cell? ⟨g0,j,none⟩=some v:=by
 have h1:=World.ownsRow.cells h (g:=g0) rfl j v hv;have hadd:((⟨g0,0,none⟩:Addr).add j)=⟨g0,j,none⟩:=by cases j<;>simp[Addr.add]
 rwa [hadd]at h1
theorem Bw.own_cap {B g0 n c:Nat}{ps:List Value}{W:World}(h:W.ownsRow B 96 1 (.slice (some ⟨g0,0,none⟩) n c) n ps):n<=c:=by
 rcases h.2 with⟨e,_⟩|⟨g,cap,cur,hv,_,_,h4,_⟩
 ·simp at e
 simp only[Value.slice.injEq]at hv;omega
theorem Tryz.bwPart (g c kb cap:Nat)(k1 n1 k2 n2:Int)(w:World)(hA:Bw.At g 2 (Bw.root kb cap) w)(hA1:Bw.At g 16 (Bw.leaf k1 n1) w)(hA2:Bw.At g 30 (Bw.leaf k2 n2) w)(hT:Bw.Two kb k1 n1 k2 n2 w)(hK:kb<w.heap.size):
  Calls Tryz.prog 32 #[.slice (some ⟨g,0,none⟩) 3 c] w λe w'=>e=.returned (.tuple #[])/\Tk.But (λi=>i=g) w w':=by
 have HA:Hid (Bw.At g 16 (Bw.leaf k1 n1) w/\Bw.At g 30 (Bw.leaf k2 n2) w/\g<w.heap.size/\Bw.At g 2 (Bw.root kb cap) w):=⟨hA1,hA2,hA.lt,hA⟩;have C1:Hid _:=Tryz.bwOwn_root g 2 kb cap k1 n1 k2 n2 w hA hT hK;clear hA hA1 hA2 hT hK
 go_enter Tryz.func32,Tryz.ntmps32
 go_wp2;refine wp_loop_rounds 4 ?_;rw[rounds_succ]
 go_wp2_with fail
 refine Calls.mono C1.out ?_;rintro e W1 ⟨K',c',g1,d1,rfl,hKb,o1,hg1,a1,a2,b1,hne⟩;have hgl:=HA.out.2.2.1;have hge:w.heap.size<=g1:=(World.ownsRow.lt o1 g1 rfl).1
 have H1:Hid (Bw.At g 2 (Bw.root K' c') W1/\Bw.At g 16 (Bw.leaf k1 n1) W1/\Bw.At g 30 (Bw.leaf k2 n2) W1/\Bw.At K' 0 (Bw.leaf k1 n1) W1/\Bw.At K' 12 (Bw.leaf k2 n2) W1/\Tk.But (λi=>i=g) w W1/\g1≠K'/\w.heap.size<=g1/\W1.ownsRow w.heap.size 96 1 (.slice (some ⟨g1,0,none⟩) 3 d1) 3 [.pointer (some ⟨g,2+4,none⟩),.pointer (some ⟨K',4,none⟩),.pointer (some ⟨K',16,none⟩)]):=
  ⟨(HA.out.2.2.2.put 8 (by decide) rfl _).keep hg1,(HA.out.1.put_other 10 (.inl (by decide)) _).keep hg1,(HA.out.2.1.put_other 10 (.inl (by decide)) _).keep hg1,a1,a2,b1,hne,hge,o1⟩
 have C2:Hid _:=Tryz.bwOwn_leaf g 16 k1 n1 w.heap.size 3 d1 _ _ W1 H1.out.2.1 o1 (by decide) b1.size (λb hb=>by obtain rfl:=Option.some.inj hb;show g1≠g;omega);clear o1 hg1 a1 a2 b1 hne C1;go_wp2;rw[rounds_succ]
 go_wp2_with fail
 refine Calls.mono C2.out ?_;rintro e W2 ⟨g2,d2,rfl,o2,t2,q2⟩;have hs1:=H1.out.2.2.2.2.2.1.size;have hl1:=H1.out.2.2.2.1.lt;have keep1:∀k,k<W1.heap.size->k≠g1->W2.heap[k]? =W1.heap[k]? :=λk hk hn=>t2.block k hk (λe=>hn (Option.some.inj e))
 have hg2:g2≠K'/\g2≠g/\w.heap.size<=g2:=by
  rcases q2 with e|e
  ·obtain rfl:=Option.some.inj e
   exact⟨H1.out.2.2.2.2.2.2.1,by show g1≠g;omega,hge⟩
  exact⟨by omega,by omega,by omega⟩
 have H2:Hid (Bw.At g 2 (Bw.root K' c') W2/\Bw.At g 16 (Bw.leaf k1 n1) W2/\Bw.At g 30 (Bw.leaf k2 n2) W2/\Bw.At K' 0 (Bw.leaf k1 n1) W2/\Bw.At K' 12 (Bw.leaf k2 n2) W2/\Tk.But (λi=>i=g) w W2/\g2≠K'/\w.heap.size<=g2):=by
  have kg:=keep1 g (by omega) (by omega);have kK:=keep1 K' hl1 (Ne.symm H1.out.2.2.2.2.2.2.1);exact⟨H1.out.1.keep kg,H1.out.2.1.keep kg,H1.out.2.2.1.keep kg,H1.out.2.2.2.1.keep kK,H1.out.2.2.2.2.1.keep kK,⟨t2.os.trans H1.out.2.2.2.2.2.1.os,t2.tape.trans H1.out.2.2.2.2.2.1.tape,t2.output.trans H1.out.2.2.2.2.2.1.output,Nat.le_trans hs1 t2.size,λk h1 h2=>(keep1 k (by omega) (by omega)).trans (H1.out.2.2.2.2.2.1.block k h1 h2)⟩,hg2.1,hg2.2.2⟩
 have C3:Hid _:=Tryz.bwOwn_leaf g 30 k2 n2 w.heap.size 4 d2 _ _ W2 H2.out.2.2.1 o2 (by decide) H2.out.2.2.2.2.2.1.size (λb hb=>by obtain rfl:=Option.some.inj hb;show g2≠g;exact hg2.2.1);clear o2 t2 q2 keep1 hs1 hl1 hg2 C2 hge;go_wp2;rw[rounds_succ]
 go_wp2_with fail
 refine Calls.mono C3.out ?_;rintro e W3 ⟨g3,d3,rfl,o3,t3,q3⟩;have hs2:=H2.out.2.2.2.2.2.1.size;have hl2:=H2.out.2.2.2.1.lt;have hge2:=H2.out.2.2.2.2.2.2.2;have keep2:∀k,k<W2.heap.size->k≠g2->W3.heap[k]? =W2.heap[k]? :=λk hk hn=>t3.block k hk (λe=>hn (Option.some.inj e));have HE:Hid (Tk.But (λi=>i=g) w W3):=⟨t3.os.trans H2.out.2.2.2.2.2.1.os,t3.tape.trans H2.out.2.2.2.2.2.1.tape,t3.output.trans H2.out.2.2.2.2.2.1.output,Nat.le_trans hs2 t3.size,λk h1 h2=>(keep2 k (by omega) (by omega)).trans (H2.out.2.2.2.2.2.1.block k h1 h2)⟩;have kg:=keep2 g (by omega) (by omega);have kK:=keep2 K' hl2 (Ne.symm H2.out.2.2.2.2.2.2.1)
 have C4:Hid (Calls Tryz.prog 56 #[.slice (some ⟨g3,0,none⟩) 5 d3,.func (.func 57) #[] #[],.int .i64 53687091] W3 λe w'=>e=.returned (.tuple #[])/\w'=W3):=by
  refine Tryz.bwPart_nil g3 5 d3 W3 (Bw.own_cap o3) (λj hj=> ?_) (by decide);have oc:=Bw.own_cells o3
  match j,hj with
  |0,_=>obtain⟨cur,T,h1,h2⟩:=(H2.out.1.keep kg).kid rfl;exact⟨_,_,cur,T,oc 0 _ rfl,h1,h2⟩
  |1,_=>obtain⟨cur,T,h1,h2⟩:=(H2.out.2.2.2.1.keep kK).kid rfl;exact⟨_,_,cur,T,oc 1 _ rfl,h1,h2⟩
  |2,_=>obtain⟨cur,T,h1,h2⟩:=(H2.out.2.2.2.2.1.keep kK).kid rfl;exact⟨_,_,cur,T,oc 2 _ rfl,h1,h2⟩
  |3,_=>obtain⟨cur,T,h1,h2⟩:=(H2.out.2.1.keep kg).kid rfl;exact⟨_,_,cur,T,oc 3 _ rfl,h1,h2⟩
  |4,_=>obtain⟨cur,T,h1,h2⟩:=(H2.out.2.2.1.keep kg).kid rfl;exact⟨_,_,cur,T,oc 4 _ rfl,h1,h2⟩
 clear o3 t3 q3 keep2 kg kK C3 hs2 hl2 hge2 hgl;go_wp2;rw[rounds_succ]
 go_wp2_with fail
 refine Calls.mono C4.out ?_;rintro e W4 ⟨rfl,hW4⟩;obtain rfl:=hW4.symm;go_wp2
 go_end0
 exact⟨rfl,HE.out⟩
theorem Tryz.bwItems (kb cap:Nat)(k1 n1 k2 n2:Int)(w:World)(hT:Bw.Two kb k1 n1 k2 n2 w)(hK:kb<w.heap.size):
  Calls Tryz.prog 14 #[.agg (Bw.root kb cap)] w λe w'=>∃g c,e=.returned (.slice (some ⟨g,0,none⟩) 3 c)/\Below w.heap.size w w':=by
 obtain⟨w1,hw1⟩:=pE (w.alloc (.cells (Bw.root kb cap) 32));have B1:=pB hw1;have N1:=pH hw1;have s1:w1.heap.size=w.heap.size+1:=by rw[<-hw1];simp
 obtain⟨w2,hw2⟩:=pE (w1.alloc (.cells #[.int .i64 11184810] 3));have X2:Bw.Bx w1.heap.size 11184810 w2:=pH hw2;have B2:=pB hw2;have N2:w2.heap[w.heap.size]? =some (.cells (Bw.root kb cap) 32 (0,0)):=(B2.block _ (by omega)).trans N1;have b02:Below w.heap.size w w2:=B1.trans (B2.mono B1.size);have hu:=Tryz.underlying32
 have HB:Hid (∀W,Tk.But (λi=>i=w1.heap.size) w2 W->W.heap[w.heap.size]? =some (.cells (Bw.root kb cap) 32 (0,0))/\Below w.heap.size w W/\Bw.Two kb k1 n1 k2 n2 W/\kb<W.heap.size):=λW hb=>by
  have h1:Below w.heap.size w W:=b02.trans (hb.below b02.size (by intro k hk e;omega));exact⟨(hb.block _ (by have:=B2.size;omega) (by omega)).trans N2,h1,hT.keep (h1.block kb hK),Nat.lt_of_lt_of_le hK h1.size⟩
 have C1:Hid _:=Tryz.bwRes_root kb cap k1 n1 k2 n2 w1.heap.size 11184810 w2 X2 (HB.out w2 (.refl _ _)).2.2.1 (HB.out w2 (.refl _ _)).2.2.2 (by omega) (by decide) (by decide);have H1:Hid _:=hw1;have H2:Hid _:=hw2;clear hT hK hw1 hw2 B1 N1 s1 X2 B2 b02
 go_enter Tryz.func14,Tryz.ntmps14
 go_upto_region 1 with fail
 rw[H1.out]
 go_upto_region 2 with fail
 rw[H2.out];clear H1 H2
 go_wp2_with (refine wpList_load_row rfl 32 _ rfl _ rfl 32 _ (0,0) _ N2 hu rfl Bw.info ?_)
 refine Calls.mono C1.out ?_;rintro e W3 ⟨rfl,b3⟩;obtain⟨N3,h3,T3,k3⟩:=HB.out W3 b3;have H3:Hid (Below w.heap.size w W3/\Bw.Two kb k1 n1 k2 n2 W3/\kb<W3.heap.size):=⟨h3,T3,k3⟩;have C2:Hid _:=Tryz.bwList_root kb cap k1 n1 k2 n2 W3 T3 k3;clear b3 HB C1 N2 h3 T3 k3
 go_upto_region 4 with fail
 go_wp2_with (refine wpList_load_row rfl 32 _ rfl _ rfl 32 _ (0,0) _ N3 hu rfl Bw.info ?_)
 refine Calls.mono C2.out ?_;rintro e W4 ⟨g,c,rfl,o4,b4⟩
 have C3:Hid (Calls Tryz.prog 32 #[.slice (some ⟨g,0,none⟩) 3 c] W4 λe w'=>e=.returned (.tuple #[])/\Below w.heap.size w w'):=by
  rcases o4.2 with⟨e,_⟩|⟨g',cap',cur,hv,hge,hgc,hc1,_,hc3,hc4⟩
  ·simp at e
  simp only[Value.slice.injEq,Option.some.injEq,Addr.mk.injEq]at hv;obtain⟨⟨rfl,-,-⟩,-,rfl⟩:=hv;have hx:∀o (r:Array Value),r.size=12->o+12<=42->(∀i,i<12->(Bw.item (-1) 0 (Bw.root kb cap)++Bw.item 0 0 (Bw.leaf k1 n1)++Bw.item 0 1 (Bw.leaf k2 n2))[o+i]? =r[i]?)->Bw.At g o r W4:=λo r _ ho h=>Bw.At.of_take hgc hc4 o r h ho;refine(Tryz.bwPart g c kb cap k1 n1 k2 n2 W4 (hx 2 _ rfl (by decide) λi hi=> ?_) (hx 16 _ rfl (by decide) λi hi=> ?_) (hx 30 _ rfl (by decide) λi hi=> ?_) (H3.out.2.1.keep (b4.block kb H3.out.2.2)) (Nat.lt_of_lt_of_le H3.out.2.2 b4.size)).mono ?_
  ·match i,hi with
   |0,_|1,_|2,_|3,_|4,_|5,_|6,_|7,_|8,_|9,_|10,_|11,_=>rfl
  ·match i,hi with
   |0,_|1,_|2,_|3,_|4,_|5,_|6,_|7,_|8,_|9,_|10,_|11,_=>rfl
  ·match i,hi with
   |0,_|1,_|2,_|3,_|4,_|5,_|6,_|7,_|8,_|9,_|10,_|11,_=>rfl
  rintro e w' ⟨h1,h2⟩;have hs:=H3.out.1.size;have hb4:Below w.heap.size w W4:=H3.out.1.trans (b4.mono hs);exact⟨h1,hb4.trans (h2.below hb4.size (by intro k hk e;omega))⟩
 clear o4 b4 C2 N3
 go_wp2_with fail
 refine Calls.mono C3.out ?_;rintro e W5 ⟨rfl,b5⟩;have HE:Hid _:=b5;clear b5 C3;go_wp2;go_ret;exact⟨g,c,rfl,HE.out⟩
theorem Tryz.fm_0 (k:Int)(x1 x2 x3 x4 x5 x6 x7 x8 x9 x10 x11:Value)(w:World)(hb:Bool)(hk:k<1∨14<k)(CH0:∀W,Below w.heap.size w W->Calls Tryz.prog 43 #[.agg #[.int .i64 k,x1,x2,x3,x4,x5,x6,x7,x8,x9,x10,x11]] W λe w'=>e=.returned (.bool hb)/\Below W.heap.size W w'):
  Calls Tryz.prog 26 #[.agg #[.int .i64 k,x1,x2,x3,x4,x5,x6,x7,x8,x9,x10,x11]] w λe w'=>e=.returned (.bool false)/\Below w.heap.size w w':=by
 have e1:(k==1)=false:=by simp;omega
 have e2:(k==2)=false:=by simp;omega
 have e3:(k==3)=false:=by simp;omega
 have e4:(k==4)=false:=by simp;omega
 have e5:(k==5)=false:=by simp;omega
 have e6:(k==6)=false:=by simp;omega
 have e7:(k==7)=false:=by simp;omega
 have e8:(k==8)=false:=by simp;omega
 have e9:(k==9)=false:=by simp;omega
 have e10:(k==10)=false:=by simp;omega
 have e11:(k==11)=false:=by simp;omega
 have e12:(k==12)=false:=by simp;omega
 have e13:(k==13)=false:=by simp;omega
 have e14:(k==14)=false:=by simp;omega
 have CH:Hid _:=CH0;obtain⟨w1,hw1⟩:=pE (w.alloc (.cells #[.int .i64 k,x1,x2,x3,x4,x5,x6,x7,x8,x9,x10,x11] 32));have A1:=pB hw1
 have G1:w1.heap[w.heap.size]? =some (.cells #[.int .i64 k,x1,x2,x3,x4,x5,x6,x7,x8,x9,x10,x11] 32 (0,0)):=by rw[<-hw1];exact heap_alloc_new w _
 have ca:w1.cell? ⟨w.heap.size,0,none⟩=some (.int .i64 k)/\w1.cell? ⟨w.heap.size,1,none⟩=some x1/\w1.cell? ⟨w.heap.size,2,none⟩=some x2/\w1.cell? ⟨w.heap.size,3,none⟩=some x3/\w1.cell? ⟨w.heap.size,4,none⟩=some x4/\w1.cell? ⟨w.heap.size,5,none⟩=some x5/\w1.cell? ⟨w.heap.size,6,none⟩=some x6/\w1.cell? ⟨w.heap.size,7,none⟩=some x7/\w1.cell? ⟨w.heap.size,8,none⟩=some x8/\w1.cell? ⟨w.heap.size,9,none⟩=some x9/\w1.cell? ⟨w.heap.size,10,none⟩=some x10/\w1.cell? ⟨w.heap.size,11,none⟩=some x11:=by simp[World.cell?,G1]
 obtain⟨m0,m1,m2,m3,m4,m5,m6,m7,m8,m9,m10,m11⟩:=ca;have H1:Hid (w.alloc (.cells #[.int .i64 k,x1,x2,x3,x4,x5,x6,x7,x8,x9,x10,x11] 32)=w1):=hw1;have HA:Hid (Below w.heap.size w w1/\w1.heap[w.heap.size]? =some (.cells #[.int .i64 k,x1,x2,x3,x4,x5,x6,x7,x8,x9,x10,x11] 32 (0,0))):=⟨A1,G1⟩;have hnb:Ac.hasNodeB k=false:=by unfold Ac.hasNodeB;simp;omega
 clear hw1 A1 G1 CH0 hk
 go_enter Tryz.func26,Tryz.ntmps26
 go_upto_region 1 with fail
 rw[H1.out]
 go_wp2_with fail
 refine Calls.mono (CH.out _ HA.out.1) ?_;rintro e W2 ⟨rfl,hb2⟩;clear H1 CH m0 m1 m2 m3 m4 m5 m6 m7 m8 m9 m10 m11
 go_upto_region 3 with fail
 obtain⟨W3,hW3⟩:=pE (W2.alloc (.cells #[.bool hb] 4));have hx2:W2.heap[w.heap.size]? =some (.cells #[.int .i64 k,x1,x2,x3,x4,x5,x6,x7,x8,x9,x10,x11] 32 (0,0)):=(hb2.block _ (Array.getElem?_eq_some_iff.1 HA.out.2).1).trans HA.out.2;have hl2:=(Array.getElem?_eq_some_iff.1 hx2).1
 have FW3:Hid (Ak.Fm w w.heap.size W2.heap.size #[.int .i64 k,x1,x2,x3,x4,x5,x6,x7,x8,x9,x10,x11] hb W3):=by
  have b3:=pB hW3
  have b2:Below w.heap.size w W2:=HA.out.1.trans (hb2.mono HA.out.1.size);exact⟨(b3.block _ hl2).trans hx2,by rw[<-hW3];exact heap_alloc_new W2 _,by omega,Nat.le_refl _,b2.size,b2.trans (b3.mono b2.size)⟩
 rw[hW3];have k0:W3.cell? ⟨w.heap.size,0,none⟩=some (.int .i64 k):=by simp[World.cell?,FW3.out.box]
 have CN:Hid _:=Tryz.hasNode_any k W3;rw[hnb]at CN;clear hW3 hx2 hl2 hb2 HA hnb
 go_wp2_with fail
 refine Calls.mono CN.out ?_;rintro e W4 ⟨rfl,hw4⟩;obtain rfl:=hw4.symm;clear CN;go_wp2;go_ret;exact⟨rfl,FW3.out.bel⟩
theorem Tryz.aformed_any (d e:Nat)(T:Ac)(V:Ac.Vs)(w:World)(hT:Ac.Lies w w.heap.size e d V T)(hF:T.Fit)(hO:Tk.Ops w)(h0:0<w.heap.size):
  Calls Tryz.prog 26 #[.agg (Ac.row T V)] w λe w'=>Ak.Told T.Formed e/\Below w.heap.size w w':=by
 by_cases hr:T.kind<1∨14<T.kind
 ·have hno:¬T.Formed:=λh=>by
   unfold Ac.Formed at h
   rcases h with h|h|h|h|h|h|h|h|h|h|h|h|h|h|h<;>(have:=h.1;omega)
  have hrow:Ac.row T V=#[.int .i64 T.kind,.int .i64 T.node,.int .i64 T.a,.int .i64 T.b,.int .i64 T.t.op,.int .i64 T.t.num,V.t,V.c,V.k,V.l,V.n,V.f]:=rfl;have CH:∀W,Below w.heap.size w W->Calls Tryz.prog 43 #[.agg (Ac.row T V)] W λe w'=>e=.returned (.bool T.holdsB)/\Below W.heap.size W w':=λW hb=>Tryz.holds_any d e T V W ((hT.below hb).wider hb.size) (by have:=hF.kl;omega);rw[hrow]at CH⊢;exact(Tryz.fm_0 T.kind _ _ _ _ _ _ _ _ _ _ _ w T.holdsB hr CH).mono λe w' h=>⟨by rw[h.1];exact Ak.Told.no hno,h.2⟩
 have hk:T.kind=1∨T.kind=2∨T.kind=3∨T.kind=4∨T.kind=5∨T.kind=6∨T.kind=7∨T.kind=8∨T.kind=9∨T.kind=10∨T.kind=11∨T.kind=12∨T.kind=13∨T.kind=14:=by omega
 rcases hk with hk|hk|hk|hk|hk|hk|hk|hk|hk|hk|hk|hk|hk|hk
 ·exact Tryz.aformed_1 d e T V w hT hF hO h0 hk
 ·exact Tryz.aformed_2 d e T V w hT hF hO h0 hk
 ·exact Tryz.aformed_3 d e T V w hT hF hO h0 hk
 ·exact Tryz.aformed_4 d e T V w hT hF hO h0 hk
 ·exact Tryz.aformed_5 d e T V w hT hF hO h0 hk
 ·exact Tryz.aformed_6 d e T V w hT hF hO h0 hk
 ·exact Tryz.aformed_7 d e T V w hT hF hO h0 hk
 ·exact Tryz.aformed_8 d e T V w hT hF hO h0 hk
 ·exact Tryz.aformed_9 d e T V w hT hF hO h0 hk
 ·exact Tryz.aformed_10 d e T V w hT hF hO h0 hk
 ·exact Tryz.aformed_11 d e T V w hT hF hO h0 hk
 ·by_cases ha:T.a=3
  ·exact Tryz.aformed_12a d e T V w hT hF hO h0 hk ha
  exact Tryz.aformed_12b d e T V w hT hF hO h0 hk ha
 ·exact Tryz.aformed_13 d e T V w hT hF hO h0 hk
 exact Tryz.aformed_14 d e T V w hT hF hO h0 hk
def Ac.twiceB (T:Ac):Bool:= !(T.go Ac.enterS (List.replicate 24 false)).1
theorem Tryz.hasTwice_any (d e:Nat)(T:Ac)(V:Ac.Vs)(w:World)(hT:Ac.Lies w w.heap.size e d V T)(h0:0<w.heap.size)(hsz:T.size<=2147483647)(hdp:T.depth<=1000)(hP:T.All Ac.NodeOk):
  Calls Tryz.prog 27 #[.agg (Ac.row T V)] w λe w'=>e=.returned (.bool T.twiceB)/\Below w.heap.size w w':=by
 obtain⟨x0,x1,x2,x3,x4,x5,x6,x7,x8,x9,x10,x11,hrow⟩:∃x0 x1 x2 x3 x4 x5 x6 x7 x8 x9 x10 x11,Ac.row T V=#[x0,x1,x2,x3,x4,x5,x6,x7,x8,x9,x10,x11]:=⟨_,_,_,_,_,_,_,_,_,_,_,_,rfl⟩;rw[hrow];obtain⟨w1,hw1⟩:=pE (w.alloc (.cells #[x0,x1,x2,x3,x4,x5,x6,x7,x8,x9,x10,x11] 32));obtain⟨w2,hw2⟩:=pE (w1.alloc (.cells #[.bool false,.bool false,.bool false,.bool false,.bool false,.bool false,.bool false,.bool false,.bool false,.bool false,.bool false,.bool false,.bool false,.bool false,.bool false,.bool false,.bool false,.bool false,.bool false,.bool false,.bool false,.bool false,.bool false,.bool false] 89));have A1:=pB hw1
 have G1:w1.heap[w.heap.size]? =some (.cells #[x0,x1,x2,x3,x4,x5,x6,x7,x8,x9,x10,x11] 32 (0,0)):=by rw[<-hw1];exact heap_alloc_new w _
 have l1:=(Array.getElem?_eq_some_iff.1 G1).1;have A2:=pB hw2
 have G2:w2.heap[w.heap.size]? =some (.cells #[x0,x1,x2,x3,x4,x5,x6,x7,x8,x9,x10,x11] 32 (0,0)):=(A2.block _ l1).trans G1
 have hBt:Nt.Bt w2 w1.heap.size (List.replicate 24 false):=by
  show w2.heap[w1.heap.size]? =some (.cells #[.bool false,.bool false,.bool false,.bool false,.bool false,.bool false,.bool false,.bool false,.bool false,.bool false,.bool false,.bool false,.bool false,.bool false,.bool false,.bool false,.bool false,.bool false,.bool false,.bool false,.bool false,.bool false,.bool false,.bool false] 89 (0,0));rw[<-hw2];exact heap_alloc_new w1 _
 have l2:=hBt.lt;have B2:Below w.heap.size w w2:=A1.trans (A2.mono A1.size);have cc:w2.cell? ⟨w.heap.size,0,none⟩=some x0/\w2.cell? ⟨w.heap.size,1,none⟩=some x1/\w2.cell? ⟨w.heap.size,2,none⟩=some x2/\w2.cell? ⟨w.heap.size,3,none⟩=some x3/\w2.cell? ⟨w.heap.size,4,none⟩=some x4/\w2.cell? ⟨w.heap.size,5,none⟩=some x5/\w2.cell? ⟨w.heap.size,6,none⟩=some x6/\w2.cell? ⟨w.heap.size,7,none⟩=some x7/\w2.cell? ⟨w.heap.size,8,none⟩=some x8/\w2.cell? ⟨w.heap.size,9,none⟩=some x9/\w2.cell? ⟨w.heap.size,10,none⟩=some x10/\w2.cell? ⟨w.heap.size,11,none⟩=some x11:=by simp[World.cell?,G2]
 obtain⟨m0,m1,m2,m3,m4,m5,m6,m7,m8,m9,m10,m11⟩:=cc;have key:=Tryz.athrough_any (step:=Ac.enterS) (P:=Ac.NodeOk) (g:=50) (lb:=#[.pointer (some ⟨w1.heap.size,0,none⟩)]) (Inv:=λbs W=>Nt.Bt W w1.heap.size bs/\bs.length=24) (E:=λk=>k=w1.heap.size) (B:=w.heap.size) (e:=e) d (List.replicate 24 false) T V w2 (λbw hbw=>Ak.stepped_twice w.heap.size e w1.heap.size bw (by omega) (by omega)) (hT.below B2) h0 B2.size ⟨hBt,by simp⟩ (λk hk=>by omega) hsz hP;rw[hrow]at key;have HC:Hid _:=key;obtain⟨R,hR⟩:=pE (T.twiceB);rw[hR];have HR:Hid (T.twiceB=R/\T.depth<=1000/\T.size<=2147483647/\Below w.heap.size w w2/\w.heap.size<w1.heap.size):=⟨hR,hdp,hsz,B2,l1⟩;have H1:Hid (w.alloc (.cells #[x0,x1,x2,x3,x4,x5,x6,x7,x8,x9,x10,x11] 32)=w1):=hw1;have H2:Hid (w1.alloc (.cells #[.bool false,.bool false,.bool false,.bool false,.bool false,.bool false,.bool false,.bool false,.bool false,.bool false,.bool false,.bool false,.bool false,.bool false,.bool false,.bool false,.bool false,.bool false,.bool false,.bool false,.bool false,.bool false,.bool false,.bool false] 89)=w2):=hw2;clear key hT hP hrow hw1 hw2 A1 G1 A2 G2 hBt l1 l2 B2 hR hsz hdp
 go_enter Tryz.func27,Tryz.ntmps27
 go_upto_region 1 with fail
 rw[H1.out]
 go_upto_region 2 with fail
 rw[H2.out]
 go_wp2_with fail
 refine Calls.mono HC.out ?_;rintro e W3 ⟨b,rfl,hbt,hend⟩
 have H3:Hid (R= !b/\Below w.heap.size w W3):=by
  have h:=HR.out;refine⟨?_,h.2.2.2.1.trans (hbt.below h.2.2.2.1.size (λk hk=>by have:=h.2.2.2.2;omega))⟩
  rcases hend with⟨_,_,_,h4⟩|⟨h4,_⟩
  ·rw[<-h.1,h4];rfl
  exact absurd ⟨h.2.1,h.2.2.1⟩ h4
 clear hbt hend HC;go_wp2;go_ret;exact⟨Tk.ret_bool H3.out.1.symm,H3.out.2⟩
noncomputable def Ac.formB (T:Ac):Bool:= @decide T.Formed (Classical.propDecidable _)
noncomputable def Ac.stepF (T:Ac)(s:Unit):Bool×Unit:=(T.formB,s)
theorem Ac.formB_iff (T:Ac):T.formB=true↔T.Formed:=⟨λh=> @of_decide_eq_true _ (Classical.propDecidable _) h,λh=> @decide_eq_true _ (Classical.propDecidable _) h⟩
theorem Ac.told_form {T:Ac}{e:Ending}(h:Ak.Told T.Formed e):e=.returned (.bool T.formB):=by
 obtain⟨r,h1,h2⟩:=h;rw[h1]
 congr 2
 rw[Bool.eq_iff_iff,h2,Ac.formB_iff]
mutual
theorem Ac.go_form:∀(T:Ac) (s:Unit),(T.go Ac.stepF s).1=true->T.All Ac.Formed
 | .mk k n a b t c ks l x y,s,h=>by
   rw[Ac.go]at h
   split at h
   ·next h1=>exact⟨(Ac.formB_iff _).1 h1,Ac.goes_form ks _ h⟩
   simp at h
theorem Ac.goes_form:∀(l:List Ac) (s:Unit),(Ac.goes Ac.stepF l s).1=true->Ac.Alls Ac.Formed l
 | [],_,_=>trivial
 |k::r,s,h=>by
  rw[Ac.goes]at h
  split at h
  ·next h1=>exact⟨Ac.go_form k s h1,Ac.goes_form r _ h⟩
  simp at h
end
mutual
theorem Ac.all_mono {P Q:Ac->Prop}(h:∀T,P T->Q T):∀T:Ac,T.All P->T.All Q
 | .mk _ _ _ _ _ _ ks _ _ _,hh=>⟨h _ hh.1,Ac.alls_mono h ks hh.2⟩
theorem Ac.alls_mono {P Q:Ac->Prop}(h:∀T,P T->Q T):∀l:List Ac,Ac.Alls P l->Ac.Alls Q l
 | [],_=>trivial
 |k::r,hh=>⟨Ac.all_mono h k hh.1,Ac.alls_mono h r hh.2⟩
end
theorem Ac.formed_node (T:Ac)(h:T.Formed):T.NodeOk:=by
 intro hn;unfold Ac.Formed at h
 rcases h with h|h|h|h|h|h|h|h|h|h|h|h|h|h|h
 ·rw[h.1]at hn;simp[Ac.hasNodeB]at hn
 ·exact h.2.2.1
 ·exact h.2.2.1
 ·exact h.2.2.1
 ·exact h.2.2.1
 ·exact h.2.2.1
 ·exact h.2.2.1
 ·exact h.2.2.1
 ·exact h.2.2.1
 ·rw[h.1]at hn;simp[Ac.hasNodeB]at hn
 ·rw[h.1]at hn;simp[Ac.hasNodeB]at hn
 ·exact h.2.2.2.1
 ·exact h.2.2.2.1
 ·rw[h.1]at hn;simp[Ac.hasNodeB]at hn
 rw[h.1]at hn;simp[Ac.hasNodeB]at hn
theorem Ak.stepped_form (B e bw:Nat)(hB:0<B)(hbw:0<bw):Ak.Stepped Ac.stepF Ac.Fit 26 #[] (λ_ W=>Tk.Ops W) (λ_=>False) B e bw where
 enters:=enters_of Tryz.func26 (by kernel_rfl) rfl
 calls:=λs W d T V hF hI hBW hT=>(Tryz.aformed_any d e T V W (hT.wider hBW) hF hI (by omega)).mono λe w' h=>⟨Ac.told_form h.1,hI.below h.2 hI.lt,Tk.But.of_below h.2⟩
 keeps:=λ_ W W' hI hb=>hI.keep (hb.block _ hI.lt (by omega))
 above:=λk hk=>hk.elim
 not_bw:=λh=>h
noncomputable def Ac.checkC (T:Ac):Int:=if T.tooB=true then 2 else if T.kind=10∨T.kind=12∨(T.go Ac.stepF ()).1=false then 4 else if T.twiceB=true then 8 else 0
theorem Tryz.aCheck_any (d e:Nat)(T:Ac)(V:Ac.Vs)(w:World)(hT:Ac.Lies w w.heap.size e d V T)(h0:0<w.heap.size)(hsz:T.size<=2147483647)(hF:T.All Ac.Fit)(hO:Tk.Ops w):
  Calls Tryz.prog 11 #[.agg (Ac.row T V)] w λe w'=>e=.returned (.int .i64 T.checkC)/\Below w.heap.size w w':=by
 have CT:∀W,Below w.heap.size w W->Calls Tryz.prog 24 #[.agg (Ac.row T V)] W λe w'=>e=.returned (.bool T.tooB)/\Below W.heap.size W w':=λW hb=>Tryz.atooLarge_any d e T V W ((hT.below hb).wider hb.size) (by have:=hb.size;omega) hsz
 have CF:T.depth<=1000->∀W,Below w.heap.size w W->Calls Tryz.prog 25 #[.agg (Ac.row T V),.func (.func 26) #[] #[]] W λe w'=>e=.returned (.bool (T.go Ac.stepF ()).1)/\Below W.heap.size W w':=λhdp W hb=>by
  have key:=Tryz.athrough_any (step:=Ac.stepF) (P:=Ac.Fit) (g:=26) (lb:=#[]) (Inv:=λ_ W=>Tk.Ops W) (E:=λ_=>False) (B:=w.heap.size) (e:=e) d () T V W (λbw hbw=>Ak.stepped_form w.heap.size e bw h0 (by have:=hO.lt;have:=hb.size;omega)) (hT.below hb) h0 hb.size (hO.below hb hO.lt) (λk hk=>hk.elim) hsz hF;refine key.mono λe w' ⟨b,h1,h2,h3⟩=> ?_
  rcases h3 with⟨_,_,_,h4⟩|⟨h4,_⟩
  ·exact⟨by rw[h1,h4],h2.below (Nat.le_refl _) (λk _ h=>h)⟩
  exact absurd ⟨hdp,hsz⟩ h4
 have CW:T.depth<=1000->(T.go Ac.stepF ()).1=true->∀W,Below w.heap.size w W->Calls Tryz.prog 27 #[.agg (Ac.row T V)] W λe w'=>e=.returned (.bool T.twiceB)/\Below W.heap.size W w':=λhdp hg W hb=>
  Tryz.hasTwice_any d e T V W ((hT.below hb).wider hb.size) (by have:=hb.size;omega) hsz hdp (Ac.all_mono Ac.formed_node T (Ac.go_form T () hg))
 have htoo:T.tooB=false->T.depth<=1000:=λh=>by
  unfold Ac.tooB at h;rw[Bool.not_eq_false',decide_eq_true_eq]at h;omega
 obtain⟨R,hR⟩:=pE (T.checkC);have HR:Hid (R=if T.tooB=true then 2 else if T.kind=10∨T.kind=12∨(T.go Ac.stepF ()).1=false then 4 else if T.twiceB=true then 8 else 0):=by show _=_;rw[<-hR];rfl
 obtain⟨k,hk⟩:=pE (T.kind);obtain⟨x1,x2,x3,x4,x5,x6,x7,x8,x9,x10,x11,hrow⟩:∃x1 x2 x3 x4 x5 x6 x7 x8 x9 x10 x11,Ac.row T V=#[.int .i64 k,x1,x2,x3,x4,x5,x6,x7,x8,x9,x10,x11]:=⟨_,_,_,_,_,_,_,_,_,_,_,by unfold Ac.row;rw[hk]⟩;rw[hrow]at CT CF CW;rw[hrow,hR];rw[hk]at HR;obtain⟨b0,hb0⟩:=pE (T.tooB);obtain⟨b1,hb1⟩:=pE ((T.go Ac.stepF ()).1);obtain⟨b2,hb2⟩:=pE (T.twiceB);rw[hb0]at CT htoo HR;rw[hb1]at CF CW HR;rw[hb2]at CW HR;obtain⟨w1,hw1⟩:=pE (w.alloc (.cells #[.int .i64 k,x1,x2,x3,x4,x5,x6,x7,x8,x9,x10,x11] 32));have A1:=pB hw1
 have G1:w1.heap[w.heap.size]? =some (.cells #[.int .i64 k,x1,x2,x3,x4,x5,x6,x7,x8,x9,x10,x11] 32 (0,0)):=by rw[<-hw1];exact heap_alloc_new w _
 have cA:∀W,Below w1.heap.size w1 W->W.cell? ⟨w.heap.size,0,none⟩=some (.int .i64 k)/\W.cell? ⟨w.heap.size,1,none⟩=some x1/\W.cell? ⟨w.heap.size,2,none⟩=some x2/\W.cell? ⟨w.heap.size,3,none⟩=some x3/\W.cell? ⟨w.heap.size,4,none⟩=some x4/\W.cell? ⟨w.heap.size,5,none⟩=some x5/\W.cell? ⟨w.heap.size,6,none⟩=some x6/\W.cell? ⟨w.heap.size,7,none⟩=some x7/\W.cell? ⟨w.heap.size,8,none⟩=some x8/\W.cell? ⟨w.heap.size,9,none⟩=some x9/\W.cell? ⟨w.heap.size,10,none⟩=some x10/\W.cell? ⟨w.heap.size,11,none⟩=some x11:=λW hb=>by
  have g1:=(hb.block _ (Array.getElem?_eq_some_iff.1 G1).1).trans G1;simp[World.cell?,g1]
 have HCA:Hid _:=cA;have HCT:Hid _:=CT;have HCF:Hid _:=CF;have HCW:Hid _:=CW;have HTO:Hid _:=htoo;have HA:Hid (Below w.heap.size w w1/\∀W,Below w1.heap.size w1 W->Below w.heap.size w W):=⟨A1,λW hb=>A1.trans (hb.mono A1.size)⟩;have H1:Hid (w.alloc (.cells #[.int .i64 k,x1,x2,x3,x4,x5,x6,x7,x8,x9,x10,x11] 32)=w1):=hw1;obtain⟨m0,m1,m2,m3,m4,m5,m6,m7,m8,m9,m10,m11⟩:=cA w1 (Below.refl _ _);clear CT CF CW htoo hR hk hrow hb0 hb1 hb2 hw1 A1 G1 cA hT hsz hF hO h0
 go_enter Tryz.func11,Tryz.ntmps11
 go_upto_region 1 with fail
 rw[H1.out]
 go_wp2_with fail
 refine Calls.mono (HCT.out _ HA.out.1) ?_;rintro e W2 ⟨rfl,hbe2⟩;have B2:Hid (Below w1.heap.size w1 W2):=hbe2;clear hbe2 m0 m1 m2 m3 m4 m5 m6 m7 m8 m9 m10 m11 H1 HCT
 cases b0 with
 |true=>
  go_wp2;go_ret;exact⟨by rw[HR.out];rfl,HA.out.2 _ B2.out⟩
 |false=>
 have hdp:=HTO.out rfl;have HDP:Hid (T.depth<=1000):=hdp;clear hdp HTO;obtain⟨m0,m1,m2,m3,m4,m5,m6,m7,m8,m9,m10,m11⟩:=HCA.out W2 B2.out
 by_cases q1:k=10
 ·subst q1
  clear m1 m2 m3 m4 m5 m6 m7 m8 m9 m10 m11;go_wp2;go_ret;exact⟨by rw[HR.out];rfl,HA.out.2 _ B2.out⟩
 have e1:(k==10)=false:=by simpa using q1
 by_cases q2:k=12
 ·subst q2
  clear m1 m2 m3 m4 m5 m6 m7 m8 m9 m10 m11 q1 e1;go_wp2;go_ret;exact⟨by rw[HR.out];rfl,HA.out.2 _ B2.out⟩
 have e2:(k==12)=false:=by simpa using q2
 have HK:Hid (¬k=10/\¬k=12):=⟨q1,q2⟩;clear q1 q2
 go_wp2_with fail
 refine Calls.mono (HCF.out HDP.out _ (HA.out.2 _ B2.out)) ?_;rintro e W3 ⟨rfl,hbe3⟩;have B3:Hid (Below w1.heap.size w1 W3):=B2.out.trans (hbe3.mono B2.out.size);clear hbe3 m0 m1 m2 m3 m4 m5 m6 m7 m8 m9 m10 m11 HCF
 cases b1 with
 |false=>
  go_wp2;go_ret;exact⟨by rw[HR.out,if_neg (by decide),if_pos (.inr (.inr (by first|rfl|trivial)))];rfl,HA.out.2 _ B3.out⟩
 |true=>
 obtain⟨m0,m1,m2,m3,m4,m5,m6,m7,m8,m9,m10,m11⟩:=HCA.out W3 B3.out
 go_wp2_with fail
 refine Calls.mono (HCW.out HDP.out (by first|rfl|trivial) _ (HA.out.2 _ B3.out)) ?_;rintro e W4 ⟨rfl,hbe4⟩;have B4:Hid (Below w1.heap.size w1 W4):=B3.out.trans (hbe4.mono B3.out.size);clear hbe4 m0 m1 m2 m3 m4 m5 m6 m7 m8 m9 m10 m11 HCW
 have HRR:Hid (R=if b2=true then 8 else 0):=by
  show _=_;rw[HR.out,if_neg (by decide),if_neg (by rintro(h|h|h);exact HK.out.1 h;exact HK.out.2 h;cases h)]
 cases b2 with
 |true=>
  go_wp2;go_ret;exact⟨by rw[HRR.out];rfl,HA.out.2 _ B4.out⟩
 |false=>
  go_wp2;go_ret;exact⟨by rw[HRR.out];rfl,HA.out.2 _ B4.out⟩
end Go.Proofs
namespace Go.Proofs
namespace Dd
def kkOf (T:Ac):List (Int×Int):=T.ks.map λx=>(x.kind,x.a)
theorem cover:∀(n:Nat) (ls:List (Int×Int)),(∀i:Nat,i<n->1<=ls.countP λl=>decide (l.2=(i:Int)))->n<=ls.countP λl=>decide (0<=l.2/\l.2<(n:Int))
 |0,_,_=>Nat.zero_le _
 |n+1,ls,h=>by
  have ih:=cover n ls λi hi=>h i (by omega);have h1:=h n (by omega)
  have h2:∀l:List (Int×Int),(l.countP λl=>decide (0<=l.2/\l.2<(n:Int)))+(l.countP λl=>decide (l.2=(n:Int)))<=l.countP λl=>decide (0<=l.2/\l.2<((n+1:Nat):Int)):=by
   intro l
   induction l with
   |nil=>simp
   |cons x r ihr=>
    rw[List.countP_cons,List.countP_cons,List.countP_cons]
    by_cases a:x.2=(n:Int)
    ·rw[decide_eq_false (show¬(0<=x.2/\x.2<(n:Int))by omega),decide_eq_true a,decide_eq_true (show 0<=x.2/\x.2<((n+1:Nat):Int)by omega),if_pos rfl,if_neg (by decide)]
     omega
    by_cases b:0<=x.2/\x.2<(n:Int)
    ·rw[decide_eq_true b,decide_eq_false a,decide_eq_true (show 0<=x.2/\x.2<((n+1:Nat):Int)by omega),if_pos rfl,if_neg (by decide)]
     omega
    rw[decide_eq_false b,decide_eq_false a,decide_eq_false (show¬(0<=x.2/\x.2<((n+1:Nat):Int))by omega),if_neg (by decide)];omega
  have:=h2 ls;omega
structure Right (T:Ac):Prop where
 web:Web T.ls (kkOf T)
 free:∃rk,Free T.ls rk
 tos:∀i (h:i<T.ls.length),-1<=T.ls[i].2/\T.ls[i].2<T.ks.length
 ins:∀k,k<T.ks.length->1<=T.ls.countP λl=>decide (l.2=(k:Int))
 outs:∀k (h:k<T.ks.length),T.ks[k].kind=12->T.ks[k].a=3->(T.ls.countP λl=>decide (l.1=(k:Int)))=T.ks[k].cs.length
 last:(T.ls.countP λl=>decide (l.2= -1))=1
 first:(T.ls.countP λl=>decide (l.1= -1))=1
 kids:0<T.ks.length
end Dd
end Go.Proofs
namespace Go.Proofs.YtenaelpdnccgnaaGreatDoor
open Go.ChangeShapes Go.WideShapes Go.ChangeAt Go.RowKit
theorem gOps:Tryz.prog.globalNamed "treenail/term.operators" =some 0:=by kernel_rfl
theorem gOpsType:(Tryz.prog.globals[0]?).map (·.type)=some 143:=by kernel_rfl
theorem cellsOps:Tryz.prog.cellsOf 143=75:=by kernel_rfl
theorem cellsOp:Tryz.prog.cellsOf 142=5:=by kernel_rfl
theorem cellsInt':Tryz.prog.cellsOf 3=1:=by kernel_rfl
theorem cellsString':Tryz.prog.cellsOf 9=1:=by kernel_rfl
theorem list5' {α:Type}{l:List α}(h:l.length=5):∃a b c d e,l= [a,b,c,d,e]:=by
 match l,h with
 | [a,b,c,d,e],_=>exact⟨a,b,c,d,e,rfl⟩
theorem op_one {H:Type}{enc:TypeId×Value->H}{W:World}{base:Nat}{sp:Nat->Bool}{held:Bool}{fuel:Nat}{cs:List Value}{x:DataW H×List MemPlace}{t:List UInt8}{n1 n2 n3 n4:Int}
  (h:DataW.trod enc Tryz.prog W base sp held fuel 142 cs=some x) (hx:x.1=.agg [.lit (.string t),.lit (.int .i64 n1),.lit (.int .i64 n2),.lit (.int .i64 n3),.lit (.int .i64 n4)]):
  cs= [.string ⟨t.toArray⟩,.int .i64 n1,.int .i64 n2,.int .i64 n3,.int .i64 n4]:=by
 obtain⟨ys,n,_,hx',hl,hy,hf⟩:=DataW.trod_struct Tryz.underlying142 h;rw[cellsOp]at hl;have hy:ys.length=5:=hy;obtain⟨c0,c1,c2,c3,c4,rfl⟩:=list5' hl;obtain⟨y0,y1,y2,y3,y4,rfl⟩:=list5' hy;have g0:DataW.trod enc Tryz.prog W base sp held n 9 (([c0,c1,c2,c3,c4].drop 0).take (Tryz.prog.cellsOf 9))= [y0,y1,y2,y3,y4][0]? :=hf 0 _ rfl;have g1:DataW.trod enc Tryz.prog W base sp held n 3 (([c0,c1,c2,c3,c4].drop 1).take (Tryz.prog.cellsOf 3))= [y0,y1,y2,y3,y4][1]? :=hf 1 _ rfl;have g2:DataW.trod enc Tryz.prog W base sp held n 3 (([c0,c1,c2,c3,c4].drop 2).take (Tryz.prog.cellsOf 3))= [y0,y1,y2,y3,y4][2]? :=hf 2 _ rfl;have g3:DataW.trod enc Tryz.prog W base sp held n 3 (([c0,c1,c2,c3,c4].drop 3).take (Tryz.prog.cellsOf 3))= [y0,y1,y2,y3,y4][3]? :=hf 3 _ rfl;have g4:DataW.trod enc Tryz.prog W base sp held n 3 (([c0,c1,c2,c3,c4].drop 4).take (Tryz.prog.cellsOf 3))= [y0,y1,y2,y3,y4][4]? :=hf 4 _ rfl;rw[cellsString']at g0;rw[cellsInt']at g1 g2 g3 g4;obtain⟨s,e0,d0,_⟩:=DataW.trod_string Tryz.underlying9 g0;obtain⟨m1,e1,d1,_⟩:=DataW.trod_int Tryz.underlying3 g1;obtain⟨m2,e2,d2,_⟩:=DataW.trod_int Tryz.underlying3 g2;obtain⟨m3,e3,d3,_⟩:=DataW.trod_int Tryz.underlying3 g3;obtain⟨m4,e4,d4,_⟩:=DataW.trod_int Tryz.underlying3 g4;obtain rfl:c0=.string s:=(List.cons.inj e0).1;obtain rfl:c1=.int .i64 m1:=(List.cons.inj e1).1
 obtain rfl:c2=.int .i64 m2:=(List.cons.inj e2).1;obtain rfl:c3=.int .i64 m3:=(List.cons.inj e3).1;obtain rfl:c4=.int .i64 m4:=(List.cons.inj e4).1;rw[hx']at hx;rw[d0,d1,d2,d3,d4]at hx;simp only[List.map_cons,List.map_nil,DataW.agg.injEq,List.cons.injEq,DataW.lit.injEq,Lit.int.injEq,Lit.string.injEq,and_true,true_and]at hx;obtain⟨rfl,rfl,rfl,rfl,rfl⟩:=hx;rfl
theorem ops_of_laid {W:World}(h:laidMet Tryz.prog [("treenail/term.operators",Rows.laid_treenail_term_operators)] W):Tk.Ops W:=by
 obtain⟨ps,⟨g',t',cs,fuel,p,q,hg',ht',hvar,hd,_,_⟩,_⟩:=h;obtain rfl:=Option.some.inj (gOps.symm.trans hg');obtain rfl:=Option.some.inj (gOpsType.symm.trans ht');obtain⟨xs,m,rfl,hx,hl,hxl,hf⟩:=DataW.trod_array Tryz.underlying143 hd;rw[cellsOps]at hl;simp only[cellsOp]at hf;have hx1:=congrArg Prod.fst hx;have hlen:xs.length=15:=hxl;simp only[Rows.laid_treenail_term_operators,DataW.agg.injEq]at hx1
 have row:∀(i:Nat) (t:List UInt8) (n1 n2 n3 n4:Int),i<15->(xs.map (·.1))[i]? =some (.agg [.lit (.string t),.lit (.int .i64 n1),.lit (.int .i64 n2),.lit (.int .i64 n3),.lit (.int .i64 n4)])->
   (cs.toList.drop (i*5)).take 5= [.string ⟨t.toArray⟩,.int .i64 n1,.int .i64 n2,.int .i64 n3,.int .i64 n4]:=by
  intro i t n1 n2 n3 n4 hi hL;obtain⟨x,hxi⟩:∃x,xs[i]? =some x:=⟨xs[i]'(by omega),List.getElem?_eq_getElem (by omega)⟩;rw[List.getElem?_map,hxi]at hL;exact op_one (x:=x) ((hf i hi).trans hxi) (by simpa using hL)
 have step:∀n,cs.toList.drop n=(cs.toList.drop n).take 5++cs.toList.drop (n+5):=λn=>by
  have:=(List.take_append_drop 5 (cs.toList.drop n)).symm;rw[List.drop_drop]at this;exact this
 have r0:=row 0 [] 0 0 0 0 (by decide) (by rw[<-hx1];rfl);have r1:=row 1 [] 0 0 1099511627776 1 (by decide) (by rw[<-hx1];rfl);have r2:=row 2 [36] 0 0 3 1 (by decide) (by rw[<-hx1];rfl);have r3:=row 3 [110,101,103] 1 1 0 1 (by decide) (by rw[<-hx1];rfl);have r4:=row 4 [110,111,116] 1 2 0 2 (by decide) (by rw[<-hx1];rfl);have r5:=row 5 [97,100,100] 2 1 0 1 (by decide) (by rw[<-hx1];rfl);have r6:=row 6 [115,117,98] 2 1 0 1 (by decide) (by rw[<-hx1];rfl);have r7:=row 7 [109,117,108] 2 1 0 1 (by decide) (by rw[<-hx1];rfl);have r8:=row 8 [100,105,118] 2 1 0 1 (by decide) (by rw[<-hx1];rfl);have r9:=row 9 [109,111,100] 2 1 0 1 (by decide) (by rw[<-hx1];rfl);have r10:=row 10 [101,113] 2 1 0 2 (by decide) (by rw[<-hx1];rfl);have r11:=row 11 [108,116] 2 1 0 2 (by decide) (by rw[<-hx1];rfl);have r12:=row 12 [108,101] 2 1 0 2 (by decide) (by rw[<-hx1];rfl);have r13:=row 13 [97,110,100] 2 2 0 2 (by decide) (by rw[<-hx1];rfl);have r14:=row 14 [111,114] 2 2 0 2 (by decide) (by rw[<-hx1];rfl)
 have hca:cs=Tk.opVals:=by
  apply Array.toList_inj.1;have h0:cs.toList=cs.toList.drop 0:=rfl;have h75:cs.toList.drop 75= []:=List.drop_eq_nil_iff.2 (by omega);rw[h0,step 0,step 5,step 10,step 15,step 20,step 25,step 30,step 35,step 40,step 45,step 50,step 55,step 60,step 65,step 70,h75];have q0:(cs.toList.drop 0).take 5=_:=r0;have q1:(cs.toList.drop 5).take 5=_:=r1;have q2:(cs.toList.drop 10).take 5=_:=r2;have q3:(cs.toList.drop 15).take 5=_:=r3;have q4:(cs.toList.drop 20).take 5=_:=r4;have q5:(cs.toList.drop 25).take 5=_:=r5;have q6:(cs.toList.drop 30).take 5=_:=r6;have q7:(cs.toList.drop 35).take 5=_:=r7;have q8:(cs.toList.drop 40).take 5=_:=r8;have q9:(cs.toList.drop 45).take 5=_:=r9;have q10:(cs.toList.drop 50).take 5=_:=r10;have q11:(cs.toList.drop 55).take 5=_:=r11;have q12:(cs.toList.drop 60).take 5=_:=r12;have q13:(cs.toList.drop 65).take 5=_:=r13;have q14:(cs.toList.drop 70).take 5=_:=r14;rw[q0,q1,q2,q3,q4,q5,q6,q7,q8,q9,q10,q11,q12,q13,q14];rfl
 subst hca;simp only[World.var?,gOps,Option.bind_some]at hvar
 split at hvar
 ·rename_i cs' t fz hh
  obtain rfl:=Option.some.inj hvar;exact⟨t,fz,hh⟩
 cases hvar
end Go.Proofs.YtenaelpdnccgnaaGreatDoor
