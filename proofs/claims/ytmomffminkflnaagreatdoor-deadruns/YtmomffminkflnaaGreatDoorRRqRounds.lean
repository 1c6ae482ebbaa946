import Derived.Test.YtmomffminkflnaaGreatDoorRNsSame3
import Derived.ChangeKeysEq
import Derived.Laws.StructEq
set_option maxRecDepth 100000
set_option maxHeartbeats 32000000
namespace Go.Proofs
open Go.RowKit Go.Shelf
theorem Rk.own_wider {w:World}{B B':Nat}{e:TypeId}{size:Nat}{v:Value}{n:Nat}{cs:List Value}(h:w.ownsRow B e size v n cs)(hB:B'<=B):w.ownsRow B' e size v n cs:=by
 rcases h with⟨hl,h|⟨g,cap,cur,h1,h2,h3⟩⟩
 ·exact⟨hl,.inl h⟩
 exact⟨hl,.inr ⟨g,cap,cur,h1,Nat.le_trans hB h2,h3⟩⟩
theorem Rk.round_hold (bn bl n c:Nat)(a:Option Addr)(es:List (Nat×Nat))(w:World)(hn:n<=64)(hes:∀e,e∈es->e.1<n/\e.2<n)(hbn:bn<w.heap.size)(hbl:bl<w.heap.size)(hcn:w.cell? ⟨bn,0,none⟩=some (.int .i64 n))(hcl:w.cell? ⟨bl,0,none⟩=some (.slice a es.length c))
  (hE:Rk.Eds w w.heap.size a (Rk.up es)) (hm:es.length<=1000000000000000):Rq.Hold 107 #[.pointer (some ⟨bn,0,none⟩),.pointer (some ⟨bl,0,none⟩)] (λi=>Rk.lead es i i) n w:=by
 intro W i hi hW;show Calls Tryz.prog 107 #[.int .i64 i,.pointer (some ⟨bn,0,none⟩),.pointer (some ⟨bl,0,none⟩)] W _;have c0:W.cell? ⟨bn,0,none⟩=some (.int .i64 n):=(hW.cell (p:=⟨bn,0,none⟩) hbn).trans hcn;have c1:W.cell? ⟨bl,0,none⟩=some (.slice a es.length c):=(hW.cell (p:=⟨bl,0,none⟩) hbl).trans hcl;have H1:Hid _:=Tryz.goes_any n i a c es W hn hi hes ((hE.below hW).wider hW.size) hm;clear hcn hcl hE hW hes
 go_enter Tryz.func107,Tryz.ntmps107
 go_wp2_with fail
 refine Calls.mono H1.out ?_;rintro e W2 ⟨rfl,hb⟩;go_wp2;go_ret;exact⟨rfl,hb⟩
theorem Tryz.round_err (n err:Int)(a:Option Addr)(c:Nat)(rs:List (Int×Int))(w:World)(hE:Rk.Eds w w.heap.size a rs)(hm:rs.length<=1000000000000000)(he:Rk.chk n rs=err)(h0:err≠0):
  Calls Tryz.prog 79 #[.int .i64 n,.slice a rs.length c] w λe w'=>e=.returned (.tuple #[.slice none 0 0,.int .i64 err])/\Below w.heap.size w w':=by
 have A0:Below w.heap.size w ((w.alloc (.cells #[.int .i64 n] 3)).alloc (.cells #[.slice a rs.length c] 127)):=((Below.refl _ w).alloc (Nat.le_refl _) _).alloc (by simp) _;have H1:Hid _:=Tryz.rkCheck_any n a c rs ((w.alloc (.cells #[.int .i64 n] 3)).alloc (.cells #[.slice a rs.length c] 127)) ((hE.below A0).wider A0.size) hm;rw[he]at H1;have hd:(err==0)=false:=by simpa using h0
 have HA:Hid _:=A0;obtain⟨m,hmm⟩:=pE (rs.length);rw[hmm]at H1 HA⊢;clear hE hm he hmm h0 A0
 go_enter Tryz.func79,Tryz.ntmps79
 go_wp2_with fail
 refine Calls.mono H1.out ?_;rintro e W1 ⟨rfl,hb⟩;go_wp2;go_ret2;exact⟨rfl,HA.out.trans (hb.mono HA.out.size)⟩
theorem Tryz.round_ok (n:Nat)(a:Option Addr)(c:Nat)(es:List (Nat×Nat))(w:World)(hn:n<=64)(hes:∀e,e∈es->e.1<n/\e.2<n)(hE:Rk.Eds w w.heap.size a (Rk.up es))(hm:es.length<=1000000000000000)(hck:Rk.chk n (Rk.up es)=0):
  Calls Tryz.prog 79 #[.int .i64 n,.slice a es.length c] w λe w'=>∃v,e=.returned (.tuple #[v,.int .i64 0])/\
   w'.ownsRow w.heap.size 3 1 v ((List.range n).filter (λi=>Rk.lead es i i)).length (Rq.nums ((List.range n).filter (λi=>Rk.lead es i i)))/\Below w.heap.size w w':=by
 have A0:Below w.heap.size w ((w.alloc (.cells #[.int .i64 n] 3)).alloc (.cells #[.slice a es.length c] 127)):=((Below.refl _ w).alloc (Nat.le_refl _) _).alloc (by simp) _;have E0:=(hE.below A0).wider A0.size;have H1:Hid _:=Tryz.rkCheck_any n a c (Rk.up es) ((w.alloc (.cells #[.int .i64 n] 3)).alloc (.cells #[.slice a es.length c] 127)) E0 (by rw[Rk.up_length];exact hm);rw[hck,Rk.up_length]at H1
 have HX:Hid (Below w.heap.size w ((w.alloc (.cells #[.int .i64 n] 3)).alloc (.cells #[.slice a es.length c] 127))/\n<=64/\(∀e,e∈es->e.1<n/\e.2<n)/\Rk.Eds ((w.alloc (.cells #[.int .i64 n] 3)).alloc (.cells #[.slice a es.length c] 127)) (w.heap.size+2) a (Rk.up es)/\es.length<=1000000000000000):=
  ⟨A0,hn,hes,by simpa using E0,hm⟩
 clear hE hm hn hes hck A0 E0
 go_enter Tryz.func79,Tryz.ntmps79
 go_wp2_with fail
 refine Calls.mono H1.out ?_;rintro e W1 ⟨rfl,hb⟩;have hb':Below (w.heap.size+2) ((w.alloc (.cells #[.int .i64 n] 3)).alloc (.cells #[.slice a es.length c] 127)) W1:=by simpa using hb
 have hs:=hb'.size;have hz:w.heap.size+2<=W1.heap.size:=by simpa using hs
 have k0:W1.cell? ⟨w.heap.size,0,none⟩=some (.int .i64 n):=by rw[hb'.cell (p:=⟨w.heap.size,0,none⟩) (by show w.heap.size<_;omega)];simp
 have k1:W1.cell? ⟨w.heap.size+1,0,none⟩=some (.slice a es.length c):=by rw[hb'.cell (p:=⟨w.heap.size+1,0,none⟩) (by show w.heap.size+1<_;omega)];simp
 have H2:Hid _:=Tryz.things_any (λi=>Rk.lead es i i) 107 #[.pointer (some ⟨w.heap.size,0,none⟩),.pointer (some ⟨w.heap.size+1,0,none⟩)] Rk.enters_round n W1
  (Rk.round_hold w.heap.size (w.heap.size+1) n c a es W1 HX.out.2.1 HX.out.2.2.1 (by omega) (by omega) k0 k1 ((HX.out.2.2.2.1.below hb').wider hz) HX.out.2.2.2.2) HX.out.2.1
 have HB:Hid (Below w.heap.size w W1):=HX.out.1.trans (hb'.mono (by omega));clear hb hb' hs H1 HX
 go_wp2_with fail
 refine Calls.mono H2.out ?_;rintro e W4 ⟨v,rfl,hown,hb4⟩;obtain⟨av,cv,rfl⟩:=Rq.own_shape hown;go_wp2;go_ret2;exact⟨_,rfl,Rk.own_wider hown HB.out.size,HB.out.trans (hb4.mono HB.out.size)⟩
theorem Tryz.left_any (x0 x1 x2 x3 x4 x5 x6 x7 x8 x10 x11:Value)(la:Option Addr)(m lc:Nat)(ls:List (Int×Int))(l:List Int)(fr how:Int)(w:World)(hL:Ac.Lks w w.heap.size la ls)(hl:l.length=104)(hm:ls.length=m)(h40:m<=40):
  Calls Tryz.prog 28 #[.agg #[x0,x1,x2,x3,x4,x5,x6,x7,x8,.slice la m lc,x10,x11],.agg (Dd.row l),.int .i64 fr,.int .i64 how] w λe w'=>e=.returned (.agg (Dd.row (Dd.left ls l fr how)))/\Below w.heap.size w w':=by
 obtain⟨R,hR⟩:=pE (Dd.left ls l fr how);rw[hR];obtain⟨w1,hw1⟩:=pE ((((w.alloc (.cells #[x0,x1,x2,x3,x4,x5,x6,x7,x8,.slice la m lc,x10,x11] 32)).alloc (.cells (Dd.row l) 41)).alloc (.cells Tryz.zeroCells41 41)));have F1:=Dd.Fr.new w #[x0,x1,x2,x3,x4,x5,x6,x7,x8,.slice la m lc,x10,x11] hl;rw[hw1]at F1;have H1:Hid _:=hw1;have HF:Hid (Dd.Fr w #[x0,x1,x2,x3,x4,x5,x6,x7,x8,.slice la m lc,x10,x11] (Dd.leftK ls fr how 0 l) Dd.zeros w1):=F1;have HL:Hid (Ac.Lks w w.heap.size la ls/\ls.length=m/\Dd.leftK ls fr how m l=R):=⟨hL,hm,by rw[<-hm];exact hR⟩;have c9:=F1.cs.2.2.2.2.2.2.2.2.2.1;clear hw1 F1 hL hm hR hl
 go_enter Tryz.func28,Tryz.ntmps28
 go_upto_region 1 with fail
 rw[H1.out];go_wp2
 go_loopg [9,14] m (λgk _ s14 wr=>∃j:Nat,gk+j=m/\s14=.int .i64 j/\Hid (Dd.Fr w #[x0,x1,x2,x3,x4,x5,x6,x7,x8,.slice la m lc,x10,x11] (Dd.leftK ls fr how j l) Dd.zeros wr))
 case atStart=>exact⟨0,by omega,rfl,HF.out⟩
 case round=>
  obtain⟨j,hj,rfl,HJ⟩:=hrel;clear c9
  by_cases hlt:j<m
  rotate_left
  ·have hd:decide ((j:Int)<m)=false:=decide_eq_false (by omega)
   obtain rfl:j=m:=by omega
   obtain⟨s,hs⟩:=pE (Dd.leftK ls fr how j l);have HR:Hid (s=R):=by show _=_;rw[<-hs];exact HL.out.2.2
   rw[hs]at HJ;have NU:=HJ.out.st.h;have NR:=HJ.out.rs.h;have hu:=Tryz.underlying41;have e1:=Dd.info_row HJ.out.st.len;have e2:(Dd.row Dd.zeros).size=(Dd.row s).size:=by rw[Dd.row_size,Dd.row_size,HJ.out.st.len,Dd.zeros_length]
   have e3:=Dd.row_one s;have HX:Hid (Below w.heap.size w wr):=HJ.out.bel;clear hs HJ
   go_wp2_with (first
    |refine wpList_load_row rfl 41 _ rfl _ rfl 41 (Dd.row s) (0,0) _ NU hu rfl e1 ?_
    |refine wpList_store_row rfl 41 _ _ rfl (w.heap.size+1+1) (Dd.row s) rfl rfl 41 _ NR e1 e2 e3 ?_)
   refine bodyPost_ret (v:=.agg (Dd.row s)) (results_cell_row Tryz.results28 _ _ (w.heap.size+1+1) 41 (Dd.row s) (0,0) _ rfl (setRow_heap _ _ _ _ _ _ NR) hu rfl e1) rfl ⟨by rw[HR.out],Tk.below_row HX.out (by omega) _⟩
  have hd:decide ((j:Int)<m)=true:=decide_eq_true (by omega);have hjl:j<ls.length:=by rw[HL.out.2.1];exact hlt
  obtain⟨q,off,rfl,hq,d0,d1⟩:=HL.out.1 j hjl;obtain⟨x,hx⟩:=pE (ls[j]);obtain⟨a,b⟩:=x;rw[hx]at d0 d1;have j0:(0:Int)<=j:=by omega
  have j1:(j:Int)<m:=by omega
  have j2:(j:Int)<40:=by omega
  have e0:wr.cell? ⟨q,off+j*2,none⟩=some (.int .i64 a):=by rw[HJ.out.bel.cell (p:=⟨q,off+j*2,none⟩) hq];exact d0
  have e1:wr.cell? ⟨q,off+j*2+1,none⟩=some (.int .i64 b):=by rw[HJ.out.bel.cell (p:=⟨q,off+j*2+1,none⟩) hq];exact d1
  obtain⟨w2,hw2⟩:=pE (wr.alloc (.cells #[.int .i64 a,.int .i64 b] 80));have B2:=pB hw2
  have F2:=HJ.out.below B2;have HF2:Hid _:=F2;have HX:Hid (ls[j]? =some (a,b)):=by show _=_;rw[List.getElem?_eq_getElem hjl,hx]
  have N2:w2.heap[wr.heap.size]? =some (.cells #[.int .i64 a,.int .i64 b] 80 (0,0)):=by rw[<-hw2];exact heap_alloc_new wr _
  have k0:w2.cell? ⟨wr.heap.size,0,none⟩=some (.int .i64 a):=by simp[World.cell?,N2]
  have f0:w2.frozen? ⟨w.heap.size+1,j,none⟩=false:=F2.st.frozen j;have s0:=F2.st.cell j (by omega);have HW2:Hid _:=hw2;clear d0 d1 hx hjl hq hw2 B2 F2 N2 HJ
  by_cases ha:a=fr
  ·have he:(a==fr)=true:=by simpa using ha
   have HN:Hid (Dd.Fr w #[x0,x1,x2,x3,x4,x5,x6,x7,x8,.slice (some ⟨q,off,none⟩) m lc,x10,x11] (Dd.leftK ls fr how (j+1) l) Dd.zeros (w2.setCell ⟨w.heap.size+1,j,none⟩ (.int .i64 how))):=by
    have:=HF2.out.put j how;rw[Dd.leftK,if_pos (by rw[HX.out,<-ha];rfl)];exact this
   clear ha
   go_upto_region 4 with fail
   rw[HW2.out];go_wp2;go_roundg (gk-1)
   case measure=>omega
   case rel=>exact⟨j+1,by omega,by go_num,HN.out⟩
  have he:(a==fr)=false:=by simpa using ha
  have HN:Hid (Dd.Fr w #[x0,x1,x2,x3,x4,x5,x6,x7,x8,.slice (some ⟨q,off,none⟩) m lc,x10,x11] (Dd.leftK ls fr how (j+1) l) Dd.zeros w2):=by
   rw[Dd.leftK,if_neg (by rw[HX.out];exact λh=>ha (Option.some.inj h))];exact HF2.out
  clear ha
  go_upto_region 4 with fail
  rw[HW2.out];go_wp2;go_roundg (gk-1)
  case measure=>omega
  case rel=>exact⟨j+1,by omega,by go_num,HN.out⟩
theorem Dd.info_act:(Tryz.prog.info? 32).map (·.size)=some 12:=by kernel_rfl
theorem Tryz.ended_any (x0 x1 x2 x3 x4 x5 x6 x7 x8 x10 x11:Value)(la:Option Addr)(m lc:Nat)(ls:List (Int×Int))(l:List Int)(kid:Nat)(how:Int)(w:World)(hL:Ac.Lks w w.heap.size la ls)(hl:l.length=104)(hm:ls.length=m)(h40:m<=40)(hk:kid<64):
  Calls Tryz.prog 33 #[.agg #[x0,x1,x2,x3,x4,x5,x6,x7,x8,.slice la m lc,x10,x11],.agg (Dd.row l),.int .i64 kid,.int .i64 how] w λe w'=>e=.returned (.agg (Dd.row (Dd.ended ls l kid how)))/\Below w.heap.size w w':=by
 obtain⟨R,hR⟩:=pE (Dd.ended ls l kid how);have hRl:R.length=104:=by rw[<-hR,Dd.ended_length];exact hl
 rw[hR];obtain⟨w1,hw1⟩:=pE ((((w.alloc (.cells #[x0,x1,x2,x3,x4,x5,x6,x7,x8,.slice la m lc,x10,x11] 32)).alloc (.cells (Dd.row l) 41)).alloc (.cells Tryz.zeroCells41 41)));have F1:=Dd.Fr.new w #[x0,x1,x2,x3,x4,x5,x6,x7,x8,.slice la m lc,x10,x11] hl;rw[hw1]at F1;have H1:Hid _:=hw1;have f1:=F1.st.frozen (40+kid);have s1:=F1.st.cell (40+kid) (by omega);obtain⟨w2,hw2⟩:=pE (w1.setCell ⟨w.heap.size+1,40+kid,none⟩ (.int .i64 how));have F2:=F1.put (40+kid) how;rw[hw2]at F2;obtain⟨s,hs⟩:=pE (l.set (40+kid) how);rw[hs]at F2;have hsl:s.length=104:=by rw[<-hs,List.length_set];exact hl
 have NA:=F2.bx;unfold Dd.Bx at NA;have NS:=F2.st.h;have NR:=F2.rs.h
 have HC:Hid (∀h:Int,Calls Tryz.prog 28 #[.agg #[x0,x1,x2,x3,x4,x5,x6,x7,x8,.slice la m lc,x10,x11],.agg (Dd.row s),.int .i64 kid,.int .i64 h] w2 λe w'=>e=.returned (.agg (Dd.row (Dd.left ls s kid h)))/\Below w2.heap.size w2 w'):=λh=>by
  refine Tryz.left_any x0 x1 x2 x3 x4 x5 x6 x7 x8 x10 x11 la m lc ls s kid h w2 ?_ hsl hm h40;exact(hL.keep F2.bel.block).wider F2.bel.size
 have HF2:Hid (Dd.Fr w #[x0,x1,x2,x3,x4,x5,x6,x7,x8,.slice la m lc,x10,x11] s Dd.zeros w2):=F2;have HR:Hid (Dd.left ls s kid (if how=2 then 1 else 2)=R/\R.length=104):=⟨by rw[<-hR,Dd.ended,hs],hRl⟩;have HW2:Hid _:=hw2;have ha:=Tryz.underlying32;have hu:=Tryz.underlying41;have ia:(Tryz.prog.info? 32).map (·.size)=some (#[x0,x1,x2,x3,x4,x5,x6,x7,x8,.slice la m lc,x10,x11]:Array Value).size:=Dd.info_act;have is:=Dd.info_row hsl;have k0:(0:Int)<=kid:=by omega
 have k1:(kid:Int)<64:=by omega
 clear hL hl hm h40 hk hR hRl hw1 F1 hw2 F2 hs hsl
 by_cases hh:how=2
 ·have he:(how==2)=true:=by simpa using hh
  have HR2:Hid (Dd.left ls s kid 1=R/\R.length=104):=by
   have:=HR.out;rw[if_pos hh]at this;exact this
  clear HR hh
  go_enter Tryz.func33,Tryz.ntmps33
  go_upto_region 1 with fail
  rw[H1.out]
  go_upto_region 2 with fail
  rw[HW2.out]
  go_wp2_with (first
   |refine wpList_load_row rfl 32 _ rfl _ rfl 32 _ (0,0) _ NA ha rfl ia ?_
   |refine wpList_load_row rfl 41 _ rfl _ rfl 41 (Dd.row s) (0,0) _ NS hu rfl is ?_)
  refine Calls.mono (HC.out 1) ?_;rintro e W3 ⟨rfl,hb3⟩;have F3:=HF2.out.below hb3;obtain⟨t,ht⟩:=pE (Dd.left ls s kid 1);obtain⟨htR,htl⟩:=HR2.out;rw[ht]at htR;subst htR;rw[ht];have NR3:=F3.rs.h;have e1:=Dd.info_row htl;have e2:(Dd.row Dd.zeros).size=(Dd.row t).size:=by rw[Dd.row_size,Dd.row_size,htl,Dd.zeros_length]
  have e3:=Dd.row_one t;have HX:Hid (Below w.heap.size w W3):=F3.bel;clear ht htl F3 hb3 HC HF2 HR2 NA NS NR ia is
  go_wp2_with (refine wpList_store_row rfl 41 _ _ rfl (w.heap.size+1+1) (Dd.row t) rfl rfl 41 _ NR3 e1 e2 e3 ?_)
  exact bodyPost_ret (v:=.agg (Dd.row t)) (results_cell_row Tryz.results33 _ _ (w.heap.size+1+1) 41 (Dd.row t) (0,0) _ rfl (setRow_heap _ _ _ _ _ _ NR3) hu rfl e1) rfl ⟨rfl,Tk.below_row HX.out (by omega) _⟩
 have he:(how==2)=false:=by simpa using hh
 have HR2:Hid (Dd.left ls s kid 2=R/\R.length=104):=by
  have:=HR.out;rw[if_neg hh]at this;exact this
 clear HR hh
 go_enter Tryz.func33,Tryz.ntmps33
 go_upto_region 1 with fail
 rw[H1.out]
 go_upto_region 2 with fail
 rw[HW2.out]
 go_wp2_with (first
  |refine wpList_load_row rfl 32 _ rfl _ rfl 32 _ (0,0) _ NA ha rfl ia ?_
  |refine wpList_load_row rfl 41 _ rfl _ rfl 41 (Dd.row s) (0,0) _ NS hu rfl is ?_)
 refine Calls.mono (HC.out 2) ?_;rintro e W3 ⟨rfl,hb3⟩;have F3:=HF2.out.below hb3;obtain⟨t,ht⟩:=pE (Dd.left ls s kid 2);obtain⟨htR,htl⟩:=HR2.out;rw[ht]at htR;subst htR;rw[ht];have NR3:=F3.rs.h;have e1:=Dd.info_row htl;have e2:(Dd.row Dd.zeros).size=(Dd.row t).size:=by rw[Dd.row_size,Dd.row_size,htl,Dd.zeros_length]
 have e3:=Dd.row_one t;have HX:Hid (Below w.heap.size w W3):=F3.bel;clear ht htl F3 hb3 HC HF2 HR2 NA NS NR ia is
 go_wp2_with (refine wpList_store_row rfl 41 _ _ rfl (w.heap.size+1+1) (Dd.row t) rfl rfl 41 _ NR3 e1 e2 e3 ?_)
 exact bodyPost_ret (v:=.agg (Dd.row t)) (results_cell_row Tryz.results33 _ _ (w.heap.size+1+1) 41 (Dd.row t) (0,0) _ rfl (setRow_heap _ _ _ _ _ _ NR3) hu rfl e1) rfl ⟨rfl,Tk.below_row HX.out (by omega) _⟩
end Go.Proofs
namespace Go.Proofs
open Go.RowKit Go.ChangeShapes Go.WideShapes
theorem Dd.info_int:∃i,Tryz.prog.info? 3=some i:=⟨_,rfl⟩
theorem Dd.cells_int:Tryz.prog.cellsOf 3=1:=by kernel_rfl
theorem Dd.int_eq (d:Nat)(a b:Int)(W:World):(Op.equalIn (d+1) 3 (.int .i64 a) (.int .i64 b)).run Tryz.prog W=.ok (decide (a=b)) W:=by
 by_cases h:a=b<;>simp[Op.equalIn,go_sem,h]
theorem Dd.part_int (cs:Array Value)(j:Nat)(x:Int)(hc:cs[j]? =some (.int .i64 x))(W:World):(part 3 cs j).run Tryz.prog W=.ok (.int .i64 x) W:=by
 simp[part,Tryz.isAgg3,hc,go_sem]
theorem Dd.items_eq (d:Nat)(xs ys:Array Value)(f g:Nat->Int)(W:World):∀(is:List Nat),(∀j∈is,xs[j]? =some (.int .i64 (f j))/\ys[j]? =some (.int .i64 (g j)))->(Op.eqItems (d+1) 3 1 xs ys is).run Tryz.prog W=.ok (is.all λj=>decide (f j=g j)) W
 | [],_=>by simp[Op.eqItems]
 |j::is,h=>by
  obtain⟨hx,hy⟩:=h j List.mem_cons_self;have h1:=Dd.part_int xs j _ hx W;have h2:=Dd.part_int ys j _ hy W;have ih:=Dd.items_eq d xs ys f g W is λk hk=>h k (List.mem_cons_of_mem _ hk);rw[Op.eqItems];simp only[Sem.run_bind,Nat.mul_one,h1,h2,Result.andThen_ok,Dd.int_eq d]
  by_cases he:f j=g j
  ·simp only[he,decide_true,List.all_cons,Bool.true_and]
   first|exact ih|simpa using ih
  have hf:decide (f j=g j)=false:=decide_eq_false he;simp only[hf,List.all_cons,Bool.false_and];rfl
theorem Dd.arr_eq40 (d:Nat)(xs ys:Array Value)(f g:Nat->Int)(W:World)(h:∀j,j<40->xs[j]? =some (.int .i64 (f j))/\ys[j]? =some (.int .i64 (g j))):(Op.equalIn (d+2) 38 (.agg xs) (.agg ys)).run Tryz.prog W=.ok ((List.range 40).all λj=>decide (f j=g j)) W:=by
 obtain⟨i,hi⟩:=Dd.info_int;rw[run_equalIn_array W (d+1) _ _ Tryz.underlying38 hi,Dd.cells_int];exact Dd.items_eq d xs ys f g W _ λj hj=>h j (List.mem_range.1 hj)
theorem Dd.arr_eq64 (d:Nat)(xs ys:Array Value)(f g:Nat->Int)(W:World)(h:∀j,j<64->xs[j]? =some (.int .i64 (f j))/\ys[j]? =some (.int .i64 (g j))):(Op.equalIn (d+2) 39 (.agg xs) (.agg ys)).run Tryz.prog W=.ok ((List.range 64).all λj=>decide (f j=g j)) W:=by
 obtain⟨i,hi⟩:=Dd.info_int;rw[run_equalIn_array W (d+1) _ _ Tryz.underlying39 hi,Dd.cells_int];exact Dd.items_eq d xs ys f g W _ λj hj=>h j (List.mem_range.1 hj)
theorem Dd.part40 (cs:Array Value)(o:Nat)(W:World):(part 38 cs o).run Tryz.prog W=.ok (.agg (cs.extract o (o+40))) W:=by
 simp[part,Tryz.isAgg38,Tryz.sizeOf38,go_sem]
theorem Dd.part64 (cs:Array Value)(o:Nat)(W:World):(part 39 cs o).run Tryz.prog W=.ok (.agg (cs.extract o (o+64))) W:=by
 simp[part,Tryz.isAgg39,Tryz.sizeOf39,go_sem]
theorem Dd.row_extract {t:List Int}(h:t.length=104)(o k j:Nat)(hj:j<k)(hk:o+k<=104):((Dd.row t).extract o (o+k))[j]? =some (.int .i64 (t.getD (o+j) 0)):=by
 have hs:(Dd.row t).size=104:=by rw[Dd.row_size];exact h
 rw[Array.getElem?_extract,if_pos (by rw[hs];omega)];exact Dd.row_get (by omega)
theorem Dd.eqFields_cons (d:Nat)(xs ys:Array Value)(f:Field)(fs:List Field)(W:World)(a b:Value)(e:Bool)(hn:f.name≠ "_")(hp:(part f.type xs f.offset).run Tryz.prog W=.ok a W)(hq:(part f.type ys f.offset).run Tryz.prog W=.ok b W)(he:(Op.equalIn d f.type a b).run Tryz.prog W=.ok e W):
  (Op.eqFields d xs ys (f::fs)).run Tryz.prog W=if e=true then(Op.eqFields d xs ys fs).run Tryz.prog W else .ok false W:=by
 rw[Op.eqFields,if_pos hn];simp only[Sem.run_bind,hp,hq,Result.andThen_ok,he]
 cases e<;>rfl
theorem Dd.st_eq_raw (s t:List Int)(hs:s.length=104)(ht:t.length=104)(W:World):(Op.equalIn 10000 41 (.agg (Dd.row s)) (.agg (Dd.row t))).run Tryz.prog W=.ok ((List.range 40).all (λj=>decide (s.getD (0+j) 0=t.getD (0+j) 0))&&(List.range 64).all (λj=>decide (s.getD (40+j) 0=t.getD (40+j) 0))) W:=by
 show(Op.equalIn (9999+1) 41 _ _).run Tryz.prog W=_;rw[run_equalIn_struct W 9999 _ _ _ (by kernel_rfl) (by kernel_rfl)];have p0:(part 38 (Dd.row s) 0).run Tryz.prog W=.ok (.agg ((Dd.row s).extract 0 (0+40))) W:=Dd.part40 _ 0 W;have p1:(part 39 (Dd.row s) 40).run Tryz.prog W=.ok (.agg ((Dd.row s).extract 40 (40+64))) W:=Dd.part64 _ 40 W;have q0:(part 38 (Dd.row t) 0).run Tryz.prog W=.ok (.agg ((Dd.row t).extract 0 (0+40))) W:=Dd.part40 _ 0 W;have q1:(part 39 (Dd.row t) 40).run Tryz.prog W=.ok (.agg ((Dd.row t).extract 40 (40+64))) W:=Dd.part64 _ 40 W;have r0:=Dd.arr_eq40 9997 ((Dd.row s).extract 0 (0+40)) ((Dd.row t).extract 0 (0+40)) (λj=>s.getD (0+j) 0) (λj=>t.getD (0+j) 0) W λj hj=>⟨Dd.row_extract hs 0 40 j hj (by omega),Dd.row_extract ht 0 40 j hj (by omega)⟩;have r1:=Dd.arr_eq64 9997 ((Dd.row s).extract 40 (40+64)) ((Dd.row t).extract 40 (40+64)) (λj=>s.getD (40+j) 0) (λj=>t.getD (40+j) 0) W λj hj=>⟨Dd.row_extract hs 40 64 j hj (by omega),Dd.row_extract ht 40 64 j hj (by omega)⟩;obtain⟨e0,he0⟩:=pE (((List.range 40).all λj=>decide (s.getD (0+j) 0=t.getD (0+j) 0)));obtain⟨e1,he1⟩:=pE (((List.range 64).all λj=>decide (s.getD (40+j) 0=t.getD (40+j) 0)));rw[he0]at r0⊢;rw[he1]at r1⊢;obtain⟨cs,hcs⟩:=pE (Dd.row s);obtain⟨ct,hct⟩:=pE (Dd.row t);rw[hcs]at p0 p1 r0 r1⊢
 rw[hct]at q0 q1 r0 r1⊢;unfold Program.fieldsOf;rw[Tryz.underlying41];change (Op.eqFields 9999 cs ct (_::_:: [])).run Tryz.prog W=_;refine(Dd.eqFields_cons 9999 cs ct _ _ W _ _ e0 (by decide) p0 q0 r0).trans ?_
 cases e0 with
 |false=>rfl
 |true=>
  rw[if_pos rfl];refine(Dd.eqFields_cons 9999 cs ct _ _ W _ _ e1 (by decide) p1 q1 r1).trans ?_
  cases e1<;>rfl
theorem Dd.st_eq (s t:List Int)(hs:s.length=104)(ht:t.length=104)(W:World):(Op.equalIn 10000 41 (.agg (Dd.row s)) (.agg (Dd.row t))).run Tryz.prog W=.ok (decide (s=t)) W:=by
 rw[Dd.st_eq_raw s t hs ht W]
 congr 1
 rw[Bool.eq_iff_iff,Bool.and_eq_true,decide_eq_true_iff,List.all_eq_true,List.all_eq_true]
 constructor
 ·rintro⟨h1,h2⟩
  refine Dd.ext hs ht λi hi=> ?_
  by_cases q:i<40
  ·have:=of_decide_eq_true (h1 i (List.mem_range.2 q))
   rwa [Nat.zero_add]at this
  have:=of_decide_eq_true (h2 (i-40) (List.mem_range.2 (by omega)))
  rwa [show 40+(i-40)=i by omega]at this
 rintro rfl;exact⟨λ_ _=>decide_eq_true rfl,λ_ _=>decide_eq_true rfl⟩
end Go.Proofs
namespace Go.Proofs
open Go.RowKit Go.Shelf
theorem Ac.Lies.kid12 {w:World}{B e d n cap:Nat}{V:Ac.Vs}{a:Option Addr}{T:Ac}(h:Ac.Lies w B e (d+1) V T)(hv:V.k=.slice a n cap)(j:Nat)(hj:j<T.ks.length):
  ∃g off U,a=some ⟨g,off,none⟩/\g<B/\w.rangeAt g (off+j*12) (Ac.row T.ks[j] U).toList/\Ac.Lies w B e d U T.ks[j]:=by
 obtain⟨g,off,U,ha,hg,hr,hl⟩:=h.kid hv j hj;refine⟨g,off,U,ha,hg,λi v hi=> ?_,hl⟩;rw[Array.getElem?_toList]at hi;obtain⟨h1,h2⟩:=Array.getElem?_eq_some_iff.1 hi;rw[<-h2];exact hr i h1
theorem Ak.rinfo:(Tryz.prog.info? 48).map (·.size)=some 12:=by kernel_rfl
structure Ak.Kd (w wr:World)(e d:Nat)(a:Option Addr)(j g off:Nat)(U:Ac.Vs)(xs:Array Value)(w2:World)(x:Ac):Prop where
 at_:a=some ⟨g,off,none⟩
 row:Ac.row x U=xs
 load:wr.rangeAt g (off+j*12) xs.toList
 one:xs.all (·.oneCell')=true
 is:(Tryz.prog.info? 48).map (·.size)=some xs.size
 il:(Tryz.prog.info? 48).map (·.size)=some xs.toList.length
 zero:(wr.alloc (.cells #[.int .i64 0,.int .i64 0,.int .i64 0,.int .i64 0,.int .i64 0,.int .i64 0,.slice none 0 0,.slice none 0 0,.slice none 0 0,.slice none 0 0,.slice none 0 0,.slice none 0 0] 48)).heap[wr.heap.size]? =some (.cells #[.int .i64 0,.int .i64 0,.int .i64 0,.int .i64 0,.int .i64 0,.int .i64 0,.slice none 0 0,.slice none 0 0,.slice none 0 0,.slice none 0 0,.slice none 0 0,.slice none 0 0] 48 (0,0))
 ez:(#[.int .i64 0,.int .i64 0,.int .i64 0,.int .i64 0,.int .i64 0,.int .i64 0,.slice none 0 0,.slice none 0 0,.slice none 0 0,.slice none 0 0,.slice none 0 0,.slice none 0 0]:Array Value).size=xs.size
 eq:(wr.alloc (.cells #[.int .i64 0,.int .i64 0,.int .i64 0,.int .i64 0,.int .i64 0,.int .i64 0,.slice none 0 0,.slice none 0 0,.slice none 0 0,.slice none 0 0,.slice none 0 0,.slice none 0 0] 48)).setRow wr.heap.size xs=w2
 box:w2.heap[wr.heap.size]? =some (.cells xs 48 (0,0))
 bel:Below wr.heap.size wr w2
 all:Below w.heap.size w w2
 lies:Ac.Lies w2 w2.heap.size e d U x
theorem Ak.kid_at {w wr:World}{e d n cap:Nat}{V:Ac.Vs}{a:Option Addr}{T:Ac}(h:Ac.Lies w w.heap.size e (d+1) V T)(hv:V.k=.slice a n cap)(hb:Below w.heap.size w wr)(j:Nat)(hj:j<T.ks.length):
  ∃g off U xs w2,Ak.Kd w wr e d a j g off U xs w2 T.ks[j]:=by
 obtain⟨g,off,U,ha,hg,ry,hl⟩:=h.kid12 hv j hj;have NZ:(wr.alloc (.cells #[.int .i64 0,.int .i64 0,.int .i64 0,.int .i64 0,.int .i64 0,.int .i64 0,.slice none 0 0,.slice none 0 0,.slice none 0 0,.slice none 0 0,.slice none 0 0,.slice none 0 0] 48)).heap[wr.heap.size]? =some (.cells #[.int .i64 0,.int .i64 0,.int .i64 0,.int .i64 0,.int .i64 0,.int .i64 0,.slice none 0 0,.slice none 0 0,.slice none 0 0,.slice none 0 0,.slice none 0 0,.slice none 0 0] 48 (0,0)):=heap_alloc_new wr _;have B2:Below wr.heap.size wr ((wr.alloc (.cells #[.int .i64 0,.int .i64 0,.int .i64 0,.int .i64 0,.int .i64 0,.int .i64 0,.slice none 0 0,.slice none 0 0,.slice none 0 0,.slice none 0 0,.slice none 0 0,.slice none 0 0] 48)).setRow wr.heap.size (Ac.row T.ks[j] U)):=Tk.below_row ((Below.refl _ wr).alloc (Nat.le_refl _) _) (Nat.le_refl _) _;have B3:=hb.trans (B2.mono hb.size);exact⟨g,off,U,Ac.row T.ks[j] U,_,ha,rfl,λi v hi=>by rw[hb.cell (p:=⟨g,off+j*12+i,none⟩) hg];exact ry i v hi,hl.ones,Ak.rinfo,Ak.rinfo,NZ,rfl,rfl,setRow_heap _ _ _ _ _ _ NZ,B2,B3,(hl.below B3).wider B3.size⟩
theorem Ac.row_kids {T:Ac}{V:Ac.Vs}{a:Option Addr}{n cap:Nat}(h:V.k=.slice a n cap):∃x0 x1 x2 x3 x4 x5 x6 x7 x9 x10 x11,Ac.row T V=#[x0,x1,x2,x3,x4,x5,x6,x7,.slice a n cap,x9,x10,x11]:=⟨_,_,_,_,_,_,_,_,_,_,_,by unfold Ac.row;rw[h]⟩
theorem Tryz.r16Size_any:∀(d e:Nat) (T:Ac) (V:Ac.Vs) (w:World),Ac.Lies w w.heap.size e d V T->T.size<=2147483647->
  Calls Tryz.prog 40 #[.agg (Ac.row T V)] w λe w'=>e=.returned (.int .i64 T.size)/\Below w.heap.size w w':=by
 intro d
 induction d with
 |zero=>intro e T V w h;exact h.elim
 |succ d ih=>
  intro e T V w hT hsz;obtain⟨a,cap,hvk⟩:=hT.kids;obtain⟨n,hn⟩:=pE (T.ks.length);rw[hn]at hvk;have hnb:n<=2147483647:=by have h1:=Ac.length_le_sizes T.ks;have h2:=T.size_eq;omega
  obtain⟨x0,x1,x2,x3,x4,x5,x6,x7,x9,x10,x11,hrow⟩:=Ac.row_kids (T:=T) hvk;obtain⟨ts,hts⟩:=pE (T.size);rw[hrow,hts];obtain⟨w1,hw1⟩:=pE (w.alloc (.cells #[x0,x1,x2,x3,x4,x5,x6,x7,.slice a n cap,x9,x10,x11] 48));have B1:=pB hw1
  have N1:w1.heap[w.heap.size]? =some (.cells #[x0,x1,x2,x3,x4,x5,x6,x7,.slice a n cap,x9,x10,x11] 48 (0,0)):=by rw[<-hw1];exact heap_alloc_new w _
  have c8:w1.cell? ⟨w.heap.size,8,none⟩=some (.slice a n cap):=by simp[World.cell?,N1]
  have H1:Hid _:=hw1;have HB:Hid (Below w.heap.size w w1):=B1;have HT:Hid (Ac.Lies w w.heap.size e (d+1) V T/\V.k=.slice a n cap):=⟨hT,hvk⟩;have HI:Hid _:=ih;have HM:Hid (T.ks.length=n/\T.size<=2147483647/\T.size=ts):=⟨hn,hsz,hts⟩;have ha:=Tryz.underlying48;clear ih hT hsz hvk hn hrow hts hw1 B1 N1
  go_enter Tryz.func40,Tryz.ntmps40
  go_upto_region 1 with fail
  rw[H1.out];go_wp2
  go_loopg [3,9] n (λgk s i wr=>∃j c:Nat,gk+j=n/\i=.int .i64 j/\s=.int .i64 c/\c<=2147483647/\Hid (Below w1.heap.size w1 wr/\c=1+Ac.sizes (T.ks.take j)))
  case atStart=>exact⟨0,1,by omega,rfl,rfl,by omega,Below.refl _ w1,by simp[Ac.sizes]⟩
  case round=>
   obtain⟨j,c,hj,rfl,rfl,hcb,HJ⟩:=hrel;clear c8
   by_cases hjn:j<n
   rotate_left
   ·have hd:decide ((j:Int)<n)=false:=decide_eq_false (by omega)
    have hall:T.ks.take j=T.ks:=List.take_of_length_le (by rw[HM.out.1];omega)
    have hts:c=ts:=by
     have h1:=HJ.out.2;rw[hall]at h1;have h2:=T.size_eq;have h3:=HM.out.2.2;omega
    have HX:Hid (Below w.heap.size w wr):=HB.out.trans (HJ.out.1.mono HB.out.size);subst hts;go_wp2;go_ret;exact⟨rfl,HX.out⟩
   have hd:decide ((j:Int)<n)=true:=decide_eq_true (by omega);have hjk:j<T.ks.length:=by rw[HM.out.1];exact hjn
   have hxs:=Ac.sizes_get T.ks j hjk;have j0:(0:Int)<=j:=by omega
   have j1:(j:Int)<n:=by omega
   obtain⟨g,off,U,xs,w2,K⟩:=Ak.kid_at HT.out.1 HT.out.2 (HB.out.trans (HJ.out.1.mono HB.out.size)) j hjk;obtain⟨x,hx⟩:=pE (T.ks[j]);rw[hx]at hxs K;have hcall:=HI.out e x U w2 K.lies (by have:=HM.out.2.1;have:=T.size_eq;omega);obtain⟨fx,hfx⟩:=pE (x.size);rw[K.row,hfx]at hcall;have HC:Hid _:=hcall;have HY:Hid (T.ks[j]=x/\x.size=fx):=⟨hx,hfx⟩;have hsum:c+fx<=2147483647:=by have h1:=HM.out.2.1;have h2:=T.size_eq;have h3:=HJ.out.2;omega
   obtain⟨rfl,-,ryr,xone,ix,ixl,NZ,ez,hw2,NK,B2,-,-⟩:=K;have HB2:Hid (Below w1.heap.size w1 w2):=HJ.out.1.trans (B2.mono HJ.out.1.size);obtain⟨kb,hkb⟩:=pE (wr.heap.size);have HKB:Hid (wr.heap.size=kb):=hkb;have HW2:Hid _:=hw2;rw[hkb]at NK;clear hx hxs hcall hfx B2 hw2 hkb
   go_upto_region 5 with(first
    |refine wpList_load_mid rfl 48 _ rfl g (off+j*12) rfl xs.toList _ ryr ha rfl ixl ?_
    |refine wpList_store_row rfl 48 _ _ rfl wr.heap.size xs rfl rfl 48 _ NZ ix ez xone ?_)
   rw[HW2.out,HKB.out];clear ryr NZ HW2 HKB
   go_wp2_with (refine wpList_load_row rfl 48 _ rfl _ rfl 48 _ (0,0) _ NK ha rfl ix ?_)
   refine Calls.mono HC.out ?_;rintro e W3 ⟨rfl,b3⟩;have B3:Hid (Below w1.heap.size w1 W3):=HB2.out.trans (b3.mono HB2.out.size);clear b3 HC NK;go_wp2;go_roundg (gk-1)
   case measure=>omega
   case rel=>
    refine⟨j+1,c+fx,by omega,by go_num,by go_num,hsum,B3.out, ?_⟩;rw[Ac.sizes_take _ _ hjk,HY.out.1,HY.out.2,HJ.out.2];omega
theorem Tryz.r16Depth_any:∀(d e:Nat) (T:Ac) (V:Ac.Vs) (w:World),Ac.Lies w w.heap.size e d V T->T.size<=2147483647->
  Calls Tryz.prog 41 #[.agg (Ac.row T V)] w λe w'=>e=.returned (.int .i64 T.depth)/\Below w.heap.size w w':=by
 intro d
 induction d with
 |zero=>intro e T V w h;exact h.elim
 |succ d ih=>
  intro e T V w hT hsz;obtain⟨a,cap,hvk⟩:=hT.kids;obtain⟨n,hn⟩:=pE (T.ks.length);rw[hn]at hvk;have hnb:n<=2147483647:=by have h1:=Ac.length_le_sizes T.ks;have h2:=T.size_eq;omega
  obtain⟨x0,x1,x2,x3,x4,x5,x6,x7,x9,x10,x11,hrow⟩:=Ac.row_kids (T:=T) hvk;obtain⟨ts,hts⟩:=pE (T.depth);rw[hrow,hts];obtain⟨w1,hw1⟩:=pE (w.alloc (.cells #[x0,x1,x2,x3,x4,x5,x6,x7,.slice a n cap,x9,x10,x11] 48));have B1:=pB hw1
  have N1:w1.heap[w.heap.size]? =some (.cells #[x0,x1,x2,x3,x4,x5,x6,x7,.slice a n cap,x9,x10,x11] 48 (0,0)):=by rw[<-hw1];exact heap_alloc_new w _
  have c8:w1.cell? ⟨w.heap.size,8,none⟩=some (.slice a n cap):=by simp[World.cell?,N1]
  have H1:Hid _:=hw1;have HB:Hid (Below w.heap.size w w1):=B1;have HT:Hid (Ac.Lies w w.heap.size e (d+1) V T/\V.k=.slice a n cap):=⟨hT,hvk⟩;have HI:Hid _:=ih;have HM:Hid (T.ks.length=n/\T.size<=2147483647/\T.depth=ts):=⟨hn,hsz,hts⟩;have ha:=Tryz.underlying48;clear ih hT hsz hvk hn hrow hts hw1 B1 N1
  go_enter Tryz.func41,Tryz.ntmps41
  go_upto_region 1 with fail
  rw[H1.out];go_wp2
  go_loopg [3,10] n (λgk s i wr=>∃j c:Nat,gk+j=n/\i=.int .i64 j/\s=.int .i64 c/\c<=2147483647/\Hid (Below w1.heap.size w1 wr/\c=Ac.depths (T.ks.take j)))
  case atStart=>exact⟨0,0,by omega,rfl,rfl,by omega,Below.refl _ w1,by simp[Ac.depths]⟩
  case round=>
   obtain⟨j,c,hj,rfl,rfl,hcb,HJ⟩:=hrel;clear c8
   by_cases hjn:j<n
   rotate_left
   ·have hd:decide ((j:Int)<n)=false:=decide_eq_false (by omega)
    have hall:T.ks.take j=T.ks:=List.take_of_length_le (by rw[HM.out.1];omega)
    have hts:c+1=ts:=by
     have h1:=HJ.out.2;rw[hall]at h1;have h2:=T.depth_eq;have h3:=HM.out.2.2;omega
    have HX:Hid (Below w.heap.size w wr):=HB.out.trans (HJ.out.1.mono HB.out.size);subst hts;go_wp2;go_ret;exact⟨rfl,HX.out⟩
   have hd:decide ((j:Int)<n)=true:=decide_eq_true (by omega);have hjk:j<T.ks.length:=by rw[HM.out.1];exact hjn
   have hxs:=Ac.sizes_get T.ks j hjk;have j0:(0:Int)<=j:=by omega
   have j1:(j:Int)<n:=by omega
   obtain⟨g,off,U,xs,w2,K⟩:=Ak.kid_at HT.out.1 HT.out.2 (HB.out.trans (HJ.out.1.mono HB.out.size)) j hjk;obtain⟨x,hx⟩:=pE (T.ks[j]);rw[hx]at hxs K;have hcall:=HI.out e x U w2 K.lies (by have:=HM.out.2.1;have:=T.size_eq;omega);obtain⟨fx,hfx⟩:=pE (x.depth);rw[K.row,hfx]at hcall;have HC:Hid _:=hcall;have HY:Hid (T.ks[j]=x/\x.depth=fx):=⟨hx,hfx⟩;have hsum:fx<=2147483647:=by have h0:=x.depth_le_size;have h1:=HM.out.2.1;have h2:=T.size_eq;omega
   obtain⟨rfl,-,ryr,xone,ix,ixl,NZ,ez,hw2,NK,B2,-,-⟩:=K;have HB2:Hid (Below w1.heap.size w1 w2):=HJ.out.1.trans (B2.mono HJ.out.1.size);obtain⟨kb,hkb⟩:=pE (wr.heap.size);have HKB:Hid (wr.heap.size=kb):=hkb;have HW2:Hid _:=hw2;rw[hkb]at NK;clear hx hxs hcall hfx B2 hw2 hkb
   go_upto_region 5 with(first
    |refine wpList_load_mid rfl 48 _ rfl g (off+j*12) rfl xs.toList _ ryr ha rfl ixl ?_
    |refine wpList_store_row rfl 48 _ _ rfl wr.heap.size xs rfl rfl 48 _ NZ ix ez xone ?_)
   rw[HW2.out,HKB.out];clear ryr NZ HW2 HKB
   go_wp2_with (refine wpList_load_row rfl 48 _ rfl _ rfl 48 _ (0,0) _ NK ha rfl ix ?_)
   refine Calls.mono HC.out ?_;rintro e W3 ⟨rfl,b3⟩;have B3:Hid (Below w1.heap.size w1 W3):=HB2.out.trans (b3.mono HB2.out.size);clear b3 HC NK
   by_cases hlt:c<fx
   ·have hdd:decide ((c:Int)<fx)=true:=decide_eq_true (by omega)
    go_wp2;go_roundg (gk-1)
    case measure=>omega
    case rel=>
     refine⟨j+1,fx,by omega,by go_num,by go_num,hsum,B3.out, ?_⟩;rw[Ac.depths_take _ _ hjk,HY.out.1,HY.out.2,<-HJ.out.2];omega
   have hdd:decide ((c:Int)<fx)=false:=decide_eq_false (by omega);go_wp2;go_roundg (gk-1)
   case measure=>omega
   case rel=>
    refine⟨j+1,c,by omega,by go_num,by go_num,hcb,B3.out, ?_⟩;rw[Ac.depths_take _ _ hjk,HY.out.1,HY.out.2,<-HJ.out.2];omega
theorem Rk.outB_eq (n x y:Int):Rk.outB n (x,y)=(decide (x<0)||decide (n<=x)||decide (y<0)||decide (n<=y)):=by
 rw[Bool.eq_iff_iff];simp only[Rk.outB,Rk.inB,Bool.or_eq_true,Bool.not_eq_true',Bool.and_eq_false_iff,decide_eq_true_eq,decide_eq_false_iff_not];omega
theorem Tryz.rcheck_any (n:Int)(a:Option Addr)(c:Nat)(rs:List (Int×Int))(w:World)(hE:Rk.Eds w w.heap.size a rs)(hn:rs.length<=1000000000000000):
  Calls Tryz.prog 116 #[.int .i64 n,.slice a rs.length c] w λe w'=>e=.returned (.int .i64 (Rk.chk n rs))/\Below w.heap.size w w':=by
 obtain⟨m,hm⟩:=pE (rs.length);have HE:Hid (Rk.Eds w w.heap.size a rs/\rs.length=m):=⟨hE,hm⟩;rw[hm]at hn⊢;obtain⟨r,hr⟩:=pE (Rk.chk n rs);have HR:Hid ((if n<0∨64<n then 1 else if 256<m then 2 else if rs.any (Rk.outB n)=true then 4 else 0)=r):=by show _=r;rw[<-hr,<-hm];rfl
 rw[hr];clear hE hr hm
 by_cases h1:n<0
 ·have d1:decide (n<0)=true:=decide_eq_true h1
  have hr:r=1:=by rw[<-HR.out,if_pos (.inl h1)]
  subst hr;clear h1
  go_enter Tryz.func116,Tryz.ntmps116
  go_wp2;go_ret;exact⟨rfl,Below.refl _ _⟩
 have d1:decide (n<0)=false:=decide_eq_false h1
 by_cases h2:64<n
 ·have d2:decide (64<n)=true:=decide_eq_true h2
  have hr:r=1:=by rw[<-HR.out,if_pos (.inr h2)]
  subst hr;clear h1 h2
  go_enter Tryz.func116,Tryz.ntmps116
  go_wp2;go_ret;exact⟨rfl,Below.refl _ _⟩
 have d2:decide (64<n)=false:=decide_eq_false h2
 by_cases h3:256<m
 ·have hr:r=2:=by rw[<-HR.out,if_neg (show¬(n<0∨64<n)by omega),if_pos h3]
  subst hr;have d3:decide ((256:Int)<m)=true:=decide_eq_true (by omega);clear h1 h2
  go_enter Tryz.func116,Tryz.ntmps116
  go_wp2;go_ret;exact⟨rfl,Below.refl _ _⟩
 have d3:decide ((256:Int)<m)=false:=decide_eq_false (by omega);have HR':Hid ((if rs.any (Rk.outB n)=true then 4 else 0)=r):=by show _=r;rw[<-HR.out,if_neg (show¬(n<0∨64<n)by omega),if_neg h3]
 clear HR h1 h2
 go_enter Tryz.func116,Tryz.ntmps116
 go_wp2
 go_loopg [18] m (λgk s18 wr=>∃k:Nat,gk+k=m/\s18=.int .i64 k/\Hid ((rs.take k).any (Rk.outB n)=false/\Below w.heap.size w wr))
 case atStart=>exact⟨0,by omega,rfl,by simp,Below.refl _ _⟩
 case round=>
  obtain⟨k,hk,rfl,HB⟩:=hrel
  by_cases hlt:k<m
  rotate_left
  ·have hd:decide ((k:Int)<m)=false:=decide_eq_false (by omega)
   have hr:r=0:=by
    rw[<-HR'.out];have:=HB.out.1;rw[List.take_of_length_le (by rw[HE.out.2];omega)]at this;rw[this];rfl
   subst hr;go_wp2;go_ret;exact⟨rfl,HB.out.2⟩
  have hd:decide ((k:Int)<m)=true:=decide_eq_true (by omega);have hkl:k<rs.length:=by rw[HE.out.2];exact hlt
  obtain⟨q,off,rfl,hq,h0,h1⟩:=HE.out.1 k hkl;obtain⟨e,he⟩:=pE (rs[k]);obtain⟨x,y⟩:=e;rw[he]at h0 h1;have hc0:wr.cell? ⟨q,off+k*2,none⟩=some (.int .i64 x):=by rw[HB.out.2.cell (p:=⟨q,off+k*2,none⟩) hq];exact h0
  have hc1:wr.cell? ⟨q,off+k*2+1,none⟩=some (.int .i64 y):=by rw[HB.out.2.cell (p:=⟨q,off+k*2+1,none⟩) hq];exact h1
  have HX:Hid (rs[k]=(x,y)):=he;have hqz:q<wr.heap.size:=by have:=HB.out.2.size;omega
  have hu:=Tryz.underlying143;have HA:Hid (Below w.heap.size w (wr.alloc (.cells #[.int .i64 x,.int .i64 y] 143))):=HB.out.2.alloc HB.out.2.size _
  have Hyes:Hid (Rk.outB n (x,y)=true->r=4):=λh=>by
   rw[<-HR'.out,if_pos (List.any_eq_true.2 ⟨rs[k],List.getElem_mem hkl,by rw[HX.out];exact h⟩)]
  have Hno:Hid (Rk.outB n (x,y)=false->(rs.take (k+1)).any (Rk.outB n)=false):=λh=>by
   rw[Tm.take_snoc _ _ hkl,List.any_append,HB.out.1,HX.out];simp[h]
  have HO:Hid _:=Rk.outB_eq n x y;clear h0 h1 he
  cases e0:decide (x<0)
  ·cases e1:decide (n<=x)
   ·cases e2:decide (y<0)
    ·cases e3:decide (n<=y)
     ·have H4:Hid (Rk.outB n (x,y)=false):=by show _=_;rw[HO.out,e0,e1,e2,e3];rfl
      go_wp2;go_roundg (gk-1)
      case measure=>omega
      case rel=>exact⟨k+1,by omega,by go_num,Hno.out H4.out,HA.out⟩
     obtain rfl:r=4:=Hyes.out (by rw[HO.out,e0,e1,e2,e3];rfl);go_wp2;go_ret;exact⟨rfl,HA.out⟩
    obtain rfl:r=4:=Hyes.out (by rw[HO.out,e0,e1,e2];rfl);go_wp2;go_ret;exact⟨rfl,HA.out⟩
   obtain rfl:r=4:=Hyes.out (by rw[HO.out,e0,e1];rfl);go_wp2;go_ret;exact⟨rfl,HA.out⟩
  obtain rfl:r=4:=Hyes.out (by rw[HO.out,e0];rfl);go_wp2;go_ret;exact⟨rfl,HA.out⟩
theorem Rq.drop_at {α:Type}(l:List α)(k:Nat)(h:k<l.length):l.drop k=l[k]::l.drop (k+1):=List.drop_eq_getElem_cons h
theorem Tryz.rleads_any (n x0 y0:Nat)(a:Option Addr)(c:Nat)(es:List (Nat×Nat))(w:World)(hn:n<=64)(hy0:y0<n)(hes:∀e,e∈es->e.1<n/\e.2<n)(hE:Rk.Eds w w.heap.size a (Rk.up es))(hm:es.length<=1000000000000000):
  Calls Tryz.prog 117 #[.int .i64 n,.slice a es.length c,.int .i64 x0,.int .i64 y0] w λe w'=>e=.returned (.bool (Rk.lead es x0 y0))/\Below w.heap.size w w':=by
 have HE:Hid (Rk.Eds w w.heap.size a (Rk.up es)/\∀e,e∈es->e.1<n/\e.2<n):=⟨hE,hes⟩;have hy0':(y0:Int)<n:=by omega
 have hmk:=Rq.make_bools n hn;obtain⟨m,hmm⟩:=pE (es.length);rw[hmm]at hm⊢;have HM:Hid (es.length=m):=hmm;have X1:Hid (Rq.Bits (w.alloc (.cells (Rq.row n) 4)) w.heap.size (List.replicate n false)):=Rq.row_bits w n;have B1:Hid (Below w.heap.size w (w.alloc (.cells (Rq.row n) 4))):=(Below.refl _ w).alloc (Nat.le_refl _) _;have HS:Hid (Rk.sweeps es n (Rk.first x0 es (List.replicate n false))=(List.range n).map (Rk.lead es x0)):=Rk.sweeps_eq hes x0;obtain⟨r,hr⟩:=pE (Rk.lead es x0 y0);have HR:Hid (Rk.lead es x0 y0=r):=hr;rw[hr];clear hE hes hmm hr
 go_enter Tryz.func117,Tryz.ntmps117
 go_wp2;clear hmk
 go_loopg [19] m (λgk s19 wr=>∃(k:Nat) (cur:List Bool),gk+k=m/\s19=.int .i64 k/\Hid (Rk.first x0 (es.drop k) cur=Rk.first x0 es (List.replicate n false)/\cur.length=n/\Rq.Bits wr w.heap.size cur/\Below w.heap.size w wr))
 case atStart=>exact⟨0,_,by omega,rfl,rfl,by simp,X1.out,B1.out⟩
 case round=>
  obtain⟨k,cur,hk,rfl,HI⟩:=hrel;clear X1 B1
  by_cases hlt:k<m
  ·have hd:decide ((k:Int)<m)=true:=decide_eq_true (by omega)
   have hkl:k<es.length:=by rw[HM.out];exact hlt
   obtain⟨q,off,rfl,hq,h0,h1⟩:=HE.out.1 k (by rw[Rk.up_length];exact hkl);obtain⟨e,he⟩:=pE (es[k]);obtain⟨x,y⟩:=e;have hxy:=HE.out.2 _ (List.getElem_mem hkl);rw[he]at hxy;obtain⟨hx,hy⟩:x<n/\y<n:=hxy;rw[Rk.up_get,he]at h0 h1;have hc0:wr.cell? ⟨q,off+k*2,none⟩=some (.int .i64 x):=by rw[HI.out.2.2.2.cell (p:=⟨q,off+k*2,none⟩) hq];exact h0
   have hc1:wr.cell? ⟨q,off+k*2+1,none⟩=some (.int .i64 y):=by rw[HI.out.2.2.2.cell (p:=⟨q,off+k*2+1,none⟩) hq];exact h1
   have HX:Hid (es[k]=(x,y)):=he;have hz:w.heap.size<wr.heap.size:=HI.out.2.2.1.lt;have hqz:q<wr.heap.size:=by omega
   have hx':(x:Int)<n:=by omega
   have hy':(y:Int)<n:=by omega
   have hu:=Tryz.underlying143;obtain⟨b1,hb1⟩:∃b,cur[x]? =some b:=⟨_,List.getElem?_eq_getElem (by rw[HI.out.2.1];exact hx)⟩;obtain⟨b2,hb2⟩:∃b,cur[y]? =some b:=⟨_,List.getElem?_eq_getElem (by rw[HI.out.2.1];exact hy)⟩;have k1:=HI.out.2.2.1.cell x b1 hb1;have k2:=HI.out.2.2.1.cell y b2 hb2;have f2:=HI.out.2.2.1.frozen y;have HC1:Hid (cur[x]? =some b1):=hb1
   have HA:Hid (Below w.heap.size w (wr.alloc (.cells #[.int .i64 x,.int .i64 y] 143))/\Rq.Bits (wr.alloc (.cells #[.int .i64 x,.int .i64 y] 143)) w.heap.size cur):=
    ⟨HI.out.2.2.2.alloc (by omega) _,HI.out.2.2.1.keep (Below.heap_alloc _ _ _ hz)⟩
   have HS2:Hid (Below w.heap.size w ((wr.setCell ⟨w.heap.size,y,none⟩ (.bool true)).alloc (.cells #[.int .i64 x,.int .i64 y] 143))/\Rq.Bits ((wr.setCell ⟨w.heap.size,y,none⟩ (.bool true)).alloc (.cells #[.int .i64 x,.int .i64 y] 143)) w.heap.size (cur.set y true)):=
    ⟨(HI.out.2.2.2.setCell (p:=⟨w.heap.size,y,none⟩) (Nat.le_refl _) _).alloc (by simp;omega) _,(HI.out.2.2.1.put y true).keep (Below.heap_alloc _ _ _ (by simpa using hz))⟩
   clear h0 h1 he hb1 hb2
   have HN:Hid (Rk.first x0 (es.drop (k+1)) (if x=x0 then cur.set y true else cur)=Rk.first x0 es (List.replicate n false)):=by
    show _=_;rw[<-HI.out.1,Rq.drop_at es k hkl,HX.out];rfl
   by_cases hxx:x=x0
   ·subst hxx
    rw[if_pos rfl]at HN;go_wp2;go_roundg (gk-1)
    case measure=>omega
    case rel=>exact⟨k+1,_,by omega,by go_num,HN.out,by simpa using HI.out.2.1,HS2.out.2,HS2.out.1⟩
   rw[if_neg hxx]at HN;have hd2:((x:Int)==(x0:Int))=false:=by simp;omega
   go_wp2;go_roundg (gk-1)
   case measure=>omega
   case rel=>exact⟨k+1,_,by omega,by go_num,HN.out,HI.out.2.1,HA.out.2,HA.out.1⟩
  have hd:decide ((k:Int)<m)=false:=decide_eq_false (by omega)
  have HJ:Hid (Rk.sweeps es n cur=(List.range n).map (Rk.lead es x0)/\cur.length=n/\Rq.Bits wr w.heap.size cur/\Below w.heap.size w wr):=by
   have h1:=HI.out.1;rw[List.drop_eq_nil_of_le (by rw[HM.out];omega)]at h1;have h2:cur=Rk.first x0 es (List.replicate n false):=h1;refine⟨?_,HI.out.2⟩;rw[h2];exact HS.out
  clear HI HS;go_wp2
  go_loopg [12] n (λgk s12 wr=>∃(k:Nat) (cur:List Bool),gk+k=n/\s12=.int .i64 k/\Hid (Rk.sweeps es (n-k) cur=(List.range n).map (Rk.lead es x0)/\cur.length=n/\Rq.Bits wr w.heap.size cur/\Below w.heap.size w wr))
  case atStart=>exact⟨0,_,by omega,rfl,HJ.out⟩
  case round=>
   obtain⟨k',cur',hk',rfl,HO⟩:=hrel;clear HJ hd
   by_cases hlt':k'<n
   rotate_left
   ·have hd:decide ((k':Int)<n)=false:=decide_eq_false (by omega)
    have hfin:cur'=(List.range n).map (Rk.lead es x0):=by
     have:=HO.out.1;rw[show n-k'=0 by omega]at this;exact this
    have hcell:=HO.out.2.2.1.cell y0 r (by rw[hfin];simp[hy0,HR.out]);go_wp2;go_ret;exact⟨rfl,HO.out.2.2.2⟩
   have hd:decide ((k':Int)<n)=true:=decide_eq_true (by omega);have hgg:gk=n-k':=by omega
   subst hgg;go_wp2
   go_loopg [39] m (λgi s39 wr=>∃(k:Nat) (cur:List Bool),gi+k=m/\s39=.int .i64 k/\Hid (Rk.sweep (es.drop k) cur=Rk.sweep es cur'/\cur.length=n/\Rq.Bits wr w.heap.size cur/\Below w.heap.size w wr))
   case atStart=>exact⟨0,_,by omega,rfl,rfl,HO.out.2⟩
   case round=>
    clear hk hlt;obtain⟨k,cur,hk,rfl,HI⟩:=hrel;clear hd
    by_cases hlt:k<m
    rotate_left
    ·have hd:decide ((k:Int)<m)=false:=decide_eq_false (by omega)
     have HN:Hid (Rk.sweeps es (n-(k'+1)) cur=(List.range n).map (Rk.lead es x0)/\cur.length=n/\Rq.Bits wr w.heap.size cur/\Below w.heap.size w wr):=by
      have h1:=HI.out.1;rw[List.drop_eq_nil_of_le (by rw[HM.out];omega)]at h1;have h2:cur=Rk.sweep es cur':=h1;refine⟨?_,HI.out.2⟩;have h3:=HO.out.1;rw[show n-k'=(n-(k'+1))+1 by omega]at h3;rw[h2];exact h3
     go_wp2;go_roundg (n-(k'+1))
     case measure=>omega
     case rel=>exact⟨k'+1,_,by omega,by go_num,HN.out⟩
    have hd:decide ((k:Int)<m)=true:=decide_eq_true (by omega);have hkl:k<es.length:=by rw[HM.out];exact hlt
    obtain⟨q,off,rfl,hq,h0,h1⟩:=HE.out.1 k (by rw[Rk.up_length];exact hkl);obtain⟨e,he⟩:=pE (es[k]);obtain⟨x,y⟩:=e;have hxy:=HE.out.2 _ (List.getElem_mem hkl);rw[he]at hxy;obtain⟨hx,hy⟩:x<n/\y<n:=hxy;rw[Rk.up_get,he]at h0 h1;have hc0:wr.cell? ⟨q,off+k*2,none⟩=some (.int .i64 x):=by rw[HI.out.2.2.2.cell (p:=⟨q,off+k*2,none⟩) hq];exact h0
    have hc1:wr.cell? ⟨q,off+k*2+1,none⟩=some (.int .i64 y):=by rw[HI.out.2.2.2.cell (p:=⟨q,off+k*2+1,none⟩) hq];exact h1
    have HX:Hid (es[k]=(x,y)):=he;have hz:w.heap.size<wr.heap.size:=HI.out.2.2.1.lt;have hqz:q<wr.heap.size:=by omega
    have hx':(x:Int)<n:=by omega
    have hy':(y:Int)<n:=by omega
    have hu:=Tryz.underlying143;obtain⟨b1,hb1⟩:∃b,cur[x]? =some b:=⟨_,List.getElem?_eq_getElem (by rw[HI.out.2.1];exact hx)⟩;obtain⟨b2,hb2⟩:∃b,cur[y]? =some b:=⟨_,List.getElem?_eq_getElem (by rw[HI.out.2.1];exact hy)⟩;have k1:=HI.out.2.2.1.cell x b1 hb1;have k2:=HI.out.2.2.1.cell y b2 hb2;have f2:=HI.out.2.2.1.frozen y;have HC1:Hid (cur[x]? =some b1):=hb1
    have HA:Hid (Below w.heap.size w (wr.alloc (.cells #[.int .i64 x,.int .i64 y] 143))/\Rq.Bits (wr.alloc (.cells #[.int .i64 x,.int .i64 y] 143)) w.heap.size cur):=
     ⟨HI.out.2.2.2.alloc (by omega) _,HI.out.2.2.1.keep (Below.heap_alloc _ _ _ hz)⟩
    have HS2:Hid (Below w.heap.size w ((wr.setCell ⟨w.heap.size,y,none⟩ (.bool true)).alloc (.cells #[.int .i64 x,.int .i64 y] 143))/\Rq.Bits ((wr.setCell ⟨w.heap.size,y,none⟩ (.bool true)).alloc (.cells #[.int .i64 x,.int .i64 y] 143)) w.heap.size (cur.set y true)):=
     ⟨(HI.out.2.2.2.setCell (p:=⟨w.heap.size,y,none⟩) (Nat.le_refl _) _).alloc (by simp;omega) _,(HI.out.2.2.1.put y true).keep (Below.heap_alloc _ _ _ (by simpa using hz))⟩
    clear h0 h1 he hb1 hb2
    have HN:Hid (Rk.sweep (es.drop (k+1)) (if cur[x]? =some true then cur.set y true else cur)=Rk.sweep es cur'):=by
     show _=_;rw[<-HI.out.1,Rq.drop_at es k hkl,HX.out];rfl
    cases b1
    ·rw[if_neg (by rw[HC1.out];simp)]at HN
     go_wp2;go_roundg (gk-1)
     case measure=>omega
     case rel=>exact⟨k+1,_,by omega,by go_num,HN.out,HI.out.2.1,HA.out.2,HA.out.1⟩
    rw[if_pos HC1.out]at HN;go_wp2;go_roundg (gk-1)
    case measure=>omega
    case rel=>exact⟨k+1,_,by omega,by go_num,HN.out,by simpa using HI.out.2.1,HS2.out.2,HS2.out.1⟩
end Go.Proofs
