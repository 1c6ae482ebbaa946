import Derived.Test.YtmomffminkflnaaGreatDoorRDdR4
import Derived.Test.YtmomffminkflnaaGreatDoorRAcRCheck
set_option maxRecDepth 100000
set_option maxHeartbeats 32000000
namespace Go.Proofs
open Go.RowKit Go.Shelf
theorem Tryz.r19Right_any (d e:Nat)(T:Ac)(V:Ac.Vs)(w:World)(hT:Ac.Lies w w.heap.size e d V T)(hsz:T.size<=2147483647)(hF:T.All Ac.Fit):
  Calls Tryz.prog 13 #[.agg (Ac.row T V)] w λe w'=>e=.returned (.bool (Dd.webB T))/\Below w.heap.size w w':=by
 obtain⟨R,hR⟩:=pE (Dd.webB T);rw[hR];obtain⟨k,hk⟩:=pE (T.kind);obtain⟨x1,x2,x3,x4,x5,x6,x7,x8,x9,x10,x11,hrow⟩:∃x1 x2 x3 x4 x5 x6 x7 x8 x9 x10 x11,Ac.row T V=#[.int .i64 k,x1,x2,x3,x4,x5,x6,x7,x8,x9,x10,x11]:=⟨_,_,_,_,_,_,_,_,_,_,_,by unfold Ac.row;rw[hk]⟩;obtain⟨w1,hw1⟩:=pE (w.alloc (.cells (Ac.row T V) 48));have B1:=pB hw1
 have N1:w1.heap[w.heap.size]? =some (.cells (Ac.row T V) 48 (0,0)):=by rw[<-hw1];exact heap_alloc_new w _
 have HC0:=Tryz.r16Check_any d e T V w1 ((hT.below B1).wider B1.size) hF hsz;obtain⟨c,hc⟩:=pE (T.checkC);rw[hc,hrow]at HC0;rw[hrow]at hw1 N1⊢;have HC:Hid _:=HC0;have H1:Hid _:=hw1;have HB:Hid (Below w.heap.size w w1):=B1
 have HR:Hid (R=(decide (k=13)&&decide (c=0))):=by
  show _=_;rw[<-hR,Dd.webB,hk,hc]
 have c0:w1.cell? ⟨w.heap.size,0,none⟩=some (.int .i64 k):=by simp[World.cell?,N1]
 have RG:=Ak.range_box N1;have ha:=Tryz.underlying48;have ia:(Tryz.prog.info? 48).map (·.size)=some (#[.int .i64 k,x1,x2,x3,x4,x5,x6,x7,x8,x9,x10,x11]:Array Value).size:=Ak.rinfo;clear hR hk hrow hw1 B1 HC0 hc hT hsz hF N1
 by_cases hk13:k=13
 ·have ek:(k==13)=true:=by simp[hk13]
  have HQ:Hid (R=decide (c=0)):=by show _=_;rw[HR.out,decide_eq_true hk13,Bool.true_and]
  clear hk13 HR
  go_enter Tryz.func13,Tryz.ntmps13
  go_upto_region 1 with fail
  rw[H1.out]
  go_wp2_with (refine Ak.load_want (by rfl) 48 _ rfl w.heap.size 0 rfl _ _ RG ha rfl ia ?_)
  refine Calls.mono HC.out ?_;rintro e W2 ⟨rfl,hb2⟩;have HX:Hid (Below w.heap.size w W2):=HB.out.trans (hb2.mono HB.out.size);clear hb2 HC c0 RG;go_wp2;go_ret;exact⟨by rw[HQ.out];rfl,HX.out⟩
 have ek:(k==13)=false:=by simpa using hk13
 have HQ:Hid (R=false):=by rw[HR.out,decide_eq_false hk13,Bool.false_and];exact rfl
 clear hk13 HR HC
 go_enter Tryz.func13,Tryz.ntmps13
 go_upto_region 1 with fail
 rw[H1.out];go_wp2;go_ret;exact⟨by rw[HQ.out];rfl,HB.out⟩
theorem Dd.ended_len (ls:List (Int×Int))(s:List Int)(k:Nat)(how:Int):(Dd.ended ls s k how).length=s.length:=Dd.ended_length ls s k how
theorem Dd.fate_len (ls kk:List (Int×Int))(s:List Int)(k:Nat):(Dd.fateD ls kk s k).length=s.length:=by
 unfold Dd.fateD
 split
 ·exact Dd.ended_len _ _ _ _
 split
 ·exact Dd.ended_len _ _ _ _
 exact List.length_set
theorem Dd.oneK_len {ls kk:List (Int×Int)}{s t:List Int} :∀n,Dd.oneK ls kk s n=some t->t.length=s.length
 |0,h=>by cases h
 |n+1,h=>by
  rw[Dd.oneK]at h
  cases hq:Dd.oneK ls kk s n with
  |some x=>rw[hq]at h;dsimp only at h;rw[<-Option.some.inj h];exact Dd.oneK_len n hq
  |none=>
   rw[hq]at h;dsimp only at h
   split at h
   ·cases h
   rw[<-Option.some.inj h];exact Dd.fate_len _ _ _ _
theorem Dd.oneK_get (ls kk:List (Int×Int))(s:List Int)(n:Nat)(h:s.length=104):((Dd.oneK ls kk s n).getD s).length=104:=by
 cases hq:Dd.oneK ls kk s n with
 |none=>exact h
 |some t=>exact(Dd.oneK_len n hq).trans h
theorem Dd.settledF_len (ls kk:List (Int×Int)):∀(f:Nat) (s:List Int),s.length=104->(Dd.settledF ls kk f s).length=104
 |0,_,h=>h
 |f+1,s,h=>Dd.settledF_len ls kk f _ (Dd.oneK_get ls kk s _ h)
theorem Tryz.r19Settled_any (x0 x1 x2 x3 x4 x5 x6 x7 x10 x11:Value)(ka la:Option Addr)(n kc m lc:Nat)(ls kk:List (Int×Int))(s:List Int)(w:World)(hL:Ac.Lks w w.heap.size la ls)(hm:ls.length=m)(h40:m<=40)
  (hK:Dd.Kid12 w w.heap.size ka kk) (hn:kk.length=n) (h64:n<=64) (hs:s.length=104):
  Calls Tryz.prog 31 #[.agg #[x0,x1,x2,x3,x4,x5,x6,x7,.slice ka n kc,.slice la m lc,x10,x11],.agg (Dd.row s)] w λe w'=>
   e=.returned (.agg (Dd.row (Dd.settledF ls kk n s)))/\Below w.heap.size w w':=by
 obtain⟨R,hR⟩:=pE (Dd.settledF ls kk n s);rw[hR];have hRl:R.length=104:=by rw[<-hR];exact Dd.settledF_len ls kk n s hs
 obtain⟨w1,hw1⟩:=pE ((((w.alloc (.cells #[x0,x1,x2,x3,x4,x5,x6,x7,.slice ka n kc,.slice la m lc,x10,x11] 48)).alloc (.cells (Dd.row s) 53)).alloc (.cells Tryz.zeroCells53 53)));have F1:=Dd.RFr.new w #[x0,x1,x2,x3,x4,x5,x6,x7,.slice ka n kc,.slice la m lc,x10,x11] hs;rw[hw1]at F1;have H1:Hid _:=hw1
 -- the variable x
 have NZ:(w1.alloc (.cells Tryz.zeroCells53 53)).heap[w1.heap.size]? =some (.cells Tryz.zeroCells53 53 (0,0)):=heap_alloc_new w1 _;obtain⟨w2,hw2⟩:=pE ((w1.alloc (.cells Tryz.zeroCells53 53)).setRow w1.heap.size (Dd.row s));have A2:Dd.RAt w2 w1.heap.size s:=by rw[<-hw2];exact⟨setRow_heap _ _ _ _ _ _ NZ,hs⟩
 have B2:Below w1.heap.size w1 w2:=by rw[<-hw2];exact Tk.below_row ((Below.refl _ w1).alloc (Nat.le_refl _) _) (Nat.le_refl _) _
 obtain⟨xb,hxb⟩:=pE (w1.heap.size);have HXB:Hid (w1.heap.size=xb):=hxb;have H2:Hid _:=hw2;have HF:Hid (∀W,Below w1.heap.size w1 W->Dd.RFr w #[x0,x1,x2,x3,x4,x5,x6,x7,.slice ka n kc,.slice la m lc,x10,x11] s Dd.zeros W):=λW hb=>F1.below hb
 have HO:Hid (∀W (t:List Int),Below w.heap.size w W->t.length=104->Calls Tryz.prog 44 #[.agg #[x0,x1,x2,x3,x4,x5,x6,x7,.slice ka n kc,.slice la m lc,x10,x11],.agg (Dd.row t)] W λe w'=>
   e=.returned (.tuple #[.agg (Dd.row ((Dd.oneK ls kk t n).getD t)),.bool (Dd.oneK ls kk t n).isSome])/\Below W.heap.size W w'):=λW t hb ht=>
  Tryz.r19one_any x0 x1 x2 x3 x4 x5 x6 x7 x10 x11 ka la n kc m lc ls kk t W ((hL.keep hb.block).wider hb.size) hm h40 (λi h=>by
   obtain⟨g,off,xs,q1,q2,q3,q4,q5,q6,q7⟩:=hK i h
   exact⟨g,off,xs,q1,Nat.lt_of_lt_of_le q2 hb.size,q3,q4,q5,q6,λi v hv=>by rw[hb.cell (p:=⟨g,_,none⟩) q2];exact q7 i v hv⟩) hn h64 ht
 have HN:Hid (kk.length=n/\Dd.settledF ls kk n s=R/\s.length=104):=⟨hn,hR,hs⟩
 have c8:w2.cell? ⟨w.heap.size,8,none⟩=some (.slice ka n kc):=by
  have h:=(F1.below B2).bx;unfold Dd.RBx at h;simp[World.cell?,h]
 have HB2:Hid (Below w1.heap.size w1 w2/\Dd.RAt w2 xb s):=⟨B2,by rw[<-hxb];exact A2⟩;have NS1:=F1.st.h;have ha:=Tryz.underlying48;have hu:=Tryz.underlying53;have ia:(Tryz.prog.info? 48).map (·.size)=some (#[x0,x1,x2,x3,x4,x5,x6,x7,.slice ka n kc,.slice la m lc,x10,x11]:Array Value).size:=Ak.rinfo;have is:=Dd.rinfo_row hs;have zs:(Tryz.zeroCells53).size=(Dd.row s).size:=by rw[Dd.rzero_row,Dd.row_size,Dd.row_size,hs,Dd.zeros_length]
 have os:=Dd.row_one s;have HZR:Hid (R.length=104):=hRl;clear hL hm hK hn hs hR hw1 F1 hw2 A2 B2 hxb hRl
 go_enter Tryz.func31,Tryz.ntmps31
 go_upto_region 1 with fail
 rw[H1.out];clear H1
 go_upto_region 2 with(first
  |refine wpList_load_row rfl 53 _ rfl _ rfl 53 (Dd.row s) (0,0) _ NS1 hu rfl is ?_
  |refine wpList_store_row rfl 53 _ _ rfl w1.heap.size (Dd.row s) rfl rfl 53 _ NZ is zs os ?_)
 rw[H2.out,HXB.out];clear NS1 NZ H2 is zs os;go_wp2
 go_loopg [6,7,12] n (λgk _ _ s12 wr=>∃(j:Nat) (t:List Int),gk+j=n/\s12=.int .i64 j/\t.length=104/\Hid (Dd.settledF ls kk gk t=R/\Below w1.heap.size w1 wr/\Dd.RAt wr xb t))
 case atStart=>exact⟨0,s,by omega,rfl,HN.out.2.2,HN.out.2.1,HB2.out.1,HB2.out.2⟩
 case round=>
  obtain⟨j,t,hj,rfl,ht,HJ⟩:=hrel;clear c8;have FR:=HF.out wr HJ.out.2.1
  by_cases hlt:j<n
  rotate_left
  ·have hd:decide ((j:Int)<n)=false:=decide_eq_false (by omega)
   have HTR:Hid (t=R):=by
    have h:=HJ.out.1;rw[show gk=0 by omega,Dd.settledF]at h;exact h
   have NT:=HJ.out.2.2.h;have NR:=FR.rs.h;have it:=Dd.rinfo_row ht;have zt:(Dd.row Dd.zeros).size=(Dd.row t).size:=by rw[Dd.row_size,Dd.row_size,ht,Dd.zeros_length]
   have ot:=Dd.row_one t;have HX:Hid (Below w.heap.size w wr):=FR.bel;clear FR HJ
   go_wp2_with (first
    |refine wpList_load_row rfl 53 _ rfl _ rfl 53 (Dd.row t) (0,0) _ NT hu rfl it ?_
    |refine wpList_store_row rfl 53 _ _ rfl (w.heap.size+1+1) (Dd.row t) rfl rfl 53 _ NR it zt ot ?_)
   refine bodyPost_ret (v:=.agg (Dd.row t)) (results_cell_row Tryz.results31 _ _ (w.heap.size+1+1) 53 (Dd.row t) (0,0) _ rfl (setRow_heap _ _ _ _ _ _ NR) hu rfl it) rfl ⟨?_,Tk.below_row HX.out (by omega) _⟩;rw[HTR.out]
  have hd:decide ((j:Int)<n)=true:=decide_eq_true (by omega);have NA:=FR.bx;unfold Dd.RBx at NA;have NT:=HJ.out.2.2.h;have it:=Dd.rinfo_row ht;have hcall:=HO.out wr t FR.bel ht;obtain⟨O,hO⟩:=pE (Dd.oneK ls kk t n);obtain⟨y,hy⟩:=pE (O.getD t);obtain⟨q,hq⟩:=pE (O.isSome);have hyl:y.length=104:=by rw[<-hy,<-hO];exact Dd.oneK_get ls kk t n ht
  rw[hO,hy,hq]at hcall;have HC:Hid _:=hcall
  have HSF:Hid (Dd.settledF ls kk (gk-1) y=R):=by
   show _=_;have h:=HJ.out.1;obtain⟨g,hg⟩:∃g,gk=g+1:=⟨gk-1,by omega⟩;rw[hg,Dd.settledF,HN.out.1,hO,hy]at h;rw[hg];exact h
  have HQ:Hid (q=false->y=t):=λh=>by
   rw[<-hy];rw[<-hq]at h
   cases O with
   |none=>rfl
   |some z=>cases h
  have HB4:Hid (Below w1.heap.size w1 wr/\Dd.RAt wr xb t):=HJ.out.2;have iy:=Dd.rinfo_row hyl;have zy:(Tryz.zeroCells53).size=(Dd.row y).size:=by rw[Dd.rzero_row,Dd.row_size,Dd.row_size,hyl,Dd.zeros_length]
  have ey:(Dd.row t).size=(Dd.row y).size:=by rw[Dd.row_size,Dd.row_size,hyl,ht]
  have oy:=Dd.row_one y;clear hO hy hq FR HJ hcall
  go_upto_region 4 with fail
  go_wp2_with (first
   |refine wpList_load_row rfl 48 _ rfl _ rfl 48 _ (0,0) _ NA ha rfl ia ?_
   |refine wpList_load_row rfl 53 _ rfl _ rfl 53 (Dd.row t) (0,0) _ NT hu rfl it ?_)
  refine Calls.mono HC.out ?_;rintro e W3 ⟨rfl,b3⟩;have HB5:Hid (Below w1.heap.size w1 W3/\Dd.RAt W3 xb t):=⟨HB4.out.1.trans (b3.mono HB4.out.1.size),HB4.out.2.below b3 HB4.out.2.lt⟩;have NY:(W3.alloc (.cells Tryz.zeroCells53 53)).heap[W3.heap.size]? =some (.cells Tryz.zeroCells53 53 (0,0)):=heap_alloc_new W3 _;obtain⟨W4,hW4⟩:=pE ((W3.alloc (.cells Tryz.zeroCells53 53)).setRow W3.heap.size (Dd.row y));have B4:Below W3.heap.size W3 W4:=by rw[<-hW4];exact Tk.below_row ((Below.refl _ W3).alloc (Nat.le_refl _) _) (Nat.le_refl _) _
  have NW:W4.heap[W3.heap.size]? =some (.cells (Dd.row y) 53 (0,0)):=by rw[<-hW4];exact setRow_heap _ _ _ _ _ _ NY
  have HB6:Hid (Below w1.heap.size w1 W4/\Dd.RAt W4 xb t):=⟨HB5.out.1.trans (B4.mono HB5.out.1.size),HB5.out.2.below B4 HB5.out.2.lt⟩;obtain⟨yb,hyb⟩:=pE (W3.heap.size);have HYB:Hid (W3.heap.size=yb):=hyb;rw[hyb]at NW;have HW4:Hid _:=hW4;clear b3 B4 hW4 hyb HC NA NT HB4 HB5
  go_upto_region 5 with(refine wpList_store_row rfl 53 _ _ rfl W3.heap.size (Dd.row y) rfl rfl 53 _ NY iy zy oy ?_)
  rw[HW4.out,HYB.out];clear HW4 HYB NY;have NX:=HB6.out.2.h
  have HXL:Hid (w1.heap.size<=xb):=by
   have h:=HXB.out;show _<=_;omega
  cases q with
  |true=>
   have HNX:Hid (Below w1.heap.size w1 (W4.setRow xb (Dd.row y))/\Dd.RAt (W4.setRow xb (Dd.row y)) xb y):=⟨Tk.below_row HB6.out.1 HXL.out _,HB6.out.2.setRow hyl⟩
   go_wp2_with (first
    |refine wpList_load_row rfl 53 _ rfl _ rfl 53 (Dd.row y) (0,0) _ NW hu rfl iy ?_
    |refine wpList_store_row rfl 53 _ _ rfl xb (Dd.row y) rfl rfl 53 _ NX iy ey oy ?_)
   go_roundg (gk-1)
   case measure=>omega
   case rel=>exact⟨j+1,y,by omega,by go_num,hyl,HSF.out,HNX.out.1,HNX.out.2⟩
  |false=>
   have HYT:Hid (y=t):=HQ.out (by first|rfl|trivial);have HSF2:Hid (Dd.settledF ls kk (gk-1) t=R):=by show _=_;rw[<-HYT.out];exact HSF.out
   clear NX NW;go_wp2;go_roundg (gk-1)
   case measure=>omega
   case rel=>exact⟨j+1,t,by omega,by go_num,ht,HSF2.out,HB6.out.1,HB6.out.2⟩
theorem Tryz.r19Start_any (x0 x1 x2 x3 x4 x5 x6 x7 x10 x11:Value)(ka la:Option Addr)(n kc m lc:Nat)(ls kk:List (Int×Int))(w:World)(hL:Ac.Lks w w.heap.size la ls)(hm:ls.length=m)(h40:m<=40)
  (hK:Dd.Kid12 w w.heap.size ka kk) (hn:kk.length=n) (h64:n<=64):
  Calls Tryz.prog 16 #[.agg #[x0,x1,x2,x3,x4,x5,x6,x7,.slice ka n kc,.slice la m lc,x10,x11]] w λe w'=>
   e=.returned (.agg (Dd.row (Dd.settledF ls kk n (Dd.left ls Dd.zeros (-1) 1))))/\Below w.heap.size w w':=by
 obtain⟨Lo,hLo⟩:=pE (Dd.outsD ls (-1));obtain⟨S,hS⟩:=pE (Dd.left ls Dd.zeros (-1) 1);have hSl:S.length=104:=by rw[<-hS,Dd.left_length];exact Dd.zeros_length
 have hSL:Dd.setL 1 Lo Dd.zeros=S:=by rw[<-hLo,<-hS];exact Dd.setL_left ls (-1) 1 Dd.zeros
 obtain⟨R,hR⟩:=pE (Dd.settledF ls kk n S);rw[hS,hR];have hRl:R.length=104:=by rw[<-hR];exact Dd.settledF_len ls kk n S hSl
 obtain⟨r,hr⟩:=pE (Lo.length)
 have hlt40:∀i (h:i<Lo.length),Lo[i]<40:=λi h=>by
  have:=Dd.outs_lt (ls:=ls) (kid:= -1) (i:=Lo[i]) (by rw[hLo];exact List.getElem_mem h);omega
 have hr40:r<=40:=by
  have h:=List.length_filter_le (λi=>decide (((ls[i]?).map Prod.fst)=some (-1:Int))) (List.range ls.length);rw[List.length_range]at h;have h3:(Dd.outsD ls (-1)).length=r:=by rw[hLo];exact hr
  unfold Dd.outsD at h3;omega
 obtain⟨w1,hw1⟩:=pE ((w.alloc (.cells #[x0,x1,x2,x3,x4,x5,x6,x7,.slice ka n kc,.slice la m lc,x10,x11] 48)).alloc (.cells Tryz.zeroCells53 53));have h0:Dd.RBx (w.alloc (.cells #[x0,x1,x2,x3,x4,x5,x6,x7,.slice ka n kc,.slice la m lc,x10,x11] 48)) w.heap.size #[x0,x1,x2,x3,x4,x5,x6,x7,.slice ka n kc,.slice la m lc,x10,x11]:=heap_alloc_new w _;have hz:=Dd.RAt.new (w.alloc (.cells #[x0,x1,x2,x3,x4,x5,x6,x7,.slice ka n kc,.slice la m lc,x10,x11] 48)) Dd.zeros_length;rw[show(w.alloc (.cells #[x0,x1,x2,x3,x4,x5,x6,x7,.slice ka n kc,.slice la m lc,x10,x11] 48)).heap.size=w.heap.size+1 by simp,<-Dd.rzero_row,hw1]at hz;have h2:Dd.RBx w1 w.heap.size #[x0,x1,x2,x3,x4,x5,x6,x7,.slice ka n kc,.slice la m lc,x10,x11]:=by rw[<-hw1];exact h0.keep (Below.heap_alloc _ _ _ h0.lt)
 have B1:Below w.heap.size w w1:=by rw[<-hw1];exact((Below.refl _ w).alloc (Nat.le_refl _) _).alloc (by simp) _
 have H1:Hid _:=hw1
 -- the variable s
 have NZ:(w1.alloc (.cells Tryz.zeroCells53 53)).heap[w1.heap.size]? =some (.cells Tryz.zeroCells53 53 (0,0)):=heap_alloc_new w1 _;obtain⟨w2,hw2⟩:=pE ((w1.alloc (.cells Tryz.zeroCells53 53)).setRow w1.heap.size Tryz.zeroCells53);have A2:Dd.RAt w2 w1.heap.size Dd.zeros:=by rw[<-hw2,Dd.rzero_row];exact⟨setRow_heap _ _ _ _ _ _ (heap_alloc_new w1 _),Dd.zeros_length⟩
 have B2:Below w1.heap.size w1 w2:=by rw[<-hw2];exact Tk.below_row ((Below.refl _ w1).alloc (Nat.le_refl _) _) (Nat.le_refl _) _
 obtain⟨xb,hxb⟩:=pE (w1.heap.size);have HXB:Hid (w1.heap.size=xb):=hxb;have H2:Hid _:=hw2;have HF:Hid (∀W,Below w1.heap.size w1 W->Dd.RBx W w.heap.size #[x0,x1,x2,x3,x4,x5,x6,x7,.slice ka n kc,.slice la m lc,x10,x11]/\Dd.RAt W (w.heap.size+1) Dd.zeros/\Below w.heap.size w W):=λW hb=>⟨h2.below hb h2.lt,hz.below hb hz.lt,B1.trans (hb.mono B1.size)⟩;have HB2:Hid (Below w1.heap.size w1 w2/\Dd.RAt w2 xb Dd.zeros):=⟨B2,by rw[<-hxb];exact A2⟩
 have CU:Hid (∀W,Below w.heap.size w W->Calls Tryz.prog 30 #[.agg #[x0,x1,x2,x3,x4,x5,x6,x7,.slice ka n kc,.slice la m lc,x10,x11],.int .i64 (-1)] W λe w'=>Nt.Gives Lo W e w'):=λW hb=>by
  have h:=Tryz.r19Outs_any x0 x1 x2 x3 x4 x5 x6 x7 (.slice ka n kc) x10 x11 la m lc ls (-1) W ((hL.keep hb.block).wider hb.size) hm (by omega);rw[hLo]at h;exact h
 have CS:Hid (∀W,Below w.heap.size w W->Calls Tryz.prog 31 #[.agg #[x0,x1,x2,x3,x4,x5,x6,x7,.slice ka n kc,.slice la m lc,x10,x11],.agg (Dd.row S)] W λe w'=>e=.returned (.agg (Dd.row R))/\Below W.heap.size W w'):=λW hb=>by
  rw[<-hR]
  exact Tryz.r19Settled_any x0 x1 x2 x3 x4 x5 x6 x7 x10 x11 ka la n kc m lc ls kk S W ((hL.keep hb.block).wider hb.size) hm h40 (λi h=>by
   obtain⟨g,off,xs,q1,q2,q3,q4,q5,q6,q7⟩:=hK i h
   exact⟨g,off,xs,q1,Nat.lt_of_lt_of_le q2 hb.size,q3,q4,q5,q6,λi v hv=>by rw[hb.cell (p:=⟨g,_,none⟩) q2];exact q7 i v hv⟩) hn h64 hSl
 have HLo:Hid (Lo.length=r/\(∀i (h:i<Lo.length),Lo[i]<40)/\Dd.setL 1 Lo Dd.zeros=S):=⟨hr,hlt40,hSL⟩;have NA:=(h2.below B2 h2.lt);unfold Dd.RBx at NA;have ha:=Tryz.underlying48;have hu:=Tryz.underlying53;have ia:(Tryz.prog.info? 48).map (·.size)=some (#[x0,x1,x2,x3,x4,x5,x6,x7,.slice ka n kc,.slice la m lc,x10,x11]:Array Value).size:=Ak.rinfo;have iz:(Tryz.prog.info? 53).map (·.size)=some (Tryz.zeroCells53).size:=by rw[Dd.rzero_row];exact Dd.rinfo_row Dd.zeros_length
 have oz:(Tryz.zeroCells53).all (·.oneCell')=true:=by rw[Dd.rzero_row];exact Dd.row_one _
 have iS:=Dd.rinfo_row hSl;have iR:=Dd.rinfo_row hRl;have oR:=Dd.row_one R;have eR:(Dd.row Dd.zeros).size=(Dd.row R).size:=by rw[Dd.row_size,Dd.row_size,hRl,Dd.zeros_length]
 clear hL hm hK hn hLo hS hSL hR hr hlt40 hw1 h0 hz h2 B1 hw2 A2 B2 hxb hRl
 go_enter Tryz.func16,Tryz.ntmps16
 go_upto_region 1 with fail
 rw[H1.out];clear H1
 go_upto_region 2 with(refine wpList_store_row rfl 53 _ _ rfl w1.heap.size Tryz.zeroCells53 rfl rfl 53 _ NZ iz rfl oz ?_)
 rw[H2.out,HXB.out];clear NZ H2 iz oz
 go_wp2_with (refine wpList_load_row rfl 48 _ rfl _ rfl 48 _ (0,0) _ NA ha rfl ia ?_)
 refine Calls.mono (CU.out _ (HF.out _ HB2.out.1).2.2) ?_;rintro e W3 ⟨v3,rfl,how,hb3⟩;rw[HLo.out.1]at how;obtain⟨ra,rc,rfl⟩:=Rk.own_shape how;have HOW:Hid (W3.ownsRow w2.heap.size 3 1 (.slice ra r rc) Lo.length (Rk.nums Lo)):=by show World.ownsRow _ _ _ _ _ _ _;rw[HLo.out.1];exact how
 have HW3:Hid (Below w1.heap.size w1 W3/\Dd.RAt W3 xb Dd.zeros/\xb<w2.heap.size):=⟨HB2.out.1.trans (hb3.mono HB2.out.1.size),HB2.out.2.below hb3 HB2.out.2.lt,HB2.out.2.lt⟩;clear how hb3 NA CU;go_wp2
 go_loopg [5,10] r (λgk _ s10 wr=>∃q:Nat,gk+q=r/\s10=.int .i64 q/\Hid (Below w1.heap.size w1 wr/\Dd.RAt wr xb (Dd.setL 1 (Lo.take q) Dd.zeros)/\∀b,b≠xb->wr.heap[b]? =W3.heap[b]?))
 case atStart=>exact⟨0,by omega,rfl,HW3.out.1,HW3.out.2.1,λ_ _=>rfl⟩
 case round=>
  obtain⟨q,hq,rfl,HQ⟩:=hrel
  by_cases hlt:q<r
  ·have hd:decide ((q:Int)<r)=true:=decide_eq_true (by omega)
   have hql:q<Lo.length:=by rw[HLo.out.1];exact hlt
   obtain⟨g,off,rfl,hg,cq⟩:=Dd.own_from HOW.out q hql;obtain⟨z,hz⟩:=pE (Lo[q]);have hz40:=HLo.out.2.1 q hql;rw[hz]at cq hz40;have hgx:g≠xb:=by have:=HW3.out.2.2;omega
   have cq2:wr.cell? ⟨g,off+q,none⟩=some (.int .i64 z):=by rw[World.cell?_of_block (w:=W3) (HQ.out.2.2 g hgx)];exact cq
   have hf:=HQ.out.2.1.frozen z;have hcz:=HQ.out.2.1.cell z (by omega);have z0:(0:Int)<=z:=by omega
   have z1:(z:Int)<40:=by omega
   have q0:(0:Int)<=q:=by omega
   have q1:(q:Int)<r:=by omega
   have HNX:Hid (Below w1.heap.size w1 (wr.setCell ⟨xb,z,none⟩ (.int .i64 1))/\Dd.RAt (wr.setCell ⟨xb,z,none⟩ (.int .i64 1)) xb (Dd.setL 1 (Lo.take (q+1)) Dd.zeros)/\∀b,b≠xb->(wr.setCell ⟨xb,z,none⟩ (.int .i64 1)).heap[b]? =W3.heap[b]?):=by
    refine⟨HQ.out.1.setCell (p:=⟨xb,z,none⟩) (by have:=HXB.out;show w1.heap.size<=xb;omega) _, ?_,λb hb=>(Below.heap_setCell _ _ _ _ hb).trans (HQ.out.2.2 b hb)⟩;rw[List.take_succ_eq_append_getElem hql,hz,Dd.setL_snoc];exact HQ.out.2.1.put z 1
   clear cq hz hgx HQ hg;go_wp2;go_roundg (gk-1)
   case measure=>omega
   case rel=>exact⟨q+1,by omega,by go_num,HNX.out⟩
  have hd:decide ((q:Int)<r)=false:=decide_eq_false (by omega)
  have HSX:Hid (Dd.RAt wr xb S):=by
   have h:=HQ.out.2.1;rw[List.take_of_length_le (by rw[HLo.out.1];omega),HLo.out.2.2]at h;exact h
  have FR:=HF.out wr HQ.out.1;have NA:=FR.1;unfold Dd.RBx at NA;have NS:=HSX.out.h;have HBW:Hid (Below w1.heap.size w1 wr):=HQ.out.1;have HCS:Hid _:=CS.out wr FR.2.2;clear FR HQ HOW
  go_wp2_with (first
   |refine wpList_load_row rfl 48 _ rfl _ rfl 48 _ (0,0) _ NA ha rfl ia ?_
   |refine wpList_load_row rfl 53 _ rfl _ rfl 53 (Dd.row S) (0,0) _ NS hu rfl iS ?_)
  refine Calls.mono HCS.out ?_;rintro e W6 ⟨rfl,b6⟩;have FR:=HF.out _ (HBW.out.trans (b6.mono HBW.out.size));have NR:=FR.2.1.h;have HX:Hid (Below w.heap.size w W6):=FR.2.2;clear FR b6 NA NS HCS
  go_wp2_with (refine wpList_store_row rfl 53 _ _ rfl (w.heap.size+1) (Dd.row R) rfl rfl 53 _ NR iR eR oR ?_)
  exact bodyPost_ret (v:=.agg (Dd.row R)) (results_cell_row Tryz.results16 _ _ (w.heap.size+1) 53 (Dd.row R) (0,0) _ rfl (setRow_heap _ _ _ _ _ _ NR) hu rfl iR) rfl ⟨rfl,Tk.below_row HX.out (by omega) _⟩
theorem Dd.held_iff (xs:List Int)(most:Int):Dd.heldB xs most=true↔∀i,i<xs.length->0<=xs.getD i 0/\xs.getD i 0<=most:=by
 unfold Dd.heldB;rw[List.all_eq_true]
 constructor
 ·intro h i hi
  have:=h xs[i] (List.getElem_mem hi);rw[Bool.and_eq_true,decide_eq_true_iff,decide_eq_true_iff]at this;rw[List.getD_eq_getElem?_getD,List.getElem?_eq_getElem hi];exact this
 intro h x hx;obtain⟨i,hi,rfl⟩:=List.getElem_of_mem hx;have:=h i hi;rw[List.getD_eq_getElem?_getD,List.getElem?_eq_getElem hi]at this;rw[Bool.and_eq_true,decide_eq_true_iff,decide_eq_true_iff];exact this
def Dd.numOk (n:Nat)(most v:Int)(k:Nat):Prop:=(0<=v/\v<=most)/\(n<=k->v=0)
theorem Dd.part_iff (xs:List Int)(n N:Nat)(most:Int)(hm:0<=most)(hN:xs.length=N)(hn:n<=N):(Dd.heldB (xs.take n) most&&Dd.heldB (xs.drop n) 0)=true↔∀k,k<N->Dd.numOk n most (xs.getD k 0) k:=by
 rw[Bool.and_eq_true,Dd.held_iff,Dd.held_iff,List.length_take,List.length_drop,hN];have e1:∀i,i<n->(xs.take n).getD i 0=xs.getD i 0:=λi hi=>by simp[List.getD_eq_getElem?_getD,hi]
 have e2:∀i,(xs.drop n).getD i 0=xs.getD (n+i) 0:=λi=>by simp[List.getD_eq_getElem?_getD,List.getElem?_drop]
 constructor
 ·rintro⟨h1,h2⟩ k hk
  rcases Nat.lt_or_ge k n with h|h
  ·have:=h1 k (by omega)
   rw[e1 k h]at this;exact⟨this,λh'=>by omega⟩
  have:=h2 (k-n) (by omega);rw[e2,show n+(k-n)=k by omega]at this;exact⟨⟨this.1,by omega⟩,λ_=>by omega⟩
 intro h;refine⟨λi hi=> ?_,λi hi=> ?_⟩
 ·rw[e1 i (by omega)]
  exact(h i (by omega)).1
 rw[e2];have:=h (n+i) (by omega);have h0:=this.2 (by omega);omega
theorem Dd.ok_iff (n m:Nat)(s:List Int)(hs:s.length=104)(hm:m<=40)(hn:n<=64):Dd.okB n m s=true↔(∀k,k<40->Dd.numOk m 2 (s.getD k 0) k)/\(∀k,k<64->Dd.numOk n 3 (s.getD (40+k) 0) k):=by
 unfold Dd.okB;rw[Bool.and_eq_true,Dd.part_iff (s.take 40) m 40 2 (by omega) (by simp[hs]) hm,Dd.part_iff (s.drop 40) n 64 3 (by omega) (by simp[hs]) hn];have e1:∀i,i<40->(s.take 40).getD i 0=s.getD i 0:=λi hi=>by simp[List.getD_eq_getElem?_getD,hi]
 have e2:∀i,(s.drop 40).getD i 0=s.getD (40+i) 0:=λi=>by simp[List.getD_eq_getElem?_getD,List.getElem?_drop]
 constructor
 ·rintro⟨h1,h2⟩
  exact⟨λk hk=>by rw[<-e1 k hk];exact h1 k hk,λk hk=>by rw[<-e2];exact h2 k hk⟩
 rintro⟨h1,h2⟩;exact⟨λk hk=>by rw[e1 k hk];exact h1 k hk,λk hk=>by rw[e2];exact h2 k hk⟩
theorem Tryz.r19Check_any (x0 x1 x2 x3 x4 x5 x6 x7 x10 x11:Value)(ka la:Option Addr)(n kc m lc:Nat)(l:List Int)(wb:Bool)(w:World)(hl:l.length=104)(h40:wb=true->m<=40/\n<=64)
  (CR0:∀W,Below w.heap.size w W->Calls Tryz.prog 13 #[.agg #[x0,x1,x2,x3,x4,x5,x6,x7,.slice ka n kc,.slice la m lc,x10,x11]] W λe w'=>e=.returned (.bool wb)/\Below W.heap.size W w'):
  Calls Tryz.prog 20 #[.agg #[x0,x1,x2,x3,x4,x5,x6,x7,.slice ka n kc,.slice la m lc,x10,x11],.agg (Dd.row l)] w λe w'=>e=.returned (.int .i64 (Dd.checkI wb n m l))/\Below w.heap.size w w':=by
 obtain⟨R,hR⟩:=pE (Dd.checkI wb n m l);rw[hR];obtain⟨w1,hw1⟩:=pE ((w.alloc (.cells #[x0,x1,x2,x3,x4,x5,x6,x7,.slice ka n kc,.slice la m lc,x10,x11] 48)).alloc (.cells (Dd.row l) 53));have h0:Dd.RBx (w.alloc (.cells #[x0,x1,x2,x3,x4,x5,x6,x7,.slice ka n kc,.slice la m lc,x10,x11] 48)) w.heap.size #[x0,x1,x2,x3,x4,x5,x6,x7,.slice ka n kc,.slice la m lc,x10,x11]:=heap_alloc_new w _;have hz:=Dd.RAt.new (w.alloc (.cells #[x0,x1,x2,x3,x4,x5,x6,x7,.slice ka n kc,.slice la m lc,x10,x11] 48)) hl;rw[show(w.alloc (.cells #[x0,x1,x2,x3,x4,x5,x6,x7,.slice ka n kc,.slice la m lc,x10,x11] 48)).heap.size=w.heap.size+1 by simp,hw1]at hz;have h2:Dd.RBx w1 w.heap.size #[x0,x1,x2,x3,x4,x5,x6,x7,.slice ka n kc,.slice la m lc,x10,x11]:=by rw[<-hw1];exact h0.keep (Below.heap_alloc _ _ _ h0.lt)
 have B1:Below w.heap.size w w1:=by rw[<-hw1];exact((Below.refl _ w).alloc (Nat.le_refl _) _).alloc (by simp) _
 have H1:Hid _:=hw1;have CR:Hid _:=CR0 w1 B1;have HF:Hid (∀W,Below w1.heap.size w1 W->Dd.RBx W w.heap.size #[x0,x1,x2,x3,x4,x5,x6,x7,.slice ka n kc,.slice la m lc,x10,x11]/\Dd.RAt W (w.heap.size+1) l/\Below w.heap.size w W):=λW hb=>⟨h2.below hb h2.lt,hz.below hb hz.lt,B1.trans (hb.mono B1.size)⟩;have NA:=h2;unfold Dd.RBx at NA;have ha:=Tryz.underlying48;have ia:(Tryz.prog.info? 48).map (·.size)=some (#[x0,x1,x2,x3,x4,x5,x6,x7,.slice ka n kc,.slice la m lc,x10,x11]:Array Value).size:=Ak.rinfo;have HR:Hid (R=Dd.checkI wb n m l/\l.length=104):=⟨hR.symm,hl⟩;clear hR hw1 h0 hz h2 B1 CR0 hl
 go_enter Tryz.func20,Tryz.ntmps20
 go_upto_region 1 with fail
 rw[H1.out];clear H1
 go_wp2_with (refine wpList_load_row rfl 48 _ rfl _ rfl 48 _ (0,0) _ NA ha rfl ia ?_)
 refine Calls.mono CR.out ?_;rintro e W2 ⟨rfl,hb2⟩;have HB2:Hid (Below w1.heap.size w1 W2):=hb2;have HX2:Hid (Below w.heap.size w W2):=(HF.out W2 hb2).2.2;clear hb2 NA CR
 cases wb with
 |false=>
  have HQ:Hid (R=4):=HR.out.1;go_wp2;go_ret;exact⟨by rw[HQ.out];rfl,HX2.out⟩
 |true=>
 have hmn:=h40 rfl;obtain⟨hm,hn⟩:=hmn;have HOK:Hid (R=if Dd.okB n m l=true then 0 else 1):=HR.out.1;have HIF:Hid (Dd.okB n m l=true↔(∀k,k<40->Dd.numOk m 2 (l.getD k 0) k)/\(∀k,k<64->Dd.numOk n 3 (l.getD (40+k) 0) k)):=Dd.ok_iff n m l HR.out.2 hm hn;have HBAD:Hid (¬((∀k,k<40->Dd.numOk m 2 (l.getD k 0) k)/\(∀k,k<64->Dd.numOk n 3 (l.getD (40+k) 0) k))->R=1):=λh=>by rw[HOK.out,if_neg (λh2=>h (HIF.out.1 h2))]
 have F2:=HF.out W2 HB2.out;have c8:W2.cell? ⟨w.heap.size,8,none⟩=some (.slice ka n kc):=by have h:=F2.1;unfold Dd.RBx at h;simp[World.cell?,h]
 have c9:W2.cell? ⟨w.heap.size,9,none⟩=some (.slice la m lc):=by have h:=F2.1;unfold Dd.RBx at h;simp[World.cell?,h]
 have HST:Hid (Dd.RAt W2 (w.heap.size+1) l):=F2.2.1;clear F2 h40;go_wp2
 go_loopg [5] 40 (λgk s5 wr=>∃j:Nat,gk+j=40/\s5=.int .i64 j/\wr=W2/\Hid (∀k,k<j->Dd.numOk m 2 (l.getD k 0) k))
 case atStart=>exact⟨0,by omega,rfl,rfl,λk h=>absurd h (by omega)⟩
 case round=>
  obtain⟨j,hj,rfl,rfl,HJ⟩:=hrel
  by_cases hlt:j<40
  ·have hd:decide ((j:Int)<40)=true:=decide_eq_true (by omega)
   have j0:(0:Int)<=j:=by omega
   have j1:(j:Int)<40:=by omega
   obtain⟨v,hv⟩:=pE (l.getD j 0);have sv:=HST.out.cell j (by omega);rw[hv]at sv;have HV:Hid (l.getD j 0=v):=hv;have HNO:Hid (¬Dd.numOk m 2 v j->R=1):=λh=>HBAD.out λh2=>h (by rw[<-HV.out];exact h2.1 j hlt);clear hv
   by_cases g1:v<0
   ·have f1:decide (v<0)=true:=decide_eq_true g1
    have HQ:Hid (R=1):=HNO.out λh=>by have:=h.1.1;omega
    clear g1;go_wp2;go_ret;exact⟨by rw[HQ.out];rfl,HX2.out⟩
   have f1:decide (v<0)=false:=decide_eq_false g1
   by_cases g2:2<v
   ·have f2:decide (2<v)=true:=decide_eq_true g2
    have HQ:Hid (R=1):=HNO.out λh=>by have:=h.1.2;omega
    clear g1 g2;go_wp2;go_ret;exact⟨by rw[HQ.out];rfl,HX2.out⟩
   have f2:decide (2<v)=false:=decide_eq_false g2
   by_cases g3:m<=j
   ·have f3:decide ((m:Int)<=j)=true:=decide_eq_true (by omega)
    by_cases g4:v=0
    ·have f4:(v !=0)=false:=by simp[g4]
     have HOKJ:Hid (Dd.numOk m 2 (l.getD j 0) j):=by show Dd.numOk _ _ _ _;rw[HV.out];exact⟨⟨by omega,by omega⟩,λ_=>g4⟩
     clear g1 g2 g4;go_wp2;go_roundg (gk-1)
     case measure=>omega
     case rel=>exact⟨j+1,by omega,by go_num,rfl,λk hk=>by
      by_cases e:k=j
      ·subst e;exact HOKJ.out
      exact HJ.out k (by omega)⟩
    have f4:(v !=0)=true:=by simpa using g4
    have HQ:Hid (R=1):=HNO.out λh=>g4 (h.2 g3);clear g1 g2 g4;go_wp2;go_ret;exact⟨by rw[HQ.out];rfl,HX2.out⟩
   have f3:decide ((m:Int)<=j)=false:=decide_eq_false (by omega);have HOKJ:Hid (Dd.numOk m 2 (l.getD j 0) j):=by show Dd.numOk _ _ _ _;rw[HV.out];exact⟨⟨by omega,by omega⟩,λh=>absurd h g3⟩
   clear g1 g2;go_wp2;go_roundg (gk-1)
   case measure=>omega
   case rel=>exact⟨j+1,by omega,by go_num,rfl,λk hk=>by
    by_cases e:k=j
    ·subst e;exact HOKJ.out
    exact HJ.out k (by omega)⟩
  have hd:decide ((j:Int)<40)=false:=decide_eq_false (by omega);have HL:Hid (∀k,k<40->Dd.numOk m 2 (l.getD k 0) k):=λk hk=>HJ.out k (by omega);clear HJ;go_wp2
  go_loopg [6] 64 (λgk s6 wr'=>∃j:Nat,gk+j=64/\s6=.int .i64 j/\wr'=wr/\Hid (∀k,k<j->Dd.numOk n 3 (l.getD (40+k) 0) k))
  case atStart=>exact⟨0,by omega,rfl,rfl,λk h=>absurd h (by omega)⟩
  case round=>
   obtain⟨i,hi,rfl,rfl,HJ⟩:=hrel
   by_cases hlt:i<64
   rotate_left
   ·have hd:decide ((i:Int)<64)=false:=decide_eq_false (by omega)
    have HQ:Hid (R=0):=by
     show _=_;rw[HOK.out,if_pos (HIF.out.2 ⟨HL.out,λk hk=>HJ.out k (by omega)⟩)]
    go_wp2;go_ret;exact⟨by rw[HQ.out];rfl,HX2.out⟩
   have hd:decide ((i:Int)<64)=true:=decide_eq_true (by omega);have j0:(0:Int)<=i:=by omega
   have j1:(i:Int)<64:=by omega
   obtain⟨v,hv⟩:=pE (l.getD (40+i) 0);have sv:=HST.out.cell (40+i) (by omega);rw[hv]at sv;have HV:Hid (l.getD (40+i) 0=v):=hv;have HNO:Hid (¬Dd.numOk n 3 v i->R=1):=λh=>HBAD.out λh2=>h (by rw[<-HV.out];exact h2.2 i hlt);clear hv
   by_cases g1:v<0
   ·have f1:decide (v<0)=true:=decide_eq_true g1
    have HQ:Hid (R=1):=HNO.out λh=>by have:=h.1.1;omega
    clear g1;go_wp2;go_ret;exact⟨by rw[HQ.out];rfl,HX2.out⟩
   have f1:decide (v<0)=false:=decide_eq_false g1
   by_cases g2:3<v
   ·have f2:decide (3<v)=true:=decide_eq_true g2
    have HQ:Hid (R=1):=HNO.out λh=>by have:=h.1.2;omega
    clear g1 g2;go_wp2;go_ret;exact⟨by rw[HQ.out];rfl,HX2.out⟩
   have f2:decide (3<v)=false:=decide_eq_false g2
   by_cases g3:n<=i
   ·have f3:decide ((n:Int)<=i)=true:=decide_eq_true (by omega)
    by_cases g4:v=0
    ·have f4:(v !=0)=false:=by simp[g4]
     have HOKJ:Hid (Dd.numOk n 3 (l.getD (40+i) 0) i):=by show Dd.numOk _ _ _ _;rw[HV.out];exact⟨⟨by omega,by omega⟩,λ_=>g4⟩
     clear g1 g2 g4;go_wp2;go_roundg (gk-1)
     case measure=>omega
     case rel=>exact⟨i+1,by omega,by go_num,rfl,λk hk=>by
      by_cases e:k=i
      ·subst e;exact HOKJ.out
      exact HJ.out k (by omega)⟩
    have f4:(v !=0)=true:=by simpa using g4
    have HQ:Hid (R=1):=HNO.out λh=>g4 (h.2 g3);clear g1 g2 g4;go_wp2;go_ret;exact⟨by rw[HQ.out];rfl,HX2.out⟩
   have f3:decide ((n:Int)<=i)=false:=decide_eq_false (by omega);have HOKJ:Hid (Dd.numOk n 3 (l.getD (40+i) 0) i):=by show Dd.numOk _ _ _ _;rw[HV.out];exact⟨⟨by omega,by omega⟩,λh=>absurd h g3⟩
   clear g1 g2;go_wp2;go_roundg (gk-1)
   case measure=>omega
   case rel=>exact⟨i+1,by omega,by go_num,rfl,λk hk=>by
    by_cases e:k=i
    ·subst e;exact HOKJ.out
    exact HJ.out k (by omega)⟩
def Dd.anyD (ls:List (Int×Int))(l:List Int):Bool:=(List.range ls.length).any λk=>decide ((ls[k]?).map Prod.snd=some (-1)/\l.getD k 0=1)
theorem Tryz.r19Over_any (x0 x1 x2 x3 x4 x5 x6 x7 x10 x11:Value)(ka la:Option Addr)(n kc m lc:Nat)(ls:List (Int×Int))(l:List Int)(c:Int)(w:World)(hL:Ac.Lks w w.heap.size la ls)(hm:ls.length=m)(hl:l.length=104)(h40:c=0->m<=40)
  (CK0:∀W,Below w.heap.size w W->Calls Tryz.prog 20 #[.agg #[x0,x1,x2,x3,x4,x5,x6,x7,.slice ka n kc,.slice la m lc,x10,x11],.agg (Dd.row l)] W λe w'=>e=.returned (.int .i64 c)/\Below W.heap.size W w'):
  Calls Tryz.prog 22 #[.agg #[x0,x1,x2,x3,x4,x5,x6,x7,.slice ka n kc,.slice la m lc,x10,x11],.agg (Dd.row l)] w λe w'=>e=.returned (.bool (if c≠0 then false else Dd.anyD ls l))/\Below w.heap.size w w':=by
 obtain⟨R,hR⟩:=pE ((if c≠0 then false else Dd.anyD ls l));rw[hR];obtain⟨w1,hw1⟩:=pE ((w.alloc (.cells #[x0,x1,x2,x3,x4,x5,x6,x7,.slice ka n kc,.slice la m lc,x10,x11] 48)).alloc (.cells (Dd.row l) 53));have h0:Dd.RBx (w.alloc (.cells #[x0,x1,x2,x3,x4,x5,x6,x7,.slice ka n kc,.slice la m lc,x10,x11] 48)) w.heap.size #[x0,x1,x2,x3,x4,x5,x6,x7,.slice ka n kc,.slice la m lc,x10,x11]:=heap_alloc_new w _;have hz:=Dd.RAt.new (w.alloc (.cells #[x0,x1,x2,x3,x4,x5,x6,x7,.slice ka n kc,.slice la m lc,x10,x11] 48)) hl;rw[show(w.alloc (.cells #[x0,x1,x2,x3,x4,x5,x6,x7,.slice ka n kc,.slice la m lc,x10,x11] 48)).heap.size=w.heap.size+1 by simp,hw1]at hz;have h2:Dd.RBx w1 w.heap.size #[x0,x1,x2,x3,x4,x5,x6,x7,.slice ka n kc,.slice la m lc,x10,x11]:=by rw[<-hw1];exact h0.keep (Below.heap_alloc _ _ _ h0.lt)
 have B1:Below w.heap.size w w1:=by rw[<-hw1];exact((Below.refl _ w).alloc (Nat.le_refl _) _).alloc (by simp) _
 have H1:Hid _:=hw1;have CK:Hid _:=CK0 w1 B1;have HF:Hid (∀W,Below w1.heap.size w1 W->Dd.RBx W w.heap.size #[x0,x1,x2,x3,x4,x5,x6,x7,.slice ka n kc,.slice la m lc,x10,x11]/\Dd.RAt W (w.heap.size+1) l/\Below w.heap.size w W):=λW hb=>⟨h2.below hb h2.lt,hz.below hb hz.lt,B1.trans (hb.mono B1.size)⟩;have NA:=h2;have NS:=hz.h;unfold Dd.RBx at NA;have ha:=Tryz.underlying48;have hu:=Tryz.underlying53;have ia:(Tryz.prog.info? 48).map (·.size)=some (#[x0,x1,x2,x3,x4,x5,x6,x7,.slice ka n kc,.slice la m lc,x10,x11]:Array Value).size:=Ak.rinfo;have il:=Dd.rinfo_row hl;have HR:Hid (R=(if c≠0 then false else Dd.anyD ls l)/\l.length=104):=⟨hR.symm,hl⟩;have HL:Hid (Ac.Lks w w.heap.size la ls/\ls.length=m):=⟨hL,hm⟩;clear hR hw1 h0 hz h2 B1 CK0 hl hL hm
 go_enter Tryz.func22,Tryz.ntmps22
 go_upto_region 1 with fail
 rw[H1.out];clear H1
 go_wp2_with (first
  |refine wpList_load_row rfl 48 _ rfl _ rfl 48 _ (0,0) _ NA ha rfl ia ?_
  |refine wpList_load_row rfl 53 _ rfl _ rfl 53 (Dd.row l) (0,0) _ NS hu rfl il ?_)
 refine Calls.mono CK.out ?_;rintro e W2 ⟨rfl,hb2⟩;have HB2:Hid (Below w1.heap.size w1 W2):=hb2;have HX2:Hid (Below w.heap.size w W2):=(HF.out W2 hb2).2.2;clear hb2 NA NS CK
 by_cases hc:c=0
 rotate_left
 ·have fc:(c !=0)=true:=by simpa using hc
  have HQ:Hid (R=false):=by show _=_;rw[HR.out.1,if_pos hc]
  clear hc h40;go_wp2;go_ret;exact⟨by rw[HQ.out];rfl,HX2.out⟩
 have fc:(c !=0)=false:=by simp[hc]
 have hm40:=h40 hc;have HQ:Hid (R=Dd.anyD ls l):=by show _=_;rw[HR.out.1,if_neg (λh=>h hc)]
 have c9:W2.cell? ⟨w.heap.size,9,none⟩=some (.slice la m lc):=by have h:=(HF.out W2 HB2.out).1;unfold Dd.RBx at h;simp[World.cell?,h]
 clear hc h40;go_wp2
 go_loopg [5,6,14] m (λgk _ _ s14 wr=>∃j:Nat,gk+j=m/\s14=.int .i64 j/\Hid ((∀i,i<j->¬((ls[i]?).map Prod.snd=some (-1)/\l.getD i 0=1))/\Below w1.heap.size w1 wr))
 case atStart=>exact⟨0,by omega,rfl,λi h=>absurd h (by omega),HB2.out⟩
 case round=>
  obtain⟨j,hj,rfl,HJ⟩:=hrel;clear c9;have FR:=HF.out wr HJ.out.2
  by_cases hlt:j<m
  rotate_left
  ·have hd:decide ((j:Int)<m)=false:=decide_eq_false (by omega)
   have HT:Hid (R=false):=by
    show _=_;rw[HQ.out];unfold Dd.anyD;rw[List.any_eq_false];intro i hi;have hi:=List.mem_range.1 hi;have:=HJ.out.1 i (by have:=HL.out.2;omega);simpa using this
   have HX:Hid (Below w.heap.size w wr):=FR.2.2;clear FR;go_wp2;go_ret;exact⟨by rw[HT.out];rfl,HX.out⟩
  have hd:decide ((j:Int)<m)=true:=decide_eq_true (by omega);have hjl:j<ls.length:=by rw[HL.out.2];exact hlt
  obtain⟨q,off,rfl,hq,d0,d1⟩:=HL.out.1 j hjl;obtain⟨x,hx⟩:=pE (ls[j]);obtain⟨a,b⟩:=x;rw[hx]at d0 d1;have j0:(0:Int)<=j:=by omega
  have j1:(j:Int)<m:=by omega
  have j2:(j:Int)<40:=by omega
  have e0:wr.cell? ⟨q,off+j*2,none⟩=some (.int .i64 a):=by rw[FR.2.2.cell (p:=⟨q,off+j*2,none⟩) hq];exact d0
  have e1:wr.cell? ⟨q,off+j*2+1,none⟩=some (.int .i64 b):=by rw[FR.2.2.cell (p:=⟨q,off+j*2+1,none⟩) hq];exact d1
  have HXJ:Hid ((ls[j]?).map Prod.snd=some b):=by show _=_;rw[List.getElem?_eq_getElem hjl,hx];rfl
  obtain⟨w2,hw2⟩:=pE (wr.alloc (.cells #[.int .i64 a,.int .i64 b] 83));have B2:=pB hw2
  have HB3:Hid (Below w1.heap.size w1 w2):=HJ.out.2.trans (B2.mono HJ.out.2.size);have N2:w2.heap[wr.heap.size]? =some (.cells #[.int .i64 a,.int .i64 b] 83 (0,0)):=by rw[<-hw2];exact heap_alloc_new wr _
  have k1:w2.cell? ⟨wr.heap.size,1,none⟩=some (.int .i64 b):=by simp[World.cell?,N2]
  obtain⟨v,hv⟩:=pE (l.getD j 0);have sv:=(HF.out w2 HB3.out).2.1.cell j (by omega);rw[hv]at sv;have HV:Hid (l.getD j 0=v):=hv;have HX3:Hid (Below w.heap.size w w2):=(HF.out w2 HB3.out).2.2;have HW2:Hid _:=hw2;clear d0 d1 hx hq hw2 B2 N2 FR hv
  by_cases g1:b= -1
  rotate_left
  ·have f1:(b== -1)=false:=by simpa using g1
   have HN:Hid (¬((ls[j]?).map Prod.snd=some (-1)/\l.getD j 0=1)):=λh=>g1 (by have h1:=h.1;rw[HXJ.out]at h1;exact Option.some.inj h1);clear g1 hjl
   go_upto_region 6 with fail
   rw[HW2.out];go_wp2;go_roundg (gk-1)
   case measure=>omega
   case rel=>exact⟨j+1,by omega,by go_num,λi hi=>by
    by_cases e:i=j
    ·subst e;exact HN.out
    exact HJ.out.1 i (by omega),HB3.out⟩
  have f1:(b== -1)=true:=by simp[g1]
  by_cases g2:v=1
  ·have f2:(v==1)=true:=by simp[g2]
   have HT:Hid (R=true):=by
    show _=_;rw[HQ.out];unfold Dd.anyD;rw[List.any_eq_true];exact⟨j,List.mem_range.2 hjl,decide_eq_true ⟨by rw[HXJ.out,g1],by rw[HV.out,g2]⟩⟩
   clear g1 g2 hjl
   go_upto_region 6 with fail
   rw[HW2.out];go_wp2;go_ret;exact⟨by rw[HT.out];rfl,HX3.out⟩
  have f2:(v==1)=false:=by simpa using g2
  have HN:Hid (¬((ls[j]?).map Prod.snd=some (-1)/\l.getD j 0=1)):=λh=>g2 (by rw[<-HV.out];exact h.2);clear g1 g2 hjl
  go_upto_region 6 with fail
  rw[HW2.out];go_wp2;go_roundg (gk-1)
  case measure=>omega
  case rel=>exact⟨j+1,by omega,by go_num,λi hi=>by
   by_cases e:i=j
   ·subst e;exact HN.out
   exact HJ.out.1 i (by omega),HB3.out⟩
theorem Dd.rgz:Tryz.zeroCells59=Dd.row (Dd.zeros++ [0]):=by kernel_rfl
theorem Dd.rginfo:(Tryz.prog.info? 59).map (·.size)=some 105:=by kernel_rfl
theorem Dd.rginfo_row {l:List Int}(h:l.length=105):(Tryz.prog.info? 59).map (·.size)=some (Dd.row l).size:=by rw[Dd.row_size,h];exact Dd.rginfo
theorem Dd.built_err (e:Int):Tryz.prog.built 59 [(1,.int .i64 e)]=some (Dd.row (Dd.zeros++ [e])):=by kernel_rfl
theorem Dd.by_range {t:List Int}(h:t.length=104):t=(List.range 104).map λi=>t.getD i 0:=by
 refine List.ext_getElem (by simp[h]) λi h1 h2=> ?_;rw[List.getElem_map,List.getElem_range,List.getD_eq_getElem?_getD,List.getElem?_eq_getElem h1];rfl
theorem Dd.built_got_f (f:Nat->Int):Tryz.prog.built 59 [(0,.agg (Dd.row ((List.range 104).map f)))]=some (Dd.row ((List.range 104).map f++ [0])):=by kernel_rfl
theorem Dd.built_got {t:List Int}(h:t.length=104):Tryz.prog.built 59 [(0,.agg (Dd.row t))]=some (Dd.row (t++ [0])):=by
 rw[Dd.by_range h];exact Dd.built_got_f _
theorem Dd.built_state_f (f:Nat->Int):Tryz.prog.built 53 [(0,.agg (Dd.ints (((List.range 104).map f).take 40)).toArray),(1,.agg (Dd.ints (((List.range 104).map f).drop 40)).toArray)]=some (Dd.row ((List.range 104).map f)):=by kernel_rfl
theorem Dd.built_state {t:List Int}(h:t.length=104):Tryz.prog.built 53 [(0,.agg (Dd.ints (t.take 40)).toArray),(1,.agg (Dd.ints (t.drop 40)).toArray)]=some (Dd.row t):=by
 rw[Dd.by_range h];exact Dd.built_state_f _
theorem Dd.got_len {t:List Int}(h:t.length=104)(e:Int):(t++ [e]).length=105:=by simp[h]
end Go.Proofs
