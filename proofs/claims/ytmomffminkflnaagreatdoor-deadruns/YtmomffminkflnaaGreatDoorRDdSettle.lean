import Derived.Test.YtmomffminkflnaaGreatDoorRNtRef4
import Derived.Test.YtmomffminkflnaaGreatDoorRNtFour
set_option maxRecDepth 100000
set_option maxHeartbeats 32000000
namespace Go.Proofs
open Go.RowKit Go.Shelf
theorem Dd.nextK_stop {ls kk:List (Int×Int)}{s t:List Int} :∀{j k:Nat},Dd.nextK ls kk s j=some t->j<=k->Dd.nextK ls kk s k=some t
 |j,0,h,hk=>by obtain rfl:j=0:=by omega
               exact h
 |j,k+1,h,hk=>by
  by_cases q:j=k+1
  ·subst q;exact h
  rw[Dd.nextK,Dd.nextK_stop h (by omega:j<=k)]
theorem Dd.next_wait {ls kk:List (Int×Int)}(hw:Dd.Web ls kk){s:List Int}(hl:s.length=104)(h:Dd.waits kk.length s=0):Dd.nextK ls kk s kk.length=none:=by
 cases hq:Dd.nextK ls kk s kk.length with
 |none=>rfl
 |some t=>have:=(Dd.next_waits hw hl hq).2;omega
theorem Dd.settleF_none {ls kk:List (Int×Int)}{s:List Int}(h:Dd.nextK ls kk s kk.length=none):∀f,Dd.settleF ls kk f s=s
 |0=>rfl
 |f+1=>by rw[Dd.settleF,h]
theorem Dd.settleF_fuel {ls kk:List (Int×Int)}(hw:Dd.Web ls kk):∀(f g:Nat) (s:List Int),s.length=104->Dd.waits kk.length s<=f->Dd.waits kk.length s<=g->Dd.settleF ls kk g s=Dd.settleF ls kk f s
 |0,g,s,hl,h,_=>by rw[Dd.settleF_none (Dd.next_wait hw hl (by omega)) g];rfl
 |f+1,0,s,hl,_,h=>by rw[Dd.settleF_none (Dd.next_wait hw hl (by omega)) (f+1)];rfl
 |f+1,g+1,s,hl,h1,h2=>by
  rw[Dd.settleF,Dd.settleF]
  cases hq:Dd.nextK ls kk s kk.length with
  |none=>rfl
  |some t=>
   obtain⟨h3,h4⟩:=Dd.next_waits hw hl hq;exact Dd.settleF_fuel hw f g t h3 (by omega) (by omega)
theorem Tryz.settle_any (x0 x1 x2 x3 x4 x5 x6 x7 x10 x11:Value)(ka la:Option Addr)(n kc m lc:Nat)(ls kk:List (Int×Int))(l:List Int)(w:World)(hL:Ac.Lks w w.heap.size la ls)(hK:Dd.Kds w w.heap.size ka kk)(hl:l.length=104)(hm:ls.length=m)(hn:kk.length=n)(hW:Dd.Web ls kk):
  Calls Tryz.prog 27 #[.agg #[x0,x1,x2,x3,x4,x5,x6,x7,.slice ka n kc,.slice la m lc,x10,x11],.agg (Dd.row l)] w λe w'=>e=.returned (.agg (Dd.row (Dd.settle ls kk l)))/\Below w.heap.size w w':=by
 obtain⟨R,hR⟩:=pE (Dd.settle ls kk l);rw[hR];obtain⟨w1,hw1⟩:=pE ((((w.alloc (.cells #[x0,x1,x2,x3,x4,x5,x6,x7,.slice ka n kc,.slice la m lc,x10,x11] 32)).alloc (.cells (Dd.row l) 41)).alloc (.cells Tryz.zeroCells41 41)));have F1:=Dd.Fr.new w #[x0,x1,x2,x3,x4,x5,x6,x7,.slice ka n kc,.slice la m lc,x10,x11] hl;rw[hw1]at F1;have H1:Hid _:=hw1;have n64:n<=64:=by have:=hW.k64;omega
 have HB:Hid (Dd.Web ls kk/\ls.length=m/\kk.length=n):=⟨hW,hm,hn⟩
 have HD:Hid (∀(W:World) (s:List Int) (k:Nat),Below w.heap.size w W->s.length=104->k<n->Calls Tryz.prog 39 #[.agg #[x0,x1,x2,x3,x4,x5,x6,x7,.slice ka n kc,.slice la m lc,x10,x11],.agg (Dd.row s),.int .i64 k] W λe w'=>e=.returned (.agg (Dd.row (Dd.decided ls kk s k)))/\Below W.heap.size W w'):=λW s k hb hs hk=>
  Tryz.decided_any x0 x1 x2 x3 x4 x5 x6 x7 x10 x11 ka la n kc m lc ls kk s k W ((hL.keep hb.block).wider hb.size) ((hK.keep hb.block).wider hb.size) hs hm (by have:=hW.l40;omega) hn n64 hk
 have HF1:Hid (Dd.Fr w #[x0,x1,x2,x3,x4,x5,x6,x7,.slice ka n kc,.slice la m lc,x10,x11] l Dd.zeros w1/\Dd.settleF ls kk (Dd.waits n l) l=R):=by
  refine⟨F1, ?_⟩;rw[<-hR,<-hn];exact Dd.settleF_fuel hW _ _ l hl (Dd.waits_le _ _) (Nat.le_refl _)
 have hu:=Tryz.underlying41;have ha:=Tryz.underlying32;have ia:(Tryz.prog.info? 32).map (·.size)=some (#[x0,x1,x2,x3,x4,x5,x6,x7,.slice ka n kc,.slice la m lc,x10,x11]:Array Value).size:=Dd.info_act;clear hL hK hl hm hn hR hw1 F1 hW
 go_enter Tryz.func27,Tryz.ntmps27
 go_upto_region 1 with fail
 rw[H1.out]
 go_step3
 go_wp2
 go_step3
 go_wp2
 go_loopg [5,10] (Dd.waits n l) (λgk _ _ wr=>∃s:List Int,Hid (s.length=104/\Dd.waits n s<=gk/\Dd.settleF ls kk gk s=R/\Dd.Fr w #[x0,x1,x2,x3,x4,x5,x6,x7,.slice ka n kc,.slice la m lc,x10,x11] s Dd.zeros wr))
 case atStart=>exact⟨l,HF1.out.1.st.len,Nat.le_refl _,HF1.out.2,HF1.out.1⟩
 case round=>
  obtain⟨s,HJ⟩:=hrel;obtain⟨g1,hg1⟩:=pE (gk);rw[hg1]at HJ;have c8:=HJ.out.2.2.2.cs.2.2.2.2.2.2.2.2.1;obtain⟨W0,hW0⟩:=pE (wr);rw[hW0]at HJ c8⊢;go_wp2
  go_loopg [5,10] n (λgi _ s10 wr=>∃j:Nat,gi+j=n/\s10=.int .i64 j/\Hid (Dd.nextK ls kk s j=none/\Dd.Fr w #[x0,x1,x2,x3,x4,x5,x6,x7,.slice ka n kc,.slice la m lc,x10,x11] s Dd.zeros wr))
  case atStart=>exact⟨0,by omega,rfl,rfl,HJ.out.2.2.2⟩
  case round=>
   obtain⟨j,hj,rfl,HI⟩:=hrel;clear c8
   by_cases hlt:j<n
   rotate_left
   ·have hd:decide ((j:Int)<n)=false:=decide_eq_false (by omega)
    have HR:Hid (s=R/\s.length=104/\Dd.Fr w #[x0,x1,x2,x3,x4,x5,x6,x7,.slice ka n kc,.slice la m lc,x10,x11] s Dd.zeros wr):=by
     refine⟨?_,HJ.out.1,HI.out.2⟩;have h3:=HJ.out.2.2.1;obtain rfl:j=n:=by omega
     rw[<-h3];exact(Dd.settleF_none (by rw[HB.out.2.2];exact HI.out.1) g1).symm
    have NS:=HR.out.2.2.st.h;have NR:=HR.out.2.2.rs.h;have is:=Dd.info_row HR.out.2.1;have e2:(Dd.row Dd.zeros).size=(Dd.row s).size:=by rw[Dd.row_size,Dd.row_size,HR.out.2.1,Dd.zeros_length]
    have e3:=Dd.row_one s;clear HI HJ
    go_wp2_with (first
     |refine wpList_load_row rfl 41 _ rfl _ rfl 41 (Dd.row s) (0,0) _ NS hu rfl is ?_
     |refine wpList_store_row rfl 41 _ _ rfl (w.heap.size+1+1) (Dd.row s) rfl rfl 41 _ NR is e2 e3 ?_)
    try rw[Exit.noGoto_ret]
    exact bodyPost_ret (v:=.agg (Dd.row s)) (results_cell_row Tryz.results27 _ _ (w.heap.size+1+1) 41 (Dd.row s) (0,0) _ rfl (setRow_heap _ _ _ _ _ _ NR) hu rfl is) rfl ⟨by rw[HR.out.1],Tk.below_row HR.out.2.2.bel (by omega) _⟩
   have hd:decide ((j:Int)<n)=true:=decide_eq_true (by omega);have NA:=HI.out.2.bx;unfold Dd.Bx at NA;have NS:=HI.out.2.st.h;have is:=Dd.info_row HJ.out.1;have HC:Hid _:=HD.out wr s j HI.out.2.bel HJ.out.1 hlt;have HL:Hid (j<n):=hlt;clear hlt
   go_wp2_with (first
    |refine wpList_load_row rfl 32 _ rfl _ rfl 32 _ (0,0) _ NA ha rfl ia ?_
    |refine wpList_load_row rfl 41 _ rfl _ rfl 41 (Dd.row s) (0,0) _ NS hu rfl is ?_)
   refine Calls.mono HC.out ?_;rintro e W3 ⟨rfl,hb3⟩;obtain⟨t,ht⟩:=pE (Dd.decided ls kk s j);rw[ht];have htl:t.length=104:=by rw[<-ht,Dd.decided_length];exact HJ.out.1
   have F3:=HI.out.2.below hb3;have NZ:(W3.alloc (.cells Tryz.zeroCells41 41)).heap[W3.heap.size]? =some (.cells Tryz.zeroCells41 41 (0,0)):=heap_alloc_new W3 _;have B4:Below W3.heap.size W3 ((W3.alloc (.cells Tryz.zeroCells41 41)).setRow W3.heap.size (Dd.row t)):=Tk.below_row ((Below.refl _ W3).alloc (Nat.le_refl _) _) (Nat.le_refl _) _;have N4:((W3.alloc (.cells Tryz.zeroCells41 41)).setRow W3.heap.size (Dd.row t)).heap[W3.heap.size]? =some (.cells (Dd.row t) 41 (0,0)):=setRow_heap _ _ _ _ _ _ NZ;have F4:=F3.below B4;obtain⟨W4,hW4⟩:=pE ((W3.alloc (.cells Tryz.zeroCells41 41)).setRow W3.heap.size (Dd.row t));rw[hW4]at F4 N4;have HW4:Hid _:=hW4;have it:=Dd.info_row htl;have ez:(Tryz.zeroCells41).size=(Dd.row t).size:=by rw[Dd.zero_row,Dd.row_size,Dd.row_size,htl,Dd.zeros_length]
   have o1:=Dd.row_one t;have hneq:w.heap.size+1<W3.heap.size:=F3.st.lt;clear NA NS HC hb3 F3 B4 hW4;have NS4:=F4.st.h;have HT:Hid (Dd.decided ls kk s j=t/\t.length=104/\Dd.Fr w #[x0,x1,x2,x3,x4,x5,x6,x7,.slice ka n kc,.slice la m lc,x10,x11] s Dd.zeros W4/\w.heap.size+1<W3.heap.size):=⟨ht,htl,F4,hneq⟩;clear F4 hneq
   go_upto_region 5 with(refine wpList_store_row rfl 41 _ _ rfl W3.heap.size (Dd.row t) rfl rfl 41 _ NZ it ez o1 ?_)
   rw[HW4.out];clear HW4 NZ
   by_cases hts:t=s
   ·have EQ:∀W:World,(Op.equalIn 10000 41 (.agg (Dd.row t)) (.agg (Dd.row s))).run Tryz.prog W=.ok true W:=λW=>by
     rw[Dd.st_eq t s htl HJ.out.1 W,decide_eq_true hts]
    have HN:Hid (Dd.nextK ls kk s (j+1)=none):=by
     show _=_;rw[Dd.nextK,HI.out.1];dsimp only;rw[ht,if_pos hts]
    clear hts ht htl
    go_wp2_with (first
     |refine wpList_load_row rfl 41 _ rfl _ rfl 41 (Dd.row t) (0,0) _ N4 hu rfl it ?_
     |refine wpList_load_row rfl 41 _ rfl _ rfl 41 (Dd.row s) (0,0) _ NS4 hu rfl is ?_)
    go_roundg (gk-1)
    case measure=>omega
    case rel=>exact⟨j+1,by omega,by go_num,HN.out,HT.out.2.2.1⟩
   have EQ:∀W:World,(Op.equalIn 10000 41 (.agg (Dd.row t)) (.agg (Dd.row s))).run Tryz.prog W=.ok false W:=λW=>by
    rw[Dd.st_eq t s htl HJ.out.1 W,decide_eq_false hts]
   have HN:Hid (Dd.nextK ls kk s kk.length=some t):=by
    refine Dd.nextK_stop (j:=j+1) ?_ (by have:=HB.out.2.2;have:=HL.out;omega);rw[Dd.nextK,HI.out.1];dsimp only;rw[ht,if_neg hts]
   have HG:Hid (1<=g1/\Dd.waits n t<=g1-1/\Dd.settleF ls kk (g1-1) t=R):=by
    have h1:=(Dd.next_waits HB.out.1 HJ.out.1 HN.out).2;have h2:=HJ.out.2.1;have h3:=HJ.out.2.2.1;rw[HB.out.2.2]at h1;obtain⟨g2,rfl⟩:∃g2,g1=g2+1:=⟨g1-1,by omega⟩;rw[Dd.settleF,HN.out]at h3;exact⟨by omega,by omega,h3⟩
   have F5:=HT.out.2.2.1.setS htl;have HF5:Hid _:=F5;clear hts ht htl HI HL;have e2:(Dd.row s).size=(Dd.row t).size:=by rw[Dd.row_size,Dd.row_size,HJ.out.1,HT.out.2.1]
   go_wp2_with (first
    |refine wpList_load_row rfl 41 _ rfl _ rfl 41 (Dd.row t) (0,0) _ N4 hu rfl it ?_
    |refine wpList_load_row rfl 41 _ rfl _ rfl 41 (Dd.row s) (0,0) _ NS4 hu rfl is ?_
    |refine wpList_store_row rfl 41 _ _ rfl (w.heap.size+1) (Dd.row t) rfl rfl 41 _ NS4 it e2 o1 ?_)
   go_roundg (g1-1)
   case measure=>have:=HG.out.1;omega
   case rel=>exact⟨t,HT.out.2.1,HG.out.2.1,HG.out.2.2,HF5.out⟩
end Go.Proofs
namespace Go.Proofs
open Go.RowKit
def Tk.Rm (b:Nat)(k:Int)(w:World):Prop:=w.heap[b]? =some (.cells #[.int .i64 k] 36 (0,0))
theorem Tk.Rm.c0 {b:Nat}{k:Int}{w:World}(h:Tk.Rm b k w):w.cell? ⟨b,0,none⟩=some (.int .i64 k):=by simp only[Tk.Rm]at h;simp[World.cell?,h]
theorem Tk.Rm.f0 {b:Nat}{k:Int}{w:World}(h:Tk.Rm b k w):w.frozen? ⟨b,0,none⟩=false:=by simp only[Tk.Rm]at h;simp[World.frozen?,h]
theorem Tk.Rm.lt {b:Nat}{k:Int}{w:World}(h:Tk.Rm b k w):b<w.heap.size:=(Array.getElem?_eq_some_iff.1 h).1
theorem Tk.Rm.put {b:Nat}{k:Int}{w:World}(h:Tk.Rm b k w)(k':Int):Tk.Rm b k' (w.setCell ⟨b,0,none⟩ (.int .i64 k')):=by
 unfold Tk.Rm at*;simp[World.setCell,Array.getElem?_modify,h]
theorem Tk.Rm.keep {b:Nat}{k:Int}{w w':World}(h:Tk.Rm b k w)(hk:w'.heap[b]? =w.heap[b]?):Tk.Rm b k w':=by unfold Tk.Rm;rw[hk];exact h
def Tk.LargeEnd (T:Tm)(k:Nat)(b:Nat)(w:World)(e:Ending)(w':World):Prop:=
 Tk.But (λi=>i=b) w w'/\((e=.returned (.bool false)/\T.size<=k/\Tk.Rm b ((k-T.size:Nat):Int) w')∨e=.returned (.bool true))
theorem Tryz.deep_any:∀(d:Nat) (T:Tm) (v:Value) (k b:Nat) (dp:Nat) (B:Nat) (w:World),Tm.Lies w B d v T->B<=b->B<=w.heap.size->Tk.Rm b k w->k<=1000000->dp<=1000->
  Calls Tryz.prog 25 #[.agg #[.int .i64 T.op,.int .i64 T.num,v],.pointer (some ⟨b,0,none⟩),.int .i64 dp] w λe w'=>Tk.LargeEnd T k b w e w':=by
 intro d
 induction d with
 |zero=>intro T v k b dp B w h;exact h.elim
 |succ d ih=>
  intro T v k b dp B w hT hBb hBs hR hk hdp;obtain⟨a,cap,rfl⟩:=hT.shape;obtain⟨o,ho⟩:=pE (T.op);obtain⟨m,hm⟩:=pE (T.num);obtain⟨n,hn⟩:=pE (T.ks.length);rw[ho,hm,hn];rw[hn]at hT;have A0:Below w.heap.size w (w.alloc (.cells #[.int .i64 o,.int .i64 m,.slice a n cap] 24)):=(Below.refl _ w).alloc (Nat.le_refl _) _;have R0:Tk.Rm b k (w.alloc (.cells #[.int .i64 o,.int .i64 m,.slice a n cap] 24)):=hR.keep (A0.block b hR.lt);have c0:=R0.c0;have f0:=R0.f0;have R1:=R0.put ((k:Int)-1);obtain⟨w1,hw1⟩:=pE ((w.alloc (.cells #[.int .i64 o,.int .i64 m,.slice a n cap] 24)).setCell ⟨b,0,none⟩ (.int .i64 ((k:Int)-1)));have X1:Hid (Tk.But (λi=>i=b) w w1):=by show Tk.But _ _ _;rw[<-hw1];exact(Tk.But.of_below A0).setCell (E:=λi=>i=b) (p:=⟨b,0,none⟩) rfl _
  rw[hw1]at R1;have g0:=R1.c0
  have hbx:w1.heap[w.heap.size]? =some (.cells #[.int .i64 o,.int .i64 m,.slice a n cap] 24 (0,0)):=by
   rw[<-hw1,Below.heap_setCell _ _ _ _ (by have:=hR.lt;show w.heap.size≠b;omega)];exact heap_alloc_new w _
  have g2:w1.cell? ⟨w.heap.size,2,none⟩=some (.slice a n cap):=by simp[World.cell?,hbx]
  have HW1:Hid ((w.alloc (.cells #[.int .i64 o,.int .i64 m,.slice a n cap] 24)).setCell ⟨b,0,none⟩ (.int .i64 ((k:Int)-1))=w1):=hw1;have HT:Hid (Tm.Lies w B (d+1) (.slice a n cap) T):=hT;have HI:Hid _:=ih;have HM:Hid (T.op=o/\T.num=m/\T.ks.length=n/\B<=b/\B<=w.heap.size):=⟨ho,hm,hn,hBb,hBs⟩;have HR1:Hid (Tk.Rm b ((k:Int)-1) w1):=R1;have HRl:Hid (b<w.heap.size):=hR.lt;clear ih hT hR A0 R0 ho hm hn hw1 R1 hbx hBb hBs
  by_cases hbad:(k:Int)-1<0∨30<dp∨20<n
  ·obtain h1|⟨h1,h2⟩|⟨h1,h2,h3⟩:decide ((k:Int)-1<0)=true∨(decide ((k:Int)-1<0)=false/\decide ((30:Int)<dp)=true)∨(decide ((k:Int)-1<0)=false/\decide ((30:Int)<dp)=false/\decide ((20:Int)<n)=true):=by
    simp;omega
   all_goals
    clear hbad
    go_enter Tryz.func25,Tryz.ntmps25
    go_wp2;go_ret;exact⟨by rw[HW1.out];exact X1.out,.inr rfl⟩
  have h1:decide ((k:Int)-1<0)=false:=decide_eq_false (by omega);have h2:decide ((30:Int)<dp)=false:=decide_eq_false (by omega);have h3:decide ((20:Int)<n)=false:=decide_eq_false (by omega);have hn100:n<=100:=by omega
  have hdp':dp<=100:=by omega
  have HK:Hid (1<=k):=by show 1<=k;omega
  clear hbad
  go_enter Tryz.func25,Tryz.ntmps25
  go_wp2;rw[HW1.out]
  go_loopg [35] n (λg i wr=>∃j:Nat,g+j=n/\i=.int .i64 j/\Hid (Tk.But (λi=>i=b) w wr/\Tm.sizes (T.ks.take j)<=k-1/\Tk.Rm b ((k-1-Tm.sizes (T.ks.take j):Nat):Int) wr))
  case atStart=>
   refine⟨0,by omega,rfl,X1.out,by simp[Tm.sizes], ?_⟩;have:=HR1.out;rw[show(k:Int)-1=((k-1:Nat):Int)by have:=HK.out;omega]at this;simpa [Tm.sizes]using this
  case round=>
   obtain⟨j,hj,rfl,HJ⟩:=hrel
   by_cases hjn:j<n
   rotate_left
   ·have hd:decide ((j:Int)<n)=false:=decide_eq_false (by omega)
    have hall:T.ks.take j=T.ks:=List.take_of_length_le (by rw[HM.out.2.2.1];omega);have HZ:=HJ.out;rw[hall]at HZ;have HZ':Hid _:=HZ;clear HZ;go_wp2;go_ret;refine⟨HZ'.out.1,.inl ⟨rfl, ?_, ?_⟩⟩
    ·rw[T.size_eq];have:=HZ'.out.2.1;have:=HK.out;omega
    rw[T.size_eq,show k-(Tm.sizes T.ks+1)=k-1-Tm.sizes T.ks by omega];exact HZ'.out.2.2
   have hd:decide ((j:Int)<n)=true:=decide_eq_true (by omega);have hjk:j<T.ks.length:=by rw[HM.out.2.2.1];exact hjn
   obtain⟨g,off,u,rfl,hg,q0,q1,q2,q3⟩:=HT.out.kid j hjk;obtain⟨x,hx⟩:=pE (T.ks[j]);rw[hx]at q0 q1 q3;obtain⟨au,cu,rfl⟩:=q3.shape;obtain⟨nx,hnx⟩:=pE (x.ks.length);rw[hnx]at q2 q3;obtain⟨y0,hy0⟩:=pE (x.op);obtain⟨y1,hz1⟩:=pE (x.num);rw[hy0]at q0;rw[hz1]at q1;have hE:∀i,i<B->¬(i=b):=λi hi=>by have:=HM.out;omega
   have hc:∀p,wr.cell? ⟨g,p,none⟩=w.cell? ⟨g,p,none⟩:=λp=>World.cell?_of_block (w:=w) (HJ.out.1.block g (by have:=HM.out;omega) (hE g hg));have hc0:wr.cell? ⟨g,off+j*3,none⟩=some (.int .i64 y0):=by rw[hc];exact q0
   have hc1:wr.cell? ⟨g,off+j*3+1,none⟩=some (.int .i64 y1):=by rw[hc];exact q1
   have hc2:wr.cell? ⟨g,off+j*3+2,none⟩=some (.slice au nx cu):=by rw[hc];exact q2
   have BA:Hid (Tk.But (λi=>i=b) w (wr.alloc (.cells #[.int .i64 y0,.int .i64 y1,.slice au nx cu] 24))):=HJ.out.1.alloc _
   have hcall:=HI.out x (.slice au nx cu) (k-1-Tm.sizes (T.ks.take j)) b (dp+1) B (wr.alloc (.cells #[.int .i64 y0,.int .i64 y1,.slice au nx cu] 24))
    (q3.keep λi hi=>BA.out.block i (by have:=HM.out;omega) (hE i hi)) HM.out.2.2.2.1 (by have:=HM.out;have:=BA.out.size;omega) (HJ.out.2.2.keep (Below.heap_alloc _ _ _ HJ.out.2.2.lt)) (by omega) (by omega)
   rw[hy0,hz1,show((dp+1:Nat):Int)=(dp:Int)+1 by omega]at hcall;have HC:Hid _:=hcall;have HY:Hid (T.ks[j]=x):=hx;clear hc q0 q1 q2 q3 hx hy0 hz1 hnx hcall hE g0 g2 c0 f0
   go_wp2_with fail
   refine Calls.mono HC.out ?_;rintro e W3 ⟨hb3,⟨rfl,hs3,hr3⟩|rfl⟩
   ·have B3:Hid (Tk.But (λi=>i=b) w W3):=BA.out.trans hb3
    have H3:Hid (x.size<=k-1-Tm.sizes (T.ks.take j)/\Tk.Rm b ((k-1-Tm.sizes (T.ks.take j)-x.size:Nat):Int) W3):=⟨hs3,hr3⟩;clear hb3 hs3 hr3 HC;go_wp2;go_roundg (gk-1)
    case measure=>omega
    case rel=>
     refine⟨j+1,by omega,by go_num,B3.out, ?_, ?_⟩
     ·rw[Tm.sizes_take _ _ hjk,HY.out];have:=H3.out.1;have:=HJ.out.2.1;omega
     rw[Tm.sizes_take _ _ hjk,HY.out,<-Nat.sub_sub];exact H3.out.2
   have B3:Hid (Tk.But (λi=>i=b) w W3):=BA.out.trans hb3;clear hb3 HC;go_wp2;go_ret;exact⟨B3.out,.inr rfl⟩
end Go.Proofs
namespace Go.Proofs
open Go.RowKit Go.Shelf
def Rk.Bits (w:World)(g:Nat)(bs:List Bool):Prop:=w.heap[g]? =some (.cells (bs.map Value.bool).toArray 4 (0,0))
theorem Rk.Bits.lt {w:World}{g:Nat}{bs:List Bool}(h:Rk.Bits w g bs):g<w.heap.size:=(Array.getElem?_eq_some_iff.1 h).1
theorem Rk.Bits.cell {w:World}{g:Nat}{bs:List Bool}(h:Rk.Bits w g bs)(j:Nat)(b:Bool)(hj:bs[j]? =some b):w.cell? ⟨g,j,none⟩=some (.bool b):=by
 unfold Rk.Bits at h;simp[World.cell?,h,hj]
theorem Rk.Bits.frozen {w:World}{g:Nat}{bs:List Bool}(h:Rk.Bits w g bs)(j:Nat):w.frozen? ⟨g,j,none⟩=false:=by
 unfold Rk.Bits at h;simp[World.frozen?,h]
theorem Rk.Bits.put {w:World}{g:Nat}{bs:List Bool}(h:Rk.Bits w g bs)(j:Nat)(b:Bool):Rk.Bits (w.setCell ⟨g,j,none⟩ (.bool b)) g (bs.set j b):=by
 unfold Rk.Bits at*;simp[World.setCell,Array.getElem?_modify,h]
theorem Rk.Bits.keep {w w':World}{g:Nat}{bs:List Bool}(h:Rk.Bits w g bs)(hk:w'.heap[g]? =w.heap[g]?):Rk.Bits w' g bs:=by unfold Rk.Bits;rw[hk];exact h
theorem Tryz.infoBool:(Tryz.prog.info? 4).map (λi=>(i.zero,i.size,i.bytes))=some (some (.bool false),1,1):=by kernel_rfl
theorem Nt.box2' {W:World}{b:Nat}{v u:Value}{t:TypeId}(h:W.heap[b]? =some (.cells #[v,u] t (0,0))):W.cell? ⟨b,0,none⟩=some v/\W.cell? ⟨b,1,none⟩=some u:=⟨by simp[World.cell?,h],by simp[World.cell?,h]⟩
def Rk.row (n:Nat):Array Value:=((List.replicate n false).map Value.bool).toArray
theorem Rk.make_bools (n:Nat)(hn:n<=64)(w:World):(Instr.makeSlice 151 (.int .i64 (n:Int)) (.int .i64 (n:Int))).run Tryz.prog w=.ok (.slice (some ⟨w.heap.size,0,none⟩) n n) (w.alloc (.cells (Rk.row n) 4)):=by
 have h:=run_make_row' (P:=Tryz.prog) 151 4 (.bool false) 1 Tryz.underlying151 Tryz.infoBool rfl .i64 .i64 n (by omega) (by omega) w;rw[h,show madeCells #[Value.bool false] n=Rk.row n from ?_];apply Array.toList_inj.1;rw[toList_madeCells_one];simp[Rk.row]
theorem Rk.row_bits (w:World)(n:Nat):Rk.Bits (w.alloc (.cells (Rk.row n) 4)) w.heap.size (List.replicate n false):=heap_alloc_new w (.cells (Rk.row n) 4)
theorem Rk.drop_at {α:Type}(l:List α)(k:Nat)(h:k<l.length):l.drop k=l[k]::l.drop (k+1):=List.drop_eq_getElem_cons h
theorem Tryz.rReach_any (a0:Nat)(an:Option Addr)(cn:Nat)(af:Option Addr)(cf d:Nat)(ns:List Nd)(fs:List Fl)(w:World)(hH:Nt.Has w w.heap.size d an af ns fs)(hn24:ns.length<=24)(hes:∀f,f∈fs->0<=f.fr/\f.fr<ns.length/\0<=f.to/\f.to<ns.length)(ha:a0<ns.length):
  Calls Tryz.prog 97 #[.agg #[.slice an ns.length cn,.slice af fs.length cf],.int .i64 a0] w λe w'=>∃g,e=.returned (.slice (some ⟨g,0,none⟩) ns.length ns.length)/\w.heap.size<=g/\Rk.Bits w' g ((List.range ns.length).map (Rk.met (Nt.edges fs) a0))/\Below w.heap.size w w':=by
 obtain⟨w0,hw0⟩:=pE (w.alloc (.cells #[.slice an ns.length cn,.slice af fs.length cf] 30));have A0:=pB hw0
 have G0:w0.heap[w.heap.size]? =some (.cells #[.slice an ns.length cn,.slice af fs.length cf] 30 (0,0)):=by rw[<-hw0];exact heap_alloc_new w _
 have hs0:w0.heap.size=w.heap.size+1:=by rw[<-hw0];simp
 have hmet:=Nt.sweeps_met (Nt.edges_lt hes) ha;have hmk:=Rk.make_bools ns.length (by omega);obtain⟨es,hE⟩:=pE (Nt.edges fs);rw[hE]at hmet
 have HES:Hid (∀k (h:k<fs.length),∃x y:Nat,x<ns.length/\y<ns.length/\fs[k].fr=x/\fs[k].to=y/\es[k]? =some (x,y)):=λk hk=>by
  have:=hes _ (List.getElem_mem hk);refine⟨fs[k].fr.toNat,fs[k].to.toNat,by omega,by omega,by omega,by omega, ?_⟩;rw[<-hE,List.getElem?_eq_getElem (by rw[Nt.edges_length];exact hk),Nt.edges_get fs k hk]
 have hel:es.length=fs.length:=by rw[<-hE,Nt.edges_length]
 obtain⟨n,hnn⟩:=pE (ns.length);obtain⟨m,hmm⟩:=pE (fs.length);have HFL:Hid (Nt.Fls w w.heap.size d af fs):=hH.fls;have hm100:m<=100:=by have:=hH.flen;omega
 rw[hnn]at hn24 ha hmet hmk HES;rw[hnn,hmm]at hw0 G0;rw[hE,hnn,hmm];have ha':(a0:Int)<n:=by omega
 have ha0:(0:Int)<=a0:=by omega
 have H0:Hid (w.alloc (.cells #[.slice an n cn,.slice af m cf] 30)=w0):=hw0;obtain⟨w1,hw1⟩:=pE (w0.alloc (.cells (Rk.row n) 4));have X1:Rk.Bits w1 w0.heap.size (List.replicate n false):=by rw[<-hw1];exact Rk.row_bits w0 n
 have A1:Below w.heap.size w w1:=by rw[<-hw1];exact A0.alloc A0.size _
 have G1:w1.heap[w.heap.size]? =some (.cells #[.slice an n cn,.slice af m cf] 30 (0,0)):=by rw[<-hw1,Below.heap_alloc _ _ _ ((Array.getElem?_eq_some_iff.1 G0).1)];exact G0
 have k0:=X1.cell a0 false (by simp[ha]);have k1:=X1.frozen a0;have Y1:Rk.Bits (w1.setCell ⟨w0.heap.size,a0,none⟩ (.bool true)) w0.heap.size ((List.replicate n false).set a0 true):=X1.put a0 true;obtain⟨w2,hw2⟩:=pE (w1.setCell ⟨w0.heap.size,a0,none⟩ (.bool true));rw[hw2]at Y1
 -- what a world on the way holds
 have HK2:Hid (w2.heap[w.heap.size]? =some (.cells #[.slice an n cn,.slice af m cf] 30 (0,0))/\Below w.heap.size w w2/\Rk.Bits w2 w0.heap.size ((List.replicate n false).set a0 true)):=by
  refine⟨?_, ?_,Y1⟩
  ·rw[<-hw2,Below.heap_setCell _ _ _ _ (by show w.heap.size≠w0.heap.size;omega)];exact G1
  rw[<-hw2];exact A1.setCell (p:=⟨w0.heap.size,a0,none⟩) (by show w.heap.size<=w0.heap.size;omega) _
 have HW1:Hid (w0.alloc (.cells (Rk.row n) 4)=w1):=hw1;have HW2:Hid (w1.setCell ⟨w0.heap.size,a0,none⟩ (.bool true)=w2):=hw2;have HM:Hid (Rk.sweeps es n ((List.replicate n false).set a0 true)=(List.range n).map (Rk.met es a0)/\es.length=m/\w0.heap.size=w.heap.size+1/\fs.length=m):=⟨hmet,by omega,hs0,hmm⟩;obtain⟨p0,p1⟩:=Nt.box2' G0;obtain⟨p2,p3⟩:=Nt.box2' G1;obtain⟨b2,hb2⟩:=pE (w0.heap.size);have HB2:Hid (w0.heap.size=b2):=hb2;have hlt0:w.heap.size<w0.heap.size:=by omega
 clear hH hes hmet hE hel hnn hmm A0 G0 A1 G1 X1 Y1 hw0 hw1 hw2 hs0 hb2
 go_enter Tryz.func97,Tryz.ntmps97
 go_upto_region 1 with fail
 rw[H0.out]
 go_upto_region 2 with fail
 rw[HW1.out]
 go_upto_region 3 with fail
 rw[HW2.out];obtain⟨q0,q1⟩:=Nt.box2' HK2.out.1;clear p0 p1 p2 p3 k0 k1 hmk H0 HW1 HW2;rw[HB2.out];rw[HB2.out]at HK2 HM;go_wp2
 go_loopg [18] n (λgk s18 wr=>∃(j:Nat) (cur:List Bool),gk+j=n/\s18=.int .i64 j/\Hid (Rk.sweeps es (n-j) cur=(List.range n).map (Rk.met es a0)/\cur.length=n/\Rk.Bits wr b2 cur/\Below w.heap.size w wr/\wr.heap[w.heap.size]? =some (.cells #[.slice an n cn,.slice af m cf] 30 (0,0))))
 case atStart=>exact⟨0,_,by omega,rfl,HM.out.1,by simp,HK2.out.2.2,HK2.out.2.1,HK2.out.1⟩
 case round=>
  obtain⟨j,cur,hj,rfl,HI⟩:=hrel;clear q0 q1
  by_cases hlt:j<n
  rotate_left
  ·have hd:decide ((j:Int)<n)=false:=decide_eq_false (by omega)
   have HF:Hid (cur=(List.range n).map (Rk.met es a0)):=by
    show _=_;rw[<-HI.out.1,show n-j=0 by omega];rfl
   go_wp2;go_ret;exact⟨b2,rfl,by have:=HM.out.2.2.1;omega,by rw[<-HF.out];exact HI.out.2.2.1,HI.out.2.2.2.1⟩
  have hd:decide ((j:Int)<n)=true:=decide_eq_true (by omega);obtain⟨q0,q1⟩:=Nt.box2' HI.out.2.2.2.2
  have HSW:Hid (Rk.sweeps es (n-(j+1)) (Rk.sweep es cur)=(List.range n).map (Rk.met es a0)):=by
   show _=_;rw[<-HI.out.1,show n-j=(n-(j+1))+1 by omega,Rk.sweeps]
  obtain⟨g1,hg1⟩:=pE (gk);go_wp2
  go_loopg [23] m (λgk s23 wr=>∃(k:Nat) (cu2:List Bool),gk+k=m/\s23=.int .i64 k/\Hid (Rk.sweep (es.drop k) cu2=Rk.sweep es cur/\cu2.length=n/\Rk.Bits wr b2 cu2/\Below w.heap.size w wr/\wr.heap[w.heap.size]? =some (.cells #[.slice an n cn,.slice af m cf] 30 (0,0))))
  case atStart=>exact⟨0,cur,by omega,rfl,rfl,HI.out.2.1,HI.out.2.2.1,HI.out.2.2.2.1,HI.out.2.2.2.2⟩
  case round=>
   obtain⟨k,cu2,hk,rfl,HJ⟩:=hrel;clear q0 q1
   by_cases hlt2:k<m
   rotate_left
   ·have hd2:decide ((k:Int)<m)=false:=decide_eq_false (by omega)
    have HF:Hid (cu2=Rk.sweep es cur):=by
     show _=_;rw[<-HJ.out.1,List.drop_of_length_le (by rw[HM.out.2.1];omega)];rfl
    go_wp2;go_roundg (g1-1)
    case measure=>omega
    case rel=>exact⟨j+1,cu2,by omega,by go_num,by rw[HF.out];exact HSW.out,HJ.out.2.1,HJ.out.2.2.1,HJ.out.2.2.2.1,HJ.out.2.2.2.2⟩
   have hd2:decide ((k:Int)<m)=true:=decide_eq_true (by omega);have hkl:k<fs.length:=by rw[HM.out.2.2.2];exact hlt2
   obtain⟨q,off,u,rfl,hq,h0,h1,h2,h3,h4,h5,h6⟩:=HFL.out k hkl;obtain⟨x,y,hx,hy,hfx,hfy,hek⟩:=HES.out k hkl;obtain⟨au,cu,rfl⟩:=h6.shape;rw[hfx]at h0;rw[hfy]at h1;obtain⟨nu,hnu⟩:=pE (fs[k].c.ks.length);obtain⟨els,hel⟩:=pE (fs[k].els);obtain⟨op,hop⟩:=pE (fs[k].c.op);obtain⟨num,hnum⟩:=pE (fs[k].c.num);rw[hnu]at h5;rw[hel]at h2;rw[hop]at h3;rw[hnum]at h4;have hc:∀o,wr.cell? ⟨q,o,none⟩=w.cell? ⟨q,o,none⟩:=λo=>HJ.out.2.2.2.1.cell (p:=⟨q,o,none⟩) hq;have c0:=(hc _).trans h0;have c1:=(hc _).trans h1;have c2:=(hc _).trans h2;have c3:=(hc _).trans h3;have c4:=(hc _).trans h4;have c5:=(hc _).trans h5;have hx':(x:Int)<n:=by omega
   have hy':(y:Int)<n:=by omega
   have hx0:(0:Int)<=x:=by omega
   have hy0:(0:Int)<=y:=by omega
   have hz:b2<wr.heap.size:=HJ.out.2.2.1.lt;have hu:=Tryz.underlying78;obtain⟨b1,hb1⟩:∃b,cu2[x]? =some b:=⟨_,List.getElem?_eq_getElem (by rw[HJ.out.2.1];exact hx)⟩;obtain⟨b3,hb3⟩:∃b,cu2[y]? =some b:=⟨_,List.getElem?_eq_getElem (by rw[HJ.out.2.1];exact hy)⟩;have k1:=HJ.out.2.2.1.cell x b1 hb1;have k2:=HJ.out.2.2.1.cell y b3 hb3;have f2:=HJ.out.2.2.1.frozen y;have hbx:w.heap.size<wr.heap.size:=(Array.getElem?_eq_some_iff.1 HJ.out.2.2.2.2).1
   have HNX:Hid (Rk.sweep (es.drop (k+1)) (if b1=true then cu2.set y true else cu2)=Rk.sweep es cur):=by
    show _=_;rw[<-HJ.out.1,Rk.drop_at es k (by rw[HM.out.2.1];exact hlt2),Rk.sweep];obtain⟨hh,he⟩:=List.getElem?_eq_some_iff.1 hek;rw[he]
    congr 1
    simp only[hb1,Option.some.injEq]
   have HA:Hid (Rk.Bits (wr.alloc (.cells #[.int .i64 (x:Int),.int .i64 (y:Int),.bool els,.int .i64 op,.int .i64 num,.slice au nu cu] 78)) b2 cu2/\Below w.heap.size w (wr.alloc (.cells #[.int .i64 (x:Int),.int .i64 (y:Int),.bool els,.int .i64 op,.int .i64 num,.slice au nu cu] 78))/\(wr.alloc (.cells #[.int .i64 (x:Int),.int .i64 (y:Int),.bool els,.int .i64 op,.int .i64 num,.slice au nu cu] 78)).heap[w.heap.size]? =some (.cells #[.slice an n cn,.slice (some ⟨q,off,none⟩) m cf] 30 (0,0))):=
    ⟨HJ.out.2.2.1.keep (Below.heap_alloc _ _ _ hz),HJ.out.2.2.2.1.alloc HJ.out.2.2.2.1.size _,by rw[Below.heap_alloc _ _ _ hbx];exact HJ.out.2.2.2.2⟩
   have hne:w.heap.size≠b2:=by have:=HM.out.2.2.1;omega
   have HS:Hid (Rk.Bits ((wr.setCell ⟨b2,y,none⟩ (.bool true)).alloc (.cells #[.int .i64 (x:Int),.int .i64 (y:Int),.bool els,.int .i64 op,.int .i64 num,.slice au nu cu] 78)) b2 (cu2.set y true)/\Below w.heap.size w ((wr.setCell ⟨b2,y,none⟩ (.bool true)).alloc (.cells #[.int .i64 (x:Int),.int .i64 (y:Int),.bool els,.int .i64 op,.int .i64 num,.slice au nu cu] 78))/\((wr.setCell ⟨b2,y,none⟩ (.bool true)).alloc (.cells #[.int .i64 (x:Int),.int .i64 (y:Int),.bool els,.int .i64 op,.int .i64 num,.slice au nu cu] 78)).heap[w.heap.size]? =some (.cells #[.slice an n cn,.slice (some ⟨q,off,none⟩) m cf] 30 (0,0))):=
    ⟨(HJ.out.2.2.1.put y true).keep (Below.heap_alloc _ _ _ (by simpa using hz)),(HJ.out.2.2.2.1.setCell (p:=⟨b2,y,none⟩) (by show w.heap.size<=b2;have:=HM.out.2.2.1;omega) _).alloc (by simpa using HJ.out.2.2.2.1.size) _,by rw[Below.heap_alloc _ _ _ (by simpa using hbx),Below.heap_setCell _ _ _ _ hne];exact HJ.out.2.2.2.2⟩
   clear h0 h1 h2 h3 h4 h5 h6 hc hnu hel hop hnum hq hfx hfy hek hb1 hb3
   cases b1
   ·go_wp2
    go_roundg (gk-1)
    case measure=>omega
    case rel=>exact⟨k+1,_,by omega,by go_num,HNX.out,HJ.out.2.1,HA.out.1,HA.out.2.1,HA.out.2.2⟩
   go_wp2;go_roundg (gk-1)
   case measure=>omega
   case rel=>exact⟨k+1,_,by omega,by go_num,HNX.out,by simpa using HJ.out.2.1,HS.out.1,HS.out.2.1,HS.out.2.2⟩
theorem Nt.head_filter {n:Nat}{p:Nat->Bool}{k:Nat}(hk:k<n)(hp:p k=true)(h:∀i,i<k->p i=false):((List.range n).filter p).headD 0=k/\(List.range n).filter p≠ []:=by
 have e:(List.range n).filter p=k::((List.range n).filter p).tail:=by
  have h1:List.range n=List.range k++(k::(List.range (n-k-1)).map (k+1+·)):=by
   rw[show List.range n=List.range (k+(1+(n-k-1)))by congr 1;omega,List.range_add,List.range_add];simp[Function.comp_def,Nat.add_assoc]
  rw[h1,List.filter_append,List.filter_cons_of_pos hp];have h2:(List.range k).filter p= []:=List.filter_eq_nil_iff.2 λi hi=>by rw[h i (List.mem_range.1 hi)];simp
  rw[h2];rfl
 rw[e];exact⟨rfl,by simp⟩
theorem Nt.filter_none {n:Nat}{p:Nat->Bool}(h:∀i,i<n->p i=false):(List.range n).filter p= []:=List.filter_eq_nil_iff.2 λi hi=>by rw[h i (List.mem_range.1 hi)];simp
theorem Nt.check_at {ns:List Nd}{fs:List Fl}{j a:Nat}(hj:j<4)(hb:∀i,i<j->Nt.wrongAt ns fs i= [])(h:Nt.wrongAt ns fs j≠ [])(ha:(Nt.wrongAt ns fs j).headD 0=a):Nt.checkN ns fs=(j+1,a):=by
 rw[Nt.checkN,Nt.broken_at hj hb h,<-ha]
theorem Nt.check_none {ns:List Nd}{fs:List Fl}(hb:∀i,i<4->Nt.wrongAt ns fs i= []):Nt.checkN ns fs=(0,0):=by rw[Nt.checkN,Nt.broken_none hb];rfl
theorem Nt.first_le {ns:List Nd}{k:Int}{i:Nat}(hi:i<ns.length)(hk:ns[i].kind=k):0<=Nt.firstI ns k/\Nt.firstI ns k<=i:=by
 unfold Nt.firstI
 cases h:ns.findIdx? (λx=>decide (x.kind=k))with
 |none=>
  have:=List.findIdx?_eq_none_iff.1 h ns[i] (List.getElem_mem hi);simp[hk]at this
 |some j=>
  obtain⟨hj,_,h2⟩:=List.findIdx?_eq_some_iff_getElem.1 h;refine⟨by simp, ?_⟩
  rcases Nat.lt_or_ge i j with hlt|hge
  ·have:=h2 i hlt
   simp[hk]at this
  simp;exact hge
theorem Nt.joint_eq {ns:List Nd}{fs:List Fl}{i:Nat}(hi:i<ns.length):(!Nt.jointB ns fs i)=(!Nt.threeB ns fs i||(decide (ns[i].kind=1)&&decide (Nt.firstI ns 1<(i:Int)))||(decide (ns[i].kind=2)&&decide (Nt.firstI ns 2<(i:Int)))):=by
 unfold Nt.jointB;rw[Nt.kindAt_get ns i hi]
 have h1:ns[i].kind=1->(!decide ((i:Int)=Nt.firstI ns 1))=decide (Nt.firstI ns 1<(i:Int)):=λhk=>by
  have:=Nt.first_le hi hk;rw[<-decide_not];exact decide_eq_decide.2 (by omega)
 have h2:ns[i].kind=2->(!decide ((i:Int)=Nt.firstI ns 2))=decide (Nt.firstI ns 2<(i:Int)):=λhk=>by
  have:=Nt.first_le hi hk;rw[<-decide_not];exact decide_eq_decide.2 (by omega)
 by_cases k1:ns[i].kind=1
 ·rw[h1 k1,decide_eq_true k1,decide_eq_false (show¬ns[i].kind=2 by omega)]
  cases Nt.threeB ns fs i<;>cases decide (Nt.firstI ns 1<(i:Int))<;>rfl
 by_cases k2:ns[i].kind=2
 ·rw[h2 k2,decide_eq_true k2,decide_eq_false k1]
  cases Nt.threeB ns fs i<;>cases decide (Nt.firstI ns 2<(i:Int))<;>rfl
 rw[decide_eq_false k1,decide_eq_false k2]
 cases Nt.threeB ns fs i<;>rfl
structure Nt.Kw (w:World)(box:Array Value)(W:World):Prop where
 below:Below w.heap.size w W
 box:W.heap[w.heap.size]? =some (.cells box 30 (0,0))
 ans:W.heap[w.heap.size+1]? =some (.cells #[.int .i64 0,.int .i64 0] 120 (0,0))
theorem Nt.Kw.next {w:World}{box:Array Value}{W W':World}(h:Nt.Kw w box W)(hb:Below W.heap.size W W'):Nt.Kw w box W':=
 ⟨h.below.trans (hb.mono h.below.size),by rw[hb.block _ (Nt.lt_of h.box)];exact h.box,by rw[hb.block _ (Nt.lt_of h.ans)];exact h.ans⟩
theorem Nt.Kw.alloc {w:World}{box:Array Value}{W:World}(h:Nt.Kw w box W)(o:Obj):Nt.Kw w box (W.alloc o):=h.next ((Below.refl _ W).alloc (Nat.le_refl _) o)
theorem Nt.Kw.ends {w:World}{box:Array Value}{W:World}(h:Nt.Kw w box W)(r a:Int)(tmps:Array Value)(ht:tmps.getD 2 undef=.pointer (some ⟨w.heap.size+1,0,none⟩)):
  (results Tryz.f71 tmps).run Tryz.prog (W.setRow (w.heap.size+1) #[.int .i64 r,.int .i64 a])=.ok (.agg #[.int .i64 r,.int .i64 a]) (W.setRow (w.heap.size+1) #[.int .i64 r,.int .i64 a])/\Below w.heap.size w (W.setRow (w.heap.size+1) #[.int .i64 r,.int .i64 a]):=
 ⟨results_cell_row Tryz.results71 _ _ (w.heap.size+1) 120 #[.int .i64 r,.int .i64 a] (0,0) _ ht (setRow_heap _ _ _ _ _ _ h.ans) Tryz.underlying120 rfl (by kernel_rfl),Tk.below_row h.below (by omega) _⟩
end Go.Proofs
namespace Go.Proofs
open Go.RowKit Go.ChangeShapes Go.WideShapes Go.Deep
instance:Inhabited Tm:=⟨.mk 0 0 []⟩
theorem Tm.Lies.more {w:World}{B:Nat} :∀{d:Nat} {v:Value} {T:Tm},Tm.Lies w B d v T->Tm.Lies w B (d+1) v T
 |0,_,_,h=>h.elim
 |d+1,v,T,h=>by
  obtain⟨a,cap,hv,h⟩:=h;refine⟨a,cap,hv,h.elim .inl fun⟨g,off,ha,hg,hr⟩=> .inr ⟨g,off,ha,hg,λj hj=> ?_⟩⟩;obtain⟨u,h0,h1,h2,h3⟩:=hr j hj;exact⟨u,h0,h1,h2,Tm.Lies.more h3⟩
theorem Tk.cellsTerm:Tryz.prog.cellsOf 24=3:=by kernel_rfl
theorem Tk.cellsInt1:Tryz.prog.cellsOf 3=1:=by kernel_rfl
theorem Tk.cellsTerms:Tryz.prog.cellsOf 22=1:=by kernel_rfl
theorem Tk.list3 {α:Type}{l:List α}(h:l.length=3):∃a b c,l= [a,b,c]:=by
 match l,h with
 | [a,b,c],_=>exact⟨a,b,c,rfl⟩
theorem Tk.cell_lt {w:World}{a:Addr}{v:Value}(h:w.cell? a=some v):a.block<w.heap.size:=by
 rcases Nat.lt_or_ge a.block w.heap.size with h1|h1
 ·exact h1
 unfold World.cell? at h;simp[h1]at h
theorem Tm.open_term {H:Type}{enc:TypeId×Value->H}{w:World}{spare:Nat->Bool}{held:Bool} :∀(fuel:Nat) (cs:List Value) (x:DataW H×List MemPlace),DataW.trod enc Tryz.prog w 0 spare held fuel 24 cs=some x->
  ∃(T:Tm) (v:Value),cs= [.int .i64 T.op,.int .i64 T.num,v]/\Tm.Lies w w.heap.size fuel v T:=by
 intro fuel
 induction fuel using Nat.strongRecOn with
 |_ fuel ih=>
  intro cs x h;obtain⟨ys,n,rfl,hx,hl,hy,hf⟩:=DataW.trod_struct Tryz.underlying24 h;rw[Tk.cellsTerm]at hl;have hy:ys.length=3:=hy;obtain⟨c0,c1,c2,rfl⟩:=Tk.list3 hl;obtain⟨y0,y1,y2,rfl⟩:=Tk.list3 hy;have g0:DataW.trod enc Tryz.prog w 0 spare held n 3 (([c0,c1,c2].drop 0).take (Tryz.prog.cellsOf 3))= [y0,y1,y2][0]? :=hf 0 _ rfl;have g1:DataW.trod enc Tryz.prog w 0 spare held n 3 (([c0,c1,c2].drop 1).take (Tryz.prog.cellsOf 3))= [y0,y1,y2][1]? :=hf 1 _ rfl;have g2:DataW.trod enc Tryz.prog w 0 spare held n 22 (([c0,c1,c2].drop 2).take (Tryz.prog.cellsOf 22))= [y0,y1,y2][2]? :=hf 2 _ rfl;rw[Tk.cellsInt1]at g0 g1;rw[Tk.cellsTerms]at g2;obtain⟨o,e0,_⟩:=DataW.trod_int Tryz.underlying3 g0;obtain⟨m,e1,_⟩:=DataW.trod_int Tryz.underlying3 g1;obtain rfl:c0=.int .i64 o:=(List.cons.inj e0).1;obtain rfl:c1=.int .i64 m:=(List.cons.inj e1).1
  rcases DataW.trod_slice Tryz.underlying22 g2 with⟨e2,_⟩|⟨a,len,cap,elems,rest,n',hn',e2,_,_,hlc,_,hlen,hel,_,_⟩
  ·obtain rfl:c2=.slice none 0 0:=(List.cons.inj e2).1
   exact⟨.mk o m [],.slice none 0 0,rfl,none,0,rfl,.inl rfl⟩
  obtain rfl:c2=.slice (some a) len cap:=(List.cons.inj e2).1;subst hn'
  have each:∀i,i<len->∃q:Tm,∃u,w.cell? (a.add (i*3))=some (.int .i64 q.op)/\w.cell? ((a.add (i*3)).add 1)=some (.int .i64 q.num)/\w.cell? ((a.add (i*3)).add 2)=some u/\Tm.Lies w w.heap.size n' u q:=by
   intro i hi;have h1:=hel i hi;rw[Tk.cellsTerm,List.getElem?_eq_getElem (by omega)]at h1;obtain⟨cs',h2,h3⟩:=Option.bind_eq_some_iff.1 h1;obtain⟨q,u,rfl,hq⟩:=ih n' (by omega) cs' _ h3;obtain⟨_,hl3,hc⟩:=World.cells?_some h2;exact⟨q,u,by simpa [Addr.add]using hc 0 (by simp),by simpa using hc 1 (by simp),by simpa using hc 2 (by simp),hq⟩
  obtain⟨q,hq⟩:=choose_lt each;have hlen':((List.range len).map q).length=len:=by simp
  have hget:∀j (h:j<((List.range len).map q).length),((List.range len).map q)[j]=q j:=λj h=>by simp
  refine⟨.mk o m ((List.range len).map q),.slice (some a) len cap,rfl,some a,cap,by rw[show(Tm.mk o m ((List.range len).map q)).ks=(List.range len).map q from rfl,hlen'], ?_⟩
  by_cases hz:len=0
  ·subst hz;exact .inl rfl
  obtain⟨g,off,spot⟩:=a;obtain⟨_,h0,_⟩:=hq 0 (by omega);have hspot:spot=none:=by simpa [Addr.add]using World.cell?_spot h0
  subst hspot
  have hg:g<w.heap.size:=by
   have:=Tk.cell_lt h0;simpa [Addr.add]using this
  refine .inr ⟨g,off,rfl,hg,λj hj=> ?_⟩;have hj':j<((List.range len).map q).length:=hj;show∃u,w.cell? ⟨g,off+j*3,none⟩=some (.int .i64 (((List.range len).map q)[j]'hj').op)/\w.cell? ⟨g,off+j*3+1,none⟩=some (.int .i64 (((List.range len).map q)[j]'hj').num)/\w.cell? ⟨g,off+j*3+2,none⟩=some u/\Tm.Lies w w.heap.size (n'+1) u (((List.range len).map q)[j]'hj');rw[hget j hj'];rw[hlen']at hj';obtain⟨u,p0,p1,p2,p3⟩:=hq j hj';have ea:∀(c k:Nat),((⟨g,off,none⟩:Addr).add c).add k=⟨g,off+c+k,none⟩:=λc k=>by rw[Go.WideShapes.add_plain,Go.WideShapes.add_plain]
  rw[Go.WideShapes.add_plain]at p0;rw[ea]at p1 p2;exact⟨u,p0,p1,p2,p3.more⟩
end Go.Proofs
