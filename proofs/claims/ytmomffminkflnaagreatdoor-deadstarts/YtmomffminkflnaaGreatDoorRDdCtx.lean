import Derived.Test.YtmomffminkflnaaGreatDoorRDdWeb
import Derived.Test.YtmomffminkflnaaGreatDoorRDdChoose
set_option maxRecDepth 100000
set_option maxHeartbeats 32000000
namespace Go.Proofs
open Go.RowKit Go.Shelf
noncomputable def Dd.webB (T:Ac):Bool:=decide (T.kind=13)&&decide (T.checkC=0)
theorem Tryz.isWeb_any (d e:Nat)(T:Ac)(V:Ac.Vs)(w:World)(hT:Ac.Lies w w.heap.size e d V T)(h0:0<w.heap.size)(hsz:T.size<=2147483647)(hF:T.All Ac.Fit)(hO:Tk.Ops w):
  Calls Tryz.prog 26 #[.agg (Ac.row T V)] w λe w'=>e=.returned (.bool (Dd.webB T))/\Below w.heap.size w w':=by
 obtain⟨R,hR⟩:=pE (Dd.webB T);rw[hR];obtain⟨k,hk⟩:=pE (T.kind);obtain⟨x1,x2,x3,x4,x5,x6,x7,x8,x9,x10,x11,hrow⟩:∃x1 x2 x3 x4 x5 x6 x7 x8 x9 x10 x11,Ac.row T V=#[.int .i64 k,x1,x2,x3,x4,x5,x6,x7,x8,x9,x10,x11]:=⟨_,_,_,_,_,_,_,_,_,_,_,by unfold Ac.row;rw[hk]⟩;obtain⟨w1,hw1⟩:=pE (w.alloc (.cells (Ac.row T V) 32));have B1:=pB hw1
 have N1:w1.heap[w.heap.size]? =some (.cells (Ac.row T V) 32 (0,0)):=by rw[<-hw1];exact heap_alloc_new w _
 have HC0:=Tryz.aCheck_any d e T V w1 ((hT.below B1).wider B1.size) (by have:=B1.size;omega) hsz hF (hO.below B1 hO.lt);obtain⟨c,hc⟩:=pE (T.checkC);rw[hc,hrow]at HC0;rw[hrow]at hw1 N1⊢;have HC:Hid _:=HC0;have H1:Hid _:=hw1;have HB:Hid (Below w.heap.size w w1):=B1
 have HR:Hid (R=(decide (k=13)&&decide (c=0))):=by
  show _=_;rw[<-hR,Dd.webB,hk,hc]
 obtain⟨c0,c1,c2,c3,c4,c5,c6,c7,c8,c9,c10,c11⟩:w1.cell? ⟨w.heap.size,0,none⟩=some (.int .i64 k)/\w1.cell? ⟨w.heap.size,1,none⟩=some x1/\w1.cell? ⟨w.heap.size,2,none⟩=some x2/\w1.cell? ⟨w.heap.size,3,none⟩=some x3/\w1.cell? ⟨w.heap.size,4,none⟩=some x4/\w1.cell? ⟨w.heap.size,5,none⟩=some x5/\w1.cell? ⟨w.heap.size,6,none⟩=some x6/\w1.cell? ⟨w.heap.size,7,none⟩=some x7/\w1.cell? ⟨w.heap.size,8,none⟩=some x8/\w1.cell? ⟨w.heap.size,9,none⟩=some x9/\w1.cell? ⟨w.heap.size,10,none⟩=some x10/\w1.cell? ⟨w.heap.size,11,none⟩=some x11:=by simp[World.cell?,N1]
 clear hR hk hrow hw1 B1 HC0 hc hT h0 hsz hF hO
 by_cases hk13:k=13
 rotate_left
 ·have ek:(k==13)=false:=by simpa using hk13
  have HQ:Hid (R=false):=by rw[HR.out,decide_eq_false hk13,Bool.false_and];exact rfl
  clear hk13 HR HC
  go_enter Tryz.func26,Tryz.ntmps26
  go_upto_region 1 with fail
  rw[H1.out];go_wp2;go_ret;exact⟨by rw[HQ.out];rfl,HB.out⟩
 have ek:(k==13)=true:=by simp[hk13]
 by_cases hc0:c=0
 ·have ec:(c==0)=true:=by simp[hc0]
  have HQ:Hid (R=true):=by rw[HR.out,decide_eq_true hk13,decide_eq_true hc0];rfl
  clear hk13 hc0 HR
  go_enter Tryz.func26,Tryz.ntmps26
  go_upto_region 1 with fail
  rw[H1.out]
  go_wp2_with fail
  refine Calls.mono HC.out ?_;rintro e W2 ⟨rfl,hb2⟩;have HX:Hid (Below w.heap.size w W2):=HB.out.trans (hb2.mono HB.out.size);clear hb2 HC N1 c0 c1 c2 c3 c4 c5 c6 c7 c8 c9 c10 c11;go_wp2;go_ret;exact⟨by rw[HQ.out];rfl,HX.out⟩
 have ec:(c==0)=false:=by simpa using hc0
 have HQ:Hid (R=false):=by rw[HR.out,decide_eq_false hc0,Bool.and_false];exact rfl
 clear hk13 hc0 HR
 go_enter Tryz.func26,Tryz.ntmps26
 go_upto_region 1 with fail
 rw[H1.out]
 go_wp2_with fail
 refine Calls.mono HC.out ?_;rintro e W2 ⟨rfl,hb2⟩;have HX:Hid (Below w.heap.size w W2):=HB.out.trans (hb2.mono HB.out.size);clear hb2 HC N1 c0 c1 c2 c3 c4 c5 c6 c7 c8 c9 c10 c11;go_wp2;go_ret;exact⟨by rw[HQ.out];rfl,HX.out⟩
structure Dd.Rw (T:Ac):Prop where
 right:Dd.Right T
 gate:∀k (h:k<T.ks.length),T.ks[k].kind=12->T.ks[k].a=3->2<=T.ks[k].cs.length
theorem Dd.rw_of {T:Ac}(h:Dd.webB T=true):Dd.Rw T:=by
 unfold Dd.webB at h;rw[Bool.and_eq_true,decide_eq_true_iff,decide_eq_true_iff]at h;obtain⟨h13,hc⟩:=h
 have hg:(T.go Ac.stepF ()).1=true:=by
  cases hq:(T.go Ac.stepF ()).1 with
  |true=>rfl
  |false=>
   unfold Ac.checkC at hc
   split at hc
   ·cases hc
   rw[if_pos (.inr (.inr hq))]at hc;cases hc
 have hall:=Ac.go_form T () hg;rw[T.all_eq]at hall;refine⟨Dd.right_of ((Ac.formed_13 h13).1 hall.1).2.1,λk hk h12 h3=> ?_⟩;have hkid:=Ac.alls_get hall.2 k hk;rw[Ac.all_eq]at hkid;exact((Ac.formed_12a h12 h3).1 hkid.1).2.2.1
theorem Dd.last_of {T:Ac}(h:Dd.Right T):∃i:Nat,Dd.lastI T.ls=i/\i<40:=by
 have h1:=h.last;have l40:=h.web.l40
 have:∃x∈T.ls,decide (x.2= -1)=true:=by
  have:0<T.ls.countP λl=>decide (l.2= -1):=by omega
  exact List.countP_pos_iff.1 this
 unfold Dd.lastI
 cases hq:T.ls.findIdx? (λx=>decide (x.2= -1))with
 |none=>
  obtain⟨x,hx,hx2⟩:=this;have:=List.findIdx?_eq_none_iff.1 hq x hx;rw[hx2]at this
  cases this
 |some i=>exact⟨i,rfl,by have:=(List.findIdx?_eq_some_iff_getElem.1 hq).1;omega⟩
theorem Dd.kds_of {w:World}{B e d:Nat}{V:Ac.Vs}{T:Ac}(h:Ac.Lies w B e d V T):∃a cap,V.k=.slice a T.ks.length cap/\Dd.Kds w B a (Dd.kkOf T):=by
 cases d with
 |zero=>exact h.elim
 |succ d=>
  obtain⟨_,a,cap,hv,hk⟩:=h;refine⟨a,cap,hv,λj hj=> ?_⟩;rw[Dd.kkOf_length]at hj;obtain⟨g,off,U,ha,hg,hr,_⟩:=hk j hj;have h0:=hr 0 (by simp[Ac.row]);have h2:=hr 2 (by simp[Ac.row]);refine⟨g,off,ha,hg, ?_, ?_⟩
  ·rw[Nat.add_zero]at h0;rw[h0];simp[Ac.row,Dd.kkOf]
  rw[h2];simp[Ac.row,Dd.kkOf]
structure Dd.Ctx (w:World)(xs:Array Value)(wb:Bool)(ls kk:List (Int×Int)):Prop where
 start:∀W,Below w.heap.size w W->Calls Tryz.prog 11 #[.agg xs] W λe w'=>e=.returned (Dd.two (Dd.startR wb ls kk))/\Below W.heap.size W w'
 finish:∀W l (kid:Int),Below w.heap.size w W->l.length=104->Calls Tryz.prog 17 #[.agg xs,.agg (Dd.row l),.int .i64 kid] W λe w'=>e=.returned (Dd.two (Dd.finR wb ls kk l kid))/\Below W.heap.size W w'
 choose:∀W l (kid out:Int),Below w.heap.size w W->l.length=104-> -9223372036854775808<=out->out<=9223372036854775807->Calls Tryz.prog 23 #[.agg xs,.agg (Dd.row l),.int .i64 kid,.int .i64 out] W λe w'=>e=.returned (Dd.two (Dd.choR wb ls kk l kid out))/\Below W.heap.size W w'
 running:∀W l,Below w.heap.size w W->l.length=104->Calls Tryz.prog 14 #[.agg xs,.agg (Dd.row l)] W λe w'=>Nt.Gives (Dd.runL wb kk.length ls.length l) W e w'
 over:∀W l,Below w.heap.size w W->l.length=104->Calls Tryz.prog 21 #[.agg xs,.agg (Dd.row l)] W λe w'=>e=.returned (.bool (Dd.overB wb kk.length ls l))/\Below W.heap.size W w'
 check:∀W l,Below w.heap.size w W->l.length=104->Calls Tryz.prog 19 #[.agg xs,.agg (Dd.row l)] W λe w'=>e=.returned (.int .i64 (Dd.checkI wb kk.length ls.length l))/\Below W.heap.size W w'
theorem Dd.ctx (d e:Nat)(T:Ac)(V:Ac.Vs)(w:World)(hT:Ac.Lies w w.heap.size e d V T)(h0:0<w.heap.size)(hsz:T.size<=2147483647)(hF:T.All Ac.Fit)(hO:Tk.Ops w):Dd.Ctx w (Ac.row T V) (Dd.webB T) T.ls (Dd.kkOf T):=by
 obtain⟨ka,kc,hvk,hK⟩:=Dd.kds_of hT;obtain⟨la,lc,hvl,hL⟩:=hT.own.l;obtain⟨x0,x1,x2,x3,x4,x5,x6,x7,x10,x11,hrow⟩:∃x0 x1 x2 x3 x4 x5 x6 x7 x10 x11,Ac.row T V=#[x0,x1,x2,x3,x4,x5,x6,x7,.slice ka T.ks.length kc,.slice la T.ls.length lc,x10,x11]:=⟨_,_,_,_,_,_,_,_,_,_,by unfold Ac.row;rw[hvk,hvl]⟩;have hn:(Dd.kkOf T).length=T.ks.length:=Dd.kkOf_length T
 have CW:∀W,Below w.heap.size w W->Calls Tryz.prog 26 #[.agg (Ac.row T V)] W λe w'=>e=.returned (.bool (Dd.webB T))/\Below W.heap.size W w':=λW hb=>
  Tryz.isWeb_any d e T V W ((hT.below hb).wider hb.size) (by have:=hb.size;omega) hsz hF (hO.below hb hO.lt)
 have hW:Dd.webB T=true->Dd.Web T.ls (Dd.kkOf T):=λh=>(Dd.rw_of h).right.web;have h40:Dd.webB T=true->T.ls.length<=40/\T.ks.length<=64:=λh=>⟨(hW h).l40,by rw[<-hn];exact(hW h).k64⟩;rw[hrow]at CW⊢;have LK:∀W,Below w.heap.size w W->Ac.Lks W W.heap.size la T.ls/\Dd.Kds W W.heap.size ka (Dd.kkOf T):=λW hb=>⟨(hL.keep hb.block).wider hb.size,(hK.keep hb.block).wider hb.size⟩;have up:∀{W W':World},Below w.heap.size w W->Below W.heap.size W W'->Below w.heap.size w W':=λh h'=>h.trans (h'.mono h.size);refine⟨λW hb=> ?_,λW l kid hb hl=> ?_,λW l kid out hb hl o0 o1=> ?_,λW l hb hl=> ?_,λW l hb hl=> ?_,λW l hb hl=> ?_⟩
 ·exact Tryz.deadStart_any x0 x1 x2 x3 x4 x5 x6 x7 x10 x11 ka la T.ks.length kc T.ls.length lc T.ls (Dd.kkOf T) (Dd.webB T) W (LK W hb).1 (LK W hb).2 rfl hn hW (λW' hb'=>CW W' (up hb hb'))
 ·exact Tryz.deadFinish_any x0 x1 x2 x3 x4 x5 x6 x7 x10 x11 ka la T.ks.length kc T.ls.length lc T.ls (Dd.kkOf T) l kid (Dd.webB T) W (LK W hb).1 (LK W hb).2 hl rfl hn hW (λW' hb'=>CW W' (up hb hb'))
 ·exact Tryz.deadChoose_any x0 x1 x2 x3 x4 x5 x6 x7 x10 x11 ka la T.ks.length kc T.ls.length lc T.ls (Dd.kkOf T) l kid out (Dd.webB T) W (LK W hb).1 (LK W hb).2 hl rfl hn hW o0 o1 (λW' hb'=>CW W' (up hb hb'))
 ·rw[hn]
  exact Tryz.deadRunning_any x0 x1 x2 x3 x4 x5 x6 x7 x10 x11 ka la T.ks.length kc T.ls.length lc l (Dd.webB T) W hl h40 (λW' hb'=>CW W' (up hb hb'))
 ·rw[hn]
  exact Tryz.deadOver_any x0 x1 x2 x3 x4 x5 x6 x7 x10 x11 ka la T.ks.length kc T.ls.length lc T.ls l (Dd.webB T) W (LK W hb).1 rfl hl h40 (λh=>Dd.last_of (Dd.rw_of h).right) (λW' hb'=>CW W' (up hb hb'))
 rw[hn];exact Tryz.deadCheck_any x0 x1 x2 x3 x4 x5 x6 x7 x10 x11 ka la T.ks.length kc T.ls.length lc l (Dd.webB T) W hl h40 (λW' hb'=>CW W' (up hb hb'))
end Go.Proofs
namespace Go.Proofs
open Go.RowKit
namespace Dd
def exZ:Tm:=.mk 0 0 []
def exY:Tm:=.mk 10 0 [.mk 2 0 [],.mk 2 0 []]
def ex0:Ac:=.mk 12 0 3 1 exZ [exY,exZ] [] [] [] []
def ex1:Ac:=.mk 5 1 0 0 exZ [] [] [] [] []
def ex2:Ac:=.mk 12 2 4 0 exZ [] [] [] [] []
def exL:List (Int×Int):= [(-1,0),(0,1),(0,2),(1,2),(2,-1)]
def exT:Ac:=.mk 13 0 0 0 exZ [] [ex0,ex1,ex2] exL [] []
def exK:List (Int×Int):= [(12,3),(5,0),(12,4)]
theorem lead_lt {es:List (Nat×Nat)}(h:∀e∈es,e.1<e.2){a b:Nat}(hr:Rk.Reach es a b):a<=b:=by
 induction hr with
 |refl=>exact Nat.le_refl _
 |step _ m ih=>have:=h _ m;dsimp only at this;omega
theorem ex_free:Ac.freeB 3 (Ac.bet exL)=true:=by
 have hb:Ac.bet exL= [(0,1),(0,2),(1,2)]:=by kernel_rfl
 unfold Ac.freeB;have hc:Rk.chk (3:Nat) [((0:Int),(1:Int)),(0,2),(1,2)]=0:=by kernel_rfl
 rw[hb,hc,if_neg (by decide)];rw[List.isEmpty_iff,List.filter_eq_nil_iff];intro i _ hi;rw[Rk.lead_iff]at hi;obtain⟨b,h1,h2⟩:=hi;have hlt:∀e∈ [((0:Int),(1:Int)),(0,2),(1,2)].map (λe=>(e.1.toNat,e.2.toNat)),e.1<e.2:=by decide
 have h3:=lead_lt hlt h1;have h4:=hlt _ h2;dsimp only at h4;omega
theorem ex_linked:exT.linkedB=true:=by
 have h1:Ac.freeB exT.ks.length (Ac.bet exT.ls)=true:=ex_free;unfold Ac.linkedB;rw[h1,Bool.and_true];show _=_
 kernel_rfl
theorem ex_same (T:Ac)(h:T.rest=Ac.zeroOf T.kind):Ac.Same1 T.rest (Ac.zeroOf T.kind):=by rw[h];exact⟨rfl,rfl,rfl,rfl,rfl,rfl,rfl,rfl,rfl⟩
theorem ex_form:exT.Formed:=(Ac.formed_13 rfl).2 ⟨by kernel_rfl,ex_linked,ex_same exT (by kernel_rfl),trivial⟩
theorem ex_form0:ex0.Formed:=(Ac.formed_12a rfl rfl).2 ⟨by kernel_rfl,⟨by decide,by decide⟩,by decide,by kernel_rfl,⟨by decide,by decide⟩,trivial,trivial,ex_same ex0 (by kernel_rfl),rfl⟩
theorem ex_form1:ex1.Formed:=(Ac.formed_5 rfl).2 ⟨by kernel_rfl,⟨by decide,by decide⟩,ex_same ex1 (by kernel_rfl),rfl⟩
theorem ex_form2:ex2.Formed:=(Ac.formed_12b rfl (by decide)).2 ⟨by kernel_rfl,⟨by decide,by decide⟩,by decide,⟨by decide,by decide⟩,ex_same ex2 (by kernel_rfl),rfl⟩
theorem ex_go:(exT.go Ac.stepF ()).1=true:=by
 have f:=(Ac.formB_iff exT).2 ex_form;have f0:=(Ac.formB_iff ex0).2 ex_form0;have f1:=(Ac.formB_iff ex1).2 ex_form1;have f2:=(Ac.formB_iff ex2).2 ex_form2
 have leaf:∀x:Ac,x.formB=true->x.ks= []->(x.go Ac.stepF ()).1=true:=λx hx hk=>by
  rw[Ac.go_eq,if_pos (show(Ac.stepF x ()).1=true from hx),hk];rfl
 rw[Ac.go_eq,if_pos (show(Ac.stepF exT ()).1=true from f)];show(Ac.goes Ac.stepF [ex0,ex1,ex2] _).1=true;rw[Ac.goes,if_pos (leaf ex0 f0 rfl),Ac.goes,if_pos (leaf ex1 f1 rfl),Ac.goes,if_pos (leaf ex2 f2 rfl)];rfl
theorem ex_web:webB exT=true:=by
 have hc:exT.checkC=0:=by
  have h1:exT.tooB=false:=by kernel_rfl
  have h2:exT.twiceB=false:=by kernel_rfl
  unfold Ac.checkC;rw[h1,h2,if_neg (by decide),if_neg (λh=> ?_),if_neg (by decide)]
  rcases h with h|h|h
  ·exact absurd h (by decide)
  ·exact absurd h (by decide)
  rw[ex_go]at h;cases h
 unfold webB;rw[hc];rfl
def exS:List Int:=start exL exK
def exS1:List Int:=chose exL exK exS 0 2
theorem ex_start:startR true exL exK=(exS,0):=rfl
theorem exS_length:exS.length=104:=by kernel_rfl
theorem exS1_length:exS1.length=104:=by kernel_rfl
theorem ex_choose:choR true exL exK exS 0 1=(exS1,0):=by
 have h1:checkI true exK.length exL.length exS=0:=by kernel_rfl
 have h2:runsB exK.length exS 0=true:=by kernel_rfl
 have h3:gateB exK (0:Int).toNat=true:=by kernel_rfl
 have h4:linkAt 0 exL 0 1=2:=by kernel_rfl
 unfold choR;rw[h1,if_neg (by decide),h2,h3,if_neg (by decide),h4,if_neg (by decide)];rfl
theorem ex_run:(runL true exK.length exL.length exS).length=1:=by kernel_rfl
theorem ex_skip:exS1.getD 41 0=3:=by kernel_rfl
theorem ex_over1:overB true exK.length exL exS1=true:=by kernel_rfl
theorem ex_over0:overB true exK.length exL exS=false:=by kernel_rfl
theorem ex_fit:exT.All Ac.Fit:=by
 have leaf:∀x:Ac,x.ks= []->x.Fit->x.All Ac.Fit:=λx hk hf=>by rw[Ac.all_eq,hk];exact⟨hf,trivial⟩
 have z:exZ.size<=2147483647/\exZ.depth<=1000:=⟨by decide,by decide⟩;have y:exY.size<=2147483647/\exY.depth<=1000:=⟨by decide,by decide⟩;have nil:∀{α:Type} {P:α->Prop},∀x∈([]:List α),P x:=λx hx=>by cases hx
 refine⟨⟨z,nil,nil,nil,by decide,by decide,by decide,by decide,by decide⟩,leaf ex0 rfl ⟨z,λx hx=> ?_,nil,nil,by decide,by decide,by decide,by decide,by decide⟩,leaf ex1 rfl ⟨z,nil,nil,nil,by decide,by decide,by decide,by decide,by decide⟩,leaf ex2 rfl ⟨z,nil,nil,nil,by decide,by decide,by decide,by decide,by decide⟩,trivial⟩
 rcases List.mem_cons.1 hx with rfl|hx
 ·exact y
 rcases List.mem_cons.1 hx with rfl|hx
 ·exact z
 cases hx
end Dd
end Go.Proofs
namespace Go.Proofs
open Go.RowKit Go.Shelf
theorem Dd.rzero_row:Tryz.zeroCells53=Dd.row Dd.zeros:=by kernel_rfl
theorem Dd.rinfo:(Tryz.prog.info? 53).map (·.size)=some 104:=by kernel_rfl
theorem Dd.rinfo_row {l:List Int}(h:l.length=104):(Tryz.prog.info? 53).map (·.size)=some (Dd.row l).size:=by rw[Dd.row_size,h];exact Dd.rinfo
structure Dd.RAt (W:World)(g:Nat)(l:List Int):Prop where
 h:W.heap[g]? =some (.cells (Dd.row l) 53 (0,0))
 len:l.length=104
theorem Dd.RAt.lt {W:World}{g:Nat}{l:List Int}(h:Dd.RAt W g l):g<W.heap.size:=(Array.getElem?_eq_some_iff.1 h.h).1
theorem Dd.RAt.cell {W:World}{g:Nat}{l:List Int}(h:Dd.RAt W g l)(i:Nat)(hi:i<104):W.cell? ⟨g,i,none⟩=some (.int .i64 (l.getD i 0)):=by
 have h1:=h.h;simp only[World.cell?,h1];rw[Dd.row_get (by rw[h.len];exact hi)];rfl
theorem Dd.RAt.frozen {W:World}{g:Nat}{l:List Int}(h:Dd.RAt W g l)(i:Nat):W.frozen? ⟨g,i,none⟩=false:=by
 have h1:=h.h;simp[World.frozen?,h1]
theorem Dd.RAt.put {W:World}{g:Nat}{l:List Int}(h:Dd.RAt W g l)(i:Nat)(x:Int):Dd.RAt (W.setCell ⟨g,i,none⟩ (.int .i64 x)) g (l.set i x):=by
 refine⟨?_,by rw[List.length_set];exact h.len⟩;have h1:=h.h;rw[<-Dd.row_set];simp[World.setCell,Array.getElem?_modify,h1]
theorem Dd.RAt.keep {W W':World}{g:Nat}{l:List Int}(h:Dd.RAt W g l)(hk:W'.heap[g]? =W.heap[g]?):Dd.RAt W' g l:=⟨hk.trans h.h,h.len⟩
theorem Dd.RAt.below {W W':World}{g B:Nat}{l:List Int}(h:Dd.RAt W g l)(hb:Below B W W')(hg:g<B):Dd.RAt W' g l:=h.keep (hb.block g hg)
theorem Dd.RAt.new (W:World){l:List Int}(h:l.length=104):Dd.RAt (W.alloc (.cells (Dd.row l) 53)) W.heap.size l:=⟨heap_alloc_new W _,h⟩
theorem Dd.RAt.setRow {W:World}{g:Nat}{l:List Int}(h:Dd.RAt W g l){t:List Int}(ht:t.length=104):Dd.RAt (W.setRow g (Dd.row t)) g t:=⟨setRow_heap _ _ _ _ _ _ h.h,ht⟩
def Dd.RBx (W:World)(g:Nat)(xs:Array Value):Prop:=W.heap[g]? =some (.cells xs 48 (0,0))
theorem Dd.RBx.lt {W:World}{g:Nat}{xs:Array Value}(h:Dd.RBx W g xs):g<W.heap.size:=(Array.getElem?_eq_some_iff.1 h).1
theorem Dd.RBx.below {W W':World}{g B:Nat}{xs:Array Value}(h:Dd.RBx W g xs)(hb:Below B W W')(hg:g<B):Dd.RBx W' g xs:=(hb.block g hg).trans h
theorem Dd.RBx.keep {W W':World}{g:Nat}{xs:Array Value}(h:Dd.RBx W g xs)(hk:W'.heap[g]? =W.heap[g]?):Dd.RBx W' g xs:=hk.trans h
structure Dd.CF (w:World)(xs:Array Value)(l:List Int)(c0 c1 c2:Int)(W:World):Prop where
 bx:Dd.RBx W w.heap.size xs
 st:Dd.RAt W (w.heap.size+1) l
 rs:W.heap[w.heap.size+1+1]? =some (.cells #[.int .i64 0,.int .i64 0,.int .i64 0] 101 (0,0))
 ct:W.heap[w.heap.size+1+1+1]? =some (.cells #[.int .i64 c0,.int .i64 c1,.int .i64 c2] 101 (0,0))
 bel:Below w.heap.size w W
theorem Dd.CF.new (w:World)(xs:Array Value){l:List Int}(h:l.length=104):Dd.CF w xs l 0 0 0 ((((w.alloc (.cells xs 48)).alloc (.cells (Dd.row l) 53)).alloc (.cells #[.int .i64 0,.int .i64 0,.int .i64 0] 101)).alloc (.cells #[.int .i64 0,.int .i64 0,.int .i64 0] 101)):=by
 obtain⟨w1,hw1⟩:=pE (w.alloc (.cells xs 48));have s1:w1.heap.size=w.heap.size+1:=by rw[<-hw1];simp
 have h0:Dd.RBx w1 w.heap.size xs:=by rw[<-hw1];exact heap_alloc_new w _
 have b1:=pB hw1
 rw[hw1];obtain⟨w2,hw2⟩:=pE (w1.alloc (.cells (Dd.row l) 53));have s2:w2.heap.size=w.heap.size+1+1:=by rw[<-hw2];simp[s1]
 have b2:=pB hw2
 have h1:Dd.RAt w2 (w.heap.size+1) l:=by rw[<-hw2,<-s1];exact Dd.RAt.new w1 h
 rw[hw2];obtain⟨w3,hw3⟩:=pE (w2.alloc (.cells #[.int .i64 0,.int .i64 0,.int .i64 0] 101));have s3:w3.heap.size=w.heap.size+1+1+1:=by rw[<-hw3];simp[s2]
 have b3:=pB hw3
 have h2:w3.heap[w.heap.size+1+1]? =some (.cells #[.int .i64 0,.int .i64 0,.int .i64 0] 101 (0,0)):=by rw[<-hw3,<-s2];exact heap_alloc_new w2 _
 rw[hw3];have b4:Below w3.heap.size w3 (w3.alloc (.cells #[.int .i64 0,.int .i64 0,.int .i64 0] 101)):=(Below.refl _ w3).alloc (Nat.le_refl _) _;refine⟨((h0.below b2 (by omega)).below b3 (by omega)).below b4 (by omega),(h1.below b3 (by omega)).below b4 (by omega),(b4.block _ (by omega)).trans h2,by rw[<-s3];exact heap_alloc_new w3 _, ?_⟩;exact((b1.trans (b2.mono (by omega))).trans (b3.mono (by omega))).trans (b4.mono (by omega))
theorem Dd.CF.below {w W W':World}{xs:Array Value}{l:List Int}{c0 c1 c2:Int}(h:Dd.CF w xs l c0 c1 c2 W)(hb:Below W.heap.size W W'):Dd.CF w xs l c0 c1 c2 W':=
 ⟨h.bx.below hb h.bx.lt,h.st.below hb h.st.lt,(hb.block _ (Array.getElem?_eq_some_iff.1 h.rs).1).trans h.rs,(hb.block _ (Array.getElem?_eq_some_iff.1 h.ct).1).trans h.ct,h.bel.trans (hb.mono h.bel.size)⟩
theorem Dd.CF.put {w W:World}{xs:Array Value}{l:List Int}{c0 c1 c2:Int}(h:Dd.CF w xs l c0 c1 c2 W)(i:Nat)(x d0 d1 d2:Int)
  (hi:(#[.int .i64 c0,.int .i64 c1,.int .i64 c2]:Array Value).setIfInBounds i (.int .i64 x)=#[.int .i64 d0,.int .i64 d1,.int .i64 d2]):Dd.CF w xs l d0 d1 d2 (W.setCell ⟨w.heap.size+1+1+1,i,none⟩ (.int .i64 x)):=by
 refine⟨h.bx.keep (Below.heap_setCell _ _ _ _ (by show w.heap.size≠w.heap.size+1+1+1;omega)),h.st.keep (Below.heap_setCell _ _ _ _ (by show w.heap.size+1≠w.heap.size+1+1+1;omega)),(Below.heap_setCell _ _ _ _ (by show w.heap.size+1+1≠w.heap.size+1+1+1;omega)).trans h.rs, ?_,h.bel.setCell (p:=⟨w.heap.size+1+1+1,i,none⟩) (by show w.heap.size<=w.heap.size+1+1+1;omega) _⟩;have h1:=h.ct;rw[<-hi];simp[World.setCell,Array.getElem?_modify,h1]
theorem Dd.CF.cs {w W:World}{xs:Array Value}{l:List Int}{c0 c1 c2:Int}(h:Dd.CF w xs l c0 c1 c2 W):
  W.cell? ⟨w.heap.size+1+1+1,0,none⟩=some (.int .i64 c0)/\W.cell? ⟨w.heap.size+1+1+1,1,none⟩=some (.int .i64 c1)/\W.cell? ⟨w.heap.size+1+1+1,2,none⟩=some (.int .i64 c2):=by
 have:=h.ct;simp[World.cell?,this]
theorem Dd.CF.fr {w W:World}{xs:Array Value}{l:List Int}{c0 c1 c2:Int}(h:Dd.CF w xs l c0 c1 c2 W)(i:Nat):W.frozen? ⟨w.heap.size+1+1+1,i,none⟩=false:=by
 have:=h.ct;simp[World.frozen?,this]
theorem Dd.countD_le (ls:List (Int×Int))(s:List Int)(kid:Int):∀k,(Dd.countD ls s kid k).1<=k/\(Dd.countD ls s kid k).2.1<=k/\(Dd.countD ls s kid k).2.2<=k
 |0=>by simp[Dd.countD]
 |k+1=>by
  have ih:=Dd.countD_le ls s kid k;rw[Dd.countD]
  split
  ·dsimp only
   refine⟨?_, ?_,by omega⟩<;>split<;>omega
  omega
theorem Dd.countD_step (ls:List (Int×Int))(s:List Int)(kid:Int)(k:Nat)(a b v:Int)(h:ls[k]? =some (a,b))(hv:s.getD k 0=v){c0 c1 c2:Nat}(hc:Dd.countD ls s kid k=(c0,c1,c2)):
  Dd.countD ls s kid (k+1)=if b=kid then(c0+(if v=1 then 1 else 0),c1+(if v=2 then 1 else 0),c2+1)else(c0,c1,c2):=by
 rw[Dd.countD,h,hv,hc]
 by_cases e:b=kid
 ·rw[if_pos (by rw[e];rfl),if_pos e]
 rw[if_neg (show¬(Option.map Prod.snd (some (a,b))=some kid)from λh=>e (Option.some.inj h)),if_neg e]
theorem Tryz.r19count_any (x0 x1 x2 x3 x4 x5 x6 x7 x8 x10 x11:Value)(la:Option Addr)(m lc:Nat)(ls:List (Int×Int))(s:List Int)(kid:Int)(w:World)(hL:Ac.Lks w w.heap.size la ls)(hm:ls.length=m)(h40:m<=40)(hs:s.length=104):
  Calls Tryz.prog 54 #[.agg #[x0,x1,x2,x3,x4,x5,x6,x7,x8,.slice la m lc,x10,x11],.agg (Dd.row s),.int .i64 kid] w λe w'=>
   e=.returned (.agg #[.int .i64 (Dd.countD ls s kid m).1,.int .i64 (Dd.countD ls s kid m).2.1,.int .i64 (Dd.countD ls s kid m).2.2])/\Below w.heap.size w w':=by
 obtain⟨R,hR⟩:=pE (Dd.countD ls s kid m);obtain⟨R0,R1,R2⟩:=R;rw[hR];dsimp only;obtain⟨w1,hw1⟩:=pE (((((w.alloc (.cells #[x0,x1,x2,x3,x4,x5,x6,x7,x8,.slice la m lc,x10,x11] 48)).alloc (.cells (Dd.row s) 53)).alloc (.cells #[.int .i64 0,.int .i64 0,.int .i64 0] 101)).alloc (.cells #[.int .i64 0,.int .i64 0,.int .i64 0] 101)));have F1:=Dd.CF.new w #[x0,x1,x2,x3,x4,x5,x6,x7,x8,.slice la m lc,x10,x11] hs;rw[hw1]at F1
 have c9:w1.cell? ⟨w.heap.size,9,none⟩=some (.slice la m lc):=by
  have h:=F1.bx;unfold Dd.RBx at h;simp[World.cell?,h]
 have H1:Hid _:=hw1;have HF:Hid (Dd.CF w #[x0,x1,x2,x3,x4,x5,x6,x7,x8,.slice la m lc,x10,x11] s 0 0 0 w1):=F1;have HL:Hid (Ac.Lks w w.heap.size la ls/\ls.length=m):=⟨hL,hm⟩;have HR:Hid (Dd.countD ls s kid m=(R0,R1,R2)):=hR;obtain⟨la0,hla0⟩:=pE (la);have HLA:Hid (la=la0):=hla0;clear hL hm hR hw1 F1 hs hla0
 go_enter Tryz.func54,Tryz.ntmps54
 go_upto_region 2 with fail
 rw[H1.out];go_wp2
 go_loopg [8,14] m (λgk _ s14 wr=>∃(j c0 c1 c2:Nat),gk+j=m/\s14=.int .i64 j/\(c0<=j/\c1<=j/\c2<=j)/\Hid (Dd.countD ls s kid j=(c0,c1,c2)/\Dd.CF w #[x0,x1,x2,x3,x4,x5,x6,x7,x8,.slice la0 m lc,x10,x11] s c0 c1 c2 wr))
 case atStart=>exact⟨0,0,0,0,by omega,rfl,by omega,rfl,by rw[<-HLA.out];exact HF.out⟩
 case round=>
  obtain⟨j,c0,c1,c2,hj,rfl,hc,HJ⟩:=hrel;clear c9
  by_cases hlt:j<m
  rotate_left
  ·have hd:decide ((j:Int)<m)=false:=decide_eq_false (by omega)
   obtain⟨rfl,rfl,rfl⟩:c0=R0/\c1=R1/\c2=R2:=by
    obtain rfl:j=m:=by omega
    have h:=HJ.out.1.symm.trans HR.out;simpa using h
   have NU:=HJ.out.2.ct;have NR:=HJ.out.2.rs;have hu:=Tryz.underlying101;have e1:(Tryz.prog.info? 101).map (·.size)=some (#[.int .i64 c0,.int .i64 c1,.int .i64 c2]:Array Value).size:=by show _=some 3;kernel_rfl
   have e2:(#[.int .i64 0,.int .i64 0,.int .i64 0]:Array Value).size=(#[.int .i64 c0,.int .i64 c1,.int .i64 c2]:Array Value).size:=rfl;have e3:(#[.int .i64 c0,.int .i64 c1,.int .i64 c2]:Array Value).all (·.oneCell')=true:=by simp[Value.oneCell']
   have HX:Hid (Below w.heap.size w wr):=HJ.out.2.bel;clear HJ
   go_wp2_with (first
    |refine wpList_load_row rfl 101 _ rfl _ rfl 101 #[.int .i64 c0,.int .i64 c1,.int .i64 c2] (0,0) _ NU hu rfl e1 ?_
    |refine wpList_store_row rfl 101 _ _ rfl (w.heap.size+1+1) #[.int .i64 c0,.int .i64 c1,.int .i64 c2] rfl rfl 101 _ NR e1 e2 e3 ?_)
   refine bodyPost_ret (v:=.agg #[.int .i64 c0,.int .i64 c1,.int .i64 c2]) (results_cell_row Tryz.results54 _ _ (w.heap.size+1+1) 101 #[.int .i64 c0,.int .i64 c1,.int .i64 c2] (0,0) _ rfl (setRow_heap _ _ _ _ _ _ NR) hu rfl e1) rfl ⟨rfl,Tk.below_row HX.out (by omega) _⟩
  have hd:decide ((j:Int)<m)=true:=decide_eq_true (by omega);have hjl:j<ls.length:=by rw[HL.out.2];exact hlt
  obtain⟨q,off,rfl,hq,d0,d1⟩:=HL.out.1 j hjl;obtain⟨x,hx⟩:=pE (ls[j]);obtain⟨a,b⟩:=x;rw[hx]at d0 d1;have j0:(0:Int)<=j:=by omega
  have j1:(j:Int)<m:=by omega
  have j2:(j:Int)<40:=by omega
  have e0:wr.cell? ⟨q,off+j*2,none⟩=some (.int .i64 a):=by rw[HJ.out.2.bel.cell (p:=⟨q,off+j*2,none⟩) hq];exact d0
  have e1:wr.cell? ⟨q,off+j*2+1,none⟩=some (.int .i64 b):=by rw[HJ.out.2.bel.cell (p:=⟨q,off+j*2+1,none⟩) hq];exact d1
  obtain⟨w2,hw2⟩:=pE (wr.alloc (.cells #[.int .i64 a,.int .i64 b] 83));have B2:=pB hw2
  have F2:=HJ.out.2.below B2;obtain⟨v,hv⟩:=pE (s.getD j 0);have HC:=Dd.countD_step ls s kid j a b v (by rw[List.getElem?_eq_getElem hjl,hx]) hv HJ.out.1;have N2:w2.heap[wr.heap.size]? =some (.cells #[.int .i64 a,.int .i64 b] 83 (0,0)):=by rw[<-hw2];exact heap_alloc_new wr _
  have k1:w2.cell? ⟨wr.heap.size,1,none⟩=some (.int .i64 b):=by simp[World.cell?,N2]
  have HW2:Hid _:=hw2
  by_cases hb:b=kid
  rotate_left
  ·have he:(b !=kid)=true:=by simpa using hb
   rw[if_neg hb]at HC;have HG:Hid (Dd.countD ls s kid (j+1)=(c0,c1,c2)/\Dd.CF w #[x0,x1,x2,x3,x4,x5,x6,x7,x8,.slice la0 m lc,x10,x11] s c0 c1 c2 w2):=⟨HC,F2⟩;clear d0 d1 hx hjl hq hw2 B2 F2 N2 HJ hb HC hv
   go_upto_region 5 with fail
   rw[HW2.out];go_wp2;go_roundg (gk-1)
   case measure=>omega
   case rel=>exact⟨j+1,c0,c1,c2,by omega,by go_num,by omega,HG.out⟩
  have he:(b !=kid)=false:=by simp[hb]
  rw[if_pos hb]at HC;have G3:=F2.put 2 (c2+1) c0 c1 (c2+1) rfl;obtain⟨w3,hw3⟩:=pE (w2.setCell ⟨w.heap.size+1+1+1,2,none⟩ (.int .i64 (c2+1)));rw[hw3]at G3;have f2:=F2.fr 2;have g2:=F2.cs.2.2;have s3:w3.cell? ⟨w.heap.size+1,j,none⟩=some (.int .i64 v):=by have h:=G3.st.cell j (by omega);rw[hv]at h;exact h
  have h0:=G3.cs.1;have h1:=G3.cs.2.1;have f30:=G3.fr 0;have f31:=G3.fr 1;have HG3:Hid _:=G3;have HW3:Hid _:=hw3;have HCC:Hid _:=HC;clear d0 d1 hx hjl hq hw2 B2 F2 N2 HJ hb G3 hw3 HC hv
  go_upto_region 5 with fail
  rw[HW2.out]
  go_upto_region 7 with fail
  rw[HW3.out];clear f2 g2 k1
  by_cases v1:v=1
  ·have ev1:(v==1)=true:=by simp[v1]
   have ev2:(v==2)=false:=by simp[v1]
   have G4:=HG3.out.put 0 (c0+1) (c0+1) c1 (c2+1) rfl;have s4:=G4.st.cell j (by omega);have HG4:Hid (Dd.countD ls s kid (j+1)=(c0+1,c1,c2+1)/\_):=⟨by rw[HCC.out,if_pos v1,if_neg (by omega)];rfl,G4⟩;rw[show s.getD j 0=v from by have:=HG3.out.st.cell j (by omega);rw[s3]at this;simpa using this.symm]at s4;clear v1 G4;go_wp2;go_roundg (gk-1)
   case measure=>omega
   case rel=>exact⟨j+1,c0+1,c1,c2+1,by omega,by go_num,by omega,HG4.out.1,HG4.out.2⟩
  have ev1:(v==1)=false:=by simpa using v1
  by_cases v2:v=2
  ·have ev2:(v==2)=true:=by simp[v2]
   have G4:=HG3.out.put 1 (c1+1) c0 (c1+1) (c2+1) rfl;have HG4:Hid (Dd.countD ls s kid (j+1)=(c0,c1+1,c2+1)/\_):=⟨by rw[HCC.out,if_neg v1,if_pos v2];rfl,G4⟩;clear v1 v2 G4;go_wp2;go_roundg (gk-1)
   case measure=>omega
   case rel=>exact⟨j+1,c0,c1+1,c2+1,by omega,by go_num,by omega,HG4.out.1,HG4.out.2⟩
  have ev2:(v==2)=false:=by simpa using v2
  have HG4:Hid (Dd.countD ls s kid (j+1)=(c0,c1,c2+1)):=by show _=_;rw[HCC.out,if_neg v1,if_neg v2];rfl
  clear v1 v2;go_wp2;go_roundg (gk-1)
  case measure=>omega
  case rel=>exact⟨j+1,c0,c1,c2+1,by omega,by go_num,by omega,HG4.out,HG3.out⟩
end Go.Proofs
