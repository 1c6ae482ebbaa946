/-
  Proved here: of every activity that can be an argument and every number, the program's Awaits answers as the document has it, the statement's own functions being the measure, and the statement's example holds (BpelAwaits, promise 16.2), whatever memory the call begins in; no condition beyond the row's own.
-/
import Derived.Test.YtenaelpdnccgnaaGreatDoorRBwTwice
import Derived.Test.YtenaelpdnccgnaaGreatDoorRAcRCheck
import Derived.Test.YtenaelpdnccgnaaGreatDoorRBwRAwait
import Derived.Test.YtenaelpdnccgnaaGreatDoorCards
import Derived.Test.YtenaelpdnccgnaaGreatDoorTie
import Derived.Deep.DeepHandedRow
set_option maxRecDepth 100000
set_option maxHeartbeats 32000000
namespace Go.Proofs
open Go.RowKit
theorem Bw.fit_of {T:Ac}(h:Bw.Small T):T.Fit:=
 have dp:∀x:Tm,Bw.Sm x->x.size<=2147483647/\x.depth<=1000:=λx hx=>⟨by have:=hx.1;omega,hx.2⟩
 ⟨dp _ h.t,λx hx=>dp _ (h.c x hx),λx hx=>dp _ (h.n x hx),λx hx=>dp _ (h.f x hx),by have:=h.cl;omega,by have:=h.kl;omega,by have:=h.ll;omega,by have:=h.nl;omega,by have:=h.fl;omega⟩
end Go.Proofs
namespace Go.Proofs.YtenaelpdnccgnaaGreatDoor.BpelChecks
open Go.RowKit
end Go.Proofs.YtenaelpdnccgnaaGreatDoor.BpelChecks
namespace Go.Proofs.YtenaelpdnccgnaaGreatDoor.BpelAwaits
open Go.RowKit
theorem walk (T:Ac)(V:Ac.Vs)(e dd:Nat)(m:Int)(w:World)(hT:Ac.Lies w w.heap.size e dd V T)(hO:Tk.Ops w):
  Calls Tryz.prog 5 #[.agg (Ac.row T V),.int .i64 m] w λe w'=>e=.returned (.bool true)/\Below w.heap.size w w':=by
 have h0:0<w.heap.size:=by have:=hO.lt;omega
 obtain⟨xs,hxs⟩:=pE (Ac.row T V);have hsz:xs.size=12:=by rw[<-hxs];rfl
 obtain⟨w1,hw1⟩:=pE (w.alloc (.cells xs 32));have B1:=pB hw1
 have N1:w1.heap[w.heap.size]? =some (.cells xs 32 (0,0)):=by rw[<-hw1];exact heap_alloc_new w _
 have hlt1:=(Array.getElem?_eq_some_iff.1 N1).1;obtain⟨w2,hw2⟩:=pE (w1.alloc (.cells #[.int .i64 1500] 36));have B2:=pB hw2
 have R2:Tk.Rm w1.heap.size ((1500:Nat):Int) w2:=by rw[<-hw2];exact heap_alloc_new w1 _
 have B02:Below w.heap.size w w2:=B1.trans (B2.mono B1.size);have CL0:=Tryz.alarge_any e dd T V 1500 w1.heap.size 1 w.heap.size w2 (hT.keep B02.block) (by omega) B02.size R2 (by omega) (by omega);rw[hxs]at CL0;have CL:Hid _:=CL0
 have HX:Hid (∀W,Below w1.heap.size w1 W->W.rangeAt w.heap.size 0 xs.toList/\Below w.heap.size w W):=λW hb=>by
  have h:=(hb.block _ hlt1).trans N1;refine⟨λj v hv=> ?_,B1.trans (hb.mono B1.size)⟩;rw[Nat.zero_add];simp only[World.cell?,h];simpa using hv
 have H1:Hid (w.alloc (.cells xs 32)=w1):=hw1;have H2:Hid (w1.alloc (.cells #[.int .i64 1500] 36)=w2):=hw2;have HS:Hid (∀W,Below w.heap.size w W->Calls Tryz.prog 10 #[] W λe w'=>e=.returned (.bool true)/\Below W.heap.size W w'):=λW hb=>Tryz.twice_any W (hO.below hb hO.lt);have HT:Hid (Ac.Lies w w.heap.size e dd V T/\Tk.Ops w/\Ac.row T V=xs/\0<w.heap.size):=⟨hT,hO,hxs,h0⟩;have HBB:Hid (Below w1.heap.size w1 w2/\w.heap.size<w1.heap.size):=⟨B2,hlt1⟩;have ha:=Tryz.underlying32;have ia:(Tryz.prog.info? 32).map (·.size)=some xs.size:=by rw[hsz];exact Bw.info
 have ial:(Tryz.prog.info? 32).map (·.size)=some xs.toList.length:=by rw[ia];simp
 rw[hxs];clear hT hO hxs hsz hw1 hw2 B1 B2 R2 B02 CL0 hlt1 h0
 go_enter Tryz.func5,Tryz.ntmps5
 go_upto_region 1 with fail
 rw[H1.out]
 go_wp2_with (refine wpList_load_row rfl 32 _ rfl _ rfl 32 _ (0,0) _ N1 ha rfl ia ?_)
 rw[H2.out];refine Calls.mono CL.out ?_;rintro e' W3 ⟨hb3,⟨rfl,⟨hsm,hdp⟩,k3,hk3,-⟩|rfl⟩
 rotate_left
 ·have HB3:Hid (Below w.heap.size w W3):=(HX.out W3 (HBB.out.1.trans (hb3.below HBB.out.1.size (by intro i hi;show¬i=w1.heap.size;omega)))).2
  clear hb3 CL N1
  go_wp2_with fail
  refine Calls.mono (HS.out W3 HB3.out) ?_;rintro e' W4 ⟨rfl,hb4⟩;have HB4:Hid (Below w.heap.size w W4):=HB3.out.trans (hb4.mono HB3.out.size);clear hb4;go_wp2;go_ret;exact⟨rfl,HB4.out⟩
 have HB3:Hid (Below w1.heap.size w1 W3):=HBB.out.1.trans (hb3.below HBB.out.1.size (by intro i hi;show¬i=w1.heap.size;omega));have HF:Hid (T.All Ac.Fit/\T.size<=1500/\T.All (λx=>x.ls.length<=100)/\T.depth<=1000/\T.All (λx=>x.ns.length<=100)):=⟨Ac.all_mono (λ_ h=>Bw.fit_of h) T hsm,by omega,Ac.all_mono (λ_ h=>by have:=h.ll;omega) T hsm,by omega,Ac.all_mono (λ_ h=>by have:=h.nl;omega) T hsm⟩;clear hb3 CL N1 hsm hk3 hdp H1 H2;obtain⟨r,hr⟩:=pE (Bw.aw m T)
 have CP:Hid (∀W,Below w1.heap.size w1 W->Calls Tryz.prog 18 #[.agg xs,.int .i64 m] W λe w'=>e=.returned (.bool r)/\Below W.heap.size W w'):=λW hb=>by
  have h1:=(HX.out W hb).2;have h:=Tryz.aAwaits_any m dd e T V W ((HT.out.1.below h1).wider h1.size) (by have:=HT.out.2.2.2;have:=h1.size;omega) (by have:=HF.out.2.1;omega) HF.out.2.2.2.1 HF.out.2.2.2.2;rw[HT.out.2.2.1,hr]at h;exact h
 have CRF:Hid (∀W,Below w1.heap.size w1 W->Calls Tryz.prog 13 #[.agg xs] W λe' w'=>∃ys,e'=.returned (.agg ys)/\Calls Tryz.prog 19 #[.agg ys,.int .i64 m] w' (λe w''=>e=.returned (.bool r)/\Below w'.heap.size w' w'')/\Below W.heap.size W w'):=λW hb=>by
  have h1:=(HX.out W hb).2;have h:=Ak.refC dd w.heap.size e T V W h1.size (HT.out.1.keep h1.block) (by have:=HF.out.2.1;omega) HF.out.2.2.1;rw[HT.out.2.2.1]at h;refine h.mono ?_;rintro e' w' ⟨hb',U,d',rfl,hl⟩;have h2:=Tryz.r16Awaits_any m d' e T U w' (hl.lies (by have:=h1.size;have:=hb'.size;omega) λk hk=>hk.2) HF.out.1;rw[hr]at h2;exact⟨_,rfl,h2,hb'⟩
 have HSS:Hid (∀W,Below w1.heap.size w1 W->W.rangeAt w.heap.size 0 xs.toList):=λW hb=>(HX.out W hb).1;have HD0:Hid (Below w1.heap.size w1 W3.drew):=HB3.out.drew;clear hr ia
 go_upto_region 3 with fail
 refine wp_region_held_drew (S:=(λV=>V.rangeAt w.heap.size 0 xs.toList)) (by kernel_rfl) ?_ (λhHeld=> ?_)
 ·exact HSS.out _ HD0.out
 refine Nt.takeS (v:=.agg xs) 0 10 rfl rfl (by kernel_rfl) (by kernel_rfl) (by kernel_rfl) (λ_ _ _ h=>h) (yieldsIf_load_mid (by rfl) 32 _ rfl w.heap.size 0 rfl xs.toList _ (λ_ hw=>hw) ha rfl ial) hHeld ?_;simp only[List.set_cons_succ,List.set_cons_zero];refine Nt.takeS (v:= ?va1) 1 11 rfl rfl (by kernel_rfl) (by kernel_rfl) (by kernel_rfl) (λ_ _ _ h=>h) (Or.inl ⟨by rfl, ?ya1⟩) hHeld ?ra1
 case ya1=>(intro w hSw;(try dsimp only at hSw);go_simp;all_goals (with_reducible rfl))
 simp only[List.set_cons_succ,List.set_cons_zero];refine Nt.takeS (v:=.agg xs) 3 13 rfl rfl (by kernel_rfl) (by kernel_rfl) (by kernel_rfl) (λ_ _ _ h=>h) (yieldsIf_load_mid (by rfl) 32 _ rfl w.heap.size 0 rfl xs.toList _ (λ_ hw=>hw) ha rfl ial) hHeld ?_;simp only[List.set_cons_succ,List.set_cons_zero];refine Nt.takeS (v:= ?va5) 5 15 rfl rfl (by kernel_rfl) (by kernel_rfl) (by kernel_rfl) (λ_ _ _ h=>h) (Or.inl ⟨by rfl, ?ya5⟩) hHeld ?ra5
 case ya5=>(intro w hSw;(try dsimp only at hSw);go_simp;all_goals (with_reducible rfl))
 simp only[List.set_cons_succ,List.set_cons_zero];refine wpAnyH_ready (rs:= [2]) (by kernel_rfl) (by simp) ?_;refine AllReadyH.cons rfl (λK hK=> ?_) AllReadyH.nil;go_simp
 go_at_call 18
 refine Calls.mono (CP.out _ HD0.out) ?_;rintro e' WA ⟨rfl,hbA⟩;have HA:Hid (Below w1.heap.size w1 WA):=HD0.out.trans (hbA.mono HD0.out.size);clear hbA
 go_wp2_with fail
 refine hK.out _ _ ?_ (λhT2=> ?_)
 ·exact HSS.out _ HA.out
 clear hK K
 first|refine Nt.normS 12 rfl ?_|skip
 first|(simp only[List.set_cons_succ,List.set_cons_zero])|skip
 refine wpAnyH_ready (rs:= [4]) (by kernel_rfl) (by simp) ?_;refine AllReadyH.cons rfl (λK hK=> ?_) AllReadyH.nil;go_simp
 go_at_call 13
 refine Calls.mono (CRF.out _ HA.out) ?_;rintro e' WB ⟨ys,rfl,cr,hbB⟩;have HB:Hid (Below w1.heap.size w1 WB):=HA.out.trans (hbB.mono HA.out.size);have CD:Hid _:=cr;clear hbB cr
 go_wp2_with fail
 refine hK.out _ _ ?_ (λhT4=> ?_)
 ·exact HSS.out _ HB.out
 clear hK K
 first|refine Nt.normS 14 rfl ?_|skip
 first|(simp only[List.set_cons_succ,List.set_cons_zero])|skip
 refine wpAnyH_ready (rs:= [6]) (by kernel_rfl) (by simp) ?_;refine AllReadyH.cons rfl (λK hK=> ?_) AllReadyH.nil;go_simp
 go_at_call 19
 refine Calls.mono (CD.out) ?_;rintro e' WC ⟨rfl,hbC⟩;have HC:Hid (Below w1.heap.size w1 WC):=HB.out.trans (hbC.mono HB.out.size);clear hbC
 go_wp2_with fail
 refine hK.out _ _ ?_ (λhT6=> ?_)
 ·exact HSS.out _ HC.out
 clear hK K
 first|refine Nt.normS 16 rfl ?_|skip
 first|(simp only[List.set_cons_succ,List.set_cons_zero])|skip
 refine Nt.takeS (v:= ?vb7) 7 17 rfl rfl (by kernel_rfl) (by kernel_rfl) (by kernel_rfl) (λ_ _ _ h=>h) (Or.inl ⟨by rfl, ?yb7⟩) hT6 ?rb7
 case yb7=>(intro w hSw;(try dsimp only at hSw);go_simp;all_goals (with_reducible rfl))
 simp only[List.set_cons_succ,List.set_cons_zero];refine Nt.takeS (v:= ?vb8) 8 18 rfl rfl (by kernel_rfl) (by kernel_rfl) (by kernel_rfl) (λ_ _ _ h=>h) (Or.inl ⟨by rfl, ?yb8⟩) hT6 ?rb8
 case yb8=>(intro w hSw;(try dsimp only at hSw);go_simp;all_goals (with_reducible rfl))
 simp only[List.set_cons_succ,List.set_cons_zero];refine wpAnyH_ready (rs:= [9]) (by kernel_rfl) (by simp) ?_;refine AllReadyH.cons rfl (λK hK=> ?_) AllReadyH.nil;go_simp
 go_at_call 10
 refine Calls.mono (HS.out _ (HX.out _ HC.out).2) ?_;rintro e' WE ⟨rfl,hbE⟩;have HE:Hid (Below w1.heap.size w1 WE):=HC.out.trans (hbE.mono HC.out.size);clear hbE
 go_wp2_with fail
 refine hK.out _ _ ?_ (λhT9=> ?_)
 ·exact HSS.out _ HE.out
 clear hK K
 first|refine Nt.normS 19 rfl ?_|skip
 first|(simp only[List.set_cons_succ,List.set_cons_zero])|skip
 refine Nt.takeS (v:= ?vc10) 10 20 rfl rfl (by kernel_rfl) (by kernel_rfl) (by kernel_rfl) (λ_ _ _ h=>h) (Or.inl ⟨by rfl, ?yc10⟩) hT9 ?rc10
 case yc10=>(intro w hSw;(try dsimp only at hSw);go_simp;all_goals (with_reducible rfl))
 simp only[List.set_cons_succ,List.set_cons_zero];refine Nt.takeS (v:= ?vc11) 11 4 rfl rfl (by kernel_rfl) (by kernel_rfl) (by kernel_rfl) (λ_ _ _ h=>h) (Or.inl ⟨by rfl, ?yc11⟩) hT9 ?rc11
 case yc11=>(intro w hSw;(try dsimp only at hSw);go_simp;all_goals (with_reducible rfl))
 simp only[List.set_cons_succ,List.set_cons_zero];refine wpAnyH_done (by kernel_rfl) ?_ _;go_wp2;go_ret;exact⟨rfl,(HX.out _ HE.out).2⟩
end Go.Proofs.YtenaelpdnccgnaaGreatDoor.BpelAwaits
namespace Go.Proofs.YtenaelpdnccgnaaGreatDoor.BpelAwaits
open Go.ChangeShapes Go.WideShapes Go.ChangeAt Go.RowKit
theorem own:ownKnob Tryz.prog.godebug=none:=by kernel_rfl
theorem contract (H:Type)(enc:TypeId×Value->H)(W:World)(base:Nat)(args:Array Value)(ds gs:List (DataW H))(before:List MemPlace)(vt:List TypeId)
  (hval:∀(j:Nat) t v,Tryz.f5.params[j]? =some t->args[j]? =some v->Value.okWide Tryz.prog W .any base t v)
  (hW:DataW.Whole enc Tryz.prog Tryz.f5.params.toList Rows.bpelAwaitsSpec.vars false W args.toList ds gs before)
  (hwt:(DataW.weightsEach Tryz.prog (Tryz.f5.params.toList++vt) (ds++gs)).all (· <=reachBytes)=true) (hL:laidMetH Tryz.prog Rows.bpelAwaitsRow.laid W):
  Calls Tryz.prog 5 args W λe W'=>∃v,e=.returned v/\Rows.bpelAwaitsSpec.post enc Tryz.prog Tryz.f5 false true false false W args v W':=by
 have hW':=hW;obtain⟨p,q,hA0,hV,rfl,hfz,hnd⟩:=hW;have hA:DataW.TrodAll enc Tryz.prog W 0 (λ_=>true) true Tryz.f5.params.toList args.toList ds p:=hA0;obtain⟨rfl,rfl⟩:=trodVars_none hV;have hlt:∀x∈p,x.block<W.heap.size:=λx hx=>hW'.lt x (List.mem_append_left _ hx);have hargs:∀W',Below W.heap.size W W'->DataW.TrodAll enc Tryz.prog W' 0 (λb=>decide (b<W.heap.size)) true Tryz.f5.params.toList args.toList ds p:=λW' hb=>Fk.trodAll_below hb (by kernel_rfl) hA0 hlt;rw[Tryz.params5]at hA hval hwt;clear hA0;obtain⟨v0,vs0,d0,ds0,p0,q0,hargs0,rfl,rfl,h0,r0⟩:=trodAll_cons hA;obtain⟨v1,vs1,d1,ds1,p1,q1,rfl,rfl,rfl,h1,r1⟩:=trodAll_cons r0;obtain⟨rfl,rfl,rfl⟩:=trodAll_nil r1;obtain rfl:args=#[v0,v1]:=by cases args;simp_all
 obtain⟨T,V,e,dd,rfl,hT⟩:=Ac.open_act (hval 0 32 v0 rfl rfl) h0;obtain⟨i,rfl,rfl,rfl,_⟩:=open_int Tryz.underlying3 (hval 1 3 v1 rfl rfl) h1;refine(walk T V e dd i W hT (ops_of_laid hL)).mono λe W' ⟨he,hb⟩=> ?_;subst he;exact⟨_,rfl,_,_,_, [],_, [],hW',trodAll_cons_mk (shut_bool Tryz.underlying4 _) trodAll_mk0,hargs W' hb,rfl,hb.frame _,λh=>by cases h⟩
noncomputable def laidWorld (os:Os):World:= {World.holding Tryz.prog os ⟨#[],#[], []⟩with heap:=(World.holding Tryz.prog os ⟨#[],#[], []⟩).heap.modify 0 fun| .cells _ t frozen=> .cells Tk.opVals t frozen|o=>o}
theorem laid_met (os:Os):laidMet Tryz.prog Rows.bpelAwaitsRow.laid ((laidWorld os).forCall (λ_ _=>0) ⟨#[],#[.agg #[.int .i64 0,.int .i64 0,.int .i64 0,.int .i64 0,.int .i64 0,.int .i64 0,.slice none 0 0,.slice none 0 0,.slice none 0 0,.slice none 0 0,.slice none 0 0,.slice none 0 0],.int .i64 0], []⟩).memory:=
 laidMet_of_run' 8 (by kernel_rfl) (by kernel_rfl)
theorem reads (os:Os){H:Type}(enc:TypeId×Value->H):∃places,DataW.whole enc Tryz.prog ((laidWorld os).forCall (λ_ _=>0) ⟨#[],#[.agg #[.int .i64 0,.int .i64 0,.int .i64 0,.int .i64 0,.int .i64 0,.int .i64 0,.slice none 0 0,.slice none 0 0,.slice none 0 0,.slice none 0 0,.slice none 0 0,.slice none 0 0],.int .i64 0], []⟩).memory Tryz.f5.params.toList Rows.bpelAwaitsSpec.vars false (#[.agg #[.int .i64 0,.int .i64 0,.int .i64 0,.int .i64 0,.int .i64 0,.int .i64 0,.slice none 0 0,.slice none 0 0,.slice none 0 0,.slice none 0 0,.slice none 0 0,.slice none 0 0],.int .i64 0]:Array Value).toList 8=some ([.agg [.lit (.int .i64 0),.lit (.int .i64 0),.lit (.int .i64 0),.lit (.int .i64 0),.agg [.lit (.int .i64 0),.lit (.int .i64 0),.nil],.nil,.nil,.nil,.agg [.nil,.nil]],.lit (.int .i64 0)], [],places):=
 ⟨[],by kernel_rfl⟩
theorem lifted (os:Os)(started:os.Started)(H:Type)(enc:TypeId×Value->H)(F:Stop.Interp):
  ReturnsInHanded {} Tryz.checked os 5 .any ((OpenSpec.ofChange Rows.bpelAwaitsSpec).preRow enc Tryz.prog Tryz.f5 Rows.bpelAwaitsRow.domain false Rows.bpelAwaitsRow.laid) (((OpenSpec.ofChange Rows.bpelAwaitsSpec).at F).post enc Tryz.prog Tryz.f5 false true false false):=by
 obtain⟨places,hx⟩:=reads os enc
 refine returnsInHanded_of_row (C:=Tryz.checked) (s:=OpenSpec.ofChange Rows.bpelAwaitsSpec) own started (by kernel_rfl) Tryz.func5
  (witness_row_at (enc:=enc) (C:=Tryz.checked) false (laidWorld os) #[.agg #[.int .i64 0,.int .i64 0,.int .i64 0,.int .i64 0,.int .i64 0,.int .i64 0,.slice none 0 0,.slice none 0 0,.slice none 0 0,.slice none 0 0,.slice none 0 0,.slice none 0 0],.int .i64 0] rfl (by kernel_rfl) (by kernel_rfl) (by kernel_rfl)
   (OpenSpec.preRow_of_cond 8 hx (by kernel_rfl) (λk hk=>by cases hk) (by kernel_rfl) (laid_met os))) ?_
 intro W base args ds gs before hval hW _ _ hwt hL _ _;exact contract H enc W base args ds gs before _ hval hW hwt hL
theorem said:Rows.BpelAwaitsSaid:=
 OpenClaim.holds_of_cond 5 Tryz.f5 rfl rfl rfl rfl rfl rfl rfl ⟨rfl,rfl,rfl,rfl,rfl⟩ rfl rfl rfl rfl rfl (by kernel_rfl) Tryz.func5 (by kernel_rfl)
  (of_decide_eq_true (by kernel_rfl)) (by unfold Func.isWrapper;first|(rw[if_pos (by decide+kernel)];kernel_rfl)|(rw[if_neg (by decide+kernel)];exact⟨rfl,rfl⟩))
  (λos started H enc _ F=>by rw[OpenClaim.pre_eq_preRow];exact lifted os started H enc F)
theorem plain (f:FuncId)(fn:Func)(hf:Tryz.pinned.checked.prog.funcNamed "treenail/treenaillaw16.BpelAwaits" =some f)(hfn:Tryz.pinned.checked.prog.funcs[f]? =some fn):
  false=Tryz.pinned.checked.prog.looks []/\∀(j:Nat) t,fn.params[j]? =some t->Tryz.pinned.checked.prog.wantsStandIn t=false:=by
 obtain rfl:f=5:=Option.some.inj ((show Tryz.prog.funcNamed "treenail/treenaillaw16.BpelAwaits" =some 5 by kernel_rfl).symm.trans hf)|>.symm
 obtain rfl:fn=Tryz.f5:=(Option.some.inj (Tryz.func5.symm.trans hfn)).symm;refine⟨by kernel_rfl,λj t ht=> ?_⟩;have hall:(Tryz.f5.params.toList.all λt=>Tryz.prog.wantsStandIn t==false)=true:=by kernel_rfl
 have:=List.all_eq_true.1 hall t (Array.mem_toList_iff.2 (Array.mem_of_getElem? ht));exact(show Tryz.prog.wantsStandIn t=false by simpa using this)
theorem card:Rows.BpelAwaitsCardSaid:=
 Claim7.holds_tied_plain_at .later [] _ _ _ _ said (λ_ h=>by cases h) (by kernel_rfl) (λ_ h=>by cases h) bpelAwaits_row_tie rfl ⟨rfl,rfl⟩ (by kernel_rfl) rfl plain (by kernel_rfl)
end Go.Proofs.YtenaelpdnccgnaaGreatDoor.BpelAwaits
namespace Go.Proofs.YtenaelpdnccgnaaGreatDoor
theorem bpelAwaits_card:Rows.BpelAwaitsCardSaid:=BpelAwaits.card
end Go.Proofs.YtenaelpdnccgnaaGreatDoor
