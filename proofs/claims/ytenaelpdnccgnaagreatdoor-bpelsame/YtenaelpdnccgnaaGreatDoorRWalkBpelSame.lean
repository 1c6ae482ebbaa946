/-
  Proved here: of any two activities that can be arguments, the program's Same answers as the document has it, and each is the same as itself, the statement's own functions being the measure, and the statement's example holds (BpelSame, promise 16.2), whatever memory the call begins in; no condition beyond the row's own.
-/
import Derived.Test.YtenaelpdnccgnaaGreatDoorRBwTwice
import Derived.Test.YtenaelpdnccgnaaGreatDoorRBwLarge
import Derived.Test.YtenaelpdnccgnaaGreatDoorRBwSame
import Derived.Test.YtenaelpdnccgnaaGreatDoorCards
import Derived.Test.YtenaelpdnccgnaaGreatDoorTie
import Derived.Deep.DeepHandedRow
set_option maxRecDepth 100000
set_option maxHeartbeats 32000000
namespace Go.Proofs
open Go.RowKit
theorem Bw.fits_of {T:Ac}(h:Bw.Small T):T.Fit:=
 have dp:∀x:Tm,Bw.Sm x->x.size<=2147483647/\x.depth<=1000:=λx hx=>⟨by have:=hx.1;omega,hx.2⟩
 ⟨dp _ h.t,λx hx=>dp _ (h.c x hx),λx hx=>dp _ (h.n x hx),λx hx=>dp _ (h.f x hx),by have:=h.cl;omega,by have:=h.kl;omega,by have:=h.ll;omega,by have:=h.nl;omega,by have:=h.fl;omega⟩
theorem Bw.ref_any {w:World}{d e:Nat}{T:Ac}{V:Ac.Vs}(hT:Ac.Lies w w.heap.size e d V T)(hsz:T.size<=100000)(hl:T.All (λx=>x.ls.length<=100))(W:World)(hb:Below w.heap.size w W):
  Calls Tryz.prog 13 #[.agg (Ac.row T V)] W λe' w'=>∃U d',e'=.returned (.agg (Ac.row T U))/\(∀X,Below w'.heap.size w' X->Ac.Lies X X.heap.size e d' U T)/\Below W.heap.size W w':=by
 refine(Ak.refC d w.heap.size e T V W hb.size (hT.keep hb.block) hsz hl).mono ?_;rintro e' w' ⟨hb',U,d',rfl,h⟩;have h1:=hb.size;have h2:=hb'.size;refine⟨U,d',rfl,λX hX=> ?_,hb'⟩;have h3:=hX.size;have h4:Ac.LiesP X w.heap.size e (λk=>W.heap.size<=k/\k<w'.heap.size) d' U T:=h.keep (λk hk=>hX.block k (by omega)) (λk h=>hX.block k h.2) λ_ h=>h;exact h4.lies (by omega) λk hk=>by omega
end Go.Proofs
namespace Go.Proofs.YtenaelpdnccgnaaGreatDoor.BpelSame
open Go.RowKit
theorem walk (S T:Ac)(U V:Ac.Vs)(e d e' d':Nat)(w:World)(hS:Ac.Lies w w.heap.size e d U S)(hT:Ac.Lies w w.heap.size e' d' V T)(hO:Tk.Ops w):
  Calls Tryz.prog 6 #[.agg (Ac.row S U),.agg (Ac.row T V)] w λe w'=>e=.returned (.bool true)/\Below w.heap.size w w':=by
 have h0:0<w.heap.size:=by have:=hO.lt;omega
 obtain⟨xs,hxs⟩:=pE (Ac.row S U);obtain⟨ys,hys⟩:=pE (Ac.row T V);have hszx:xs.size=12:=by rw[<-hxs];rfl
 have hszy:ys.size=12:=by rw[<-hys];rfl
 obtain⟨w0,hw0⟩:=pE (w.alloc (.cells xs 32));have B0:=pB hw0;have N0:=pH hw0;have z0:w0.heap.size=w.heap.size+1:=by rw[<-hw0];simp
 obtain⟨w1,hw1⟩:=pE (w0.alloc (.cells ys 32));have B1':=pB hw1;have N1:=pH hw1;rw[z0]at N1;have B1:Below w.heap.size w w1:=B0.trans (B1'.mono B0.size);have hl0:=(Array.getElem?_eq_some_iff.1 N0).1;have hl1:=(Array.getElem?_eq_some_iff.1 N1).1;have N0':w1.heap[w.heap.size]? =some (.cells xs 32 (0,0)):=(B1'.block _ hl0).trans N0;obtain⟨w2,hw2⟩:=pE (w1.alloc (.cells #[.int .i64 1500] 36));have B2:=pB hw2;have R2:Tk.Rm w1.heap.size ((1500:Nat):Int) w2:=pH hw2;have B02:Below w.heap.size w w2:=B1.trans (B2.mono B1.size);have CL0:=Tryz.alarge_any e d S U 1500 w1.heap.size 1 w.heap.size w2 (hS.keep B02.block) (by omega) B02.size R2 (by omega) (by omega);rw[hxs]at CL0;have CL:Hid _:=CL0
 have HX:Hid (∀W,Below w1.heap.size w1 W->W.rangeAt w.heap.size 0 xs.toList/\W.rangeAt (w.heap.size+1) 0 ys.toList/\Below w.heap.size w W):=λW hb=>by
  have h:=(hb.block _ (by omega)).trans N0';have h':=(hb.block _ hl1).trans N1;refine⟨λj v hv=> ?_,λj v hv=> ?_,B1.trans (hb.mono B1.size)⟩
  ·rw[Nat.zero_add]
   simp only[World.cell?,h];simpa using hv
  rw[Nat.zero_add];simp only[World.cell?,h'];simpa using hv
 have H0:Hid _:=hw0;have H1:Hid _:=hw1;have H2:Hid _:=hw2;have HS:Hid (∀W,Below w.heap.size w W->Calls Tryz.prog 10 #[] W λe w'=>e=.returned (.bool true)/\Below W.heap.size W w'):=λW hb=>Tryz.twice_any W (hO.below hb hO.lt);have HT:Hid (Ac.Lies w w.heap.size e d U S/\Ac.Lies w w.heap.size e' d' V T/\Ac.row S U=xs/\Ac.row T V=ys/\0<w.heap.size):=⟨hS,hT,hxs,hys,h0⟩;have HBB:Hid (Below w1.heap.size w1 w2/\w.heap.size<w1.heap.size):=⟨B2,by omega⟩;have ha:=Tryz.underlying32;have ia:(Tryz.prog.info? 32).map (·.size)=some xs.size:=by rw[hszx];exact Bw.info
 have ilx:(Tryz.prog.info? 32).map (·.size)=some xs.toList.length:=by rw[ia];simp
 have ily:(Tryz.prog.info? 32).map (·.size)=some ys.toList.length:=by rw[Bw.info,Array.length_toList,hszy]
 rw[hxs,hys];clear hS hT hO hxs hys hszx hszy hw0 hw1 hw2 B0 B1' B1 N0 N1 z0 hl0 hl1 B2 R2 B02 CL0 h0
 go_enter Tryz.func6,Tryz.ntmps6
 go_upto_region 1 with fail
 rw[H0.out,H1.out];clear H0 H1
 go_wp2_with (refine wpList_load_row rfl 32 _ rfl _ rfl 32 _ (0,0) _ N0' ha rfl ia ?_)
 rw[H2.out];refine Calls.mono CL.out ?_;rintro e1 W3 ⟨hb3,⟨rfl,hsm,k3,hk3,-⟩|rfl⟩
 rotate_left
 ·have HB3:Hid (Below w.heap.size w W3):=(HX.out W3 (HBB.out.1.trans (hb3.below HBB.out.1.size (by intro i hi;show¬i=w1.heap.size;omega)))).2.2
  clear hb3 CL N0'
  go_wp2_with fail
  refine Calls.mono (HS.out W3 HB3.out) ?_;rintro e2 W4 ⟨rfl,hb4⟩;have HB4:Hid (Below w.heap.size w W4):=HB3.out.trans (hb4.mono HB3.out.size);clear hb4;go_wp2;go_ret;exact⟨rfl,HB4.out⟩
 have HB3:Hid (Below w1.heap.size w1 W3):=HBB.out.1.trans (hb3.below HBB.out.1.size (by intro i hi;show¬i=w1.heap.size;omega));have HSM:Hid (S.All Bw.Small/\S.depth<=1000/\S.size<=1500):=⟨hsm.1,by omega,by omega⟩;have RY:=(HX.out W3 HB3.out).2.1;obtain⟨W4,hW4⟩:=pE (W3.alloc (.cells #[.int .i64 1500] 36));have B4:=pB hW4;have R4:Tk.Rm W3.heap.size ((1500:Nat):Int) W4:=pH hW4;have b03:=(HX.out W3 HB3.out).2.2;have B04:Below w.heap.size w W4:=b03.trans (B4.mono b03.size);have CL1:=Tryz.alarge_any e' d' T V 1500 W3.heap.size 1 w.heap.size W4 (HT.out.2.1.keep B04.block) b03.size B04.size R4 (by omega) (by omega);rw[HT.out.2.2.2.1]at CL1;have CM:Hid _:=CL1;have H4:Hid _:=hW4;have HB4:Hid (Below W3.heap.size W3 W4/\w1.heap.size<=W3.heap.size):=⟨B4,HB3.out.size⟩;clear hb3 CL N0' hsm hk3 H2 hW4 B4 R4 b03 B04 CL1
 go_wp2_with (first
  |refine Ak.load_want (by rfl) 32 _ rfl (w.heap.size+1) 0 rfl ys.toList _ RY ha rfl ily ?_
  |fail)
 rw[H4.out];refine Calls.mono CM.out ?_;rintro e1 W5 ⟨hb5,⟨rfl,hsm,k5,hk5,-⟩|rfl⟩
 rotate_left
 ·have HB5:Hid (Below w.heap.size w W5):=(HX.out W5 (HB3.out.trans ((HB4.out.1.trans (hb5.below HB4.out.1.size (by intro i hi;show¬i=W3.heap.size;omega))).mono HB4.out.2))).2.2
  clear hb5 CM RY
  go_wp2_with fail
  refine Calls.mono (HS.out W5 HB5.out) ?_;rintro e2 W6 ⟨rfl,hb6⟩;have HB6:Hid (Below w.heap.size w W6):=HB5.out.trans (hb6.mono HB5.out.size);clear hb6;go_wp2;go_ret;exact⟨rfl,HB6.out⟩
 have HB5:Hid (Below w1.heap.size w1 W5):=HB3.out.trans ((HB4.out.1.trans (hb5.below HB4.out.1.size (by intro i hi;show¬i=W3.heap.size;omega))).mono HB4.out.2);have HTM:Hid (T.All Bw.Small/\T.depth<=1000/\T.size<=1500):=⟨hsm.1,by omega,by omega⟩;have HF:Hid (S.All Ac.Fit/\T.All Ac.Fit):=⟨Ac.all_mono (λ_ h=>Bw.fits_of h) S HSM.out.1,Ac.all_mono (λ_ h=>Bw.fits_of h) T hsm.1⟩;clear hb5 CM RY hsm hk5 H4 HB4
 have CP:Hid (∀W,Below w1.heap.size w1 W->Calls Tryz.prog 20 #[.agg xs,.agg ys] W λe w'=>Ak.Told (S=T) e/\Below W.heap.size W w'):=λW hb=>by
  have h1:=(HX.out W hb).2.2;have h:=Tryz.aSame_any d d' e e' S T U V W ((HT.out.1.below h1).wider h1.size) ((HT.out.2.1.below h1).wider h1.size) (by have:=HT.out.2.2.2.2;have:=h1.size;omega) (by have:=HSM.out.2.2;omega) HSM.out.2.1 HF.out.1;rw[HT.out.2.2.1,HT.out.2.2.2.1]at h;exact h
 have CQ:Hid (∀W,Below w1.heap.size w1 W->Calls Tryz.prog 20 #[.agg ys,.agg ys] W λe w'=>e=.returned (.bool true)/\Below W.heap.size W w'):=λW hb=>by
  have h1:=(HX.out W hb).2.2;have h:=Tryz.aSame_any d' d' e' e' T T V V W ((HT.out.2.1.below h1).wider h1.size) ((HT.out.2.1.below h1).wider h1.size) (by have:=HT.out.2.2.2.2;have:=h1.size;omega) (by have:=HTM.out.2.2;omega) HTM.out.2.1 HF.out.2;rw[HT.out.2.2.2.1]at h;refine h.mono λe w' h=>⟨?_,h.2⟩;obtain⟨r,h2,h3⟩:=h.1;rw[h2,h3.2 rfl]
 have CR1:Hid (∀W,Below w1.heap.size w1 W->Calls Tryz.prog 13 #[.agg xs] W λe1 w'=>∃U1 d1,e1=.returned (.agg (Ac.row S U1))/\(∀X,Below w'.heap.size w' X->Ac.Lies X X.heap.size e d1 U1 S)/\Below W.heap.size W w'):=λW hb=>by
  have h:=Bw.ref_any HT.out.1 (by have:=HSM.out.2.2;omega) (Ac.all_mono (λ_ h=>by have:=h.ll;omega) S HSM.out.1) W (HX.out W hb).2.2;rw[HT.out.2.2.1]at h;exact h
 have CR2:Hid (∀W,Below w1.heap.size w1 W->Calls Tryz.prog 13 #[.agg ys] W λe1 w'=>∃U1 d1,e1=.returned (.agg (Ac.row T U1))/\(∀X,Below w'.heap.size w' X->Ac.Lies X X.heap.size e' d1 U1 T)/\Below W.heap.size W w'):=λW hb=>by
  have h:=Bw.ref_any HT.out.2.1 (by have:=HTM.out.2.2;omega) (Ac.all_mono (λ_ h=>by have:=h.ll;omega) T HTM.out.1) W (HX.out W hb).2.2;rw[HT.out.2.2.2.1]at h;exact h
 have HSS:Hid (∀W,Below w1.heap.size w1 W->W.rangeAt w.heap.size 0 xs.toList/\W.rangeAt (w.heap.size+1) 0 ys.toList):=λW hb=>⟨(HX.out W hb).1,(HX.out W hb).2.1⟩;have HD0:Hid (Below w1.heap.size w1 W5.drew):=HB5.out.drew;clear ia
 go_upto_region 3 with fail
 refine wp_region_held_drew (S:=(λV=>V.rangeAt w.heap.size 0 xs.toList/\V.rangeAt (w.heap.size+1) 0 ys.toList)) (by kernel_rfl) ?_ (λhHeld=> ?_)
 ·exact HSS.out _ HD0.out
 refine Nt.takeS (v:=.agg xs) 0 16 rfl rfl (by kernel_rfl) (by kernel_rfl) (by kernel_rfl) (λ_ _ _ h=>h) (yieldsIf_load_mid (by rfl) 32 _ rfl w.heap.size 0 rfl xs.toList _ (λ_ hw=>hw.1) ha rfl ilx) hHeld ?_;simp only[List.set_cons_succ,List.set_cons_zero];refine Nt.takeS (v:=.agg ys) 1 17 rfl rfl (by kernel_rfl) (by kernel_rfl) (by kernel_rfl) (λ_ _ _ h=>h) (yieldsIf_load_mid (by rfl) 32 _ rfl (w.heap.size+1) 0 rfl ys.toList _ (λ_ hw=>hw.2) ha rfl ily) hHeld ?_;simp only[List.set_cons_succ,List.set_cons_zero];refine Nt.takeS (v:=.agg xs) 3 19 rfl rfl (by kernel_rfl) (by kernel_rfl) (by kernel_rfl) (λ_ _ _ h=>h) (yieldsIf_load_mid (by rfl) 32 _ rfl w.heap.size 0 rfl xs.toList _ (λ_ hw=>hw.1) ha rfl ilx) hHeld ?_;simp only[List.set_cons_succ,List.set_cons_zero];refine Nt.takeS (v:=.agg ys) 5 21 rfl rfl (by kernel_rfl) (by kernel_rfl) (by kernel_rfl) (λ_ _ _ h=>h) (yieldsIf_load_mid (by rfl) 32 _ rfl (w.heap.size+1) 0 rfl ys.toList _ (λ_ hw=>hw.2) ha rfl ily) hHeld ?_;simp only[List.set_cons_succ,List.set_cons_zero];refine wpAnyH_ready (rs:= [2]) (by kernel_rfl) (by simp) ?_;refine AllReadyH.cons rfl (λK hK=> ?_) AllReadyH.nil;go_simp
 go_at_call 20
 refine Calls.mono (CP.out _ HD0.out) ?_;rintro e' WA ⟨⟨r1,rfl,hr1⟩,hbA⟩;have HA:Hid (Below w1.heap.size w1 WA):=HD0.out.trans (hbA.mono HD0.out.size);have HR1:Hid (r1=true↔S=T):=hr1;clear hr1;clear hbA
 go_wp2_with fail
 refine hK.out _ _ ?_ (λhT2=> ?_)
 ·exact HSS.out _ HA.out
 clear hK K
 first|refine Nt.normS 18 rfl ?_|skip
 first|(simp only[List.set_cons_succ,List.set_cons_zero])|skip
 refine wpAnyH_ready (rs:= [4]) (by kernel_rfl) (by simp) ?_;refine AllReadyH.cons rfl (λK hK=> ?_) AllReadyH.nil;go_simp
 go_at_call 13
 refine Calls.mono (CR1.out _ HA.out) ?_;rintro e' WB ⟨U1,d1,rfl,l1,hbB⟩;have HB:Hid (Below w1.heap.size w1 WB):=HA.out.trans (hbB.mono HA.out.size);have HU1:Hid _:=l1;clear l1;clear hbB
 go_wp2_with fail
 refine hK.out _ _ ?_ (λhT4=> ?_)
 ·exact HSS.out _ HB.out
 clear hK K
 first|refine Nt.normS 20 rfl ?_|skip
 first|(simp only[List.set_cons_succ,List.set_cons_zero])|skip
 refine wpAnyH_ready (rs:= [6]) (by kernel_rfl) (by simp) ?_;refine AllReadyH.cons rfl (λK hK=> ?_) AllReadyH.nil;go_simp
 go_at_call 13
 refine Calls.mono (CR2.out _ HB.out) ?_;rintro e' WC ⟨V1,d2,rfl,l2,hbC⟩;have HC:Hid (Below w1.heap.size w1 WC):=HB.out.trans (hbC.mono HB.out.size);have HCS:Hid (Calls Tryz.prog 17 #[.agg (Ac.row S U1),.agg (Ac.row T V1)] WC λe w'=>Ak.Told (S=T) e/\Below WC.heap.size WC w'):=Tryz.r16Same_any d1 S T U1 V1 e e' d2 WC.heap.size WC (HU1.out WC hbC) (l2 WC (Below.refl _ _)) (Nat.le_refl _) HF.out.1 HF.out.2;clear l2;clear hbC
 go_wp2_with fail
 refine hK.out _ _ ?_ (λhT6=> ?_)
 ·exact HSS.out _ HC.out
 clear hK K
 first|refine Nt.normS 22 rfl ?_|skip
 first|(simp only[List.set_cons_succ,List.set_cons_zero])|skip
 refine wpAnyH_ready (rs:= [7]) (by kernel_rfl) (by simp) ?_;refine AllReadyH.cons rfl (λK hK=> ?_) AllReadyH.nil;go_simp
 go_at_call 17
 refine Calls.mono (HCS.out) ?_;rintro e' WD ⟨⟨r2,rfl,hr2⟩,hbD⟩;have HD:Hid (Below w1.heap.size w1 WD):=HC.out.trans (hbD.mono HC.out.size);obtain rfl:r1=r2:=by rw[Bool.eq_iff_iff,HR1.out,hr2]
 clear hr2;clear hbD
 go_wp2_with fail
 refine hK.out _ _ ?_ (λhT7=> ?_)
 ·exact HSS.out _ HD.out
 clear hK K
 first|refine Nt.normS 23 rfl ?_|skip
 first|(simp only[List.set_cons_succ,List.set_cons_zero])|skip
 refine Nt.takeS (v:= ?vb8) 8 24 rfl rfl (by kernel_rfl) (by kernel_rfl) (by kernel_rfl) (λ_ _ _ h=>h) (Or.inl ⟨by rfl, ?yb8⟩) hT7 ?rb8
 case yb8=>(intro w hSw;(try dsimp only at hSw);go_simp;all_goals (with_reducible rfl))
 simp only[List.set_cons_succ,List.set_cons_zero];refine Nt.takeS (v:= ?vb9) 9 25 rfl rfl (by kernel_rfl) (by kernel_rfl) (by kernel_rfl) (λ_ _ _ h=>h) (Or.inl ⟨by rfl, ?yb9⟩) hT7 ?rb9
 case yb9=>(intro w hSw;(try dsimp only at hSw);go_simp;all_goals (with_reducible rfl))
 simp only[List.set_cons_succ,List.set_cons_zero];refine Nt.takeS (v:=.agg ys) 10 26 rfl rfl (by kernel_rfl) (by kernel_rfl) (by kernel_rfl) (λ_ _ _ h=>h) (yieldsIf_load_mid (by rfl) 32 _ rfl (w.heap.size+1) 0 rfl ys.toList _ (λ_ hw=>hw.2) ha rfl ily) hT7 ?_;simp only[List.set_cons_succ,List.set_cons_zero];refine Nt.takeS (v:=.agg ys) 11 27 rfl rfl (by kernel_rfl) (by kernel_rfl) (by kernel_rfl) (λ_ _ _ h=>h) (yieldsIf_load_mid (by rfl) 32 _ rfl (w.heap.size+1) 0 rfl ys.toList _ (λ_ hw=>hw.2) ha rfl ily) hT7 ?_;simp only[List.set_cons_succ,List.set_cons_zero];refine wpAnyH_ready (rs:= [12]) (by kernel_rfl) (by simp) ?_;refine AllReadyH.cons rfl (λK hK=> ?_) AllReadyH.nil;go_simp
 go_at_call 20
 refine Calls.mono (CQ.out _ HD.out) ?_;rintro e' WE ⟨rfl,hbE⟩;have HE:Hid (Below w1.heap.size w1 WE):=HD.out.trans (hbE.mono HD.out.size);clear hbE
 go_wp2_with fail
 refine hK.out _ _ ?_ (λhT12=> ?_)
 ·exact HSS.out _ HE.out
 clear hK K
 first|refine Nt.normS 28 rfl ?_|skip
 first|(simp only[List.set_cons_succ,List.set_cons_zero])|skip
 refine Nt.takeS (v:= ?vc13) 13 29 rfl rfl (by kernel_rfl) (by kernel_rfl) (by kernel_rfl) (λ_ _ _ h=>h) (Or.inl ⟨by rfl, ?yc13⟩) hT12 ?rc13
 case yc13=>(intro w hSw;(try dsimp only at hSw);go_simp;all_goals (with_reducible rfl))
 simp only[List.set_cons_succ,List.set_cons_zero];refine Nt.takeS (v:= ?vc14) 14 30 rfl rfl (by kernel_rfl) (by kernel_rfl) (by kernel_rfl) (λ_ _ _ h=>h) (Or.inl ⟨by rfl, ?yc14⟩) hT12 ?rc14
 case yc14=>(intro w hSw;(try dsimp only at hSw);go_simp;all_goals (with_reducible rfl))
 simp only[List.set_cons_succ,List.set_cons_zero];refine wpAnyH_ready (rs:= [15]) (by kernel_rfl) (by simp) ?_;refine AllReadyH.cons rfl (λK hK=> ?_) AllReadyH.nil;go_simp
 go_at_call 10
 refine Calls.mono (HS.out _ (HX.out _ HE.out).2.2) ?_;rintro e' WF ⟨rfl,hbF⟩;have HG:Hid (Below w1.heap.size w1 WF):=HE.out.trans (hbF.mono HE.out.size);clear hbF
 go_wp2_with fail
 refine hK.out _ _ ?_ (λhT15=> ?_)
 ·exact HSS.out _ HG.out
 clear hK K
 first|refine Nt.normS 31 rfl ?_|skip
 first|(simp only[List.set_cons_succ,List.set_cons_zero])|skip
 refine Nt.takeS (v:= ?vd16) 16 32 rfl rfl (by kernel_rfl) (by kernel_rfl) (by kernel_rfl) (λ_ _ _ h=>h) (Or.inl ⟨by rfl, ?yd16⟩) hT15 ?rd16
 case yd16=>(intro w hSw;(try dsimp only at hSw);go_simp;all_goals (with_reducible rfl))
 simp only[List.set_cons_succ,List.set_cons_zero];refine Nt.takeS (v:= ?vd17) 17 4 rfl rfl (by kernel_rfl) (by kernel_rfl) (by kernel_rfl) (λ_ _ _ h=>h) (Or.inl ⟨by rfl, ?yd17⟩) hT15 ?rd17
 case yd17=>(intro w hSw;(try dsimp only at hSw);go_simp;all_goals (with_reducible rfl))
 simp only[List.set_cons_succ,List.set_cons_zero];refine wpAnyH_done (by kernel_rfl) ?_ _;go_wp2;go_ret;exact⟨rfl,(HX.out _ HG.out).2.2⟩
end Go.Proofs.YtenaelpdnccgnaaGreatDoor.BpelSame
namespace Go.Proofs.YtenaelpdnccgnaaGreatDoor.BpelSame
open Go.ChangeShapes Go.WideShapes Go.ChangeAt Go.RowKit
theorem own:ownKnob Tryz.prog.godebug=none:=by kernel_rfl
theorem contract (H:Type)(enc:TypeId×Value->H)(W:World)(base:Nat)(args:Array Value)(ds gs:List (DataW H))(before:List MemPlace)(vt:List TypeId)
  (hval:∀(j:Nat) t v,Tryz.f6.params[j]? =some t->args[j]? =some v->Value.okWide Tryz.prog W .any base t v)
  (hW:DataW.Whole enc Tryz.prog Tryz.f6.params.toList Rows.bpelSameSpec.vars false W args.toList ds gs before)
  (hwt:(DataW.weightsEach Tryz.prog (Tryz.f6.params.toList++vt) (ds++gs)).all (· <=reachBytes)=true) (hL:laidMetH Tryz.prog Rows.bpelSameRow.laid W):
  Calls Tryz.prog 6 args W λe W'=>∃v,e=.returned v/\Rows.bpelSameSpec.post enc Tryz.prog Tryz.f6 false true false false W args v W':=by
 have hW':=hW;obtain⟨p,q,hA0,hV,rfl,hfz,hnd⟩:=hW;have hA:DataW.TrodAll enc Tryz.prog W 0 (λ_=>true) true Tryz.f6.params.toList args.toList ds p:=hA0;obtain⟨rfl,rfl⟩:=trodVars_none hV;have hlt:∀x∈p,x.block<W.heap.size:=λx hx=>hW'.lt x (List.mem_append_left _ hx);have hargs:∀W',Below W.heap.size W W'->DataW.TrodAll enc Tryz.prog W' 0 (λb=>decide (b<W.heap.size)) true Tryz.f6.params.toList args.toList ds p:=λW' hb=>Fk.trodAll_below hb (by kernel_rfl) hA0 hlt;rw[Tryz.params6]at hA hval hwt;clear hA0;obtain⟨v0,vs0,d0,ds0,p0,q0,hargs0,rfl,rfl,h0,r0⟩:=trodAll_cons hA;obtain⟨v1,vs1,d1,ds1,p1,q1,rfl,rfl,rfl,h1,r1⟩:=trodAll_cons r0;obtain⟨rfl,rfl,rfl⟩:=trodAll_nil r1;obtain rfl:args=#[v0,v1]:=by cases args;simp_all
 obtain⟨S,U,e,d,rfl,hS⟩:=Ac.open_act (hval 0 32 v0 rfl rfl) h0;obtain⟨T,V,e',d',rfl,hT⟩:=Ac.open_act (hval 1 32 v1 rfl rfl) h1;refine(walk S T U V e d e' d' W hS hT (ops_of_laid hL)).mono λe W' ⟨he,hb⟩=> ?_;subst he;exact⟨_,rfl,_,_,_, [],_, [],hW',trodAll_cons_mk (shut_bool Tryz.underlying4 _) trodAll_mk0,hargs W' hb,rfl,hb.frame _,λh=>by cases h⟩
noncomputable def laidWorld (os:Os):World:= {World.holding Tryz.prog os ⟨#[],#[], []⟩with heap:=(World.holding Tryz.prog os ⟨#[],#[], []⟩).heap.modify 0 fun| .cells _ t frozen=> .cells Tk.opVals t frozen|o=>o}
theorem laid_met (os:Os):laidMet Tryz.prog Rows.bpelSameRow.laid ((laidWorld os).forCall (λ_ _=>0) ⟨#[],#[.agg #[.int .i64 0,.int .i64 0,.int .i64 0,.int .i64 0,.int .i64 0,.int .i64 0,.slice none 0 0,.slice none 0 0,.slice none 0 0,.slice none 0 0,.slice none 0 0,.slice none 0 0],.agg #[.int .i64 0,.int .i64 0,.int .i64 0,.int .i64 0,.int .i64 0,.int .i64 0,.slice none 0 0,.slice none 0 0,.slice none 0 0,.slice none 0 0,.slice none 0 0,.slice none 0 0]], []⟩).memory:=
 laidMet_of_run' 8 (by kernel_rfl) (by kernel_rfl)
theorem reads (os:Os){H:Type}(enc:TypeId×Value->H):∃places,DataW.whole enc Tryz.prog ((laidWorld os).forCall (λ_ _=>0) ⟨#[],#[.agg #[.int .i64 0,.int .i64 0,.int .i64 0,.int .i64 0,.int .i64 0,.int .i64 0,.slice none 0 0,.slice none 0 0,.slice none 0 0,.slice none 0 0,.slice none 0 0,.slice none 0 0],.agg #[.int .i64 0,.int .i64 0,.int .i64 0,.int .i64 0,.int .i64 0,.int .i64 0,.slice none 0 0,.slice none 0 0,.slice none 0 0,.slice none 0 0,.slice none 0 0,.slice none 0 0]], []⟩).memory Tryz.f6.params.toList Rows.bpelSameSpec.vars false (#[.agg #[.int .i64 0,.int .i64 0,.int .i64 0,.int .i64 0,.int .i64 0,.int .i64 0,.slice none 0 0,.slice none 0 0,.slice none 0 0,.slice none 0 0,.slice none 0 0,.slice none 0 0],.agg #[.int .i64 0,.int .i64 0,.int .i64 0,.int .i64 0,.int .i64 0,.int .i64 0,.slice none 0 0,.slice none 0 0,.slice none 0 0,.slice none 0 0,.slice none 0 0,.slice none 0 0]]:Array Value).toList 8=some ([.agg [.lit (.int .i64 0),.lit (.int .i64 0),.lit (.int .i64 0),.lit (.int .i64 0),.agg [.lit (.int .i64 0),.lit (.int .i64 0),.nil],.nil,.nil,.nil,.agg [.nil,.nil]],.agg [.lit (.int .i64 0),.lit (.int .i64 0),.lit (.int .i64 0),.lit (.int .i64 0),.agg [.lit (.int .i64 0),.lit (.int .i64 0),.nil],.nil,.nil,.nil,.agg [.nil,.nil]]], [],places):=
 ⟨[],by kernel_rfl⟩
theorem lifted (os:Os)(started:os.Started)(H:Type)(enc:TypeId×Value->H)(F:Stop.Interp):
  ReturnsInHanded {} Tryz.checked os 6 .any ((OpenSpec.ofChange Rows.bpelSameSpec).preRow enc Tryz.prog Tryz.f6 Rows.bpelSameRow.domain false Rows.bpelSameRow.laid) (((OpenSpec.ofChange Rows.bpelSameSpec).at F).post enc Tryz.prog Tryz.f6 false true false false):=by
 obtain⟨places,hx⟩:=reads os enc
 refine returnsInHanded_of_row (C:=Tryz.checked) (s:=OpenSpec.ofChange Rows.bpelSameSpec) own started (by kernel_rfl) Tryz.func6
  (witness_row_at (enc:=enc) (C:=Tryz.checked) false (laidWorld os) #[.agg #[.int .i64 0,.int .i64 0,.int .i64 0,.int .i64 0,.int .i64 0,.int .i64 0,.slice none 0 0,.slice none 0 0,.slice none 0 0,.slice none 0 0,.slice none 0 0,.slice none 0 0],.agg #[.int .i64 0,.int .i64 0,.int .i64 0,.int .i64 0,.int .i64 0,.int .i64 0,.slice none 0 0,.slice none 0 0,.slice none 0 0,.slice none 0 0,.slice none 0 0,.slice none 0 0]] rfl (by kernel_rfl) (by kernel_rfl) (by kernel_rfl)
   (OpenSpec.preRow_of_cond 8 hx (by kernel_rfl) (λk hk=>by cases hk) (by kernel_rfl) (laid_met os))) ?_
 intro W base args ds gs before hval hW _ _ hwt hL _ _;exact contract H enc W base args ds gs before _ hval hW hwt hL
theorem said:Rows.BpelSameSaid:=
 OpenClaim.holds_of_cond 6 Tryz.f6 rfl rfl rfl rfl rfl rfl rfl ⟨rfl,rfl,rfl,rfl,rfl⟩ rfl rfl rfl rfl rfl (by kernel_rfl) Tryz.func6 (by kernel_rfl)
  (of_decide_eq_true (by kernel_rfl)) (by unfold Func.isWrapper;first|(rw[if_pos (by decide+kernel)];kernel_rfl)|(rw[if_neg (by decide+kernel)];exact⟨rfl,rfl⟩))
  (λos started H enc _ F=>by rw[OpenClaim.pre_eq_preRow];exact lifted os started H enc F)
theorem plain (f:FuncId)(fn:Func)(hf:Tryz.pinned.checked.prog.funcNamed "treenail/treenaillaw16.BpelSame" =some f)(hfn:Tryz.pinned.checked.prog.funcs[f]? =some fn):
  false=Tryz.pinned.checked.prog.looks []/\∀(j:Nat) t,fn.params[j]? =some t->Tryz.pinned.checked.prog.wantsStandIn t=false:=by
 obtain rfl:f=6:=Option.some.inj ((show Tryz.prog.funcNamed "treenail/treenaillaw16.BpelSame" =some 6 by kernel_rfl).symm.trans hf)|>.symm
 obtain rfl:fn=Tryz.f6:=(Option.some.inj (Tryz.func6.symm.trans hfn)).symm;refine⟨by kernel_rfl,λj t ht=> ?_⟩;have hall:(Tryz.f6.params.toList.all λt=>Tryz.prog.wantsStandIn t==false)=true:=by kernel_rfl
 have:=List.all_eq_true.1 hall t (Array.mem_toList_iff.2 (Array.mem_of_getElem? ht));exact(show Tryz.prog.wantsStandIn t=false by simpa using this)
theorem card:Rows.BpelSameCardSaid:=
 Claim7.holds_tied_plain_at .later [] _ _ _ _ said (λ_ h=>by cases h) (by kernel_rfl) (λ_ h=>by cases h) bpelSame_row_tie rfl ⟨rfl,rfl⟩ (by kernel_rfl) rfl plain (by kernel_rfl)
end Go.Proofs.YtenaelpdnccgnaaGreatDoor.BpelSame
namespace Go.Proofs.YtenaelpdnccgnaaGreatDoor
theorem bpelSame_card:Rows.BpelSameCardSaid:=BpelSame.card
end Go.Proofs.YtenaelpdnccgnaaGreatDoor
