import Derived.Test.YtenaelpdnccgnaaGreatDoorRNtTake
set_option maxRecDepth 100000
set_option maxHeartbeats 32000000
namespace Go.Proofs
open Go.RowKit Go.Shelf
theorem Bw.infoPtr:(Tryz.prog.info? 96).map (λi=>(i.zero,i.size,i.bytes))=some (some (.pointer none),1,8):=by kernel_rfl
theorem Tryz.bwOwn_leaf (g o:Nat)(k nd:Int)(B n cap:Nat)(a:Option Addr)(xs:List Value)(w:World)(hA:Bw.At g o (Bw.leaf k nd) w)(hv:w.ownsRow B 96 1 (.slice a n cap) n xs)(hn:n<=100)(hB:B<=w.heap.size)(hg:∀b,(Value.slice a n cap).ownBlock=some b->b≠g):
  Calls Tryz.prog 55 #[.pointer (some ⟨g,o,none⟩),.slice a n cap] w λe w'=>∃g' c,e=.returned (.slice (some ⟨g',0,none⟩) (n+1) c)/\w'.ownsRow B 96 1 (.slice (some ⟨g',0,none⟩) (n+1) c) (n+1) (xs++ [.pointer (some ⟨g,o+4,none⟩)])/\w.grownBy w' (Value.slice a n cap).ownBlock/\((Value.slice a n cap).ownBlock=some g'∨w.heap.size<=g'):=by
 have c7:w.cell? ⟨g,o+7,none⟩=some (.slice none 0 0):=hA.cell 7 (by decide);have c8:w.cell? ⟨g,o+8,none⟩=some (.slice none 0 0):=hA.cell 8 (by decide);have c9:w.cell? ⟨g,o+9,none⟩=some (.slice none 0 0):=hA.cell 9 (by decide);have f7:w.drew.frozen? ⟨g,o+7,none⟩=false:=hA.frozen (o+7);have f8:w.drew.frozen? ⟨g,o+8,none⟩=false:=hA.frozen (o+8);have f9:w.drew.frozen? ⟨g,o+9,none⟩=false:=hA.frozen (o+9);have e7:w.drew.cell? ⟨g,o+7,none⟩=some (.slice none 0 0):=c7;have e8:w.drew.cell? ⟨g,o+8,none⟩=some (.slice none 0 0):=c8;have e9:w.drew.cell? ⟨g,o+9,none⟩=some (.slice none 0 0):=c9;have hs7:w.drew.setCell ⟨g,o+7,none⟩ (.slice none 0 0)=w.drew:=(hA.keep (W':=w.drew) rfl).same (by decide) rfl;have hs8:w.drew.setCell ⟨g,o+8,none⟩ (.slice none 0 0)=w.drew:=(hA.keep (W':=w.drew) rfl).same (by decide) rfl;have hs9:w.drew.setCell ⟨g,o+9,none⟩ (.slice none 0 0)=w.drew:=(hA.keep (W':=w.drew) rfl).same (by decide) rfl;have HS:Hid (w.cell? ⟨g,o+7,none⟩=some (.slice none 0 0)/\w.cell? ⟨g,o+8,none⟩=some (.slice none 0 0)/\w.cell? ⟨g,o+9,none⟩=some (.slice none 0 0)):=⟨c7,c8,c9⟩
 go_enter Tryz.func55,Tryz.ntmps55
 go_upto_region 1 with fail
 refine wp_region_held_drew (S:=(λV=>V.cell? ⟨g,o+7,none⟩=some (.slice none 0 0)/\V.cell? ⟨g,o+8,none⟩=some (.slice none 0 0)/\V.cell? ⟨g,o+9,none⟩=some (.slice none 0 0))) (by kernel_rfl) ?_ (λhHeld=> ?_)
 ·exact HS.out
 refine Nt.takeS (v:= ?va0) 0 9 rfl rfl (by kernel_rfl) (by kernel_rfl) (by kernel_rfl) (λ_ _ _ h=>h) (Or.inl ⟨by rfl, ?ya0⟩) hHeld ?ra0
 case ya0=>(intro w hSw;(try dsimp only at hSw);go_simp;all_goals (with_reducible rfl))
 simp only[List.set_cons_succ,List.set_cons_zero];refine Nt.takeS (v:= ?va1) 1 10 rfl rfl (by kernel_rfl) (by kernel_rfl) (by kernel_rfl) (λ_ _ _ h=>h) (Or.inl ⟨by rfl, ?ya1⟩) hHeld ?ra1
 case ya1=>(intro w hSw;(try dsimp only at hSw);go_simp;all_goals (with_reducible rfl))
 simp only[List.set_cons_succ,List.set_cons_zero];refine Nt.takeS (v:= ?va2) 2 11 rfl rfl (by kernel_rfl) (by kernel_rfl) (by kernel_rfl) (λ_ _ _ h=>h) (Or.inl ⟨by rfl, ?ya2⟩) hHeld ?ra2
 case ya2=>(intro w hSw;(try dsimp only at hSw);go_simp;all_goals (with_reducible rfl))
 simp only[List.set_cons_succ,List.set_cons_zero];refine Nt.takeS (v:= ?va3) 3 12 rfl rfl (by kernel_rfl) (by kernel_rfl) (by kernel_rfl) (λ_ _ _ h=>h) (Or.inl ⟨by rfl, ?ya3⟩) hHeld ?ra3
 case ya3=>(intro w hSw;(try dsimp only at hSw);go_simp;all_goals (with_reducible rfl))
 simp only[List.set_cons_succ,List.set_cons_zero];refine Nt.takeS (v:= ?va4) 4 13 rfl rfl (by kernel_rfl) (by kernel_rfl) (by kernel_rfl) (λ_ _ _ h=>h) (Or.inl ⟨by rfl, ?ya4⟩) hHeld ?ra4
 case ya4=>(intro w hSw;(try dsimp only at hSw);go_simp;all_goals (with_reducible rfl))
 simp only[List.set_cons_succ,List.set_cons_zero];refine Nt.takeS (v:= ?va5) 5 14 rfl rfl (by kernel_rfl) (by kernel_rfl) (by kernel_rfl) (λ_ _ _ h=>h) (Or.inl ⟨by rfl, ?ya5⟩) hHeld ?ra5
 case ya5=>(intro w hSw;(try dsimp only at hSw);go_simp;all_goals (with_reducible rfl))
 simp only[List.set_cons_succ,List.set_cons_zero];refine Nt.takeS (v:= ?va6) 6 15 rfl rfl (by kernel_rfl) (by kernel_rfl) (by kernel_rfl) (λ_ _ _ h=>h) (Or.inl ⟨by rfl, ?ya6⟩) hHeld ?ra6
 case ya6=>(intro w hSw;(try dsimp only at hSw);go_simp;all_goals (with_reducible rfl))
 simp only[List.set_cons_succ,List.set_cons_zero];refine Nt.takeS (v:= ?va8) 8 17 rfl rfl (by kernel_rfl) (by kernel_rfl) (by kernel_rfl) (λ_ _ _ h=>h) (Or.inl ⟨by rfl, ?ya8⟩) hHeld ?ra8
 case ya8=>(intro w hSw;(try dsimp only at hSw);go_simp;all_goals (with_reducible rfl))
 simp only[List.set_cons_succ,List.set_cons_zero];refine Nt.takeS (v:= ?va9) 9 18 rfl rfl (by kernel_rfl) (by kernel_rfl) (by kernel_rfl) (λ_ _ _ h=>h) (Or.inl ⟨by rfl, ?ya9⟩) hHeld ?ra9
 case ya9=>(intro w hSw;(try dsimp only at hSw);go_simp;all_goals (with_reducible rfl))
 simp only[List.set_cons_succ,List.set_cons_zero];refine Nt.takeS (v:= ?va10) 10 19 rfl rfl (by kernel_rfl) (by kernel_rfl) (by kernel_rfl) (λ_ _ _ h=>h) (Or.inl ⟨by rfl, ?ya10⟩) hHeld ?ra10
 case ya10=>(intro w hSw;(try dsimp only at hSw);go_simp;all_goals (with_reducible rfl))
 simp only[List.set_cons_succ,List.set_cons_zero];refine Nt.takeS (v:= ?va11) 11 20 rfl rfl (by kernel_rfl) (by kernel_rfl) (by kernel_rfl) (λ_ _ _ h=>h) (Or.inl ⟨by rfl, ?ya11⟩) hHeld ?ra11
 case ya11=>(intro w hSw;(try dsimp only at hSw);go_simp;all_goals (with_reducible rfl))
 simp only[List.set_cons_succ,List.set_cons_zero];refine Nt.takeS (v:= ?va13) 13 22 rfl rfl (by kernel_rfl) (by kernel_rfl) (by kernel_rfl) (λ_ _ _ h=>h) (Or.inl ⟨by rfl, ?ya13⟩) hHeld ?ra13
 case ya13=>(intro w hSw;(try dsimp only at hSw);go_simp;all_goals (with_reducible rfl))
 simp only[List.set_cons_succ,List.set_cons_zero];refine Nt.takeS (v:= ?va14) 14 23 rfl rfl (by kernel_rfl) (by kernel_rfl) (by kernel_rfl) (λ_ _ _ h=>h) (Or.inl ⟨by rfl, ?ya14⟩) hHeld ?ra14
 case ya14=>(intro w hSw;(try dsimp only at hSw);go_simp;all_goals (with_reducible rfl))
 simp only[List.set_cons_succ,List.set_cons_zero];refine Nt.takeS (v:= ?va15) 15 24 rfl rfl (by kernel_rfl) (by kernel_rfl) (by kernel_rfl) (λ_ _ _ h=>h) (Or.inl ⟨by rfl, ?ya15⟩) hHeld ?ra15
 case ya15=>(intro w hSw;(try dsimp only at hSw);go_simp;all_goals (with_reducible rfl))
 simp only[List.set_cons_succ,List.set_cons_zero];refine Nt.takeS (v:= ?va16) 16 25 rfl rfl (by kernel_rfl) (by kernel_rfl) (by kernel_rfl) (λ_ _ _ h=>h) (Or.inl ⟨by rfl, ?ya16⟩) hHeld ?ra16
 case ya16=>(intro w hSw;(try dsimp only at hSw);go_simp;all_goals (with_reducible rfl))
 simp only[List.set_cons_succ,List.set_cons_zero];refine wpAnyH_ready (rs:= [7]) (by kernel_rfl) (by simp) ?_;refine AllReadyH.cons rfl (λK hK=> ?_) AllReadyH.nil;go_simp
 go_at_call 80
 refine Calls.mono (Tryz.cloneTerm_nil _ 0) ?_;rintro e' W' ⟨rfl,hw⟩;obtain rfl:=hw.symm
 go_wp2_with fail
 refine hK.out _ _ ?_ (λhT7=> ?_)
 ·exact HS.out
 clear hK K
 first|refine Nt.normS 16 rfl ?_|skip
 first|(simp only[List.set_cons_succ,List.set_cons_zero])|skip
 refine wpAnyH_ready (rs:= [12]) (by kernel_rfl) (by simp) ?_;refine AllReadyH.cons rfl (λK hK=> ?_) AllReadyH.nil;go_simp
 go_at_call 81
 refine Calls.mono (Tryz.cloneAct_nil _ 0) ?_;rintro e' W' ⟨rfl,hw⟩;obtain rfl:=hw.symm
 go_wp2_with fail
 refine hK.out _ _ ?_ (λhT12=> ?_)
 ·exact HS.out
 clear hK K
 first|refine Nt.normS 21 rfl ?_|skip
 first|(simp only[List.set_cons_succ,List.set_cons_zero])|skip
 refine wpAnyH_ready (rs:= [17]) (by kernel_rfl) (by simp) ?_;refine AllReadyH.cons rfl (λK hK=> ?_) AllReadyH.nil;go_simp
 go_at_call 82
 refine Calls.mono (Tryz.cloneLink_nil _ 0) ?_;rintro e' W' ⟨rfl,hw⟩;obtain rfl:=hw.symm
 go_wp2_with fail
 refine hK.out _ _ ?_ (λhT17=> ?_)
 ·exact HS.out
 clear hK K
 first|refine Nt.normS 26 rfl ?_|skip
 first|(simp only[List.set_cons_succ,List.set_cons_zero])|skip
 refine Nt.takeS (v:= ?vb18) 18 27 rfl rfl (by kernel_rfl) (by kernel_rfl) (by kernel_rfl) (λ_ _ _ h=>h) (Or.inl ⟨by rfl, ?yb18⟩) hT17 ?rb18
 case yb18=>(intro w hSw;(try dsimp only at hSw);go_simp;all_goals (with_reducible rfl))
 simp only[List.set_cons_succ,List.set_cons_zero];refine Nt.takeS (v:= ?vb19) 19 28 rfl rfl (by kernel_rfl) (by kernel_rfl) (by kernel_rfl) (λ_ _ _ h=>h) (Or.inl ⟨by rfl, ?yb19⟩) hT17 ?rb19
 case yb19=>(intro w hSw;(try dsimp only at hSw);go_simp;all_goals (with_reducible rfl))
 simp only[List.set_cons_succ,List.set_cons_zero];refine wpAnyH_ready (rs:= [20]) (by kernel_rfl) (by simp) ?_;refine AllReadyH.cons rfl (λK hK=> ?_) AllReadyH.nil;go_simp;refine hK.out _ _ ?_ (λhT20=> ?_)
 ·exact HS.out
 clear hK K;refine Nt.takeS (v:= ?vc21) 21 29 rfl rfl (by kernel_rfl) (by kernel_rfl) (by kernel_rfl) (λ_ _ _ h=>h) (Or.inl ⟨by rfl, ?yc21⟩) hT20 ?rc21
 case yc21=>(intro w hSw;(try dsimp only at hSw);go_simp;all_goals (with_reducible rfl))
 simp only[List.set_cons_succ,List.set_cons_zero];refine Nt.takeS (v:= ?vc22) 22 30 rfl rfl (by kernel_rfl) (by kernel_rfl) (by kernel_rfl) (λ_ _ _ h=>h) (Or.inl ⟨by rfl, ?yc22⟩) hT20 ?rc22
 case yc22=>(intro w hSw;(try dsimp only at hSw);go_simp;all_goals (with_reducible rfl))
 simp only[List.set_cons_succ,List.set_cons_zero];refine wpAnyH_ready (rs:= [23]) (by kernel_rfl) (by simp) ?_;refine AllReadyH.cons rfl (λK hK=> ?_) AllReadyH.nil;go_simp;refine hK.out _ _ ?_ (λhT23=> ?_)
 ·exact HS.out
 clear hK K;refine Nt.takeS (v:= ?vd24) 24 31 rfl rfl (by kernel_rfl) (by kernel_rfl) (by kernel_rfl) (λ_ _ _ h=>h) (Or.inl ⟨by rfl, ?yd24⟩) hT23 ?rd24
 case yd24=>(intro w hSw;(try dsimp only at hSw);go_simp;all_goals (with_reducible rfl))
 simp only[List.set_cons_succ,List.set_cons_zero];refine Nt.takeS (v:= ?vd25) 25 32 rfl rfl (by kernel_rfl) (by kernel_rfl) (by kernel_rfl) (λ_ _ _ h=>h) (Or.inl ⟨by rfl, ?yd25⟩) hT23 ?rd25
 case yd25=>(intro w hSw;(try dsimp only at hSw);go_simp;all_goals (with_reducible rfl))
 simp only[List.set_cons_succ,List.set_cons_zero];refine wpAnyH_ready (rs:= [26]) (by kernel_rfl) (by simp) ?_;refine AllReadyH.cons rfl (λK hK=> ?_) AllReadyH.nil;go_simp;refine hK.out _ _ ?_ (λhT26=> ?_)
 ·exact HS.out
 clear hK K;refine wpAnyH_done (by kernel_rfl) ?_ _;have HA:Hid (Bw.At g o (Bw.leaf k nd) w):=hA;obtain⟨wd,hwd⟩:=pE w.drew;rw[hwd];have HD:Hid (wd.heap=w.heap/\wd.os=w.os/\wd.tape=w.tape/\wd.output=w.output):=by rw[<-hwd];exact⟨rfl,rfl,rfl,rfl⟩
 have hAd:Bw.At g o (Bw.leaf k nd) wd:=hA.keep (by rw[HD.out.1]);have HS2:Hid (wd.cell? ⟨g,o+10,none⟩=some (.slice none 0 0)/\wd.cell? ⟨g,o+11,none⟩=some (.slice none 0 0)):=⟨hAd.cell 10 (by decide),hAd.cell 11 (by decide)⟩;have e10:wd.drew.cell? ⟨g,o+10,none⟩=some (.slice none 0 0):=HS2.out.1;have e11:wd.drew.cell? ⟨g,o+11,none⟩=some (.slice none 0 0):=HS2.out.2;have f10:wd.drew.frozen? ⟨g,o+10,none⟩=false:=hAd.frozen (o+10);have f11:wd.drew.frozen? ⟨g,o+11,none⟩=false:=hAd.frozen (o+11);have hs10:wd.drew.setCell ⟨g,o+10,none⟩ (.slice none 0 0)=wd.drew:=(hAd.keep (W':=wd.drew) rfl).same (by decide) rfl;have hs11:wd.drew.setCell ⟨g,o+11,none⟩ (.slice none 0 0)=wd.drew:=(hAd.keep (W':=wd.drew) rfl).same (by decide) rfl;clear c7 c8 c9 f7 f8 f9 e7 e8 e9 hs7 hs8 hs9 hwd hT7 hT12 hT17 hT20 hT23 hT26 hHeld hA HS
 go_upto_region 2 with fail
 refine wp_region_held_drew (S:=(λV=>V.cell? ⟨g,o+10,none⟩=some (.slice none 0 0)/\V.cell? ⟨g,o+11,none⟩=some (.slice none 0 0))) (by kernel_rfl) ?_ (λhHeld=> ?_)
 ·exact HS2.out
 refine Nt.takeS (v:= ?ve0) 0 33 rfl rfl (by kernel_rfl) (by kernel_rfl) (by kernel_rfl) (λ_ _ _ h=>h) (Or.inl ⟨by rfl, ?ye0⟩) hHeld ?re0
 case ye0=>(intro w hSw;(try dsimp only at hSw);go_simp;all_goals (with_reducible rfl))
 simp only[List.set_cons_succ,List.set_cons_zero];refine Nt.takeS (v:= ?ve1) 1 34 rfl rfl (by kernel_rfl) (by kernel_rfl) (by kernel_rfl) (λ_ _ _ h=>h) (Or.inl ⟨by rfl, ?ye1⟩) hHeld ?re1
 case ye1=>(intro w hSw;(try dsimp only at hSw);go_simp;all_goals (with_reducible rfl))
 simp only[List.set_cons_succ,List.set_cons_zero];refine Nt.takeS (v:= ?ve2) 2 35 rfl rfl (by kernel_rfl) (by kernel_rfl) (by kernel_rfl) (λ_ _ _ h=>h) (Or.inl ⟨by rfl, ?ye2⟩) hHeld ?re2
 case ye2=>(intro w hSw;(try dsimp only at hSw);go_simp;all_goals (with_reducible rfl))
 simp only[List.set_cons_succ,List.set_cons_zero];refine Nt.takeS (v:= ?ve3) 3 36 rfl rfl (by kernel_rfl) (by kernel_rfl) (by kernel_rfl) (λ_ _ _ h=>h) (Or.inl ⟨by rfl, ?ye3⟩) hHeld ?re3
 case ye3=>(intro w hSw;(try dsimp only at hSw);go_simp;all_goals (with_reducible rfl))
 simp only[List.set_cons_succ,List.set_cons_zero];refine Nt.takeS (v:= ?ve4) 4 37 rfl rfl (by kernel_rfl) (by kernel_rfl) (by kernel_rfl) (λ_ _ _ h=>h) (Or.inl ⟨by rfl, ?ye4⟩) hHeld ?re4
 case ye4=>(intro w hSw;(try dsimp only at hSw);go_simp;all_goals (with_reducible rfl))
 simp only[List.set_cons_succ,List.set_cons_zero];refine Nt.takeS (v:= ?ve5) 5 38 rfl rfl (by kernel_rfl) (by kernel_rfl) (by kernel_rfl) (λ_ _ _ h=>h) (Or.inl ⟨by rfl, ?ye5⟩) hHeld ?re5
 case ye5=>(intro w hSw;(try dsimp only at hSw);go_simp;all_goals (with_reducible rfl))
 simp only[List.set_cons_succ,List.set_cons_zero];refine Nt.takeS (v:= ?ve7) 7 40 rfl rfl (by kernel_rfl) (by kernel_rfl) (by kernel_rfl) (λ_ _ _ h=>h) (Or.inl ⟨by rfl, ?ye7⟩) hHeld ?re7
 case ye7=>(intro w hSw;(try dsimp only at hSw);go_simp;all_goals (with_reducible rfl))
 simp only[List.set_cons_succ,List.set_cons_zero];refine Nt.takeS (v:= ?ve8) 8 41 rfl rfl (by kernel_rfl) (by kernel_rfl) (by kernel_rfl) (λ_ _ _ h=>h) (Or.inl ⟨by rfl, ?ye8⟩) hHeld ?re8
 case ye8=>(intro w hSw;(try dsimp only at hSw);go_simp;all_goals (with_reducible rfl))
 simp only[List.set_cons_succ,List.set_cons_zero];refine Nt.takeS (v:= ?ve9) 9 42 rfl rfl (by kernel_rfl) (by kernel_rfl) (by kernel_rfl) (λ_ _ _ h=>h) (Or.inl ⟨by rfl, ?ye9⟩) hHeld ?re9
 case ye9=>(intro w hSw;(try dsimp only at hSw);go_simp;all_goals (with_reducible rfl))
 simp only[List.set_cons_succ,List.set_cons_zero];refine Nt.takeS (v:= ?ve10) 10 43 rfl rfl (by kernel_rfl) (by kernel_rfl) (by kernel_rfl) (λ_ _ _ h=>h) (Or.inl ⟨by rfl, ?ye10⟩) hHeld ?re10
 case ye10=>(intro w hSw;(try dsimp only at hSw);go_simp;all_goals (with_reducible rfl))
 simp only[List.set_cons_succ,List.set_cons_zero];refine Nt.takeS (v:= ?ve11) 11 44 rfl rfl (by kernel_rfl) (by kernel_rfl) (by kernel_rfl) (λ_ _ _ h=>h) (Or.inl ⟨by rfl, ?ye11⟩) hHeld ?re11
 case ye11=>(intro w hSw;(try dsimp only at hSw);go_simp;all_goals (with_reducible rfl))
 simp only[List.set_cons_succ,List.set_cons_zero];refine wpAnyH_ready (rs:= [6]) (by kernel_rfl) (by simp) ?_;refine AllReadyH.cons rfl (λK hK=> ?_) AllReadyH.nil;go_simp
 go_at_call 83
 refine Calls.mono (Tryz.cloneNode_nil _ 0) ?_;rintro e' W' ⟨rfl,hw⟩;obtain rfl:=hw.symm
 go_wp2_with fail
 refine hK.out _ _ ?_ (λhT6=> ?_)
 ·exact HS2.out
 clear hK K
 first|refine Nt.normS 39 rfl ?_|skip
 first|(simp only[List.set_cons_succ,List.set_cons_zero])|skip
 refine wpAnyH_ready (rs:= [12]) (by kernel_rfl) (by simp) ?_;refine AllReadyH.cons rfl (λK hK=> ?_) AllReadyH.nil;go_simp
 go_at_call 84
 refine Calls.mono (Tryz.cloneFlow_nil _ 0) ?_;rintro e' W' ⟨rfl,hw⟩;obtain rfl:=hw.symm
 go_wp2_with fail
 refine hK.out _ _ ?_ (λhT12=> ?_)
 ·exact HS2.out
 clear hK K
 first|refine Nt.normS 45 rfl ?_|skip
 first|(simp only[List.set_cons_succ,List.set_cons_zero])|skip
 refine Nt.takeS (v:= ?vf13) 13 46 rfl rfl (by kernel_rfl) (by kernel_rfl) (by kernel_rfl) (λ_ _ _ h=>h) (Or.inl ⟨by rfl, ?yf13⟩) hT12 ?rf13
 case yf13=>(intro w hSw;(try dsimp only at hSw);go_simp;all_goals (with_reducible rfl))
 simp only[List.set_cons_succ,List.set_cons_zero];refine Nt.takeS (v:= ?vf14) 14 47 rfl rfl (by kernel_rfl) (by kernel_rfl) (by kernel_rfl) (λ_ _ _ h=>h) (Or.inl ⟨by rfl, ?yf14⟩) hT12 ?rf14
 case yf14=>(intro w hSw;(try dsimp only at hSw);go_simp;all_goals (with_reducible rfl))
 simp only[List.set_cons_succ,List.set_cons_zero];refine Nt.takeS (v:= ?vf15) 15 48 rfl rfl (by kernel_rfl) (by kernel_rfl) (by kernel_rfl) (λ_ _ _ h=>h) (Or.inl ⟨by rfl, ?yf15⟩) hT12 ?rf15
 case yf15=>(intro w hSw;(try dsimp only at hSw);go_simp;all_goals (with_reducible rfl))
 simp only[List.set_cons_succ,List.set_cons_zero];refine wpAnyH_ready (rs:= [16]) (by kernel_rfl) (by simp) ?_;refine AllReadyH.cons rfl (λK hK=> ?_) AllReadyH.nil;go_simp;refine hK.out _ _ ?_ (λhT16=> ?_)
 ·exact HS2.out
 clear hK K;refine wpAnyH_done (by kernel_rfl) ?_ _;obtain⟨wf,hwf⟩:=pE wd.drew;rw[hwf];have HDf:Hid (wf.heap=w.heap/\wf.os=w.os/\wf.tape=w.tape/\wf.output=w.output):=by rw[<-hwf];exact HD.out
 have HVf:Hid (wf.ownsRow B 96 1 (.slice a n cap) n xs):=World.ownsRow.kept (row:=none) hv ⟨HDf.out.2.1,HDf.out.2.2.1,HDf.out.2.2.2,by rw[HDf.out.1];exact Nat.le_refl _,λk _ _=>by rw[HDf.out.1]⟩ (by cases (Value.slice a n cap).ownBlock<;>simp);obtain⟨i0,hi,hz0,hz1,hz2⟩:=info_parts Bw.infoPtr;obtain⟨wg,hwg⟩:=pE (wf.alloc (.cells #[.pointer (some ⟨g,o+4,none⟩)] 96));have Ng:=pH hwg;have Bg:=pB hwg;have HVg:Hid (wg.ownsRow B 96 1 (.slice a n cap) n xs):=by show World.ownsRow _ _ _ _ _ _ _;rw[<-hwg];exact HVf.out.alloc _
 have HN:Hid (∀j u,(#[.pointer (some ⟨g,o+4,none⟩)]:Array Value).toList[j]? =some u->wg.cell? ((⟨wf.heap.size,0,none⟩:Addr).add j)=some u):=World.news_of_block Ng
 have HO:Hid (∀u∈(#[.pointer (some ⟨g,o+4,none⟩)]:Array Value).toList,u.oneCell'=true):=by
  intro u hu;obtain rfl:=List.mem_singleton.1 hu;rfl
 have hlt:=HA.out.lt;have HG:Hid (Below w.heap.size w wg/\g<w.heap.size/\B<=w.heap.size/\n<=100/\(∀b,(Value.slice a n cap).ownBlock=some b->b≠g)):=⟨⟨Bg.os.trans HDf.out.2.1,Bg.tape.trans HDf.out.2.2.1,Bg.output.trans HDf.out.2.2.2,by have:=Bg.size;rw[HDf.out.1]at this;exact this,λk hk=>(Bg.block k (by rw[HDf.out.1];exact hk)).trans (by rw[HDf.out.1])⟩,hlt,hB,hn,hg⟩;have H1:Hid _:=hwg;clear hwf hwg Ng Bg hv hlt HS2 e10 e11 f10 f11 hs10 hs11 hT6 hT12 hT16 hAd HD hg hB hHeld
 go_upto_region 4 with(at_builtin;rw[H1.out];refine wpList_append_lies _ rfl _ _ 92 rfl B 96 i0 (.pointer none) 1 8 Tryz.underlying92 hi hz0 hz1 hz2 rfl (by decide) (.slice a n cap) n xs rfl HVg.out ⟨wf.heap.size,0,none⟩ 1 1 (#[.pointer (some ⟨g,o+4,none⟩)]:Array Value).toList rfl rfl HN.out HO.out (by decide) ?c3 ?c4 ?c5 _ rfl ?_)
 case c3=>unfold maxLen;omega
 case c4=>omega
 case c5=>have:=HG.out.1.size;have:=HG.out.2.2.1;omega
 intro g' c W3 own3 g3 hg' hlt3;have hk3:W3.heap[g]? =w.heap[g]? :=(g3.block g (by have:=HG.out.1.size;have:=HG.out.2.1;omega) (λe=>HG.out.2.2.2.2 g e.symm rfl)).trans (HG.out.1.block g HG.out.2.1);have hA3:Bw.At g o (Bw.leaf k nd) W3:=HA.out.keep hk3;have p7:W3.cell? ⟨g,o+7,none⟩=some (.slice none 0 0):=hA3.cell 7 (by decide);have p8:W3.cell? ⟨g,o+8,none⟩=some (.slice none 0 0):=hA3.cell 8 (by decide);have p10:W3.cell? ⟨g,o+10,none⟩=some (.slice none 0 0):=hA3.cell 10 (by decide);have p11:W3.cell? ⟨g,o+11,none⟩=some (.slice none 0 0):=hA3.cell 11 (by decide)
 have HE:Hid (W3.ownsRow B 96 1 (.slice (some ⟨g',0,none⟩) (n+1) c) (n+1) (xs++ [.pointer (some ⟨g,o+4,none⟩)])/\w.grownBy W3 (Value.slice a n cap).ownBlock/\((Value.slice a n cap).ownBlock=some g'∨w.heap.size<=g')):=
  ⟨own3,⟨g3.os.trans HG.out.1.os,g3.tape.trans HG.out.1.tape,g3.output.trans HG.out.1.output,Nat.le_trans HG.out.1.size g3.size,λk hk he=>(g3.block k (Nat.lt_of_lt_of_le hk HG.out.1.size) he).trans (HG.out.1.block k hk)⟩,hg'.imp id λe=>by rw[e];exact HG.out.1.size⟩
 clear own3 g3 hg' hlt3 hk3 hA3 hi hz0 hz1 hz2 H1 HN HO HVg HVf HDf HA HG;go_wp2;refine wp_loop_rounds 1 ?_;rw[rounds_succ];go_wp2;refine wp_loop_rounds 1 ?_;rw[rounds_succ];go_wp2;refine wp_loop_rounds 1 ?_;rw[rounds_succ];go_wp2;refine wp_loop_rounds 1 ?_;rw[rounds_succ];go_wp2;go_ret;exact⟨g',c,rfl,HE.out⟩
end Go.Proofs
