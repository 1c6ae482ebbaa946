import Derived.Test.YtenaelpdnccgnaaGreatDoorQBwList
set_option maxRecDepth 100000
set_option maxHeartbeats 32000000
namespace Go.Proofs
open Go.RowKit Go.Shelf
structure Bw.Mid (w wc:World)(g K':Nat)(k1 n1 k2 n2:Int)(g0 n d:Nat)(ps:List Value)(W:World):Prop where
 own:W.ownsRow w.heap.size 96 1 (.slice (some ⟨g0,0,none⟩) n d) n ps
 same:W.heap[g]? =wc.heap[g]?
 a1:Bw.At K' 0 (Bw.leaf k1 n1) W
 a2:Bw.At K' 12 (Bw.leaf k2 n2) W
 but:Tk.But (λi=>i=g) w W
 nk:g0≠K'
 ng:g0≠g
 lt:g<w.heap.size
theorem Bw.Mid.big {w wc:World}{g K':Nat}{k1 n1 k2 n2:Int}{g0 n d:Nat}{ps:List Value}{W:World}(h:Bw.Mid w wc g K' k1 n1 k2 n2 g0 n d ps W):w.heap.size<=W.heap.size:=h.but.size
theorem Bw.Mid.step {w wc:World}{g K':Nat}{k1 n1 k2 n2:Int}{g0 n d g1 d1:Nat}{ps qs:List Value}{W W':World}(h:Bw.Mid w wc g K' k1 n1 k2 n2 g0 n d ps W)(ho:W'.ownsRow w.heap.size 96 1 (.slice (some ⟨g1,0,none⟩) (n+1) d1) (n+1) qs)(hg:W.grownBy W' (Value.slice (some ⟨g0,0,none⟩) n d).ownBlock)(hq:(Value.slice (some ⟨g0,0,none⟩) n d).ownBlock=some g1∨W.heap.size<=g1):Bw.Mid w wc g K' k1 n1 k2 n2 g1 (n+1) d1 qs W':=by
 have hb:(Value.slice (some ⟨g0,0,none⟩) n d).ownBlock=some g0:=rfl;have l1:=h.a1.lt;have l2:=h.big;have l3:=h.lt;have hge:w.heap.size<=g0:=(World.ownsRow.lt h.own g0 rfl).1;have hk:∀k,k<W.heap.size->k≠g0->W'.heap[k]? =W.heap[k]? :=λk hk hn=>hg.block k hk (by rw[hb];intro e;exact hn (Option.some.inj e))
 have hne:g1≠K'/\g1≠g:=by
  rcases hq with e|e
  ·rw[hb]at e
   obtain rfl:=Option.some.inj e;exact⟨h.nk,h.ng⟩
  exact⟨by omega,by omega⟩
 exact⟨ho,(hk g (by omega) (Ne.symm h.ng)).trans h.same,h.a1.keep (hk K' l1 (Ne.symm h.nk)),h.a2.keep (hk K' l1 (Ne.symm h.nk)),⟨hg.os.trans h.but.os,hg.tape.trans h.but.tape,hg.output.trans h.but.output,Nat.le_trans h.but.size hg.size,λk h1 h2=>(hk k (by omega) (by omega)).trans (h.but.block k h1 h2)⟩,hne.1,hne.2,h.lt⟩
def Bw.Kd (w wb:World)(K':Nat)(k1 n1 k2 n2:Int):Prop:=w.heap.size<=K'/\Bw.At K' 0 (Bw.leaf k1 n1) wb/\Bw.At K' 12 (Bw.leaf k2 n2) wb/\Below w.heap.size w wb
theorem Tryz.bwOwn_root (g o kb cap:Nat)(k1 n1 k2 n2:Int)(w:World)(hA:Bw.At g o (Bw.root kb cap) w)(hT:Bw.Two kb k1 n1 k2 n2 w)(hK:kb<w.heap.size):
  Calls Tryz.prog 55 #[.pointer (some ⟨g,o,none⟩),.slice none 0 0] w λe w'=>∃K' c' g' d,e=.returned (.slice (some ⟨g',0,none⟩) 3 d)/\w.heap.size<=K'/\w'.ownsRow w.heap.size 96 1 (.slice (some ⟨g',0,none⟩) 3 d) 3 [.pointer (some ⟨g,o+4,none⟩),.pointer (some ⟨K',4,none⟩),.pointer (some ⟨K',16,none⟩)]/\
   w'.heap[g]? =(w.setCell ⟨g,o+8,none⟩ (.slice (some ⟨K',0,none⟩) 2 c')).heap[g]? /\Bw.At K' 0 (Bw.leaf k1 n1) w'/\Bw.At K' 12 (Bw.leaf k2 n2) w'/\Tk.But (λi=>i=g) w w'/\g'≠K':=by
 have hlt:=hA.lt;have HA:Hid (Bw.At g o (Bw.root kb cap) w/\g<w.heap.size):=⟨hA,hlt⟩;have HS:Hid (w.cell? ⟨g,o+7,none⟩=some (.slice none 0 0)/\w.cell? ⟨g,o+9,none⟩=some (.slice none 0 0)):=⟨hA.cell 7 (by decide),hA.cell 9 (by decide)⟩;have c8:w.drew.cell? ⟨g,o+8,none⟩=some (.slice (some ⟨kb,0,none⟩) 2 cap):=hA.cell 8 (by decide)
 have CK:Hid (Calls Tryz.prog 81 #[.slice (some ⟨kb,0,none⟩) 2 cap] w.drew λe w'=>∃g c',e=.returned (.slice (some ⟨g,0,none⟩) 2 c')/\Hid (w.heap.size<=g/\(∃cur,w'.heap[g]? =some (.cells cur 32 (0,0))/\cur.toList.take (2*12)=((Bw.leaf k1 n1).toList++(Bw.leaf k2 n2).toList))/\Below w.heap.size w.drew w')):=
  Tryz.cloneAct_any ⟨kb,0,none⟩ 2 cap ((Bw.leaf k1 n1).toList++(Bw.leaf k2 n2).toList) w.drew rfl (λj v hv=>by
   have hadd:(⟨kb,0,none⟩:Addr).add j=⟨kb,j,none⟩:=by unfold Addr.add;split<;>simp_all
   rw[hadd]
   by_cases q:j<12
   ·rw[List.getElem?_append_left (by exact q)]at hv
    have h:=hT.1 j v hv
    rwa [Nat.zero_add]at h
   ·rw[List.getElem?_append_right (by exact Nat.le_of_not_lt q)]at hv
    have h:=hT.2 (j-12) v hv
    rwa [show 12+(j-12)=j by omega]at h) (λv hv=>by
   have h:((Bw.leaf k1 n1).toList++(Bw.leaf k2 n2).toList).all (·.oneCell')=true:=by kernel_rfl
   exact List.all_eq_true.1 h v hv) (λ_=>hK) (by decide)
 have HK1:Hid (∀(wb:World) (K':Nat),(w.heap.size<=K'/\(∃cur,wb.heap[K']? =some (.cells cur 32 (0,0))/\cur.toList.take (2*12)=((Bw.leaf k1 n1).toList++(Bw.leaf k2 n2).toList))/\Below w.heap.size w.drew wb)->Hid (Bw.At g o (Bw.root kb cap) wb/\wb.cell? ⟨g,o+7,none⟩=some (.slice none 0 0)/\wb.cell? ⟨g,o+9,none⟩=some (.slice none 0 0))/\Hid (Bw.Kd w wb K' k1 n1 k2 n2)):=λwb K' h=>by
  obtain⟨h1,⟨cur,h2,h3⟩,h4⟩:=h;have hb:Below w.heap.size w wb:=⟨h4.os,h4.tape,h4.output,h4.size,h4.block⟩;have ha:Bw.At g o (Bw.root kb cap) wb:=hA.keep (hb.block g hlt);refine⟨⟨ha,ha.cell 7 (by decide),ha.cell 9 (by decide)⟩,h1,Bw.At.of_take h2 h3 0 _ (λi hi=> ?_) (by decide),Bw.At.of_take h2 h3 12 _ (λi hi=> ?_) (by decide),hb⟩
  ·rw[Nat.zero_add,List.getElem?_append_left (by exact hi)]
   simp
  rw[List.getElem?_append_right (by show 12<=12+i;omega)];have:12+i-(Bw.leaf k1 n1).toList.length=i:=by show 12+i-12=i;omega
  rw[this]
  simp
 clear hA hT hK hlt
 go_enter Tryz.func55,Tryz.ntmps55
 go_upto_region 1 with fail
 go_cut []from 9 to 132 (λwx=>∃(K' c':Nat) (wb:World),Hid (Bw.Kd w wb K' k1 n1 k2 n2)/\wx=wb.setCell ⟨g,o+8,none⟩ (.slice (some ⟨K',0,none⟩) 2 c'))
 case first=>
  refine wp_region_held_drew (S:=(λV=>V.cell? ⟨g,o+7,none⟩=some (.slice none 0 0)/\V.cell? ⟨g,o+9,none⟩=some (.slice none 0 0))) (by kernel_rfl) ?_ (λhHeld=> ?_)
  ·exact HS.out
  refine Nt.takeS (v:= ?va0) 0 9 rfl rfl (by kernel_rfl) (by kernel_rfl) (by kernel_rfl) (λ_ _ _ h=>h) (Or.inl ⟨by rfl, ?ya0⟩) hHeld ?ra0
  case ya0=>(intro w hSw;(try dsimp only at hSw);go_simp;all_goals (with_reducible rfl))
  simp only[List.set_cons_succ,List.set_cons_zero];refine Nt.takeS (v:= ?va1) 1 10 rfl rfl (by kernel_rfl) (by kernel_rfl) (by kernel_rfl) (λ_ _ _ h=>h) (Or.inl ⟨by rfl, ?ya1⟩) hHeld ?ra1
  case ya1=>(intro w hSw;(try dsimp only at hSw);go_simp;all_goals (with_reducible rfl))
  simp only[List.set_cons_succ,List.set_cons_zero];refine Nt.takeS (v:= ?va2) 2 11 rfl rfl (by kernel_rfl) (by kernel_rfl) (by kernel_rfl) (λ_ _ _ h=>h) (Or.inl ⟨by rfl, ?ya2⟩) hHeld ?ra2
  case ya2=>(intro w hSw;(try dsimp only at hSw);go_simp;all_goals (with_reducible rfl))
  simp only[List.set_cons_succ,List.set_cons_zero];refine Nt.takeS (v:= ?va3) 3 12 rfl rfl (by kernel_rfl) (by kernel_rfl) (by kernel_rfl) (λ_ _ _ h=>h) (Or.inl ⟨by rfl, ?ya3⟩) hHeld ?ra3
  case ya3=>(intro w hSw;(try dsimp only at hSw);go_simp;all_goals (with_reducible rfl))
  simp only[List.set_cons_succ,List.set_cons_zero];refine Nt.takeS (v:= ?va4) 4 13 rfl rfl (by kernel_rfl) (by kernel_rfl) (by kernel_rfl) (λ_ _ _ h=>h) (Or.inl ⟨by rfl, ?ya4⟩) hHeld ?ra4
  case ya4=>(intro w hSw;(try dsimp only at hSw);go_simp;all_goals (with_reducible rfl))
  simp only[List.set_cons_succ,List.set_cons_zero];refine Nt.takeS (v:= ?va5) 5 14 rfl rfl (by kernel_rfl) (by kernel_rfl) (by kernel_rfl) (λ_ _ _ h=>h) (Or.inl ⟨by rfl, ?ya5⟩) hHeld ?ra5
  case ya5=>(intro w hSw;(try dsimp only at hSw);go_simp;all_goals (with_reducible rfl))
  simp only[List.set_cons_succ,List.set_cons_zero];refine Nt.takeS (v:= ?va6) 6 15 rfl rfl (by kernel_rfl) (by kernel_rfl) (by kernel_rfl) (λ_ _ _ h=>h) (Or.inl ⟨by rfl, ?ya6⟩) hHeld ?ra6
  case ya6=>(intro w hSw;(try dsimp only at hSw);go_simp;all_goals (with_reducible rfl))
  simp only[List.set_cons_succ,List.set_cons_zero];refine Nt.takeS (v:= ?va8) 8 17 rfl rfl (by kernel_rfl) (by kernel_rfl) (by kernel_rfl) (λ_ _ _ h=>h) (Or.inl ⟨by rfl, ?ya8⟩) hHeld ?ra8
  case ya8=>(intro w hSw;(try dsimp only at hSw);go_simp;all_goals (with_reducible rfl))
  simp only[List.set_cons_succ,List.set_cons_zero];refine Nt.takeS (v:= ?va9) 9 18 rfl rfl (by kernel_rfl) (by kernel_rfl) (by kernel_rfl) (λ_ _ _ h=>h) (Or.inl ⟨by rfl, ?ya9⟩) hHeld ?ra9
  case ya9=>(intro w hSw;(try dsimp only at hSw);go_simp;all_goals (with_reducible rfl))
  simp only[List.set_cons_succ,List.set_cons_zero];refine Nt.takeS (v:= ?va10) 10 19 rfl rfl (by kernel_rfl) (by kernel_rfl) (by kernel_rfl) (λ_ _ _ h=>h) (Or.inl ⟨by rfl, ?ya10⟩) hHeld ?ra10
  case ya10=>(intro w hSw;(try dsimp only at hSw);go_simp;all_goals (with_reducible rfl))
  simp only[List.set_cons_succ,List.set_cons_zero];refine Nt.takeS (v:= ?va13) 13 22 rfl rfl (by kernel_rfl) (by kernel_rfl) (by kernel_rfl) (λ_ _ _ h=>h) (Or.inl ⟨by rfl, ?ya13⟩) hHeld ?ra13
  case ya13=>(intro w hSw;(try dsimp only at hSw);go_simp;all_goals (with_reducible rfl))
  simp only[List.set_cons_succ,List.set_cons_zero];refine Nt.takeS (v:= ?va14) 14 23 rfl rfl (by kernel_rfl) (by kernel_rfl) (by kernel_rfl) (λ_ _ _ h=>h) (Or.inl ⟨by rfl, ?ya14⟩) hHeld ?ra14
  case ya14=>(intro w hSw;(try dsimp only at hSw);go_simp;all_goals (with_reducible rfl))
  simp only[List.set_cons_succ,List.set_cons_zero];refine Nt.takeS (v:= ?va15) 15 24 rfl rfl (by kernel_rfl) (by kernel_rfl) (by kernel_rfl) (λ_ _ _ h=>h) (Or.inl ⟨by rfl, ?ya15⟩) hHeld ?ra15
  case ya15=>(intro w hSw;(try dsimp only at hSw);go_simp;all_goals (with_reducible rfl))
  simp only[List.set_cons_succ,List.set_cons_zero];refine Nt.takeS (v:= ?va16) 16 25 rfl rfl (by kernel_rfl) (by kernel_rfl) (by kernel_rfl) (λ_ _ _ h=>h) (Or.inl ⟨by rfl, ?ya16⟩) hHeld ?ra16
  case ya16=>(intro w hSw;(try dsimp only at hSw);go_simp;all_goals (with_reducible rfl))
  simp only[List.set_cons_succ,List.set_cons_zero];refine wpAnyH_ready (rs:= [7,11]) (by kernel_rfl) (by simp) ?_;refine AllReadyH.cons rfl (λK hK=> ?_) (AllReadyH.cons rfl (λK hK=> ?_) AllReadyH.nil)
  ·go_simp
   go_at_call 80
   refine Calls.mono (Tryz.cloneTerm_nil _ 0) ?_;rintro e' W' ⟨rfl,hw⟩;obtain rfl:=hw.symm
   go_wp2_with fail
   refine hK.out _ _ ?_ (λhT7=> ?_)
   ·exact HS.out
   clear hK K
   first|refine Nt.normS 16 rfl ?_|skip
   first|(simp only[List.set_cons_succ,List.set_cons_zero])|skip
   refine wpAnyH_ready (rs:= [11]) (by kernel_rfl) (by simp) ?_;refine AllReadyH.cons rfl (λK hK=> ?_) AllReadyH.nil;go_simp;refine hK.out _ _ ?_ (λhT11=> ?_)
   ·exact HS.out
   clear hK K
   first|refine Nt.normS 20 rfl ?_|skip
   first|(simp only[List.set_cons_succ,List.set_cons_zero])|skip
   refine wpAnyH_ready (rs:= [12]) (by kernel_rfl) (by simp) ?_;refine AllReadyH.cons rfl (λK hK=> ?_) AllReadyH.nil;go_simp
   go_at_call 81
   refine Calls.mono CK.out ?_;rintro e' wb ⟨K',c',rfl,HK⟩;obtain⟨Hb,HKs⟩:=HK1.out wb K' HK.out;have f7:wb.frozen? ⟨g,o+7,none⟩=false:=Hb.out.1.frozen (o+7);have f8:wb.frozen? ⟨g,o+8,none⟩=false:=Hb.out.1.frozen (o+8);have e7:wb.cell? ⟨g,o+7,none⟩=some (.slice none 0 0):=Hb.out.1.cell 7 (by decide);have e8:wb.cell? ⟨g,o+8,none⟩=some (.slice (some ⟨kb,0,none⟩) 2 cap):=Hb.out.1.cell 8 (by decide);have hs7:wb.setCell ⟨g,o+7,none⟩ (.slice none 0 0)=wb:=Hb.out.1.same (by decide) rfl
   go_wp2_with fail
   refine hK.out _ _ ?_ (λhT12=> ?_)
   ·exact Hb.out.2
   clear hK K
   first|refine Nt.normS 21 rfl ?_|skip
   first|(simp only[List.set_cons_succ,List.set_cons_zero])|skip
   refine wpAnyH_ready (rs:= [17]) (by kernel_rfl) (by simp) ?_;refine AllReadyH.cons rfl (λK hK=> ?_) AllReadyH.nil;go_simp
   go_at_call 82
   refine Calls.mono (Tryz.cloneLink_nil _ 0) ?_;rintro e' W' ⟨rfl,hw⟩;obtain rfl:=hw.symm
   go_wp2_with fail
   refine hK.out _ _ ?_ (λhT17=> ?_)
   ·exact Hb.out.2
   clear hK K
   first|refine Nt.normS 26 rfl ?_|skip
   first|(simp only[List.set_cons_succ,List.set_cons_zero])|skip
   refine Nt.takeS (v:= ?vb18) 18 27 rfl rfl (by kernel_rfl) (by kernel_rfl) (by kernel_rfl) (λ_ _ _ h=>h) (Or.inl ⟨by rfl, ?yb18⟩) hT17 ?rb18
   case yb18=>(intro w hSw;(try dsimp only at hSw);go_simp;all_goals (with_reducible rfl))
   simp only[List.set_cons_succ,List.set_cons_zero];refine Nt.takeS (v:= ?vb19) 19 28 rfl rfl (by kernel_rfl) (by kernel_rfl) (by kernel_rfl) (λ_ _ _ h=>h) (Or.inl ⟨by rfl, ?yb19⟩) hT17 ?rb19
   case yb19=>(intro w hSw;(try dsimp only at hSw);go_simp;all_goals (with_reducible rfl))
   simp only[List.set_cons_succ,List.set_cons_zero];refine wpAnyH_ready (rs:= [20]) (by kernel_rfl) (by simp) ?_;refine AllReadyH.cons rfl (λK hK=> ?_) AllReadyH.nil;go_simp;refine hK.out _ _ ?_ (λhT20=> ?_)
   ·exact Hb.out.2
   clear hK K;refine Nt.takeS (v:= ?vc21) 21 29 rfl rfl (by kernel_rfl) (by kernel_rfl) (by kernel_rfl) (λ_ _ _ h=>h) (Or.inl ⟨by rfl, ?yc21⟩) hT20 ?rc21
   case yc21=>(intro w hSw;(try dsimp only at hSw);go_simp;all_goals (with_reducible rfl))
   simp only[List.set_cons_succ,List.set_cons_zero];refine Nt.takeS (v:= ?vc22) 22 30 rfl rfl (by kernel_rfl) (by kernel_rfl) (by kernel_rfl) (λ_ _ _ h=>h) (Or.inl ⟨by rfl, ?yc22⟩) hT20 ?rc22
   case yc22=>(intro w hSw;(try dsimp only at hSw);go_simp;all_goals (with_reducible rfl))
   simp only[List.set_cons_succ,List.set_cons_zero];refine wpAnyH_ready (rs:= [23]) (by kernel_rfl) (by simp) ?_;refine AllReadyH.cons rfl (λK hK=> ?_) AllReadyH.nil;go_simp;obtain⟨wc,hwc⟩:=pE (wb.setCell ⟨g,o+8,none⟩ (.slice (some ⟨K',0,none⟩) 2 c'));rw[hwc]
   have Hc:Hid (Bw.At g o (Bw.root K' c') wc/\wc.cell? ⟨g,o+7,none⟩=some (.slice none 0 0)/\wc.cell? ⟨g,o+9,none⟩=some (.slice none 0 0)):=by
    have h:Bw.At g o ((Bw.root kb cap).setIfInBounds 8 (.slice (some ⟨K',0,none⟩) 2 c')) wc:=by rw[<-hwc];exact Hb.out.1.put 8 (by decide) rfl _
    exact⟨h,h.cell 7 (by decide),h.cell 9 (by decide)⟩
   have f9:wc.frozen? ⟨g,o+9,none⟩=false:=Hc.out.1.frozen (o+9);have e9:wc.cell? ⟨g,o+9,none⟩=some (.slice none 0 0):=Hc.out.1.cell 9 (by decide);have hs9:wc.setCell ⟨g,o+9,none⟩ (.slice none 0 0)=wc:=Hc.out.1.same (by decide) rfl;have Hwc:Hid _:=hwc;clear hwc e7 e8 f7 f8 hs7;refine hK.out _ _ ?_ (λhT23=> ?_)
   ·exact Hc.out.2
   clear hK K;refine Nt.takeS (v:= ?vd24) 24 31 rfl rfl (by kernel_rfl) (by kernel_rfl) (by kernel_rfl) (λ_ _ _ h=>h) (Or.inl ⟨by rfl, ?yd24⟩) hT23 ?rd24
   case yd24=>(intro w hSw;(try dsimp only at hSw);go_simp;all_goals (with_reducible rfl))
   simp only[List.set_cons_succ,List.set_cons_zero];refine Nt.takeS (v:= ?vd25) 25 32 rfl rfl (by kernel_rfl) (by kernel_rfl) (by kernel_rfl) (λ_ _ _ h=>h) (Or.inl ⟨by rfl, ?yd25⟩) hT23 ?rd25
   case yd25=>(intro w hSw;(try dsimp only at hSw);go_simp;all_goals (with_reducible rfl))
   simp only[List.set_cons_succ,List.set_cons_zero];refine wpAnyH_ready (rs:= [26]) (by kernel_rfl) (by simp) ?_;refine AllReadyH.cons rfl (λK hK=> ?_) AllReadyH.nil;go_simp;refine hK.out _ _ ?_ (λhT26=> ?_)
   ·exact Hc.out.2
   clear hK K;refine wpAnyH_done (by kernel_rfl) ?_ _
   go_wp2_with fail
   go_meet;exact⟨K',c',wb,HKs,Hwc.out.symm⟩
  go_simp;refine hK.out _ _ ?_ (λhT11=> ?_)
  ·exact HS.out
  clear hK K
  first|refine Nt.normS 20 rfl ?_|skip
  first|(simp only[List.set_cons_succ,List.set_cons_zero])|skip
  refine wpAnyH_ready (rs:= [7]) (by kernel_rfl) (by simp) ?_;refine AllReadyH.cons rfl (λK hK=> ?_) AllReadyH.nil;go_simp
  go_at_call 80
  refine Calls.mono (Tryz.cloneTerm_nil _ 0) ?_;rintro e' W' ⟨rfl,hw⟩;obtain rfl:=hw.symm
  go_wp2_with fail
  refine hK.out _ _ ?_ (λhT7=> ?_)
  ·exact HS.out
  clear hK K
  first|refine Nt.normS 16 rfl ?_|skip
  first|(simp only[List.set_cons_succ,List.set_cons_zero])|skip
  refine wpAnyH_ready (rs:= [12]) (by kernel_rfl) (by simp) ?_;refine AllReadyH.cons rfl (λK hK=> ?_) AllReadyH.nil;go_simp
  go_at_call 81
  refine Calls.mono CK.out ?_;rintro e' wb ⟨K',c',rfl,HK⟩;obtain⟨Hb,HKs⟩:=HK1.out wb K' HK.out;have f7:wb.frozen? ⟨g,o+7,none⟩=false:=Hb.out.1.frozen (o+7);have f8:wb.frozen? ⟨g,o+8,none⟩=false:=Hb.out.1.frozen (o+8);have e7:wb.cell? ⟨g,o+7,none⟩=some (.slice none 0 0):=Hb.out.1.cell 7 (by decide);have e8:wb.cell? ⟨g,o+8,none⟩=some (.slice (some ⟨kb,0,none⟩) 2 cap):=Hb.out.1.cell 8 (by decide);have hs7:wb.setCell ⟨g,o+7,none⟩ (.slice none 0 0)=wb:=Hb.out.1.same (by decide) rfl
  go_wp2_with fail
  refine hK.out _ _ ?_ (λhT12=> ?_)
  ·exact Hb.out.2
  clear hK K
  first|refine Nt.normS 21 rfl ?_|skip
  first|(simp only[List.set_cons_succ,List.set_cons_zero])|skip
  refine wpAnyH_ready (rs:= [17]) (by kernel_rfl) (by simp) ?_;refine AllReadyH.cons rfl (λK hK=> ?_) AllReadyH.nil;go_simp
  go_at_call 82
  refine Calls.mono (Tryz.cloneLink_nil _ 0) ?_;rintro e' W' ⟨rfl,hw⟩;obtain rfl:=hw.symm
  go_wp2_with fail
  refine hK.out _ _ ?_ (λhT17=> ?_)
  ·exact Hb.out.2
  clear hK K
  first|refine Nt.normS 26 rfl ?_|skip
  first|(simp only[List.set_cons_succ,List.set_cons_zero])|skip
  refine Nt.takeS (v:= ?vp18) 18 27 rfl rfl (by kernel_rfl) (by kernel_rfl) (by kernel_rfl) (λ_ _ _ h=>h) (Or.inl ⟨by rfl, ?yp18⟩) hT17 ?rp18
  case yp18=>(intro w hSw;(try dsimp only at hSw);go_simp;all_goals (with_reducible rfl))
  simp only[List.set_cons_succ,List.set_cons_zero];refine Nt.takeS (v:= ?vp19) 19 28 rfl rfl (by kernel_rfl) (by kernel_rfl) (by kernel_rfl) (λ_ _ _ h=>h) (Or.inl ⟨by rfl, ?yp19⟩) hT17 ?rp19
  case yp19=>(intro w hSw;(try dsimp only at hSw);go_simp;all_goals (with_reducible rfl))
  simp only[List.set_cons_succ,List.set_cons_zero];refine wpAnyH_ready (rs:= [20]) (by kernel_rfl) (by simp) ?_;refine AllReadyH.cons rfl (λK hK=> ?_) AllReadyH.nil;go_simp;refine hK.out _ _ ?_ (λhT20=> ?_)
  ·exact Hb.out.2
  clear hK K;refine Nt.takeS (v:= ?vq21) 21 29 rfl rfl (by kernel_rfl) (by kernel_rfl) (by kernel_rfl) (λ_ _ _ h=>h) (Or.inl ⟨by rfl, ?yq21⟩) hT20 ?rq21
  case yq21=>(intro w hSw;(try dsimp only at hSw);go_simp;all_goals (with_reducible rfl))
  simp only[List.set_cons_succ,List.set_cons_zero];refine Nt.takeS (v:= ?vq22) 22 30 rfl rfl (by kernel_rfl) (by kernel_rfl) (by kernel_rfl) (λ_ _ _ h=>h) (Or.inl ⟨by rfl, ?yq22⟩) hT20 ?rq22
  case yq22=>(intro w hSw;(try dsimp only at hSw);go_simp;all_goals (with_reducible rfl))
  simp only[List.set_cons_succ,List.set_cons_zero];refine wpAnyH_ready (rs:= [23]) (by kernel_rfl) (by simp) ?_;refine AllReadyH.cons rfl (λK hK=> ?_) AllReadyH.nil;go_simp;obtain⟨wc,hwc⟩:=pE (wb.setCell ⟨g,o+8,none⟩ (.slice (some ⟨K',0,none⟩) 2 c'));rw[hwc]
  have Hc:Hid (Bw.At g o (Bw.root K' c') wc/\wc.cell? ⟨g,o+7,none⟩=some (.slice none 0 0)/\wc.cell? ⟨g,o+9,none⟩=some (.slice none 0 0)):=by
   have h:Bw.At g o ((Bw.root kb cap).setIfInBounds 8 (.slice (some ⟨K',0,none⟩) 2 c')) wc:=by rw[<-hwc];exact Hb.out.1.put 8 (by decide) rfl _
   exact⟨h,h.cell 7 (by decide),h.cell 9 (by decide)⟩
  have f9:wc.frozen? ⟨g,o+9,none⟩=false:=Hc.out.1.frozen (o+9);have e9:wc.cell? ⟨g,o+9,none⟩=some (.slice none 0 0):=Hc.out.1.cell 9 (by decide);have hs9:wc.setCell ⟨g,o+9,none⟩ (.slice none 0 0)=wc:=Hc.out.1.same (by decide) rfl;have Hwc:Hid _:=hwc;clear hwc e7 e8 f7 f8 hs7;refine hK.out _ _ ?_ (λhT23=> ?_)
  ·exact Hc.out.2
  clear hK K;refine Nt.takeS (v:= ?vs24) 24 31 rfl rfl (by kernel_rfl) (by kernel_rfl) (by kernel_rfl) (λ_ _ _ h=>h) (Or.inl ⟨by rfl, ?ys24⟩) hT23 ?rs24
  case ys24=>(intro w hSw;(try dsimp only at hSw);go_simp;all_goals (with_reducible rfl))
  simp only[List.set_cons_succ,List.set_cons_zero];refine Nt.takeS (v:= ?vs25) 25 32 rfl rfl (by kernel_rfl) (by kernel_rfl) (by kernel_rfl) (λ_ _ _ h=>h) (Or.inl ⟨by rfl, ?ys25⟩) hT23 ?rs25
  case ys25=>(intro w hSw;(try dsimp only at hSw);go_simp;all_goals (with_reducible rfl))
  simp only[List.set_cons_succ,List.set_cons_zero];refine wpAnyH_ready (rs:= [26]) (by kernel_rfl) (by simp) ?_;refine AllReadyH.cons rfl (λK hK=> ?_) AllReadyH.nil;go_simp;refine hK.out _ _ ?_ (λhT26=> ?_)
  ·exact Hc.out.2
  clear hK K;refine wpAnyH_done (by kernel_rfl) ?_ _
  go_wp2_with fail
  go_meet;exact⟨K',c',wb,HKs,Hwc.out.symm⟩
 case rest=>
  rename World=>wc;obtain⟨K',c',wb,HKd,hwc⟩:=hcut;obtain⟨wd,hwd⟩:=pE (wb.setCell ⟨g,o+8,none⟩ (.slice (some ⟨K',0,none⟩) 2 c'));rw[hwd]at hwc;have HD:Hid (wb.setCell ⟨g,o+8,none⟩ (.slice (some ⟨K',0,none⟩) 2 c')=wd):=hwd;clear hwd;subst hwc;have hgb:g<wb.heap.size:=Nat.lt_of_lt_of_le HA.out.2 HKd.out.2.2.2.size;have hKg:K'≠g:=by have:=HKd.out.1;have:=HA.out.2;omega
  have hAc:Bw.At g o (Bw.root K' c') wc:=by
   have h:Bw.At g o ((Bw.root kb cap).setIfInBounds 8 (.slice (some ⟨K',0,none⟩) 2 c')) wc:=by rw[<-HD.out];exact(HA.out.1.keep (HKd.out.2.2.2.block g HA.out.2)).put 8 (by decide) rfl _
   exact h
  have hoth:∀k,k≠g->wc.heap[k]? =wb.heap[k]? :=λk hk=>by rw[<-HD.out];exact Below.heap_setCell wb ⟨g,o+8,none⟩ _ k hk
  have HC:Hid (Bw.At g o (Bw.root K' c') wc/\Bw.At K' 0 (Bw.leaf k1 n1) wc/\Bw.At K' 12 (Bw.leaf k2 n2) wc/\Tk.But (λi=>i=g) w wc/\wc.heap[g]? =(w.setCell ⟨g,o+8,none⟩ (.slice (some ⟨K',0,none⟩) 2 c')).heap[g]? /\w.heap.size<=K'/\g<w.heap.size/\K'≠g):=by
   refine⟨hAc,HKd.out.2.1.keep (hoth K' hKg),HKd.out.2.2.1.keep (hoth K' hKg),by rw[<-HD.out];exact(Tk.But.of_below HKd.out.2.2.2:Tk.But (λi=>i=g) w wb).setCell (p:=⟨g,o+8,none⟩) rfl _, ?_,HKd.out.1,HA.out.2,hKg⟩;rw[<-HD.out];simp[World.setCell,Array.getElem?_modify,HKd.out.2.2.2.block g HA.out.2]
  clear hgb hKg hoth HS c8 CK HK1 HKd HA HD;have HS2:Hid (wc.cell? ⟨g,o+10,none⟩=some (.slice none 0 0)/\wc.cell? ⟨g,o+11,none⟩=some (.slice none 0 0)):=⟨hAc.cell 10 (by decide),hAc.cell 11 (by decide)⟩;have e10:wc.drew.cell? ⟨g,o+10,none⟩=some (.slice none 0 0):=HS2.out.1;have e11:wc.drew.cell? ⟨g,o+11,none⟩=some (.slice none 0 0):=HS2.out.2;have f10:wc.drew.frozen? ⟨g,o+10,none⟩=false:=hAc.frozen (o+10);have f11:wc.drew.frozen? ⟨g,o+11,none⟩=false:=hAc.frozen (o+11);have hs10:wc.drew.setCell ⟨g,o+10,none⟩ (.slice none 0 0)=wc.drew:=(hAc.keep (W':=wc.drew) rfl).same (by decide) rfl;have hs11:wc.drew.setCell ⟨g,o+11,none⟩ (.slice none 0 0)=wc.drew:=(hAc.keep (W':=wc.drew) rfl).same (by decide) rfl
  go_upto_region 2 with fail
  refine wp_region_held_drew (S:=(λV=>V.cell? ⟨g,o+10,none⟩=some (.slice none 0 0)/\V.cell? ⟨g,o+11,none⟩=some (.slice none 0 0))) (by kernel_rfl) ?_ (λhHeld=> ?_)
  ·exact HS2.out
  refine Nt.takeS (v:= ?ve0) 0 33 rfl rfl (by kernel_rfl) (by kernel_rfl) (by kernel_rfl) (λ_ _ _ h=>h) (Or.inl ⟨by rfl, ?ye0⟩) hHeld ?re0
  case ye0=>(intro w hSw;(try dsimp only at hSw);go_simp;all_goals (with_reducible rfl))
  simp only[List.set_cons_succ,List.set_cons_zero];refine Nt.takeS (v:= ?ve1) 1 34 rfl rfl (by kernel_rfl) (by kernel_rfl) (by kernel_rfl) (λ_ _ _ h=>h) (Or.inl ⟨by rfl, ?ye1⟩) hHeld ?re1
  case ye1=>(intro w hSw;(try dsimp only at hSw);go_simp;all_goals (with_reducible rfl))
  simp only[List.set_cons_succ,List.set_cons_zero];refine Nt.takeS (v:= ?ve2) 2 35 rfl rfl (by kernel_rfl) (by kernel_rfl) (by kernel_rfl) (λ_ _ _ h=>h) (Or.inl ⟨by rfl, ?ye2⟩) hHeld ?re2
  case ye2=>(intro w hSw;(try dsimp only at hSw);go_simp;all_goals (with_reducible rfl))
  simp only[List.set_cons_succ,List.set_cons_zero];refine Nt.takeS (v:= ?ve3) 3 36 rfl rfl (by kernel_rfl) (by kernel_rfl) (by kernel_rfl) (λ_ _ _ h=>h) (Or.inl ⟨by rfl, ?ye3⟩) hHeld ?re3
  case ye3=>(intro w hSw;(try dsimp only at hSw);go_simp;all_goals (with_reducible rfl))
  simp only[List.set_cons_succ,List.set_cons_zero];refine Nt.takeS (v:= ?ve4) 4 37 rfl rfl (by kernel_rfl) (by kernel_rfl) (by kernel_rfl) (λ_ _ _ h=>h) (Or.inl ⟨by rfl, ?ye4⟩) hHeld ?re4
  case ye4=>(intro w hSw;(try dsimp only at hSw);go_simp;all_goals (with_reducible rfl))
  simp only[List.set_cons_succ,List.set_cons_zero];refine Nt.takeS (v:= ?ve5) 5 38 rfl rfl (by kernel_rfl) (by kernel_rfl) (by kernel_rfl) (λ_ _ _ h=>h) (Or.inl ⟨by rfl, ?ye5⟩) hHeld ?re5
  case ye5=>(intro w hSw;(try dsimp only at hSw);go_simp;all_goals (with_reducible rfl))
  simp only[List.set_cons_succ,List.set_cons_zero];refine Nt.takeS (v:= ?ve7) 7 40 rfl rfl (by kernel_rfl) (by kernel_rfl) (by kernel_rfl) (λ_ _ _ h=>h) (Or.inl ⟨by rfl, ?ye7⟩) hHeld ?re7
  case ye7=>(intro w hSw;(try dsimp only at hSw);go_simp;all_goals (with_reducible rfl))
  simp only[List.set_cons_succ,List.set_cons_zero];refine Nt.takeS (v:= ?ve8) 8 41 rfl rfl (by kernel_rfl) (by kernel_rfl) (by kernel_rfl) (λ_ _ _ h=>h) (Or.inl ⟨by rfl, ?ye8⟩) hHeld ?re8
  case ye8=>(intro w hSw;(try dsimp only at hSw);go_simp;all_goals (with_reducible rfl))
  simp only[List.set_cons_succ,List.set_cons_zero];refine Nt.takeS (v:= ?ve9) 9 42 rfl rfl (by kernel_rfl) (by kernel_rfl) (by kernel_rfl) (λ_ _ _ h=>h) (Or.inl ⟨by rfl, ?ye9⟩) hHeld ?re9
  case ye9=>(intro w hSw;(try dsimp only at hSw);go_simp;all_goals (with_reducible rfl))
  simp only[List.set_cons_succ,List.set_cons_zero];refine Nt.takeS (v:= ?ve10) 10 43 rfl rfl (by kernel_rfl) (by kernel_rfl) (by kernel_rfl) (λ_ _ _ h=>h) (Or.inl ⟨by rfl, ?ye10⟩) hHeld ?re10
  case ye10=>(intro w hSw;(try dsimp only at hSw);go_simp;all_goals (with_reducible rfl))
  simp only[List.set_cons_succ,List.set_cons_zero];refine Nt.takeS (v:= ?ve11) 11 44 rfl rfl (by kernel_rfl) (by kernel_rfl) (by kernel_rfl) (λ_ _ _ h=>h) (Or.inl ⟨by rfl, ?ye11⟩) hHeld ?re11
  case ye11=>(intro w hSw;(try dsimp only at hSw);go_simp;all_goals (with_reducible rfl))
  simp only[List.set_cons_succ,List.set_cons_zero];refine wpAnyH_ready (rs:= [6]) (by kernel_rfl) (by simp) ?_;refine AllReadyH.cons rfl (λK hK=> ?_) AllReadyH.nil;go_simp
  go_at_call 83
  refine Calls.mono (Tryz.cloneNode_nil _ 0) ?_;rintro e' W' ⟨rfl,hw⟩;obtain rfl:=hw.symm
  go_wp2_with fail
  refine hK.out _ _ ?_ (λhT6=> ?_)
  ·exact HS2.out
  clear hK K
  first|refine Nt.normS 39 rfl ?_|skip
  first|(simp only[List.set_cons_succ,List.set_cons_zero])|skip
  refine wpAnyH_ready (rs:= [12]) (by kernel_rfl) (by simp) ?_;refine AllReadyH.cons rfl (λK hK=> ?_) AllReadyH.nil;go_simp
  go_at_call 84
  refine Calls.mono (Tryz.cloneFlow_nil _ 0) ?_;rintro e' W' ⟨rfl,hw⟩;obtain rfl:=hw.symm
  go_wp2_with fail
  refine hK.out _ _ ?_ (λhT12=> ?_)
  ·exact HS2.out
  clear hK K
  first|refine Nt.normS 45 rfl ?_|skip
  first|(simp only[List.set_cons_succ,List.set_cons_zero])|skip
  refine Nt.takeS (v:= ?vf13) 13 46 rfl rfl (by kernel_rfl) (by kernel_rfl) (by kernel_rfl) (λ_ _ _ h=>h) (Or.inl ⟨by rfl, ?yf13⟩) hT12 ?rf13
  case yf13=>(intro w hSw;(try dsimp only at hSw);go_simp;all_goals (with_reducible rfl))
  simp only[List.set_cons_succ,List.set_cons_zero];refine Nt.takeS (v:= ?vf14) 14 47 rfl rfl (by kernel_rfl) (by kernel_rfl) (by kernel_rfl) (λ_ _ _ h=>h) (Or.inl ⟨by rfl, ?yf14⟩) hT12 ?rf14
  case yf14=>(intro w hSw;(try dsimp only at hSw);go_simp;all_goals (with_reducible rfl))
  simp only[List.set_cons_succ,List.set_cons_zero];refine Nt.takeS (v:= ?vf15) 15 48 rfl rfl (by kernel_rfl) (by kernel_rfl) (by kernel_rfl) (λ_ _ _ h=>h) (Or.inl ⟨by rfl, ?yf15⟩) hT12 ?rf15
  case yf15=>(intro w hSw;(try dsimp only at hSw);go_simp;all_goals (with_reducible rfl))
  simp only[List.set_cons_succ,List.set_cons_zero];refine wpAnyH_ready (rs:= [16]) (by kernel_rfl) (by simp) ?_;refine AllReadyH.cons rfl (λK hK=> ?_) AllReadyH.nil;go_simp;refine hK.out _ _ ?_ (λhT16=> ?_)
  ·exact HS2.out
  clear hK K;refine wpAnyH_done (by kernel_rfl) ?_ _;obtain⟨wf,hwf⟩:=pE wc.drew;rw[hwf];have HDf:Hid (wf.heap=wc.heap/\wf.os=wc.os/\wf.tape=wc.tape/\wf.output=wc.output):=by rw[<-hwf];exact⟨rfl,rfl,rfl,rfl⟩
  obtain⟨i0,hi,hz0,hz1,hz2⟩:=info_parts Bw.infoPtr;obtain⟨wg,hwg⟩:=pE (wf.alloc (.cells #[.pointer (some ⟨g,o+4,none⟩)] 96));have Ng:=pH hwg;have Bg:=pB hwg;have HVg:Hid (wg.ownsRow w.heap.size 96 1 (.slice none 0 0) 0 []):=World.ownsRow_nil _ _ _ _;have HN:Hid (∀j u,(#[.pointer (some ⟨g,o+4,none⟩)]:Array Value).toList[j]? =some u->wg.cell? ((⟨wf.heap.size,0,none⟩:Addr).add j)=some u):=World.news_of_block Ng
  have HO:Hid (∀u∈(#[.pointer (some ⟨g,o+4,none⟩)]:Array Value).toList,u.oneCell'=true):=by
   intro u hu;obtain rfl:=List.mem_singleton.1 hu;rfl
  have HG:Hid (Below wc.heap.size wc wg):=⟨Bg.os.trans HDf.out.2.1,Bg.tape.trans HDf.out.2.2.1,Bg.output.trans HDf.out.2.2.2,by have:=Bg.size;rw[HDf.out.1]at this;exact this,λk hk=>(Bg.block k (by rw[HDf.out.1];exact hk)).trans (by rw[HDf.out.1])⟩;have H1:Hid _:=hwg;clear hwf hwg Ng Bg HS2 e10 e11 f10 f11 hs10 hs11 hT6 hT12 hT16 hAc hHeld
  go_upto_region 4 with(at_builtin;rw[H1.out];refine wpList_append_lies _ rfl _ _ 92 rfl w.heap.size 96 i0 (.pointer none) 1 8 Tryz.underlying92 hi hz0 hz1 hz2 rfl (by decide) (.slice none 0 0) 0 [] rfl HVg.out ⟨wf.heap.size,0,none⟩ 1 1 (#[.pointer (some ⟨g,o+4,none⟩)]:Array Value).toList rfl rfl HN.out HO.out (by decide) ?c3 (by omega) ?c5 _ rfl ?_)
  case c3=>unfold maxLen;omega
  case c5=>have:=HG.out.size;have:=HC.out.2.2.2.1.size;omega
  intro g0 d0 W3 own3 g3 hg' hlt3
  have HW3:Hid (Bw.Mid w wc g K' k1 n1 k2 n2 g0 1 d0 [.pointer (some ⟨g,o+4,none⟩)] W3):=by
   have h1:=HG.out.size;have h2:=HC.out.2.2.2.1.size;have h3:=HC.out.2.2.2.2.2.2.1;have h4:=HC.out.2.1.lt;have hg0:g0=wg.heap.size:=hg'.resolve_left (by simp[Value.ownBlock]);have hk:∀k,k<wc.heap.size->W3.heap[k]? =wc.heap[k]? :=λk hk=>(g3.block k (by omega) (by simp[Value.ownBlock])).trans (HG.out.block k hk);refine⟨own3,hk g (by omega),HC.out.2.1.keep (hk K' h4),HC.out.2.2.1.keep (hk K' h4),HC.out.2.2.2.1.trans ⟨g3.os.trans HG.out.os,g3.tape.trans HG.out.tape,g3.output.trans HG.out.output,Nat.le_trans h1 g3.size,λk h _=>hk k h⟩,by omega,by omega,h3⟩
  have hA3:Bw.At g o (Bw.root K' c') W3:=HC.out.1.keep HW3.out.same;have p7:W3.cell? ⟨g,o+7,none⟩=some (.slice none 0 0):=hA3.cell 7 (by decide);have p8:W3.cell? ⟨g,o+8,none⟩=some (.slice (some ⟨K',0,none⟩) 2 c'):=hA3.cell 8 (by decide);have p10:W3.cell? ⟨g,o+10,none⟩=some (.slice none 0 0):=hA3.cell 10 (by decide);have p11:W3.cell? ⟨g,o+11,none⟩=some (.slice none 0 0):=hA3.cell 11 (by decide);clear own3 g3 hg' hlt3 hA3 hi hz0 hz1 hz2 H1 HN HO HVg HDf HG;go_wp2;refine wp_loop_rounds 1 ?_;rw[rounds_succ];go_wp2;refine wp_loop_rounds 1 ?_;rw[rounds_succ];go_wp2;refine wp_loop_rounds 1 ?_;rw[rounds_succ];go_wp2;refine wp_loop_rounds 3 ?_;have p8a:∀W:World,W.heap[g]? =W3.heap[g]? ->W.cell? ⟨g,o+8,none⟩=some (.slice (some ⟨K',0,none⟩) 2 c'):=λW h=>(World.cell?_of_block (a:=⟨g,o+8,none⟩) h).trans p8;have HP8:Hid _:=p8a;clear p8a p7 p10 p11;rw[rounds_succ]
  go_wp2_with fail
  refine Calls.mono (Tryz.bwOwn_leaf K' 0 k1 n1 w.heap.size 1 _ _ [.pointer (some ⟨g,o+4,none⟩)] W3 HW3.out.a1 HW3.out.own (by decide) HW3.out.big (λb hb=>by obtain rfl:=(Option.some.inj hb).symm;exact HW3.out.nk)) ?_;rintro e u1 ⟨g1,d1,rfl,o1,t1,q1⟩;have Hu1:Hid (Bw.Mid w wc g K' k1 n1 k2 n2 g1 2 d1 ([.pointer (some ⟨g,o+4,none⟩)]++ [.pointer (some ⟨K',0+4,none⟩)]) u1):=HW3.out.step o1 t1 q1;clear o1 t1 q1;go_wp2;have p8:u1.cell? ⟨g,o+8,none⟩=some (.slice (some ⟨K',0,none⟩) 2 c'):=HP8.out u1 (Hu1.out.same.trans HW3.out.same.symm);rw[rounds_succ]
  go_wp2_with fail
  refine Calls.mono (Tryz.bwOwn_leaf K' 12 k2 n2 w.heap.size 2 _ _ ([.pointer (some ⟨g,o+4,none⟩)]++ [.pointer (some ⟨K',0+4,none⟩)]) u1 Hu1.out.a2 Hu1.out.own (by decide) Hu1.out.big (λb hb=>by obtain rfl:=(Option.some.inj hb).symm;exact Hu1.out.nk)) ?_;rintro e u2 ⟨g2,d2,rfl,o2,t2,q2⟩;have Hu2:Hid (Bw.Mid w wc g K' k1 n1 k2 n2 g2 3 d2 (([.pointer (some ⟨g,o+4,none⟩)]++ [.pointer (some ⟨K',0+4,none⟩)])++ [.pointer (some ⟨K',12+4,none⟩)]) u2):=Hu1.out.step o2 t2 q2;clear o2 t2 q2;go_wp2;rw[rounds_succ];go_wp2;go_ret;exact⟨K',c',g2,d2,rfl,HC.out.2.2.2.2.2.1,Hu2.out.own,Hu2.out.same.trans HC.out.2.2.2.2.1,Hu2.out.a1,Hu2.out.a2,Hu2.out.but,Hu2.out.nk⟩
end Go.Proofs
