import Derived.Test.YtenaelpdnccgnaaGreatDoorRBwOwn
set_option maxRecDepth 100000
set_option maxHeartbeats 32000000
namespace Go.Proofs
open Go.RowKit Go.Shelf
structure Bw.Mid (w wc:World)(g K':Nat)(k1 n1 k2 n2:Int)(g0 n d:Nat)(ps:List Value)(W:World):Prop where
 own:W.ownsRow w.heap.size 96 1 (.slice (some ⟨g0,0,none⟩) n d) n ps
 same:W.heap[g]? =wc.heap[g]?
 a1:Bw.At K' 0 (Bw.leaf k1 n1) W
 a2:Bw.At K' 12 (Bw.leaf k2 n2) W
 but:Tk.But (λi=>i=g) w W
 nk:g0≠K'
 ng:g0≠g
 lt:g<w.heap.size
theorem Bw.Mid.big {w wc:World}{g K':Nat}{k1 n1 k2 n2:Int}{g0 n d:Nat}{ps:List Value}{W:World}(h:Bw.Mid w wc g K' k1 n1 k2 n2 g0 n d ps W):w.heap.size<=W.heap.size:=h.but.size
theorem Bw.Mid.step {w wc:World}{g K':Nat}{k1 n1 k2 n2:Int}{g0 n d g1 d1:Nat}{ps qs:List Value}{W W':World}(h:Bw.Mid w wc g K' k1 n1 k2 n2 g0 n d ps W)(ho:W'.ownsRow w.heap.size 96 1 (.slice (some ⟨g1,0,none⟩) (n+1) d1) (n+1) qs)(hg:W.grownBy W' (Value.slice (some ⟨g0,0,none⟩) n d).ownBlock)(hq:(Value.slice (some ⟨g0,0,none⟩) n d).ownBlock=some g1∨W.heap.size<=g1):Bw.Mid w wc g K' k1 n1 k2 n2 g1 (n+1) d1 qs W':=by
 have hb:(Value.slice (some ⟨g0,0,none⟩) n d).ownBlock=some g0:=rfl;have l1:=h.a1.lt;have l2:=h.big;have l3:=h.lt;have hge:w.heap.size<=g0:=(World.ownsRow.lt h.own g0 rfl).1;have hk:∀k,k<W.heap.size->k≠g0->W'.heap[k]? =W.heap[k]? :=λk hk hn=>hg.block k hk (by rw[hb];intro e;exact hn (Option.some.inj e))
 have hne:g1≠K'/\g1≠g:=by
  rcases hq with e|e
  ·rw[hb]at e
   obtain rfl:=Option.some.inj e;exact⟨h.nk,h.ng⟩
  exact⟨by omega,by omega⟩
 exact⟨ho,(hk g (by omega) (Ne.symm h.ng)).trans h.same,h.a1.keep (hk K' l1 (Ne.symm h.nk)),h.a2.keep (hk K' l1 (Ne.symm h.nk)),⟨hg.os.trans h.but.os,hg.tape.trans h.but.tape,hg.output.trans h.but.output,Nat.le_trans h.but.size hg.size,λk h1 h2=>(hk k (by omega) (by omega)).trans (h.but.block k h1 h2)⟩,hne.1,hne.2,h.lt⟩
def Bw.Kd (w wb:World)(K':Nat)(k1 n1 k2 n2:Int):Prop:=w.heap.size<=K'/\Bw.At K' 0 (Bw.leaf k1 n1) wb/\Bw.At K' 12 (Bw.leaf k2 n2) wb/\Below w.heap.size w wb
theorem Tryz.bwOwn_root (g o kb cap:Nat)(k1 n1 k2 n2:Int)(w:World)(hA:Bw.At g o (Bw.root kb cap) w)(hT:Bw.Two kb k1 n1 k2 n2 w)(hK:kb<w.heap.size):
  Calls Tryz.prog 55 #[.pointer (some ⟨g,o,none⟩),.slice none 0 0] w λe w'=>∃K' c' g' d,e=.returned (.slice (some ⟨g',0,none⟩) 3 d)/\w.heap.size<=K'/\w'.ownsRow w.heap.size 96 1 (.slice (some ⟨g',0,none⟩) 3 d) 3 [.pointer (some ⟨g,o+4,none⟩),.pointer (some ⟨K',4,none⟩),.pointer (some ⟨K',16,none⟩)]/\
   w'.heap[g]? =(w.setCell ⟨g,o+8,none⟩ (.slice (some ⟨K',0,none⟩) 2 c')).heap[g]? /\Bw.At K' 0 (Bw.leaf k1 n1) w'/\Bw.At K' 12 (Bw.leaf k2 n2) w'/\Tk.But (λi=>i=g) w w'/\g'≠K':=by
 have hlt:=hA.lt;have HA:Hid (Bw.At g o (Bw.root kb cap) w/\g<w.heap.size):=⟨hA,hlt⟩;have HS:Hid (w.cell? ⟨g,o+7,none⟩=some (.slice none 0 0)/\w.cell? ⟨g,o+9,none⟩=some (.slice none 0 0)):=⟨hA.cell 7 (by decide),hA.cell 9 (by decide)⟩;have c8:w.drew.cell? ⟨g,o+8,none⟩=some (.slice (some ⟨kb,0,none⟩) 2 cap):=hA.cell 8 (by decide)
 have CK:Hid (Calls Tryz.prog 81 #[.slice (some ⟨kb,0,none⟩) 2 cap] w.drew λe w'=>∃g c',e=.returned (.slice (some ⟨g,0,none⟩) 2 c')/\Hid (w.heap.size<=g/\(∃cur,w'.heap[g]? =some (.cells cur 32 (0,0))/\cur.toList.take (2*12)=((Bw.leaf k1 n1).toList++(Bw.leaf k2 n2).toList))/\Below w.heap.size w.drew w')):=
  Tryz.cloneAct_any ⟨kb,0,none⟩ 2 cap ((Bw.leaf k1 n1).toList++(Bw.leaf k2 n2).toList) w.drew rfl (λj v hv=>by
   have hadd:(⟨kb,0,none⟩:Addr).add j=⟨kb,j,none⟩:=by unfold Addr.add;split<;>simp_all
   rw[hadd]
   by_cases q:j<12
   ·rw[List.getElem?_append_left (by exact q)]at hv
    have h:=hT.1 j v hv
    rwa [Nat.zero_add]at h
   ·rw[List.getElem?_append_right (by exact Nat.le_of_not_lt q)]at hv
    have h:=hT.2 (j-12) v hv
    rwa [show 12+(j-12)=j by omega]at h) (λv hv=>by
   have h:((Bw.leaf k1 n1).toList++(Bw.leaf k2 n2).toList).all (·.oneCell')=true:=by kernel_rfl
   exact List.all_eq_true.1 h v hv) (λ_=>hK) (by decide)
 have HK1:Hid (∀(wb:World) (K':Nat),(w.heap.size<=K'/\(∃cur,wb.heap[K']? =some (.cells cur 32 (0,0))/\cur.toList.take (2*12)=((Bw.leaf k1 n1).toList++(Bw.leaf k2 n2).toList))/\Below w.heap.size w.drew wb)->Hid (Bw.At g o (Bw.root kb cap) wb/\wb.cell? ⟨g,o+7,none⟩=some (.slice none 0 0)/\wb.cell? ⟨g,o+9,none⟩=some (.slice none 0 0))/\Hid (Bw.Kd w wb K' k1 n1 k2 n2)):=λwb K' h=>by
  obtain⟨h1,⟨cur,h2,h3⟩,h4⟩:=h;have hb:Below w.heap.size w wb:=⟨h4.os,h4.tape,h4.output,h4.size,h4.block⟩;have ha:Bw.At g o (Bw.root kb cap) wb:=hA.keep (hb.block g hlt);refine⟨⟨ha,ha.cell 7 (by decide),ha.cell 9 (by decide)⟩,h1,Bw.At.of_take h2 h3 0 _ (λi hi=> ?_) (by decide),Bw.At.of_take h2 h3 12 _ (λi hi=> ?_) (by decide),hb⟩
  ·rw[Nat.zero_add,List.getElem?_append_left (by exact hi)]
   simp
  rw[List.getElem?_append_right (by show 12<=12+i;omega)];have:12+i-(Bw.leaf k1 n1).toList.length=i:=by show 12+i-12=i;omega
  rw[this]
  simp
 clear hA hT hK hlt
 go_enter Tryz.func55,Tryz.ntmps55
 go_upto_region 1 with fail
 go_cut []from 9 to 132 (λwx=>∃(K' c':Nat) (wb:World),Hid (Bw.Kd w wb K' k1 n1 k2 n2)/\wx=wb.setCell ⟨g,o+8,none⟩ (.slice (some ⟨K',0,none⟩) 2 c'))
 case first=>
  refine wp_region_held_drew (S:=(λV=>V.cell? ⟨g,o+7,none⟩=some (.slice none 0 0)/\V.cell? ⟨g,o+9,none⟩=some (.slice none 0 0))) (by kernel_rfl) ?_ (λhHeld=> ?_)
  ·exact HS.out
  refine Nt.takeS (v:= ?va0) 0 9 rfl rfl (by kernel_rfl) (by kernel_rfl) (by kernel_rfl) (λ_ _ _ h=>h) (Or.inl ⟨by rfl, ?ya0⟩) hHeld ?ra0
  case ya0=>(intro w hSw;(try dsimp only at hSw);go_simp;all_goals (with_reducible rfl))
  simp only[List.set_cons_succ,List.set_cons_zero];refine Nt.takeS (v:= ?va1) 1 10 rfl rfl (by kernel_rfl) (by kernel_rfl) (by kernel_rfl) (λ_ _ _ h=>h) (Or.inl ⟨by rfl, ?ya1⟩) hHeld ?ra1
  case ya1=>(intro w hSw;(try dsimp only at hSw);go_simp;all_goals (with_reducible rfl))
  simp only[List.set_cons_succ,List.set_cons_zero];refine Nt.takeS (v:= ?va2) 2 11 rfl rfl (by kernel_rfl) (by kernel_rfl) (by kernel_rfl) (λ_ _ _ h=>h) (Or.inl ⟨by rfl, ?ya2⟩) hHeld ?ra2
  case ya2=>(intro w hSw;(try dsimp only at hSw);go_simp;all_goals (with_reducible rfl))
  simp only[List.set_cons_succ,List.set_cons_zero];refine Nt.takeS (v:= ?va3) 3 12 rfl rfl (by kernel_rfl) (by kernel_rfl) (by kernel_rfl) (λ_ _ _ h=>h) (Or.inl ⟨by rfl, ?ya3⟩) hHeld ?ra3
  case ya3=>(intro w hSw;(try dsimp only at hSw);go_simp;all_goals (with_reducible rfl))
  simp only[List.set_cons_succ,List.set_cons_zero];refine Nt.takeS (v:= ?va4) 4 13 rfl rfl (by kernel_rfl) (by kernel_rfl) (by kernel_rfl) (λ_ _ _ h=>h) (Or.inl ⟨by rfl, ?ya4⟩) hHeld ?ra4
  case ya4=>(intro w hSw;(try dsimp only at hSw);go_simp;all_goals (with_reducible rfl))
  simp only[List.set_cons_succ,List.set_cons_zero];refine Nt.takeS (v:= ?va5) 5 14 rfl rfl (by kernel_rfl) (by kernel_rfl) (by kernel_rfl) (λ_ _ _ h=>h) (Or.inl ⟨by rfl, ?ya5⟩) hHeld ?ra5
  case ya5=>(intro w hSw;(try dsimp only at hSw);go_simp;all_goals (with_reducible rfl))
  simp only[List.set_cons_succ,List.set_cons_zero];refine Nt.takeS (v:= ?va6) 6 15 rfl rfl (by kernel_rfl) (by kernel_rfl) (by kernel_rfl) (λ_ _ _ h=>h) (Or.inl ⟨by rfl, ?ya6⟩) hHeld ?ra6
  case ya6=>(intro w hSw;(try dsimp only at hSw);go_simp;all_goals (with_reducible rfl))
  simp only[List.set_cons_succ,List.set_cons_zero];refine Nt.takeS (v:= ?va8) 8 17 rfl rfl (by kernel_rfl) (by kernel_rfl) (by kernel_rfl) (λ_ _ _ h=>h) (Or.inl ⟨by rfl, ?ya8⟩) hHeld ?ra8
  case ya8=>(intro w hSw;(try dsimp only at hSw);go_simp;all_goals (with_reducible rfl))
  simp only[List.set_cons_succ,List.set_cons_zero];refine Nt.takeS (v:= ?va9) 9 18 rfl rfl (by kernel_rfl) (by kernel_rfl) (by kernel_rfl) (λ_ _ _ h=>h) (Or.inl ⟨by rfl, ?ya9⟩) hHeld ?ra9
  case ya9=>(intro w hSw;(try dsimp only at hSw);go_simp;all_goals (with_reducible rfl))
  simp only[List.set_cons_succ,List.set_cons_zero];refine Nt.takeS (v:= ?va10) 10 19 rfl rfl (by kernel_rfl) (by kernel_rfl) (by kernel_rfl) (λ_ _ _ h=>h) (Or.inl ⟨by rfl, ?ya10⟩) hHeld ?ra10
  case ya10=>(intro w hSw;(try dsimp only at hSw);go_simp;all_goals (with_reducible rfl))
  simp only[List.set_cons_succ,List.set_cons_zero];refine Nt.takeS (v:= ?va13) 13 22 rfl rfl (by kernel_rfl) (by kernel_rfl) (by kernel_rfl) (λ_ _ _ h=>h) (Or.inl ⟨by rfl, ?ya13⟩) hHeld ?ra13
  case ya13=>(intro w hSw;(try dsimp only at hSw);go_simp;all_goals (with_reducible rfl))
  simp only[List.set_cons_succ,List.set_cons_zero];refine Nt.takeS (v:= ?va14) 14 23 rfl rfl (by kernel_rfl) (by kernel_rfl) (by kernel_rfl) (λ_ _ _ h=>h) (Or.inl ⟨by rfl, ?ya14⟩) hHeld ?ra14
  case ya14=>(intro w hSw;(try dsimp only at hSw);go_simp;all_goals (with_reducible rfl))
  simp only[List.set_cons_succ,List.set_cons_zero];refine Nt.takeS (v:= ?va15) 15 24 rfl rfl (by kernel_rfl) (by kernel_rfl) (by kernel_rfl) (λ_ _ _ h=>h) (Or.inl ⟨by rfl, ?ya15⟩) hHeld ?ra15
  case ya15=>(intro w hSw;(try dsimp only at hSw);go_simp;all_goals (with_reducible rfl))
  simp only[List.set_cons_succ,List.set_cons_zero];refine Nt.takeS (v:= ?va16) 16 25 rfl rfl (by kernel_rfl) (by kernel_rfl) (by kernel_rfl) (λ_ _ _ h=>h) (Or.inl ⟨by rfl, ?ya16⟩) hHeld ?ra16
  case ya16=>(intro w hSw;(try dsimp only at hSw);go_simp;all_goals (with_reducible rfl))
  simp only[List.set_cons_succ,List.set_cons_zero];refine wpAnyH_ready (rs:= [7,11]) (by kernel_rfl) (by simp) ?_;refine AllReadyH.cons rfl (λK hK=> ?_) (AllReadyH.cons rfl (λK hK=> ?_) AllReadyH.nil)
  ·go_simp
   go_at_call 80
   refine Calls.mono (Tryz.cloneTerm_nil _ 0) ?_;rintro e' W' ⟨rfl,hw⟩;obtain rfl:=hw.symm
   go_wp2_with fail
   refine hK.out _ _ ?_ (λhT7=> ?_)
   ·exact HS.out
   clear hK K
   first|refine Nt.normS 16 rfl ?_|skip
   first|(simp only[List.set_cons_succ,List.set_cons_zero])|skip
   refine wpAnyH_ready (rs:= [11]) (by kernel_rfl) (by simp) ?_;refine AllReadyH.cons rfl (λK hK=> ?_) AllReadyH.nil;go_simp;refine hK.out _ _ ?_ (λhT11=> ?_)
   ·exact HS.out
   clear hK K
   first|refine Nt.normS 20 rfl ?_|skip
   first|(simp only[List.set_cons_succ,List.set_cons_zero])|skip
   refine wpAnyH_ready (rs:= [12]) (by kernel_rfl) (by simp) ?_;refine AllReadyH.cons rfl (λK hK=> ?_) AllReadyH.nil;go_simp
   go_at_call 81
   refine Calls.mono CK.out ?_;rintro e' wb ⟨K',c',rfl,HK⟩;obtain⟨Hb,HKs⟩:=HK1.out wb K' HK.out;have f7:wb.frozen? ⟨g,o+7,none⟩=false:=Hb.out.1.frozen (o+7);have f8:wb.frozen? ⟨g,o+8,none⟩=false:=Hb.out.1.frozen (o+8);have e7:wb.cell? ⟨g,o+7,none⟩=some (.slice none 0 0):=Hb.out.1.cell 7 (by decide);have e8:wb.cell? ⟨g,o+8,none⟩=some (.slice (some ⟨kb,0,none⟩) 2 cap):=Hb.out.1.cell 8 (by decide);have hs7:wb.setCell ⟨g,o+7,none⟩ (.slice none 0 0)=wb:=Hb.out.1.same (by decide) rfl
   go_wp2_with fail
   refine hK.out _ _ ?_ (λhT12=> ?_)
   ·exact Hb.out.2
   clear hK K
   first|refine Nt.normS 21 rfl ?_|skip
   first|(simp only[List.set_cons_succ,List.set_cons_zero])|skip
   refine wpAnyH_ready (rs:= [17]) (by kernel_rfl) (by simp) ?_;refine AllReadyH.cons rfl (λK hK=> ?_) AllReadyH.nil;go_simp
   go_at_call 82
   refine Calls.mono (Tryz.cloneLink_nil _ 0) ?_;rintro e' W' ⟨rfl,hw⟩;obtain rfl:=hw.symm
   go_wp2_with fail
   refine hK.out _ _ ?_ (λhT17=> ?_)
   ·exact Hb.out.2
   clear hK K
   first|refine Nt.normS 26 rfl ?_|skip
   first|(simp only[List.set_cons_succ,List.set_cons_zero])|skip
   refine Nt.takeS (v:= ?vb18) 18 27 rfl rfl (by kernel_rfl) (by kernel_rfl) (by kernel_rfl) (λ_ _ _ h=>h) (Or.inl ⟨by rfl, ?yb18⟩) hT17 ?rb18
   case yb18=>(intro w hSw;(try dsimp only at hSw);go_simp;all_goals (with_reducible rfl))
   simp only[List.set_cons_succ,List.set_cons_zero];refine Nt.takeS (v:= ?vb19) 19 28 rfl rfl (by kernel_rfl) (by kernel_rfl) (by kernel_rfl) (λ_ _ _ h=>h) (Or.inl ⟨by rfl, ?yb19⟩) hT17 ?rb19
   case yb19=>(intro w hSw;(try dsimp only at hSw);go_simp;all_goals (with_reducible rfl))
   simp only[List.set_cons_succ,List.set_cons_zero];refine wpAnyH_ready (rs:= [20]) (by kernel_rfl) (by simp) ?_;refine AllReadyH.cons rfl (λK hK=> ?_) AllReadyH.nil;go_simp;refine hK.out _ _ ?_ (λhT20=> ?_)
   ·exact Hb.out.2
   clear hK K;refine Nt.takeS (v:= ?vc21) 21 29 rfl rfl (by kernel_rfl) (by kernel_rfl) (by kernel_rfl) (λ_ _ _ h=>h) (Or.inl ⟨by rfl, ?yc21⟩) hT20 ?rc21
   case yc21=>(intro w hSw;(try dsimp only at hSw);go_simp;all_goals (with_reducible rfl))
   simp only[List.set_cons_succ,List.set_cons_zero];refine Nt.takeS (v:= ?vc22) 22 30 rfl rfl (by kernel_rfl) (by kernel_rfl) (by kernel_rfl) (λ_ _ _ h=>h) (Or.inl ⟨by rfl, ?yc22⟩) hT20 ?rc22
   case yc22=>(intro w hSw;(try dsimp only at hSw);go_simp;all_goals (with_reducible rfl))
   simp only[List.set_cons_succ,List.set_cons_zero];refine wpAnyH_ready (rs:= [23]) (by kernel_rfl) (by simp) ?_;refine AllReadyH.cons rfl (λK hK=> ?_) AllReadyH.nil;go_simp;obtain⟨wc,hwc⟩:=pE (wb.setCell ⟨g,o+8,none⟩ (.slice (some ⟨K',0,none⟩) 2 c'));rw[hwc]
   have Hc:Hid (Bw.At g o (Bw.root K' c') wc/\wc.cell? ⟨g,o+7,none⟩=some (.slice none 0 0)/\wc.cell? ⟨g,o+9,none⟩=some (.slice none 0 0)):=by
    have h:Bw.At g o ((Bw.root kb cap).setIfInBounds 8 (.slice (some ⟨K',0,none⟩) 2 c')) wc:=by rw[<-hwc];exact Hb.out.1.put 8 (by decide) rfl _
    exact⟨h,h.cell 7 (by decide),h.cell 9 (by decide)⟩
   have f9:wc.frozen? ⟨g,o+9,none⟩=false:=Hc.out.1.frozen (o+9);have e9:wc.cell? ⟨g,o+9,none⟩=some (.slice none 0 0):=Hc.out.1.cell 9 (by decide);have hs9:wc.setCell ⟨g,o+9,none⟩ (.slice none 0 0)=wc:=Hc.out.1.same (by decide) rfl;have Hwc:Hid _:=hwc;clear hwc e7 e8 f7 f8 hs7;refine hK.out _ _ ?_ (λhT23=> ?_)
   ·exact Hc.out.2
   clear hK K;refine Nt.takeS (v:= ?vd24) 24 31 rfl rfl (by kernel_rfl) (by kernel_rfl) (by kernel_rfl) (λ_ _ _ h=>h) (Or.inl ⟨by rfl, ?yd24⟩) hT23 ?rd24
   case yd24=>(intro w hSw;(try dsimp only at hSw);go_simp;all_goals (with_reducible rfl))
   simp only[List.set_cons_succ,List.set_cons_zero];refine Nt.takeS (v:= ?vd25) 25 32 rfl rfl (by kernel_rfl) (by kernel_rfl) (by kernel_rfl) (λ_ _ _ h=>h) (Or.inl ⟨by rfl, ?yd25⟩) hT23 ?rd25
   case yd25=>(intro w hSw;(try dsimp only at hSw);go_simp;all_goals (with_reducible rfl))
   simp only[List.set_cons_succ,List.set_cons_zero];refine wpAnyH_ready (rs:= [26]) (by kernel_rfl) (by simp) ?_;refine AllReadyH.cons rfl (λK hK=> ?_) AllReadyH.nil;go_simp;refine hK.out _ _ ?_ (λhT26=> ?_)
   ·exact Hc.out.2
   clear hK K;refine wpAnyH_done (by kernel_rfl) ?_ _
   go_wp2_with fail
   go_meet;exact⟨K',c',wb,HKs,Hwc.out.symm⟩
  go_simp;refine hK.out _ _ ?_ (λhT11=> ?_)
  ·exact HS.out
  clear hK K
  first|refine Nt.normS 20 rfl ?_|skip
  first|(simp only[List.set_cons_succ,List.set_cons_zero])|skip
  refine wpAnyH_ready (rs:= [7]) (by kernel_rfl) (by simp) ?_;refine AllReadyH.cons rfl (λK hK=> ?_) AllReadyH.nil;go_simp
  go_at_call 80
  refine Calls.mono (Tryz.cloneTerm_nil _ 0) ?_;rintro e' W' ⟨rfl,hw⟩;obtain rfl:=hw.symm
  go_wp2_with fail
  refine hK.out _ _ ?_ (λhT7=> ?_)
  ·exact HS.out
  clear hK K
  first|refine Nt.normS 16 rfl ?_|skip
  first|(simp only[List.set_cons_succ,List.set_cons_zero])|skip
  refine wpAnyH_ready (rs:= [12]) (by kernel_rfl) (by simp) ?_;refine AllReadyH.cons rfl (λK hK=> ?_) AllReadyH.nil;go_simp
  go_at_call 81
  refine Calls.mono CK.out ?_;rintro e' wb ⟨K',c',rfl,HK⟩;obtain⟨Hb,HKs⟩:=HK1.out wb K' HK.out;have f7:wb.frozen? ⟨g,o+7,none⟩=false:=Hb.out.1.frozen (o+7);have f8:wb.frozen? ⟨g,o+8,none⟩=false:=Hb.out.1.frozen (o+8);have e7:wb.cell? ⟨g,o+7,none⟩=some (.slice none 0 0):=Hb.out.1.cell 7 (by decide);have e8:wb.cell? ⟨g,o+8,none⟩=some (.slice (some ⟨kb,0,none⟩) 2 cap):=Hb.out.1.cell 8 (by decide);have hs7:wb.setCell ⟨g,o+7,none⟩ (.slice none 0 0)=wb:=Hb.out.1.same (by decide) rfl
  go_wp2_with fail
  refine hK.out _ _ ?_ (λhT12=> ?_)
  ·exact Hb.out.2
  clear hK K
  first|refine Nt.normS 21 rfl ?_|skip
  first|(simp only[List.set_cons_succ,List.set_cons_zero])|skip
  refine wpAnyH_ready (rs:= [17]) (by kernel_rfl) (by simp) ?_;refine AllReadyH.cons rfl (λK hK=> ?_) AllReadyH.nil;go_simp
  go_at_call 82
  refine Calls.mono (Tryz.cloneLink_nil _ 0) ?_;rintro e' W' ⟨rfl,hw⟩;obtain rfl:=hw.symm
  go_wp2_with fail
  refine hK.out _ _ ?_ (λhT17=> ?_)
  ·exact Hb.out.2
  clear hK K
  first|refine Nt.normS 26 rfl ?_|skip
  first|(simp only[List.set_cons_succ,List.set_cons_zero])|skip
  refine Nt.takeS (v:= ?vp18) 18 27 rfl rfl (by kernel_rfl) (by kernel_rfl) (by kernel_rfl) (λ_ _ _ h=>h) (Or.inl ⟨by rfl, ?yp18⟩) hT17 ?rp18
  case yp18=>(intro w hSw;(try dsimp only at hSw);go_simp;all_goals (with_reducible rfl))
  simp only[List.set_cons_succ,List.set_cons_zero];refine Nt.takeS (v:= ?vp19) 19 28 rfl rfl (by kernel_rfl) (by kernel_rfl) (by kernel_rfl) (λ_ _ _ h=>h) (Or.inl ⟨by rfl, ?yp19⟩) hT17 ?rp19
  case yp19=>(intro w hSw;(try dsimp only at hSw);go_simp;all_goals (with_reducible rfl))
  simp only[List.set_cons_succ,List.set_cons_zero];refine wpAnyH_ready (rs:= [20]) (by kernel_rfl) (by simp) ?_;refine AllReadyH.cons rfl (λK hK=> ?_) AllReadyH.nil;go_simp;refine hK.out _ _ ?_ (λhT20=> ?_)
  ·exact Hb.out.2
  clear hK K;refine Nt.takeS (v:= ?vq21) 21 29 rfl rfl (by kernel_rfl) (by kernel_rfl) (by kernel_rfl) (λ_ _ _ h=>h) (Or.inl ⟨by rfl, ?yq21⟩) hT20 ?rq21
  case yq21=>(intro w hSw;(try dsimp only at hSw);go_simp;all_goals (with_reducible rfl))
  simp only[List.set_cons_succ,List.set_cons_zero];refine Nt.takeS (v:= ?vq22) 22 30 rfl rfl (by kernel_rfl) (by kernel_rfl) (by kernel_rfl) (λ_ _ _ h=>h) (Or.inl ⟨by rfl, ?yq22⟩) hT20 ?rq22
  case yq22=>(intro w hSw;(try dsimp only at hSw);go_simp;all_goals (with_reducible rfl))
  simp only[List.set_cons_succ,List.set_cons_zero];refine wpAnyH_ready (rs:= [23]) (by kernel_rfl) (by simp) ?_;refine AllReadyH.cons rfl (λK hK=> ?_) AllReadyH.nil;go_simp;obtain⟨wc,hwc⟩:=pE (wb.setCell ⟨g,o+8,none⟩ (.slice (some ⟨K',0,none⟩) 2 c'));rw[hwc]
  have Hc:Hid (Bw.At g o (Bw.root K' c') wc/\wc.cell? ⟨g,o+7,none⟩=some (.slice none 0 0)/\wc.cell? ⟨g,o+9,none⟩=some (.slice none 0 0)):=by
   have h:Bw.At g o ((Bw.root kb cap).setIfInBounds 8 (.slice (some ⟨K',0,none⟩) 2 c')) wc:=by rw[<-hwc];exact Hb.out.1.put 8 (by decide) rfl _
   exact⟨h,h.cell 7 (by decide),h.cell 9 (by decide)⟩
  have f9:wc.frozen? ⟨g,o+9,none⟩=false:=Hc.out.1.frozen (o+9);have e9:wc.cell? ⟨g,o+9,none⟩=some (.slice none 0 0):=Hc.out.1.cell 9 (by decide);have hs9:wc.setCell ⟨g,o+9,none⟩ (.slice none 0 0)=wc:=Hc.out.1.same (by decide) rfl;have Hwc:Hid _:=hwc;clear hwc e7 e8 f7 f8 hs7;refine hK.out _ _ ?_ (λhT23=> ?_)
  ·exact Hc.out.2
  clear hK K;refine Nt.takeS (v:= ?vs24) 24 31 rfl rfl (by kernel_rfl) (by kernel_rfl) (by kernel_rfl) (λ_ _ _ h=>h) (Or.inl ⟨by rfl, ?ys24⟩) hT23 ?rs24
  case ys24=>(intro w hSw;(try dsimp only at hSw);go_simp;all_goals (with_reducible rfl))
  simp only[List.set_cons_succ,List.set_cons_zero];refine Nt.takeS (v:= ?vs25) 25 32 rfl rfl (by kernel_rfl) (by kernel_rfl) (by kernel_rfl) (λ_ _ _ h=>h) (Or.inl ⟨by rfl, ?ys25⟩) hT23 ?rs25
  case ys25=>(intro w hSw;(try dsimp only at hSw);go_simp;all_goals (with_reducible rfl))
  simp only[List.set_cons_succ,List.set_cons_zero];refine wpAnyH_ready (rs:= [26]) (by kernel_rfl) (by simp) ?_;refine AllReadyH.cons rfl (λK hK=> ?_) AllReadyH.nil;go_simp;refine hK.out _ _ ?_ (λhT26=> ?_)
  ·exact Hc.out.2
  clear hK K;refine wpAnyH_done (by kernel_rfl) ?_ _
  go_wp2_with fail
  go_meet;exact⟨K',c',wb,HKs,Hwc.out.symm⟩
 case rest=>
  rename World=>wc;obtain⟨K',c',wb,HKd,hwc⟩:=hcut;obtain⟨wd,hwd⟩:=pE (wb.setCell ⟨g,o+8,none⟩ (.slice (some ⟨K',0,none⟩) 2 c'));rw[hwd]at hwc;have HD:Hid (wb.setCell ⟨g,o+8,none⟩ (.slice (some ⟨K',0,none⟩) 2 c')=wd):=hwd;clear hwd;subst hwc;have hgb:g<wb.heap.size:=Nat.lt_of_lt_of_le HA.out.2 HKd.out.2.2.2.size;have hKg:K'≠g:=by have:=HKd.out.1;have:=HA.out.2;omega
  have hAc:Bw.At g o (Bw.root K' c') wc:=by
   have h:Bw.At g o ((Bw.root kb cap).setIfInBounds 8 (.slice (some ⟨K',0,none⟩) 2 c')) wc:=by rw[<-HD.out];exact(HA.out.1.keep (HKd.out.2.2.2.block g HA.out.2)).put 8 (by decide) rfl _
   exact h
  have hoth:∀k,k≠g->wc.heap[k]? =wb.heap[k]? :=λk hk=>by rw[<-HD.out];exact Below.heap_setCell wb ⟨g,o+8,none⟩ _ k hk
  have HC:Hid (Bw.At g o (Bw.root K' c') wc/\Bw.At K' 0 (Bw.leaf k1 n1) wc/\Bw.At K' 12 (Bw.leaf k2 n2) wc/\Tk.But (λi=>i=g) w wc/\wc.heap[g]? =(w.setCell ⟨g,o+8,none⟩ (.slice (some ⟨K',0,none⟩) 2 c')).heap[g]? /\w.heap.size<=K'/\g<w.heap.size/\K'≠g):=by
   refine⟨hAc,HKd.out.2.1.keep (hoth K' hKg),HKd.out.2.2.1.keep (hoth K' hKg),by rw[<-HD.out];exact(Tk.But.of_below HKd.out.2.2.2:Tk.But (λi=>i=g) w wb).setCell (p:=⟨g,o+8,none⟩) rfl _, ?_,HKd.out.1,HA.out.2,hKg⟩;rw[<-HD.out];simp[World.setCell,Array.getElem?_modify,HKd.out.2.2.2.block g HA.out.2]
  clear hgb hKg hoth HS c8 CK HK1 HKd HA HD;have HS2:Hid (wc.cell? ⟨g,o+10,none⟩=some (.slice none 0 0)/\wc.cell? ⟨g,o+11,none⟩=some (.slice none 0 0)):=⟨hAc.cell 10 (by decide),hAc.cell 11 (by decide)⟩;have e10:wc.drew.cell? ⟨g,o+10,none⟩=some (.slice none 0 0):=HS2.out.1;have e11:wc.drew.cell? ⟨g,o+11,none⟩=some (.slice none 0 0):=HS2.out.2;have f10:wc.drew.frozen? ⟨g,o+10,none⟩=false:=hAc.frozen (o+10);have f11:wc.drew.frozen? ⟨g,o+11,none⟩=false:=hAc.frozen (o+11);have hs10:wc.drew.setCell ⟨g,o+10,none⟩ (.slice none 0 0)=wc.drew:=(hAc.keep (W':=wc.drew) rfl).same (by decide) rfl;have hs11:wc.drew.setCell ⟨g,o+11,none⟩ (.slice none 0 0)=wc.drew:=(hAc.keep (W':=wc.drew) rfl).same (by decide) rfl
  go_upto_region 2 with fail
  refine wp_region_held_drew (S:=(λV=>V.cell? ⟨g,o+10,none⟩=some (.slice none 0 0)/\V.cell? ⟨g,o+11,none⟩=some (.slice none 0 0))) (by kernel_rfl) ?_ (λhHeld=> ?_)
  ·exact HS2.out
  refine Nt.takeS (v:= ?ve0) 0 33 rfl rfl (by kernel_rfl) (by kernel_rfl) (by kernel_rfl) (λ_ _ _ h=>h) (Or.inl ⟨by rfl, ?ye0⟩) hHeld ?re0
  case ye0=>(intro w hSw;(try dsimp only at hSw);go_simp;all_goals (with_reducible rfl))
  simp only[List.set_cons_succ,List.set_cons_zero];refine Nt.takeS (v:= ?ve1) 1 34 rfl rfl (by kernel_rfl) (by kernel_rfl) (by kernel_rfl) (λ_ _ _ h=>h) (Or.inl ⟨by rfl, ?ye1⟩) hHeld ?re1
  case ye1=>(intro w hSw;(try dsimp only at hSw);go_simp;all_goals (with_reducible rfl))
  simp only[List.set_cons_succ,List.set_cons_zero];refine Nt.takeS (v:= ?ve2) 2 35 rfl rfl (by kernel_rfl) (by kernel_rfl) (by kernel_rfl) (λ_ _ _ h=>h) (Or.inl ⟨by rfl, ?ye2⟩) hHeld ?re2
  case ye2=>(intro w hSw;(try dsimp only at hSw);go_simp;all_goals (with_reducible rfl))
  simp only[List.set_cons_succ,List.set_cons_zero];refine Nt.takeS (v:= ?ve3) 3 36 rfl rfl (by kernel_rfl) (by kernel_rfl) (by kernel_rfl) (λ_ _ _ h=>h) (Or.inl ⟨by rfl, ?ye3⟩) hHeld ?re3
  case ye3=>(intro w hSw;(try dsimp only at hSw);go_simp;all_goals (with_reducible rfl))
  simp only[List.set_cons_succ,List.set_cons_zero];refine Nt.takeS (v:= ?ve4) 4 37 rfl rfl (by kernel_rfl) (by kernel_rfl) (by kernel_rfl) (λ_ _ _ h=>h) (Or.inl ⟨by rfl, ?ye4⟩) hHeld ?re4
  case ye4=>(intro w hSw;(try dsimp only at hSw);go_simp;all_goals (with_reducible rfl))
  simp only[List.set_cons_succ,List.set_cons_zero];refine Nt.takeS (v:= ?ve5) 5 38 rfl rfl (by kernel_rfl) (by kernel_rfl) (by kernel_rfl) (λ_ _ _ h=>h) (Or.inl ⟨by rfl, ?ye5⟩) hHeld ?re5
  case ye5=>(intro w hSw;(try dsimp only at hSw);go_simp;all_goals (with_reducible rfl))
  simp only[List.set_cons_succ,List.set_cons_zero];refine Nt.takeS (v:= ?ve7) 7 40 rfl rfl (by kernel_rfl) (by kernel_rfl) (by kernel_rfl) (λ_ _ _ h=>h) (Or.inl ⟨by rfl, ?ye7⟩) hHeld ?re7
  case ye7=>(intro w hSw;(try dsimp only at hSw);go_simp;all_goals (with_reducible rfl))
  simp only[List.set_cons_succ,List.set_cons_zero];refine Nt.takeS (v:= ?ve8) 8 41 rfl rfl (by kernel_rfl) (by kernel_rfl) (by kernel_rfl) (λ_ _ _ h=>h) (Or.inl ⟨by rfl, ?ye8⟩) hHeld ?re8
  case ye8=>(intro w hSw;(try dsimp only at hSw);go_simp;all_goals (with_reducible rfl))
  simp only[List.set_cons_succ,List.set_cons_zero];refine Nt.takeS (v:= ?ve9) 9 42 rfl rfl (by kernel_rfl) (by kernel_rfl) (by kernel_rfl) (λ_ _ _ h=>h) (Or.inl ⟨by rfl, ?ye9⟩) hHeld ?re9
  case ye9=>(intro w hSw;(try dsimp only at hSw);go_simp;all_goals (with_reducible rfl))
  simp only[List.set_cons_succ,List.set_cons_zero];refine Nt.takeS (v:= ?ve10) 10 43 rfl rfl (by kernel_rfl) (by kernel_rfl) (by kernel_rfl) (λ_ _ _ h=>h) (Or.inl ⟨by rfl, ?ye10⟩) hHeld ?re10
  case ye10=>(intro w hSw;(try dsimp only at hSw);go_simp;all_goals (with_reducible rfl))
  simp only[List.set_cons_succ,List.set_cons_zero];refine Nt.takeS (v:= ?ve11) 11 44 rfl rfl (by kernel_rfl) (by kernel_rfl) (by kernel_rfl) (λ_ _ _ h=>h) (Or.inl ⟨by rfl, ?ye11⟩) hHeld ?re11
  case ye11=>(intro w hSw;(try dsimp only at hSw);go_simp;all_goals (with_reducible rfl))
  simp only[List.set_cons_succ,List.set_cons_zero];refine wpAnyH_ready (rs:= [6]) (by kernel_rfl) (by simp) ?_;refine AllReadyH.cons rfl (λK hK=> ?_) AllReadyH.nil;go_simp
  go_at_call 83
  refine Calls.mono (Tryz.cloneNode_nil _ 0) ?_;rintro e' W' ⟨rfl,hw⟩;obtain rfl:=hw.symm
  go_wp2_with fail
  refine hK.out _ _ ?_ (λhT6=> ?_)
  ·exact HS2.out
  clear hK K
  first|refine Nt.normS 39 rfl ?_|skip
  first|(simp only[List.set_cons_succ,List.set_cons_zero])|skip
  refine wpAnyH_ready (rs:= [12]) (by kernel_rfl) (by simp) ?_;refine AllReadyH.cons rfl (λK hK=> ?_) AllReadyH.nil;go_simp
  go_at_call 84
  refine Calls.mono (Tryz.cloneFlow_nil _ 0) ?_;rintro e' W' ⟨rfl,hw⟩;obtain rfl:=hw.symm
  go_wp2_with fail
  refine hK.out _ _ ?_ (λhT12=> ?_)
  ·exact HS2.out
  clear hK K
  first|refine Nt.normS 45 rfl ?_|skip
  first|(simp only[List.set_cons_succ,List.set_cons_zero])|skip
  refine Nt.takeS (v:= ?vf13) 13 46 rfl rfl (by kernel_rfl) (by kernel_rfl) (by kernel_rfl) (λ_ _ _ h=>h) (Or.inl ⟨by rfl, ?yf13⟩) hT12 ?rf13
  case yf13=>(intro w hSw;(try dsimp only at hSw);go_simp;all_goals (with_reducible rfl))
  simp only[List.set_cons_succ,List.set_cons_zero];refine Nt.takeS (v:= ?vf14) 14 47 rfl rfl (by kernel_rfl) (by kernel_rfl) (by kernel_rfl) (λ_ _ _ h=>h) (Or.inl ⟨by rfl, ?yf14⟩) hT12 ?rf14
  case yf14=>(intro w hSw;(try dsimp only at hSw);go_simp;all_goals (with_reducible rfl))
  simp only[List.set_cons_succ,List.set_cons_zero];refine Nt.takeS (v:= ?vf15) 15 48 rfl rfl (by kernel_rfl) (by kernel_rfl) (by kernel_rfl) (λ_ _ _ h=>h) (Or.inl ⟨by rfl, ?yf15⟩) hT12 ?rf15
  case yf15=>(intro w hSw;(try dsimp only at hSw);go_simp;all_goals (with_reducible rfl))
  simp only[List.set_cons_succ,List.set_cons_zero];refine wpAnyH_ready (rs:= [16]) (by kernel_rfl) (by simp) ?_;refine AllReadyH.cons rfl (λK hK=> ?_) AllReadyH.nil;go_simp;refine hK.out _ _ ?_ (λhT16=> ?_)
  ·exact HS2.out
  clear hK K;refine wpAnyH_done (by kernel_rfl) ?_ _;obtain⟨wf,hwf⟩:=pE wc.drew;rw[hwf];have HDf:Hid (wf.heap=wc.heap/\wf.os=wc.os/\wf.tape=wc.tape/\wf.output=wc.output):=by rw[<-hwf];exact⟨rfl,rfl,rfl,rfl⟩
  obtain⟨i0,hi,hz0,hz1,hz2⟩:=info_parts Bw.infoPtr;obtain⟨wg,hwg⟩:=pE (wf.alloc (.cells #[.pointer (some ⟨g,o+4,none⟩)] 96));have Ng:=pH hwg;have Bg:=pB hwg;have HVg:Hid (wg.ownsRow w.heap.size 96 1 (.slice none 0 0) 0 []):=World.ownsRow_nil _ _ _ _;have HN:Hid (∀j u,(#[.pointer (some ⟨g,o+4,none⟩)]:Array Value).toList[j]? =some u->wg.cell? ((⟨wf.heap.size,0,none⟩:Addr).add j)=some u):=World.news_of_block Ng
  have HO:Hid (∀u∈(#[.pointer (some ⟨g,o+4,none⟩)]:Array Value).toList,u.oneCell'=true):=by
   intro u hu;obtain rfl:=List.mem_singleton.1 hu;rfl
  have HG:Hid (Below wc.heap.size wc wg):=⟨Bg.os.trans HDf.out.2.1,Bg.tape.trans HDf.out.2.2.1,Bg.output.trans HDf.out.2.2.2,by have:=Bg.size;rw[HDf.out.1]at this;exact this,λk hk=>(Bg.block k (by rw[HDf.out.1];exact hk)).trans (by rw[HDf.out.1])⟩;have H1:Hid _:=hwg;clear hwf hwg Ng Bg HS2 e10 e11 f10 f11 hs10 hs11 hT6 hT12 hT16 hAc hHeld
  go_upto_region 4 with(at_builtin;rw[H1.out];refine wpList_append_lies _ rfl _ _ 92 rfl w.heap.size 96 i0 (.pointer none) 1 8 Tryz.underlying92 hi hz0 hz1 hz2 rfl (by decide) (.slice none 0 0) 0 [] rfl HVg.out ⟨wf.heap.size,0,none⟩ 1 1 (#[.pointer (some ⟨g,o+4,none⟩)]:Array Value).toList rfl rfl HN.out HO.out (by decide) ?c3 (by omega) ?c5 _ rfl ?_)
  case c3=>unfold maxLen;omega
  case c5=>have:=HG.out.size;have:=HC.out.2.2.2.1.size;omega
  intro g0 d0 W3 own3 g3 hg' hlt3
  have HW3:Hid (Bw.Mid w wc g K' k1 n1 k2 n2 g0 1 d0 [.pointer (some ⟨g,o+4,none⟩)] W3):=by
   have h1:=HG.out.size;have h2:=HC.out.2.2.2.1.size;have h3:=HC.out.2.2.2.2.2.2.1;have h4:=HC.out.2.1.lt;have hg0:g0=wg.heap.size:=hg'.resolve_left (by simp[Value.ownBlock]);have hk:∀k,k<wc.heap.size->W3.heap[k]? =wc.heap[k]? :=λk hk=>(g3.block k (by omega) (by simp[Value.ownBlock])).trans (HG.out.block k hk);refine⟨own3,hk g (by omega),HC.out.2.1.keep (hk K' h4),HC.out.2.2.1.keep (hk K' h4),HC.out.2.2.2.1.trans ⟨g3.os.trans HG.out.os,g3.tape.trans HG.out.tape,g3.output.trans HG.out.output,Nat.le_trans h1 g3.size,λk h _=>hk k h⟩,by omega,by omega,h3⟩
  have hA3:Bw.At g o (Bw.root K' c') W3:=HC.out.1.keep HW3.out.same;have p7:W3.cell? ⟨g,o+7,none⟩=some (.slice none 0 0):=hA3.cell 7 (by decide);have p8:W3.cell? ⟨g,o+8,none⟩=some (.slice (some ⟨K',0,none⟩) 2 c'):=hA3.cell 8 (by decide);have p10:W3.cell? ⟨g,o+10,none⟩=some (.slice none 0 0):=hA3.cell 10 (by decide);have p11:W3.cell? ⟨g,o+11,none⟩=some (.slice none 0 0):=hA3.cell 11 (by decide);clear own3 g3 hg' hlt3 hA3 hi hz0 hz1 hz2 H1 HN HO HVg HDf HG;go_wp2;refine wp_loop_rounds 1 ?_;rw[rounds_succ];go_wp2;refine wp_loop_rounds 1 ?_;rw[rounds_succ];go_wp2;refine wp_loop_rounds 1 ?_;rw[rounds_succ];go_wp2;refine wp_loop_rounds 3 ?_;have p8a:∀W:World,W.heap[g]? =W3.heap[g]? ->W.cell? ⟨g,o+8,none⟩=some (.slice (some ⟨K',0,none⟩) 2 c'):=λW h=>(World.cell?_of_block (a:=⟨g,o+8,none⟩) h).trans p8;have HP8:Hid _:=p8a;clear p8a p7 p10 p11;rw[rounds_succ]
  go_wp2_with fail
  refine Calls.mono (Tryz.bwOwn_leaf K' 0 k1 n1 w.heap.size 1 _ _ [.pointer (some ⟨g,o+4,none⟩)] W3 HW3.out.a1 HW3.out.own (by decide) HW3.out.big (λb hb=>by obtain rfl:=(Option.some.inj hb).symm;exact HW3.out.nk)) ?_;rintro e u1 ⟨g1,d1,rfl,o1,t1,q1⟩;have Hu1:Hid (Bw.Mid w wc g K' k1 n1 k2 n2 g1 2 d1 ([.pointer (some ⟨g,o+4,none⟩)]++ [.pointer (some ⟨K',0+4,none⟩)]) u1):=HW3.out.step o1 t1 q1;clear o1 t1 q1;go_wp2;have p8:u1.cell? ⟨g,o+8,none⟩=some (.slice (some ⟨K',0,none⟩) 2 c'):=HP8.out u1 (Hu1.out.same.trans HW3.out.same.symm);rw[rounds_succ]
  go_wp2_with fail
  refine Calls.mono (Tryz.bwOwn_leaf K' 12 k2 n2 w.heap.size 2 _ _ ([.pointer (some ⟨g,o+4,none⟩)]++ [.pointer (some ⟨K',0+4,none⟩)]) u1 Hu1.out.a2 Hu1.out.own (by decide) Hu1.out.big (λb hb=>by obtain rfl:=(Option.some.inj hb).symm;exact Hu1.out.nk)) ?_;rintro e u2 ⟨g2,d2,rfl,o2,t2,q2⟩;have Hu2:Hid (Bw.Mid w wc g K' k1 n1 k2 n2 g2 3 d2 (([.pointer (some ⟨g,o+4,none⟩)]++ [.pointer (some ⟨K',0+4,none⟩)])++ [.pointer (some ⟨K',12+4,none⟩)]) u2):=Hu1.out.step o2 t2 q2;clear o2 t2 q2;go_wp2;rw[rounds_succ];go_wp2;go_ret;exact⟨K',c',g2,d2,rfl,HC.out.2.2.2.2.2.1,Hu2.out.own,Hu2.out.same.trans HC.out.2.2.2.2.1,Hu2.out.a1,Hu2.out.a2,Hu2.out.but,Hu2.out.nk⟩
theorem Tryz.bwKids (b o:Nat)(w:World):
  Calls Tryz.prog 57 #[.pointer (some ⟨b,o,none⟩)] w λe w'=>e=.returned (.pointer (some ⟨b,o+2,none⟩))/\w'=w:=by
 go_enter Tryz.func57,Tryz.ntmps57
 go_wp2;go_ret;exact⟨rfl,rfl⟩
theorem Tryz.bwPart_nil (g0 n c:Nat)(w:World)(hn:n<=c)(hc:∀j,j<n->∃b o cur T,w.cell? ⟨g0,j,none⟩=some (.pointer (some ⟨b,o,none⟩))/\w.heap[b]? =some (.cells cur T (0,0))/\cur[o+2]? =some (.slice none 0 0))(h9:n<=1000):
  Calls Tryz.prog 56 #[.slice (some ⟨g0,0,none⟩) n c,.func (.func 57) #[] #[],.int .i64 53687091] w λe w'=>e=.returned (.tuple #[])/\w'=w:=by
 have HC:Hid _:=hc;have HN:Hid (n<=c/\n<=1000):=⟨hn,h9⟩;clear hc
 go_enter Tryz.func56,Tryz.ntmps56
 go_wp2
 go_loopg [0,2,6,7,8,9] n (λgk s0 s2 _ _ _ _ wr=>∃m:Nat,s0=.slice (some ⟨g0,0,none⟩) m c/\s2=.int .i64 53687091/\m<=gk/\m<=n/\w=wr)
 case atStart=>exact⟨n,rfl,rfl,Nat.le_refl _,Nat.le_refl _,rfl⟩
 case round=>
  obtain⟨m,rfl,rfl,hm,hmn,hw⟩:=hrel;obtain rfl:=hw
  by_cases hm0:0<m
  rotate_left
  ·obtain rfl:m=0:=by omega
   go_wp2
   go_end0
   exact⟨rfl,rfl⟩
  obtain⟨k,rfl⟩:∃k,m=k+1:=⟨m-1,by omega⟩;obtain⟨b,o,cur,T,hp,hb,hx⟩:=HC.out k (by omega);have hp':w.cell? ⟨g0,k,none⟩=some (.pointer (some ⟨b,o,none⟩)):=hp;have hvx:w.cell? ⟨b,o+2,none⟩=some (.slice none 0 0):=by simp only[World.cell?,hb];exact hx
  have hfx:w.frozen? ⟨b,o+2,none⟩=false:=by simp[World.frozen?,hb]
  have hsame:w.setCell ⟨b,o+2,none⟩ (.slice none 0 0)=w:=Bw.same hb hx;have ek:((k+1:Nat):Int)-1=k:=by omega
  have ek0:(0:Int)<=k:=by omega
  have ek1:(k:Int)<((k+1:Nat):Int):=by omega
  have ekc:(k:Int)<=c:=by omega
  have hneg:decide ((53687091:Int)<0)=false:=by decide
  clear hp hb hx
  go_wp2_with fail
  refine Calls.mono (Tryz.bwKids b o w) ?_;rintro e W1 ⟨rfl,hW1⟩;obtain rfl:=hW1.symm
  go_wp2_with fail
  refine Calls.mono (Tryz.cloneTerm_nil _ 0) ?_;rintro e W2 ⟨rfl,hW2⟩;obtain rfl:=hW2.symm;go_wp2;refine wp_loop_rounds 1 ?_;rw[rounds_succ];go_wp2
  go_roundg k
  case measure=>omega
  case rel=>exact⟨k,rfl,rfl,by omega,by omega,rfl⟩
theorem Bw.At.kid {g o:Nat}{r:Array Value}{W:World}(h:Bw.At g o r W)(hr:r[6]? =some (.slice none 0 0)):∃cur T,W.heap[g]? =some (.cells cur T (0,0))/\cur[o+4+2]? =some (.slice none 0 0):=by
 obtain⟨cur,T,h1,h2⟩:=h;exact⟨cur,T,h1,(h2 6 (by decide)).trans hr⟩
theorem Bw.own_cells {B g0 n c:Nat}{ps:List Value}{W:World}(h:W.ownsRow B 96 1 (.slice (some ⟨g0,0,none⟩) n c) n ps)(j:Nat)(v:Value)(hv:ps[j]? =some v):W.cell? ⟨g0,j,none⟩=some v:=by
 have h1:=World.ownsRow.cells h (g:=g0) rfl j v hv;have hadd:((⟨g0,0,none⟩:Addr).add j)=⟨g0,j,none⟩:=by cases j<;>simp[Addr.add]
 rwa [hadd]at h1
theorem Bw.own_cap {B g0 n c:Nat}{ps:List Value}{W:World}(h:W.ownsRow B 96 1 (.slice (some ⟨g0,0,none⟩) n c) n ps):n<=c:=by
 rcases h.2 with⟨e,_⟩|⟨g,cap,cur,hv,_,_,h4,_⟩
 ·simp at e
 simp only[Value.slice.injEq]at hv;omega
theorem Tryz.bwPart (g c kb cap:Nat)(k1 n1 k2 n2:Int)(w:World)(hA:Bw.At g 2 (Bw.root kb cap) w)(hA1:Bw.At g 16 (Bw.leaf k1 n1) w)(hA2:Bw.At g 30 (Bw.leaf k2 n2) w)(hT:Bw.Two kb k1 n1 k2 n2 w)(hK:kb<w.heap.size):
  Calls Tryz.prog 32 #[.slice (some ⟨g,0,none⟩) 3 c] w λe w'=>e=.returned (.tuple #[])/\Tk.But (λi=>i=g) w w':=by
 have HA:Hid (Bw.At g 16 (Bw.leaf k1 n1) w/\Bw.At g 30 (Bw.leaf k2 n2) w/\g<w.heap.size/\Bw.At g 2 (Bw.root kb cap) w):=⟨hA1,hA2,hA.lt,hA⟩;have C1:Hid _:=Tryz.bwOwn_root g 2 kb cap k1 n1 k2 n2 w hA hT hK;clear hA hA1 hA2 hT hK
 go_enter Tryz.func32,Tryz.ntmps32
 go_wp2;refine wp_loop_rounds 4 ?_;rw[rounds_succ]
 go_wp2_with fail
 refine Calls.mono C1.out ?_;rintro e W1 ⟨K',c',g1,d1,rfl,hKb,o1,hg1,a1,a2,b1,hne⟩;have hgl:=HA.out.2.2.1;have hge:w.heap.size<=g1:=(World.ownsRow.lt o1 g1 rfl).1
 have H1:Hid (Bw.At g 2 (Bw.root K' c') W1/\Bw.At g 16 (Bw.leaf k1 n1) W1/\Bw.At g 30 (Bw.leaf k2 n2) W1/\Bw.At K' 0 (Bw.leaf k1 n1) W1/\Bw.At K' 12 (Bw.leaf k2 n2) W1/\Tk.But (λi=>i=g) w W1/\g1≠K'/\w.heap.size<=g1/\W1.ownsRow w.heap.size 96 1 (.slice (some ⟨g1,0,none⟩) 3 d1) 3 [.pointer (some ⟨g,2+4,none⟩),.pointer (some ⟨K',4,none⟩),.pointer (some ⟨K',16,none⟩)]):=
  ⟨(HA.out.2.2.2.put 8 (by decide) rfl _).keep hg1,(HA.out.1.put_other 10 (.inl (by decide)) _).keep hg1,(HA.out.2.1.put_other 10 (.inl (by decide)) _).keep hg1,a1,a2,b1,hne,hge,o1⟩
 have C2:Hid _:=Tryz.bwOwn_leaf g 16 k1 n1 w.heap.size 3 d1 _ _ W1 H1.out.2.1 o1 (by decide) b1.size (λb hb=>by obtain rfl:=Option.some.inj hb;show g1≠g;omega);clear o1 hg1 a1 a2 b1 hne C1;go_wp2;rw[rounds_succ]
 go_wp2_with fail
 refine Calls.mono C2.out ?_;rintro e W2 ⟨g2,d2,rfl,o2,t2,q2⟩;have hs1:=H1.out.2.2.2.2.2.1.size;have hl1:=H1.out.2.2.2.1.lt;have keep1:∀k,k<W1.heap.size->k≠g1->W2.heap[k]? =W1.heap[k]? :=λk hk hn=>t2.block k hk (λe=>hn (Option.some.inj e))
 have hg2:g2≠K'/\g2≠g/\w.heap.size<=g2:=by
  rcases q2 with e|e
  ·obtain rfl:=Option.some.inj e
   exact⟨H1.out.2.2.2.2.2.2.1,by show g1≠g;omega,hge⟩
  exact⟨by omega,by omega,by omega⟩
 have H2:Hid (Bw.At g 2 (Bw.root K' c') W2/\Bw.At g 16 (Bw.leaf k1 n1) W2/\Bw.At g 30 (Bw.leaf k2 n2) W2/\Bw.At K' 0 (Bw.leaf k1 n1) W2/\Bw.At K' 12 (Bw.leaf k2 n2) W2/\Tk.But (λi=>i=g) w W2/\g2≠K'/\w.heap.size<=g2):=by
  have kg:=keep1 g (by omega) (by omega);have kK:=keep1 K' hl1 (Ne.symm H1.out.2.2.2.2.2.2.1);exact⟨H1.out.1.keep kg,H1.out.2.1.keep kg,H1.out.2.2.1.keep kg,H1.out.2.2.2.1.keep kK,H1.out.2.2.2.2.1.keep kK,⟨t2.os.trans H1.out.2.2.2.2.2.1.os,t2.tape.trans H1.out.2.2.2.2.2.1.tape,t2.output.trans H1.out.2.2.2.2.2.1.output,Nat.le_trans hs1 t2.size,λk h1 h2=>(keep1 k (by omega) (by omega)).trans (H1.out.2.2.2.2.2.1.block k h1 h2)⟩,hg2.1,hg2.2.2⟩
 have C3:Hid _:=Tryz.bwOwn_leaf g 30 k2 n2 w.heap.size 4 d2 _ _ W2 H2.out.2.2.1 o2 (by decide) H2.out.2.2.2.2.2.1.size (λb hb=>by obtain rfl:=Option.some.inj hb;show g2≠g;exact hg2.2.1);clear o2 t2 q2 keep1 hs1 hl1 hg2 C2 hge;go_wp2;rw[rounds_succ]
 go_wp2_with fail
 refine Calls.mono C3.out ?_;rintro e W3 ⟨g3,d3,rfl,o3,t3,q3⟩;have hs2:=H2.out.2.2.2.2.2.1.size;have hl2:=H2.out.2.2.2.1.lt;have hge2:=H2.out.2.2.2.2.2.2.2;have keep2:∀k,k<W2.heap.size->k≠g2->W3.heap[k]? =W2.heap[k]? :=λk hk hn=>t3.block k hk (λe=>hn (Option.some.inj e));have HE:Hid (Tk.But (λi=>i=g) w W3):=⟨t3.os.trans H2.out.2.2.2.2.2.1.os,t3.tape.trans H2.out.2.2.2.2.2.1.tape,t3.output.trans H2.out.2.2.2.2.2.1.output,Nat.le_trans hs2 t3.size,λk h1 h2=>(keep2 k (by omega) (by omega)).trans (H2.out.2.2.2.2.2.1.block k h1 h2)⟩;have kg:=keep2 g (by omega) (by omega);have kK:=keep2 K' hl2 (Ne.symm H2.out.2.2.2.2.2.2.1)
 have C4:Hid (Calls Tryz.prog 56 #[.slice (some ⟨g3,0,none⟩) 5 d3,.func (.func 57) #[] #[],.int .i64 53687091] W3 λe w'=>e=.returned (.tuple #[])/\w'=W3):=by
  refine Tryz.bwPart_nil g3 5 d3 W3 (Bw.own_cap o3) (λj hj=> ?_) (by decide);have oc:=Bw.own_cells o3
  match j,hj with
  |0,_=>obtain⟨cur,T,h1,h2⟩:=(H2.out.1.keep kg).kid rfl;exact⟨_,_,cur,T,oc 0 _ rfl,h1,h2⟩
  |1,_=>obtain⟨cur,T,h1,h2⟩:=(H2.out.2.2.2.1.keep kK).kid rfl;exact⟨_,_,cur,T,oc 1 _ rfl,h1,h2⟩
  |2,_=>obtain⟨cur,T,h1,h2⟩:=(H2.out.2.2.2.2.1.keep kK).kid rfl;exact⟨_,_,cur,T,oc 2 _ rfl,h1,h2⟩
  |3,_=>obtain⟨cur,T,h1,h2⟩:=(H2.out.2.1.keep kg).kid rfl;exact⟨_,_,cur,T,oc 3 _ rfl,h1,h2⟩
  |4,_=>obtain⟨cur,T,h1,h2⟩:=(H2.out.2.2.1.keep kg).kid rfl;exact⟨_,_,cur,T,oc 4 _ rfl,h1,h2⟩
 clear o3 t3 q3 keep2 kg kK C3 hs2 hl2 hge2 hgl;go_wp2;rw[rounds_succ]
 go_wp2_with fail
 refine Calls.mono C4.out ?_;rintro e W4 ⟨rfl,hW4⟩;obtain rfl:=hW4.symm;go_wp2
 go_end0
 exact⟨rfl,HE.out⟩
end Go.Proofs
namespace Go.Proofs
open Go.RowKit Go.ChangeShapes Go.WideShapes Go.Deep
theorem Tm.Lies.up {w:World}{B:Nat}{d e:Nat}{v:Value}{T:Tm}(h:Tm.Lies w B d v T)(he:d<=e):Tm.Lies w B e v T:=by
 induction he with
 |refl=>exact h
 |step _ ih=>exact ih.more
theorem Nt.cellsNode:Tryz.prog.cellsOf 62=5:=by kernel_rfl
theorem Nt.cellsFlow:Tryz.prog.cellsOf 64=6:=by kernel_rfl
theorem Nt.cellsNet:Tryz.prog.cellsOf 30=2:=by kernel_rfl
theorem Nt.cellsBool:Tryz.prog.cellsOf 4=1:=by kernel_rfl
theorem Nt.cellsNodes:Tryz.prog.cellsOf 27=1:=by kernel_rfl
theorem Nt.cellsFlows:Tryz.prog.cellsOf 28=1:=by kernel_rfl
theorem Nt.list2 {α:Type}{l:List α}(h:l.length=2):∃a b,l= [a,b]:=by
 match l,h with
 | [a,b],_=>exact⟨a,b,rfl⟩
theorem Nt.list4 {α:Type}{l:List α}(h:l.length=4):∃a b c d,l= [a,b,c,d]:=by
 match l,h with
 | [a,b,c,d],_=>exact⟨a,b,c,d,rfl⟩
theorem Nt.list5 {α:Type}{l:List α}(h:l.length=5):∃a b c d e,l= [a,b,c,d,e]:=by
 match l,h with
 | [a,b,c,d,e],_=>exact⟨a,b,c,d,e,rfl⟩
theorem Nt.list6 {α:Type}{l:List α}(h:l.length=6):∃a b c d e f,l= [a,b,c,d,e,f]:=by
 match l,h with
 | [a,b,c,d,e,f],_=>exact⟨a,b,c,d,e,f,rfl⟩
section
variable {H:Type} {enc:TypeId×Value->H} {w:World} {spare:Nat->Bool} {held:Bool}
theorem Nt.open_node (fuel:Nat)(cs:List Value)(x:DataW H×List MemPlace)(h:DataW.trod enc Tryz.prog w 0 spare held fuel 62 cs=some x):
  ∃(X:Nd) (v:Value),cs= [.int .i64 X.kind,.int .i64 X.a,.int .i64 X.t.op,.int .i64 X.t.num,v]/\Tm.Lies w w.heap.size fuel v X.t:=by
 obtain⟨ys,n,rfl,hx,hl,hy,hf⟩:=DataW.trod_struct Tryz.underlying62 h;rw[Nt.cellsNode]at hl;have hy:ys.length=3:=hy;obtain⟨c0,c1,c2,c3,c4,rfl⟩:=Nt.list5 hl;obtain⟨y0,y1,y2,rfl⟩:=Tk.list3 hy;have g0:DataW.trod enc Tryz.prog w 0 spare held n 3 (([c0,c1,c2,c3,c4].drop 0).take (Tryz.prog.cellsOf 3))= [y0,y1,y2][0]? :=hf 0 _ rfl;have g1:DataW.trod enc Tryz.prog w 0 spare held n 3 (([c0,c1,c2,c3,c4].drop 1).take (Tryz.prog.cellsOf 3))= [y0,y1,y2][1]? :=hf 1 _ rfl;have g2:DataW.trod enc Tryz.prog w 0 spare held n 24 (([c0,c1,c2,c3,c4].drop 2).take (Tryz.prog.cellsOf 24))= [y0,y1,y2][2]? :=hf 2 _ rfl;rw[Tk.cellsInt1]at g0 g1;rw[Tk.cellsTerm]at g2;obtain⟨o,e0,_⟩:=DataW.trod_int Tryz.underlying3 g0;obtain⟨m,e1,_⟩:=DataW.trod_int Tryz.underlying3 g1;obtain rfl:c0=.int .i64 o:=(List.cons.inj e0).1;obtain rfl:c1=.int .i64 m:=(List.cons.inj e1).1;obtain⟨T,v,hcs,hT⟩:=Tm.open_term n _ _ g2;have h3: [c2,c3,c4]= [.int .i64 T.op,.int .i64 T.num,v]:=hcs;simp only[List.cons.injEq,and_true]at h3;obtain⟨rfl,rfl,rfl⟩:=h3;exact⟨⟨o,m,T⟩,c4,rfl,hT.up (by omega)⟩
theorem Nt.open_flow (fuel:Nat)(cs:List Value)(x:DataW H×List MemPlace)(h:DataW.trod enc Tryz.prog w 0 spare held fuel 64 cs=some x):
  ∃(X:Fl) (v:Value),cs= [.int .i64 X.fr,.int .i64 X.to,.bool X.els,.int .i64 X.c.op,.int .i64 X.c.num,v]/\Tm.Lies w w.heap.size fuel v X.c:=by
 obtain⟨ys,n,rfl,hx,hl,hy,hf⟩:=DataW.trod_struct Tryz.underlying64 h;rw[Nt.cellsFlow]at hl;have hy:ys.length=4:=hy;obtain⟨c0,c1,c2,c3,c4,c5,rfl⟩:=Nt.list6 hl;obtain⟨y0,y1,y2,y3,rfl⟩:=Nt.list4 hy;have g0:DataW.trod enc Tryz.prog w 0 spare held n 3 (([c0,c1,c2,c3,c4,c5].drop 0).take (Tryz.prog.cellsOf 3))= [y0,y1,y2,y3][0]? :=hf 0 _ rfl;have g1:DataW.trod enc Tryz.prog w 0 spare held n 3 (([c0,c1,c2,c3,c4,c5].drop 1).take (Tryz.prog.cellsOf 3))= [y0,y1,y2,y3][1]? :=hf 1 _ rfl;have g2:DataW.trod enc Tryz.prog w 0 spare held n 4 (([c0,c1,c2,c3,c4,c5].drop 2).take (Tryz.prog.cellsOf 4))= [y0,y1,y2,y3][2]? :=hf 2 _ rfl;have g3:DataW.trod enc Tryz.prog w 0 spare held n 24 (([c0,c1,c2,c3,c4,c5].drop 3).take (Tryz.prog.cellsOf 24))= [y0,y1,y2,y3][3]? :=hf 3 _ rfl;rw[Tk.cellsInt1]at g0 g1;rw[Nt.cellsBool]at g2;rw[Tk.cellsTerm]at g3;obtain⟨o,e0,_⟩:=DataW.trod_int Tryz.underlying3 g0;obtain⟨m,e1,_⟩:=DataW.trod_int Tryz.underlying3 g1;obtain⟨b,e2,_⟩:=DataW.trod_bool Tryz.underlying4 g2;obtain rfl:c0=.int .i64 o:=(List.cons.inj e0).1;obtain rfl:c1=.int .i64 m:=(List.cons.inj e1).1;obtain rfl:c2=.bool b:=(List.cons.inj e2).1;obtain⟨T,v,hcs,hT⟩:=Tm.open_term n _ _ g3;have h3: [c3,c4,c5]= [.int .i64 T.op,.int .i64 T.num,v]:=hcs;simp only[List.cons.injEq,and_true]at h3;obtain⟨rfl,rfl,rfl⟩:=h3
 exact⟨⟨o,m,b,T⟩,c5,rfl,hT.up (by omega)⟩
theorem Nt.open_nodes (fuel:Nat)(c:Value)(x:DataW H×List MemPlace)(h:DataW.trod enc Tryz.prog w 0 spare held fuel 27 [c]=some x):∃a cap ns,c=.slice a (ns:List Nd).length cap/\Nt.Nds w w.heap.size fuel a ns:=by
 rcases DataW.trod_slice Tryz.underlying27 h with⟨e2,_⟩|⟨a,len,cap,elems,rest,n',hn',e2,_,_,hlc,_,hlen,hel,_,_⟩
 ·obtain rfl:c=.slice none 0 0:=(List.cons.inj e2).1
  exact⟨none,0, [],rfl,λj hj=>by simp at hj⟩
 obtain rfl:c=.slice (some a) len cap:=(List.cons.inj e2).1;subst hn'
 have each:∀i,i<len->∃q:Nd,∃u,w.cell? (a.add (i*5))=some (.int .i64 q.kind)/\w.cell? ((a.add (i*5)).add 1)=some (.int .i64 q.a)/\w.cell? ((a.add (i*5)).add 2)=some (.int .i64 q.t.op)/\w.cell? ((a.add (i*5)).add 3)=some (.int .i64 q.t.num)/\w.cell? ((a.add (i*5)).add 4)=some u/\Tm.Lies w w.heap.size n' u q.t:=by
  intro i hi;have h1:=hel i hi;rw[Nt.cellsNode,List.getElem?_eq_getElem (by omega)]at h1;obtain⟨cs',h2,h3⟩:=Option.bind_eq_some_iff.1 h1;obtain⟨q,u,rfl,hq⟩:=Nt.open_node n' cs' _ h3;obtain⟨_,hl3,hc⟩:=World.cells?_some h2;exact⟨q,u,by simpa [Addr.add]using hc 0 (by simp),by simpa using hc 1 (by simp),by simpa using hc 2 (by simp),by simpa using hc 3 (by simp),by simpa using hc 4 (by simp),hq⟩
 by_cases hz:len=0
 ·subst hz
  exact⟨some a,cap, [],rfl,λj hj=>by simp at hj⟩
 haveI:Inhabited Nd:=⟨⟨0,0,.mk 0 0 []⟩⟩
 obtain⟨q,hq⟩:=choose_lt each;have hlen':((List.range len).map q).length=len:=by simp
 refine⟨some a,cap,(List.range len).map q,by rw[hlen'],λj hj=> ?_⟩;obtain⟨g,off,spot⟩:=a;obtain⟨_,h0,_⟩:=hq 0 (by omega);have hspot:spot=none:=by simpa [Addr.add]using World.cell?_spot h0
 subst hspot
 have hg:g<w.heap.size:=by
  have:=Tk.cell_lt h0;simpa [Addr.add]using this
 have hget:((List.range len).map q)[j]=q j:=by simp
 rw[hget];rw[hlen']at hj;obtain⟨u,p0,p1,p2,p3,p4,p5⟩:=hq j hj;have ea:∀(c k:Nat),((⟨g,off,none⟩:Addr).add c).add k=⟨g,off+c+k,none⟩:=λc k=>by rw[Go.WideShapes.add_plain,Go.WideShapes.add_plain]
 rw[Go.WideShapes.add_plain]at p0;rw[ea]at p1 p2 p3 p4;exact⟨g,off,u,rfl,hg,p0,p1,p2,p3,p4,p5.up (by omega)⟩
theorem Nt.open_flows (fuel:Nat)(c:Value)(x:DataW H×List MemPlace)(h:DataW.trod enc Tryz.prog w 0 spare held fuel 28 [c]=some x):∃a cap fs,c=.slice a (fs:List Fl).length cap/\Nt.Fls w w.heap.size fuel a fs:=by
 rcases DataW.trod_slice Tryz.underlying28 h with⟨e2,_⟩|⟨a,len,cap,elems,rest,n',hn',e2,_,_,hlc,_,hlen,hel,_,_⟩
 ·obtain rfl:c=.slice none 0 0:=(List.cons.inj e2).1
  exact⟨none,0, [],rfl,λj hj=>by simp at hj⟩
 obtain rfl:c=.slice (some a) len cap:=(List.cons.inj e2).1;subst hn'
 have each:∀i,i<len->∃q:Fl,∃u,w.cell? (a.add (i*6))=some (.int .i64 q.fr)/\w.cell? ((a.add (i*6)).add 1)=some (.int .i64 q.to)/\w.cell? ((a.add (i*6)).add 2)=some (.bool q.els)/\w.cell? ((a.add (i*6)).add 3)=some (.int .i64 q.c.op)/\w.cell? ((a.add (i*6)).add 4)=some (.int .i64 q.c.num)/\w.cell? ((a.add (i*6)).add 5)=some u/\Tm.Lies w w.heap.size n' u q.c:=by
  intro i hi;have h1:=hel i hi;rw[Nt.cellsFlow,List.getElem?_eq_getElem (by omega)]at h1;obtain⟨cs',h2,h3⟩:=Option.bind_eq_some_iff.1 h1;obtain⟨q,u,rfl,hq⟩:=Nt.open_flow n' cs' _ h3;obtain⟨_,hl3,hc⟩:=World.cells?_some h2;exact⟨q,u,by simpa [Addr.add]using hc 0 (by simp),by simpa using hc 1 (by simp),by simpa using hc 2 (by simp),by simpa using hc 3 (by simp),by simpa using hc 4 (by simp),by simpa using hc 5 (by simp),hq⟩
 by_cases hz:len=0
 ·subst hz
  exact⟨some a,cap, [],rfl,λj hj=>by simp at hj⟩
 haveI:Inhabited Fl:=⟨⟨0,0,false,.mk 0 0 []⟩⟩
 obtain⟨q,hq⟩:=choose_lt each;have hlen':((List.range len).map q).length=len:=by simp
 refine⟨some a,cap,(List.range len).map q,by rw[hlen'],λj hj=> ?_⟩;obtain⟨g,off,spot⟩:=a;obtain⟨_,h0,_⟩:=hq 0 (by omega);have hspot:spot=none:=by simpa [Addr.add]using World.cell?_spot h0
 subst hspot
 have hg:g<w.heap.size:=by
  have:=Tk.cell_lt h0;simpa [Addr.add]using this
 have hget:((List.range len).map q)[j]=q j:=by simp
 rw[hget];rw[hlen']at hj;obtain⟨u,p0,p1,p2,p3,p4,p5,p6⟩:=hq j hj;have ea:∀(c k:Nat),((⟨g,off,none⟩:Addr).add c).add k=⟨g,off+c+k,none⟩:=λc k=>by rw[Go.WideShapes.add_plain,Go.WideShapes.add_plain]
 rw[Go.WideShapes.add_plain]at p0;rw[ea]at p1 p2 p3 p4 p5;exact⟨g,off,u,rfl,hg,p0,p1,p2,p3,p4,p5,p6.up (by omega)⟩
end
end Go.Proofs
