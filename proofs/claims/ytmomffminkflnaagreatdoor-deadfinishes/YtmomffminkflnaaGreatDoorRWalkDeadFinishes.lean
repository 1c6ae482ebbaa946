import Derived.Test.YtmomffminkflnaaGreatDoorRDdR10
set_option maxRecDepth 100000
set_option maxHeartbeats 32000000
namespace Go.Proofs.YtmomffminkflnaaGreatDoor.DeadFinishes
open Go.RowKit
theorem walk (T:Ac)(V:Ac.Vs)(e dd:Nat)(l:List Int)(kid:Int)(w:World)(hT:Ac.Lies w w.heap.size e dd V T)(hl:l.length=104)(hO:Tk.Ops w):
  Calls Tryz.prog 4 #[.agg (Ac.row T V),.agg (Dd.row l),.int .i64 kid] w λe w'=>e=.returned (.bool true)/\Below w.heap.size w w':=by
 have h0:0<w.heap.size:=by have:=hO.lt;omega
 obtain⟨xs,hxs⟩:=pE (Ac.row T V);have hsz:xs.size=12:=by rw[<-hxs];rfl
 have hl0:=Dd.At.new (w.alloc (.cells xs 32)) hl;rw[show(w.alloc (.cells xs 32)).heap.size=w.heap.size+1 by simp]at hl0;obtain⟨w1,hw1⟩:=pE ((w.alloc (.cells xs 32)).alloc (.cells (Dd.row l) 41));have B1:Below w.heap.size w w1:=by rw[<-hw1];exact((Below.refl _ w).alloc (Nat.le_refl _) _).alloc (by simp) _
 have N1:w1.heap[w.heap.size]? =some (.cells xs 32 (0,0)):=by rw[<-hw1,Below.heap_alloc _ _ _ (by simp)];exact heap_alloc_new w _
 have L1:Dd.At w1 (w.heap.size+1) l:=by rw[<-hw1];exact hl0
 have hlt1:=L1.lt;obtain⟨w2,hw2⟩:=pE (w1.alloc (.cells #[.int .i64 600] 36));have B2:=pB hw2
 have R2:Tk.Rm w1.heap.size ((600:Nat):Int) w2:=by rw[<-hw2];exact heap_alloc_new w1 _
 have B02:Below w.heap.size w w2:=B1.trans (B2.mono B1.size);have CL0:=Tryz.alarge_any e dd T V 600 w1.heap.size 1 w.heap.size w2 (hT.keep B02.block) (by omega) B02.size R2 (by omega) (by omega);rw[hxs]at CL0;have CL:Hid _:=CL0
 have HX:Hid (∀W,Below w1.heap.size w1 W->W.heap[w.heap.size]? =some (.cells xs 32 (0,0))/\Below w.heap.size w W/\W.rangeAt w.heap.size 0 xs.toList/\Dd.At W (w.heap.size+1) l):=λW hb=>by
  have h:=(hb.block _ (by omega)).trans N1;refine⟨h,B1.trans (hb.mono B1.size),λj v hv=> ?_,L1.below hb hlt1⟩;rw[Nat.zero_add];simp only[World.cell?,h];simpa using hv
 have H1:Hid _:=hw1;have H2:Hid (w1.alloc (.cells #[.int .i64 600] 36)=w2):=hw2;have HS:Hid (∀W,Below w.heap.size w W->Calls Tryz.prog 10 #[] W λe w'=>e=.returned (.bool true)/\Below W.heap.size W w'):=λW hb=>Tryz.skips_any W (hO.below hb hO.lt);have HT:Hid (Ac.Lies w w.heap.size e dd V T/\Tk.Ops w/\Ac.row T V=xs/\0<w.heap.size/\l.length=104):=⟨hT,hO,hxs,h0,hl⟩;have HBW:Hid (Below w1.heap.size w1 w2/\w.heap.size+1<w1.heap.size):=⟨B2,hlt1⟩;have ha:=Tryz.underlying32;have hu:=Tryz.underlying41;have ia:(Tryz.prog.info? 32).map (·.size)=some xs.size:=by rw[hsz];exact Dd.info_act
 have ial:(Tryz.prog.info? 32).map (·.size)=some xs.toList.length:=by rw[ia];simp
 have il:=Dd.info_row hl;rw[hxs];clear hT hO hxs hsz hw1 hw2 B1 B2 R2 B02 CL0 hlt1 h0 hl0 L1 hl
 go_enter Tryz.func4,Tryz.ntmps4
 go_upto_region 1 with fail
 rw[H1.out]
 go_wp2_with (refine wpList_load_row rfl 32 _ rfl _ rfl 32 _ (0,0) _ N1 ha rfl ia ?_)
 rw[H2.out];refine Calls.mono CL.out ?_;rintro e' W3 ⟨hb3,⟨rfl,hsm,k3,hk3,-⟩|rfl⟩
 rotate_left
 ·have HB3:Hid (Below w.heap.size w W3):=(HX.out W3 (HBW.out.1.trans (hb3.below HBW.out.1.size (by intro i hi;show¬i=w1.heap.size;omega)))).2.1
  clear hb3 CL N1
  go_wp2_with fail
  refine Calls.mono (HS.out W3 HB3.out) ?_;rintro e' W4 ⟨rfl,hb4⟩;have HB4:Hid (Below w.heap.size w W4):=HB3.out.trans (hb4.mono HB3.out.size);clear hb4;go_wp2;go_ret;exact⟨rfl,HB4.out⟩
 have HB3:Hid (Below w1.heap.size w1 W3):=HBW.out.1.trans (hb3.below HBW.out.1.size (by intro i hi;show¬i=w1.heap.size;omega));have HSM:Hid (T.All Dd.Small/\T.size<=600):=⟨hsm,by omega⟩;clear hb3 CL N1 hsm hk3
 have CX:Hid (Dd.Ctx w xs (Dd.webB T) T.ls (Dd.kkOf T)):=by
  have h:=Dd.ctx dd e T V w HT.out.1 HT.out.2.2.2.1 (by have:=HSM.out.2;omega) (Ac.all_mono (λ_ h=>Dd.fit_of h) T HSM.out.1) HT.out.2.1;rw[HT.out.2.2.1]at h;exact h
 obtain⟨wb,hwb⟩:=pE (Dd.webB T);rw[hwb]at CX
 have RFC:Hid (∀W,Below w.heap.size w W->Calls Tryz.prog 12 #[.agg xs] W λe' w'=>∃ys,e'=.returned (.agg ys)/\(Tryz.prog.info? 48).map (·.size)=some ys.size/\ys.size=12/\ys.all (·.oneCell')=true/\Dd.RCtx w' ys wb T.ls (Dd.kkOf T)/\Below W.heap.size W w'):=λW hb=>by
  have h:=Dd.ref_ctx HT.out.1 HSM.out.2 HSM.out.1 W hb;rw[HT.out.2.2.1,hwb]at h;exact h
 obtain⟨t1,ht1⟩:=pE ((Dd.finR wb T.ls (Dd.kkOf T) l kid).1);obtain⟨f1,hf1⟩:=pE ((Dd.finR wb T.ls (Dd.kkOf T) l kid).2)
 have ht1l:t1.length=104:=by
  rw[<-ht1];exact Dd.fin_len (λh=>by rw[h]at hwb;exact(Dd.rw_of hwb).right.web) HT.out.2.2.2.2 kid
 have HT1:Hid ((Dd.finR wb T.ls (Dd.kkOf T) l kid).1=t1/\(Dd.finR wb T.ls (Dd.kkOf T) l kid).2=f1/\t1.length=104):=⟨ht1,hf1,ht1l⟩;have i0:=Dd.info_row ht1l;have o0:=Dd.row_one t1;have z0:(Tryz.zeroCells41).size=(Dd.row t1).size:=by rw[Dd.zero_row,Dd.row_size,Dd.row_size,ht1l,Dd.zeros_length]
 have hgl:=Dd.got_len ht1l f1;have ig:=Dd.rginfo_row hgl;have og:=Dd.row_one (t1++ [f1]);have zg:(Tryz.zeroCells59).size=(Dd.row (t1++ [f1])).size:=by rw[Dd.rgz,Dd.row_size,Dd.row_size,hgl];simp[Dd.zeros_length]
 have jt:=Dd.ints_len ht1l;have jr:=Dd.rints_len ht1l;have jl:=Dd.ints_len HT.out.2.2.2.2
 have hqe:∀W:World,(Op.equalIn 10000 53 (.agg (Dd.row t1)) (.agg (Dd.row t1))).run Tryz.prog W=.ok true W:=λW=>by
  rw[Dd.rst_eq t1 t1 HT1.out.2.2 HT1.out.2.2 W,decide_eq_true rfl]
 have HQE:Hid _:=hqe;clear hwb ht1 hf1 ht1l hgl hqe;obtain⟨nx3,hb03,-,-⟩:=HX.out W3 HB3.out;have HRF:Hid _:=RFC.out W3 hb03;clear hb03 RFC
 go_upto_region 3 with fail
 go_wp2_with (refine wpList_load_row rfl 32 _ rfl _ rfl 32 _ (0,0) _ nx3 ha rfl ia ?_)
 refine Calls.mono HRF.out ?_;rintro e' W6 ⟨ys,rfl,yi,y12,y1,yc,hb6⟩;have NZ6:(W6.alloc (.cells #[.int .i64 0,.int .i64 0,.int .i64 0,.int .i64 0,.int .i64 0,.int .i64 0,.slice none 0 0,.slice none 0 0,.slice none 0 0,.slice none 0 0,.slice none 0 0,.slice none 0 0] 48)).heap[W6.heap.size]? =some (.cells #[.int .i64 0,.int .i64 0,.int .i64 0,.int .i64 0,.int .i64 0,.int .i64 0,.slice none 0 0,.slice none 0 0,.slice none 0 0,.slice none 0 0,.slice none 0 0,.slice none 0 0] 48 (0,0)):=heap_alloc_new W6 _;obtain⟨W7,hW7⟩:=pE ((W6.alloc (.cells #[.int .i64 0,.int .i64 0,.int .i64 0,.int .i64 0,.int .i64 0,.int .i64 0,.slice none 0 0,.slice none 0 0,.slice none 0 0,.slice none 0 0,.slice none 0 0,.slice none 0 0] 48)).setRow W6.heap.size ys);have A7:W7.heap[W6.heap.size]? =some (.cells ys 48 (0,0)):=by rw[<-hW7];exact setRow_heap _ _ _ _ _ _ NZ6
 have B7:Below W6.heap.size W6 W7:=by rw[<-hW7];exact Tk.below_row ((Below.refl _ W6).alloc (Nat.le_refl _) _) (Nat.le_refl _) _
 have B37:Below W3.heap.size W3 W7:=hb6.trans (B7.mono hb6.size);obtain⟨q,hq⟩:=pE (W6.heap.size);have HQ:Hid (W6.heap.size=q):=hq
 have HZ:Hid (∀W,Below W7.heap.size W7 W->W.heap[w.heap.size]? =some (.cells xs 32 (0,0))/\Dd.At W (w.heap.size+1) l/\W.rangeAt w.heap.size 0 xs.toList/\W.heap[q]? =some (.cells ys 48 (0,0))/\W.rangeAt q 0 ys.toList/\Below W6.heap.size W6 W/\Below w.heap.size w W):=λW hb=>by
  have h1:Below w1.heap.size w1 W7:=HB3.out.trans (B37.mono HB3.out.size);have h2:W.heap[q]? =some (.cells ys 48 (0,0)):=by rw[<-hq];exact(hb.block _ (Array.getElem?_eq_some_iff.1 A7).1).trans A7
  have h3:=HX.out W (h1.trans (hb.mono h1.size))
  exact⟨h3.1,h3.2.2.2,h3.2.2.1,h2,λj v hv=>by
   rw[Nat.zero_add];simp only[World.cell?,h2]
   simpa using hv,B7.trans (hb.mono B7.size),h3.2.1⟩
 have HW7:Hid _:=hW7;have YC:Hid (Dd.RCtx W6 ys wb T.ls (Dd.kkOf T)):=yc;have zy:(#[.int .i64 0,.int .i64 0,.int .i64 0,.int .i64 0,.int .i64 0,.int .i64 0,.slice none 0 0,.slice none 0 0,.slice none 0 0,.slice none 0 0,.slice none 0 0,.slice none 0 0]:Array Value).size=ys.size:=by rw[y12];rfl
 have hr:=Tryz.underlying48;have yil:(Tryz.prog.info? 48).map (·.size)=some ys.toList.length:=by rw[yi];simp
 clear hb6 hW7 A7 B7 B37 hq nx3 HRF yc
 go_upto_region 4 with(refine wpList_store_row rfl 48 _ _ rfl W6.heap.size ys rfl rfl 48 _ NZ6 yi zy y1 ?_)
 rw[HW7.out,HQ.out];clear HW7 NZ6 HQ zy;have hz7:=HZ.out W7 (Below.refl _ _);have nx7:=hz7.1;have NS7:=hz7.2.1.h
 have C1:Hid (Calls Tryz.prog 17 #[.agg xs,.agg (Dd.row l),.int .i64 kid] W7 λe w'=>e=.returned (.tuple #[.agg (Dd.row t1),.int .i64 f1])/\Below W7.heap.size W7 w'):=by
  have h:=CX.out.finish W7 l kid hz7.2.2.2.2.2.2 HT.out.2.2.2.2;unfold Dd.two at h;rw[HT1.out.1,HT1.out.2.1]at h;exact h
 clear hz7
 go_wp2_with (first
  |refine wpList_load_row rfl 32 _ rfl _ rfl 32 _ (0,0) _ nx7 ha rfl ia ?_
  |refine wpList_load_row rfl 41 _ rfl _ rfl 41 (Dd.row l) (0,0) _ NS7 hu rfl il ?_)
 refine Calls.mono C1.out ?_;rintro e' W8 ⟨rfl,hb8⟩;have NZ8:(W8.alloc (.cells Tryz.zeroCells41 41)).heap[W8.heap.size]? =some (.cells Tryz.zeroCells41 41 (0,0)):=heap_alloc_new W8 _;obtain⟨W9,hW9⟩:=pE ((W8.alloc (.cells Tryz.zeroCells41 41)).setRow W8.heap.size (Dd.row t1));have A9:Dd.At W9 W8.heap.size t1:=by rw[<-hW9];exact⟨setRow_heap _ _ _ _ _ _ NZ8,HT1.out.2.2⟩
 have B9:Below W8.heap.size W8 W9:=by rw[<-hW9];exact Tk.below_row ((Below.refl _ W8).alloc (Nat.le_refl _) _) (Nat.le_refl _) _
 have B79:Below W7.heap.size W7 W9:=hb8.trans (B9.mono hb8.size);obtain⟨p,hp⟩:=pE (W8.heap.size);have HP:Hid (W8.heap.size=p):=hp
 have HY:Hid (∀W,Below W9.heap.size W9 W->Below W7.heap.size W7 W/\Dd.At W p t1):=λW hb=>by
  have A9':=A9;rw[hp]at A9';exact⟨B79.trans (hb.mono B79.size),A9'.below hb A9'.lt⟩
 have HW9:Hid _:=hW9;clear hb8 hW9 A9 B9 B79 hp C1 nx7 NS7
 go_upto_region 5 with(refine wpList_store_row rfl 41 _ _ rfl W8.heap.size (Dd.row t1) rfl rfl 41 _ NZ8 i0 z0 o0 ?_)
 rw[HW9.out,HP.out];clear HW9 NZ8 HP i0 o0 z0;have CSL:Hid (∀W,Calls Tryz.prog 15 #[.agg (Dd.row l)] W λe w'=>e=.returned (.agg (Dd.row l))/\Below W.heap.size W w'):=λW=>Tryz.lawState_any l W HT.out.2.2.2.2;have CST:Hid (∀W,Calls Tryz.prog 15 #[.agg (Dd.row t1)] W λe w'=>e=.returned (.agg (Dd.row t1))/\Below W.heap.size W w'):=λW=>Tryz.lawState_any t1 W HT1.out.2.2
 have CFD:Hid (∀W,Below W9.heap.size W9 W->Calls Tryz.prog 18 #[.agg ys,.agg (Dd.row l),.int .i64 kid] W λe w'=>e=.returned (.agg (Dd.row (t1++ [f1])))/\Below W.heap.size W w'):=λW hb=>by
  have h:=YC.out.finish W l kid (HZ.out W (HY.out W hb).1).2.2.2.2.2.1 HT.out.2.2.2.2;unfold Dd.gotOf at h;rw[HT1.out.1,HT1.out.2.1]at h;exact h
 have HS5:Hid (∀W,Below W9.heap.size W9 W->(W.rangeAt q 0 ys.toList/\W.rangeAt (w.heap.size+1) 0 (Dd.ints l))):=λW hb=>by
  have h:=HZ.out W (HY.out W hb).1;exact⟨h.2.2.2.2.1,Dd.range_st h.2.1⟩
 have HD9:Hid (Below W9.heap.size W9 W9.drew):=(Below.refl _ W9).drew
 go_cut [10]from 25 to 63 (λs10 wx=>∃g:Nat,s10=.pointer (some ⟨g,0,none⟩)/\Hid (wx.heap[g]? =some (.cells (Dd.row (t1++ [f1])) 59 (0,0))/\Below W9.heap.size W9 wx))
 case first=>
  refine wp_region_held_drew (S:=(λV=>V.rangeAt q 0 ys.toList/\V.rangeAt (w.heap.size+1) 0 (Dd.ints l))) (by kernel_rfl) ?_ (λhHeld=> ?_)
  ·exact HS5.out _ HD9.out
  refine Nt.takeS (v:=.agg ys) 0 25 rfl rfl (by kernel_rfl) (by kernel_rfl) (by kernel_rfl) (λ_ _ _ h=>h) (yieldsIf_load_mid (by rfl) 48 _ rfl q 0 rfl ys.toList _ (λ_ hw=>hw.1) hr rfl yil) hHeld ?_;simp only[List.set_cons_succ,List.set_cons_zero];refine Nt.takeS (v:=.agg (Dd.row l)) 1 26 rfl rfl (by kernel_rfl) (by kernel_rfl) (by kernel_rfl) (λ_ _ _ h=>h) (yieldsIf_load_mid (by rfl) 41 _ rfl (w.heap.size+1) 0 rfl (Dd.ints l) _ (λ_ hw=>hw.2) hu rfl jl) hHeld ?_;simp only[List.set_cons_succ,List.set_cons_zero];refine Nt.takeS (v:= ?va3) 3 28 rfl rfl (by kernel_rfl) (by kernel_rfl) (by kernel_rfl) (λ_ _ _ h=>h) (Or.inl ⟨by rfl, ?ya3⟩) hHeld ?ra3
  case ya3=>(intro w hSw;(try dsimp only at hSw);go_simp;all_goals (with_reducible rfl))
  simp only[List.set_cons_succ,List.set_cons_zero];refine wpAnyH_ready (rs:= [2,5]) (by kernel_rfl) (by simp) ?_;refine AllReadyH.cons rfl (λK hK=> ?_) (AllReadyH.cons rfl (λK hK=> ?_) AllReadyH.nil)
  ·go_simp
   go_at_call 15
   refine Calls.mono (CSL.out _) ?_;rintro e' WA ⟨rfl,hbA⟩;have HA:Hid (Below W9.heap.size W9 WA):=HD9.out.trans (hbA.mono HD9.out.size);clear hbA
   go_wp2_with fail
   refine hK.out _ _ ?_ (λhT2=> ?_)
   ·exact HS5.out _ HA.out
   clear hK K
   first|refine Nt.normS 27 rfl ?_|skip
   first|(simp only[List.set_cons_succ,List.set_cons_zero])|skip
   refine wpAnyH_ready (rs:= [4,5]) (by kernel_rfl) (by simp) ?_;refine AllReadyH.cons rfl (λK hK=> ?_) (AllReadyH.cons rfl (λK hK=> ?_) AllReadyH.nil)
   ·go_simp
    go_at_call 18
    refine Calls.mono (CFD.out _ HA.out) ?_;rintro e' WB ⟨rfl,hbB⟩;have HB:Hid (Below W9.heap.size W9 WB):=HA.out.trans (hbB.mono HA.out.size);clear hbB
    go_wp2_with fail
    refine hK.out _ _ ?_ (λhT4=> ?_)
    ·exact HS5.out _ HB.out
    clear hK K
    first|refine Nt.normS 29 rfl ?_|skip
    first|(simp only[List.set_cons_succ,List.set_cons_zero])|skip
    refine wpAnyH_ready (rs:= [5]) (by kernel_rfl) (by simp) ?_;refine AllReadyH.cons rfl (λK hK=> ?_) AllReadyH.nil;have NG:(WB.alloc (.cells Tryz.zeroCells59 59)).heap[WB.heap.size]? =some (.cells Tryz.zeroCells59 59 (0,0)):=heap_alloc_new WB _;have HN:Hid (Below W9.heap.size W9 (WB.alloc (.cells Tryz.zeroCells59 59))/\W9.heap.size<=WB.heap.size):=⟨HB.out.alloc HB.out.size _,HB.out.size⟩;go_simp;refine hK.out _ _ ?_ (λhT5=> ?_)
    ·exact HS5.out _ HN.out.1
    clear hK K
    first|refine Nt.normS 10 rfl ?_|skip
    first|(simp only[List.set_cons_succ,List.set_cons_zero])|skip
    refine wpAnyH_ready (rs:= [6]) (by kernel_rfl) (by simp) ?_;refine AllReadyH.cons rfl (λK hK=> ?_) AllReadyH.nil;refine Dd.step_row rfl 59 _ _ rfl WB.heap.size (Dd.row (t1++ [f1])) rfl rfl 59 _ NG ig zg og ?_;refine hK.out _ _ ?_ (λhT6=> ?_)
    ·exact HS5.out _ (Tk.below_row HN.out.1 HB.out.size _)
    clear hK K;refine wpAnyH_done (by kernel_rfl) ?_ _;have HE:Hid (((WB.alloc (.cells Tryz.zeroCells59 59)).setRow WB.heap.size (Dd.row (t1++ [f1]))).heap[WB.heap.size]? =some (.cells (Dd.row (t1++ [f1])) 59 (0,0))/\Below W9.heap.size W9 ((WB.alloc (.cells Tryz.zeroCells59 59)).setRow WB.heap.size (Dd.row (t1++ [f1])))):=⟨setRow_heap _ _ _ _ _ _ NG,Tk.below_row HN.out.1 HB.out.size _⟩
    go_wp2_with fail
    go_meet;exact⟨_,rfl,HE.out⟩
   have NG:(WA.alloc (.cells Tryz.zeroCells59 59)).heap[WA.heap.size]? =some (.cells Tryz.zeroCells59 59 (0,0)):=heap_alloc_new WA _;have HN:Hid (Below W9.heap.size W9 (WA.alloc (.cells Tryz.zeroCells59 59))/\W9.heap.size<=WA.heap.size):=⟨HA.out.alloc HA.out.size _,HA.out.size⟩;go_simp;refine hK.out _ _ ?_ (λhT5=> ?_)
   ·exact HS5.out _ HN.out.1
   clear hK K
   first|refine Nt.normS 10 rfl ?_|skip
   first|(simp only[List.set_cons_succ,List.set_cons_zero])|skip
   have HN':Hid _:=HN.out.1;refine wpAnyH_ready (rs:= [4]) (by kernel_rfl) (by simp) ?_;refine AllReadyH.cons rfl (λK hK=> ?_) AllReadyH.nil;go_simp
   go_at_call 18
   refine Calls.mono (CFD.out _ HN'.out) ?_;rintro e' WB ⟨rfl,hbB⟩;have HB:Hid (Below W9.heap.size W9 WB):=HN'.out.trans (hbB.mono HN'.out.size);have NB:=(hbB.block _ (Array.getElem?_eq_some_iff.1 NG).1).trans NG;clear hbB
   go_wp2_with fail
   refine hK.out _ _ ?_ (λhT4=> ?_)
   ·exact HS5.out _ HB.out
   clear hK K
   first|refine Nt.normS 29 rfl ?_|skip
   first|(simp only[List.set_cons_succ,List.set_cons_zero])|skip
   refine wpAnyH_ready (rs:= [6]) (by kernel_rfl) (by simp) ?_;refine AllReadyH.cons rfl (λK hK=> ?_) AllReadyH.nil;refine Dd.step_row rfl 59 _ _ rfl WA.heap.size (Dd.row (t1++ [f1])) rfl rfl 59 _ NB ig zg og ?_;refine hK.out _ _ ?_ (λhT6=> ?_)
   ·exact HS5.out _ (Tk.below_row HB.out HA.out.size _)
   clear hK K;refine wpAnyH_done (by kernel_rfl) ?_ _;have HE:Hid ((WB.setRow WA.heap.size (Dd.row (t1++ [f1]))).heap[WA.heap.size]? =some (.cells (Dd.row (t1++ [f1])) 59 (0,0))/\Below W9.heap.size W9 (WB.setRow WA.heap.size (Dd.row (t1++ [f1])))):=⟨setRow_heap _ _ _ _ _ _ NB,Tk.below_row HB.out HA.out.size _⟩
   go_wp2_with fail
   go_meet;exact⟨_,rfl,HE.out⟩
  have NG:(W9.drew.alloc (.cells Tryz.zeroCells59 59)).heap[W9.heap.size]? =some (.cells Tryz.zeroCells59 59 (0,0)):=heap_alloc_new W9.drew _;have HN:Hid (Below W9.heap.size W9 (W9.drew.alloc (.cells Tryz.zeroCells59 59))/\W9.heap.size<=W9.heap.size):=⟨HD9.out.alloc HD9.out.size _,HD9.out.size⟩;go_simp;refine hK.out _ _ ?_ (λhT5=> ?_)
  ·exact HS5.out _ HN.out.1
  clear hK K
  first|refine Nt.normS 10 rfl ?_|skip
  first|(simp only[List.set_cons_succ,List.set_cons_zero])|skip
  have HN':Hid _:=HN.out.1;refine wpAnyH_ready (rs:= [2]) (by kernel_rfl) (by simp) ?_;refine AllReadyH.cons rfl (λK hK=> ?_) AllReadyH.nil;go_simp
  go_at_call 15
  refine Calls.mono (CSL.out _) ?_;rintro e' WA ⟨rfl,hbA⟩;have HA:Hid (Below W9.heap.size W9 WA):=HN'.out.trans (hbA.mono HN'.out.size);have NA:=(hbA.block _ (Array.getElem?_eq_some_iff.1 NG).1).trans NG;clear hbA
  go_wp2_with fail
  refine hK.out _ _ ?_ (λhT2=> ?_)
  ·exact HS5.out _ HA.out
  clear hK K
  first|refine Nt.normS 27 rfl ?_|skip
  first|(simp only[List.set_cons_succ,List.set_cons_zero])|skip
  refine wpAnyH_ready (rs:= [4]) (by kernel_rfl) (by simp) ?_;refine AllReadyH.cons rfl (λK hK=> ?_) AllReadyH.nil;go_simp
  go_at_call 18
  refine Calls.mono (CFD.out _ HA.out) ?_;rintro e' WB ⟨rfl,hbB⟩;have HB:Hid (Below W9.heap.size W9 WB):=HA.out.trans (hbB.mono HA.out.size);have NB:=(hbB.block _ (Array.getElem?_eq_some_iff.1 NA).1).trans NA;clear hbB
  go_wp2_with fail
  refine hK.out _ _ ?_ (λhT4=> ?_)
  ·exact HS5.out _ HB.out
  clear hK K
  first|refine Nt.normS 29 rfl ?_|skip
  first|(simp only[List.set_cons_succ,List.set_cons_zero])|skip
  refine wpAnyH_ready (rs:= [6]) (by kernel_rfl) (by simp) ?_;refine AllReadyH.cons rfl (λK hK=> ?_) AllReadyH.nil;refine Dd.step_row rfl 59 _ _ rfl W9.heap.size (Dd.row (t1++ [f1])) rfl rfl 59 _ NB ig zg og ?_;refine hK.out _ _ ?_ (λhT6=> ?_)
  ·exact HS5.out _ (Tk.below_row HB.out (Nat.le_refl _) _)
  clear hK K;refine wpAnyH_done (by kernel_rfl) ?_ _;have HE:Hid ((WB.setRow W9.heap.size (Dd.row (t1++ [f1]))).heap[W9.heap.size]? =some (.cells (Dd.row (t1++ [f1])) 59 (0,0))/\Below W9.heap.size W9 (WB.setRow W9.heap.size (Dd.row (t1++ [f1])))):=⟨setRow_heap _ _ _ _ _ _ NB,Tk.below_row HB.out (Nat.le_refl _) _⟩
  go_wp2_with fail
  go_meet;exact⟨_,rfl,HE.out⟩
 case rest=>
  rename World=>WX;obtain⟨g,rfl,HG⟩:=hcut;obtain⟨c0,hc0⟩:=pE (Dd.checkI wb (Dd.kkOf T).length T.ls.length l);obtain⟨b0,hb0⟩:=pE (Dd.overB wb (Dd.kkOf T).length T.ls l)
  have CC1:Hid (∀W,Below W9.heap.size W9 W->Calls Tryz.prog 19 #[.agg xs,.agg (Dd.row l)] W λe w'=>e=.returned (.int .i64 c0)/\Below W.heap.size W w'):=λW hb=>by
   have h:=CX.out.check W l (HZ.out W (HY.out W hb).1).2.2.2.2.2.2 HT.out.2.2.2.2;rw[hc0]at h;exact h
  have CC2:Hid (∀W,Below W9.heap.size W9 W->Calls Tryz.prog 20 #[.agg ys,.agg (Dd.row l)] W λe w'=>e=.returned (.int .i64 c0)/\Below W.heap.size W w'):=λW hb=>by
   have h:=YC.out.check W l (HZ.out W (HY.out W hb).1).2.2.2.2.2.1 HT.out.2.2.2.2;rw[hc0]at h;exact h
  have CO1:Hid (∀W,Below W9.heap.size W9 W->Calls Tryz.prog 21 #[.agg xs,.agg (Dd.row l)] W λe w'=>e=.returned (.bool b0)/\Below W.heap.size W w'):=λW hb=>by
   have h:=CX.out.over W l (HZ.out W (HY.out W hb).1).2.2.2.2.2.2 HT.out.2.2.2.2;rw[hb0]at h;exact h
  have CO2:Hid (∀W,Below W9.heap.size W9 W->Calls Tryz.prog 22 #[.agg ys,.agg (Dd.row l)] W λe w'=>e=.returned (.bool b0)/\Below W.heap.size W w'):=λW hb=>by
   have h:=YC.out.over W l (HZ.out W (HY.out W hb).1).2.2.2.2.2.1 HT.out.2.2.2.2;rw[hb0]at h;exact h
  have HS6:Hid (∀W,Below WX.heap.size WX W->(W.rangeAt p 0 (Dd.ints t1)/\W.rangeAt g 0 (Dd.ints t1)/\W.cell? ⟨g,104,none⟩=some (.int .i64 f1)/\W.rangeAt w.heap.size 0 xs.toList/\W.rangeAt (w.heap.size+1) 0 (Dd.ints l)/\W.rangeAt q 0 ys.toList)):=λW hb=>by
   have h0:=HG.out.2.trans (hb.mono HG.out.2.size);have h1:=HY.out W h0;have h2:=HZ.out W h1.1;have h3:=Dd.range_got ((hb.block _ (Array.getElem?_eq_some_iff.1 HG.out.1).1).trans HG.out.1) HT1.out.2.2;exact⟨Dd.range_st h1.2,h3.1,h3.2,h2.2.2.1,Dd.range_st h2.2.1,h2.2.2.2.2.1⟩
  have HU:Hid (∀W,Below WX.heap.size WX W->Below W9.heap.size W9 W/\Below w.heap.size w W):=λW hb=>by
   have h0:=HG.out.2.trans (hb.mono HG.out.2.size);exact⟨h0,(HZ.out W (HY.out W h0).1).2.2.2.2.2.2⟩
  have HDX:Hid (Below WX.heap.size WX WX.drew):=(Below.refl _ WX).drew;have hus:=Tryz.underlying53;have hqe:=HQE.out;clear hc0 hb0 CX YC HX HZ HY HS5 HD9 CFD HG HB3 HSM HT HQE HT1
  go_upto_region 6 with fail
  refine wp_region_held_drew (S:=(λV=>V.rangeAt p 0 (Dd.ints t1)/\V.rangeAt g 0 (Dd.ints t1)/\V.cell? ⟨g,104,none⟩=some (.int .i64 f1)/\V.rangeAt w.heap.size 0 xs.toList/\V.rangeAt (w.heap.size+1) 0 (Dd.ints l)/\V.rangeAt q 0 ys.toList)) (by kernel_rfl) ?_ (λhHeld=> ?_)
  ·exact HS6.out _ HDX.out
  refine Nt.takeS (v:=.agg (Dd.row t1)) 0 30 rfl rfl (by kernel_rfl) (by kernel_rfl) (by kernel_rfl) (λ_ _ _ h=>h) (yieldsIf_load_mid (by rfl) 41 _ rfl p 0 rfl (Dd.ints t1) _ (λ_ hw=>hw.1) hu rfl jt) hHeld ?_;simp only[List.set_cons_succ,List.set_cons_zero];refine Nt.takeS (v:= ?va2) 2 32 rfl rfl (by kernel_rfl) (by kernel_rfl) (by kernel_rfl) (λ_ _ _ h=>h) (Or.inl ⟨by rfl, ?ya2⟩) hHeld ?ra2
  case ya2=>(intro w hSw;(try dsimp only at hSw);go_simp;all_goals (with_reducible rfl))
  simp only[List.set_cons_succ,List.set_cons_zero];refine Nt.takeS (v:=.agg (Dd.row t1)) 3 33 rfl rfl (by kernel_rfl) (by kernel_rfl) (by kernel_rfl) (λ_ _ _ h=>h) (yieldsIf_load_mid (by rfl) 53 _ rfl g 0 rfl (Dd.ints t1) _ (λ_ hw=>hw.2.1) hus rfl jr) hHeld ?_;simp only[List.set_cons_succ,List.set_cons_zero];refine wpAnyH_ready (rs:= [1]) (by kernel_rfl) (by simp) ?_;refine AllReadyH.cons rfl (λK hK=> ?_) AllReadyH.nil;go_simp
  go_at_call 15
  refine Calls.mono (CST.out _) ?_;rintro e' W101 ⟨rfl,hb1⟩;have HB1:Hid (Below WX.heap.size WX W101):=HDX.out.trans (hb1.mono HDX.out.size);clear hb1
  go_wp2_with fail
  refine hK.out _ _ ?_ (λhT1=> ?_)
  ·exact HS6.out _ HB1.out
  clear hK K
  first|refine Nt.normS 31 rfl ?_|skip
  first|(simp only[List.set_cons_succ,List.set_cons_zero])|skip
  refine Nt.takeS (v:= ?vb4) 4 34 rfl rfl (by kernel_rfl) (by kernel_rfl) (by kernel_rfl) (λ_ _ _ h=>h) (Or.inl ⟨by rfl, ?yb4⟩) hT1 ?rb4
  case yb4=>(intro w hSw;(try dsimp only at hSw);go_simp;all_goals (with_reducible rfl))
  simp only[List.set_cons_succ,List.set_cons_zero];refine Nt.takeS (v:= ?vb5) 5 35 rfl rfl (by kernel_rfl) (by kernel_rfl) (by kernel_rfl) (λ_ _ _ h=>h) (Or.inl ⟨by rfl, ?yb5⟩) hT1 ?rb5
  case yb5=>(intro w hSw;(try dsimp only at hSw);go_simp;all_goals (with_reducible rfl))
  simp only[List.set_cons_succ,List.set_cons_zero];refine Nt.takeS (v:= ?vb6) 6 36 rfl rfl (by kernel_rfl) (by kernel_rfl) (by kernel_rfl) (λ_ _ _ h=>h) (Or.inl ⟨by rfl, ?yb6⟩) hT1 ?rb6
  case yb6=>(intro w hSw;(try dsimp only at hSw);go_simp;all_goals (with_reducible rfl))
  simp only[List.set_cons_succ,List.set_cons_zero];refine Nt.takeS (v:= ?vb7) 7 37 rfl rfl (by kernel_rfl) (by kernel_rfl) (by kernel_rfl) (λ_ _ _ h=>h) (Or.inl ⟨by rfl, ?yb7⟩) hT1 ?rb7
  case yb7=>(intro w hSw;(try dsimp only at hSw);go_simp;all_goals (with_reducible rfl))
  simp only[List.set_cons_succ,List.set_cons_zero];refine Nt.takeS (v:= ?vb8) 8 38 rfl rfl (by kernel_rfl) (by kernel_rfl) (by kernel_rfl) (λ_ _ _ h=>h) (Or.inl ⟨by rfl, ?yb8⟩) hT1 ?rb8
  case yb8=>(intro w hSw;(try dsimp only at hSw);go_simp;all_goals (with_reducible rfl))
  simp only[List.set_cons_succ,List.set_cons_zero];refine Nt.takeS (v:= ?vb9) 9 39 rfl rfl (by kernel_rfl) (by kernel_rfl) (by kernel_rfl) (λ_ _ _ h=>h) (Or.inl ⟨by rfl, ?yb9⟩) hT1 ?rb9
  case yb9=>(intro w hSw;(try dsimp only at hSw);go_simp;all_goals (with_reducible rfl))
  simp only[List.set_cons_succ,List.set_cons_zero];refine Nt.takeS (v:= ?vb10) 10 40 rfl rfl (by kernel_rfl) (by kernel_rfl) (by kernel_rfl) (λ_ _ _ h=>h) (Or.inl ⟨by rfl, ?yb10⟩) hT1 ?rb10
  case yb10=>(intro w hSw;(try dsimp only at hSw);go_simp;all_goals (with_reducible rfl))
  simp only[List.set_cons_succ,List.set_cons_zero];refine Nt.takeS (v:= ?vb11) 11 41 rfl rfl (by kernel_rfl) (by kernel_rfl) (by kernel_rfl) (λ_ _ _ h=>h) (Or.inl ⟨by rfl, ?yb11⟩) hT1 ?rb11
  case yb11=>(intro w hSw;(try dsimp only at hSw);go_simp;all_goals (with_reducible rfl))
  simp only[List.set_cons_succ,List.set_cons_zero];refine Nt.takeS (v:=.agg xs) 12 42 rfl rfl (by kernel_rfl) (by kernel_rfl) (by kernel_rfl) (λ_ _ _ h=>h) (yieldsIf_load_mid (by rfl) 32 _ rfl w.heap.size 0 rfl xs.toList _ (λ_ hw=>hw.2.2.2.1) ha rfl ial) hT1 ?_;simp only[List.set_cons_succ,List.set_cons_zero];refine Nt.takeS (v:=.agg (Dd.row l)) 13 43 rfl rfl (by kernel_rfl) (by kernel_rfl) (by kernel_rfl) (λ_ _ _ h=>h) (yieldsIf_load_mid (by rfl) 41 _ rfl (w.heap.size+1) 0 rfl (Dd.ints l) _ (λ_ hw=>hw.2.2.2.2.1) hu rfl jl) hT1 ?_;simp only[List.set_cons_succ,List.set_cons_zero];refine Nt.takeS (v:=.agg ys) 15 45 rfl rfl (by kernel_rfl) (by kernel_rfl) (by kernel_rfl) (λ_ _ _ h=>h) (yieldsIf_load_mid (by rfl) 48 _ rfl q 0 rfl ys.toList _ (λ_ hw=>hw.2.2.2.2.2) hr rfl yil) hT1 ?_;simp only[List.set_cons_succ,List.set_cons_zero];refine Nt.takeS (v:=.agg (Dd.row l)) 16 46 rfl rfl (by kernel_rfl) (by kernel_rfl) (by kernel_rfl) (λ_ _ _ h=>h) (yieldsIf_load_mid (by rfl) 41 _ rfl (w.heap.size+1) 0 rfl (Dd.ints l) _ (λ_ hw=>hw.2.2.2.2.1) hu rfl jl) hT1 ?_;simp only[List.set_cons_succ,List.set_cons_zero];refine wpAnyH_ready (rs:= [14]) (by kernel_rfl) (by simp) ?_;refine AllReadyH.cons rfl (λK hK=> ?_) AllReadyH.nil;go_simp
  go_at_call 19
  refine Calls.mono (CC1.out _ (HU.out _ HB1.out).1) ?_;rintro e' W114 ⟨rfl,hb14⟩;have HB14:Hid (Below WX.heap.size WX W114):=HB1.out.trans (hb14.mono HB1.out.size);clear hb14
  go_wp2_with fail
  refine hK.out _ _ ?_ (λhT14=> ?_)
  ·exact HS6.out _ HB14.out
  clear hK K
  first|refine Nt.normS 44 rfl ?_|skip
  first|(simp only[List.set_cons_succ,List.set_cons_zero])|skip
  refine wpAnyH_ready (rs:= [17]) (by kernel_rfl) (by simp) ?_;refine AllReadyH.cons rfl (λK hK=> ?_) AllReadyH.nil;go_simp
  go_at_call 15
  refine Calls.mono (CSL.out _) ?_;rintro e' W117 ⟨rfl,hb17⟩;have HB17:Hid (Below WX.heap.size WX W117):=HB14.out.trans (hb17.mono HB14.out.size);clear hb17
  go_wp2_with fail
  refine hK.out _ _ ?_ (λhT17=> ?_)
  ·exact HS6.out _ HB17.out
  clear hK K
  first|refine Nt.normS 47 rfl ?_|skip
  first|(simp only[List.set_cons_succ,List.set_cons_zero])|skip
  refine wpAnyH_ready (rs:= [18]) (by kernel_rfl) (by simp) ?_;refine AllReadyH.cons rfl (λK hK=> ?_) AllReadyH.nil;go_simp
  go_at_call 20
  refine Calls.mono (CC2.out _ (HU.out _ HB17.out).1) ?_;rintro e' W118 ⟨rfl,hb18⟩;have HB18:Hid (Below WX.heap.size WX W118):=HB17.out.trans (hb18.mono HB17.out.size);clear hb18
  go_wp2_with fail
  refine hK.out _ _ ?_ (λhT18=> ?_)
  ·exact HS6.out _ HB18.out
  clear hK K
  first|refine Nt.normS 48 rfl ?_|skip
  first|(simp only[List.set_cons_succ,List.set_cons_zero])|skip
  refine Nt.takeS (v:= ?vc19) 19 49 rfl rfl (by kernel_rfl) (by kernel_rfl) (by kernel_rfl) (λ_ _ _ h=>h) (Or.inl ⟨by rfl, ?yc19⟩) hT18 ?rc19
  case yc19=>(intro w hSw;(try dsimp only at hSw);go_simp;all_goals (with_reducible rfl))
  simp only[List.set_cons_succ,List.set_cons_zero];refine Nt.takeS (v:= ?vc20) 20 50 rfl rfl (by kernel_rfl) (by kernel_rfl) (by kernel_rfl) (λ_ _ _ h=>h) (Or.inl ⟨by rfl, ?yc20⟩) hT18 ?rc20
  case yc20=>(intro w hSw;(try dsimp only at hSw);go_simp;all_goals (with_reducible rfl))
  simp only[List.set_cons_succ,List.set_cons_zero];refine Nt.takeS (v:= ?vc21) 21 51 rfl rfl (by kernel_rfl) (by kernel_rfl) (by kernel_rfl) (λ_ _ _ h=>h) (Or.inl ⟨by rfl, ?yc21⟩) hT18 ?rc21
  case yc21=>(intro w hSw;(try dsimp only at hSw);go_simp;all_goals (with_reducible rfl))
  simp only[List.set_cons_succ,List.set_cons_zero];refine Nt.takeS (v:=.agg xs) 22 52 rfl rfl (by kernel_rfl) (by kernel_rfl) (by kernel_rfl) (λ_ _ _ h=>h) (yieldsIf_load_mid (by rfl) 32 _ rfl w.heap.size 0 rfl xs.toList _ (λ_ hw=>hw.2.2.2.1) ha rfl ial) hT18 ?_;simp only[List.set_cons_succ,List.set_cons_zero];refine Nt.takeS (v:=.agg (Dd.row l)) 23 53 rfl rfl (by kernel_rfl) (by kernel_rfl) (by kernel_rfl) (λ_ _ _ h=>h) (yieldsIf_load_mid (by rfl) 41 _ rfl (w.heap.size+1) 0 rfl (Dd.ints l) _ (λ_ hw=>hw.2.2.2.2.1) hu rfl jl) hT18 ?_;simp only[List.set_cons_succ,List.set_cons_zero];refine Nt.takeS (v:=.agg ys) 25 55 rfl rfl (by kernel_rfl) (by kernel_rfl) (by kernel_rfl) (λ_ _ _ h=>h) (yieldsIf_load_mid (by rfl) 48 _ rfl q 0 rfl ys.toList _ (λ_ hw=>hw.2.2.2.2.2) hr rfl yil) hT18 ?_;simp only[List.set_cons_succ,List.set_cons_zero];refine Nt.takeS (v:=.agg (Dd.row l)) 26 56 rfl rfl (by kernel_rfl) (by kernel_rfl) (by kernel_rfl) (λ_ _ _ h=>h) (yieldsIf_load_mid (by rfl) 41 _ rfl (w.heap.size+1) 0 rfl (Dd.ints l) _ (λ_ hw=>hw.2.2.2.2.1) hu rfl jl) hT18 ?_;simp only[List.set_cons_succ,List.set_cons_zero];refine wpAnyH_ready (rs:= [24]) (by kernel_rfl) (by simp) ?_;refine AllReadyH.cons rfl (λK hK=> ?_) AllReadyH.nil;go_simp
  go_at_call 21
  refine Calls.mono (CO1.out _ (HU.out _ HB18.out).1) ?_;rintro e' W124 ⟨rfl,hb24⟩;have HB24:Hid (Below WX.heap.size WX W124):=HB18.out.trans (hb24.mono HB18.out.size);clear hb24
  go_wp2_with fail
  refine hK.out _ _ ?_ (λhT24=> ?_)
  ·exact HS6.out _ HB24.out
  clear hK K
  first|refine Nt.normS 54 rfl ?_|skip
  first|(simp only[List.set_cons_succ,List.set_cons_zero])|skip
  refine wpAnyH_ready (rs:= [27]) (by kernel_rfl) (by simp) ?_;refine AllReadyH.cons rfl (λK hK=> ?_) AllReadyH.nil;go_simp
  go_at_call 15
  refine Calls.mono (CSL.out _) ?_;rintro e' W127 ⟨rfl,hb27⟩;have HB27:Hid (Below WX.heap.size WX W127):=HB24.out.trans (hb27.mono HB24.out.size);clear hb27
  go_wp2_with fail
  refine hK.out _ _ ?_ (λhT27=> ?_)
  ·exact HS6.out _ HB27.out
  clear hK K
  first|refine Nt.normS 57 rfl ?_|skip
  first|(simp only[List.set_cons_succ,List.set_cons_zero])|skip
  refine wpAnyH_ready (rs:= [28]) (by kernel_rfl) (by simp) ?_;refine AllReadyH.cons rfl (λK hK=> ?_) AllReadyH.nil;go_simp
  go_at_call 22
  refine Calls.mono (CO2.out _ (HU.out _ HB27.out).1) ?_;rintro e' W128 ⟨rfl,hb28⟩;have HB28:Hid (Below WX.heap.size WX W128):=HB27.out.trans (hb28.mono HB27.out.size);clear hb28
  go_wp2_with fail
  refine hK.out _ _ ?_ (λhT28=> ?_)
  ·exact HS6.out _ HB28.out
  clear hK K
  first|refine Nt.normS 58 rfl ?_|skip
  first|(simp only[List.set_cons_succ,List.set_cons_zero])|skip
  refine Nt.takeS (v:= ?vd29) 29 59 rfl rfl (by kernel_rfl) (by kernel_rfl) (by kernel_rfl) (λ_ _ _ h=>h) (Or.inl ⟨by rfl, ?yd29⟩) hT28 ?rd29
  case yd29=>(intro w hSw;(try dsimp only at hSw);go_simp;all_goals (with_reducible rfl))
  simp only[List.set_cons_succ,List.set_cons_zero];refine Nt.takeS (v:= ?vd30) 30 60 rfl rfl (by kernel_rfl) (by kernel_rfl) (by kernel_rfl) (λ_ _ _ h=>h) (Or.inl ⟨by rfl, ?yd30⟩) hT28 ?rd30
  case yd30=>(intro w hSw;(try dsimp only at hSw);go_simp;all_goals (with_reducible rfl))
  simp only[List.set_cons_succ,List.set_cons_zero];refine Nt.takeS (v:= ?vd31) 31 61 rfl rfl (by kernel_rfl) (by kernel_rfl) (by kernel_rfl) (λ_ _ _ h=>h) (Or.inl ⟨by rfl, ?yd31⟩) hT28 ?rd31
  case yd31=>(intro w hSw;(try dsimp only at hSw);go_simp;all_goals (with_reducible rfl))
  simp only[List.set_cons_succ,List.set_cons_zero];refine wpAnyH_ready (rs:= [32]) (by kernel_rfl) (by simp) ?_;refine AllReadyH.cons rfl (λK hK=> ?_) AllReadyH.nil;go_simp
  go_at_call 10
  refine Calls.mono (HS.out _ (HU.out _ HB28.out).2) ?_;rintro e' W132 ⟨rfl,hb32⟩;have HB32:Hid (Below WX.heap.size WX W132):=HB28.out.trans (hb32.mono HB28.out.size);clear hb32
  go_wp2_with fail
  refine hK.out _ _ ?_ (λhT32=> ?_)
  ·exact HS6.out _ HB32.out
  clear hK K
  first|refine Nt.normS 62 rfl ?_|skip
  first|(simp only[List.set_cons_succ,List.set_cons_zero])|skip
  refine Nt.takeS (v:= ?ve33) 33 63 rfl rfl (by kernel_rfl) (by kernel_rfl) (by kernel_rfl) (λ_ _ _ h=>h) (Or.inl ⟨by rfl, ?ye33⟩) hT32 ?re33
  case ye33=>(intro w hSw;(try dsimp only at hSw);go_simp;all_goals (with_reducible rfl))
  simp only[List.set_cons_succ,List.set_cons_zero];refine Nt.takeS (v:= ?ve34) 34 6 rfl rfl (by kernel_rfl) (by kernel_rfl) (by kernel_rfl) (λ_ _ _ h=>h) (Or.inl ⟨by rfl, ?ye34⟩) hT32 ?re34
  case ye34=>(intro w hSw;(try dsimp only at hSw);go_simp;all_goals (with_reducible rfl))
  simp only[List.set_cons_succ,List.set_cons_zero];refine wpAnyH_done (by kernel_rfl) ?_ _
  go_wp2_with fail
  go_ret;exact⟨rfl,(HU.out _ HB32.out).2⟩
end Go.Proofs.YtmomffminkflnaaGreatDoor.DeadFinishes
namespace Go.Proofs
open Go.ChangeShapes Go.WideShapes
def Dd.intOf:Value->Int
 | .int _ n=>n
 |_=>0
theorem Dd.open_ints {w:World}{r:Go.Reach}{b0 N:Nat}{t u:TypeId}{v:Value}(fs:Array Field)(hs:Tryz.prog.underlying t=some (.struct fs))(hts:Tryz.prog.cellTypes Tryz.prog.depth t=some (List.replicate N u))(hu:Tryz.prog.underlying u=some (.int .i64))(hc:Tryz.prog.cellsOf t=N)(hN:0<N)
  (hval:Value.okWide Tryz.prog w r b0 t v):∃l:List Int,v=.agg (Dd.row l)/\l.length=N/\∀x∈l,IntKind.has .i64 x:=by
 unfold Value.okWide at hval;rw[hs]at hval;obtain⟨cs,rfl,hsz,ts,hts',-,hcell⟩:=hval;obtain rfl:List.replicate N u=ts:=Option.some.inj (hts.symm.trans hts');rw[hc]at hsz
 have each:∀i (h:i<cs.size),cs[i]=.int .i64 (Dd.intOf cs[i])/\IntKind.has .i64 (Dd.intOf cs[i]):=λi h=>by
  obtain⟨u',hu',hok⟩:=hcell i cs[i] (Array.getElem?_eq_getElem h);have hm:i%N<N:=Nat.mod_lt _ hN;rw[List.length_replicate,List.getElem?_replicate,if_pos hm]at hu';obtain rfl:=Option.some.inj hu'
  generalize cs[i]=x at hok
  unfold Cell.okWide at hok;rw[hu]at hok;unfold Cell.ok at hok;rw[hu]at hok
  cases x<;>simp_all [Dd.intOf]
 refine⟨cs.toList.map Dd.intOf, ?_,by simp[hsz],λx hx=> ?_⟩
 ·congr 1
  refine Array.ext (by simp[Dd.row,Dd.ints]) λi h1 h2=> ?_;simp only[Dd.row,Dd.ints,List.getElem_toArray,List.getElem_map,Array.getElem_toList];exact(each i h1).1
 obtain⟨v,hv,rfl⟩:=List.mem_map.1 hx;obtain⟨i,hi,rfl⟩:=Array.getElem_of_mem (Array.mem_toList_iff.1 hv);exact(each i hi).2
theorem Dd.open_state {w:World}{r:Go.Reach}{b0:Nat}{v:Value}(hval:Value.okWide Tryz.prog w r b0 41 v):∃l:List Int,v=.agg (Dd.row l)/\l.length=104:=by
 obtain⟨l,h1,h2,_⟩:=Dd.open_ints (N:=104) _ Tryz.underlying41 (by kernel_rfl) Tryz.underlying3 (by kernel_rfl) (by decide) hval;exact⟨l,h1,h2⟩
theorem Dd.open_place {w:World}{r:Go.Reach}{b0:Nat}{v:Value}(hval:Value.okWide Tryz.prog w r b0 67 v):∃kid out:Int,v=.agg #[.int .i64 kid,.int .i64 out]/\ -9223372036854775808<=out/\out<=9223372036854775807:=by
 obtain⟨l,h1,h2,h3⟩:=Dd.open_ints (N:=2) _ Tryz.underlying67 (by kernel_rfl) Tryz.underlying3 (by kernel_rfl) (by decide) hval
 match l,h1,h2,h3 with
 | [a,b],h1,_,h3=>exact⟨a,b,h1,(h3 b (by simp)).1,(h3 b (by simp)).2⟩
end Go.Proofs
