import Derived.Test.YtmomffminkflnaaGreatDoorRDdR10
set_option maxRecDepth 100000
set_option maxHeartbeats 32000000
namespace Go.Proofs.YtmomffminkflnaaGreatDoor.DeadChooses
open Go.RowKit
theorem walk (T:Ac)(V:Ac.Vs)(e dd:Nat)(l:List Int)(kid out:Int)(w:World)(hT:Ac.Lies w w.heap.size e dd V T)(hl:l.length=104)(o0: -9223372036854775808<=out)(o1:out<=9223372036854775807)(hO:Tk.Ops w):
  Calls Tryz.prog 5 #[.agg (Ac.row T V),.agg (Dd.row l),.agg #[.int .i64 kid,.int .i64 out]] w λe w'=>e=.returned (.bool true)/\Below w.heap.size w w':=by
 have h0:0<w.heap.size:=by have:=hO.lt;omega
 obtain⟨xs,hxs⟩:=pE (Ac.row T V);have hsz:xs.size=12:=by rw[<-hxs];rfl
 have hl0:=Dd.At.new (w.alloc (.cells xs 32)) hl;rw[show(w.alloc (.cells xs 32)).heap.size=w.heap.size+1 by simp]at hl0;obtain⟨w0,hw0⟩:=pE ((w.alloc (.cells xs 32)).alloc (.cells (Dd.row l) 41));rw[hw0]at hl0;have s0:w0.heap.size=w.heap.size+1+1:=by rw[<-hw0];simp
 obtain⟨w1,hw1⟩:=pE (w0.alloc (.cells #[.int .i64 kid,.int .i64 out] 67));have b0:Below w.heap.size w w0:=by rw[<-hw0];exact((Below.refl _ w).alloc (Nat.le_refl _) _).alloc (by simp) _
 have b1:=pB hw1
 have B1:Below w.heap.size w w1:=b0.trans (b1.mono b0.size);have N1:w1.heap[w.heap.size]? =some (.cells xs 32 (0,0)):=by rw[b1.block _ (by omega),<-hw0,Below.heap_alloc _ _ _ (by simp)];exact heap_alloc_new w _
 have L1:Dd.At w1 (w.heap.size+1) l:=hl0.below b1 (by omega);have P1:w1.heap[w.heap.size+1+1]? =some (.cells #[.int .i64 kid,.int .i64 out] 67 (0,0)):=by rw[<-hw1,<-s0];exact heap_alloc_new w0 _
 have hltp:=(Array.getElem?_eq_some_iff.1 P1).1;have hlt1:=L1.lt;obtain⟨w2,hw2⟩:=pE (w1.alloc (.cells #[.int .i64 600] 36));have B2:=pB hw2
 have R2:Tk.Rm w1.heap.size ((600:Nat):Int) w2:=by rw[<-hw2];exact heap_alloc_new w1 _
 have B02:Below w.heap.size w w2:=B1.trans (B2.mono B1.size);have CL0:=Tryz.alarge_any e dd T V 600 w1.heap.size 1 w.heap.size w2 (hT.keep B02.block) (by omega) B02.size R2 (by omega) (by omega);rw[hxs]at CL0;have CL:Hid _:=CL0
 have HX:Hid (∀W,Below w1.heap.size w1 W->W.heap[w.heap.size]? =some (.cells xs 32 (0,0))/\Below w.heap.size w W/\W.rangeAt w.heap.size 0 xs.toList/\Dd.At W (w.heap.size+1) l/\W.heap[w.heap.size+1+1]? =some (.cells #[.int .i64 kid,.int .i64 out] 67 (0,0))):=λW hb=>by
  have h:=(hb.block _ (by omega)).trans N1;refine⟨h,B1.trans (hb.mono B1.size),λj v hv=> ?_,L1.below hb hlt1,(hb.block _ hltp).trans P1⟩;rw[Nat.zero_add];simp only[World.cell?,h];simpa using hv
 have H0:Hid _:=hw0;have H1:Hid _:=hw1;have H2:Hid (w1.alloc (.cells #[.int .i64 600] 36)=w2):=hw2;have HS:Hid (∀W,Below w.heap.size w W->Calls Tryz.prog 10 #[] W λe w'=>e=.returned (.bool true)/\Below W.heap.size W w'):=λW hb=>Tryz.skips_any W (hO.below hb hO.lt);have HT:Hid (Ac.Lies w w.heap.size e dd V T/\Tk.Ops w/\Ac.row T V=xs/\0<w.heap.size/\l.length=104/\ -9223372036854775808<=out/\out<=9223372036854775807):=⟨hT,hO,hxs,h0,hl,o0,o1⟩;have HBW:Hid (Below w1.heap.size w1 w2/\w.heap.size+1<w1.heap.size):=⟨B2,hlt1⟩;have ha:=Tryz.underlying32;have hu:=Tryz.underlying41;have ia:(Tryz.prog.info? 32).map (·.size)=some xs.size:=by rw[hsz];exact Dd.info_act
 have ial:(Tryz.prog.info? 32).map (·.size)=some xs.toList.length:=by rw[ia];simp
 have il:=Dd.info_row hl;rw[hxs];clear hT hO hxs hsz hw1 hw2 B1 B2 R2 B02 CL0 hlt1 h0 hl0 L1 hl hw0 s0 b0 b1 P1 hltp o0 o1
 go_enter Tryz.func5,Tryz.ntmps5
 go_upto_region 1 with fail
 rw[H0.out,H1.out];clear H0 H1
 go_wp2_with (refine wpList_load_row rfl 32 _ rfl _ rfl 32 _ (0,0) _ N1 ha rfl ia ?_)
 rw[H2.out];refine Calls.mono CL.out ?_;rintro e' W3 ⟨hb3,⟨rfl,hsm,k3,hk3,-⟩|rfl⟩
 rotate_left
 ·have HB3:Hid (Below w.heap.size w W3):=(HX.out W3 (HBW.out.1.trans (hb3.below HBW.out.1.size (by intro i hi;show¬i=w1.heap.size;omega)))).2.1
  clear hb3 CL N1
  go_wp2_with fail
  refine Calls.mono (HS.out W3 HB3.out) ?_;rintro e' W4 ⟨rfl,hb4⟩;have HB4:Hid (Below w.heap.size w W4):=HB3.out.trans (hb4.mono HB3.out.size);clear hb4;go_wp2;go_ret;exact⟨rfl,HB4.out⟩
 have HB3:Hid (Below w1.heap.size w1 W3):=HBW.out.1.trans (hb3.below HBW.out.1.size (by intro i hi;show¬i=w1.heap.size;omega));have HSM:Hid (T.All Dd.Small/\T.size<=600):=⟨hsm,by omega⟩;clear hb3 CL N1 hsm hk3
 have CX:Hid (Dd.Ctx w xs (Dd.webB T) T.ls (Dd.kkOf T)):=by
  have h:=Dd.ctx dd e T V w HT.out.1 HT.out.2.2.2.1 (by have:=HSM.out.2;omega) (Ac.all_mono (λ_ h=>Dd.fit_of h) T HSM.out.1) HT.out.2.1;rw[HT.out.2.2.1]at h;exact h
 obtain⟨wb,hwb⟩:=pE (Dd.webB T);rw[hwb]at CX
 have RFC:Hid (∀W,Below w.heap.size w W->Calls Tryz.prog 12 #[.agg xs] W λe' w'=>∃ys,e'=.returned (.agg ys)/\(Tryz.prog.info? 48).map (·.size)=some ys.size/\ys.size=12/\ys.all (·.oneCell')=true/\Dd.RCtx w' ys wb T.ls (Dd.kkOf T)/\Below W.heap.size W w'):=λW hb=>by
  have h:=Dd.ref_ctx HT.out.1 HSM.out.2 HSM.out.1 W hb;rw[HT.out.2.2.1,hwb]at h;exact h
 obtain⟨t1,ht1⟩:=pE ((Dd.choR wb T.ls (Dd.kkOf T) l kid out).1);obtain⟨f1,hf1⟩:=pE ((Dd.choR wb T.ls (Dd.kkOf T) l kid out).2)
 have ht1l:t1.length=104:=by
  rw[<-ht1];exact Dd.cho_len (λh=>by rw[h]at hwb;exact(Dd.rw_of hwb).right.web) HT.out.2.2.2.2.1 kid out
 have HT1:Hid ((Dd.choR wb T.ls (Dd.kkOf T) l kid out).1=t1/\(Dd.choR wb T.ls (Dd.kkOf T) l kid out).2=f1/\t1.length=104):=⟨ht1,hf1,ht1l⟩;have i0:=Dd.info_row ht1l;have o0:=Dd.row_one t1;have z0:(Tryz.zeroCells41).size=(Dd.row t1).size:=by rw[Dd.zero_row,Dd.row_size,Dd.row_size,ht1l,Dd.zeros_length]
 have hgl:=Dd.got_len ht1l f1;have ig:=Dd.rginfo_row hgl;have og:=Dd.row_one (t1++ [f1]);have zg:(Tryz.zeroCells59).size=(Dd.row (t1++ [f1])).size:=by rw[Dd.rgz,Dd.row_size,Dd.row_size,hgl];simp[Dd.zeros_length]
 have jt:=Dd.ints_len ht1l;have jr:=Dd.rints_len ht1l;have jl:=Dd.ints_len HT.out.2.2.2.2.1
 have hqe:∀W:World,(Op.equalIn 10000 53 (.agg (Dd.row t1)) (.agg (Dd.row t1))).run Tryz.prog W=.ok true W:=λW=>by
  rw[Dd.rst_eq t1 t1 HT1.out.2.2 HT1.out.2.2 W,decide_eq_true rfl]
 have HQE:Hid _:=hqe;clear hwb ht1 hf1 ht1l hgl hqe;obtain⟨nx3,hb03,-,hl3,hp3⟩:=HX.out W3 HB3.out;have NS3:=hl3.h;have k0:W3.cell? ⟨w.heap.size+1+1,0,none⟩=some (.int .i64 kid):=by simp[World.cell?,hp3]
 have k1:W3.cell? ⟨w.heap.size+1+1,1,none⟩=some (.int .i64 out):=by simp[World.cell?,hp3]
 have C1:Hid (Calls Tryz.prog 23 #[.agg xs,.agg (Dd.row l),.int .i64 kid,.int .i64 out] W3 λe w'=>e=.returned (.tuple #[.agg (Dd.row t1),.int .i64 f1])/\Below W3.heap.size W3 w'):=by
  have h:=CX.out.choose W3 l kid out hb03 HT.out.2.2.2.2.1 HT.out.2.2.2.2.2.1 HT.out.2.2.2.2.2.2;unfold Dd.two at h;rw[HT1.out.1,HT1.out.2.1]at h;exact h
 clear hb03 hl3 hp3
 go_upto_region 3 with fail
 go_wp2_with (first
  |refine wpList_load_row rfl 32 _ rfl _ rfl 32 _ (0,0) _ nx3 ha rfl ia ?_
  |refine wpList_load_row rfl 41 _ rfl _ rfl 41 (Dd.row l) (0,0) _ NS3 hu rfl il ?_)
 refine Calls.mono C1.out ?_;rintro e' W8 ⟨rfl,hb8⟩;have NZ8:(W8.alloc (.cells Tryz.zeroCells41 41)).heap[W8.heap.size]? =some (.cells Tryz.zeroCells41 41 (0,0)):=heap_alloc_new W8 _;obtain⟨W9,hW9⟩:=pE ((W8.alloc (.cells Tryz.zeroCells41 41)).setRow W8.heap.size (Dd.row t1));have A9:Dd.At W9 W8.heap.size t1:=by rw[<-hW9];exact⟨setRow_heap _ _ _ _ _ _ NZ8,HT1.out.2.2⟩
 have B9:Below W8.heap.size W8 W9:=by rw[<-hW9];exact Tk.below_row ((Below.refl _ W8).alloc (Nat.le_refl _) _) (Nat.le_refl _) _
 have B79:Below w1.heap.size w1 W9:=HB3.out.trans ((hb8.trans (B9.mono hb8.size)).mono HB3.out.size);obtain⟨p,hp⟩:=pE (W8.heap.size);have HP:Hid (W8.heap.size=p):=hp
 have HY:Hid (∀W,Below W9.heap.size W9 W->Below w1.heap.size w1 W/\Dd.At W p t1):=λW hb=>by
  have A9':=A9;rw[hp]at A9';exact⟨B79.trans (hb.mono B79.size),A9'.below hb A9'.lt⟩
 have HW9:Hid _:=hW9;clear hb8 hW9 A9 B9 B79 hp C1 nx3 NS3 k0 k1
 go_upto_region 4 with(refine wpList_store_row rfl 41 _ _ rfl W8.heap.size (Dd.row t1) rfl rfl 41 _ NZ8 i0 z0 o0 ?_)
 rw[HW9.out,HP.out];clear HW9 NZ8 HP i0 o0 z0;have CSL:Hid (∀W,Calls Tryz.prog 15 #[.agg (Dd.row l)] W λe w'=>e=.returned (.agg (Dd.row l))/\Below W.heap.size W w'):=λW=>Tryz.lawState_any l W HT.out.2.2.2.2.1;have CST:Hid (∀W,Calls Tryz.prog 15 #[.agg (Dd.row t1)] W λe w'=>e=.returned (.agg (Dd.row t1))/\Below W.heap.size W w'):=λW=>Tryz.lawState_any t1 W HT1.out.2.2
 have HS5:Hid (∀W,Below W9.heap.size W9 W->(W.rangeAt w.heap.size 0 xs.toList/\W.rangeAt (w.heap.size+1) 0 (Dd.ints l)/\W.rangeAt (w.heap.size+1+1) 0 [.int .i64 kid,.int .i64 out])):=λW hb=>by
  have h:=HX.out W (HY.out W hb).1;refine⟨h.2.2.1,Dd.range_st h.2.2.2.1,λj v hv=> ?_⟩;rw[Nat.zero_add];simp only[World.cell?,h.2.2.2.2];simpa using hv
 have HU9:Hid (∀W,Below W9.heap.size W9 W->Below w.heap.size w W):=λW hb=>(HX.out W (HY.out W hb).1).2.1;have hat:=Tryz.underlying67;have jat:(Tryz.prog.info? 67).map (·.size)=some [Value.int .i64 kid,Value.int .i64 out].length:=by show _=_;kernel_rfl
 have HD9:Hid (Below W9.heap.size W9 W9.drew):=(Below.refl _ W9).drew
 go_cut [9]from 25 to 44 (λs9 wx=>∃g:Nat,s9=.pointer (some ⟨g,0,none⟩)/\Hid (wx.heap[g]? =some (.cells (Dd.row (t1++ [f1])) 59 (0,0))/\Below W9.heap.size W9 wx))
 case first=>
  refine wp_region_held_drew (S:=(λV=>V.rangeAt w.heap.size 0 xs.toList/\V.rangeAt (w.heap.size+1) 0 (Dd.ints l)/\V.rangeAt (w.heap.size+1+1) 0 [.int .i64 kid,.int .i64 out])) (by kernel_rfl) ?_ (λhHeld=> ?_)
  ·exact HS5.out _ HD9.out
  refine Nt.takeS (v:=.agg xs) 0 25 rfl rfl (by kernel_rfl) (by kernel_rfl) (by kernel_rfl) (λ_ _ _ h=>h) (yieldsIf_load_mid (by rfl) 32 _ rfl w.heap.size 0 rfl xs.toList _ (λ_ hw=>hw.1) ha rfl ial) hHeld ?_;simp only[List.set_cons_succ,List.set_cons_zero];refine Nt.takeS (v:=.agg (Dd.row l)) 2 27 rfl rfl (by kernel_rfl) (by kernel_rfl) (by kernel_rfl) (λ_ _ _ h=>h) (yieldsIf_load_mid (by rfl) 41 _ rfl (w.heap.size+1) 0 rfl (Dd.ints l) _ (λ_ hw=>hw.2.1) hu rfl jl) hHeld ?_;simp only[List.set_cons_succ,List.set_cons_zero];refine Nt.takeS (v:=.agg #[.int .i64 kid,.int .i64 out]) 4 29 rfl rfl (by kernel_rfl) (by kernel_rfl) (by kernel_rfl) (λ_ _ _ h=>h) (yieldsIf_load_mid (by rfl) 67 _ rfl (w.heap.size+1+1) 0 rfl [.int .i64 kid,.int .i64 out] _ (λ_ hw=>hw.2.2) hat rfl jat) hHeld ?_;simp only[List.set_cons_succ,List.set_cons_zero];refine wpAnyH_ready (rs:= [1,6]) (by kernel_rfl) (by simp) ?_;refine AllReadyH.cons rfl (λK hK=> ?_) (AllReadyH.cons rfl (λK hK=> ?_) AllReadyH.nil)
  ·go_simp
   go_at_call 12
   refine Calls.mono (RFC.out _ (HU9.out _ HD9.out)) ?_;rintro e' WA ⟨ys,rfl,-,-,-,yc,hbA⟩;have HA:Hid (Below W9.heap.size W9 WA):=HD9.out.trans (hbA.mono HD9.out.size)
   have CD:Hid (∀W,Below WA.heap.size WA W->Calls Tryz.prog 24 #[.agg ys,.agg (Dd.row l),.agg #[.int .i64 kid,.int .i64 out]] W λe w'=>e=.returned (.agg (Dd.row (t1++ [f1])))/\Below W.heap.size W w'):=λW hb=>by
    have h:=yc.choose W l kid out hb HT.out.2.2.2.2.1;unfold Dd.gotOf at h;rw[HT1.out.1,HT1.out.2.1]at h;exact h
   have KA:Hid (Below WA.heap.size WA WA):=Below.refl _ WA;clear hbA yc
   go_wp2_with fail
   refine hK.out _ _ ?_ (λhT1=> ?_)
   ·exact HS5.out _ HA.out
   clear hK K
   first|refine Nt.normS 26 rfl ?_|skip
   first|(simp only[List.set_cons_succ,List.set_cons_zero])|skip
   refine wpAnyH_ready (rs:= [3,6]) (by kernel_rfl) (by simp) ?_;refine AllReadyH.cons rfl (λK hK=> ?_) (AllReadyH.cons rfl (λK hK=> ?_) AllReadyH.nil)
   ·go_simp
    go_at_call 15
    refine Calls.mono (CSL.out _) ?_;rintro e' WB ⟨rfl,hbB⟩;have HB:Hid (Below W9.heap.size W9 WB):=HA.out.trans (hbB.mono HA.out.size);have KB:Hid (Below WA.heap.size WA WB):=KA.out.trans (hbB.mono KA.out.size);clear hbB
    go_wp2_with fail
    refine hK.out _ _ ?_ (λhT3=> ?_)
    ·exact HS5.out _ HB.out
    clear hK K
    first|refine Nt.normS 28 rfl ?_|skip
    first|(simp only[List.set_cons_succ,List.set_cons_zero])|skip
    refine wpAnyH_ready (rs:= [5,6]) (by kernel_rfl) (by simp) ?_;refine AllReadyH.cons rfl (λK hK=> ?_) (AllReadyH.cons rfl (λK hK=> ?_) AllReadyH.nil)
    ·go_simp
     go_at_call 24
     refine Calls.mono (CD.out _ KB.out) ?_;rintro e' WC ⟨rfl,hbC⟩;have HC:Hid (Below W9.heap.size W9 WC):=HB.out.trans (hbC.mono HB.out.size);clear hbC
     go_wp2_with fail
     refine hK.out _ _ ?_ (λhT5=> ?_)
     ·exact HS5.out _ HC.out
     clear hK K
     first|refine Nt.normS 30 rfl ?_|skip
     first|(simp only[List.set_cons_succ,List.set_cons_zero])|skip
     refine wpAnyH_ready (rs:= [6]) (by kernel_rfl) (by simp) ?_;refine AllReadyH.cons rfl (λK hK=> ?_) AllReadyH.nil;have NG:(WC.alloc (.cells Tryz.zeroCells59 59)).heap[WC.heap.size]? =some (.cells Tryz.zeroCells59 59 (0,0)):=heap_alloc_new WC _;have HN:Hid (Below W9.heap.size W9 (WC.alloc (.cells Tryz.zeroCells59 59))):=HC.out.alloc HC.out.size _;have HNs:Hid (W9.heap.size<=WC.heap.size):=HC.out.size;go_simp;refine hK.out _ _ ?_ (λhT6=> ?_)
     ·exact HS5.out _ HN.out
     clear hK K
     first|refine Nt.normS 9 rfl ?_|skip
     first|(simp only[List.set_cons_succ,List.set_cons_zero])|skip
     refine wpAnyH_ready (rs:= [7]) (by kernel_rfl) (by simp) ?_;refine AllReadyH.cons rfl (λK hK=> ?_) AllReadyH.nil;refine Dd.step_row rfl 59 _ _ rfl WC.heap.size (Dd.row (t1++ [f1])) rfl rfl 59 _ NG ig zg og ?_;refine hK.out _ _ ?_ (λhT7=> ?_)
     ·exact HS5.out _ (Tk.below_row HN.out HNs.out _)
     clear hK K;refine wpAnyH_done (by kernel_rfl) ?_ _;have HE:Hid (((WC.alloc (.cells Tryz.zeroCells59 59)).setRow WC.heap.size (Dd.row (t1++ [f1]))).heap[WC.heap.size]? =some (.cells (Dd.row (t1++ [f1])) 59 (0,0))/\Below W9.heap.size W9 ((WC.alloc (.cells Tryz.zeroCells59 59)).setRow WC.heap.size (Dd.row (t1++ [f1])))):=⟨setRow_heap _ _ _ _ _ _ NG,Tk.below_row HN.out HNs.out _⟩
     go_wp2_with fail
     go_meet;exact⟨_,rfl,HE.out⟩
    have NG:(WB.alloc (.cells Tryz.zeroCells59 59)).heap[WB.heap.size]? =some (.cells Tryz.zeroCells59 59 (0,0)):=heap_alloc_new WB _;have HN:Hid (Below W9.heap.size W9 (WB.alloc (.cells Tryz.zeroCells59 59))):=HB.out.alloc HB.out.size _;have HNs:Hid (W9.heap.size<=WB.heap.size):=HB.out.size;go_simp;refine hK.out _ _ ?_ (λhT6=> ?_)
    ·exact HS5.out _ HN.out
    clear hK K
    first|refine Nt.normS 9 rfl ?_|skip
    first|(simp only[List.set_cons_succ,List.set_cons_zero])|skip
    have KN:Hid (Below WA.heap.size WA (WB.alloc (.cells Tryz.zeroCells59 59))):=KB.out.alloc KB.out.size _;refine wpAnyH_ready (rs:= [5]) (by kernel_rfl) (by simp) ?_;refine AllReadyH.cons rfl (λK hK=> ?_) AllReadyH.nil;go_simp
    go_at_call 24
    refine Calls.mono (CD.out _ KN.out) ?_;rintro e' WC ⟨rfl,hbC⟩;have HC:Hid (Below W9.heap.size W9 WC):=HN.out.trans (hbC.mono HN.out.size);have NG:=(hbC.block _ (Array.getElem?_eq_some_iff.1 NG).1).trans NG;clear hbC
    go_wp2_with fail
    refine hK.out _ _ ?_ (λhT5=> ?_)
    ·exact HS5.out _ HC.out
    clear hK K
    first|refine Nt.normS 30 rfl ?_|skip
    first|(simp only[List.set_cons_succ,List.set_cons_zero])|skip
    refine wpAnyH_ready (rs:= [7]) (by kernel_rfl) (by simp) ?_;refine AllReadyH.cons rfl (λK hK=> ?_) AllReadyH.nil;refine Dd.step_row rfl 59 _ _ rfl WB.heap.size (Dd.row (t1++ [f1])) rfl rfl 59 _ NG ig zg og ?_;refine hK.out _ _ ?_ (λhT7=> ?_)
    ·exact HS5.out _ (Tk.below_row HC.out HNs.out _)
    clear hK K;refine wpAnyH_done (by kernel_rfl) ?_ _;have HE:Hid ((WC.setRow WB.heap.size (Dd.row (t1++ [f1]))).heap[WB.heap.size]? =some (.cells (Dd.row (t1++ [f1])) 59 (0,0))/\Below W9.heap.size W9 (WC.setRow WB.heap.size (Dd.row (t1++ [f1])))):=⟨setRow_heap _ _ _ _ _ _ NG,Tk.below_row HC.out HNs.out _⟩
    go_wp2_with fail
    go_meet;exact⟨_,rfl,HE.out⟩
   have NG:(WA.alloc (.cells Tryz.zeroCells59 59)).heap[WA.heap.size]? =some (.cells Tryz.zeroCells59 59 (0,0)):=heap_alloc_new WA _;have HN:Hid (Below W9.heap.size W9 (WA.alloc (.cells Tryz.zeroCells59 59))):=HA.out.alloc HA.out.size _;have HNs:Hid (W9.heap.size<=WA.heap.size):=HA.out.size;go_simp;refine hK.out _ _ ?_ (λhT6=> ?_)
   ·exact HS5.out _ HN.out
   clear hK K
   first|refine Nt.normS 9 rfl ?_|skip
   first|(simp only[List.set_cons_succ,List.set_cons_zero])|skip
   have KN:Hid (Below WA.heap.size WA (WA.alloc (.cells Tryz.zeroCells59 59))):=KA.out.alloc KA.out.size _;refine wpAnyH_ready (rs:= [3]) (by kernel_rfl) (by simp) ?_;refine AllReadyH.cons rfl (λK hK=> ?_) AllReadyH.nil;go_simp
   go_at_call 15
   refine Calls.mono (CSL.out _) ?_;rintro e' WB ⟨rfl,hbB⟩;have HB:Hid (Below W9.heap.size W9 WB):=HN.out.trans (hbB.mono HN.out.size);have NG:=(hbB.block _ (Array.getElem?_eq_some_iff.1 NG).1).trans NG;have KB:Hid (Below WA.heap.size WA WB):=KN.out.trans (hbB.mono KN.out.size);clear hbB
   go_wp2_with fail
   refine hK.out _ _ ?_ (λhT3=> ?_)
   ·exact HS5.out _ HB.out
   clear hK K
   first|refine Nt.normS 28 rfl ?_|skip
   first|(simp only[List.set_cons_succ,List.set_cons_zero])|skip
   refine wpAnyH_ready (rs:= [5]) (by kernel_rfl) (by simp) ?_;refine AllReadyH.cons rfl (λK hK=> ?_) AllReadyH.nil;go_simp
   go_at_call 24
   refine Calls.mono (CD.out _ KB.out) ?_;rintro e' WC ⟨rfl,hbC⟩;have HC:Hid (Below W9.heap.size W9 WC):=HB.out.trans (hbC.mono HB.out.size);have NG:=(hbC.block _ (Array.getElem?_eq_some_iff.1 NG).1).trans NG;clear hbC
   go_wp2_with fail
   refine hK.out _ _ ?_ (λhT5=> ?_)
   ·exact HS5.out _ HC.out
   clear hK K
   first|refine Nt.normS 30 rfl ?_|skip
   first|(simp only[List.set_cons_succ,List.set_cons_zero])|skip
   refine wpAnyH_ready (rs:= [7]) (by kernel_rfl) (by simp) ?_;refine AllReadyH.cons rfl (λK hK=> ?_) AllReadyH.nil;refine Dd.step_row rfl 59 _ _ rfl WA.heap.size (Dd.row (t1++ [f1])) rfl rfl 59 _ NG ig zg og ?_;refine hK.out _ _ ?_ (λhT7=> ?_)
   ·exact HS5.out _ (Tk.below_row HC.out HNs.out _)
   clear hK K;refine wpAnyH_done (by kernel_rfl) ?_ _;have HE:Hid ((WC.setRow WA.heap.size (Dd.row (t1++ [f1]))).heap[WA.heap.size]? =some (.cells (Dd.row (t1++ [f1])) 59 (0,0))/\Below W9.heap.size W9 (WC.setRow WA.heap.size (Dd.row (t1++ [f1])))):=⟨setRow_heap _ _ _ _ _ _ NG,Tk.below_row HC.out HNs.out _⟩
   go_wp2_with fail
   go_meet;exact⟨_,rfl,HE.out⟩
  have NG:(W9.drew.alloc (.cells Tryz.zeroCells59 59)).heap[W9.drew.heap.size]? =some (.cells Tryz.zeroCells59 59 (0,0)):=heap_alloc_new W9.drew _;have HN:Hid (Below W9.heap.size W9 (W9.drew.alloc (.cells Tryz.zeroCells59 59))):=HD9.out.alloc HD9.out.size _;have HNs:Hid (W9.heap.size<=W9.drew.heap.size):=HD9.out.size;go_simp;refine hK.out _ _ ?_ (λhT6=> ?_)
  ·exact HS5.out _ HN.out
  clear hK K
  first|refine Nt.normS 9 rfl ?_|skip
  first|(simp only[List.set_cons_succ,List.set_cons_zero])|skip
  refine wpAnyH_ready (rs:= [1]) (by kernel_rfl) (by simp) ?_;refine AllReadyH.cons rfl (λK hK=> ?_) AllReadyH.nil;go_simp
  go_at_call 12
  refine Calls.mono (RFC.out _ (HU9.out _ HN.out)) ?_;rintro e' WA ⟨ys,rfl,-,-,-,yc,hbA⟩;have HA:Hid (Below W9.heap.size W9 WA):=HN.out.trans (hbA.mono HN.out.size);have NG:=(hbA.block _ (Array.getElem?_eq_some_iff.1 NG).1).trans NG
  have CD:Hid (∀W,Below WA.heap.size WA W->Calls Tryz.prog 24 #[.agg ys,.agg (Dd.row l),.agg #[.int .i64 kid,.int .i64 out]] W λe w'=>e=.returned (.agg (Dd.row (t1++ [f1])))/\Below W.heap.size W w'):=λW hb=>by
   have h:=yc.choose W l kid out hb HT.out.2.2.2.2.1;unfold Dd.gotOf at h;rw[HT1.out.1,HT1.out.2.1]at h;exact h
  have KA:Hid (Below WA.heap.size WA WA):=Below.refl _ WA;clear hbA yc
  go_wp2_with fail
  refine hK.out _ _ ?_ (λhT1=> ?_)
  ·exact HS5.out _ HA.out
  clear hK K
  first|refine Nt.normS 26 rfl ?_|skip
  first|(simp only[List.set_cons_succ,List.set_cons_zero])|skip
  refine wpAnyH_ready (rs:= [3]) (by kernel_rfl) (by simp) ?_;refine AllReadyH.cons rfl (λK hK=> ?_) AllReadyH.nil;go_simp
  go_at_call 15
  refine Calls.mono (CSL.out _) ?_;rintro e' WB ⟨rfl,hbB⟩;have HB:Hid (Below W9.heap.size W9 WB):=HA.out.trans (hbB.mono HA.out.size);have NG:=(hbB.block _ (Array.getElem?_eq_some_iff.1 NG).1).trans NG;have KB:Hid (Below WA.heap.size WA WB):=KA.out.trans (hbB.mono KA.out.size);clear hbB
  go_wp2_with fail
  refine hK.out _ _ ?_ (λhT3=> ?_)
  ·exact HS5.out _ HB.out
  clear hK K
  first|refine Nt.normS 28 rfl ?_|skip
  first|(simp only[List.set_cons_succ,List.set_cons_zero])|skip
  refine wpAnyH_ready (rs:= [5]) (by kernel_rfl) (by simp) ?_;refine AllReadyH.cons rfl (λK hK=> ?_) AllReadyH.nil;go_simp
  go_at_call 24
  refine Calls.mono (CD.out _ KB.out) ?_;rintro e' WC ⟨rfl,hbC⟩;have HC:Hid (Below W9.heap.size W9 WC):=HB.out.trans (hbC.mono HB.out.size);have NG:=(hbC.block _ (Array.getElem?_eq_some_iff.1 NG).1).trans NG;clear hbC
  go_wp2_with fail
  refine hK.out _ _ ?_ (λhT5=> ?_)
  ·exact HS5.out _ HC.out
  clear hK K
  first|refine Nt.normS 30 rfl ?_|skip
  first|(simp only[List.set_cons_succ,List.set_cons_zero])|skip
  refine wpAnyH_ready (rs:= [7]) (by kernel_rfl) (by simp) ?_;refine AllReadyH.cons rfl (λK hK=> ?_) AllReadyH.nil;refine Dd.step_row rfl 59 _ _ rfl W9.heap.size (Dd.row (t1++ [f1])) rfl rfl 59 _ NG ig zg og ?_;refine hK.out _ _ ?_ (λhT7=> ?_)
  ·exact HS5.out _ (Tk.below_row HC.out HNs.out _)
  clear hK K;refine wpAnyH_done (by kernel_rfl) ?_ _;have HE:Hid ((WC.setRow W9.heap.size (Dd.row (t1++ [f1]))).heap[W9.heap.size]? =some (.cells (Dd.row (t1++ [f1])) 59 (0,0))/\Below W9.heap.size W9 (WC.setRow W9.heap.size (Dd.row (t1++ [f1])))):=⟨setRow_heap _ _ _ _ _ _ NG,Tk.below_row HC.out HNs.out _⟩
  go_wp2_with fail
  go_meet;exact⟨_,rfl,HE.out⟩
 case rest=>
  rename World=>WX;obtain⟨g,rfl,HG⟩:=hcut
  have HS6:Hid (∀W,Below WX.heap.size WX W->(W.rangeAt p 0 (Dd.ints t1)/\W.rangeAt g 0 (Dd.ints t1)/\W.cell? ⟨g,104,none⟩=some (.int .i64 f1))):=λW hb=>by
   have h0:=HG.out.2.trans (hb.mono HG.out.2.size);have h1:=HY.out W h0;have h3:=Dd.range_got ((hb.block _ (Array.getElem?_eq_some_iff.1 HG.out.1).1).trans HG.out.1) HT1.out.2.2;exact⟨Dd.range_st h1.2,h3.1,h3.2⟩
  have HU:Hid (∀W,Below WX.heap.size WX W->Below w.heap.size w W):=λW hb=>HU9.out W (HG.out.2.trans (hb.mono HG.out.2.size));have HDX:Hid (Below WX.heap.size WX WX.drew):=(Below.refl _ WX).drew;have hus:=Tryz.underlying53;have hqe:=HQE.out;clear CX HX HY HS5 HD9 HG HB3 HSM HT HQE HT1 RFC HU9
  go_upto_region 5 with fail
  refine wp_region_held_drew (S:=(λV=>V.rangeAt p 0 (Dd.ints t1)/\V.rangeAt g 0 (Dd.ints t1)/\V.cell? ⟨g,104,none⟩=some (.int .i64 f1))) (by kernel_rfl) ?_ (λhHeld=> ?_)
  ·exact HS6.out _ HDX.out
  refine Nt.takeS (v:=.agg (Dd.row t1)) 0 31 rfl rfl (by kernel_rfl) (by kernel_rfl) (by kernel_rfl) (λ_ _ _ h=>h) (yieldsIf_load_mid (by rfl) 41 _ rfl p 0 rfl (Dd.ints t1) _ (λ_ hw=>hw.1) hu rfl jt) hHeld ?_;simp only[List.set_cons_succ,List.set_cons_zero];refine Nt.takeS (v:= ?va2) 2 33 rfl rfl (by kernel_rfl) (by kernel_rfl) (by kernel_rfl) (λ_ _ _ h=>h) (Or.inl ⟨by rfl, ?ya2⟩) hHeld ?ra2
  case ya2=>(intro w hSw;(try dsimp only at hSw);go_simp;all_goals (with_reducible rfl))
  simp only[List.set_cons_succ,List.set_cons_zero];refine Nt.takeS (v:=.agg (Dd.row t1)) 3 34 rfl rfl (by kernel_rfl) (by kernel_rfl) (by kernel_rfl) (λ_ _ _ h=>h) (yieldsIf_load_mid (by rfl) 53 _ rfl g 0 rfl (Dd.ints t1) _ (λ_ hw=>hw.2.1) hus rfl jr) hHeld ?_;simp only[List.set_cons_succ,List.set_cons_zero];refine wpAnyH_ready (rs:= [1]) (by kernel_rfl) (by simp) ?_;refine AllReadyH.cons rfl (λK hK=> ?_) AllReadyH.nil;go_simp
  go_at_call 15
  refine Calls.mono (CST.out _) ?_;rintro e' W101 ⟨rfl,hb1⟩;have HB1:Hid (Below WX.heap.size WX W101):=HDX.out.trans (hb1.mono HDX.out.size);clear hb1
  go_wp2_with fail
  refine hK.out _ _ ?_ (λhT1=> ?_)
  ·exact HS6.out _ HB1.out
  clear hK K
  first|refine Nt.normS 32 rfl ?_|skip
  first|(simp only[List.set_cons_succ,List.set_cons_zero])|skip
  refine Nt.takeS (v:= ?vb4) 4 35 rfl rfl (by kernel_rfl) (by kernel_rfl) (by kernel_rfl) (λ_ _ _ h=>h) (Or.inl ⟨by rfl, ?yb4⟩) hT1 ?rb4
  case yb4=>(intro w hSw;(try dsimp only at hSw);go_simp;all_goals (with_reducible rfl))
  simp only[List.set_cons_succ,List.set_cons_zero];refine Nt.takeS (v:= ?vb5) 5 36 rfl rfl (by kernel_rfl) (by kernel_rfl) (by kernel_rfl) (λ_ _ _ h=>h) (Or.inl ⟨by rfl, ?yb5⟩) hT1 ?rb5
  case yb5=>(intro w hSw;(try dsimp only at hSw);go_simp;all_goals (with_reducible rfl))
  simp only[List.set_cons_succ,List.set_cons_zero];refine Nt.takeS (v:= ?vb6) 6 37 rfl rfl (by kernel_rfl) (by kernel_rfl) (by kernel_rfl) (λ_ _ _ h=>h) (Or.inl ⟨by rfl, ?yb6⟩) hT1 ?rb6
  case yb6=>(intro w hSw;(try dsimp only at hSw);go_simp;all_goals (with_reducible rfl))
  simp only[List.set_cons_succ,List.set_cons_zero];refine Nt.takeS (v:= ?vb7) 7 38 rfl rfl (by kernel_rfl) (by kernel_rfl) (by kernel_rfl) (λ_ _ _ h=>h) (Or.inl ⟨by rfl, ?yb7⟩) hT1 ?rb7
  case yb7=>(intro w hSw;(try dsimp only at hSw);go_simp;all_goals (with_reducible rfl))
  simp only[List.set_cons_succ,List.set_cons_zero];refine Nt.takeS (v:= ?vb8) 8 39 rfl rfl (by kernel_rfl) (by kernel_rfl) (by kernel_rfl) (λ_ _ _ h=>h) (Or.inl ⟨by rfl, ?yb8⟩) hT1 ?rb8
  case yb8=>(intro w hSw;(try dsimp only at hSw);go_simp;all_goals (with_reducible rfl))
  simp only[List.set_cons_succ,List.set_cons_zero];refine Nt.takeS (v:= ?vb9) 9 40 rfl rfl (by kernel_rfl) (by kernel_rfl) (by kernel_rfl) (λ_ _ _ h=>h) (Or.inl ⟨by rfl, ?yb9⟩) hT1 ?rb9
  case yb9=>(intro w hSw;(try dsimp only at hSw);go_simp;all_goals (with_reducible rfl))
  simp only[List.set_cons_succ,List.set_cons_zero];refine Nt.takeS (v:= ?vb10) 10 41 rfl rfl (by kernel_rfl) (by kernel_rfl) (by kernel_rfl) (λ_ _ _ h=>h) (Or.inl ⟨by rfl, ?yb10⟩) hT1 ?rb10
  case yb10=>(intro w hSw;(try dsimp only at hSw);go_simp;all_goals (with_reducible rfl))
  simp only[List.set_cons_succ,List.set_cons_zero];refine Nt.takeS (v:= ?vb11) 11 42 rfl rfl (by kernel_rfl) (by kernel_rfl) (by kernel_rfl) (λ_ _ _ h=>h) (Or.inl ⟨by rfl, ?yb11⟩) hT1 ?rb11
  case yb11=>(intro w hSw;(try dsimp only at hSw);go_simp;all_goals (with_reducible rfl))
  simp only[List.set_cons_succ,List.set_cons_zero];refine wpAnyH_ready (rs:= [12]) (by kernel_rfl) (by simp) ?_;refine AllReadyH.cons rfl (λK hK=> ?_) AllReadyH.nil;go_simp
  go_at_call 10
  refine Calls.mono (HS.out _ (HU.out _ HB1.out)) ?_;rintro e' W112 ⟨rfl,hb12⟩;have HB12:Hid (Below WX.heap.size WX W112):=HB1.out.trans (hb12.mono HB1.out.size);clear hb12
  go_wp2_with fail
  refine hK.out _ _ ?_ (λhT12=> ?_)
  ·exact HS6.out _ HB12.out
  clear hK K
  first|refine Nt.normS 43 rfl ?_|skip
  first|(simp only[List.set_cons_succ,List.set_cons_zero])|skip
  refine Nt.takeS (v:= ?ve13) 13 44 rfl rfl (by kernel_rfl) (by kernel_rfl) (by kernel_rfl) (λ_ _ _ h=>h) (Or.inl ⟨by rfl, ?ye13⟩) hT12 ?re13
  case ye13=>(intro w hSw;(try dsimp only at hSw);go_simp;all_goals (with_reducible rfl))
  simp only[List.set_cons_succ,List.set_cons_zero];refine Nt.takeS (v:= ?ve14) 14 6 rfl rfl (by kernel_rfl) (by kernel_rfl) (by kernel_rfl) (λ_ _ _ h=>h) (Or.inl ⟨by rfl, ?ye14⟩) hT12 ?re14
  case ye14=>(intro w hSw;(try dsimp only at hSw);go_simp;all_goals (with_reducible rfl))
  simp only[List.set_cons_succ,List.set_cons_zero];refine wpAnyH_done (by kernel_rfl) ?_ _
  go_wp2_with fail
  go_ret;exact⟨rfl,HU.out _ HB12.out⟩
end Go.Proofs.YtmomffminkflnaaGreatDoor.DeadChooses
namespace Go.Proofs
open Go.ChangeShapes Go.WideShapes
def Dd.intOf:Value->Int
 | .int _ n=>n
 |_=>0
theorem Dd.open_ints {w:World}{r:Go.Reach}{b0 N:Nat}{t u:TypeId}{v:Value}(fs:Array Field)(hs:Tryz.prog.underlying t=some (.struct fs))(hts:Tryz.prog.cellTypes Tryz.prog.depth t=some (List.replicate N u))(hu:Tryz.prog.underlying u=some (.int .i64))(hc:Tryz.prog.cellsOf t=N)(hN:0<N)
  (hval:Value.okWide Tryz.prog w r b0 t v):∃l:List Int,v=.agg (Dd.row l)/\l.length=N/\∀x∈l,IntKind.has .i64 x:=by
 unfold Value.okWide at hval;rw[hs]at hval;obtain⟨cs,rfl,hsz,ts,hts',-,hcell⟩:=hval;obtain rfl:List.replicate N u=ts:=Option.some.inj (hts.symm.trans hts');rw[hc]at hsz
 have each:∀i (h:i<cs.size),cs[i]=.int .i64 (Dd.intOf cs[i])/\IntKind.has .i64 (Dd.intOf cs[i]):=λi h=>by
  obtain⟨u',hu',hok⟩:=hcell i cs[i] (Array.getElem?_eq_getElem h);have hm:i%N<N:=Nat.mod_lt _ hN;rw[List.length_replicate,List.getElem?_replicate,if_pos hm]at hu';obtain rfl:=Option.some.inj hu'
  generalize cs[i]=x at hok
  unfold Cell.okWide at hok;rw[hu]at hok;unfold Cell.ok at hok;rw[hu]at hok
  cases x<;>simp_all [Dd.intOf]
 refine⟨cs.toList.map Dd.intOf, ?_,by simp[hsz],λx hx=> ?_⟩
 ·congr 1
  refine Array.ext (by simp[Dd.row,Dd.ints]) λi h1 h2=> ?_;simp only[Dd.row,Dd.ints,List.getElem_toArray,List.getElem_map,Array.getElem_toList];exact(each i h1).1
 obtain⟨v,hv,rfl⟩:=List.mem_map.1 hx;obtain⟨i,hi,rfl⟩:=Array.getElem_of_mem (Array.mem_toList_iff.1 hv);exact(each i hi).2
theorem Dd.open_state {w:World}{r:Go.Reach}{b0:Nat}{v:Value}(hval:Value.okWide Tryz.prog w r b0 41 v):∃l:List Int,v=.agg (Dd.row l)/\l.length=104:=by
 obtain⟨l,h1,h2,_⟩:=Dd.open_ints (N:=104) _ Tryz.underlying41 (by kernel_rfl) Tryz.underlying3 (by kernel_rfl) (by decide) hval;exact⟨l,h1,h2⟩
theorem Dd.open_place {w:World}{r:Go.Reach}{b0:Nat}{v:Value}(hval:Value.okWide Tryz.prog w r b0 67 v):∃kid out:Int,v=.agg #[.int .i64 kid,.int .i64 out]/\ -9223372036854775808<=out/\out<=9223372036854775807:=by
 obtain⟨l,h1,h2,h3⟩:=Dd.open_ints (N:=2) _ Tryz.underlying67 (by kernel_rfl) Tryz.underlying3 (by kernel_rfl) (by decide) hval
 match l,h1,h2,h3 with
 | [a,b],h1,_,h3=>exact⟨a,b,h1,(h3 b (by simp)).1,(h3 b (by simp)).2⟩
end Go.Proofs
