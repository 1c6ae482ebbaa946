import Derived.Test.YtmomffminkflnaaGreatDoorRDdR10
set_option maxRecDepth 100000
set_option maxHeartbeats 32000000
namespace Go.Proofs.YtmomffminkflnaaGreatDoor.DeadStarts
open Go.RowKit
theorem walk (T:Ac)(V:Ac.Vs)(e dd:Nat)(w:World)(hT:Ac.Lies w w.heap.size e dd V T)(hO:Tk.Ops w):
  Calls Tryz.prog 3 #[.agg (Ac.row T V)] w λe w'=>e=.returned (.bool true)/\Below w.heap.size w w':=by
 have h0:0<w.heap.size:=by have:=hO.lt;omega
 obtain⟨ka,kc,hvk,hKd⟩:=Dd.kds_of hT;obtain⟨la,lc,hvl,hLk⟩:=hT.own.l;obtain⟨n,hn⟩:=pE (T.ks.length);obtain⟨m,hm⟩:=pE (T.ls.length);obtain⟨xs,hxs⟩:=pE (Ac.row T V);have hsz:xs.size=12:=by rw[<-hxs];rfl
 have x8:xs[8]? =some (.slice ka n kc):=by rw[<-hxs,<-hn,<-hvk];rfl
 have x9:xs[9]? =some (.slice la m lc):=by rw[<-hxs,<-hm,<-hvl];rfl
 obtain⟨w1,hw1⟩:=pE (w.alloc (.cells xs 32));have B1:=pB hw1
 have N1:w1.heap[w.heap.size]? =some (.cells xs 32 (0,0)):=by rw[<-hw1];exact heap_alloc_new w _
 have hlt1:=(Array.getElem?_eq_some_iff.1 N1).1;obtain⟨w2,hw2⟩:=pE (w1.alloc (.cells #[.int .i64 600] 36));have B2:=pB hw2
 have R2:Tk.Rm w1.heap.size ((600:Nat):Int) w2:=by rw[<-hw2];exact heap_alloc_new w1 _
 have B02:Below w.heap.size w w2:=B1.trans (B2.mono B1.size);have CL0:=Tryz.alarge_any e dd T V 600 w1.heap.size 1 w.heap.size w2 (hT.keep B02.block) (by omega) B02.size R2 (by omega) (by omega);rw[hxs]at CL0;have CL:Hid _:=CL0
 have HX:Hid (∀W,Below w1.heap.size w1 W->W.heap[w.heap.size]? =some (.cells xs 32 (0,0))/\Below w.heap.size w W/\W.rangeAt w.heap.size 0 xs.toList/\W.cell? ⟨w.heap.size,8,none⟩=some (.slice ka n kc)/\W.cell? ⟨w.heap.size,9,none⟩=some (.slice la m lc)):=λW hb=>by
  have h:=(hb.block _ hlt1).trans N1;refine⟨h,B1.trans (hb.mono B1.size),λj v hv=> ?_, ?_, ?_⟩
  ·rw[Nat.zero_add]
   simp only[World.cell?,h];simpa using hv
  ·simp[World.cell?,h,x8]
  simp[World.cell?,h,x9]
 have H1:Hid (w.alloc (.cells xs 32)=w1):=hw1;have H2:Hid (w1.alloc (.cells #[.int .i64 600] 36)=w2):=hw2;have HS:Hid (∀W,Below w.heap.size w W->Calls Tryz.prog 10 #[] W λe w'=>e=.returned (.bool true)/\Below W.heap.size W w'):=λW hb=>Tryz.skips_any W (hO.below hb hO.lt);have HT:Hid (Ac.Lies w w.heap.size e dd V T/\Tk.Ops w/\Ac.row T V=xs/\T.ks.length=n/\T.ls.length=m/\Dd.Kds w w.heap.size ka (Dd.kkOf T)/\0<w.heap.size/\V.k=.slice ka n kc):=⟨hT,hO,hxs,hn,hm,hKd,h0,by rw[<-hn];exact hvk⟩;have HBW:Hid (Below w1.heap.size w1 w2/\w.heap.size<w1.heap.size):=⟨B2,hlt1⟩;have ha:=Tryz.underlying32;have hu:=Tryz.underlying41;have ia:(Tryz.prog.info? 32).map (·.size)=some xs.size:=by rw[hsz];exact Dd.info_act
 have ial:(Tryz.prog.info? 32).map (·.size)=some xs.toList.length:=by rw[ia];simp
 rw[hxs];clear hT hO hKd hLk hvk hvl hn hm hxs hsz x8 x9 hw1 hw2 B1 B2 R2 B02 CL0 hlt1 h0
 go_enter Tryz.func3,Tryz.ntmps3
 go_upto_region 1 with fail
 rw[H1.out]
 go_wp2_with (refine wpList_load_row rfl 32 _ rfl _ rfl 32 _ (0,0) _ N1 ha rfl ia ?_)
 rw[H2.out];refine Calls.mono CL.out ?_;rintro e' W3 ⟨hb3,⟨rfl,hsm,k3,hk3,-⟩|rfl⟩
 rotate_left
 ·have HB3:Hid (Below w.heap.size w W3):=(HX.out W3 (HBW.out.1.trans (hb3.below HBW.out.1.size (by intro i hi;show¬i=w1.heap.size;omega)))).2.1
  clear hb3 CL N1
  go_wp2_with fail
  refine Calls.mono (HS.out W3 HB3.out) ?_;rintro e' W4 ⟨rfl,hb4⟩;have HB4:Hid (Below w.heap.size w W4):=HB3.out.trans (hb4.mono HB3.out.size);clear hb4;go_wp2;go_ret;exact⟨rfl,HB4.out⟩
 have HB3:Hid (Below w1.heap.size w1 W3):=HBW.out.1.trans (hb3.below HBW.out.1.size (by intro i hi;show¬i=w1.heap.size;omega));have HSM:Hid (T.All Dd.Small/\T.size<=600):=⟨hsm,by omega⟩;clear hb3 CL N1 hsm hk3
 have CX:Hid (Dd.Ctx w xs (Dd.webB T) T.ls (Dd.kkOf T)):=by
  have h:=Dd.ctx dd e T V w HT.out.1 HT.out.2.2.2.2.2.2.1 (by have:=HSM.out.2;omega) (Ac.all_mono (λ_ h=>Dd.fit_of h) T HSM.out.1) HT.out.2.1;rw[HT.out.2.2.1]at h;exact h
 obtain⟨wb,hwb⟩:=pE (Dd.webB T);rw[hwb]at CX;obtain⟨nx3,-,-,-,-⟩:=HX.out W3 HB3.out;have C1:Hid (Calls Tryz.prog 11 #[.agg xs] W3 λe w'=>e=.returned (.tuple #[.agg (Dd.row (Dd.startR wb T.ls (Dd.kkOf T)).1),.int .i64 (Dd.startR wb T.ls (Dd.kkOf T)).2])/\Below W3.heap.size W3 w'):=CX.out.start W3 (HX.out W3 HB3.out).2.1;obtain⟨s0,hs0⟩:=pE ((Dd.startR wb T.ls (Dd.kkOf T)).1);obtain⟨e0,he0⟩:=pE ((Dd.startR wb T.ls (Dd.kkOf T)).2);rw[hs0,he0]at C1;have HW:Hid (Dd.webB T=wb/\(Dd.startR wb T.ls (Dd.kkOf T)).1=s0/\(Dd.startR wb T.ls (Dd.kkOf T)).2=e0):=⟨hwb,hs0,he0⟩
 have hs0l:s0.length=104:=by
  rw[<-hs0]
  cases hq:wb with
  |false=>exact Dd.zeros_length
  |true=>
   rw[hq]at hwb;exact(Dd.start_inv (Dd.rw_of hwb).right.web).1.len
 have HS0:Hid (s0.length=104):=hs0l;have i0:=Dd.info_row hs0l;have o0:=Dd.row_one s0;have z0:(Tryz.zeroCells41).size=(Dd.row s0).size:=by rw[Dd.zero_row,Dd.row_size,Dd.row_size,hs0l,Dd.zeros_length]
 have RFC:Hid (∀W,Below w.heap.size w W->Calls Tryz.prog 12 #[.agg xs] W λe' w'=>∃ys,e'=.returned (.agg ys)/\(Tryz.prog.info? 48).map (·.size)=some ys.size/\ys.size=12/\ys.all (·.oneCell')=true/\Dd.RCtx w' ys wb T.ls (Dd.kkOf T)/\Below W.heap.size W w'):=λW hb=>by
  have h:=Dd.ref_ctx HT.out.1 HSM.out.2 HSM.out.1 W hb;rw[HT.out.2.2.1,hwb]at h;exact h
 clear hwb hs0 he0 hs0l
 go_upto_region 3 with fail
 go_wp2_with (refine wpList_load_row rfl 32 _ rfl _ rfl 32 _ (0,0) _ nx3 ha rfl ia ?_)
 refine Calls.mono C1.out ?_;rintro e' W4 ⟨rfl,hb4⟩;have NZ4:(W4.alloc (.cells Tryz.zeroCells41 41)).heap[W4.heap.size]? =some (.cells Tryz.zeroCells41 41 (0,0)):=heap_alloc_new W4 _;obtain⟨W5,hW5⟩:=pE ((W4.alloc (.cells Tryz.zeroCells41 41)).setRow W4.heap.size (Dd.row s0));have A5:Dd.At W5 W4.heap.size s0:=by rw[<-hW5];exact⟨setRow_heap _ _ _ _ _ _ NZ4,HS0.out⟩
 have B5:Below W4.heap.size W4 W5:=by rw[<-hW5];exact Tk.below_row ((Below.refl _ W4).alloc (Nat.le_refl _) _) (Nat.le_refl _) _
 have hb14:Below w1.heap.size w1 W4:=HB3.out.trans (hb4.mono HB3.out.size);obtain⟨p,hp⟩:=pE (W4.heap.size);have HP:Hid (W4.heap.size=p):=hp;have HB5:Hid (Below w1.heap.size w1 W5/\Dd.At W5 p s0):=⟨hb14.trans (B5.mono hb14.size),by rw[<-hp];exact A5⟩;have HW5:Hid _:=hW5;clear hb4 hb14 hW5 A5 B5 hp C1 nx3
 go_upto_region 4 with(refine wpList_store_row rfl 41 _ _ rfl W4.heap.size (Dd.row s0) rfl rfl 41 _ NZ4 i0 z0 o0 ?_)
 rw[HW5.out,HP.out];clear HW5 NZ4 HP i0 o0 z0;obtain⟨nx5,hb05,-,-,-⟩:=HX.out W5 HB5.out.1;have CRF:=RFC.out W5 hb05;have HRF:Hid _:=CRF;clear hb05 CRF RFC
 go_wp2_with (refine wpList_load_row rfl 32 _ rfl _ rfl 32 _ (0,0) _ nx5 ha rfl ia ?_)
 refine Calls.mono HRF.out ?_;rintro e' W6 ⟨ys,rfl,yi,y12,y1,yc,hb6⟩;have NZ6:(W6.alloc (.cells #[.int .i64 0,.int .i64 0,.int .i64 0,.int .i64 0,.int .i64 0,.int .i64 0,.slice none 0 0,.slice none 0 0,.slice none 0 0,.slice none 0 0,.slice none 0 0,.slice none 0 0] 48)).heap[W6.heap.size]? =some (.cells #[.int .i64 0,.int .i64 0,.int .i64 0,.int .i64 0,.int .i64 0,.int .i64 0,.slice none 0 0,.slice none 0 0,.slice none 0 0,.slice none 0 0,.slice none 0 0,.slice none 0 0] 48 (0,0)):=heap_alloc_new W6 _;obtain⟨W7,hW7⟩:=pE ((W6.alloc (.cells #[.int .i64 0,.int .i64 0,.int .i64 0,.int .i64 0,.int .i64 0,.int .i64 0,.slice none 0 0,.slice none 0 0,.slice none 0 0,.slice none 0 0,.slice none 0 0,.slice none 0 0] 48)).setRow W6.heap.size ys);have A7:W7.heap[W6.heap.size]? =some (.cells ys 48 (0,0)):=by rw[<-hW7];exact setRow_heap _ _ _ _ _ _ NZ6
 have B7:Below W6.heap.size W6 W7:=by rw[<-hW7];exact Tk.below_row ((Below.refl _ W6).alloc (Nat.le_refl _) _) (Nat.le_refl _) _
 have B57:Below W5.heap.size W5 W7:=hb6.trans (B7.mono hb6.size);obtain⟨q,hq⟩:=pE (W6.heap.size);have HQ:Hid (W6.heap.size=q):=hq
 have HZ:Hid (∀W,Below W7.heap.size W7 W->Below w1.heap.size w1 W/\Dd.At W p s0/\W.heap[q]? =some (.cells ys 48 (0,0))/\W.rangeAt q 0 ys.toList/\Below W6.heap.size W6 W/\Below w.heap.size w W):=λW hb=>by
  have h1:Below w1.heap.size w1 W7:=HB5.out.1.trans (B57.mono HB5.out.1.size);have h2:W.heap[q]? =some (.cells ys 48 (0,0)):=by rw[<-hq];exact(hb.block _ (Array.getElem?_eq_some_iff.1 A7).1).trans A7
  have h3:Below w1.heap.size w1 W:=h1.trans (hb.mono h1.size)
  exact⟨h3,(HB5.out.2.below B57 HB5.out.2.lt).below hb (HB5.out.2.below B57 HB5.out.2.lt).lt,h2,λj v hv=>by
   rw[Nat.zero_add];simp only[World.cell?,h2]
   simpa using hv,B7.trans (hb.mono B7.size),(HX.out W h3).2.1⟩
 have HW7:Hid _:=hW7;have YC:Hid (Dd.RCtx W6 ys wb T.ls (Dd.kkOf T)):=yc;have zy:(#[.int .i64 0,.int .i64 0,.int .i64 0,.int .i64 0,.int .i64 0,.int .i64 0,.slice none 0 0,.slice none 0 0,.slice none 0 0,.slice none 0 0,.slice none 0 0,.slice none 0 0]:Array Value).size=ys.size:=by rw[y12];rfl
 have hr:=Tryz.underlying48;have yil:(Tryz.prog.info? 48).map (·.size)=some ys.toList.length:=by rw[yi];simp
 clear hb6 hW7 A7 B7 B57 hq nx5 HRF yc
 go_upto_region 5 with(refine wpList_store_row rfl 48 _ _ rfl W6.heap.size ys rfl rfl 48 _ NZ6 yi zy y1 ?_)
 rw[HW7.out,HQ.out];clear HW7 NZ6 HQ zy;have ny7:=(HZ.out W7 (Below.refl _ _)).2.2.1;have CRI:Hid _:=YC.out.right W7 (HZ.out W7 (Below.refl _ _)).2.2.2.2.1
 go_wp2_with (refine wpList_load_row rfl 48 _ rfl _ rfl 48 _ (0,0) _ ny7 hr rfl yi ?_)
 refine Calls.mono CRI.out ?_;rintro e' W8 ⟨rfl,hb8⟩;have HB8:Hid (Below W7.heap.size W7 W8):=hb8;clear hb8 ny7 CRI;have NS8:=Dd.range_st (HZ.out W8 HB8.out).2.1;have NX8:=(HX.out W8 (HZ.out W8 HB8.out).1).2.2.1;have js:=Dd.ints_len HS0.out
 cases wb with
 |false=>
  obtain rfl:e0=4:=HW.out.2.2.symm;have hs:s0=Dd.zeros:=HW.out.2.1.symm
  have hqe:∀W:World,(Op.equalIn 10000 41 (.agg (Dd.ints s0).toArray) (.agg Tryz.zeroCells41)).run Tryz.prog W=.ok true W:=λW=>by
   rw[Dd.zero_row,Dd.st_eqi s0 Dd.zeros HS0.out Dd.zeros_length W,hs,decide_eq_true rfl]
  have CRU:Hid (Calls Tryz.prog 14 #[.agg xs,.agg (Dd.row s0)] W8 λe w'=>Nt.Gives [] W8 e w'):=CX.out.running W8 s0 (HZ.out W8 HB8.out).2.2.2.2.2 HS0.out;clear hs
  go_upto_region 6 with fail
  go_wp2_with (first
   |refine Dd.load_want (by rfl) 41 _ rfl p 0 rfl (Dd.ints s0) _ NS8 hu rfl js ?_
   |refine Dd.load_want (by rfl) 32 _ rfl w.heap.size 0 rfl xs.toList _ NX8 ha rfl ial ?_
   |fail)
  refine Calls.mono CRU.out ?_;rintro e' W9 ⟨v9,rfl,how9,hb9⟩;obtain⟨ra,rc,rfl⟩:=Rk.own_shape how9;have HB9:Hid (Below W7.heap.size W7 W9):=HB8.out.trans (hb9.mono HB8.out.size);clear how9 hb9 CRU NS8 NX8
  go_wp2_with fail
  refine Calls.mono (HS.out W9 (HZ.out W9 HB9.out).2.2.2.2.2) ?_;rintro e' WA ⟨rfl,hbA⟩;have HBA:Hid (Below W7.heap.size W7 WA):=HB9.out.trans (hbA.mono HB9.out.size);clear hbA;go_wp2;go_ret;exact⟨rfl,(HZ.out WA HBA.out).2.2.2.2.2⟩
 |true=>
  obtain rfl:e0=0:=HW.out.2.2.symm;have hs:Dd.start T.ls (Dd.kkOf T)=s0:=HW.out.2.1
  have hqe:∀W:World,(Op.equalIn 10000 53 (.agg (Dd.row s0)) (.agg (Dd.row s0))).run Tryz.prog W=.ok true W:=λW=>by
   rw[Dd.rst_eq s0 s0 HS0.out HS0.out W,decide_eq_true rfl]
  have CST:Hid (∀W,Below W7.heap.size W7 W->Calls Tryz.prog 16 #[.agg ys] W λe w'=>e=.returned (.agg (Dd.row s0))/\Below W.heap.size W w'):=λW hb=>by
   have h:=YC.out.start rfl W (HZ.out W hb).2.2.2.2.1;rw[hs]at h;exact h
  have CSA:Hid (∀W,Calls Tryz.prog 15 #[.agg (Dd.row s0)] W λe w'=>e=.returned (.agg (Dd.row s0))/\Below W.heap.size W w'):=λW=>Tryz.lawState_any s0 W HS0.out;have HSS:Hid (∀W,Below W7.heap.size W7 W->(W.rangeAt p 0 (Dd.ints s0)/\W.rangeAt q 0 ys.toList)):=λW hb=>⟨Dd.range_st (HZ.out W hb).2.1,(HZ.out W hb).2.2.2.1⟩;have HD8:Hid (Below W7.heap.size W7 W8.drew):=HB8.out.drew;clear hs NS8 NX8
  go_upto_region 7 with fail
  refine wp_region_held_drew (S:=(λV=>V.rangeAt p 0 (Dd.ints s0)/\V.rangeAt q 0 ys.toList)) (by kernel_rfl) ?_ (λhHeld=> ?_)
  ·exact HSS.out _ HD8.out
  refine Nt.takeS (v:= ?va0) 0 38 rfl rfl (by kernel_rfl) (by kernel_rfl) (by kernel_rfl) (λ_ _ _ h=>h) (Or.inl ⟨by rfl, ?ya0⟩) hHeld ?ra0
  case ya0=>(intro w hSw;(try dsimp only at hSw);go_simp;all_goals (with_reducible rfl))
  simp only[List.set_cons_succ,List.set_cons_zero];refine Nt.takeS (v:= ?va1) 1 39 rfl rfl (by kernel_rfl) (by kernel_rfl) (by kernel_rfl) (λ_ _ _ h=>h) (Or.inl ⟨by rfl, ?ya1⟩) hHeld ?ra1
  case ya1=>(intro w hSw;(try dsimp only at hSw);go_simp;all_goals (with_reducible rfl))
  simp only[List.set_cons_succ,List.set_cons_zero];refine Nt.takeS (v:= ?va2) 2 40 rfl rfl (by kernel_rfl) (by kernel_rfl) (by kernel_rfl) (λ_ _ _ h=>h) (Or.inl ⟨by rfl, ?ya2⟩) hHeld ?ra2
  case ya2=>(intro w hSw;(try dsimp only at hSw);go_simp;all_goals (with_reducible rfl))
  simp only[List.set_cons_succ,List.set_cons_zero];refine Nt.takeS (v:=.agg (Dd.row s0)) 3 41 rfl rfl (by kernel_rfl) (by kernel_rfl) (by kernel_rfl) (λ_ _ _ h=>h) (yieldsIf_load_mid (by rfl) 41 _ rfl p 0 rfl (Dd.ints s0) _ (λ_ hw=>hw.1) hu rfl js) hHeld ?_;simp only[List.set_cons_succ,List.set_cons_zero];refine Nt.takeS (v:=.agg ys) 5 43 rfl rfl (by kernel_rfl) (by kernel_rfl) (by kernel_rfl) (λ_ _ _ h=>h) (yieldsIf_load_mid (by rfl) 48 _ rfl q 0 rfl ys.toList _ (λ_ hw=>hw.2) hr rfl yil) hHeld ?_;simp only[List.set_cons_succ,List.set_cons_zero];refine wpAnyH_ready (rs:= [4]) (by kernel_rfl) (by simp) ?_;refine AllReadyH.cons rfl (λK hK=> ?_) AllReadyH.nil;go_simp
  go_at_call 15
  refine Calls.mono (CSA.out _) ?_;rintro e' WA ⟨rfl,hbA⟩;have HBA:Hid (Below W7.heap.size W7 WA):=HD8.out.trans (hbA.mono HD8.out.size);clear hbA
  go_wp2_with fail
  refine hK.out _ _ ?_ (λhT4=> ?_)
  ·exact HSS.out _ HBA.out
  clear hK K
  first|refine Nt.normS 42 rfl ?_|skip
  first|(simp only[List.set_cons_succ,List.set_cons_zero])|skip
  refine wpAnyH_ready (rs:= [6]) (by kernel_rfl) (by simp) ?_;refine AllReadyH.cons rfl (λK hK=> ?_) AllReadyH.nil;go_simp
  go_at_call 16
  refine Calls.mono (CST.out _ HBA.out) ?_;rintro e' WB ⟨rfl,hbB⟩;have HBB:Hid (Below W7.heap.size W7 WB):=HBA.out.trans (hbB.mono HBA.out.size);clear hbB
  go_wp2_with fail
  refine hK.out _ _ ?_ (λhT6=> ?_)
  ·exact HSS.out _ HBB.out
  clear hK K
  first|refine Nt.normS 44 rfl ?_|skip
  first|(simp only[List.set_cons_succ,List.set_cons_zero])|skip
  refine Nt.takeS (v:= ?vb7) 7 45 rfl rfl (by kernel_rfl) (by kernel_rfl) (by kernel_rfl) (λ_ _ _ h=>h) (Or.inl ⟨by rfl, ?yb7⟩) hT6 ?rb7
  case yb7=>(intro w hSw;(try dsimp only at hSw);go_simp;all_goals (with_reducible rfl))
  simp only[List.set_cons_succ,List.set_cons_zero];refine Nt.takeS (v:= ?vb8) 8 46 rfl rfl (by kernel_rfl) (by kernel_rfl) (by kernel_rfl) (λ_ _ _ h=>h) (Or.inl ⟨by rfl, ?yb8⟩) hT6 ?rb8
  case yb8=>(intro w hSw;(try dsimp only at hSw);go_simp;all_goals (with_reducible rfl))
  simp only[List.set_cons_succ,List.set_cons_zero];refine Nt.takeS (v:= ?vb9) 9 47 rfl rfl (by kernel_rfl) (by kernel_rfl) (by kernel_rfl) (λ_ _ _ h=>h) (Or.inl ⟨by rfl, ?yb9⟩) hT6 ?rb9
  case yb9=>(intro w hSw;(try dsimp only at hSw);go_simp;all_goals (with_reducible rfl))
  simp only[List.set_cons_succ,List.set_cons_zero];refine wpAnyH_ready (rs:= [10]) (by kernel_rfl) (by simp) ?_;refine AllReadyH.cons rfl (λK hK=> ?_) AllReadyH.nil;go_simp
  go_at_call 10
  refine Calls.mono (HS.out _ (HZ.out _ HBB.out).2.2.2.2.2) ?_;rintro e' WC ⟨rfl,hbC⟩;have HBC:Hid (Below W7.heap.size W7 WC):=HBB.out.trans (hbC.mono HBB.out.size);clear hbC
  go_wp2_with fail
  refine hK.out _ _ ?_ (λhT10=> ?_)
  ·exact HSS.out _ HBC.out
  clear hK K
  first|refine Nt.normS 48 rfl ?_|skip
  first|(simp only[List.set_cons_succ,List.set_cons_zero])|skip
  refine Nt.takeS (v:= ?vc11) 11 49 rfl rfl (by kernel_rfl) (by kernel_rfl) (by kernel_rfl) (λ_ _ _ h=>h) (Or.inl ⟨by rfl, ?yc11⟩) hT10 ?rc11
  case yc11=>(intro w hSw;(try dsimp only at hSw);go_simp;all_goals (with_reducible rfl))
  simp only[List.set_cons_succ,List.set_cons_zero];refine Nt.takeS (v:= ?vc12) 12 2 rfl rfl (by kernel_rfl) (by kernel_rfl) (by kernel_rfl) (λ_ _ _ h=>h) (Or.inl ⟨by rfl, ?yc12⟩) hT10 ?rc12
  case yc12=>(intro w hSw;(try dsimp only at hSw);go_simp;all_goals (with_reducible rfl))
  simp only[List.set_cons_succ,List.set_cons_zero];refine wpAnyH_done (by kernel_rfl) ?_ _
  go_wp2_with fail
  go_ret;exact⟨rfl,(HZ.out WC HBC.out).2.2.2.2.2⟩
end Go.Proofs.YtmomffminkflnaaGreatDoor.DeadStarts
