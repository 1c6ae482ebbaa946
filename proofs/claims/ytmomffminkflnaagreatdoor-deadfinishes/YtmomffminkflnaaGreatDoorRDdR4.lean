import Derived.Test.YtmomffminkflnaaGreatDoorRDdIdx
set_option maxRecDepth 100000
set_option maxHeartbeats 32000000
namespace Go.Proofs
open Go.RowKit Go.Shelf
theorem Dd.fate_of (ls kk:List (Int×Int))(s:List Int)(j:Nat)(K A:Int)(c0 c1 c2:Nat)(h:kk[j]? =some (K,A))(hc:Dd.countD ls s j ls.length=(c0,c1,c2))(L:Bool)
  (hL:L=if K=12/\A=2 then decide (c0=c2)else decide (0<c0)):
  Dd.fateD ls kk s j=if L=false then Dd.setL 2 (Dd.outsD ls j) (s.set (40+j) 3)else if K=12/\A≠3 then Dd.setL 1 (Dd.outsD ls j) (s.set (40+j) 2)else s.set (40+j) 1:=by
 have g:Dd.gateB kk j=decide (K=12):=by unfold Dd.gateB;rw[h];rfl
 have d:Dd.doesI kk j=A:=by unfold Dd.doesI;rw[h];rfl
 have e:Dd.livesD kk j (Dd.countD ls s j ls.length)=L:=by
  unfold Dd.livesD;rw[hc,hL]
  by_cases q:K=12/\A=2
  ·rw[if_pos (show Dd.gateB kk j=true/\Dd.doesI kk j=2 from⟨by rw[g];exact decide_eq_true q.1,d.trans q.2⟩),if_pos q]
  rw[if_neg (show¬(Dd.gateB kk j=true/\Dd.doesI kk j=2)from λh=>q ⟨of_decide_eq_true (g.symm.trans h.1),d.symm.trans h.2⟩),if_neg q]
 unfold Dd.fateD;rw[e]
 by_cases l:L=false
 ·rw[if_pos l,if_pos l,Dd.setL_left]
  unfold Dd.ended;rw[if_neg (by decide)]
 rw[if_neg l,if_neg l]
 by_cases q:K=12/\A≠3
 ·rw[if_pos (show Dd.Auto kk j from⟨by rw[g];exact decide_eq_true q.1,by rw[d];exact q.2⟩),if_pos q,Dd.setL_left]
  unfold Dd.ended;rw[if_pos rfl]
 rw[if_neg (show¬Dd.Auto kk j from λh=>q ⟨of_decide_eq_true (g.symm.trans h.1),λz=>h.2 (d.trans z)⟩),if_neg q]
theorem Dd.oneK_le {ls kk:List (Int×Int)}{s t:List Int}{a:Nat}(h:Dd.oneK ls kk s a=some t):∀b,a<=b->Dd.oneK ls kk s b=some t
 |0,hb=>by obtain rfl:a=0:=by omega
           exact h
 |b+1,hb=>by
  by_cases e:a=b+1
  ·rw[<-e];exact h
  rw[Dd.oneK,Dd.oneK_le h b (by omega)]
theorem Dd.own_from {w:World}{B n c:Nat}{a:Option Addr}{l:List Nat}(h:w.ownsRow B 3 1 (.slice a n c) l.length (Rk.nums l))(j:Nat)(hj:j<l.length):∃g off,a=some ⟨g,off,none⟩/\B<=g/\w.cell? ⟨g,off+j,none⟩=some (.int .i64 l[j]):=by
 rcases h with⟨hl,⟨_,hn⟩|⟨g,cap,cur,hv,hB,hg,h4,h5,h6,h7⟩⟩
 ·omega
 obtain⟨rfl,_,_⟩:=Value.slice.inj hv;refine⟨g,0,rfl,hB, ?_⟩;rw[Nat.zero_add];simp only[World.cell?,hg];have h8:(Rk.nums l)[j]? =some (.int .i64 l[j]):=by simp[Rk.nums,hj]
 rw[<-h7,List.getElem?_take]at h8
 split at h8
 ·rw[Array.getElem?_toList]at h8;exact h8
 simp at h8
theorem Tryz.r19one_any (x0 x1 x2 x3 x4 x5 x6 x7 x10 x11:Value)(ka la:Option Addr)(n kc m lc:Nat)(ls kk:List (Int×Int))(s:List Int)(w:World)(hL:Ac.Lks w w.heap.size la ls)(hm:ls.length=m)(h40:m<=40)
  (hK:Dd.Kid12 w w.heap.size ka kk) (hn:kk.length=n) (h64:n<=64) (hs:s.length=104):
  Calls Tryz.prog 44 #[.agg #[x0,x1,x2,x3,x4,x5,x6,x7,.slice ka n kc,.slice la m lc,x10,x11],.agg (Dd.row s)] w λe w'=>
   e=.returned (.tuple #[.agg (Dd.row ((Dd.oneK ls kk s n).getD s)),.bool (Dd.oneK ls kk s n).isSome])/\Below w.heap.size w w':=by
 obtain⟨O,hO⟩:=pE (Dd.oneK ls kk s n);rw[hO];obtain⟨w1,hw1⟩:=pE ((((w.alloc (.cells #[x0,x1,x2,x3,x4,x5,x6,x7,.slice ka n kc,.slice la m lc,x10,x11] 48)).alloc (.cells (Dd.row s) 53)).alloc (.cells Tryz.zeroCells53 53)));have F1:=Dd.RFr.new w #[x0,x1,x2,x3,x4,x5,x6,x7,.slice ka n kc,.slice la m lc,x10,x11] hs;rw[hw1]at F1
 have c8:w1.cell? ⟨w.heap.size,8,none⟩=some (.slice ka n kc):=by
  have h:=F1.bx;unfold Dd.RBx at h;simp[World.cell?,h]
 have H1:Hid _:=hw1;have HF:Hid (∀W,Below w1.heap.size w1 W->Dd.RFr w #[x0,x1,x2,x3,x4,x5,x6,x7,.slice ka n kc,.slice la m lc,x10,x11] s Dd.zeros W):=λW hb=>F1.below hb
 have HC:Hid (∀W (i:Int),Below w.heap.size w W->Calls Tryz.prog 54 #[.agg #[x0,x1,x2,x3,x4,x5,x6,x7,.slice ka n kc,.slice la m lc,x10,x11],.agg (Dd.row s),.int .i64 i] W λe w'=>
   e=.returned (.agg #[.int .i64 (Dd.countD ls s i m).1,.int .i64 (Dd.countD ls s i m).2.1,.int .i64 (Dd.countD ls s i m).2.2])/\Below W.heap.size W w'):=λW i hb=>
  Tryz.r19count_any x0 x1 x2 x3 x4 x5 x6 x7 (.slice ka n kc) x10 x11 la m lc ls s i W ((hL.keep hb.block).wider hb.size) hm h40 hs
 have HU:Hid (∀W (i:Int),Below w.heap.size w W->Calls Tryz.prog 30 #[.agg #[x0,x1,x2,x3,x4,x5,x6,x7,.slice ka n kc,.slice la m lc,x10,x11],.int .i64 i] W λe w'=>Nt.Gives (Dd.outsD ls i) W e w'):=λW i hb=>
  Tryz.r19Outs_any x0 x1 x2 x3 x4 x5 x6 x7 (.slice ka n kc) x10 x11 la m lc ls i W ((hL.keep hb.block).wider hb.size) hm (by omega)
 have HK:Hid (Dd.Kid12 w w.heap.size ka kk/\kk.length=n/\ls.length=m/\s.length=104/\Dd.oneK ls kk s n=O):=⟨hK,hn,hm,hs,hO⟩;have ha:=Tryz.underlying48;have hu:=Tryz.underlying53;have ia:(Tryz.prog.info? 48).map (·.size)=some (#[x0,x1,x2,x3,x4,x5,x6,x7,.slice ka n kc,.slice la m lc,x10,x11]:Array Value).size:=by show _=some 12;kernel_rfl
 have i12:(Tryz.prog.info? 48).map (·.size)=some 12:=by kernel_rfl
 have is:=Dd.rinfo_row hs;obtain⟨ka0,hka0⟩:=pE (ka);have HKA:Hid (ka=ka0):=hka0;clear hL hm hK hn hs hO hw1 F1 hka0
 go_enter Tryz.func44,Tryz.ntmps44
 go_upto_region 1 with fail
 rw[H1.out];go_wp2
 go_loopg [6,9,11,13,17] n (λgk _ _ _ _ s17 wr=>∃j:Nat,gk+j=n/\s17=.int .i64 j/\Hid (Dd.oneK ls kk s j=none/\Below w1.heap.size w1 wr))
 case atStart=>exact⟨0,by omega,rfl,rfl,Below.refl _ w1⟩
 case round=>
  obtain⟨j,hj,rfl,HJ⟩:=hrel;clear c8
  by_cases hlt:j<n
  rotate_left
  ·have hd:decide ((j:Int)<n)=false:=decide_eq_false (by omega)
   have HOT:Hid (O=none):=by
    obtain rfl:j=n:=by omega
    exact HK.out.2.2.2.2.symm.trans HJ.out.1
   have HE:Hid (Below w1.heap.size w1 wr/\Dd.RAt wr (w.heap.size+1) s):=⟨HJ.out.2,(HF.out wr HJ.out.2).st⟩;clear HJ;have NR:=(HF.out wr HE.out.1).rs.h;have NX:=HE.out.2.h;have HX:Hid (Below w.heap.size w wr):=(HF.out wr HE.out.1).bel;have it:=Dd.rinfo_row HE.out.2.len;have zt:(Dd.row Dd.zeros).size=(Dd.row s).size:=by rw[Dd.row_size,Dd.row_size,HE.out.2.len,Dd.zeros_length]
   have ot:=Dd.row_one s
   go_wp2_with (first
    |refine wpList_load_row rfl 53 _ rfl _ rfl 53 (Dd.row s) (0,0) _ NX hu rfl it ?_
    |refine wpList_store_row rfl 53 _ _ rfl (w.heap.size+1+1) (Dd.row s) rfl rfl 53 _ NR it zt ot ?_)
   refine bodyPost_ret (Dd.results2 Tryz.results44 _ _ (w.heap.size+1+1) (Dd.row s) rfl (run_loadVar_row _ (w.heap.size+1+1) 53 53 (Dd.row s) (0,0) _ (setRow_heap _ _ _ _ _ _ NR) hu rfl it)) rfl ⟨?_,Tk.below_row HX.out (by omega) _⟩;rw[HOT.out];rfl
  have hd:decide ((j:Int)<n)=true:=decide_eq_true (by omega);have hjl:j<kk.length:=by rw[HK.out.2.1];exact hlt
  obtain⟨g,off,xs,rfl,hg,x12,xone,y0,y2,ry⟩:=HK.out.1 j hjl;obtain⟨q,hq⟩:=pE (kk[j]);obtain⟨K,A⟩:=q;rw[hq]at y0 y2;have j0:(0:Int)<=j:=by omega
  have j1:(j:Int)<n:=by omega
  have j2:(j:Int)<64:=by omega
  have BW:Below w.heap.size w wr:=(HF.out wr HJ.out.2).bel;have ryr:wr.rangeAt g (off+j*12) xs.toList:=λi v hv=>by rw[BW.cell (p:=⟨g,off+j*12+i,none⟩) hg];exact ry i v hv
  have ix:(Tryz.prog.info? 48).map (·.size)=some xs.size:=by rw[x12];exact i12
  have ixl:(Tryz.prog.info? 48).map (·.size)=some xs.toList.length:=by rw[ix];simp
  have NZ:(wr.alloc (.cells #[.int .i64 0,.int .i64 0,.int .i64 0,.int .i64 0,.int .i64 0,.int .i64 0,.slice none 0 0,.slice none 0 0,.slice none 0 0,.slice none 0 0,.slice none 0 0,.slice none 0 0] 48)).heap[wr.heap.size]? =some (.cells #[.int .i64 0,.int .i64 0,.int .i64 0,.int .i64 0,.int .i64 0,.int .i64 0,.slice none 0 0,.slice none 0 0,.slice none 0 0,.slice none 0 0,.slice none 0 0,.slice none 0 0] 48 (0,0)):=heap_alloc_new wr _;have ez:(#[.int .i64 0,.int .i64 0,.int .i64 0,.int .i64 0,.int .i64 0,.int .i64 0,.slice none 0 0,.slice none 0 0,.slice none 0 0,.slice none 0 0,.slice none 0 0,.slice none 0 0]:Array Value).size=xs.size:=by rw[x12];rfl
  obtain⟨w2,hw2⟩:=pE ((wr.alloc (.cells #[.int .i64 0,.int .i64 0,.int .i64 0,.int .i64 0,.int .i64 0,.int .i64 0,.slice none 0 0,.slice none 0 0,.slice none 0 0,.slice none 0 0,.slice none 0 0,.slice none 0 0] 48)).setRow wr.heap.size xs);have N2:w2.heap[wr.heap.size]? =some (.cells xs 48 (0,0)):=by rw[<-hw2];exact setRow_heap _ _ _ _ _ _ NZ
  have B2:Below wr.heap.size wr w2:=by rw[<-hw2];exact Tk.below_row ((Below.refl _ wr).alloc (Nat.le_refl _) _) (Nat.le_refl _) _
  have HB2:Hid (Below w1.heap.size w1 w2):=HJ.out.2.trans (B2.mono HJ.out.2.size);have F2:=HF.out w2 HB2.out;have NA:=F2.bx;unfold Dd.RBx at NA;have NS:=F2.st.h;obtain⟨kb,hkb⟩:=pE (wr.heap.size);have HKB:Hid (wr.heap.size=kb):=hkb;have N2':w2.heap[kb]? =some (.cells xs 48 (0,0)):=by rw[<-hkb];exact N2
  have HN2:Hid (w2.heap[kb]? =some (.cells xs 48 (0,0))/\w1.heap.size<=kb):=⟨N2',by rw[<-hkb];exact HJ.out.2.size⟩;have HXS:Hid (xs[0]? =some (.int .i64 K)/\xs[2]? =some (.int .i64 A)/\kk[j]? =some (K,A)):=⟨y0,y2,by rw[List.getElem?_eq_getElem hjl,hq]⟩;obtain⟨c,hc⟩:=pE (Dd.countD ls s j m);obtain⟨c0,c1,c2⟩:=c;have hcb:=Dd.countD_le ls s j m;have CC0:=HC.out w2 j F2.bel;rw[hc]at hcb CC0;dsimp only at hcb CC0;have CC:Hid _:=CC0;have HCC:Hid (Dd.countD ls s j m=(c0,c1,c2)):=hc;obtain⟨v,hv⟩:=pE (s.getD (40+j) 0);have HV:Hid (s.getD (40+j) 0=v):=hv
  have HO1:Hid (Dd.oneK ls kk s (j+1)=if v≠0∨c0+c1<c2 then none else some (Dd.fateD ls kk s j)):=by
   show _=_;rw[Dd.oneK,HJ.out.1,HK.out.2.2.1,hc,hv]
  have HW2:Hid _:=hw2;clear hq y0 y2 BW ry hg hjl hw2 N2 N2' B2 F2 hkb hc CC0 hv HJ
  go_upto_region 4 with(first
   |refine wpList_load_mid rfl 48 _ rfl g (off+j*12) rfl xs.toList _ ryr ha rfl ixl ?_
   |refine wpList_store_row rfl 48 _ _ rfl wr.heap.size xs rfl rfl 48 _ NZ ix ez xone ?_)
  rw[HW2.out,HKB.out];clear ryr NZ HW2 HKB
  go_wp2_with (first
   |refine wpList_load_row rfl 48 _ rfl _ rfl 48 _ (0,0) _ NA ha rfl ia ?_
   |refine wpList_load_row rfl 53 _ rfl _ rfl 53 (Dd.row s) (0,0) _ NS hu rfl is ?_)
  refine Calls.mono CC.out ?_;rintro e W3 ⟨rfl,hb3⟩;obtain⟨w4,hw4⟩:=pE (W3.alloc (.cells #[.int .i64 c0,.int .i64 c1,.int .i64 c2] 101));have B4:=pB hw4
  have B24:Below w2.heap.size w2 w4:=hb3.trans (B4.mono hb3.size);have HB4:Hid (Below w1.heap.size w1 w4):=HB2.out.trans (B24.mono HB2.out.size);have N4:w4.heap[W3.heap.size]? =some (.cells #[.int .i64 c0,.int .i64 c1,.int .i64 c2] 101 (0,0)):=by rw[<-hw4];exact heap_alloc_new W3 _
  have d0:w4.cell? ⟨W3.heap.size,0,none⟩=some (.int .i64 c0):=by simp[World.cell?,N4]
  have d1:w4.cell? ⟨W3.heap.size,1,none⟩=some (.int .i64 c1):=by simp[World.cell?,N4]
  have d2:w4.cell? ⟨W3.heap.size,2,none⟩=some (.int .i64 c2):=by simp[World.cell?,N4]
  have N4k:w4.heap[kb]? =some (.cells xs 48 (0,0)):=(B24.block _ (Array.getElem?_eq_some_iff.1 HN2.out.1).1).trans HN2.out.1;have k0:w4.cell? ⟨kb,0,none⟩=some (.int .i64 K):=by simp[World.cell?,N4k,HXS.out.1]
  have k2:w4.cell? ⟨kb,2,none⟩=some (.int .i64 A):=by simp[World.cell?,N4k,HXS.out.2.1]
  have F4:=HF.out w4 HB4.out;have sv:w4.cell? ⟨w.heap.size+1,40+j,none⟩=some (.int .i64 v):=by have h:=F4.st.cell (40+j) (by omega);rw[HV.out]at h;exact h
  have NS4:=F4.st.h;have HN4:Hid (w4.heap[kb]? =some (.cells xs 48 (0,0))):=N4k;have HW4:Hid _:=hw4;clear hb3 B4 B24 N4 N4k F4 hw4 NA NS CC
  go_upto_region 5 with fail
  rw[HW4.out];clear HW4
  by_cases hv0:v=0
  rotate_left
  ·have ev:(v !=0)=true:=by simpa using hv0
   have HN:Hid (Dd.oneK ls kk s (j+1)=none):=by show _=_;rw[HO1.out,if_pos (.inl hv0)]
   clear hv0;go_wp2;go_roundg (gk-1)
   case measure=>omega
   case rel=>exact⟨j+1,by omega,by go_num,HN.out,HB4.out⟩
  have ev:(v !=0)=false:=by simp[hv0]
  by_cases hcl:c0+c1<c2
  ·have ec:decide ((c0:Int)+c1<c2)=true:=decide_eq_true (by omega)
   have HN:Hid (Dd.oneK ls kk s (j+1)=none):=by show _=_;rw[HO1.out,if_pos (.inr hcl)]
   clear hv0 hcl;go_wp2;go_roundg (gk-1)
   case measure=>omega
   case rel=>exact⟨j+1,by omega,by go_num,HN.out,HB4.out⟩
  have ec:decide ((c0:Int)+c1<c2)=false:=decide_eq_false (by omega)
  have HT:Hid (O=some (Dd.fateD ls kk s j)):=by
   have h:Dd.oneK ls kk s (j+1)=some (Dd.fateD ls kk s j):=by rw[HO1.out,if_neg (by rintro(z|z);exact z hv0;exact hcl z)]
   exact HK.out.2.2.2.2.symm.trans (Dd.oneK_le h n (by omega))
  clear hv0 hcl HO1
  go_upto_region 7 with fail
  go_cut [51]from 17 to 93 (λs51 wx=>∃b:Bool,s51=.bool b/\Hid (b=decide (K=12/\A=2))/\wx=w4)
  case first=>
   by_cases hK:K=12
   ·have eK:(K==12)=true:=by simp[hK]
    by_cases hA:A=2
    ·have eA:(A==2)=true:=by simp[hA]
     have HY:Hid (true=decide (K=12/\A=2)):=(decide_eq_true ⟨hK,hA⟩).symm;clear hK hA
     go_wp2_with fail
     go_meet;exact⟨true,rfl,HY.out,rfl⟩
    have eA:(A==2)=false:=by simpa using hA
    have HY:Hid (false=decide (K=12/\A=2)):=(decide_eq_false (λz=>hA z.2)).symm;clear hK hA
    go_wp2_with fail
    go_meet;exact⟨false,rfl,HY.out,rfl⟩
   have eK:(K==12)=false:=by simpa using hK
   have HY:Hid (false=decide (K=12/\A=2)):=(decide_eq_false (λz=>hK z.1)).symm;clear hK
   go_wp2_with fail
   go_meet;exact⟨false,rfl,HY.out,rfl⟩
  case rest=>
  rename World=>WB;obtain⟨b51,rfl,HB51,hwb⟩:=hcut;obtain rfl:=hwb
  go_upto_if 51 with fail
  go_cut [9]from 17 to 93 (λs9 wx=>∃L:Bool,s9=.bool L/\Hid (L=if K=12/\A=2 then decide (c0=c2)else decide (0<c0))/\wx=WB)
  case first=>
   cases b51 with
   |true=>
    have hKA:K=12/\A=2:=of_decide_eq_true HB51.out.symm
    by_cases hc:c0=c2
    ·have e1:((c0:Int)==c2)=true:=by simp[hc]
     have e1':(c0==c2)=true:=by simp[hc]
     have HY:Hid (true=if K=12/\A=2 then decide (c0=c2)else decide (0<c0)):=by show _=_;rw[if_pos hKA,decide_eq_true hc]
     clear hKA hc
     go_wp2_with fail
     go_meet;exact⟨true,rfl,HY.out,rfl⟩
    have e1:((c0:Int)==c2)=false:=by rw[beq_eq_false_iff_ne];omega
    have e1':(c0==c2)=false:=by simpa using hc
    have HY:Hid (false=if K=12/\A=2 then decide (c0=c2)else decide (0<c0)):=by show _=_;rw[if_pos hKA,decide_eq_false hc]
    clear hKA hc
    go_wp2_with fail
    go_meet;exact⟨false,rfl,HY.out,rfl⟩
   |false=>
    have hKA:¬(K=12/\A=2):=of_decide_eq_false HB51.out.symm;have HY:Hid (decide (0<c0)=if K=12/\A=2 then decide (c0=c2)else decide (0<c0)):=by show _=_;rw[if_neg hKA]
    clear hKA
    go_wp2_with fail
    go_meet;exact⟨decide (0<c0),rfl,HY.out,rfl⟩
  case rest=>
   rename World=>WC;obtain⟨L,rfl,HLV,hwc⟩:=hcut;obtain rfl:=hwc;obtain⟨T,hTT⟩:=pE (Dd.fateD ls kk s j)
   have HTF:Hid (O=some T/\T=if L=false then Dd.setL 2 (Dd.outsD ls j) (s.set (40+j) 3)else if K=12/\A≠3 then Dd.setL 1 (Dd.outsD ls j) (s.set (40+j) 2)else s.set (40+j) 1):=by
    have h:=HT.out;rw[hTT]at h;exact⟨h,hTT.symm.trans (Dd.fate_of ls kk s j K A c0 c1 c2 HXS.out.2.2 (by rw[HK.out.2.2.1];exact HCC.out) L HLV.out)⟩
   have NZ5:(WC.alloc (.cells Tryz.zeroCells53 53)).heap[WC.heap.size]? =some (.cells Tryz.zeroCells53 53 (0,0)):=heap_alloc_new WC _;obtain⟨W5,hW5⟩:=pE ((WC.alloc (.cells Tryz.zeroCells53 53)).setRow WC.heap.size (Dd.row s));have A5:Dd.RAt W5 WC.heap.size s:=by rw[<-hW5];exact⟨setRow_heap _ _ _ _ _ _ NZ5,HK.out.2.2.2.1⟩
   have B5:Below WC.heap.size WC W5:=by rw[<-hW5];exact Tk.below_row ((Below.refl _ WC).alloc (Nat.le_refl _) _) (Nat.le_refl _) _
   have zs:(Tryz.zeroCells53).size=(Dd.row s).size:=by rw[Dd.rzero_row,Dd.row_size,Dd.row_size,HK.out.2.2.2.1,Dd.zeros_length]
   have os:=Dd.row_one s;obtain⟨xb,hxb⟩:=pE (WC.heap.size);have HXB:Hid (WC.heap.size=xb):=hxb;have HB5:Hid (Below w1.heap.size w1 W5/\Dd.RAt W5 xb s/\w1.heap.size<=xb):=⟨HB4.out.trans (B5.mono HB4.out.size),by rw[<-hxb];exact A5,by rw[<-hxb];exact HB4.out.size⟩;have N5k:=(B5.block _ (Array.getElem?_eq_some_iff.1 HN4.out).1).trans HN4.out;have l0:W5.cell? ⟨kb,0,none⟩=some (.int .i64 K):=by simp[World.cell?,N5k,HXS.out.1]
   have l2:W5.cell? ⟨kb,2,none⟩=some (.int .i64 A):=by simp[World.cell?,N5k,HXS.out.2.1]
   have HW5:Hid _:=hW5;clear hTT A5 B5 hxb hW5 HT HLV k0 k2 d0 d1 d2 sv N5k HB51
   go_upto_region 10 with(first
    |refine wpList_load_row rfl 53 _ rfl _ rfl 53 (Dd.row s) (0,0) _ NS4 hu rfl is ?_
    |refine wpList_store_row rfl 53 _ _ rfl WC.heap.size (Dd.row s) rfl rfl 53 _ NZ5 is zs os ?_)
   rw[HW5.out,HXB.out];clear NZ5 NS4 HW5 HXB zs os;have f5:=HB5.out.2.1.frozen (40+j);have s5:=HB5.out.2.1.cell (40+j) (by omega)
   go_upto_region 11 with fail
   go_cut [59]from 17 to 93 (λs59 wx=>∃b:Bool,s59=.bool b/\Hid (b= !L)/\wx=W5)
   case first=>
    cases L with
    |false=>
     have HY:Hid (true= !false):=rfl
     go_wp2_with fail
     go_meet;exact⟨true,rfl,HY.out,rfl⟩
    |true=>
     have HY:Hid (false= !true):=rfl
     go_wp2_with fail
     go_meet;exact⟨false,rfl,HY.out,rfl⟩
   case rest=>
   rename World=>WD;obtain⟨b59,rfl,HB59,hwd⟩:=hcut;obtain rfl:=hwd
   go_upto_if 59 with fail
   go_cut [11]from 17 to 93 (λs11 wx=>∃(what:Int) (t:List Int),s11=.int .i64 what/\Hid ((what=0/\T=t∨what≠0/\T=Dd.setL what (Dd.outsD ls j) t)/\Below w1.heap.size w1 wx/\Dd.RAt wx xb t))
   case first=>
    cases L with
    |false=>
     obtain rfl:b59=true:=HB59.out;have HN:=HB5.out.1.setCell (p:=⟨xb,40+j,none⟩) HB5.out.2.2 (.int .i64 3);have HA:=HB5.out.2.1.put (40+j) 3;have HY:Hid (((2:Int)=0/\T=s.set (40+j) 3∨(2:Int)≠0/\T=Dd.setL 2 (Dd.outsD ls j) (s.set (40+j) 3))/\Below w1.heap.size w1 (WD.setCell ⟨xb,40+j,none⟩ (.int .i64 3))/\Dd.RAt (WD.setCell ⟨xb,40+j,none⟩ (.int .i64 3)) xb (s.set (40+j) 3)):=⟨.inr ⟨by decide,by rw[HTF.out.2,if_pos rfl]⟩,HN,HA⟩;clear HN HA
     go_wp2_with fail
     go_meet;exact⟨2,s.set (40+j) 3,rfl,HY.out⟩
    |true=>
     obtain rfl:b59=false:=HB59.out
     by_cases hK:K=12
     ·have eK:(K==12)=true:=by simp[hK]
      by_cases hA:A=3
      ·have eA:(A !=3)=false:=by simp[hA]
       have HN:=HB5.out.1.setCell (p:=⟨xb,40+j,none⟩) HB5.out.2.2 (.int .i64 1);have HA:=HB5.out.2.1.put (40+j) 1;have HY:Hid (T=s.set (40+j) 1/\Below w1.heap.size w1 (WD.setCell ⟨xb,40+j,none⟩ (.int .i64 1))/\Dd.RAt (WD.setCell ⟨xb,40+j,none⟩ (.int .i64 1)) xb (s.set (40+j) 1)):=⟨by rw[HTF.out.2,if_neg (by decide),if_neg (λz=>z.2 hA)],HN,HA⟩;clear HN HA hK hA
       go_wp2_with fail
       go_meet;exact⟨0,s.set (40+j) 1,rfl,.inl ⟨rfl,HY.out.1⟩,HY.out.2⟩
      have eA:(A !=3)=true:=by simpa using hA
      have HN:=HB5.out.1.setCell (p:=⟨xb,40+j,none⟩) HB5.out.2.2 (.int .i64 2);have HA:=HB5.out.2.1.put (40+j) 2;have HY:Hid (((1:Int)=0/\T=s.set (40+j) 2∨(1:Int)≠0/\T=Dd.setL 1 (Dd.outsD ls j) (s.set (40+j) 2))/\Below w1.heap.size w1 (WD.setCell ⟨xb,40+j,none⟩ (.int .i64 2))/\Dd.RAt (WD.setCell ⟨xb,40+j,none⟩ (.int .i64 2)) xb (s.set (40+j) 2)):=⟨.inr ⟨by decide,by rw[HTF.out.2,if_neg (by decide),if_pos ⟨hK,hA⟩]⟩,HN,HA⟩;clear HN HA hK hA
      go_wp2_with fail
      go_meet;exact⟨1,s.set (40+j) 2,rfl,HY.out⟩
     have eK:(K==12)=false:=by simpa using hK
     have HN:=HB5.out.1.setCell (p:=⟨xb,40+j,none⟩) HB5.out.2.2 (.int .i64 1);have HA:=HB5.out.2.1.put (40+j) 1;have HY:Hid (T=s.set (40+j) 1/\Below w1.heap.size w1 (WD.setCell ⟨xb,40+j,none⟩ (.int .i64 1))/\Dd.RAt (WD.setCell ⟨xb,40+j,none⟩ (.int .i64 1)) xb (s.set (40+j) 1)):=⟨by rw[HTF.out.2,if_neg (by decide),if_neg (λz=>hK z.1)],HN,HA⟩;clear HN HA hK
     go_wp2_with fail
     go_meet;exact⟨0,s.set (40+j) 1,rfl,.inl ⟨rfl,HY.out.1⟩,HY.out.2⟩
   case rest=>
    rename World=>WE;obtain⟨what,t,rfl,HE0⟩:=hcut;clear f5 s5 l0 l2
    by_cases hw0:what=0
    ·have ew:(what !=0)=false:=by simp[hw0]
     have HOT:Hid (O=some t):=by
      show _=_;rw[HTF.out.1]
      rcases HE0.out.1 with h|h
      ·rw[h.2]
      exact absurd hw0 h.1
     have HE:Hid (Below w1.heap.size w1 WE/\Dd.RAt WE xb t):=HE0.out.2;clear hw0 HE0;have NR:=(HF.out WE HE.out.1).rs.h;have NX:=HE.out.2.h;have HX:Hid (Below w.heap.size w WE):=(HF.out WE HE.out.1).bel;have it:=Dd.rinfo_row HE.out.2.len;have zt:(Dd.row Dd.zeros).size=(Dd.row t).size:=by rw[Dd.row_size,Dd.row_size,HE.out.2.len,Dd.zeros_length]
     have ot:=Dd.row_one t
     go_wp2_with (first
      |refine wpList_load_row rfl 53 _ rfl _ rfl 53 (Dd.row t) (0,0) _ NX hu rfl it ?_
      |refine wpList_store_row rfl 53 _ _ rfl (w.heap.size+1+1) (Dd.row t) rfl rfl 53 _ NR it zt ot ?_)
     refine bodyPost_ret (Dd.results2 Tryz.results44 _ _ (w.heap.size+1+1) (Dd.row t) rfl (run_loadVar_row _ (w.heap.size+1+1) 53 53 (Dd.row t) (0,0) _ (setRow_heap _ _ _ _ _ _ NR) hu rfl it)) rfl ⟨?_,Tk.below_row HX.out (by omega) _⟩;rw[HOT.out];rfl
    have ew:(what !=0)=true:=by simpa using hw0
    have HTS:T=Dd.setL what (Dd.outsD ls j) t:=by
     rcases HE0.out.1 with h|h
     ·exact absurd h.1 hw0
     exact h.2
    have FE:=HF.out WE HE0.out.2.1;have NAE:=FE.bx;unfold Dd.RBx at NAE;have CU0:=HU.out WE j FE.bel;obtain⟨Lo,hLo⟩:=pE (Dd.outsD ls j);obtain⟨r,hr⟩:=pE (Lo.length);rw[hLo]at CU0 HTS;have CU:Hid _:=CU0
    have HLo:Hid (Lo.length=r/\T=Dd.setL what Lo t/\∀i (h:i<Lo.length),Lo[i]<40):=⟨hr,HTS,λi h=>by
     have:=Dd.outs_lt (ls:=ls) (kid:=j) (by rw[hLo];exact List.getElem_mem h);have h2:=HK.out.2.2.1
     omega⟩
    have HXE:Hid (Below w1.heap.size w1 WE/\Dd.RAt WE xb t/\w1.heap.size<=xb):=⟨HE0.out.2.1,HE0.out.2.2,HB5.out.2.2⟩
    have hr40:r<=40:=by
     have h:=List.length_filter_le (λi=>decide (((ls[i]?).map Prod.fst)=some (j:Int))) (List.range ls.length);have h2:=HK.out.2.2.1;rw[List.length_range]at h;have h3:(Dd.outsD ls j).length=r:=by rw[hLo];exact hr
     unfold Dd.outsD at h3;omega
    clear hw0 HE0 FE CU0 hLo hr HTS
    go_wp2_with (refine wpList_load_row rfl 48 _ rfl _ rfl 48 _ (0,0) _ NAE ha rfl ia ?_)
    refine Calls.mono CU.out ?_;rintro e7 WF ⟨v7,rfl,how7,hb7⟩;rw[HLo.out.1]at how7;obtain⟨ra,rc,rfl⟩:=Rk.own_shape how7;have HOW:Hid (WF.ownsRow WE.heap.size 3 1 (.slice ra r rc) Lo.length (Rk.nums Lo)):=by show World.ownsRow _ _ _ _ _ _ _;rw[HLo.out.1];exact how7
    have HWF:Hid (Below w1.heap.size w1 WF/\Dd.RAt WF xb t):=⟨HXE.out.1.trans (hb7.mono HXE.out.1.size),HXE.out.2.1.below hb7 HXE.out.2.1.lt⟩;clear how7 hb7 NAE CU;go_wp2
    go_loopg [13,83] r (λgk _ s83 wr=>∃q:Nat,gk+q=r/\s83=.int .i64 q/\Hid (Below w1.heap.size w1 wr/\Dd.RAt wr xb (Dd.setL what (Lo.take q) t)/\∀b,b≠xb->wr.heap[b]? =WF.heap[b]?))
    case atStart=>exact⟨0,by omega,rfl,HWF.out.1,HWF.out.2,λ_ _=>rfl⟩
    case round=>
     obtain⟨q,hq,rfl,HQ⟩:=hrel
     by_cases hql:q<r
     ·have hd2:decide ((q:Int)<r)=true:=decide_eq_true (by omega)
      have hqL:q<Lo.length:=by rw[HLo.out.1];exact hql
      obtain⟨g7,off7,rfl,hg7,z7⟩:=Dd.own_from HOW.out q hqL;obtain⟨k,hk⟩:=pE (Lo[q]);have hk40:k<40:=by rw[<-hk];exact HLo.out.2.2 q hqL
      rw[hk]at z7;have hne:g7≠xb:=by have:=HXE.out.2.1.lt;omega
      have z8:wr.cell? ⟨g7,off7+q,none⟩=some (.int .i64 k):=by rw[World.cell?_of_block (w:=WF) (HQ.out.2.2 g7 hne)];exact z7
      have q0:(0:Int)<=q:=by omega
      have q1:(q:Int)<r:=by omega
      have k0:(0:Int)<=k:=by omega
      have k1:(k:Int)<40:=by omega
      have f8:=HQ.out.2.1.frozen k;have s8:=HQ.out.2.1.cell k (by omega)
      have HN:Hid (Below w1.heap.size w1 (wr.setCell ⟨xb,k,none⟩ (.int .i64 what))/\Dd.RAt (wr.setCell ⟨xb,k,none⟩ (.int .i64 what)) xb (Dd.setL what (Lo.take (q+1)) t)/\∀b,b≠xb->(wr.setCell ⟨xb,k,none⟩ (.int .i64 what)).heap[b]? =WF.heap[b]?):=by
       refine⟨HQ.out.1.setCell (p:=⟨xb,k,none⟩) HXE.out.2.2 _, ?_,λb hb=>(Below.heap_setCell _ _ _ _ hb).trans (HQ.out.2.2 b hb)⟩;have h:=HQ.out.2.1.put k what;rw[List.take_add_one,List.getElem?_eq_getElem hqL,hk];show Dd.RAt _ xb (Dd.setL what (Lo.take q++ [k]) t);rw[Dd.setL_snoc];exact h
      clear z7 hg7 hk hqL hne;go_wp2;go_roundg (gk-1)
      case measure=>omega
      case rel=>exact⟨q+1,by omega,by go_num,HN.out⟩
     have hd2:decide ((q:Int)<r)=false:=decide_eq_false (by omega);have HOT:Hid (O=some T):=HTF.out.1
     have HE:Hid (Below w1.heap.size w1 wr/\Dd.RAt wr xb T):=⟨HQ.out.1,by
      have h:=HQ.out.2.1;rw[List.take_of_length_le (by have:=HLo.out.1;omega)]at h;rw[HLo.out.2.1]
      exact h⟩
     clear HQ;have NR:=(HF.out wr HE.out.1).rs.h;have NX:=HE.out.2.h;have HX:Hid (Below w.heap.size w wr):=(HF.out wr HE.out.1).bel;have it:=Dd.rinfo_row HE.out.2.len;have zt:(Dd.row Dd.zeros).size=(Dd.row T).size:=by rw[Dd.row_size,Dd.row_size,HE.out.2.len,Dd.zeros_length]
     have ot:=Dd.row_one T
     go_wp2_with (first
      |refine wpList_load_row rfl 53 _ rfl _ rfl 53 (Dd.row T) (0,0) _ NX hu rfl it ?_
      |refine wpList_store_row rfl 53 _ _ rfl (w.heap.size+1+1) (Dd.row T) rfl rfl 53 _ NR it zt ot ?_)
     refine bodyPost_ret (Dd.results2 Tryz.results44 _ _ (w.heap.size+1+1) (Dd.row T) rfl (run_loadVar_row _ (w.heap.size+1+1) 53 53 (Dd.row T) (0,0) _ (setRow_heap _ _ _ _ _ _ NR) hu rfl it)) rfl ⟨?_,Tk.below_row HX.out (by omega) _⟩;rw[HOT.out];rfl
end Go.Proofs
