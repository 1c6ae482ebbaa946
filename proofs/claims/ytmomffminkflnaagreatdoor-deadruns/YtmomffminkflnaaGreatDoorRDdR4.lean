import Derived.Test.YtmomffminkflnaaGreatDoorRDdLarge
set_option maxRecDepth 100000
set_option maxHeartbeats 32000000
namespace Go.Proofs
open Go.RowKit Go.Shelf
theorem Dd.fate_of(ls kk:List(Int×Int))(s:List Int)(j:Nat)(K A:Int)(c0 c1 c2:Nat)(h:kk[j]? =some(K,A))(hc:Dd.countD ls s j ls.length=(c0,c1,c2))(L:Bool)
  (hL:L=if K=12/\A=2 then decide(c0=c2)else decide(0<c0)):
  Dd.fateD ls kk s j=if L=false then Dd.setL 2(Dd.outsD ls j)(s.set(40+j)3)else if K=12/\A≠3 then Dd.setL 1(Dd.outsD ls j)(s.set(40+j)2)else s.set(40+j)1:=by
 have g:Dd.gateB kk j=decide(K=12):=by unfold Dd.gateB;rw [h];rfl
 have d:Dd.doesI kk j=A:=by unfold Dd.doesI;rw [h];rfl
 have e:Dd.livesD kk j(Dd.countD ls s j ls.length)=L:=by
  unfold Dd.livesD;rw [hc,hL]
  by_cases q:K=12/\A=2
  ·rw [if_pos(show Dd.gateB kk j=true/\Dd.doesI kk j=2 from⟨by rw [g];exact decide_eq_true q.1,d.trans q.2⟩),if_pos q]
  rw [if_neg(show¬(Dd.gateB kk j=true/\Dd.doesI kk j=2)from λh=>q⟨of_decide_eq_true(g.symm.trans h.1),d.symm.trans h.2⟩),if_neg q]
 unfold Dd.fateD;rw [e]
 by_cases l:L=false
 ·rw [if_pos l,if_pos l,Dd.setL_left]
  unfold Dd.ended;rw [if_neg(by decide)]
 rw [if_neg l,if_neg l]
 by_cases q:K=12/\A≠3
 ·rw [if_pos(show Dd.Auto kk j from⟨by rw [g];exact decide_eq_true q.1,by rw [d];exact q.2⟩),if_pos q,Dd.setL_left]
  unfold Dd.ended;rw [if_pos rfl]
 rw [if_neg(show¬Dd.Auto kk j from λh=>q⟨of_decide_eq_true(g.symm.trans h.1),λz=>h.2(d.trans z)⟩),if_neg q]
theorem Dd.oneK_le {ls kk:List(Int×Int)} {s t:List Int} {a:Nat} (h:Dd.oneK ls kk s a=some t): ∀b,a<=b->Dd.oneK ls kk s b=some t
 |0,hb=>by obtain rfl:a=0:=by omega
           exact h
 |b+1,hb=>by
  by_cases e:a=b+1
  ·rw [<-e];exact h
  rw [Dd.oneK,Dd.oneK_le h b(by omega)]
theorem Dd.own_from {w:World} {B n c:Nat} {a:Option Addr} {l:List Nat} (h:w.ownsRow B 3 1(.slice a n c)l.length(Rk.nums l))(j:Nat)(hj:j<l.length): ∃g off,a=some⟨g,off,none⟩/\B<=g/\w.cell? ⟨g,off+j,none⟩=some(.int .i64 l[j]):=by
 rcases h with⟨hl,⟨_,hn⟩|⟨g,cap,cur,hv,hB,hg,h4,h5,h6,h7⟩⟩
 ·omega
 obtain⟨rfl,_,_⟩:=Value.slice.inj hv;refine⟨g,0,rfl,hB, ?_⟩;rw [Nat.zero_add];simp only [World.cell?,hg];have h8:(Rk.nums l)[j]? =some(.int .i64 l[j]):=by simp [Rk.nums,hj]
 rw [<-h7,List.getElem?_take]at h8
 split at h8
 ·rw [Array.getElem?_toList]at h8;exact h8
 simp at h8
theorem Tryz.r19one_any(x0 x1 x2 x3 x4 x5 x6 x7 x10 x11:Value)(ka la:Option Addr)(n kc m lc:Nat)(ls kk:List(Int×Int))(s:List Int)(w:World)(hL:Ac.Lks w w.heap.size la ls)(hm:ls.length=m)(h40:m<=40)
  (hK:Dd.Kid12 w w.heap.size ka kk)(hn:kk.length=n)(h64:n<=64)(hs:s.length=104):
  Calls Tryz.prog 44 #[.agg #[x0,x1,x2,x3,x4,x5,x6,x7, .slice ka n kc, .slice la m lc,x10,x11], .agg(Dd.row s)]w λe w'=>
   e= .returned(.tuple #[.agg(Dd.row((Dd.oneK ls kk s n).getD s)), .bool(Dd.oneK ls kk s n).isSome])/\Below w.heap.size w w':=by
 obtain⟨O,hO⟩: ∃O,Dd.oneK ls kk s n=O:=⟨_,rfl⟩;rw [hO];obtain⟨w1,hw1⟩: ∃z,(((w.alloc(.cells #[x0,x1,x2,x3,x4,x5,x6,x7, .slice ka n kc, .slice la m lc,x10,x11]48)).alloc(.cells(Dd.row s)53)).alloc(.cells Tryz.zeroCells53 53))=z:=⟨_,rfl⟩;have F1:=Dd.RFr.new w #[x0,x1,x2,x3,x4,x5,x6,x7, .slice ka n kc, .slice la m lc,x10,x11]hs;rw [hw1]at F1
 have c8:w1.cell? ⟨w.heap.size,8,none⟩=some(.slice ka n kc):=by
  have h:=F1.bx;unfold Dd.RBx at h;simp [World.cell?,h]
 have H1:Hid _:=hw1;have HF:Hid(∀W,Below w1.heap.size w1 W->Dd.RFr w #[x0,x1,x2,x3,x4,x5,x6,x7, .slice ka n kc, .slice la m lc,x10,x11]s Dd.zeros W):=λW hb=>F1.below hb
 have HC:Hid(∀W(i:Int),Below w.heap.size w W->Calls Tryz.prog 54 #[.agg #[x0,x1,x2,x3,x4,x5,x6,x7, .slice ka n kc, .slice la m lc,x10,x11], .agg(Dd.row s), .int .i64 i]W λe w'=>
   e= .returned(.agg #[.int .i64(Dd.countD ls s i m).1, .int .i64(Dd.countD ls s i m).2.1, .int .i64(Dd.countD ls s i m).2.2])/\Below W.heap.size W w'):=λW i hb=>
  Tryz.r19count_any x0 x1 x2 x3 x4 x5 x6 x7(.slice ka n kc)x10 x11 la m lc ls s i W((hL.keep hb.block).wider hb.size)hm h40 hs
 have HU:Hid(∀W(i:Int),Below w.heap.size w W->Calls Tryz.prog 30 #[.agg #[x0,x1,x2,x3,x4,x5,x6,x7, .slice ka n kc, .slice la m lc,x10,x11], .int .i64 i]W λe w'=>Nt.Gives(Dd.outsD ls i)W e w'):=λW i hb=>
  Tryz.r19Outs_any x0 x1 x2 x3 x4 x5 x6 x7(.slice ka n kc)x10 x11 la m lc ls i W((hL.keep hb.block).wider hb.size)hm(by omega)
 have HK:Hid(Dd.Kid12 w w.heap.size ka kk/\kk.length=n/\ls.length=m/\s.length=104/\Dd.oneK ls kk s n=O):=⟨hK,hn,hm,hs,hO⟩;have ha:=Tryz.underlying48;have hu:=Tryz.underlying53;have ia:(Tryz.prog.info? 48).map(·.size)=some(#[x0,x1,x2,x3,x4,x5,x6,x7, .slice ka n kc, .slice la m lc,x10,x11]:Array Value).size:=by show _=some 12;kernel_rfl
 have i12:(Tryz.prog.info? 48).map(·.size)=some 12:=by kernel_rfl
 have is:=Dd.rinfo_row hs;obtain⟨ka0,hka0⟩: ∃z,ka=z:=⟨_,rfl⟩;have HKA:Hid(ka=ka0):=hka0;clear hL hm hK hn hs hO hw1 F1 hka0
 go_enter Tryz.func44,Tryz.ntmps44
 go_upto_region 1 with fail
 rw [H1.out];go_wp2
 go_loopg [6,9,11,13,17]n(λgk _ _ _ _ s17 wr=> ∃j:Nat,gk+j=n/\s17= .int .i64 j/\Hid(Dd.oneK ls kk s j=none/\Below w1.heap.size w1 wr))
 case atStart=>exact⟨0,by omega,rfl,rfl,Below.refl _ w1⟩
 case round=>
  obtain⟨j,hj,rfl,HJ⟩:=hrel;clear c8
  by_cases hlt:j<n
  rotate_left
  ·have hd:decide((j:Int)<n)=false:=decide_eq_false(by omega)
   have HOT:Hid(O=none):=by
    obtain rfl:j=n:=by omega
    exact HK.out.2.2.2.2.symm.trans HJ.out.1
   have HE:Hid(Below w1.heap.size w1 wr/\Dd.RAt wr(w.heap.size+1)s):=⟨HJ.out.2,(HF.out wr HJ.out.2).st⟩;clear HJ;have NR:=(HF.out wr HE.out.1).rs.h;have NX:=HE.out.2.h;have HX:Hid(Below w.heap.size w wr):=(HF.out wr HE.out.1).bel;have it:=Dd.rinfo_row HE.out.2.len;have zt:(Dd.row Dd.zeros).size=(Dd.row s).size:=by rw [Dd.row_size,Dd.row_size,HE.out.2.len,Dd.zeros_length]
   have ot:=Dd.row_one s
   go_wp2_with(first
    |refine wpList_load_row rfl 53 _ rfl _ rfl 53(Dd.row s)(0,0)_ NX hu rfl it ?_
    |refine wpList_store_row rfl 53 _ _ rfl(w.heap.size+1+1)(Dd.row s)rfl rfl 53 _ NR it zt ot ?_)
   refine bodyPost_ret(Dd.results2 Tryz.results44 _ _(w.heap.size+1+1)(Dd.row s)rfl(run_loadVar_row _(w.heap.size+1+1)53 53(Dd.row s)(0,0)_(setRow_heap _ _ _ _ _ _ NR)hu rfl it))rfl⟨?_,Tk.below_row HX.out(by omega)_⟩;rw [HOT.out];rfl
  have hd:decide((j:Int)<n)=true:=decide_eq_true(by omega);have hjl:j<kk.length:=by rw [HK.out.2.1];exact hlt
  obtain⟨g,off,xs,rfl,hg,x12,xone,y0,y2,ry⟩:=HK.out.1 j hjl;obtain⟨q,hq⟩: ∃q,kk[j]=q:=⟨_,rfl⟩;obtain⟨K,A⟩:=q;rw [hq]at y0 y2;have j0:(0:Int)<=j:=by omega
  have j1:(j:Int)<n:=by omega
  have j2:(j:Int)<64:=by omega
  have BW:Below w.heap.size w wr:=(HF.out wr HJ.out.2).bel;have ryr:wr.rangeAt g(off+j*12)xs.toList:=λi v hv=>by rw [BW.cell(p:=⟨g,off+j*12+i,none⟩)hg];exact ry i v hv
  have ix:(Tryz.prog.info? 48).map(·.size)=some xs.size:=by rw [x12];exact i12
  have ixl:(Tryz.prog.info? 48).map(·.size)=some xs.toList.length:=by rw [ix];simp
  have NZ:(wr.alloc(.cells #[.int .i64 0, .int .i64 0, .int .i64 0, .int .i64 0, .int .i64 0, .int .i64 0, .slice none 0 0, .slice none 0 0, .slice none 0 0, .slice none 0 0, .slice none 0 0, .slice none 0 0]48)).heap[wr.heap.size]? =some(.cells #[.int .i64 0, .int .i64 0, .int .i64 0, .int .i64 0, .int .i64 0, .int .i64 0, .slice none 0 0, .slice none 0 0, .slice none 0 0, .slice none 0 0, .slice none 0 0, .slice none 0 0]48(0,0)):=heap_alloc_new wr _;have ez:(#[.int .i64 0, .int .i64 0, .int .i64 0, .int .i64 0, .int .i64 0, .int .i64 0, .slice none 0 0, .slice none 0 0, .slice none 0 0, .slice none 0 0, .slice none 0 0, .slice none 0 0]:Array Value).size=xs.size:=by rw [x12];rfl
  obtain⟨w2,hw2⟩: ∃z,(wr.alloc(.cells #[.int .i64 0, .int .i64 0, .int .i64 0, .int .i64 0, .int .i64 0, .int .i64 0, .slice none 0 0, .slice none 0 0, .slice none 0 0, .slice none 0 0, .slice none 0 0, .slice none 0 0]48)).setRow wr.heap.size xs=z:=⟨_,rfl⟩;have N2:w2.heap[wr.heap.size]? =some(.cells xs 48(0,0)):=by rw [<-hw2];exact setRow_heap _ _ _ _ _ _ NZ
  have B2:Below wr.heap.size wr w2:=by rw [<-hw2];exact Tk.below_row((Below.refl _ wr).alloc(Nat.le_refl _)_)(Nat.le_refl _)_
  have HB2:Hid(Below w1.heap.size w1 w2):=HJ.out.2.trans(B2.mono HJ.out.2.size);have F2:=HF.out w2 HB2.out;have NA:=F2.bx;unfold Dd.RBx at NA;have NS:=F2.st.h;obtain⟨kb,hkb⟩: ∃z,wr.heap.size=z:=⟨_,rfl⟩;have HKB:Hid(wr.heap.size=kb):=hkb;have N2':w2.heap[kb]? =some(.cells xs 48(0,0)):=by rw [<-hkb];exact N2
  have HN2:Hid(w2.heap[kb]? =some(.cells xs 48(0,0))/\w1.heap.size<=kb):=⟨N2',by rw [<-hkb];exact HJ.out.2.size⟩;have HXS:Hid(xs[0]? =some(.int .i64 K)/\xs[2]? =some(.int .i64 A)/\kk[j]? =some(K,A)):=⟨y0,y2,by rw [List.getElem?_eq_getElem hjl,hq]⟩;obtain⟨c,hc⟩: ∃c,Dd.countD ls s j m=c:=⟨_,rfl⟩;obtain⟨c0,c1,c2⟩:=c;have hcb:=Dd.countD_le ls s j m;have CC0:=HC.out w2 j F2.bel;rw [hc]at hcb CC0;dsimp only at hcb CC0;have CC:Hid _:=CC0;have HCC:Hid(Dd.countD ls s j m=(c0,c1,c2)):=hc;obtain⟨v,hv⟩: ∃v,s.getD(40+j)0=v:=⟨_,rfl⟩;have HV:Hid(s.getD(40+j)0=v):=hv
  have HO1:Hid(Dd.oneK ls kk s(j+1)=if v≠0∨c0+c1<c2 then none else some(Dd.fateD ls kk s j)):=by
   show _=_;rw [Dd.oneK,HJ.out.1,HK.out.2.2.1,hc,hv]
  have HW2:Hid _:=hw2;clear hq y0 y2 BW ry hg hjl hw2 N2 N2' B2 F2 hkb hc CC0 hv HJ
  go_upto_region 4 with(first
   |refine wpList_load_mid rfl 48 _ rfl g(off+j*12)rfl xs.toList _ ryr ha rfl ixl ?_
   |refine wpList_store_row rfl 48 _ _ rfl wr.heap.size xs rfl rfl 48 _ NZ ix ez xone ?_)
  rw [HW2.out,HKB.out];clear ryr NZ HW2 HKB
  go_wp2_with(first
   |refine wpList_load_row rfl 48 _ rfl _ rfl 48 _(0,0)_ NA ha rfl ia ?_
   |refine wpList_load_row rfl 53 _ rfl _ rfl 53(Dd.row s)(0,0)_ NS hu rfl is ?_)
  refine Calls.mono CC.out ?_;rintro e W3⟨rfl,hb3⟩;obtain⟨w4,hw4⟩: ∃z,W3.alloc(.cells #[.int .i64 c0, .int .i64 c1, .int .i64 c2]101)=z:=⟨_,rfl⟩;have B4:Below W3.heap.size W3 w4:=by rw [<-hw4];exact(Below.refl _ W3).alloc(Nat.le_refl _)_
  have B24:Below w2.heap.size w2 w4:=hb3.trans(B4.mono hb3.size);have HB4:Hid(Below w1.heap.size w1 w4):=HB2.out.trans(B24.mono HB2.out.size);have N4:w4.heap[W3.heap.size]? =some(.cells #[.int .i64 c0, .int .i64 c1, .int .i64 c2]101(0,0)):=by rw [<-hw4];exact heap_alloc_new W3 _
  have d0:w4.cell? ⟨W3.heap.size,0,none⟩=some(.int .i64 c0):=by simp [World.cell?,N4]
  have d1:w4.cell? ⟨W3.heap.size,1,none⟩=some(.int .i64 c1):=by simp [World.cell?,N4]
  have d2:w4.cell? ⟨W3.heap.size,2,none⟩=some(.int .i64 c2):=by simp [World.cell?,N4]
  have N4k:w4.heap[kb]? =some(.cells xs 48(0,0)):=(B24.block _(Array.getElem?_eq_some_iff.1 HN2.out.1).1).trans HN2.out.1;have k0:w4.cell? ⟨kb,0,none⟩=some(.int .i64 K):=by simp [World.cell?,N4k,HXS.out.1]
  have k2:w4.cell? ⟨kb,2,none⟩=some(.int .i64 A):=by simp [World.cell?,N4k,HXS.out.2.1]
  have F4:=HF.out w4 HB4.out;have sv:w4.cell? ⟨w.heap.size+1,40+j,none⟩=some(.int .i64 v):=by have h:=F4.st.cell(40+j)(by omega);rw [HV.out]at h;exact h
  have NS4:=F4.st.h;have HN4:Hid(w4.heap[kb]? =some(.cells xs 48(0,0))):=N4k;have HW4:Hid _:=hw4;clear hb3 B4 B24 N4 N4k F4 hw4 NA NS CC
  go_upto_region 5 with fail
  rw [HW4.out];clear HW4
  by_cases hv0:v=0
  rotate_left
  ·have ev:(v !=0)=true:=by simpa using hv0
   have HN:Hid(Dd.oneK ls kk s(j+1)=none):=by show _=_;rw [HO1.out,if_pos(.inl hv0)]
   clear hv0;go_wp2;go_roundg(gk-1)
   case measure=>omega
   case rel=>exact⟨j+1,by omega,by go_num,HN.out,HB4.out⟩
  have ev:(v !=0)=false:=by simp [hv0]
  by_cases hcl:c0+c1<c2
  ·have ec:decide((c0:Int)+c1<c2)=true:=decide_eq_true(by omega)
   have HN:Hid(Dd.oneK ls kk s(j+1)=none):=by show _=_;rw [HO1.out,if_pos(.inr hcl)]
   clear hv0 hcl;go_wp2;go_roundg(gk-1)
   case measure=>omega
   case rel=>exact⟨j+1,by omega,by go_num,HN.out,HB4.out⟩
  have ec:decide((c0:Int)+c1<c2)=false:=decide_eq_false(by omega)
  have HT:Hid(O=some(Dd.fateD ls kk s j)):=by
   have h:Dd.oneK ls kk s(j+1)=some(Dd.fateD ls kk s j):=by rw [HO1.out,if_neg(by rintro(z|z);exact z hv0;exact hcl z)]
   exact HK.out.2.2.2.2.symm.trans(Dd.oneK_le h n(by omega))
  clear hv0 hcl HO1
  go_upto_region 7 with fail
  go_cut [51]from 17 to 93(λs51 wx=> ∃b:Bool,s51= .bool b/\Hid(b=decide(K=12/\A=2))/\wx=w4)
  case first=>
   by_cases hK:K=12
   ·have eK:(K==12)=true:=by simp [hK]
    by_cases hA:A=2
    ·have eA:(A==2)=true:=by simp [hA]
     have HY:Hid(true=decide(K=12/\A=2)):=(decide_eq_true⟨hK,hA⟩).symm;clear hK hA
     go_wp2_with fail
     go_meet;exact⟨true,rfl,HY.out,rfl⟩
    have eA:(A==2)=false:=by simpa using hA
    have HY:Hid(false=decide(K=12/\A=2)):=(decide_eq_false(λz=>hA z.2)).symm;clear hK hA
    go_wp2_with fail
    go_meet;exact⟨false,rfl,HY.out,rfl⟩
   have eK:(K==12)=false:=by simpa using hK
   have HY:Hid(false=decide(K=12/\A=2)):=(decide_eq_false(λz=>hK z.1)).symm;clear hK
   go_wp2_with fail
   go_meet;exact⟨false,rfl,HY.out,rfl⟩
  case rest=>
  rename World=>WB;obtain⟨b51,rfl,HB51,hwb⟩:=hcut;obtain rfl:=hwb
  go_upto_if 51 with fail
  go_cut [9]from 17 to 93(λs9 wx=> ∃L:Bool,s9= .bool L/\Hid(L=if K=12/\A=2 then decide(c0=c2)else decide(0<c0))/\wx=WB)
  case first=>
   cases b51 with
   |true=>
    have hKA:K=12/\A=2:=of_decide_eq_true HB51.out.symm
    by_cases hc:c0=c2
    ·have e1:((c0:Int)==c2)=true:=by simp [hc]
     have e1':(c0==c2)=true:=by simp [hc]
     have HY:Hid(true=if K=12/\A=2 then decide(c0=c2)else decide(0<c0)):=by show _=_;rw [if_pos hKA,decide_eq_true hc]
     clear hKA hc
     go_wp2_with fail
     go_meet;exact⟨true,rfl,HY.out,rfl⟩
    have e1:((c0:Int)==c2)=false:=by rw [beq_eq_false_iff_ne];omega
    have e1':(c0==c2)=false:=by simpa using hc
    have HY:Hid(false=if K=12/\A=2 then decide(c0=c2)else decide(0<c0)):=by show _=_;rw [if_pos hKA,decide_eq_false hc]
    clear hKA hc
    go_wp2_with fail
    go_meet;exact⟨false,rfl,HY.out,rfl⟩
   |false=>
    have hKA: ¬(K=12/\A=2):=of_decide_eq_false HB51.out.symm;have HY:Hid(decide(0<c0)=if K=12/\A=2 then decide(c0=c2)else decide(0<c0)):=by show _=_;rw [if_neg hKA]
    clear hKA
    go_wp2_with fail
    go_meet;exact⟨decide(0<c0),rfl,HY.out,rfl⟩
  case rest=>
   rename World=>WC;obtain⟨L,rfl,HLV,hwc⟩:=hcut;obtain rfl:=hwc;obtain⟨T,hTT⟩: ∃T,Dd.fateD ls kk s j=T:=⟨_,rfl⟩
   have HTF:Hid(O=some T/\T=if L=false then Dd.setL 2(Dd.outsD ls j)(s.set(40+j)3)else if K=12/\A≠3 then Dd.setL 1(Dd.outsD ls j)(s.set(40+j)2)else s.set(40+j)1):=by
    have h:=HT.out;rw [hTT]at h;exact⟨h,hTT.symm.trans(Dd.fate_of ls kk s j K A c0 c1 c2 HXS.out.2.2(by rw [HK.out.2.2.1];exact HCC.out)L HLV.out)⟩
   have NZ5:(WC.alloc(.cells Tryz.zeroCells53 53)).heap[WC.heap.size]? =some(.cells Tryz.zeroCells53 53(0,0)):=heap_alloc_new WC _;obtain⟨W5,hW5⟩: ∃z,(WC.alloc(.cells Tryz.zeroCells53 53)).setRow WC.heap.size(Dd.row s)=z:=⟨_,rfl⟩;have A5:Dd.RAt W5 WC.heap.size s:=by rw [<-hW5];exact⟨setRow_heap _ _ _ _ _ _ NZ5,HK.out.2.2.2.1⟩
   have B5:Below WC.heap.size WC W5:=by rw [<-hW5];exact Tk.below_row((Below.refl _ WC).alloc(Nat.le_refl _)_)(Nat.le_refl _)_
   have zs:(Tryz.zeroCells53).size=(Dd.row s).size:=by rw [Dd.rzero_row,Dd.row_size,Dd.row_size,HK.out.2.2.2.1,Dd.zeros_length]
   have os:=Dd.row_one s;obtain⟨xb,hxb⟩: ∃z,WC.heap.size=z:=⟨_,rfl⟩;have HXB:Hid(WC.heap.size=xb):=hxb;have HB5:Hid(Below w1.heap.size w1 W5/\Dd.RAt W5 xb s/\w1.heap.size<=xb):=⟨HB4.out.trans(B5.mono HB4.out.size),by rw [<-hxb];exact A5,by rw [<-hxb];exact HB4.out.size⟩;have N5k:=(B5.block _(Array.getElem?_eq_some_iff.1 HN4.out).1).trans HN4.out;have l0:W5.cell? ⟨kb,0,none⟩=some(.int .i64 K):=by simp [World.cell?,N5k,HXS.out.1]
   have l2:W5.cell? ⟨kb,2,none⟩=some(.int .i64 A):=by simp [World.cell?,N5k,HXS.out.2.1]
   have HW5:Hid _:=hW5;clear hTT A5 B5 hxb hW5 HT HLV k0 k2 d0 d1 d2 sv N5k HB51
   go_upto_region 10 with(first
    |refine wpList_load_row rfl 53 _ rfl _ rfl 53(Dd.row s)(0,0)_ NS4 hu rfl is ?_
    |refine wpList_store_row rfl 53 _ _ rfl WC.heap.size(Dd.row s)rfl rfl 53 _ NZ5 is zs os ?_)
   rw [HW5.out,HXB.out];clear NZ5 NS4 HW5 HXB zs os;have f5:=HB5.out.2.1.frozen(40+j);have s5:=HB5.out.2.1.cell(40+j)(by omega)
   go_upto_region 11 with fail
   go_cut [59]from 17 to 93(λs59 wx=> ∃b:Bool,s59= .bool b/\Hid(b= !L)/\wx=W5)
   case first=>
    cases L with
    |false=>
     have HY:Hid(true= !false):=rfl
     go_wp2_with fail
     go_meet;exact⟨true,rfl,HY.out,rfl⟩
    |true=>
     have HY:Hid(false= !true):=rfl
     go_wp2_with fail
     go_meet;exact⟨false,rfl,HY.out,rfl⟩
   case rest=>
   rename World=>WD;obtain⟨b59,rfl,HB59,hwd⟩:=hcut;obtain rfl:=hwd
   go_upto_if 59 with fail
   go_cut [11]from 17 to 93(λs11 wx=> ∃(what:Int)(t:List Int),s11= .int .i64 what/\Hid((what=0/\T=t∨what≠0/\T=Dd.setL what(Dd.outsD ls j)t)/\Below w1.heap.size w1 wx/\Dd.RAt wx xb t))
   case first=>
    cases L with
    |false=>
     obtain rfl:b59=true:=HB59.out;have HN:=HB5.out.1.setCell(p:=⟨xb,40+j,none⟩)HB5.out.2.2(.int .i64 3);have HA:=HB5.out.2.1.put(40+j)3;have HY:Hid(((2:Int)=0/\T=s.set(40+j)3∨(2:Int)≠0/\T=Dd.setL 2(Dd.outsD ls j)(s.set(40+j)3))/\Below w1.heap.size w1(WD.setCell⟨xb,40+j,none⟩(.int .i64 3))/\Dd.RAt(WD.setCell⟨xb,40+j,none⟩(.int .i64 3))xb(s.set(40+j)3)):=⟨.inr⟨by decide,by rw [HTF.out.2,if_pos rfl]⟩,HN,HA⟩;clear HN HA
     go_wp2_with fail
     go_meet;exact⟨2,s.set(40+j)3,rfl,HY.out⟩
    |true=>
     obtain rfl:b59=false:=HB59.out
     by_cases hK:K=12
     ·have eK:(K==12)=true:=by simp [hK]
      by_cases hA:A=3
      ·have eA:(A !=3)=false:=by simp [hA]
       have HN:=HB5.out.1.setCell(p:=⟨xb,40+j,none⟩)HB5.out.2.2(.int .i64 1);have HA:=HB5.out.2.1.put(40+j)1;have HY:Hid(T=s.set(40+j)1/\Below w1.heap.size w1(WD.setCell⟨xb,40+j,none⟩(.int .i64 1))/\Dd.RAt(WD.setCell⟨xb,40+j,none⟩(.int .i64 1))xb(s.set(40+j)1)):=⟨by rw [HTF.out.2,if_neg(by decide),if_neg(λz=>z.2 hA)],HN,HA⟩;clear HN HA hK hA
       go_wp2_with fail
       go_meet;exact⟨0,s.set(40+j)1,rfl, .inl⟨rfl,HY.out.1⟩,HY.out.2⟩
      have eA:(A !=3)=true:=by simpa using hA
      have HN:=HB5.out.1.setCell(p:=⟨xb,40+j,none⟩)HB5.out.2.2(.int .i64 2);have HA:=HB5.out.2.1.put(40+j)2;have HY:Hid(((1:Int)=0/\T=s.set(40+j)2∨(1:Int)≠0/\T=Dd.setL 1(Dd.outsD ls j)(s.set(40+j)2))/\Below w1.heap.size w1(WD.setCell⟨xb,40+j,none⟩(.int .i64 2))/\Dd.RAt(WD.setCell⟨xb,40+j,none⟩(.int .i64 2))xb(s.set(40+j)2)):=⟨.inr⟨by decide,by rw [HTF.out.2,if_neg(by decide),if_pos⟨hK,hA⟩]⟩,HN,HA⟩;clear HN HA hK hA
      go_wp2_with fail
      go_meet;exact⟨1,s.set(40+j)2,rfl,HY.out⟩
     have eK:(K==12)=false:=by simpa using hK
     have HN:=HB5.out.1.setCell(p:=⟨xb,40+j,none⟩)HB5.out.2.2(.int .i64 1);have HA:=HB5.out.2.1.put(40+j)1;have HY:Hid(T=s.set(40+j)1/\Below w1.heap.size w1(WD.setCell⟨xb,40+j,none⟩(.int .i64 1))/\Dd.RAt(WD.setCell⟨xb,40+j,none⟩(.int .i64 1))xb(s.set(40+j)1)):=⟨by rw [HTF.out.2,if_neg(by decide),if_neg(λz=>hK z.1)],HN,HA⟩;clear HN HA hK
     go_wp2_with fail
     go_meet;exact⟨0,s.set(40+j)1,rfl, .inl⟨rfl,HY.out.1⟩,HY.out.2⟩
   case rest=>
    rename World=>WE;obtain⟨what,t,rfl,HE0⟩:=hcut;clear f5 s5 l0 l2
    by_cases hw0:what=0
    ·have ew:(what !=0)=false:=by simp [hw0]
     have HOT:Hid(O=some t):=by
      show _=_;rw [HTF.out.1]
      rcases HE0.out.1 with h|h
      ·rw [h.2]
      exact absurd hw0 h.1
     have HE:Hid(Below w1.heap.size w1 WE/\Dd.RAt WE xb t):=HE0.out.2;clear hw0 HE0;have NR:=(HF.out WE HE.out.1).rs.h;have NX:=HE.out.2.h;have HX:Hid(Below w.heap.size w WE):=(HF.out WE HE.out.1).bel;have it:=Dd.rinfo_row HE.out.2.len;have zt:(Dd.row Dd.zeros).size=(Dd.row t).size:=by rw [Dd.row_size,Dd.row_size,HE.out.2.len,Dd.zeros_length]
     have ot:=Dd.row_one t
     go_wp2_with(first
      |refine wpList_load_row rfl 53 _ rfl _ rfl 53(Dd.row t)(0,0)_ NX hu rfl it ?_
      |refine wpList_store_row rfl 53 _ _ rfl(w.heap.size+1+1)(Dd.row t)rfl rfl 53 _ NR it zt ot ?_)
     refine bodyPost_ret(Dd.results2 Tryz.results44 _ _(w.heap.size+1+1)(Dd.row t)rfl(run_loadVar_row _(w.heap.size+1+1)53 53(Dd.row t)(0,0)_(setRow_heap _ _ _ _ _ _ NR)hu rfl it))rfl⟨?_,Tk.below_row HX.out(by omega)_⟩;rw [HOT.out];rfl
    have ew:(what !=0)=true:=by simpa using hw0
    have HTS:T=Dd.setL what(Dd.outsD ls j)t:=by
     rcases HE0.out.1 with h|h
     ·exact absurd h.1 hw0
     exact h.2
    have FE:=HF.out WE HE0.out.2.1;have NAE:=FE.bx;unfold Dd.RBx at NAE;have CU0:=HU.out WE j FE.bel;obtain⟨Lo,hLo⟩: ∃z,Dd.outsD ls j=z:=⟨_,rfl⟩;obtain⟨r,hr⟩: ∃r,Lo.length=r:=⟨_,rfl⟩;rw [hLo]at CU0 HTS;have CU:Hid _:=CU0
    have HLo:Hid(Lo.length=r/\T=Dd.setL what Lo t/\ ∀i(h:i<Lo.length),Lo[i]<40):=⟨hr,HTS,λi h=>by
     have:=Dd.outs_lt(ls:=ls)(kid:=j)(by rw [hLo];exact List.getElem_mem h);have h2:=HK.out.2.2.1
     omega⟩
    have HXE:Hid(Below w1.heap.size w1 WE/\Dd.RAt WE xb t/\w1.heap.size<=xb):=⟨HE0.out.2.1,HE0.out.2.2,HB5.out.2.2⟩
    have hr40:r<=40:=by
     have h:=List.length_filter_le(λi=>decide(((ls[i]?).map Prod.fst)=some(j:Int)))(List.range ls.length);have h2:=HK.out.2.2.1;rw [List.length_range]at h;have h3:(Dd.outsD ls j).length=r:=by rw [hLo];exact hr
     unfold Dd.outsD at h3;omega
    clear hw0 HE0 FE CU0 hLo hr HTS
    go_wp2_with(refine wpList_load_row rfl 48 _ rfl _ rfl 48 _(0,0)_ NAE ha rfl ia ?_)
    refine Calls.mono CU.out ?_;rintro e7 WF⟨v7,rfl,how7,hb7⟩;rw [HLo.out.1]at how7;obtain⟨ra,rc,rfl⟩:=Rk.own_shape how7;have HOW:Hid(WF.ownsRow WE.heap.size 3 1(.slice ra r rc)Lo.length(Rk.nums Lo)):=by show World.ownsRow _ _ _ _ _ _ _;rw [HLo.out.1];exact how7
    have HWF:Hid(Below w1.heap.size w1 WF/\Dd.RAt WF xb t):=⟨HXE.out.1.trans(hb7.mono HXE.out.1.size),HXE.out.2.1.below hb7 HXE.out.2.1.lt⟩;clear how7 hb7 NAE CU;go_wp2
    go_loopg [13,83]r(λgk _ s83 wr=> ∃q:Nat,gk+q=r/\s83= .int .i64 q/\Hid(Below w1.heap.size w1 wr/\Dd.RAt wr xb(Dd.setL what(Lo.take q)t)/\ ∀b,b≠xb->wr.heap[b]? =WF.heap[b]?))
    case atStart=>exact⟨0,by omega,rfl,HWF.out.1,HWF.out.2,λ_ _=>rfl⟩
    case round=>
     obtain⟨q,hq,rfl,HQ⟩:=hrel
     by_cases hql:q<r
     ·have hd2:decide((q:Int)<r)=true:=decide_eq_true(by omega)
      have hqL:q<Lo.length:=by rw [HLo.out.1];exact hql
      obtain⟨g7,off7,rfl,hg7,z7⟩:=Dd.own_from HOW.out q hqL;obtain⟨k,hk⟩: ∃k,Lo[q]=k:=⟨_,rfl⟩;have hk40:k<40:=by rw [<-hk];exact HLo.out.2.2 q hqL
      rw [hk]at z7;have hne:g7≠xb:=by have:=HXE.out.2.1.lt;omega
      have z8:wr.cell? ⟨g7,off7+q,none⟩=some(.int .i64 k):=by rw [World.cell?_of_block(w:=WF)(HQ.out.2.2 g7 hne)];exact z7
      have q0:(0:Int)<=q:=by omega
      have q1:(q:Int)<r:=by omega
      have k0:(0:Int)<=k:=by omega
      have k1:(k:Int)<40:=by omega
      have f8:=HQ.out.2.1.frozen k;have s8:=HQ.out.2.1.cell k(by omega)
      have HN:Hid(Below w1.heap.size w1(wr.setCell⟨xb,k,none⟩(.int .i64 what))/\Dd.RAt(wr.setCell⟨xb,k,none⟩(.int .i64 what))xb(Dd.setL what(Lo.take(q+1))t)/\ ∀b,b≠xb->(wr.setCell⟨xb,k,none⟩(.int .i64 what)).heap[b]? =WF.heap[b]?):=by
       refine⟨HQ.out.1.setCell(p:=⟨xb,k,none⟩)HXE.out.2.2 _, ?_,λb hb=>(Below.heap_setCell _ _ _ _ hb).trans(HQ.out.2.2 b hb)⟩;have h:=HQ.out.2.1.put k what;rw [List.take_add_one,List.getElem?_eq_getElem hqL,hk];show Dd.RAt _ xb(Dd.setL what(Lo.take q++ [k])t);rw [Dd.setL_snoc];exact h
      clear z7 hg7 hk hqL hne;go_wp2;go_roundg(gk-1)
      case measure=>omega
      case rel=>exact⟨q+1,by omega,by go_num,HN.out⟩
     have hd2:decide((q:Int)<r)=false:=decide_eq_false(by omega);have HOT:Hid(O=some T):=HTF.out.1
     have HE:Hid(Below w1.heap.size w1 wr/\Dd.RAt wr xb T):=⟨HQ.out.1,by
      have h:=HQ.out.2.1;rw [List.take_of_length_le(by have:=HLo.out.1;omega)]at h;rw [HLo.out.2.1]
      exact h⟩
     clear HQ;have NR:=(HF.out wr HE.out.1).rs.h;have NX:=HE.out.2.h;have HX:Hid(Below w.heap.size w wr):=(HF.out wr HE.out.1).bel;have it:=Dd.rinfo_row HE.out.2.len;have zt:(Dd.row Dd.zeros).size=(Dd.row T).size:=by rw [Dd.row_size,Dd.row_size,HE.out.2.len,Dd.zeros_length]
     have ot:=Dd.row_one T
     go_wp2_with(first
      |refine wpList_load_row rfl 53 _ rfl _ rfl 53(Dd.row T)(0,0)_ NX hu rfl it ?_
      |refine wpList_store_row rfl 53 _ _ rfl(w.heap.size+1+1)(Dd.row T)rfl rfl 53 _ NR it zt ot ?_)
     refine bodyPost_ret(Dd.results2 Tryz.results44 _ _(w.heap.size+1+1)(Dd.row T)rfl(run_loadVar_row _(w.heap.size+1+1)53 53(Dd.row T)(0,0)_(setRow_heap _ _ _ _ _ _ NR)hu rfl it))rfl⟨?_,Tk.below_row HX.out(by omega)_⟩;rw [HOT.out];rfl
theorem Ac.Lies.kid12 {w:World} {B e d n cap:Nat} {V:Ac.Vs} {a:Option Addr} {T:Ac} (h:Ac.Lies w B e(d+1)V T)(hv:V.k= .slice a n cap)(j:Nat)(hj:j<T.ks.length):
  ∃g off U,a=some⟨g,off,none⟩/\g<B/\w.rangeAt g(off+j*12)(Ac.row T.ks[j]U).toList/\Ac.Lies w B e d U T.ks[j]:=by
 obtain⟨g,off,U,ha,hg,hr,hl⟩:=h.kid hv j hj;refine⟨g,off,U,ha,hg,λi v hi=> ?_,hl⟩;rw [Array.getElem?_toList]at hi;obtain⟨h1,h2⟩:=Array.getElem?_eq_some_iff.1 hi;rw [<-h2];exact hr i h1
theorem Ak.rinfo:(Tryz.prog.info? 48).map(·.size)=some 12:=by kernel_rfl
structure Ak.Kd(w wr:World)(e d:Nat)(a:Option Addr)(j g off:Nat)(U:Ac.Vs)(xs:Array Value)(w2:World)(x:Ac):Prop where
 at_:a=some⟨g,off,none⟩
 row:Ac.row x U=xs
 load:wr.rangeAt g(off+j*12)xs.toList
 one:xs.all(·.oneCell')=true
 is:(Tryz.prog.info? 48).map(·.size)=some xs.size
 il:(Tryz.prog.info? 48).map(·.size)=some xs.toList.length
 zero:(wr.alloc(.cells #[.int .i64 0, .int .i64 0, .int .i64 0, .int .i64 0, .int .i64 0, .int .i64 0, .slice none 0 0, .slice none 0 0, .slice none 0 0, .slice none 0 0, .slice none 0 0, .slice none 0 0]48)).heap[wr.heap.size]? =some(.cells #[.int .i64 0, .int .i64 0, .int .i64 0, .int .i64 0, .int .i64 0, .int .i64 0, .slice none 0 0, .slice none 0 0, .slice none 0 0, .slice none 0 0, .slice none 0 0, .slice none 0 0]48(0,0))
 ez:(#[.int .i64 0, .int .i64 0, .int .i64 0, .int .i64 0, .int .i64 0, .int .i64 0, .slice none 0 0, .slice none 0 0, .slice none 0 0, .slice none 0 0, .slice none 0 0, .slice none 0 0]:Array Value).size=xs.size
 eq:(wr.alloc(.cells #[.int .i64 0, .int .i64 0, .int .i64 0, .int .i64 0, .int .i64 0, .int .i64 0, .slice none 0 0, .slice none 0 0, .slice none 0 0, .slice none 0 0, .slice none 0 0, .slice none 0 0]48)).setRow wr.heap.size xs=w2
 box:w2.heap[wr.heap.size]? =some(.cells xs 48(0,0))
 bel:Below wr.heap.size wr w2
 all:Below w.heap.size w w2
 lies:Ac.Lies w2 w2.heap.size e d U x
theorem Ak.kid_at {w wr:World} {e d n cap:Nat} {V:Ac.Vs} {a:Option Addr} {T:Ac} (h:Ac.Lies w w.heap.size e(d+1)V T)(hv:V.k= .slice a n cap)(hb:Below w.heap.size w wr)(j:Nat)(hj:j<T.ks.length):
  ∃g off U xs w2,Ak.Kd w wr e d a j g off U xs w2 T.ks[j]:=by
 obtain⟨g,off,U,ha,hg,ry,hl⟩:=h.kid12 hv j hj;have NZ:(wr.alloc(.cells #[.int .i64 0, .int .i64 0, .int .i64 0, .int .i64 0, .int .i64 0, .int .i64 0, .slice none 0 0, .slice none 0 0, .slice none 0 0, .slice none 0 0, .slice none 0 0, .slice none 0 0]48)).heap[wr.heap.size]? =some(.cells #[.int .i64 0, .int .i64 0, .int .i64 0, .int .i64 0, .int .i64 0, .int .i64 0, .slice none 0 0, .slice none 0 0, .slice none 0 0, .slice none 0 0, .slice none 0 0, .slice none 0 0]48(0,0)):=heap_alloc_new wr _;have B2:Below wr.heap.size wr((wr.alloc(.cells #[.int .i64 0, .int .i64 0, .int .i64 0, .int .i64 0, .int .i64 0, .int .i64 0, .slice none 0 0, .slice none 0 0, .slice none 0 0, .slice none 0 0, .slice none 0 0, .slice none 0 0]48)).setRow wr.heap.size(Ac.row T.ks[j]U)):=Tk.below_row((Below.refl _ wr).alloc(Nat.le_refl _)_)(Nat.le_refl _)_;have B3:=hb.trans(B2.mono hb.size);exact⟨g,off,U,Ac.row T.ks[j]U,_,ha,rfl,λi v hi=>by rw [hb.cell(p:=⟨g,off+j*12+i,none⟩)hg];exact ry i v hi,hl.ones,Ak.rinfo,Ak.rinfo,NZ,rfl,rfl,setRow_heap _ _ _ _ _ _ NZ,B2,B3,(hl.below B3).wider B3.size⟩
theorem Ac.row_kids {T:Ac} {V:Ac.Vs} {a:Option Addr} {n cap:Nat} (h:V.k= .slice a n cap): ∃x0 x1 x2 x3 x4 x5 x6 x7 x9 x10 x11,Ac.row T V= #[x0,x1,x2,x3,x4,x5,x6,x7, .slice a n cap,x9,x10,x11]:=⟨_,_,_,_,_,_,_,_,_,_,_,by unfold Ac.row;rw [h]⟩
theorem Tryz.r16Size_any: ∀(d e:Nat)(T:Ac)(V:Ac.Vs)(w:World),Ac.Lies w w.heap.size e d V T->T.size<=2147483647->
  Calls Tryz.prog 40 #[.agg(Ac.row T V)]w λe w'=>e= .returned(.int .i64 T.size)/\Below w.heap.size w w':=by
 intro d
 induction d with
 |zero=>intro e T V w h;exact h.elim
 |succ d ih=>
  intro e T V w hT hsz;obtain⟨a,cap,hvk⟩:=hT.kids;obtain⟨n,hn⟩: ∃n,T.ks.length=n:=⟨_,rfl⟩;rw [hn]at hvk;have hnb:n<=2147483647:=by have h1:=Ac.length_le_sizes T.ks;have h2:=T.size_eq;omega
  obtain⟨x0,x1,x2,x3,x4,x5,x6,x7,x9,x10,x11,hrow⟩:=Ac.row_kids(T:=T)hvk;obtain⟨ts,hts⟩: ∃k,T.size=k:=⟨_,rfl⟩;rw [hrow,hts];obtain⟨w1,hw1⟩: ∃z,w.alloc(.cells #[x0,x1,x2,x3,x4,x5,x6,x7, .slice a n cap,x9,x10,x11]48)=z:=⟨_,rfl⟩;have B1:Below w.heap.size w w1:=by rw [<-hw1];exact(Below.refl _ w).alloc(Nat.le_refl _)_
  have N1:w1.heap[w.heap.size]? =some(.cells #[x0,x1,x2,x3,x4,x5,x6,x7, .slice a n cap,x9,x10,x11]48(0,0)):=by rw [<-hw1];exact heap_alloc_new w _
  have c8:w1.cell? ⟨w.heap.size,8,none⟩=some(.slice a n cap):=by simp [World.cell?,N1]
  have H1:Hid _:=hw1;have HB:Hid(Below w.heap.size w w1):=B1;have HT:Hid(Ac.Lies w w.heap.size e(d+1)V T/\V.k= .slice a n cap):=⟨hT,hvk⟩;have HI:Hid _:=ih;have HM:Hid(T.ks.length=n/\T.size<=2147483647/\T.size=ts):=⟨hn,hsz,hts⟩;have ha:=Tryz.underlying48;clear ih hT hsz hvk hn hrow hts hw1 B1 N1
  go_enter Tryz.func40,Tryz.ntmps40
  go_upto_region 1 with fail
  rw [H1.out];go_wp2
  go_loopg [3,9]n(λgk s i wr=> ∃j c:Nat,gk+j=n/\i= .int .i64 j/\s= .int .i64 c/\c<=2147483647/\Hid(Below w1.heap.size w1 wr/\c=1+Ac.sizes(T.ks.take j)))
  case atStart=>exact⟨0,1,by omega,rfl,rfl,by omega,Below.refl _ w1,by simp [Ac.sizes]⟩
  case round=>
   obtain⟨j,c,hj,rfl,rfl,hcb,HJ⟩:=hrel;clear c8
   by_cases hjn:j<n
   rotate_left
   ·have hd:decide((j:Int)<n)=false:=decide_eq_false(by omega)
    have hall:T.ks.take j=T.ks:=List.take_of_length_le(by rw [HM.out.1];omega)
    have hts:c=ts:=by
     have h1:=HJ.out.2;rw [hall]at h1;have h2:=T.size_eq;have h3:=HM.out.2.2;omega
    have HX:Hid(Below w.heap.size w wr):=HB.out.trans(HJ.out.1.mono HB.out.size);subst hts;go_wp2;go_ret;exact⟨rfl,HX.out⟩
   have hd:decide((j:Int)<n)=true:=decide_eq_true(by omega);have hjk:j<T.ks.length:=by rw [HM.out.1];exact hjn
   have hxs:=Ac.sizes_get T.ks j hjk;have j0:(0:Int)<=j:=by omega
   have j1:(j:Int)<n:=by omega
   obtain⟨g,off,U,xs,w2,K⟩:=Ak.kid_at HT.out.1 HT.out.2(HB.out.trans(HJ.out.1.mono HB.out.size))j hjk;obtain⟨x,hx⟩: ∃x,T.ks[j]=x:=⟨_,rfl⟩;rw [hx]at hxs K;have hcall:=HI.out e x U w2 K.lies(by have:=HM.out.2.1;have:=T.size_eq;omega);obtain⟨fx,hfx⟩: ∃y,x.size=y:=⟨_,rfl⟩;rw [K.row,hfx]at hcall;have HC:Hid _:=hcall;have HY:Hid(T.ks[j]=x/\x.size=fx):=⟨hx,hfx⟩;have hsum:c+fx<=2147483647:=by have h1:=HM.out.2.1;have h2:=T.size_eq;have h3:=HJ.out.2;omega
   obtain⟨rfl,-,ryr,xone,ix,ixl,NZ,ez,hw2,NK,B2,-,-⟩:=K;have HB2:Hid(Below w1.heap.size w1 w2):=HJ.out.1.trans(B2.mono HJ.out.1.size);obtain⟨kb,hkb⟩: ∃z,wr.heap.size=z:=⟨_,rfl⟩;have HKB:Hid(wr.heap.size=kb):=hkb;have HW2:Hid _:=hw2;rw [hkb]at NK;clear hx hxs hcall hfx B2 hw2 hkb
   go_upto_region 5 with(first
    |refine wpList_load_mid rfl 48 _ rfl g(off+j*12)rfl xs.toList _ ryr ha rfl ixl ?_
    |refine wpList_store_row rfl 48 _ _ rfl wr.heap.size xs rfl rfl 48 _ NZ ix ez xone ?_)
   rw [HW2.out,HKB.out];clear ryr NZ HW2 HKB
   go_wp2_with(refine wpList_load_row rfl 48 _ rfl _ rfl 48 _(0,0)_ NK ha rfl ix ?_)
   refine Calls.mono HC.out ?_;rintro e W3⟨rfl,b3⟩;have B3:Hid(Below w1.heap.size w1 W3):=HB2.out.trans(b3.mono HB2.out.size);clear b3 HC NK;go_wp2;go_roundg(gk-1)
   case measure=>omega
   case rel=>
    refine⟨j+1,c+fx,by omega,by go_num,by go_num,hsum,B3.out, ?_⟩;rw [Ac.sizes_take _ _ hjk,HY.out.1,HY.out.2,HJ.out.2];omega
theorem Tryz.r16Depth_any: ∀(d e:Nat)(T:Ac)(V:Ac.Vs)(w:World),Ac.Lies w w.heap.size e d V T->T.size<=2147483647->
  Calls Tryz.prog 41 #[.agg(Ac.row T V)]w λe w'=>e= .returned(.int .i64 T.depth)/\Below w.heap.size w w':=by
 intro d
 induction d with
 |zero=>intro e T V w h;exact h.elim
 |succ d ih=>
  intro e T V w hT hsz;obtain⟨a,cap,hvk⟩:=hT.kids;obtain⟨n,hn⟩: ∃n,T.ks.length=n:=⟨_,rfl⟩;rw [hn]at hvk;have hnb:n<=2147483647:=by have h1:=Ac.length_le_sizes T.ks;have h2:=T.size_eq;omega
  obtain⟨x0,x1,x2,x3,x4,x5,x6,x7,x9,x10,x11,hrow⟩:=Ac.row_kids(T:=T)hvk;obtain⟨ts,hts⟩: ∃k,T.depth=k:=⟨_,rfl⟩;rw [hrow,hts];obtain⟨w1,hw1⟩: ∃z,w.alloc(.cells #[x0,x1,x2,x3,x4,x5,x6,x7, .slice a n cap,x9,x10,x11]48)=z:=⟨_,rfl⟩;have B1:Below w.heap.size w w1:=by rw [<-hw1];exact(Below.refl _ w).alloc(Nat.le_refl _)_
  have N1:w1.heap[w.heap.size]? =some(.cells #[x0,x1,x2,x3,x4,x5,x6,x7, .slice a n cap,x9,x10,x11]48(0,0)):=by rw [<-hw1];exact heap_alloc_new w _
  have c8:w1.cell? ⟨w.heap.size,8,none⟩=some(.slice a n cap):=by simp [World.cell?,N1]
  have H1:Hid _:=hw1;have HB:Hid(Below w.heap.size w w1):=B1;have HT:Hid(Ac.Lies w w.heap.size e(d+1)V T/\V.k= .slice a n cap):=⟨hT,hvk⟩;have HI:Hid _:=ih;have HM:Hid(T.ks.length=n/\T.size<=2147483647/\T.depth=ts):=⟨hn,hsz,hts⟩;have ha:=Tryz.underlying48;clear ih hT hsz hvk hn hrow hts hw1 B1 N1
  go_enter Tryz.func41,Tryz.ntmps41
  go_upto_region 1 with fail
  rw [H1.out];go_wp2
  go_loopg [3,10]n(λgk s i wr=> ∃j c:Nat,gk+j=n/\i= .int .i64 j/\s= .int .i64 c/\c<=2147483647/\Hid(Below w1.heap.size w1 wr/\c=Ac.depths(T.ks.take j)))
  case atStart=>exact⟨0,0,by omega,rfl,rfl,by omega,Below.refl _ w1,by simp [Ac.depths]⟩
  case round=>
   obtain⟨j,c,hj,rfl,rfl,hcb,HJ⟩:=hrel;clear c8
   by_cases hjn:j<n
   rotate_left
   ·have hd:decide((j:Int)<n)=false:=decide_eq_false(by omega)
    have hall:T.ks.take j=T.ks:=List.take_of_length_le(by rw [HM.out.1];omega)
    have hts:c+1=ts:=by
     have h1:=HJ.out.2;rw [hall]at h1;have h2:=T.depth_eq;have h3:=HM.out.2.2;omega
    have HX:Hid(Below w.heap.size w wr):=HB.out.trans(HJ.out.1.mono HB.out.size);subst hts;go_wp2;go_ret;exact⟨rfl,HX.out⟩
   have hd:decide((j:Int)<n)=true:=decide_eq_true(by omega);have hjk:j<T.ks.length:=by rw [HM.out.1];exact hjn
   have hxs:=Ac.sizes_get T.ks j hjk;have j0:(0:Int)<=j:=by omega
   have j1:(j:Int)<n:=by omega
   obtain⟨g,off,U,xs,w2,K⟩:=Ak.kid_at HT.out.1 HT.out.2(HB.out.trans(HJ.out.1.mono HB.out.size))j hjk;obtain⟨x,hx⟩: ∃x,T.ks[j]=x:=⟨_,rfl⟩;rw [hx]at hxs K;have hcall:=HI.out e x U w2 K.lies(by have:=HM.out.2.1;have:=T.size_eq;omega);obtain⟨fx,hfx⟩: ∃y,x.depth=y:=⟨_,rfl⟩;rw [K.row,hfx]at hcall;have HC:Hid _:=hcall;have HY:Hid(T.ks[j]=x/\x.depth=fx):=⟨hx,hfx⟩;have hsum:fx<=2147483647:=by have h0:=x.depth_le_size;have h1:=HM.out.2.1;have h2:=T.size_eq;omega
   obtain⟨rfl,-,ryr,xone,ix,ixl,NZ,ez,hw2,NK,B2,-,-⟩:=K;have HB2:Hid(Below w1.heap.size w1 w2):=HJ.out.1.trans(B2.mono HJ.out.1.size);obtain⟨kb,hkb⟩: ∃z,wr.heap.size=z:=⟨_,rfl⟩;have HKB:Hid(wr.heap.size=kb):=hkb;have HW2:Hid _:=hw2;rw [hkb]at NK;clear hx hxs hcall hfx B2 hw2 hkb
   go_upto_region 5 with(first
    |refine wpList_load_mid rfl 48 _ rfl g(off+j*12)rfl xs.toList _ ryr ha rfl ixl ?_
    |refine wpList_store_row rfl 48 _ _ rfl wr.heap.size xs rfl rfl 48 _ NZ ix ez xone ?_)
   rw [HW2.out,HKB.out];clear ryr NZ HW2 HKB
   go_wp2_with(refine wpList_load_row rfl 48 _ rfl _ rfl 48 _(0,0)_ NK ha rfl ix ?_)
   refine Calls.mono HC.out ?_;rintro e W3⟨rfl,b3⟩;have B3:Hid(Below w1.heap.size w1 W3):=HB2.out.trans(b3.mono HB2.out.size);clear b3 HC NK
   by_cases hlt:c<fx
   ·have hdd:decide((c:Int)<fx)=true:=decide_eq_true(by omega)
    go_wp2;go_roundg(gk-1)
    case measure=>omega
    case rel=>
     refine⟨j+1,fx,by omega,by go_num,by go_num,hsum,B3.out, ?_⟩;rw [Ac.depths_take _ _ hjk,HY.out.1,HY.out.2,<-HJ.out.2];omega
   have hdd:decide((c:Int)<fx)=false:=decide_eq_false(by omega);go_wp2;go_roundg(gk-1)
   case measure=>omega
   case rel=>
    refine⟨j+1,c,by omega,by go_num,by go_num,hcb,B3.out, ?_⟩;rw [Ac.depths_take _ _ hjk,HY.out.1,HY.out.2,<-HJ.out.2];omega
end Go.Proofs
namespace Go.Proofs
open Go.RowKit
theorem Tryz.plainTerm_any: ∀(d:Nat)(S T:Tm)(va vb:Value)(d' B:Nat)(w:World),Tm.Lies w B d va S->Tm.Lies w B d' vb T->B<=w.heap.size->S.size<=2147483647->T.size<=2147483647->
  Calls Tryz.prog 87 #[.agg #[.int .i64 S.op, .int .i64 S.num,va], .agg #[.int .i64 T.op, .int .i64 T.num,vb]]w λe w'=>(∃r,e= .returned(.bool r)/\(r=true↔S=T))/\Below w.heap.size w w':=by
 intro d
 induction d with
 |zero=>intro S T va vb d' B w h;exact h.elim
 |succ d ih=>
  intro S T va vb d' B w hA hB hBs hsz hszT
  cases d' with
  |zero=>exact hB.elim
  |succ d'=>
  obtain⟨a,ca,rfl⟩:=hA.shape;obtain⟨b,cb,rfl⟩:=hB.shape;obtain⟨o,ho⟩: ∃m,S.op=m:=⟨_,rfl⟩;obtain⟨m,hm⟩: ∃m,S.num=m:=⟨_,rfl⟩;obtain⟨n,hn⟩: ∃n,S.ks.length=n:=⟨_,rfl⟩;obtain⟨o',ho'⟩: ∃m,T.op=m:=⟨_,rfl⟩;obtain⟨m',hm'⟩: ∃m,T.num=m:=⟨_,rfl⟩;obtain⟨n',hn'⟩: ∃n,T.ks.length=n:=⟨_,rfl⟩;have hn2:n<=2147483647:=by have:=Tm.length_le_sizes S.ks;have:=S.size_eq;omega
  have hn2':n'<=2147483647:=by have:=Tm.length_le_sizes T.ks;have:=T.size_eq;omega
  rw [ho,hm,hn,ho',hm',hn'];rw [hn]at hA;rw [hn']at hB;obtain⟨w0,hw0⟩: ∃w0,w0=(w.alloc(.cells #[.int .i64 o, .int .i64 m, .slice a n ca]24)).alloc(.cells #[.int .i64 o', .int .i64 m', .slice b n' cb]24):=⟨_,rfl⟩;have A0:Hid(Below w.heap.size w w0):=by rw [hw0];exact((Below.refl _ w).alloc(Nat.le_refl _)_).alloc(by simp)_
  have AW:Hid(Below w.heap.size w((w.alloc(.cells #[.int .i64 o, .int .i64 m, .slice a n ca]24)).alloc(.cells #[.int .i64 o', .int .i64 m', .slice b n' cb]24))):=((Below.refl _ w).alloc(Nat.le_refl _)_).alloc(by simp)_
  have HNE:Hid((o≠o'∨m≠m'∨n≠n')-> ¬S=T):=λh e=>by
   subst e;rw [ho]at ho';rw [hm]at hm';rw [hn]at hn';omega
  by_cases h1:o=o'
  rotate_left
  ·have e1:(o==o')=false:=by simpa using h1
   have HN:Hid(¬S=T):=HNE.out(.inl h1);clear ih hA hB ho hm hn hw0 hBs hsz hszT ho' hm' hn' HNE A0
   go_enter Tryz.func87,Tryz.ntmps87
   go_wp2;go_ret;exact⟨⟨false,rfl,⟨λh=>by simp at h,λh=>absurd h HN.out⟩⟩,AW.out⟩
  by_cases h2:m=m'
  rotate_left
  ·have e2:(m==m')=false:=by simpa using h2
   have HN:Hid(¬S=T):=HNE.out(.inr(.inl h2));subst h1;clear ih hA hB ho hm hn hw0 hBs hsz hszT ho' hm' hn' HNE A0
   go_enter Tryz.func87,Tryz.ntmps87
   go_wp2;go_ret;exact⟨⟨false,rfl,⟨λh=>by simp at h,λh=>absurd h HN.out⟩⟩,AW.out⟩
  by_cases h3:n=n'
  rotate_left
  ·have e3:((n:Int)==(n':Int))=false:=by simp;omega
   have HN:Hid(¬S=T):=HNE.out(.inr(.inr h3));subst h1 h2;clear ih hA hB ho hm hn hw0 hBs hsz hszT ho' hm' hn' h3 HNE A0
   go_enter Tryz.func87,Tryz.ntmps87
   go_wp2;go_ret;exact⟨⟨false,rfl,⟨λh=>by simp at h,λh=>absurd h HN.out⟩⟩,AW.out⟩
  subst h1 h2 h3;have HA:Hid(Tm.Lies w B(d+1)(.slice a n ca)S):=hA;have HB:Hid(Tm.Lies w B(d'+1)(.slice b n cb)T):=hB;have HI:Hid _:=ih;have HM:Hid(S.ks.length=n/\B<=w.heap.size/\S.size<=2147483647/\T.ks.length=n/\T.size<=2147483647/\(S=T↔S.ks=T.ks)):=⟨hn,hBs,hsz,hn',hszT,by rw [Tm.eq_iff,ho,hm,ho',hm'];simp⟩;have S0:Hid(w0.heap.size=w.heap.size+2):=by show _=_;rw [hw0];simp
  have C0:Hid(w0.heap[w.heap.size]? =some(.cells #[.int .i64 o, .int .i64 m, .slice a n ca]24(0,0))):=by show _=_;rw [hw0,Below.heap_alloc _ _ _(by simp)];exact heap_alloc_new w _
  have C1:Hid(w0.heap[w.heap.size+1]? =some(.cells #[.int .i64 o, .int .i64 m, .slice b n cb]24(0,0))):=by
   show _=_;rw [hw0];have:=heap_alloc_new(w.alloc(.cells #[.int .i64 o, .int .i64 m, .slice a n ca]24))(.cells #[.int .i64 o, .int .i64 m, .slice b n cb]24);simpa using this
  have HW0:Hid(w0=_):=hw0;clear ih hA hB ho hm hn hw0 hBs hsz hszT ho' hm' hn'
  go_enter Tryz.func87,Tryz.ntmps87
  go_wp2
  go_loopg [30]n(λg i wr=> ∃j:Nat,g+j=n/\i= .int .i64 j/\Hid(Below w0.heap.size w0 wr/\S.ks.take j=T.ks.take j))
  case atStart=>exact⟨0,by omega,rfl,by rw [HW0.out];exact Below.refl _ _,by simp⟩
  case round=>
   obtain⟨j,hj,rfl,HJ⟩:=hrel
   by_cases hjn:j<n
   rotate_left
   ·go_wp2
    go_ret;refine⟨⟨true,rfl,⟨λ_=> ?_,λ_=>rfl⟩⟩,A0.out.trans(HJ.out.1.mono A0.out.size)⟩;have h:=HJ.out.2;rw [List.take_of_length_le(by rw [HM.out.1];omega),List.take_of_length_le(by rw [HM.out.2.2.2.1];omega)]at h;exact HM.out.2.2.2.2.2.2 h
   have hjk:j<S.ks.length:=by rw [HM.out.1];exact hjn
   have hjk':j<T.ks.length:=by rw [HM.out.2.2.2.1];exact hjn
   have hxs:=Tm.sizes_get S.ks j hjk;have hts:=S.size_eq;have hxs':=Tm.sizes_get T.ks j hjk';have hts':=T.size_eq;obtain⟨g,off,u,rfl,hg,q0,q1,q2,q3⟩:=HA.out.kid j hjk;obtain⟨g',off',u',rfl,hg',p0,p1,p2,p3⟩:=HB.out.kid j hjk';obtain⟨x,hx⟩: ∃x,S.ks[j]=x:=⟨_,rfl⟩;obtain⟨y,hy⟩: ∃x,T.ks[j]=x:=⟨_,rfl⟩;rw [hx]at q0 q1 q3 hxs;rw [hy]at p0 p1 p3 hxs';obtain⟨au,cu,rfl⟩:=q3.shape;obtain⟨bu,du,rfl⟩:=p3.shape;obtain⟨nx,hnx⟩: ∃n,x.ks.length=n:=⟨_,rfl⟩;obtain⟨ny,hny⟩: ∃n,y.ks.length=n:=⟨_,rfl⟩;rw [hnx]at q2 q3;rw [hny]at p2 p3;obtain⟨x0,hx0⟩: ∃y,x.op=y:=⟨_,rfl⟩;obtain⟨x1,hx1⟩: ∃y,x.num=y:=⟨_,rfl⟩;obtain⟨y0,hy0⟩: ∃z,y.op=z:=⟨_,rfl⟩;obtain⟨y1,hy1⟩: ∃z,y.num=z:=⟨_,rfl⟩;rw [hx0]at q0;rw [hx1]at q1;rw [hy0]at p0;rw [hy1]at p1;have hs0:=S0.out;have hbs:=HM.out.2.1;have hbw:Below w.heap.size w wr:=A0.out.trans(HJ.out.1.mono(by omega));have hc: ∀g p,g<B->wr.cell? ⟨g,p,none⟩=w.cell? ⟨g,p,none⟩:=λg p hg=>hbw.cell(p:=⟨g,p,none⟩)(by show g<_;omega);have hc0:wr.cell? ⟨g,off+j*3,none⟩=some(.int .i64 x0):=by rw [hc _ _ hg];exact q0
   have hc1:wr.cell? ⟨g,off+j*3+1,none⟩=some(.int .i64 x1):=by rw [hc _ _ hg];exact q1
   have hc2:wr.cell? ⟨g,off+j*3+2,none⟩=some(.slice au nx cu):=by rw [hc _ _ hg];exact q2
   have hd0:wr.cell? ⟨g',off'+j*3,none⟩=some(.int .i64 y0):=by rw [hc _ _ hg'];exact p0
   have hd1:wr.cell? ⟨g',off'+j*3+1,none⟩=some(.int .i64 y1):=by rw [hc _ _ hg'];exact p1
   have hd2:wr.cell? ⟨g',off'+j*3+2,none⟩=some(.slice bu ny du):=by rw [hc _ _ hg'];exact p2
   obtain⟨⟨_,_,va2⟩,_⟩:=Tk.row3((HJ.out.1.block _(by omega)).trans C0.out);obtain⟨⟨_,_,vb2⟩,_⟩:=Tk.row3((HJ.out.1.block _(by omega)).trans C1.out)
   have HC:Hid(∀W,Below w0.heap.size w0 W->Calls Tryz.prog 87 #[.agg #[.int .i64 x0, .int .i64 x1, .slice au nx cu], .agg #[.int .i64 y0, .int .i64 y1, .slice bu ny du]]W λe w'=> ∃r,e= .returned(.bool r)/\(r=true↔x=y)/\Below w0.heap.size w0 w'):=λW hW=>by
    have hbW:Below w.heap.size w W:=A0.out.trans(hW.mono(by omega));have:=HI.out x y(.slice au nx cu)(.slice bu ny du)d' B W(q3.keep λk hk=>hbW.block k(by omega))(p3.keep λk hk=>hbW.block k(by omega))(by have:=hbW.size;omega)(by have:=HM.out;omega)(by have:=HM.out;omega);rw [hx0,hx1,hy0,hy1]at this;exact this.mono λe w'⟨⟨r,he,hr⟩,hb⟩=>⟨r,he,hr,hW.trans(hb.mono hW.size)⟩
   have HXY:Hid(S.ks[j]=x/\T.ks[j]=y):=⟨hx,hy⟩;clear hc q0 q1 q2 q3 p0 p1 p2 p3 hx hy hx0 hx1 hy0 hy1 hnx hny hbw hxs hts hxs' hts' hg hg' hs0 hbs
   go_upto_region 6 with fail
   go_region_with(first|(go_at_call 87;refine Calls.mono(HC.out _(by first|exact HJ.out.1|exact Tk.below_drewN HJ.out.1 _)) ?_;rintro e W3⟨r,rfl,hr,b3⟩)|fail)
   all_goals
    have B3:Hid(Below w0.heap.size w0 W3):=b3;have HR:Hid(r=true↔x=y):=hr;clear b3 hr HC
    cases r
    ·go_wp2
     go_ret;refine⟨⟨false,rfl,⟨λh=>by simp at h,λh=> ?_⟩⟩,A0.out.trans(B3.out.mono A0.out.size)⟩;have hk:=HM.out.2.2.2.2.2.1 h
     have hxy:x=y:=by
      rw [<-HXY.out.1,<-HXY.out.2];simp only [hk]
     exact HR.out.2 hxy
    have HN:Hid(S.ks.take(j+1)=T.ks.take(j+1)):=by
     show _=_;rw [Tm.take_snoc _ _ hjk,Tm.take_snoc _ _ hjk',HJ.out.2,HXY.out.1,HXY.out.2,HR.out.1 rfl]
    go_wp2;go_roundg(gk-1)
    case measure=>omega
    case rel=>exact⟨j+1,by omega,by go_num,B3.out,HN.out⟩
end Go.Proofs
namespace Go.Proofs
namespace Ac
def hasA(k:Int):Bool:=decide(k=2∨k=3∨k=4∨k=8∨k=10∨k=11∨k=12)
def hasB'(k a:Int):Bool:=decide(k=11∨(k=12/\a=3))
def hasC(k a:Int):Bool:=decide(k=8∨k=11∨(k=12/\a=3))
def hasK(k:Int):Bool:=decide(k=6∨k=7∨k=8∨k=9∨k=10∨k=11∨k=13)
def Bare(T:Ac):Prop:=
 (hasNodeB T.kind=false->T.node=0)/\(hasA T.kind=false->T.a=0)/\(hasB' T.kind T.a=false->T.b=0)/\(T.kind≠3->Nt.zeroB T.t=true)/\
 (hasC T.kind T.a=false->T.cs.length=0)/\(hasK T.kind=false->T.ks.length=0)/\(T.kind≠13->T.ls.length=0)/\(T.kind≠14->T.ns.length=0/\T.fs.length=0)
def Conds(cs:List Tm)(o:Int):Prop:=(0<=o/\o<cs.length)/\choiceB cs o=true
def kidD(k a:Int)(n:Nat)(x y:Int):Bool:=
 if k=12 then(if a=1 then decide(x=1)&&decide(2<=y)else if a=3 then decide(x=1)&&decide(y=n)else if a=2∨a=4 then decide(2<=x)&&decide(y=1)else true)else decide(x=1)&&decide(y=1)
def inN(ls:List(Int×Int))(i:Int):Nat:=ls.countP λl=>decide(l.2=i)
def outN(ls:List(Int×Int))(i:Int):Nat:=ls.countP λl=>decide(l.1=i)
def LinkD(T:Ac):Prop:=T.ls.all(inR T.ks.length)=true/\(inN T.ls(-1)=1/\outN T.ls(-1)=1/\T.ls.length<=40/\T.ks.length<=64)/\
 (∀i(h:i<T.ks.length),kidD T.ks[i].kind T.ks[i].a T.ks[i].cs.length(inN T.ls i)(outN T.ls i)=true)/\freeB T.ks.length(bet T.ls)=true
def Numbered(T:Ac):Prop:=
 T.kind=1∨T.kind=5∨((T.kind=2∨T.kind=4)/\0<=T.a/\T.a<=3)∨(T.kind=3/\(0<=T.a/\T.a<=3)/\Nt.ofB T.t 1=true)∨((T.kind=6∨T.kind=7∨T.kind=9)/\2<=T.ks.length)∨
 (T.kind=8/\2<=T.ks.length/\T.cs.length=T.ks.length/\Conds T.cs T.a)∨(T.kind=10/\T.ks.length=1/\0<=T.a/\T.a<=4)∨
 (T.kind=11/\T.ks.length=2/\T.cs.length=2/\Conds T.cs T.a/\(T.b=0∨T.b=1))∨(T.kind=12/\T.a=3/\2<=T.cs.length/\Conds T.cs T.b)∨(T.kind=12/\T.a≠3/\1<=T.a/\T.a<=4)∨
 (T.kind=13/\1<=T.ks.length/\T.LinkD)∨(T.kind=14/\(Nt.checkN T.ns T.fs).1=0)
def kidBadD(K k:Int):Bool:=decide(13<=k∨(k=12/\K≠13)∨(k=10/\K≠9)∨(k≠10/\K=9))
def FormD(T:Ac):Prop:=T.Bare/\(0<=T.node/\T.node<=23)/\T.Numbered/\ ∀k∈T.ks,kidBadD T.kind k.kind=false
end Ac
end Go.Proofs
