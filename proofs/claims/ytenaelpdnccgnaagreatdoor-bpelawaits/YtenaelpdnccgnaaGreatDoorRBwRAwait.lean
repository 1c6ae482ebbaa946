import Derived.Test.YtenaelpdnccgnaaGreatDoorRAcFormed
set_option maxRecDepth 100000
set_option maxHeartbeats 32000000
namespace Go.Proofs
open Go.RowKit Go.Shelf
theorem Tryz.r16Awaits_any (m:Int):∀(d e:Nat) (T:Ac) (V:Ac.Vs) (w:World),Ac.Lies w w.heap.size e d V T->T.All Ac.Fit->
  Calls Tryz.prog 19 #[.agg (Ac.row T V),.int .i64 m] w λe w'=>e=.returned (.bool (Bw.aw m T))/\Below w.heap.size w w':=by
 intro d
 induction d with
 |zero=>intro e T V w h;exact h.elim
 |succ d ih=>
  intro e T V w hT hF;rw[T.all_eq]at hF;obtain⟨a6,b6,a7,b7,a8,b8,a9,b9,aA,bA,aB,bB,rfl⟩:=hT.shape;have hN:=Ak.nds_of hT.own;obtain⟨k0,hk0⟩:=pE T.kind;obtain⟨a2,ha2⟩:=pE T.a;obtain⟨n8,hn8⟩:=pE T.ks.length;obtain⟨nA,hnA⟩:=pE T.ns.length;obtain⟨R,hR⟩:=pE (Bw.aw m T);obtain⟨x1,x3,x4,x5,x6,x7,x9,x11,hrow⟩:∃x1 x3 x4 x5 x6 x7 x9 x11,Ac.row T ⟨.slice a6 T.t.ks.length b6,.slice a7 T.cs.length b7,.slice a8 T.ks.length b8,.slice a9 T.ls.length b9,.slice aA T.ns.length bA,.slice aB T.fs.length bB⟩=#[.int .i64 k0,x1,.int .i64 a2,x3,x4,x5,x6,x7,.slice a8 n8 b8,x9,.slice aA nA bA,x11]:=⟨_,_,_,_,_,_,_,_,by unfold Ac.row;rw[hk0,ha2,hn8,hnA]⟩;rw[hrow,hR];obtain⟨w1,hw1⟩:=pE (w.alloc (.cells #[.int .i64 k0,x1,.int .i64 a2,x3,x4,x5,x6,x7,.slice a8 n8 b8,x9,.slice aA nA bA,x11] 44));have B1:=pB hw1;have N1:=pH hw1;have h8:n8<=1000:=by rw[<-hn8];exact hF.1.kl
  have hA:nA<=100:=by rw[<-hnA];exact hF.1.nl
  have c0:w1.cell? ⟨w.heap.size,0,none⟩=some (.int .i64 k0):=by simp[World.cell?,N1]
  have c2:w1.cell? ⟨w.heap.size,2,none⟩=some (.int .i64 a2):=by simp[World.cell?,N1]
  have hlt1:=(Array.getElem?_eq_some_iff.1 N1).1
  have HX:Hid (∀W,Below w1.heap.size w1 W->W.cell? ⟨w.heap.size,0,none⟩=some (.int .i64 k0)/\W.cell? ⟨w.heap.size,8,none⟩=some (.slice a8 n8 b8)/\W.cell? ⟨w.heap.size,10,none⟩=some (.slice aA nA bA)/\Below w.heap.size w W):=λW h=>by
   have h1:=(h.block _ hlt1).trans N1;exact⟨by simp[World.cell?,h1],by simp[World.cell?,h1],by simp[World.cell?,h1],B1.trans (h.mono B1.size)⟩
  have H1:Hid _:=hw1;have HB:Hid (Below w.heap.size w w1):=B1;have HT:Hid (Ac.Lies w w.heap.size e (d+1) ⟨.slice a6 T.t.ks.length b6,.slice a7 T.cs.length b7,.slice a8 T.ks.length b8,.slice a9 T.ls.length b9,.slice aA T.ns.length bA,.slice aB T.fs.length bB⟩ T):=hT;have HN:Hid (Nt.Nds w w.heap.size e aA T.ns):=hN;have HF:Hid (Ac.Alls Ac.Fit T.ks):=hF.2;have HM:Hid (T.ks.length=n8/\T.ns.length=nA):=⟨hn8,hnA⟩;have HI:Hid _:=ih;have HR:Hid ((((decide (0<=m)&&decide (m<4))&&(((decide (k0=4)||decide (k0=10))&&decide (a2=m))||(decide (k0=14)&&T.ns.any (Nt.waitB m))))||Bw.aws m T.ks)=R):=by show _=_;rw[<-hR,Bw.aw_eq,Bw.awB,hk0,ha2]
  have HO:Hid ((decide (0<=m)&&decide (m<4))=false->R=false):=λh=>by rw[<-hR];exact Bw.aw_out h T
  have ha:=Tryz.underlying44;clear ih hT hF hN hk0 ha2 hn8 hnA hR hrow hw1 B1 N1 hlt1
  by_cases hm:¬(0<=m/\m<4)
  ·have HV:Hid (R=false):=HO.out (by simp;omega)
   have hc:decide (m<0)=true∨(decide (m<0)=false/\decide (3<m)=true):=by
    by_cases h:m<0
    ·exact .inl (decide_eq_true h)
    exact .inr ⟨decide_eq_false h,decide_eq_true (by omega)⟩
   clear hm HO HR HI HF HM HN HT
   rcases hc with e1|⟨e1,e2⟩<;>
   ·go_enter Tryz.func19,Tryz.ntmps19
    go_upto_region 1 with fail
    rw[H1.out];go_wp2;go_ret;exact⟨Tk.ret_bool HV.out.symm,HB.out⟩
  replace hm:=Decidable.not_not.1 hm;have g1:decide (m<0)=false:=decide_eq_false (by omega);have g2:decide (3<m)=false:=decide_eq_false (by omega)
  replace HR:Hid ((((decide (k0=4)||decide (k0=10))&&decide (a2=m))||(decide (k0=14)&&T.ns.any (Nt.waitB m))||Bw.aws m T.ks)=R):=by
   have h:=HR.out;rw[decide_eq_true hm.1,decide_eq_true hm.2,Bool.true_and,Bool.true_and]at h;exact h
  clear hm HO
  by_cases q14:k0=14
  rotate_left
  ·have e14:(k0==14)=false:=by simpa using q14
   by_cases qa:(k0=4∨k0=10)/\a2=m
   ·have HV:Hid (R=true):=by
     have h:=HR.out;have:(decide (k0=4)||decide (k0=10))=true:=by simpa using qa.1
     rw[this,decide_eq_true qa.2,Bool.true_and,Bool.true_or,Bool.true_or]at h;exact h.symm
    have ea:(a2==m)=true:=by simpa using qa.2
    have hc:(k0==4)=true∨((k0==4)=false/\(k0==10)=true):=by
     rcases qa.1 with rfl|rfl
     ·exact .inl rfl
     exact .inr ⟨rfl,rfl⟩
    clear HR HI HF HM HN HT qa q14
    rcases hc with e4|⟨e4,e10⟩<;>
    ·go_enter Tryz.func19,Tryz.ntmps19
     go_upto_region 1 with fail
     rw[H1.out];go_wp2;go_ret;exact⟨Tk.ret_bool HV.out.symm,HB.out⟩
   replace HR:Hid (Bw.aws m T.ks=R):=by
    have h:=HR.out
    have h1:((decide (k0=4)||decide (k0=10))&&decide (a2=m))=false:=by
     rw[Bool.eq_false_iff];intro h;exact qa (by simpa using h)
    rw[h1,decide_eq_false q14,Bool.false_and,Bool.false_or,Bool.false_or]at h;exact h
   have hc:((k0==4)=true/\(a2==m)=false)∨((k0==4)=false/\(k0==10)=true/\(a2==m)=false)∨((k0==4)=false/\(k0==10)=false):=by
    by_cases r4:k0=4
    ·exact .inl ⟨by simpa using r4,by simpa using λh=>qa ⟨.inl r4,h⟩⟩
    by_cases r10:k0=10
    ·exact .inr (.inl ⟨by simpa using r4,by simpa using r10,by simpa using λh=>qa ⟨.inr r10,h⟩⟩)
    exact .inr (.inr ⟨by simpa using r4,by simpa using r10⟩)
   obtain⟨-,c8,-,-⟩:=HX.out w1 (Below.refl _ _);clear qa q14
   rcases hc with⟨e4,ea⟩|⟨e4,e10,ea⟩|⟨e4,e10⟩<;>
   ·go_enter Tryz.func19,Tryz.ntmps19
    go_upto_region 1 with fail
    rw[H1.out]
    go_wp2_with fail
    go_loopg [53] n8 (λgk s53 wr=>∃j:Nat,gk+j=n8/\s53=.int .i64 j/\Hid (Below w1.heap.size w1 wr/\Bw.aws m (T.ks.take j)=false))
    case atStart=>exact⟨0,by omega,rfl,Below.refl _ _,by simp[Bw.aws]⟩
    case round=>
     obtain⟨j,hj,rfl,HJ⟩:=hrel;clear c8
     by_cases hjn:j<n8
     rotate_left
     ·have hd:decide ((j:Int)<n8)=false:=decide_eq_false (by omega)
      have hd':decide (j<n8)=false:=decide_eq_false hjn
      have HQ:Hid (R=false):=by
       have h:=HJ.out.2;rw[List.take_of_length_le (by rw[HM.out.1];omega),HR.out]at h;exact h
      have HB3:Hid (Below w.heap.size w wr):=(HX.out wr HJ.out.1).2.2.2;go_wp2;go_ret;exact⟨Tk.ret_bool HQ.out.symm,HB3.out⟩
     have hd:decide ((j:Int)<n8)=true:=decide_eq_true (by omega);have hjk:j<T.ks.length:=by rw[HM.out.1];exact hjn
     have j0:(0:Int)<=j:=by omega
     have j1:(j:Int)<n8:=by omega
     obtain⟨g,off,U,xs,w2,K⟩:=Ak.kid_at HT.out rfl (HX.out wr HJ.out.1).2.2.2 j hjk;have hcall:=HI.out e T.ks[j] U w2 K.lies (Ac.alls_get HF.out j hjk);obtain⟨fx,hfx⟩:=pE (Bw.aw m T.ks[j]);rw[K.row,hfx]at hcall;have HC:Hid _:=hcall;have HY:Hid (Bw.aw m T.ks[j]=fx):=hfx;obtain⟨rfl,-,ryr,xone,ix,ixl,NZ,ez,hw2,NK,B2,-,-⟩:=K;have HB2:Hid (Below w1.heap.size w1 w2):=HJ.out.1.trans (B2.mono HJ.out.1.size);obtain⟨kb,hkb⟩:=pE wr.heap.size;have HKB:Hid (wr.heap.size=kb):=hkb;have HW2:Hid _:=hw2;rw[hkb]at NK;clear hcall hfx B2 hw2 hkb
     go_upto_region 15 with(first
      |refine wpList_load_mid rfl 44 _ rfl g (off+j*12) rfl xs.toList _ ryr ha rfl ixl ?_
      |refine wpList_store_row rfl 44 _ _ rfl wr.heap.size xs rfl rfl 44 _ NZ ix ez xone ?_)
     rw[HW2.out,HKB.out];clear ryr NZ HW2 HKB
     go_wp2_with (refine wpList_load_row rfl 44 _ rfl _ rfl 44 _ (0,0) _ NK ha rfl ix ?_)
     refine Calls.mono HC.out ?_;rintro e W3 ⟨rfl,b3⟩;have B3:Hid (Below w1.heap.size w1 W3):=HB2.out.trans (b3.mono HB2.out.size);clear b3 HC NK
     cases fx
     ·have HQ:Hid (Bw.aws m (T.ks.take (j+1))=false):=by
       show _=_;rw[Bw.aws_take _ _ _ hjk,HJ.out.2,HY.out];rfl
      go_wp2;go_roundg (gk-1)
      case measure=>omega
      case rel=>exact⟨j+1,by omega,by go_num,B3.out,HQ.out⟩
     have HQ:Hid (R=true):=by
      show _=_;rw[<-HR.out];exact Bw.aws_at m _ j hjk HY.out
     have HB3:Hid (Below w.heap.size w W3):=(HX.out W3 B3.out).2.2.2;go_wp2;go_ret;exact⟨Tk.ret_bool HQ.out.symm,HB3.out⟩
  have e4:(k0==4)=false:=by simp;omega
  have e10:(k0==10)=false:=by simp;omega
  have e14:(k0==14)=true:=by simpa using q14
  replace HR:Hid ((T.ns.any (Nt.waitB m)||Bw.aws m T.ks)=R):=by
   have h:=HR.out;rw[decide_eq_true q14,decide_eq_false (show¬k0=4 by omega),decide_eq_false (show¬k0=10 by omega),Bool.true_and,Bool.or_false,Bool.false_and,Bool.false_or]at h;exact h
  clear q14;obtain⟨-,-,c10,-⟩:=HX.out w1 (Below.refl _ _)
  go_enter Tryz.func19,Tryz.ntmps19
  go_upto_region 1 with fail
  rw[H1.out]
  go_wp2_with fail
  go_loopg [36] nA (λgk s36 wr=>∃j:Nat,gk+j=nA/\s36=.int .i64 j/\Hid (Below w1.heap.size w1 wr/\(T.ns.take j).any (Nt.waitB m)=false))
  case atStart=>exact⟨0,by omega,rfl,Below.refl _ _,by simp⟩
  case round=>
   obtain⟨k,hk,rfl,HJ⟩:=hrel;clear c0 c2 c10
   by_cases hlt:k<nA
   ·have hd:decide ((k:Int)<nA)=true:=decide_eq_true (by omega)
    have hkl:k<T.ns.length:=by rw[HM.out.2];exact hlt
    obtain⟨q,off,u,rfl,hq,h0,h1,h2,h3,h4,h5⟩:=HN.out k hkl;obtain⟨au,cu,rfl⟩:=h5.shape;obtain⟨nu,hnu⟩:=pE T.ns[k].t.ks.length;rw[hnu]at h4;obtain⟨y0,hy0⟩:=pE T.ns[k].kind;obtain⟨y1,hy1⟩:=pE T.ns[k].a;obtain⟨y2,hy2⟩:=pE T.ns[k].t.op;obtain⟨y3,hy3⟩:=pE T.ns[k].t.num;have hc:∀o,wr.cell? ⟨q,o,none⟩=w.cell? ⟨q,o,none⟩:=λo=>(HX.out wr HJ.out.1).2.2.2.cell (p:=⟨q,o,none⟩) hq;have hc0:wr.cell? ⟨q,off+k*5,none⟩=some (.int .i64 y0):=by rw[hc,<-hy0];exact h0
    have hc1:wr.cell? ⟨q,off+k*5+1,none⟩=some (.int .i64 y1):=by rw[hc,<-hy1];exact h1
    have hc2:wr.cell? ⟨q,off+k*5+2,none⟩=some (.int .i64 y2):=by rw[hc,<-hy2];exact h2
    have hc3:wr.cell? ⟨q,off+k*5+3,none⟩=some (.int .i64 y3):=by rw[hc,<-hy3];exact h3
    have hc4:wr.cell? ⟨q,off+k*5+4,none⟩=some (.slice au nu cu):=by rw[hc];exact h4
    have hu:=Tryz.underlying62;have HY:Hid (T.ns[k].kind=y0/\T.ns[k].a=y1):=⟨hy0,hy1⟩;have BN:Hid (Below w1.heap.size w1 (wr.alloc (.cells #[.int .i64 y0,.int .i64 y1,.int .i64 y2,.int .i64 y3,.slice au nu cu] 62))):=HJ.out.1.alloc HJ.out.1.size _;clear h0 h1 h2 h3 h4 h5 hc hy0 hy1 hy2 hy3 hnu hq
    have hcase:((y0==8)=true/\(y1==m)=true/\Hid (Nt.waitB m T.ns[k]=true))∨((y0==8)=true/\(y1==m)=false/\Hid (Nt.waitB m T.ns[k]=false))∨((y0==8)=false/\Hid (Nt.waitB m T.ns[k]=false)):=by
     have hw:Nt.waitB m T.ns[k]=(decide (y0=8)&&decide (y1=m)):=by rw[Nt.waitB,HY.out.1,HY.out.2]
     by_cases r0:y0=8
     ·by_cases r1:y1=m
      ·exact .inl ⟨by simpa using r0,by simpa using r1,by rw[hw,decide_eq_true r0,decide_eq_true r1];exact rfl⟩
      exact .inr (.inl ⟨by simpa using r0,by simpa using r1,by rw[hw,decide_eq_true r0,decide_eq_false r1];exact rfl⟩)
     exact .inr (.inr ⟨by simpa using r0,by rw[hw,decide_eq_false r0];exact rfl⟩)
    rcases hcase with⟨e1,e2,HV⟩|hcase
    ·have HV2:Hid (R=true):=by
      show R=true;rw[<-HR.out,Bw.any_at _ _ k hkl HV.out,Bool.true_or]
     have HB2:Hid (Below w.heap.size w (wr.alloc (.cells #[.int .i64 y0,.int .i64 y1,.int .i64 y2,.int .i64 y3,.slice au nu cu] 62))):=(HX.out _ BN.out).2.2.2;clear HV BN;go_wp2;go_ret;exact⟨Tk.ret_bool HV2.out.symm,HB2.out⟩
    rcases hcase with⟨e1,e2,HV⟩|⟨e1,HV⟩<;>
    ·go_wp2
     go_roundg (gk-1)
     case measure=>omega
     case rel=>
      refine⟨k+1,by omega,by go_num,BN.out, ?_⟩;rw[Ac.take_snoc _ _ hkl,List.any_append,HJ.out.2];simp[HV.out]
   have hd:decide ((k:Int)<nA)=false:=decide_eq_false (by omega);have hd':decide (k<nA)=false:=decide_eq_false hlt
   replace HR:Hid (Bw.aws m T.ks=R):=by
    have h:=HJ.out.2;rw[List.take_of_length_le (by rw[HM.out.2];omega)]at h;have h2:=HR.out;rw[h,Bool.false_or]at h2;exact h2
   have HJ0:Hid (Below w1.heap.size w1 wr):=HJ.out.1;obtain⟨-,c8,-,-⟩:=HX.out wr HJ.out.1;clear HJ hk hlt
   go_wp2_with fail
   go_loopg [53] n8 (λgk s53 wr=>∃j:Nat,gk+j=n8/\s53=.int .i64 j/\Hid (Below w1.heap.size w1 wr/\Bw.aws m (T.ks.take j)=false))
   case atStart=>exact⟨0,by omega,rfl,HJ0.out,by simp[Bw.aws]⟩
   case round=>
    obtain⟨j,hj,rfl,HJ⟩:=hrel;clear c8
    by_cases hjn:j<n8
    rotate_left
    ·have hd:decide ((j:Int)<n8)=false:=decide_eq_false (by omega)
     have hd':decide (j<n8)=false:=decide_eq_false hjn
     have HQ:Hid (R=false):=by
      have h:=HJ.out.2;rw[List.take_of_length_le (by rw[HM.out.1];omega),HR.out]at h;exact h
     have HB3:Hid (Below w.heap.size w wr):=(HX.out wr HJ.out.1).2.2.2;go_wp2;go_ret;exact⟨Tk.ret_bool HQ.out.symm,HB3.out⟩
    have hd:decide ((j:Int)<n8)=true:=decide_eq_true (by omega);have hjk:j<T.ks.length:=by rw[HM.out.1];exact hjn
    have j0:(0:Int)<=j:=by omega
    have j1:(j:Int)<n8:=by omega
    obtain⟨g,off,U,xs,w2,K⟩:=Ak.kid_at HT.out rfl (HX.out wr HJ.out.1).2.2.2 j hjk;have hcall:=HI.out e T.ks[j] U w2 K.lies (Ac.alls_get HF.out j hjk);obtain⟨fx,hfx⟩:=pE (Bw.aw m T.ks[j]);rw[K.row,hfx]at hcall;have HC:Hid _:=hcall;have HY:Hid (Bw.aw m T.ks[j]=fx):=hfx;obtain⟨rfl,-,ryr,xone,ix,ixl,NZ,ez,hw2,NK,B2,-,-⟩:=K;have HB2:Hid (Below w1.heap.size w1 w2):=HJ.out.1.trans (B2.mono HJ.out.1.size);obtain⟨kb,hkb⟩:=pE wr.heap.size;have HKB:Hid (wr.heap.size=kb):=hkb;have HW2:Hid _:=hw2;rw[hkb]at NK;clear hcall hfx B2 hw2 hkb
    go_upto_region 15 with(first
     |refine wpList_load_mid rfl 44 _ rfl g (off+j*12) rfl xs.toList _ ryr ha rfl ixl ?_
     |refine wpList_store_row rfl 44 _ _ rfl wr.heap.size xs rfl rfl 44 _ NZ ix ez xone ?_)
    rw[HW2.out,HKB.out];clear ryr NZ HW2 HKB
    go_wp2_with (refine wpList_load_row rfl 44 _ rfl _ rfl 44 _ (0,0) _ NK ha rfl ix ?_)
    refine Calls.mono HC.out ?_;rintro e W3 ⟨rfl,b3⟩;have B3:Hid (Below w1.heap.size w1 W3):=HB2.out.trans (b3.mono HB2.out.size);clear b3 HC NK
    cases fx
    ·have HQ:Hid (Bw.aws m (T.ks.take (j+1))=false):=by
      show _=_;rw[Bw.aws_take _ _ _ hjk,HJ.out.2,HY.out];rfl
     go_wp2;go_roundg (gk-1)
     case measure=>omega
     case rel=>exact⟨j+1,by omega,by go_num,B3.out,HQ.out⟩
    have HQ:Hid (R=true):=by
     show _=_;rw[<-HR.out];exact Bw.aws_at m _ j hjk HY.out
    have HB3:Hid (Below w.heap.size w W3):=(HX.out W3 B3.out).2.2.2;go_wp2;go_ret;exact⟨Tk.ret_bool HQ.out.symm,HB3.out⟩
end Go.Proofs
