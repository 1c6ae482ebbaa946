import Derived.Test.YtenaelpdnccgnaaGreatDoorQAcRForm
import Derived.Test.YtenaelpdnccgnaaGreatDoorQBwTwiceM
set_option maxRecDepth 100000
set_option maxHeartbeats 32000000
namespace Go.Proofs
open Go.RowKit Go.Shelf
theorem Tryz.r16times_any (nd:Int):∀(d e:Nat) (T:Ac) (V:Ac.Vs) (w:World),Ac.Lies w w.heap.size e d V T->T.size<=2147483647->
  Calls Tryz.prog 29 #[.agg (Ac.row T V),.int .i64 nd] w λe w'=>e=.returned (.int .i64 (T.times nd))/\Below w.heap.size w w':=by
 intro d
 induction d with
 |zero=>intro e T V w h;exact h.elim
 |succ d ih=>
  intro e T V w hT hsz;obtain⟨a,cap,hvk⟩:=hT.kids;obtain⟨n,hn⟩:=pE (T.ks.length);rw[hn]at hvk;have hnb:n<=2147483647:=by have h1:=Ac.length_le_sizes T.ks;have h2:=T.size_eq;omega
  obtain⟨k,hk⟩:=pE (T.kind);obtain⟨m,hm⟩:=pE (T.node);obtain⟨A,hA⟩:=pE (T.a);obtain⟨x3,x4,x5,x6,x7,x9,x10,x11,hrow⟩:∃x3 x4 x5 x6 x7 x9 x10 x11,Ac.row T V=#[.int .i64 k,.int .i64 m,.int .i64 A,x3,x4,x5,x6,x7,.slice a n cap,x9,x10,x11]:=⟨_,_,_,_,_,_,_,_,by unfold Ac.row;rw[hvk,hk,hm,hA]⟩;obtain⟨ts,hts⟩:=pE (T.times nd);rw[hrow,hts];obtain⟨w1,hw1⟩:=pE (w.alloc (.cells #[.int .i64 k,.int .i64 m,.int .i64 A,x3,x4,x5,x6,x7,.slice a n cap,x9,x10,x11] 44));have B1:=pB hw1
  have N1:w1.heap[w.heap.size]? =some (.cells #[.int .i64 k,.int .i64 m,.int .i64 A,x3,x4,x5,x6,x7,.slice a n cap,x9,x10,x11] 44 (0,0)):=by rw[<-hw1];exact heap_alloc_new w _
  have H1:Hid _:=hw1;have HF:Hid (∀W,Below w1.heap.size w1 W->W.heap[w.heap.size]? =some (.cells #[.int .i64 k,.int .i64 m,.int .i64 A,x3,x4,x5,x6,x7,.slice a n cap,x9,x10,x11] 44 (0,0))/\Below w.heap.size w W):=λW hb=>⟨(hb.block _ (Array.getElem?_eq_some_iff.1 N1).1).trans N1,B1.trans (hb.mono B1.size)⟩;have HT:Hid (Ac.Lies w w.heap.size e (d+1) V T/\V.k=.slice a n cap):=⟨hT,hvk⟩;have HI:Hid _:=ih;obtain⟨c0,hc0⟩:∃c:Nat,(if Ac.hasNodeB k=true/\m=nd then 1 else 0)=c:=⟨_,rfl⟩;have hc1:c0<=1:=by rw[<-hc0];split<;>omega
  have HM:Hid (T.ks.length=n/\T.size<=2147483647/\ts=c0+Ac.timess nd T.ks/\(if Ac.hasNodeB k=true/\m=nd then 1 else 0)=c0):=⟨hn,hsz,by rw[<-hts,T.times_eq,hk,hm,hc0],hc0⟩;have CH:Hid _:=Tryz.r16Has_any k A (.int .i64 m) x3 x4 x5 x6 x7 (.slice a n cap) x9 x10 x11 w1;obtain⟨s,hs⟩:∃s:ByteArray,⟨(Ac.hasL k A).toArray⟩=s:=⟨_,rfl⟩;rw[hs]at CH;obtain⟨q,hq⟩:=pE (Ac.hasNodeB k)
  have HI1:Hid (∀W,Calls Tryz.prog 53 #[.string s,.int .u8 110] W λe w'=>e=.returned (.bool q)/\w'=W):=λW=>by
   have h:=Tryz.r16in_any s 110 W (by rw[<-hs];exact Ac.hasL_size _ _);have e1:Ac.inB s.data.toList 110=q:=by rw[<-hs,<-hq];exact(Ac.has_let k A).1
   rw[e1]at h;exact h
  rw[hq]at hc0;have ha:=Tryz.underlying44;have ia:(Tryz.prog.info? 44).map (·.size)=some (#[.int .i64 k,.int .i64 m,.int .i64 A,x3,x4,x5,x6,x7,.slice a n cap,x9,x10,x11]:Array Value).size:=Ak.rinfo;clear ih hT hsz hvk hn hrow hts hw1 B1 hk hm hA hs hq;have HC0:Hid _:=hc0;clear hc0
  go_enter Tryz.func29,Tryz.ntmps29
  go_upto_region 1 with fail
  rw[H1.out];clear H1
  go_wp2_with (refine wpList_load_row rfl 44 _ rfl _ rfl 44 _ (0,0) _ N1 ha rfl ia ?_)
  refine Calls.mono CH.out ?_;rintro e2 W2 ⟨rfl,b2⟩;have HB2:Hid (Below w1.heap.size w1 W2):=b2;have N2:=(HF.out _ b2).1;clear b2 N1 CH;have p1:W2.cell? ⟨w.heap.size,1,none⟩=some (.int .i64 m):=by simp[World.cell?,N2]
  have p8:W2.cell? ⟨w.heap.size,8,none⟩=some (.slice a n cap):=by simp[World.cell?,N2]
  go_wp2_with fail
  refine Calls.mono (HI1.out _) ?_;rintro e3 W3 ⟨rfl,hw3⟩;obtain rfl:=hw3.symm;clear hw3 N2
  have hv:(q=true/\(m==nd)=true/\c0=1)∨(q=true/\(m==nd)=false/\c0=0)∨(q=false/\c0=0):=by
   have h:=HC0.out
   cases q with
   |false=>exact .inr (.inr ⟨rfl,by rw[<-h];simp⟩)
   |true=>
    by_cases e:m=nd
    ·exact .inl ⟨rfl,by simp[e],by rw[<-h,if_pos ⟨rfl,e⟩]⟩
    exact .inr (.inl ⟨rfl,by simpa using e,by rw[<-h,if_neg (λh=>e h.2)]⟩)
  clear HC0
  rcases hv with⟨rfl,f0,rfl⟩|⟨rfl,f0,rfl⟩|⟨rfl,rfl⟩
  ·go_wp2
   go_loopg [5,20] n (λgk s i wr=>∃j c:Nat,gk+j=n/\i=.int .i64 j/\s=.int .i64 c/\c<=2147483647/\Hid (Below w1.heap.size w1 wr/\c=1+Ac.timess nd (T.ks.take j)))
   case atStart=>exact⟨0,1,by omega,rfl,rfl,by omega,HB2.out,by simp[Ac.timess]⟩
   case round=>
    obtain⟨j,c,hj,rfl,rfl,hcb,HJ⟩:=hrel;clear p1 p8
    by_cases hjn:j<n
    rotate_left
    ·have hd:decide ((j:Int)<n)=false:=decide_eq_false (by omega)
     have hall:T.ks.take j=T.ks:=List.take_of_length_le (by rw[HM.out.1];omega)
     have hts:c=ts:=by
      have h1:=HJ.out.2;rw[hall]at h1;have h3:=HM.out.2.2.1;omega
     have HX:Hid (Below w.heap.size w wr):=(HF.out _ HJ.out.1).2;subst hts;go_wp2;go_ret;exact⟨rfl,HX.out⟩
    have hd:decide ((j:Int)<n)=true:=decide_eq_true (by omega);have hjk:j<T.ks.length:=by rw[HM.out.1];exact hjn
    have hxs:=Ac.sizes_get T.ks j hjk;have j0:(0:Int)<=j:=by omega
    have j1:(j:Int)<n:=by omega
    obtain⟨g,off,U,xs,w2,K⟩:=Ak.kid_at HT.out.1 HT.out.2 (HF.out _ HJ.out.1).2 j hjk;obtain⟨x,hx⟩:=pE (T.ks[j]);have htl:=Ac.timess_le nd (T.ks.take j);rw[hx]at hxs K;have hcall:=HI.out e x U w2 K.lies (by have:=HM.out.2.1;have:=T.size_eq;omega);obtain⟨fx,hfx⟩:=pE (x.times nd);have hfl:=x.times_le nd;rw[K.row,hfx]at hcall;rw[hfx]at hfl;have HC:Hid _:=hcall;have HY:Hid (T.ks[j]=x/\x.times nd=fx):=⟨hx,hfx⟩;have hsum:c+fx<=2147483647:=by have h1:=HM.out.2.1;have h2:=T.size_eq;have h3:=HJ.out.2;omega
    obtain⟨rfl,-,ryr,xone,ix,ixl,NZ,ez,hw2,NK,B2,-,-⟩:=K;have HBW2:Hid (Below w1.heap.size w1 w2):=HJ.out.1.trans (B2.mono HJ.out.1.size);obtain⟨kb,hkb⟩:=pE (wr.heap.size);have HKB:Hid (wr.heap.size=kb):=hkb;have HW2:Hid _:=hw2;rw[hkb]at NK;clear hx hxs hcall hfx B2 hw2 hkb htl hfl
    go_upto_region 7 with(first
     |refine wpList_load_mid rfl 44 _ rfl g (off+j*12) rfl xs.toList _ ryr ha rfl ixl ?_
     |refine wpList_store_row rfl 44 _ _ rfl wr.heap.size xs rfl rfl 44 _ NZ ix ez xone ?_)
    rw[HW2.out,HKB.out];clear ryr NZ HW2 HKB
    go_wp2_with (refine wpList_load_row rfl 44 _ rfl _ rfl 44 _ (0,0) _ NK ha rfl ix ?_)
    refine Calls.mono HC.out ?_;rintro e5 W5 ⟨rfl,b5⟩;have HB5:Hid (Below w1.heap.size w1 W5):=HBW2.out.trans (b5.mono HBW2.out.size);clear b5 HC NK;go_wp2;go_roundg (gk-1)
    case measure=>omega
    case rel=>
     refine⟨j+1,c+fx,by omega,by go_num,by go_num,hsum,HB5.out, ?_⟩;rw[Ac.timess_take _ _ _ hjk,HY.out.1,HY.out.2,HJ.out.2];omega
  ·go_wp2
   go_loopg [5,20] n (λgk s i wr=>∃j c:Nat,gk+j=n/\i=.int .i64 j/\s=.int .i64 c/\c<=2147483647/\Hid (Below w1.heap.size w1 wr/\c=0+Ac.timess nd (T.ks.take j)))
   case atStart=>exact⟨0,0,by omega,rfl,rfl,by omega,HB2.out,by simp[Ac.timess]⟩
   case round=>
    obtain⟨j,c,hj,rfl,rfl,hcb,HJ⟩:=hrel;clear p1 p8
    by_cases hjn:j<n
    rotate_left
    ·have hd:decide ((j:Int)<n)=false:=decide_eq_false (by omega)
     have hall:T.ks.take j=T.ks:=List.take_of_length_le (by rw[HM.out.1];omega)
     have hts:c=ts:=by
      have h1:=HJ.out.2;rw[hall]at h1;have h3:=HM.out.2.2.1;omega
     have HX:Hid (Below w.heap.size w wr):=(HF.out _ HJ.out.1).2;subst hts;go_wp2;go_ret;exact⟨rfl,HX.out⟩
    have hd:decide ((j:Int)<n)=true:=decide_eq_true (by omega);have hjk:j<T.ks.length:=by rw[HM.out.1];exact hjn
    have hxs:=Ac.sizes_get T.ks j hjk;have j0:(0:Int)<=j:=by omega
    have j1:(j:Int)<n:=by omega
    obtain⟨g,off,U,xs,w2,K⟩:=Ak.kid_at HT.out.1 HT.out.2 (HF.out _ HJ.out.1).2 j hjk;obtain⟨x,hx⟩:=pE (T.ks[j]);have htl:=Ac.timess_le nd (T.ks.take j);rw[hx]at hxs K;have hcall:=HI.out e x U w2 K.lies (by have:=HM.out.2.1;have:=T.size_eq;omega);obtain⟨fx,hfx⟩:=pE (x.times nd);have hfl:=x.times_le nd;rw[K.row,hfx]at hcall;rw[hfx]at hfl;have HC:Hid _:=hcall;have HY:Hid (T.ks[j]=x/\x.times nd=fx):=⟨hx,hfx⟩;have hsum:c+fx<=2147483647:=by have h1:=HM.out.2.1;have h2:=T.size_eq;have h3:=HJ.out.2;omega
    obtain⟨rfl,-,ryr,xone,ix,ixl,NZ,ez,hw2,NK,B2,-,-⟩:=K;have HBW2:Hid (Below w1.heap.size w1 w2):=HJ.out.1.trans (B2.mono HJ.out.1.size);obtain⟨kb,hkb⟩:=pE (wr.heap.size);have HKB:Hid (wr.heap.size=kb):=hkb;have HW2:Hid _:=hw2;rw[hkb]at NK;clear hx hxs hcall hfx B2 hw2 hkb htl hfl
    go_upto_region 7 with(first
     |refine wpList_load_mid rfl 44 _ rfl g (off+j*12) rfl xs.toList _ ryr ha rfl ixl ?_
     |refine wpList_store_row rfl 44 _ _ rfl wr.heap.size xs rfl rfl 44 _ NZ ix ez xone ?_)
    rw[HW2.out,HKB.out];clear ryr NZ HW2 HKB
    go_wp2_with (refine wpList_load_row rfl 44 _ rfl _ rfl 44 _ (0,0) _ NK ha rfl ix ?_)
    refine Calls.mono HC.out ?_;rintro e5 W5 ⟨rfl,b5⟩;have HB5:Hid (Below w1.heap.size w1 W5):=HBW2.out.trans (b5.mono HBW2.out.size);clear b5 HC NK;go_wp2;go_roundg (gk-1)
    case measure=>omega
    case rel=>
     refine⟨j+1,c+fx,by omega,by go_num,by go_num,hsum,HB5.out, ?_⟩;rw[Ac.timess_take _ _ _ hjk,HY.out.1,HY.out.2,HJ.out.2];omega
  go_wp2
  go_loopg [5,20] n (λgk s i wr=>∃j c:Nat,gk+j=n/\i=.int .i64 j/\s=.int .i64 c/\c<=2147483647/\Hid (Below w1.heap.size w1 wr/\c=0+Ac.timess nd (T.ks.take j)))
  case atStart=>exact⟨0,0,by omega,rfl,rfl,by omega,HB2.out,by simp[Ac.timess]⟩
  case round=>
   obtain⟨j,c,hj,rfl,rfl,hcb,HJ⟩:=hrel;clear p1 p8
   by_cases hjn:j<n
   rotate_left
   ·have hd:decide ((j:Int)<n)=false:=decide_eq_false (by omega)
    have hall:T.ks.take j=T.ks:=List.take_of_length_le (by rw[HM.out.1];omega)
    have hts:c=ts:=by
     have h1:=HJ.out.2;rw[hall]at h1;have h3:=HM.out.2.2.1;omega
    have HX:Hid (Below w.heap.size w wr):=(HF.out _ HJ.out.1).2;subst hts;go_wp2;go_ret;exact⟨rfl,HX.out⟩
   have hd:decide ((j:Int)<n)=true:=decide_eq_true (by omega);have hjk:j<T.ks.length:=by rw[HM.out.1];exact hjn
   have hxs:=Ac.sizes_get T.ks j hjk;have j0:(0:Int)<=j:=by omega
   have j1:(j:Int)<n:=by omega
   obtain⟨g,off,U,xs,w2,K⟩:=Ak.kid_at HT.out.1 HT.out.2 (HF.out _ HJ.out.1).2 j hjk;obtain⟨x,hx⟩:=pE (T.ks[j]);have htl:=Ac.timess_le nd (T.ks.take j);rw[hx]at hxs K;have hcall:=HI.out e x U w2 K.lies (by have:=HM.out.2.1;have:=T.size_eq;omega);obtain⟨fx,hfx⟩:=pE (x.times nd);have hfl:=x.times_le nd;rw[K.row,hfx]at hcall;rw[hfx]at hfl;have HC:Hid _:=hcall;have HY:Hid (T.ks[j]=x/\x.times nd=fx):=⟨hx,hfx⟩;have hsum:c+fx<=2147483647:=by have h1:=HM.out.2.1;have h2:=T.size_eq;have h3:=HJ.out.2;omega
   obtain⟨rfl,-,ryr,xone,ix,ixl,NZ,ez,hw2,NK,B2,-,-⟩:=K;have HBW2:Hid (Below w1.heap.size w1 w2):=HJ.out.1.trans (B2.mono HJ.out.1.size);obtain⟨kb,hkb⟩:=pE (wr.heap.size);have HKB:Hid (wr.heap.size=kb):=hkb;have HW2:Hid _:=hw2;rw[hkb]at NK;clear hx hxs hcall hfx B2 hw2 hkb htl hfl
   go_upto_region 7 with(first
    |refine wpList_load_mid rfl 44 _ rfl g (off+j*12) rfl xs.toList _ ryr ha rfl ixl ?_
    |refine wpList_store_row rfl 44 _ _ rfl wr.heap.size xs rfl rfl 44 _ NZ ix ez xone ?_)
   rw[HW2.out,HKB.out];clear ryr NZ HW2 HKB
   go_wp2_with (refine wpList_load_row rfl 44 _ rfl _ rfl 44 _ (0,0) _ NK ha rfl ix ?_)
   refine Calls.mono HC.out ?_;rintro e5 W5 ⟨rfl,b5⟩;have HB5:Hid (Below w1.heap.size w1 W5):=HBW2.out.trans (b5.mono HBW2.out.size);clear b5 HC NK;go_wp2;go_roundg (gk-1)
   case measure=>omega
   case rel=>
    refine⟨j+1,c+fx,by omega,by go_num,by go_num,hsum,HB5.out, ?_⟩;rw[Ac.timess_take _ _ _ hjk,HY.out.1,HY.out.2,HJ.out.2];omega
theorem Tryz.r16Check_any (d e:Nat)(T:Ac)(V:Ac.Vs)(w:World)(hT:Ac.Lies w w.heap.size e d V T)(hF:T.All Ac.Fit)(hsz:T.size<=2147483647):
  Calls Tryz.prog 12 #[.agg (Ac.row T V)] w λe w'=>e=.returned (.int .i64 T.checkC)/\Below w.heap.size w w':=by
 obtain⟨R,hR⟩:=pE (T.checkC);obtain⟨k,hk⟩:=pE (T.kind);obtain⟨S,hS⟩:=pE (T.size);obtain⟨D,hD⟩:=pE (T.depth);obtain⟨P,hP⟩:=pE (T.FormAll)
 have HR:Hid (∀r:Int,((96<S∨24<D)->r=2)->(¬(96<S∨24<D)->(k=10∨k=12∨¬P)->r=4)->(¬(96<S∨24<D)->¬(k=10∨k=12∨¬P)->(∃i:Nat,i<24/\1<T.times (i:Int))->r=8)->
   (¬(96<S∨24<D)->¬(k=10∨k=12∨¬P)->¬(∃i:Nat,i<24/\1<T.times (i:Int))->r=0)->r=R):=λr h2 h4 h8 h0=>by
  rw[<-hR,<-T.doc_check];unfold Ac.docC;rw[hS,hD,hk,show T.All Ac.FormD=P from hP]
  by_cases c1:96<S∨24<D
  ·rw[if_pos c1];exact h2 c1
  rw[if_neg c1]
  by_cases c2:k=10∨k=12∨¬P
  ·rw[if_pos c2];exact h4 c1 c2
  rw[if_neg c2]
  by_cases c3:∃i:Nat,i<24/\1<T.times (i:Int)
  ·rw[if_pos c3];exact h8 c1 c2 c3
  rw[if_neg c3];exact h0 c1 c2 c3
 obtain⟨x1,x2,x3,x4,x5,x6,x7,x8,x9,x10,x11,hrow⟩:∃x1 x2 x3 x4 x5 x6 x7 x8 x9 x10 x11,Ac.row T V=#[.int .i64 k,x1,x2,x3,x4,x5,x6,x7,x8,x9,x10,x11]:=⟨_,_,_,_,_,_,_,_,_,_,_,by unfold Ac.row;rw[hk]⟩;have CS0:∀W,Below w.heap.size w W->Calls Tryz.prog 21 #[.agg (Ac.row T V)] W λe w'=>e=.returned (.int .i64 S)/\Below W.heap.size W w':=λW hb=>by rw[<-hS];exact Tryz.r16Size_any d e T V W ((hT.below hb).wider hb.size) hsz
 have CD0:∀W,Below w.heap.size w W->Calls Tryz.prog 22 #[.agg (Ac.row T V)] W λe w'=>e=.returned (.int .i64 D)/\Below W.heap.size W w':=λW hb=>by rw[<-hD];exact Tryz.r16Depth_any d e T V W ((hT.below hb).wider hb.size) hsz
 have CF0:∀W,Below w.heap.size w W->Calls Tryz.prog 28 #[.agg (Ac.row T V)] W λe w'=>Ak.Told P e/\Below W.heap.size W w':=λW hb=>by rw[<-hP];exact Tryz.r16Form_any d e T V W ((hT.below hb).wider hb.size) hF hsz
 have CT0:∀W (i:Int),Below w.heap.size w W->Calls Tryz.prog 29 #[.agg (Ac.row T V),.int .i64 i] W λe w'=>e=.returned (.int .i64 (T.times i))/\Below W.heap.size W w':=λW i hb=>Tryz.r16times_any i d e T V W ((hT.below hb).wider hb.size) hsz;rw[hrow]at CS0 CD0 CF0 CT0⊢;rw[hR];obtain⟨w1,hw1⟩:=pE (w.alloc (.cells #[.int .i64 k,x1,x2,x3,x4,x5,x6,x7,x8,x9,x10,x11] 44));have B1:=pB hw1
 have N1:w1.heap[w.heap.size]? =some (.cells #[.int .i64 k,x1,x2,x3,x4,x5,x6,x7,x8,x9,x10,x11] 44 (0,0)):=by rw[<-hw1];exact heap_alloc_new w _
 have H1:Hid _:=hw1;have HF:Hid (∀W,Below w1.heap.size w1 W->W.heap[w.heap.size]? =some (.cells #[.int .i64 k,x1,x2,x3,x4,x5,x6,x7,x8,x9,x10,x11] 44 (0,0))/\Below w.heap.size w W):=λW hb=>⟨(hb.block _ (Array.getElem?_eq_some_iff.1 N1).1).trans N1,B1.trans (hb.mono B1.size)⟩;have CS:Hid _:=CS0;have CD:Hid _:=CD0;have CF:Hid _:=CF0;have CT:Hid _:=CT0;have HTL:Hid (∀i:Int,T.times i<=2147483647):=λi=>by have:=T.times_le i;omega
 have ha:=Tryz.underlying44;have ia:(Tryz.prog.info? 44).map (·.size)=some (#[.int .i64 k,x1,x2,x3,x4,x5,x6,x7,x8,x9,x10,x11]:Array Value).size:=Ak.rinfo;clear hT hF hsz hR hk hS hD hP hrow CS0 CD0 CF0 CT0 hw1 B1
 go_enter Tryz.func12,Tryz.ntmps12
 go_upto_region 1 with fail
 rw[H1.out];clear H1
 go_wp2_with (refine wpList_load_row rfl 44 _ rfl _ rfl 44 _ (0,0) _ N1 ha rfl ia ?_)
 refine Calls.mono (CS.out _ (HF.out _ (Below.refl _ _)).2) ?_;rintro e2 W2 ⟨rfl,b2⟩;have HB2:Hid (Below w1.heap.size w1 W2):=b2;have HX2:Hid (Below w.heap.size w W2):=(HF.out _ b2).2;have N2:=(HF.out _ b2).1;have RG2:=Ak.range_box N2;clear b2 N1 CS N2
 by_cases g1:96<S
 ·have f1:decide (96<(S:Int))=true:=decide_eq_true (by omega)
  have HQ:Hid ((2:Int)=R):=HR.out 2 (λ_=>rfl) (λh=>absurd (.inl g1) h) (λh=>absurd (.inl g1) h) (λh=>absurd (.inl g1) h);clear g1;go_wp2;go_ret;exact⟨by rw[<-HQ.out];rfl,HX2.out⟩
 have f1:decide (96<(S:Int))=false:=decide_eq_false (by omega);have HG1:Hid (¬96<S):=g1;clear g1
 go_wp2_with (refine Ak.load_want (by rfl) 44 _ rfl w.heap.size 0 rfl _ _ RG2 ha rfl ia ?_)
 refine Calls.mono (CD.out _ HX2.out) ?_;rintro e3 W3 ⟨rfl,b3⟩;have HB3:Hid (Below w1.heap.size w1 W3):=HB2.out.trans (b3.mono HB2.out.size);have HX3:Hid (Below w.heap.size w W3):=(HF.out _ HB3.out).2;have N3:=(HF.out _ HB3.out).1;have RG3:=Ak.range_box N3;have p0:W3.cell? ⟨w.heap.size,0,none⟩=some (.int .i64 k):=by simp[World.cell?,N3]
 clear b3 CD RG2 N3 HB2 HX2
 by_cases g2:24<D
 ·have f2:decide (24<(D:Int))=true:=decide_eq_true (by omega)
  have HQ:Hid ((2:Int)=R):=HR.out 2 (λ_=>rfl) (λh=>absurd (.inr g2) h) (λh=>absurd (.inr g2) h) (λh=>absurd (.inr g2) h);clear g2 RG3;go_wp2;go_ret;exact⟨by rw[<-HQ.out];rfl,HX3.out⟩
 have f2:decide (24<(D:Int))=false:=decide_eq_false (by omega);have HG2:Hid (¬(96<S∨24<D)):=λh=>h.elim HG1.out g2;clear g2 HG1
 by_cases g3:k=10
 ·have f3:(k==10)=true:=by simp[g3]
  have HQ:Hid ((4:Int)=R):=HR.out 4 (λh=>absurd h HG2.out) (λ_ _=>rfl) (λ_ h=>absurd (.inl g3) h) (λ_ h=>absurd (.inl g3) h);clear g3 RG3;go_wp2;go_ret;exact⟨by rw[<-HQ.out];rfl,HX3.out⟩
 have f3:(k==10)=false:=by simpa using g3
 by_cases g4:k=12
 ·have f4:(k==12)=true:=by simp[g4]
  have HQ:Hid ((4:Int)=R):=HR.out 4 (λh=>absurd h HG2.out) (λ_ _=>rfl) (λ_ h=>absurd (.inr (.inl g4)) h) (λ_ h=>absurd (.inr (.inl g4)) h);clear g3 g4 RG3;go_wp2;go_ret;exact⟨by rw[<-HQ.out];rfl,HX3.out⟩
 have f4:(k==12)=false:=by simpa using g4
 have HG4:Hid (¬k=10/\¬k=12):=⟨g3,g4⟩;clear g3 g4
 go_wp2_with (refine Ak.load_want (by rfl) 44 _ rfl w.heap.size 0 rfl _ _ RG3 ha rfl ia ?_)
 refine Calls.mono (CF.out _ HX3.out) ?_;rintro e4 W4 ⟨⟨r,rfl,hr⟩,b4⟩;have HB4:Hid (Below w1.heap.size w1 W4):=HB3.out.trans (b4.mono HB3.out.size);have HX4:Hid (Below w.heap.size w W4):=(HF.out _ HB4.out).2;have HRR:Hid (r=true↔P):=hr;clear b4 CF RG3 hr HB3 HX3 p0
 cases r with
 |false=>
  have HNP:Hid (¬P):=λh=>by have:=HRR.out.2 h;cases this
  have HQ:Hid ((4:Int)=R):=HR.out 4 (λh=>absurd h HG2.out) (λ_ _=>rfl) (λ_ h=>absurd (.inr (.inr HNP.out)) h) (λ_ h=>absurd (.inr (.inr HNP.out)) h);go_wp2;go_ret;exact⟨by rw[<-HQ.out];rfl,HX4.out⟩
 |true=>
 have HNN:Hid (¬(k=10∨k=12∨¬P)):=λh=>by
  rcases h with h|h|h
  ·exact HG4.out.1 h
  ·exact HG4.out.2 h
  exact h (HRR.out.1 (by first|rfl|trivial))
 clear HRR HG4;go_wp2
 go_loopg [3] 24 (λgk s3 wr=>∃j:Nat,gk+j=24/\s3=.int .i64 j/\Hid ((∀i:Nat,i<j->¬1<T.times (i:Int))/\Below w1.heap.size w1 wr))
 case atStart=>exact⟨0,by omega,rfl,λi h=>absurd h (by omega),HB4.out⟩
 case round=>
  obtain⟨j,hj,rfl,HJ⟩:=hrel;have NB:=(HF.out _ HJ.out.2).1
  by_cases hjn:j<24
  rotate_left
  ·have hd:decide ((j:Int)<24)=false:=decide_eq_false (by omega)
   have HX:Hid (Below w.heap.size w wr):=(HF.out _ HJ.out.2).2;have HQ:Hid ((0:Int)=R):=HR.out 0 (λh=>absurd h HG2.out) (λ_ h=>absurd h HNN.out) (λ_ _ h=>by obtain⟨i,hi,h2⟩:=h;exact absurd h2 (HJ.out.1 i (by omega))) (λ_ _ _=>rfl);clear NB;go_wp2;go_ret;exact⟨by rw[<-HQ.out];rfl,HX.out⟩
  have hd:decide ((j:Int)<24)=true:=decide_eq_true (by omega);have hc:=CT.out wr j (HF.out _ HJ.out.2).2;obtain⟨q,hq⟩:=pE (T.times (j:Int));rw[hq]at hc;have HC:Hid _:=hc;have HQJ:Hid (T.times (j:Int)=q):=hq;clear hc hq
  go_wp2_with (refine wpList_load_row rfl 44 _ rfl _ rfl 44 _ (0,0) _ NB ha rfl ia ?_)
  refine Calls.mono HC.out ?_;rintro e5 W5 ⟨rfl,b5⟩;have HB5:Hid (Below w1.heap.size w1 W5):=HJ.out.2.trans (b5.mono HJ.out.2.size);have HX5:Hid (Below w.heap.size w W5):=(HF.out _ HB5.out).2;clear b5 NB HC
  by_cases g5:1<q
  ·have f5:decide (1<(q:Int))=true:=decide_eq_true (by omega)
   have HQ:Hid ((8:Int)=R):=HR.out 8 (λh=>absurd h HG2.out) (λ_ h=>absurd h HNN.out) (λ_ _ _=>rfl) (λ_ _ h=>absurd ⟨j,hjn,by rw[HQJ.out];exact g5⟩ h);clear g5;go_wp2;go_ret;exact⟨by rw[<-HQ.out];rfl,HX5.out⟩
  have f5:decide (1<(q:Int))=false:=decide_eq_false (by omega);have HN5:Hid (¬1<T.times (j:Int)):=by show¬_;rw[HQJ.out];exact g5
  clear g5;go_wp2;go_roundg (gk-1)
  case measure=>omega
  case rel=>
   refine⟨j+1,by omega,by go_num,λi hi=> ?_,HB5.out⟩
   by_cases e:i=j
   ·subst e;exact HN5.out
   exact HJ.out.1 i (by omega)
end Go.Proofs
