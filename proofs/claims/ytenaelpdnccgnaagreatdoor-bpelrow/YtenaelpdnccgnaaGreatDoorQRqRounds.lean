import Derived.Test.YtenaelpdnccgnaaGreatDoorQNtTake
import Derived.Carry
import Derived.ProofKit
import Derived.SizedLaws
set_option maxRecDepth 100000
set_option maxHeartbeats 32000000
namespace Go.Proofs
open Go.RowKit Go.Shelf
theorem Rk.own_wider {w:World}{B B':Nat}{e:TypeId}{size:Nat}{v:Value}{n:Nat}{cs:List Value}(h:w.ownsRow B e size v n cs)(hB:B'<=B):w.ownsRow B' e size v n cs:=by
 rcases h with⟨hl,h|⟨g,cap,cur,h1,h2,h3⟩⟩
 ·exact⟨hl,.inl h⟩
 exact⟨hl,.inr ⟨g,cap,cur,h1,Nat.le_trans hB h2,h3⟩⟩
theorem Rk.round_hold (bn bl n c:Nat)(a:Option Addr)(es:List (Nat×Nat))(w:World)(hn:n<=64)(hes:∀e,e∈es->e.1<n/\e.2<n)(hbn:bn<w.heap.size)(hbl:bl<w.heap.size)(hcn:w.cell? ⟨bn,0,none⟩=some (.int .i64 n))(hcl:w.cell? ⟨bl,0,none⟩=some (.slice a es.length c))
  (hE:Rk.Eds w w.heap.size a (Rk.up es)) (hm:es.length<=1000000000000000):Rq.Hold 98 #[.pointer (some ⟨bn,0,none⟩),.pointer (some ⟨bl,0,none⟩)] (λi=>Rk.lead es i i) n w:=by
 intro W i hi hW;show Calls Tryz.prog 98 #[.int .i64 i,.pointer (some ⟨bn,0,none⟩),.pointer (some ⟨bl,0,none⟩)] W _;have c0:W.cell? ⟨bn,0,none⟩=some (.int .i64 n):=(hW.cell (p:=⟨bn,0,none⟩) hbn).trans hcn;have c1:W.cell? ⟨bl,0,none⟩=some (.slice a es.length c):=(hW.cell (p:=⟨bl,0,none⟩) hbl).trans hcl;have H1:Hid _:=Tryz.goes_any n i a c es W hn hi hes ((hE.below hW).wider hW.size) hm;clear hcn hcl hE hW hes
 go_enter Tryz.func98,Tryz.ntmps98
 go_wp2_with fail
 refine Calls.mono H1.out ?_;rintro e W2 ⟨rfl,hb⟩;go_wp2;go_ret;exact⟨rfl,hb⟩
theorem Tryz.round_err (n err:Int)(a:Option Addr)(c:Nat)(rs:List (Int×Int))(w:World)(hE:Rk.Eds w w.heap.size a rs)(hm:rs.length<=1000000000000000)(he:Rk.chk n rs=err)(h0:err≠0):
  Calls Tryz.prog 73 #[.int .i64 n,.slice a rs.length c] w λe w'=>e=.returned (.tuple #[.slice none 0 0,.int .i64 err])/\Below w.heap.size w w':=by
 have A0:Below w.heap.size w ((w.alloc (.cells #[.int .i64 n] 3)).alloc (.cells #[.slice a rs.length c] 112)):=((Below.refl _ w).alloc (Nat.le_refl _) _).alloc (by simp) _;have H1:Hid _:=Tryz.rkCheck_any n a c rs ((w.alloc (.cells #[.int .i64 n] 3)).alloc (.cells #[.slice a rs.length c] 112)) ((hE.below A0).wider A0.size) hm;rw[he]at H1;have hd:(err==0)=false:=by simpa using h0
 have HA:Hid _:=A0;obtain⟨m,hmm⟩:=pE (rs.length);rw[hmm]at H1 HA⊢;clear hE hm he hmm h0 A0
 go_enter Tryz.func73,Tryz.ntmps73
 go_wp2_with fail
 refine Calls.mono H1.out ?_;rintro e W1 ⟨rfl,hb⟩;go_wp2;go_ret2;exact⟨rfl,HA.out.trans (hb.mono HA.out.size)⟩
theorem Tryz.round_ok (n:Nat)(a:Option Addr)(c:Nat)(es:List (Nat×Nat))(w:World)(hn:n<=64)(hes:∀e,e∈es->e.1<n/\e.2<n)(hE:Rk.Eds w w.heap.size a (Rk.up es))(hm:es.length<=1000000000000000)(hck:Rk.chk n (Rk.up es)=0):
  Calls Tryz.prog 73 #[.int .i64 n,.slice a es.length c] w λe w'=>∃v,e=.returned (.tuple #[v,.int .i64 0])/\
   w'.ownsRow w.heap.size 3 1 v ((List.range n).filter (λi=>Rk.lead es i i)).length (Rq.nums ((List.range n).filter (λi=>Rk.lead es i i)))/\Below w.heap.size w w':=by
 have A0:Below w.heap.size w ((w.alloc (.cells #[.int .i64 n] 3)).alloc (.cells #[.slice a es.length c] 112)):=((Below.refl _ w).alloc (Nat.le_refl _) _).alloc (by simp) _;have E0:=(hE.below A0).wider A0.size;have H1:Hid _:=Tryz.rkCheck_any n a c (Rk.up es) ((w.alloc (.cells #[.int .i64 n] 3)).alloc (.cells #[.slice a es.length c] 112)) E0 (by rw[Rk.up_length];exact hm);rw[hck,Rk.up_length]at H1
 have HX:Hid (Below w.heap.size w ((w.alloc (.cells #[.int .i64 n] 3)).alloc (.cells #[.slice a es.length c] 112))/\n<=64/\(∀e,e∈es->e.1<n/\e.2<n)/\Rk.Eds ((w.alloc (.cells #[.int .i64 n] 3)).alloc (.cells #[.slice a es.length c] 112)) (w.heap.size+2) a (Rk.up es)/\es.length<=1000000000000000):=
  ⟨A0,hn,hes,by simpa using E0,hm⟩
 clear hE hm hn hes hck A0 E0
 go_enter Tryz.func73,Tryz.ntmps73
 go_wp2_with fail
 refine Calls.mono H1.out ?_;rintro e W1 ⟨rfl,hb⟩;have hb':Below (w.heap.size+2) ((w.alloc (.cells #[.int .i64 n] 3)).alloc (.cells #[.slice a es.length c] 112)) W1:=by simpa using hb
 have hs:=hb'.size;have hz:w.heap.size+2<=W1.heap.size:=by simpa using hs
 have k0:W1.cell? ⟨w.heap.size,0,none⟩=some (.int .i64 n):=by rw[hb'.cell (p:=⟨w.heap.size,0,none⟩) (by show w.heap.size<_;omega)];simp
 have k1:W1.cell? ⟨w.heap.size+1,0,none⟩=some (.slice a es.length c):=by rw[hb'.cell (p:=⟨w.heap.size+1,0,none⟩) (by show w.heap.size+1<_;omega)];simp
 have H2:Hid _:=Tryz.things_any (λi=>Rk.lead es i i) 98 #[.pointer (some ⟨w.heap.size,0,none⟩),.pointer (some ⟨w.heap.size+1,0,none⟩)] Rk.enters_round n W1
  (Rk.round_hold w.heap.size (w.heap.size+1) n c a es W1 HX.out.2.1 HX.out.2.2.1 (by omega) (by omega) k0 k1 ((HX.out.2.2.2.1.below hb').wider hz) HX.out.2.2.2.2) HX.out.2.1
 have HB:Hid (Below w.heap.size w W1):=HX.out.1.trans (hb'.mono (by omega));clear hb hb' hs H1 HX
 go_wp2_with fail
 refine Calls.mono H2.out ?_;rintro e W4 ⟨v,rfl,hown,hb4⟩;obtain⟨av,cv,rfl⟩:=Rq.own_shape hown;go_wp2;go_ret2;exact⟨_,rfl,Rk.own_wider hown HB.out.size,HB.out.trans (hb4.mono HB.out.size)⟩
theorem Rk.outB_eq (n x y:Int):Rk.outB n (x,y)=(decide (x<0)||decide (n<=x)||decide (y<0)||decide (n<=y)):=by
 rw[Bool.eq_iff_iff];simp only[Rk.outB,Rk.inB,Bool.or_eq_true,Bool.not_eq_true',Bool.and_eq_false_iff,decide_eq_true_eq,decide_eq_false_iff_not];omega
theorem Tryz.rcheck_any (n:Int)(a:Option Addr)(c:Nat)(rs:List (Int×Int))(w:World)(hE:Rk.Eds w w.heap.size a rs)(hn:rs.length<=1000000000000000):
  Calls Tryz.prog 140 #[.int .i64 n,.slice a rs.length c] w λe w'=>e=.returned (.int .i64 (Rk.chk n rs))/\Below w.heap.size w w':=by
 obtain⟨m,hm⟩:=pE (rs.length);have HE:Hid (Rk.Eds w w.heap.size a rs/\rs.length=m):=⟨hE,hm⟩;rw[hm]at hn⊢;obtain⟨r,hr⟩:=pE (Rk.chk n rs);have HR:Hid ((if n<0∨64<n then 1 else if 256<m then 2 else if rs.any (Rk.outB n)=true then 4 else 0)=r):=by show _=r;rw[<-hr,<-hm];rfl
 rw[hr];clear hE hr hm
 by_cases h1:n<0
 ·have d1:decide (n<0)=true:=decide_eq_true h1
  have hr:r=1:=by rw[<-HR.out,if_pos (.inl h1)]
  subst hr;clear h1
  go_enter Tryz.func140,Tryz.ntmps140
  go_wp2;go_ret;exact⟨rfl,Below.refl _ _⟩
 have d1:decide (n<0)=false:=decide_eq_false h1
 by_cases h2:64<n
 ·have d2:decide (64<n)=true:=decide_eq_true h2
  have hr:r=1:=by rw[<-HR.out,if_pos (.inr h2)]
  subst hr;clear h1 h2
  go_enter Tryz.func140,Tryz.ntmps140
  go_wp2;go_ret;exact⟨rfl,Below.refl _ _⟩
 have d2:decide (64<n)=false:=decide_eq_false h2
 by_cases h3:256<m
 ·have hr:r=2:=by rw[<-HR.out,if_neg (show¬(n<0∨64<n)by omega),if_pos h3]
  subst hr;have d3:decide ((256:Int)<m)=true:=decide_eq_true (by omega);clear h1 h2
  go_enter Tryz.func140,Tryz.ntmps140
  go_wp2;go_ret;exact⟨rfl,Below.refl _ _⟩
 have d3:decide ((256:Int)<m)=false:=decide_eq_false (by omega);have HR':Hid ((if rs.any (Rk.outB n)=true then 4 else 0)=r):=by show _=r;rw[<-HR.out,if_neg (show¬(n<0∨64<n)by omega),if_neg h3]
 clear HR h1 h2
 go_enter Tryz.func140,Tryz.ntmps140
 go_wp2
 go_loopg [18] m (λgk s18 wr=>∃k:Nat,gk+k=m/\s18=.int .i64 k/\Hid ((rs.take k).any (Rk.outB n)=false/\Below w.heap.size w wr))
 case atStart=>exact⟨0,by omega,rfl,by simp,Below.refl _ _⟩
 case round=>
  obtain⟨k,hk,rfl,HB⟩:=hrel
  by_cases hlt:k<m
  rotate_left
  ·have hd:decide ((k:Int)<m)=false:=decide_eq_false (by omega)
   have hr:r=0:=by
    rw[<-HR'.out];have:=HB.out.1;rw[List.take_of_length_le (by rw[HE.out.2];omega)]at this;rw[this];rfl
   subst hr;go_wp2;go_ret;exact⟨rfl,HB.out.2⟩
  have hd:decide ((k:Int)<m)=true:=decide_eq_true (by omega);have hkl:k<rs.length:=by rw[HE.out.2];exact hlt
  obtain⟨q,off,rfl,hq,h0,h1⟩:=HE.out.1 k hkl;obtain⟨e,he⟩:=pE (rs[k]);obtain⟨x,y⟩:=e;rw[he]at h0 h1;have hc0:wr.cell? ⟨q,off+k*2,none⟩=some (.int .i64 x):=by rw[HB.out.2.cell (p:=⟨q,off+k*2,none⟩) hq];exact h0
  have hc1:wr.cell? ⟨q,off+k*2+1,none⟩=some (.int .i64 y):=by rw[HB.out.2.cell (p:=⟨q,off+k*2+1,none⟩) hq];exact h1
  have HX:Hid (rs[k]=(x,y)):=he;have hqz:q<wr.heap.size:=by have:=HB.out.2.size;omega
  have hu:=Tryz.underlying151;have HA:Hid (Below w.heap.size w (wr.alloc (.cells #[.int .i64 x,.int .i64 y] 151))):=HB.out.2.alloc HB.out.2.size _
  have Hyes:Hid (Rk.outB n (x,y)=true->r=4):=λh=>by
   rw[<-HR'.out,if_pos (List.any_eq_true.2 ⟨rs[k],List.getElem_mem hkl,by rw[HX.out];exact h⟩)]
  have Hno:Hid (Rk.outB n (x,y)=false->(rs.take (k+1)).any (Rk.outB n)=false):=λh=>by
   rw[Tm.take_snoc _ _ hkl,List.any_append,HB.out.1,HX.out];simp[h]
  have HO:Hid _:=Rk.outB_eq n x y;clear h0 h1 he
  cases e0:decide (x<0)
  ·cases e1:decide (n<=x)
   ·cases e2:decide (y<0)
    ·cases e3:decide (n<=y)
     ·have H4:Hid (Rk.outB n (x,y)=false):=by show _=_;rw[HO.out,e0,e1,e2,e3];rfl
      go_wp2;go_roundg (gk-1)
      case measure=>omega
      case rel=>exact⟨k+1,by omega,by go_num,Hno.out H4.out,HA.out⟩
     obtain rfl:r=4:=Hyes.out (by rw[HO.out,e0,e1,e2,e3];rfl);go_wp2;go_ret;exact⟨rfl,HA.out⟩
    obtain rfl:r=4:=Hyes.out (by rw[HO.out,e0,e1,e2];rfl);go_wp2;go_ret;exact⟨rfl,HA.out⟩
   obtain rfl:r=4:=Hyes.out (by rw[HO.out,e0,e1];rfl);go_wp2;go_ret;exact⟨rfl,HA.out⟩
  obtain rfl:r=4:=Hyes.out (by rw[HO.out,e0];rfl);go_wp2;go_ret;exact⟨rfl,HA.out⟩
theorem Rq.drop_at {α:Type}(l:List α)(k:Nat)(h:k<l.length):l.drop k=l[k]::l.drop (k+1):=List.drop_eq_getElem_cons h
theorem Tryz.rleads_any (n x0 y0:Nat)(a:Option Addr)(c:Nat)(es:List (Nat×Nat))(w:World)(hn:n<=64)(hy0:y0<n)(hes:∀e,e∈es->e.1<n/\e.2<n)(hE:Rk.Eds w w.heap.size a (Rk.up es))(hm:es.length<=1000000000000000):
  Calls Tryz.prog 141 #[.int .i64 n,.slice a es.length c,.int .i64 x0,.int .i64 y0] w λe w'=>e=.returned (.bool (Rk.lead es x0 y0))/\Below w.heap.size w w':=by
 have HE:Hid (Rk.Eds w w.heap.size a (Rk.up es)/\∀e,e∈es->e.1<n/\e.2<n):=⟨hE,hes⟩;have hy0':(y0:Int)<n:=by omega
 have hmk:=Rq.make_bools n hn;obtain⟨m,hmm⟩:=pE (es.length);rw[hmm]at hm⊢;have HM:Hid (es.length=m):=hmm;have X1:Hid (Rq.Bits (w.alloc (.cells (Rq.row n) 4)) w.heap.size (List.replicate n false)):=Rq.row_bits w n;have B1:Hid (Below w.heap.size w (w.alloc (.cells (Rq.row n) 4))):=(Below.refl _ w).alloc (Nat.le_refl _) _;have HS:Hid (Rk.sweeps es n (Rk.first x0 es (List.replicate n false))=(List.range n).map (Rk.lead es x0)):=Rk.sweeps_eq hes x0;obtain⟨r,hr⟩:=pE (Rk.lead es x0 y0);have HR:Hid (Rk.lead es x0 y0=r):=hr;rw[hr];clear hE hes hmm hr
 go_enter Tryz.func141,Tryz.ntmps141
 go_wp2;clear hmk
 go_loopg [19] m (λgk s19 wr=>∃(k:Nat) (cur:List Bool),gk+k=m/\s19=.int .i64 k/\Hid (Rk.first x0 (es.drop k) cur=Rk.first x0 es (List.replicate n false)/\cur.length=n/\Rq.Bits wr w.heap.size cur/\Below w.heap.size w wr))
 case atStart=>exact⟨0,_,by omega,rfl,rfl,by simp,X1.out,B1.out⟩
 case round=>
  obtain⟨k,cur,hk,rfl,HI⟩:=hrel;clear X1 B1
  by_cases hlt:k<m
  ·have hd:decide ((k:Int)<m)=true:=decide_eq_true (by omega)
   have hkl:k<es.length:=by rw[HM.out];exact hlt
   obtain⟨q,off,rfl,hq,h0,h1⟩:=HE.out.1 k (by rw[Rk.up_length];exact hkl);obtain⟨e,he⟩:=pE (es[k]);obtain⟨x,y⟩:=e;have hxy:=HE.out.2 _ (List.getElem_mem hkl);rw[he]at hxy;obtain⟨hx,hy⟩:x<n/\y<n:=hxy;rw[Rk.up_get,he]at h0 h1;have hc0:wr.cell? ⟨q,off+k*2,none⟩=some (.int .i64 x):=by rw[HI.out.2.2.2.cell (p:=⟨q,off+k*2,none⟩) hq];exact h0
   have hc1:wr.cell? ⟨q,off+k*2+1,none⟩=some (.int .i64 y):=by rw[HI.out.2.2.2.cell (p:=⟨q,off+k*2+1,none⟩) hq];exact h1
   have HX:Hid (es[k]=(x,y)):=he;have hz:w.heap.size<wr.heap.size:=HI.out.2.2.1.lt;have hqz:q<wr.heap.size:=by omega
   have hx':(x:Int)<n:=by omega
   have hy':(y:Int)<n:=by omega
   have hu:=Tryz.underlying151;obtain⟨b1,hb1⟩:∃b,cur[x]? =some b:=⟨_,List.getElem?_eq_getElem (by rw[HI.out.2.1];exact hx)⟩;obtain⟨b2,hb2⟩:∃b,cur[y]? =some b:=⟨_,List.getElem?_eq_getElem (by rw[HI.out.2.1];exact hy)⟩;have k1:=HI.out.2.2.1.cell x b1 hb1;have k2:=HI.out.2.2.1.cell y b2 hb2;have f2:=HI.out.2.2.1.frozen y;have HC1:Hid (cur[x]? =some b1):=hb1
   have HA:Hid (Below w.heap.size w (wr.alloc (.cells #[.int .i64 x,.int .i64 y] 151))/\Rq.Bits (wr.alloc (.cells #[.int .i64 x,.int .i64 y] 151)) w.heap.size cur):=
    ⟨HI.out.2.2.2.alloc (by omega) _,HI.out.2.2.1.keep (Below.heap_alloc _ _ _ hz)⟩
   have HS2:Hid (Below w.heap.size w ((wr.setCell ⟨w.heap.size,y,none⟩ (.bool true)).alloc (.cells #[.int .i64 x,.int .i64 y] 151))/\Rq.Bits ((wr.setCell ⟨w.heap.size,y,none⟩ (.bool true)).alloc (.cells #[.int .i64 x,.int .i64 y] 151)) w.heap.size (cur.set y true)):=
    ⟨(HI.out.2.2.2.setCell (p:=⟨w.heap.size,y,none⟩) (Nat.le_refl _) _).alloc (by simp;omega) _,(HI.out.2.2.1.put y true).keep (Below.heap_alloc _ _ _ (by simpa using hz))⟩
   clear h0 h1 he hb1 hb2
   have HN:Hid (Rk.first x0 (es.drop (k+1)) (if x=x0 then cur.set y true else cur)=Rk.first x0 es (List.replicate n false)):=by
    show _=_;rw[<-HI.out.1,Rq.drop_at es k hkl,HX.out];rfl
   by_cases hxx:x=x0
   ·subst hxx
    rw[if_pos rfl]at HN;go_wp2;go_roundg (gk-1)
    case measure=>omega
    case rel=>exact⟨k+1,_,by omega,by go_num,HN.out,by simpa using HI.out.2.1,HS2.out.2,HS2.out.1⟩
   rw[if_neg hxx]at HN;have hd2:((x:Int)==(x0:Int))=false:=by simp;omega
   go_wp2;go_roundg (gk-1)
   case measure=>omega
   case rel=>exact⟨k+1,_,by omega,by go_num,HN.out,HI.out.2.1,HA.out.2,HA.out.1⟩
  have hd:decide ((k:Int)<m)=false:=decide_eq_false (by omega)
  have HJ:Hid (Rk.sweeps es n cur=(List.range n).map (Rk.lead es x0)/\cur.length=n/\Rq.Bits wr w.heap.size cur/\Below w.heap.size w wr):=by
   have h1:=HI.out.1;rw[List.drop_eq_nil_of_le (by rw[HM.out];omega)]at h1;have h2:cur=Rk.first x0 es (List.replicate n false):=h1;refine⟨?_,HI.out.2⟩;rw[h2];exact HS.out
  clear HI HS;go_wp2
  go_loopg [12] n (λgk s12 wr=>∃(k:Nat) (cur:List Bool),gk+k=n/\s12=.int .i64 k/\Hid (Rk.sweeps es (n-k) cur=(List.range n).map (Rk.lead es x0)/\cur.length=n/\Rq.Bits wr w.heap.size cur/\Below w.heap.size w wr))
  case atStart=>exact⟨0,_,by omega,rfl,HJ.out⟩
  case round=>
   obtain⟨k',cur',hk',rfl,HO⟩:=hrel;clear HJ hd
   by_cases hlt':k'<n
   rotate_left
   ·have hd:decide ((k':Int)<n)=false:=decide_eq_false (by omega)
    have hfin:cur'=(List.range n).map (Rk.lead es x0):=by
     have:=HO.out.1;rw[show n-k'=0 by omega]at this;exact this
    have hcell:=HO.out.2.2.1.cell y0 r (by rw[hfin];simp[hy0,HR.out]);go_wp2;go_ret;exact⟨rfl,HO.out.2.2.2⟩
   have hd:decide ((k':Int)<n)=true:=decide_eq_true (by omega);have hgg:gk=n-k':=by omega
   subst hgg;go_wp2
   go_loopg [39] m (λgi s39 wr=>∃(k:Nat) (cur:List Bool),gi+k=m/\s39=.int .i64 k/\Hid (Rk.sweep (es.drop k) cur=Rk.sweep es cur'/\cur.length=n/\Rq.Bits wr w.heap.size cur/\Below w.heap.size w wr))
   case atStart=>exact⟨0,_,by omega,rfl,rfl,HO.out.2⟩
   case round=>
    clear hk hlt;obtain⟨k,cur,hk,rfl,HI⟩:=hrel;clear hd
    by_cases hlt:k<m
    rotate_left
    ·have hd:decide ((k:Int)<m)=false:=decide_eq_false (by omega)
     have HN:Hid (Rk.sweeps es (n-(k'+1)) cur=(List.range n).map (Rk.lead es x0)/\cur.length=n/\Rq.Bits wr w.heap.size cur/\Below w.heap.size w wr):=by
      have h1:=HI.out.1;rw[List.drop_eq_nil_of_le (by rw[HM.out];omega)]at h1;have h2:cur=Rk.sweep es cur':=h1;refine⟨?_,HI.out.2⟩;have h3:=HO.out.1;rw[show n-k'=(n-(k'+1))+1 by omega]at h3;rw[h2];exact h3
     go_wp2;go_roundg (n-(k'+1))
     case measure=>omega
     case rel=>exact⟨k'+1,_,by omega,by go_num,HN.out⟩
    have hd:decide ((k:Int)<m)=true:=decide_eq_true (by omega);have hkl:k<es.length:=by rw[HM.out];exact hlt
    obtain⟨q,off,rfl,hq,h0,h1⟩:=HE.out.1 k (by rw[Rk.up_length];exact hkl);obtain⟨e,he⟩:=pE (es[k]);obtain⟨x,y⟩:=e;have hxy:=HE.out.2 _ (List.getElem_mem hkl);rw[he]at hxy;obtain⟨hx,hy⟩:x<n/\y<n:=hxy;rw[Rk.up_get,he]at h0 h1;have hc0:wr.cell? ⟨q,off+k*2,none⟩=some (.int .i64 x):=by rw[HI.out.2.2.2.cell (p:=⟨q,off+k*2,none⟩) hq];exact h0
    have hc1:wr.cell? ⟨q,off+k*2+1,none⟩=some (.int .i64 y):=by rw[HI.out.2.2.2.cell (p:=⟨q,off+k*2+1,none⟩) hq];exact h1
    have HX:Hid (es[k]=(x,y)):=he;have hz:w.heap.size<wr.heap.size:=HI.out.2.2.1.lt;have hqz:q<wr.heap.size:=by omega
    have hx':(x:Int)<n:=by omega
    have hy':(y:Int)<n:=by omega
    have hu:=Tryz.underlying151;obtain⟨b1,hb1⟩:∃b,cur[x]? =some b:=⟨_,List.getElem?_eq_getElem (by rw[HI.out.2.1];exact hx)⟩;obtain⟨b2,hb2⟩:∃b,cur[y]? =some b:=⟨_,List.getElem?_eq_getElem (by rw[HI.out.2.1];exact hy)⟩;have k1:=HI.out.2.2.1.cell x b1 hb1;have k2:=HI.out.2.2.1.cell y b2 hb2;have f2:=HI.out.2.2.1.frozen y;have HC1:Hid (cur[x]? =some b1):=hb1
    have HA:Hid (Below w.heap.size w (wr.alloc (.cells #[.int .i64 x,.int .i64 y] 151))/\Rq.Bits (wr.alloc (.cells #[.int .i64 x,.int .i64 y] 151)) w.heap.size cur):=
     ⟨HI.out.2.2.2.alloc (by omega) _,HI.out.2.2.1.keep (Below.heap_alloc _ _ _ hz)⟩
    have HS2:Hid (Below w.heap.size w ((wr.setCell ⟨w.heap.size,y,none⟩ (.bool true)).alloc (.cells #[.int .i64 x,.int .i64 y] 151))/\Rq.Bits ((wr.setCell ⟨w.heap.size,y,none⟩ (.bool true)).alloc (.cells #[.int .i64 x,.int .i64 y] 151)) w.heap.size (cur.set y true)):=
     ⟨(HI.out.2.2.2.setCell (p:=⟨w.heap.size,y,none⟩) (Nat.le_refl _) _).alloc (by simp;omega) _,(HI.out.2.2.1.put y true).keep (Below.heap_alloc _ _ _ (by simpa using hz))⟩
    clear h0 h1 he hb1 hb2
    have HN:Hid (Rk.sweep (es.drop (k+1)) (if cur[x]? =some true then cur.set y true else cur)=Rk.sweep es cur'):=by
     show _=_;rw[<-HI.out.1,Rq.drop_at es k hkl,HX.out];rfl
    cases b1
    ·rw[if_neg (by rw[HC1.out];simp)]at HN
     go_wp2;go_roundg (gk-1)
     case measure=>omega
     case rel=>exact⟨k+1,_,by omega,by go_num,HN.out,HI.out.2.1,HA.out.2,HA.out.1⟩
    rw[if_pos HC1.out]at HN;go_wp2;go_roundg (gk-1)
    case measure=>omega
    case rel=>exact⟨k+1,_,by omega,by go_num,HN.out,by simpa using HI.out.2.1,HS2.out.2,HS2.out.1⟩
end Go.Proofs
namespace Go.Proofs
namespace Dd
def leftK (ls:List (Int×Int))(fr how:Int):Nat->List Int->List Int
 |0,s=>s
 |k+1,s=>if(ls[k]?).map Prod.fst=some fr then(leftK ls fr how k s).set k how else leftK ls fr how k s
def left (ls:List (Int×Int))(s:List Int)(fr how:Int):List Int:=leftK ls fr how ls.length s
def scan (ls:List (Int×Int))(s:List Int)(kid:Int):Nat->Option (Bool×Bool)
 |0=>some (true,false)
 |k+1=>match scan ls s kid k with
  |none=>none
  |some p=>if(ls[k]?).map Prod.snd=some kid then(if s.getD k 0=0 then none else some (p.1&&decide (s.getD k 0=1),p.2||decide (s.getD k 0=1)))else some p
def ended (ls:List (Int×Int))(s:List Int)(kid:Nat)(how:Int):List Int:=left ls (s.set (40+kid) how) kid (if how=2 then 1 else 2)
def gateB (kk:List (Int×Int))(k:Nat):Bool:=decide (((kk[k]?).getD (0,0)).1=12)
def doesI (kk:List (Int×Int))(k:Nat):Int:=((kk[k]?).getD (0,0)).2
def Dies (kk:List (Int×Int))(k:Nat)(p:Bool×Bool):Prop:=p.2=false∨(gateB kk k=true/\doesI kk k=2/\p.1=false)
instance (kk:List (Int×Int)) (k:Nat) (p:Bool×Bool):Decidable (Dies kk k p):=by unfold Dies;exact inferInstance
def Auto (kk:List (Int×Int))(k:Nat):Prop:=gateB kk k=true/\doesI kk k≠3
instance (kk:List (Int×Int)) (k:Nat):Decidable (Auto kk k):=by unfold Auto;exact inferInstance
def decided (ls kk:List (Int×Int))(s:List Int)(kid:Nat):List Int:=
 if s.getD (40+kid) 0=0 then(match scan ls s kid ls.length with
  |none=>s
  |some p=>if Dies kk kid p then ended ls s kid 3 else if Auto kk kid then ended ls s kid 2 else s.set (40+kid) 1)
 else s
def nextK (ls kk:List (Int×Int))(s:List Int):Nat->Option (List Int)
 |0=>none
 |k+1=>match nextK ls kk s k with
  |some t=>some t
  |none=>if decided ls kk s k=s then none else some (decided ls kk s k)
def settleF (ls kk:List (Int×Int)):Nat->List Int->List Int
 |0,s=>s
 |f+1,s=>match nextK ls kk s kk.length with
  |none=>s
  |some t=>settleF ls kk f t
def settle (ls kk:List (Int×Int))(s:List Int):List Int:=settleF ls kk kk.length s
def zeros:List Int:=List.replicate 104 0
def start (ls kk:List (Int×Int)):List Int:=settle ls kk (left ls zeros (-1) 1)
def waits (n:Nat)(s:List Int):Nat:=(List.range n).countP λk=>decide (s.getD (40+k) 0=0)
def heldB (xs:List Int)(most:Int):Bool:=xs.all λx=>decide (0<=x)&&decide (x<=most)
def okB (n m:Nat)(s:List Int):Bool:=((heldB ((s.take 40).take m) 2&&heldB ((s.take 40).drop m) 0))&&(heldB ((s.drop 40).take n) 3&&heldB ((s.drop 40).drop n) 0)
def runsB (n:Nat)(s:List Int)(k:Int):Bool:=decide (0<=k)&&decide (k<n)&&decide (s.getD (40+k.toNat) 0=1)
def linkAt (kid:Int):List (Int×Int)->Nat->Int->Int
 | [],_,_=> -1
 |l::r,b,o=>if l.1=kid then(if o=0 then b else linkAt kid r (b+1) (o-1))else linkAt kid r (b+1) o
def finished (ls kk:List (Int×Int))(s:List Int)(k:Nat):List Int:=settle ls kk (ended ls s k 2)
def chose (ls kk:List (Int×Int))(s:List Int)(k:Nat)(c:Nat):List Int:=settle ls kk ((left ls (s.set (40+k) 2) k 2).set c 1)
def running (n:Nat)(s:List Int):List Nat:=(List.range n).filter λk=>decide (s.getD (40+k) 0=1)
end Dd
end Go.Proofs
namespace Go.Proofs
open Go.RowKit Go.ChangeShapes Go.WideShapes
theorem Fk.laidOut:laidOutB Tryz.prog=true:=by kernel_rfl
theorem Fk.trodAll_below' {H:Type}{enc:TypeId×Value->H}{P:Program}(hl:laidOutB P=true){W W':World}(hb:Below W.heap.size W W'):∀{ts:List TypeId} {vs:List Value} {ds:List (DataW H)} {ps:List MemPlace},
  (ts.all λt=>P.readableRec t&&decide (t<P.types.size))=true->DataW.TrodAll enc P W 0 (λ_=>true) true ts vs ds ps->(∀x∈ps,x.block<W.heap.size)->
  DataW.TrodAll enc P W' 0 (λb=>decide (b<W.heap.size)) true ts vs ds ps
 | [], [], [],_,_,h,_=>h
 |t::_,_::_,_::_,_,hT,⟨p,q,h1,h2,e⟩,hs=>by
  simp only[List.all_cons,Bool.and_eq_true,decide_eq_true_eq]at hT
  exact⟨p,q,Below.trod hl hT.1.1 hT.1.2 h1 hb (λx hx=>hs x (by rw[e];exact List.mem_append_left _ hx)),
   Fk.trodAll_below' hl hb hT.2 h2 (λx hx=>hs x (by rw[e];exact List.mem_append_right _ hx)),e⟩
theorem Fk.trodAll_below {H:Type}{enc:TypeId×Value->H}{W W':World}(hb:Below W.heap.size W W'){ts:List TypeId}{vs:List Value}{ds:List (DataW H)}{ps:List MemPlace}
 (hT:(ts.all λt=>Tryz.prog.readableRec t&&decide (t<Tryz.prog.types.size))=true) (h:DataW.TrodAll enc Tryz.prog W 0 (λ_=>true) true ts vs ds ps) (hs:∀x∈ps,x.block<W.heap.size):
 DataW.TrodAll enc Tryz.prog W' 0 (λb=>decide (b<W.heap.size)) true ts vs ds ps:=Fk.trodAll_below' Fk.laidOut hb hT h hs
end Go.Proofs
