import Derived.Test.YtmomffminkflnaaGreatDoorRAcRSmall
set_option maxRecDepth 100000
set_option maxHeartbeats 32000000
namespace Go.Proofs
open Go.RowKit Go.Shelf
theorem Rq.drop_at {α:Type} (l:List α)(k:Nat)(h:k<l.length):l.drop k=l[k]::l.drop(k+1):=List.drop_eq_getElem_cons h
theorem Tryz.rleads_any(n x0 y0:Nat)(a:Option Addr)(c:Nat)(es:List(Nat×Nat))(w:World)(hn:n<=64)(hy0:y0<n)(hes: ∀e,e∈es->e.1<n/\e.2<n)(hE:Rk.Eds w w.heap.size a(Rk.up es))(hm:es.length<=1000000000000000):
  Calls Tryz.prog 117 #[.int .i64 n, .slice a es.length c, .int .i64 x0, .int .i64 y0]w λe w'=>e= .returned(.bool(Rk.lead es x0 y0))/\Below w.heap.size w w':=by
 have HE:Hid(Rk.Eds w w.heap.size a(Rk.up es)/\ ∀e,e∈es->e.1<n/\e.2<n):=⟨hE,hes⟩;have hy0':(y0:Int)<n:=by omega
 have hmk:=Rq.make_bools n hn;obtain⟨m,hmm⟩: ∃m,es.length=m:=⟨_,rfl⟩;rw [hmm]at hm⊢;have HM:Hid(es.length=m):=hmm;have X1:Hid(Rq.Bits(w.alloc(.cells(Rq.row n)4))w.heap.size(List.replicate n false)):=Rq.row_bits w n;have B1:Hid(Below w.heap.size w(w.alloc(.cells(Rq.row n)4))):=(Below.refl _ w).alloc(Nat.le_refl _)_;have HS:Hid(Rk.sweeps es n(Rk.first x0 es(List.replicate n false))=(List.range n).map(Rk.lead es x0)):=Rk.sweeps_eq hes x0;obtain⟨r,hr⟩: ∃r,Rk.lead es x0 y0=r:=⟨_,rfl⟩;have HR:Hid(Rk.lead es x0 y0=r):=hr;rw [hr];clear hE hes hmm hr
 go_enter Tryz.func117,Tryz.ntmps117
 go_wp2;clear hmk
 go_loopg [19]m(λgk s19 wr=> ∃(k:Nat)(cur:List Bool),gk+k=m/\s19= .int .i64 k/\Hid(Rk.first x0(es.drop k)cur=Rk.first x0 es(List.replicate n false)/\cur.length=n/\Rq.Bits wr w.heap.size cur/\Below w.heap.size w wr))
 case atStart=>exact⟨0,_,by omega,rfl,rfl,by simp,X1.out,B1.out⟩
 case round=>
  obtain⟨k,cur,hk,rfl,HI⟩:=hrel;clear X1 B1
  by_cases hlt:k<m
  ·have hd:decide((k:Int)<m)=true:=decide_eq_true(by omega)
   have hkl:k<es.length:=by rw [HM.out];exact hlt
   obtain⟨q,off,rfl,hq,h0,h1⟩:=HE.out.1 k(by rw [Rk.up_length];exact hkl);obtain⟨e,he⟩: ∃x,es[k]=x:=⟨_,rfl⟩;obtain⟨x,y⟩:=e;have hxy:=HE.out.2 _(List.getElem_mem hkl);rw [he]at hxy;obtain⟨hx,hy⟩:x<n/\y<n:=hxy;rw [Rk.up_get,he]at h0 h1;have hc0:wr.cell? ⟨q,off+k*2,none⟩=some(.int .i64 x):=by rw [HI.out.2.2.2.cell(p:=⟨q,off+k*2,none⟩)hq];exact h0
   have hc1:wr.cell? ⟨q,off+k*2+1,none⟩=some(.int .i64 y):=by rw [HI.out.2.2.2.cell(p:=⟨q,off+k*2+1,none⟩)hq];exact h1
   have HX:Hid(es[k]=(x,y)):=he;have hz:w.heap.size<wr.heap.size:=HI.out.2.2.1.lt;have hqz:q<wr.heap.size:=by omega
   have hx':(x:Int)<n:=by omega
   have hy':(y:Int)<n:=by omega
   have hu:=Tryz.underlying143;obtain⟨b1,hb1⟩: ∃b,cur[x]? =some b:=⟨_,List.getElem?_eq_getElem(by rw [HI.out.2.1];exact hx)⟩;obtain⟨b2,hb2⟩: ∃b,cur[y]? =some b:=⟨_,List.getElem?_eq_getElem(by rw [HI.out.2.1];exact hy)⟩;have k1:=HI.out.2.2.1.cell x b1 hb1;have k2:=HI.out.2.2.1.cell y b2 hb2;have f2:=HI.out.2.2.1.frozen y;have HC1:Hid(cur[x]? =some b1):=hb1
   have HA:Hid(Below w.heap.size w(wr.alloc(.cells #[.int .i64 x, .int .i64 y]143))/\Rq.Bits(wr.alloc(.cells #[.int .i64 x, .int .i64 y]143))w.heap.size cur):=
    ⟨HI.out.2.2.2.alloc(by omega)_,HI.out.2.2.1.keep(Below.heap_alloc _ _ _ hz)⟩
   have HS2:Hid(Below w.heap.size w((wr.setCell⟨w.heap.size,y,none⟩(.bool true)).alloc(.cells #[.int .i64 x, .int .i64 y]143))/\Rq.Bits((wr.setCell⟨w.heap.size,y,none⟩(.bool true)).alloc(.cells #[.int .i64 x, .int .i64 y]143))w.heap.size(cur.set y true)):=
    ⟨(HI.out.2.2.2.setCell(p:=⟨w.heap.size,y,none⟩)(Nat.le_refl _)_).alloc(by simp;omega)_,(HI.out.2.2.1.put y true).keep(Below.heap_alloc _ _ _(by simpa using hz))⟩
   clear h0 h1 he hb1 hb2
   have HN:Hid(Rk.first x0(es.drop(k+1))(if x=x0 then cur.set y true else cur)=Rk.first x0 es(List.replicate n false)):=by
    show _=_;rw [<-HI.out.1,Rq.drop_at es k hkl,HX.out];rfl
   by_cases hxx:x=x0
   ·subst hxx
    rw [if_pos rfl]at HN;go_wp2;go_roundg(gk-1)
    case measure=>omega
    case rel=>exact⟨k+1,_,by omega,by go_num,HN.out,by simpa using HI.out.2.1,HS2.out.2,HS2.out.1⟩
   rw [if_neg hxx]at HN;have hd2:((x:Int)==(x0:Int))=false:=by simp;omega
   go_wp2;go_roundg(gk-1)
   case measure=>omega
   case rel=>exact⟨k+1,_,by omega,by go_num,HN.out,HI.out.2.1,HA.out.2,HA.out.1⟩
  have hd:decide((k:Int)<m)=false:=decide_eq_false(by omega)
  have HJ:Hid(Rk.sweeps es n cur=(List.range n).map(Rk.lead es x0)/\cur.length=n/\Rq.Bits wr w.heap.size cur/\Below w.heap.size w wr):=by
   have h1:=HI.out.1;rw [List.drop_eq_nil_of_le(by rw [HM.out];omega)]at h1;have h2:cur=Rk.first x0 es(List.replicate n false):=h1;refine⟨?_,HI.out.2⟩;rw [h2];exact HS.out
  clear HI HS;go_wp2
  go_loopg [12]n(λgk s12 wr=> ∃(k:Nat)(cur:List Bool),gk+k=n/\s12= .int .i64 k/\Hid(Rk.sweeps es(n-k)cur=(List.range n).map(Rk.lead es x0)/\cur.length=n/\Rq.Bits wr w.heap.size cur/\Below w.heap.size w wr))
  case atStart=>exact⟨0,_,by omega,rfl,HJ.out⟩
  case round=>
   obtain⟨k',cur',hk',rfl,HO⟩:=hrel;clear HJ hd
   by_cases hlt':k'<n
   rotate_left
   ·have hd:decide((k':Int)<n)=false:=decide_eq_false(by omega)
    have hfin:cur'=(List.range n).map(Rk.lead es x0):=by
     have:=HO.out.1;rw [show n-k'=0 by omega]at this;exact this
    have hcell:=HO.out.2.2.1.cell y0 r(by rw [hfin];simp [hy0,HR.out]);go_wp2;go_ret;exact⟨rfl,HO.out.2.2.2⟩
   have hd:decide((k':Int)<n)=true:=decide_eq_true(by omega);have hgg:gk=n-k':=by omega
   subst hgg;go_wp2
   go_loopg [39]m(λgi s39 wr=> ∃(k:Nat)(cur:List Bool),gi+k=m/\s39= .int .i64 k/\Hid(Rk.sweep(es.drop k)cur=Rk.sweep es cur'/\cur.length=n/\Rq.Bits wr w.heap.size cur/\Below w.heap.size w wr))
   case atStart=>exact⟨0,_,by omega,rfl,rfl,HO.out.2⟩
   case round=>
    clear hk hlt;obtain⟨k,cur,hk,rfl,HI⟩:=hrel;clear hd
    by_cases hlt:k<m
    rotate_left
    ·have hd:decide((k:Int)<m)=false:=decide_eq_false(by omega)
     have HN:Hid(Rk.sweeps es(n-(k'+1))cur=(List.range n).map(Rk.lead es x0)/\cur.length=n/\Rq.Bits wr w.heap.size cur/\Below w.heap.size w wr):=by
      have h1:=HI.out.1;rw [List.drop_eq_nil_of_le(by rw [HM.out];omega)]at h1;have h2:cur=Rk.sweep es cur':=h1;refine⟨?_,HI.out.2⟩;have h3:=HO.out.1;rw [show n-k'=(n-(k'+1))+1 by omega]at h3;rw [h2];exact h3
     go_wp2;go_roundg(n-(k'+1))
     case measure=>omega
     case rel=>exact⟨k'+1,_,by omega,by go_num,HN.out⟩
    have hd:decide((k:Int)<m)=true:=decide_eq_true(by omega);have hkl:k<es.length:=by rw [HM.out];exact hlt
    obtain⟨q,off,rfl,hq,h0,h1⟩:=HE.out.1 k(by rw [Rk.up_length];exact hkl);obtain⟨e,he⟩: ∃x,es[k]=x:=⟨_,rfl⟩;obtain⟨x,y⟩:=e;have hxy:=HE.out.2 _(List.getElem_mem hkl);rw [he]at hxy;obtain⟨hx,hy⟩:x<n/\y<n:=hxy;rw [Rk.up_get,he]at h0 h1;have hc0:wr.cell? ⟨q,off+k*2,none⟩=some(.int .i64 x):=by rw [HI.out.2.2.2.cell(p:=⟨q,off+k*2,none⟩)hq];exact h0
    have hc1:wr.cell? ⟨q,off+k*2+1,none⟩=some(.int .i64 y):=by rw [HI.out.2.2.2.cell(p:=⟨q,off+k*2+1,none⟩)hq];exact h1
    have HX:Hid(es[k]=(x,y)):=he;have hz:w.heap.size<wr.heap.size:=HI.out.2.2.1.lt;have hqz:q<wr.heap.size:=by omega
    have hx':(x:Int)<n:=by omega
    have hy':(y:Int)<n:=by omega
    have hu:=Tryz.underlying143;obtain⟨b1,hb1⟩: ∃b,cur[x]? =some b:=⟨_,List.getElem?_eq_getElem(by rw [HI.out.2.1];exact hx)⟩;obtain⟨b2,hb2⟩: ∃b,cur[y]? =some b:=⟨_,List.getElem?_eq_getElem(by rw [HI.out.2.1];exact hy)⟩;have k1:=HI.out.2.2.1.cell x b1 hb1;have k2:=HI.out.2.2.1.cell y b2 hb2;have f2:=HI.out.2.2.1.frozen y;have HC1:Hid(cur[x]? =some b1):=hb1
    have HA:Hid(Below w.heap.size w(wr.alloc(.cells #[.int .i64 x, .int .i64 y]143))/\Rq.Bits(wr.alloc(.cells #[.int .i64 x, .int .i64 y]143))w.heap.size cur):=
     ⟨HI.out.2.2.2.alloc(by omega)_,HI.out.2.2.1.keep(Below.heap_alloc _ _ _ hz)⟩
    have HS2:Hid(Below w.heap.size w((wr.setCell⟨w.heap.size,y,none⟩(.bool true)).alloc(.cells #[.int .i64 x, .int .i64 y]143))/\Rq.Bits((wr.setCell⟨w.heap.size,y,none⟩(.bool true)).alloc(.cells #[.int .i64 x, .int .i64 y]143))w.heap.size(cur.set y true)):=
     ⟨(HI.out.2.2.2.setCell(p:=⟨w.heap.size,y,none⟩)(Nat.le_refl _)_).alloc(by simp;omega)_,(HI.out.2.2.1.put y true).keep(Below.heap_alloc _ _ _(by simpa using hz))⟩
    clear h0 h1 he hb1 hb2
    have HN:Hid(Rk.sweep(es.drop(k+1))(if cur[x]? =some true then cur.set y true else cur)=Rk.sweep es cur'):=by
     show _=_;rw [<-HI.out.1,Rq.drop_at es k hkl,HX.out];rfl
    cases b1
    ·rw [if_neg(by rw [HC1.out];simp)]at HN
     go_wp2;go_roundg(gk-1)
     case measure=>omega
     case rel=>exact⟨k+1,_,by omega,by go_num,HN.out,HI.out.2.1,HA.out.2,HA.out.1⟩
    rw [if_pos HC1.out]at HN;go_wp2;go_roundg(gk-1)
    case measure=>omega
    case rel=>exact⟨k+1,_,by omega,by go_num,HN.out,by simpa using HI.out.2.1,HS2.out.2,HS2.out.1⟩
theorem Tryz.rround_ok(n:Nat)(a:Option Addr)(c:Nat)(es:List(Nat×Nat))(w:World)(hn:n<=64)(hes: ∀e,e∈es->e.1<n/\e.2<n)(hE:Rk.Eds w w.heap.size a(Rk.up es))(hm:es.length<=1000000000000000)(hck:Rk.chk n(Rk.up es)=0):
  Calls Tryz.prog 92 #[.int .i64 n, .slice a es.length c]w λe w'=> ∃v,e= .returned(.tuple #[v, .int .i64 0])/\
   w'.ownsRow w.heap.size 3 1 v((List.range n).filter(λi=>Rk.lead es i i)).length(Rq.nums((List.range n).filter(λi=>Rk.lead es i i)))/\Below w.heap.size w w':=by
 obtain⟨i0,hi,hz0,hz1,hz2⟩:=info_parts Tryz.infoIntQ;have H1:Hid _:=Tryz.rcheck_any n a c(Rk.up es)w hE(by rw [Rk.up_length];exact hm);rw [hck,Rk.up_length]at H1;have HX:Hid(n<=64/\(∀e,e∈es->e.1<n/\e.2<n)/\Rk.Eds w w.heap.size a(Rk.up es)/\es.length<=1000000000000000):=⟨hn,hes,hE,hm⟩;clear hE hm hes hck
 go_enter Tryz.func92,Tryz.ntmps92
 go_wp2_with fail
 refine Calls.mono H1.out ?_;rintro e W1⟨rfl,hb⟩;have HB0:Hid(Below w.heap.size w W1):=hb;clear hb H1;go_wp2
 go_loopg [7,8]n(λgk s5 s8 wr=> ∃(k r:Nat)(L:List Nat),gk+k=n/\s8= .int .i64 k/\r<=k/\Hid(L=(List.range k).filter(λi=>Rk.lead es i i)/\L.length=r/\Below w.heap.size w wr)/\wr.ownsRow w.heap.size 3 1 s5 r(Rq.nums L))
 case atStart=>exact⟨0,0, [],by omega,rfl,Nat.le_refl _,⟨rfl,rfl,HB0.out⟩,World.ownsRow_nil _ _ _ _⟩
 case round=>
  obtain⟨k,r,L,hk,rfl,hr,HB,hown⟩:=hrel;obtain⟨av,cv,rfl⟩:=Rq.own_shape hown
  by_cases hlt:k<n
  rotate_left
  ·have hd:decide((k:Int)<n)=false:=decide_eq_false(by omega)
   go_wp2;go_ret2;obtain rfl:k=n:=by omega
   rw [<-HB.out.1,HB.out.2.1];exact⟨_,rfl,hown,HB.out.2.2⟩
  have hd:decide((k:Int)<n)=true:=decide_eq_true(by omega)
  have HF:Hid((List.range(k+1)).filter(λi=>Rk.lead es i i)=L++if((λi=>Rk.lead es i i))k=true then [k]else []):=by
   show _=_;rw [List.range_succ,List.filter_append,<-HB.out.1]
   cases hq:((λi=>Rk.lead es i i))k<;>simp [hq]
  have HC:Hid _:=Tryz.rleads_any n k k a c es wr HX.out.1 hlt HX.out.2.1((HX.out.2.2.1.below HB.out.2.2).wider HB.out.2.2.size)HX.out.2.2.2;obtain⟨q,hq⟩: ∃q,Rk.lead es k k=q:=⟨_,rfl⟩;simp only [hq]at HC HF;clear hq
  cases q
  ·go_wp2_with(first|(go_at_call 117;refine Calls.mono HC.out ?_;rintro e W2⟨rfl,hb2⟩;have own1:=Rq.own_below hown hb2;have B2:Hid(Below w.heap.size w W2):=HB.out.2.2.trans(hb2.mono HB.out.2.2.size);have hs2:w.heap.size<=W2.heap.size:=B2.out.size;clear hb2 hown)|fail)
   go_roundg(gk-1)
   case measure=>omega
   case rel=>
    refine⟨k+1,r,L,by omega,by go_num,by omega,⟨?_,HB.out.2.1,B2.out⟩,own1⟩;rw [HF.out];simp
  go_wp2_with(first
   |(go_at_call 117;refine Calls.mono HC.out ?_;rintro e W2⟨rfl,hb2⟩;have own1:=Rq.own_below hown hb2;have B2:Hid(Below w.heap.size w W2):=HB.out.2.2.trans(hb2.mono HB.out.2.2.size);have hs2:w.heap.size<=W2.heap.size:=B2.out.size;clear hb2 hown)
   |(at_builtin;refine wpList_append_own _ rfl _ _ 51 rfl w.heap.size 3 i0(.int .i64 0)1 8 Tryz.underlying51 hi hz0 hz1 hz2 rfl(by decide)_ _ _ rfl(own1.alloc _)⟨W2.heap.size,0,none⟩1 1 [.int .i64 k]rfl rfl(Rq.one_cell W2 k 3)(Rq.one_one k) ?c3 ?c4 ?c5 ?_))
  case c3=>unfold maxLen;omega
  case c4=>omega
  case c5=>first|omega|(simp;omega)
  intro v' W3 own3 g3 _;obtain⟨a3,c3',rfl⟩:=Rq.own_shape own3;have HZ:Hid(Below w.heap.size w W3):=Rq.below_grown(B2.out.alloc hs2 _)(by simp;omega)(own1.alloc _)g3;clear g3 own1;go_wp2;go_roundg(gk-1)
  case measure=>omega
  case rel=>
   refine⟨k+1,r+1,L++ [k],by omega,by go_num,by omega,⟨?_,by simp [HB.out.2.1],HZ.out⟩, ?_⟩
   ·rw [HF.out];rfl
   rw [Rq.nums_snoc];exact own3
theorem Ak.own_below {w w':World} {B:Nat} {e:TypeId} {size:Nat} {v:Value} {n:Nat} {cs:List Value} (h:w.ownsRow B e size v n cs)(hb:Below w.heap.size w w'):w'.ownsRow B e size v n cs:=
 ⟨h.1,h.2.imp id fun⟨g,cap,cur,hv,h1,h2,h3⟩=>⟨g,cap,cur,hv,h1,(hb.block g(Array.getElem?_eq_some_iff.1 h2).1).trans h2,h3⟩⟩
theorem Ak.infoREdge:(Tryz.prog.info? 143).map(λi=>(i.zero,i.size,i.bytes))=some(some(.agg #[.int .i64 0, .int .i64 0]),2,16):=by kernel_rfl
theorem Ak.eds_of {ty:TypeId} {w:World} {B m c:Nat} {a:Option Addr} {es:List(Int×Int)} (h:w.ownsRow B ty 2(.slice a m c)es.length(Ak.ecells es)):Rk.Eds w w.heap.size a es:=by
 intro j hj
 rcases h.2 with⟨e,hn⟩|⟨g,cap,cur,e,h3,h4,h5,h6,h7,h8⟩
 ·omega
 simp only [Value.slice.injEq]at e;obtain⟨rfl,-,rfl⟩:=e;have hk:=Ak.ecells_at es j hj;rw [<-h8,List.getElem?_take,List.getElem?_take,if_pos(by omega),if_pos(by omega),Array.getElem?_toList,Array.getElem?_toList]at hk;refine⟨g,0,rfl,(Array.getElem?_eq_some_iff.1 h4).1, ?_, ?_⟩
 ·simp only [World.cell?,h4,Nat.zero_add];exact hk.1
 simp only [World.cell?,h4,Nat.zero_add];exact hk.2
theorem Tryz.rround_free(n:Nat)(a:Option Addr)(c:Nat)(rs:List(Int×Int))(w:World)(hE:Rk.Eds w w.heap.size a rs)(hm:rs.length<=1000000)(hr:Rk.chk n rs=0):
  Calls Tryz.prog 92 #[.int .i64(n:Int), .slice a rs.length c]w λe w'=> ∃la ln lc,e= .returned(.tuple #[.slice la ln lc, .int .i64 0])/\decide(((ln:Nat):Int)=0)=Ac.freeB n rs/\Below w.heap.size w w':=by
 unfold Ac.freeB;rw [if_neg(λh=>h hr)];obtain⟨k,es,hk1,hk,rfl,hl,hes⟩:=Rk.chk_ok hr;obtain rfl:n=k:=by omega
 have key:=Tryz.rround_ok n a c es w hk hes hE(by rw [Rk.up_length]at hm;omega)hr
 have hd:((Rk.up es).map λe=>(e.1.toNat,e.2.toNat))=es:=by
  rw [Rk.up,List.map_map];exact(List.map_congr_left λe _=>by simp).trans(List.map_id es)
 rw [Rk.up_length,hd];refine key.mono λe w'⟨v,he,hown,hb⟩=> ?_;obtain⟨la,lc,rfl⟩:=Ak.own_shape hown;refine⟨la,_,lc,he, ?_,hb⟩
 cases(List.range n).filter(λi=>Rk.lead es i i)<;>simp
 omega
theorem Ac.bet_chk {ls:List(Int×Int)} {n:Nat} (h:ls.all(Ac.inR n)=true)(hn:n<=64)(hl:ls.length<=256):Rk.chk n(Ac.bet ls)=0:=by
 unfold Rk.chk;rw [if_neg(by omega),if_neg(by have:=Ac.bet_length ls;omega),if_neg];rw [Bool.not_eq_true,List.any_eq_false];intro x hx;unfold Ac.bet at hx;obtain⟨hx1,hx2⟩:=List.mem_filter.1 hx;have h1:=List.all_eq_true.1 h x hx1;unfold Ac.inR at h1;simp only [Bool.and_eq_true,decide_eq_true_eq]at hx2 h1;unfold Rk.outB Rk.inB
 simp
 omega
theorem Ac.all_snoc(n:Nat)(ls:List(Int×Int))(j:Nat)(h:j<ls.length):(ls.take(j+1)).all(Ac.inR n)=((ls.take j).all(Ac.inR n)&&Ac.inR n ls[j]):=by
 rw [List.take_succ_eq_append_getElem h,List.all_append]
 simp
theorem Tryz.r16linked_any(d e:Nat)(T:Ac)(V:Ac.Vs)(w:World)(hT:Ac.Lies w w.heap.size e d V T)(hm:T.ls.length<=1000)(hks:T.ks.length<=1000):
  Calls Tryz.prog 70 #[.agg(Ac.row T V)]w λe w'=>Ak.Told T.LinkD e/\Below w.heap.size w w':=by
 obtain⟨ka,kc,hvk⟩:=hT.kids;obtain⟨la,lc,hvl,hL⟩:=hT.own.l;obtain⟨n,hn⟩: ∃n,T.ks.length=n:=⟨_,rfl⟩;obtain⟨m,hml⟩: ∃n,T.ls.length=n:=⟨_,rfl⟩;obtain⟨P,hP⟩: ∃P,T.LinkD=P:=⟨_,rfl⟩;rw [hn]at hvk;rw [hml]at hvl;obtain⟨x0,x1,x2,x3,x4,x5,x6,x7,x10,x11,hrow⟩: ∃x0 x1 x2 x3 x4 x5 x6 x7 x10 x11,Ac.row T V= #[x0,x1,x2,x3,x4,x5,x6,x7, .slice ka n kc, .slice la m lc,x10,x11]:=⟨_,_,_,_,_,_,_,_,_,_,by unfold Ac.row;rw [hvk,hvl]⟩;obtain⟨yi,hyi⟩: ∃x,Ac.inN T.ls(-1)=x:=⟨_,rfl⟩;obtain⟨yo,hyo⟩: ∃x,Ac.outN T.ls(-1)=x:=⟨_,rfl⟩
 have HP:Hid(P↔(T.ls.all(Ac.inR n)=true/\(yi=1/\yo=1/\m<=40/\n<=64)/\(∀i(h:i<T.ks.length),Ac.kidD T.ks[i].kind T.ks[i].a T.ks[i].cs.length(Ac.inN T.ls i)(Ac.outN T.ls i)=true)/\Ac.freeB n(Ac.bet T.ls)=true)):=by
  show _↔_;rw [<-hP,<-hn,<-hml,<-hyi,<-hyo];exact Iff.rfl
 rw [hP,hrow];obtain⟨w1,hw1⟩: ∃z,w.alloc(.cells #[x0,x1,x2,x3,x4,x5,x6,x7, .slice ka n kc, .slice la m lc,x10,x11]48)=z:=⟨_,rfl⟩;have B1:Below w.heap.size w w1:=by rw [<-hw1];exact(Below.refl _ w).alloc(Nat.le_refl _)_
 have N1:w1.heap[w.heap.size]? =some(.cells #[x0,x1,x2,x3,x4,x5,x6,x7, .slice ka n kc, .slice la m lc,x10,x11]48(0,0)):=by rw [<-hw1];exact heap_alloc_new w _
 have c9:w1.cell? ⟨w.heap.size,9,none⟩=some(.slice la m lc):=by simp [World.cell?,N1]
 have H1:Hid _:=hw1;have HF:Hid(∀W,Below w1.heap.size w1 W->W.heap[w.heap.size]? =some(.cells #[x0,x1,x2,x3,x4,x5,x6,x7, .slice ka n kc, .slice la m lc,x10,x11]48(0,0))/\Below w.heap.size w W):=λW hb=>⟨(hb.block _(Array.getElem?_eq_some_iff.1 N1).1).trans N1,B1.trans(hb.mono B1.size)⟩;have HL:Hid(Ac.Lks w w.heap.size la T.ls/\T.ls.length=m/\T.ks.length=n):=⟨hL,hml,hn⟩
 have HI:Hid(∀W,Below w.heap.size w W->Calls Tryz.prog 89 #[.agg #[x0,x1,x2,x3,x4,x5,x6,x7, .slice ka n kc, .slice la m lc,x10,x11], .int .i64(-1)]W λe w'=>e= .returned(.int .i64 yi)/\Below W.heap.size W w'):=λW hb=>by
  have h:=Tryz.r16Ins_any x0 x1 x2 x3 x4 x5 x6 x7(.slice ka n kc)x10 x11 la m lc T.ls(-1)W((hL.keep hb.block).wider hb.size)hml(by omega);rw [hyi]at h;exact h
 have HO:Hid(∀W,Below w.heap.size w W->Calls Tryz.prog 90 #[.agg #[x0,x1,x2,x3,x4,x5,x6,x7, .slice ka n kc, .slice la m lc,x10,x11], .int .i64(-1)]W λe w'=>e= .returned(.int .i64 yo)/\Below W.heap.size W w'):=λW hb=>by
  have h:=Tryz.r16Outs_any x0 x1 x2 x3 x4 x5 x6 x7(.slice ka n kc)x10 x11 la m lc T.ls(-1)W((hL.keep hb.block).wider hb.size)hml(by omega);rw [hyo]at h;exact h
 have HKD:Hid(∀W(i:Nat)(hi:i<T.ks.length),Below w.heap.size w W->Calls Tryz.prog 91 #[.agg #[x0,x1,x2,x3,x4,x5,x6,x7, .slice ka n kc, .slice la m lc,x10,x11], .int .i64 i]W λe w'=>e= .returned(.bool(Ac.kidD T.ks[i].kind T.ks[i].a T.ks[i].cs.length(Ac.inN T.ls i)(Ac.outN T.ls i)))/\Below W.heap.size W w'):=λW i hi hb=>by
  have h:=Tryz.r16kid_any d e T V W((hT.below hb).wider hb.size)(by omega)(by omega)i hi;rw [hrow]at h;exact h
 obtain⟨i1,hi1,hy0,hy1,hy2⟩:=info_parts Ak.infoREdge;have ha:=Tryz.underlying48;have ia:(Tryz.prog.info? 48).map(·.size)=some(#[x0,x1,x2,x3,x4,x5,x6,x7, .slice ka n kc, .slice la m lc,x10,x11]:Array Value).size:=Ak.rinfo;have hm':m<=1000:=by omega
 have hn':n<=1000:=by omega
 clear hT hvk hvl hL hm hml hrow hyi hyo hw1 B1 hks hn hP N1
 go_enter Tryz.func70,Tryz.ntmps70
 go_upto_region 1 with fail
 rw [H1.out];go_wp2
 go_loopg [3,12]m(λgk s3 s12 wr=> ∃(j r:Nat)(va:Option Addr)(vc:Nat),gk+j=m/\s12= .int .i64 j/\s3= .slice va r vc/\r<=j/\Hid(r=(Ac.bet(T.ls.take j)).length/\Below w1.heap.size w1 wr/\wr.ownsRow w1.heap.size 143 2(.slice va r vc)r(Ak.ecells(Ac.bet(T.ls.take j)))/\(T.ls.take j).all(Ac.inR n)=true))
 case atStart=>exact⟨0,0,none,0,by omega,rfl,rfl,Nat.le_refl _,rfl,Below.refl _ w1,World.ownsRow_nil _ _ _ _,by simp⟩
 case round=>
  obtain⟨j,r,va,vc,hj,rfl,rfl,hr,HJ⟩:=hrel;clear c9
  by_cases hlt:j<m
  ·have hd:decide((j:Int)<m)=true:=decide_eq_true(by omega)
   have hjl:j<T.ls.length:=by rw [HL.out.2.1];exact hlt
   obtain⟨q,off,rfl,hq,d0,d1⟩:=HL.out.1 j hjl;obtain⟨x,hx⟩: ∃x,T.ls[j]=x:=⟨_,rfl⟩;obtain⟨f,t⟩:=x;rw [hx]at d0 d1;have j0:(0:Int)<=j:=by omega
   have j1:(j:Int)<m:=by omega
   have BW:Below w.heap.size w wr:=(HF.out wr HJ.out.2.1).2;have e0:wr.cell? ⟨q,off+j*2,none⟩=some(.int .i64 f):=by rw [BW.cell(p:=⟨q,off+j*2,none⟩)hq];exact d0
   have e1:wr.cell? ⟨q,off+j*2+1,none⟩=some(.int .i64 t):=by rw [BW.cell(p:=⟨q,off+j*2+1,none⟩)hq];exact d1
   obtain⟨w2,hw2⟩: ∃z,wr.alloc(.cells #[.int .i64 f, .int .i64 t]83)=z:=⟨_,rfl⟩;have B2:Below wr.heap.size wr w2:=by rw [<-hw2];exact(Below.refl _ wr).alloc(Nat.le_refl _)_
   have HB2:Hid(Below w1.heap.size w1 w2):=HJ.out.2.1.trans(B2.mono HJ.out.2.1.size);have N2:w2.heap[wr.heap.size]? =some(.cells #[.int .i64 f, .int .i64 t]83(0,0)):=by rw [<-hw2];exact heap_alloc_new wr _
   have z0:w2.cell? ⟨wr.heap.size,0,none⟩=some(.int .i64 f):=by simp [World.cell?,N2]
   have z1:w2.cell? ⟨wr.heap.size,1,none⟩=some(.int .i64 t):=by simp [World.cell?,N2]
   have NB:=(HF.out w2 HB2.out).1;have c8:w2.cell? ⟨w.heap.size,8,none⟩=some(.slice ka n kc):=by simp [World.cell?,NB]
   have HAS:Hid((T.ls.take(j+1)).all(Ac.inR n)=Ac.inR n(f,t)):=by
    show _=_;rw [Ac.all_snoc n T.ls j hjl,HJ.out.2.2.2,hx,Bool.true_and]
   have HTK:Hid(T.ls.take(j+1)=T.ls.take j++ [(f,t)]):=by show _=_;rw [List.take_succ_eq_append_getElem hjl,hx]
   have HOW:Hid(r=(Ac.bet(T.ls.take j)).length/\w2.ownsRow w1.heap.size 143 2(.slice va r vc)r(Ak.ecells(Ac.bet(T.ls.take j)))):=⟨HJ.out.1,by rw [<-hw2];exact HJ.out.2.2.1.alloc _⟩
   have HNO:Hid(Ac.inR n(f,t)=false-> ¬P):=λh hp=>by
    have h1:=(HP.out.1 hp).1;have h2:=List.all_eq_true.1 h1(f,t)(by rw [<-hx];exact List.getElem_mem hjl);rw [h]at h2
    cases h2
   have HX2:Hid(Below w.heap.size w w2):=(HF.out w2 HB2.out).2;have HW2:Hid _:=hw2;clear d0 d1 hx hjl hq hw2 B2 N2 BW HJ NB
   by_cases a1:f< -1
   ·have f1:decide(f< -1)=true:=decide_eq_true a1
    have HN:Hid(¬P):=HNO.out(by unfold Ac.inR;exact decide_eq_false(λh=>by have:=h.1;dsimp only at this;omega));clear a1 HNO
    go_upto_region 5 with fail
    rw [HW2.out];go_wp2;go_ret;exact⟨Ak.Told.no HN.out,HX2.out⟩
   have f1:decide(f< -1)=false:=decide_eq_false a1
   by_cases a2:t< -1
   ·have f2:decide(t< -1)=true:=decide_eq_true a2
    have HN:Hid(¬P):=HNO.out(by unfold Ac.inR;exact decide_eq_false(λh=>by have:=h.2.1;dsimp only at this;omega));clear a1 a2 HNO
    go_upto_region 5 with fail
    rw [HW2.out];go_wp2;go_ret;exact⟨Ak.Told.no HN.out,HX2.out⟩
   have f2:decide(t< -1)=false:=decide_eq_false a2
   by_cases a3:(n:Int)<=f
   ·have f3:decide((n:Int)<=f)=true:=decide_eq_true a3
    have HN:Hid(¬P):=HNO.out(by unfold Ac.inR;exact decide_eq_false(λh=>by have:=h.2.2.1;dsimp only at this;omega));clear a1 a2 a3 HNO
    go_upto_region 5 with fail
    rw [HW2.out];go_wp2;go_ret;exact⟨Ak.Told.no HN.out,HX2.out⟩
   have f3:decide((n:Int)<=f)=false:=decide_eq_false a3
   by_cases a4:(n:Int)<=t
   ·have f4:decide((n:Int)<=t)=true:=decide_eq_true a4
    have HN:Hid(¬P):=HNO.out(by unfold Ac.inR;exact decide_eq_false(λh=>by have:=h.2.2.2;dsimp only at this;omega));clear a1 a2 a3 a4 HNO
    go_upto_region 5 with fail
    rw [HW2.out];go_wp2;go_ret;exact⟨Ak.Told.no HN.out,HX2.out⟩
   have f4:decide((n:Int)<=t)=false:=decide_eq_false a4
   have HAL:Hid((T.ls.take(j+1)).all(Ac.inR n)=true):=by
    show _=_;rw [HAS.out];unfold Ac.inR;exact decide_eq_true⟨by dsimp only;omega,by dsimp only;omega,by dsimp only;omega,by dsimp only;omega⟩
   clear a1 a2 a3 a4 HNO HAS
   by_cases b3:0<=f/\0<=t
   ·have e3:decide(0<=f)=true:=decide_eq_true b3.1
    have e4:decide(0<=t)=true:=decide_eq_true b3.2;have b3a:=b3.1;have b3b:=b3.2;have HBT:Hid(Ac.bet(T.ls.take(j+1))=Ac.bet(T.ls.take j)++ [(f,t)]):=by show _=_;rw [HTK.out,Ac.bet_snoc,e3,e4];rfl
    have hs1:=HB2.out.size;have HO8:Hid((w2.alloc(.cells #[.int .i64 f, .int .i64 t]143)).ownsRow w1.heap.size 143 2(.slice va r vc)r(Ak.ecells(Ac.bet(T.ls.take j)))/\w1.heap.size<=(w2.alloc(.cells #[.int .i64 f, .int .i64 t]143)).heap.size):=⟨HOW.out.2.alloc _,by simp;omega⟩
    have HSR:Hid(∀k u, [Value.int .i64 f, .int .i64 t][k]? =some u->(w2.alloc(.cells #[.int .i64 f, .int .i64 t]143)).cell? ((⟨w2.heap.size,0,none⟩:Addr).add k)=some u):=λk u hk=>by
     rw [Go.WideShapes.add_plain,Nat.zero_add]
     match k,hk with
     |0,hk=>simp at hk;subst hk;simp
     |1,hk=>simp at hk;subst hk;simp
    clear b3
    go_upto_region 5 with fail
    rw [HW2.out]
    go_wp2_with(at_builtin;refine wpList_append_own _ rfl _ _ 142 rfl w1.heap.size 143 i1(.agg #[.int .i64 0, .int .i64 0])2 16 Tryz.underlying142 hi1 hy0 hy1 hy2 rfl(by decide)(.slice va r vc)r(Ak.ecells(Ac.bet(T.ls.take j)))rfl HO8.out.1⟨w2.heap.size,0,none⟩1 1 [.int .i64 f, .int .i64 t]rfl rfl HSR.out(by intro u hu;simp at hu;rcases hu with rfl|rfl<;>rfl) ?c3 ?c4 HO8.out.2 ?_)
    case c3=>unfold maxLen;omega
    case c4=>omega
    intro v9 W9 own9 g9 _;obtain⟨va9,vc9,rfl⟩:=Ak.own_shape own9
    have HC9:Hid(r+1=(Ac.bet(T.ls.take(j+1))).length/\Below w1.heap.size w1 W9/\W9.ownsRow w1.heap.size 143 2(.slice va9(r+1)vc9)(r+1)(Ak.ecells(Ac.bet(T.ls.take(j+1))))/\(T.ls.take(j+1)).all(Ac.inR n)=true):=by
     have hle:(Ac.bet(T.ls.take(j+1))).length=r+1:=by rw [HBT.out,List.length_append,<-HOW.out.1];rfl
     refine⟨hle.symm,Rk.below_grown(HB2.out.alloc hs1 _)HO8.out.2 HO8.out.1 g9, ?_,HAL.out⟩;rw [HBT.out];have:Ak.ecells(Ac.bet(T.ls.take j)++ [(f,t)])=Ak.ecells(Ac.bet(T.ls.take j))++ [.int .i64 f, .int .i64 t]:=by simp [Ak.ecells]
     rw [this];exact own9
    clear own9 g9 HO8 HSR;go_wp2;go_roundg(gk-1)
    case measure=>omega
    case rel=>exact⟨j+1,r+1,va9,vc9,by omega,by go_num,rfl,by omega,HC9.out⟩
   have HC9:Hid(r=(Ac.bet(T.ls.take(j+1))).length/\Below w1.heap.size w1 w2/\w2.ownsRow w1.heap.size 143 2(.slice va r vc)r(Ak.ecells(Ac.bet(T.ls.take(j+1))))/\(T.ls.take(j+1)).all(Ac.inR n)=true):=by
    have hbe:Ac.bet(T.ls.take(j+1))=Ac.bet(T.ls.take j):=by
     rw [HTK.out,Ac.bet_snoc,if_neg(by simp only [Bool.and_eq_true,decide_eq_true_eq];exact b3),List.append_nil]
    rw [hbe];exact⟨HOW.out.1,HB2.out,HOW.out.2,HAL.out⟩
   by_cases b4:0<=f
   ·have e3:decide(0<=f)=true:=decide_eq_true b4
    have e4:decide(0<=t)=false:=decide_eq_false λh=>b3⟨b4,h⟩;clear b3 b4
    go_upto_region 5 with fail
    rw [HW2.out];go_wp2;go_roundg(gk-1)
    case measure=>omega
    case rel=>exact⟨j+1,r,va,vc,by omega,by go_num,rfl,by omega,HC9.out⟩
   have e3:decide(0<=f)=false:=decide_eq_false b4;clear b3 b4
   go_upto_region 5 with fail
   rw [HW2.out];go_wp2;go_roundg(gk-1)
   case measure=>omega
   case rel=>exact⟨j+1,r,va,vc,by omega,by go_num,rfl,by omega,HC9.out⟩
  have hd:decide((j:Int)<m)=false:=decide_eq_false(by omega);obtain rfl:j=m:=by omega
  have HQ:Hid(r=(Ac.bet T.ls).length/\wr.ownsRow w1.heap.size 143 2(.slice va r vc)r(Ak.ecells(Ac.bet T.ls))/\T.ls.all(Ac.inR n)=true):=by
   have h:=HJ.out;rw [show T.ls.take j=T.ls from List.take_of_length_le(by rw [HL.out.2.1];omega)]at h;exact⟨h.1,h.2.2.1,h.2.2.2⟩
  have HBR:Hid(Below w1.heap.size w1 wr):=HJ.out.2.1;have NB:=(HF.out wr HBR.out).1;clear HJ
  by_cases g1:yi=1
  rotate_left
  ·have h1:((yi:Int) !=1)=true:=by simp;omega
   have HN:Hid(¬P):=λh=>g1(HP.out.1 h).2.1.1;clear g1
   go_wp2_with(refine wpList_load_row rfl 48 _ rfl _ rfl 48 _(0,0)_ NB ha rfl ia ?_)
   refine Calls.mono(HI.out _(HF.out _ HBR.out).2) ?_;rintro e W2⟨rfl,b2⟩;have HX2:Hid(Below w.heap.size w W2):=(HF.out _(HBR.out.trans(b2.mono HBR.out.size))).2;clear b2 NB HI HO HKD;go_wp2;go_ret;exact⟨Ak.Told.no HN.out,HX2.out⟩
  have h1:((yi:Int) !=1)=false:=by simp [g1]
  by_cases g2:yo=1
  rotate_left
  ·have h2:((yo:Int) !=1)=true:=by simp;omega
   have HN:Hid(¬P):=λh=>g2(HP.out.1 h).2.1.2.1;clear g1 g2
   go_wp2_with(refine wpList_load_row rfl 48 _ rfl _ rfl 48 _(0,0)_ NB ha rfl ia ?_)
   refine Calls.mono(HI.out _(HF.out _ HBR.out).2) ?_;rintro e W2⟨rfl,b2⟩;have HB2:Hid(Below w1.heap.size w1 W2):=HBR.out.trans(b2.mono HBR.out.size);have NB2:=(HF.out _ HB2.out).1;clear b2 NB HI;obtain⟨p0,p1,p2,p3,p4,p5,p6,p7,p8,p9,p10,p11⟩:W2.cell? ⟨w.heap.size,0,none⟩=some x0/\W2.cell? ⟨w.heap.size,1,none⟩=some x1/\W2.cell? ⟨w.heap.size,2,none⟩=some x2/\W2.cell? ⟨w.heap.size,3,none⟩=some x3/\W2.cell? ⟨w.heap.size,4,none⟩=some x4/\W2.cell? ⟨w.heap.size,5,none⟩=some x5/\W2.cell? ⟨w.heap.size,6,none⟩=some x6/\W2.cell? ⟨w.heap.size,7,none⟩=some x7/\W2.cell? ⟨w.heap.size,8,none⟩=some(.slice ka n kc)/\W2.cell? ⟨w.heap.size,9,none⟩=some(.slice la j lc)/\W2.cell? ⟨w.heap.size,10,none⟩=some x10/\W2.cell? ⟨w.heap.size,11,none⟩=some x11:=by simp [World.cell?,NB2]
   go_wp2_with fail
   refine Calls.mono(HO.out _(HF.out _ HB2.out).2) ?_;rintro e W3⟨rfl,b3⟩;have HX2:Hid(Below w.heap.size w W3):=(HF.out _(HB2.out.trans(b3.mono HB2.out.size))).2;clear b3 NB2 HO HKD p0 p1 p2 p3 p4 p5 p6 p7 p8 p9 p10 p11;go_wp2;go_ret;exact⟨Ak.Told.no HN.out,HX2.out⟩
  have h2:((yo:Int) !=1)=false:=by simp [g2]
  have HYY:Hid(yi=1/\yo=1):=⟨g1,g2⟩;clear g1 g2
  go_wp2_with(refine wpList_load_row rfl 48 _ rfl _ rfl 48 _(0,0)_ NB ha rfl ia ?_)
  refine Calls.mono(HI.out _(HF.out _ HBR.out).2) ?_;rintro e W2⟨rfl,b2⟩;have HB2:Hid(Below w1.heap.size w1 W2):=HBR.out.trans(b2.mono HBR.out.size);have NB2:=(HF.out _ HB2.out).1;have HOW2:Hid(r=(Ac.bet T.ls).length/\W2.ownsRow w1.heap.size 143 2(.slice va r vc)r(Ak.ecells(Ac.bet T.ls))/\T.ls.all(Ac.inR n)=true):=⟨HQ.out.1,Ak.own_below HQ.out.2.1 b2,HQ.out.2.2⟩;clear b2 NB HI HQ;obtain⟨p0,p1,p2,p3,p4,p5,p6,p7,p8,p9,p10,p11⟩:W2.cell? ⟨w.heap.size,0,none⟩=some x0/\W2.cell? ⟨w.heap.size,1,none⟩=some x1/\W2.cell? ⟨w.heap.size,2,none⟩=some x2/\W2.cell? ⟨w.heap.size,3,none⟩=some x3/\W2.cell? ⟨w.heap.size,4,none⟩=some x4/\W2.cell? ⟨w.heap.size,5,none⟩=some x5/\W2.cell? ⟨w.heap.size,6,none⟩=some x6/\W2.cell? ⟨w.heap.size,7,none⟩=some x7/\W2.cell? ⟨w.heap.size,8,none⟩=some(.slice ka n kc)/\W2.cell? ⟨w.heap.size,9,none⟩=some(.slice la j lc)/\W2.cell? ⟨w.heap.size,10,none⟩=some x10/\W2.cell? ⟨w.heap.size,11,none⟩=some x11:=by simp [World.cell?,NB2]
  go_wp2_with fail
  refine Calls.mono(HO.out _(HF.out _ HB2.out).2) ?_;rintro e W3⟨rfl,b3⟩;have HB3:Hid(Below w1.heap.size w1 W3):=HB2.out.trans(b3.mono HB2.out.size);have NB3:=(HF.out _ HB3.out).1;have HOW3:Hid(r=(Ac.bet T.ls).length/\W3.ownsRow w1.heap.size 143 2(.slice va r vc)r(Ak.ecells(Ac.bet T.ls))/\T.ls.all(Ac.inR n)=true):=⟨HOW2.out.1,Ak.own_below HOW2.out.2.1 b3,HOW2.out.2.2⟩;have c8:W3.cell? ⟨w.heap.size,8,none⟩=some(.slice ka n kc):=by simp [World.cell?,NB3]
  have c9:W3.cell? ⟨w.heap.size,9,none⟩=some(.slice la j lc):=by simp [World.cell?,NB3]
  have HX3:Hid(Below w.heap.size w W3):=(HF.out _ HB3.out).2;clear b3 NB2 HO NB3 HOW2 HB2 HBR p0 p1 p2 p3 p4 p5 p6 p7 p8 p9 p10 p11
  by_cases g3:40<j
  ·have h3:decide(40<(j:Int))=true:=decide_eq_true(by omega)
   have HN:Hid(¬P):=λh=>by have:=(HP.out.1 h).2.1.2.2.1;omega
   clear g3 HKD;go_wp2;go_ret;exact⟨Ak.Told.no HN.out,HX3.out⟩
  have h3:decide(40<(j:Int))=false:=decide_eq_false(by omega)
  by_cases g4:64<n
  ·have h4:decide(64<(n:Int))=true:=decide_eq_true(by omega)
   have HN:Hid(¬P):=λh=>by have:=(HP.out.1 h).2.1.2.2.2;omega
   clear g4 HKD;go_wp2;go_ret;exact⟨Ak.Told.no HN.out,HX3.out⟩
  have h4:decide(64<(n:Int))=false:=decide_eq_false(by omega);have HLE:Hid(j<=40/\n<=64):=⟨by omega,by omega⟩;clear g3 g4;go_wp2
  go_loopg [6,80]n(λgk _ s80 wr=> ∃i:Nat,gk+i=n/\s80= .int .i64 i/\Hid((∀i'(h:i'<T.ks.length),i'<i->Ac.kidD T.ks[i'].kind T.ks[i'].a T.ks[i'].cs.length(Ac.inN T.ls i')(Ac.outN T.ls i')=true)/\Below W3.heap.size W3 wr))
  case atStart=>exact⟨0,by omega,rfl,λi' _ h=>absurd h(by omega),Below.refl _ _⟩
  case round=>
   obtain⟨i,hi,rfl,HJ⟩:=hrel;have HB4:Hid(Below w1.heap.size w1 wr):=HB3.out.trans(HJ.out.2.mono HB3.out.size);have NB4:=(HF.out _ HB4.out).1;clear c8 c9
   by_cases hin:i<n
   ·have hd:decide((i:Int)<n)=true:=decide_eq_true(by omega)
    have hik:i<T.ks.length:=by rw [HL.out.2.2];exact hin
    have HK1:=HKD.out wr i hik(HF.out _ HB4.out).2;obtain⟨q,hq⟩: ∃q,Ac.kidD T.ks[i].kind T.ks[i].a T.ks[i].cs.length(Ac.inN T.ls i)(Ac.outN T.ls i)=q:=⟨_,rfl⟩;rw [hq]at HK1;have HC:Hid _:=HK1;have HQI:Hid(Ac.kidD T.ks[i].kind T.ks[i].a T.ks[i].cs.length(Ac.inN T.ls i)(Ac.outN T.ls i)=q):=hq;clear HK1 hq
    go_wp2_with(refine wpList_load_row rfl 48 _ rfl _ rfl 48 _(0,0)_ NB4 ha rfl ia ?_)
    refine Calls.mono HC.out ?_;rintro e W5⟨rfl,b5⟩;have HB5:Hid(Below W3.heap.size W3 W5):=HJ.out.2.trans(b5.mono HJ.out.2.size);have HX5:Hid(Below w.heap.size w W5):=(HF.out _(HB4.out.trans(b5.mono HB4.out.size))).2;clear b5 NB4 HC
    cases q with
    |false=>
     have HN:Hid(¬P):=λh=>by
      have h2:=(HP.out.1 h).2.2.1 i hik;rw [HQI.out]at h2
      cases h2
     clear HQI;go_wp2;go_ret;exact⟨Ak.Told.no HN.out,HX5.out⟩
    |true=>
     go_wp2;go_roundg(gk-1)
     case measure=>omega
     case rel=>
      refine⟨i+1,by omega,by go_num,λi' h' hlt=> ?_,HB5.out⟩
      by_cases e:i'=i
      ·subst e;exact HQI.out
      exact HJ.out.1 i' h'(by omega)
   have hd:decide((i:Int)<n)=false:=decide_eq_false(by omega);have HALL:Hid(∀i'(h:i'<T.ks.length),Ac.kidD T.ks[i'].kind T.ks[i'].a T.ks[i'].cs.length(Ac.inN T.ls i')(Ac.outN T.ls i')=true):=λi' h=>HJ.out.1 i' h(by have:=HL.out.2.2;omega);have hown:=Ak.own_below HOW3.out.2.1 HJ.out.2;have hR:=Tryz.rround_free n va vc(Ac.bet T.ls)wr(Ak.eds_of(by rw [<-HOW3.out.1];exact hown))(by have:=Ac.bet_length T.ls;have:=HL.out.2.1;omega)(Ac.bet_chk HOW3.out.2.2 HLE.out.2(by have:=HL.out.2.1;have:=HLE.out.1;omega));rw [<-HOW3.out.1]at hR;have HR:Hid _:=hR;have c8:wr.cell? ⟨w.heap.size,8,none⟩=some(.slice ka n kc):=by simp [World.cell?,NB4]
   clear HJ hown hR NB4 HKD
   go_wp2_with fail
   refine Calls.mono HR.out ?_;rintro e W6⟨l6,n6,k6,rfl,hfree,b6⟩;have HX6:Hid(Below w.heap.size w W6):=(HF.out _(HB4.out.trans(b6.mono HB4.out.size))).2;have HFR:Hid(decide((n6:Int)=0)=Ac.freeB n(Ac.bet T.ls)):=hfree;have he6:((n6:Int)==0)=decide((n6:Int)=0):=rfl;clear b6 hfree HR c8;obtain⟨q,hq⟩: ∃q,decide((n6:Int)=0)=q:=⟨_,rfl⟩;rw [hq]at he6 HFR;clear hq;go_wp2;go_ret;refine⟨Ak.Told.iff ?_,HX6.out⟩;rw [HP.out,HFR.out];exact⟨λh=>⟨HOW3.out.2.2,⟨HYY.out.1,HYY.out.2,HLE.out.1,HLE.out.2⟩,HALL.out,h⟩,λh=>h.2.2.2⟩
theorem Tryz.rIns_any(i:Int)(an:Option Addr)(n cn:Nat)(af:Option Addr)(cf d:Nat)(fs:List Fl)(w:World)(hF:Nt.Fls w w.heap.size d af fs)(hl:fs.length<=100):
  Calls Tryz.prog 121 #[.agg #[.slice an n cn, .slice af fs.length cf], .int .i64 i]w λe w'=>Nt.Gives(Nt.insL fs i)w e w':=by
 obtain⟨i0,hi,hz0,hz1,hz2⟩:=info_parts Tryz.infoIntR;obtain⟨w1,hw1⟩: ∃x,w.alloc(.cells #[.slice an n cn, .slice af fs.length cf]30)=x:=⟨_,rfl⟩;have A1:Below w.heap.size w w1:=by rw [<-hw1];exact(Below.refl _ w).alloc(Nat.le_refl _)_
 obtain⟨m,hm⟩: ∃n,fs.length=n:=⟨_,rfl⟩;obtain⟨lf,hlf⟩: ∃l,Nt.insL fs i=l:=⟨_,rfl⟩;rw [hm]at hl hw1;rw [hm,hlf];have HF:Hid(Nt.Fls w w.heap.size d af fs/\fs.length=m/\Nt.insL fs i=lf):=⟨hF,hm,hlf⟩;have H1:Hid(w.alloc(.cells #[.slice an n cn, .slice af m cf]30)=w1):=hw1;have HA:Hid(Below w.heap.size w w1):=A1;clear hF hm hw1 A1 hlf
 go_enter Tryz.func121,Tryz.ntmps121
 go_wp2;rw [H1.out]
 go_loopg [5,11]m(λgk s5 s11 wr=> ∃(k r:Nat)(L:List Nat),gk+k=m/\s11= .int .i64 k/\r<=k/\Hid(L=(List.range k).filter(λk=>decide((fs[k]?.map Fl.to)=some i))/\L.length=r/\Below w.heap.size w wr)/\wr.ownsRow w.heap.size 3 1 s5 r(Rk.nums L))
 case atStart=>exact⟨0,0, [],by omega,rfl,Nat.le_refl _,⟨rfl,rfl,HA.out⟩,World.ownsRow_nil _ _ _ _⟩
 case round=>
  obtain⟨k,r,L,hk,rfl,hr,HB,hown⟩:=hrel;clear H1 HA;obtain⟨av,cv,rfl⟩:=Rk.own_shape hown
  by_cases hlt:k<m
  rotate_left
  ·have hd:decide((k:Int)<m)=false:=decide_eq_false(by omega)
   go_wp2;go_ret;obtain rfl:k=m:=by omega
   have h1:=HB.out.1;rw [<-HF.out.2.1]at h1;have h2:lf=L:=by rw [<-HF.out.2.2,h1];rfl
   rw [h2];exact⟨_,rfl,by rw [HB.out.2.1];exact hown,HB.out.2.2⟩
  have hd:decide((k:Int)<m)=true:=decide_eq_true(by omega);have hkl:k<fs.length:=by rw [HF.out.2.1];exact hlt
  obtain⟨q,off,u,rfl,hq,h0,h1,h2,h3,h4,h5,h6⟩:=HF.out.1 k hkl;obtain⟨au,cu,rfl⟩:=h6.shape;obtain⟨f,hf⟩: ∃f,fs[k]=f:=⟨_,rfl⟩;rw [hf]at h0 h1 h2 h3 h4 h5;obtain⟨nu,hnu⟩: ∃n,f.c.ks.length=n:=⟨_,rfl⟩;obtain⟨fr,hfr⟩: ∃x,f.fr=x:=⟨_,rfl⟩;obtain⟨tt,hto⟩: ∃x,f.to=x:=⟨_,rfl⟩;obtain⟨els,hel⟩: ∃x,f.els=x:=⟨_,rfl⟩;obtain⟨op,hop⟩: ∃x,f.c.op=x:=⟨_,rfl⟩;obtain⟨num,hnum⟩: ∃x,f.c.num=x:=⟨_,rfl⟩;rw [hnu]at h5;rw [hfr]at h0;rw [hto]at h1;rw [hel]at h2;rw [hop]at h3;rw [hnum]at h4;have hc: ∀o,wr.cell? ⟨q,o,none⟩=w.cell? ⟨q,o,none⟩:=λo=>HB.out.2.2.cell(p:=⟨q,o,none⟩)hq;have c0:=(hc _).trans h0;have c1:=(hc _).trans h1;have c2:=(hc _).trans h2;have c3:=(hc _).trans h3;have c4:=(hc _).trans h4;have c5:=(hc _).trans h5;have hu:=Tryz.underlying78;obtain⟨W0,hW0⟩: ∃x,wr.alloc(.cells #[.int .i64 fr, .int .i64 tt, .bool els, .int .i64 op, .int .i64 num, .slice au nu cu]78)=x:=⟨_,rfl⟩;have own1:W0.ownsRow w.heap.size 3 1(.slice av r cv)r(Rk.nums L):=by rw [<-hW0];exact hown.alloc _
  have B0:Hid(Below w.heap.size w W0):=by show Below _ _ _;rw [<-hW0];exact HB.out.2.2.alloc HB.out.2.2.size _
  have hs0:w.heap.size<=W0.heap.size:=B0.out.size;have HW0:Hid(wr.alloc(.cells #[.int .i64 fr, .int .i64 tt, .bool els, .int .i64 op, .int .i64 num, .slice au nu cu]78)=W0):=hW0
  have HF2:Hid((List.range(k+1)).filter(λk=>decide((fs[k]?.map Fl.to)=some i))=L++if tt=i then [k]else []):=by
   show _=_;rw [List.range_succ,List.filter_append,<-HB.out.1]
   congr 1
   simp only [List.filter_cons,List.filter_nil,List.getElem?_eq_getElem hkl,hf,Option.map_some,hto,Option.some.injEq,decide_eq_true_eq]
  clear h0 h1 h2 h3 h4 h5 h6 hc hf hnu hfr hto hel hop hnum hq hown hW0
  by_cases hti:tt=i
  ·have e1:(tt==i)=true:=by simpa using hti
   rw [if_pos hti]at HF2;clear hti
   go_upto_region 6 with fail
   rw [HW0.out]
   go_wp2_with(at_builtin;refine wpList_append_own _ rfl _ _ 51 rfl w.heap.size 3 i0(.int .i64 0)1 8 Tryz.underlying51 hi hz0 hz1 hz2 rfl(by decide)_ _ _ rfl(own1.alloc _)⟨W0.heap.size,0,none⟩1 1 [.int .i64 k]rfl rfl(Rk.one_cell W0 k 3)(Rk.one_one k) ?c3 ?c4 ?c5 ?_)
   case c3=>unfold maxLen;omega
   case c4=>omega
   case c5=>simp;omega
   intro v' W2 own2 g2 _;obtain⟨a2,c2',rfl⟩:=Rk.own_shape own2;have B2:Hid(W2.ownsRow w.heap.size 3 1(.slice a2(r+1)c2')(r+1)(Rk.nums(L++ [k]))/\Below w.heap.size w W2):=⟨by rw [Rk.nums_snoc];exact own2,Rk.below_grown(B0.out.alloc hs0 _)(by simp;omega)(own1.alloc _)g2⟩;clear own1 own2 g2 HW0;go_wp2;go_roundg(gk-1)
   case measure=>omega
   case rel=>exact⟨k+1,r+1,L++ [k],by omega,by go_num,by omega,⟨HF2.out.symm,by simp [HB.out.2.1],B2.out.2⟩,B2.out.1⟩
  have e1:(tt==i)=false:=by simpa using hti
  rw [if_neg hti,List.append_nil]at HF2;clear hti;go_wp2;rw [HW0.out];go_roundg(gk-1)
  case measure=>omega
  case rel=>exact⟨k+1,r,L,by omega,by go_num,by omega,⟨HF2.out.symm,HB.out.2.1,B0.out⟩,own1⟩
theorem Tryz.rOuts_any(i:Int)(an:Option Addr)(n cn:Nat)(af:Option Addr)(cf d:Nat)(fs:List Fl)(w:World)(hF:Nt.Fls w w.heap.size d af fs)(hl:fs.length<=100):
  Calls Tryz.prog 120 #[.agg #[.slice an n cn, .slice af fs.length cf], .int .i64 i]w λe w'=>Nt.Gives(Nt.outsL fs i)w e w':=by
 obtain⟨i0,hi,hz0,hz1,hz2⟩:=info_parts Tryz.infoIntR;obtain⟨w1,hw1⟩: ∃x,w.alloc(.cells #[.slice an n cn, .slice af fs.length cf]30)=x:=⟨_,rfl⟩;have A1:Below w.heap.size w w1:=by rw [<-hw1];exact(Below.refl _ w).alloc(Nat.le_refl _)_
 obtain⟨m,hm⟩: ∃n,fs.length=n:=⟨_,rfl⟩;obtain⟨lf,hlf⟩: ∃l,Nt.outsL fs i=l:=⟨_,rfl⟩;rw [hm]at hl hw1;rw [hm,hlf];have HF:Hid(Nt.Fls w w.heap.size d af fs/\fs.length=m/\Nt.outsL fs i=lf):=⟨hF,hm,hlf⟩;have H1:Hid(w.alloc(.cells #[.slice an n cn, .slice af m cf]30)=w1):=hw1;have HA:Hid(Below w.heap.size w w1):=A1;clear hF hm hw1 A1 hlf
 go_enter Tryz.func120,Tryz.ntmps120
 go_wp2;rw [H1.out]
 go_loopg [5,11]m(λgk s5 s11 wr=> ∃(k r:Nat)(L:List Nat),gk+k=m/\s11= .int .i64 k/\r<=k/\Hid(L=(List.range k).filter(λk=>decide((fs[k]?.map Fl.fr)=some i))/\L.length=r/\Below w.heap.size w wr)/\wr.ownsRow w.heap.size 3 1 s5 r(Rk.nums L))
 case atStart=>exact⟨0,0, [],by omega,rfl,Nat.le_refl _,⟨rfl,rfl,HA.out⟩,World.ownsRow_nil _ _ _ _⟩
 case round=>
  obtain⟨k,r,L,hk,rfl,hr,HB,hown⟩:=hrel;clear H1 HA;obtain⟨av,cv,rfl⟩:=Rk.own_shape hown
  by_cases hlt:k<m
  rotate_left
  ·have hd:decide((k:Int)<m)=false:=decide_eq_false(by omega)
   go_wp2;go_ret;obtain rfl:k=m:=by omega
   have h1:=HB.out.1;rw [<-HF.out.2.1]at h1;have h2:lf=L:=by rw [<-HF.out.2.2,h1];rfl
   rw [h2];exact⟨_,rfl,by rw [HB.out.2.1];exact hown,HB.out.2.2⟩
  have hd:decide((k:Int)<m)=true:=decide_eq_true(by omega);have hkl:k<fs.length:=by rw [HF.out.2.1];exact hlt
  obtain⟨q,off,u,rfl,hq,h0,h1,h2,h3,h4,h5,h6⟩:=HF.out.1 k hkl;obtain⟨au,cu,rfl⟩:=h6.shape;obtain⟨f,hf⟩: ∃f,fs[k]=f:=⟨_,rfl⟩;rw [hf]at h0 h1 h2 h3 h4 h5;obtain⟨nu,hnu⟩: ∃n,f.c.ks.length=n:=⟨_,rfl⟩;obtain⟨fr,hfr⟩: ∃x,f.fr=x:=⟨_,rfl⟩;obtain⟨tt,hto⟩: ∃x,f.to=x:=⟨_,rfl⟩;obtain⟨els,hel⟩: ∃x,f.els=x:=⟨_,rfl⟩;obtain⟨op,hop⟩: ∃x,f.c.op=x:=⟨_,rfl⟩;obtain⟨num,hnum⟩: ∃x,f.c.num=x:=⟨_,rfl⟩;rw [hnu]at h5;rw [hfr]at h0;rw [hto]at h1;rw [hel]at h2;rw [hop]at h3;rw [hnum]at h4;have hc: ∀o,wr.cell? ⟨q,o,none⟩=w.cell? ⟨q,o,none⟩:=λo=>HB.out.2.2.cell(p:=⟨q,o,none⟩)hq;have c0:=(hc _).trans h0;have c1:=(hc _).trans h1;have c2:=(hc _).trans h2;have c3:=(hc _).trans h3;have c4:=(hc _).trans h4;have c5:=(hc _).trans h5;have hu:=Tryz.underlying78;obtain⟨W0,hW0⟩: ∃x,wr.alloc(.cells #[.int .i64 fr, .int .i64 tt, .bool els, .int .i64 op, .int .i64 num, .slice au nu cu]78)=x:=⟨_,rfl⟩;have own1:W0.ownsRow w.heap.size 3 1(.slice av r cv)r(Rk.nums L):=by rw [<-hW0];exact hown.alloc _
  have B0:Hid(Below w.heap.size w W0):=by show Below _ _ _;rw [<-hW0];exact HB.out.2.2.alloc HB.out.2.2.size _
  have hs0:w.heap.size<=W0.heap.size:=B0.out.size;have HW0:Hid(wr.alloc(.cells #[.int .i64 fr, .int .i64 tt, .bool els, .int .i64 op, .int .i64 num, .slice au nu cu]78)=W0):=hW0
  have HF2:Hid((List.range(k+1)).filter(λk=>decide((fs[k]?.map Fl.fr)=some i))=L++if fr=i then [k]else []):=by
   show _=_;rw [List.range_succ,List.filter_append,<-HB.out.1]
   congr 1
   simp only [List.filter_cons,List.filter_nil,List.getElem?_eq_getElem hkl,hf,Option.map_some,hfr,Option.some.injEq,decide_eq_true_eq]
  clear h0 h1 h2 h3 h4 h5 h6 hc hf hnu hfr hto hel hop hnum hq hown hW0
  by_cases hti:fr=i
  ·have e1:(fr==i)=true:=by simpa using hti
   rw [if_pos hti]at HF2;clear hti
   go_upto_region 6 with fail
   rw [HW0.out]
   go_wp2_with(at_builtin;refine wpList_append_own _ rfl _ _ 51 rfl w.heap.size 3 i0(.int .i64 0)1 8 Tryz.underlying51 hi hz0 hz1 hz2 rfl(by decide)_ _ _ rfl(own1.alloc _)⟨W0.heap.size,0,none⟩1 1 [.int .i64 k]rfl rfl(Rk.one_cell W0 k 3)(Rk.one_one k) ?c3 ?c4 ?c5 ?_)
   case c3=>unfold maxLen;omega
   case c4=>omega
   case c5=>simp;omega
   intro v' W2 own2 g2 _;obtain⟨a2,c2',rfl⟩:=Rk.own_shape own2;have B2:Hid(W2.ownsRow w.heap.size 3 1(.slice a2(r+1)c2')(r+1)(Rk.nums(L++ [k]))/\Below w.heap.size w W2):=⟨by rw [Rk.nums_snoc];exact own2,Rk.below_grown(B0.out.alloc hs0 _)(by simp;omega)(own1.alloc _)g2⟩;clear own1 own2 g2 HW0;go_wp2;go_roundg(gk-1)
   case measure=>omega
   case rel=>exact⟨k+1,r+1,L++ [k],by omega,by go_num,by omega,⟨HF2.out.symm,by simp [HB.out.2.1],B2.out.2⟩,B2.out.1⟩
  have e1:(fr==i)=false:=by simpa using hti
  rw [if_neg hti,List.append_nil]at HF2;clear hti;go_wp2;rw [HW0.out];go_roundg(gk-1)
  case measure=>omega
  case rel=>exact⟨k+1,r,L,by omega,by go_num,by omega,⟨HF2.out.symm,HB.out.2.1,B0.out⟩,own1⟩
end Go.Proofs
