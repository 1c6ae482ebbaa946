import Derived.Test.YtmomffminkflnaaGreatDoorRDdFinish
set_option maxRecDepth 100000
set_option maxHeartbeats 32000000
namespace Go.Proofs
open Go.RowKit Go.Shelf
def Dd.outsU(ls:List(Int×Int))(kid:Int)(k:Nat):List Nat:=(List.range k).filter λi=>decide(((ls[i]?).map Prod.fst)=some kid)
theorem Dd.outsU_step(ls:List(Int×Int))(kid:Int)(k:Nat)(a b:Int)(h:ls[k]? =some(a,b)):Dd.outsU ls kid(k+1)=Dd.outsU ls kid k++if a=kid then [k]else []:=by
 unfold Dd.outsU;rw [List.range_succ,List.filter_append]
 congr 1
 rw [List.filter_cons,List.filter_nil,h]
 by_cases e:a=kid
 ·rw [if_pos(decide_eq_true(by rw [e];rfl)),if_pos e]
 rw [if_neg(by simpa using e),if_neg e]
theorem Tryz.r19Outs_any(x0 x1 x2 x3 x4 x5 x6 x7 x8 x10 x11:Value)(la:Option Addr)(m lc:Nat)(ls:List(Int×Int))(kid:Int)(w:World)(hL:Ac.Lks w w.heap.size la ls)(hm:ls.length=m)(h60:m<=60):
  Calls Tryz.prog 30 #[.agg #[x0,x1,x2,x3,x4,x5,x6,x7,x8, .slice la m lc,x10,x11], .int .i64 kid]w λe w'=>Nt.Gives(Dd.outsD ls kid)w e w':=by
 obtain⟨i0,hi,hz0,hz1,hz2⟩:=info_parts Tryz.infoIntR;obtain⟨R,hR⟩: ∃R,Dd.outsD ls kid=R:=⟨_,rfl⟩;rw [hR];obtain⟨w1,hw1⟩: ∃z,w.alloc(.cells #[x0,x1,x2,x3,x4,x5,x6,x7,x8, .slice la m lc,x10,x11]48)=z:=⟨_,rfl⟩;have B1:Below w.heap.size w w1:=by rw [<-hw1];exact(Below.refl _ w).alloc(Nat.le_refl _)_
 have N1:w1.heap[w.heap.size]? =some(.cells #[x0,x1,x2,x3,x4,x5,x6,x7,x8, .slice la m lc,x10,x11]48(0,0)):=by rw [<-hw1];exact heap_alloc_new w _
 have c9:w1.cell? ⟨w.heap.size,9,none⟩=some(.slice la m lc):=by simp [World.cell?,N1]
 have H1:Hid _:=hw1;have HB:Hid(Below w.heap.size w w1):=B1;have HL:Hid(Ac.Lks w w.heap.size la ls/\ls.length=m):=⟨hL,hm⟩;have HR:Hid(Dd.outsU ls kid m=R):=by show Dd.outsU _ _ _=_;rw [<-hm];exact hR
 clear hL hm hR hw1 B1 N1
 go_enter Tryz.func30,Tryz.ntmps30
 go_upto_region 1 with fail
 rw [H1.out];go_wp2
 go_loopg [5,6,11]m(λgk s5 _ s11 wr=> ∃(j r:Nat)(L:List Nat),gk+j=m/\s11= .int .i64 j/\r<=j/\Hid(L=Dd.outsU ls kid j/\L.length=r/\Below w1.heap.size w1 wr)/\wr.ownsRow w1.heap.size 3 1 s5 r(Rk.nums L))
 case atStart=>exact⟨0,0, [],by omega,rfl,Nat.le_refl _,⟨rfl,rfl,Below.refl _ w1⟩,World.ownsRow_nil _ _ _ _⟩
 case round=>
  obtain⟨j,r,L,hj,rfl,hr,HJ,hown⟩:=hrel;obtain⟨av,cv,rfl⟩:=Rk.own_shape hown;clear c9
  by_cases hlt:j<m
  rotate_left
  ·have hd:decide((j:Int)<m)=false:=decide_eq_false(by omega)
   have HE:Hid(L=R/\L.length=r):=by
    obtain rfl:j=m:=by omega
    exact⟨HJ.out.1.trans HR.out,HJ.out.2.1⟩
   go_wp2;go_ret;rw [<-HE.out.1];refine⟨_,rfl, ?_,HB.out.trans(HJ.out.2.2.mono HB.out.size)⟩;have h:=Nt.own_lower hown HB.out.size;rw [<-HE.out.2]at h;rw [<-HE.out.2];exact h
  have hd:decide((j:Int)<m)=true:=decide_eq_true(by omega);have hjl:j<ls.length:=by rw [HL.out.2];exact hlt
  obtain⟨q,off,rfl,hq,d0,d1⟩:=HL.out.1 j hjl;obtain⟨x,hx⟩: ∃x,ls[j]=x:=⟨_,rfl⟩;obtain⟨a,b⟩:=x;rw [hx]at d0 d1;have j0:(0:Int)<=j:=by omega
  have j1:(j:Int)<m:=by omega
  have BW:Below w.heap.size w wr:=HB.out.trans(HJ.out.2.2.mono HB.out.size);have e0:wr.cell? ⟨q,off+j*2,none⟩=some(.int .i64 a):=by rw [BW.cell(p:=⟨q,off+j*2,none⟩)hq];exact d0
  have e1:wr.cell? ⟨q,off+j*2+1,none⟩=some(.int .i64 b):=by rw [BW.cell(p:=⟨q,off+j*2+1,none⟩)hq];exact d1
  obtain⟨w2,hw2⟩: ∃z,wr.alloc(.cells #[.int .i64 a, .int .i64 b]83)=z:=⟨_,rfl⟩;have B2:Below wr.heap.size wr w2:=by rw [<-hw2];exact(Below.refl _ wr).alloc(Nat.le_refl _)_
  have HB2:Hid(Below w1.heap.size w1 w2):=HJ.out.2.2.trans(B2.mono HJ.out.2.2.size);have N2:w2.heap[wr.heap.size]? =some(.cells #[.int .i64 a, .int .i64 b]83(0,0)):=by rw [<-hw2];exact heap_alloc_new wr _
  have k0:w2.cell? ⟨wr.heap.size,0,none⟩=some(.int .i64 a):=by simp [World.cell?,N2]
  have own1:w2.ownsRow w1.heap.size 3 1(.slice av r cv)r(Rk.nums L):=by rw [<-hw2];exact hown.alloc _
  have HS:Hid(Dd.outsU ls kid(j+1)=L++if a=kid then [j]else []):=by
   show _=_;rw [Dd.outsU_step ls kid j a b(by rw [List.getElem?_eq_getElem hjl,hx]),<-HJ.out.1]
  have HLL:Hid(L.length=r):=HJ.out.2.1;have HW2:Hid _:=hw2;clear d0 d1 hx hjl hq hw2 B2 N2 HJ BW hown
  by_cases ha:a=kid
  ·have he:(a==kid)=true:=by simpa using ha
   have HN:Hid(Dd.outsU ls kid(j+1)=L++ [j]):=by
    have h:=HS.out;rw [if_pos ha]at h;exact h
   clear ha HS;have hs1:=HB2.out.size
   go_upto_region 5 with fail
   rw [HW2.out]
   go_wp2_with(at_builtin;refine wpList_append_own _ rfl _ _ 51 rfl w1.heap.size 3 i0(.int .i64 0)1 8 Tryz.underlying51 hi hz0 hz1 hz2 rfl(by decide)_ _ _ rfl(own1.alloc _)⟨w2.heap.size,0,none⟩1 1 [.int .i64 j]rfl rfl(Rk.one_cell w2 j 3)(Rk.one_one j) ?c3 ?c4 ?c5 ?_)
   case c3=>unfold maxLen;omega
   case c4=>omega
   case c5=>simp;omega
   intro v' W3 own2 g2 _;obtain⟨a2,c2,rfl⟩:=Rk.own_shape own2;go_wp2;go_roundg(gk-1)
   case measure=>omega
   case rel=>
    refine⟨j+1,r+1,L++ [j],by omega,by go_num,by omega,⟨HN.out.symm,by simp [HLL.out],Rk.below_grown(HB2.out.alloc hs1 _)(by simp;omega)(own1.alloc _)g2⟩, ?_⟩;rw [Rk.nums_snoc];exact own2
  have he:(a==kid)=false:=by simpa using ha
  have HN:Hid(Dd.outsU ls kid(j+1)=L):=by
   have h:=HS.out;rw [if_neg ha,List.append_nil]at h;exact h
  clear ha HS
  go_upto_region 5 with fail
  rw [HW2.out];go_wp2;go_roundg(gk-1)
  case measure=>omega
  case rel=>exact⟨j+1,r,L,by omega,by go_num,by omega,⟨HN.out.symm,HLL.out,HB2.out⟩,own1⟩
theorem Dd.rzero_row:Tryz.zeroCells53=Dd.row Dd.zeros:=by kernel_rfl
theorem Dd.rinfo:(Tryz.prog.info? 53).map(·.size)=some 104:=by kernel_rfl
theorem Dd.rinfo_row {l:List Int} (h:l.length=104):(Tryz.prog.info? 53).map(·.size)=some(Dd.row l).size:=by rw [Dd.row_size,h];exact Dd.rinfo
structure Dd.RAt(W:World)(g:Nat)(l:List Int):Prop where
 h:W.heap[g]? =some(.cells(Dd.row l)53(0,0))
 len:l.length=104
theorem Dd.RAt.lt {W:World} {g:Nat} {l:List Int} (h:Dd.RAt W g l):g<W.heap.size:=(Array.getElem?_eq_some_iff.1 h.h).1
theorem Dd.RAt.cell {W:World} {g:Nat} {l:List Int} (h:Dd.RAt W g l)(i:Nat)(hi:i<104):W.cell? ⟨g,i,none⟩=some(.int .i64(l.getD i 0)):=by
 have h1:=h.h;simp only [World.cell?,h1];rw [Dd.row_get(by rw [h.len];exact hi)];rfl
theorem Dd.RAt.frozen {W:World} {g:Nat} {l:List Int} (h:Dd.RAt W g l)(i:Nat):W.frozen? ⟨g,i,none⟩=false:=by
 have h1:=h.h;simp [World.frozen?,h1]
theorem Dd.RAt.put {W:World} {g:Nat} {l:List Int} (h:Dd.RAt W g l)(i:Nat)(x:Int):Dd.RAt(W.setCell⟨g,i,none⟩(.int .i64 x))g(l.set i x):=by
 refine⟨?_,by rw [List.length_set];exact h.len⟩;have h1:=h.h;rw [<-Dd.row_set];simp [World.setCell,Array.getElem?_modify,h1]
theorem Dd.RAt.keep {W W':World} {g:Nat} {l:List Int} (h:Dd.RAt W g l)(hk:W'.heap[g]? =W.heap[g]?):Dd.RAt W' g l:=⟨hk.trans h.h,h.len⟩
theorem Dd.RAt.below {W W':World} {g B:Nat} {l:List Int} (h:Dd.RAt W g l)(hb:Below B W W')(hg:g<B):Dd.RAt W' g l:=h.keep(hb.block g hg)
theorem Dd.RAt.new(W:World) {l:List Int} (h:l.length=104):Dd.RAt(W.alloc(.cells(Dd.row l)53))W.heap.size l:=⟨heap_alloc_new W _,h⟩
theorem Dd.RAt.setRow {W:World} {g:Nat} {l:List Int} (h:Dd.RAt W g l) {t:List Int} (ht:t.length=104):Dd.RAt(W.setRow g(Dd.row t))g t:=⟨setRow_heap _ _ _ _ _ _ h.h,ht⟩
def Dd.RBx(W:World)(g:Nat)(xs:Array Value):Prop:=W.heap[g]? =some(.cells xs 48(0,0))
theorem Dd.RBx.lt {W:World} {g:Nat} {xs:Array Value} (h:Dd.RBx W g xs):g<W.heap.size:=(Array.getElem?_eq_some_iff.1 h).1
theorem Dd.RBx.below {W W':World} {g B:Nat} {xs:Array Value} (h:Dd.RBx W g xs)(hb:Below B W W')(hg:g<B):Dd.RBx W' g xs:=(hb.block g hg).trans h
theorem Dd.RBx.keep {W W':World} {g:Nat} {xs:Array Value} (h:Dd.RBx W g xs)(hk:W'.heap[g]? =W.heap[g]?):Dd.RBx W' g xs:=hk.trans h
structure Dd.CF(w:World)(xs:Array Value)(l:List Int)(c0 c1 c2:Int)(W:World):Prop where
 bx:Dd.RBx W w.heap.size xs
 st:Dd.RAt W(w.heap.size+1)l
 rs:W.heap[w.heap.size+1+1]? =some(.cells #[.int .i64 0, .int .i64 0, .int .i64 0]101(0,0))
 ct:W.heap[w.heap.size+1+1+1]? =some(.cells #[.int .i64 c0, .int .i64 c1, .int .i64 c2]101(0,0))
 bel:Below w.heap.size w W
theorem Dd.CF.new(w:World)(xs:Array Value) {l:List Int} (h:l.length=104):Dd.CF w xs l 0 0 0((((w.alloc(.cells xs 48)).alloc(.cells(Dd.row l)53)).alloc(.cells #[.int .i64 0, .int .i64 0, .int .i64 0]101)).alloc(.cells #[.int .i64 0, .int .i64 0, .int .i64 0]101)):=by
 obtain⟨w1,hw1⟩: ∃z,w.alloc(.cells xs 48)=z:=⟨_,rfl⟩;have s1:w1.heap.size=w.heap.size+1:=by rw [<-hw1];simp
 have h0:Dd.RBx w1 w.heap.size xs:=by rw [<-hw1];exact heap_alloc_new w _
 have b1:Below w.heap.size w w1:=by rw [<-hw1];exact(Below.refl _ w).alloc(Nat.le_refl _)_
 rw [hw1];obtain⟨w2,hw2⟩: ∃z,w1.alloc(.cells(Dd.row l)53)=z:=⟨_,rfl⟩;have s2:w2.heap.size=w.heap.size+1+1:=by rw [<-hw2];simp [s1]
 have b2:Below w1.heap.size w1 w2:=by rw [<-hw2];exact(Below.refl _ w1).alloc(Nat.le_refl _)_
 have h1:Dd.RAt w2(w.heap.size+1)l:=by rw [<-hw2,<-s1];exact Dd.RAt.new w1 h
 rw [hw2];obtain⟨w3,hw3⟩: ∃z,w2.alloc(.cells #[.int .i64 0, .int .i64 0, .int .i64 0]101)=z:=⟨_,rfl⟩;have s3:w3.heap.size=w.heap.size+1+1+1:=by rw [<-hw3];simp [s2]
 have b3:Below w2.heap.size w2 w3:=by rw [<-hw3];exact(Below.refl _ w2).alloc(Nat.le_refl _)_
 have h2:w3.heap[w.heap.size+1+1]? =some(.cells #[.int .i64 0, .int .i64 0, .int .i64 0]101(0,0)):=by rw [<-hw3,<-s2];exact heap_alloc_new w2 _
 rw [hw3];have b4:Below w3.heap.size w3(w3.alloc(.cells #[.int .i64 0, .int .i64 0, .int .i64 0]101)):=(Below.refl _ w3).alloc(Nat.le_refl _)_;refine⟨((h0.below b2(by omega)).below b3(by omega)).below b4(by omega),(h1.below b3(by omega)).below b4(by omega),(b4.block _(by omega)).trans h2,by rw [<-s3];exact heap_alloc_new w3 _, ?_⟩;exact((b1.trans(b2.mono(by omega))).trans(b3.mono(by omega))).trans(b4.mono(by omega))
theorem Dd.CF.below {w W W':World} {xs:Array Value} {l:List Int} {c0 c1 c2:Int} (h:Dd.CF w xs l c0 c1 c2 W)(hb:Below W.heap.size W W'):Dd.CF w xs l c0 c1 c2 W':=
 ⟨h.bx.below hb h.bx.lt,h.st.below hb h.st.lt,(hb.block _(Array.getElem?_eq_some_iff.1 h.rs).1).trans h.rs,(hb.block _(Array.getElem?_eq_some_iff.1 h.ct).1).trans h.ct,h.bel.trans(hb.mono h.bel.size)⟩
theorem Dd.CF.put {w W:World} {xs:Array Value} {l:List Int} {c0 c1 c2:Int} (h:Dd.CF w xs l c0 c1 c2 W)(i:Nat)(x d0 d1 d2:Int)
  (hi:(#[.int .i64 c0, .int .i64 c1, .int .i64 c2]:Array Value).setIfInBounds i(.int .i64 x)= #[.int .i64 d0, .int .i64 d1, .int .i64 d2]):Dd.CF w xs l d0 d1 d2(W.setCell⟨w.heap.size+1+1+1,i,none⟩(.int .i64 x)):=by
 refine⟨h.bx.keep(Below.heap_setCell _ _ _ _(by show w.heap.size≠w.heap.size+1+1+1;omega)),h.st.keep(Below.heap_setCell _ _ _ _(by show w.heap.size+1≠w.heap.size+1+1+1;omega)),(Below.heap_setCell _ _ _ _(by show w.heap.size+1+1≠w.heap.size+1+1+1;omega)).trans h.rs, ?_,h.bel.setCell(p:=⟨w.heap.size+1+1+1,i,none⟩)(by show w.heap.size<=w.heap.size+1+1+1;omega)_⟩;have h1:=h.ct;rw [<-hi];simp [World.setCell,Array.getElem?_modify,h1]
theorem Dd.CF.cs {w W:World} {xs:Array Value} {l:List Int} {c0 c1 c2:Int} (h:Dd.CF w xs l c0 c1 c2 W):
  W.cell? ⟨w.heap.size+1+1+1,0,none⟩=some(.int .i64 c0)/\W.cell? ⟨w.heap.size+1+1+1,1,none⟩=some(.int .i64 c1)/\W.cell? ⟨w.heap.size+1+1+1,2,none⟩=some(.int .i64 c2):=by
 have:=h.ct;simp [World.cell?,this]
theorem Dd.CF.fr {w W:World} {xs:Array Value} {l:List Int} {c0 c1 c2:Int} (h:Dd.CF w xs l c0 c1 c2 W)(i:Nat):W.frozen? ⟨w.heap.size+1+1+1,i,none⟩=false:=by
 have:=h.ct;simp [World.frozen?,this]
theorem Dd.countD_le(ls:List(Int×Int))(s:List Int)(kid:Int): ∀k,(Dd.countD ls s kid k).1<=k/\(Dd.countD ls s kid k).2.1<=k/\(Dd.countD ls s kid k).2.2<=k
 |0=>by simp [Dd.countD]
 |k+1=>by
  have ih:=Dd.countD_le ls s kid k;rw [Dd.countD]
  split
  ·dsimp only
   refine⟨?_, ?_,by omega⟩<;>split<;>omega
  omega
theorem Dd.countD_step(ls:List(Int×Int))(s:List Int)(kid:Int)(k:Nat)(a b v:Int)(h:ls[k]? =some(a,b))(hv:s.getD k 0=v) {c0 c1 c2:Nat} (hc:Dd.countD ls s kid k=(c0,c1,c2)):
  Dd.countD ls s kid(k+1)=if b=kid then(c0+(if v=1 then 1 else 0),c1+(if v=2 then 1 else 0),c2+1)else(c0,c1,c2):=by
 rw [Dd.countD,h,hv,hc]
 by_cases e:b=kid
 ·rw [if_pos(by rw [e];rfl),if_pos e]
 rw [if_neg(show¬(Option.map Prod.snd(some(a,b))=some kid)from λh=>e(Option.some.inj h)),if_neg e]
theorem Tryz.r19count_any(x0 x1 x2 x3 x4 x5 x6 x7 x8 x10 x11:Value)(la:Option Addr)(m lc:Nat)(ls:List(Int×Int))(s:List Int)(kid:Int)(w:World)(hL:Ac.Lks w w.heap.size la ls)(hm:ls.length=m)(h40:m<=40)(hs:s.length=104):
  Calls Tryz.prog 54 #[.agg #[x0,x1,x2,x3,x4,x5,x6,x7,x8, .slice la m lc,x10,x11], .agg(Dd.row s), .int .i64 kid]w λe w'=>
   e= .returned(.agg #[.int .i64(Dd.countD ls s kid m).1, .int .i64(Dd.countD ls s kid m).2.1, .int .i64(Dd.countD ls s kid m).2.2])/\Below w.heap.size w w':=by
 obtain⟨R,hR⟩: ∃R,Dd.countD ls s kid m=R:=⟨_,rfl⟩;obtain⟨R0,R1,R2⟩:=R;rw [hR];dsimp only;obtain⟨w1,hw1⟩: ∃z,((((w.alloc(.cells #[x0,x1,x2,x3,x4,x5,x6,x7,x8, .slice la m lc,x10,x11]48)).alloc(.cells(Dd.row s)53)).alloc(.cells #[.int .i64 0, .int .i64 0, .int .i64 0]101)).alloc(.cells #[.int .i64 0, .int .i64 0, .int .i64 0]101))=z:=⟨_,rfl⟩;have F1:=Dd.CF.new w #[x0,x1,x2,x3,x4,x5,x6,x7,x8, .slice la m lc,x10,x11]hs;rw [hw1]at F1
 have c9:w1.cell? ⟨w.heap.size,9,none⟩=some(.slice la m lc):=by
  have h:=F1.bx;unfold Dd.RBx at h;simp [World.cell?,h]
 have H1:Hid _:=hw1;have HF:Hid(Dd.CF w #[x0,x1,x2,x3,x4,x5,x6,x7,x8, .slice la m lc,x10,x11]s 0 0 0 w1):=F1;have HL:Hid(Ac.Lks w w.heap.size la ls/\ls.length=m):=⟨hL,hm⟩;have HR:Hid(Dd.countD ls s kid m=(R0,R1,R2)):=hR;obtain⟨la0,hla0⟩: ∃z,la=z:=⟨_,rfl⟩;have HLA:Hid(la=la0):=hla0;clear hL hm hR hw1 F1 hs hla0
 go_enter Tryz.func54,Tryz.ntmps54
 go_upto_region 2 with fail
 rw [H1.out];go_wp2
 go_loopg [8,14]m(λgk _ s14 wr=> ∃(j c0 c1 c2:Nat),gk+j=m/\s14= .int .i64 j/\(c0<=j/\c1<=j/\c2<=j)/\Hid(Dd.countD ls s kid j=(c0,c1,c2)/\Dd.CF w #[x0,x1,x2,x3,x4,x5,x6,x7,x8, .slice la0 m lc,x10,x11]s c0 c1 c2 wr))
 case atStart=>exact⟨0,0,0,0,by omega,rfl,by omega,rfl,by rw [<-HLA.out];exact HF.out⟩
 case round=>
  obtain⟨j,c0,c1,c2,hj,rfl,hc,HJ⟩:=hrel;clear c9
  by_cases hlt:j<m
  rotate_left
  ·have hd:decide((j:Int)<m)=false:=decide_eq_false(by omega)
   obtain⟨rfl,rfl,rfl⟩:c0=R0/\c1=R1/\c2=R2:=by
    obtain rfl:j=m:=by omega
    have h:=HJ.out.1.symm.trans HR.out;simpa using h
   have NU:=HJ.out.2.ct;have NR:=HJ.out.2.rs;have hu:=Tryz.underlying101;have e1:(Tryz.prog.info? 101).map(·.size)=some(#[.int .i64 c0, .int .i64 c1, .int .i64 c2]:Array Value).size:=by show _=some 3;kernel_rfl
   have e2:(#[.int .i64 0, .int .i64 0, .int .i64 0]:Array Value).size=(#[.int .i64 c0, .int .i64 c1, .int .i64 c2]:Array Value).size:=rfl;have e3:(#[.int .i64 c0, .int .i64 c1, .int .i64 c2]:Array Value).all(·.oneCell')=true:=by simp [Value.oneCell']
   have HX:Hid(Below w.heap.size w wr):=HJ.out.2.bel;clear HJ
   go_wp2_with(first
    |refine wpList_load_row rfl 101 _ rfl _ rfl 101 #[.int .i64 c0, .int .i64 c1, .int .i64 c2](0,0)_ NU hu rfl e1 ?_
    |refine wpList_store_row rfl 101 _ _ rfl(w.heap.size+1+1) #[.int .i64 c0, .int .i64 c1, .int .i64 c2]rfl rfl 101 _ NR e1 e2 e3 ?_)
   refine bodyPost_ret(v:= .agg #[.int .i64 c0, .int .i64 c1, .int .i64 c2])(results_cell_row Tryz.results54 _ _(w.heap.size+1+1)101 #[.int .i64 c0, .int .i64 c1, .int .i64 c2](0,0)_ rfl(setRow_heap _ _ _ _ _ _ NR)hu rfl e1)rfl⟨rfl,Tk.below_row HX.out(by omega)_⟩
  have hd:decide((j:Int)<m)=true:=decide_eq_true(by omega);have hjl:j<ls.length:=by rw [HL.out.2];exact hlt
  obtain⟨q,off,rfl,hq,d0,d1⟩:=HL.out.1 j hjl;obtain⟨x,hx⟩: ∃x,ls[j]=x:=⟨_,rfl⟩;obtain⟨a,b⟩:=x;rw [hx]at d0 d1;have j0:(0:Int)<=j:=by omega
  have j1:(j:Int)<m:=by omega
  have j2:(j:Int)<40:=by omega
  have e0:wr.cell? ⟨q,off+j*2,none⟩=some(.int .i64 a):=by rw [HJ.out.2.bel.cell(p:=⟨q,off+j*2,none⟩)hq];exact d0
  have e1:wr.cell? ⟨q,off+j*2+1,none⟩=some(.int .i64 b):=by rw [HJ.out.2.bel.cell(p:=⟨q,off+j*2+1,none⟩)hq];exact d1
  obtain⟨w2,hw2⟩: ∃z,wr.alloc(.cells #[.int .i64 a, .int .i64 b]83)=z:=⟨_,rfl⟩;have B2:Below wr.heap.size wr w2:=by rw [<-hw2];exact(Below.refl _ wr).alloc(Nat.le_refl _)_
  have F2:=HJ.out.2.below B2;obtain⟨v,hv⟩: ∃v,s.getD j 0=v:=⟨_,rfl⟩;have HC:=Dd.countD_step ls s kid j a b v(by rw [List.getElem?_eq_getElem hjl,hx])hv HJ.out.1;have N2:w2.heap[wr.heap.size]? =some(.cells #[.int .i64 a, .int .i64 b]83(0,0)):=by rw [<-hw2];exact heap_alloc_new wr _
  have k1:w2.cell? ⟨wr.heap.size,1,none⟩=some(.int .i64 b):=by simp [World.cell?,N2]
  have HW2:Hid _:=hw2
  by_cases hb:b=kid
  rotate_left
  ·have he:(b !=kid)=true:=by simpa using hb
   rw [if_neg hb]at HC;have HG:Hid(Dd.countD ls s kid(j+1)=(c0,c1,c2)/\Dd.CF w #[x0,x1,x2,x3,x4,x5,x6,x7,x8, .slice la0 m lc,x10,x11]s c0 c1 c2 w2):=⟨HC,F2⟩;clear d0 d1 hx hjl hq hw2 B2 F2 N2 HJ hb HC hv
   go_upto_region 5 with fail
   rw [HW2.out];go_wp2;go_roundg(gk-1)
   case measure=>omega
   case rel=>exact⟨j+1,c0,c1,c2,by omega,by go_num,by omega,HG.out⟩
  have he:(b !=kid)=false:=by simp [hb]
  rw [if_pos hb]at HC;have G3:=F2.put 2(c2+1)c0 c1(c2+1)rfl;obtain⟨w3,hw3⟩: ∃z,w2.setCell⟨w.heap.size+1+1+1,2,none⟩(.int .i64(c2+1))=z:=⟨_,rfl⟩;rw [hw3]at G3;have f2:=F2.fr 2;have g2:=F2.cs.2.2;have s3:w3.cell? ⟨w.heap.size+1,j,none⟩=some(.int .i64 v):=by have h:=G3.st.cell j(by omega);rw [hv]at h;exact h
  have h0:=G3.cs.1;have h1:=G3.cs.2.1;have f30:=G3.fr 0;have f31:=G3.fr 1;have HG3:Hid _:=G3;have HW3:Hid _:=hw3;have HCC:Hid _:=HC;clear d0 d1 hx hjl hq hw2 B2 F2 N2 HJ hb G3 hw3 HC hv
  go_upto_region 5 with fail
  rw [HW2.out]
  go_upto_region 7 with fail
  rw [HW3.out];clear f2 g2 k1
  by_cases v1:v=1
  ·have ev1:(v==1)=true:=by simp [v1]
   have ev2:(v==2)=false:=by simp [v1]
   have G4:=HG3.out.put 0(c0+1)(c0+1)c1(c2+1)rfl;have s4:=G4.st.cell j(by omega);have HG4:Hid(Dd.countD ls s kid(j+1)=(c0+1,c1,c2+1)/\_):=⟨by rw [HCC.out,if_pos v1,if_neg(by omega)];rfl,G4⟩;rw [show s.getD j 0=v from by have:=HG3.out.st.cell j(by omega);rw [s3]at this;simpa using this.symm]at s4;clear v1 G4;go_wp2;go_roundg(gk-1)
   case measure=>omega
   case rel=>exact⟨j+1,c0+1,c1,c2+1,by omega,by go_num,by omega,HG4.out.1,HG4.out.2⟩
  have ev1:(v==1)=false:=by simpa using v1
  by_cases v2:v=2
  ·have ev2:(v==2)=true:=by simp [v2]
   have G4:=HG3.out.put 1(c1+1)c0(c1+1)(c2+1)rfl;have HG4:Hid(Dd.countD ls s kid(j+1)=(c0,c1+1,c2+1)/\_):=⟨by rw [HCC.out,if_neg v1,if_pos v2];rfl,G4⟩;clear v1 v2 G4;go_wp2;go_roundg(gk-1)
   case measure=>omega
   case rel=>exact⟨j+1,c0,c1+1,c2+1,by omega,by go_num,by omega,HG4.out.1,HG4.out.2⟩
  have ev2:(v==2)=false:=by simpa using v2
  have HG4:Hid(Dd.countD ls s kid(j+1)=(c0,c1,c2+1)):=by show _=_;rw [HCC.out,if_neg v1,if_neg v2];rfl
  clear v1 v2;go_wp2;go_roundg(gk-1)
  case measure=>omega
  case rel=>exact⟨j+1,c0,c1,c2+1,by omega,by go_num,by omega,HG4.out,HG3.out⟩
end Go.Proofs
namespace Go.Proofs
open Go.RowKit
def Tk.Rm(b:Nat)(k:Int)(w:World):Prop:=w.heap[b]? =some(.cells #[.int .i64 k]36(0,0))
theorem Tk.Rm.c0 {b:Nat} {k:Int} {w:World} (h:Tk.Rm b k w):w.cell? ⟨b,0,none⟩=some(.int .i64 k):=by simp only [Tk.Rm]at h;simp [World.cell?,h]
theorem Tk.Rm.f0 {b:Nat} {k:Int} {w:World} (h:Tk.Rm b k w):w.frozen? ⟨b,0,none⟩=false:=by simp only [Tk.Rm]at h;simp [World.frozen?,h]
theorem Tk.Rm.lt {b:Nat} {k:Int} {w:World} (h:Tk.Rm b k w):b<w.heap.size:=(Array.getElem?_eq_some_iff.1 h).1
theorem Tk.Rm.put {b:Nat} {k:Int} {w:World} (h:Tk.Rm b k w)(k':Int):Tk.Rm b k'(w.setCell⟨b,0,none⟩(.int .i64 k')):=by
 unfold Tk.Rm at*;simp [World.setCell,Array.getElem?_modify,h]
theorem Tk.Rm.keep {b:Nat} {k:Int} {w w':World} (h:Tk.Rm b k w)(hk:w'.heap[b]? =w.heap[b]?):Tk.Rm b k w':=by unfold Tk.Rm;rw [hk];exact h
def Tk.LargeEnd(T:Tm)(k:Nat)(b:Nat)(w:World)(e:Ending)(w':World):Prop:=
 Tk.But(λi=>i=b)w w'/\((e= .returned(.bool false)/\T.size<=k/\Tk.Rm b((k-T.size:Nat):Int)w')∨e= .returned(.bool true))
theorem Tryz.deep_any: ∀(d:Nat)(T:Tm)(v:Value)(k b:Nat)(dp:Nat)(B:Nat)(w:World),Tm.Lies w B d v T->B<=b->B<=w.heap.size->Tk.Rm b k w->k<=1000000->dp<=1000->
  Calls Tryz.prog 25 #[.agg #[.int .i64 T.op, .int .i64 T.num,v], .pointer(some⟨b,0,none⟩), .int .i64 dp]w λe w'=>Tk.LargeEnd T k b w e w':=by
 intro d
 induction d with
 |zero=>intro T v k b dp B w h;exact h.elim
 |succ d ih=>
  intro T v k b dp B w hT hBb hBs hR hk hdp;obtain⟨a,cap,rfl⟩:=hT.shape;obtain⟨o,ho⟩: ∃o,T.op=o:=⟨_,rfl⟩;obtain⟨m,hm⟩: ∃m,T.num=m:=⟨_,rfl⟩;obtain⟨n,hn⟩: ∃n,T.ks.length=n:=⟨_,rfl⟩;rw [ho,hm,hn];rw [hn]at hT;have A0:Below w.heap.size w(w.alloc(.cells #[.int .i64 o, .int .i64 m, .slice a n cap]24)):=(Below.refl _ w).alloc(Nat.le_refl _)_;have R0:Tk.Rm b k(w.alloc(.cells #[.int .i64 o, .int .i64 m, .slice a n cap]24)):=hR.keep(A0.block b hR.lt);have c0:=R0.c0;have f0:=R0.f0;have R1:=R0.put((k:Int)-1);obtain⟨w1,hw1⟩: ∃w1,(w.alloc(.cells #[.int .i64 o, .int .i64 m, .slice a n cap]24)).setCell⟨b,0,none⟩(.int .i64((k:Int)-1))=w1:=⟨_,rfl⟩;have X1:Hid(Tk.But(λi=>i=b)w w1):=by show Tk.But _ _ _;rw [<-hw1];exact(Tk.But.of_below A0).setCell(E:=λi=>i=b)(p:=⟨b,0,none⟩)rfl _
  rw [hw1]at R1;have g0:=R1.c0
  have hbx:w1.heap[w.heap.size]? =some(.cells #[.int .i64 o, .int .i64 m, .slice a n cap]24(0,0)):=by
   rw [<-hw1,Below.heap_setCell _ _ _ _(by have:=hR.lt;show w.heap.size≠b;omega)];exact heap_alloc_new w _
  have g2:w1.cell? ⟨w.heap.size,2,none⟩=some(.slice a n cap):=by simp [World.cell?,hbx]
  have HW1:Hid((w.alloc(.cells #[.int .i64 o, .int .i64 m, .slice a n cap]24)).setCell⟨b,0,none⟩(.int .i64((k:Int)-1))=w1):=hw1;have HT:Hid(Tm.Lies w B(d+1)(.slice a n cap)T):=hT;have HI:Hid _:=ih;have HM:Hid(T.op=o/\T.num=m/\T.ks.length=n/\B<=b/\B<=w.heap.size):=⟨ho,hm,hn,hBb,hBs⟩;have HR1:Hid(Tk.Rm b((k:Int)-1)w1):=R1;have HRl:Hid(b<w.heap.size):=hR.lt;clear ih hT hR A0 R0 ho hm hn hw1 R1 hbx hBb hBs
  by_cases hbad:(k:Int)-1<0∨30<dp∨20<n
  ·obtain h1|⟨h1,h2⟩|⟨h1,h2,h3⟩:decide((k:Int)-1<0)=true∨(decide((k:Int)-1<0)=false/\decide((30:Int)<dp)=true)∨(decide((k:Int)-1<0)=false/\decide((30:Int)<dp)=false/\decide((20:Int)<n)=true):=by
    simp;omega
   all_goals
    clear hbad
    go_enter Tryz.func25,Tryz.ntmps25
    go_wp2;go_ret;exact⟨by rw [HW1.out];exact X1.out, .inr rfl⟩
  have h1:decide((k:Int)-1<0)=false:=decide_eq_false(by omega);have h2:decide((30:Int)<dp)=false:=decide_eq_false(by omega);have h3:decide((20:Int)<n)=false:=decide_eq_false(by omega);have hn100:n<=100:=by omega
  have hdp':dp<=100:=by omega
  have HK:Hid(1<=k):=by show 1<=k;omega
  clear hbad
  go_enter Tryz.func25,Tryz.ntmps25
  go_wp2;rw [HW1.out]
  go_loopg [35]n(λg i wr=> ∃j:Nat,g+j=n/\i= .int .i64 j/\Hid(Tk.But(λi=>i=b)w wr/\Tm.sizes(T.ks.take j)<=k-1/\Tk.Rm b((k-1-Tm.sizes(T.ks.take j):Nat):Int)wr))
  case atStart=>
   refine⟨0,by omega,rfl,X1.out,by simp [Tm.sizes], ?_⟩;have:=HR1.out;rw [show(k:Int)-1=((k-1:Nat):Int)by have:=HK.out;omega]at this;simpa [Tm.sizes]using this
  case round=>
   obtain⟨j,hj,rfl,HJ⟩:=hrel
   by_cases hjn:j<n
   rotate_left
   ·have hd:decide((j:Int)<n)=false:=decide_eq_false(by omega)
    have hall:T.ks.take j=T.ks:=List.take_of_length_le(by rw [HM.out.2.2.1];omega);have HZ:=HJ.out;rw [hall]at HZ;have HZ':Hid _:=HZ;clear HZ;go_wp2;go_ret;refine⟨HZ'.out.1, .inl⟨rfl, ?_, ?_⟩⟩
    ·rw [T.size_eq];have:=HZ'.out.2.1;have:=HK.out;omega
    rw [T.size_eq,show k-(Tm.sizes T.ks+1)=k-1-Tm.sizes T.ks by omega];exact HZ'.out.2.2
   have hd:decide((j:Int)<n)=true:=decide_eq_true(by omega);have hjk:j<T.ks.length:=by rw [HM.out.2.2.1];exact hjn
   obtain⟨g,off,u,rfl,hg,q0,q1,q2,q3⟩:=HT.out.kid j hjk;obtain⟨x,hx⟩: ∃x,T.ks[j]=x:=⟨_,rfl⟩;rw [hx]at q0 q1 q3;obtain⟨au,cu,rfl⟩:=q3.shape;obtain⟨nx,hnx⟩: ∃n,x.ks.length=n:=⟨_,rfl⟩;rw [hnx]at q2 q3;obtain⟨y0,hy0⟩: ∃y,x.op=y:=⟨_,rfl⟩;obtain⟨y1,hz1⟩: ∃y,x.num=y:=⟨_,rfl⟩;rw [hy0]at q0;rw [hz1]at q1;have hE: ∀i,i<B-> ¬(i=b):=λi hi=>by have:=HM.out;omega
   have hc: ∀p,wr.cell? ⟨g,p,none⟩=w.cell? ⟨g,p,none⟩:=λp=>World.cell?_of_block(w:=w)(HJ.out.1.block g(by have:=HM.out;omega)(hE g hg));have hc0:wr.cell? ⟨g,off+j*3,none⟩=some(.int .i64 y0):=by rw [hc];exact q0
   have hc1:wr.cell? ⟨g,off+j*3+1,none⟩=some(.int .i64 y1):=by rw [hc];exact q1
   have hc2:wr.cell? ⟨g,off+j*3+2,none⟩=some(.slice au nx cu):=by rw [hc];exact q2
   have BA:Hid(Tk.But(λi=>i=b)w(wr.alloc(.cells #[.int .i64 y0, .int .i64 y1, .slice au nx cu]24))):=HJ.out.1.alloc _
   have hcall:=HI.out x(.slice au nx cu)(k-1-Tm.sizes(T.ks.take j))b(dp+1)B(wr.alloc(.cells #[.int .i64 y0, .int .i64 y1, .slice au nx cu]24))
    (q3.keep λi hi=>BA.out.block i(by have:=HM.out;omega)(hE i hi))HM.out.2.2.2.1(by have:=HM.out;have:=BA.out.size;omega)(HJ.out.2.2.keep(Below.heap_alloc _ _ _ HJ.out.2.2.lt))(by omega)(by omega)
   rw [hy0,hz1,show((dp+1:Nat):Int)=(dp:Int)+1 by omega]at hcall;have HC:Hid _:=hcall;have HY:Hid(T.ks[j]=x):=hx;clear hc q0 q1 q2 q3 hx hy0 hz1 hnx hcall hE g0 g2 c0 f0
   go_wp2_with fail
   refine Calls.mono HC.out ?_;rintro e W3⟨hb3,⟨rfl,hs3,hr3⟩|rfl⟩
   ·have B3:Hid(Tk.But(λi=>i=b)w W3):=BA.out.trans hb3
    have H3:Hid(x.size<=k-1-Tm.sizes(T.ks.take j)/\Tk.Rm b((k-1-Tm.sizes(T.ks.take j)-x.size:Nat):Int)W3):=⟨hs3,hr3⟩;clear hb3 hs3 hr3 HC;go_wp2;go_roundg(gk-1)
    case measure=>omega
    case rel=>
     refine⟨j+1,by omega,by go_num,B3.out, ?_, ?_⟩
     ·rw [Tm.sizes_take _ _ hjk,HY.out];have:=H3.out.1;have:=HJ.out.2.1;omega
     rw [Tm.sizes_take _ _ hjk,HY.out,<-Nat.sub_sub];exact H3.out.2
   have B3:Hid(Tk.But(λi=>i=b)w W3):=BA.out.trans hb3;clear hb3 HC;go_wp2;go_ret;exact⟨B3.out, .inr rfl⟩
end Go.Proofs
