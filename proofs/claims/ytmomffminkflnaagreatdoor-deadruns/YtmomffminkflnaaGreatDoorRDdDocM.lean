import Derived.Test.YtmomffminkflnaaGreatDoorRAcGo
import Derived.Test.YtmomffminkflnaaGreatDoorRAllTChk
import Derived.Deep.Slices
set_option maxRecDepth 100000
set_option maxHeartbeats 32000000
namespace Go.Proofs
namespace Dd
def outsD(ls:List(Int×Int))(kid:Int):List Nat:=(List.range ls.length).filter λi=>decide(((ls[i]?).map Prod.fst)=some kid)
def countD(ls:List(Int×Int))(s:List Int)(kid:Int):Nat->Nat×Nat×Nat
 |0=>(0,0,0)
 |k+1=>if(ls[k]?).map Prod.snd=some kid then((countD ls s kid k).1+(if s.getD k 0=1 then 1 else 0),(countD ls s kid k).2.1+(if s.getD k 0=2 then 1 else 0),(countD ls s kid k).2.2+1)else countD ls s kid k
def livesD(kk:List(Int×Int))(k:Nat)(c:Nat×Nat×Nat):Bool:=if gateB kk k=true/\doesI kk k=2 then decide(c.1=c.2.2)else decide(0<c.1)
def fateD(ls kk:List(Int×Int))(s:List Int)(k:Nat):List Int:=
 if livesD kk k(countD ls s k ls.length)=false then ended ls s k 3 else if Auto kk k then ended ls s k 2 else s.set(40+k)1
def oneK(ls kk:List(Int×Int))(s:List Int):Nat->Option(List Int)
 |0=>none
 |k+1=>match oneK ls kk s k with
  |some t=>some t
  |none=>if s.getD(40+k)0≠0∨(countD ls s k ls.length).1+(countD ls s k ls.length).2.1<(countD ls s k ls.length).2.2 then none else some(fateD ls kk s k)
def settledF(ls kk:List(Int×Int)):Nat->List Int->List Int
 |0,s=>s
 |f+1,s=>settledF ls kk f((oneK ls kk s kk.length).getD s)
def Val(ls:List(Int×Int))(s:List Int):Prop:=s.length=104/\ ∀i,i<ls.length->s.getD i 0=0∨s.getD i 0=1∨s.getD i 0=2
theorem countD_scan {ls:List(Int×Int)} {s:List Int} (kid:Int): ∀k,(∀i,i<k->s.getD i 0=0∨s.getD i 0=1∨s.getD i 0=2)->(countD ls s kid k).1+(countD ls s kid k).2.1<=(countD ls s kid k).2.2/\
  match scan ls s kid k with
  |none=>(countD ls s kid k).1+(countD ls s kid k).2.1<(countD ls s kid k).2.2
  |some p=>(countD ls s kid k).1+(countD ls s kid k).2.1=(countD ls s kid k).2.2/\(p.1=true↔(countD ls s kid k).1=(countD ls s kid k).2.2)/\(p.2=true↔0<(countD ls s kid k).1)
 |0,_=>by simp [countD,scan]
 |k+1,h=>by
  obtain⟨h0,ih⟩:=countD_scan(ls:=ls)(s:=s)kid k λi hi=>h i(by omega);have hv:=h k(by omega);rw [scan,countD]
  by_cases e:(ls[k]?).map Prod.snd=some kid
  rotate_left
  ·rw [if_neg e]
   refine⟨h0, ?_⟩
   cases hs:scan ls s kid k with
   |none=>rw [hs]at ih;exact ih
   |some p=>
    rw [hs]at ih;dsimp only;rw [if_neg e];exact ih
  rw [if_pos e];dsimp only
  cases hs:scan ls s kid k with
  |none=>
   rw [hs]at ih;dsimp only at ih⊢
   refine⟨?_, ?_⟩<;>rcases hv with v|v|v<;>simp only [v]<;>simp<;>omega
  |some p=>
   rw [hs]at ih;dsimp only at ih⊢;rw [if_pos e];obtain⟨i1,i2,i3⟩:=ih
   rcases hv with v|v|v
   ·simp only [v];simp;omega
   ·simp only [v]
    simp
    refine⟨by omega, ?_⟩;rw [i2];omega
   simp only [v]
   simp
   refine⟨by omega,by omega, ?_, ?_⟩
   ·have:=i3;omega
   rw [i3]
theorem countD_all(ls:List(Int×Int))(s:List Int)(kid:Int): ∀k,k<=ls.length->(∃i,i<k/\(ls[i]?).map Prod.snd=some kid)->0<(countD ls s kid k).2.2
 |0,_,⟨i,hi,_⟩=>by omega
 |k+1,hk,⟨i,hi,e⟩=>by
  rw [countD]
  by_cases q:(ls[k]?).map Prod.snd=some kid
  ·rw [if_pos q];simp
  rw [if_neg q];refine countD_all ls s kid k(by omega)⟨i, ?_,e⟩
  by_cases z:i=k
  ·subst z;exact absurd e q
  omega
def HasIn(ls kk:List(Int×Int)):Prop:= ∀k:Nat,k<kk.length-> ∃i,i<ls.length/\(ls[i]?).map Prod.snd=some(k:Int)
theorem fateD_eq {ls kk:List(Int×Int)} {s:List Int} (hv:Val ls s)(hi:HasIn ls kk) {k:Nat} (hk:k<kk.length)(h0:s.getD(40+k)0=0) {p:Bool×Bool} (hp:scan ls s k ls.length=some p):fateD ls kk s k=decided ls kk s k:=by
 have h1:=(countD_scan(ls:=ls)(s:=s)(k:Int)ls.length hv.2).2;rw [hp]at h1;obtain⟨_,i2,i3⟩:=h1;have i4:=countD_all ls s k ls.length(Nat.le_refl _)(hi k hk)
 have hd:livesD kk k(countD ls s k ls.length)=false↔Dies kk k p:=by
  unfold livesD Dies
  by_cases q:gateB kk k=true/\doesI kk k=2
  ·rw [if_pos q,decide_eq_false_iff_not,<-i2,Bool.not_eq_true]
   constructor
   ·intro h;exact .inr⟨q.1,q.2,h⟩
   rintro(h|h)
   ·rw [<-Bool.not_eq_true]
    intro h';have:=i2.1 h';have h'': ¬0<(countD ls s(↑k)ls.length).1:=λhh=>by have:=i3.2 hh;rw [h]at this;cases this
    omega
   exact h.2.2
  rw [if_neg q,decide_eq_false_iff_not,<-i3,Bool.not_eq_true]
  constructor
  ·intro h;exact .inl h
  rintro(h|h)
  ·exact h
  exact absurd⟨h.1,h.2.1⟩q
 unfold fateD decided;rw [if_pos h0,hp];dsimp only
 by_cases d:Dies kk k p
 ·rw [if_pos(hd.2 d),if_pos d]
 rw [if_neg(λh=>d(hd.1 h)),if_neg d]
theorem oneK_eq {ls kk:List(Int×Int)} (hw:Web ls kk)(hi:HasIn ls kk) {s:List Int} (hv:Val ls s): ∀n,n<=kk.length->oneK ls kk s n=nextK ls kk s n
 |0,_=>rfl
 |n+1,hn=>by
  rw [oneK,nextK,oneK_eq hw hi hv n(by omega)]
  cases nextK ls kk s n with
  |some t=>rfl
  |none=>
   dsimp only;have hd:=decided_same(kk:=kk)hw.l40 hv.1(show n<64 by have:=hw.k64;omega);have h1:=countD_scan(ls:=ls)(s:=s)(n:Int)ls.length hv.2
   by_cases h0:s.getD(40+n)0=0
   rotate_left
   ·rw [if_pos(.inl h0),if_pos(hd.2(.inl h0))]
   cases hp:scan ls s n ls.length with
   |none=>
    rw [hp]at h1;rw [if_pos(.inr h1.2),if_pos(hd.2(.inr hp))]
   |some p=>
    rw [hp]at h1;rw [if_neg,if_neg,fateD_eq hv hi(by omega)h0 hp]
    ·intro e
     rcases hd.1 e with e|e
     ·exact e h0
     rw [hp]at e;simp at e
    rintro(e|e)
    ·exact e h0
    have:=h1.2.1;omega
theorem Val.decided {ls kk:List(Int×Int)} (hw:Web ls kk) {s:List Int} (hv:Val ls s) {k:Nat} (hk:k<kk.length):Val ls(decided ls kk s k):=by
 have l40:=hw.l40;have k64:=hw.k64;have hl:=hv.1
 have he: ∀how:Int,Val ls(ended ls s k how):=λhow=>by
  refine⟨by rw [ended_length];exact hl,λi hi=> ?_⟩;rw [ended_get _ _ _ _(by omega)(by omega),if_neg(show¬40+k=i by omega)]
  split
  ·split
   ·exact .inr(.inl rfl)
   exact .inr(.inr rfl)
  exact hv.2 i hi
 unfold Dd.decided
 split
 ·split
  ·exact hv
  split
  ·exact he 3
  split
  ·exact he 2
  refine⟨by rw [List.length_set];exact hl,λi hi=> ?_⟩;rw [getD_set _ _ _ _(by omega),if_neg(by omega)];exact hv.2 i hi
 exact hv
theorem settledF_eq {ls kk:List(Int×Int)} (hw:Web ls kk)(hi:HasIn ls kk): ∀(f:Nat)(s:List Int),Val ls s->settledF ls kk f s=settleF ls kk f s
 |0,s,_=>rfl
 |f+1,s,hv=>by
  rw [settledF,settleF,oneK_eq hw hi hv _(Nat.le_refl _)]
  cases hq:nextK ls kk s kk.length with
  |some t=>
   obtain⟨k,p,hk,h0,hp,rfl⟩:=next_some hw hv.1(Nat.le_refl _)hq;exact settledF_eq hw hi f _(hv.decided hw hk)
  |none=>
   show settledF ls kk f s=s
   have: ∀g,settledF ls kk g s=s:=by
    intro g
    induction g with
    |zero=>rfl
    |succ g ih=>rw [settledF,oneK_eq hw hi hv _(Nat.le_refl _),hq];exact ih
   exact this f
theorem settled_eq {ls kk:List(Int×Int)} (hw:Web ls kk)(hi:HasIn ls kk) {s:List Int} (hv:Val ls s):settledF ls kk kk.length s=settle ls kk s:=settledF_eq hw hi _ s hv
end Dd
end Go.Proofs
namespace Go.Proofs
open Go.RowKit Go.Shelf
def Dd.ints(l:List Int):List Value:=l.map λn=> .int .i64 n
def Dd.row(l:List Int):Array Value:=(Dd.ints l).toArray
theorem Dd.row_size(l:List Int):(Dd.row l).size=l.length:=by simp [Dd.row,Dd.ints]
theorem Dd.row_get {l:List Int} {i:Nat} (h:i<l.length):(Dd.row l)[i]? =some(.int .i64(l.getD i 0)):=by
 simp [Dd.row,Dd.ints,List.getElem?_map,List.getElem?_eq_getElem h,List.getD_eq_getElem?_getD]
theorem Dd.row_set(l:List Int)(i:Nat)(x:Int):(Dd.row l).setIfInBounds i(.int .i64 x)=Dd.row(l.set i x):=by simp [Dd.row,Dd.ints,List.map_set]
theorem Dd.row_one(l:List Int):(Dd.row l).all(·.oneCell')=true:=by
 rw [Array.all_eq_true];intro i hi;simp [Dd.row,Dd.ints,Value.oneCell']
theorem Dd.zero_row:Tryz.zeroCells41=Dd.row Dd.zeros:=by kernel_rfl
theorem Dd.zeros_length:Dd.zeros.length=104:=by simp [Dd.zeros]
theorem Dd.info:(Tryz.prog.info? 41).map(·.size)=some 104:=by kernel_rfl
theorem Dd.info_row {l:List Int} (h:l.length=104):(Tryz.prog.info? 41).map(·.size)=some(Dd.row l).size:=by rw [Dd.row_size,h];exact Dd.info
structure Dd.At(W:World)(g:Nat)(l:List Int):Prop where
 h:W.heap[g]? =some(.cells(Dd.row l)41(0,0))
 len:l.length=104
theorem Dd.At.lt {W:World} {g:Nat} {l:List Int} (h:Dd.At W g l):g<W.heap.size:=(Array.getElem?_eq_some_iff.1 h.h).1
theorem Dd.At.cell {W:World} {g:Nat} {l:List Int} (h:Dd.At W g l)(i:Nat)(hi:i<104):W.cell? ⟨g,i,none⟩=some(.int .i64(l.getD i 0)):=by
 have h1:=h.h;simp only [World.cell?,h1];rw [Dd.row_get(by rw [h.len];exact hi)];rfl
theorem Dd.At.frozen {W:World} {g:Nat} {l:List Int} (h:Dd.At W g l)(i:Nat):W.frozen? ⟨g,i,none⟩=false:=by
 have h1:=h.h;simp [World.frozen?,h1]
theorem Dd.At.put {W:World} {g:Nat} {l:List Int} (h:Dd.At W g l)(i:Nat)(x:Int):Dd.At(W.setCell⟨g,i,none⟩(.int .i64 x))g(l.set i x):=by
 refine⟨?_,by rw [List.length_set];exact h.len⟩;have h1:=h.h;rw [<-Dd.row_set];simp [World.setCell,Array.getElem?_modify,h1]
theorem Dd.At.keep {W W':World} {g:Nat} {l:List Int} (h:Dd.At W g l)(hk:W'.heap[g]? =W.heap[g]?):Dd.At W' g l:=⟨hk.trans h.h,h.len⟩
theorem Dd.At.below {W W':World} {g B:Nat} {l:List Int} (h:Dd.At W g l)(hb:Below B W W')(hg:g<B):Dd.At W' g l:=h.keep(hb.block g hg)
theorem Dd.At.new(W:World) {l:List Int} (h:l.length=104):Dd.At(W.alloc(.cells(Dd.row l)41))W.heap.size l:=⟨heap_alloc_new W _,h⟩
theorem Dd.At.setRow {W:World} {g:Nat} {l:List Int} (h:Dd.At W g l) {t:List Int} (ht:t.length=104):Dd.At(W.setRow g(Dd.row t))g t:=⟨setRow_heap _ _ _ _ _ _ h.h,ht⟩
theorem Dd.results2 {fn:Func} {p u:Tmp} {ty:TypeId} (h:fn.results= #[.cell p ty, .tmp u])(tmps:Array Value)(w:World)(q:Nat)(cs:Array Value)
  (hp:tmps.getD p undef= .pointer(some⟨q,0,none⟩))(hr:(loadVar ty⟨q,0,none⟩).run Tryz.prog w= .ok(.agg cs)w):
  (results fn tmps).run Tryz.prog w= .ok(.tuple #[.agg cs,tmps.getD u undef])w:=by
 have hp':tmps[p]?.getD undef= .pointer(some⟨q,0,none⟩):=by simpa using hp
 simp [results,h,hp',asAddr,hr]
def Dd.Bx(W:World)(g:Nat)(xs:Array Value):Prop:=W.heap[g]? =some(.cells xs 32(0,0))
theorem Dd.Bx.lt {W:World} {g:Nat} {xs:Array Value} (h:Dd.Bx W g xs):g<W.heap.size:=(Array.getElem?_eq_some_iff.1 h).1
theorem Dd.Bx.below {W W':World} {g B:Nat} {xs:Array Value} (h:Dd.Bx W g xs)(hb:Below B W W')(hg:g<B):Dd.Bx W' g xs:=(hb.block g hg).trans h
theorem Dd.Bx.keep {W W':World} {g:Nat} {xs:Array Value} (h:Dd.Bx W g xs)(hk:W'.heap[g]? =W.heap[g]?):Dd.Bx W' g xs:=hk.trans h
structure Dd.Fr(w:World)(xs:Array Value)(l r:List Int)(W:World):Prop where
 bx:Dd.Bx W w.heap.size xs
 st:Dd.At W(w.heap.size+1)l
 rs:Dd.At W(w.heap.size+1+1)r
 bel:Below w.heap.size w W
theorem Dd.Fr.new(w:World)(xs:Array Value) {l:List Int} (h:l.length=104):Dd.Fr w xs l Dd.zeros(((w.alloc(.cells xs 32)).alloc(.cells(Dd.row l)41)).alloc(.cells Tryz.zeroCells41 41)):=by
 have h0:Dd.Bx(w.alloc(.cells xs 32))w.heap.size xs:=heap_alloc_new w _;have h1:=Dd.At.new(w.alloc(.cells xs 32))h;have h2:=Dd.At.new((w.alloc(.cells xs 32)).alloc(.cells(Dd.row l)41))Dd.zeros_length;rw [Dd.zero_row];rw [show(w.alloc(.cells xs 32)).heap.size=w.heap.size+1 by simp]at h1;rw [show((w.alloc(.cells xs 32)).alloc(.cells(Dd.row l)41)).heap.size=w.heap.size+1+1 by simp]at h2;refine⟨(h0.keep(Below.heap_alloc _ _ _ h0.lt)).keep(Below.heap_alloc _ _ _(by simp;omega)),h1.keep(Below.heap_alloc _ _ _ h1.lt),h2, ?_⟩;exact(((Below.refl _ w).alloc(Nat.le_refl _)_).alloc(by simp)_).alloc(by simp;omega)_
theorem Dd.Fr.below {w W W':World} {xs:Array Value} {l r:List Int} (h:Dd.Fr w xs l r W)(hb:Below W.heap.size W W'):Dd.Fr w xs l r W':=
 ⟨h.bx.below hb h.bx.lt,h.st.below hb h.st.lt,h.rs.below hb h.rs.lt,h.bel.trans(hb.mono h.bel.size)⟩
theorem Dd.Fr.put {w W:World} {xs:Array Value} {l r:List Int} (h:Dd.Fr w xs l r W)(i:Nat)(x:Int):Dd.Fr w xs(l.set i x)r(W.setCell⟨w.heap.size+1,i,none⟩(.int .i64 x)):=
 ⟨h.bx.keep(Below.heap_setCell _ _ _ _(by show w.heap.size≠w.heap.size+1;omega)),h.st.put i x,h.rs.keep(Below.heap_setCell _ _ _ _(by show w.heap.size+1+1≠w.heap.size+1;omega)),h.bel.setCell(p:=⟨w.heap.size+1,i,none⟩)(by show w.heap.size<=w.heap.size+1;omega)_⟩
theorem Dd.Fr.setS {w W:World} {xs:Array Value} {l r:List Int} (h:Dd.Fr w xs l r W) {t:List Int} (ht:t.length=104):Dd.Fr w xs t r(W.setRow(w.heap.size+1)(Dd.row t)):=
 ⟨h.bx.keep(setRow_other _ _ _ _(by omega)),h.st.setRow ht,h.rs.keep(setRow_other _ _ _ _(by omega)),Tk.below_row h.bel(by omega)_⟩
theorem Dd.Fr.setR {w W:World} {xs:Array Value} {l r:List Int} (h:Dd.Fr w xs l r W) {t:List Int} (ht:t.length=104):Dd.Fr w xs l t(W.setRow(w.heap.size+1+1)(Dd.row t)):=
 ⟨h.bx.keep(setRow_other _ _ _ _(by omega)),h.st.keep(setRow_other _ _ _ _(by omega)),h.rs.setRow ht,Tk.below_row h.bel(by omega)_⟩
theorem Dd.Fr.cs {w W:World} {x0 x1 x2 x3 x4 x5 x6 x7 x8 x9 x10 x11:Value} {l r:List Int} (h:Dd.Fr w #[x0,x1,x2,x3,x4,x5,x6,x7,x8,x9,x10,x11]l r W):
  W.cell? ⟨w.heap.size,0,none⟩=some x0/\W.cell? ⟨w.heap.size,1,none⟩=some x1/\W.cell? ⟨w.heap.size,2,none⟩=some x2/\W.cell? ⟨w.heap.size,3,none⟩=some x3/\W.cell? ⟨w.heap.size,4,none⟩=some x4/\W.cell? ⟨w.heap.size,5,none⟩=some x5/\W.cell? ⟨w.heap.size,6,none⟩=some x6/\W.cell? ⟨w.heap.size,7,none⟩=some x7/\W.cell? ⟨w.heap.size,8,none⟩=some x8/\W.cell? ⟨w.heap.size,9,none⟩=some x9/\W.cell? ⟨w.heap.size,10,none⟩=some x10/\W.cell? ⟨w.heap.size,11,none⟩=some x11:=by
 have:=h.bx;unfold Dd.Bx at this;simp [World.cell?,this]
theorem Tryz.left_any(x0 x1 x2 x3 x4 x5 x6 x7 x8 x10 x11:Value)(la:Option Addr)(m lc:Nat)(ls:List(Int×Int))(l:List Int)(fr how:Int)(w:World)(hL:Ac.Lks w w.heap.size la ls)(hl:l.length=104)(hm:ls.length=m)(h40:m<=40):
  Calls Tryz.prog 28 #[.agg #[x0,x1,x2,x3,x4,x5,x6,x7,x8, .slice la m lc,x10,x11], .agg(Dd.row l), .int .i64 fr, .int .i64 how]w λe w'=>e= .returned(.agg(Dd.row(Dd.left ls l fr how)))/\Below w.heap.size w w':=by
 obtain⟨R,hR⟩: ∃R,Dd.left ls l fr how=R:=⟨_,rfl⟩;rw [hR];obtain⟨w1,hw1⟩: ∃z,(((w.alloc(.cells #[x0,x1,x2,x3,x4,x5,x6,x7,x8, .slice la m lc,x10,x11]32)).alloc(.cells(Dd.row l)41)).alloc(.cells Tryz.zeroCells41 41))=z:=⟨_,rfl⟩;have F1:=Dd.Fr.new w #[x0,x1,x2,x3,x4,x5,x6,x7,x8, .slice la m lc,x10,x11]hl;rw [hw1]at F1;have H1:Hid _:=hw1;have HF:Hid(Dd.Fr w #[x0,x1,x2,x3,x4,x5,x6,x7,x8, .slice la m lc,x10,x11](Dd.leftK ls fr how 0 l)Dd.zeros w1):=F1;have HL:Hid(Ac.Lks w w.heap.size la ls/\ls.length=m/\Dd.leftK ls fr how m l=R):=⟨hL,hm,by rw [<-hm];exact hR⟩;have c9:=F1.cs.2.2.2.2.2.2.2.2.2.1;clear hw1 F1 hL hm hR hl
 go_enter Tryz.func28,Tryz.ntmps28
 go_upto_region 1 with fail
 rw [H1.out];go_wp2
 go_loopg [9,14]m(λgk _ s14 wr=> ∃j:Nat,gk+j=m/\s14= .int .i64 j/\Hid(Dd.Fr w #[x0,x1,x2,x3,x4,x5,x6,x7,x8, .slice la m lc,x10,x11](Dd.leftK ls fr how j l)Dd.zeros wr))
 case atStart=>exact⟨0,by omega,rfl,HF.out⟩
 case round=>
  obtain⟨j,hj,rfl,HJ⟩:=hrel;clear c9
  by_cases hlt:j<m
  rotate_left
  ·have hd:decide((j:Int)<m)=false:=decide_eq_false(by omega)
   obtain rfl:j=m:=by omega
   obtain⟨s,hs⟩: ∃s,Dd.leftK ls fr how j l=s:=⟨_,rfl⟩;have HR:Hid(s=R):=by show _=_;rw [<-hs];exact HL.out.2.2
   rw [hs]at HJ;have NU:=HJ.out.st.h;have NR:=HJ.out.rs.h;have hu:=Tryz.underlying41;have e1:=Dd.info_row HJ.out.st.len;have e2:(Dd.row Dd.zeros).size=(Dd.row s).size:=by rw [Dd.row_size,Dd.row_size,HJ.out.st.len,Dd.zeros_length]
   have e3:=Dd.row_one s;have HX:Hid(Below w.heap.size w wr):=HJ.out.bel;clear hs HJ
   go_wp2_with(first
    |refine wpList_load_row rfl 41 _ rfl _ rfl 41(Dd.row s)(0,0)_ NU hu rfl e1 ?_
    |refine wpList_store_row rfl 41 _ _ rfl(w.heap.size+1+1)(Dd.row s)rfl rfl 41 _ NR e1 e2 e3 ?_)
   refine bodyPost_ret(v:= .agg(Dd.row s))(results_cell_row Tryz.results28 _ _(w.heap.size+1+1)41(Dd.row s)(0,0)_ rfl(setRow_heap _ _ _ _ _ _ NR)hu rfl e1)rfl⟨by rw [HR.out],Tk.below_row HX.out(by omega)_⟩
  have hd:decide((j:Int)<m)=true:=decide_eq_true(by omega);have hjl:j<ls.length:=by rw [HL.out.2.1];exact hlt
  obtain⟨q,off,rfl,hq,d0,d1⟩:=HL.out.1 j hjl;obtain⟨x,hx⟩: ∃x,ls[j]=x:=⟨_,rfl⟩;obtain⟨a,b⟩:=x;rw [hx]at d0 d1;have j0:(0:Int)<=j:=by omega
  have j1:(j:Int)<m:=by omega
  have j2:(j:Int)<40:=by omega
  have e0:wr.cell? ⟨q,off+j*2,none⟩=some(.int .i64 a):=by rw [HJ.out.bel.cell(p:=⟨q,off+j*2,none⟩)hq];exact d0
  have e1:wr.cell? ⟨q,off+j*2+1,none⟩=some(.int .i64 b):=by rw [HJ.out.bel.cell(p:=⟨q,off+j*2+1,none⟩)hq];exact d1
  obtain⟨w2,hw2⟩: ∃z,wr.alloc(.cells #[.int .i64 a, .int .i64 b]80)=z:=⟨_,rfl⟩;have B2:Below wr.heap.size wr w2:=by rw [<-hw2];exact(Below.refl _ wr).alloc(Nat.le_refl _)_
  have F2:=HJ.out.below B2;have HF2:Hid _:=F2;have HX:Hid(ls[j]? =some(a,b)):=by show _=_;rw [List.getElem?_eq_getElem hjl,hx]
  have N2:w2.heap[wr.heap.size]? =some(.cells #[.int .i64 a, .int .i64 b]80(0,0)):=by rw [<-hw2];exact heap_alloc_new wr _
  have k0:w2.cell? ⟨wr.heap.size,0,none⟩=some(.int .i64 a):=by simp [World.cell?,N2]
  have f0:w2.frozen? ⟨w.heap.size+1,j,none⟩=false:=F2.st.frozen j;have s0:=F2.st.cell j(by omega);have HW2:Hid _:=hw2;clear d0 d1 hx hjl hq hw2 B2 F2 N2 HJ
  by_cases ha:a=fr
  ·have he:(a==fr)=true:=by simpa using ha
   have HN:Hid(Dd.Fr w #[x0,x1,x2,x3,x4,x5,x6,x7,x8, .slice(some⟨q,off,none⟩)m lc,x10,x11](Dd.leftK ls fr how(j+1)l)Dd.zeros(w2.setCell⟨w.heap.size+1,j,none⟩(.int .i64 how))):=by
    have:=HF2.out.put j how;rw [Dd.leftK,if_pos(by rw [HX.out,<-ha];rfl)];exact this
   clear ha
   go_upto_region 4 with fail
   rw [HW2.out];go_wp2;go_roundg(gk-1)
   case measure=>omega
   case rel=>exact⟨j+1,by omega,by go_num,HN.out⟩
  have he:(a==fr)=false:=by simpa using ha
  have HN:Hid(Dd.Fr w #[x0,x1,x2,x3,x4,x5,x6,x7,x8, .slice(some⟨q,off,none⟩)m lc,x10,x11](Dd.leftK ls fr how(j+1)l)Dd.zeros w2):=by
   rw [Dd.leftK,if_neg(by rw [HX.out];exact λh=>ha(Option.some.inj h))];exact HF2.out
  clear ha
  go_upto_region 4 with fail
  rw [HW2.out];go_wp2;go_roundg(gk-1)
  case measure=>omega
  case rel=>exact⟨j+1,by omega,by go_num,HN.out⟩
theorem Dd.info_act:(Tryz.prog.info? 32).map(·.size)=some 12:=by kernel_rfl
theorem Tryz.ended_any(x0 x1 x2 x3 x4 x5 x6 x7 x8 x10 x11:Value)(la:Option Addr)(m lc:Nat)(ls:List(Int×Int))(l:List Int)(kid:Nat)(how:Int)(w:World)(hL:Ac.Lks w w.heap.size la ls)(hl:l.length=104)(hm:ls.length=m)(h40:m<=40)(hk:kid<64):
  Calls Tryz.prog 33 #[.agg #[x0,x1,x2,x3,x4,x5,x6,x7,x8, .slice la m lc,x10,x11], .agg(Dd.row l), .int .i64 kid, .int .i64 how]w λe w'=>e= .returned(.agg(Dd.row(Dd.ended ls l kid how)))/\Below w.heap.size w w':=by
 obtain⟨R,hR⟩: ∃R,Dd.ended ls l kid how=R:=⟨_,rfl⟩;have hRl:R.length=104:=by rw [<-hR,Dd.ended_length];exact hl
 rw [hR];obtain⟨w1,hw1⟩: ∃z,(((w.alloc(.cells #[x0,x1,x2,x3,x4,x5,x6,x7,x8, .slice la m lc,x10,x11]32)).alloc(.cells(Dd.row l)41)).alloc(.cells Tryz.zeroCells41 41))=z:=⟨_,rfl⟩;have F1:=Dd.Fr.new w #[x0,x1,x2,x3,x4,x5,x6,x7,x8, .slice la m lc,x10,x11]hl;rw [hw1]at F1;have H1:Hid _:=hw1;have f1:=F1.st.frozen(40+kid);have s1:=F1.st.cell(40+kid)(by omega);obtain⟨w2,hw2⟩: ∃z,w1.setCell⟨w.heap.size+1,40+kid,none⟩(.int .i64 how)=z:=⟨_,rfl⟩;have F2:=F1.put(40+kid)how;rw [hw2]at F2;obtain⟨s,hs⟩: ∃s,l.set(40+kid)how=s:=⟨_,rfl⟩;rw [hs]at F2;have hsl:s.length=104:=by rw [<-hs,List.length_set];exact hl
 have NA:=F2.bx;unfold Dd.Bx at NA;have NS:=F2.st.h;have NR:=F2.rs.h
 have HC:Hid(∀h:Int,Calls Tryz.prog 28 #[.agg #[x0,x1,x2,x3,x4,x5,x6,x7,x8, .slice la m lc,x10,x11], .agg(Dd.row s), .int .i64 kid, .int .i64 h]w2 λe w'=>e= .returned(.agg(Dd.row(Dd.left ls s kid h)))/\Below w2.heap.size w2 w'):=λh=>by
  refine Tryz.left_any x0 x1 x2 x3 x4 x5 x6 x7 x8 x10 x11 la m lc ls s kid h w2 ?_ hsl hm h40;exact(hL.keep F2.bel.block).wider F2.bel.size
 have HF2:Hid(Dd.Fr w #[x0,x1,x2,x3,x4,x5,x6,x7,x8, .slice la m lc,x10,x11]s Dd.zeros w2):=F2;have HR:Hid(Dd.left ls s kid(if how=2 then 1 else 2)=R/\R.length=104):=⟨by rw [<-hR,Dd.ended,hs],hRl⟩;have HW2:Hid _:=hw2;have ha:=Tryz.underlying32;have hu:=Tryz.underlying41;have ia:(Tryz.prog.info? 32).map(·.size)=some(#[x0,x1,x2,x3,x4,x5,x6,x7,x8, .slice la m lc,x10,x11]:Array Value).size:=Dd.info_act;have is:=Dd.info_row hsl;have k0:(0:Int)<=kid:=by omega
 have k1:(kid:Int)<64:=by omega
 clear hL hl hm h40 hk hR hRl hw1 F1 hw2 F2 hs hsl
 by_cases hh:how=2
 ·have he:(how==2)=true:=by simpa using hh
  have HR2:Hid(Dd.left ls s kid 1=R/\R.length=104):=by
   have:=HR.out;rw [if_pos hh]at this;exact this
  clear HR hh
  go_enter Tryz.func33,Tryz.ntmps33
  go_upto_region 1 with fail
  rw [H1.out]
  go_upto_region 2 with fail
  rw [HW2.out]
  go_wp2_with(first
   |refine wpList_load_row rfl 32 _ rfl _ rfl 32 _(0,0)_ NA ha rfl ia ?_
   |refine wpList_load_row rfl 41 _ rfl _ rfl 41(Dd.row s)(0,0)_ NS hu rfl is ?_)
  refine Calls.mono(HC.out 1) ?_;rintro e W3⟨rfl,hb3⟩;have F3:=HF2.out.below hb3;obtain⟨t,ht⟩: ∃t,Dd.left ls s kid 1=t:=⟨_,rfl⟩;obtain⟨htR,htl⟩:=HR2.out;rw [ht]at htR;subst htR;rw [ht];have NR3:=F3.rs.h;have e1:=Dd.info_row htl;have e2:(Dd.row Dd.zeros).size=(Dd.row t).size:=by rw [Dd.row_size,Dd.row_size,htl,Dd.zeros_length]
  have e3:=Dd.row_one t;have HX:Hid(Below w.heap.size w W3):=F3.bel;clear ht htl F3 hb3 HC HF2 HR2 NA NS NR ia is
  go_wp2_with(refine wpList_store_row rfl 41 _ _ rfl(w.heap.size+1+1)(Dd.row t)rfl rfl 41 _ NR3 e1 e2 e3 ?_)
  exact bodyPost_ret(v:= .agg(Dd.row t))(results_cell_row Tryz.results33 _ _(w.heap.size+1+1)41(Dd.row t)(0,0)_ rfl(setRow_heap _ _ _ _ _ _ NR3)hu rfl e1)rfl⟨rfl,Tk.below_row HX.out(by omega)_⟩
 have he:(how==2)=false:=by simpa using hh
 have HR2:Hid(Dd.left ls s kid 2=R/\R.length=104):=by
  have:=HR.out;rw [if_neg hh]at this;exact this
 clear HR hh
 go_enter Tryz.func33,Tryz.ntmps33
 go_upto_region 1 with fail
 rw [H1.out]
 go_upto_region 2 with fail
 rw [HW2.out]
 go_wp2_with(first
  |refine wpList_load_row rfl 32 _ rfl _ rfl 32 _(0,0)_ NA ha rfl ia ?_
  |refine wpList_load_row rfl 41 _ rfl _ rfl 41(Dd.row s)(0,0)_ NS hu rfl is ?_)
 refine Calls.mono(HC.out 2) ?_;rintro e W3⟨rfl,hb3⟩;have F3:=HF2.out.below hb3;obtain⟨t,ht⟩: ∃t,Dd.left ls s kid 2=t:=⟨_,rfl⟩;obtain⟨htR,htl⟩:=HR2.out;rw [ht]at htR;subst htR;rw [ht];have NR3:=F3.rs.h;have e1:=Dd.info_row htl;have e2:(Dd.row Dd.zeros).size=(Dd.row t).size:=by rw [Dd.row_size,Dd.row_size,htl,Dd.zeros_length]
 have e3:=Dd.row_one t;have HX:Hid(Below w.heap.size w W3):=F3.bel;clear ht htl F3 hb3 HC HF2 HR2 NA NS NR ia is
 go_wp2_with(refine wpList_store_row rfl 41 _ _ rfl(w.heap.size+1+1)(Dd.row t)rfl rfl 41 _ NR3 e1 e2 e3 ?_)
 exact bodyPost_ret(v:= .agg(Dd.row t))(results_cell_row Tryz.results33 _ _(w.heap.size+1+1)41(Dd.row t)(0,0)_ rfl(setRow_heap _ _ _ _ _ _ NR3)hu rfl e1)rfl⟨rfl,Tk.below_row HX.out(by omega)_⟩
def Dd.Kds(w:World)(B:Nat)(a:Option Addr)(kk:List(Int×Int)):Prop:= ∀j(h:j<kk.length),∃g off,a=some⟨g,off,none⟩/\g<B/\w.cell? ⟨g,off+j*12,none⟩=some(.int .i64 kk[j].1)/\w.cell? ⟨g,off+j*12+2,none⟩=some(.int .i64 kk[j].2)
theorem Dd.Kds.keep {w w':World} {B:Nat} {a:Option Addr} {kk:List(Int×Int)} (h:Dd.Kds w B a kk)(hk: ∀k,k<B->w'.heap[k]? =w.heap[k]?):Dd.Kds w' B a kk:=λj hj=>by
 obtain⟨g,off,h1,h2,c0,c1⟩:=h j hj;have hc: ∀o,w'.cell? ⟨g,o,none⟩=w.cell? ⟨g,o,none⟩:=λo=>World.cell?_of_block(w:=w)(hk g h2);exact⟨g,off,h1,h2,by rw [hc];exact c0,by rw [hc];exact c1⟩
theorem Dd.Kds.wider {w:World} {B B':Nat} {a:Option Addr} {kk:List(Int×Int)} (h:Dd.Kds w B a kk)(hB:B<=B'):Dd.Kds w B' a kk:=λj hj=>by
 obtain⟨g,off,h1,h2,c0,c1⟩:=h j hj;exact⟨g,off,h1,by omega,c0,c1⟩
theorem Dd.scan_step {ls:List(Int×Int)} {s:List Int} {kid:Int} {j:Nat} {a b:Bool} (h:Dd.scan ls s kid j=some(a,b)) {x y:Int} (hx:ls[j]? =some(x,y)):Dd.scan ls s kid(j+1)=if y=kid then(if s.getD j 0=0 then none else some(a&&decide(s.getD j 0=1),b||decide(s.getD j 0=1)))else some(a,b):=by
 rw [Dd.scan,h,hx]
 by_cases e:y=kid
 ·subst e;simp
 have: ¬some y=some kid:=λh=>e(Option.some.inj h);simp [e]
theorem Dd.decided_open {ls kk:List(Int×Int)} {s:List Int} {kid:Nat} {j:Nat} (h:Dd.scan ls s kid j=none)(hj:j<=ls.length):Dd.decided ls kk s kid=s:=by
 unfold Dd.decided;rw [Dd.scan_none h hj]
 split<;>rfl
theorem Tryz.decided_any(x0 x1 x2 x3 x4 x5 x6 x7 x10 x11:Value)(ka la:Option Addr)(n kc m lc:Nat)(ls kk:List(Int×Int))(l:List Int)(kid:Nat)(w:World)(hL:Ac.Lks w w.heap.size la ls)(hK:Dd.Kds w w.heap.size ka kk)(hl:l.length=104)(hm:ls.length=m)(h40:m<=40)(hn:kk.length=n)(h64:n<=64)(hk:kid<n):
  Calls Tryz.prog 39 #[.agg #[x0,x1,x2,x3,x4,x5,x6,x7, .slice ka n kc, .slice la m lc,x10,x11], .agg(Dd.row l), .int .i64 kid]w λe w'=>e= .returned(.agg(Dd.row(Dd.decided ls kk l kid)))/\Below w.heap.size w w':=by
 obtain⟨R,hR⟩: ∃R,Dd.decided ls kk l kid=R:=⟨_,rfl⟩;have hRl:R.length=104:=by rw [<-hR,Dd.decided_length];exact hl
 rw [hR];obtain⟨w1,hw1⟩: ∃z,(((w.alloc(.cells #[x0,x1,x2,x3,x4,x5,x6,x7, .slice ka n kc, .slice la m lc,x10,x11]32)).alloc(.cells(Dd.row l)41)).alloc(.cells Tryz.zeroCells41 41))=z:=⟨_,rfl⟩;have F1:=Dd.Fr.new w #[x0,x1,x2,x3,x4,x5,x6,x7, .slice ka n kc, .slice la m lc,x10,x11]hl;rw [hw1]at F1;have H1:Hid _:=hw1;obtain⟨v,hv⟩: ∃v,l.getD(40+kid)0=v:=⟨_,rfl⟩;have s1:=F1.st.cell(40+kid)(by omega);rw [hv]at s1;have k0:(0:Int)<=kid:=by omega
 have k1:(kid:Int)<64:=by omega
 have kn:(kid:Int)<n:=by omega
 have HB:Hid(Ac.Lks w w.heap.size la ls/\Dd.Kds w w.heap.size ka kk/\l.length=104/\ls.length=m/\kk.length=n/\kid<n/\n<=64/\l.getD(40+kid)0=v):=⟨hL,hK,hl,hm,hn,hk,h64,hv⟩;have HR:Hid(Dd.decided ls kk l kid=R/\R.length=104):=⟨hR,hRl⟩;have hu:=Tryz.underlying41;have ha:=Tryz.underlying32;have il:=Dd.info_row hl;have ol:=Dd.row_one l;have ia:(Tryz.prog.info? 32).map(·.size)=some(#[x0,x1,x2,x3,x4,x5,x6,x7, .slice ka n kc, .slice la m lc,x10,x11]:Array Value).size:=Dd.info_act;have ez:(Dd.row Dd.zeros).size=(Dd.row l).size:=by rw [Dd.row_size,Dd.row_size,hl,Dd.zeros_length]
 have HF1:Hid(Dd.Fr w #[x0,x1,x2,x3,x4,x5,x6,x7, .slice ka n kc, .slice la m lc,x10,x11]l Dd.zeros w1):=F1
 have HE:Hid(∀(W:World)(h:Int),Below w.heap.size w W->Calls Tryz.prog 33 #[.agg #[x0,x1,x2,x3,x4,x5,x6,x7, .slice ka n kc, .slice la m lc,x10,x11], .agg(Dd.row l), .int .i64 kid, .int .i64 h]W λe w'=>e= .returned(.agg(Dd.row(Dd.ended ls l kid h)))/\Below W.heap.size W w'):=λW h hb=>
  Tryz.ended_any x0 x1 x2 x3 x4 x5 x6 x7(.slice ka n kc)x10 x11 la m lc ls l kid h W((hL.keep hb.block).wider hb.size)hl hm h40(by omega)
 clear hL hK hl hm hn hR hRl hw1 hk
 by_cases hv0:v=0
 rotate_left
 ·have e0:(v !=0)=true:=by simpa using hv0
  have HQ:Hid(l=R):=by
   show _=_;rw [<-HR.out.1];unfold Dd.decided;rw [if_neg(by rw [HB.out.2.2.2.2.2.2.2];exact hv0)]
  clear hv0 F1
  go_enter Tryz.func39,Tryz.ntmps39
  go_upto_region 1 with fail
  rw [H1.out];have NS:=HF1.out.st.h;have NR:=HF1.out.rs.h;have HX:Hid(Below w.heap.size w _):=HF1.out.bel
  go_wp2_with(first
   |refine wpList_load_row rfl 41 _ rfl _ rfl 41(Dd.row l)(0,0)_ NS hu rfl il ?_
   |refine wpList_store_row rfl 41 _ _ rfl(w.heap.size+1+1)(Dd.row l)rfl rfl 41 _ NR il ez ol ?_)
  exact bodyPost_ret(v:= .agg(Dd.row l))(results_cell_row Tryz.results39 _ _(w.heap.size+1+1)41(Dd.row l)(0,0)_ rfl(setRow_heap _ _ _ _ _ _ NR)hu rfl il)rfl⟨by rw [HQ.out],Tk.below_row HX.out(by omega)_⟩
 have e0:(v !=0)=false:=by simp [hv0]
 have c9:=HF1.out.cs.2.2.2.2.2.2.2.2.2.1;have HV:Hid(v=0):=hv0;clear hv0 F1
 go_enter Tryz.func39,Tryz.ntmps39
 go_upto_region 1 with fail
 rw [H1.out];go_wp2
 go_loopg [7,8,9,22]m(λgk s7 s8 _ s22 wr=> ∃(j:Nat)(a b:Bool),gk+j=m/\s22= .int .i64 j/\s7= .bool a/\s8= .bool b/\Hid(Dd.scan ls l kid j=some(a,b)/\Dd.Fr w #[x0,x1,x2,x3,x4,x5,x6,x7, .slice ka n kc, .slice la m lc,x10,x11]l Dd.zeros wr))
 case atStart=>exact⟨0,true,false,by omega,rfl,rfl,rfl,rfl,HF1.out⟩
 case round=>
  obtain⟨j,a,b,hj,rfl,rfl,rfl,HJ⟩:=hrel;clear c9 s1
  by_cases hlt:j<m
  ·have hd:decide((j:Int)<m)=true:=decide_eq_true(by omega)
   have hjl:j<ls.length:=by rw [HB.out.2.2.2.1];exact hlt
   obtain⟨q,off,rfl,hq,d0,d1⟩:=HB.out.1 j hjl;obtain⟨x,hx⟩: ∃x,ls[j]=x:=⟨_,rfl⟩;obtain⟨x,y⟩:=x;rw [hx]at d0 d1;have j0:(0:Int)<=j:=by omega
   have j1:(j:Int)<m:=by omega
   have j2:(j:Int)<40:=by omega
   have d2:wr.cell? ⟨q,off+j*2,none⟩=some(.int .i64 x):=by rw [HJ.out.2.bel.cell(p:=⟨q,off+j*2,none⟩)hq];exact d0
   have d3:wr.cell? ⟨q,off+j*2+1,none⟩=some(.int .i64 y):=by rw [HJ.out.2.bel.cell(p:=⟨q,off+j*2+1,none⟩)hq];exact d1
   obtain⟨w2,hw2⟩: ∃z,wr.alloc(.cells #[.int .i64 x, .int .i64 y]80)=z:=⟨_,rfl⟩;have B2:Below wr.heap.size wr w2:=by rw [<-hw2];exact(Below.refl _ wr).alloc(Nat.le_refl _)_
   have HF2:Hid(Dd.Fr w #[x0,x1,x2,x3,x4,x5,x6,x7, .slice ka n kc, .slice(some⟨q,off,none⟩)m lc,x10,x11]l Dd.zeros w2):=HJ.out.2.below B2;have N2:w2.heap[wr.heap.size]? =some(.cells #[.int .i64 x, .int .i64 y]80(0,0)):=by rw [<-hw2];exact heap_alloc_new wr _
   have p1:w2.cell? ⟨wr.heap.size,1,none⟩=some(.int .i64 y):=by simp [World.cell?,N2]
   obtain⟨z,hz⟩: ∃z,l.getD j 0=z:=⟨_,rfl⟩;have s2:=HF2.out.st.cell j(by omega);rw [hz]at s2
   have HS:Hid(Dd.scan ls l kid(j+1)=if y=kid then(if z=0 then none else some(a&&decide(z=1),b||decide(z=1)))else some(a,b)):=by
    have:=Dd.scan_step HJ.out.1(show ls[j]? =some(x,y)by rw [List.getElem?_eq_getElem hjl,hx]);rw [hz]at this;exact this
   have HW2:Hid _:=hw2;have HJL:Hid(j<ls.length):=hjl;clear d0 d1 hx hq hw2 B2 N2 HJ hz hjl
   by_cases hy:y=kid
   rotate_left
   ·have e1:(y !=(kid:Int))=true:=by simpa using hy
    have HN2:Hid(Dd.scan ls l kid(j+1)=some(a,b)):=by
     have h1:=HS.out;rw [if_neg hy]at h1;exact h1
    clear hy HS
    go_upto_region 7 with fail
    rw [HW2.out];go_wp2;go_roundg(gk-1)
    case measure=>omega
    case rel=>exact⟨j+1,a,b,by omega,by go_num,rfl,rfl,HN2.out,HF2.out⟩
   have e1:(y !=(kid:Int))=false:=by simp [hy]
   by_cases hz0:z=0
   ·have e2:(z==0)=true:=by simp [hz0]
    have HQ:Hid(l=R):=by
     have h1:=HS.out;rw [if_pos hy,if_pos hz0]at h1;show _=_;rw [<-HR.out.1];exact(Dd.decided_open h1(by have:=HJL.out;omega)).symm
    clear hy hz0
    go_upto_region 7 with fail
    rw [HW2.out];have NS:=HF2.out.st.h;have NR:=HF2.out.rs.h;have HX:Hid(Below w.heap.size w _):=HF2.out.bel
    go_wp2_with(first
     |refine wpList_load_row rfl 41 _ rfl _ rfl 41(Dd.row l)(0,0)_ NS hu rfl il ?_
     |refine wpList_store_row rfl 41 _ _ rfl(w.heap.size+1+1)(Dd.row l)rfl rfl 41 _ NR il ez ol ?_)
    exact bodyPost_ret(v:= .agg(Dd.row l))(results_cell_row Tryz.results39 _ _(w.heap.size+1+1)41(Dd.row l)(0,0)_ rfl(setRow_heap _ _ _ _ _ _ NR)hu rfl il)rfl⟨by rw [HQ.out],Tk.below_row HX.out(by omega)_⟩
   have e2:(z==0)=false:=by simpa using hz0
   have HN:Hid(Dd.scan ls l kid(j+1)=some(a&&decide(z=1),b||decide(z=1))):=by
    have h1:=HS.out;rw [if_pos hy,if_neg hz0]at h1;exact h1
   clear hy hz0
   by_cases hz1:z=1
   ·have e3:(z==1)=true:=by simp [hz1]
    have HN2:Hid(Dd.scan ls l kid(j+1)=some(a,true)):=by
     have h1:=HN.out;rw [decide_eq_true hz1,Bool.and_true,Bool.or_true]at h1;exact h1
    clear hz1 HN HS
    cases a<;>cases b
    all_goals
     go_upto_region 7 with fail
     rw [HW2.out];go_wp2;go_roundg(gk-1)
     case measure=>omega
     case rel=>exact⟨j+1,_,true,by omega,by go_num,rfl,rfl,HN2.out,HF2.out⟩
   have e3:(z==1)=false:=by simpa using hz1
   have HN2:Hid(Dd.scan ls l kid(j+1)=some(false,b)):=by
    have h1:=HN.out;rw [decide_eq_false hz1,Bool.and_false,Bool.or_false]at h1;exact h1
   clear hz1 HN HS
   cases a<;>cases b
   all_goals
    go_upto_region 7 with fail
    rw [HW2.out];go_wp2;go_roundg(gk-1)
    case measure=>omega
    case rel=>exact⟨j+1,false,_,by omega,by go_num,rfl,rfl,HN2.out,HF2.out⟩
  have hd:decide((j:Int)<m)=false:=decide_eq_false(by omega);obtain rfl:j=m:=by omega
  obtain⟨g,off,rfl,hg,q0,q2⟩:=HB.out.2.1 kid(by rw [HB.out.2.2.2.2.1];exact HB.out.2.2.2.2.2.1);have hkl:kid<kk.length:=by rw [HB.out.2.2.2.2.1];exact HB.out.2.2.2.2.2.1
  obtain⟨x,hx⟩: ∃x,kk[kid]'hkl=x:=⟨_,rfl⟩;obtain⟨K,A⟩:=x;rw [hx]at q0 q2;have r0:wr.cell? ⟨g,off+kid*12,none⟩=some(.int .i64 K):=by rw [HJ.out.2.bel.cell(p:=⟨g,off+kid*12,none⟩)hg];exact q0
  have r2:wr.cell? ⟨g,off+kid*12+2,none⟩=some(.int .i64 A):=by rw [HJ.out.2.bel.cell(p:=⟨g,off+kid*12+2,none⟩)hg];exact q2
  have c8:=HJ.out.2.cs.2.2.2.2.2.2.2.2.1
  have HG:Hid(Dd.decided ls kk l kid=if b=false∨(K=12/\A=2/\a=false)then Dd.ended ls l kid 3 else if K=12/\A≠3 then Dd.ended ls l kid 2 else l.set(40+kid)1):=by
   have hgt:Dd.gateB kk kid=decide(K=12):=by unfold Dd.gateB;rw [List.getElem?_eq_getElem hkl,hx];rfl
   have hdo:Dd.doesI kk kid=A:=by unfold Dd.doesI;rw [List.getElem?_eq_getElem hkl,hx];rfl
   have hD:Dd.Dies kk kid(a,b)↔(b=false∨(K=12/\A=2/\a=false)):=by
    unfold Dd.Dies;rw [hgt,hdo,decide_eq_true_iff]
   have hA:Dd.Auto kk kid↔(K=12/\A≠3):=by
    unfold Dd.Auto;rw [hgt,hdo,decide_eq_true_iff]
   show _=_;unfold Dd.decided;have hsc:=HJ.out.1;rw [<-HB.out.2.2.2.1]at hsc;rw [if_pos(by rw [HB.out.2.2.2.2.2.2.2,HV.out]),hsc];dsimp only
   by_cases dd:Dd.Dies kk kid(a,b)
   ·rw [if_pos dd,if_pos(hD.1 dd)]
   rw [if_neg dd,if_neg(λh=>dd(hD.2 h))]
   by_cases aa:Dd.Auto kk kid
   ·rw [if_pos aa,if_pos(hA.1 aa)]
   rw [if_neg aa,if_neg(λh=>aa(hA.2 h))]
  have HF:Hid(Dd.Fr w #[x0,x1,x2,x3,x4,x5,x6,x7, .slice(some⟨g,off,none⟩)n kc, .slice la j lc,x10,x11]l Dd.zeros wr):=HJ.out.2;clear hkl hx q0 q2 hg HJ
  cases b with
  |false=>
   have HQ:Hid(Dd.ended ls l kid 3=R):=by
    have h1:=HG.out;rw [HR.out.1]at h1;show _=_;rw [h1];simp []
   by_cases hK:K=12
   ·have eK:(K==12)=true:=by simp [hK]
    clear HG hK
    go_wp2_with fail
    go_quiet(fail)
    obtain⟨Y,hY⟩: ∃z,wr.drewN nq=z:=⟨_,rfl⟩;have BY:Below wr.heap.size wr Y:=by rw [<-hY];exact⟨rfl,rfl,rfl,Nat.le_refl _,λ_ _=>rfl⟩
    rw [hY];have HFY:Hid(Dd.Fr w #[x0,x1,x2,x3,x4,x5,x6,x7, .slice(some⟨g,off,none⟩)n kc, .slice la j lc,x10,x11]l Dd.zeros Y):=HF.out.below BY;clear BY hY HF r0 r2 c8;have NA:=HFY.out.bx;unfold Dd.Bx at NA;have NS:=HFY.out.st.h;have HC:Hid _:=HE.out _ 3 HFY.out.bel
    go_wp2_with(first
     |refine wpList_load_row rfl 32 _ rfl _ rfl 32 _(0,0)_ NA ha rfl ia ?_
     |refine wpList_load_row rfl 41 _ rfl _ rfl 41(Dd.row l)(0,0)_ NS hu rfl il ?_)
    refine Calls.mono HC.out ?_;rintro e W3⟨rfl,hb3⟩;have F3:=HFY.out.below hb3;have htR:Dd.ended ls l kid 3=R:=HQ.out;rw [htR];have NR3:=F3.rs.h;have e1:=Dd.info_row HR.out.2;have e2:(Dd.row Dd.zeros).size=(Dd.row R).size:=by rw [Dd.row_size,Dd.row_size,HR.out.2,Dd.zeros_length]
    have e3:=Dd.row_one R;have HX:Hid(Below w.heap.size w W3):=F3.bel;clear htR F3 hb3 HC NA NS
    go_wp2_with(refine wpList_store_row rfl 41 _ _ rfl(w.heap.size+1+1)(Dd.row R)rfl rfl 41 _ NR3 e1 e2 e3 ?_)
    exact bodyPost_ret(v:= .agg(Dd.row R))(results_cell_row Tryz.results39 _ _(w.heap.size+1+1)41(Dd.row R)(0,0)_ rfl(setRow_heap _ _ _ _ _ _ NR3)hu rfl e1)rfl⟨rfl,Tk.below_row HX.out(by omega)_⟩
   have eK:(K==12)=false:=by simpa using hK
   clear HG hK
   go_wp2_with fail
   go_quiet(fail)
   obtain⟨Y,hY⟩: ∃z,wr.drewN nq=z:=⟨_,rfl⟩;have BY:Below wr.heap.size wr Y:=by rw [<-hY];exact⟨rfl,rfl,rfl,Nat.le_refl _,λ_ _=>rfl⟩
   rw [hY];have HFY:Hid(Dd.Fr w #[x0,x1,x2,x3,x4,x5,x6,x7, .slice(some⟨g,off,none⟩)n kc, .slice la j lc,x10,x11]l Dd.zeros Y):=HF.out.below BY;clear BY hY HF r0 r2 c8;have NA:=HFY.out.bx;unfold Dd.Bx at NA;have NS:=HFY.out.st.h;have HC:Hid _:=HE.out _ 3 HFY.out.bel
   go_wp2_with(first
    |refine wpList_load_row rfl 32 _ rfl _ rfl 32 _(0,0)_ NA ha rfl ia ?_
    |refine wpList_load_row rfl 41 _ rfl _ rfl 41(Dd.row l)(0,0)_ NS hu rfl il ?_)
   refine Calls.mono HC.out ?_;rintro e W3⟨rfl,hb3⟩;have F3:=HFY.out.below hb3;have htR:Dd.ended ls l kid 3=R:=HQ.out;rw [htR];have NR3:=F3.rs.h;have e1:=Dd.info_row HR.out.2;have e2:(Dd.row Dd.zeros).size=(Dd.row R).size:=by rw [Dd.row_size,Dd.row_size,HR.out.2,Dd.zeros_length]
   have e3:=Dd.row_one R;have HX:Hid(Below w.heap.size w W3):=F3.bel;clear htR F3 hb3 HC NA NS
   go_wp2_with(refine wpList_store_row rfl 41 _ _ rfl(w.heap.size+1+1)(Dd.row R)rfl rfl 41 _ NR3 e1 e2 e3 ?_)
   exact bodyPost_ret(v:= .agg(Dd.row R))(results_cell_row Tryz.results39 _ _(w.heap.size+1+1)41(Dd.row R)(0,0)_ rfl(setRow_heap _ _ _ _ _ _ NR3)hu rfl e1)rfl⟨rfl,Tk.below_row HX.out(by omega)_⟩
  |true=>
   by_cases hK:K=12
   rotate_left
   ·have eK:(K==12)=false:=by simpa using hK
    have HQ:Hid(l.set(40+kid)1=R):=by
     have h1:=HG.out;rw [HR.out.1]at h1;show _=_;rw [h1];simp [hK]
    clear HG hK
    go_wp2_with fail
    go_quiet(fail)
    obtain⟨Y,hY⟩: ∃z,wr.drewN nq=z:=⟨_,rfl⟩;have BY:Below wr.heap.size wr Y:=by rw [<-hY];exact⟨rfl,rfl,rfl,Nat.le_refl _,λ_ _=>rfl⟩
    rw [hY];have HFY:Hid(Dd.Fr w #[x0,x1,x2,x3,x4,x5,x6,x7, .slice(some⟨g,off,none⟩)n kc, .slice la j lc,x10,x11]l Dd.zeros Y):=HF.out.below BY;clear BY hY HF r0 r2 c8;have f5:=HFY.out.st.frozen(40+kid);have s5:=HFY.out.st.cell(40+kid)(by have:=HB.out.2.2.2.2.2.1;omega);have F5:=HFY.out.put(40+kid)1;have htR:l.set(40+kid)1=R:=HQ.out;rw [htR]at F5;have NS5:=F5.st.h;have NR5:=F5.rs.h;have e1:=Dd.info_row HR.out.2;have e2:(Dd.row Dd.zeros).size=(Dd.row R).size:=by rw [Dd.row_size,Dd.row_size,HR.out.2,Dd.zeros_length]
    have e3:=Dd.row_one R;have HX:Hid(Below w.heap.size w _):=F5.bel;clear htR F5
    go_wp2_with(first
     |refine wpList_load_row rfl 41 _ rfl _ rfl 41(Dd.row R)(0,0)_ NS5 hu rfl e1 ?_
     |refine wpList_store_row rfl 41 _ _ rfl(w.heap.size+1+1)(Dd.row R)rfl rfl 41 _ NR5 e1 e2 e3 ?_)
    exact bodyPost_ret(v:= .agg(Dd.row R))(results_cell_row Tryz.results39 _ _(w.heap.size+1+1)41(Dd.row R)(0,0)_ rfl(setRow_heap _ _ _ _ _ _ NR5)hu rfl e1)rfl⟨rfl,Tk.below_row HX.out(by omega)_⟩
   have eK:(K==12)=true:=by simp [hK]
   by_cases h2:A=2
   ·have f2:(A==2)=true:=by simp [h2]
    have f3:(A !=3)=true:=by simp [h2]
    cases a with
    |false=>
     have HQ:Hid(Dd.ended ls l kid 3=R):=by
      have h1:=HG.out;rw [HR.out.1]at h1;show _=_;rw [h1];simp [hK,h2]
     clear HG hK h2
     go_wp2_with fail
     go_quiet(fail)
     obtain⟨Y,hY⟩: ∃z,wr.drewN nq=z:=⟨_,rfl⟩;have BY:Below wr.heap.size wr Y:=by rw [<-hY];exact⟨rfl,rfl,rfl,Nat.le_refl _,λ_ _=>rfl⟩
     rw [hY];have HFY:Hid(Dd.Fr w #[x0,x1,x2,x3,x4,x5,x6,x7, .slice(some⟨g,off,none⟩)n kc, .slice la j lc,x10,x11]l Dd.zeros Y):=HF.out.below BY;clear BY hY HF r0 r2 c8;have NA:=HFY.out.bx;unfold Dd.Bx at NA;have NS:=HFY.out.st.h;have HC:Hid _:=HE.out _ 3 HFY.out.bel
     go_wp2_with(first
      |refine wpList_load_row rfl 32 _ rfl _ rfl 32 _(0,0)_ NA ha rfl ia ?_
      |refine wpList_load_row rfl 41 _ rfl _ rfl 41(Dd.row l)(0,0)_ NS hu rfl il ?_)
     refine Calls.mono HC.out ?_;rintro e W3⟨rfl,hb3⟩;have F3:=HFY.out.below hb3;have htR:Dd.ended ls l kid 3=R:=HQ.out;rw [htR];have NR3:=F3.rs.h;have e1:=Dd.info_row HR.out.2;have e2:(Dd.row Dd.zeros).size=(Dd.row R).size:=by rw [Dd.row_size,Dd.row_size,HR.out.2,Dd.zeros_length]
     have e3:=Dd.row_one R;have HX:Hid(Below w.heap.size w W3):=F3.bel;clear htR F3 hb3 HC NA NS
     go_wp2_with(refine wpList_store_row rfl 41 _ _ rfl(w.heap.size+1+1)(Dd.row R)rfl rfl 41 _ NR3 e1 e2 e3 ?_)
     exact bodyPost_ret(v:= .agg(Dd.row R))(results_cell_row Tryz.results39 _ _(w.heap.size+1+1)41(Dd.row R)(0,0)_ rfl(setRow_heap _ _ _ _ _ _ NR3)hu rfl e1)rfl⟨rfl,Tk.below_row HX.out(by omega)_⟩
    |true=>
     have HQ:Hid(Dd.ended ls l kid 2=R):=by
      have h1:=HG.out;rw [HR.out.1]at h1;show _=_;rw [h1];simp [hK,h2]
     clear HG hK h2
     go_wp2_with fail
     go_quiet(fail)
     obtain⟨Y,hY⟩: ∃z,wr.drewN nq=z:=⟨_,rfl⟩;have BY:Below wr.heap.size wr Y:=by rw [<-hY];exact⟨rfl,rfl,rfl,Nat.le_refl _,λ_ _=>rfl⟩
     rw [hY];have HFY:Hid(Dd.Fr w #[x0,x1,x2,x3,x4,x5,x6,x7, .slice(some⟨g,off,none⟩)n kc, .slice la j lc,x10,x11]l Dd.zeros Y):=HF.out.below BY;clear BY hY HF r0 r2 c8;have NA:=HFY.out.bx;unfold Dd.Bx at NA;have NS:=HFY.out.st.h;have HC:Hid _:=HE.out _ 2 HFY.out.bel
     go_wp2_with(first
      |refine wpList_load_row rfl 32 _ rfl _ rfl 32 _(0,0)_ NA ha rfl ia ?_
      |refine wpList_load_row rfl 41 _ rfl _ rfl 41(Dd.row l)(0,0)_ NS hu rfl il ?_)
     refine Calls.mono HC.out ?_;rintro e W3⟨rfl,hb3⟩;have F3:=HFY.out.below hb3;have htR:Dd.ended ls l kid 2=R:=HQ.out;rw [htR];have NR3:=F3.rs.h;have e1:=Dd.info_row HR.out.2;have e2:(Dd.row Dd.zeros).size=(Dd.row R).size:=by rw [Dd.row_size,Dd.row_size,HR.out.2,Dd.zeros_length]
     have e3:=Dd.row_one R;have HX:Hid(Below w.heap.size w W3):=F3.bel;clear htR F3 hb3 HC NA NS
     go_wp2_with(refine wpList_store_row rfl 41 _ _ rfl(w.heap.size+1+1)(Dd.row R)rfl rfl 41 _ NR3 e1 e2 e3 ?_)
     exact bodyPost_ret(v:= .agg(Dd.row R))(results_cell_row Tryz.results39 _ _(w.heap.size+1+1)41(Dd.row R)(0,0)_ rfl(setRow_heap _ _ _ _ _ _ NR3)hu rfl e1)rfl⟨rfl,Tk.below_row HX.out(by omega)_⟩
   have f2:(A==2)=false:=by simpa using h2
   by_cases h3:A=3
   ·have f3:(A !=3)=false:=by simp [h3]
    have HQ:Hid(l.set(40+kid)1=R):=by
     have h1:=HG.out;rw [HR.out.1]at h1;show _=_;rw [h1];simp [hK,h3]
    clear HG hK h2 h3
    go_wp2_with fail
    go_quiet(fail)
    obtain⟨Y,hY⟩: ∃z,wr.drewN nq=z:=⟨_,rfl⟩;have BY:Below wr.heap.size wr Y:=by rw [<-hY];exact⟨rfl,rfl,rfl,Nat.le_refl _,λ_ _=>rfl⟩
    rw [hY];have HFY:Hid(Dd.Fr w #[x0,x1,x2,x3,x4,x5,x6,x7, .slice(some⟨g,off,none⟩)n kc, .slice la j lc,x10,x11]l Dd.zeros Y):=HF.out.below BY;clear BY hY HF r0 r2 c8;have f5:=HFY.out.st.frozen(40+kid);have s5:=HFY.out.st.cell(40+kid)(by have:=HB.out.2.2.2.2.2.1;omega);have F5:=HFY.out.put(40+kid)1;have htR:l.set(40+kid)1=R:=HQ.out;rw [htR]at F5;have NS5:=F5.st.h;have NR5:=F5.rs.h;have e1:=Dd.info_row HR.out.2;have e2:(Dd.row Dd.zeros).size=(Dd.row R).size:=by rw [Dd.row_size,Dd.row_size,HR.out.2,Dd.zeros_length]
    have e3:=Dd.row_one R;have HX:Hid(Below w.heap.size w _):=F5.bel;clear htR F5
    go_wp2_with(first
     |refine wpList_load_row rfl 41 _ rfl _ rfl 41(Dd.row R)(0,0)_ NS5 hu rfl e1 ?_
     |refine wpList_store_row rfl 41 _ _ rfl(w.heap.size+1+1)(Dd.row R)rfl rfl 41 _ NR5 e1 e2 e3 ?_)
    exact bodyPost_ret(v:= .agg(Dd.row R))(results_cell_row Tryz.results39 _ _(w.heap.size+1+1)41(Dd.row R)(0,0)_ rfl(setRow_heap _ _ _ _ _ _ NR5)hu rfl e1)rfl⟨rfl,Tk.below_row HX.out(by omega)_⟩
   have f3:(A !=3)=true:=by simpa using h3
   have HQ:Hid(Dd.ended ls l kid 2=R):=by
    have h1:=HG.out;rw [HR.out.1]at h1;show _=_;rw [h1];simp [hK,h2,h3]
   clear HG hK h2 h3
   go_wp2_with fail
   go_quiet(fail)
   obtain⟨Y,hY⟩: ∃z,wr.drewN nq=z:=⟨_,rfl⟩;have BY:Below wr.heap.size wr Y:=by rw [<-hY];exact⟨rfl,rfl,rfl,Nat.le_refl _,λ_ _=>rfl⟩
   rw [hY];have HFY:Hid(Dd.Fr w #[x0,x1,x2,x3,x4,x5,x6,x7, .slice(some⟨g,off,none⟩)n kc, .slice la j lc,x10,x11]l Dd.zeros Y):=HF.out.below BY;clear BY hY HF r0 r2 c8;have NA:=HFY.out.bx;unfold Dd.Bx at NA;have NS:=HFY.out.st.h;have HC:Hid _:=HE.out _ 2 HFY.out.bel
   go_wp2_with(first
    |refine wpList_load_row rfl 32 _ rfl _ rfl 32 _(0,0)_ NA ha rfl ia ?_
    |refine wpList_load_row rfl 41 _ rfl _ rfl 41(Dd.row l)(0,0)_ NS hu rfl il ?_)
   refine Calls.mono HC.out ?_;rintro e W3⟨rfl,hb3⟩;have F3:=HFY.out.below hb3;have htR:Dd.ended ls l kid 2=R:=HQ.out;rw [htR];have NR3:=F3.rs.h;have e1:=Dd.info_row HR.out.2;have e2:(Dd.row Dd.zeros).size=(Dd.row R).size:=by rw [Dd.row_size,Dd.row_size,HR.out.2,Dd.zeros_length]
   have e3:=Dd.row_one R;have HX:Hid(Below w.heap.size w W3):=F3.bel;clear htR F3 hb3 HC NA NS
   go_wp2_with(refine wpList_store_row rfl 41 _ _ rfl(w.heap.size+1+1)(Dd.row R)rfl rfl 41 _ NR3 e1 e2 e3 ?_)
   exact bodyPost_ret(v:= .agg(Dd.row R))(results_cell_row Tryz.results39 _ _(w.heap.size+1+1)41(Dd.row R)(0,0)_ rfl(setRow_heap _ _ _ _ _ _ NR3)hu rfl e1)rfl⟨rfl,Tk.below_row HX.out(by omega)_⟩
end Go.Proofs
