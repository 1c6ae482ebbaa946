import Derived.Test.YtmomffminkflnaaGreatDoorRPBase
import Derived.Test.YtmomffminkflnaaGreatDoorRDdInv
import Derived.Lib.Hide
import Derived.Deep.RegionLaw
import Derived.Lib.AppendStr
import Derived.Laws.AppendOwn
import Derived.Carry
import Derived.ProofKit
import Derived.SizedLaws
set_option maxRecDepth 100000
set_option maxHeartbeats 32000000
namespace Go.Proofs
def Rk.freeB (es:List (Nat×Nat))(tk:List Bool)(i:Nat):Bool:= !(es.any λe=>decide (e.2=i)&& !(tk[e.1]?.getD false))
def Rk.nextB (es:List (Nat×Nat))(tk:List Bool)(i:Nat):Bool:= !(tk[i]?.getD false)&&Rk.freeB es tk i
def Rk.go (n:Nat)(es:List (Nat×Nat)):Nat->List Bool->List Nat->List Nat
 |0,_,o=>o
 |k+1,tk,o=>match (List.range n).find? (Rk.nextB es tk)with
  |none=>o
  |some i=>Rk.go n es k (tk.set i true) (o++ [i])
def Rk.order (n:Nat)(es:List (Nat×Nat)):List Nat:=Rk.go n es n (List.replicate n false) []
structure Rk.Took (n:Nat)(es:List (Nat×Nat))(tk:List Bool)(o:List Nat):Prop where
 len:tk.length=n
 mem:∀i,Rk.on tk i↔i∈o
 nodup:o.Nodup
 lt:∀i,i∈o->i<n
 ahead:∀e,e∈es->∀j:Nat,o[j]? =some e.2->∃k:Nat,k<j/\o[k]? =some e.1
 left:Rk.left tk+o.length=n
end Go.Proofs
namespace Go.Proofs
open Go.RowKit Go.Shelf
def Rq.Bits (w:World)(g:Nat)(bs:List Bool):Prop:=w.heap[g]? =some (.cells (bs.map Value.bool).toArray 4 (0,0))
theorem Rq.Bits.lt {w:World}{g:Nat}{bs:List Bool}(h:Rq.Bits w g bs):g<w.heap.size:=(Array.getElem?_eq_some_iff.1 h).1
theorem Rq.Bits.cell {w:World}{g:Nat}{bs:List Bool}(h:Rq.Bits w g bs)(j:Nat)(b:Bool)(hj:bs[j]? =some b):w.cell? ⟨g,j,none⟩=some (.bool b):=by
 unfold Rq.Bits at h;simp[World.cell?,h,hj]
theorem Rq.Bits.frozen {w:World}{g:Nat}{bs:List Bool}(h:Rq.Bits w g bs)(j:Nat):w.frozen? ⟨g,j,none⟩=false:=by
 unfold Rq.Bits at h;simp[World.frozen?,h]
theorem Rq.Bits.put {w:World}{g:Nat}{bs:List Bool}(h:Rq.Bits w g bs)(j:Nat)(b:Bool):Rq.Bits (w.setCell ⟨g,j,none⟩ (.bool b)) g (bs.set j b):=by
 unfold Rq.Bits at*;simp[World.setCell,Array.getElem?_modify,h]
theorem Rq.Bits.keep {w w':World}{g:Nat}{bs:List Bool}(h:Rq.Bits w g bs)(hk:w'.heap[g]? =w.heap[g]?):Rq.Bits w' g bs:=by unfold Rq.Bits;rw[hk];exact h
theorem Rq.Bits.below {w w':World}{g B:Nat}{bs:List Bool}(h:Rq.Bits w g bs)(hb:Below B w w')(hg:g<B):Rq.Bits w' g bs:=h.keep (hb.block g hg)
def Rk.Eds (w:World)(B:Nat)(a:Option Addr)(es:List (Int×Int)):Prop:=
 ∀j (h:j<es.length),∃g off,a=some ⟨g,off,none⟩/\g<B/\w.cell? ⟨g,off+j*2,none⟩=some (.int .i64 es[j].1)/\w.cell? ⟨g,off+j*2+1,none⟩=some (.int .i64 es[j].2)
theorem Rk.Eds.below {w w':World}{B:Nat}{a:Option Addr}{es:List (Int×Int)}(h:Rk.Eds w B a es)(hb:Below B w w'):Rk.Eds w' B a es:=λj hj=>by
 obtain⟨g,off,h1,h2,h3,h4⟩:=h j hj;exact⟨g,off,h1,h2,by rw[hb.cell (p:=⟨g,off+j*2,none⟩) h2];exact h3,by rw[hb.cell (p:=⟨g,off+j*2+1,none⟩) h2];exact h4⟩
theorem Rk.Eds.wider {w:World}{B B':Nat}{a:Option Addr}{es:List (Int×Int)}(h:Rk.Eds w B a es)(hB:B<=B'):Rk.Eds w B' a es:=λj hj=>by
 obtain⟨g,off,h1,h2,h3⟩:=h j hj;exact⟨g,off,h1,by omega,h3⟩
def Rk.up (es:List (Nat×Nat)):List (Int×Int):=es.map λe=>((e.1:Int),(e.2:Int))
theorem Rk.up_length (es:List (Nat×Nat)):(Rk.up es).length=es.length:=by simp[Rk.up]
theorem Rk.up_get (es:List (Nat×Nat))(j:Nat)(h:j<(Rk.up es).length):(Rk.up es)[j]=(((es[j]'(by simpa [Rk.up]using h)).1:Int),((es[j]'(by simpa [Rk.up]using h)).2:Int)):=by simp[Rk.up]
def Rk.Pred (g:Nat)(lb:Array Value)(p:Int×Int->Bool)(es:List (Int×Int))(w:World):Prop:=
 ∀(W:World) (x y:Int),(x,y)∈es->Below w.heap.size w W->Calls Tryz.prog g (#[.agg #[.int .i64 x,.int .i64 y]]++lb) W λe w'=>e=.returned (.bool (p (x,y)))/\Below w.heap.size w w'
theorem Tryz.index_any (p:Int×Int->Bool)(g:Nat)(lb:Array Value)(eg:∀args w,(callFunc g args).run Tryz.prog w=.ok (.enter g args) w)(a:Option Addr)(c:Nat)(es:List (Int×Int))(w:World)
  (hp:Rk.Pred g lb p es w) (hE:Rk.Eds w w.heap.size a es) (hn:es.length<=1000000000000000):
  Calls Tryz.prog 149 #[.slice a es.length c,.func (.func g) #[] lb] w λe w'=>(∃k:Int,e=.returned (.int .i64 k)/\decide (0<=k)=es.any p)/\Below w.heap.size w w':=by
 obtain⟨n,hnn⟩:=pE (es.length);rw[hnn]at hn⊢;have HP:Hid (Rk.Pred g lb p es w):=hp;have HE:Hid (Rk.Eds w w.heap.size a es/\es.length=n):=⟨hE,hnn⟩;clear hp hE hnn
 go_enter Tryz.func149,Tryz.ntmps149
 go_wp2
 go_loopg [5,8] n (λgk _ s8 wr=>∃k:Nat,gk+k=n/\s8=.int .i64 k/\Hid (Below w.heap.size w wr/\(es.take k).any p=false))
 case atStart=>exact⟨0,by omega,rfl,Below.refl _ w,by simp⟩
 case round=>
  obtain⟨k,hk,rfl,HB⟩:=hrel
  by_cases hlt:k<n
  rotate_left
  ·have hd:decide ((k:Int)<n)=false:=decide_eq_false (by omega)
   go_wp2;go_ret;refine⟨⟨-1,rfl, ?_⟩,HB.out.1⟩;have:=HB.out.2;rw[List.take_of_length_le (by rw[HE.out.2];omega)]at this;rw[this];rfl
  have hd:decide ((k:Int)<n)=true:=decide_eq_true (by omega);have hkl:k<es.length:=by rw[HE.out.2];exact hlt
  obtain⟨q,off,rfl,hq,h0,h1⟩:=HE.out.1 k hkl;obtain⟨x,hx⟩:=pE (es[k]);obtain⟨x0,x1⟩:=x;rw[hx]at h0 h1;have hc0:wr.cell? ⟨q,off+k*2,none⟩=some (.int .i64 x0):=by rw[HB.out.1.cell (p:=⟨q,off+k*2,none⟩) hq];exact h0
  have hc1:wr.cell? ⟨q,off+k*2+1,none⟩=some (.int .i64 x1):=by rw[HB.out.1.cell (p:=⟨q,off+k*2+1,none⟩) hq];exact h1
  have HX:Hid (es[k]=(x0,x1)):=hx;have hcall:=HP.out wr x0 x1 (by rw[<-hx];exact List.getElem_mem hkl) HB.out.1;clear h0 h1 hx hq;have hu:=Tryz.underlying128
  cases hq:p (x0,x1)with
  |true=>
   rw[hq]at hcall;have HQ:Hid (p (x0,x1)=true):=hq;clear hq
   go_wp2_with (go_at_fn g;refine hcall.mono ?_;rintro e w' ⟨rfl,hb'⟩)
   go_ret;refine⟨⟨k,rfl, ?_⟩,hb'⟩;rw[decide_eq_true (by omega)];exact(List.any_eq_true.2 ⟨es[k],List.getElem_mem hkl,by rw[HX.out];exact HQ.out⟩).symm
  |false=>
   rw[hq]at hcall;have HQ:Hid (p (x0,x1)=false):=hq;clear hq
   go_wp2_with (go_at_fn g;refine hcall.mono ?_;rintro e w' ⟨rfl,hb'⟩)
   go_roundg (gk-1)
   case measure=>omega
   case rel=>
    refine⟨k+1,by omega,by go_num,hb', ?_⟩;rw[Tm.take_snoc _ _ hkl,List.any_append,HB.out.2,HX.out];simp[HQ.out]
theorem Tryz.contains_any (p:Int×Int->Bool)(g:Nat)(lb:Array Value)(eg:∀args w,(callFunc g args).run Tryz.prog w=.ok (.enter g args) w)(a:Option Addr)(c:Nat)(es:List (Int×Int))(w:World)
  (hp:Rk.Pred g lb p es w) (hE:Rk.Eds w w.heap.size a es) (hn:es.length<=1000000000000000):
  Calls Tryz.prog 127 #[.slice a es.length c,.func (.func g) #[] lb] w λe w'=>e=.returned (.bool (es.any p))/\Below w.heap.size w w':=by
 have HC:Hid _:=Tryz.index_any p g lb eg a c es w hp hE hn;obtain⟨q,hq⟩:=pE (es.any p);rw[hq]at HC⊢;clear hp hE hq
 go_enter Tryz.func127,Tryz.ntmps127
 go_wp2_with fail
 refine Calls.mono HC.out ?_;rintro e W1 ⟨⟨k,rfl,hk⟩,hb⟩;have HB:Hid (Below w.heap.size w W1):=hb;have HK:Hid (decide (0<=k)=q):=hk;clear hb hk HC;go_wp2;go_ret;exact⟨Tk.ret_bool HK.out,HB.out⟩
theorem Tryz.within_any (n i:Int)(w:World):Calls Tryz.prog 129 #[.int .i64 n,.int .i64 i] w λe w'=>e=.returned (.bool (decide (0<=i)&&decide (i<n)))/\w'=w:=by
 cases h1:decide (0<=i)<;>cases h2:decide (i<n)
 all_goals
  go_enter Tryz.func129,Tryz.ntmps129
  go_wp2;go_ret;exact⟨rfl,rfl⟩
def Nt.Gives (l:List Nat)(w:World)(e:Ending)(w':World):Prop:=∃v,e=.returned v/\w'.ownsRow w.heap.size 3 1 v l.length (Rk.nums l)/\Below w.heap.size w w'
theorem Nt.own_lower {w:World}{B B':Nat}{e:TypeId}{size:Nat}{v:Value}{n:Nat}{cs:List Value}(h:w.ownsRow B e size v n cs)(hB:B'<=B):w.ownsRow B' e size v n cs:=by
 rcases h with⟨hl,h|⟨g,cap,cur,rfl,hB2,hg,h4⟩⟩
 ·exact⟨hl,.inl h⟩
 exact⟨hl,.inr ⟨g,cap,cur,rfl,by omega,hg,h4⟩⟩
end Go.Proofs
namespace Go.Proofs
open Go.RowKit
end Go.Proofs
namespace Go.Proofs
open Go.RowKit Go.ChangeShapes Go.WideShapes
theorem Fk.laidOut:laidOutB Tryz.prog=true:=by kernel_rfl
theorem Fk.trodAll_below' {H:Type}{enc:TypeId×Value->H}{P:Program}(hl:laidOutB P=true){W W':World}(hb:Below W.heap.size W W'):∀{ts:List TypeId} {vs:List Value} {ds:List (DataW H)} {ps:List MemPlace},
  (ts.all λt=>P.readableRec t&&decide (t<P.types.size))=true->DataW.TrodAll enc P W 0 (λ_=>true) true ts vs ds ps->(∀x∈ps,x.block<W.heap.size)->
  DataW.TrodAll enc P W' 0 (λb=>decide (b<W.heap.size)) true ts vs ds ps
 | [], [], [],_,_,h,_=>h
 |t::_,_::_,_::_,_,hT,⟨p,q,h1,h2,e⟩,hs=>by
  simp only[List.all_cons,Bool.and_eq_true,decide_eq_true_eq]at hT
  exact⟨p,q,Below.trod hl hT.1.1 hT.1.2 h1 hb (λx hx=>hs x (by rw[e];exact List.mem_append_left _ hx)),
   Fk.trodAll_below' hl hb hT.2 h2 (λx hx=>hs x (by rw[e];exact List.mem_append_right _ hx)),e⟩
theorem Fk.trodAll_below {H:Type}{enc:TypeId×Value->H}{W W':World}(hb:Below W.heap.size W W'){ts:List TypeId}{vs:List Value}{ds:List (DataW H)}{ps:List MemPlace}
 (hT:(ts.all λt=>Tryz.prog.readableRec t&&decide (t<Tryz.prog.types.size))=true) (h:DataW.TrodAll enc Tryz.prog W 0 (λ_=>true) true ts vs ds ps) (hs:∀x∈ps,x.block<W.heap.size):
 DataW.TrodAll enc Tryz.prog W' 0 (λb=>decide (b<W.heap.size)) true ts vs ds ps:=Fk.trodAll_below' Fk.laidOut hb hT h hs
end Go.Proofs
