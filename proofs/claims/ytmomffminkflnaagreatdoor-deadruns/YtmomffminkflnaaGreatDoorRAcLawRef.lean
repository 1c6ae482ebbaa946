import Derived.Deep.AppendLies
import Derived.Test.YtmomffminkflnaaGreatDoorRDdR10
set_option maxRecDepth 100000
set_option maxHeartbeats 32000000
namespace Go.Proofs
open Go.RowKit Go.Shelf
namespace Ac
structure OwnB(w:World)(B e:Nat)(V:Vs)(T:Ac):Prop where
 t:Tm.Lies w B e V.t T.t
 c: ∃a cap,V.c= .slice a T.cs.length cap/\Tms w B e a T.cs
 n: ∃a cap,V.n= .slice a T.ns.length cap/\Nt.Nds w B e a T.ns
 f: ∃a cap,V.f= .slice a T.fs.length cap/\Nt.Fls w B e a T.fs
theorem OwnB.keep {w w':World} {B e:Nat} {V:Vs} {T:Ac} (h:OwnB w B e V T)(hk: ∀k,k<B->w'.heap[k]? =w.heap[k]?):OwnB w' B e V T:=by
 obtain⟨h1,⟨a2,c2,e2,h2⟩,⟨a4,c4,e4,h4⟩,⟨a5,c5,e5,h5⟩⟩:=h;exact⟨h1.keep hk,⟨a2,c2,e2,h2.keep hk⟩,⟨a4,c4,e4,nds_keep h4 hk⟩,⟨a5,c5,e5,fls_keep h5 hk⟩⟩
theorem Own.ownB {w:World} {B e:Nat} {V:Vs} {T:Ac} (h:Own w B e V T)(vk vl:Value):OwnB w B e⟨V.t,V.c,vk,vl,V.n,V.f⟩T:=⟨h.t,h.c,h.n,h.f⟩
def LksP(w:World)(P:Nat->Prop)(v:Value)(ls:List(Int×Int)):Prop:= ∃a cap,v= .slice a ls.length cap/\
 ∀j(h:j<ls.length),∃g off,a=some⟨g,off,none⟩/\P g/\w.cell? ⟨g,off+j*2,none⟩=some(.int .i64 ls[j].1)/\w.cell? ⟨g,off+j*2+1,none⟩=some(.int .i64 ls[j].2)
theorem LksP.keep {w w':World} {P P':Nat->Prop} {v:Value} {ls:List(Int×Int)} (h:LksP w P v ls)(hk: ∀k,P k->w'.heap[k]? =w.heap[k]?)(hP: ∀k,P k->P' k):LksP w' P' v ls:=by
 obtain⟨a,cap,hv,h⟩:=h;refine⟨a,cap,hv,λj hj=> ?_⟩;obtain⟨g,off,ha,hg,h0,h1⟩:=h j hj;have hc: ∀o,w'.cell? ⟨g,o,none⟩=w.cell? ⟨g,o,none⟩:=λo=>World.cell?_of_block(w:=w)(hk g hg);exact⟨g,off,ha,hP g hg,by rw [hc];exact h0,by rw [hc];exact h1⟩
def LiesP(w:World)(B e:Nat)(P:Nat->Prop):Nat->Vs->Ac->Prop
 |0,_,_=>False
 |d+1,V,T=>OwnB w B e V T/\LksP w P V.l T.ls/\ ∃a cap,V.k= .slice a T.ks.length cap/\ ∀j(h:j<T.ks.length),∃g off U,a=some⟨g,off,none⟩/\P g/\Row w g(off+j*12)(row T.ks[j]U)/\LiesP w B e P d U T.ks[j]
theorem LiesP.keep {w w':World} {B e:Nat} {P P':Nat->Prop} (hB: ∀k,k<B->w'.heap[k]? =w.heap[k]?)(hk: ∀k,P k->w'.heap[k]? =w.heap[k]?)(hP: ∀k,P k->P' k): ∀ {d:Nat} {V:Vs} {T:Ac},LiesP w B e P d V T->LiesP w' B e P' d V T
 |0,_,_,h=>h.elim
 |d+1,V,T,h=>by
  obtain⟨ho,hl,a,cap,hv,h⟩:=h;refine⟨ho.keep hB,hl.keep hk hP,a,cap,hv,λj hj=> ?_⟩;obtain⟨g,off,U,ha,hg,hr,h1⟩:=h j hj;exact⟨g,off,U,ha,hP g hg,hr.keep(hk g hg),LiesP.keep hB hk hP h1⟩
theorem LiesP.lies {w:World} {B B' e:Nat} {P:Nat->Prop} (hB:B<=B')(hP: ∀k,P k->k<B'): ∀ {d:Nat} {V:Vs} {T:Ac},LiesP w B e P d V T->Lies w B' e d V T
 |0,_,_,h=>h.elim
 |d+1,V,T,h=>by
  obtain⟨⟨h1,⟨a2,c2,e2,h2⟩,⟨a4,c4,e4,h4⟩,⟨a5,c5,e5,h5⟩⟩,⟨a3,c3,e3,h3⟩,a,cap,hv,h⟩:=h;refine⟨⟨h1.wider hB,⟨a2,c2,e2,h2.wider hB⟩,⟨a3,c3,e3,λj hj=> ?_⟩,⟨a4,c4,e4,h4.wider hB⟩,⟨a5,c5,e5,h5.wider hB⟩⟩,a,cap,hv,λj hj=> ?_⟩
  ·obtain⟨g,off,ha,hg,q0,q1⟩:=h3 j hj
   exact⟨g,off,ha,hP g hg,q0,q1⟩
  obtain⟨g,off,U,ha,hg,hr,h1⟩:=h j hj;exact⟨g,off,U,ha,hP g hg,hr,LiesP.lies hB hP h1⟩
theorem LiesP.upto {w:World} {B e:Nat} {P:Nat->Prop} : ∀ {d d':Nat} {V:Vs} {T:Ac},LiesP w B e P d V T->d<=d'->LiesP w B e P d' V T
 |0,_,_,_,h,_=>h.elim
 |d+1,0,_,_,_,h'=>by omega
 |d+1,d'+1,V,T,h,h'=>by
  obtain⟨ho,hl,a,cap,hv,h⟩:=h;refine⟨ho,hl,a,cap,hv,λj hj=> ?_⟩;obtain⟨g,off,U,ha,hg,hr,h1⟩:=h j hj;exact⟨g,off,U,ha,hg,hr,LiesP.upto h1(by omega)⟩
theorem LiesP.shape {w:World} {B e d:Nat} {P:Nat->Prop} {V:Vs} {T:Ac} (h:LiesP w B e P d V T): ∃a6 c6 a7 c7 a8 c8 a9 c9 a10 c10 a11 c11,V=⟨.slice a6 T.t.ks.length c6, .slice a7 T.cs.length c7, .slice a8 T.ks.length c8, .slice a9 T.ls.length c9, .slice a10 T.ns.length c10, .slice a11 T.fs.length c11⟩:=by
 cases d with
 |zero=>exact h.elim
 |succ d=>
  obtain⟨ho,⟨a9,c9,e9,_⟩,a8,c8,e8,_⟩:=h;obtain⟨a6,c6,e6⟩:=ho.t.shape;obtain⟨a7,c7,e7,_⟩:=ho.c;obtain⟨a10,c10,e10,_⟩:=ho.n;obtain⟨a11,c11,e11,_⟩:=ho.f;refine⟨a6,c6,a7,c7,a8,c8,a9,c9,a10,c10,a11,c11, ?_⟩
  cases V
  simp only at e6 e7 e8 e9 e10 e11;rw [e6,e7,e8,e9,e10,e11]
theorem LiesP.ones {w:World} {B e d:Nat} {P:Nat->Prop} {V:Vs} {T:Ac} (h:LiesP w B e P d V T):(row T V).all(·.oneCell')=true:=by
 obtain⟨a6,c6,a7,c7,a8,c8,a9,c9,a10,c10,a11,c11,rfl⟩:=h.shape;simp [row,Value.oneCell']
end Ac
theorem Ak.rows_ne {X:World} {B B':Nat} {e e':TypeId} {s s':Nat} {v v':Value} {n n':Nat} {cs cs':List Value} (h:X.ownsRow B e s v n cs)(h':X.ownsRow B' e' s' v' n' cs')(hne:e≠e') {k:Nat} (hk:v.ownBlock=some k):v'.ownBlock≠some k:=by
 rcases h.2 with⟨rfl,_⟩|⟨g,cap,cur,rfl,_,hg,_⟩
 ·cases hk
 have e2:g=k:=Option.some.inj hk;subst e2
 rcases h'.2 with⟨rfl,_⟩|⟨g',cap',cur',rfl,_,hg',_⟩
 ·simp [Value.ownBlock]
 intro e1;have e3:g'=g:=Option.some.inj e1;subst e3;rw [hg']at hg
 cases hg
 exact hne rfl
theorem Ak.row_lt {X:World} {B:Nat} {e:TypeId} {s:Nat} {v:Value} {n:Nat} {cs:List Value} (h:X.ownsRow B e s v n cs) {k:Nat} (hk:v.ownBlock=some k):B<=k/\k<X.heap.size:=by
 rcases h.2 with⟨rfl,_⟩|⟨g,cap,cur,rfl,hb,hg,_⟩
 ·cases hk
 have e2:g=k:=Option.some.inj hk;subst e2;exact⟨hb,(Array.getElem?_eq_some_iff.1 hg).1⟩
theorem Ak.own_kept {w w':World} {B:Nat} {e:TypeId} {size:Nat} {v:Value} {n:Nat} {cs:List Value} (h:w.ownsRow B e size v n cs)(hb: ∀k,v.ownBlock=some k->w'.heap[k]? =w.heap[k]?):w'.ownsRow B e size v n cs:=
 ⟨h.1,h.2.imp id fun⟨g,cap,cur,hv,h1,h2,h3⟩=>⟨g,cap,cur,hv,h1,(hb g(by rw [hv];rfl)).trans h2,h3⟩⟩
def Ak.kCells(qs:List(Ac×Ac.Vs)):List Value:=qs.flatMap λq=>(Ac.row q.1 q.2).toList
theorem Ak.kCells_append(a b:List(Ac×Ac.Vs)):Ak.kCells(a++b)=Ak.kCells a++Ak.kCells b:=by simp [Ak.kCells]
theorem Ak.ecells_append(a b:List(Int×Int)):Ak.ecells(a++b)=Ak.ecells a++Ak.ecells b:=by simp [Ak.ecells]
theorem Ak.kCells_at: ∀(qs:List(Ac×Ac.Vs))(j i:Nat)(h:j<qs.length)(hi:i<12),(Ak.kCells qs)[j*12+i]? =some((Ac.row qs[j].1 qs[j].2)[i]'(by simpa [Ac.row]using hi))
 | [],j,_,h,_=>by simp at h
 |q::r,0,i,_,hi=>by
  have e:Ak.kCells(q::r)=(Ac.row q.1 q.2).toList++Ak.kCells r:=by simp [Ak.kCells]
  rw [e,List.getElem?_append_left(by simp [Ac.row];omega),Nat.zero_mul,Nat.zero_add,Array.getElem?_toList];exact Array.getElem?_eq_getElem _
 |q::r,j+1,i,h,hi=>by
  have e:Ak.kCells(q::r)=(Ac.row q.1 q.2).toList++Ak.kCells r:=by simp [Ak.kCells]
  have hl:(Ac.row q.1 q.2).toList.length=12:=rfl;rw [e,List.getElem?_append_right(by rw [hl];omega),hl,show(j+1)*12+i-12=j*12+i by omega];exact Ak.kCells_at r j i(by simpa using h)hi
def Ak.Far(b n:Nat)(vK vL:Value)(k:Nat):Prop:=b+3<=k/\k<n/\vK.ownBlock≠some k/\vL.ownBlock≠some k
structure Ak.Rf(w:World)(B e:Nat)(bx:Array Value)(T:Ac)(V:Ac.Vs)(vK vL:Value)(qs:List(Ac×Ac.Vs))(xs:List(Int×Int))(X:World):Prop where
 box:X.heap[w.heap.size]? =some(.cells bx 32(0,0))
 res:X.heap[w.heap.size+1]? =some(.cells #[.int .i64 0, .int .i64 0, .int .i64 0, .int .i64 0, .int .i64 0, .int .i64 0, .slice none 0 0, .slice none 0 0, .slice none 0 0, .slice none 0 0, .slice none 0 0, .slice none 0 0]48(0,0))
 var:X.heap[w.heap.size+1+1]? =some(.cells(Ac.row T⟨V.t,V.c,vK,vL,V.n,V.f⟩)48(0,0))
 ownK:X.ownsRow(w.heap.size+3)48 12 vK qs.length(Ak.kCells qs)
 ownL:X.ownsRow(w.heap.size+3)83 2 vL xs.length(Ak.ecells xs)
 lies: ∀q∈qs,∃d,Ac.LiesP X B e(Ak.Far w.heap.size X.heap.size vK vL)d q.2 q.1
 below:Below w.heap.size w X
section
variable {w:World} {B e:Nat} {bx:Array Value} {T:Ac} {V:Ac.Vs} {vK vL:Value} {qs:List(Ac×Ac.Vs)} {xs:List(Int×Int)} {X X' W6:World}
theorem Ak.Rf.lt(h:Ak.Rf w B e bx T V vK vL qs xs X):w.heap.size+1+1<X.heap.size:=(Array.getElem?_eq_some_iff.1 h.var).1
theorem Ak.Rf.step(h:Ak.Rf w B e bx T V vK vL qs xs X)(hB:B<=w.heap.size)(hb:Below X.heap.size X X'):Ak.Rf w B e bx T V vK vL qs xs X':=by
 have hz:=h.lt
 exact⟨(hb.block _(by omega)).trans h.box,(hb.block _(by omega)).trans h.res,(hb.block _ hz).trans h.var,Ak.own_kept h.ownK λk hk=>hb.block k(Ak.row_lt h.ownK hk).2,Ak.own_kept h.ownL λk hk=>hb.block k(Ak.row_lt h.ownL hk).2,
  λq hq=>by obtain⟨d,hd⟩:=h.lies q hq;exact⟨d,hd.keep(λk hk=>hb.block k(by omega))(λk hk=>hb.block k hk.2.1)λk hk=>⟨hk.1,Nat.lt_of_lt_of_le hk.2.1 hb.size,hk.2.2⟩⟩,h.below.trans(hb.mono h.below.size)⟩
theorem Ak.Rf.midL(h:Ak.Rf w B e bx T V vK vL qs xs X)(g6:X.grownBy W6 vL.ownBlock):W6.heap[w.heap.size+1+1]? =some(.cells(Ac.row T⟨V.t,V.c,vK,vL,V.n,V.f⟩)48(0,0)):=
 (g6.block _ h.lt(by intro e;have:=(Ak.row_lt h.ownL e.symm).1;omega)).trans h.var
theorem Ak.Rf.midK(h:Ak.Rf w B e bx T V vK vL qs xs X)(g6:X.grownBy W6 vK.ownBlock):W6.heap[w.heap.size+1+1]? =some(.cells(Ac.row T⟨V.t,V.c,vK,vL,V.n,V.f⟩)48(0,0)):=
 (g6.block _ h.lt(by intro e;have:=(Ak.row_lt h.ownK e.symm).1;omega)).trans h.var
theorem Ak.Rf.kid {x:Ac} {U:Ac.Vs} {g cap H:Nat} (h:Ak.Rf w B e bx T V vK vL qs xs X)(hB:B<=w.heap.size)(hx: ∃d,Ac.LiesP X B e(Ak.Far w.heap.size X.heap.size vK vL)d U x)(hH:X.heap.size=H)
  (o6:W6.ownsRow(w.heap.size+3)48 12(.slice(some⟨g,0,none⟩)(qs.length+1)cap)(qs.length+1)(Ak.kCells qs++(Ac.row x U).toList))(g6:X.grownBy W6 vK.ownBlock)(hg:vK.ownBlock=some g∨g=H):
  Ak.Rf w B e bx T V(.slice(some⟨g,0,none⟩)(qs.length+1)cap)vL(qs++ [(x,U)])xs(W6.setCell⟨w.heap.size+1+1,8,none⟩(.slice(some⟨g,0,none⟩)(qs.length+1)cap)):=by
 have hz:=h.lt;have hv:=h.midK g6;have hk: ∀k,k<w.heap.size+3->k<X.heap.size->W6.heap[k]? =X.heap[k]? :=λk h1 h2=>g6.block k h2(by intro e;have:=(Ak.row_lt h.ownK e.symm).1;omega)
 have key: ∀(d:Nat)(U:Ac.Vs)(E:Ac),Ac.LiesP X B e(Ak.Far w.heap.size X.heap.size vK vL)d U E->Ac.LiesP(W6.setCell⟨w.heap.size+1+1,8,none⟩(.slice(some⟨g,0,none⟩)(qs.length+1)cap))B e(Ak.Far w.heap.size(W6.setCell⟨w.heap.size+1+1,8,none⟩(.slice(some⟨g,0,none⟩)(qs.length+1)cap)).heap.size(.slice(some⟨g,0,none⟩)(qs.length+1)cap)vL)d U E:=λd U E hE=>
  hE.keep(λk hkB=>(Below.heap_setCell _ _ _ _(by show k≠w.heap.size+1+1;omega)).trans(hk k(by omega)(by omega)))
   (λk hk=>(Below.heap_setCell _ _ _ _(by have:=hk.1;show k≠w.heap.size+1+1;omega)).trans(g6.block k hk.2.1(Ne.symm hk.2.2.1)))λk hk=>⟨hk.1,by have:=g6.size;have:=hk.2.1;simp [World.setCell];omega,by
   intro e;have e':g=k:=Option.some.inj e;subst e'
   rcases hg with hg|hg
   ·exact hk.2.2.1 hg
   have:=hk.2.1;omega,hk.2.2.2⟩
 refine⟨?_, ?_, ?_, ?_, ?_, ?_, ?_⟩
 ·rw [Below.heap_setCell _ _ _ _(by show _≠w.heap.size+1+1;omega)];exact(hk _(by omega)(by omega)).trans h.box
 ·rw [Below.heap_setCell _ _ _ _(by show _≠w.heap.size+1+1;omega)];exact(hk _(by omega)(by omega)).trans h.res
 ·simp [World.setCell,Array.getElem?_modify,hv,Ac.row]
 ·rw [Ak.kCells_append,List.length_append]
  have e1:Ak.kCells [(x,U)]=(Ac.row x U).toList:=by simp [Ak.kCells]
  rw [e1];exact ownsRow_setCell_below o6(by show w.heap.size+1+1<_;omega)_
 ·refine ownsRow_setCell_below(Ak.own_kept h.ownL λk hk1=>g6.block k(Ak.row_lt h.ownL hk1).2 ?_)(by show w.heap.size+1+1<_;omega)_
  intro e;exact Ak.rows_ne h.ownL h.ownK(by decide)hk1 e.symm
 ·intro q hq
  rcases List.mem_append.1 hq with hq|hq
  ·obtain⟨d,hd⟩:=h.lies q hq
   exact⟨d,key _ _ _ hd⟩
  rw [List.mem_singleton.1 hq];obtain⟨d,hd⟩:=hx;exact⟨d,key _ _ _ hd⟩
 exact(h.below.trans⟨g6.os,g6.tape,g6.output,g6.size,λj hj=>hk j(by omega)(by omega)⟩).setCell(by show _<=w.heap.size+1+1;omega)_
theorem Ak.Rf.link {x:Int×Int} {g cap H:Nat} (h:Ak.Rf w B e bx T V vK vL qs xs X)(hB:B<=w.heap.size)(hH:X.heap.size=H)
  (o6:W6.ownsRow(w.heap.size+3)83 2(.slice(some⟨g,0,none⟩)(xs.length+1)cap)(xs.length+1)(Ak.ecells xs++ [.int .i64 x.1, .int .i64 x.2]))(g6:X.grownBy W6 vL.ownBlock)(hg:vL.ownBlock=some g∨g=H):
  Ak.Rf w B e bx T V vK(.slice(some⟨g,0,none⟩)(xs.length+1)cap)qs(xs++ [x])(W6.setCell⟨w.heap.size+1+1,9,none⟩(.slice(some⟨g,0,none⟩)(xs.length+1)cap)):=by
 have hz:=h.lt;have hv:=h.midL g6;have hk: ∀k,k<w.heap.size+3->k<X.heap.size->W6.heap[k]? =X.heap[k]? :=λk h1 h2=>g6.block k h2(by intro e;have:=(Ak.row_lt h.ownL e.symm).1;omega);refine⟨?_, ?_, ?_, ?_, ?_, ?_, ?_⟩
 ·rw [Below.heap_setCell _ _ _ _(by show _≠w.heap.size+1+1;omega)];exact(hk _(by omega)(by omega)).trans h.box
 ·rw [Below.heap_setCell _ _ _ _(by show _≠w.heap.size+1+1;omega)];exact(hk _(by omega)(by omega)).trans h.res
 ·simp [World.setCell,Array.getElem?_modify,hv,Ac.row]
 ·refine ownsRow_setCell_below(Ak.own_kept h.ownK λk hk1=>g6.block k(Ak.row_lt h.ownK hk1).2 ?_)(by show w.heap.size+1+1<_;omega)_
  intro e;exact Ak.rows_ne h.ownK h.ownL(by decide)hk1 e.symm
 ·rw [Ak.ecells_append,List.length_append]
  exact ownsRow_setCell_below o6(by show w.heap.size+1+1<_;omega)_
 ·intro q hq
  obtain⟨d,hd⟩:=h.lies q hq;refine⟨d,hd.keep(λk hkB=>(Below.heap_setCell _ _ _ _(by show k≠w.heap.size+1+1;omega)).trans(hk k(by omega)(by omega)))(λk hk=>(Below.heap_setCell _ _ _ _(by have:=hk.1;show k≠w.heap.size+1+1;omega)).trans(g6.block k hk.2.1(Ne.symm hk.2.2.2)))λk hk=>⟨hk.1,by have:=g6.size;have:=hk.2.1;simp [World.setCell];omega,hk.2.2.1, ?_⟩⟩;intro e;have e':g=k:=Option.some.inj e;subst e'
  rcases hg with hg|hg
  ·exact hk.2.2.2 hg
  have:=hk.2.1;omega
 exact(h.below.trans⟨g6.os,g6.tape,g6.output,g6.size,λj hj=>hk j(by omega)(by omega)⟩).setCell(by show _<=w.heap.size+1+1;omega)_
end
theorem Ak.maxL {w:World} {B e:Nat} {P:Nat->Prop} : ∀(l:List(Ac×Ac.Vs)),(∀q∈l,∃d,Ac.LiesP w B e P d q.2 q.1)-> ∃D,∀q∈l,Ac.LiesP w B e P D q.2 q.1
 | [],_=>⟨0,λ_ h=>by cases h⟩
 |a::l,h=>by
  obtain⟨D,hD⟩:=Ak.maxL l λq hq=>h q(by simp [hq]);obtain⟨d,hd⟩:=h a(by simp);refine⟨max D d,λq hq=> ?_⟩
  rcases List.mem_cons.1 hq with rfl|hq
  ·exact hd.upto(Nat.le_max_right _ _)
  exact(hD q hq).upto(Nat.le_max_left _ _)
theorem Ak.Rf.all {w:World} {B e:Nat} {bx:Array Value} {T:Ac} {V:Ac.Vs} {vK vL:Value} {qs:List(Ac×Ac.Vs)} {X:World} (h:Ak.Rf w B e bx T V vK vL qs T.ls X)(hB:B<=w.heap.size)(hk:qs.map(·.1)=T.ks)(ho:Ac.Own w B e V T): ∃d,Ac.LiesP X B e(λk=>w.heap.size+3<=k/\k<X.heap.size)d⟨V.t,V.c,vK,vL,V.n,V.f⟩T:=by
 obtain⟨D,hD⟩:=Ak.maxL qs h.lies;have hlen:T.ks.length=qs.length:=by rw [<-hk];simp
 refine⟨D+1,(ho.ownB vK vL).keep λk hk=>h.below.block k(by omega), ?_, ?_⟩
 ·rcases h.ownL.2 with⟨rfl,h0⟩|⟨g,cap,cur,rfl,hb,hg,_⟩
  ·exact⟨none,0,by rw [h0],λj hj=>by omega⟩
  refine⟨_,_,rfl,λj hj=>⟨g,0,rfl,⟨hb,(Array.getElem?_eq_some_iff.1 hg).1⟩, ?_⟩⟩;obtain⟨c0,c1⟩:=Ak.ecells_at T.ls j hj
  have hc: ∀o u,(Ak.ecells T.ls)[o]? =some u->X.cell? ⟨g,o,none⟩=some u:=λo u hu=>by
   have h1:=h.ownL.cells(g:=g)rfl o u hu;rw [Go.WideShapes.add_plain,Nat.zero_add]at h1;exact h1
  rw [Nat.zero_add];exact⟨hc _ _ c0,hc _ _ c1⟩
 rcases h.ownK.2 with⟨rfl,h0⟩|⟨g,cap,cur,rfl,hb,hg,_⟩
 ·exact⟨none,0,by rw [hlen,h0],λj hj=>by omega⟩
 refine⟨_,_,by rw [hlen],λj hj=> ?_⟩;have hj':j<qs.length:=by omega
 have he:T.ks[j]=qs[j].1:=by simp [<-hk]
 refine⟨g,0,qs[j].2,rfl,⟨hb,(Array.getElem?_eq_some_iff.1 hg).1⟩,λi hi=> ?_, ?_⟩
 ·have hi':i<12:=by simpa [Ac.row]using hi
  have h1:=h.ownK.cells(g:=g)rfl _ _(Ak.kCells_at qs j i hj' hi');rw [Go.WideShapes.add_plain]at h1;rw [Nat.zero_add]at h1⊢;rw [h1]
  congr 1
  simp only [he]
 rw [he];exact(hD _(List.getElem_mem hj')).keep(λ_ _=>rfl)(λ_ _=>rfl)λk hk=>⟨hk.1,hk.2.1⟩
theorem Ak.infoRAct:(Tryz.prog.info? 48).map(λi=>(i.zero,i.size,i.bytes))=some(some(.agg #[.int .i64 0, .int .i64 0, .int .i64 0, .int .i64 0, .int .i64 0, .int .i64 0, .slice none 0 0, .slice none 0 0, .slice none 0 0, .slice none 0 0, .slice none 0 0, .slice none 0 0]),12,192):=by kernel_rfl
theorem Ak.infoRLink:(Tryz.prog.info? 83).map(λi=>(i.zero,i.size,i.bytes))=some(some(.agg #[.int .i64 0, .int .i64 0]),2,16):=by kernel_rfl
theorem Ak.at_op2 {P:Program} {ops:Array Oper} {o:Oper} {a:Act} {w:World} {K:Act->World->Prop} {Q:Exit->Act->World->Prop} {E:Prop} (x:Op)(_hop:o.op=x)
 (h:if Region.wanted o(yielded ops a.tmps)=true then Oper.wp P o a w K Q else E):if Region.wanted o(yielded ops a.tmps)=true then Oper.wp P o a w K Q else E:=h
def Ak.RefC(d:Nat):Prop:= ∀(B e:Nat)(T:Ac)(V:Ac.Vs)(w:World),B<=w.heap.size->Ac.Lies w B e d V T->T.size<=100000->T.All(λx=>x.ls.length<=100)->
 Calls Tryz.prog 12 #[.agg(Ac.row T V)]w λe' w'=>Below w.heap.size w w'/\ ∃U d',e'= .returned(.agg(Ac.row T U))/\Ac.LiesP w' B e(λk=>w.heap.size<=k/\k<w'.heap.size)d' U T
theorem Ak.refC: ∀d:Nat,Ak.RefC d:=by
 intro d
 induction d with
 |zero=>intro B e T V w _ hT;exact hT.elim
 |succ d ih=>
  intro B e T V w hB hT hsz hlk;rw [T.all_eq]at hlk;have hown:=hT.own;obtain⟨al,cl,hvl,hat⟩:=hT.own.l;have HV0:=hT.shape;obtain⟨a6,c6,a7,c7,ak,ck,aa,ca,a10,c10,a11,c11,hV⟩:=HV0;obtain⟨n,hn⟩: ∃n,T.ks.length=n:=⟨_,rfl⟩;obtain⟨m,hm⟩: ∃n,T.ls.length=n:=⟨_,rfl⟩;obtain⟨n6,hn6⟩: ∃n,T.t.ks.length=n:=⟨_,rfl⟩;obtain⟨n7,hn7⟩: ∃n,T.cs.length=n:=⟨_,rfl⟩;obtain⟨n10,hn10⟩: ∃n,T.ns.length=n:=⟨_,rfl⟩;obtain⟨n11,hn11⟩: ∃n,T.fs.length=n:=⟨_,rfl⟩;rw [hn,hm,hn6,hn7,hn10,hn11]at hV;obtain⟨z0,hz0⟩: ∃z,T.kind=z:=⟨_,rfl⟩;obtain⟨z1,hz1⟩: ∃z,T.node=z:=⟨_,rfl⟩;obtain⟨z2,hz2⟩: ∃z,T.a=z:=⟨_,rfl⟩;obtain⟨z3,hz3⟩: ∃z,T.b=z:=⟨_,rfl⟩;obtain⟨z4,hz4⟩: ∃z,T.t.op=z:=⟨_,rfl⟩;obtain⟨z5,hz5⟩: ∃z,T.t.num=z:=⟨_,rfl⟩;have hrow:Ac.row T V= #[.int .i64 z0, .int .i64 z1, .int .i64 z2, .int .i64 z3, .int .i64 z4, .int .i64 z5, .slice a6 n6 c6, .slice a7 n7 c7, .slice ak n ck, .slice aa m ca, .slice a10 n10 c10, .slice a11 n11 c11]:=by unfold Ac.row;rw [hV,hz0,hz1,hz2,hz3,hz4,hz5]
  have hvar: ∀vk vl,Ac.row T⟨V.t,V.c,vk,vl,V.n,V.f⟩= #[.int .i64 z0, .int .i64 z1, .int .i64 z2, .int .i64 z3, .int .i64 z4, .int .i64 z5, .slice a6 n6 c6, .slice a7 n7 c7,vk,vl, .slice a10 n10 c10, .slice a11 n11 c11]:=λvk vl=>by unfold Ac.row;rw [hV,hz0,hz1,hz2,hz3,hz4,hz5]
  have hvk:V.k= .slice ak n ck:=by rw [hV]
  have hvl2:V.l= .slice aa m ca:=by rw [hV]
  rw [hvl2]at hvl;simp only [Value.slice.injEq]at hvl;obtain⟨rfl,-,rfl⟩:=hvl
  have hnb:n<=100000:=by
   have h1:=T.size_eq;have h2:=Ac.length_le_sizes T.ks;omega
  have hmb:m<=100:=by have:=hlk.1;omega
  rw [hrow];obtain⟨w0,hw0⟩: ∃x,((w.alloc(.cells #[.int .i64 z0, .int .i64 z1, .int .i64 z2, .int .i64 z3, .int .i64 z4, .int .i64 z5, .slice a6 n6 c6, .slice a7 n7 c7, .slice ak n ck, .slice aa m ca, .slice a10 n10 c10, .slice a11 n11 c11]32)).alloc(.cells #[.int .i64 0, .int .i64 0, .int .i64 0, .int .i64 0, .int .i64 0, .int .i64 0, .slice none 0 0, .slice none 0 0, .slice none 0 0, .slice none 0 0, .slice none 0 0, .slice none 0 0]48)).alloc(.cells #[.int .i64 z0, .int .i64 z1, .int .i64 z2, .int .i64 z3, .int .i64 z4, .int .i64 z5, .slice a6 n6 c6, .slice a7 n7 c7, .slice none 0 0, .slice none 0 0, .slice a10 n10 c10, .slice a11 n11 c11]48)=x:=⟨_,rfl⟩
  have R0:Ak.Rf w B e #[.int .i64 z0, .int .i64 z1, .int .i64 z2, .int .i64 z3, .int .i64 z4, .int .i64 z5, .slice a6 n6 c6, .slice a7 n7 c7, .slice ak n ck, .slice aa m ca, .slice a10 n10 c10, .slice a11 n11 c11]T V(.slice none 0 0)(.slice none 0 0) [] []w0:=by
   rw [<-hw0];refine⟨?_, ?_, ?_,World.ownsRow_nil _ _ _ _,World.ownsRow_nil _ _ _ _,(λq hq=>by cases hq),(((Below.refl _ w).alloc(Nat.le_refl _)_).alloc(by simp)_).alloc(by simp;omega)_⟩
   ·rw [Below.heap_alloc _ _ _(by simp;omega),Below.heap_alloc _ _ _(by simp)];exact heap_alloc_new w _
   ·rw [Below.heap_alloc _ _ _(by simp)]
    have:=heap_alloc_new(w.alloc(.cells #[.int .i64 z0, .int .i64 z1, .int .i64 z2, .int .i64 z3, .int .i64 z4, .int .i64 z5, .slice a6 n6 c6, .slice a7 n7 c7, .slice ak n ck, .slice aa m ca, .slice a10 n10 c10, .slice a11 n11 c11]32))(.cells #[.int .i64 0, .int .i64 0, .int .i64 0, .int .i64 0, .int .i64 0, .int .i64 0, .slice none 0 0, .slice none 0 0, .slice none 0 0, .slice none 0 0, .slice none 0 0, .slice none 0 0]48);simpa using this
   rw [hvar];have:=heap_alloc_new((w.alloc(.cells #[.int .i64 z0, .int .i64 z1, .int .i64 z2, .int .i64 z3, .int .i64 z4, .int .i64 z5, .slice a6 n6 c6, .slice a7 n7 c7, .slice ak n ck, .slice aa m ca, .slice a10 n10 c10, .slice a11 n11 c11]32)).alloc(.cells #[.int .i64 0, .int .i64 0, .int .i64 0, .int .i64 0, .int .i64 0, .int .i64 0, .slice none 0 0, .slice none 0 0, .slice none 0 0, .slice none 0 0, .slice none 0 0, .slice none 0 0]48))(.cells #[.int .i64 z0, .int .i64 z1, .int .i64 z2, .int .i64 z3, .int .i64 z4, .int .i64 z5, .slice a6 n6 c6, .slice a7 n7 c7, .slice none 0 0, .slice none 0 0, .slice a10 n10 c10, .slice a11 n11 c11]48);simpa using this
  have HR0:Hid _:=R0;obtain⟨q0,q1⟩:w0.cell? ⟨w.heap.size,8,none⟩=some(.slice ak n ck)/\w0.cell? ⟨w.heap.size,9,none⟩=some(.slice aa m ca):=by have:=R0.box;simp [World.cell?,this]
  have HW0:Hid _:=hw0;have HT:Hid(Ac.Lies w B e(d+1)V T/\V.k= .slice ak n ck/\Ac.Own w B e V T/\B<=w.heap.size/\ ∀vk vl,Ac.row T⟨V.t,V.c,vk,vl,V.n,V.f⟩= #[.int .i64 z0, .int .i64 z1, .int .i64 z2, .int .i64 z3, .int .i64 z4, .int .i64 z5, .slice a6 n6 c6, .slice a7 n7 c7,vk,vl, .slice a10 n10 c10, .slice a11 n11 c11]):=⟨hT,hvk,hown,hB,hvar⟩;have HAT:Hid(Ac.Lks w B aa T.ls):=hat;have HI:Hid(Ak.RefC d):=ih;have HM:Hid(T.ks.length=n/\T.ls.length=m/\T.size<=100000/\Ac.Alls(λx=>x.ls.length<=100)T.ks):=⟨hn,hm,hsz,hlk.2⟩;obtain⟨i0,hi,hy0,hy1,hy2⟩:=info_parts Ak.infoRLink;obtain⟨i1,hi1,hx0,hx1,hx2⟩:=info_parts Ak.infoRAct;clear ih hT hat hn hm hsz hlk hw0 R0 hown hV hn6 hn7 hn10 hn11 hz0 hz1 hz2 hz3 hz4 hz5 hrow hvar hvk hvl2 hB
  go_enter Tryz.func12,Tryz.ntmps12
  go_upto_region 2 with fail
  rw [HW0.out];go_wp2
  go_loopg [5,26]n(λgg _ i wr=> ∃(j:Nat)(qs:List(Ac×Ac.Vs))(vK:Value),gg+j=n/\i= .int .i64 j/\qs.length=j/\Hid(qs.map(·.1)=T.ks.take j/\Ak.Rf w B e #[.int .i64 z0, .int .i64 z1, .int .i64 z2, .int .i64 z3, .int .i64 z4, .int .i64 z5, .slice a6 n6 c6, .slice a7 n7 c7, .slice ak n ck, .slice aa m ca, .slice a10 n10 c10, .slice a11 n11 c11]T V vK(.slice none 0 0)qs []wr))
  case atStart=>exact⟨0, [], .slice none 0 0,by omega,rfl,rfl,rfl,HR0.out⟩
  case round=>
   obtain⟨j,qs,vK,hg,rfl,hql,HJ⟩:=hrel;clear q0 q1;subst hql;obtain⟨avk,cvk,hvk⟩:=Ak.own_shape HJ.out.2.ownK;subst hvk
   by_cases hjn:qs.length<n
   ·have hd:decide((qs.length:Int)<n)=true:=decide_eq_true(by omega)
    have hjk:qs.length<T.ks.length:=by rw [HM.out.1];exact hjn
    obtain⟨g,off,U,rfl,hgl,hrw,hlu⟩:=HT.out.1.kid HT.out.2.1 qs.length hjk;obtain⟨x,hx⟩: ∃x,T.ks[qs.length]=x:=⟨_,rfl⟩;have hxs:=Ac.sizes_get T.ks qs.length hjk;have hxl:=Ac.alls_get HM.out.2.2.2 qs.length hjk;rw [hx]at hrw hlu hxs hxl;obtain⟨y0,y1,y2,y3,y4,y5,y6,y7,y8,y9,y10,y11,hyr⟩: ∃y0 y1 y2 y3 y4 y5 y6 y7 y8 y9 y10 y11,Ac.row x U= #[y0,y1,y2,y3,y4,y5,y6,y7,y8,y9,y10,y11]:=⟨_,_,_,_,_,_,_,_,_,_,_,_,rfl⟩;have hone:=hlu.ones;rw [hyr]at hrw hone;have hcb: ∀o,wr.cell? ⟨g,o,none⟩=w.cell? ⟨g,o,none⟩:=λo=>World.cell?_of_block(w:=w)(HJ.out.2.below.block g(by have:=HT.out.2.2.2.1;omega))
    obtain⟨k0,k1,k2,k3,k4,k5,k6,k7,k8,k9,k10,k11⟩:wr.cell? ⟨g,off+qs.length*12,none⟩=some y0/\wr.cell? ⟨g,off+qs.length*12+1,none⟩=some y1/\wr.cell? ⟨g,off+qs.length*12+2,none⟩=some y2/\wr.cell? ⟨g,off+qs.length*12+3,none⟩=some y3/\wr.cell? ⟨g,off+qs.length*12+4,none⟩=some y4/\wr.cell? ⟨g,off+qs.length*12+5,none⟩=some y5/\wr.cell? ⟨g,off+qs.length*12+6,none⟩=some y6/\wr.cell? ⟨g,off+qs.length*12+7,none⟩=some y7/\wr.cell? ⟨g,off+qs.length*12+8,none⟩=some y8/\wr.cell? ⟨g,off+qs.length*12+9,none⟩=some y9/\wr.cell? ⟨g,off+qs.length*12+10,none⟩=some y10/\wr.cell? ⟨g,off+qs.length*12+11,none⟩=some y11:=⟨by rw [hcb];exact hrw 0(by simp),by rw [hcb];exact hrw 1(by simp),by rw [hcb];exact hrw 2(by simp),by rw [hcb];exact hrw 3(by simp),by rw [hcb];exact hrw 4(by simp),by rw [hcb];exact hrw 5(by simp),by rw [hcb];exact hrw 6(by simp),by rw [hcb];exact hrw 7(by simp),by rw [hcb];exact hrw 8(by simp),by rw [hcb];exact hrw 9(by simp),by rw [hcb];exact hrw 10(by simp),by rw [hcb];exact hrw 11(by simp)⟩
    have HK:Hid((wr.alloc(.cells #[.int .i64 0, .int .i64 0, .int .i64 0, .int .i64 0, .int .i64 0, .int .i64 0, .slice none 0 0, .slice none 0 0, .slice none 0 0, .slice none 0 0, .slice none 0 0, .slice none 0 0]32)).heap[wr.heap.size]? =some(.cells #[.int .i64 0, .int .i64 0, .int .i64 0, .int .i64 0, .int .i64 0, .int .i64 0, .slice none 0 0, .slice none 0 0, .slice none 0 0, .slice none 0 0, .slice none 0 0, .slice none 0 0]32(0,0))):=heap_alloc_new wr _;obtain⟨wa,hwa⟩: ∃z,(wr.alloc(.cells #[.int .i64 0, .int .i64 0, .int .i64 0, .int .i64 0, .int .i64 0, .int .i64 0, .slice none 0 0, .slice none 0 0, .slice none 0 0, .slice none 0 0, .slice none 0 0, .slice none 0 0]32)).setRow wr.heap.size #[y0,y1,y2,y3,y4,y5,y6,y7,y8,y9,y10,y11]=z:=⟨_,rfl⟩;have hma:wa.heap[wr.heap.size]? =some(.cells #[y0,y1,y2,y3,y4,y5,y6,y7,y8,y9,y10,y11]32(0,0)):=by rw [<-hwa];exact setRow_heap _ _ _ _ _ _ HK.out
    have Aa:Below wr.heap.size wr wa:=by
     rw [<-hwa];exact((Below.refl _ wr).alloc(Nat.le_refl _)_).trans⟨rfl,rfl,rfl,by simp [World.setRow],λk hk=>setRow_other _ _ _ _(by omega)⟩
    obtain⟨m0,m1,m2,m3,m4,m5,m6,m7,m8,m9,m10,m11⟩:wa.cell? ⟨wr.heap.size,0,none⟩=some y0/\wa.cell? ⟨wr.heap.size,1,none⟩=some y1/\wa.cell? ⟨wr.heap.size,2,none⟩=some y2/\wa.cell? ⟨wr.heap.size,3,none⟩=some y3/\wa.cell? ⟨wr.heap.size,4,none⟩=some y4/\wa.cell? ⟨wr.heap.size,5,none⟩=some y5/\wa.cell? ⟨wr.heap.size,6,none⟩=some y6/\wa.cell? ⟨wr.heap.size,7,none⟩=some y7/\wa.cell? ⟨wr.heap.size,8,none⟩=some y8/\wa.cell? ⟨wr.heap.size,9,none⟩=some y9/\wa.cell? ⟨wr.heap.size,10,none⟩=some y10/\wa.cell? ⟨wr.heap.size,11,none⟩=some y11:=by simp [World.cell?,hma]
    have RA:Hid(Ak.Rf w B e #[.int .i64 z0, .int .i64 z1, .int .i64 z2, .int .i64 z3, .int .i64 z4, .int .i64 z5, .slice a6 n6 c6, .slice a7 n7 c7, .slice(some⟨g,off,none⟩)n ck, .slice aa m ca, .slice a10 n10 c10, .slice a11 n11 c11]T V(.slice avk qs.length cvk)(.slice none 0 0)qs []wa):=HJ.out.2.step HT.out.2.2.2.1 Aa;have s0:wa.cell? ⟨w.heap.size+1+1,8,none⟩=some(.slice avk qs.length cvk):=by have h:=RA.out.var;rw [HT.out.2.2.2.2]at h;simp [World.cell?,h]
    have hxw:x.size<=100000:=by have h2:=T.size_eq;have:=HM.out.2.2.1;omega
    have HCALL:Hid(∀W:World,W.heap=wa.heap->W.os=wa.os/\W.tape=wa.tape/\W.output=wa.output->Calls Tryz.prog 12 #[.agg #[y0,y1,y2,y3,y4,y5,y6,y7,y8,y9,y10,y11]]W λe' w'=>
      ∃u0 u1 u2 u3 u4 u5 u6 u7 u8 u9 u10 u11 U',Ac.row x U'= #[u0,u1,u2,u3,u4,u5,u6,u7,u8,u9,u10,u11]/\(∀u∈ [u0,u1,u2,u3,u4,u5,u6,u7,u8,u9,u10,u11],u.oneCell'=true)/\e'= .returned(.agg #[u0,u1,u2,u3,u4,u5,u6,u7,u8,u9,u10,u11])/\Ak.Rf w B e #[.int .i64 z0, .int .i64 z1, .int .i64 z2, .int .i64 z3, .int .i64 z4, .int .i64 z5, .slice a6 n6 c6, .slice a7 n7 c7, .slice(some⟨g,off,none⟩)n ck, .slice aa m ca, .slice a10 n10 c10, .slice a11 n11 c11]T V(.slice avk qs.length cvk)(.slice none 0 0)qs []w'/\
       ∃d',Ac.LiesP w' B e(Ak.Far w.heap.size w'.heap.size(.slice avk qs.length cvk)(.slice none 0 0))d' U' x):=by
     intro W hh ho;have hbW:Below wa.heap.size wa W:=⟨ho.1,ho.2.1,ho.2.2,by rw [hh];exact Nat.le_refl _,λk _=>by rw [hh]⟩;have hsz:=RA.out.below.size;have h1:=HI.out B e x U W(by rw [hh];have:=HT.out.2.2.2.1;omega)(hlu.keep(λk hk=>by rw [hh];exact RA.out.below.block k(by have:=HT.out.2.2.2.1;omega)))hxw hxl;rw [hyr]at h1;refine h1.mono ?_;rintro e' w'⟨hb,U',d',rfl,hl⟩;refine⟨_,_,_,_,_,_,_,_,_,_,_,_,U',rfl,by simpa [Ac.row]using hl.ones,rfl,(RA.out.step HT.out.2.2.2.1 hbW).step HT.out.2.2.2.1 hb,d',hl.keep(λ_ _=>rfl)(λ_ _=>rfl)λk hk=>⟨?_,hk.2, ?_, ?_⟩⟩
     ·have:=RA.out.lt;have h5:=hk.1;rw [hh]at h5;omega
     ·intro e
      have:=(Ak.row_lt RA.out.ownK e).2;have h5:=hk.1;rw [hh]at h5;omega
     simp [Value.ownBlock]
    have HU:Hid(wa.os=wa.os/\wa.tape=wa.tape/\wa.output=wa.output):=⟨rfl,rfl,rfl⟩;have HX:Hid(T.ks[qs.length]=x):=hx;have HWA:Hid _:=hwa;have HON:Hid(#[y0,y1,y2,y3,y4,y5,y6,y7,y8,y9,y10,y11].all(·.oneCell')=true):=hone
    have F4:Hid(∀W4:World,Ak.Rf w B e #[.int .i64 z0, .int .i64 z1, .int .i64 z2, .int .i64 z3, .int .i64 z4, .int .i64 z5, .slice a6 n6 c6, .slice a7 n7 c7, .slice(some⟨g,off,none⟩)n ck, .slice aa m ca, .slice a10 n10 c10, .slice a11 n11 c11]T V(.slice avk qs.length cvk)(.slice none 0 0)qs []W4->W4.cell? ⟨w.heap.size+1+1,8,none⟩=some(.slice avk qs.length cvk)/\w.heap.size+3<=W4.heap.size/\ ∀o,(W4.alloc o).cell? ⟨w.heap.size+1+1,8,none⟩=some(.slice avk qs.length cvk)):=λW4 h=>by
     have h1:=h.var;rw [HT.out.2.2.2.2]at h1;refine⟨by simp [World.cell?,h1],h.lt,λo=> ?_⟩;have h2:=(h.step HT.out.2.2.2.1((Below.refl _ W4).alloc(Nat.le_refl _)o)).var;rw [HT.out.2.2.2.2]at h2;simp [World.cell?,h2]
    have F6:Hid(∀(W4 W6:World)(o:Obj),Ak.Rf w B e #[.int .i64 z0, .int .i64 z1, .int .i64 z2, .int .i64 z3, .int .i64 z4, .int .i64 z5, .slice a6 n6 c6, .slice a7 n7 c7, .slice(some⟨g,off,none⟩)n ck, .slice aa m ca, .slice a10 n10 c10, .slice a11 n11 c11]T V(.slice avk qs.length cvk)(.slice none 0 0)qs []W4->(W4.alloc o).grownBy W6(Value.slice avk qs.length cvk).ownBlock->W6.cell? ⟨w.heap.size+1+1,8,none⟩=some(.slice avk qs.length cvk)/\W6.frozen? ⟨w.heap.size+1+1,8,none⟩=false):=λW4 W6 o h hg6=>by
     have h1:=(h.step HT.out.2.2.2.1((Below.refl _ W4).alloc(Nat.le_refl _)o)).midK hg6;rw [HT.out.2.2.2.2]at h1;exact⟨by simp [World.cell?,h1],by simp [World.frozen?,h1]⟩
    have lg:g<wr.heap.size:=by have:=HJ.out.2.below.size;have:=HT.out.2.2.2.1;omega
    clear hcb hrw hlu hx hxs hxl hwa Aa hma hxw hyr hone
    go_upto_region 5 with(refine wpList_store_row rfl 32 _ _ rfl wr.heap.size #[y0,y1,y2,y3,y4,y5,y6,y7,y8,y9,y10,y11]rfl rfl 32 _ HK.out(by kernel_rfl)rfl HON.out ?_)
    rw [HWA.out];clear k0 k1 k2 k3 k4 k5 k6 k7 k8 k9 k10 k11 HK HON HWA
    go_region_law(first
     |(go_simp;go_at_call 12;refine Calls.mono(HCALL.out _ ?_ ?_) ?_;exact rfl;exact HU.out;rintro e' W4⟨u0,u1,u2,u3,u4,u5,u6,u7,u8,u9,u10,u11,U4,hu4,ho4,rfl,r4,l4⟩;obtain⟨t4,t5,t6⟩:=F4.out W4 r4)
     |((with_reducible refine Ak.at_op2(Op.call {callee:=Callee.builtin Builtin.append,args:= #[.tmp 31, .tmp 34],argTypes:= #[45,45]}) ?hop ?_);(case hop=>with_reducible rfl);go_loud(refine step_append_lies _ rfl(.tmp 31)(.tmp 34)45 rfl(w.heap.size+3)48 i1 _ 12 192 Tryz.underlying45 hi1 hx0 hx1 hx2 rfl(by decide)(.slice avk qs.length cvk)qs.length(Ak.kCells qs)(by simp [Act.eval])(by exact(r4.step HT.out.2.2.2.1((Below.refl _ W4).alloc(Nat.le_refl _)(.cells #[u0,u1,u2,u3,u4,u5,u6,u7,u8,u9,u10,u11]48))).ownK)⟨W4.heap.size,0,none⟩1 1 [u0,u1,u2,u3,u4,u5,u6,u7,u8,u9,u10,u11](by simp [Act.eval])rfl(by exact World.news_of_block(heap_alloc_new W4(.cells #[u0,u1,u2,u3,u4,u5,u6,u7,u8,u9,u10,u11]48)))(by exact ho4)(by decide)(by unfold maxLen;omega)(by omega)(by simp;omega)(W4.heap.size+1)(by simp) ?_);intro g6 c6' W6 o6 qq6 hg6 hl6;obtain⟨b0,b1⟩:=F6.out W4 W6 _ r4(by exact⟨qq6.os,qq6.tape,qq6.output,qq6.size,qq6.block⟩))
     |fail)
    all_goals
     have RN:Hid(Ak.Rf w B e #[.int .i64 z0, .int .i64 z1, .int .i64 z2, .int .i64 z3, .int .i64 z4, .int .i64 z5, .slice a6 n6 c6, .slice a7 n7 c7, .slice(some⟨g,off,none⟩)n ck, .slice aa m ca, .slice a10 n10 c10, .slice a11 n11 c11]T V(.slice(some⟨g6,0,none⟩)(qs.length+1)c6')(.slice none 0 0)(qs++ [(x,U4)]) [](W6.setCell⟨w.heap.size+1+1,8,none⟩(.slice(some⟨g6,0,none⟩)(qs.length+1)c6'))):=by
      have A4:Below W4.heap.size W4(W4.alloc(.cells #[u0,u1,u2,u3,u4,u5,u6,u7,u8,u9,u10,u11]48)):=(Below.refl _ W4).alloc(Nat.le_refl _)_;obtain⟨d',hl⟩:=l4;have hb4:=r4.below.size;exact Ak.Rf.kid(x:=x)(U:=U4)(H:=W4.heap.size+1)(r4.step HT.out.2.2.2.1 A4)HT.out.2.2.2.1⟨d',hl.keep(λk hk=>A4.block k(by have:=HT.out.2.2.2.1;omega))(λk hk=>A4.block k hk.2.1)λk hk=>⟨hk.1,Nat.lt_of_lt_of_le hk.2.1 A4.size,hk.2.2⟩⟩(by simp)(by rw [hu4];exact o6)⟨qq6.os,qq6.tape,qq6.output,qq6.size,qq6.block⟩hg6
     have HQ:Hid((qs++ [(x,U4)]).map(·.1)=T.ks.take(qs.length+1)):=by
      show _=_;rw [List.take_succ_eq_append_getElem hjk,List.map_append,HJ.out.1,HX.out];rfl
     clear r4 l4 t4 t5 t6 o6 qq6 hg6 hl6 b0 b1 hu4 ho4;go_wp2;go_roundg(gk-1)
     case measure=>omega
     case rel=>exact⟨qs.length+1,_,_,by omega,by go_num,by simp,HQ.out,RN.out⟩
   have hd:decide((qs.length:Int)<n)=false:=decide_eq_false(by omega);have hall:qs.map(·.1)=T.ks:=HJ.out.1.trans(List.take_of_length_le(by rw [HM.out.1];omega));have hlen:qs.length=n:=by rw [<-HM.out.1,<-hall];simp
   have HF0:Hid(Ak.Rf w B e #[.int .i64 z0, .int .i64 z1, .int .i64 z2, .int .i64 z3, .int .i64 z4, .int .i64 z5, .slice a6 n6 c6, .slice a7 n7 c7, .slice ak n ck, .slice aa m ca, .slice a10 n10 c10, .slice a11 n11 c11]T V(.slice avk qs.length cvk)(.slice none 0 0)qs []wr):=HJ.out.2;have HALL:Hid(qs.map(·.1)=T.ks/\qs.length=n):=⟨hall,hlen⟩;have q2:wr.cell? ⟨w.heap.size,9,none⟩=some(.slice aa m ca):=by have:=HF0.out.box;simp [World.cell?,this]
   clear hall hlen HJ hg;go_wp2
   go_loopg [7,41]m(λgg _ i wr=> ∃(k:Nat)(ys:List(Int×Int))(vb:Value),gg+k=m/\i= .int .i64 k/\ys.length=k/\Hid(ys=T.ls.take k/\Ak.Rf w B e #[.int .i64 z0, .int .i64 z1, .int .i64 z2, .int .i64 z3, .int .i64 z4, .int .i64 z5, .slice a6 n6 c6, .slice a7 n7 c7, .slice ak n ck, .slice aa m ca, .slice a10 n10 c10, .slice a11 n11 c11]T V(.slice avk qs.length cvk)vb qs ys wr))
   case atStart=>exact⟨0, [], .slice none 0 0,by omega,rfl,rfl,rfl,HF0.out⟩
   case round=>
    obtain⟨k,ys,vb,hg,rfl,hyl,HL⟩:=hrel;clear q2;subst hyl;obtain⟨av,cv,hva⟩:=Ak.own_shape HL.out.2.ownL;subst hva
    by_cases hk:ys.length<m
    rotate_left
    ·have hd2:decide((ys.length:Int)<m)=false:=decide_eq_false(by omega)
     have hall:ys=T.ls:=HL.out.1.trans(List.take_of_length_le(by rw [HM.out.2.1];omega));subst hall;have hu:=Tryz.underlying48;have HR:Hid(Ak.Rf w B e #[.int .i64 z0, .int .i64 z1, .int .i64 z2, .int .i64 z3, .int .i64 z4, .int .i64 z5, .slice a6 n6 c6, .slice a7 n7 c7, .slice ak n ck, .slice aa m ca, .slice a10 n10 c10, .slice a11 n11 c11]T V(.slice avk qs.length cvk)(.slice av T.ls.length cv)qs T.ls wr):=HL.out.2;have HEl:Hid(∃d',Ac.LiesP wr B e(λk=>w.heap.size+3<=k/\k<wr.heap.size)d'⟨V.t,V.c, .slice avk qs.length cvk, .slice av T.ls.length cv,V.n,V.f⟩T):=Ak.Rf.all HR.out HT.out.2.2.2.1 HALL.out.1 HT.out.2.2.1;have hv:=HR.out.var;have hr:=HR.out.res;rw [HT.out.2.2.2.2]at hv;have ir:(Tryz.prog.info? 48).map(·.size)=some(#[.int .i64 z0, .int .i64 z1, .int .i64 z2, .int .i64 z3, .int .i64 z4, .int .i64 z5, .slice a6 n6 c6, .slice a7 n7 c7, .slice avk qs.length cvk, .slice av T.ls.length cv, .slice a10 n10 c10, .slice a11 n11 c11]:Array Value).size:=Ak.rinfo;have or_:(#[.int .i64 z0, .int .i64 z1, .int .i64 z2, .int .i64 z3, .int .i64 z4, .int .i64 z5, .slice a6 n6 c6, .slice a7 n7 c7, .slice avk qs.length cvk, .slice av T.ls.length cv, .slice a10 n10 c10, .slice a11 n11 c11]:Array Value).all(·.oneCell')=true:=by simp [Value.oneCell']
     clear HL
     go_wp2_with(first
      |refine wpList_load_row rfl 48 _ rfl _ rfl 48 _(0,0)_ hv hu rfl ir ?_
      |refine wpList_store_row rfl 48 _ _ rfl(w.heap.size+1) #[.int .i64 z0, .int .i64 z1, .int .i64 z2, .int .i64 z3, .int .i64 z4, .int .i64 z5, .slice a6 n6 c6, .slice a7 n7 c7, .slice avk qs.length cvk, .slice av T.ls.length cv, .slice a10 n10 c10, .slice a11 n11 c11]rfl rfl 48 _ hr ir rfl or_ ?_)
     refine bodyPost_ret(v:= .agg #[.int .i64 z0, .int .i64 z1, .int .i64 z2, .int .i64 z3, .int .i64 z4, .int .i64 z5, .slice a6 n6 c6, .slice a7 n7 c7, .slice avk qs.length cvk, .slice av T.ls.length cv, .slice a10 n10 c10, .slice a11 n11 c11])(results_cell_row Tryz.results12 _ _(w.heap.size+1)48 #[.int .i64 z0, .int .i64 z1, .int .i64 z2, .int .i64 z3, .int .i64 z4, .int .i64 z5, .slice a6 n6 c6, .slice a7 n7 c7, .slice avk qs.length cvk, .slice av T.ls.length cv, .slice a10 n10 c10, .slice a11 n11 c11](0,0)_ rfl(setRow_heap _ _ _ _ _ _ hr)hu rfl ir)rfl⟨?_, ?_⟩
     ·exact Tk.below_row HR.out.below(by omega)_
     obtain⟨d',hl⟩:=HEl.out;refine⟨⟨V.t,V.c, .slice avk qs.length cvk, .slice av T.ls.length cv,V.n,V.f⟩,d',by rw [HT.out.2.2.2.2], ?_⟩;refine hl.keep(λk hk=>setRow_other _ _ _ _(by have:=HT.out.2.2.2.1;omega))(λk hk=>setRow_other _ _ _ _(by have:=hk.1;omega))λk hk=>⟨by have:=hk.1;omega,by have:=hk.2;simpa [World.setRow]using this⟩
    have hd2:decide((ys.length:Int)<m)=true:=decide_eq_true(by omega);have hkm:ys.length<T.ls.length:=by rw [HM.out.2.1];exact hk
    obtain⟨g,off,rfl,hgl,k0,k1⟩:=HAT.out ys.length hkm;obtain⟨x,hx⟩: ∃x,T.ls[ys.length]=x:=⟨_,rfl⟩;rw [hx]at k0 k1;have hgw:g<w.heap.size:=by have:=HT.out.2.2.2.1;omega
    have hcb: ∀o,wr.cell? ⟨g,o,none⟩=w.cell? ⟨g,o,none⟩:=λo=>World.cell?_of_block(w:=w)(HL.out.2.below.block g hgw);have hc0:wr.cell? ⟨g,off+ys.length*2,none⟩=some(.int .i64 x.1):=by rw [hcb];exact k0
    have hc1:wr.cell? ⟨g,off+ys.length*2+1,none⟩=some(.int .i64 x.2):=by rw [hcb];exact k1
    have hob:=HL.out.2.var;rw [HT.out.2.2.2.2]at hob;have co:wr.cell? ⟨w.heap.size+1+1,9,none⟩=some(.slice av ys.length cv):=by simp [World.cell?,hob]
    have hzf:=HL.out.2.lt;have HF1:=HL.out.2.step HT.out.2.2.2.1((Below.refl _ wr).alloc(Nat.le_refl _)(.cells #[.int .i64 x.1, .int .i64 x.2]80));have own3:=HF1.ownL;have HX:Hid(T.ls[ys.length]=x):=hx;have lg:g<wr.heap.size:=by omega
    clear k0 k1 hob hx hcb
    go_wp2_with(at_builtin;refine wpList_append_lies _ rfl _ _ 46 rfl(w.heap.size+3)83 i0 _ 2 16 Tryz.underlying46 hi hy0 hy1 hy2 rfl(by decide)_ _ _ rfl(own3.alloc _)⟨wr.heap.size+1,0,none⟩1 1 [.int .i64 x.1, .int .i64 x.2]rfl rfl ?c1 ?c2(by decide) ?c3 ?c4 ?c5(wr.heap.size+2) ?c6 ?_)
    case c1=>
     intro j u hj
     match j,hj with
     |0,hj=>simp at hj;subst hj;simp [Addr.add]
     |1,hj=>simp at hj;subst hj;simp [Addr.add]
    case c2=>intro u hu;simp at hu;rcases hu with rfl|rfl<;>rfl
    case c3=>unfold maxLen;omega
    case c4=>omega
    case c5=>simp;omega
    case c6=>simp
    intro g6 c6' W6 o6 q6 hg6 hl6;have HF2:=HF1.step HT.out.2.2.2.1((Below.refl _ _).alloc(Nat.le_refl _)(.cells #[.int .i64 x.1, .int .i64 x.2]83));have m6:=HF2.midL q6;rw [HT.out.2.2.2.2]at m6;have z6:w.heap.size+1+1<W6.heap.size:=(Array.getElem?_eq_some_iff.1 m6).1;have k60:W6.cell? ⟨w.heap.size+1+1,9,none⟩=some(.slice av ys.length cv):=by simp [World.cell?,m6]
    have k61:W6.frozen? ⟨w.heap.size+1+1,9,none⟩=false:=by simp [World.frozen?,m6]
    have P6:Hid(ys++ [x]=T.ls.take(ys.length+1)/\Ak.Rf w B e #[.int .i64 z0, .int .i64 z1, .int .i64 z2, .int .i64 z3, .int .i64 z4, .int .i64 z5, .slice a6 n6 c6, .slice a7 n7 c7, .slice ak n ck, .slice(some⟨g,off,none⟩)m ca, .slice a10 n10 c10, .slice a11 n11 c11]T V(.slice avk qs.length cvk)(.slice(some⟨g6,0,none⟩)(ys.length+1)c6')qs(ys++ [x])(W6.setCell⟨w.heap.size+1+1,9,none⟩(.slice(some⟨g6,0,none⟩)(ys.length+1)c6'))):=by
     refine⟨?_,Ak.Rf.link(H:=wr.heap.size+2)HF2 HT.out.2.2.2.1(by simp)o6 q6 hg6⟩;rw [List.take_succ_eq_append_getElem hkm,HX.out,<-HL.out.1]
    clear m6 o6 q6 own3 HF1 HF2 hg6 hl6;go_wp2;go_roundg(gk-1)
    case measure=>omega
    case rel=>exact⟨ys.length+1,_,_,by omega,by go_num,by simp,P6.out⟩
theorem Dd.ref_ctx2 {d e:Nat} {T:Ac} {V:Ac.Vs} {w:World} (hT:Ac.Lies w w.heap.size e d V T)(hsz:T.size<=600)(hS:T.All Dd.Small)(W:World)(hb:Below w.heap.size w W):
  Calls Tryz.prog 12 #[.agg(Ac.row T V)]W λe' w'=> ∃ys,e'= .returned(.agg ys)/\(Tryz.prog.info? 48).map(·.size)=some ys.size/\ys.size=12/\ys.all(·.oneCell')=true/\
   (∀X,Below w.heap.size w X->(∀k,W.heap.size<=k->k<w'.heap.size->X.heap[k]? =w'.heap[k]?)->w'.heap.size<=X.heap.size->Dd.RCtx X ys(Dd.webB T)T.ls(Dd.kkOf T))/\Below W.heap.size W w':=by
 refine Calls.mono(Ak.refC d w.heap.size e T V W hb.size(hT.keep hb.block)(by omega)(Ac.all_mono(λ_ h=>by have:=h.ll;omega)T hS)) ?_;rintro e' w'⟨hb',U,d',rfl,hl⟩;refine⟨Ac.row T U,rfl,Ak.rinfo,rfl,hl.ones,λX hX hk hs=> ?_,hb'⟩;have h1:=hb.size;have h2:=hb'.size;have hl':Ac.LiesP X w.heap.size e(λk=>W.heap.size<=k/\k<w'.heap.size)d' U T:=hl.keep(λk hk=>(hX.block k hk).trans((hb'.block k(by omega)).trans(hb.block k hk)).symm)(λk h=>hk k h.1 h.2)λ_ h=>h;exact Dd.rctx d' e T U X(hl'.lies(by omega)λk hk=>by omega)(by omega)(Ac.all_mono(λ_ h=>Dd.fit_of h)T hS)
structure Dd.LFr(w1 W6:World)(a p q v:Nat)(ys:Array Value)(s t:List Int)(W:World):Prop where
 bel:Below w1.heap.size w1 W
 kept: ∀k,a<=k->k<W6.heap.size->W.heap[k]? =W6.heap[k]?
 big:W6.heap.size<=W.heap.size
 yq:W.heap[q]? =some(.cells ys 48(0,0))
 sp:Dd.At W p s
 sv:Dd.RAt W v t
 lo:w1.heap.size<=p
 pa:p<a
 aw:a<=W6.heap.size
 bq:W6.heap.size<=q
 bv:W6.heap.size<=v
 qv:q≠v
section
variable {w1 W6 W W':World} {a p q v:Nat} {ys:Array Value} {s t r:List Int}
theorem Dd.LFr.step(h:Dd.LFr w1 W6 a p q v ys s t W)(hb:Below W.heap.size W W'):Dd.LFr w1 W6 a p q v ys s t W':=
 ⟨h.bel.trans(hb.mono h.bel.size),λk h1 h2=>(hb.block k(Nat.lt_of_lt_of_le h2 h.big)).trans(h.kept k h1 h2),Nat.le_trans h.big hb.size,(hb.block _(Array.getElem?_eq_some_iff.1 h.yq).1).trans h.yq,h.sp.below hb h.sp.lt,h.sv.below hb h.sv.lt,h.lo,h.pa,h.aw,h.bq,h.bv,h.qv⟩
theorem Dd.LFr.setP(h:Dd.LFr w1 W6 a p q v ys s t W)(hr:r.length=104):Dd.LFr w1 W6 a p q v ys r t(W.setRow p(Dd.row r)):=by
 have h1:=h.pa;have h2:=h.aw;have h3:=h.bq;have h4:=h.bv;have hz:(W.setRow p(Dd.row r)).heap.size=W.heap.size:=by have:=(Tk.below_row(Below.refl p W)(Nat.le_refl _)(Dd.row r)).size;simp [World.setRow]
 exact⟨Tk.below_row h.bel h.lo _,λk q1 q2=>(setRow_other _ _ _ _(by omega)).trans(h.kept k q1 q2),by rw [hz];exact h.big,(setRow_other _ _ _ _(by omega)).trans h.yq,h.sp.setRow hr,h.sv.keep(setRow_other _ _ _ _(by omega)),h.lo,h.pa,h.aw,h.bq,h.bv,h.qv⟩
theorem Dd.LFr.setV(h:Dd.LFr w1 W6 a p q v ys s t W)(hr:r.length=104):Dd.LFr w1 W6 a p q v ys s r(W.setRow v(Dd.row r)):=by
 have h1:=h.pa;have h2:=h.aw;have h3:=h.bq;have h4:=h.bv;have h5:=h.lo;have h6:=h.qv;have hz:(W.setRow v(Dd.row r)).heap.size=W.heap.size:=by simp [World.setRow]
 exact⟨Tk.below_row h.bel(by omega)_,λk q1 q2=>(setRow_other _ _ _ _(by omega)).trans(h.kept k q1 q2),by rw [hz];exact h.big,(setRow_other _ _ _ _(by omega)).trans h.yq,h.sp.keep(setRow_other _ _ _ _(by omega)),h.sv.setRow hr,h.lo,h.pa,h.aw,h.bq,h.bv,h.qv⟩
theorem Dd.LFr.range(h:Dd.LFr w1 W6 a p q v ys s t W):W.rangeAt q 0 ys.toList/\W.rangeAt p 0(Dd.ints s)/\W.rangeAt v 0(Dd.ints t):=by
 refine⟨λj x hx=> ?_,Dd.range_st h.sp,λj x hx=> ?_⟩
 ·rw [Nat.zero_add]
  simp only [World.cell?,h.yq];simpa using hx
 rw [Nat.zero_add];simp only [World.cell?,h.sv.h];simpa [Dd.row]using hx
end
theorem Dd.field_got {t:List Int} (h:t.length=104)(e:Int)(W:World):(Instr.field 59(.agg(Dd.row(t++ [e])))0).run Tryz.prog W= .ok(.agg(Dd.row t))W:=by
 have hx:(Dd.row(t++ [e])).extract 0(0+104)=Dd.row t:=by
  refine Array.ext' ?_;simp [Dd.row,Dd.ints,h]
 obtain⟨cs,hcs⟩: ∃z,Dd.row(t++ [e])=z:=⟨_,rfl⟩;rw [hcs]at hx⊢;rw [Nat.zero_add]at hx;simp [Instr.field,go_sem,part,asAgg,hx]
end Go.Proofs
namespace Go.Proofs
open Go.RowKit Go.ChangeShapes Go.WideShapes
theorem Dd.rst_eq_raw(s t:List Int)(hs:s.length=104)(ht:t.length=104)(W:World):(Op.equalIn 10000 53(.agg(Dd.row s))(.agg(Dd.row t))).run Tryz.prog W= .ok((List.range 40).all(λj=>decide(s.getD(0+j)0=t.getD(0+j)0))&&(List.range 64).all(λj=>decide(s.getD(40+j)0=t.getD(40+j)0)))W:=by
 show(Op.equalIn(9999+1)53 _ _).run Tryz.prog W=_;rw [run_equalIn_struct W 9999 _ _ _(by kernel_rfl)(by kernel_rfl)];have p0:(part 38(Dd.row s)0).run Tryz.prog W= .ok(.agg((Dd.row s).extract 0(0+40)))W:=Dd.part40 _ 0 W;have p1:(part 39(Dd.row s)40).run Tryz.prog W= .ok(.agg((Dd.row s).extract 40(40+64)))W:=Dd.part64 _ 40 W;have q0:(part 38(Dd.row t)0).run Tryz.prog W= .ok(.agg((Dd.row t).extract 0(0+40)))W:=Dd.part40 _ 0 W;have q1:(part 39(Dd.row t)40).run Tryz.prog W= .ok(.agg((Dd.row t).extract 40(40+64)))W:=Dd.part64 _ 40 W;have r0:=Dd.arr_eq40 9997((Dd.row s).extract 0(0+40))((Dd.row t).extract 0(0+40))(λj=>s.getD(0+j)0)(λj=>t.getD(0+j)0)W λj hj=>⟨Dd.row_extract hs 0 40 j hj(by omega),Dd.row_extract ht 0 40 j hj(by omega)⟩;have r1:=Dd.arr_eq64 9997((Dd.row s).extract 40(40+64))((Dd.row t).extract 40(40+64))(λj=>s.getD(40+j)0)(λj=>t.getD(40+j)0)W λj hj=>⟨Dd.row_extract hs 40 64 j hj(by omega),Dd.row_extract ht 40 64 j hj(by omega)⟩;obtain⟨e0,he0⟩: ∃z,((List.range 40).all λj=>decide(s.getD(0+j)0=t.getD(0+j)0))=z:=⟨_,rfl⟩;obtain⟨e1,he1⟩: ∃z,((List.range 64).all λj=>decide(s.getD(40+j)0=t.getD(40+j)0))=z:=⟨_,rfl⟩;rw [he0]at r0⊢;rw [he1]at r1⊢;obtain⟨cs,hcs⟩: ∃z,Dd.row s=z:=⟨_,rfl⟩;obtain⟨ct,hct⟩: ∃z,Dd.row t=z:=⟨_,rfl⟩;rw [hcs]at p0 p1 r0 r1⊢
 rw [hct]at q0 q1 r0 r1⊢;unfold Program.fieldsOf;rw [Tryz.underlying53];change(Op.eqFields 9999 cs ct(_::_:: [])).run Tryz.prog W=_;refine(Dd.eqFields_cons 9999 cs ct _ _ W _ _ e0(by decide)p0 q0 r0).trans ?_
 cases e0 with
 |false=>rfl
 |true=>
  rw [if_pos rfl];refine(Dd.eqFields_cons 9999 cs ct _ _ W _ _ e1(by decide)p1 q1 r1).trans ?_
  cases e1<;>rfl
theorem Dd.rst_eq(s t:List Int)(hs:s.length=104)(ht:t.length=104)(W:World):(Op.equalIn 10000 53(.agg(Dd.row s))(.agg(Dd.row t))).run Tryz.prog W= .ok(decide(s=t))W:=by
 rw [Dd.rst_eq_raw s t hs ht W]
 congr 1
 rw [Bool.eq_iff_iff,Bool.and_eq_true,decide_eq_true_iff,List.all_eq_true,List.all_eq_true]
 constructor
 ·rintro⟨h1,h2⟩
  refine Dd.ext hs ht λi hi=> ?_
  by_cases q:i<40
  ·have:=of_decide_eq_true(h1 i(List.mem_range.2 q))
   rwa [Nat.zero_add]at this
  have:=of_decide_eq_true(h2(i-40)(List.mem_range.2(by omega)))
  rwa [show 40+(i-40)=i by omega]at this
 rintro rfl;exact⟨λ_ _=>decide_eq_true rfl,λ_ _=>decide_eq_true rfl⟩
theorem Dd.rints_len {l:List Int} (h:l.length=104):(Tryz.prog.info? 53).map(·.size)=some(Dd.ints l).length:=by
 have:=Dd.rinfo_row h;rw [Dd.row_size]at this;rw [this];simp [Dd.ints]
end Go.Proofs
