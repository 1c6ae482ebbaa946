import Derived.Test.YtmomffminkflnaaGreatDoorRAcEq
import Derived.Deep.Slices
import Derived.Deep.OwnRows
import Derived.WalkMore
set_option maxRecDepth 100000
set_option maxHeartbeats 32000000
namespace Go.Proofs
open Go.RowKit Go.Shelf
def Ac.Same1(S T:Ac):Prop:=S.kind=T.kind/\S.node=T.node/\S.a=T.a/\S.b=T.b/\S.t=T.t/\S.cs=T.cs/\S.ls=T.ls/\S.ns=T.ns/\S.fs=T.fs
structure Ac.Fit(T:Ac):Prop where
 t:T.t.size<=2147483647/\T.t.depth<=1000
 c: ∀x∈T.cs,x.size<=2147483647/\x.depth<=1000
 n: ∀x∈T.ns,x.t.size<=2147483647/\x.t.depth<=1000
 f: ∀x∈T.fs,x.c.size<=2147483647/\x.c.depth<=1000
 cl:T.cs.length<=1000
 kl:T.ks.length<=1000
 ll:T.ls.length<=1000
 nl:T.ns.length<=100
 fl:T.fs.length<=100
theorem Ak.all_get {α:Type} {l m:List α} (h:l.length=m.length)(hj: ∀j,j<l.length->l[j]? =m[j]?):l=m:=by
 apply List.ext_getElem?;intro j
 rcases Nat.lt_or_ge j l.length with h1|h1
 ·exact hj j h1
 rw [List.getElem?_eq_none h1,List.getElem?_eq_none(by omega)]
theorem Tryz.condsEq_any(e e' B:Nat)(l m:List Tm)(a b:Option Addr)(ca cb:Nat)(w:World)(h1:Ac.Tms w B e a l)(h2:Ac.Tms w B e' b m)(hB:B<=w.heap.size)(h0:0<w.heap.size)(hs: ∀x∈l,x.size<=2147483647/\x.depth<=1000)(hn:l.length<=2147483647):
  Calls Tryz.prog 81 #[.slice a l.length ca, .slice b m.length cb, .func(.func 77) #[] #[]]w λe w'=>Ak.Told(l=m)e/\Below w.heap.size w w':=by
 have e1: ∀j,j<l.length-> ∃u:Value,∃g off,a=some⟨g,off,none⟩/\g<B/\w.cell? ⟨g,off+j*3,none⟩=some(.int .i64((l[j]?).getD(.mk 0 0 [])).op)/\w.cell? ⟨g,off+j*3+1,none⟩=some(.int .i64((l[j]?).getD(.mk 0 0 [])).num)/\w.cell? ⟨g,off+j*3+2,none⟩=some u/\Tm.Lies w B e u((l[j]?).getD(.mk 0 0 [])):=λj hj=>by
  obtain⟨g,off,u,h1,h2,h3,h4,h5,h6⟩:=h1 j hj;rw [List.getElem?_eq_getElem hj];exact⟨u,g,off,h1,h2,h3,h4,h5,h6⟩
 have e2: ∀j,j<m.length-> ∃u:Value,∃g off,b=some⟨g,off,none⟩/\g<B/\w.cell? ⟨g,off+j*3,none⟩=some(.int .i64((m[j]?).getD(.mk 0 0 [])).op)/\w.cell? ⟨g,off+j*3+1,none⟩=some(.int .i64((m[j]?).getD(.mk 0 0 [])).num)/\w.cell? ⟨g,off+j*3+2,none⟩=some u/\Tm.Lies w B e' u((m[j]?).getD(.mk 0 0 [])):=λj hj=>by
  obtain⟨g,off,u,h1,h2,h3,h4,h5,h6⟩:=h2 j hj;rw [List.getElem?_eq_getElem hj];exact⟨u,g,off,h1,h2,h3,h4,h5,h6⟩
 haveI:Inhabited Value:=⟨.bool false⟩
 obtain⟨u,hu⟩:=Go.Deep.choose_lt e1;obtain⟨v,hv⟩:=Go.Deep.choose_lt e2
 have key:=Tryz.eqTerm_any(B:=B)l.length m.length a b ca cb 77(λj=>l[j]? =m[j]?)(λj=> .int .i64((l[j]?).getD(.mk 0 0 [])).op)(λj=> .int .i64((l[j]?).getD(.mk 0 0 [])).num)u(λj=> .int .i64((m[j]?).getD(.mk 0 0 [])).op)(λj=> .int .i64((m[j]?).getD(.mk 0 0 [])).num)v w hB(enters_of Tryz.func77(by kernel_rfl)rfl)
  (λj hj=>by
   obtain⟨g,off,p1,p2,p3,p4,p5,p6⟩:=hu j hj;obtain⟨ua,uc,hus⟩:=p6.shape
   exact⟨g,off,p1,p2,⟨p3,p4,p5⟩,by rw [hus];simp [Value.oneCell']⟩)
  (λj hj=>by
   obtain⟨g,off,p1,p2,p3,p4,p5,p6⟩:=hv j hj;obtain⟨ua,uc,hus⟩:=p6.shape
   exact⟨g,off,p1,p2,⟨p3,p4,p5⟩,by rw [hus];simp [Value.oneCell']⟩)
  (λhlm j W hj hb=>by
   obtain⟨_,_,_,_,_,_,_,p6⟩:=hu j hj;obtain⟨_,_,_,_,_,_,_,q6⟩:=hv j(by omega);have hs1:=hs _(List.getElem_mem hj);rw [List.getElem?_eq_getElem hj,List.getElem?_eq_getElem(by omega:j<m.length)]at*;refine(Tryz.termSame_any e e' l[j]m[j](u j)(v j)W((p6.below(hb.mono hB)).wider(Nat.le_trans hB hb.size))((q6.below(hb.mono hB)).wider(Nat.le_trans hB hb.size))(by have:=hb.size;omega)hs1.1 hs1.2).mono λe w' h=>⟨?_,h.2⟩;obtain⟨r,hr1,hr2⟩:=h.1
   exact⟨r,hr1,by rw [hr2,Option.some.injEq]⟩)hn
 refine key.mono λe w' h=>⟨?_,h.2⟩;obtain⟨r,hr1,hr2⟩:=h.1;refine⟨r,hr1,hr2.trans⟨λh=>Ak.all_get h.1 h.2,λh=> ?_⟩⟩;subst h;exact⟨rfl,λ_ _=>rfl⟩
theorem Tryz.nodesEq_any(e e' B:Nat)(l m:List Nd)(a b:Option Addr)(ca cb:Nat)(w:World)(h1:Nt.Nds w B e a l)(h2:Nt.Nds w B e' b m)(hB:B<=w.heap.size)(h0:0<w.heap.size)(hs: ∀x∈l,x.t.size<=2147483647/\x.t.depth<=1000)(hn:l.length<=2147483647):
  Calls Tryz.prog 83 #[.slice a l.length ca, .slice b m.length cb, .func(.func 84) #[] #[]]w λe w'=>Ak.Told(l=m)e/\Below w.heap.size w w':=by
 have e1: ∀j,j<l.length-> ∃u:Value,∃g off,a=some⟨g,off,none⟩/\g<B/\w.cell? ⟨g,off+j*5,none⟩=some(.int .i64((l[j]?).getD⟨0,0, .mk 0 0 []⟩).kind)/\w.cell? ⟨g,off+j*5+1,none⟩=some(.int .i64((l[j]?).getD⟨0,0, .mk 0 0 []⟩).a)/\w.cell? ⟨g,off+j*5+2,none⟩=some(.int .i64((l[j]?).getD⟨0,0, .mk 0 0 []⟩).t.op)/\w.cell? ⟨g,off+j*5+3,none⟩=some(.int .i64((l[j]?).getD⟨0,0, .mk 0 0 []⟩).t.num)/\w.cell? ⟨g,off+j*5+4,none⟩=some(u)/\Tm.Lies w B e u((l[j]?).getD⟨0,0, .mk 0 0 []⟩).t:=λj hj=>by
  obtain⟨g,off,u,h1,h2,h3,h4,h5,h6,h7,h8⟩:=h1 j hj;rw [List.getElem?_eq_getElem hj];exact⟨u,g,off,h1,h2,h3,h4,h5,h6,h7,h8⟩
 have e2: ∀j,j<m.length-> ∃u:Value,∃g off,b=some⟨g,off,none⟩/\g<B/\w.cell? ⟨g,off+j*5,none⟩=some(.int .i64((m[j]?).getD⟨0,0, .mk 0 0 []⟩).kind)/\w.cell? ⟨g,off+j*5+1,none⟩=some(.int .i64((m[j]?).getD⟨0,0, .mk 0 0 []⟩).a)/\w.cell? ⟨g,off+j*5+2,none⟩=some(.int .i64((m[j]?).getD⟨0,0, .mk 0 0 []⟩).t.op)/\w.cell? ⟨g,off+j*5+3,none⟩=some(.int .i64((m[j]?).getD⟨0,0, .mk 0 0 []⟩).t.num)/\w.cell? ⟨g,off+j*5+4,none⟩=some(u)/\Tm.Lies w B e' u((m[j]?).getD⟨0,0, .mk 0 0 []⟩).t:=λj hj=>by
  obtain⟨g,off,u,h1,h2,h3,h4,h5,h6,h7,h8⟩:=h2 j hj;rw [List.getElem?_eq_getElem hj];exact⟨u,g,off,h1,h2,h3,h4,h5,h6,h7,h8⟩
 haveI:Inhabited Value:=⟨.bool false⟩
 obtain⟨u,hu⟩:=Go.Deep.choose_lt e1;obtain⟨v,hv⟩:=Go.Deep.choose_lt e2
 have key:=Tryz.eqNode_any(B:=B)l.length m.length a b ca cb 84(λj=>l[j]? =m[j]?)(λj=> .int .i64((l[j]?).getD⟨0,0, .mk 0 0 []⟩).kind)(λj=> .int .i64((l[j]?).getD⟨0,0, .mk 0 0 []⟩).a)(λj=> .int .i64((l[j]?).getD⟨0,0, .mk 0 0 []⟩).t.op)(λj=> .int .i64((l[j]?).getD⟨0,0, .mk 0 0 []⟩).t.num)u(λj=> .int .i64((m[j]?).getD⟨0,0, .mk 0 0 []⟩).kind)(λj=> .int .i64((m[j]?).getD⟨0,0, .mk 0 0 []⟩).a)(λj=> .int .i64((m[j]?).getD⟨0,0, .mk 0 0 []⟩).t.op)(λj=> .int .i64((m[j]?).getD⟨0,0, .mk 0 0 []⟩).t.num)v w hB(enters_of Tryz.func84(by kernel_rfl)rfl)
  (λj hj=>by
   obtain⟨g,off,p1,p2,p3,p4,p5,p6,p7,pz⟩:=hu j hj;obtain⟨ua,uc,hus⟩:=pz.shape
   exact⟨g,off,p1,p2,⟨p3,p4,p5,p6,p7⟩,by rw [hus];simp [Value.oneCell']⟩)
  (λj hj=>by
   obtain⟨g,off,p1,p2,p3,p4,p5,p6,p7,pz⟩:=hv j hj;obtain⟨ua,uc,hus⟩:=pz.shape
   exact⟨g,off,p1,p2,⟨p3,p4,p5,p6,p7⟩,by rw [hus];simp [Value.oneCell']⟩)
  (λhlm j W hj hb=>by
   obtain⟨_,_,_,_,_,_,_,_,_,p6⟩:=hu j hj;obtain⟨_,_,_,_,_,_,_,_,_,q6⟩:=hv j(by omega);have hs1:=hs _(List.getElem_mem hj);rw [List.getElem?_eq_getElem hj,List.getElem?_eq_getElem(by omega:j<m.length)]at*;refine(Tryz.sameNode_any e e' l[j]m[j](u j)(v j)W((p6.below(hb.mono hB)).wider(Nat.le_trans hB hb.size))((q6.below(hb.mono hB)).wider(Nat.le_trans hB hb.size))(by have:=hb.size;omega)hs1.1 hs1.2).mono λe w' h=>⟨?_,h.2⟩;obtain⟨r,hr1,hr2⟩:=h.1
   exact⟨r,hr1,by rw [hr2,Option.some.injEq]⟩)hn
 refine key.mono λe w' h=>⟨?_,h.2⟩;obtain⟨r,hr1,hr2⟩:=h.1;refine⟨r,hr1,hr2.trans⟨λh=>Ak.all_get h.1 h.2,λh=> ?_⟩⟩;subst h;exact⟨rfl,λ_ _=>rfl⟩
theorem Tryz.flowsEq_any(e e' B:Nat)(l m:List Fl)(a b:Option Addr)(ca cb:Nat)(w:World)(h1:Nt.Fls w B e a l)(h2:Nt.Fls w B e' b m)(hB:B<=w.heap.size)(h0:0<w.heap.size)(hs: ∀x∈l,x.c.size<=2147483647/\x.c.depth<=1000)(hn:l.length<=2147483647):
  Calls Tryz.prog 85 #[.slice a l.length ca, .slice b m.length cb, .func(.func 86) #[] #[]]w λe w'=>Ak.Told(l=m)e/\Below w.heap.size w w':=by
 have e1: ∀j,j<l.length-> ∃u:Value,∃g off,a=some⟨g,off,none⟩/\g<B/\w.cell? ⟨g,off+j*6,none⟩=some(.int .i64((l[j]?).getD⟨0,0,false, .mk 0 0 []⟩).fr)/\w.cell? ⟨g,off+j*6+1,none⟩=some(.int .i64((l[j]?).getD⟨0,0,false, .mk 0 0 []⟩).to)/\w.cell? ⟨g,off+j*6+2,none⟩=some(.bool((l[j]?).getD⟨0,0,false, .mk 0 0 []⟩).els)/\w.cell? ⟨g,off+j*6+3,none⟩=some(.int .i64((l[j]?).getD⟨0,0,false, .mk 0 0 []⟩).c.op)/\w.cell? ⟨g,off+j*6+4,none⟩=some(.int .i64((l[j]?).getD⟨0,0,false, .mk 0 0 []⟩).c.num)/\w.cell? ⟨g,off+j*6+5,none⟩=some(u)/\Tm.Lies w B e u((l[j]?).getD⟨0,0,false, .mk 0 0 []⟩).c:=λj hj=>by
  obtain⟨g,off,u,h1,h2,h3,h4,h5,h6,h7,h8,h9⟩:=h1 j hj;rw [List.getElem?_eq_getElem hj];exact⟨u,g,off,h1,h2,h3,h4,h5,h6,h7,h8,h9⟩
 have e2: ∀j,j<m.length-> ∃u:Value,∃g off,b=some⟨g,off,none⟩/\g<B/\w.cell? ⟨g,off+j*6,none⟩=some(.int .i64((m[j]?).getD⟨0,0,false, .mk 0 0 []⟩).fr)/\w.cell? ⟨g,off+j*6+1,none⟩=some(.int .i64((m[j]?).getD⟨0,0,false, .mk 0 0 []⟩).to)/\w.cell? ⟨g,off+j*6+2,none⟩=some(.bool((m[j]?).getD⟨0,0,false, .mk 0 0 []⟩).els)/\w.cell? ⟨g,off+j*6+3,none⟩=some(.int .i64((m[j]?).getD⟨0,0,false, .mk 0 0 []⟩).c.op)/\w.cell? ⟨g,off+j*6+4,none⟩=some(.int .i64((m[j]?).getD⟨0,0,false, .mk 0 0 []⟩).c.num)/\w.cell? ⟨g,off+j*6+5,none⟩=some(u)/\Tm.Lies w B e' u((m[j]?).getD⟨0,0,false, .mk 0 0 []⟩).c:=λj hj=>by
  obtain⟨g,off,u,h1,h2,h3,h4,h5,h6,h7,h8,h9⟩:=h2 j hj;rw [List.getElem?_eq_getElem hj];exact⟨u,g,off,h1,h2,h3,h4,h5,h6,h7,h8,h9⟩
 haveI:Inhabited Value:=⟨.bool false⟩
 obtain⟨u,hu⟩:=Go.Deep.choose_lt e1;obtain⟨v,hv⟩:=Go.Deep.choose_lt e2
 have key:=Tryz.eqFlow_any(B:=B)l.length m.length a b ca cb 86(λj=>l[j]? =m[j]?)(λj=> .int .i64((l[j]?).getD⟨0,0,false, .mk 0 0 []⟩).fr)(λj=> .int .i64((l[j]?).getD⟨0,0,false, .mk 0 0 []⟩).to)(λj=> .bool((l[j]?).getD⟨0,0,false, .mk 0 0 []⟩).els)(λj=> .int .i64((l[j]?).getD⟨0,0,false, .mk 0 0 []⟩).c.op)(λj=> .int .i64((l[j]?).getD⟨0,0,false, .mk 0 0 []⟩).c.num)u(λj=> .int .i64((m[j]?).getD⟨0,0,false, .mk 0 0 []⟩).fr)(λj=> .int .i64((m[j]?).getD⟨0,0,false, .mk 0 0 []⟩).to)(λj=> .bool((m[j]?).getD⟨0,0,false, .mk 0 0 []⟩).els)(λj=> .int .i64((m[j]?).getD⟨0,0,false, .mk 0 0 []⟩).c.op)(λj=> .int .i64((m[j]?).getD⟨0,0,false, .mk 0 0 []⟩).c.num)v w hB(enters_of Tryz.func86(by kernel_rfl)rfl)
  (λj hj=>by
   obtain⟨g,off,p1,p2,p3,p4,p5,p6,p7,p8,pz⟩:=hu j hj;obtain⟨ua,uc,hus⟩:=pz.shape
   exact⟨g,off,p1,p2,⟨p3,p4,p5,p6,p7,p8⟩,by rw [hus];simp [Value.oneCell']⟩)
  (λj hj=>by
   obtain⟨g,off,p1,p2,p3,p4,p5,p6,p7,p8,pz⟩:=hv j hj;obtain⟨ua,uc,hus⟩:=pz.shape
   exact⟨g,off,p1,p2,⟨p3,p4,p5,p6,p7,p8⟩,by rw [hus];simp [Value.oneCell']⟩)
  (λhlm j W hj hb=>by
   obtain⟨_,_,_,_,_,_,_,_,_,_,p6⟩:=hu j hj;obtain⟨_,_,_,_,_,_,_,_,_,_,q6⟩:=hv j(by omega);have hs1:=hs _(List.getElem_mem hj);rw [List.getElem?_eq_getElem hj,List.getElem?_eq_getElem(by omega:j<m.length)]at*;refine(Tryz.sameFlow_any e e' l[j]m[j](u j)(v j)W((p6.below(hb.mono hB)).wider(Nat.le_trans hB hb.size))((q6.below(hb.mono hB)).wider(Nat.le_trans hB hb.size))(by have:=hb.size;omega)hs1.1 hs1.2).mono λe w' h=>⟨?_,h.2⟩;obtain⟨r,hr1,hr2⟩:=h.1
   exact⟨r,hr1,by rw [hr2,Option.some.injEq]⟩)hn
 refine key.mono λe w' h=>⟨?_,h.2⟩;obtain⟨r,hr1,hr2⟩:=h.1;refine⟨r,hr1,hr2.trans⟨λh=>Ak.all_get h.1 h.2,λh=> ?_⟩⟩;subst h;exact⟨rfl,λ_ _=>rfl⟩
theorem Tryz.aalike_any(e e' B:Nat)(S T:Ac)(U V:Ac.Vs)(w:World)(hS:Ac.Own w B e U S)(hT:Ac.Own w B e' V T)(hB:B<=w.heap.size)(h0:0<w.heap.size)(hF:S.Fit):
  Calls Tryz.prog 65 #[.agg(Ac.row S U), .agg(Ac.row T V)]w λe w'=>Ak.Told(Ac.Same1 S T)e/\Below w.heap.size w w':=by
 have HP:Hid(Ac.Same1 S T↔S.kind=T.kind/\S.node=T.node/\S.a=T.a/\S.b=T.b/\S.t=T.t/\S.cs=T.cs/\S.ls=T.ls/\S.ns=T.ns/\S.fs=T.fs):=Iff.rfl;obtain⟨x6a,x6c,ex6⟩:=hS.t.shape;obtain⟨x7a,x7c,ex7,hx7⟩:=hS.c;obtain⟨x9a,x9c,ex9,hx9⟩:=hS.l;obtain⟨xAa,xAc,exA,hxA⟩:=hS.n;obtain⟨xBa,xBc,exB,hxB⟩:=hS.f;obtain⟨y6a,y6c,ey6⟩:=hT.t.shape;obtain⟨y7a,y7c,ey7,hy7⟩:=hT.c;obtain⟨y9a,y9c,ey9,hy9⟩:=hT.l;obtain⟨yAa,yAc,eyA,hyA⟩:=hT.n;obtain⟨yBa,yBc,eyB,hyB⟩:=hT.f;obtain⟨x8,ex8⟩: ∃z,U.k=z:=⟨_,rfl⟩;obtain⟨y8,ey8⟩: ∃z,V.k=z:=⟨_,rfl⟩;have hx6:=hS.t;have hy6:=hT.t;rw [ex6]at hx6;rw [ey6]at hy6
 have CT: ∀W,Below w.heap.size w W->Calls Tryz.prog 77 #[.agg #[.int .i64 S.t.op, .int .i64 S.t.num, .slice x6a S.t.ks.length x6c], .agg #[.int .i64 T.t.op, .int .i64 T.t.num, .slice y6a T.t.ks.length y6c]]W λe w'=>Ak.Told(S.t=T.t)e/\Below W.heap.size W w':=λW hb=>
  (Tryz.termSame_any e e' S.t T.t _ _ W((hx6.below(hb.mono hB)).wider(Nat.le_trans hB hb.size))((hy6.below(hb.mono hB)).wider(Nat.le_trans hB hb.size))(by have:=hb.size;omega)hF.t.1 hF.t.2).mono λ_ _ h=>⟨h.1,h.2⟩
 have CC: ∀W,Below w.heap.size w W->Calls Tryz.prog 81 #[.slice x7a S.cs.length x7c, .slice y7a T.cs.length y7c, .func(.func 77) #[] #[]]W λe w'=>Ak.Told(S.cs=T.cs)e/\Below W.heap.size W w':=λW hb=>
  (Tryz.condsEq_any e e' B S.cs T.cs x7a y7a x7c y7c W(hx7.keep(hb.mono hB).block)(hy7.keep(hb.mono hB).block)(Nat.le_trans hB hb.size)(by have:=hb.size;omega)hF.c(by have:=hF.cl;omega)).mono λ_ _ h=>⟨h.1,h.2⟩
 have CL: ∀W,Below w.heap.size w W->Calls Tryz.prog 82 #[.slice x9a S.ls.length x9c, .slice y9a T.ls.length y9c]W λe w'=>Ak.Told(S.ls=T.ls)e/\Below W.heap.size W w':=λW hb=>
  (Tryz.alinksEq_any S.ls T.ls x9a y9a x9c y9c B W(hx9.keep(hb.mono hB).block)(hy9.keep(hb.mono hB).block)(Nat.le_trans hB hb.size)(by have:=hF.ll;omega)).mono λ_ _ h=>⟨h.1,h.2⟩
 have CN: ∀W,Below w.heap.size w W->Calls Tryz.prog 83 #[.slice xAa S.ns.length xAc, .slice yAa T.ns.length yAc, .func(.func 84) #[] #[]]W λe w'=>Ak.Told(S.ns=T.ns)e/\Below W.heap.size W w':=λW hb=>
  (Tryz.nodesEq_any e e' B S.ns T.ns xAa yAa xAc yAc W(Ac.nds_keep hxA(hb.mono hB).block)(Ac.nds_keep hyA(hb.mono hB).block)(Nat.le_trans hB hb.size)(by have:=hb.size;omega)hF.n(by have:=hF.nl;omega)).mono λ_ _ h=>⟨h.1,h.2⟩
 have CF: ∀W,Below w.heap.size w W->Calls Tryz.prog 85 #[.slice xBa S.fs.length xBc, .slice yBa T.fs.length yBc, .func(.func 86) #[] #[]]W λe w'=>Ak.Told(S.fs=T.fs)e/\Below W.heap.size W w':=λW hb=>
  (Tryz.flowsEq_any e e' B S.fs T.fs xBa yBa xBc yBc W(Ac.fls_keep hxB(hb.mono hB).block)(Ac.fls_keep hyB(hb.mono hB).block)(Nat.le_trans hB hb.size)(by have:=hb.size;omega)hF.f(by have:=hF.fl;omega)).mono λ_ _ h=>⟨h.1,h.2⟩
 unfold Ac.row;rw [ex6,ex7,ex8,ex9,exA,exB,ey6,ey7,ey8,ey9,eyA,eyB];obtain⟨x0,hx_0⟩: ∃z,S.kind=z:=⟨_,rfl⟩;obtain⟨y0,hy_0⟩: ∃z,T.kind=z:=⟨_,rfl⟩;rw [hx_0,hy_0]at HP⊢;obtain⟨x1,hx_1⟩: ∃z,S.node=z:=⟨_,rfl⟩;obtain⟨y1,hy_1⟩: ∃z,T.node=z:=⟨_,rfl⟩;rw [hx_1,hy_1]at HP⊢;obtain⟨x2,hx_2⟩: ∃z,S.a=z:=⟨_,rfl⟩;obtain⟨y2,hy_2⟩: ∃z,T.a=z:=⟨_,rfl⟩;rw [hx_2,hy_2]at HP⊢;obtain⟨x3,hx_3⟩: ∃z,S.b=z:=⟨_,rfl⟩;obtain⟨y3,hy_3⟩: ∃z,T.b=z:=⟨_,rfl⟩;rw [hx_3,hy_3]at HP⊢;obtain⟨x4,hx_4⟩: ∃z,S.t.op=z:=⟨_,rfl⟩;obtain⟨x5,hx_5⟩: ∃z,S.t.num=z:=⟨_,rfl⟩;obtain⟨x6n,hx_6⟩: ∃z,S.t.ks.length=z:=⟨_,rfl⟩;rw [hx_4,hx_5,hx_6]at CT⊢;obtain⟨x7n,hx_7⟩: ∃z,S.cs.length=z:=⟨_,rfl⟩;rw [hx_7]at CC⊢;obtain⟨x9n,hx_9⟩: ∃z,S.ls.length=z:=⟨_,rfl⟩;rw [hx_9]at CL⊢;obtain⟨xAn,hx_A⟩: ∃z,S.ns.length=z:=⟨_,rfl⟩;rw [hx_A]at CN⊢;obtain⟨xBn,hx_B⟩: ∃z,S.fs.length=z:=⟨_,rfl⟩;rw [hx_B]at CF⊢;obtain⟨y4,hy_4⟩: ∃z,T.t.op=z:=⟨_,rfl⟩;obtain⟨y5,hy_5⟩: ∃z,T.t.num=z:=⟨_,rfl⟩;obtain⟨y6n,hy_6⟩: ∃z,T.t.ks.length=z:=⟨_,rfl⟩;rw [hy_4,hy_5,hy_6]at CT⊢;obtain⟨y7n,hy_7⟩: ∃z,T.cs.length=z:=⟨_,rfl⟩;rw [hy_7]at CC⊢;obtain⟨y9n,hy_9⟩: ∃z,T.ls.length=z:=⟨_,rfl⟩;rw [hy_9]at CL⊢;obtain⟨yAn,hy_A⟩: ∃z,T.ns.length=z:=⟨_,rfl⟩;rw [hy_A]at CN⊢
 obtain⟨yBn,hy_B⟩: ∃z,T.fs.length=z:=⟨_,rfl⟩;rw [hy_B]at CF⊢;have A2:Below w.heap.size w((w.alloc(.cells #[.int .i64 x0, .int .i64 x1, .int .i64 x2, .int .i64 x3, .int .i64 x4, .int .i64 x5, .slice x6a x6n x6c, .slice x7a x7n x7c,x8, .slice x9a x9n x9c, .slice xAa xAn xAc, .slice xBa xBn xBc]32)).alloc(.cells #[.int .i64 y0, .int .i64 y1, .int .i64 y2, .int .i64 y3, .int .i64 y4, .int .i64 y5, .slice y6a y6n y6c, .slice y7a y7n y7c,y8, .slice y9a y9n y9c, .slice yAa yAn yAc, .slice yBa yBn yBc]32)):=((Below.refl _ w).alloc(Nat.le_refl _)_).alloc(by simp)_
 have G2:((w.alloc(.cells #[.int .i64 x0, .int .i64 x1, .int .i64 x2, .int .i64 x3, .int .i64 x4, .int .i64 x5, .slice x6a x6n x6c, .slice x7a x7n x7c,x8, .slice x9a x9n x9c, .slice xAa xAn xAc, .slice xBa xBn xBc]32)).alloc(.cells #[.int .i64 y0, .int .i64 y1, .int .i64 y2, .int .i64 y3, .int .i64 y4, .int .i64 y5, .slice y6a y6n y6c, .slice y7a y7n y7c,y8, .slice y9a y9n y9c, .slice yAa yAn yAc, .slice yBa yBn yBc]32)).heap[w.heap.size+1]? =some(.cells #[.int .i64 y0, .int .i64 y1, .int .i64 y2, .int .i64 y3, .int .i64 y4, .int .i64 y5, .slice y6a y6n y6c, .slice y7a y7n y7c,y8, .slice y9a y9n y9c, .slice yAa yAn yAc, .slice yBa yBn yBc]32(0,0)):=by
  have:=heap_alloc_new(w.alloc(.cells #[.int .i64 x0, .int .i64 x1, .int .i64 x2, .int .i64 x3, .int .i64 x4, .int .i64 x5, .slice x6a x6n x6c, .slice x7a x7n x7c,x8, .slice x9a x9n x9c, .slice xAa xAn xAc, .slice xBa xBn xBc]32))(.cells #[.int .i64 y0, .int .i64 y1, .int .i64 y2, .int .i64 y3, .int .i64 y4, .int .i64 y5, .slice y6a y6n y6c, .slice y7a y7n y7c,y8, .slice y9a y9n y9c, .slice yAa yAn yAc, .slice yBa yBn yBc]32);simpa using this
 have G1:((w.alloc(.cells #[.int .i64 x0, .int .i64 x1, .int .i64 x2, .int .i64 x3, .int .i64 x4, .int .i64 x5, .slice x6a x6n x6c, .slice x7a x7n x7c,x8, .slice x9a x9n x9c, .slice xAa xAn xAc, .slice xBa xBn xBc]32)).alloc(.cells #[.int .i64 y0, .int .i64 y1, .int .i64 y2, .int .i64 y3, .int .i64 y4, .int .i64 y5, .slice y6a y6n y6c, .slice y7a y7n y7c,y8, .slice y9a y9n y9c, .slice yAa yAn yAc, .slice yBa yBn yBc]32)).heap[w.heap.size]? =some(.cells #[.int .i64 x0, .int .i64 x1, .int .i64 x2, .int .i64 x3, .int .i64 x4, .int .i64 x5, .slice x6a x6n x6c, .slice x7a x7n x7c,x8, .slice x9a x9n x9c, .slice xAa xAn xAc, .slice xBa xBn xBc]32(0,0)):=by
  rw [Below.heap_alloc _ _ _(by simp)];exact heap_alloc_new _ _
 obtain⟨w2,hw2⟩: ∃z,((w.alloc(.cells #[.int .i64 x0, .int .i64 x1, .int .i64 x2, .int .i64 x3, .int .i64 x4, .int .i64 x5, .slice x6a x6n x6c, .slice x7a x7n x7c,x8, .slice x9a x9n x9c, .slice xAa xAn xAc, .slice xBa xBn xBc]32)).alloc(.cells #[.int .i64 y0, .int .i64 y1, .int .i64 y2, .int .i64 y3, .int .i64 y4, .int .i64 y5, .slice y6a y6n y6c, .slice y7a y7n y7c,y8, .slice y9a y9n y9c, .slice yAa yAn yAc, .slice yBa yBn yBc]32))=z:=⟨_,rfl⟩;rw [hw2]at A2 G1 G2;have HW:Hid(((w.alloc(.cells #[.int .i64 x0, .int .i64 x1, .int .i64 x2, .int .i64 x3, .int .i64 x4, .int .i64 x5, .slice x6a x6n x6c, .slice x7a x7n x7c,x8, .slice x9a x9n x9c, .slice xAa xAn xAc, .slice xBa xBn xBc]32)).alloc(.cells #[.int .i64 y0, .int .i64 y1, .int .i64 y2, .int .i64 y3, .int .i64 y4, .int .i64 y5, .slice y6a y6n y6c, .slice y7a y7n y7c,y8, .slice y9a y9n y9c, .slice yAa yAn yAc, .slice yBa yBn yBc]32))=w2):=hw2
 have cAll: ∀W,Below w2.heap.size w2 W->W.cell? ⟨w.heap.size,0,none⟩=some(.int .i64 x0)/\W.cell? ⟨w.heap.size,1,none⟩=some(.int .i64 x1)/\W.cell? ⟨w.heap.size,2,none⟩=some(.int .i64 x2)/\W.cell? ⟨w.heap.size,3,none⟩=some(.int .i64 x3)/\W.cell? ⟨w.heap.size,4,none⟩=some(.int .i64 x4)/\W.cell? ⟨w.heap.size,5,none⟩=some(.int .i64 x5)/\W.cell? ⟨w.heap.size,6,none⟩=some(.slice x6a x6n x6c)/\W.cell? ⟨w.heap.size,7,none⟩=some(.slice x7a x7n x7c)/\W.cell? ⟨w.heap.size,9,none⟩=some(.slice x9a x9n x9c)/\W.cell? ⟨w.heap.size,10,none⟩=some(.slice xAa xAn xAc)/\W.cell? ⟨w.heap.size,11,none⟩=some(.slice xBa xBn xBc)/\W.cell? ⟨w.heap.size+1,0,none⟩=some(.int .i64 y0)/\W.cell? ⟨w.heap.size+1,1,none⟩=some(.int .i64 y1)/\W.cell? ⟨w.heap.size+1,2,none⟩=some(.int .i64 y2)/\W.cell? ⟨w.heap.size+1,3,none⟩=some(.int .i64 y3)/\W.cell? ⟨w.heap.size+1,4,none⟩=some(.int .i64 y4)/\W.cell? ⟨w.heap.size+1,5,none⟩=some(.int .i64 y5)/\W.cell? ⟨w.heap.size+1,6,none⟩=some(.slice y6a y6n y6c)/\W.cell? ⟨w.heap.size+1,7,none⟩=some(.slice y7a y7n y7c)/\W.cell? ⟨w.heap.size+1,9,none⟩=some(.slice y9a y9n y9c)/\W.cell? ⟨w.heap.size+1,10,none⟩=some(.slice yAa yAn yAc)/\W.cell? ⟨w.heap.size+1,11,none⟩=some(.slice yBa yBn yBc):=λW hb=>by
  have g1:=(hb.block _(Array.getElem?_eq_some_iff.1 G1).1).trans G1;have g2:=(hb.block _(Array.getElem?_eq_some_iff.1 G2).1).trans G2;simp [World.cell?,g1,g2]
 have HCT:Hid _:=CT;have HCC:Hid _:=CC;have HCL:Hid _:=CL;have HCN:Hid _:=CN;have HCF:Hid _:=CF;have HA:Hid(Below w.heap.size w w2):=A2;have HCA:Hid _:=cAll;have HBB:Hid(∀W,Below w2.heap.size w2 W->Below w.heap.size w W):=λW hb=>A2.trans(hb.mono A2.size);obtain⟨a0,a1,a2,a3,a4,a5,a6,a7,a8,a9,a10,b0,b1,b2,b3,b4,b5,b6,b7,b8,b9,b10⟩:=cAll w2(Below.refl _ _);rw [<-hw2]at a0 a1 a2 a3 a4 a5 a6 a7 a8 a9 a10 b0 b1 b2 b3 b4 b5 b6 b7 b8 b9 b10;clear CT CC CL CN CF A2 G1 G2 cAll hw2 hS hT hF ex6 ey6 ex7 ey7 ex8 ey8 ex9 ey9 exA eyA exB eyB hx6 hy6 hx7 hy7 hx9 hy9 hxA hyA hxB hyB hx_0 hy_0 hx_1 hy_1 hx_2 hy_2 hx_3 hy_3 hx_4 hy_4 hx_5 hy_5 hx_6 hy_6 hx_7 hy_7 hx_9 hy_9 hx_A hy_A hx_B hy_B hB h0
 by_cases q0: ¬x0=y0
 ·have d0:(x0==y0)=false:=by simpa using q0
  have HN:Hid(¬Ac.Same1 S T):=λh=>q0(HP.out.1 h).1;clear q0
  go_enter Tryz.func65,Tryz.ntmps65
  go_wp2;go_ret;exact⟨Ak.Told.no HN.out,by first|exact HA.out|(rw [HW.out];exact HA.out)⟩
 replace q0:=Decidable.not_not.1 q0;have d0:(x0==y0)=true:=by simpa using q0
 have Q0:Hid(x0=y0):=q0;clear q0
 by_cases q1: ¬x1=y1
 ·have d1:(x1==y1)=false:=by simpa using q1
  have HN:Hid(¬Ac.Same1 S T):=λh=>q1(HP.out.1 h).2.1;clear q1
  go_enter Tryz.func65,Tryz.ntmps65
  go_wp2;go_ret;exact⟨Ak.Told.no HN.out,by first|exact HA.out|(rw [HW.out];exact HA.out)⟩
 replace q1:=Decidable.not_not.1 q1;have d1:(x1==y1)=true:=by simpa using q1
 have Q1:Hid(x1=y1):=q1;clear q1
 by_cases q2: ¬x2=y2
 ·have d2:(x2==y2)=false:=by simpa using q2
  have HN:Hid(¬Ac.Same1 S T):=λh=>q2(HP.out.1 h).2.2.1;clear q2
  go_enter Tryz.func65,Tryz.ntmps65
  go_wp2;go_ret;exact⟨Ak.Told.no HN.out,by first|exact HA.out|(rw [HW.out];exact HA.out)⟩
 replace q2:=Decidable.not_not.1 q2;have d2:(x2==y2)=true:=by simpa using q2
 have Q2:Hid(x2=y2):=q2;clear q2
 by_cases q3: ¬x3=y3
 ·have d3:(x3==y3)=false:=by simpa using q3
  have HN:Hid(¬Ac.Same1 S T):=λh=>q3(HP.out.1 h).2.2.2.1;clear q3
  go_enter Tryz.func65,Tryz.ntmps65
  go_wp2;go_ret;exact⟨Ak.Told.no HN.out,by first|exact HA.out|(rw [HW.out];exact HA.out)⟩
 replace q3:=Decidable.not_not.1 q3;have d3:(x3==y3)=true:=by simpa using q3
 have Q3:Hid(x3=y3):=q3;clear q3
 go_enter Tryz.func65,Tryz.ntmps65
 go_wp2_with fail
 rw [HW.out];have B00:Hid(Below w2.heap.size w2 w2):=Below.refl _ _;clear a0 a1 a2 a3 a4 a5 a6 a7 a8 a9 a10 b0 b1 b2 b3 b4 b5 b6 b7 b8 b9 b10;refine Calls.mono(HCT.out _(HBB.out _ B00.out)) ?_;rintro e X0⟨⟨r0,rfl,hr0⟩,hb0⟩;have B0:Hid(Below w2.heap.size w2 X0):=B00.out.trans(hb0.mono B00.out.size);have R0:Hid(r0=true↔S.t=T.t):=hr0;clear hr0 hb0
 cases r0 with
 |false=>
  go_wp2;go_ret;refine⟨Ak.Told.no λh=> ?_,HBB.out _ B0.out⟩;have:=R0.out.2(HP.out.1 h).2.2.2.2.1;simp at this
 |true=>
 replace R0:Hid(S.t=T.t):=R0.out.1(by first|rfl|trivial);obtain⟨a0,a1,a2,a3,a4,a5,a6,a7,a8,a9,a10,b0,b1,b2,b3,b4,b5,b6,b7,b8,b9,b10⟩:=HCA.out X0 B0.out;clear a0 a1 a2 a3 a4 a5 a6 a8 a9 a10 b0 b1 b2 b3 b4 b5 b6 b8 b9 b10
 go_wp2_with fail
 clear a7 b7;refine Calls.mono(HCC.out _(HBB.out _ B0.out)) ?_;rintro e X1⟨⟨r1,rfl,hr1⟩,hb1⟩;have B1:Hid(Below w2.heap.size w2 X1):=B0.out.trans(hb1.mono B0.out.size);have R1:Hid(r1=true↔S.cs=T.cs):=hr1;clear hr1 hb1
 cases r1 with
 |false=>
  go_wp2;go_ret;refine⟨Ak.Told.no λh=> ?_,HBB.out _ B1.out⟩;have:=R1.out.2(HP.out.1 h).2.2.2.2.2.1;simp at this
 |true=>
 replace R1:Hid(S.cs=T.cs):=R1.out.1(by first|rfl|trivial);obtain⟨a0,a1,a2,a3,a4,a5,a6,a7,a8,a9,a10,b0,b1,b2,b3,b4,b5,b6,b7,b8,b9,b10⟩:=HCA.out X1 B1.out;clear a0 a1 a2 a3 a4 a5 a6 a7 a9 a10 b0 b1 b2 b3 b4 b5 b6 b7 b9 b10
 go_wp2_with fail
 clear a8 b8;refine Calls.mono(HCL.out _(HBB.out _ B1.out)) ?_;rintro e X2⟨⟨r2,rfl,hr2⟩,hb2⟩;have B2:Hid(Below w2.heap.size w2 X2):=B1.out.trans(hb2.mono B1.out.size);have R2:Hid(r2=true↔S.ls=T.ls):=hr2;clear hr2 hb2
 cases r2 with
 |false=>
  go_wp2;go_ret;refine⟨Ak.Told.no λh=> ?_,HBB.out _ B2.out⟩;have:=R2.out.2(HP.out.1 h).2.2.2.2.2.2.1;simp at this
 |true=>
 replace R2:Hid(S.ls=T.ls):=R2.out.1(by first|rfl|trivial);obtain⟨a0,a1,a2,a3,a4,a5,a6,a7,a8,a9,a10,b0,b1,b2,b3,b4,b5,b6,b7,b8,b9,b10⟩:=HCA.out X2 B2.out;clear a0 a1 a2 a3 a4 a5 a6 a7 a8 a10 b0 b1 b2 b3 b4 b5 b6 b7 b8 b10
 go_wp2_with fail
 clear a9 b9;refine Calls.mono(HCN.out _(HBB.out _ B2.out)) ?_;rintro e X3⟨⟨r3,rfl,hr3⟩,hb3⟩;have B3:Hid(Below w2.heap.size w2 X3):=B2.out.trans(hb3.mono B2.out.size);have R3:Hid(r3=true↔S.ns=T.ns):=hr3;clear hr3 hb3
 cases r3 with
 |false=>
  go_wp2;go_ret;refine⟨Ak.Told.no λh=> ?_,HBB.out _ B3.out⟩;have:=R3.out.2(HP.out.1 h).2.2.2.2.2.2.2.1;simp at this
 |true=>
 replace R3:Hid(S.ns=T.ns):=R3.out.1(by first|rfl|trivial);obtain⟨a0,a1,a2,a3,a4,a5,a6,a7,a8,a9,a10,b0,b1,b2,b3,b4,b5,b6,b7,b8,b9,b10⟩:=HCA.out X3 B3.out;clear a0 a1 a2 a3 a4 a5 a6 a7 a8 a9 b0 b1 b2 b3 b4 b5 b6 b7 b8 b9
 go_wp2_with fail
 clear a10 b10;refine Calls.mono(HCF.out _(HBB.out _ B3.out)) ?_;rintro e X4⟨⟨r4,rfl,hr4⟩,hb4⟩;have B4:Hid(Below w2.heap.size w2 X4):=B3.out.trans(hb4.mono B3.out.size);have R4:Hid(r4=true↔S.fs=T.fs):=hr4;clear hr4 hb4;go_wp2;go_ret;refine⟨Ak.Told.iff(R4.out.trans⟨λh=>HP.out.2⟨Q0.out,Q1.out,Q2.out,Q3.out,R0.out,R1.out,R2.out,R3.out,h⟩,λh=>(HP.out.1 h).2.2.2.2.2.2.2.2⟩),HBB.out _ B4.out⟩
end Go.Proofs
namespace Go.Proofs
def Rk.freeB(es:List(Nat×Nat))(tk:List Bool)(i:Nat):Bool:= !(es.any λe=>decide(e.2=i)&& !(tk[e.1]?.getD false))
def Rk.nextB(es:List(Nat×Nat))(tk:List Bool)(i:Nat):Bool:= !(tk[i]?.getD false)&&Rk.freeB es tk i
def Rk.go(n:Nat)(es:List(Nat×Nat)):Nat->List Bool->List Nat->List Nat
 |0,_,o=>o
 |k+1,tk,o=>match(List.range n).find? (Rk.nextB es tk)with
  |none=>o
  |some i=>Rk.go n es k(tk.set i true)(o++ [i])
def Rk.order(n:Nat)(es:List(Nat×Nat)):List Nat:=Rk.go n es n(List.replicate n false) []
structure Rk.Took(n:Nat)(es:List(Nat×Nat))(tk:List Bool)(o:List Nat):Prop where
 len:tk.length=n
 mem: ∀i,Rk.on tk i↔i∈o
 nodup:o.Nodup
 lt: ∀i,i∈o->i<n
 ahead: ∀e,e∈es-> ∀j:Nat,o[j]? =some e.2-> ∃k:Nat,k<j/\o[k]? =some e.1
 left:Rk.left tk+o.length=n
def Rq.Bits(w:World)(g:Nat)(bs:List Bool):Prop:=w.heap[g]? =some(.cells(bs.map Value.bool).toArray 4(0,0))
theorem Rq.Bits.lt {w:World} {g:Nat} {bs:List Bool} (h:Rq.Bits w g bs):g<w.heap.size:=(Array.getElem?_eq_some_iff.1 h).1
theorem Rq.Bits.cell {w:World} {g:Nat} {bs:List Bool} (h:Rq.Bits w g bs)(j:Nat)(b:Bool)(hj:bs[j]? =some b):w.cell? ⟨g,j,none⟩=some(.bool b):=by
 unfold Rq.Bits at h;simp [World.cell?,h,hj]
theorem Rq.Bits.frozen {w:World} {g:Nat} {bs:List Bool} (h:Rq.Bits w g bs)(j:Nat):w.frozen? ⟨g,j,none⟩=false:=by
 unfold Rq.Bits at h;simp [World.frozen?,h]
theorem Rq.Bits.put {w:World} {g:Nat} {bs:List Bool} (h:Rq.Bits w g bs)(j:Nat)(b:Bool):Rq.Bits(w.setCell⟨g,j,none⟩(.bool b))g(bs.set j b):=by
 unfold Rq.Bits at*;simp [World.setCell,Array.getElem?_modify,h]
theorem Rq.Bits.keep {w w':World} {g:Nat} {bs:List Bool} (h:Rq.Bits w g bs)(hk:w'.heap[g]? =w.heap[g]?):Rq.Bits w' g bs:=by unfold Rq.Bits;rw [hk];exact h
theorem Rq.Bits.below {w w':World} {g B:Nat} {bs:List Bool} (h:Rq.Bits w g bs)(hb:Below B w w')(hg:g<B):Rq.Bits w' g bs:=h.keep(hb.block g hg)
def Rk.Eds(w:World)(B:Nat)(a:Option Addr)(es:List(Int×Int)):Prop:=
 ∀j(h:j<es.length),∃g off,a=some⟨g,off,none⟩/\g<B/\w.cell? ⟨g,off+j*2,none⟩=some(.int .i64 es[j].1)/\w.cell? ⟨g,off+j*2+1,none⟩=some(.int .i64 es[j].2)
theorem Rk.Eds.below {w w':World} {B:Nat} {a:Option Addr} {es:List(Int×Int)} (h:Rk.Eds w B a es)(hb:Below B w w'):Rk.Eds w' B a es:=λj hj=>by
 obtain⟨g,off,h1,h2,h3,h4⟩:=h j hj;exact⟨g,off,h1,h2,by rw [hb.cell(p:=⟨g,off+j*2,none⟩)h2];exact h3,by rw [hb.cell(p:=⟨g,off+j*2+1,none⟩)h2];exact h4⟩
theorem Rk.Eds.wider {w:World} {B B':Nat} {a:Option Addr} {es:List(Int×Int)} (h:Rk.Eds w B a es)(hB:B<=B'):Rk.Eds w B' a es:=λj hj=>by
 obtain⟨g,off,h1,h2,h3⟩:=h j hj;exact⟨g,off,h1,by omega,h3⟩
def Rk.up(es:List(Nat×Nat)):List(Int×Int):=es.map λe=>((e.1:Int),(e.2:Int))
theorem Rk.up_length(es:List(Nat×Nat)):(Rk.up es).length=es.length:=by simp [Rk.up]
theorem Rk.up_get(es:List(Nat×Nat))(j:Nat)(h:j<(Rk.up es).length):(Rk.up es)[j]=(((es[j]'(by simpa [Rk.up]using h)).1:Int),((es[j]'(by simpa [Rk.up]using h)).2:Int)):=by simp [Rk.up]
def Rk.Pred(g:Nat)(lb:Array Value)(p:Int×Int->Bool)(es:List(Int×Int))(w:World):Prop:=
 ∀(W:World)(x y:Int),(x,y)∈es->Below w.heap.size w W->Calls Tryz.prog g(#[.agg #[.int .i64 x, .int .i64 y]]++lb)W λe w'=>e= .returned(.bool(p(x,y)))/\Below w.heap.size w w'
theorem Tryz.index_any(p:Int×Int->Bool)(g:Nat)(lb:Array Value)(eg: ∀args w,(callFunc g args).run Tryz.prog w= .ok(.enter g args)w)(a:Option Addr)(c:Nat)(es:List(Int×Int))(w:World)
  (hp:Rk.Pred g lb p es w)(hE:Rk.Eds w w.heap.size a es)(hn:es.length<=1000000000000000):
  Calls Tryz.prog 149 #[.slice a es.length c, .func(.func g) #[]lb]w λe w'=>(∃k:Int,e= .returned(.int .i64 k)/\decide(0<=k)=es.any p)/\Below w.heap.size w w':=by
 obtain⟨n,hnn⟩: ∃n,es.length=n:=⟨_,rfl⟩;rw [hnn]at hn⊢;have HP:Hid(Rk.Pred g lb p es w):=hp;have HE:Hid(Rk.Eds w w.heap.size a es/\es.length=n):=⟨hE,hnn⟩;clear hp hE hnn
 go_enter Tryz.func149,Tryz.ntmps149
 go_wp2
 go_loopg [5,8]n(λgk _ s8 wr=> ∃k:Nat,gk+k=n/\s8= .int .i64 k/\Hid(Below w.heap.size w wr/\(es.take k).any p=false))
 case atStart=>exact⟨0,by omega,rfl,Below.refl _ w,by simp⟩
 case round=>
  obtain⟨k,hk,rfl,HB⟩:=hrel
  by_cases hlt:k<n
  rotate_left
  ·have hd:decide((k:Int)<n)=false:=decide_eq_false(by omega)
   go_wp2;go_ret;refine⟨⟨-1,rfl, ?_⟩,HB.out.1⟩;have:=HB.out.2;rw [List.take_of_length_le(by rw [HE.out.2];omega)]at this;rw [this];rfl
  have hd:decide((k:Int)<n)=true:=decide_eq_true(by omega);have hkl:k<es.length:=by rw [HE.out.2];exact hlt
  obtain⟨q,off,rfl,hq,h0,h1⟩:=HE.out.1 k hkl;obtain⟨x,hx⟩: ∃x,es[k]=x:=⟨_,rfl⟩;obtain⟨x0,x1⟩:=x;rw [hx]at h0 h1;have hc0:wr.cell? ⟨q,off+k*2,none⟩=some(.int .i64 x0):=by rw [HB.out.1.cell(p:=⟨q,off+k*2,none⟩)hq];exact h0
  have hc1:wr.cell? ⟨q,off+k*2+1,none⟩=some(.int .i64 x1):=by rw [HB.out.1.cell(p:=⟨q,off+k*2+1,none⟩)hq];exact h1
  have HX:Hid(es[k]=(x0,x1)):=hx;have hcall:=HP.out wr x0 x1(by rw [<-hx];exact List.getElem_mem hkl)HB.out.1;clear h0 h1 hx hq;have hu:=Tryz.underlying128
  cases hq:p(x0,x1)with
  |true=>
   rw [hq]at hcall;have HQ:Hid(p(x0,x1)=true):=hq;clear hq
   go_wp2_with(go_at_fn g;refine hcall.mono ?_;rintro e w'⟨rfl,hb'⟩)
   go_ret;refine⟨⟨k,rfl, ?_⟩,hb'⟩;rw [decide_eq_true(by omega)];exact(List.any_eq_true.2⟨es[k],List.getElem_mem hkl,by rw [HX.out];exact HQ.out⟩).symm
  |false=>
   rw [hq]at hcall;have HQ:Hid(p(x0,x1)=false):=hq;clear hq
   go_wp2_with(go_at_fn g;refine hcall.mono ?_;rintro e w'⟨rfl,hb'⟩)
   go_roundg(gk-1)
   case measure=>omega
   case rel=>
    refine⟨k+1,by omega,by go_num,hb', ?_⟩;rw [Tm.take_snoc _ _ hkl,List.any_append,HB.out.2,HX.out];simp [HQ.out]
theorem Tryz.contains_any(p:Int×Int->Bool)(g:Nat)(lb:Array Value)(eg: ∀args w,(callFunc g args).run Tryz.prog w= .ok(.enter g args)w)(a:Option Addr)(c:Nat)(es:List(Int×Int))(w:World)
  (hp:Rk.Pred g lb p es w)(hE:Rk.Eds w w.heap.size a es)(hn:es.length<=1000000000000000):
  Calls Tryz.prog 127 #[.slice a es.length c, .func(.func g) #[]lb]w λe w'=>e= .returned(.bool(es.any p))/\Below w.heap.size w w':=by
 have HC:Hid _:=Tryz.index_any p g lb eg a c es w hp hE hn;obtain⟨q,hq⟩: ∃q,es.any p=q:=⟨_,rfl⟩;rw [hq]at HC⊢;clear hp hE hq
 go_enter Tryz.func127,Tryz.ntmps127
 go_wp2_with fail
 refine Calls.mono HC.out ?_;rintro e W1⟨⟨k,rfl,hk⟩,hb⟩;have HB:Hid(Below w.heap.size w W1):=hb;have HK:Hid(decide(0<=k)=q):=hk;clear hb hk HC;go_wp2;go_ret;exact⟨Tk.ret_bool HK.out,HB.out⟩
theorem Tryz.within_any(n i:Int)(w:World):Calls Tryz.prog 129 #[.int .i64 n, .int .i64 i]w λe w'=>e= .returned(.bool(decide(0<=i)&&decide(i<n)))/\w'=w:=by
 cases h1:decide(0<=i)<;>cases h2:decide(i<n)
 all_goals
  go_enter Tryz.func129,Tryz.ntmps129
  go_wp2;go_ret;exact⟨rfl,rfl⟩
def Rk.inB(n i:Int):Bool:=decide(0<=i)&&decide(i<n)
def Rk.outB(n:Int)(x:Int×Int):Bool:= !Rk.inB n x.1|| !Rk.inB n x.2
def Rk.chk(n:Int)(es:List(Int×Int)):Int:=if n<0∨64<n then 1 else if 256<es.length then 2 else if es.any(Rk.outB n)=true then 4 else 0
theorem Rk.enters_check: ∀args w,(callFunc 128 args).run Tryz.prog w= .ok(.enter 128 args)w:=enters_of Tryz.func128(by kernel_rfl)rfl
theorem Rk.check_pred(n:Int)(b:Nat)(es:List(Int×Int))(w:World)(hb:b<w.heap.size)(hc:w.cell? ⟨b,0,none⟩=some(.int .i64 n)):Rk.Pred 128 #[.pointer(some⟨b,0,none⟩)](Rk.outB n)es w:=by
 intro W x y _ hW;show Calls Tryz.prog 128 #[.agg #[.int .i64 x, .int .i64 y], .pointer(some⟨b,0,none⟩)]W _;have B0:Hid(Below w.heap.size w W):=hW;have c0:W.cell? ⟨b,0,none⟩=some(.int .i64 n):=(hW.cell(p:=⟨b,0,none⟩)hb).trans hc;have HS:w.heap.size<=W.heap.size:=hW.size;have hbW:b<W.heap.size:=Nat.lt_of_lt_of_le hb hW.size;clear hc hW;have HX:Hid(Rk.outB n(x,y)=(!Rk.inB n x|| !Rk.inB n y)):=rfl
 cases hx:Rk.inB n x
 ·have h1:(decide(0<=x)&&decide(x<n))=false:=hx
  rw [HX.out,hx];clear hx HX
  go_enter Tryz.func128,Tryz.ntmps128
  go_wp2_with fail
  refine(Tryz.within_any n x _).mono ?_;rintro e W1⟨rfl,rfl⟩;rw [h1];go_wp2;go_ret;exact⟨rfl,B0.out.alloc HS _⟩
 have h1:(decide(0<=x)&&decide(x<n))=true:=hx;have HY:Hid(Rk.inB n y=(decide(0<=y)&&decide(y<n))):=rfl;rw [HX.out,hx,HY.out];clear hx HX HY;obtain⟨q,hq⟩: ∃q,(decide(0<=y)&&decide(y<n))=q:=⟨_,rfl⟩;rw [hq];have HQ:Hid _:=hq;clear hq
 go_enter Tryz.func128,Tryz.ntmps128
 go_wp2_with fail
 refine(Tryz.within_any n x _).mono ?_;rintro e W1⟨rfl,rfl⟩;rw [h1]
 go_wp2_with fail
 refine(Tryz.within_any n y _).mono ?_;rintro e W1⟨rfl,rfl⟩;rw [HQ.out];go_wp2;go_ret;exact⟨by simp,B0.out.alloc HS _⟩
theorem Tryz.rkCheck_any(n:Int)(a:Option Addr)(c:Nat)(es:List(Int×Int))(w:World)(hE:Rk.Eds w w.heap.size a es)(hn:es.length<=1000000000000000):
  Calls Tryz.prog 105 #[.int .i64 n, .slice a es.length c]w λe w'=>e= .returned(.int .i64(Rk.chk n es))/\Below w.heap.size w w':=by
 have B0:Hid(Below w.heap.size w(w.alloc(.cells #[.int .i64 n]3))):=(Below.refl _ w).alloc(Nat.le_refl _)_;have HC:Hid _:=Tryz.contains_any(Rk.outB n)128 #[.pointer(some⟨w.heap.size,0,none⟩)]Rk.enters_check a c es(w.alloc(.cells #[.int .i64 n]3))(Rk.check_pred n w.heap.size es _(by simp)(by simp))((hE.below B0.out).wider(by simp))hn;obtain⟨q,hq⟩: ∃q,es.any(Rk.outB n)=q:=⟨_,rfl⟩;obtain⟨m,hm⟩: ∃m,es.length=m:=⟨_,rfl⟩;have HR:Hid(Rk.chk n es=if n<0∨64<n then 1 else if 256<m then 2 else if q=true then 4 else 0):=by show Rk.chk n es=_;unfold Rk.chk;rw [hq,hm]
 rw [HR.out];rw [hq]at HC;rw [hm]at HC hn⊢;clear hE hq hm HR
 by_cases h1:n<0
 ·have d1:decide(n<0)=true:=decide_eq_true h1
  rw [if_pos(.inl h1)];clear h1
  go_enter Tryz.func105,Tryz.ntmps105
  go_wp2;go_ret;exact⟨rfl,B0.out⟩
 have d1:decide(n<0)=false:=decide_eq_false h1
 by_cases h2:64<n
 ·have d2:decide(64<n)=true:=decide_eq_true h2
  rw [if_pos(.inr h2)];clear h1 h2
  go_enter Tryz.func105,Tryz.ntmps105
  go_wp2;go_ret;exact⟨rfl,B0.out⟩
 have d2:decide(64<n)=false:=decide_eq_false h2;rw [if_neg(by omega)];clear h1 h2
 by_cases h3:256<m
 ·have d3:decide((256:Int)<m)=true:=decide_eq_true(by omega)
  rw [if_pos h3];clear h3
  go_enter Tryz.func105,Tryz.ntmps105
  go_wp2;go_ret;exact⟨rfl,B0.out⟩
 have d3:decide((256:Int)<m)=false:=decide_eq_false(by omega);rw [if_neg h3];clear h3
 go_enter Tryz.func105,Tryz.ntmps105
 go_wp2_with fail
 refine Calls.mono HC.out ?_;rintro e W1⟨rfl,hb⟩;have B1:Hid(Below w.heap.size w W1):=B0.out.trans(hb.mono(by simp));clear hb HC
 cases q
 ·go_wp2
  go_ret;exact⟨rfl,B1.out⟩
 go_wp2;go_ret;exact⟨rfl,B1.out⟩
theorem Tryz.infoBoolQ:(Tryz.prog.info? 4).map(λi=>(i.zero,i.size,i.bytes))=some(some(.bool false),1,1):=by kernel_rfl
def Rq.row(n:Nat):Array Value:=((List.replicate n false).map Value.bool).toArray
theorem Rq.make_bools(n:Nat)(hn:n<=64)(w:World):(Instr.makeSlice 151(.int .i64(n:Int))(.int .i64(n:Int))).run Tryz.prog w= .ok(.slice(some⟨w.heap.size,0,none⟩)n n)(w.alloc(.cells(Rq.row n)4)):=by
 have h:=run_make_row'(P:=Tryz.prog)151 4(.bool false)1 Tryz.underlying151 Tryz.infoBoolQ rfl .i64 .i64 n(by omega)(by omega)w;rw [h,show madeCells #[Value.bool false]n=Rq.row n from ?_];apply Array.toList_inj.1;rw [toList_madeCells_one];simp [Rq.row]
theorem Rq.row_bits(w:World)(n:Nat):Rq.Bits(w.alloc(.cells(Rq.row n)4))w.heap.size(List.replicate n false):=heap_alloc_new w(.cells(Rq.row n)4)
theorem Tryz.mark_any(n a0:Nat)(a:Option Addr)(c:Nat)(es:List(Nat×Nat))(w:World)(hn:n<=64)(ha:a0<n)(hes: ∀e,e∈es->e.1<n/\e.2<n)(hE:Rk.Eds w w.heap.size a(Rk.up es))(hm:es.length<=1000000000000000):
  Calls Tryz.prog 130 #[.int .i64 n, .slice a es.length c, .int .i64 a0]w λe w'=>
   e= .returned(.slice(some⟨w.heap.size,0,none⟩)n n)/\Rq.Bits w' w.heap.size((List.range n).map(Rk.met es a0))/\Below w.heap.size w w':=by
 have HE:Hid(Rk.Eds w w.heap.size a(Rk.up es)/\ ∀e,e∈es->e.1<n/\e.2<n):=⟨hE,hes⟩;have ha':(a0:Int)<n:=by omega
 have hmk:=Rq.make_bools n hn;obtain⟨m,hmm⟩: ∃m,es.length=m:=⟨_,rfl⟩;rw [hmm]at hm⊢;have HM:Hid(es.length=m):=hmm;have X1:=Rq.row_bits w n;have B1:Below w.heap.size w(w.alloc(.cells(Rq.row n)4)):=(Below.refl _ w).alloc(Nat.le_refl _)_;have c1:(w.alloc(.cells(Rq.row n)4)).cell? ⟨w.heap.size,a0,none⟩=some(.bool false):=X1.cell a0 false(by simp [ha]);have f1:=X1.frozen a0
 have X2:Hid(Rq.Bits(w.alloc(.cells((Rq.row n).setIfInBounds a0(.bool true))4))w.heap.size((List.replicate n false).set a0 true)):=by
  have:=heap_alloc_new w(.cells((Rq.row n).setIfInBounds a0(.bool true))4);show _=_;rw [this,Rq.row,List.setIfInBounds_toArray,List.map_set]
 have B2:Hid(Below w.heap.size w(w.alloc(.cells((Rq.row n).setIfInBounds a0(.bool true))4))):=(Below.refl _ w).alloc(Nat.le_refl _)_;clear hE hes hmm X1 B1
 go_enter Tryz.func130,Tryz.ntmps130
 go_wp2
 go_step3
 go_wp2
 go_step3
 go_wp2;clear hmk
 go_loopg []64(λgk wr=> ∃bs,Rk.left bs<=gk/\Hid(Rk.Way es n a0 bs/\Rq.Bits wr w.heap.size bs/\Below w.heap.size w wr))
 case atStart=>exact⟨_,by have:=Rk.left_le((List.replicate n false).set a0 true);simp at this;omega,Rk.Way.start es ha,X2.out,B2.out⟩
 case round=>
  obtain⟨bs,hbl,HB⟩:=hrel;clear X2 B2 c1 f1;go_wp2
  go_loopg [17]m(λgi i wi=> ∃k:Nat,gi+k=m/\i= .int .i64 k/\Hid(Rq.Bits wi w.heap.size bs/\Below w.heap.size w wi/\ ∀j(h:j<es.length),j<k->Rk.on bs es[j].1->Rk.on bs es[j].2))
  case atStart=>exact⟨0,by omega,rfl,HB.out.2.1,HB.out.2.2,λj _ h=>by omega⟩
  case round=>
   obtain⟨k,hk,rfl,HI⟩:=hrel
   by_cases hlt:k<m
   rotate_left
   ·have hd:decide((k:Int)<m)=false:=decide_eq_false(by omega)
    go_wp2;rw [Exit.noGoto_ret];go_ret;refine⟨rfl, ?_,HI.out.2.1⟩
    have hall:Rk.Shut es bs:=by
     intro e he;obtain⟨j,hj,rfl⟩:=List.getElem_of_mem he;exact HI.out.2.2 j hj(by rw [HM.out]at hj;omega)
    rw [<-HB.out.1.done hall];exact HI.out.1
   have hd:decide((k:Int)<m)=true:=decide_eq_true(by omega);have hkl:k<es.length:=by rw [HM.out];exact hlt
   obtain⟨q,off,rfl,hq,h0,h1⟩:=HE.out.1 k(by rw [Rk.up_length];exact hkl);obtain⟨e,he⟩: ∃x,es[k]=x:=⟨_,rfl⟩;obtain⟨x,y⟩:=e;have hxy:=HE.out.2 _(List.getElem_mem hkl);rw [he]at hxy;obtain⟨hx,hy⟩:x<n/\y<n:=hxy;rw [Rk.up_get,he]at h0 h1;have hc0:wr.cell? ⟨q,off+k*2,none⟩=some(.int .i64 x):=by rw [HI.out.2.1.cell(p:=⟨q,off+k*2,none⟩)hq];exact h0
   have hc1:wr.cell? ⟨q,off+k*2+1,none⟩=some(.int .i64 y):=by rw [HI.out.2.1.cell(p:=⟨q,off+k*2+1,none⟩)hq];exact h1
   have HX:Hid(es[k]=(x,y)):=he;have hz:w.heap.size<wr.heap.size:=HI.out.1.lt;have hqz:q<wr.heap.size:=by omega
   have hx':(x:Int)<n:=by omega
   have hy':(y:Int)<n:=by omega
   have hu:=Tryz.underlying128;obtain⟨b1,hb1⟩: ∃b,bs[x]? =some b:=⟨_,List.getElem?_eq_getElem(by rw [HB.out.1.1];exact hx)⟩;obtain⟨b2,hb2⟩: ∃b,bs[y]? =some b:=⟨_,List.getElem?_eq_getElem(by rw [HB.out.1.1];exact hy)⟩;have k1:=HI.out.1.cell x b1 hb1;have k2:=HI.out.1.cell y b2 hb2;have f2:=HI.out.1.frozen y;have H12:Hid(bs[x]? =some b1/\bs[y]? =some b2):=⟨hb1,hb2⟩
   have HA:Hid(Below w.heap.size w(wr.alloc(.cells #[.int .i64 x, .int .i64 y]128))/\Rq.Bits(wr.alloc(.cells #[.int .i64 x, .int .i64 y]128))w.heap.size bs):=
    ⟨HI.out.2.1.alloc(by omega)_,HI.out.1.keep(Below.heap_alloc _ _ _ hz)⟩
   clear h0 h1 he hb1 hb2
   have hrel2:(b1=true->b2=true)-> ∀j(h:j<es.length),j<k+1->Rk.on bs es[j].1->Rk.on bs es[j].2:=by
    intro hi j hj hj2 ho
    by_cases hjk:j=k
    ·subst hjk
     rw [HX.out]at ho⊢;have h1:=H12.out.1;have h2:=H12.out.2;have:b1=true:=by unfold Rk.on at ho;rw [h1]at ho;exact Option.some.inj ho
     rw [hi this]at h2;exact h2
    exact HI.out.2.2 j hj(by omega)ho
   have HR:Hid _:=hrel2;clear hrel2
   cases b1
   ·go_wp2
    go_roundg(gk-1)
    case measure=>omega
    case rel=>exact⟨k+1,by omega,by go_num,HA.out.2,HA.out.1,HR.out(by simp)⟩
   cases b2
   ·go_wp2
    go_roundg(Rk.left(bs.set y true))
    case measure=>have:=Rk.left_set bs y H12.out.2;omega
    case rel=>
     refine⟨bs.set y true,Nat.le_refl _,HB.out.1.mark(by rw [<-HX.out];exact List.getElem_mem hkl)H12.out.1 hy, ?_, ?_⟩
     ·exact(HI.out.1.put y true).keep(Below.heap_alloc _ _ _(by simpa using hz))
     exact(HI.out.2.1.setCell(p:=⟨w.heap.size,y,none⟩)(Nat.le_refl _)_).alloc(by simp;omega)_
   go_wp2;go_roundg(gk-1)
   case measure=>omega
   case rel=>exact⟨k+1,by omega,by go_num,HA.out.2,HA.out.1,HR.out(by simp)⟩
theorem Tryz.infoIntQ:(Tryz.prog.info? 3).map(λi=>(i.zero,i.size,i.bytes))=some(some(.int .i64 0),1,8):=by kernel_rfl
def Rq.nums(l:List Nat):List Value:=l.map λi:Nat=>Value.int .i64(i:Int)
theorem Rq.nums_snoc(l:List Nat)(i:Nat):Rq.nums(l++ [i])=Rq.nums l++ [.int .i64(i:Int)]:=by simp [Rq.nums]
theorem Rq.own_shape {w:World} {B:Nat} {e:TypeId} {size:Nat} {v:Value} {n:Nat} {cs:List Value} (h:w.ownsRow B e size v n cs): ∃a c,v= .slice a n c:=by
 rcases h.2 with⟨rfl,rfl⟩|⟨g,cap,cur,rfl,_⟩
 ·exact⟨none,0,rfl⟩
 exact⟨_,_,rfl⟩
theorem Rq.own_below {w w':World} {B:Nat} {e:TypeId} {size:Nat} {v:Value} {n:Nat} {cs:List Value} (h:w.ownsRow B e size v n cs)(hb:Below w.heap.size w w'):w'.ownsRow B e size v n cs:=by
 rcases h with⟨hl,h|⟨g,cap,cur,rfl,hB,hg,h4⟩⟩
 ·exact⟨hl, .inl h⟩
 exact⟨hl, .inr⟨g,cap,cur,rfl,hB,by rw [hb.block g(Array.getElem?_eq_some_iff.1 hg).1];exact hg,h4⟩⟩
theorem Rq.below_grown {B:Nat} {a w w':World} {v:Value} {e:TypeId} {size n:Nat} {cs:List Value} (h:Below B a w)(hB:B<=w.heap.size)(ho:w.ownsRow B e size v n cs)(hg:w.grownBy w' v.ownBlock):Below B a w':=
 h.trans⟨hg.os,hg.tape,hg.output,hg.size,λj hj=>hg.block j(by omega)(by
  intro he
  rcases ho.2 with⟨rfl,_⟩|⟨g,cap,cur,rfl,h1,_⟩
  ·simp [Value.ownBlock]at he
  simp [Value.ownBlock]at he
  omega)⟩
theorem Rq.one_cell(w:World)(i:Int)(t:TypeId): ∀j u, [Value.int .i64 i][j]? =some u->(w.alloc(.cells #[.int .i64 i]t)).cell? ((⟨w.heap.size,0,none⟩:Addr).add j)=some u:=by
 intro j u hj
 match j,hj with
 |0,hj=>simp at hj;subst hj;simp [Addr.add]
theorem Rq.one_one(i:Int): ∀u∈ [Value.int .i64 i],u.oneCell'=true:=by intro u hu;simp at hu;subst hu;rfl
def Rq.Hold(g:Nat)(lb:Array Value)(p:Nat->Bool)(n:Nat)(w:World):Prop:=
 ∀(W:World)(i:Nat),i<n->Below w.heap.size w W->Calls Tryz.prog g(#[.int .i64(i:Int)]++lb)W λe w'=>e= .returned(.bool(p i))/\Below W.heap.size W w'
theorem Tryz.things_any(p:Nat->Bool)(g:Nat)(lb:Array Value)(eg: ∀args w,(callFunc g args).run Tryz.prog w= .ok(.enter g args)w)(n:Nat)(w:World)(hp:Rq.Hold g lb p n w)(hn:n<=64):
  Calls Tryz.prog 106 #[.int .i64 n, .func(.func g) #[]lb]w λe w'=> ∃v,e= .returned v/\w'.ownsRow w.heap.size 3 1 v((List.range n).filter p).length(Rq.nums((List.range n).filter p))/\Below w.heap.size w w':=by
 obtain⟨i0,hi,hz0,hz1,hz2⟩:=info_parts Tryz.infoIntQ;have HP:Hid _:=hp;clear hp
 go_enter Tryz.func106,Tryz.ntmps106
 go_wp2
 go_loopg [5,8]n(λgk s5 s8 wr=> ∃(k r:Nat)(L:List Nat),gk+k=n/\s8= .int .i64 k/\r<=k/\Hid(L=(List.range k).filter p/\L.length=r/\Below w.heap.size w wr)/\wr.ownsRow w.heap.size 3 1 s5 r(Rq.nums L))
 case atStart=>exact⟨0,0, [],by omega,rfl,Nat.le_refl _,⟨rfl,rfl,Below.refl _ w⟩,World.ownsRow_nil _ _ _ _⟩
 case round=>
  obtain⟨k,r,L,hk,rfl,hr,HB,hown⟩:=hrel;obtain⟨av,cv,rfl⟩:=Rq.own_shape hown
  by_cases hlt:k<n
  rotate_left
  ·have hd:decide((k:Int)<n)=false:=decide_eq_false(by omega)
   go_wp2;go_ret;obtain rfl:k=n:=by omega
   rw [<-HB.out.1,HB.out.2.1];exact⟨_,rfl,hown,HB.out.2.2⟩
  have hd:decide((k:Int)<n)=true:=decide_eq_true(by omega);have hcall:=HP.out wr k hlt HB.out.2.2
  have HF:Hid((List.range(k+1)).filter p=L++if p k=true then [k]else []):=by
   show _=_;rw [List.range_succ,List.filter_append,<-HB.out.1]
   cases hq:p k<;>simp [hq]
  cases hq:p k with
  |false=>
   rw [hq]at hcall HF;clear hq
   go_wp2_with(go_at_fn g;refine hcall.mono ?_;rintro e w1⟨rfl,hb⟩)
   go_roundg(gk-1)
   case measure=>omega
   case rel=>
    refine⟨k+1,r,L,by omega,by go_num,by omega,⟨?_,HB.out.2.1,HB.out.2.2.trans(hb.mono HB.out.2.2.size)⟩,Rq.own_below hown hb⟩;rw [HF.out];simp
  |true=>
   rw [hq]at hcall HF;clear hq
   go_wp2_with(first
    |(go_at_fn g;refine hcall.mono ?_;rintro e W1⟨rfl,hb⟩;have own1:=Rq.own_below hown hb;have B1:Hid(Below w.heap.size w W1):=HB.out.2.2.trans(hb.mono HB.out.2.2.size);have hs1:w.heap.size<=W1.heap.size:=B1.out.size;clear hb hown hcall)
    |(at_builtin;refine wpList_append_own _ rfl _ _ 51 rfl w.heap.size 3 i0(.int .i64 0)1 8 Tryz.underlying51 hi hz0 hz1 hz2 rfl(by decide)_ _ _ rfl(own1.alloc _)⟨W1.heap.size,0,none⟩1 1 [.int .i64 k]rfl rfl(Rq.one_cell W1 k 3)(Rq.one_one k) ?c3 ?c4 ?c5 ?_))
   case c3=>unfold maxLen;omega
   case c4=>omega
   case c5=>simp;omega
   intro v' W2 own2 g2 _;obtain⟨a2,c2,rfl⟩:=Rq.own_shape own2;go_wp2;go_roundg(gk-1)
   case measure=>omega
   case rel=>
    refine⟨k+1,r+1,L++ [k],by omega,by go_num,by omega,⟨?_,by simp [HB.out.2.1],Rq.below_grown(B1.out.alloc hs1 _)(by simp;omega)(own1.alloc _)g2⟩, ?_⟩
    ·rw [HF.out];simp
    rw [Rq.nums_snoc];exact own2
end Go.Proofs
