import Derived.Test.YtmomffminkflnaaGreatDoorRAcFormA
import Derived.Test.YtmomffminkflnaaGreatDoorRAcFormB
import Derived.Test.YtmomffminkflnaaGreatDoorRAcFormC
import Derived.Test.YtmomffminkflnaaGreatDoorRAcFormF
set_option maxRecDepth 100000
set_option maxHeartbeats 32000000
namespace Go.Proofs
open Go.RowKit Go.Shelf
theorem Tm.lies_any(w:World)(B d:Nat):Tm.Lies w B(d+1)(.slice none 0 0)(.mk 0 0 []):=⟨none,0,rfl, .inl rfl⟩
theorem Ak.lies_up {w:World} {B:Nat} : ∀ {d:Nat} {v:Value} {T:Tm},Tm.Lies w B d v T->Tm.Lies w B(d+1)v T
 |0,_,_,h=>h.elim
 |d+1,v,T,h=>by
  obtain⟨a,cap,hv,h⟩:=h;refine⟨a,cap,hv,h.elim .inl fun⟨g,off,ha,hg,hr⟩=> .inr⟨g,off,ha,hg,λj hj=> ?_⟩⟩;obtain⟨u,h0,h1,h2,h3⟩:=hr j hj;exact⟨u,h0,h1,h2,Ak.lies_up h3⟩
theorem Ak.tms_up {w:World} {B d:Nat} {a:Option Addr} {cs:List Tm} (h:Ac.Tms w B d a cs):Ac.Tms w B(d+1)a cs:=λj hj=>by
 obtain⟨g,off,u,h1,h2,c0,c1,c2,h3⟩:=h j hj;exact⟨g,off,u,h1,h2,c0,c1,c2,Ak.lies_up h3⟩
theorem Ak.nds_up {w:World} {B d:Nat} {a:Option Addr} {cs:List Nd} (h:Nt.Nds w B d a cs):Nt.Nds w B(d+1)a cs:=λj hj=>by
 obtain⟨g,off,u,h1,h2,c0,c1,c2,c3,c4,h3⟩:=h j hj;exact⟨g,off,u,h1,h2,c0,c1,c2,c3,c4,Ak.lies_up h3⟩
theorem Ak.fls_up {w:World} {B d:Nat} {a:Option Addr} {cs:List Fl} (h:Nt.Fls w B d a cs):Nt.Fls w B(d+1)a cs:=λj hj=>by
 obtain⟨g,off,u,h1,h2,c0,c1,c2,c3,c4,c5,h3⟩:=h j hj;exact⟨g,off,u,h1,h2,c0,c1,c2,c3,c4,c5,Ak.lies_up h3⟩
theorem Ak.tms_of {w:World} {B e n c:Nat} {a:Option Addr} {t k l m f:Value} {T:Ac} (h:Ac.Own w B e⟨t, .slice a n c,k,l,m,f⟩T):Ac.Tms w B e a T.cs:=by
 obtain⟨a',c',e1,h⟩:=h.c;obtain⟨rfl,-,-⟩:=Value.slice.inj e1;exact h
theorem Ak.lks_of {w:World} {B e n c:Nat} {a:Option Addr} {t k l m f:Value} {T:Ac} (h:Ac.Own w B e⟨t,l,k, .slice a n c,m,f⟩T):Ac.Lks w B a T.ls:=by
 obtain⟨a',c',e1,h⟩:=h.l;obtain⟨rfl,-,-⟩:=Value.slice.inj e1;exact h
theorem Ak.nds_of {w:World} {B e n c:Nat} {a:Option Addr} {t k l m f:Value} {T:Ac} (h:Ac.Own w B e⟨t,m,k,l, .slice a n c,f⟩T):Nt.Nds w B e a T.ns:=by
 obtain⟨a',c',e1,h⟩:=h.n;obtain⟨rfl,-,-⟩:=Value.slice.inj e1;exact h
theorem Ak.fls_of {w:World} {B e n c:Nat} {a:Option Addr} {t k l m f:Value} {T:Ac} (h:Ac.Own w B e⟨t,m,k,l,f, .slice a n c⟩T):Nt.Fls w B e a T.fs:=by
 obtain⟨a',c',e1,h⟩:=h.f;obtain⟨rfl,-,-⟩:=Value.slice.inj e1;exact h
theorem Ak.own_zero(w:World)(B:Nat)(k:Int):Ac.Own w B 1 Ac.V0(Ac.zeroOf k):=⟨⟨none,0,rfl, .inl rfl⟩,⟨none,0,rfl,λj h=>by simp [Ac.zeroOf,Ac.cs]at h⟩,⟨none,0,rfl,λj h=>by simp [Ac.zeroOf,Ac.ls]at h⟩,⟨none,0,rfl,λj h=>by simp [Ac.zeroOf,Ac.ns]at h⟩,⟨none,0,rfl,λj h=>by simp [Ac.zeroOf,Ac.fs]at h⟩⟩
def Ac.Formed(T:Ac):Prop:=
 (T.kind=1/\T.holdsB=true/\Ac.Same1 T.rest(Ac.zeroOf T.kind)/\T.ks.length=0)∨
 (T.kind=5/\T.holdsB=true/\(0<=T.node/\T.node<24)/\Ac.Same1 T.rest(Ac.zeroOf T.kind)/\T.ks.length=0)∨
 (T.kind=2/\T.holdsB=true/\(0<=T.node/\T.node<24)/\(0<=T.a/\T.a<4)/\Ac.Same1 T.rest(Ac.zeroOf T.kind)/\T.ks.length=0)∨
 (T.kind=4/\T.holdsB=true/\(0<=T.node/\T.node<24)/\(0<=T.a/\T.a<4)/\Ac.Same1 T.rest(Ac.zeroOf T.kind)/\T.ks.length=0)∨
 (T.kind=3/\T.holdsB=true/\(0<=T.node/\T.node<24)/\Nt.ofB T.t 1=true/\(0<=T.a/\T.a<4)/\Ac.Same1 T.rest(Ac.zeroOf T.kind)/\T.ks.length=0)∨
 (T.kind=10/\T.holdsB=true/\(0<=T.node/\T.node<24)/\T.ks.length=1/\(0<=T.a/\T.a<5)/\Ac.Same1 T.rest(Ac.zeroOf T.kind)/\True)∨
 (T.kind=11/\T.holdsB=true/\(0<=T.node/\T.node<24)/\T.ks.length=2/\(0<=T.b/\T.b<(T.cs.length:Int))/\T.cs.length=T.ks.length/\Ac.choiceB T.cs T.a=true/\(0<=T.a/\T.a<(T.cs.length:Int))/\2<=T.ks.length/\Ac.Same1 T.rest(Ac.zeroOf T.kind)/\True)∨
 (T.kind=8/\T.holdsB=true/\(0<=T.node/\T.node<24)/\T.cs.length=T.ks.length/\Ac.choiceB T.cs T.a=true/\(0<=T.a/\T.a<(T.cs.length:Int))/\2<=T.ks.length/\Ac.Same1 T.rest(Ac.zeroOf T.kind)/\True)∨
 (T.kind=9/\T.holdsB=true/\(0<=T.node/\T.node<24)/\2<=T.ks.length/\Ac.Same1 T.rest(Ac.zeroOf T.kind)/\True)∨
 (T.kind=6/\T.holdsB=true/\2<=T.ks.length/\Ac.Same1 T.rest(Ac.zeroOf T.kind)/\True)∨
 (T.kind=7/\T.holdsB=true/\2<=T.ks.length/\Ac.Same1 T.rest(Ac.zeroOf T.kind)/\True)∨
 (T.kind=12/\T.a=3/\T.holdsB=true/\(0<=T.node/\T.node<24)/\2<=T.cs.length/\Ac.choiceB T.cs T.b=true/\(0<=T.b/\T.b<(T.cs.length:Int))/\True/\True/\Ac.Same1 T.rest(Ac.zeroOf T.kind)/\T.ks.length=0)∨
 (T.kind=12/\ ¬T.a=3/\T.holdsB=true/\(0<=T.node/\T.node<24)/\1<=T.a/\(0<=T.a/\T.a<5)/\Ac.Same1 T.rest(Ac.zeroOf T.kind)/\T.ks.length=0)∨
 (T.kind=13/\T.holdsB=true/\T.linkedB=true/\Ac.Same1 T.rest(Ac.zeroOf T.kind)/\True)∨
 (T.kind=14/\T.holdsB=true/\(Nt.checkN T.ns T.fs).1=0/\Ac.Same1 T.rest(Ac.zeroOf T.kind)/\T.ks.length=0) 
theorem Tryz.aformed_1(d e:Nat)(T:Ac)(V:Ac.Vs)(w:World)(hT:Ac.Lies w w.heap.size e d V T)(hF:T.Fit)(_hO:Tk.Ops w)(h0:0<w.heap.size)(hk:T.kind=1):
  Calls Tryz.prog 48 #[.agg(Ac.row T V)]w λe w'=>Ak.Told(T.holdsB=true/\Ac.Same1 T.rest(Ac.zeroOf T.kind)/\T.ks.length=0)e/\Below w.heap.size w w':=by
 obtain⟨a6,c6,a7,c7,a8,c8,a9,c9,aA,cA,aB,cB,rfl⟩:=hT.shape;have he7:Ac.Tms w w.heap.size e a7 T.cs:=Ak.tms_of hT.own;have he9:Ac.Lks w w.heap.size a9 T.ls:=Ak.lks_of hT.own;have heA:Nt.Nds w w.heap.size e aA T.ns:=Ak.nds_of hT.own;have heB:Nt.Fls w w.heap.size e aB T.fs:=Ak.fls_of hT.own;have hrow:Ac.row T⟨.slice a6 T.t.ks.length c6, .slice a7 T.cs.length c7, .slice a8 T.ks.length c8, .slice a9 T.ls.length c9, .slice aA T.ns.length cA, .slice aB T.fs.length cB⟩= #[.int .i64 1, .int .i64 T.node, .int .i64 T.a, .int .i64 T.b, .int .i64 T.t.op, .int .i64 T.t.num, .slice a6 T.t.ks.length c6, .slice a7 T.cs.length c7, .slice a8 T.ks.length c8, .slice a9 T.ls.length c9, .slice aA T.ns.length cA, .slice aB T.fs.length cB]:=by unfold Ac.row;rw [hk]
 have hrest:T.rest=T:=by
  unfold Ac.rest;rw [hk]
  first|rfl|simp
 have hown:Ac.Own w w.heap.size(e+1)⟨.slice a6 T.t.ks.length c6, .slice a7 T.cs.length c7, .slice a8 T.ks.length c8, .slice a9 T.ls.length c9, .slice aA T.ns.length cA, .slice aB T.fs.length cB⟩T.rest:=by
  rw [hrest];exact⟨Ak.lies_up hT.own.t,⟨_,_,rfl,Ak.tms_up he7⟩,⟨_,_,rfl,he9⟩,⟨_,_,rfl,Ak.nds_up heA⟩,⟨_,_,rfl,Ak.fls_up heB⟩⟩
 have hfit:T.rest.Fit:=by
  rw [hrest];exact⟨hF.t,hF.c,hF.n,hF.f,hF.cl,hF.kl,hF.ll,hF.nl,hF.fl⟩
 have hrr:Ac.row T.rest⟨.slice a6 T.t.ks.length c6, .slice a7 T.cs.length c7, .slice a8 T.ks.length c8, .slice a9 T.ls.length c9, .slice aA T.ns.length cA, .slice aB T.fs.length cB⟩= #[.int .i64 1, .int .i64 T.node, .int .i64 T.a, .int .i64 T.b, .int .i64 T.t.op, .int .i64 T.t.num, .slice a6 T.t.ks.length c6, .slice a7 T.cs.length c7, .slice a8 T.ks.length c8, .slice a9 T.ls.length c9, .slice aA T.ns.length cA, .slice aB T.fs.length cB]:=by rw [hrest];unfold Ac.row;rw [hk]
 have hzr:Ac.row(Ac.zeroOf T.kind)Ac.V0= #[.int .i64 1, .int .i64 0, .int .i64 0, .int .i64 0, .int .i64 0, .int .i64 0, .slice none 0 0, .slice none 0 0, .slice none 0 0, .slice none 0 0, .slice none 0 0, .slice none 0 0]:=by rw [hk];rfl
 exact hrow▸Tryz.fm_1 T.node T.a T.b T.t.op T.t.num a6 a7 a8 a9 aA aB T.t.ks.length c6 T.cs.length c7 T.ks.length c8 T.ls.length c9 T.ns.length cA T.fs.length cB w T.holdsB(Ac.Same1 T.rest(Ac.zeroOf T.kind))hF.cl hF.kl
  (λW hb=>by have h:=Tryz.holds_any d e T _ W((hT.below hb).wider hb.size)(by have:=hF.kl;omega);rw [hrow]at h;exact h)
  (λW hb=>by have h:=Tryz.aalike_any(e+1)1 w.heap.size T.rest(Ac.zeroOf T.kind)_ Ac.V0 W(hown.keep hb.block)((Ak.own_zero w w.heap.size T.kind).keep hb.block)hb.size(by have:=hb.size;omega)hfit;rw [hrr,hzr]at h;exact h)
theorem Tryz.aformed_5(d e:Nat)(T:Ac)(V:Ac.Vs)(w:World)(hT:Ac.Lies w w.heap.size e d V T)(hF:T.Fit)(_hO:Tk.Ops w)(h0:0<w.heap.size)(hk:T.kind=5):
  Calls Tryz.prog 48 #[.agg(Ac.row T V)]w λe w'=>Ak.Told(T.holdsB=true/\(0<=T.node/\T.node<24)/\Ac.Same1 T.rest(Ac.zeroOf T.kind)/\T.ks.length=0)e/\Below w.heap.size w w':=by
 obtain⟨a6,c6,a7,c7,a8,c8,a9,c9,aA,cA,aB,cB,rfl⟩:=hT.shape;have he7:Ac.Tms w w.heap.size e a7 T.cs:=Ak.tms_of hT.own;have he9:Ac.Lks w w.heap.size a9 T.ls:=Ak.lks_of hT.own;have heA:Nt.Nds w w.heap.size e aA T.ns:=Ak.nds_of hT.own;have heB:Nt.Fls w w.heap.size e aB T.fs:=Ak.fls_of hT.own;have hrow:Ac.row T⟨.slice a6 T.t.ks.length c6, .slice a7 T.cs.length c7, .slice a8 T.ks.length c8, .slice a9 T.ls.length c9, .slice aA T.ns.length cA, .slice aB T.fs.length cB⟩= #[.int .i64 5, .int .i64 T.node, .int .i64 T.a, .int .i64 T.b, .int .i64 T.t.op, .int .i64 T.t.num, .slice a6 T.t.ks.length c6, .slice a7 T.cs.length c7, .slice a8 T.ks.length c8, .slice a9 T.ls.length c9, .slice aA T.ns.length cA, .slice aB T.fs.length cB]:=by unfold Ac.row;rw [hk]
 have hrest:T.rest= .mk 5 0 T.a T.b T.t T.cs T.ks T.ls T.ns T.fs:=by
  unfold Ac.rest;rw [hk]
  first|rfl|simp
 have hown:Ac.Own w w.heap.size(e+1)⟨.slice a6 T.t.ks.length c6, .slice a7 T.cs.length c7, .slice a8 T.ks.length c8, .slice a9 T.ls.length c9, .slice aA T.ns.length cA, .slice aB T.fs.length cB⟩T.rest:=by
  rw [hrest];exact⟨Ak.lies_up hT.own.t,⟨_,_,rfl,Ak.tms_up he7⟩,⟨_,_,rfl,he9⟩,⟨_,_,rfl,Ak.nds_up heA⟩,⟨_,_,rfl,Ak.fls_up heB⟩⟩
 have hfit:T.rest.Fit:=by
  rw [hrest];exact⟨hF.t,hF.c,hF.n,hF.f,hF.cl,hF.kl,hF.ll,hF.nl,hF.fl⟩
 have hrr:Ac.row T.rest⟨.slice a6 T.t.ks.length c6, .slice a7 T.cs.length c7, .slice a8 T.ks.length c8, .slice a9 T.ls.length c9, .slice aA T.ns.length cA, .slice aB T.fs.length cB⟩= #[.int .i64 5, .int .i64 0, .int .i64 T.a, .int .i64 T.b, .int .i64 T.t.op, .int .i64 T.t.num, .slice a6 T.t.ks.length c6, .slice a7 T.cs.length c7, .slice a8 T.ks.length c8, .slice a9 T.ls.length c9, .slice aA T.ns.length cA, .slice aB T.fs.length cB]:=by rw [hrest];unfold Ac.row;rfl
 have hzr:Ac.row(Ac.zeroOf T.kind)Ac.V0= #[.int .i64 5, .int .i64 0, .int .i64 0, .int .i64 0, .int .i64 0, .int .i64 0, .slice none 0 0, .slice none 0 0, .slice none 0 0, .slice none 0 0, .slice none 0 0, .slice none 0 0]:=by rw [hk];rfl
 exact hrow▸Tryz.fm_5 T.node T.a T.b T.t.op T.t.num a6 a7 a8 a9 aA aB T.t.ks.length c6 T.cs.length c7 T.ks.length c8 T.ls.length c9 T.ns.length cA T.fs.length cB w T.holdsB(Ac.Same1 T.rest(Ac.zeroOf T.kind))hF.cl hF.kl
  (λW hb=>by have h:=Tryz.holds_any d e T _ W((hT.below hb).wider hb.size)(by have:=hF.kl;omega);rw [hrow]at h;exact h)
  (λW hb=>by have h:=Tryz.aalike_any(e+1)1 w.heap.size T.rest(Ac.zeroOf T.kind)_ Ac.V0 W(hown.keep hb.block)((Ak.own_zero w w.heap.size T.kind).keep hb.block)hb.size(by have:=hb.size;omega)hfit;rw [hrr,hzr]at h;exact h)
theorem Tryz.aformed_2(d e:Nat)(T:Ac)(V:Ac.Vs)(w:World)(hT:Ac.Lies w w.heap.size e d V T)(hF:T.Fit)(_hO:Tk.Ops w)(h0:0<w.heap.size)(hk:T.kind=2):
  Calls Tryz.prog 48 #[.agg(Ac.row T V)]w λe w'=>Ak.Told(T.holdsB=true/\(0<=T.node/\T.node<24)/\(0<=T.a/\T.a<4)/\Ac.Same1 T.rest(Ac.zeroOf T.kind)/\T.ks.length=0)e/\Below w.heap.size w w':=by
 obtain⟨a6,c6,a7,c7,a8,c8,a9,c9,aA,cA,aB,cB,rfl⟩:=hT.shape;have he7:Ac.Tms w w.heap.size e a7 T.cs:=Ak.tms_of hT.own;have he9:Ac.Lks w w.heap.size a9 T.ls:=Ak.lks_of hT.own;have heA:Nt.Nds w w.heap.size e aA T.ns:=Ak.nds_of hT.own;have heB:Nt.Fls w w.heap.size e aB T.fs:=Ak.fls_of hT.own;have hrow:Ac.row T⟨.slice a6 T.t.ks.length c6, .slice a7 T.cs.length c7, .slice a8 T.ks.length c8, .slice a9 T.ls.length c9, .slice aA T.ns.length cA, .slice aB T.fs.length cB⟩= #[.int .i64 2, .int .i64 T.node, .int .i64 T.a, .int .i64 T.b, .int .i64 T.t.op, .int .i64 T.t.num, .slice a6 T.t.ks.length c6, .slice a7 T.cs.length c7, .slice a8 T.ks.length c8, .slice a9 T.ls.length c9, .slice aA T.ns.length cA, .slice aB T.fs.length cB]:=by unfold Ac.row;rw [hk]
 have hrest:T.rest= .mk 2 0 0 T.b T.t T.cs T.ks T.ls T.ns T.fs:=by
  unfold Ac.rest;rw [hk]
  first|rfl|simp
 have hown:Ac.Own w w.heap.size(e+1)⟨.slice a6 T.t.ks.length c6, .slice a7 T.cs.length c7, .slice a8 T.ks.length c8, .slice a9 T.ls.length c9, .slice aA T.ns.length cA, .slice aB T.fs.length cB⟩T.rest:=by
  rw [hrest];exact⟨Ak.lies_up hT.own.t,⟨_,_,rfl,Ak.tms_up he7⟩,⟨_,_,rfl,he9⟩,⟨_,_,rfl,Ak.nds_up heA⟩,⟨_,_,rfl,Ak.fls_up heB⟩⟩
 have hfit:T.rest.Fit:=by
  rw [hrest];exact⟨hF.t,hF.c,hF.n,hF.f,hF.cl,hF.kl,hF.ll,hF.nl,hF.fl⟩
 have hrr:Ac.row T.rest⟨.slice a6 T.t.ks.length c6, .slice a7 T.cs.length c7, .slice a8 T.ks.length c8, .slice a9 T.ls.length c9, .slice aA T.ns.length cA, .slice aB T.fs.length cB⟩= #[.int .i64 2, .int .i64 0, .int .i64 0, .int .i64 T.b, .int .i64 T.t.op, .int .i64 T.t.num, .slice a6 T.t.ks.length c6, .slice a7 T.cs.length c7, .slice a8 T.ks.length c8, .slice a9 T.ls.length c9, .slice aA T.ns.length cA, .slice aB T.fs.length cB]:=by rw [hrest];unfold Ac.row;rfl
 have hzr:Ac.row(Ac.zeroOf T.kind)Ac.V0= #[.int .i64 2, .int .i64 0, .int .i64 0, .int .i64 0, .int .i64 0, .int .i64 0, .slice none 0 0, .slice none 0 0, .slice none 0 0, .slice none 0 0, .slice none 0 0, .slice none 0 0]:=by rw [hk];rfl
 exact hrow▸Tryz.fm_2 T.node T.a T.b T.t.op T.t.num a6 a7 a8 a9 aA aB T.t.ks.length c6 T.cs.length c7 T.ks.length c8 T.ls.length c9 T.ns.length cA T.fs.length cB w T.holdsB(Ac.Same1 T.rest(Ac.zeroOf T.kind))hF.cl hF.kl
  (λW hb=>by have h:=Tryz.holds_any d e T _ W((hT.below hb).wider hb.size)(by have:=hF.kl;omega);rw [hrow]at h;exact h)
  (λW hb=>by have h:=Tryz.aalike_any(e+1)1 w.heap.size T.rest(Ac.zeroOf T.kind)_ Ac.V0 W(hown.keep hb.block)((Ak.own_zero w w.heap.size T.kind).keep hb.block)hb.size(by have:=hb.size;omega)hfit;rw [hrr,hzr]at h;exact h)
theorem Tryz.aformed_4(d e:Nat)(T:Ac)(V:Ac.Vs)(w:World)(hT:Ac.Lies w w.heap.size e d V T)(hF:T.Fit)(_hO:Tk.Ops w)(h0:0<w.heap.size)(hk:T.kind=4):
  Calls Tryz.prog 48 #[.agg(Ac.row T V)]w λe w'=>Ak.Told(T.holdsB=true/\(0<=T.node/\T.node<24)/\(0<=T.a/\T.a<4)/\Ac.Same1 T.rest(Ac.zeroOf T.kind)/\T.ks.length=0)e/\Below w.heap.size w w':=by
 obtain⟨a6,c6,a7,c7,a8,c8,a9,c9,aA,cA,aB,cB,rfl⟩:=hT.shape;have he7:Ac.Tms w w.heap.size e a7 T.cs:=Ak.tms_of hT.own;have he9:Ac.Lks w w.heap.size a9 T.ls:=Ak.lks_of hT.own;have heA:Nt.Nds w w.heap.size e aA T.ns:=Ak.nds_of hT.own;have heB:Nt.Fls w w.heap.size e aB T.fs:=Ak.fls_of hT.own;have hrow:Ac.row T⟨.slice a6 T.t.ks.length c6, .slice a7 T.cs.length c7, .slice a8 T.ks.length c8, .slice a9 T.ls.length c9, .slice aA T.ns.length cA, .slice aB T.fs.length cB⟩= #[.int .i64 4, .int .i64 T.node, .int .i64 T.a, .int .i64 T.b, .int .i64 T.t.op, .int .i64 T.t.num, .slice a6 T.t.ks.length c6, .slice a7 T.cs.length c7, .slice a8 T.ks.length c8, .slice a9 T.ls.length c9, .slice aA T.ns.length cA, .slice aB T.fs.length cB]:=by unfold Ac.row;rw [hk]
 have hrest:T.rest= .mk 4 0 0 T.b T.t T.cs T.ks T.ls T.ns T.fs:=by
  unfold Ac.rest;rw [hk]
  first|rfl|simp
 have hown:Ac.Own w w.heap.size(e+1)⟨.slice a6 T.t.ks.length c6, .slice a7 T.cs.length c7, .slice a8 T.ks.length c8, .slice a9 T.ls.length c9, .slice aA T.ns.length cA, .slice aB T.fs.length cB⟩T.rest:=by
  rw [hrest];exact⟨Ak.lies_up hT.own.t,⟨_,_,rfl,Ak.tms_up he7⟩,⟨_,_,rfl,he9⟩,⟨_,_,rfl,Ak.nds_up heA⟩,⟨_,_,rfl,Ak.fls_up heB⟩⟩
 have hfit:T.rest.Fit:=by
  rw [hrest];exact⟨hF.t,hF.c,hF.n,hF.f,hF.cl,hF.kl,hF.ll,hF.nl,hF.fl⟩
 have hrr:Ac.row T.rest⟨.slice a6 T.t.ks.length c6, .slice a7 T.cs.length c7, .slice a8 T.ks.length c8, .slice a9 T.ls.length c9, .slice aA T.ns.length cA, .slice aB T.fs.length cB⟩= #[.int .i64 4, .int .i64 0, .int .i64 0, .int .i64 T.b, .int .i64 T.t.op, .int .i64 T.t.num, .slice a6 T.t.ks.length c6, .slice a7 T.cs.length c7, .slice a8 T.ks.length c8, .slice a9 T.ls.length c9, .slice aA T.ns.length cA, .slice aB T.fs.length cB]:=by rw [hrest];unfold Ac.row;rfl
 have hzr:Ac.row(Ac.zeroOf T.kind)Ac.V0= #[.int .i64 4, .int .i64 0, .int .i64 0, .int .i64 0, .int .i64 0, .int .i64 0, .slice none 0 0, .slice none 0 0, .slice none 0 0, .slice none 0 0, .slice none 0 0, .slice none 0 0]:=by rw [hk];rfl
 exact hrow▸Tryz.fm_4 T.node T.a T.b T.t.op T.t.num a6 a7 a8 a9 aA aB T.t.ks.length c6 T.cs.length c7 T.ks.length c8 T.ls.length c9 T.ns.length cA T.fs.length cB w T.holdsB(Ac.Same1 T.rest(Ac.zeroOf T.kind))hF.cl hF.kl
  (λW hb=>by have h:=Tryz.holds_any d e T _ W((hT.below hb).wider hb.size)(by have:=hF.kl;omega);rw [hrow]at h;exact h)
  (λW hb=>by have h:=Tryz.aalike_any(e+1)1 w.heap.size T.rest(Ac.zeroOf T.kind)_ Ac.V0 W(hown.keep hb.block)((Ak.own_zero w w.heap.size T.kind).keep hb.block)hb.size(by have:=hb.size;omega)hfit;rw [hrr,hzr]at h;exact h)
theorem Tryz.aformed_3(d e:Nat)(T:Ac)(V:Ac.Vs)(w:World)(hT:Ac.Lies w w.heap.size e d V T)(hF:T.Fit)(hO:Tk.Ops w)(h0:0<w.heap.size)(hk:T.kind=3):
  Calls Tryz.prog 48 #[.agg(Ac.row T V)]w λe w'=>Ak.Told(T.holdsB=true/\(0<=T.node/\T.node<24)/\Nt.ofB T.t 1=true/\(0<=T.a/\T.a<4)/\Ac.Same1 T.rest(Ac.zeroOf T.kind)/\T.ks.length=0)e/\Below w.heap.size w w':=by
 obtain⟨a6,c6,a7,c7,a8,c8,a9,c9,aA,cA,aB,cB,rfl⟩:=hT.shape;have he7:Ac.Tms w w.heap.size e a7 T.cs:=Ak.tms_of hT.own;have he9:Ac.Lks w w.heap.size a9 T.ls:=Ak.lks_of hT.own;have heA:Nt.Nds w w.heap.size e aA T.ns:=Ak.nds_of hT.own;have heB:Nt.Fls w w.heap.size e aB T.fs:=Ak.fls_of hT.own;have hrow:Ac.row T⟨.slice a6 T.t.ks.length c6, .slice a7 T.cs.length c7, .slice a8 T.ks.length c8, .slice a9 T.ls.length c9, .slice aA T.ns.length cA, .slice aB T.fs.length cB⟩= #[.int .i64 3, .int .i64 T.node, .int .i64 T.a, .int .i64 T.b, .int .i64 T.t.op, .int .i64 T.t.num, .slice a6 T.t.ks.length c6, .slice a7 T.cs.length c7, .slice a8 T.ks.length c8, .slice a9 T.ls.length c9, .slice aA T.ns.length cA, .slice aB T.fs.length cB]:=by unfold Ac.row;rw [hk]
 have hrest:T.rest= .mk 3 0 0 T.b(.mk 0 0 [])T.cs T.ks T.ls T.ns T.fs:=by
  unfold Ac.rest;rw [hk]
  first|rfl|simp
 have hown:Ac.Own w w.heap.size(e+1)⟨.slice none 0 0, .slice a7 T.cs.length c7, .slice a8 T.ks.length c8, .slice a9 T.ls.length c9, .slice aA T.ns.length cA, .slice aB T.fs.length cB⟩T.rest:=by
  rw [hrest];exact⟨Tm.lies_any _ _ _,⟨_,_,rfl,Ak.tms_up he7⟩,⟨_,_,rfl,he9⟩,⟨_,_,rfl,Ak.nds_up heA⟩,⟨_,_,rfl,Ak.fls_up heB⟩⟩
 have hfit:T.rest.Fit:=by
  rw [hrest];exact⟨⟨Nat.le_of_ble_eq_true rfl,Nat.le_of_ble_eq_true rfl⟩,hF.c,hF.n,hF.f,hF.cl,hF.kl,hF.ll,hF.nl,hF.fl⟩
 have hrr:Ac.row T.rest⟨.slice none 0 0, .slice a7 T.cs.length c7, .slice a8 T.ks.length c8, .slice a9 T.ls.length c9, .slice aA T.ns.length cA, .slice aB T.fs.length cB⟩= #[.int .i64 3, .int .i64 0, .int .i64 0, .int .i64 T.b, .int .i64 0, .int .i64 0, .slice none 0 0, .slice a7 T.cs.length c7, .slice a8 T.ks.length c8, .slice a9 T.ls.length c9, .slice aA T.ns.length cA, .slice aB T.fs.length cB]:=by rw [hrest];unfold Ac.row;rfl
 have hzr:Ac.row(Ac.zeroOf T.kind)Ac.V0= #[.int .i64 3, .int .i64 0, .int .i64 0, .int .i64 0, .int .i64 0, .int .i64 0, .slice none 0 0, .slice none 0 0, .slice none 0 0, .slice none 0 0, .slice none 0 0, .slice none 0 0]:=by rw [hk];rfl
 exact hrow▸Tryz.fm_3 T.node T.a T.b T.t.op T.t.num a6 a7 a8 a9 aA aB T.t.ks.length c6 T.cs.length c7 T.ks.length c8 T.ls.length c9 T.ns.length cA T.fs.length cB w T.holdsB(Ac.Same1 T.rest(Ac.zeroOf T.kind))(Nt.ofB T.t 1)hF.cl hF.kl
  (λW hb=>by have h:=Tryz.holds_any d e T _ W((hT.below hb).wider hb.size)(by have:=hF.kl;omega);rw [hrow]at h;exact h)
  (λW hb=>by have h:=Tryz.aalike_any(e+1)1 w.heap.size T.rest(Ac.zeroOf T.kind)_ Ac.V0 W(hown.keep hb.block)((Ak.own_zero w w.heap.size T.kind).keep hb.block)hb.size(by have:=hb.size;omega)hfit;rw [hrr,hzr]at h;exact h)(λW hb=>Tryz.aisOf_any 1 e T.t _ W((hT.own.t.below hb).wider hb.size)(hO.below hb hO.lt)hF.t.1)
theorem Tryz.aformed_10(d e:Nat)(T:Ac)(V:Ac.Vs)(w:World)(hT:Ac.Lies w w.heap.size e d V T)(hF:T.Fit)(_hO:Tk.Ops w)(h0:0<w.heap.size)(hk:T.kind=10):
  Calls Tryz.prog 48 #[.agg(Ac.row T V)]w λe w'=>Ak.Told(T.holdsB=true/\(0<=T.node/\T.node<24)/\T.ks.length=1/\(0<=T.a/\T.a<5)/\Ac.Same1 T.rest(Ac.zeroOf T.kind)/\True)e/\Below w.heap.size w w':=by
 obtain⟨a6,c6,a7,c7,a8,c8,a9,c9,aA,cA,aB,cB,rfl⟩:=hT.shape;have he7:Ac.Tms w w.heap.size e a7 T.cs:=Ak.tms_of hT.own;have he9:Ac.Lks w w.heap.size a9 T.ls:=Ak.lks_of hT.own;have heA:Nt.Nds w w.heap.size e aA T.ns:=Ak.nds_of hT.own;have heB:Nt.Fls w w.heap.size e aB T.fs:=Ak.fls_of hT.own;have hrow:Ac.row T⟨.slice a6 T.t.ks.length c6, .slice a7 T.cs.length c7, .slice a8 T.ks.length c8, .slice a9 T.ls.length c9, .slice aA T.ns.length cA, .slice aB T.fs.length cB⟩= #[.int .i64 10, .int .i64 T.node, .int .i64 T.a, .int .i64 T.b, .int .i64 T.t.op, .int .i64 T.t.num, .slice a6 T.t.ks.length c6, .slice a7 T.cs.length c7, .slice a8 T.ks.length c8, .slice a9 T.ls.length c9, .slice aA T.ns.length cA, .slice aB T.fs.length cB]:=by unfold Ac.row;rw [hk]
 have hrest:T.rest= .mk 10 0 0 T.b T.t T.cs []T.ls T.ns T.fs:=by
  unfold Ac.rest;rw [hk]
  first|rfl|simp
 have hown:Ac.Own w w.heap.size(e+1)⟨.slice a6 T.t.ks.length c6, .slice a7 T.cs.length c7, .slice none 0 0, .slice a9 T.ls.length c9, .slice aA T.ns.length cA, .slice aB T.fs.length cB⟩T.rest:=by
  rw [hrest];exact⟨Ak.lies_up hT.own.t,⟨_,_,rfl,Ak.tms_up he7⟩,⟨_,_,rfl,he9⟩,⟨_,_,rfl,Ak.nds_up heA⟩,⟨_,_,rfl,Ak.fls_up heB⟩⟩
 have hfit:T.rest.Fit:=by
  rw [hrest];exact⟨hF.t,hF.c,hF.n,hF.f,hF.cl,Nat.zero_le _,hF.ll,hF.nl,hF.fl⟩
 have hrr:Ac.row T.rest⟨.slice a6 T.t.ks.length c6, .slice a7 T.cs.length c7, .slice none 0 0, .slice a9 T.ls.length c9, .slice aA T.ns.length cA, .slice aB T.fs.length cB⟩= #[.int .i64 10, .int .i64 0, .int .i64 0, .int .i64 T.b, .int .i64 T.t.op, .int .i64 T.t.num, .slice a6 T.t.ks.length c6, .slice a7 T.cs.length c7, .slice none 0 0, .slice a9 T.ls.length c9, .slice aA T.ns.length cA, .slice aB T.fs.length cB]:=by rw [hrest];unfold Ac.row;rfl
 have hzr:Ac.row(Ac.zeroOf T.kind)Ac.V0= #[.int .i64 10, .int .i64 0, .int .i64 0, .int .i64 0, .int .i64 0, .int .i64 0, .slice none 0 0, .slice none 0 0, .slice none 0 0, .slice none 0 0, .slice none 0 0, .slice none 0 0]:=by rw [hk];rfl
 exact hrow▸Tryz.fm_10 T.node T.a T.b T.t.op T.t.num a6 a7 a8 a9 aA aB T.t.ks.length c6 T.cs.length c7 T.ks.length c8 T.ls.length c9 T.ns.length cA T.fs.length cB w T.holdsB(Ac.Same1 T.rest(Ac.zeroOf T.kind))hF.cl hF.kl
  (λW hb=>by have h:=Tryz.holds_any d e T _ W((hT.below hb).wider hb.size)(by have:=hF.kl;omega);rw [hrow]at h;exact h)
  (λW hb=>by have h:=Tryz.aalike_any(e+1)1 w.heap.size T.rest(Ac.zeroOf T.kind)_ Ac.V0 W(hown.keep hb.block)((Ak.own_zero w w.heap.size T.kind).keep hb.block)hb.size(by have:=hb.size;omega)hfit;rw [hrr,hzr]at h;exact h)
theorem Tryz.aformed_11(d e:Nat)(T:Ac)(V:Ac.Vs)(w:World)(hT:Ac.Lies w w.heap.size e d V T)(hF:T.Fit)(hO:Tk.Ops w)(h0:0<w.heap.size)(hk:T.kind=11):
  Calls Tryz.prog 48 #[.agg(Ac.row T V)]w λe w'=>Ak.Told(T.holdsB=true/\(0<=T.node/\T.node<24)/\T.ks.length=2/\(0<=T.b/\T.b<(T.cs.length:Int))/\T.cs.length=T.ks.length/\Ac.choiceB T.cs T.a=true/\(0<=T.a/\T.a<(T.cs.length:Int))/\2<=T.ks.length/\Ac.Same1 T.rest(Ac.zeroOf T.kind)/\True)e/\Below w.heap.size w w':=by
 obtain⟨a6,c6,a7,c7,a8,c8,a9,c9,aA,cA,aB,cB,rfl⟩:=hT.shape;have he7:Ac.Tms w w.heap.size e a7 T.cs:=Ak.tms_of hT.own;have he9:Ac.Lks w w.heap.size a9 T.ls:=Ak.lks_of hT.own;have heA:Nt.Nds w w.heap.size e aA T.ns:=Ak.nds_of hT.own;have heB:Nt.Fls w w.heap.size e aB T.fs:=Ak.fls_of hT.own;have hrow:Ac.row T⟨.slice a6 T.t.ks.length c6, .slice a7 T.cs.length c7, .slice a8 T.ks.length c8, .slice a9 T.ls.length c9, .slice aA T.ns.length cA, .slice aB T.fs.length cB⟩= #[.int .i64 11, .int .i64 T.node, .int .i64 T.a, .int .i64 T.b, .int .i64 T.t.op, .int .i64 T.t.num, .slice a6 T.t.ks.length c6, .slice a7 T.cs.length c7, .slice a8 T.ks.length c8, .slice a9 T.ls.length c9, .slice aA T.ns.length cA, .slice aB T.fs.length cB]:=by unfold Ac.row;rw [hk]
 have hrest:T.rest= .mk 11 0 0 0 T.t [] []T.ls T.ns T.fs:=by
  unfold Ac.rest;rw [hk]
  first|rfl|simp
 have hown:Ac.Own w w.heap.size(e+1)⟨.slice a6 T.t.ks.length c6, .slice none 0 0, .slice none 0 0, .slice a9 T.ls.length c9, .slice aA T.ns.length cA, .slice aB T.fs.length cB⟩T.rest:=by
  rw [hrest];exact⟨Ak.lies_up hT.own.t,⟨_,_,rfl,λj h=>by simp [Ac.cs]at h⟩,⟨_,_,rfl,he9⟩,⟨_,_,rfl,Ak.nds_up heA⟩,⟨_,_,rfl,Ak.fls_up heB⟩⟩
 have hfit:T.rest.Fit:=by
  rw [hrest];exact⟨hF.t,(λx h=>by cases h),hF.n,hF.f,Nat.zero_le _,Nat.zero_le _,hF.ll,hF.nl,hF.fl⟩
 have hrr:Ac.row T.rest⟨.slice a6 T.t.ks.length c6, .slice none 0 0, .slice none 0 0, .slice a9 T.ls.length c9, .slice aA T.ns.length cA, .slice aB T.fs.length cB⟩= #[.int .i64 11, .int .i64 0, .int .i64 0, .int .i64 0, .int .i64 T.t.op, .int .i64 T.t.num, .slice a6 T.t.ks.length c6, .slice none 0 0, .slice none 0 0, .slice a9 T.ls.length c9, .slice aA T.ns.length cA, .slice aB T.fs.length cB]:=by rw [hrest];unfold Ac.row;rfl
 have hzr:Ac.row(Ac.zeroOf T.kind)Ac.V0= #[.int .i64 11, .int .i64 0, .int .i64 0, .int .i64 0, .int .i64 0, .int .i64 0, .slice none 0 0, .slice none 0 0, .slice none 0 0, .slice none 0 0, .slice none 0 0, .slice none 0 0]:=by rw [hk];rfl
 exact hrow▸Tryz.fm_11 T.node T.a T.b T.t.op T.t.num a6 a7 a8 a9 aA aB T.t.ks.length c6 T.cs.length c7 T.ks.length c8 T.ls.length c9 T.ns.length cA T.fs.length cB w T.holdsB(Ac.Same1 T.rest(Ac.zeroOf T.kind))((Ac.choiceB T.cs T.a))hF.cl hF.kl
  (λW hb=>by have h:=Tryz.holds_any d e T _ W((hT.below hb).wider hb.size)(by have:=hF.kl;omega);rw [hrow]at h;exact h)
  (λW hb=>by have h:=Tryz.aalike_any(e+1)1 w.heap.size T.rest(Ac.zeroOf T.kind)_ Ac.V0 W(hown.keep hb.block)((Ak.own_zero w w.heap.size T.kind).keep hb.block)hb.size(by have:=hb.size;omega)hfit;rw [hrr,hzr]at h;exact h)(λW hb=>Tryz.isChoice_any T.cs a7 c7 T.a e W((he7.keep hb.block).wider hb.size)(hO.below hb hO.lt)hF.c(by have:=hF.cl;omega))
theorem Tryz.aformed_8(d e:Nat)(T:Ac)(V:Ac.Vs)(w:World)(hT:Ac.Lies w w.heap.size e d V T)(hF:T.Fit)(hO:Tk.Ops w)(h0:0<w.heap.size)(hk:T.kind=8):
  Calls Tryz.prog 48 #[.agg(Ac.row T V)]w λe w'=>Ak.Told(T.holdsB=true/\(0<=T.node/\T.node<24)/\T.cs.length=T.ks.length/\Ac.choiceB T.cs T.a=true/\(0<=T.a/\T.a<(T.cs.length:Int))/\2<=T.ks.length/\Ac.Same1 T.rest(Ac.zeroOf T.kind)/\True)e/\Below w.heap.size w w':=by
 obtain⟨a6,c6,a7,c7,a8,c8,a9,c9,aA,cA,aB,cB,rfl⟩:=hT.shape;have he7:Ac.Tms w w.heap.size e a7 T.cs:=Ak.tms_of hT.own;have he9:Ac.Lks w w.heap.size a9 T.ls:=Ak.lks_of hT.own;have heA:Nt.Nds w w.heap.size e aA T.ns:=Ak.nds_of hT.own;have heB:Nt.Fls w w.heap.size e aB T.fs:=Ak.fls_of hT.own;have hrow:Ac.row T⟨.slice a6 T.t.ks.length c6, .slice a7 T.cs.length c7, .slice a8 T.ks.length c8, .slice a9 T.ls.length c9, .slice aA T.ns.length cA, .slice aB T.fs.length cB⟩= #[.int .i64 8, .int .i64 T.node, .int .i64 T.a, .int .i64 T.b, .int .i64 T.t.op, .int .i64 T.t.num, .slice a6 T.t.ks.length c6, .slice a7 T.cs.length c7, .slice a8 T.ks.length c8, .slice a9 T.ls.length c9, .slice aA T.ns.length cA, .slice aB T.fs.length cB]:=by unfold Ac.row;rw [hk]
 have hrest:T.rest= .mk 8 0 0 T.b T.t [] []T.ls T.ns T.fs:=by
  unfold Ac.rest;rw [hk]
  first|rfl|simp
 have hown:Ac.Own w w.heap.size(e+1)⟨.slice a6 T.t.ks.length c6, .slice none 0 0, .slice none 0 0, .slice a9 T.ls.length c9, .slice aA T.ns.length cA, .slice aB T.fs.length cB⟩T.rest:=by
  rw [hrest];exact⟨Ak.lies_up hT.own.t,⟨_,_,rfl,λj h=>by simp [Ac.cs]at h⟩,⟨_,_,rfl,he9⟩,⟨_,_,rfl,Ak.nds_up heA⟩,⟨_,_,rfl,Ak.fls_up heB⟩⟩
 have hfit:T.rest.Fit:=by
  rw [hrest];exact⟨hF.t,(λx h=>by cases h),hF.n,hF.f,Nat.zero_le _,Nat.zero_le _,hF.ll,hF.nl,hF.fl⟩
 have hrr:Ac.row T.rest⟨.slice a6 T.t.ks.length c6, .slice none 0 0, .slice none 0 0, .slice a9 T.ls.length c9, .slice aA T.ns.length cA, .slice aB T.fs.length cB⟩= #[.int .i64 8, .int .i64 0, .int .i64 0, .int .i64 T.b, .int .i64 T.t.op, .int .i64 T.t.num, .slice a6 T.t.ks.length c6, .slice none 0 0, .slice none 0 0, .slice a9 T.ls.length c9, .slice aA T.ns.length cA, .slice aB T.fs.length cB]:=by rw [hrest];unfold Ac.row;rfl
 have hzr:Ac.row(Ac.zeroOf T.kind)Ac.V0= #[.int .i64 8, .int .i64 0, .int .i64 0, .int .i64 0, .int .i64 0, .int .i64 0, .slice none 0 0, .slice none 0 0, .slice none 0 0, .slice none 0 0, .slice none 0 0, .slice none 0 0]:=by rw [hk];rfl
 exact hrow▸Tryz.fm_8 T.node T.a T.b T.t.op T.t.num a6 a7 a8 a9 aA aB T.t.ks.length c6 T.cs.length c7 T.ks.length c8 T.ls.length c9 T.ns.length cA T.fs.length cB w T.holdsB(Ac.Same1 T.rest(Ac.zeroOf T.kind))((Ac.choiceB T.cs T.a))hF.cl hF.kl
  (λW hb=>by have h:=Tryz.holds_any d e T _ W((hT.below hb).wider hb.size)(by have:=hF.kl;omega);rw [hrow]at h;exact h)
  (λW hb=>by have h:=Tryz.aalike_any(e+1)1 w.heap.size T.rest(Ac.zeroOf T.kind)_ Ac.V0 W(hown.keep hb.block)((Ak.own_zero w w.heap.size T.kind).keep hb.block)hb.size(by have:=hb.size;omega)hfit;rw [hrr,hzr]at h;exact h)(λW hb=>Tryz.isChoice_any T.cs a7 c7 T.a e W((he7.keep hb.block).wider hb.size)(hO.below hb hO.lt)hF.c(by have:=hF.cl;omega))
theorem Tryz.aformed_9(d e:Nat)(T:Ac)(V:Ac.Vs)(w:World)(hT:Ac.Lies w w.heap.size e d V T)(hF:T.Fit)(_hO:Tk.Ops w)(h0:0<w.heap.size)(hk:T.kind=9):
  Calls Tryz.prog 48 #[.agg(Ac.row T V)]w λe w'=>Ak.Told(T.holdsB=true/\(0<=T.node/\T.node<24)/\2<=T.ks.length/\Ac.Same1 T.rest(Ac.zeroOf T.kind)/\True)e/\Below w.heap.size w w':=by
 obtain⟨a6,c6,a7,c7,a8,c8,a9,c9,aA,cA,aB,cB,rfl⟩:=hT.shape;have he7:Ac.Tms w w.heap.size e a7 T.cs:=Ak.tms_of hT.own;have he9:Ac.Lks w w.heap.size a9 T.ls:=Ak.lks_of hT.own;have heA:Nt.Nds w w.heap.size e aA T.ns:=Ak.nds_of hT.own;have heB:Nt.Fls w w.heap.size e aB T.fs:=Ak.fls_of hT.own;have hrow:Ac.row T⟨.slice a6 T.t.ks.length c6, .slice a7 T.cs.length c7, .slice a8 T.ks.length c8, .slice a9 T.ls.length c9, .slice aA T.ns.length cA, .slice aB T.fs.length cB⟩= #[.int .i64 9, .int .i64 T.node, .int .i64 T.a, .int .i64 T.b, .int .i64 T.t.op, .int .i64 T.t.num, .slice a6 T.t.ks.length c6, .slice a7 T.cs.length c7, .slice a8 T.ks.length c8, .slice a9 T.ls.length c9, .slice aA T.ns.length cA, .slice aB T.fs.length cB]:=by unfold Ac.row;rw [hk]
 have hrest:T.rest= .mk 9 0 T.a T.b T.t T.cs []T.ls T.ns T.fs:=by
  unfold Ac.rest;rw [hk]
  first|rfl|simp
 have hown:Ac.Own w w.heap.size(e+1)⟨.slice a6 T.t.ks.length c6, .slice a7 T.cs.length c7, .slice none 0 0, .slice a9 T.ls.length c9, .slice aA T.ns.length cA, .slice aB T.fs.length cB⟩T.rest:=by
  rw [hrest];exact⟨Ak.lies_up hT.own.t,⟨_,_,rfl,Ak.tms_up he7⟩,⟨_,_,rfl,he9⟩,⟨_,_,rfl,Ak.nds_up heA⟩,⟨_,_,rfl,Ak.fls_up heB⟩⟩
 have hfit:T.rest.Fit:=by
  rw [hrest];exact⟨hF.t,hF.c,hF.n,hF.f,hF.cl,Nat.zero_le _,hF.ll,hF.nl,hF.fl⟩
 have hrr:Ac.row T.rest⟨.slice a6 T.t.ks.length c6, .slice a7 T.cs.length c7, .slice none 0 0, .slice a9 T.ls.length c9, .slice aA T.ns.length cA, .slice aB T.fs.length cB⟩= #[.int .i64 9, .int .i64 0, .int .i64 T.a, .int .i64 T.b, .int .i64 T.t.op, .int .i64 T.t.num, .slice a6 T.t.ks.length c6, .slice a7 T.cs.length c7, .slice none 0 0, .slice a9 T.ls.length c9, .slice aA T.ns.length cA, .slice aB T.fs.length cB]:=by rw [hrest];unfold Ac.row;rfl
 have hzr:Ac.row(Ac.zeroOf T.kind)Ac.V0= #[.int .i64 9, .int .i64 0, .int .i64 0, .int .i64 0, .int .i64 0, .int .i64 0, .slice none 0 0, .slice none 0 0, .slice none 0 0, .slice none 0 0, .slice none 0 0, .slice none 0 0]:=by rw [hk];rfl
 exact hrow▸Tryz.fm_9 T.node T.a T.b T.t.op T.t.num a6 a7 a8 a9 aA aB T.t.ks.length c6 T.cs.length c7 T.ks.length c8 T.ls.length c9 T.ns.length cA T.fs.length cB w T.holdsB(Ac.Same1 T.rest(Ac.zeroOf T.kind))hF.cl hF.kl
  (λW hb=>by have h:=Tryz.holds_any d e T _ W((hT.below hb).wider hb.size)(by have:=hF.kl;omega);rw [hrow]at h;exact h)
  (λW hb=>by have h:=Tryz.aalike_any(e+1)1 w.heap.size T.rest(Ac.zeroOf T.kind)_ Ac.V0 W(hown.keep hb.block)((Ak.own_zero w w.heap.size T.kind).keep hb.block)hb.size(by have:=hb.size;omega)hfit;rw [hrr,hzr]at h;exact h)
theorem Tryz.aformed_6(d e:Nat)(T:Ac)(V:Ac.Vs)(w:World)(hT:Ac.Lies w w.heap.size e d V T)(hF:T.Fit)(_hO:Tk.Ops w)(h0:0<w.heap.size)(hk:T.kind=6):
  Calls Tryz.prog 48 #[.agg(Ac.row T V)]w λe w'=>Ak.Told(T.holdsB=true/\2<=T.ks.length/\Ac.Same1 T.rest(Ac.zeroOf T.kind)/\True)e/\Below w.heap.size w w':=by
 obtain⟨a6,c6,a7,c7,a8,c8,a9,c9,aA,cA,aB,cB,rfl⟩:=hT.shape;have he7:Ac.Tms w w.heap.size e a7 T.cs:=Ak.tms_of hT.own;have he9:Ac.Lks w w.heap.size a9 T.ls:=Ak.lks_of hT.own;have heA:Nt.Nds w w.heap.size e aA T.ns:=Ak.nds_of hT.own;have heB:Nt.Fls w w.heap.size e aB T.fs:=Ak.fls_of hT.own;have hrow:Ac.row T⟨.slice a6 T.t.ks.length c6, .slice a7 T.cs.length c7, .slice a8 T.ks.length c8, .slice a9 T.ls.length c9, .slice aA T.ns.length cA, .slice aB T.fs.length cB⟩= #[.int .i64 6, .int .i64 T.node, .int .i64 T.a, .int .i64 T.b, .int .i64 T.t.op, .int .i64 T.t.num, .slice a6 T.t.ks.length c6, .slice a7 T.cs.length c7, .slice a8 T.ks.length c8, .slice a9 T.ls.length c9, .slice aA T.ns.length cA, .slice aB T.fs.length cB]:=by unfold Ac.row;rw [hk]
 have hrest:T.rest= .mk 6 T.node T.a T.b T.t T.cs []T.ls T.ns T.fs:=by
  unfold Ac.rest;rw [hk]
  first|rfl|simp
 have hown:Ac.Own w w.heap.size(e+1)⟨.slice a6 T.t.ks.length c6, .slice a7 T.cs.length c7, .slice none 0 0, .slice a9 T.ls.length c9, .slice aA T.ns.length cA, .slice aB T.fs.length cB⟩T.rest:=by
  rw [hrest];exact⟨Ak.lies_up hT.own.t,⟨_,_,rfl,Ak.tms_up he7⟩,⟨_,_,rfl,he9⟩,⟨_,_,rfl,Ak.nds_up heA⟩,⟨_,_,rfl,Ak.fls_up heB⟩⟩
 have hfit:T.rest.Fit:=by
  rw [hrest];exact⟨hF.t,hF.c,hF.n,hF.f,hF.cl,Nat.zero_le _,hF.ll,hF.nl,hF.fl⟩
 have hrr:Ac.row T.rest⟨.slice a6 T.t.ks.length c6, .slice a7 T.cs.length c7, .slice none 0 0, .slice a9 T.ls.length c9, .slice aA T.ns.length cA, .slice aB T.fs.length cB⟩= #[.int .i64 6, .int .i64 T.node, .int .i64 T.a, .int .i64 T.b, .int .i64 T.t.op, .int .i64 T.t.num, .slice a6 T.t.ks.length c6, .slice a7 T.cs.length c7, .slice none 0 0, .slice a9 T.ls.length c9, .slice aA T.ns.length cA, .slice aB T.fs.length cB]:=by rw [hrest];unfold Ac.row;rfl
 have hzr:Ac.row(Ac.zeroOf T.kind)Ac.V0= #[.int .i64 6, .int .i64 0, .int .i64 0, .int .i64 0, .int .i64 0, .int .i64 0, .slice none 0 0, .slice none 0 0, .slice none 0 0, .slice none 0 0, .slice none 0 0, .slice none 0 0]:=by rw [hk];rfl
 exact hrow▸Tryz.fm_6 T.node T.a T.b T.t.op T.t.num a6 a7 a8 a9 aA aB T.t.ks.length c6 T.cs.length c7 T.ks.length c8 T.ls.length c9 T.ns.length cA T.fs.length cB w T.holdsB(Ac.Same1 T.rest(Ac.zeroOf T.kind))hF.cl hF.kl
  (λW hb=>by have h:=Tryz.holds_any d e T _ W((hT.below hb).wider hb.size)(by have:=hF.kl;omega);rw [hrow]at h;exact h)
  (λW hb=>by have h:=Tryz.aalike_any(e+1)1 w.heap.size T.rest(Ac.zeroOf T.kind)_ Ac.V0 W(hown.keep hb.block)((Ak.own_zero w w.heap.size T.kind).keep hb.block)hb.size(by have:=hb.size;omega)hfit;rw [hrr,hzr]at h;exact h)
theorem Tryz.aformed_7(d e:Nat)(T:Ac)(V:Ac.Vs)(w:World)(hT:Ac.Lies w w.heap.size e d V T)(hF:T.Fit)(_hO:Tk.Ops w)(h0:0<w.heap.size)(hk:T.kind=7):
  Calls Tryz.prog 48 #[.agg(Ac.row T V)]w λe w'=>Ak.Told(T.holdsB=true/\2<=T.ks.length/\Ac.Same1 T.rest(Ac.zeroOf T.kind)/\True)e/\Below w.heap.size w w':=by
 obtain⟨a6,c6,a7,c7,a8,c8,a9,c9,aA,cA,aB,cB,rfl⟩:=hT.shape;have he7:Ac.Tms w w.heap.size e a7 T.cs:=Ak.tms_of hT.own;have he9:Ac.Lks w w.heap.size a9 T.ls:=Ak.lks_of hT.own;have heA:Nt.Nds w w.heap.size e aA T.ns:=Ak.nds_of hT.own;have heB:Nt.Fls w w.heap.size e aB T.fs:=Ak.fls_of hT.own;have hrow:Ac.row T⟨.slice a6 T.t.ks.length c6, .slice a7 T.cs.length c7, .slice a8 T.ks.length c8, .slice a9 T.ls.length c9, .slice aA T.ns.length cA, .slice aB T.fs.length cB⟩= #[.int .i64 7, .int .i64 T.node, .int .i64 T.a, .int .i64 T.b, .int .i64 T.t.op, .int .i64 T.t.num, .slice a6 T.t.ks.length c6, .slice a7 T.cs.length c7, .slice a8 T.ks.length c8, .slice a9 T.ls.length c9, .slice aA T.ns.length cA, .slice aB T.fs.length cB]:=by unfold Ac.row;rw [hk]
 have hrest:T.rest= .mk 7 T.node T.a T.b T.t T.cs []T.ls T.ns T.fs:=by
  unfold Ac.rest;rw [hk]
  first|rfl|simp
 have hown:Ac.Own w w.heap.size(e+1)⟨.slice a6 T.t.ks.length c6, .slice a7 T.cs.length c7, .slice none 0 0, .slice a9 T.ls.length c9, .slice aA T.ns.length cA, .slice aB T.fs.length cB⟩T.rest:=by
  rw [hrest];exact⟨Ak.lies_up hT.own.t,⟨_,_,rfl,Ak.tms_up he7⟩,⟨_,_,rfl,he9⟩,⟨_,_,rfl,Ak.nds_up heA⟩,⟨_,_,rfl,Ak.fls_up heB⟩⟩
 have hfit:T.rest.Fit:=by
  rw [hrest];exact⟨hF.t,hF.c,hF.n,hF.f,hF.cl,Nat.zero_le _,hF.ll,hF.nl,hF.fl⟩
 have hrr:Ac.row T.rest⟨.slice a6 T.t.ks.length c6, .slice a7 T.cs.length c7, .slice none 0 0, .slice a9 T.ls.length c9, .slice aA T.ns.length cA, .slice aB T.fs.length cB⟩= #[.int .i64 7, .int .i64 T.node, .int .i64 T.a, .int .i64 T.b, .int .i64 T.t.op, .int .i64 T.t.num, .slice a6 T.t.ks.length c6, .slice a7 T.cs.length c7, .slice none 0 0, .slice a9 T.ls.length c9, .slice aA T.ns.length cA, .slice aB T.fs.length cB]:=by rw [hrest];unfold Ac.row;rfl
 have hzr:Ac.row(Ac.zeroOf T.kind)Ac.V0= #[.int .i64 7, .int .i64 0, .int .i64 0, .int .i64 0, .int .i64 0, .int .i64 0, .slice none 0 0, .slice none 0 0, .slice none 0 0, .slice none 0 0, .slice none 0 0, .slice none 0 0]:=by rw [hk];rfl
 exact hrow▸Tryz.fm_7 T.node T.a T.b T.t.op T.t.num a6 a7 a8 a9 aA aB T.t.ks.length c6 T.cs.length c7 T.ks.length c8 T.ls.length c9 T.ns.length cA T.fs.length cB w T.holdsB(Ac.Same1 T.rest(Ac.zeroOf T.kind))hF.cl hF.kl
  (λW hb=>by have h:=Tryz.holds_any d e T _ W((hT.below hb).wider hb.size)(by have:=hF.kl;omega);rw [hrow]at h;exact h)
  (λW hb=>by have h:=Tryz.aalike_any(e+1)1 w.heap.size T.rest(Ac.zeroOf T.kind)_ Ac.V0 W(hown.keep hb.block)((Ak.own_zero w w.heap.size T.kind).keep hb.block)hb.size(by have:=hb.size;omega)hfit;rw [hrr,hzr]at h;exact h)
theorem Tryz.aformed_12a(d e:Nat)(T:Ac)(V:Ac.Vs)(w:World)(hT:Ac.Lies w w.heap.size e d V T)(hF:T.Fit)(hO:Tk.Ops w)(h0:0<w.heap.size)(hk:T.kind=12)(ha:T.a=3):
  Calls Tryz.prog 48 #[.agg(Ac.row T V)]w λe w'=>Ak.Told(T.holdsB=true/\(0<=T.node/\T.node<24)/\2<=T.cs.length/\Ac.choiceB T.cs T.b=true/\(0<=T.b/\T.b<(T.cs.length:Int))/\True/\True/\Ac.Same1 T.rest(Ac.zeroOf T.kind)/\T.ks.length=0)e/\Below w.heap.size w w':=by
 obtain⟨a6,c6,a7,c7,a8,c8,a9,c9,aA,cA,aB,cB,rfl⟩:=hT.shape;have he7:Ac.Tms w w.heap.size e a7 T.cs:=Ak.tms_of hT.own;have he9:Ac.Lks w w.heap.size a9 T.ls:=Ak.lks_of hT.own;have heA:Nt.Nds w w.heap.size e aA T.ns:=Ak.nds_of hT.own;have heB:Nt.Fls w w.heap.size e aB T.fs:=Ak.fls_of hT.own;have hrow:Ac.row T⟨.slice a6 T.t.ks.length c6, .slice a7 T.cs.length c7, .slice a8 T.ks.length c8, .slice a9 T.ls.length c9, .slice aA T.ns.length cA, .slice aB T.fs.length cB⟩= #[.int .i64 12, .int .i64 T.node, .int .i64 3, .int .i64 T.b, .int .i64 T.t.op, .int .i64 T.t.num, .slice a6 T.t.ks.length c6, .slice a7 T.cs.length c7, .slice a8 T.ks.length c8, .slice a9 T.ls.length c9, .slice aA T.ns.length cA, .slice aB T.fs.length cB]:=by unfold Ac.row;rw [hk,ha]
 have hrest:T.rest= .mk 12 0 0 0 T.t []T.ks T.ls T.ns T.fs:=by
  unfold Ac.rest;rw [hk,ha]
  first|rfl|simp
 have hown:Ac.Own w w.heap.size(e+1)⟨.slice a6 T.t.ks.length c6, .slice none 0 0, .slice a8 T.ks.length c8, .slice a9 T.ls.length c9, .slice aA T.ns.length cA, .slice aB T.fs.length cB⟩T.rest:=by
  rw [hrest];exact⟨Ak.lies_up hT.own.t,⟨_,_,rfl,λj h=>by simp [Ac.cs]at h⟩,⟨_,_,rfl,he9⟩,⟨_,_,rfl,Ak.nds_up heA⟩,⟨_,_,rfl,Ak.fls_up heB⟩⟩
 have hfit:T.rest.Fit:=by
  rw [hrest];exact⟨hF.t,(λx h=>by cases h),hF.n,hF.f,Nat.zero_le _,hF.kl,hF.ll,hF.nl,hF.fl⟩
 have hrr:Ac.row T.rest⟨.slice a6 T.t.ks.length c6, .slice none 0 0, .slice a8 T.ks.length c8, .slice a9 T.ls.length c9, .slice aA T.ns.length cA, .slice aB T.fs.length cB⟩= #[.int .i64 12, .int .i64 0, .int .i64 0, .int .i64 0, .int .i64 T.t.op, .int .i64 T.t.num, .slice a6 T.t.ks.length c6, .slice none 0 0, .slice a8 T.ks.length c8, .slice a9 T.ls.length c9, .slice aA T.ns.length cA, .slice aB T.fs.length cB]:=by rw [hrest];unfold Ac.row;rfl
 have hzr:Ac.row(Ac.zeroOf T.kind)Ac.V0= #[.int .i64 12, .int .i64 0, .int .i64 0, .int .i64 0, .int .i64 0, .int .i64 0, .slice none 0 0, .slice none 0 0, .slice none 0 0, .slice none 0 0, .slice none 0 0, .slice none 0 0]:=by rw [hk];rfl
 exact hrow▸Tryz.fm_12a T.node T.b T.t.op T.t.num a6 a7 a8 a9 aA aB T.t.ks.length c6 T.cs.length c7 T.ks.length c8 T.ls.length c9 T.ns.length cA T.fs.length cB w T.holdsB(Ac.Same1 T.rest(Ac.zeroOf T.kind))((Ac.choiceB T.cs T.b))hF.cl hF.kl
  (λW hb=>by have h:=Tryz.holds_any d e T _ W((hT.below hb).wider hb.size)(by have:=hF.kl;omega);rw [hrow]at h;exact h)
  (λW hb=>by have h:=Tryz.aalike_any(e+1)1 w.heap.size T.rest(Ac.zeroOf T.kind)_ Ac.V0 W(hown.keep hb.block)((Ak.own_zero w w.heap.size T.kind).keep hb.block)hb.size(by have:=hb.size;omega)hfit;rw [hrr,hzr]at h;exact h)(λW hb=>Tryz.isChoice_any T.cs a7 c7 T.b e W((he7.keep hb.block).wider hb.size)(hO.below hb hO.lt)hF.c(by have:=hF.cl;omega))
theorem Tryz.aformed_12b(d e:Nat)(T:Ac)(V:Ac.Vs)(w:World)(hT:Ac.Lies w w.heap.size e d V T)(hF:T.Fit)(_hO:Tk.Ops w)(h0:0<w.heap.size)(hk:T.kind=12)(ha: ¬T.a=3):
  Calls Tryz.prog 48 #[.agg(Ac.row T V)]w λe w'=>Ak.Told(T.holdsB=true/\(0<=T.node/\T.node<24)/\1<=T.a/\(0<=T.a/\T.a<5)/\Ac.Same1 T.rest(Ac.zeroOf T.kind)/\T.ks.length=0)e/\Below w.heap.size w w':=by
 obtain⟨a6,c6,a7,c7,a8,c8,a9,c9,aA,cA,aB,cB,rfl⟩:=hT.shape;have he7:Ac.Tms w w.heap.size e a7 T.cs:=Ak.tms_of hT.own;have he9:Ac.Lks w w.heap.size a9 T.ls:=Ak.lks_of hT.own;have heA:Nt.Nds w w.heap.size e aA T.ns:=Ak.nds_of hT.own;have heB:Nt.Fls w w.heap.size e aB T.fs:=Ak.fls_of hT.own;have hrow:Ac.row T⟨.slice a6 T.t.ks.length c6, .slice a7 T.cs.length c7, .slice a8 T.ks.length c8, .slice a9 T.ls.length c9, .slice aA T.ns.length cA, .slice aB T.fs.length cB⟩= #[.int .i64 12, .int .i64 T.node, .int .i64 T.a, .int .i64 T.b, .int .i64 T.t.op, .int .i64 T.t.num, .slice a6 T.t.ks.length c6, .slice a7 T.cs.length c7, .slice a8 T.ks.length c8, .slice a9 T.ls.length c9, .slice aA T.ns.length cA, .slice aB T.fs.length cB]:=by unfold Ac.row;rw [hk]
 have hrest:T.rest= .mk 12 0 0 T.b T.t T.cs T.ks T.ls T.ns T.fs:=by
  unfold Ac.rest;rw [hk];simp [ha]
 have hown:Ac.Own w w.heap.size(e+1)⟨.slice a6 T.t.ks.length c6, .slice a7 T.cs.length c7, .slice a8 T.ks.length c8, .slice a9 T.ls.length c9, .slice aA T.ns.length cA, .slice aB T.fs.length cB⟩T.rest:=by
  rw [hrest];exact⟨Ak.lies_up hT.own.t,⟨_,_,rfl,Ak.tms_up he7⟩,⟨_,_,rfl,he9⟩,⟨_,_,rfl,Ak.nds_up heA⟩,⟨_,_,rfl,Ak.fls_up heB⟩⟩
 have hfit:T.rest.Fit:=by
  rw [hrest];exact⟨hF.t,hF.c,hF.n,hF.f,hF.cl,hF.kl,hF.ll,hF.nl,hF.fl⟩
 have hrr:Ac.row T.rest⟨.slice a6 T.t.ks.length c6, .slice a7 T.cs.length c7, .slice a8 T.ks.length c8, .slice a9 T.ls.length c9, .slice aA T.ns.length cA, .slice aB T.fs.length cB⟩= #[.int .i64 12, .int .i64 0, .int .i64 0, .int .i64 T.b, .int .i64 T.t.op, .int .i64 T.t.num, .slice a6 T.t.ks.length c6, .slice a7 T.cs.length c7, .slice a8 T.ks.length c8, .slice a9 T.ls.length c9, .slice aA T.ns.length cA, .slice aB T.fs.length cB]:=by rw [hrest];unfold Ac.row;rfl
 have hzr:Ac.row(Ac.zeroOf T.kind)Ac.V0= #[.int .i64 12, .int .i64 0, .int .i64 0, .int .i64 0, .int .i64 0, .int .i64 0, .slice none 0 0, .slice none 0 0, .slice none 0 0, .slice none 0 0, .slice none 0 0, .slice none 0 0]:=by rw [hk];rfl
 exact hrow▸Tryz.fm_12b T.node T.a T.b T.t.op T.t.num a6 a7 a8 a9 aA aB T.t.ks.length c6 T.cs.length c7 T.ks.length c8 T.ls.length c9 T.ns.length cA T.fs.length cB w T.holdsB(Ac.Same1 T.rest(Ac.zeroOf T.kind))hF.cl hF.kl
  (λW hb=>by have h:=Tryz.holds_any d e T _ W((hT.below hb).wider hb.size)(by have:=hF.kl;omega);rw [hrow]at h;exact h)
  (λW hb=>by have h:=Tryz.aalike_any(e+1)1 w.heap.size T.rest(Ac.zeroOf T.kind)_ Ac.V0 W(hown.keep hb.block)((Ak.own_zero w w.heap.size T.kind).keep hb.block)hb.size(by have:=hb.size;omega)hfit;rw [hrr,hzr]at h;exact h)ha
theorem Tryz.aformed_13(d e:Nat)(T:Ac)(V:Ac.Vs)(w:World)(hT:Ac.Lies w w.heap.size e d V T)(hF:T.Fit)(_hO:Tk.Ops w)(h0:0<w.heap.size)(hk:T.kind=13):
  Calls Tryz.prog 48 #[.agg(Ac.row T V)]w λe w'=>Ak.Told(T.holdsB=true/\T.linkedB=true/\Ac.Same1 T.rest(Ac.zeroOf T.kind)/\True)e/\Below w.heap.size w w':=by
 obtain⟨a6,c6,a7,c7,a8,c8,a9,c9,aA,cA,aB,cB,rfl⟩:=hT.shape;have he7:Ac.Tms w w.heap.size e a7 T.cs:=Ak.tms_of hT.own;have he9:Ac.Lks w w.heap.size a9 T.ls:=Ak.lks_of hT.own;have heA:Nt.Nds w w.heap.size e aA T.ns:=Ak.nds_of hT.own;have heB:Nt.Fls w w.heap.size e aB T.fs:=Ak.fls_of hT.own;have hrow:Ac.row T⟨.slice a6 T.t.ks.length c6, .slice a7 T.cs.length c7, .slice a8 T.ks.length c8, .slice a9 T.ls.length c9, .slice aA T.ns.length cA, .slice aB T.fs.length cB⟩= #[.int .i64 13, .int .i64 T.node, .int .i64 T.a, .int .i64 T.b, .int .i64 T.t.op, .int .i64 T.t.num, .slice a6 T.t.ks.length c6, .slice a7 T.cs.length c7, .slice a8 T.ks.length c8, .slice a9 T.ls.length c9, .slice aA T.ns.length cA, .slice aB T.fs.length cB]:=by unfold Ac.row;rw [hk]
 have hrest:T.rest= .mk 13 T.node T.a T.b T.t T.cs [] []T.ns T.fs:=by
  unfold Ac.rest;rw [hk]
  first|rfl|simp
 have hown:Ac.Own w w.heap.size(e+1)⟨.slice a6 T.t.ks.length c6, .slice a7 T.cs.length c7, .slice none 0 0, .slice none 0 0, .slice aA T.ns.length cA, .slice aB T.fs.length cB⟩T.rest:=by
  rw [hrest];exact⟨Ak.lies_up hT.own.t,⟨_,_,rfl,Ak.tms_up he7⟩,⟨_,_,rfl,λj h=>by simp [Ac.ls]at h⟩,⟨_,_,rfl,Ak.nds_up heA⟩,⟨_,_,rfl,Ak.fls_up heB⟩⟩
 have hfit:T.rest.Fit:=by
  rw [hrest];exact⟨hF.t,hF.c,hF.n,hF.f,hF.cl,Nat.zero_le _,Nat.zero_le _,hF.nl,hF.fl⟩
 have hrr:Ac.row T.rest⟨.slice a6 T.t.ks.length c6, .slice a7 T.cs.length c7, .slice none 0 0, .slice none 0 0, .slice aA T.ns.length cA, .slice aB T.fs.length cB⟩= #[.int .i64 13, .int .i64 T.node, .int .i64 T.a, .int .i64 T.b, .int .i64 T.t.op, .int .i64 T.t.num, .slice a6 T.t.ks.length c6, .slice a7 T.cs.length c7, .slice none 0 0, .slice none 0 0, .slice aA T.ns.length cA, .slice aB T.fs.length cB]:=by rw [hrest];unfold Ac.row;rfl
 have hzr:Ac.row(Ac.zeroOf T.kind)Ac.V0= #[.int .i64 13, .int .i64 0, .int .i64 0, .int .i64 0, .int .i64 0, .int .i64 0, .slice none 0 0, .slice none 0 0, .slice none 0 0, .slice none 0 0, .slice none 0 0, .slice none 0 0]:=by rw [hk];rfl
 exact hrow▸Tryz.fm_13 T.node T.a T.b T.t.op T.t.num a6 a7 a8 a9 aA aB T.t.ks.length c6 T.cs.length c7 T.ks.length c8 T.ls.length c9 T.ns.length cA T.fs.length cB w T.holdsB(Ac.Same1 T.rest(Ac.zeroOf T.kind))(T.linkedB)hF.cl hF.kl
  (λW hb=>by have h:=Tryz.holds_any d e T _ W((hT.below hb).wider hb.size)(by have:=hF.kl;omega);rw [hrow]at h;exact h)
  (λW hb=>by have h:=Tryz.aalike_any(e+1)1 w.heap.size T.rest(Ac.zeroOf T.kind)_ Ac.V0 W(hown.keep hb.block)((Ak.own_zero w w.heap.size T.kind).keep hb.block)hb.size(by have:=hb.size;omega)hfit;rw [hrr,hzr]at h;exact h)(λW hb=>by have h:=Tryz.isLinked_any d e T _ W((hT.below hb).wider hb.size)hF;rw [hrow]at h;exact h)
theorem Tryz.aformed_14(d e:Nat)(T:Ac)(V:Ac.Vs)(w:World)(hT:Ac.Lies w w.heap.size e d V T)(hF:T.Fit)(hO:Tk.Ops w)(h0:0<w.heap.size)(hk:T.kind=14):
  Calls Tryz.prog 48 #[.agg(Ac.row T V)]w λe w'=>Ak.Told(T.holdsB=true/\(Nt.checkN T.ns T.fs).1=0/\Ac.Same1 T.rest(Ac.zeroOf T.kind)/\T.ks.length=0)e/\Below w.heap.size w w':=by
 obtain⟨a6,c6,a7,c7,a8,c8,a9,c9,aA,cA,aB,cB,rfl⟩:=hT.shape;have he7:Ac.Tms w w.heap.size e a7 T.cs:=Ak.tms_of hT.own;have he9:Ac.Lks w w.heap.size a9 T.ls:=Ak.lks_of hT.own;have heA:Nt.Nds w w.heap.size e aA T.ns:=Ak.nds_of hT.own;have heB:Nt.Fls w w.heap.size e aB T.fs:=Ak.fls_of hT.own;have hrow:Ac.row T⟨.slice a6 T.t.ks.length c6, .slice a7 T.cs.length c7, .slice a8 T.ks.length c8, .slice a9 T.ls.length c9, .slice aA T.ns.length cA, .slice aB T.fs.length cB⟩= #[.int .i64 14, .int .i64 T.node, .int .i64 T.a, .int .i64 T.b, .int .i64 T.t.op, .int .i64 T.t.num, .slice a6 T.t.ks.length c6, .slice a7 T.cs.length c7, .slice a8 T.ks.length c8, .slice a9 T.ls.length c9, .slice aA T.ns.length cA, .slice aB T.fs.length cB]:=by unfold Ac.row;rw [hk]
 have hrest:T.rest= .mk 14 T.node T.a T.b T.t T.cs T.ks T.ls [] []:=by
  unfold Ac.rest;rw [hk]
  first|rfl|simp
 have hown:Ac.Own w w.heap.size(e+1)⟨.slice a6 T.t.ks.length c6, .slice a7 T.cs.length c7, .slice a8 T.ks.length c8, .slice a9 T.ls.length c9, .slice none 0 0, .slice none 0 0⟩T.rest:=by
  rw [hrest];exact⟨Ak.lies_up hT.own.t,⟨_,_,rfl,Ak.tms_up he7⟩,⟨_,_,rfl,he9⟩,⟨_,_,rfl,λj h=>by simp [Ac.ns]at h⟩,⟨_,_,rfl,λj h=>by simp [Ac.fs]at h⟩⟩
 have hfit:T.rest.Fit:=by
  rw [hrest];exact⟨hF.t,hF.c,(λx h=>by cases h),(λx h=>by cases h),hF.cl,hF.kl,hF.ll,Nat.zero_le _,Nat.zero_le _⟩
 have hrr:Ac.row T.rest⟨.slice a6 T.t.ks.length c6, .slice a7 T.cs.length c7, .slice a8 T.ks.length c8, .slice a9 T.ls.length c9, .slice none 0 0, .slice none 0 0⟩= #[.int .i64 14, .int .i64 T.node, .int .i64 T.a, .int .i64 T.b, .int .i64 T.t.op, .int .i64 T.t.num, .slice a6 T.t.ks.length c6, .slice a7 T.cs.length c7, .slice a8 T.ks.length c8, .slice a9 T.ls.length c9, .slice none 0 0, .slice none 0 0]:=by rw [hrest];unfold Ac.row;rfl
 have hzr:Ac.row(Ac.zeroOf T.kind)Ac.V0= #[.int .i64 14, .int .i64 0, .int .i64 0, .int .i64 0, .int .i64 0, .int .i64 0, .slice none 0 0, .slice none 0 0, .slice none 0 0, .slice none 0 0, .slice none 0 0, .slice none 0 0]:=by rw [hk];rfl
 exact hrow▸Tryz.fm_14 T.node T.a T.b T.t.op T.t.num a6 a7 a8 a9 aA aB T.t.ks.length c6 T.cs.length c7 T.ks.length c8 T.ls.length c9 T.ns.length cA T.fs.length cB w T.holdsB(Ac.Same1 T.rest(Ac.zeroOf T.kind))(Nt.checkN T.ns T.fs).1(Nt.checkN T.ns T.fs).2 hF.cl hF.kl
  (λW hb=>by have h:=Tryz.holds_any d e T _ W((hT.below hb).wider hb.size)(by have:=hF.kl;omega);rw [hrow]at h;exact h)
  (λW hb=>by have h:=Tryz.aalike_any(e+1)1 w.heap.size T.rest(Ac.zeroOf T.kind)_ Ac.V0 W(hown.keep hb.block)((Ak.own_zero w w.heap.size T.kind).keep hb.block)hb.size(by have:=hb.size;omega)hfit;rw [hrr,hzr]at h;exact h)(λW hb=>Tryz.nCheck_any aA cA aB cB e T.ns T.fs W⟨(Ac.nds_keep heA hb.block).wider hb.size,(Ac.fls_keep heB hb.block).wider hb.size,hF.nl,hF.fl,λx h=>(hF.n x h).1,λx h=>(hF.f x h).1⟩(hO.below hb hO.lt))
end Go.Proofs
