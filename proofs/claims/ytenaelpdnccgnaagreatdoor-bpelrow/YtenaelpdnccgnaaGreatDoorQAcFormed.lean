import Derived.Test.YtenaelpdnccgnaaGreatDoorQAcFormA
import Derived.Test.YtenaelpdnccgnaaGreatDoorQAcFormB
import Derived.Test.YtenaelpdnccgnaaGreatDoorQAcFormC
import Derived.Test.YtenaelpdnccgnaaGreatDoorQAcFormD
import Derived.Test.YtenaelpdnccgnaaGreatDoorQAcFormE
import Derived.Test.YtenaelpdnccgnaaGreatDoorQAcFormF
import Derived.Test.YtenaelpdnccgnaaGreatDoorQAcFormG
import Derived.Test.YtenaelpdnccgnaaGreatDoorQAcFormH
import Derived.Test.YtenaelpdnccgnaaGreatDoorQAcSame
set_option maxRecDepth 100000
set_option maxHeartbeats 32000000
namespace Go.Proofs
open Go.RowKit Go.Shelf
theorem Tm.lies_any (w:World)(B d:Nat):Tm.Lies w B (d+1) (.slice none 0 0) (.mk 0 0 []):=⟨none,0,rfl,.inl rfl⟩
theorem Ak.lies_up {w:World}{B:Nat} :∀{d:Nat} {v:Value} {T:Tm},Tm.Lies w B d v T->Tm.Lies w B (d+1) v T
 |0,_,_,h=>h.elim
 |d+1,v,T,h=>by
  obtain⟨a,cap,hv,h⟩:=h;refine⟨a,cap,hv,h.elim .inl fun⟨g,off,ha,hg,hr⟩=> .inr ⟨g,off,ha,hg,λj hj=> ?_⟩⟩;obtain⟨u,h0,h1,h2,h3⟩:=hr j hj;exact⟨u,h0,h1,h2,Ak.lies_up h3⟩
theorem Ak.tms_up {w:World}{B d:Nat}{a:Option Addr}{cs:List Tm}(h:Ac.Tms w B d a cs):Ac.Tms w B (d+1) a cs:=λj hj=>by
 obtain⟨g,off,u,h1,h2,c0,c1,c2,h3⟩:=h j hj;exact⟨g,off,u,h1,h2,c0,c1,c2,Ak.lies_up h3⟩
theorem Ak.nds_up {w:World}{B d:Nat}{a:Option Addr}{cs:List Nd}(h:Nt.Nds w B d a cs):Nt.Nds w B (d+1) a cs:=λj hj=>by
 obtain⟨g,off,u,h1,h2,c0,c1,c2,c3,c4,h3⟩:=h j hj;exact⟨g,off,u,h1,h2,c0,c1,c2,c3,c4,Ak.lies_up h3⟩
theorem Ak.fls_up {w:World}{B d:Nat}{a:Option Addr}{cs:List Fl}(h:Nt.Fls w B d a cs):Nt.Fls w B (d+1) a cs:=λj hj=>by
 obtain⟨g,off,u,h1,h2,c0,c1,c2,c3,c4,c5,h3⟩:=h j hj;exact⟨g,off,u,h1,h2,c0,c1,c2,c3,c4,c5,Ak.lies_up h3⟩
theorem Ak.tms_of {w:World}{B e n c:Nat}{a:Option Addr}{t k l m f:Value}{T:Ac}(h:Ac.Own w B e ⟨t,.slice a n c,k,l,m,f⟩ T):Ac.Tms w B e a T.cs:=by
 obtain⟨a',c',e1,h⟩:=h.c;obtain⟨rfl,-,-⟩:=Value.slice.inj e1;exact h
theorem Ak.nds_of {w:World}{B e n c:Nat}{a:Option Addr}{t k l m f:Value}{T:Ac}(h:Ac.Own w B e ⟨t,m,k,l,.slice a n c,f⟩ T):Nt.Nds w B e a T.ns:=by
 obtain⟨a',c',e1,h⟩:=h.n;obtain⟨rfl,-,-⟩:=Value.slice.inj e1;exact h
theorem Ak.fls_of {w:World}{B e n c:Nat}{a:Option Addr}{t k l m f:Value}{T:Ac}(h:Ac.Own w B e ⟨t,m,k,l,f,.slice a n c⟩ T):Nt.Fls w B e a T.fs:=by
 obtain⟨a',c',e1,h⟩:=h.f;obtain⟨rfl,-,-⟩:=Value.slice.inj e1;exact h
theorem Ak.own_zero (w:World)(B:Nat)(k:Int):Ac.Own w B 1 Ac.V0 (Ac.zeroOf k):=⟨⟨none,0,rfl,.inl rfl⟩,⟨none,0,rfl,λj h=>by simp[Ac.zeroOf,Ac.cs]at h⟩,⟨none,0,rfl,λj h=>by simp[Ac.zeroOf,Ac.ls]at h⟩,⟨none,0,rfl,λj h=>by simp[Ac.zeroOf,Ac.ns]at h⟩,⟨none,0,rfl,λj h=>by simp[Ac.zeroOf,Ac.fs]at h⟩⟩
theorem Ak.own_up {w:World}{B e:Nat}{V:Ac.Vs}{T:Ac}(h:Ac.Own w B e V T):Ac.Own w B (e+1) V T:=by
 obtain⟨h1,⟨a2,c2,e2,h2⟩,⟨a3,c3,e3,h3⟩,⟨a4,c4,e4,h4⟩,⟨a5,c5,e5,h5⟩⟩:=h;exact⟨Ak.lies_up h1,⟨a2,c2,e2,Ak.tms_up h2⟩,⟨a3,c3,e3,h3⟩,⟨a4,c4,e4,Ak.nds_up h4⟩,⟨a5,c5,e5,Ak.fls_up h5⟩⟩
theorem Ak.holds_env {d e:Nat}{T:Ac}{V:Ac.Vs}{w:World}(hT:Ac.Lies w w.heap.size e d V T)(hF:T.Fit)(W:World)(hb:Below w.heap.size w W):Calls Tryz.prog 43 #[.agg (Ac.row T V)] W λe' w'=>e'=.returned (.bool T.holdsB)/\Below W.heap.size W w':=
 Tryz.holds_any d e T V W ((hT.below hb).wider hb.size) (by have:=hF.kl;omega)
theorem Ak.alike_env {e:Nat}{T:Ac}{V:Ac.Vs}{w:World}(k:Int)(h0:0<w.heap.size)(h:Ac.Own w w.heap.size (e+1) V T)(hF:T.Fit)(W:World)(hb:Below w.heap.size w W):Calls Tryz.prog 40 #[.agg (Ac.row T V),.agg (Ac.row (Ac.zeroOf k) Ac.V0)] W λe' w'=>Ak.Told (Ac.Same1 T (Ac.zeroOf k)) e'/\Below W.heap.size W w':=
 Tryz.aalike_any (e+1) 1 w.heap.size T (Ac.zeroOf k) V Ac.V0 W (h.keep hb.block) ((Ak.own_zero w w.heap.size k).keep hb.block) hb.size (by have:=hb.size;omega) hF
theorem Ak.linked_env {d e:Nat}{T:Ac}{V:Ac.Vs}{w:World}(hT:Ac.Lies w w.heap.size e d V T)(hF:T.Fit)(W:World)(hb:Below w.heap.size w W):Calls Tryz.prog 48 #[.agg (Ac.row T V)] W λe' w'=>e'=.returned (.bool T.linkedB)/\Below W.heap.size W w':=
 Tryz.isLinked_any d e T V W ((hT.below hb).wider hb.size) hF
theorem Ak.c0 (w:World)(B e:Nat):∃a cap,Value.slice none 0 0=.slice a ([]:List Tm).length cap/\Ac.Tms w B e a []:=⟨none,0,rfl,λ_ h=>absurd h (Nat.not_lt_zero _)⟩
theorem Ak.l0 (w:World)(B:Nat):∃a cap,Value.slice none 0 0=.slice a ([]:List (Int×Int)).length cap/\Ac.Lks w B a []:=⟨none,0,rfl,λ_ h=>absurd h (Nat.not_lt_zero _)⟩
theorem Ak.n0 (w:World)(B e:Nat):∃a cap,Value.slice none 0 0=.slice a ([]:List Nd).length cap/\Nt.Nds w B e a []:=⟨none,0,rfl,λ_ h=>absurd h (Nat.not_lt_zero _)⟩
theorem Ak.f0 (w:World)(B e:Nat):∃a cap,Value.slice none 0 0=.slice a ([]:List Fl).length cap/\Nt.Fls w B e a []:=⟨none,0,rfl,λ_ h=>absurd h (Nat.not_lt_zero _)⟩
def Ac.Formed (T:Ac):Prop:=
 (T.kind=1/\T.holdsB=true/\Ac.Same1 T.rest (Ac.zeroOf T.kind)/\T.ks.length=0)∨
 (T.kind=5/\T.holdsB=true/\(0<=T.node/\T.node<24)/\Ac.Same1 T.rest (Ac.zeroOf T.kind)/\T.ks.length=0)∨
 (T.kind=2/\T.holdsB=true/\(0<=T.node/\T.node<24)/\(0<=T.a/\T.a<4)/\Ac.Same1 T.rest (Ac.zeroOf T.kind)/\T.ks.length=0)∨
 (T.kind=4/\T.holdsB=true/\(0<=T.node/\T.node<24)/\(0<=T.a/\T.a<4)/\Ac.Same1 T.rest (Ac.zeroOf T.kind)/\T.ks.length=0)∨
 (T.kind=3/\T.holdsB=true/\(0<=T.node/\T.node<24)/\Nt.ofB T.t 1=true/\(0<=T.a/\T.a<4)/\Ac.Same1 T.rest (Ac.zeroOf T.kind)/\T.ks.length=0)∨
 (T.kind=10/\T.holdsB=true/\(0<=T.node/\T.node<24)/\T.ks.length=1/\(0<=T.a/\T.a<5)/\Ac.Same1 T.rest (Ac.zeroOf T.kind)/\True)∨
 (T.kind=11/\T.holdsB=true/\(0<=T.node/\T.node<24)/\T.ks.length=2/\(0<=T.b/\T.b<(T.cs.length:Int))/\T.cs.length=T.ks.length/\Ac.choiceB T.cs T.a=true/\(0<=T.a/\T.a<(T.cs.length:Int))/\2<=T.ks.length/\Ac.Same1 T.rest (Ac.zeroOf T.kind)/\True)∨
 (T.kind=8/\T.holdsB=true/\(0<=T.node/\T.node<24)/\T.cs.length=T.ks.length/\Ac.choiceB T.cs T.a=true/\(0<=T.a/\T.a<(T.cs.length:Int))/\2<=T.ks.length/\Ac.Same1 T.rest (Ac.zeroOf T.kind)/\True)∨
 (T.kind=9/\T.holdsB=true/\(0<=T.node/\T.node<24)/\2<=T.ks.length/\Ac.Same1 T.rest (Ac.zeroOf T.kind)/\True)∨
 (T.kind=6/\T.holdsB=true/\2<=T.ks.length/\Ac.Same1 T.rest (Ac.zeroOf T.kind)/\True)∨
 (T.kind=7/\T.holdsB=true/\2<=T.ks.length/\Ac.Same1 T.rest (Ac.zeroOf T.kind)/\True)∨
 (T.kind=12/\T.a=3/\T.holdsB=true/\(0<=T.node/\T.node<24)/\2<=T.cs.length/\Ac.choiceB T.cs T.b=true/\(0<=T.b/\T.b<(T.cs.length:Int))/\True/\True/\Ac.Same1 T.rest (Ac.zeroOf T.kind)/\T.ks.length=0)∨
 (T.kind=12/\¬T.a=3/\T.holdsB=true/\(0<=T.node/\T.node<24)/\1<=T.a/\(0<=T.a/\T.a<5)/\Ac.Same1 T.rest (Ac.zeroOf T.kind)/\T.ks.length=0)∨
 (T.kind=13/\T.holdsB=true/\T.linkedB=true/\Ac.Same1 T.rest (Ac.zeroOf T.kind)/\True)∨
 (T.kind=14/\T.holdsB=true/\(Nt.checkN T.ns T.fs).1=0/\Ac.Same1 T.rest (Ac.zeroOf T.kind)/\T.ks.length=0) 
theorem Ac.formed_1 {T:Ac}(hk:T.kind=1):T.Formed↔T.holdsB=true/\Ac.Same1 T.rest (Ac.zeroOf T.kind)/\T.ks.length=0:=by simp[Ac.Formed,hk]
theorem Ac.formed_5 {T:Ac}(hk:T.kind=5):T.Formed↔T.holdsB=true/\(0<=T.node/\T.node<24)/\Ac.Same1 T.rest (Ac.zeroOf T.kind)/\T.ks.length=0:=by simp[Ac.Formed,hk]
theorem Ac.formed_2 {T:Ac}(hk:T.kind=2):T.Formed↔T.holdsB=true/\(0<=T.node/\T.node<24)/\(0<=T.a/\T.a<4)/\Ac.Same1 T.rest (Ac.zeroOf T.kind)/\T.ks.length=0:=by simp[Ac.Formed,hk]
theorem Ac.formed_4 {T:Ac}(hk:T.kind=4):T.Formed↔T.holdsB=true/\(0<=T.node/\T.node<24)/\(0<=T.a/\T.a<4)/\Ac.Same1 T.rest (Ac.zeroOf T.kind)/\T.ks.length=0:=by simp[Ac.Formed,hk]
theorem Ac.formed_3 {T:Ac}(hk:T.kind=3):T.Formed↔T.holdsB=true/\(0<=T.node/\T.node<24)/\Nt.ofB T.t 1=true/\(0<=T.a/\T.a<4)/\Ac.Same1 T.rest (Ac.zeroOf T.kind)/\T.ks.length=0:=by simp[Ac.Formed,hk]
theorem Ac.formed_10 {T:Ac}(hk:T.kind=10):T.Formed↔T.holdsB=true/\(0<=T.node/\T.node<24)/\T.ks.length=1/\(0<=T.a/\T.a<5)/\Ac.Same1 T.rest (Ac.zeroOf T.kind)/\True:=by simp[Ac.Formed,hk]
theorem Ac.formed_11 {T:Ac}(hk:T.kind=11):T.Formed↔T.holdsB=true/\(0<=T.node/\T.node<24)/\T.ks.length=2/\(0<=T.b/\T.b<(T.cs.length:Int))/\T.cs.length=T.ks.length/\Ac.choiceB T.cs T.a=true/\(0<=T.a/\T.a<(T.cs.length:Int))/\2<=T.ks.length/\Ac.Same1 T.rest (Ac.zeroOf T.kind)/\True:=by simp[Ac.Formed,hk]
theorem Ac.formed_8 {T:Ac}(hk:T.kind=8):T.Formed↔T.holdsB=true/\(0<=T.node/\T.node<24)/\T.cs.length=T.ks.length/\Ac.choiceB T.cs T.a=true/\(0<=T.a/\T.a<(T.cs.length:Int))/\2<=T.ks.length/\Ac.Same1 T.rest (Ac.zeroOf T.kind)/\True:=by simp[Ac.Formed,hk]
theorem Ac.formed_9 {T:Ac}(hk:T.kind=9):T.Formed↔T.holdsB=true/\(0<=T.node/\T.node<24)/\2<=T.ks.length/\Ac.Same1 T.rest (Ac.zeroOf T.kind)/\True:=by simp[Ac.Formed,hk]
theorem Ac.formed_6 {T:Ac}(hk:T.kind=6):T.Formed↔T.holdsB=true/\2<=T.ks.length/\Ac.Same1 T.rest (Ac.zeroOf T.kind)/\True:=by simp[Ac.Formed,hk]
theorem Ac.formed_7 {T:Ac}(hk:T.kind=7):T.Formed↔T.holdsB=true/\2<=T.ks.length/\Ac.Same1 T.rest (Ac.zeroOf T.kind)/\True:=by simp[Ac.Formed,hk]
theorem Ac.formed_12a {T:Ac}(hk:T.kind=12)(ha:T.a=3):T.Formed↔T.holdsB=true/\(0<=T.node/\T.node<24)/\2<=T.cs.length/\Ac.choiceB T.cs T.b=true/\(0<=T.b/\T.b<(T.cs.length:Int))/\True/\True/\Ac.Same1 T.rest (Ac.zeroOf T.kind)/\T.ks.length=0:=by simp[Ac.Formed,hk,ha]
theorem Ac.formed_12b {T:Ac}(hk:T.kind=12)(ha:¬T.a=3):T.Formed↔T.holdsB=true/\(0<=T.node/\T.node<24)/\1<=T.a/\(0<=T.a/\T.a<5)/\Ac.Same1 T.rest (Ac.zeroOf T.kind)/\T.ks.length=0:=by simp[Ac.Formed,hk,ha]
theorem Ac.formed_13 {T:Ac}(hk:T.kind=13):T.Formed↔T.holdsB=true/\T.linkedB=true/\Ac.Same1 T.rest (Ac.zeroOf T.kind)/\True:=by simp[Ac.Formed,hk]
theorem Ac.formed_14 {T:Ac}(hk:T.kind=14):T.Formed↔T.holdsB=true/\(Nt.checkN T.ns T.fs).1=0/\Ac.Same1 T.rest (Ac.zeroOf T.kind)/\T.ks.length=0:=by simp[Ac.Formed,hk]
theorem Tryz.aformed_1 (d e:Nat)(T:Ac)(V:Ac.Vs)(w:World)(hT:Ac.Lies w w.heap.size e d V T)(hF:T.Fit)(_hO:Tk.Ops w)(h0:0<w.heap.size)(hk:T.kind=1):
  Calls Tryz.prog 26 #[.agg (Ac.row T V)] w λe w'=>Ak.Told T.Formed e/\Below w.heap.size w w':=by
 rw[Ac.formed_1 hk];obtain⟨a6,c6,a7,c7,a8,c8,a9,c9,aA,cA,aB,cB,rfl⟩:=hT.shape;obtain⟨k,nd,a,b,t,cs,ks,ls,ns,fs⟩:=T;obtain rfl:k=1:=hk;have u:=Ak.own_up hT.own;rw[show Ac.rest (.mk 1 nd a b t cs ks ls ns fs)=.mk 1 nd a b t cs ks ls ns fs by simp[Ac.rest,Ac.kind]];have c1:=Ak.holds_env hT hF;have c2:=Ak.alike_env (T:=.mk 1 nd a b t cs ks ls ns fs) (V:=⟨.slice a6 t.ks.length c6,.slice a7 cs.length c7,.slice a8 ks.length c8,.slice a9 ls.length c9,.slice aA ns.length cA,.slice aB fs.length cB⟩) 1 h0 ⟨u.t,u.c,u.l,u.n,u.f⟩ ⟨hF.t,hF.c,hF.n,hF.f,hF.cl,hF.kl,hF.ll,hF.nl,hF.fl⟩;exact Tryz.fm_1 (x1:=nd) (x2:=a) (x3:=b) (x4:=t.op) (x5:=t.num) (P:=Ac.Same1 (.mk 1 nd a b t cs ks ls ns fs) (Ac.zeroOf 1)) (hb:=(Ac.mk 1 nd a b t cs ks ls ns fs).holdsB) hF.cl hF.kl c1 c2
theorem Tryz.aformed_5 (d e:Nat)(T:Ac)(V:Ac.Vs)(w:World)(hT:Ac.Lies w w.heap.size e d V T)(hF:T.Fit)(_hO:Tk.Ops w)(h0:0<w.heap.size)(hk:T.kind=5):
  Calls Tryz.prog 26 #[.agg (Ac.row T V)] w λe w'=>Ak.Told T.Formed e/\Below w.heap.size w w':=by
 rw[Ac.formed_5 hk];obtain⟨a6,c6,a7,c7,a8,c8,a9,c9,aA,cA,aB,cB,rfl⟩:=hT.shape;obtain⟨k,nd,a,b,t,cs,ks,ls,ns,fs⟩:=T;obtain rfl:k=5:=hk;have u:=Ak.own_up hT.own;rw[show Ac.rest (.mk 5 nd a b t cs ks ls ns fs)=.mk 5 0 a b t cs ks ls ns fs by simp[Ac.rest,Ac.kind,Ac.a,Ac.b,Ac.t,Ac.cs,Ac.ks,Ac.ls,Ac.ns,Ac.fs]];have c1:=Ak.holds_env hT hF;have c2:=Ak.alike_env (T:=.mk 5 0 a b t cs ks ls ns fs) (V:=⟨.slice a6 t.ks.length c6,.slice a7 cs.length c7,.slice a8 ks.length c8,.slice a9 ls.length c9,.slice aA ns.length cA,.slice aB fs.length cB⟩) 5 h0 ⟨u.t,u.c,u.l,u.n,u.f⟩ ⟨hF.t,hF.c,hF.n,hF.f,hF.cl,hF.kl,hF.ll,hF.nl,hF.fl⟩;exact Tryz.fm_5 (x1:=nd) (x2:=a) (x3:=b) (x4:=t.op) (x5:=t.num) (P:=Ac.Same1 (.mk 5 0 a b t cs ks ls ns fs) (Ac.zeroOf 5)) (hb:=(Ac.mk 5 nd a b t cs ks ls ns fs).holdsB) hF.cl hF.kl c1 c2
theorem Tryz.aformed_2 (d e:Nat)(T:Ac)(V:Ac.Vs)(w:World)(hT:Ac.Lies w w.heap.size e d V T)(hF:T.Fit)(_hO:Tk.Ops w)(h0:0<w.heap.size)(hk:T.kind=2):
  Calls Tryz.prog 26 #[.agg (Ac.row T V)] w λe w'=>Ak.Told T.Formed e/\Below w.heap.size w w':=by
 rw[Ac.formed_2 hk];obtain⟨a6,c6,a7,c7,a8,c8,a9,c9,aA,cA,aB,cB,rfl⟩:=hT.shape;obtain⟨k,nd,a,b,t,cs,ks,ls,ns,fs⟩:=T;obtain rfl:k=2:=hk;have u:=Ak.own_up hT.own;rw[show Ac.rest (.mk 2 nd a b t cs ks ls ns fs)=.mk 2 0 0 b t cs ks ls ns fs by simp[Ac.rest,Ac.kind,Ac.b,Ac.t,Ac.cs,Ac.ks,Ac.ls,Ac.ns,Ac.fs]];have c1:=Ak.holds_env hT hF;have c2:=Ak.alike_env (T:=.mk 2 0 0 b t cs ks ls ns fs) (V:=⟨.slice a6 t.ks.length c6,.slice a7 cs.length c7,.slice a8 ks.length c8,.slice a9 ls.length c9,.slice aA ns.length cA,.slice aB fs.length cB⟩) 2 h0 ⟨u.t,u.c,u.l,u.n,u.f⟩ ⟨hF.t,hF.c,hF.n,hF.f,hF.cl,hF.kl,hF.ll,hF.nl,hF.fl⟩;exact Tryz.fm_2 (x1:=nd) (x2:=a) (x3:=b) (x4:=t.op) (x5:=t.num) (P:=Ac.Same1 (.mk 2 0 0 b t cs ks ls ns fs) (Ac.zeroOf 2)) (hb:=(Ac.mk 2 nd a b t cs ks ls ns fs).holdsB) hF.cl hF.kl c1 c2
theorem Tryz.aformed_4 (d e:Nat)(T:Ac)(V:Ac.Vs)(w:World)(hT:Ac.Lies w w.heap.size e d V T)(hF:T.Fit)(_hO:Tk.Ops w)(h0:0<w.heap.size)(hk:T.kind=4):
  Calls Tryz.prog 26 #[.agg (Ac.row T V)] w λe w'=>Ak.Told T.Formed e/\Below w.heap.size w w':=by
 rw[Ac.formed_4 hk];obtain⟨a6,c6,a7,c7,a8,c8,a9,c9,aA,cA,aB,cB,rfl⟩:=hT.shape;obtain⟨k,nd,a,b,t,cs,ks,ls,ns,fs⟩:=T;obtain rfl:k=4:=hk;have u:=Ak.own_up hT.own;rw[show Ac.rest (.mk 4 nd a b t cs ks ls ns fs)=.mk 4 0 0 b t cs ks ls ns fs by simp[Ac.rest,Ac.kind,Ac.b,Ac.t,Ac.cs,Ac.ks,Ac.ls,Ac.ns,Ac.fs]];have c1:=Ak.holds_env hT hF;have c2:=Ak.alike_env (T:=.mk 4 0 0 b t cs ks ls ns fs) (V:=⟨.slice a6 t.ks.length c6,.slice a7 cs.length c7,.slice a8 ks.length c8,.slice a9 ls.length c9,.slice aA ns.length cA,.slice aB fs.length cB⟩) 4 h0 ⟨u.t,u.c,u.l,u.n,u.f⟩ ⟨hF.t,hF.c,hF.n,hF.f,hF.cl,hF.kl,hF.ll,hF.nl,hF.fl⟩;exact Tryz.fm_4 (x1:=nd) (x2:=a) (x3:=b) (x4:=t.op) (x5:=t.num) (P:=Ac.Same1 (.mk 4 0 0 b t cs ks ls ns fs) (Ac.zeroOf 4)) (hb:=(Ac.mk 4 nd a b t cs ks ls ns fs).holdsB) hF.cl hF.kl c1 c2
theorem Tryz.aformed_3 (d e:Nat)(T:Ac)(V:Ac.Vs)(w:World)(hT:Ac.Lies w w.heap.size e d V T)(hF:T.Fit)(hO:Tk.Ops w)(h0:0<w.heap.size)(hk:T.kind=3):
  Calls Tryz.prog 26 #[.agg (Ac.row T V)] w λe w'=>Ak.Told T.Formed e/\Below w.heap.size w w':=by
 rw[Ac.formed_3 hk];obtain⟨a6,c6,a7,c7,a8,c8,a9,c9,aA,cA,aB,cB,rfl⟩:=hT.shape;obtain⟨k,nd,a,b,t,cs,ks,ls,ns,fs⟩:=T;obtain rfl:k=3:=hk;have u:=Ak.own_up hT.own;rw[show Ac.rest (.mk 3 nd a b t cs ks ls ns fs)=.mk 3 0 0 b (.mk 0 0 []) cs ks ls ns fs by simp[Ac.rest,Ac.kind,Ac.b,Ac.cs,Ac.ks,Ac.ls,Ac.ns,Ac.fs]];have c1:=Ak.holds_env hT hF;have c2:=Ak.alike_env (T:=.mk 3 0 0 b (.mk 0 0 []) cs ks ls ns fs) (V:=⟨.slice none 0 0,.slice a7 cs.length c7,.slice a8 ks.length c8,.slice a9 ls.length c9,.slice aA ns.length cA,.slice aB fs.length cB⟩) 3 h0 ⟨Tm.lies_any _ _ _,u.c,u.l,u.n,u.f⟩ ⟨⟨(by decide:(Tm.mk 0 0 []).size<=2147483647),(by decide:(Tm.mk 0 0 []).depth<=1000)⟩,hF.c,hF.n,hF.f,hF.cl,hF.kl,hF.ll,hF.nl,hF.fl⟩
 exact Tryz.fm_3 (x1:=nd) (x2:=a) (x3:=b) (x4:=t.op) (x5:=t.num) (P:=Ac.Same1 (.mk 3 0 0 b (.mk 0 0 []) cs ks ls ns fs) (Ac.zeroOf 3)) (hb:=(Ac.mk 3 nd a b t cs ks ls ns fs).holdsB) (ob:=Nt.ofB t 1) hF.cl hF.kl c1 c2
  (λW hb=>Tryz.aisOf_any 1 e t _ W ((hT.own.t.below hb).wider hb.size) (hO.below hb hO.lt) hF.t.1)
theorem Tryz.aformed_10 (d e:Nat)(T:Ac)(V:Ac.Vs)(w:World)(hT:Ac.Lies w w.heap.size e d V T)(hF:T.Fit)(_hO:Tk.Ops w)(h0:0<w.heap.size)(hk:T.kind=10):
  Calls Tryz.prog 26 #[.agg (Ac.row T V)] w λe w'=>Ak.Told T.Formed e/\Below w.heap.size w w':=by
 rw[Ac.formed_10 hk];obtain⟨a6,c6,a7,c7,a8,c8,a9,c9,aA,cA,aB,cB,rfl⟩:=hT.shape;obtain⟨k,nd,a,b,t,cs,ks,ls,ns,fs⟩:=T;obtain rfl:k=10:=hk;have u:=Ak.own_up hT.own;rw[show Ac.rest (.mk 10 nd a b t cs ks ls ns fs)=.mk 10 0 0 b t cs [] ls ns fs by simp[Ac.rest,Ac.kind,Ac.b,Ac.t,Ac.cs,Ac.ls,Ac.ns,Ac.fs]];have c1:=Ak.holds_env hT hF;have c2:=Ak.alike_env (T:=.mk 10 0 0 b t cs [] ls ns fs) (V:=⟨.slice a6 t.ks.length c6,.slice a7 cs.length c7,.slice none 0 0,.slice a9 ls.length c9,.slice aA ns.length cA,.slice aB fs.length cB⟩) 10 h0 ⟨u.t,u.c,u.l,u.n,u.f⟩ ⟨hF.t,hF.c,hF.n,hF.f,hF.cl,Nat.zero_le _,hF.ll,hF.nl,hF.fl⟩;exact Tryz.fm_10 (x1:=nd) (x2:=a) (x3:=b) (x4:=t.op) (x5:=t.num) (P:=Ac.Same1 (.mk 10 0 0 b t cs [] ls ns fs) (Ac.zeroOf 10)) (hb:=(Ac.mk 10 nd a b t cs ks ls ns fs).holdsB) hF.cl hF.kl c1 c2
theorem Tryz.aformed_11 (d e:Nat)(T:Ac)(V:Ac.Vs)(w:World)(hT:Ac.Lies w w.heap.size e d V T)(hF:T.Fit)(hO:Tk.Ops w)(h0:0<w.heap.size)(hk:T.kind=11):
  Calls Tryz.prog 26 #[.agg (Ac.row T V)] w λe w'=>Ak.Told T.Formed e/\Below w.heap.size w w':=by
 rw[Ac.formed_11 hk];obtain⟨a6,c6,a7,c7,a8,c8,a9,c9,aA,cA,aB,cB,rfl⟩:=hT.shape;obtain⟨k,nd,a,b,t,cs,ks,ls,ns,fs⟩:=T;obtain rfl:k=11:=hk;have u:=Ak.own_up hT.own;rw[show Ac.rest (.mk 11 nd a b t cs ks ls ns fs)=.mk 11 0 0 0 t [] [] ls ns fs by simp[Ac.rest,Ac.kind,Ac.t,Ac.ls,Ac.ns,Ac.fs]];have c1:=Ak.holds_env hT hF;have c2:=Ak.alike_env (T:=.mk 11 0 0 0 t [] [] ls ns fs) (V:=⟨.slice a6 t.ks.length c6,.slice none 0 0,.slice none 0 0,.slice a9 ls.length c9,.slice aA ns.length cA,.slice aB fs.length cB⟩) 11 h0 ⟨u.t,Ak.c0 _ _ _,u.l,u.n,u.f⟩ ⟨hF.t,(λx h=>by cases h),hF.n,hF.f,Nat.zero_le _,Nat.zero_le _,hF.ll,hF.nl,hF.fl⟩
 exact Tryz.fm_11 (x1:=nd) (x2:=a) (x3:=b) (x4:=t.op) (x5:=t.num) (P:=Ac.Same1 (.mk 11 0 0 0 t [] [] ls ns fs) (Ac.zeroOf 11)) (hb:=(Ac.mk 11 nd a b t cs ks ls ns fs).holdsB) (ob:=Ac.choiceB cs a) hF.cl hF.kl c1 c2
  (λW hb=>Tryz.isChoice_any cs a7 c7 a e W (((Ak.tms_of hT.own).keep hb.block).wider hb.size) (hO.below hb hO.lt) hF.c (by have h:cs.length<=1000:=hF.cl;omega))
theorem Tryz.aformed_8 (d e:Nat)(T:Ac)(V:Ac.Vs)(w:World)(hT:Ac.Lies w w.heap.size e d V T)(hF:T.Fit)(hO:Tk.Ops w)(h0:0<w.heap.size)(hk:T.kind=8):
  Calls Tryz.prog 26 #[.agg (Ac.row T V)] w λe w'=>Ak.Told T.Formed e/\Below w.heap.size w w':=by
 rw[Ac.formed_8 hk];obtain⟨a6,c6,a7,c7,a8,c8,a9,c9,aA,cA,aB,cB,rfl⟩:=hT.shape;obtain⟨k,nd,a,b,t,cs,ks,ls,ns,fs⟩:=T;obtain rfl:k=8:=hk;have u:=Ak.own_up hT.own;rw[show Ac.rest (.mk 8 nd a b t cs ks ls ns fs)=.mk 8 0 0 b t [] [] ls ns fs by simp[Ac.rest,Ac.kind,Ac.b,Ac.t,Ac.ls,Ac.ns,Ac.fs]];have c1:=Ak.holds_env hT hF;have c2:=Ak.alike_env (T:=.mk 8 0 0 b t [] [] ls ns fs) (V:=⟨.slice a6 t.ks.length c6,.slice none 0 0,.slice none 0 0,.slice a9 ls.length c9,.slice aA ns.length cA,.slice aB fs.length cB⟩) 8 h0 ⟨u.t,Ak.c0 _ _ _,u.l,u.n,u.f⟩ ⟨hF.t,(λx h=>by cases h),hF.n,hF.f,Nat.zero_le _,Nat.zero_le _,hF.ll,hF.nl,hF.fl⟩
 exact Tryz.fm_8 (x1:=nd) (x2:=a) (x3:=b) (x4:=t.op) (x5:=t.num) (P:=Ac.Same1 (.mk 8 0 0 b t [] [] ls ns fs) (Ac.zeroOf 8)) (hb:=(Ac.mk 8 nd a b t cs ks ls ns fs).holdsB) (ob:=Ac.choiceB cs a) hF.cl hF.kl c1 c2
  (λW hb=>Tryz.isChoice_any cs a7 c7 a e W (((Ak.tms_of hT.own).keep hb.block).wider hb.size) (hO.below hb hO.lt) hF.c (by have h:cs.length<=1000:=hF.cl;omega))
theorem Tryz.aformed_9 (d e:Nat)(T:Ac)(V:Ac.Vs)(w:World)(hT:Ac.Lies w w.heap.size e d V T)(hF:T.Fit)(_hO:Tk.Ops w)(h0:0<w.heap.size)(hk:T.kind=9):
  Calls Tryz.prog 26 #[.agg (Ac.row T V)] w λe w'=>Ak.Told T.Formed e/\Below w.heap.size w w':=by
 rw[Ac.formed_9 hk];obtain⟨a6,c6,a7,c7,a8,c8,a9,c9,aA,cA,aB,cB,rfl⟩:=hT.shape;obtain⟨k,nd,a,b,t,cs,ks,ls,ns,fs⟩:=T;obtain rfl:k=9:=hk;have u:=Ak.own_up hT.own;rw[show Ac.rest (.mk 9 nd a b t cs ks ls ns fs)=.mk 9 0 a b t cs [] ls ns fs by simp[Ac.rest,Ac.kind,Ac.a,Ac.b,Ac.t,Ac.cs,Ac.ls,Ac.ns,Ac.fs]];have c1:=Ak.holds_env hT hF;have c2:=Ak.alike_env (T:=.mk 9 0 a b t cs [] ls ns fs) (V:=⟨.slice a6 t.ks.length c6,.slice a7 cs.length c7,.slice none 0 0,.slice a9 ls.length c9,.slice aA ns.length cA,.slice aB fs.length cB⟩) 9 h0 ⟨u.t,u.c,u.l,u.n,u.f⟩ ⟨hF.t,hF.c,hF.n,hF.f,hF.cl,Nat.zero_le _,hF.ll,hF.nl,hF.fl⟩;exact Tryz.fm_9 (x1:=nd) (x2:=a) (x3:=b) (x4:=t.op) (x5:=t.num) (P:=Ac.Same1 (.mk 9 0 a b t cs [] ls ns fs) (Ac.zeroOf 9)) (hb:=(Ac.mk 9 nd a b t cs ks ls ns fs).holdsB) hF.cl hF.kl c1 c2
theorem Tryz.aformed_6 (d e:Nat)(T:Ac)(V:Ac.Vs)(w:World)(hT:Ac.Lies w w.heap.size e d V T)(hF:T.Fit)(_hO:Tk.Ops w)(h0:0<w.heap.size)(hk:T.kind=6):
  Calls Tryz.prog 26 #[.agg (Ac.row T V)] w λe w'=>Ak.Told T.Formed e/\Below w.heap.size w w':=by
 rw[Ac.formed_6 hk];obtain⟨a6,c6,a7,c7,a8,c8,a9,c9,aA,cA,aB,cB,rfl⟩:=hT.shape;obtain⟨k,nd,a,b,t,cs,ks,ls,ns,fs⟩:=T;obtain rfl:k=6:=hk;have u:=Ak.own_up hT.own;rw[show Ac.rest (.mk 6 nd a b t cs ks ls ns fs)=.mk 6 nd a b t cs [] ls ns fs by simp[Ac.rest,Ac.kind,Ac.node,Ac.a,Ac.b,Ac.t,Ac.cs,Ac.ls,Ac.ns,Ac.fs]];have c1:=Ak.holds_env hT hF;have c2:=Ak.alike_env (T:=.mk 6 nd a b t cs [] ls ns fs) (V:=⟨.slice a6 t.ks.length c6,.slice a7 cs.length c7,.slice none 0 0,.slice a9 ls.length c9,.slice aA ns.length cA,.slice aB fs.length cB⟩) 6 h0 ⟨u.t,u.c,u.l,u.n,u.f⟩ ⟨hF.t,hF.c,hF.n,hF.f,hF.cl,Nat.zero_le _,hF.ll,hF.nl,hF.fl⟩;exact Tryz.fm_6 (x1:=nd) (x2:=a) (x3:=b) (x4:=t.op) (x5:=t.num) (P:=Ac.Same1 (.mk 6 nd a b t cs [] ls ns fs) (Ac.zeroOf 6)) (hb:=(Ac.mk 6 nd a b t cs ks ls ns fs).holdsB) hF.cl hF.kl c1 c2
theorem Tryz.aformed_7 (d e:Nat)(T:Ac)(V:Ac.Vs)(w:World)(hT:Ac.Lies w w.heap.size e d V T)(hF:T.Fit)(_hO:Tk.Ops w)(h0:0<w.heap.size)(hk:T.kind=7):
  Calls Tryz.prog 26 #[.agg (Ac.row T V)] w λe w'=>Ak.Told T.Formed e/\Below w.heap.size w w':=by
 rw[Ac.formed_7 hk];obtain⟨a6,c6,a7,c7,a8,c8,a9,c9,aA,cA,aB,cB,rfl⟩:=hT.shape;obtain⟨k,nd,a,b,t,cs,ks,ls,ns,fs⟩:=T;obtain rfl:k=7:=hk;have u:=Ak.own_up hT.own;rw[show Ac.rest (.mk 7 nd a b t cs ks ls ns fs)=.mk 7 nd a b t cs [] ls ns fs by simp[Ac.rest,Ac.kind,Ac.node,Ac.a,Ac.b,Ac.t,Ac.cs,Ac.ls,Ac.ns,Ac.fs]];have c1:=Ak.holds_env hT hF;have c2:=Ak.alike_env (T:=.mk 7 nd a b t cs [] ls ns fs) (V:=⟨.slice a6 t.ks.length c6,.slice a7 cs.length c7,.slice none 0 0,.slice a9 ls.length c9,.slice aA ns.length cA,.slice aB fs.length cB⟩) 7 h0 ⟨u.t,u.c,u.l,u.n,u.f⟩ ⟨hF.t,hF.c,hF.n,hF.f,hF.cl,Nat.zero_le _,hF.ll,hF.nl,hF.fl⟩;exact Tryz.fm_7 (x1:=nd) (x2:=a) (x3:=b) (x4:=t.op) (x5:=t.num) (P:=Ac.Same1 (.mk 7 nd a b t cs [] ls ns fs) (Ac.zeroOf 7)) (hb:=(Ac.mk 7 nd a b t cs ks ls ns fs).holdsB) hF.cl hF.kl c1 c2
theorem Tryz.aformed_12a (d e:Nat)(T:Ac)(V:Ac.Vs)(w:World)(hT:Ac.Lies w w.heap.size e d V T)(hF:T.Fit)(hO:Tk.Ops w)(h0:0<w.heap.size)(hk:T.kind=12)(ha:T.a=3):
  Calls Tryz.prog 26 #[.agg (Ac.row T V)] w λe w'=>Ak.Told T.Formed e/\Below w.heap.size w w':=by
 rw[Ac.formed_12a hk ha];obtain⟨a6,c6,a7,c7,a8,c8,a9,c9,aA,cA,aB,cB,rfl⟩:=hT.shape;obtain⟨k,nd,a,b,t,cs,ks,ls,ns,fs⟩:=T;obtain rfl:k=12:=hk;obtain rfl:a=3:=ha;have u:=Ak.own_up hT.own;rw[show Ac.rest (.mk 12 nd 3 b t cs ks ls ns fs)=.mk 12 0 0 0 t [] ks ls ns fs by simp[Ac.rest,Ac.kind,Ac.a,Ac.t,Ac.ks,Ac.ls,Ac.ns,Ac.fs]];have c1:=Ak.holds_env hT hF;have c2:=Ak.alike_env (T:=.mk 12 0 0 0 t [] ks ls ns fs) (V:=⟨.slice a6 t.ks.length c6,.slice none 0 0,.slice a8 ks.length c8,.slice a9 ls.length c9,.slice aA ns.length cA,.slice aB fs.length cB⟩) 12 h0 ⟨u.t,Ak.c0 _ _ _,u.l,u.n,u.f⟩ ⟨hF.t,(λx h=>by cases h),hF.n,hF.f,Nat.zero_le _,hF.kl,hF.ll,hF.nl,hF.fl⟩
 exact Tryz.fm_12a (x1:=nd) (x3:=b) (x4:=t.op) (x5:=t.num) (P:=Ac.Same1 (.mk 12 0 0 0 t [] ks ls ns fs) (Ac.zeroOf 12)) (hb:=(Ac.mk 12 nd 3 b t cs ks ls ns fs).holdsB) (ob:=Ac.choiceB cs b) hF.cl hF.kl c1 c2
  (λW hb=>Tryz.isChoice_any cs a7 c7 b e W (((Ak.tms_of hT.own).keep hb.block).wider hb.size) (hO.below hb hO.lt) hF.c (by have h:cs.length<=1000:=hF.cl;omega))
theorem Tryz.aformed_12b (d e:Nat)(T:Ac)(V:Ac.Vs)(w:World)(hT:Ac.Lies w w.heap.size e d V T)(hF:T.Fit)(_hO:Tk.Ops w)(h0:0<w.heap.size)(hk:T.kind=12)(ha:¬T.a=3):
  Calls Tryz.prog 26 #[.agg (Ac.row T V)] w λe w'=>Ak.Told T.Formed e/\Below w.heap.size w w':=by
 rw[Ac.formed_12b hk ha];obtain⟨a6,c6,a7,c7,a8,c8,a9,c9,aA,cA,aB,cB,rfl⟩:=hT.shape;obtain⟨k,nd,a,b,t,cs,ks,ls,ns,fs⟩:=T;obtain rfl:k=12:=hk;replace ha:¬a=3:=ha;have u:=Ak.own_up hT.own;rw[show Ac.rest (.mk 12 nd a b t cs ks ls ns fs)=.mk 12 0 0 b t cs ks ls ns fs by simp[Ac.rest,Ac.kind,Ac.a,Ac.b,Ac.t,Ac.cs,Ac.ks,Ac.ls,Ac.ns,Ac.fs,ha]];have c1:=Ak.holds_env hT hF;have c2:=Ak.alike_env (T:=.mk 12 0 0 b t cs ks ls ns fs) (V:=⟨.slice a6 t.ks.length c6,.slice a7 cs.length c7,.slice a8 ks.length c8,.slice a9 ls.length c9,.slice aA ns.length cA,.slice aB fs.length cB⟩) 12 h0 ⟨u.t,u.c,u.l,u.n,u.f⟩ ⟨hF.t,hF.c,hF.n,hF.f,hF.cl,hF.kl,hF.ll,hF.nl,hF.fl⟩;exact Tryz.fm_12b (x1:=nd) (x2:=a) (x3:=b) (x4:=t.op) (x5:=t.num) (P:=Ac.Same1 (.mk 12 0 0 b t cs ks ls ns fs) (Ac.zeroOf 12)) (hb:=(Ac.mk 12 nd a b t cs ks ls ns fs).holdsB) hF.cl hF.kl c1 c2 ha
theorem Tryz.aformed_13 (d e:Nat)(T:Ac)(V:Ac.Vs)(w:World)(hT:Ac.Lies w w.heap.size e d V T)(hF:T.Fit)(_hO:Tk.Ops w)(h0:0<w.heap.size)(hk:T.kind=13):
  Calls Tryz.prog 26 #[.agg (Ac.row T V)] w λe w'=>Ak.Told T.Formed e/\Below w.heap.size w w':=by
 rw[Ac.formed_13 hk];obtain⟨a6,c6,a7,c7,a8,c8,a9,c9,aA,cA,aB,cB,rfl⟩:=hT.shape;obtain⟨k,nd,a,b,t,cs,ks,ls,ns,fs⟩:=T;obtain rfl:k=13:=hk;have u:=Ak.own_up hT.own;rw[show Ac.rest (.mk 13 nd a b t cs ks ls ns fs)=.mk 13 nd a b t cs [] [] ns fs by simp[Ac.rest,Ac.kind,Ac.node,Ac.a,Ac.b,Ac.t,Ac.cs,Ac.ns,Ac.fs]];have c1:=Ak.holds_env hT hF;have c2:=Ak.alike_env (T:=.mk 13 nd a b t cs [] [] ns fs) (V:=⟨.slice a6 t.ks.length c6,.slice a7 cs.length c7,.slice none 0 0,.slice none 0 0,.slice aA ns.length cA,.slice aB fs.length cB⟩) 13 h0 ⟨u.t,u.c,Ak.l0 _ _,u.n,u.f⟩ ⟨hF.t,hF.c,hF.n,hF.f,hF.cl,Nat.zero_le _,Nat.zero_le _,hF.nl,hF.fl⟩;have c3:=Ak.linked_env hT hF;exact Tryz.fm_13 (x1:=nd) (x2:=a) (x3:=b) (x4:=t.op) (x5:=t.num) (P:=Ac.Same1 (.mk 13 nd a b t cs [] [] ns fs) (Ac.zeroOf 13)) (hb:=(Ac.mk 13 nd a b t cs ks ls ns fs).holdsB) (ob:=(Ac.mk 13 nd a b t cs ks ls ns fs).linkedB) hF.cl hF.kl c1 c2 c3
theorem Tryz.aformed_14 (d e:Nat)(T:Ac)(V:Ac.Vs)(w:World)(hT:Ac.Lies w w.heap.size e d V T)(hF:T.Fit)(hO:Tk.Ops w)(h0:0<w.heap.size)(hk:T.kind=14):
  Calls Tryz.prog 26 #[.agg (Ac.row T V)] w λe w'=>Ak.Told T.Formed e/\Below w.heap.size w w':=by
 rw[Ac.formed_14 hk];obtain⟨a6,c6,a7,c7,a8,c8,a9,c9,aA,cA,aB,cB,rfl⟩:=hT.shape;obtain⟨k,nd,a,b,t,cs,ks,ls,ns,fs⟩:=T;obtain rfl:k=14:=hk;have u:=Ak.own_up hT.own;rw[show Ac.rest (.mk 14 nd a b t cs ks ls ns fs)=.mk 14 nd a b t cs ks ls [] []by simp[Ac.rest,Ac.kind,Ac.node,Ac.a,Ac.b,Ac.t,Ac.cs,Ac.ks,Ac.ls]];have c1:=Ak.holds_env hT hF;have c2:=Ak.alike_env (T:=.mk 14 nd a b t cs ks ls [] []) (V:=⟨.slice a6 t.ks.length c6,.slice a7 cs.length c7,.slice a8 ks.length c8,.slice a9 ls.length c9,.slice none 0 0,.slice none 0 0⟩) 14 h0 ⟨u.t,u.c,u.l,Ak.n0 _ _ _,Ak.f0 _ _ _⟩ ⟨hF.t,hF.c,(λx h=>by cases h),(λx h=>by cases h),hF.cl,hF.kl,hF.ll,Nat.zero_le _,Nat.zero_le _⟩
 have c3:∀W,Below w.heap.size w W->Calls Tryz.prog 49 #[.agg #[.slice aA ns.length cA,.slice aB fs.length cB]] W λe' w'=>e'=.returned (.tuple #[.int .i64 ((Nt.checkN ns fs).1:Int),.int .i64 ((Nt.checkN ns fs).2:Int)])/\Below W.heap.size W w':=
  (λW hb=>Tryz.nCheck_any aA cA aB cB e ns fs W ⟨(Ac.nds_keep (Ak.nds_of hT.own) hb.block).wider hb.size,(Ac.fls_keep (Ak.fls_of hT.own) hb.block).wider hb.size,hF.nl,hF.fl,λx h=>(hF.n x h).1,λx h=>(hF.f x h).1⟩ (hO.below hb hO.lt))
 exact Tryz.fm_14 (x1:=nd) (x2:=a) (x3:=b) (x4:=t.op) (x5:=t.num) (P:=Ac.Same1 (.mk 14 nd a b t cs ks ls [] []) (Ac.zeroOf 14)) (hb:=(Ac.mk 14 nd a b t cs ks ls ns fs).holdsB) (ru:=(Nt.checkN ns fs).1) (rv:=(Nt.checkN ns fs).2) hF.cl hF.kl c1 c2 c3
def Ac.enterS (T:Ac)(bs:List Bool):Bool×List Bool:=if Ac.hasNodeB T.kind=true then(!((bs[T.node.toNat]?).getD true),bs.set T.node.toNat true)else(true,bs)
def Ac.NodeOk (T:Ac):Prop:=Ac.hasNodeB T.kind=true->0<=T.node/\T.node<24
theorem Tryz.twice1_any (k m:Int)(x2 x3 x4 x5 x6 x7 x8 x9 x10 x11:Value)(b:Nat)(bs:List Bool)(w:World)(h:Nt.Bt w b bs)(hl:bs.length=24)(hm:Ac.hasNodeB k=true->0<=m/\m<24):
  Calls Tryz.prog 50 #[.agg #[.int .i64 k,.int .i64 m,x2,x3,x4,x5,x6,x7,x8,x9,x10,x11],.pointer (some ⟨b,0,none⟩)] w λe w'=>e=.returned (.bool (if Ac.hasNodeB k=true then !((bs[m.toNat]?).getD true)else true))/\Nt.Bt w' b (if Ac.hasNodeB k=true then bs.set m.toNat true else bs)/\Tk.But (λx=>x=b) w w':=by
 obtain⟨w1,hw1⟩:=pE (w.alloc (.cells #[.int .i64 k,.int .i64 m,x2,x3,x4,x5,x6,x7,x8,x9,x10,x11] 32));have A1:=pB hw1
 have G1:w1.heap[w.heap.size]? =some (.cells #[.int .i64 k,.int .i64 m,x2,x3,x4,x5,x6,x7,x8,x9,x10,x11] 32 (0,0)):=by rw[<-hw1];exact heap_alloc_new w _
 have c0:w1.cell? ⟨w.heap.size,0,none⟩=some (.int .i64 k):=by simp[World.cell?,G1]
 have c1:w1.cell? ⟨w.heap.size,1,none⟩=some (.int .i64 m):=by simp[World.cell?,G1]
 have h1:Nt.Bt w1 b bs:=h.keep (A1.block b h.lt);have H1:Hid (w.alloc (.cells #[.int .i64 k,.int .i64 m,x2,x3,x4,x5,x6,x7,x8,x9,x10,x11] 32)=w1):=hw1;have CN:Hid _:=Tryz.hasNode_any k w1;obtain⟨q,hq⟩:=pE (Ac.hasNodeB k);rw[hq]at CN hm⊢;have HA:Hid (Below w.heap.size w w1/\Nt.Bt w1 b bs):=⟨A1,h1⟩
 cases q with
 |false=>
  clear hw1 A1 G1 h1 h hm hq hl
  go_enter Tryz.func50,Tryz.ntmps50
  go_upto_region 1 with fail
  rw[H1.out]
  go_wp2_with fail
  refine Calls.mono CN.out ?_;rintro e W2 ⟨rfl,hw2⟩;obtain rfl:=hw2.symm;go_wp2;go_ret;exact⟨rfl,HA.out.2,Tk.But.of_below HA.out.1⟩
 |true=>
  obtain⟨i,rfl⟩:∃i:Nat,m=i:=⟨m.toNat,by have:=hm rfl;omega⟩;have hi:i<24:=by have:=hm rfl;omega
  have hx:bs[i]? =some (bs[i]'(by omega)):=List.getElem?_eq_getElem (by omega);obtain⟨x,hxx⟩:=pE (bs[i]'(by omega));rw[hxx]at hx;have d0:=h1.cell i x hx;have f0:=h1.frozen i;have hi':(i:Int)<24:=by omega
  have hi0:(0:Int)<=i:=by omega
  have hlt:b≠w.heap.size:=by have:=h.lt;omega
  have c1':(w1.setCell ⟨b,i,none⟩ (.bool true)).cell? ⟨w.heap.size,1,none⟩=some (.int .i64 (i:Int)):=by
   rw[World.cell?_of_block (w:=w1) (Below.heap_setCell _ _ _ _ (Ne.symm hlt))];exact c1
  have HP:Hid (Nt.Bt (w1.setCell ⟨b,i,none⟩ (.bool true)) b (bs.set i true)/\Tk.But (λk=>k=b) w (w1.setCell ⟨b,i,none⟩ (.bool true))/\(bs[i]?).getD true=x):=⟨h1.put i true,(Tk.But.of_below A1).setCell (E:=λk=>k=b) (p:=⟨b,i,none⟩) rfl _,by rw[hx];rfl⟩;clear hw1 A1 G1 h1 h hm hq hl hx hxx
  go_enter Tryz.func50,Tryz.ntmps50
  go_upto_region 1 with fail
  rw[H1.out]
  go_wp2_with fail
  refine Calls.mono CN.out ?_;rintro e W2 ⟨rfl,hw2⟩;obtain rfl:=hw2.symm;go_wp2;go_ret;exact⟨by rw[HP.out.2.2];rfl,HP.out.1,HP.out.2.1⟩
theorem Ak.stepped_twice (B e b bw:Nat)(hB:B<=b)(hne:b≠bw):Ak.Stepped Ac.enterS Ac.NodeOk 50 #[.pointer (some ⟨b,0,none⟩)] (λbs W=>Nt.Bt W b bs/\bs.length=24) (λk=>k=b) B e bw where
 enters:=enters_of Tryz.func50 (by kernel_rfl) rfl
 calls:=λs W d T V hP hI _ _=>by
  have h:=Tryz.twice1_any T.kind T.node (.int .i64 T.a) (.int .i64 T.b) (.int .i64 T.t.op) (.int .i64 T.t.num) V.t V.c V.k V.l V.n V.f b s W hI.1 hI.2 hP;refine Calls.mono h λe w' q=> ?_;unfold Ac.enterS;refine⟨?_, ?_,q.2.2⟩
  ·rw[q.1];congr 2;split<;>rfl
  have h2:=q.2.1
  split at h2
  ·next hh=>rw[if_pos hh];exact⟨h2,by simp[hI.2]⟩
  next hh=>rw[if_neg hh];exact⟨h2,hI.2⟩
 keeps:=λs W W' hI hb=>⟨hI.1.keep (hb.block b hI.1.lt hne),hI.2⟩
 above:=λk hk=>hk▸hB
 not_bw:=λh=>hne h.symm
theorem Tryz.anestSame_any (d d' B e e':Nat)(S T:Ac)(U V:Ac.Vs)(w:World)(hS:Ac.Lies w B e d U S)(hT:Ac.Lies w B e' d' V T)(hB:0<B)(hBs:B<=w.heap.size)(hsz:S.size<=2147483647)(hdp:S.depth<=1000)(hF:S.All Ac.Fit):
  Calls Tryz.prog 38 #[.agg #[.func (.func 60) #[] #[],.int .i64 1000,.int .i64 2147483647],.agg (Ac.row S U),.agg (Ac.row T V),.func (.func 40) #[] #[]] w λe w'=>Ak.Told (S=T) e/\Below w.heap.size w w':=by
 obtain⟨y0,y1,y2,y3,y4,y5,y6,y7,y8,y9,y10,y11,hyr⟩:∃y0 y1 y2 y3 y4 y5 y6 y7 y8 y9 y10 y11,Ac.row S U=#[y0,y1,y2,y3,y4,y5,y6,y7,y8,y9,y10,y11]:=⟨_,_,_,_,_,_,_,_,_,_,_,_,rfl⟩;obtain⟨z0,z1,z2,z3,z4,z5,z6,z7,z8,z9,z10,z11,hzr⟩:∃z0 z1 z2 z3 z4 z5 z6 z7 z8 z9 z10 z11,Ac.row T V=#[z0,z1,z2,z3,z4,z5,z6,z7,z8,z9,z10,z11]:=⟨_,_,_,_,_,_,_,_,_,_,_,_,rfl⟩;rw[hyr,hzr];obtain⟨w1,hw1⟩:=pE (((w.alloc (.cells #[.func (.func 60) #[] #[],.int .i64 1000,.int .i64 2147483647] 80)).alloc (.cells #[y0,y1,y2,y3,y4,y5,y6,y7,y8,y9,y10,y11] 32)).alloc (.cells #[z0,z1,z2,z3,z4,z5,z6,z7,z8,z9,z10,z11] 32));have A1:Below w.heap.size w w1:=by rw[<-hw1];exact(((Below.refl _ w).alloc (Nat.le_refl _) _).alloc (by simp) _).alloc (by simp;omega) _
 have hWy:Ak.Wy w.heap.size 1000 2147483647 w1:=by
  rw[<-hw1];exact Ak.Wy.keep (Ak.Wy.keep (heap_alloc_new w _) (Below.heap_alloc _ _ _ (by simp))) (Below.heap_alloc _ _ _ (by simp;omega))
 have hcall:=Tryz.asame_any 1000 w.heap.size B e e' hB hBs d d' 1000 S T U V 2147483647 w1 (hS.below (A1.mono hBs)) (hT.below (A1.mono hBs)) (Nat.le_trans hBs A1.size) hWy hsz (Nat.le_refl _) hdp (Nat.le_refl _) hF;rw[hyr,hzr]at hcall;have HC:Hid _:=hcall;have HA:Hid (Below w.heap.size w w1):=A1;have H1:Hid (((w.alloc (.cells #[.func (.func 60) #[] #[],.int .i64 1000,.int .i64 2147483647] 80)).alloc (.cells #[y0,y1,y2,y3,y4,y5,y6,y7,y8,y9,y10,y11] 32)).alloc (.cells #[z0,z1,z2,z3,z4,z5,z6,z7,z8,z9,z10,z11] 32)=w1):=hw1;clear hcall A1 hS hT hyr hzr hw1 hWy hF
 go_enter Tryz.func38,Tryz.ntmps38
 go_wp2_with fail
 rw[H1.out];refine Calls.mono HC.out ?_;rintro e0 W1 ⟨r,rfl,hr,hb,-⟩;have X:Hid ((r=true↔S=T)/\Below w.heap.size w W1):=⟨hr,HA.out.trans (hb.below HA.out.size (λk hk=>by omega))⟩;clear hb hr;go_wp2;go_ret;exact⟨Ak.Told.iff X.out.1,X.out.2⟩
theorem Tryz.aSame_any (d d' e e':Nat)(S T:Ac)(U V:Ac.Vs)(w:World)(hS:Ac.Lies w w.heap.size e d U S)(hT:Ac.Lies w w.heap.size e' d' V T)(h0:0<w.heap.size)(hsz:S.size<=2147483647)(hdp:S.depth<=1000)(hF:S.All Ac.Fit):
  Calls Tryz.prog 20 #[.agg (Ac.row S U),.agg (Ac.row T V)] w λe w'=>Ak.Told (S=T) e/\Below w.heap.size w w':=by
 obtain⟨y0,y1,y2,y3,y4,y5,y6,y7,y8,y9,y10,y11,hyr⟩:∃y0 y1 y2 y3 y4 y5 y6 y7 y8 y9 y10 y11,Ac.row S U=#[y0,y1,y2,y3,y4,y5,y6,y7,y8,y9,y10,y11]:=⟨_,_,_,_,_,_,_,_,_,_,_,_,rfl⟩;obtain⟨z0,z1,z2,z3,z4,z5,z6,z7,z8,z9,z10,z11,hzr⟩:∃z0 z1 z2 z3 z4 z5 z6 z7 z8 z9 z10 z11,Ac.row T V=#[z0,z1,z2,z3,z4,z5,z6,z7,z8,z9,z10,z11]:=⟨_,_,_,_,_,_,_,_,_,_,_,_,rfl⟩;rw[hyr,hzr];obtain⟨w1,hw1⟩:=pE ((w.alloc (.cells #[y0,y1,y2,y3,y4,y5,y6,y7,y8,y9,y10,y11] 32)).alloc (.cells #[z0,z1,z2,z3,z4,z5,z6,z7,z8,z9,z10,z11] 32));have hs1:w1.heap.size=w.heap.size+2:=by rw[<-hw1];simp
 have A1:Below w.heap.size w w1:=by rw[<-hw1];exact((Below.refl _ w).alloc (Nat.le_refl _) _).alloc (by simp) _
 have C0:w1.heap[w.heap.size]? =some (.cells #[y0,y1,y2,y3,y4,y5,y6,y7,y8,y9,y10,y11] 32 (0,0)):=by rw[<-hw1,Below.heap_alloc _ _ _ (by simp)];exact heap_alloc_new w _
 have C1:w1.heap[w.heap.size+1]? =some (.cells #[z0,z1,z2,z3,z4,z5,z6,z7,z8,z9,z10,z11] 32 (0,0)):=by
  rw[<-hw1];have:=heap_alloc_new (w.alloc (.cells #[y0,y1,y2,y3,y4,y5,y6,y7,y8,y9,y10,y11] 32)) (.cells #[z0,z1,z2,z3,z4,z5,z6,z7,z8,z9,z10,z11] 32);simpa using this
 have CF:Hid (∀W,Below w1.heap.size w1 W->W.cell? ⟨w.heap.size,0,none⟩=some y0/\W.cell? ⟨w.heap.size,1,none⟩=some y1/\W.cell? ⟨w.heap.size,2,none⟩=some y2/\W.cell? ⟨w.heap.size,3,none⟩=some y3/\W.cell? ⟨w.heap.size,4,none⟩=some y4/\W.cell? ⟨w.heap.size,5,none⟩=some y5/\W.cell? ⟨w.heap.size,6,none⟩=some y6/\W.cell? ⟨w.heap.size,7,none⟩=some y7/\W.cell? ⟨w.heap.size,8,none⟩=some y8/\W.cell? ⟨w.heap.size,9,none⟩=some y9/\W.cell? ⟨w.heap.size,10,none⟩=some y10/\W.cell? ⟨w.heap.size,11,none⟩=some y11/\W.cell? ⟨w.heap.size+1,0,none⟩=some z0/\W.cell? ⟨w.heap.size+1,1,none⟩=some z1/\W.cell? ⟨w.heap.size+1,2,none⟩=some z2/\W.cell? ⟨w.heap.size+1,3,none⟩=some z3/\W.cell? ⟨w.heap.size+1,4,none⟩=some z4/\W.cell? ⟨w.heap.size+1,5,none⟩=some z5/\W.cell? ⟨w.heap.size+1,6,none⟩=some z6/\W.cell? ⟨w.heap.size+1,7,none⟩=some z7/\W.cell? ⟨w.heap.size+1,8,none⟩=some z8/\W.cell? ⟨w.heap.size+1,9,none⟩=some z9/\W.cell? ⟨w.heap.size+1,10,none⟩=some z10/\W.cell? ⟨w.heap.size+1,11,none⟩=some z11):=λW hb=>by
  have e1:=(hb.block w.heap.size (by omega)).trans C0;have e2:=(hb.block (w.heap.size+1) (by omega)).trans C1;simp[World.cell?,e1,e2]
 have CW:Hid (∀W,Below w1.heap.size w1 W->Calls Tryz.prog 39 #[.int .i64 1000,.int .i64 2147483647] W λe w'=>e=.returned (.agg #[.func (.func 60) #[] #[],.int .i64 1000,.int .i64 2147483647])/\Hid (Below w1.heap.size w1 w')):=λW hb=>
  (Tryz.away_any 1000 2147483647 W).mono λ_ w' h=>⟨h.1,hb.trans (h.2.mono hb.size)⟩
 have CT:Hid (∀W,Below w1.heap.size w1 W->Calls Tryz.prog 38 #[.agg #[.func (.func 60) #[] #[],.int .i64 1000,.int .i64 2147483647],.agg #[y0,y1,y2,y3,y4,y5,y6,y7,y8,y9,y10,y11],.agg #[z0,z1,z2,z3,z4,z5,z6,z7,z8,z9,z10,z11],.func (.func 40) #[] #[]] W λe w'=>∃r,e=.returned (.bool r)/\Hid ((r=true↔S=T)/\Below w1.heap.size w1 w')):=λW hb=>by
  have h:=Tryz.anestSame_any d d' w.heap.size e e' S T U V W ((hS.below A1).below (hb.mono (by omega))) ((hT.below A1).below (hb.mono (by omega))) h0 (by have:=hb.size;omega) hsz hdp hF;rw[hyr,hzr]at h
  exact h.mono λ_ w' h=>by
   obtain⟨⟨r,he,hr⟩,hb'⟩:=h;exact⟨r,he,hr,hb.trans (hb'.mono hb.size)⟩
 have H1:Hid ((w.alloc (.cells #[y0,y1,y2,y3,y4,y5,y6,y7,y8,y9,y10,y11] 32)).alloc (.cells #[z0,z1,z2,z3,z4,z5,z6,z7,z8,z9,z10,z11] 32)=w1):=hw1;have HA:Hid (Below w.heap.size w w1/\w.heap.size<=w1.heap.size):=⟨A1,by omega⟩;have BR:Hid (Below w1.heap.size w1 w1):=Below.refl _ _;clear A1 hS hT hyr hzr hF hw1 C0 C1 hs1
 go_enter Tryz.func20,Tryz.ntmps20
 go_upto_region 1 with fail
 rw[H1.out]
 go_region_held3 (λW=>W.cell? ⟨w.heap.size,0,none⟩=some y0/\W.cell? ⟨w.heap.size,1,none⟩=some y1/\W.cell? ⟨w.heap.size,2,none⟩=some y2/\W.cell? ⟨w.heap.size,3,none⟩=some y3/\W.cell? ⟨w.heap.size,4,none⟩=some y4/\W.cell? ⟨w.heap.size,5,none⟩=some y5/\W.cell? ⟨w.heap.size,6,none⟩=some y6/\W.cell? ⟨w.heap.size,7,none⟩=some y7/\W.cell? ⟨w.heap.size,8,none⟩=some y8/\W.cell? ⟨w.heap.size,9,none⟩=some y9/\W.cell? ⟨w.heap.size,10,none⟩=some y10/\W.cell? ⟨w.heap.size,11,none⟩=some y11/\W.cell? ⟨w.heap.size+1,0,none⟩=some z0/\W.cell? ⟨w.heap.size+1,1,none⟩=some z1/\W.cell? ⟨w.heap.size+1,2,none⟩=some z2/\W.cell? ⟨w.heap.size+1,3,none⟩=some z3/\W.cell? ⟨w.heap.size+1,4,none⟩=some z4/\W.cell? ⟨w.heap.size+1,5,none⟩=some z5/\W.cell? ⟨w.heap.size+1,6,none⟩=some z6/\W.cell? ⟨w.heap.size+1,7,none⟩=some z7/\W.cell? ⟨w.heap.size+1,8,none⟩=some z8/\W.cell? ⟨w.heap.size+1,9,none⟩=some z9/\W.cell? ⟨w.heap.size+1,10,none⟩=some z10/\W.cell? ⟨w.heap.size+1,11,none⟩=some z11)
  (first|exact CF.out _ H4.out.2|exact CF.out _ B3.out|exact CF.out _ BR.out.drew|exact CF.out _ BR.out)
  (first
  |(go_simp;go_at_call 39;refine Calls.mono (CW.out _ ?_) ?_;(first|exact BR.out|exact BR.out.drew|exact Tk.below_drewN BR.out _);rintro e0 W3 ⟨rfl,B3⟩)
  |(go_simp;go_at_call 38;refine Calls.mono (CT.out _ ?_) ?_;(first|exact B3.out|exact B3.out.drew|exact Tk.below_drewN B3.out _);rintro e0 W4 ⟨r,rfl,H4⟩))
 all_goals
  clear CW CT BR CF;go_simp;go_wp2;go_ret;exact⟨Ak.Told.iff H4.out.1,HA.out.1.trans (H4.out.2.mono HA.out.2)⟩
end Go.Proofs
