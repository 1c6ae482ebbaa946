import Derived.Test.YtenaelpdnccgnaaGreatDoorRAcFormA
import Derived.Test.YtenaelpdnccgnaaGreatDoorRAcFormB
import Derived.Test.YtenaelpdnccgnaaGreatDoorRAcFormC
import Derived.Test.YtenaelpdnccgnaaGreatDoorRAcFormD
import Derived.Test.YtenaelpdnccgnaaGreatDoorRAcFormE
import Derived.Test.YtenaelpdnccgnaaGreatDoorRAcFormH
import Derived.Test.YtenaelpdnccgnaaGreatDoorRBwRoot
set_option maxRecDepth 100000
set_option maxHeartbeats 32000000
namespace Go.Proofs
open Go.RowKit Go.Shelf
theorem Tm.lies_any (w:World)(B d:Nat):Tm.Lies w B (d+1) (.slice none 0 0) (.mk 0 0 []):=⟨none,0,rfl,.inl rfl⟩
theorem Ak.lies_up {w:World}{B:Nat} :∀{d:Nat} {v:Value} {T:Tm},Tm.Lies w B d v T->Tm.Lies w B (d+1) v T
 |0,_,_,h=>h.elim
 |d+1,v,T,h=>by
  obtain⟨a,cap,hv,h⟩:=h;refine⟨a,cap,hv,h.elim .inl fun⟨g,off,ha,hg,hr⟩=> .inr ⟨g,off,ha,hg,λj hj=> ?_⟩⟩;obtain⟨u,h0,h1,h2,h3⟩:=hr j hj;exact⟨u,h0,h1,h2,Ak.lies_up h3⟩
theorem Ak.tms_up {w:World}{B d:Nat}{a:Option Addr}{cs:List Tm}(h:Ac.Tms w B d a cs):Ac.Tms w B (d+1) a cs:=λj hj=>by
 obtain⟨g,off,u,h1,h2,c0,c1,c2,h3⟩:=h j hj;exact⟨g,off,u,h1,h2,c0,c1,c2,Ak.lies_up h3⟩
theorem Ak.nds_up {w:World}{B d:Nat}{a:Option Addr}{cs:List Nd}(h:Nt.Nds w B d a cs):Nt.Nds w B (d+1) a cs:=λj hj=>by
 obtain⟨g,off,u,h1,h2,c0,c1,c2,c3,c4,h3⟩:=h j hj;exact⟨g,off,u,h1,h2,c0,c1,c2,c3,c4,Ak.lies_up h3⟩
theorem Ak.fls_up {w:World}{B d:Nat}{a:Option Addr}{cs:List Fl}(h:Nt.Fls w B d a cs):Nt.Fls w B (d+1) a cs:=λj hj=>by
 obtain⟨g,off,u,h1,h2,c0,c1,c2,c3,c4,c5,h3⟩:=h j hj;exact⟨g,off,u,h1,h2,c0,c1,c2,c3,c4,c5,Ak.lies_up h3⟩
theorem Ak.tms_of {w:World}{B e n c:Nat}{a:Option Addr}{t k l m f:Value}{T:Ac}(h:Ac.Own w B e ⟨t,.slice a n c,k,l,m,f⟩ T):Ac.Tms w B e a T.cs:=by
 obtain⟨a',c',e1,h⟩:=h.c;obtain⟨rfl,-,-⟩:=Value.slice.inj e1;exact h
theorem Ak.nds_of {w:World}{B e n c:Nat}{a:Option Addr}{t k l m f:Value}{T:Ac}(h:Ac.Own w B e ⟨t,m,k,l,.slice a n c,f⟩ T):Nt.Nds w B e a T.ns:=by
 obtain⟨a',c',e1,h⟩:=h.n;obtain⟨rfl,-,-⟩:=Value.slice.inj e1;exact h
theorem Ak.fls_of {w:World}{B e n c:Nat}{a:Option Addr}{t k l m f:Value}{T:Ac}(h:Ac.Own w B e ⟨t,m,k,l,f,.slice a n c⟩ T):Nt.Fls w B e a T.fs:=by
 obtain⟨a',c',e1,h⟩:=h.f;obtain⟨rfl,-,-⟩:=Value.slice.inj e1;exact h
theorem Ak.own_zero (w:World)(B:Nat)(k:Int):Ac.Own w B 1 Ac.V0 (Ac.zeroOf k):=⟨⟨none,0,rfl,.inl rfl⟩,⟨none,0,rfl,λj h=>by simp[Ac.zeroOf,Ac.cs]at h⟩,⟨none,0,rfl,λj h=>by simp[Ac.zeroOf,Ac.ls]at h⟩,⟨none,0,rfl,λj h=>by simp[Ac.zeroOf,Ac.ns]at h⟩,⟨none,0,rfl,λj h=>by simp[Ac.zeroOf,Ac.fs]at h⟩⟩
theorem Ak.own_up {w:World}{B e:Nat}{V:Ac.Vs}{T:Ac}(h:Ac.Own w B e V T):Ac.Own w B (e+1) V T:=by
 obtain⟨h1,⟨a2,c2,e2,h2⟩,⟨a3,c3,e3,h3⟩,⟨a4,c4,e4,h4⟩,⟨a5,c5,e5,h5⟩⟩:=h;exact⟨Ak.lies_up h1,⟨a2,c2,e2,Ak.tms_up h2⟩,⟨a3,c3,e3,h3⟩,⟨a4,c4,e4,Ak.nds_up h4⟩,⟨a5,c5,e5,Ak.fls_up h5⟩⟩
theorem Ak.holds_env {d e:Nat}{T:Ac}{V:Ac.Vs}{w:World}(hT:Ac.Lies w w.heap.size e d V T)(hF:T.Fit)(W:World)(hb:Below w.heap.size w W):Calls Tryz.prog 43 #[.agg (Ac.row T V)] W λe' w'=>e'=.returned (.bool T.holdsB)/\Below W.heap.size W w':=
 Tryz.holds_any d e T V W ((hT.below hb).wider hb.size) (by have:=hF.kl;omega)
theorem Ak.alike_env {e:Nat}{T:Ac}{V:Ac.Vs}{w:World}(k:Int)(h0:0<w.heap.size)(h:Ac.Own w w.heap.size (e+1) V T)(hF:T.Fit)(W:World)(hb:Below w.heap.size w W):Calls Tryz.prog 40 #[.agg (Ac.row T V),.agg (Ac.row (Ac.zeroOf k) Ac.V0)] W λe' w'=>Ak.Told (Ac.Same1 T (Ac.zeroOf k)) e'/\Below W.heap.size W w':=
 Tryz.aalike_any (e+1) 1 w.heap.size T (Ac.zeroOf k) V Ac.V0 W (h.keep hb.block) ((Ak.own_zero w w.heap.size k).keep hb.block) hb.size (by have:=hb.size;omega) hF
theorem Ak.linked_env {d e:Nat}{T:Ac}{V:Ac.Vs}{w:World}(hT:Ac.Lies w w.heap.size e d V T)(hF:T.Fit)(W:World)(hb:Below w.heap.size w W):Calls Tryz.prog 48 #[.agg (Ac.row T V)] W λe' w'=>e'=.returned (.bool T.linkedB)/\Below W.heap.size W w':=
 Tryz.isLinked_any d e T V W ((hT.below hb).wider hb.size) hF
theorem Ak.c0 (w:World)(B e:Nat):∃a cap,Value.slice none 0 0=.slice a ([]:List Tm).length cap/\Ac.Tms w B e a []:=⟨none,0,rfl,λ_ h=>absurd h (Nat.not_lt_zero _)⟩
theorem Ak.l0 (w:World)(B:Nat):∃a cap,Value.slice none 0 0=.slice a ([]:List (Int×Int)).length cap/\Ac.Lks w B a []:=⟨none,0,rfl,λ_ h=>absurd h (Nat.not_lt_zero _)⟩
theorem Ak.n0 (w:World)(B e:Nat):∃a cap,Value.slice none 0 0=.slice a ([]:List Nd).length cap/\Nt.Nds w B e a []:=⟨none,0,rfl,λ_ h=>absurd h (Nat.not_lt_zero _)⟩
theorem Ak.f0 (w:World)(B e:Nat):∃a cap,Value.slice none 0 0=.slice a ([]:List Fl).length cap/\Nt.Fls w B e a []:=⟨none,0,rfl,λ_ h=>absurd h (Nat.not_lt_zero _)⟩
def Ac.Formed (T:Ac):Prop:=
 (T.kind=1/\T.holdsB=true/\Ac.Same1 T.rest (Ac.zeroOf T.kind)/\T.ks.length=0)∨
 (T.kind=5/\T.holdsB=true/\(0<=T.node/\T.node<24)/\Ac.Same1 T.rest (Ac.zeroOf T.kind)/\T.ks.length=0)∨
 (T.kind=2/\T.holdsB=true/\(0<=T.node/\T.node<24)/\(0<=T.a/\T.a<4)/\Ac.Same1 T.rest (Ac.zeroOf T.kind)/\T.ks.length=0)∨
 (T.kind=4/\T.holdsB=true/\(0<=T.node/\T.node<24)/\(0<=T.a/\T.a<4)/\Ac.Same1 T.rest (Ac.zeroOf T.kind)/\T.ks.length=0)∨
 (T.kind=3/\T.holdsB=true/\(0<=T.node/\T.node<24)/\Nt.ofB T.t 1=true/\(0<=T.a/\T.a<4)/\Ac.Same1 T.rest (Ac.zeroOf T.kind)/\T.ks.length=0)∨
 (T.kind=10/\T.holdsB=true/\(0<=T.node/\T.node<24)/\T.ks.length=1/\(0<=T.a/\T.a<5)/\Ac.Same1 T.rest (Ac.zeroOf T.kind)/\True)∨
 (T.kind=11/\T.holdsB=true/\(0<=T.node/\T.node<24)/\T.ks.length=2/\(0<=T.b/\T.b<(T.cs.length:Int))/\T.cs.length=T.ks.length/\Ac.choiceB T.cs T.a=true/\(0<=T.a/\T.a<(T.cs.length:Int))/\2<=T.ks.length/\Ac.Same1 T.rest (Ac.zeroOf T.kind)/\True)∨
 (T.kind=8/\T.holdsB=true/\(0<=T.node/\T.node<24)/\T.cs.length=T.ks.length/\Ac.choiceB T.cs T.a=true/\(0<=T.a/\T.a<(T.cs.length:Int))/\2<=T.ks.length/\Ac.Same1 T.rest (Ac.zeroOf T.kind)/\True)∨
 (T.kind=9/\T.holdsB=true/\(0<=T.node/\T.node<24)/\2<=T.ks.length/\Ac.Same1 T.rest (Ac.zeroOf T.kind)/\True)∨
 (T.kind=6/\T.holdsB=true/\2<=T.ks.length/\Ac.Same1 T.rest (Ac.zeroOf T.kind)/\True)∨
 (T.kind=7/\T.holdsB=true/\2<=T.ks.length/\Ac.Same1 T.rest (Ac.zeroOf T.kind)/\True)∨
 (T.kind=12/\T.a=3/\T.holdsB=true/\(0<=T.node/\T.node<24)/\2<=T.cs.length/\Ac.choiceB T.cs T.b=true/\(0<=T.b/\T.b<(T.cs.length:Int))/\True/\True/\Ac.Same1 T.rest (Ac.zeroOf T.kind)/\T.ks.length=0)∨
 (T.kind=12/\¬T.a=3/\T.holdsB=true/\(0<=T.node/\T.node<24)/\1<=T.a/\(0<=T.a/\T.a<5)/\Ac.Same1 T.rest (Ac.zeroOf T.kind)/\T.ks.length=0)∨
 (T.kind=13/\T.holdsB=true/\T.linkedB=true/\Ac.Same1 T.rest (Ac.zeroOf T.kind)/\True)∨
 (T.kind=14/\T.holdsB=true/\(Nt.checkN T.ns T.fs).1=0/\Ac.Same1 T.rest (Ac.zeroOf T.kind)/\T.ks.length=0) 
theorem Ac.formed_1 {T:Ac}(hk:T.kind=1):T.Formed↔T.holdsB=true/\Ac.Same1 T.rest (Ac.zeroOf T.kind)/\T.ks.length=0:=by simp[Ac.Formed,hk]
theorem Ac.formed_5 {T:Ac}(hk:T.kind=5):T.Formed↔T.holdsB=true/\(0<=T.node/\T.node<24)/\Ac.Same1 T.rest (Ac.zeroOf T.kind)/\T.ks.length=0:=by simp[Ac.Formed,hk]
theorem Ac.formed_2 {T:Ac}(hk:T.kind=2):T.Formed↔T.holdsB=true/\(0<=T.node/\T.node<24)/\(0<=T.a/\T.a<4)/\Ac.Same1 T.rest (Ac.zeroOf T.kind)/\T.ks.length=0:=by simp[Ac.Formed,hk]
theorem Ac.formed_4 {T:Ac}(hk:T.kind=4):T.Formed↔T.holdsB=true/\(0<=T.node/\T.node<24)/\(0<=T.a/\T.a<4)/\Ac.Same1 T.rest (Ac.zeroOf T.kind)/\T.ks.length=0:=by simp[Ac.Formed,hk]
theorem Ac.formed_3 {T:Ac}(hk:T.kind=3):T.Formed↔T.holdsB=true/\(0<=T.node/\T.node<24)/\Nt.ofB T.t 1=true/\(0<=T.a/\T.a<4)/\Ac.Same1 T.rest (Ac.zeroOf T.kind)/\T.ks.length=0:=by simp[Ac.Formed,hk]
theorem Ac.formed_10 {T:Ac}(hk:T.kind=10):T.Formed↔T.holdsB=true/\(0<=T.node/\T.node<24)/\T.ks.length=1/\(0<=T.a/\T.a<5)/\Ac.Same1 T.rest (Ac.zeroOf T.kind)/\True:=by simp[Ac.Formed,hk]
theorem Ac.formed_11 {T:Ac}(hk:T.kind=11):T.Formed↔T.holdsB=true/\(0<=T.node/\T.node<24)/\T.ks.length=2/\(0<=T.b/\T.b<(T.cs.length:Int))/\T.cs.length=T.ks.length/\Ac.choiceB T.cs T.a=true/\(0<=T.a/\T.a<(T.cs.length:Int))/\2<=T.ks.length/\Ac.Same1 T.rest (Ac.zeroOf T.kind)/\True:=by simp[Ac.Formed,hk]
theorem Ac.formed_8 {T:Ac}(hk:T.kind=8):T.Formed↔T.holdsB=true/\(0<=T.node/\T.node<24)/\T.cs.length=T.ks.length/\Ac.choiceB T.cs T.a=true/\(0<=T.a/\T.a<(T.cs.length:Int))/\2<=T.ks.length/\Ac.Same1 T.rest (Ac.zeroOf T.kind)/\True:=by simp[Ac.Formed,hk]
theorem Ac.formed_9 {T:Ac}(hk:T.kind=9):T.Formed↔T.holdsB=true/\(0<=T.node/\T.node<24)/\2<=T.ks.length/\Ac.Same1 T.rest (Ac.zeroOf T.kind)/\True:=by simp[Ac.Formed,hk]
theorem Ac.formed_6 {T:Ac}(hk:T.kind=6):T.Formed↔T.holdsB=true/\2<=T.ks.length/\Ac.Same1 T.rest (Ac.zeroOf T.kind)/\True:=by simp[Ac.Formed,hk]
theorem Ac.formed_7 {T:Ac}(hk:T.kind=7):T.Formed↔T.holdsB=true/\2<=T.ks.length/\Ac.Same1 T.rest (Ac.zeroOf T.kind)/\True:=by simp[Ac.Formed,hk]
theorem Ac.formed_12a {T:Ac}(hk:T.kind=12)(ha:T.a=3):T.Formed↔T.holdsB=true/\(0<=T.node/\T.node<24)/\2<=T.cs.length/\Ac.choiceB T.cs T.b=true/\(0<=T.b/\T.b<(T.cs.length:Int))/\True/\True/\Ac.Same1 T.rest (Ac.zeroOf T.kind)/\T.ks.length=0:=by simp[Ac.Formed,hk,ha]
theorem Ac.formed_12b {T:Ac}(hk:T.kind=12)(ha:¬T.a=3):T.Formed↔T.holdsB=true/\(0<=T.node/\T.node<24)/\1<=T.a/\(0<=T.a/\T.a<5)/\Ac.Same1 T.rest (Ac.zeroOf T.kind)/\T.ks.length=0:=by simp[Ac.Formed,hk,ha]
theorem Ac.formed_13 {T:Ac}(hk:T.kind=13):T.Formed↔T.holdsB=true/\T.linkedB=true/\Ac.Same1 T.rest (Ac.zeroOf T.kind)/\True:=by simp[Ac.Formed,hk]
theorem Ac.formed_14 {T:Ac}(hk:T.kind=14):T.Formed↔T.holdsB=true/\(Nt.checkN T.ns T.fs).1=0/\Ac.Same1 T.rest (Ac.zeroOf T.kind)/\T.ks.length=0:=by simp[Ac.Formed,hk]
theorem Tryz.aformed_1 (d e:Nat)(T:Ac)(V:Ac.Vs)(w:World)(hT:Ac.Lies w w.heap.size e d V T)(hF:T.Fit)(_hO:Tk.Ops w)(h0:0<w.heap.size)(hk:T.kind=1):
  Calls Tryz.prog 26 #[.agg (Ac.row T V)] w λe w'=>Ak.Told T.Formed e/\Below w.heap.size w w':=by
 rw[Ac.formed_1 hk];obtain⟨a6,c6,a7,c7,a8,c8,a9,c9,aA,cA,aB,cB,rfl⟩:=hT.shape;obtain⟨k,nd,a,b,t,cs,ks,ls,ns,fs⟩:=T;obtain rfl:k=1:=hk;have u:=Ak.own_up hT.own;rw[show Ac.rest (.mk 1 nd a b t cs ks ls ns fs)=.mk 1 nd a b t cs ks ls ns fs by simp[Ac.rest,Ac.kind]];have c1:=Ak.holds_env hT hF;have c2:=Ak.alike_env (T:=.mk 1 nd a b t cs ks ls ns fs) (V:=⟨.slice a6 t.ks.length c6,.slice a7 cs.length c7,.slice a8 ks.length c8,.slice a9 ls.length c9,.slice aA ns.length cA,.slice aB fs.length cB⟩) 1 h0 ⟨u.t,u.c,u.l,u.n,u.f⟩ ⟨hF.t,hF.c,hF.n,hF.f,hF.cl,hF.kl,hF.ll,hF.nl,hF.fl⟩;exact Tryz.fm_1 (x1:=nd) (x2:=a) (x3:=b) (x4:=t.op) (x5:=t.num) (P:=Ac.Same1 (.mk 1 nd a b t cs ks ls ns fs) (Ac.zeroOf 1)) (hb:=(Ac.mk 1 nd a b t cs ks ls ns fs).holdsB) hF.cl hF.kl c1 c2
theorem Tryz.aformed_5 (d e:Nat)(T:Ac)(V:Ac.Vs)(w:World)(hT:Ac.Lies w w.heap.size e d V T)(hF:T.Fit)(_hO:Tk.Ops w)(h0:0<w.heap.size)(hk:T.kind=5):
  Calls Tryz.prog 26 #[.agg (Ac.row T V)] w λe w'=>Ak.Told T.Formed e/\Below w.heap.size w w':=by
 rw[Ac.formed_5 hk];obtain⟨a6,c6,a7,c7,a8,c8,a9,c9,aA,cA,aB,cB,rfl⟩:=hT.shape;obtain⟨k,nd,a,b,t,cs,ks,ls,ns,fs⟩:=T;obtain rfl:k=5:=hk;have u:=Ak.own_up hT.own;rw[show Ac.rest (.mk 5 nd a b t cs ks ls ns fs)=.mk 5 0 a b t cs ks ls ns fs by simp[Ac.rest,Ac.kind,Ac.a,Ac.b,Ac.t,Ac.cs,Ac.ks,Ac.ls,Ac.ns,Ac.fs]];have c1:=Ak.holds_env hT hF;have c2:=Ak.alike_env (T:=.mk 5 0 a b t cs ks ls ns fs) (V:=⟨.slice a6 t.ks.length c6,.slice a7 cs.length c7,.slice a8 ks.length c8,.slice a9 ls.length c9,.slice aA ns.length cA,.slice aB fs.length cB⟩) 5 h0 ⟨u.t,u.c,u.l,u.n,u.f⟩ ⟨hF.t,hF.c,hF.n,hF.f,hF.cl,hF.kl,hF.ll,hF.nl,hF.fl⟩;exact Tryz.fm_5 (x1:=nd) (x2:=a) (x3:=b) (x4:=t.op) (x5:=t.num) (P:=Ac.Same1 (.mk 5 0 a b t cs ks ls ns fs) (Ac.zeroOf 5)) (hb:=(Ac.mk 5 nd a b t cs ks ls ns fs).holdsB) hF.cl hF.kl c1 c2
theorem Tryz.aformed_2 (d e:Nat)(T:Ac)(V:Ac.Vs)(w:World)(hT:Ac.Lies w w.heap.size e d V T)(hF:T.Fit)(_hO:Tk.Ops w)(h0:0<w.heap.size)(hk:T.kind=2):
  Calls Tryz.prog 26 #[.agg (Ac.row T V)] w λe w'=>Ak.Told T.Formed e/\Below w.heap.size w w':=by
 rw[Ac.formed_2 hk];obtain⟨a6,c6,a7,c7,a8,c8,a9,c9,aA,cA,aB,cB,rfl⟩:=hT.shape;obtain⟨k,nd,a,b,t,cs,ks,ls,ns,fs⟩:=T;obtain rfl:k=2:=hk;have u:=Ak.own_up hT.own;rw[show Ac.rest (.mk 2 nd a b t cs ks ls ns fs)=.mk 2 0 0 b t cs ks ls ns fs by simp[Ac.rest,Ac.kind,Ac.b,Ac.t,Ac.cs,Ac.ks,Ac.ls,Ac.ns,Ac.fs]];have c1:=Ak.holds_env hT hF;have c2:=Ak.alike_env (T:=.mk 2 0 0 b t cs ks ls ns fs) (V:=⟨.slice a6 t.ks.length c6,.slice a7 cs.length c7,.slice a8 ks.length c8,.slice a9 ls.length c9,.slice aA ns.length cA,.slice aB fs.length cB⟩) 2 h0 ⟨u.t,u.c,u.l,u.n,u.f⟩ ⟨hF.t,hF.c,hF.n,hF.f,hF.cl,hF.kl,hF.ll,hF.nl,hF.fl⟩;exact Tryz.fm_2 (x1:=nd) (x2:=a) (x3:=b) (x4:=t.op) (x5:=t.num) (P:=Ac.Same1 (.mk 2 0 0 b t cs ks ls ns fs) (Ac.zeroOf 2)) (hb:=(Ac.mk 2 nd a b t cs ks ls ns fs).holdsB) hF.cl hF.kl c1 c2
theorem Tryz.aformed_4 (d e:Nat)(T:Ac)(V:Ac.Vs)(w:World)(hT:Ac.Lies w w.heap.size e d V T)(hF:T.Fit)(_hO:Tk.Ops w)(h0:0<w.heap.size)(hk:T.kind=4):
  Calls Tryz.prog 26 #[.agg (Ac.row T V)] w λe w'=>Ak.Told T.Formed e/\Below w.heap.size w w':=by
 rw[Ac.formed_4 hk];obtain⟨a6,c6,a7,c7,a8,c8,a9,c9,aA,cA,aB,cB,rfl⟩:=hT.shape;obtain⟨k,nd,a,b,t,cs,ks,ls,ns,fs⟩:=T;obtain rfl:k=4:=hk;have u:=Ak.own_up hT.own;rw[show Ac.rest (.mk 4 nd a b t cs ks ls ns fs)=.mk 4 0 0 b t cs ks ls ns fs by simp[Ac.rest,Ac.kind,Ac.b,Ac.t,Ac.cs,Ac.ks,Ac.ls,Ac.ns,Ac.fs]];have c1:=Ak.holds_env hT hF;have c2:=Ak.alike_env (T:=.mk 4 0 0 b t cs ks ls ns fs) (V:=⟨.slice a6 t.ks.length c6,.slice a7 cs.length c7,.slice a8 ks.length c8,.slice a9 ls.length c9,.slice aA ns.length cA,.slice aB fs.length cB⟩) 4 h0 ⟨u.t,u.c,u.l,u.n,u.f⟩ ⟨hF.t,hF.c,hF.n,hF.f,hF.cl,hF.kl,hF.ll,hF.nl,hF.fl⟩;exact Tryz.fm_4 (x1:=nd) (x2:=a) (x3:=b) (x4:=t.op) (x5:=t.num) (P:=Ac.Same1 (.mk 4 0 0 b t cs ks ls ns fs) (Ac.zeroOf 4)) (hb:=(Ac.mk 4 nd a b t cs ks ls ns fs).holdsB) hF.cl hF.kl c1 c2
theorem Tryz.aformed_3 (d e:Nat)(T:Ac)(V:Ac.Vs)(w:World)(hT:Ac.Lies w w.heap.size e d V T)(hF:T.Fit)(hO:Tk.Ops w)(h0:0<w.heap.size)(hk:T.kind=3):
  Calls Tryz.prog 26 #[.agg (Ac.row T V)] w λe w'=>Ak.Told T.Formed e/\Below w.heap.size w w':=by
 rw[Ac.formed_3 hk];obtain⟨a6,c6,a7,c7,a8,c8,a9,c9,aA,cA,aB,cB,rfl⟩:=hT.shape;obtain⟨k,nd,a,b,t,cs,ks,ls,ns,fs⟩:=T;obtain rfl:k=3:=hk;have u:=Ak.own_up hT.own;rw[show Ac.rest (.mk 3 nd a b t cs ks ls ns fs)=.mk 3 0 0 b (.mk 0 0 []) cs ks ls ns fs by simp[Ac.rest,Ac.kind,Ac.b,Ac.cs,Ac.ks,Ac.ls,Ac.ns,Ac.fs]];have c1:=Ak.holds_env hT hF;have c2:=Ak.alike_env (T:=.mk 3 0 0 b (.mk 0 0 []) cs ks ls ns fs) (V:=⟨.slice none 0 0,.slice a7 cs.length c7,.slice a8 ks.length c8,.slice a9 ls.length c9,.slice aA ns.length cA,.slice aB fs.length cB⟩) 3 h0 ⟨Tm.lies_any _ _ _,u.c,u.l,u.n,u.f⟩ ⟨⟨(by decide:(Tm.mk 0 0 []).size<=2147483647),(by decide:(Tm.mk 0 0 []).depth<=1000)⟩,hF.c,hF.n,hF.f,hF.cl,hF.kl,hF.ll,hF.nl,hF.fl⟩
 exact Tryz.fm_3 (x1:=nd) (x2:=a) (x3:=b) (x4:=t.op) (x5:=t.num) (P:=Ac.Same1 (.mk 3 0 0 b (.mk 0 0 []) cs ks ls ns fs) (Ac.zeroOf 3)) (hb:=(Ac.mk 3 nd a b t cs ks ls ns fs).holdsB) (ob:=Nt.ofB t 1) hF.cl hF.kl c1 c2
  (λW hb=>Tryz.aisOf_any 1 e t _ W ((hT.own.t.below hb).wider hb.size) (hO.below hb hO.lt) hF.t.1)
theorem Tryz.aformed_10 (d e:Nat)(T:Ac)(V:Ac.Vs)(w:World)(hT:Ac.Lies w w.heap.size e d V T)(hF:T.Fit)(_hO:Tk.Ops w)(h0:0<w.heap.size)(hk:T.kind=10):
  Calls Tryz.prog 26 #[.agg (Ac.row T V)] w λe w'=>Ak.Told T.Formed e/\Below w.heap.size w w':=by
 rw[Ac.formed_10 hk];obtain⟨a6,c6,a7,c7,a8,c8,a9,c9,aA,cA,aB,cB,rfl⟩:=hT.shape;obtain⟨k,nd,a,b,t,cs,ks,ls,ns,fs⟩:=T;obtain rfl:k=10:=hk;have u:=Ak.own_up hT.own;rw[show Ac.rest (.mk 10 nd a b t cs ks ls ns fs)=.mk 10 0 0 b t cs [] ls ns fs by simp[Ac.rest,Ac.kind,Ac.b,Ac.t,Ac.cs,Ac.ls,Ac.ns,Ac.fs]];have c1:=Ak.holds_env hT hF;have c2:=Ak.alike_env (T:=.mk 10 0 0 b t cs [] ls ns fs) (V:=⟨.slice a6 t.ks.length c6,.slice a7 cs.length c7,.slice none 0 0,.slice a9 ls.length c9,.slice aA ns.length cA,.slice aB fs.length cB⟩) 10 h0 ⟨u.t,u.c,u.l,u.n,u.f⟩ ⟨hF.t,hF.c,hF.n,hF.f,hF.cl,Nat.zero_le _,hF.ll,hF.nl,hF.fl⟩;exact Tryz.fm_10 (x1:=nd) (x2:=a) (x3:=b) (x4:=t.op) (x5:=t.num) (P:=Ac.Same1 (.mk 10 0 0 b t cs [] ls ns fs) (Ac.zeroOf 10)) (hb:=(Ac.mk 10 nd a b t cs ks ls ns fs).holdsB) hF.cl hF.kl c1 c2
theorem Tryz.aformed_11 (d e:Nat)(T:Ac)(V:Ac.Vs)(w:World)(hT:Ac.Lies w w.heap.size e d V T)(hF:T.Fit)(hO:Tk.Ops w)(h0:0<w.heap.size)(hk:T.kind=11):
  Calls Tryz.prog 26 #[.agg (Ac.row T V)] w λe w'=>Ak.Told T.Formed e/\Below w.heap.size w w':=by
 rw[Ac.formed_11 hk];obtain⟨a6,c6,a7,c7,a8,c8,a9,c9,aA,cA,aB,cB,rfl⟩:=hT.shape;obtain⟨k,nd,a,b,t,cs,ks,ls,ns,fs⟩:=T;obtain rfl:k=11:=hk;have u:=Ak.own_up hT.own;rw[show Ac.rest (.mk 11 nd a b t cs ks ls ns fs)=.mk 11 0 0 0 t [] [] ls ns fs by simp[Ac.rest,Ac.kind,Ac.t,Ac.ls,Ac.ns,Ac.fs]];have c1:=Ak.holds_env hT hF;have c2:=Ak.alike_env (T:=.mk 11 0 0 0 t [] [] ls ns fs) (V:=⟨.slice a6 t.ks.length c6,.slice none 0 0,.slice none 0 0,.slice a9 ls.length c9,.slice aA ns.length cA,.slice aB fs.length cB⟩) 11 h0 ⟨u.t,Ak.c0 _ _ _,u.l,u.n,u.f⟩ ⟨hF.t,(λx h=>by cases h),hF.n,hF.f,Nat.zero_le _,Nat.zero_le _,hF.ll,hF.nl,hF.fl⟩
 exact Tryz.fm_11 (x1:=nd) (x2:=a) (x3:=b) (x4:=t.op) (x5:=t.num) (P:=Ac.Same1 (.mk 11 0 0 0 t [] [] ls ns fs) (Ac.zeroOf 11)) (hb:=(Ac.mk 11 nd a b t cs ks ls ns fs).holdsB) (ob:=Ac.choiceB cs a) hF.cl hF.kl c1 c2
  (λW hb=>Tryz.isChoice_any cs a7 c7 a e W (((Ak.tms_of hT.own).keep hb.block).wider hb.size) (hO.below hb hO.lt) hF.c (by have h:cs.length<=1000:=hF.cl;omega))
theorem Tryz.aformed_8 (d e:Nat)(T:Ac)(V:Ac.Vs)(w:World)(hT:Ac.Lies w w.heap.size e d V T)(hF:T.Fit)(hO:Tk.Ops w)(h0:0<w.heap.size)(hk:T.kind=8):
  Calls Tryz.prog 26 #[.agg (Ac.row T V)] w λe w'=>Ak.Told T.Formed e/\Below w.heap.size w w':=by
 rw[Ac.formed_8 hk];obtain⟨a6,c6,a7,c7,a8,c8,a9,c9,aA,cA,aB,cB,rfl⟩:=hT.shape;obtain⟨k,nd,a,b,t,cs,ks,ls,ns,fs⟩:=T;obtain rfl:k=8:=hk;have u:=Ak.own_up hT.own;rw[show Ac.rest (.mk 8 nd a b t cs ks ls ns fs)=.mk 8 0 0 b t [] [] ls ns fs by simp[Ac.rest,Ac.kind,Ac.b,Ac.t,Ac.ls,Ac.ns,Ac.fs]];have c1:=Ak.holds_env hT hF;have c2:=Ak.alike_env (T:=.mk 8 0 0 b t [] [] ls ns fs) (V:=⟨.slice a6 t.ks.length c6,.slice none 0 0,.slice none 0 0,.slice a9 ls.length c9,.slice aA ns.length cA,.slice aB fs.length cB⟩) 8 h0 ⟨u.t,Ak.c0 _ _ _,u.l,u.n,u.f⟩ ⟨hF.t,(λx h=>by cases h),hF.n,hF.f,Nat.zero_le _,Nat.zero_le _,hF.ll,hF.nl,hF.fl⟩
 exact Tryz.fm_8 (x1:=nd) (x2:=a) (x3:=b) (x4:=t.op) (x5:=t.num) (P:=Ac.Same1 (.mk 8 0 0 b t [] [] ls ns fs) (Ac.zeroOf 8)) (hb:=(Ac.mk 8 nd a b t cs ks ls ns fs).holdsB) (ob:=Ac.choiceB cs a) hF.cl hF.kl c1 c2
  (λW hb=>Tryz.isChoice_any cs a7 c7 a e W (((Ak.tms_of hT.own).keep hb.block).wider hb.size) (hO.below hb hO.lt) hF.c (by have h:cs.length<=1000:=hF.cl;omega))
theorem Tryz.aformed_9 (d e:Nat)(T:Ac)(V:Ac.Vs)(w:World)(hT:Ac.Lies w w.heap.size e d V T)(hF:T.Fit)(_hO:Tk.Ops w)(h0:0<w.heap.size)(hk:T.kind=9):
  Calls Tryz.prog 26 #[.agg (Ac.row T V)] w λe w'=>Ak.Told T.Formed e/\Below w.heap.size w w':=by
 rw[Ac.formed_9 hk];obtain⟨a6,c6,a7,c7,a8,c8,a9,c9,aA,cA,aB,cB,rfl⟩:=hT.shape;obtain⟨k,nd,a,b,t,cs,ks,ls,ns,fs⟩:=T;obtain rfl:k=9:=hk;have u:=Ak.own_up hT.own;rw[show Ac.rest (.mk 9 nd a b t cs ks ls ns fs)=.mk 9 0 a b t cs [] ls ns fs by simp[Ac.rest,Ac.kind,Ac.a,Ac.b,Ac.t,Ac.cs,Ac.ls,Ac.ns,Ac.fs]];have c1:=Ak.holds_env hT hF;have c2:=Ak.alike_env (T:=.mk 9 0 a b t cs [] ls ns fs) (V:=⟨.slice a6 t.ks.length c6,.slice a7 cs.length c7,.slice none 0 0,.slice a9 ls.length c9,.slice aA ns.length cA,.slice aB fs.length cB⟩) 9 h0 ⟨u.t,u.c,u.l,u.n,u.f⟩ ⟨hF.t,hF.c,hF.n,hF.f,hF.cl,Nat.zero_le _,hF.ll,hF.nl,hF.fl⟩;exact Tryz.fm_9 (x1:=nd) (x2:=a) (x3:=b) (x4:=t.op) (x5:=t.num) (P:=Ac.Same1 (.mk 9 0 a b t cs [] ls ns fs) (Ac.zeroOf 9)) (hb:=(Ac.mk 9 nd a b t cs ks ls ns fs).holdsB) hF.cl hF.kl c1 c2
theorem Tryz.aformed_6 (d e:Nat)(T:Ac)(V:Ac.Vs)(w:World)(hT:Ac.Lies w w.heap.size e d V T)(hF:T.Fit)(_hO:Tk.Ops w)(h0:0<w.heap.size)(hk:T.kind=6):
  Calls Tryz.prog 26 #[.agg (Ac.row T V)] w λe w'=>Ak.Told T.Formed e/\Below w.heap.size w w':=by
 rw[Ac.formed_6 hk];obtain⟨a6,c6,a7,c7,a8,c8,a9,c9,aA,cA,aB,cB,rfl⟩:=hT.shape;obtain⟨k,nd,a,b,t,cs,ks,ls,ns,fs⟩:=T;obtain rfl:k=6:=hk;have u:=Ak.own_up hT.own;rw[show Ac.rest (.mk 6 nd a b t cs ks ls ns fs)=.mk 6 nd a b t cs [] ls ns fs by simp[Ac.rest,Ac.kind,Ac.node,Ac.a,Ac.b,Ac.t,Ac.cs,Ac.ls,Ac.ns,Ac.fs]];have c1:=Ak.holds_env hT hF;have c2:=Ak.alike_env (T:=.mk 6 nd a b t cs [] ls ns fs) (V:=⟨.slice a6 t.ks.length c6,.slice a7 cs.length c7,.slice none 0 0,.slice a9 ls.length c9,.slice aA ns.length cA,.slice aB fs.length cB⟩) 6 h0 ⟨u.t,u.c,u.l,u.n,u.f⟩ ⟨hF.t,hF.c,hF.n,hF.f,hF.cl,Nat.zero_le _,hF.ll,hF.nl,hF.fl⟩;exact Tryz.fm_6 (x1:=nd) (x2:=a) (x3:=b) (x4:=t.op) (x5:=t.num) (P:=Ac.Same1 (.mk 6 nd a b t cs [] ls ns fs) (Ac.zeroOf 6)) (hb:=(Ac.mk 6 nd a b t cs ks ls ns fs).holdsB) hF.cl hF.kl c1 c2
theorem Tryz.aformed_7 (d e:Nat)(T:Ac)(V:Ac.Vs)(w:World)(hT:Ac.Lies w w.heap.size e d V T)(hF:T.Fit)(_hO:Tk.Ops w)(h0:0<w.heap.size)(hk:T.kind=7):
  Calls Tryz.prog 26 #[.agg (Ac.row T V)] w λe w'=>Ak.Told T.Formed e/\Below w.heap.size w w':=by
 rw[Ac.formed_7 hk];obtain⟨a6,c6,a7,c7,a8,c8,a9,c9,aA,cA,aB,cB,rfl⟩:=hT.shape;obtain⟨k,nd,a,b,t,cs,ks,ls,ns,fs⟩:=T;obtain rfl:k=7:=hk;have u:=Ak.own_up hT.own;rw[show Ac.rest (.mk 7 nd a b t cs ks ls ns fs)=.mk 7 nd a b t cs [] ls ns fs by simp[Ac.rest,Ac.kind,Ac.node,Ac.a,Ac.b,Ac.t,Ac.cs,Ac.ls,Ac.ns,Ac.fs]];have c1:=Ak.holds_env hT hF;have c2:=Ak.alike_env (T:=.mk 7 nd a b t cs [] ls ns fs) (V:=⟨.slice a6 t.ks.length c6,.slice a7 cs.length c7,.slice none 0 0,.slice a9 ls.length c9,.slice aA ns.length cA,.slice aB fs.length cB⟩) 7 h0 ⟨u.t,u.c,u.l,u.n,u.f⟩ ⟨hF.t,hF.c,hF.n,hF.f,hF.cl,Nat.zero_le _,hF.ll,hF.nl,hF.fl⟩;exact Tryz.fm_7 (x1:=nd) (x2:=a) (x3:=b) (x4:=t.op) (x5:=t.num) (P:=Ac.Same1 (.mk 7 nd a b t cs [] ls ns fs) (Ac.zeroOf 7)) (hb:=(Ac.mk 7 nd a b t cs ks ls ns fs).holdsB) hF.cl hF.kl c1 c2
theorem Tryz.aformed_12a (d e:Nat)(T:Ac)(V:Ac.Vs)(w:World)(hT:Ac.Lies w w.heap.size e d V T)(hF:T.Fit)(hO:Tk.Ops w)(h0:0<w.heap.size)(hk:T.kind=12)(ha:T.a=3):
  Calls Tryz.prog 26 #[.agg (Ac.row T V)] w λe w'=>Ak.Told T.Formed e/\Below w.heap.size w w':=by
 rw[Ac.formed_12a hk ha];obtain⟨a6,c6,a7,c7,a8,c8,a9,c9,aA,cA,aB,cB,rfl⟩:=hT.shape;obtain⟨k,nd,a,b,t,cs,ks,ls,ns,fs⟩:=T;obtain rfl:k=12:=hk;obtain rfl:a=3:=ha;have u:=Ak.own_up hT.own;rw[show Ac.rest (.mk 12 nd 3 b t cs ks ls ns fs)=.mk 12 0 0 0 t [] ks ls ns fs by simp[Ac.rest,Ac.kind,Ac.a,Ac.t,Ac.ks,Ac.ls,Ac.ns,Ac.fs]];have c1:=Ak.holds_env hT hF;have c2:=Ak.alike_env (T:=.mk 12 0 0 0 t [] ks ls ns fs) (V:=⟨.slice a6 t.ks.length c6,.slice none 0 0,.slice a8 ks.length c8,.slice a9 ls.length c9,.slice aA ns.length cA,.slice aB fs.length cB⟩) 12 h0 ⟨u.t,Ak.c0 _ _ _,u.l,u.n,u.f⟩ ⟨hF.t,(λx h=>by cases h),hF.n,hF.f,Nat.zero_le _,hF.kl,hF.ll,hF.nl,hF.fl⟩
 exact Tryz.fm_12a (x1:=nd) (x3:=b) (x4:=t.op) (x5:=t.num) (P:=Ac.Same1 (.mk 12 0 0 0 t [] ks ls ns fs) (Ac.zeroOf 12)) (hb:=(Ac.mk 12 nd 3 b t cs ks ls ns fs).holdsB) (ob:=Ac.choiceB cs b) hF.cl hF.kl c1 c2
  (λW hb=>Tryz.isChoice_any cs a7 c7 b e W (((Ak.tms_of hT.own).keep hb.block).wider hb.size) (hO.below hb hO.lt) hF.c (by have h:cs.length<=1000:=hF.cl;omega))
theorem Tryz.aformed_12b (d e:Nat)(T:Ac)(V:Ac.Vs)(w:World)(hT:Ac.Lies w w.heap.size e d V T)(hF:T.Fit)(_hO:Tk.Ops w)(h0:0<w.heap.size)(hk:T.kind=12)(ha:¬T.a=3):
  Calls Tryz.prog 26 #[.agg (Ac.row T V)] w λe w'=>Ak.Told T.Formed e/\Below w.heap.size w w':=by
 rw[Ac.formed_12b hk ha];obtain⟨a6,c6,a7,c7,a8,c8,a9,c9,aA,cA,aB,cB,rfl⟩:=hT.shape;obtain⟨k,nd,a,b,t,cs,ks,ls,ns,fs⟩:=T;obtain rfl:k=12:=hk;replace ha:¬a=3:=ha;have u:=Ak.own_up hT.own;rw[show Ac.rest (.mk 12 nd a b t cs ks ls ns fs)=.mk 12 0 0 b t cs ks ls ns fs by simp[Ac.rest,Ac.kind,Ac.a,Ac.b,Ac.t,Ac.cs,Ac.ks,Ac.ls,Ac.ns,Ac.fs,ha]];have c1:=Ak.holds_env hT hF;have c2:=Ak.alike_env (T:=.mk 12 0 0 b t cs ks ls ns fs) (V:=⟨.slice a6 t.ks.length c6,.slice a7 cs.length c7,.slice a8 ks.length c8,.slice a9 ls.length c9,.slice aA ns.length cA,.slice aB fs.length cB⟩) 12 h0 ⟨u.t,u.c,u.l,u.n,u.f⟩ ⟨hF.t,hF.c,hF.n,hF.f,hF.cl,hF.kl,hF.ll,hF.nl,hF.fl⟩;exact Tryz.fm_12b (x1:=nd) (x2:=a) (x3:=b) (x4:=t.op) (x5:=t.num) (P:=Ac.Same1 (.mk 12 0 0 b t cs ks ls ns fs) (Ac.zeroOf 12)) (hb:=(Ac.mk 12 nd a b t cs ks ls ns fs).holdsB) hF.cl hF.kl c1 c2 ha
theorem Tryz.aformed_13 (d e:Nat)(T:Ac)(V:Ac.Vs)(w:World)(hT:Ac.Lies w w.heap.size e d V T)(hF:T.Fit)(_hO:Tk.Ops w)(h0:0<w.heap.size)(hk:T.kind=13):
  Calls Tryz.prog 26 #[.agg (Ac.row T V)] w λe w'=>Ak.Told T.Formed e/\Below w.heap.size w w':=by
 rw[Ac.formed_13 hk];obtain⟨a6,c6,a7,c7,a8,c8,a9,c9,aA,cA,aB,cB,rfl⟩:=hT.shape;obtain⟨k,nd,a,b,t,cs,ks,ls,ns,fs⟩:=T;obtain rfl:k=13:=hk;have u:=Ak.own_up hT.own;rw[show Ac.rest (.mk 13 nd a b t cs ks ls ns fs)=.mk 13 nd a b t cs [] [] ns fs by simp[Ac.rest,Ac.kind,Ac.node,Ac.a,Ac.b,Ac.t,Ac.cs,Ac.ns,Ac.fs]];have c1:=Ak.holds_env hT hF;have c2:=Ak.alike_env (T:=.mk 13 nd a b t cs [] [] ns fs) (V:=⟨.slice a6 t.ks.length c6,.slice a7 cs.length c7,.slice none 0 0,.slice none 0 0,.slice aA ns.length cA,.slice aB fs.length cB⟩) 13 h0 ⟨u.t,u.c,Ak.l0 _ _,u.n,u.f⟩ ⟨hF.t,hF.c,hF.n,hF.f,hF.cl,Nat.zero_le _,Nat.zero_le _,hF.nl,hF.fl⟩;have c3:=Ak.linked_env hT hF;exact Tryz.fm_13 (x1:=nd) (x2:=a) (x3:=b) (x4:=t.op) (x5:=t.num) (P:=Ac.Same1 (.mk 13 nd a b t cs [] [] ns fs) (Ac.zeroOf 13)) (hb:=(Ac.mk 13 nd a b t cs ks ls ns fs).holdsB) (ob:=(Ac.mk 13 nd a b t cs ks ls ns fs).linkedB) hF.cl hF.kl c1 c2 c3
theorem Tryz.aformed_14 (d e:Nat)(T:Ac)(V:Ac.Vs)(w:World)(hT:Ac.Lies w w.heap.size e d V T)(hF:T.Fit)(hO:Tk.Ops w)(h0:0<w.heap.size)(hk:T.kind=14):
  Calls Tryz.prog 26 #[.agg (Ac.row T V)] w λe w'=>Ak.Told T.Formed e/\Below w.heap.size w w':=by
 rw[Ac.formed_14 hk];obtain⟨a6,c6,a7,c7,a8,c8,a9,c9,aA,cA,aB,cB,rfl⟩:=hT.shape;obtain⟨k,nd,a,b,t,cs,ks,ls,ns,fs⟩:=T;obtain rfl:k=14:=hk;have u:=Ak.own_up hT.own;rw[show Ac.rest (.mk 14 nd a b t cs ks ls ns fs)=.mk 14 nd a b t cs ks ls [] []by simp[Ac.rest,Ac.kind,Ac.node,Ac.a,Ac.b,Ac.t,Ac.cs,Ac.ks,Ac.ls]];have c1:=Ak.holds_env hT hF;have c2:=Ak.alike_env (T:=.mk 14 nd a b t cs ks ls [] []) (V:=⟨.slice a6 t.ks.length c6,.slice a7 cs.length c7,.slice a8 ks.length c8,.slice a9 ls.length c9,.slice none 0 0,.slice none 0 0⟩) 14 h0 ⟨u.t,u.c,u.l,Ak.n0 _ _ _,Ak.f0 _ _ _⟩ ⟨hF.t,hF.c,(λx h=>by cases h),(λx h=>by cases h),hF.cl,hF.kl,hF.ll,Nat.zero_le _,Nat.zero_le _⟩
 have c3:∀W,Below w.heap.size w W->Calls Tryz.prog 49 #[.agg #[.slice aA ns.length cA,.slice aB fs.length cB]] W λe' w'=>e'=.returned (.tuple #[.int .i64 ((Nt.checkN ns fs).1:Int),.int .i64 ((Nt.checkN ns fs).2:Int)])/\Below W.heap.size W w':=
  (λW hb=>Tryz.nCheck_any aA cA aB cB e ns fs W ⟨(Ac.nds_keep (Ak.nds_of hT.own) hb.block).wider hb.size,(Ac.fls_keep (Ak.fls_of hT.own) hb.block).wider hb.size,hF.nl,hF.fl,λx h=>(hF.n x h).1,λx h=>(hF.f x h).1⟩ (hO.below hb hO.lt))
 exact Tryz.fm_14 (x1:=nd) (x2:=a) (x3:=b) (x4:=t.op) (x5:=t.num) (P:=Ac.Same1 (.mk 14 nd a b t cs ks ls [] []) (Ac.zeroOf 14)) (hb:=(Ac.mk 14 nd a b t cs ks ls ns fs).holdsB) (ru:=(Nt.checkN ns fs).1) (rv:=(Nt.checkN ns fs).2) hF.cl hF.kl c1 c2 c3
theorem Tryz.fm_0 (k:Int)(x1 x2 x3 x4 x5 x6 x7 x8 x9 x10 x11:Value)(w:World)(hb:Bool)(hk:k<1∨14<k)(CH0:∀W,Below w.heap.size w W->Calls Tryz.prog 43 #[.agg #[.int .i64 k,x1,x2,x3,x4,x5,x6,x7,x8,x9,x10,x11]] W λe w'=>e=.returned (.bool hb)/\Below W.heap.size W w'):
  Calls Tryz.prog 26 #[.agg #[.int .i64 k,x1,x2,x3,x4,x5,x6,x7,x8,x9,x10,x11]] w λe w'=>e=.returned (.bool false)/\Below w.heap.size w w':=by
 have e1:(k==1)=false:=by simp;omega
 have e2:(k==2)=false:=by simp;omega
 have e3:(k==3)=false:=by simp;omega
 have e4:(k==4)=false:=by simp;omega
 have e5:(k==5)=false:=by simp;omega
 have e6:(k==6)=false:=by simp;omega
 have e7:(k==7)=false:=by simp;omega
 have e8:(k==8)=false:=by simp;omega
 have e9:(k==9)=false:=by simp;omega
 have e10:(k==10)=false:=by simp;omega
 have e11:(k==11)=false:=by simp;omega
 have e12:(k==12)=false:=by simp;omega
 have e13:(k==13)=false:=by simp;omega
 have e14:(k==14)=false:=by simp;omega
 have CH:Hid _:=CH0;obtain⟨w1,hw1⟩:=pE (w.alloc (.cells #[.int .i64 k,x1,x2,x3,x4,x5,x6,x7,x8,x9,x10,x11] 32));have A1:=pB hw1
 have G1:w1.heap[w.heap.size]? =some (.cells #[.int .i64 k,x1,x2,x3,x4,x5,x6,x7,x8,x9,x10,x11] 32 (0,0)):=by rw[<-hw1];exact heap_alloc_new w _
 have ca:w1.cell? ⟨w.heap.size,0,none⟩=some (.int .i64 k)/\w1.cell? ⟨w.heap.size,1,none⟩=some x1/\w1.cell? ⟨w.heap.size,2,none⟩=some x2/\w1.cell? ⟨w.heap.size,3,none⟩=some x3/\w1.cell? ⟨w.heap.size,4,none⟩=some x4/\w1.cell? ⟨w.heap.size,5,none⟩=some x5/\w1.cell? ⟨w.heap.size,6,none⟩=some x6/\w1.cell? ⟨w.heap.size,7,none⟩=some x7/\w1.cell? ⟨w.heap.size,8,none⟩=some x8/\w1.cell? ⟨w.heap.size,9,none⟩=some x9/\w1.cell? ⟨w.heap.size,10,none⟩=some x10/\w1.cell? ⟨w.heap.size,11,none⟩=some x11:=by simp[World.cell?,G1]
 obtain⟨m0,m1,m2,m3,m4,m5,m6,m7,m8,m9,m10,m11⟩:=ca;have H1:Hid (w.alloc (.cells #[.int .i64 k,x1,x2,x3,x4,x5,x6,x7,x8,x9,x10,x11] 32)=w1):=hw1;have HA:Hid (Below w.heap.size w w1/\w1.heap[w.heap.size]? =some (.cells #[.int .i64 k,x1,x2,x3,x4,x5,x6,x7,x8,x9,x10,x11] 32 (0,0))):=⟨A1,G1⟩;have hnb:Ac.hasNodeB k=false:=by unfold Ac.hasNodeB;simp;omega
 clear hw1 A1 G1 CH0 hk
 go_enter Tryz.func26,Tryz.ntmps26
 go_upto_region 1 with fail
 rw[H1.out]
 go_wp2_with fail
 refine Calls.mono (CH.out _ HA.out.1) ?_;rintro e W2 ⟨rfl,hb2⟩;clear H1 CH m0 m1 m2 m3 m4 m5 m6 m7 m8 m9 m10 m11
 go_upto_region 3 with fail
 obtain⟨W3,hW3⟩:=pE (W2.alloc (.cells #[.bool hb] 4));have hx2:W2.heap[w.heap.size]? =some (.cells #[.int .i64 k,x1,x2,x3,x4,x5,x6,x7,x8,x9,x10,x11] 32 (0,0)):=(hb2.block _ (Array.getElem?_eq_some_iff.1 HA.out.2).1).trans HA.out.2;have hl2:=(Array.getElem?_eq_some_iff.1 hx2).1
 have FW3:Hid (Ak.Fm w w.heap.size W2.heap.size #[.int .i64 k,x1,x2,x3,x4,x5,x6,x7,x8,x9,x10,x11] hb W3):=by
  have b3:=pB hW3
  have b2:Below w.heap.size w W2:=HA.out.1.trans (hb2.mono HA.out.1.size);exact⟨(b3.block _ hl2).trans hx2,by rw[<-hW3];exact heap_alloc_new W2 _,by omega,Nat.le_refl _,b2.size,b2.trans (b3.mono b2.size)⟩
 rw[hW3];have k0:W3.cell? ⟨w.heap.size,0,none⟩=some (.int .i64 k):=by simp[World.cell?,FW3.out.box]
 have CN:Hid _:=Tryz.hasNode_any k W3;rw[hnb]at CN;clear hW3 hx2 hl2 hb2 HA hnb
 go_wp2_with fail
 refine Calls.mono CN.out ?_;rintro e W4 ⟨rfl,hw4⟩;obtain rfl:=hw4.symm;clear CN;go_wp2;go_ret;exact⟨rfl,FW3.out.bel⟩
theorem Tryz.aformed_any (d e:Nat)(T:Ac)(V:Ac.Vs)(w:World)(hT:Ac.Lies w w.heap.size e d V T)(hF:T.Fit)(hO:Tk.Ops w)(h0:0<w.heap.size):
  Calls Tryz.prog 26 #[.agg (Ac.row T V)] w λe w'=>Ak.Told T.Formed e/\Below w.heap.size w w':=by
 by_cases hr:T.kind<1∨14<T.kind
 ·have hno:¬T.Formed:=λh=>by
   unfold Ac.Formed at h
   rcases h with h|h|h|h|h|h|h|h|h|h|h|h|h|h|h<;>(have:=h.1;omega)
  have hrow:Ac.row T V=#[.int .i64 T.kind,.int .i64 T.node,.int .i64 T.a,.int .i64 T.b,.int .i64 T.t.op,.int .i64 T.t.num,V.t,V.c,V.k,V.l,V.n,V.f]:=rfl;have CH:∀W,Below w.heap.size w W->Calls Tryz.prog 43 #[.agg (Ac.row T V)] W λe w'=>e=.returned (.bool T.holdsB)/\Below W.heap.size W w':=λW hb=>Tryz.holds_any d e T V W ((hT.below hb).wider hb.size) (by have:=hF.kl;omega);rw[hrow]at CH⊢;exact(Tryz.fm_0 T.kind _ _ _ _ _ _ _ _ _ _ _ w T.holdsB hr CH).mono λe w' h=>⟨by rw[h.1];exact Ak.Told.no hno,h.2⟩
 have hk:T.kind=1∨T.kind=2∨T.kind=3∨T.kind=4∨T.kind=5∨T.kind=6∨T.kind=7∨T.kind=8∨T.kind=9∨T.kind=10∨T.kind=11∨T.kind=12∨T.kind=13∨T.kind=14:=by omega
 rcases hk with hk|hk|hk|hk|hk|hk|hk|hk|hk|hk|hk|hk|hk|hk
 ·exact Tryz.aformed_1 d e T V w hT hF hO h0 hk
 ·exact Tryz.aformed_2 d e T V w hT hF hO h0 hk
 ·exact Tryz.aformed_3 d e T V w hT hF hO h0 hk
 ·exact Tryz.aformed_4 d e T V w hT hF hO h0 hk
 ·exact Tryz.aformed_5 d e T V w hT hF hO h0 hk
 ·exact Tryz.aformed_6 d e T V w hT hF hO h0 hk
 ·exact Tryz.aformed_7 d e T V w hT hF hO h0 hk
 ·exact Tryz.aformed_8 d e T V w hT hF hO h0 hk
 ·exact Tryz.aformed_9 d e T V w hT hF hO h0 hk
 ·exact Tryz.aformed_10 d e T V w hT hF hO h0 hk
 ·exact Tryz.aformed_11 d e T V w hT hF hO h0 hk
 ·by_cases ha:T.a=3
  ·exact Tryz.aformed_12a d e T V w hT hF hO h0 hk ha
  exact Tryz.aformed_12b d e T V w hT hF hO h0 hk ha
 ·exact Tryz.aformed_13 d e T V w hT hF hO h0 hk
 exact Tryz.aformed_14 d e T V w hT hF hO h0 hk
end Go.Proofs
namespace Go.Proofs
open Go.RowKit Go.ChangeShapes Go.WideShapes Go.Deep
instance:Inhabited Ac:=⟨.mk 0 0 0 0 (.mk 0 0 []) [] [] [] [] []⟩
instance:Inhabited Ac.Vs:=⟨⟨.bool false,.bool false,.bool false,.bool false,.bool false,.bool false⟩⟩
theorem Ak.cellsAct:Tryz.prog.cellsOf 32=12:=by kernel_rfl
theorem Ak.cellsActs:Tryz.prog.cellsOf 25=1:=by kernel_rfl
theorem Ak.cellsLink:Tryz.prog.cellsOf 69=2:=by kernel_rfl
theorem Ak.cellsLinks:Tryz.prog.cellsOf 26=1:=by kernel_rfl
theorem Ak.list9 {α:Type}{l:List α}(h:l.length=9):∃a b c d e f g h i,l= [a,b,c,d,e,f,g,h,i]:=by
 match l,h with
 | [a,b,c,d,e,f,g,h,i],_=>exact⟨a,b,c,d,e,f,g,h,i,rfl⟩
theorem Ak.list12 {α:Type}{l:List α}(h:l.length=12):∃a b c d e f g h i j k m,l= [a,b,c,d,e,f,g,h,i,j,k,m]:=by
 match l,h with
 | [a,b,c,d,e,f,g,h,i,j,k,m],_=>exact⟨a,b,c,d,e,f,g,h,i,j,k,m,rfl⟩
theorem Ac.Lies.more {w:World}{B e:Nat} :∀{d:Nat} {V:Ac.Vs} {T:Ac},Ac.Lies w B e d V T->Ac.Lies w B e (d+1) V T
 |0,_,_,h=>h.elim
 |d+1,V,T,h=>by
  obtain⟨ho,a,cap,hv,h⟩:=h;refine⟨ho,a,cap,hv,λj hj=> ?_⟩;obtain⟨g,off,U,ha,hg,hr,h1⟩:=h j hj;exact⟨g,off,U,ha,hg,hr,h1.more⟩
theorem Ac.Lies.up {w:World}{B e d d':Nat}{V:Ac.Vs}{T:Ac}(h:Ac.Lies w B e d V T)(hd:d<=d'):Ac.Lies w B e d' V T:=by
 induction hd with
 |refl=>exact h
 |step _ ih=>exact ih.more
section
variable {H:Type} {enc:TypeId×Value->H} {w:World} {spare:Nat->Bool} {held:Bool}
theorem Ak.ea (g off c k:Nat):((⟨g,off,none⟩:Addr).add c).add k=⟨g,off+c+k,none⟩:=by rw[Go.WideShapes.add_plain,Go.WideShapes.add_plain]
theorem Ak.open_conds (fuel:Nat)(c:Value)(x:DataW H×List MemPlace)(h:DataW.trod enc Tryz.prog w 0 spare held fuel 22 [c]=some x):∃a cap cs,c=.slice a (cs:List Tm).length cap/\Ac.Tms w w.heap.size fuel a cs:=by
 rcases DataW.trod_slice Tryz.underlying22 h with⟨e2,_⟩|⟨a,len,cap,elems,rest,n',hn',e2,_,_,hlc,_,hlen,hel,_,_⟩
 ·obtain rfl:c=.slice none 0 0:=(List.cons.inj e2).1
  exact⟨none,0, [],rfl,λj hj=>by simp at hj⟩
 obtain rfl:c=.slice (some a) len cap:=(List.cons.inj e2).1;subst hn'
 have each:∀i,i<len->∃q:Tm,∃u,w.cell? (a.add (i*3))=some (.int .i64 q.op)/\w.cell? ((a.add (i*3)).add 1)=some (.int .i64 q.num)/\w.cell? ((a.add (i*3)).add 2)=some u/\Tm.Lies w w.heap.size n' u q:=by
  intro i hi;have h1:=hel i hi;rw[Tk.cellsTerm,List.getElem?_eq_getElem (by omega)]at h1;obtain⟨cs',h2,h3⟩:=Option.bind_eq_some_iff.1 h1;obtain⟨q,u,rfl,hq⟩:=Tm.open_term n' cs' _ h3;obtain⟨_,hl3,hc⟩:=World.cells?_some h2;exact⟨q,u,by simpa [Addr.add]using hc 0 (by simp),by simpa using hc 1 (by simp),by simpa using hc 2 (by simp),hq⟩
 by_cases hz:len=0
 ·subst hz
  exact⟨some a,cap, [],rfl,λj hj=>by simp at hj⟩
 obtain⟨q,hq⟩:=choose_lt each;have hlen':((List.range len).map q).length=len:=by simp
 refine⟨some a,cap,(List.range len).map q,by rw[hlen'],λj hj=> ?_⟩;obtain⟨g,off,spot⟩:=a;obtain⟨_,h0,_⟩:=hq 0 (by omega);have hspot:spot=none:=by simpa [Addr.add]using World.cell?_spot h0
 subst hspot
 have hg:g<w.heap.size:=by
  have:=Tk.cell_lt h0;simpa [Addr.add]using this
 have hget:((List.range len).map q)[j]=q j:=by simp
 rw[hget];rw[hlen']at hj;obtain⟨u,p0,p1,p2,p3⟩:=hq j hj;rw[Go.WideShapes.add_plain]at p0;rw[Ak.ea]at p1 p2;exact⟨g,off,u,rfl,hg,p0,p1,p2,p3.up (by omega)⟩
theorem Ak.open_links (fuel:Nat)(c:Value)(x:DataW H×List MemPlace)(h:DataW.trod enc Tryz.prog w 0 spare held fuel 26 [c]=some x):∃a cap ls,c=.slice a (ls:List (Int×Int)).length cap/\Ac.Lks w w.heap.size a ls:=by
 rcases DataW.trod_slice Tryz.underlying26 h with⟨e2,_⟩|⟨a,len,cap,elems,rest,n',hn',e2,_,_,hlc,_,hlen,hel,_,_⟩
 ·obtain rfl:c=.slice none 0 0:=(List.cons.inj e2).1
  exact⟨none,0, [],rfl,λj hj=>by simp at hj⟩
 obtain rfl:c=.slice (some a) len cap:=(List.cons.inj e2).1;subst hn'
 have each:∀i,i<len->∃q:Int×Int,w.cell? (a.add (i*2))=some (.int .i64 q.1)/\w.cell? ((a.add (i*2)).add 1)=some (.int .i64 q.2):=by
  intro i hi;have h1:=hel i hi;rw[Ak.cellsLink,List.getElem?_eq_getElem (by omega)]at h1;obtain⟨cs',h2,h3⟩:=Option.bind_eq_some_iff.1 h1;obtain⟨ys,n,rfl,hx,hl,hy,hf⟩:=DataW.trod_struct Tryz.underlying69 h3;rw[Ak.cellsLink]at hl;have hy:ys.length=2:=hy;obtain⟨c0,c1,rfl⟩:=Nt.list2 hl;obtain⟨y0,y1,rfl⟩:=Nt.list2 hy;have g0:DataW.trod enc Tryz.prog w 0 spare held n 3 (([c0,c1].drop 0).take (Tryz.prog.cellsOf 3))= [y0,y1][0]? :=hf 0 _ rfl;have g1:DataW.trod enc Tryz.prog w 0 spare held n 3 (([c0,c1].drop 1).take (Tryz.prog.cellsOf 3))= [y0,y1][1]? :=hf 1 _ rfl;rw[Tk.cellsInt1]at g0 g1;obtain⟨o,e0,_⟩:=DataW.trod_int Tryz.underlying3 g0;obtain⟨m,e1,_⟩:=DataW.trod_int Tryz.underlying3 g1;obtain rfl:c0=.int .i64 o:=(List.cons.inj e0).1;obtain rfl:c1=.int .i64 m:=(List.cons.inj e1).1;obtain⟨_,hl3,hc⟩:=World.cells?_some h2;exact⟨(o,m),by simpa [Addr.add]using hc 0 (by simp),by simpa using hc 1 (by simp)⟩
 by_cases hz:len=0
 ·subst hz
  exact⟨some a,cap, [],rfl,λj hj=>by simp at hj⟩
 obtain⟨q,hq⟩:=choose_lt each;have hlen':((List.range len).map q).length=len:=by simp
 refine⟨some a,cap,(List.range len).map q,by rw[hlen'],λj hj=> ?_⟩;obtain⟨g,off,spot⟩:=a;obtain⟨h0,_⟩:=hq 0 (by omega);have hspot:spot=none:=by simpa [Addr.add]using World.cell?_spot h0
 subst hspot
 have hg:g<w.heap.size:=by
  have:=Tk.cell_lt h0;simpa [Addr.add]using this
 have hget:((List.range len).map q)[j]=q j:=by simp
 rw[hget];rw[hlen']at hj;obtain⟨p0,p1⟩:=hq j hj;rw[Go.WideShapes.add_plain]at p0;rw[Ak.ea]at p1;exact⟨g,off,rfl,hg,p0,p1⟩
theorem Ac.open_cells:∀(fuel:Nat) (cs:List Value) (x:DataW H×List MemPlace),DataW.trod enc Tryz.prog w 0 spare held fuel 32 cs=some x->
  ∃(T:Ac) (V:Ac.Vs),cs=(Ac.row T V).toList/\∀e,fuel<=e->Ac.Lies w w.heap.size e fuel V T:=by
 intro fuel
 induction fuel using Nat.strongRecOn with
 |_ fuel ih=>
  intro cs x h;obtain⟨ys,n,rfl,hx,hl,hy,hf⟩:=DataW.trod_struct Tryz.underlying32 h;rw[Ak.cellsAct]at hl;have hy:ys.length=9:=hy;obtain⟨c0,c1,c2,c3,c4,c5,c6,c7,c8,c9,c10,c11,hcs⟩:=Ak.list12 hl;obtain⟨y0,y1,y2,y3,y4,y5,y6,y7,y8,hys⟩:=Ak.list9 hy;subst hcs;subst hys;have g0:DataW.trod enc Tryz.prog w 0 spare held n 3 (([c0,c1,c2,c3,c4,c5,c6,c7,c8,c9,c10,c11].drop 0).take (Tryz.prog.cellsOf 3))=some y0:=hf 0 _ rfl;have g1:DataW.trod enc Tryz.prog w 0 spare held n 3 (([c0,c1,c2,c3,c4,c5,c6,c7,c8,c9,c10,c11].drop 1).take (Tryz.prog.cellsOf 3))=some y1:=hf 1 _ rfl;have g2:DataW.trod enc Tryz.prog w 0 spare held n 3 (([c0,c1,c2,c3,c4,c5,c6,c7,c8,c9,c10,c11].drop 2).take (Tryz.prog.cellsOf 3))=some y2:=hf 2 _ rfl;have g3:DataW.trod enc Tryz.prog w 0 spare held n 3 (([c0,c1,c2,c3,c4,c5,c6,c7,c8,c9,c10,c11].drop 3).take (Tryz.prog.cellsOf 3))=some y3:=hf 3 _ rfl;have g4:DataW.trod enc Tryz.prog w 0 spare held n 24 (([c0,c1,c2,c3,c4,c5,c6,c7,c8,c9,c10,c11].drop 4).take (Tryz.prog.cellsOf 24))=some y4:=hf 4 _ rfl;have g5:DataW.trod enc Tryz.prog w 0 spare held n 22 (([c0,c1,c2,c3,c4,c5,c6,c7,c8,c9,c10,c11].drop 7).take (Tryz.prog.cellsOf 22))=some y5:=hf 5 _ rfl;have g6:DataW.trod enc Tryz.prog w 0 spare held n 25 (([c0,c1,c2,c3,c4,c5,c6,c7,c8,c9,c10,c11].drop 8).take (Tryz.prog.cellsOf 25))=some y6:=hf 6 _ rfl
  have g7:DataW.trod enc Tryz.prog w 0 spare held n 26 (([c0,c1,c2,c3,c4,c5,c6,c7,c8,c9,c10,c11].drop 9).take (Tryz.prog.cellsOf 26))=some y7:=hf 7 _ rfl;have g8:DataW.trod enc Tryz.prog w 0 spare held n 30 (([c0,c1,c2,c3,c4,c5,c6,c7,c8,c9,c10,c11].drop 10).take (Tryz.prog.cellsOf 30))=some y8:=hf 8 _ rfl;rw[Tk.cellsInt1]at g0 g1 g2 g3;rw[Tk.cellsTerm]at g4;rw[Tk.cellsTerms]at g5;rw[Ak.cellsActs]at g6;rw[Ak.cellsLinks]at g7;rw[Nt.cellsNet]at g8;obtain⟨k0,e0,_⟩:=DataW.trod_int Tryz.underlying3 g0;obtain⟨k1,e1,_⟩:=DataW.trod_int Tryz.underlying3 g1;obtain⟨k2,e2,_⟩:=DataW.trod_int Tryz.underlying3 g2;obtain⟨k3,e3,_⟩:=DataW.trod_int Tryz.underlying3 g3;obtain rfl:c0=.int .i64 k0:=(List.cons.inj e0).1;obtain rfl:c1=.int .i64 k1:=(List.cons.inj e1).1;obtain rfl:c2=.int .i64 k2:=(List.cons.inj e2).1;obtain rfl:c3=.int .i64 k3:=(List.cons.inj e3).1;obtain⟨S,v,hS,hSl⟩:=Tm.open_term n _ _ g4;have h4: [c4,c5,c6]= [.int .i64 S.op,.int .i64 S.num,v]:=hS;simp only[List.cons.injEq,and_true]at h4;obtain⟨rfl,rfl,rfl⟩:=h4;obtain⟨ca,cc,cs,rfl,hcs⟩:=Ak.open_conds n c7 _ g5;obtain⟨la,lc,ls,rfl,hls⟩:=Ak.open_links n c9 _ g7;obtain⟨zs,n2,rfl,hx2,hl2,hy2,hf2⟩:=DataW.trod_struct Tryz.underlying30 g8;have hy2:zs.length=2:=hy2;obtain⟨z0,z1,rfl⟩:=Nt.list2 hy2
  have m0:DataW.trod enc Tryz.prog w 0 spare held n2 27 (([c10,c11].drop 0).take (Tryz.prog.cellsOf 27))=some z0:=hf2 0 _ rfl;have m1:DataW.trod enc Tryz.prog w 0 spare held n2 28 (([c10,c11].drop 1).take (Tryz.prog.cellsOf 28))=some z1:=hf2 1 _ rfl;rw[Nt.cellsNodes]at m0;rw[Nt.cellsFlows]at m1;obtain⟨an,cn,ns,rfl,hN⟩:=Nt.open_nodes n2 c10 _ m0;obtain⟨af,cf,fs,rfl,hF⟩:=Nt.open_flows n2 c11 _ m1
  have hN':∀e,n2<=e->Nt.Nds w w.heap.size e an ns:=λe he j hj=>by
   obtain⟨g,off,u,p1,p2,p3,p4,p5,p6,p7,p8⟩:=hN j hj;exact⟨g,off,u,p1,p2,p3,p4,p5,p6,p7,p8.up he⟩
  have hF':∀e,n2<=e->Nt.Fls w w.heap.size e af fs:=λe he j hj=>by
   obtain⟨g,off,u,p1,p2,p3,p4,p5,p6,p7,p8,p9⟩:=hF j hj;exact⟨g,off,u,p1,p2,p3,p4,p5,p6,p7,p8,p9.up he⟩
  have hcs':∀e,n2+1<=e->Ac.Tms w w.heap.size e ca cs:=λe he j hj=>by
   obtain⟨g,off,u,p1,p2,p3,p4,p5,p6⟩:=hcs j hj;exact⟨g,off,u,p1,p2,p3,p4,p5,p6.up he⟩
  have own:∀(ks:List Ac) (vk:Value) e,n2+1+1<=e->Ac.Own w w.heap.size e ⟨c6,.slice ca cs.length cc,vk,.slice la ls.length lc,.slice an ns.length cn,.slice af fs.length cf⟩ (.mk k0 k1 k2 k3 S cs ks ls ns fs):=λks vk e he=>
   ⟨hSl.up (by omega),⟨_,_,rfl,hcs' e (by omega)⟩,⟨_,_,rfl,hls⟩,⟨_,_,rfl,hN' e (by omega)⟩,⟨_,_,rfl,hF' e (by omega)⟩⟩
  rcases DataW.trod_slice Tryz.underlying25 g6 with⟨e6,_⟩|⟨a,len,cap,elems,rest,n',hn',e6,_,_,hlc,_,hlen,hel,_,_⟩
  ·obtain rfl:c8=.slice none 0 0:=(List.cons.inj e6).1
   exact⟨.mk k0 k1 k2 k3 S cs [] ls ns fs,⟨c6,.slice ca cs.length cc,.slice none 0 0,.slice la ls.length lc,.slice an ns.length cn,.slice af fs.length cf⟩,rfl,λe he=>⟨own [] _ e he,none,0,rfl,λj hj=>absurd hj (Nat.not_lt_zero j)⟩⟩
  obtain rfl:c8=.slice (some a) len cap:=(List.cons.inj e6).1;obtain rfl:n2=n':=by omega
  have each:∀i,i<len->∃q:Ac,∃U:Ac.Vs,(∀k (hk:k<(Ac.row q U).size),w.cell? ((a.add (i*12)).add k)=some (Ac.row q U)[k])/\∀e,n2<=e->Ac.Lies w w.heap.size e n2 U q:=by
   intro i hi;have h1:=hel i hi;rw[Ak.cellsAct,List.getElem?_eq_getElem (by omega)]at h1;obtain⟨cs',h2,h3⟩:=Option.bind_eq_some_iff.1 h1;obtain⟨q,U,rfl,hq⟩:=ih n2 (by omega) cs' _ h3;obtain⟨_,hl3,hc⟩:=World.cells?_some h2;refine⟨q,U,λk hk=> ?_,hq⟩;have:=hc k (by simpa [Ac.row]using hk);rw[this]
   simp
  obtain⟨q,hq⟩:=choose_lt each;obtain⟨U,hU⟩:=choose_lt hq;have hlen':((List.range len).map q).length=len:=by simp
  refine⟨.mk k0 k1 k2 k3 S cs ((List.range len).map q) ls ns fs,⟨c6,.slice ca cs.length cc,.slice (some a) len cap,.slice la ls.length lc,.slice an ns.length cn,.slice af fs.length cf⟩,rfl,λe he=>⟨own _ _ e he,some a,cap,by rw[show(Ac.mk k0 k1 k2 k3 S cs ((List.range len).map q) ls ns fs).ks=(List.range len).map q from rfl,hlen'],λj hj=> ?_⟩⟩;have hj':j<((List.range len).map q).length:=hj;have hjl:j<len:=by rw[hlen']at hj';exact hj'
  obtain⟨g,off,spot⟩:=a;have h0:=(hU 0 (by omega)).1 0 (by simp[Ac.row]);have hspot:spot=none:=by simpa [Addr.add]using World.cell?_spot h0
  subst hspot
  have hg:g<w.heap.size:=by
   have:=Tk.cell_lt h0;simpa [Addr.add]using this
  have hget:(Ac.mk k0 k1 k2 k3 S cs ((List.range len).map q) ls ns fs).ks[j]'hj=q j:=by
   show((List.range len).map q)[j]=q j
   simp
  refine⟨g,off,U j,rfl,hg, ?_, ?_⟩
  ·rw[hget]
   intro k hk;have:=(hU j hjl).1 k hk;rw[Ak.ea]at this;exact this
  rw[hget];exact((hU j hjl).2 e (by omega)).up (by omega)
end
theorem Ac.open_act {H:Type}{enc:TypeId×Value->H}{w:World}{spare:Nat->Bool}{held:Bool}{r:Go.Reach}{b0:Nat}{v:Value}{d:DataW H}{ps:List MemPlace}(hval:Value.okWide Tryz.prog w r b0 32 v)(h:DataW.Trod enc Tryz.prog w 0 spare held 32 v d ps):
  ∃(T:Ac) (V:Ac.Vs) (e dd:Nat),v=.agg (Ac.row T V)/\Ac.Lies w w.heap.size e dd V T:=by
 obtain⟨cs,rfl,_⟩:=okWide_struct Tryz.underlying32 hval;obtain⟨fuel,hf0⟩:=h;obtain⟨T,V,hcs,hL⟩:=Ac.open_cells fuel _ _ hf0;refine⟨T,V,fuel,fuel, ?_,hL fuel (Nat.le_refl _)⟩;have:cs.toList=(Ac.row T V).toList:=hcs
 congr 1
 exact Array.ext' this
def Dd.Nums (w:World)(B:Nat)(a:Option Addr)(l:List Int):Prop:=∀j (h:j<l.length),∃g off,a=some ⟨g,off,none⟩/\g<B/\w.cell? ⟨g,off+j,none⟩=some (.int .i64 l[j])
section
variable {H:Type} {enc:TypeId×Value->H} {w:World} {spare:Nat->Bool} {held:Bool}
end
end Go.Proofs
