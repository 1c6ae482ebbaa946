import Derived.Test.YtmomffminkflnaaGreatDoorRRkOrder
import Derived.Deep.OwnRows
import Derived.WalkMore
import Derived.Deep.RegionHeld3
import Derived.Deep.DeepCutAuto
set_option maxRecDepth 100000
set_option maxHeartbeats 32000000
namespace Go.Proofs
open Go.RowKit
inductive Ac where
 |mk (kind node a b:Int) (t:Tm) (cs:List Tm) (ks:List Ac) (ls:List (Int×Int)) (ns:List Nd) (fs:List Fl)
namespace Ac
def kind:Ac->Int|mk k _ _ _ _ _ _ _ _ _=>k
def node:Ac->Int|mk _ n _ _ _ _ _ _ _ _=>n
def a:Ac->Int|mk _ _ a _ _ _ _ _ _ _=>a
def b:Ac->Int|mk _ _ _ b _ _ _ _ _ _=>b
def t:Ac->Tm|mk _ _ _ _ t _ _ _ _ _=>t
def cs:Ac->List Tm|mk _ _ _ _ _ c _ _ _ _=>c
def ks:Ac->List Ac|mk _ _ _ _ _ _ k _ _ _=>k
def ls:Ac->List (Int×Int)|mk _ _ _ _ _ _ _ l _ _=>l
def ns:Ac->List Nd|mk _ _ _ _ _ _ _ _ n _=>n
def fs:Ac->List Fl|mk _ _ _ _ _ _ _ _ _ f=>f
mutual
def size:Ac->Nat|mk _ _ _ _ _ _ ks _ _ _=>sizes ks+1
def sizes:List Ac->Nat| []=>0|k::r=>size k+sizes r
end
mutual
def depth:Ac->Nat|mk _ _ _ _ _ _ ks _ _ _=>depths ks+1
def depths:List Ac->Nat| []=>0|k::r=>max (depth k) (depths r)
end
mutual
def go {St:Type}(step:Ac->St->Bool×St):Ac->St->Bool×St
 | .mk k n a b t c ks l x y,s=>if(step (.mk k n a b t c ks l x y) s).1=true then goes step ks (step (.mk k n a b t c ks l x y) s).2 else(false,(step (.mk k n a b t c ks l x y) s).2)
def goes {St:Type}(step:Ac->St->Bool×St):List Ac->St->Bool×St
 | [],s=>(true,s)
 |k::r,s=>if(go step k s).1=true then goes step r (go step k s).2 else(false,(go step k s).2)
end
mutual
def All (P:Ac->Prop):Ac->Prop| .mk k n a b t c ks l x y=>P (.mk k n a b t c ks l x y)/\Alls P ks
def Alls (P:Ac->Prop):List Ac->Prop| []=>True|k::r=>All P k/\Alls P r
end
mutual
def allP (p:Ac->Bool):Ac->Bool|mk k n a b t c ks l x y=>p (mk k n a b t c ks l x y)&&allPs p ks
def allPs (p:Ac->Bool):List Ac->Bool| []=>true|k::r=>allP p k&&allPs p r
end
theorem take_snoc {α:Type}(l:List α)(k:Nat)(h:k<l.length):l.take (k+1)=l.take k++ [l[k]]:=Tm.take_snoc l k h
theorem sizes_snoc (l:List Ac)(a:Ac):sizes (l++ [a])=sizes l+a.size:=by
 induction l with
 |nil=>simp[sizes]
 |cons k r ih=>simp only[List.cons_append,sizes,ih];omega
theorem depths_snoc (l:List Ac)(a:Ac):depths (l++ [a])=max (depths l) a.depth:=by
 induction l with
 |nil=>simp[depths]
 |cons k r ih=>simp only[List.cons_append,depths,ih];omega
theorem sizes_take (l:List Ac)(k:Nat)(h:k<l.length):sizes (l.take (k+1))=sizes (l.take k)+l[k].size:=by rw[take_snoc l k h,sizes_snoc]
theorem depths_take (l:List Ac)(k:Nat)(h:k<l.length):depths (l.take (k+1))=max (depths (l.take k)) l[k].depth:=by rw[take_snoc l k h,depths_snoc]
theorem sizes_le (l:List Ac):∀k,sizes (l.take k)<=sizes l:=by
 induction l with
 |nil=>intro k;simp
 |cons x r ih=>
  intro k
  cases k with
  |zero=>simp[sizes]
  |succ k=>simp only[List.take_succ_cons,sizes];have:=ih k;omega
theorem depths_get (l:List Ac):∀k (h:k<l.length),l[k].depth<=depths l:=by
 induction l with
 |nil=>intro k h;simp at h
 |cons x r ih=>
  intro k h
  cases k with
  |zero=>simp only[List.getElem_cons_zero,depths];omega
  |succ k=>simp only[List.getElem_cons_succ,depths];have:=ih k (by simpa using h);omega
theorem size_pos (T:Ac):1<=T.size:=by cases T;simp[size]
theorem sizes_get (l:List Ac)(k:Nat)(h:k<l.length):sizes (l.take k)+l[k].size<=sizes l:=by rw[<-sizes_take l k h];exact sizes_le _ _
theorem length_le_sizes (l:List Ac):l.length<=sizes l:=by
 induction l with
 |nil=>simp
 |cons k r ih=>simp only[List.length_cons,sizes];have:=k.size_pos;omega
theorem size_eq (T:Ac):T.size=sizes T.ks+1:=by cases T;rfl
theorem depth_eq (T:Ac):T.depth=depths T.ks+1:=by cases T;rfl
mutual
theorem depth_le_size:∀T:Ac,T.depth<=T.size
 |mk _ _ _ _ _ _ ks _ _ _=>by rw[depth,size];have:=depths_le_sizes ks;omega
theorem depths_le_sizes:∀l:List Ac,depths l<=sizes l
 | []=>by simp[depths,sizes]
 |k::r=>by rw[depths,sizes];have:=depth_le_size k;have:=depths_le_sizes r;omega
end
theorem go_eq {St:Type}(step:Ac->St->Bool×St)(T:Ac)(s:St):T.go step s=if(step T s).1=true then goes step T.ks (step T s).2 else(false,(step T s).2):=by cases T;rfl
theorem all_eq (P:Ac->Prop)(T:Ac):T.All P=(P T/\Alls P T.ks):=by cases T;rfl
theorem alls_get {P:Ac->Prop} :∀{l:List Ac},Alls P l->∀k (h:k<l.length),l[k].All P
 | [],_,k,h=>by simp at h
 |x::r,hl,k,h=>by
  cases k with
  |zero=>exact hl.1
  |succ k=>exact alls_get hl.2 k (by simpa using h)
theorem goes_snoc {St : Type} (step : Ac -> St -> Bool × St) (x : Ac) : ∀ (l : List Ac) (s : St), goes step (l ++ [x]) s = if (goes step l s).1 = true then x.go step (goes step l s).2 else (false, (goes step l s).2)
  | [], s => by
    simp only [List.nil_append, goes, if_true]
    split
    · rename_i h; rw [<- h]
    rename_i h; rw [<- Bool.eq_false_iff.2 h]
  | k :: r, s => by
    rw [List.cons_append, goes, goes]
    split
    · exact goes_snoc step x r _
    simp
theorem goes_stop {St:Type}(step:Ac->St->Bool×St):∀(a b:List Ac) (s s':St),goes step a s=(false,s')->goes step (a++b) s=(false,s')
 | [],b,s,s',h=>by simp[goes]at h
 |k::r,b,s,s',h=>by
  rw[goes]at h;rw[List.cons_append,goes]
  split
  ·rename_i hk;rw[if_pos hk]at h;exact goes_stop step r b _ _ h
  rename_i hk;rw[if_neg hk]at h;exact h
def Tms (w:World)(B d:Nat)(a:Option Addr)(cs:List Tm):Prop:=∀j (h:j<cs.length),∃g off u,a=some ⟨g,off,none⟩/\g<B/\w.cell? ⟨g,off+j*3,none⟩=some (.int .i64 cs[j].op)/\w.cell? ⟨g,off+j*3+1,none⟩=some (.int .i64 cs[j].num)/\w.cell? ⟨g,off+j*3+2,none⟩=some u/\Tm.Lies w B d u cs[j]
def Lks (w:World)(B:Nat)(a:Option Addr)(ls:List (Int×Int)):Prop:=∀j (h:j<ls.length),∃g off,a=some ⟨g,off,none⟩/\g<B/\w.cell? ⟨g,off+j*2,none⟩=some (.int .i64 ls[j].1)/\w.cell? ⟨g,off+j*2+1,none⟩=some (.int .i64 ls[j].2)
theorem Tms.keep {w w':World}{B d:Nat}{a:Option Addr}{cs:List Tm}(h:Tms w B d a cs)(hk:∀k,k<B->w'.heap[k]? =w.heap[k]?):Tms w' B d a cs:=λj hj=>by
 obtain⟨g,off,u,h1,h2,c0,c1,c2,h3⟩:=h j hj;have hc:∀o,w'.cell? ⟨g,o,none⟩=w.cell? ⟨g,o,none⟩:=λo=>World.cell?_of_block (w:=w) (hk g h2);exact⟨g,off,u,h1,h2,by rw[hc];exact c0,by rw[hc];exact c1,by rw[hc];exact c2,h3.keep hk⟩
theorem Lks.keep {w w':World}{B:Nat}{a:Option Addr}{ls:List (Int×Int)}(h:Lks w B a ls)(hk:∀k,k<B->w'.heap[k]? =w.heap[k]?):Lks w' B a ls:=λj hj=>by
 obtain⟨g,off,h1,h2,c0,c1⟩:=h j hj;have hc:∀o,w'.cell? ⟨g,o,none⟩=w.cell? ⟨g,o,none⟩:=λo=>World.cell?_of_block (w:=w) (hk g h2);exact⟨g,off,h1,h2,by rw[hc];exact c0,by rw[hc];exact c1⟩
theorem Tms.wider {w:World}{B B' d:Nat}{a:Option Addr}{cs:List Tm}(h:Tms w B d a cs)(hB:B<=B'):Tms w B' d a cs:=λj hj=>by
 obtain⟨g,off,u,h1,h2,c0,c1,c2,h3⟩:=h j hj;exact⟨g,off,u,h1,by omega,c0,c1,c2,h3.wider hB⟩
theorem Lks.wider {w:World}{B B':Nat}{a:Option Addr}{ls:List (Int×Int)}(h:Lks w B a ls)(hB:B<=B'):Lks w B' a ls:=λj hj=>by
 obtain⟨g,off,h1,h2,h3⟩:=h j hj;exact⟨g,off,h1,by omega,h3⟩
theorem nds_keep {w w':World}{B d:Nat}{a:Option Addr}{ns:List Nd}(h:Nt.Nds w B d a ns)(hk:∀k,k<B->w'.heap[k]? =w.heap[k]?):Nt.Nds w' B d a ns:=λj hj=>by
 obtain⟨g,off,u,h1,h2,c0,c1,c2,c3,c4,h3⟩:=h j hj;have hc:∀o,w'.cell? ⟨g,o,none⟩=w.cell? ⟨g,o,none⟩:=λo=>World.cell?_of_block (w:=w) (hk g h2);exact⟨g,off,u,h1,h2,by rw[hc];exact c0,by rw[hc];exact c1,by rw[hc];exact c2,by rw[hc];exact c3,by rw[hc];exact c4,h3.keep hk⟩
theorem fls_keep {w w':World}{B d:Nat}{a:Option Addr}{fs:List Fl}(h:Nt.Fls w B d a fs)(hk:∀k,k<B->w'.heap[k]? =w.heap[k]?):Nt.Fls w' B d a fs:=λj hj=>by
 obtain⟨g,off,u,h1,h2,c0,c1,c2,c3,c4,c5,h3⟩:=h j hj;have hc:∀o,w'.cell? ⟨g,o,none⟩=w.cell? ⟨g,o,none⟩:=λo=>World.cell?_of_block (w:=w) (hk g h2);exact⟨g,off,u,h1,h2,by rw[hc];exact c0,by rw[hc];exact c1,by rw[hc];exact c2,by rw[hc];exact c3,by rw[hc];exact c4,by rw[hc];exact c5,h3.keep hk⟩
structure Vs where
 t:Value
 c:Value
 k:Value
 l:Value
 n:Value
 f:Value
def row (T:Ac)(V:Vs):Array Value:=#[.int .i64 T.kind,.int .i64 T.node,.int .i64 T.a,.int .i64 T.b,.int .i64 T.t.op,.int .i64 T.t.num,V.t,V.c,V.k,V.l,V.n,V.f]
structure Own (w:World)(B e:Nat)(V:Vs)(T:Ac):Prop where
 t:Tm.Lies w B e V.t T.t
 c:∃a cap,V.c=.slice a T.cs.length cap/\Tms w B e a T.cs
 l:∃a cap,V.l=.slice a T.ls.length cap/\Lks w B a T.ls
 n:∃a cap,V.n=.slice a T.ns.length cap/\Nt.Nds w B e a T.ns
 f:∃a cap,V.f=.slice a T.fs.length cap/\Nt.Fls w B e a T.fs
theorem Own.keep {w w':World}{B e:Nat}{V:Vs}{T:Ac}(h:Own w B e V T)(hk:∀k,k<B->w'.heap[k]? =w.heap[k]?):Own w' B e V T:=by
 obtain⟨h1,⟨a2,c2,e2,h2⟩,⟨a3,c3,e3,h3⟩,⟨a4,c4,e4,h4⟩,⟨a5,c5,e5,h5⟩⟩:=h;exact⟨h1.keep hk,⟨a2,c2,e2,h2.keep hk⟩,⟨a3,c3,e3,h3.keep hk⟩,⟨a4,c4,e4,nds_keep h4 hk⟩,⟨a5,c5,e5,fls_keep h5 hk⟩⟩
theorem Own.wider {w:World}{B B' e:Nat}{V:Vs}{T:Ac}(h:Own w B e V T)(hB:B<=B'):Own w B' e V T:=by
 obtain⟨h1,⟨a2,c2,e2,h2⟩,⟨a3,c3,e3,h3⟩,⟨a4,c4,e4,h4⟩,⟨a5,c5,e5,h5⟩⟩:=h;exact⟨h1.wider hB,⟨a2,c2,e2,h2.wider hB⟩,⟨a3,c3,e3,h3.wider hB⟩,⟨a4,c4,e4,h4.wider hB⟩,⟨a5,c5,e5,h5.wider hB⟩⟩
def Row (w:World)(g o:Nat)(cs:Array Value):Prop:=∀i (h:i<cs.size),w.cell? ⟨g,o+i,none⟩=some cs[i]
theorem Row.keep {w w':World}{g o:Nat}{cs:Array Value}(h:Row w g o cs)(hk:w'.heap[g]? =w.heap[g]?):Row w' g o cs:=λi hi=>by
 rw[World.cell?_of_block (w:=w) hk];exact h i hi
def Lies (w:World)(B e:Nat):Nat->Vs->Ac->Prop
 |0,_,_=>False
 |d+1,V,T=>Own w B e V T/\∃a cap,V.k=.slice a T.ks.length cap/\∀j (h:j<T.ks.length),∃g off U,a=some ⟨g,off,none⟩/\g<B/\Row w g (off+j*12) (row T.ks[j] U)/\Lies w B e d U T.ks[j]
theorem Lies.keep {w w':World}{B e:Nat}(hk:∀k,k<B->w'.heap[k]? =w.heap[k]?):∀{d:Nat} {V:Vs} {T:Ac},Lies w B e d V T->Lies w' B e d V T
 |0,_,_,h=>h.elim
 |d+1,V,T,h=>by
  obtain⟨ho,a,cap,hv,h⟩:=h;refine⟨ho.keep hk,a,cap,hv,λj hj=> ?_⟩;obtain⟨g,off,U,ha,hg,hr,h1⟩:=h j hj;exact⟨g,off,U,ha,hg,hr.keep (hk g hg),Lies.keep hk h1⟩
theorem Lies.below {w w':World}{B e:Nat}(hb:Below B w w'){d:Nat}{V:Vs}{T:Ac}(h:Lies w B e d V T):Lies w' B e d V T:=h.keep hb.block
theorem Lies.wider {w:World}{B B' e:Nat}(hB:B<=B'):∀{d:Nat} {V:Vs} {T:Ac},Lies w B e d V T->Lies w B' e d V T
 |0,_,_,h=>h.elim
 |d+1,V,T,h=>by
  obtain⟨ho,a,cap,hv,h⟩:=h;refine⟨ho.wider hB,a,cap,hv,λj hj=> ?_⟩;obtain⟨g,off,U,ha,hg,hr,h1⟩:=h j hj;exact⟨g,off,U,ha,by omega,hr,Lies.wider hB h1⟩
theorem Lies.own {w:World}{B e d:Nat}{V:Vs}{T:Ac}(h:Lies w B e d V T):Own w B e V T:=by
 cases d with
 |zero=>exact h.elim
 |succ d=>exact h.1
theorem Lies.kids {w:World}{B e d:Nat}{V:Vs}{T:Ac}(h:Lies w B e d V T):∃a cap,V.k=.slice a T.ks.length cap:=by
 cases d with
 |zero=>exact h.elim
 |succ d=>obtain⟨_,a,cap,hv,_⟩:=h;exact⟨a,cap,hv⟩
theorem Lies.shape {w:World}{B e d:Nat}{V:Vs}{T:Ac}(h:Lies w B e d V T):∃a6 c6 a7 c7 a8 c8 a9 c9 a10 c10 a11 c11,V=⟨.slice a6 T.t.ks.length c6,.slice a7 T.cs.length c7,.slice a8 T.ks.length c8,.slice a9 T.ls.length c9,.slice a10 T.ns.length c10,.slice a11 T.fs.length c11⟩:=by
 obtain⟨a6,c6,e6⟩:=h.own.t.shape;obtain⟨a7,c7,e7,_⟩:=h.own.c;obtain⟨a8,c8,e8⟩:=h.kids;obtain⟨a9,c9,e9,_⟩:=h.own.l;obtain⟨a10,c10,e10,_⟩:=h.own.n;obtain⟨a11,c11,e11,_⟩:=h.own.f;refine⟨a6,c6,a7,c7,a8,c8,a9,c9,a10,c10,a11,c11, ?_⟩
 cases V
 simp only at e6 e7 e8 e9 e10 e11;rw[e6,e7,e8,e9,e10,e11]
theorem Lies.ones {w:World}{B e d:Nat}{V:Vs}{T:Ac}(h:Lies w B e d V T):(row T V).all (·.oneCell')=true:=by
 obtain⟨a6,c6,a7,c7,a8,c8,a9,c9,a10,c10,a11,c11,rfl⟩:=h.shape;simp[row,Value.oneCell']
theorem Lies.kid {w:World}{B e d:Nat}{V:Vs}{a:Option Addr}{n cap:Nat}{T:Ac}(h:Lies w B e (d+1) V T)(hv:V.k=.slice a n cap)(j:Nat)(hj:j<T.ks.length):∃g off U,a=some ⟨g,off,none⟩/\g<B/\Row w g (off+j*12) (row T.ks[j] U)/\Lies w B e d U T.ks[j]:=by
 obtain⟨_,a',cap',hv',h⟩:=h;rw[hv]at hv';obtain⟨rfl,_,_⟩:=Value.slice.inj hv';exact h j hj
end Ac
end Go.Proofs
namespace Go.Proofs
open Go.RowKit Go.Shelf
def Rk.inB (n i:Int):Bool:=decide (0<=i)&&decide (i<n)
def Rk.outB (n:Int)(x:Int×Int):Bool:= !Rk.inB n x.1|| !Rk.inB n x.2
def Rk.chk (n:Int)(es:List (Int×Int)):Int:=if n<0∨64<n then 1 else if 256<es.length then 2 else if es.any (Rk.outB n)=true then 4 else 0
theorem Rk.enters_check:∀args w,(callFunc 128 args).run Tryz.prog w=.ok (.enter 128 args) w:=enters_of Tryz.func128 (by kernel_rfl) rfl
theorem Rk.check_pred (n:Int)(b:Nat)(es:List (Int×Int))(w:World)(hb:b<w.heap.size)(hc:w.cell? ⟨b,0,none⟩=some (.int .i64 n)):Rk.Pred 128 #[.pointer (some ⟨b,0,none⟩)] (Rk.outB n) es w:=by
 intro W x y _ hW;show Calls Tryz.prog 128 #[.agg #[.int .i64 x,.int .i64 y],.pointer (some ⟨b,0,none⟩)] W _;have B0:Hid (Below w.heap.size w W):=hW;have c0:W.cell? ⟨b,0,none⟩=some (.int .i64 n):=(hW.cell (p:=⟨b,0,none⟩) hb).trans hc;have HS:w.heap.size<=W.heap.size:=hW.size;have hbW:b<W.heap.size:=Nat.lt_of_lt_of_le hb hW.size;clear hc hW;have HX:Hid (Rk.outB n (x,y)=(!Rk.inB n x|| !Rk.inB n y)):=rfl
 cases hx:Rk.inB n x
 ·have h1:(decide (0<=x)&&decide (x<n))=false:=hx
  rw[HX.out,hx];clear hx HX
  go_enter Tryz.func128,Tryz.ntmps128
  go_wp2_with fail
  refine(Tryz.within_any n x _).mono ?_;rintro e W1 ⟨rfl,rfl⟩;rw[h1];go_wp2;go_ret;exact⟨rfl,B0.out.alloc HS _⟩
 have h1:(decide (0<=x)&&decide (x<n))=true:=hx;have HY:Hid (Rk.inB n y=(decide (0<=y)&&decide (y<n))):=rfl;rw[HX.out,hx,HY.out];clear hx HX HY;obtain⟨q,hq⟩:=pE ((decide (0<=y)&&decide (y<n)));rw[hq];have HQ:Hid _:=hq;clear hq
 go_enter Tryz.func128,Tryz.ntmps128
 go_wp2_with fail
 refine(Tryz.within_any n x _).mono ?_;rintro e W1 ⟨rfl,rfl⟩;rw[h1]
 go_wp2_with fail
 refine(Tryz.within_any n y _).mono ?_;rintro e W1 ⟨rfl,rfl⟩;rw[HQ.out];go_wp2;go_ret;exact⟨by simp,B0.out.alloc HS _⟩
theorem Tryz.rkCheck_any (n:Int)(a:Option Addr)(c:Nat)(es:List (Int×Int))(w:World)(hE:Rk.Eds w w.heap.size a es)(hn:es.length<=1000000000000000):
  Calls Tryz.prog 105 #[.int .i64 n,.slice a es.length c] w λe w'=>e=.returned (.int .i64 (Rk.chk n es))/\Below w.heap.size w w':=by
 have B0:Hid (Below w.heap.size w (w.alloc (.cells #[.int .i64 n] 3))):=(Below.refl _ w).alloc (Nat.le_refl _) _;have HC:Hid _:=Tryz.contains_any (Rk.outB n) 128 #[.pointer (some ⟨w.heap.size,0,none⟩)] Rk.enters_check a c es (w.alloc (.cells #[.int .i64 n] 3)) (Rk.check_pred n w.heap.size es _ (by simp) (by simp)) ((hE.below B0.out).wider (by simp)) hn;obtain⟨q,hq⟩:=pE (es.any (Rk.outB n));obtain⟨m,hm⟩:=pE (es.length);have HR:Hid (Rk.chk n es=if n<0∨64<n then 1 else if 256<m then 2 else if q=true then 4 else 0):=by show Rk.chk n es=_;unfold Rk.chk;rw[hq,hm]
 rw[HR.out];rw[hq]at HC;rw[hm]at HC hn⊢;clear hE hq hm HR
 by_cases h1:n<0
 ·have d1:decide (n<0)=true:=decide_eq_true h1
  rw[if_pos (.inl h1)];clear h1
  go_enter Tryz.func105,Tryz.ntmps105
  go_wp2;go_ret;exact⟨rfl,B0.out⟩
 have d1:decide (n<0)=false:=decide_eq_false h1
 by_cases h2:64<n
 ·have d2:decide (64<n)=true:=decide_eq_true h2
  rw[if_pos (.inr h2)];clear h1 h2
  go_enter Tryz.func105,Tryz.ntmps105
  go_wp2;go_ret;exact⟨rfl,B0.out⟩
 have d2:decide (64<n)=false:=decide_eq_false h2;rw[if_neg (by omega)];clear h1 h2
 by_cases h3:256<m
 ·have d3:decide ((256:Int)<m)=true:=decide_eq_true (by omega)
  rw[if_pos h3];clear h3
  go_enter Tryz.func105,Tryz.ntmps105
  go_wp2;go_ret;exact⟨rfl,B0.out⟩
 have d3:decide ((256:Int)<m)=false:=decide_eq_false (by omega);rw[if_neg h3];clear h3
 go_enter Tryz.func105,Tryz.ntmps105
 go_wp2_with fail
 refine Calls.mono HC.out ?_;rintro e W1 ⟨rfl,hb⟩;have B1:Hid (Below w.heap.size w W1):=B0.out.trans (hb.mono (by simp));clear hb HC
 cases q
 ·go_wp2
  go_ret;exact⟨rfl,B1.out⟩
 go_wp2;go_ret;exact⟨rfl,B1.out⟩
theorem Tryz.infoBoolQ:(Tryz.prog.info? 4).map (λi=>(i.zero,i.size,i.bytes))=some (some (.bool false),1,1):=by kernel_rfl
def Rq.row (n:Nat):Array Value:=((List.replicate n false).map Value.bool).toArray
theorem Rq.make_bools (n:Nat)(hn:n<=64)(w:World):(Instr.makeSlice 151 (.int .i64 (n:Int)) (.int .i64 (n:Int))).run Tryz.prog w=.ok (.slice (some ⟨w.heap.size,0,none⟩) n n) (w.alloc (.cells (Rq.row n) 4)):=by
 have h:=run_make_row' (P:=Tryz.prog) 151 4 (.bool false) 1 Tryz.underlying151 Tryz.infoBoolQ rfl .i64 .i64 n (by omega) (by omega) w;rw[h,show madeCells #[Value.bool false] n=Rq.row n from ?_];apply Array.toList_inj.1;rw[toList_madeCells_one];simp[Rq.row]
theorem Rq.row_bits (w:World)(n:Nat):Rq.Bits (w.alloc (.cells (Rq.row n) 4)) w.heap.size (List.replicate n false):=heap_alloc_new w (.cells (Rq.row n) 4)
theorem Tryz.mark_any (n a0:Nat)(a:Option Addr)(c:Nat)(es:List (Nat×Nat))(w:World)(hn:n<=64)(ha:a0<n)(hes:∀e,e∈es->e.1<n/\e.2<n)(hE:Rk.Eds w w.heap.size a (Rk.up es))(hm:es.length<=1000000000000000):
  Calls Tryz.prog 130 #[.int .i64 n,.slice a es.length c,.int .i64 a0] w λe w'=>
   e=.returned (.slice (some ⟨w.heap.size,0,none⟩) n n)/\Rq.Bits w' w.heap.size ((List.range n).map (Rk.met es a0))/\Below w.heap.size w w':=by
 have HE:Hid (Rk.Eds w w.heap.size a (Rk.up es)/\∀e,e∈es->e.1<n/\e.2<n):=⟨hE,hes⟩;have ha':(a0:Int)<n:=by omega
 have hmk:=Rq.make_bools n hn;obtain⟨m,hmm⟩:=pE (es.length);rw[hmm]at hm⊢;have HM:Hid (es.length=m):=hmm;have X1:=Rq.row_bits w n;have B1:Below w.heap.size w (w.alloc (.cells (Rq.row n) 4)):=(Below.refl _ w).alloc (Nat.le_refl _) _;have c1:(w.alloc (.cells (Rq.row n) 4)).cell? ⟨w.heap.size,a0,none⟩=some (.bool false):=X1.cell a0 false (by simp[ha]);have f1:=X1.frozen a0
 have X2:Hid (Rq.Bits (w.alloc (.cells ((Rq.row n).setIfInBounds a0 (.bool true)) 4)) w.heap.size ((List.replicate n false).set a0 true)):=by
  have:=heap_alloc_new w (.cells ((Rq.row n).setIfInBounds a0 (.bool true)) 4);show _=_;rw[this,Rq.row,List.setIfInBounds_toArray,List.map_set]
 have B2:Hid (Below w.heap.size w (w.alloc (.cells ((Rq.row n).setIfInBounds a0 (.bool true)) 4))):=(Below.refl _ w).alloc (Nat.le_refl _) _;clear hE hes hmm X1 B1
 go_enter Tryz.func130,Tryz.ntmps130
 go_wp2
 go_step3
 go_wp2
 go_step3
 go_wp2;clear hmk
 go_loopg [] 64 (λgk wr=>∃bs,Rk.left bs<=gk/\Hid (Rk.Way es n a0 bs/\Rq.Bits wr w.heap.size bs/\Below w.heap.size w wr))
 case atStart=>exact⟨_,by have:=Rk.left_le ((List.replicate n false).set a0 true);simp at this;omega,Rk.Way.start es ha,X2.out,B2.out⟩
 case round=>
  obtain⟨bs,hbl,HB⟩:=hrel;clear X2 B2 c1 f1;go_wp2
  go_loopg [17] m (λgi i wi=>∃k:Nat,gi+k=m/\i=.int .i64 k/\Hid (Rq.Bits wi w.heap.size bs/\Below w.heap.size w wi/\∀j (h:j<es.length),j<k->Rk.on bs es[j].1->Rk.on bs es[j].2))
  case atStart=>exact⟨0,by omega,rfl,HB.out.2.1,HB.out.2.2,λj _ h=>by omega⟩
  case round=>
   obtain⟨k,hk,rfl,HI⟩:=hrel
   by_cases hlt:k<m
   rotate_left
   ·have hd:decide ((k:Int)<m)=false:=decide_eq_false (by omega)
    go_wp2;rw[Exit.noGoto_ret];go_ret;refine⟨rfl, ?_,HI.out.2.1⟩
    have hall:Rk.Shut es bs:=by
     intro e he;obtain⟨j,hj,rfl⟩:=List.getElem_of_mem he;exact HI.out.2.2 j hj (by rw[HM.out]at hj;omega)
    rw[<-HB.out.1.done hall];exact HI.out.1
   have hd:decide ((k:Int)<m)=true:=decide_eq_true (by omega);have hkl:k<es.length:=by rw[HM.out];exact hlt
   obtain⟨q,off,rfl,hq,h0,h1⟩:=HE.out.1 k (by rw[Rk.up_length];exact hkl);obtain⟨e,he⟩:=pE (es[k]);obtain⟨x,y⟩:=e;have hxy:=HE.out.2 _ (List.getElem_mem hkl);rw[he]at hxy;obtain⟨hx,hy⟩:x<n/\y<n:=hxy;rw[Rk.up_get,he]at h0 h1;have hc0:wr.cell? ⟨q,off+k*2,none⟩=some (.int .i64 x):=by rw[HI.out.2.1.cell (p:=⟨q,off+k*2,none⟩) hq];exact h0
   have hc1:wr.cell? ⟨q,off+k*2+1,none⟩=some (.int .i64 y):=by rw[HI.out.2.1.cell (p:=⟨q,off+k*2+1,none⟩) hq];exact h1
   have HX:Hid (es[k]=(x,y)):=he;have hz:w.heap.size<wr.heap.size:=HI.out.1.lt;have hqz:q<wr.heap.size:=by omega
   have hx':(x:Int)<n:=by omega
   have hy':(y:Int)<n:=by omega
   have hu:=Tryz.underlying128;obtain⟨b1,hb1⟩:∃b,bs[x]? =some b:=⟨_,List.getElem?_eq_getElem (by rw[HB.out.1.1];exact hx)⟩;obtain⟨b2,hb2⟩:∃b,bs[y]? =some b:=⟨_,List.getElem?_eq_getElem (by rw[HB.out.1.1];exact hy)⟩;have k1:=HI.out.1.cell x b1 hb1;have k2:=HI.out.1.cell y b2 hb2;have f2:=HI.out.1.frozen y;have H12:Hid (bs[x]? =some b1/\bs[y]? =some b2):=⟨hb1,hb2⟩
   have HA:Hid (Below w.heap.size w (wr.alloc (.cells #[.int .i64 x,.int .i64 y] 128))/\Rq.Bits (wr.alloc (.cells #[.int .i64 x,.int .i64 y] 128)) w.heap.size bs):=
    ⟨HI.out.2.1.alloc (by omega) _,HI.out.1.keep (Below.heap_alloc _ _ _ hz)⟩
   clear h0 h1 he hb1 hb2
   have hrel2:(b1=true->b2=true)->∀j (h:j<es.length),j<k+1->Rk.on bs es[j].1->Rk.on bs es[j].2:=by
    intro hi j hj hj2 ho
    by_cases hjk:j=k
    ·subst hjk
     rw[HX.out]at ho⊢;have h1:=H12.out.1;have h2:=H12.out.2;have:b1=true:=by unfold Rk.on at ho;rw[h1]at ho;exact Option.some.inj ho
     rw[hi this]at h2;exact h2
    exact HI.out.2.2 j hj (by omega) ho
   have HR:Hid _:=hrel2;clear hrel2
   cases b1
   ·go_wp2
    go_roundg (gk-1)
    case measure=>omega
    case rel=>exact⟨k+1,by omega,by go_num,HA.out.2,HA.out.1,HR.out (by simp)⟩
   cases b2
   ·go_wp2
    go_roundg (Rk.left (bs.set y true))
    case measure=>have:=Rk.left_set bs y H12.out.2;omega
    case rel=>
     refine⟨bs.set y true,Nat.le_refl _,HB.out.1.mark (by rw[<-HX.out];exact List.getElem_mem hkl) H12.out.1 hy, ?_, ?_⟩
     ·exact(HI.out.1.put y true).keep (Below.heap_alloc _ _ _ (by simpa using hz))
     exact(HI.out.2.1.setCell (p:=⟨w.heap.size,y,none⟩) (Nat.le_refl _) _).alloc (by simp;omega) _
   go_wp2;go_roundg (gk-1)
   case measure=>omega
   case rel=>exact⟨k+1,by omega,by go_num,HA.out.2,HA.out.1,HR.out (by simp)⟩
theorem Tryz.infoIntQ:(Tryz.prog.info? 3).map (λi=>(i.zero,i.size,i.bytes))=some (some (.int .i64 0),1,8):=by kernel_rfl
def Rq.nums (l:List Nat):List Value:=l.map λi:Nat=>Value.int .i64 (i:Int)
theorem Rq.nums_snoc (l:List Nat)(i:Nat):Rq.nums (l++ [i])=Rq.nums l++ [.int .i64 (i:Int)]:=by simp[Rq.nums]
theorem Rq.own_shape {w:World}{B:Nat}{e:TypeId}{size:Nat}{v:Value}{n:Nat}{cs:List Value}(h:w.ownsRow B e size v n cs):∃a c,v=.slice a n c:=by
 rcases h.2 with⟨rfl,rfl⟩|⟨g,cap,cur,rfl,_⟩
 ·exact⟨none,0,rfl⟩
 exact⟨_,_,rfl⟩
theorem Rq.own_below {w w':World}{B:Nat}{e:TypeId}{size:Nat}{v:Value}{n:Nat}{cs:List Value}(h:w.ownsRow B e size v n cs)(hb:Below w.heap.size w w'):w'.ownsRow B e size v n cs:=by
 rcases h with⟨hl,h|⟨g,cap,cur,rfl,hB,hg,h4⟩⟩
 ·exact⟨hl,.inl h⟩
 exact⟨hl,.inr ⟨g,cap,cur,rfl,hB,by rw[hb.block g (Array.getElem?_eq_some_iff.1 hg).1];exact hg,h4⟩⟩
theorem Rq.below_grown {B:Nat}{a w w':World}{v:Value}{e:TypeId}{size n:Nat}{cs:List Value}(h:Below B a w)(hB:B<=w.heap.size)(ho:w.ownsRow B e size v n cs)(hg:w.grownBy w' v.ownBlock):Below B a w':=
 h.trans ⟨hg.os,hg.tape,hg.output,hg.size,λj hj=>hg.block j (by omega) (by
  intro he
  rcases ho.2 with⟨rfl,_⟩|⟨g,cap,cur,rfl,h1,_⟩
  ·simp[Value.ownBlock]at he
  simp[Value.ownBlock]at he
  omega)⟩
theorem Rq.one_cell (w:World)(i:Int)(t:TypeId):∀j u, [Value.int .i64 i][j]? =some u->(w.alloc (.cells #[.int .i64 i] t)).cell? ((⟨w.heap.size,0,none⟩:Addr).add j)=some u:=by
 intro j u hj
 match j,hj with
 |0,hj=>simp at hj;subst hj;simp[Addr.add]
theorem Rq.one_one (i:Int):∀u∈ [Value.int .i64 i],u.oneCell'=true:=by intro u hu;simp at hu;subst hu;rfl
def Rq.Hold (g:Nat)(lb:Array Value)(p:Nat->Bool)(n:Nat)(w:World):Prop:=
 ∀(W:World) (i:Nat),i<n->Below w.heap.size w W->Calls Tryz.prog g (#[.int .i64 (i:Int)]++lb) W λe w'=>e=.returned (.bool (p i))/\Below W.heap.size W w'
theorem Tryz.things_any (p:Nat->Bool)(g:Nat)(lb:Array Value)(eg:∀args w,(callFunc g args).run Tryz.prog w=.ok (.enter g args) w)(n:Nat)(w:World)(hp:Rq.Hold g lb p n w)(hn:n<=64):
  Calls Tryz.prog 106 #[.int .i64 n,.func (.func g) #[] lb] w λe w'=>∃v,e=.returned v/\w'.ownsRow w.heap.size 3 1 v ((List.range n).filter p).length (Rq.nums ((List.range n).filter p))/\Below w.heap.size w w':=by
 obtain⟨i0,hi,hz0,hz1,hz2⟩:=info_parts Tryz.infoIntQ;have HP:Hid _:=hp;clear hp
 go_enter Tryz.func106,Tryz.ntmps106
 go_wp2
 go_loopg [5,8] n (λgk s5 s8 wr=>∃(k r:Nat) (L:List Nat),gk+k=n/\s8=.int .i64 k/\r<=k/\Hid (L=(List.range k).filter p/\L.length=r/\Below w.heap.size w wr)/\wr.ownsRow w.heap.size 3 1 s5 r (Rq.nums L))
 case atStart=>exact⟨0,0, [],by omega,rfl,Nat.le_refl _,⟨rfl,rfl,Below.refl _ w⟩,World.ownsRow_nil _ _ _ _⟩
 case round=>
  obtain⟨k,r,L,hk,rfl,hr,HB,hown⟩:=hrel;obtain⟨av,cv,rfl⟩:=Rq.own_shape hown
  by_cases hlt:k<n
  rotate_left
  ·have hd:decide ((k:Int)<n)=false:=decide_eq_false (by omega)
   go_wp2;go_ret;obtain rfl:k=n:=by omega
   rw[<-HB.out.1,HB.out.2.1];exact⟨_,rfl,hown,HB.out.2.2⟩
  have hd:decide ((k:Int)<n)=true:=decide_eq_true (by omega);have hcall:=HP.out wr k hlt HB.out.2.2
  have HF:Hid ((List.range (k+1)).filter p=L++if p k=true then [k]else []):=by
   show _=_;rw[List.range_succ,List.filter_append,<-HB.out.1]
   cases hq:p k<;>simp[hq]
  cases hq:p k with
  |false=>
   rw[hq]at hcall HF;clear hq
   go_wp2_with (go_at_fn g;refine hcall.mono ?_;rintro e w1 ⟨rfl,hb⟩)
   go_roundg (gk-1)
   case measure=>omega
   case rel=>
    refine⟨k+1,r,L,by omega,by go_num,by omega,⟨?_,HB.out.2.1,HB.out.2.2.trans (hb.mono HB.out.2.2.size)⟩,Rq.own_below hown hb⟩;rw[HF.out];simp
  |true=>
   rw[hq]at hcall HF;clear hq
   go_wp2_with (first
    |(go_at_fn g;refine hcall.mono ?_;rintro e W1 ⟨rfl,hb⟩;have own1:=Rq.own_below hown hb;have B1:Hid (Below w.heap.size w W1):=HB.out.2.2.trans (hb.mono HB.out.2.2.size);have hs1:w.heap.size<=W1.heap.size:=B1.out.size;clear hb hown hcall)
    |(at_builtin;refine wpList_append_own _ rfl _ _ 51 rfl w.heap.size 3 i0 (.int .i64 0) 1 8 Tryz.underlying51 hi hz0 hz1 hz2 rfl (by decide) _ _ _ rfl (own1.alloc _) ⟨W1.heap.size,0,none⟩ 1 1 [.int .i64 k] rfl rfl (Rq.one_cell W1 k 3) (Rq.one_one k) ?c3 ?c4 ?c5 ?_))
   case c3=>unfold maxLen;omega
   case c4=>omega
   case c5=>simp;omega
   intro v' W2 own2 g2 _;obtain⟨a2,c2,rfl⟩:=Rq.own_shape own2;go_wp2;go_roundg (gk-1)
   case measure=>omega
   case rel=>
    refine⟨k+1,r+1,L++ [k],by omega,by go_num,by omega,⟨?_,by simp[HB.out.2.1],Rq.below_grown (B1.out.alloc hs1 _) (by simp;omega) (own1.alloc _) g2⟩, ?_⟩
    ·rw[HF.out];simp
    rw[Rq.nums_snoc];exact own2
theorem Rk.enters_goes:∀args w,(callFunc 131 args).run Tryz.prog w=.ok (.enter 131 args) w:=enters_of Tryz.func131 (by kernel_rfl) rfl
theorem Rk.enters_round:∀args w,(callFunc 107 args).run Tryz.prog w=.ok (.enter 107 args) w:=enters_of Tryz.func107 (by kernel_rfl) rfl
noncomputable def Rk.backB (es:List (Nat×Nat))(i:Nat)(x:Int×Int):Bool:=decide (x.2=(i:Int))&&Rk.met es i x.1.toNat
theorem Rk.back_any (es:List (Nat×Nat))(i:Nat):(Rk.up es).any (Rk.backB es i)=Rk.lead es i i:=by
 rw[Bool.eq_iff_iff,Rk.lead_iff,List.any_eq_true]
 constructor
 ·rintro⟨x,hx,h⟩
  obtain⟨e,he,rfl⟩:=List.mem_map.1 hx;simp only[Rk.backB,Bool.and_eq_true,decide_eq_true_eq,Int.toNat_natCast,Rk.met_iff]at h;have h2:e.2=i:=by omega
  exact⟨e.1,h.2,by rw[<-h2];exact he⟩
 rintro⟨b,h,m⟩;refine⟨((b:Int),(i:Int)),List.mem_map.2 ⟨(b,i),m,rfl⟩, ?_⟩;simp[Rk.backB,Rk.met_iff,h]
theorem Rk.goes_pred (bi bm g n i:Nat)(es:List (Nat×Nat))(w:World)(hes:∀e,e∈es->e.1<n/\e.2<n)(hbi:bi<w.heap.size)(hbm:bm<w.heap.size)(hci:w.cell? ⟨bi,0,none⟩=some (.int .i64 i))(hcm:w.cell? ⟨bm,0,none⟩=some (.slice (some ⟨g,0,none⟩) n n))
  (hb:Rq.Bits w g ((List.range n).map (Rk.met es i))):Rk.Pred 131 #[.pointer (some ⟨bi,0,none⟩),.pointer (some ⟨bm,0,none⟩)] (Rk.backB es i) (Rk.up es) w:=by
 intro W x y hxy hW;show Calls Tryz.prog 131 #[.agg #[.int .i64 x,.int .i64 y],.pointer (some ⟨bi,0,none⟩),.pointer (some ⟨bm,0,none⟩)] W _;obtain⟨e,he,hee⟩:=List.mem_map.1 hxy;obtain⟨x,y⟩:=e;simp only[Prod.mk.injEq]at hee;obtain⟨rfl,rfl⟩:=hee;obtain⟨hx,hy⟩:x<n/\y<n:=hes _ he;have B0:Hid (Below w.heap.size w (W.alloc (.cells #[.int .i64 x,.int .i64 y] 128))):=hW.alloc hW.size _;have ci:W.cell? ⟨bi,0,none⟩=some (.int .i64 i):=(hW.cell (p:=⟨bi,0,none⟩) hbi).trans hci;have cm:W.cell? ⟨bm,0,none⟩=some (.slice (some ⟨g,0,none⟩) n n):=(hW.cell (p:=⟨bm,0,none⟩) hbm).trans hcm;have cx:W.cell? ⟨g,x,none⟩=some (.bool (Rk.met es i x)):=(hb.below hW hb.lt).cell x _ (by simp[hx]);have hz:=hW.size;have z1:bi<W.heap.size:=by omega
 have z2:bm<W.heap.size:=by omega
 have z3:g<W.heap.size:=by have:=hb.lt;omega
 have hx':(x:Int)<n:=by omega
 have HR:Hid (Rk.backB es i ((x:Int),(y:Int))=(decide ((y:Int)=i)&&Rk.met es i x)):=rfl;obtain⟨q,hq⟩:=pE (Rk.met es i x);rw[HR.out,hq];rw[hq]at cx;clear hW hb hci hcm hq HR hxy he hes
 by_cases hyi:y=i
 ·subst hyi
  go_enter Tryz.func131,Tryz.ntmps131
  go_wp2;go_ret;exact⟨by simp,B0.out⟩
 have hd:((y:Int)==(i:Int))=false:=by simp;omega
 have hd2:decide ((y:Int)=(i:Int))=false:=by simp;omega
 rw[hd2];clear hyi hd2
 go_enter Tryz.func131,Tryz.ntmps131
 go_wp2;go_ret;exact⟨by simp,B0.out⟩
theorem Tryz.goes_any (n i:Nat)(a:Option Addr)(c:Nat)(es:List (Nat×Nat))(w:World)(hn:n<=64)(hi:i<n)(hes:∀e,e∈es->e.1<n/\e.2<n)(hE:Rk.Eds w w.heap.size a (Rk.up es))(hm:es.length<=1000000000000000):
  Calls Tryz.prog 108 #[.int .i64 n,.slice a es.length c,.int .i64 i] w λe w'=>e=.returned (.bool (Rk.lead es i i))/\Below w.heap.size w w':=by
 have A0:Below w.heap.size w (w.alloc (.cells #[.int .i64 i] 3)):=(Below.refl _ w).alloc (Nat.le_refl _) _;have E0:=(hE.below A0).wider (B':=(w.alloc (.cells #[.int .i64 i] 3)).heap.size) (by simp);have H1:Hid _:=Tryz.mark_any n i a c es (w.alloc (.cells #[.int .i64 i] 3)) hn hi hes E0 hm;have HX:Hid (Below w.heap.size w (w.alloc (.cells #[.int .i64 i] 3))/\Rk.Eds (w.alloc (.cells #[.int .i64 i] 3)) (w.heap.size+1) a (Rk.up es)/\(∀e,e∈es->e.1<n/\e.2<n)/\es.length<=1000000000000000/\(Rk.up es).length=es.length):=⟨A0,by simpa using E0,hes,hm,Rk.up_length es⟩;obtain⟨q,hq⟩:=pE (Rk.lead es i i);have HQ:Hid (Rk.lead es i i=q):=hq;obtain⟨m,hmm⟩:=pE (es.length);rw[hq];rw[hmm]at H1 HX⊢;clear hE hes hm A0 E0 hq hmm
 go_enter Tryz.func108,Tryz.ntmps108
 go_wp2_with fail
 refine Calls.mono H1.out ?_;rintro e W1 ⟨rfl,hbits,hb⟩;have hs1:w.heap.size+1<W1.heap.size:=by have:=hbits.lt;simpa using this
 have B2:Below w.heap.size w (W1.alloc (.cells #[.slice (some ⟨w.heap.size+1,0,none⟩) n n] 151)):=(HX.out.1.trans (hb.mono (by simp))).alloc (by omega) _;have A2:Below W1.heap.size W1 (W1.alloc (.cells #[.slice (some ⟨w.heap.size+1,0,none⟩) n n] 151)):=(Below.refl _ W1).alloc (Nat.le_refl _) _
 have hci:(W1.alloc (.cells #[.slice (some ⟨w.heap.size+1,0,none⟩) n n] 151)).cell? ⟨w.heap.size,0,none⟩=some (.int .i64 i):=by
  rw[A2.cell (p:=⟨w.heap.size,0,none⟩) (by show w.heap.size<_;omega),hb.cell (p:=⟨w.heap.size,0,none⟩) (by simp)]
  simp
 have HP:=Rk.goes_pred w.heap.size W1.heap.size (w.heap.size+1) n i es (W1.alloc (.cells #[.slice (some ⟨w.heap.size+1,0,none⟩) n n] 151)) HX.out.2.2.1 (by simp;omega) (by simp) hci (by simp)
  (by simpa using hbits.below A2 (by simpa using hs1))
 have HE:=((HX.out.2.1.below (by simpa using hb)).below (A2.mono (by omega))).wider (B':=(W1.alloc (.cells #[.slice (some ⟨w.heap.size+1,0,none⟩) n n] 151)).heap.size) (by simp;omega);have hc:=Tryz.contains_any (Rk.backB es i) 131 #[.pointer (some ⟨w.heap.size,0,none⟩),.pointer (some ⟨W1.heap.size,0,none⟩)] Rk.enters_goes a c (Rk.up es) _ HP HE (by rw[HX.out.2.2.2.2];exact HX.out.2.2.2.1);rw[Rk.back_any,HQ.out,HX.out.2.2.2.2]at hc;have HC:Hid _:=hc;have HB2:Hid _:=B2;have HA2:Hid _:=A2;clear hbits hb B2 A2 hci HP HE hc H1 HX
 go_wp2_with fail
 refine Calls.mono HC.out ?_;rintro e W2 ⟨rfl,hb2⟩;have B3:Hid (Below w.heap.size w W2):=HB2.out.trans (hb2.mono (by simp;omega));clear hb2;go_wp2;go_ret;exact⟨rfl,B3.out⟩
theorem Rk.inB_iff (n i:Int):Rk.inB n i=true↔0<=i/\i<n:=by simp[Rk.inB]
theorem Rk.chk_ok {n:Int}{rs:List (Int×Int)}(h:Rk.chk n rs=0):∃(k:Nat) (es:List (Nat×Nat)),n=k/\k<=64/\rs=Rk.up es/\es.length<=256/\∀e,e∈es->e.1<k/\e.2<k:=by
 unfold Rk.chk at h
 split at h
 ·simp at h
 next h1=>
 split at h
 ·simp at h
 next h2=>
 split at h
 ·simp at h
 next h3=>
 obtain⟨k,rfl⟩:∃k:Nat,n=k:=⟨n.toNat,by omega⟩;rw[Bool.not_eq_true,List.any_eq_false]at h3
 have hr:∀e,e∈rs->0<=e.1/\e.1<k/\0<=e.2/\e.2<k:=by
  intro e he;have:=h3 e he;simp only[Rk.outB,Bool.or_eq_true,Bool.not_eq_true',not_or,Bool.not_eq_false,Rk.inB_iff]at this;exact⟨this.1.1,this.1.2,this.2.1,this.2.2⟩
 refine⟨k,rs.map λe=>(e.1.toNat,e.2.toNat),rfl,by omega, ?_,by simp;omega, ?_⟩
 ·rw[Rk.up,List.map_map]
  symm
  refine(List.map_congr_left (λe he=> ?_)).trans (List.map_id rs);have:=hr e he;obtain⟨x,y⟩:=e;simp only[Function.comp_apply,id_eq,Prod.mk.injEq];omega
 intro e he;obtain⟨x,hx,rfl⟩:=List.mem_map.1 he;have:=hr x hx;simp only;omega
def Gm.heldB (xs:List Int)(most:Int):Bool:=xs.all λx=>decide (0<=x)&&decide (x<=most)
theorem Tryz.upto_any (g off c:Nat)(xs:List Int)(most:Int)(W:World)(hx:∀j (h:j<xs.length),W.cell? ⟨g,off+j,none⟩=some (.int .i64 xs[j]))(hl:xs.length<=1000):
  Calls Tryz.prog 45 #[.int .i64 most,.slice (some ⟨g,off,none⟩) xs.length c] W λe w'=>e=.returned (.bool (Gm.heldB xs most))/\w'=W:=by
 obtain⟨n,hn⟩:=pE (xs.length);obtain⟨r,hr⟩:=pE (Gm.heldB xs most);rw[hn,hr];have HX:Hid (∀j (h:j<n),∃x,W.cell? ⟨g,off+j,none⟩=some (.int .i64 x)/\xs[j]? =some x):=λj h=>⟨_,hx j (by omega),List.getElem?_eq_getElem (by omega)⟩;have HR:Hid (xs.all (λx=>decide (0<=x)&&decide (x<=most))=r/\xs.length=n):=⟨hr,hn⟩;have hn1:n<=1000:=by omega
 clear hx hn hr hl
 go_enter Tryz.func45,Tryz.ntmps45
 go_wp2
 go_loopg [6,9] n (λgk _ s9 wr=>∃j:Nat,s9=.int .i64 j/\gk+j=n/\wr=W/\Hid ((xs.drop j).all (λx=>decide (0<=x)&&decide (x<=most))=r))
 case atStart=>exact⟨0,rfl,by omega,rfl,HR.out.1⟩
 case round=>
  obtain⟨j,rfl,hj,rfl,HJ⟩:=hrel
  by_cases hlt:j<n
  rotate_left
  ·obtain rfl:j=n:=by omega
   have hd:decide ((j:Int)<j)=false:=decide_eq_false (by omega);have HE:Hid (r=true):=by show _=_;rw[<-HJ.out,List.drop_eq_nil_of_le (by rw[HR.out.2];exact Nat.le_refl _)];rfl
   clear HJ;go_wp2;go_ret;exact⟨by rw[HE.out];rfl,rfl⟩
  have hd:decide ((j:Int)<n)=true:=decide_eq_true (by omega);obtain⟨x,hc,hxj⟩:=HX.out j hlt
  have hdr:xs.drop j=x::xs.drop (j+1):=by
   obtain⟨h1,h2⟩:=List.getElem?_eq_some_iff.1 hxj;rw[<-h2];exact List.drop_eq_getElem_cons h1
  have j1:(j:Int)<n:=by omega
  have j0:(0:Int)<=j:=by omega
  have HA:Hid ((decide (0<=x)&&decide (x<=most)&&(xs.drop (j+1)).all (λx=>decide (0<=x)&&decide (x<=most)))=r):=by
   have:=HJ.out;rw[hdr,List.all_cons]at this;exact this
  clear hdr hxj HJ
  by_cases hx0:x<0
  ·have e1:decide (x<0)=true:=decide_eq_true hx0
   have HE:Hid (r=false):=by show _=_;rw[<-HA.out,decide_eq_false (by omega:¬0<=x)];rfl
   clear HA hx0;go_wp2;go_ret;exact⟨by rw[HE.out];rfl,rfl⟩
  have e1:decide (x<0)=false:=decide_eq_false hx0
  by_cases hxm:most<x
  ·have e2:decide (most<x)=true:=decide_eq_true hxm
   have HE:Hid (r=false):=by show _=_;rw[<-HA.out,decide_eq_false (by omega:¬x<=most)];simp
   clear HA hx0 hxm;go_wp2;go_ret;exact⟨by rw[HE.out];rfl,rfl⟩
  have e2:decide (most<x)=false:=decide_eq_false hxm
  have HN:Hid ((xs.drop (j+1)).all (λx=>decide (0<=x)&&decide (x<=most))=r):=by
   show _=_;rw[<-HA.out,decide_eq_true (by omega:0<=x),decide_eq_true (by omega:x<=most)];simp
  clear HA hx0 hxm;go_wp2;go_roundg (gk-1)
  case measure=>omega
  case rel=>exact⟨j+1,by go_num,by omega,rfl,HN.out⟩
theorem Tryz.filled_any (g off:Nat)(xs:List Int)(m:Nat)(most:Int)(W:World)(hx:∀j (h:j<xs.length),W.cell? ⟨g,off+j,none⟩=some (.int .i64 xs[j]))(hl:xs.length<=1000)(hm:m<=xs.length):
  Calls Tryz.prog 34 #[.slice (some ⟨g,off,none⟩) xs.length xs.length,.int .i64 m,.int .i64 most] W λe w'=>e=.returned (.bool (Gm.heldB (xs.take m) most&&Gm.heldB (xs.drop m) 0))/\w'=W:=by
 have h1:=Tryz.upto_any g off xs.length (xs.take m) most W (λj hj=>by rw[List.getElem_take];exact hx j (by have:=List.length_take_le m xs;simp at hj;omega)) (by simp;omega);have h2:=Tryz.upto_any g (off+m) (xs.length-m) (xs.drop m) 0 W (λj hj=>by rw[List.getElem_drop];have:=hx (m+j) (by simp at hj;omega);rw[<-Nat.add_assoc]at this;exact this) (by simp;omega);have h3:=Tryz.upto_any g off 0 [] 0 W (λj hj=>by simp at hj) (by simp);obtain⟨r1,hr1⟩:=pE (Gm.heldB (xs.take m) most);obtain⟨r2,hr2⟩:=pE (Gm.heldB (xs.drop m) 0);have e1:(xs.take m).length=m:=by simp;omega
 have e2:(xs.drop m).length=xs.length-m:=by simp
 have e3:Gm.heldB [] 0=true:=rfl;rw[hr1,e1]at h1;rw[hr2,e2]at h2;rw[e3]at h3;rw[hr1,hr2];obtain⟨n,hn⟩:=pE (xs.length);rw[hn]at h1 h2 hm hl⊢;have m0:(0:Int)<=m:=by omega
 have m1:(m:Int)<=n:=by omega
 have H1:Hid _:=h1;have H2:Hid _:=h2;have H3:Hid _:=h3
 have HE:Hid (n=m->r2=true):=λe=>by
  show _=_;rw[<-hr2,List.drop_eq_nil_of_le (by omega)];rfl
 clear h1 h2 h3 hr1 hr2 e1 e2 e3 hx hn
 cases r1 with
 |false=>
  go_enter Tryz.func34,Tryz.ntmps34
  go_wp2_with fail
  refine Calls.mono H1.out ?_;rintro e W1 ⟨rfl,rfl⟩;go_wp2;go_ret;exact⟨rfl,rfl⟩
 |true=>
  by_cases hnm:n=m
  ·have:=HE.out hnm
   subst hnm;subst this;clear H2 HE
   go_enter Tryz.func34,Tryz.ntmps34
   go_wp2_with fail
   refine Calls.mono H1.out ?_;rintro e W1 ⟨rfl,rfl⟩
   go_wp2_with fail
   refine Calls.mono H3.out ?_;rintro e W1 ⟨rfl,rfl⟩;go_wp2;go_ret;exact⟨rfl,rfl⟩
  clear H3 HE
  go_enter Tryz.func34,Tryz.ntmps34
  go_wp2_with fail
  refine Calls.mono H1.out ?_;rintro e W1 ⟨rfl,rfl⟩
  go_wp2_with fail
  refine Calls.mono H2.out ?_;rintro e W1 ⟨rfl,rfl⟩;go_wp2;go_ret;exact⟨rfl,rfl⟩
end Go.Proofs
namespace Go.Proofs
open Go
theorem Nt.put_some (ts:List Value)(ds:List Deferred)(d:Tmp)(v:Value):Act.put ⟨ts.toArray,ds⟩ (some d) v=⟨(ts.set d v).toArray,ds⟩:=by
 simp[Act.put]
theorem Nt.takeS {P:Program}{md:Region.Mode}{ops:Array Oper}{Q:Exit->Act->World->Prop}{S:World->Prop}(i:Nat){oi:Oper}{v:Value}{fuel:Nat}{listed:Array Bool}{ts:List Value}{ds:List Deferred}{w:World}(d:Tmp)(hi:ops[i]? =some oi)(hd:oi.dst=some d)
  (hs:Region.noSelect ops=true) (hf:Region.free md ops listed i=true) (hr:(Region.ready md ops listed).contains i=true)
  (hQ:∀c a w,Q (.panic c) (a.put oi.dst v) w->Q (.panic c) a w) (hy:YieldsIf P ops S oi v ⟨ts.toArray,ds⟩) (hS:S w)
  (h:wpAnyH P md ops Q S fuel (listed.setIfInBounds i true) ⟨(ts.set d v).toArray,ds⟩ w):wpAnyH P md ops Q S (fuel+1) listed ⟨ts.toArray,ds⟩ w:=
 wpAnyH_take hi hs hf hr hQ hy hS (by rw[hd,Nt.put_some];exact h)
end Go.Proofs
namespace Go.Proofs
open Go.RowKit Go.Shelf
theorem Tryz.rIns_any (i:Int)(an:Option Addr)(n cn:Nat)(af:Option Addr)(cf d:Nat)(fs:List Fl)(w:World)(hF:Nt.Fls w w.heap.size d af fs)(hl:fs.length<=100):
  Calls Tryz.prog 121 #[.agg #[.slice an n cn,.slice af fs.length cf],.int .i64 i] w λe w'=>Nt.Gives (Nt.insL fs i) w e w':=by
 obtain⟨i0,hi,hz0,hz1,hz2⟩:=info_parts Tryz.infoIntR;obtain⟨w1,hw1⟩:=pE (w.alloc (.cells #[.slice an n cn,.slice af fs.length cf] 30));have A1:=pB hw1
 obtain⟨m,hm⟩:=pE (fs.length);obtain⟨lf,hlf⟩:=pE (Nt.insL fs i);rw[hm]at hl hw1;rw[hm,hlf];have HF:Hid (Nt.Fls w w.heap.size d af fs/\fs.length=m/\Nt.insL fs i=lf):=⟨hF,hm,hlf⟩;have H1:Hid (w.alloc (.cells #[.slice an n cn,.slice af m cf] 30)=w1):=hw1;have HA:Hid (Below w.heap.size w w1):=A1;clear hF hm hw1 A1 hlf
 go_enter Tryz.func121,Tryz.ntmps121
 go_wp2;rw[H1.out]
 go_loopg [5,11] m (λgk s5 s11 wr=>∃(k r:Nat) (L:List Nat),gk+k=m/\s11=.int .i64 k/\r<=k/\Hid (L=(List.range k).filter (λk=>decide ((fs[k]?.map Fl.to)=some i))/\L.length=r/\Below w.heap.size w wr)/\wr.ownsRow w.heap.size 3 1 s5 r (Rk.nums L))
 case atStart=>exact⟨0,0, [],by omega,rfl,Nat.le_refl _,⟨rfl,rfl,HA.out⟩,World.ownsRow_nil _ _ _ _⟩
 case round=>
  obtain⟨k,r,L,hk,rfl,hr,HB,hown⟩:=hrel;clear H1 HA;obtain⟨av,cv,rfl⟩:=Rk.own_shape hown
  by_cases hlt:k<m
  rotate_left
  ·have hd:decide ((k:Int)<m)=false:=decide_eq_false (by omega)
   go_wp2;go_ret;obtain rfl:k=m:=by omega
   have h1:=HB.out.1;rw[<-HF.out.2.1]at h1;have h2:lf=L:=by rw[<-HF.out.2.2,h1];rfl
   rw[h2];exact⟨_,rfl,by rw[HB.out.2.1];exact hown,HB.out.2.2⟩
  have hd:decide ((k:Int)<m)=true:=decide_eq_true (by omega);have hkl:k<fs.length:=by rw[HF.out.2.1];exact hlt
  obtain⟨q,off,u,rfl,hq,h0,h1,h2,h3,h4,h5,h6⟩:=HF.out.1 k hkl;obtain⟨au,cu,rfl⟩:=h6.shape;obtain⟨f,hf⟩:=pE (fs[k]);rw[hf]at h0 h1 h2 h3 h4 h5;obtain⟨nu,hnu⟩:=pE (f.c.ks.length);obtain⟨fr,hfr⟩:=pE (f.fr);obtain⟨tt,hto⟩:=pE (f.to);obtain⟨els,hel⟩:=pE (f.els);obtain⟨op,hop⟩:=pE (f.c.op);obtain⟨num,hnum⟩:=pE (f.c.num);rw[hnu]at h5;rw[hfr]at h0;rw[hto]at h1;rw[hel]at h2;rw[hop]at h3;rw[hnum]at h4;have hc:∀o,wr.cell? ⟨q,o,none⟩=w.cell? ⟨q,o,none⟩:=λo=>HB.out.2.2.cell (p:=⟨q,o,none⟩) hq;have c0:=(hc _).trans h0;have c1:=(hc _).trans h1;have c2:=(hc _).trans h2;have c3:=(hc _).trans h3;have c4:=(hc _).trans h4;have c5:=(hc _).trans h5;have hu:=Tryz.underlying78;obtain⟨W0,hW0⟩:=pE (wr.alloc (.cells #[.int .i64 fr,.int .i64 tt,.bool els,.int .i64 op,.int .i64 num,.slice au nu cu] 78));have own1:W0.ownsRow w.heap.size 3 1 (.slice av r cv) r (Rk.nums L):=by rw[<-hW0];exact hown.alloc _
  have B0:Hid (Below w.heap.size w W0):=by show Below _ _ _;rw[<-hW0];exact HB.out.2.2.alloc HB.out.2.2.size _
  have hs0:w.heap.size<=W0.heap.size:=B0.out.size;have HW0:Hid (wr.alloc (.cells #[.int .i64 fr,.int .i64 tt,.bool els,.int .i64 op,.int .i64 num,.slice au nu cu] 78)=W0):=hW0
  have HF2:Hid ((List.range (k+1)).filter (λk=>decide ((fs[k]?.map Fl.to)=some i))=L++if tt=i then [k]else []):=by
   show _=_;rw[List.range_succ,List.filter_append,<-HB.out.1]
   congr 1
   simp only[List.filter_cons,List.filter_nil,List.getElem?_eq_getElem hkl,hf,Option.map_some,hto,Option.some.injEq,decide_eq_true_eq]
  clear h0 h1 h2 h3 h4 h5 h6 hc hf hnu hfr hto hel hop hnum hq hown hW0
  by_cases hti:tt=i
  ·have e1:(tt==i)=true:=by simpa using hti
   rw[if_pos hti]at HF2;clear hti
   go_upto_region 6 with fail
   rw[HW0.out]
   go_wp2_with (at_builtin;refine wpList_append_own _ rfl _ _ 51 rfl w.heap.size 3 i0 (.int .i64 0) 1 8 Tryz.underlying51 hi hz0 hz1 hz2 rfl (by decide) _ _ _ rfl (own1.alloc _) ⟨W0.heap.size,0,none⟩ 1 1 [.int .i64 k] rfl rfl (Rk.one_cell W0 k 3) (Rk.one_one k) ?c3 ?c4 ?c5 ?_)
   case c3=>unfold maxLen;omega
   case c4=>omega
   case c5=>simp;omega
   intro v' W2 own2 g2 _;obtain⟨a2,c2',rfl⟩:=Rk.own_shape own2;have B2:Hid (W2.ownsRow w.heap.size 3 1 (.slice a2 (r+1) c2') (r+1) (Rk.nums (L++ [k]))/\Below w.heap.size w W2):=⟨by rw[Rk.nums_snoc];exact own2,Rk.below_grown (B0.out.alloc hs0 _) (by simp;omega) (own1.alloc _) g2⟩;clear own1 own2 g2 HW0;go_wp2;go_roundg (gk-1)
   case measure=>omega
   case rel=>exact⟨k+1,r+1,L++ [k],by omega,by go_num,by omega,⟨HF2.out.symm,by simp[HB.out.2.1],B2.out.2⟩,B2.out.1⟩
  have e1:(tt==i)=false:=by simpa using hti
  rw[if_neg hti,List.append_nil]at HF2;clear hti;go_wp2;rw[HW0.out];go_roundg (gk-1)
  case measure=>omega
  case rel=>exact⟨k+1,r,L,by omega,by go_num,by omega,⟨HF2.out.symm,HB.out.2.1,B0.out⟩,own1⟩
theorem Tryz.rOuts_any (i:Int)(an:Option Addr)(n cn:Nat)(af:Option Addr)(cf d:Nat)(fs:List Fl)(w:World)(hF:Nt.Fls w w.heap.size d af fs)(hl:fs.length<=100):
  Calls Tryz.prog 120 #[.agg #[.slice an n cn,.slice af fs.length cf],.int .i64 i] w λe w'=>Nt.Gives (Nt.outsL fs i) w e w':=by
 obtain⟨i0,hi,hz0,hz1,hz2⟩:=info_parts Tryz.infoIntR;obtain⟨w1,hw1⟩:=pE (w.alloc (.cells #[.slice an n cn,.slice af fs.length cf] 30));have A1:=pB hw1
 obtain⟨m,hm⟩:=pE (fs.length);obtain⟨lf,hlf⟩:=pE (Nt.outsL fs i);rw[hm]at hl hw1;rw[hm,hlf];have HF:Hid (Nt.Fls w w.heap.size d af fs/\fs.length=m/\Nt.outsL fs i=lf):=⟨hF,hm,hlf⟩;have H1:Hid (w.alloc (.cells #[.slice an n cn,.slice af m cf] 30)=w1):=hw1;have HA:Hid (Below w.heap.size w w1):=A1;clear hF hm hw1 A1 hlf
 go_enter Tryz.func120,Tryz.ntmps120
 go_wp2;rw[H1.out]
 go_loopg [5,11] m (λgk s5 s11 wr=>∃(k r:Nat) (L:List Nat),gk+k=m/\s11=.int .i64 k/\r<=k/\Hid (L=(List.range k).filter (λk=>decide ((fs[k]?.map Fl.fr)=some i))/\L.length=r/\Below w.heap.size w wr)/\wr.ownsRow w.heap.size 3 1 s5 r (Rk.nums L))
 case atStart=>exact⟨0,0, [],by omega,rfl,Nat.le_refl _,⟨rfl,rfl,HA.out⟩,World.ownsRow_nil _ _ _ _⟩
 case round=>
  obtain⟨k,r,L,hk,rfl,hr,HB,hown⟩:=hrel;clear H1 HA;obtain⟨av,cv,rfl⟩:=Rk.own_shape hown
  by_cases hlt:k<m
  rotate_left
  ·have hd:decide ((k:Int)<m)=false:=decide_eq_false (by omega)
   go_wp2;go_ret;obtain rfl:k=m:=by omega
   have h1:=HB.out.1;rw[<-HF.out.2.1]at h1;have h2:lf=L:=by rw[<-HF.out.2.2,h1];rfl
   rw[h2];exact⟨_,rfl,by rw[HB.out.2.1];exact hown,HB.out.2.2⟩
  have hd:decide ((k:Int)<m)=true:=decide_eq_true (by omega);have hkl:k<fs.length:=by rw[HF.out.2.1];exact hlt
  obtain⟨q,off,u,rfl,hq,h0,h1,h2,h3,h4,h5,h6⟩:=HF.out.1 k hkl;obtain⟨au,cu,rfl⟩:=h6.shape;obtain⟨f,hf⟩:=pE (fs[k]);rw[hf]at h0 h1 h2 h3 h4 h5;obtain⟨nu,hnu⟩:=pE (f.c.ks.length);obtain⟨fr,hfr⟩:=pE (f.fr);obtain⟨tt,hto⟩:=pE (f.to);obtain⟨els,hel⟩:=pE (f.els);obtain⟨op,hop⟩:=pE (f.c.op);obtain⟨num,hnum⟩:=pE (f.c.num);rw[hnu]at h5;rw[hfr]at h0;rw[hto]at h1;rw[hel]at h2;rw[hop]at h3;rw[hnum]at h4;have hc:∀o,wr.cell? ⟨q,o,none⟩=w.cell? ⟨q,o,none⟩:=λo=>HB.out.2.2.cell (p:=⟨q,o,none⟩) hq;have c0:=(hc _).trans h0;have c1:=(hc _).trans h1;have c2:=(hc _).trans h2;have c3:=(hc _).trans h3;have c4:=(hc _).trans h4;have c5:=(hc _).trans h5;have hu:=Tryz.underlying78;obtain⟨W0,hW0⟩:=pE (wr.alloc (.cells #[.int .i64 fr,.int .i64 tt,.bool els,.int .i64 op,.int .i64 num,.slice au nu cu] 78));have own1:W0.ownsRow w.heap.size 3 1 (.slice av r cv) r (Rk.nums L):=by rw[<-hW0];exact hown.alloc _
  have B0:Hid (Below w.heap.size w W0):=by show Below _ _ _;rw[<-hW0];exact HB.out.2.2.alloc HB.out.2.2.size _
  have hs0:w.heap.size<=W0.heap.size:=B0.out.size;have HW0:Hid (wr.alloc (.cells #[.int .i64 fr,.int .i64 tt,.bool els,.int .i64 op,.int .i64 num,.slice au nu cu] 78)=W0):=hW0
  have HF2:Hid ((List.range (k+1)).filter (λk=>decide ((fs[k]?.map Fl.fr)=some i))=L++if fr=i then [k]else []):=by
   show _=_;rw[List.range_succ,List.filter_append,<-HB.out.1]
   congr 1
   simp only[List.filter_cons,List.filter_nil,List.getElem?_eq_getElem hkl,hf,Option.map_some,hfr,Option.some.injEq,decide_eq_true_eq]
  clear h0 h1 h2 h3 h4 h5 h6 hc hf hnu hfr hto hel hop hnum hq hown hW0
  by_cases hti:fr=i
  ·have e1:(fr==i)=true:=by simpa using hti
   rw[if_pos hti]at HF2;clear hti
   go_upto_region 6 with fail
   rw[HW0.out]
   go_wp2_with (at_builtin;refine wpList_append_own _ rfl _ _ 51 rfl w.heap.size 3 i0 (.int .i64 0) 1 8 Tryz.underlying51 hi hz0 hz1 hz2 rfl (by decide) _ _ _ rfl (own1.alloc _) ⟨W0.heap.size,0,none⟩ 1 1 [.int .i64 k] rfl rfl (Rk.one_cell W0 k 3) (Rk.one_one k) ?c3 ?c4 ?c5 ?_)
   case c3=>unfold maxLen;omega
   case c4=>omega
   case c5=>simp;omega
   intro v' W2 own2 g2 _;obtain⟨a2,c2',rfl⟩:=Rk.own_shape own2;have B2:Hid (W2.ownsRow w.heap.size 3 1 (.slice a2 (r+1) c2') (r+1) (Rk.nums (L++ [k]))/\Below w.heap.size w W2):=⟨by rw[Rk.nums_snoc];exact own2,Rk.below_grown (B0.out.alloc hs0 _) (by simp;omega) (own1.alloc _) g2⟩;clear own1 own2 g2 HW0;go_wp2;go_roundg (gk-1)
   case measure=>omega
   case rel=>exact⟨k+1,r+1,L++ [k],by omega,by go_num,by omega,⟨HF2.out.symm,by simp[HB.out.2.1],B2.out.2⟩,B2.out.1⟩
  have e1:(fr==i)=false:=by simpa using hti
  rw[if_neg hti,List.append_nil]at HF2;clear hti;go_wp2;rw[HW0.out];go_roundg (gk-1)
  case measure=>omega
  case rel=>exact⟨k+1,r,L,by omega,by go_num,by omega,⟨HF2.out.symm,HB.out.2.1,B0.out⟩,own1⟩
end Go.Proofs
