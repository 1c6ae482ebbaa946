import Derived.Test.YtenaelpdnccgnaaGreatDoorQRkModel
import Derived.Deep.AppendLies
import Derived.Deep.OwnRows
import Derived.WalkMore
import Derived.Lib.Hide
import Derived.Deep.RegionLaw
import Derived.Lib.AppendStr
import Derived.Laws.AppendOwn
set_option maxRecDepth 100000
set_option maxHeartbeats 32000000
namespace Go.Proofs
open Go.RowKit
inductive Ac where
 |mk (kind node a b:Int) (t:Tm) (cs:List Tm) (ks:List Ac) (ls:List (Int×Int)) (ns:List Nd) (fs:List Fl)
namespace Ac
def kind:Ac->Int|mk k _ _ _ _ _ _ _ _ _=>k
def node:Ac->Int|mk _ n _ _ _ _ _ _ _ _=>n
def a:Ac->Int|mk _ _ a _ _ _ _ _ _ _=>a
def b:Ac->Int|mk _ _ _ b _ _ _ _ _ _=>b
def t:Ac->Tm|mk _ _ _ _ t _ _ _ _ _=>t
def cs:Ac->List Tm|mk _ _ _ _ _ c _ _ _ _=>c
def ks:Ac->List Ac|mk _ _ _ _ _ _ k _ _ _=>k
def ls:Ac->List (Int×Int)|mk _ _ _ _ _ _ _ l _ _=>l
def ns:Ac->List Nd|mk _ _ _ _ _ _ _ _ n _=>n
def fs:Ac->List Fl|mk _ _ _ _ _ _ _ _ _ f=>f
mutual
def size:Ac->Nat|mk _ _ _ _ _ _ ks _ _ _=>sizes ks+1
def sizes:List Ac->Nat| []=>0|k::r=>size k+sizes r
end
mutual
def depth:Ac->Nat|mk _ _ _ _ _ _ ks _ _ _=>depths ks+1
def depths:List Ac->Nat| []=>0|k::r=>max (depth k) (depths r)
end
mutual
def go {St:Type}(step:Ac->St->Bool×St):Ac->St->Bool×St
 | .mk k n a b t c ks l x y,s=>if(step (.mk k n a b t c ks l x y) s).1=true then goes step ks (step (.mk k n a b t c ks l x y) s).2 else(false,(step (.mk k n a b t c ks l x y) s).2)
def goes {St:Type}(step:Ac->St->Bool×St):List Ac->St->Bool×St
 | [],s=>(true,s)
 |k::r,s=>if(go step k s).1=true then goes step r (go step k s).2 else(false,(go step k s).2)
end
mutual
def All (P:Ac->Prop):Ac->Prop| .mk k n a b t c ks l x y=>P (.mk k n a b t c ks l x y)/\Alls P ks
def Alls (P:Ac->Prop):List Ac->Prop| []=>True|k::r=>All P k/\Alls P r
end
mutual
def allP (p:Ac->Bool):Ac->Bool|mk k n a b t c ks l x y=>p (mk k n a b t c ks l x y)&&allPs p ks
def allPs (p:Ac->Bool):List Ac->Bool| []=>true|k::r=>allP p k&&allPs p r
end
theorem take_snoc {α:Type}(l:List α)(k:Nat)(h:k<l.length):l.take (k+1)=l.take k++ [l[k]]:=Tm.take_snoc l k h
theorem sizes_snoc (l:List Ac)(a:Ac):sizes (l++ [a])=sizes l+a.size:=by
 induction l with
 |nil=>simp[sizes]
 |cons k r ih=>simp only[List.cons_append,sizes,ih];omega
theorem depths_snoc (l:List Ac)(a:Ac):depths (l++ [a])=max (depths l) a.depth:=by
 induction l with
 |nil=>simp[depths]
 |cons k r ih=>simp only[List.cons_append,depths,ih];omega
theorem sizes_take (l:List Ac)(k:Nat)(h:k<l.length):sizes (l.take (k+1))=sizes (l.take k)+l[k].size:=by rw[take_snoc l k h,sizes_snoc]
theorem depths_take (l:List Ac)(k:Nat)(h:k<l.length):depths (l.take (k+1))=max (depths (l.take k)) l[k].depth:=by rw[take_snoc l k h,depths_snoc]
theorem sizes_le (l:List Ac):∀k,sizes (l.take k)<=sizes l:=by
 induction l with
 |nil=>intro k;simp
 |cons x r ih=>
  intro k
  cases k with
  |zero=>simp[sizes]
  |succ k=>simp only[List.take_succ_cons,sizes];have:=ih k;omega
theorem depths_get (l:List Ac):∀k (h:k<l.length),l[k].depth<=depths l:=by
 induction l with
 |nil=>intro k h;simp at h
 |cons x r ih=>
  intro k h
  cases k with
  |zero=>simp only[List.getElem_cons_zero,depths];omega
  |succ k=>simp only[List.getElem_cons_succ,depths];have:=ih k (by simpa using h);omega
theorem size_pos (T:Ac):1<=T.size:=by cases T;simp[size]
theorem sizes_get (l:List Ac)(k:Nat)(h:k<l.length):sizes (l.take k)+l[k].size<=sizes l:=by rw[<-sizes_take l k h];exact sizes_le _ _
theorem length_le_sizes (l:List Ac):l.length<=sizes l:=by
 induction l with
 |nil=>simp
 |cons k r ih=>simp only[List.length_cons,sizes];have:=k.size_pos;omega
theorem size_eq (T:Ac):T.size=sizes T.ks+1:=by cases T;rfl
theorem depth_eq (T:Ac):T.depth=depths T.ks+1:=by cases T;rfl
mutual
theorem depth_le_size:∀T:Ac,T.depth<=T.size
 |mk _ _ _ _ _ _ ks _ _ _=>by rw[depth,size];have:=depths_le_sizes ks;omega
theorem depths_le_sizes:∀l:List Ac,depths l<=sizes l
 | []=>by simp[depths,sizes]
 |k::r=>by rw[depths,sizes];have:=depth_le_size k;have:=depths_le_sizes r;omega
end
theorem go_eq {St:Type}(step:Ac->St->Bool×St)(T:Ac)(s:St):T.go step s=if(step T s).1=true then goes step T.ks (step T s).2 else(false,(step T s).2):=by cases T;rfl
theorem all_eq (P:Ac->Prop)(T:Ac):T.All P=(P T/\Alls P T.ks):=by cases T;rfl
theorem alls_get {P:Ac->Prop} :∀{l:List Ac},Alls P l->∀k (h:k<l.length),l[k].All P
 | [],_,k,h=>by simp at h
 |x::r,hl,k,h=>by
  cases k with
  |zero=>exact hl.1
  |succ k=>exact alls_get hl.2 k (by simpa using h)
theorem goes_snoc {St : Type} (step : Ac -> St -> Bool × St) (x : Ac) : ∀ (l : List Ac) (s : St), goes step (l ++ [x]) s = if (goes step l s).1 = true then x.go step (goes step l s).2 else (false, (goes step l s).2)
  | [], s => by
    simp only [List.nil_append, goes, if_true]
    split
    · rename_i h; rw [<- h]
    rename_i h; rw [<- Bool.eq_false_iff.2 h]
  | k :: r, s => by
    rw [List.cons_append, goes, goes]
    split
    · exact goes_snoc step x r _
    simp
theorem goes_stop {St:Type}(step:Ac->St->Bool×St):∀(a b:List Ac) (s s':St),goes step a s=(false,s')->goes step (a++b) s=(false,s')
 | [],b,s,s',h=>by simp[goes]at h
 |k::r,b,s,s',h=>by
  rw[goes]at h;rw[List.cons_append,goes]
  split
  ·rename_i hk;rw[if_pos hk]at h;exact goes_stop step r b _ _ h
  rename_i hk;rw[if_neg hk]at h;exact h
def Tms (w:World)(B d:Nat)(a:Option Addr)(cs:List Tm):Prop:=∀j (h:j<cs.length),∃g off u,a=some ⟨g,off,none⟩/\g<B/\w.cell? ⟨g,off+j*3,none⟩=some (.int .i64 cs[j].op)/\w.cell? ⟨g,off+j*3+1,none⟩=some (.int .i64 cs[j].num)/\w.cell? ⟨g,off+j*3+2,none⟩=some u/\Tm.Lies w B d u cs[j]
def Lks (w:World)(B:Nat)(a:Option Addr)(ls:List (Int×Int)):Prop:=∀j (h:j<ls.length),∃g off,a=some ⟨g,off,none⟩/\g<B/\w.cell? ⟨g,off+j*2,none⟩=some (.int .i64 ls[j].1)/\w.cell? ⟨g,off+j*2+1,none⟩=some (.int .i64 ls[j].2)
theorem Tms.keep {w w':World}{B d:Nat}{a:Option Addr}{cs:List Tm}(h:Tms w B d a cs)(hk:∀k,k<B->w'.heap[k]? =w.heap[k]?):Tms w' B d a cs:=λj hj=>by
 obtain⟨g,off,u,h1,h2,c0,c1,c2,h3⟩:=h j hj;have hc:∀o,w'.cell? ⟨g,o,none⟩=w.cell? ⟨g,o,none⟩:=λo=>World.cell?_of_block (w:=w) (hk g h2);exact⟨g,off,u,h1,h2,by rw[hc];exact c0,by rw[hc];exact c1,by rw[hc];exact c2,h3.keep hk⟩
theorem Lks.keep {w w':World}{B:Nat}{a:Option Addr}{ls:List (Int×Int)}(h:Lks w B a ls)(hk:∀k,k<B->w'.heap[k]? =w.heap[k]?):Lks w' B a ls:=λj hj=>by
 obtain⟨g,off,h1,h2,c0,c1⟩:=h j hj;have hc:∀o,w'.cell? ⟨g,o,none⟩=w.cell? ⟨g,o,none⟩:=λo=>World.cell?_of_block (w:=w) (hk g h2);exact⟨g,off,h1,h2,by rw[hc];exact c0,by rw[hc];exact c1⟩
theorem Tms.wider {w:World}{B B' d:Nat}{a:Option Addr}{cs:List Tm}(h:Tms w B d a cs)(hB:B<=B'):Tms w B' d a cs:=λj hj=>by
 obtain⟨g,off,u,h1,h2,c0,c1,c2,h3⟩:=h j hj;exact⟨g,off,u,h1,by omega,c0,c1,c2,h3.wider hB⟩
theorem Lks.wider {w:World}{B B':Nat}{a:Option Addr}{ls:List (Int×Int)}(h:Lks w B a ls)(hB:B<=B'):Lks w B' a ls:=λj hj=>by
 obtain⟨g,off,h1,h2,h3⟩:=h j hj;exact⟨g,off,h1,by omega,h3⟩
theorem nds_keep {w w':World}{B d:Nat}{a:Option Addr}{ns:List Nd}(h:Nt.Nds w B d a ns)(hk:∀k,k<B->w'.heap[k]? =w.heap[k]?):Nt.Nds w' B d a ns:=λj hj=>by
 obtain⟨g,off,u,h1,h2,c0,c1,c2,c3,c4,h3⟩:=h j hj;have hc:∀o,w'.cell? ⟨g,o,none⟩=w.cell? ⟨g,o,none⟩:=λo=>World.cell?_of_block (w:=w) (hk g h2);exact⟨g,off,u,h1,h2,by rw[hc];exact c0,by rw[hc];exact c1,by rw[hc];exact c2,by rw[hc];exact c3,by rw[hc];exact c4,h3.keep hk⟩
theorem fls_keep {w w':World}{B d:Nat}{a:Option Addr}{fs:List Fl}(h:Nt.Fls w B d a fs)(hk:∀k,k<B->w'.heap[k]? =w.heap[k]?):Nt.Fls w' B d a fs:=λj hj=>by
 obtain⟨g,off,u,h1,h2,c0,c1,c2,c3,c4,c5,h3⟩:=h j hj;have hc:∀o,w'.cell? ⟨g,o,none⟩=w.cell? ⟨g,o,none⟩:=λo=>World.cell?_of_block (w:=w) (hk g h2);exact⟨g,off,u,h1,h2,by rw[hc];exact c0,by rw[hc];exact c1,by rw[hc];exact c2,by rw[hc];exact c3,by rw[hc];exact c4,by rw[hc];exact c5,h3.keep hk⟩
structure Vs where
 t:Value
 c:Value
 k:Value
 l:Value
 n:Value
 f:Value
def row (T:Ac)(V:Vs):Array Value:=#[.int .i64 T.kind,.int .i64 T.node,.int .i64 T.a,.int .i64 T.b,.int .i64 T.t.op,.int .i64 T.t.num,V.t,V.c,V.k,V.l,V.n,V.f]
structure Own (w:World)(B e:Nat)(V:Vs)(T:Ac):Prop where
 t:Tm.Lies w B e V.t T.t
 c:∃a cap,V.c=.slice a T.cs.length cap/\Tms w B e a T.cs
 l:∃a cap,V.l=.slice a T.ls.length cap/\Lks w B a T.ls
 n:∃a cap,V.n=.slice a T.ns.length cap/\Nt.Nds w B e a T.ns
 f:∃a cap,V.f=.slice a T.fs.length cap/\Nt.Fls w B e a T.fs
theorem Own.keep {w w':World}{B e:Nat}{V:Vs}{T:Ac}(h:Own w B e V T)(hk:∀k,k<B->w'.heap[k]? =w.heap[k]?):Own w' B e V T:=by
 obtain⟨h1,⟨a2,c2,e2,h2⟩,⟨a3,c3,e3,h3⟩,⟨a4,c4,e4,h4⟩,⟨a5,c5,e5,h5⟩⟩:=h;exact⟨h1.keep hk,⟨a2,c2,e2,h2.keep hk⟩,⟨a3,c3,e3,h3.keep hk⟩,⟨a4,c4,e4,nds_keep h4 hk⟩,⟨a5,c5,e5,fls_keep h5 hk⟩⟩
theorem Own.wider {w:World}{B B' e:Nat}{V:Vs}{T:Ac}(h:Own w B e V T)(hB:B<=B'):Own w B' e V T:=by
 obtain⟨h1,⟨a2,c2,e2,h2⟩,⟨a3,c3,e3,h3⟩,⟨a4,c4,e4,h4⟩,⟨a5,c5,e5,h5⟩⟩:=h;exact⟨h1.wider hB,⟨a2,c2,e2,h2.wider hB⟩,⟨a3,c3,e3,h3.wider hB⟩,⟨a4,c4,e4,h4.wider hB⟩,⟨a5,c5,e5,h5.wider hB⟩⟩
def Row (w:World)(g o:Nat)(cs:Array Value):Prop:=∀i (h:i<cs.size),w.cell? ⟨g,o+i,none⟩=some cs[i]
theorem Row.keep {w w':World}{g o:Nat}{cs:Array Value}(h:Row w g o cs)(hk:w'.heap[g]? =w.heap[g]?):Row w' g o cs:=λi hi=>by
 rw[World.cell?_of_block (w:=w) hk];exact h i hi
def Lies (w:World)(B e:Nat):Nat->Vs->Ac->Prop
 |0,_,_=>False
 |d+1,V,T=>Own w B e V T/\∃a cap,V.k=.slice a T.ks.length cap/\∀j (h:j<T.ks.length),∃g off U,a=some ⟨g,off,none⟩/\g<B/\Row w g (off+j*12) (row T.ks[j] U)/\Lies w B e d U T.ks[j]
theorem Lies.keep {w w':World}{B e:Nat}(hk:∀k,k<B->w'.heap[k]? =w.heap[k]?):∀{d:Nat} {V:Vs} {T:Ac},Lies w B e d V T->Lies w' B e d V T
 |0,_,_,h=>h.elim
 |d+1,V,T,h=>by
  obtain⟨ho,a,cap,hv,h⟩:=h;refine⟨ho.keep hk,a,cap,hv,λj hj=> ?_⟩;obtain⟨g,off,U,ha,hg,hr,h1⟩:=h j hj;exact⟨g,off,U,ha,hg,hr.keep (hk g hg),Lies.keep hk h1⟩
theorem Lies.below {w w':World}{B e:Nat}(hb:Below B w w'){d:Nat}{V:Vs}{T:Ac}(h:Lies w B e d V T):Lies w' B e d V T:=h.keep hb.block
theorem Lies.wider {w:World}{B B' e:Nat}(hB:B<=B'):∀{d:Nat} {V:Vs} {T:Ac},Lies w B e d V T->Lies w B' e d V T
 |0,_,_,h=>h.elim
 |d+1,V,T,h=>by
  obtain⟨ho,a,cap,hv,h⟩:=h;refine⟨ho.wider hB,a,cap,hv,λj hj=> ?_⟩;obtain⟨g,off,U,ha,hg,hr,h1⟩:=h j hj;exact⟨g,off,U,ha,by omega,hr,Lies.wider hB h1⟩
theorem Lies.own {w:World}{B e d:Nat}{V:Vs}{T:Ac}(h:Lies w B e d V T):Own w B e V T:=by
 cases d with
 |zero=>exact h.elim
 |succ d=>exact h.1
theorem Lies.kids {w:World}{B e d:Nat}{V:Vs}{T:Ac}(h:Lies w B e d V T):∃a cap,V.k=.slice a T.ks.length cap:=by
 cases d with
 |zero=>exact h.elim
 |succ d=>obtain⟨_,a,cap,hv,_⟩:=h;exact⟨a,cap,hv⟩
theorem Lies.shape {w:World}{B e d:Nat}{V:Vs}{T:Ac}(h:Lies w B e d V T):∃a6 c6 a7 c7 a8 c8 a9 c9 a10 c10 a11 c11,V=⟨.slice a6 T.t.ks.length c6,.slice a7 T.cs.length c7,.slice a8 T.ks.length c8,.slice a9 T.ls.length c9,.slice a10 T.ns.length c10,.slice a11 T.fs.length c11⟩:=by
 obtain⟨a6,c6,e6⟩:=h.own.t.shape;obtain⟨a7,c7,e7,_⟩:=h.own.c;obtain⟨a8,c8,e8⟩:=h.kids;obtain⟨a9,c9,e9,_⟩:=h.own.l;obtain⟨a10,c10,e10,_⟩:=h.own.n;obtain⟨a11,c11,e11,_⟩:=h.own.f;refine⟨a6,c6,a7,c7,a8,c8,a9,c9,a10,c10,a11,c11, ?_⟩
 cases V
 simp only at e6 e7 e8 e9 e10 e11;rw[e6,e7,e8,e9,e10,e11]
theorem Lies.ones {w:World}{B e d:Nat}{V:Vs}{T:Ac}(h:Lies w B e d V T):(row T V).all (·.oneCell')=true:=by
 obtain⟨a6,c6,a7,c7,a8,c8,a9,c9,a10,c10,a11,c11,rfl⟩:=h.shape;simp[row,Value.oneCell']
theorem Lies.kid {w:World}{B e d:Nat}{V:Vs}{a:Option Addr}{n cap:Nat}{T:Ac}(h:Lies w B e (d+1) V T)(hv:V.k=.slice a n cap)(j:Nat)(hj:j<T.ks.length):∃g off U,a=some ⟨g,off,none⟩/\g<B/\Row w g (off+j*12) (row T.ks[j] U)/\Lies w B e d U T.ks[j]:=by
 obtain⟨_,a',cap',hv',h⟩:=h;rw[hv]at hv';obtain⟨rfl,_,_⟩:=Value.slice.inj hv';exact h j hj
end Ac
end Go.Proofs
namespace Go.Proofs
open Go.RowKit Go.Shelf
theorem Tryz.infoIntR:(Tryz.prog.info? 3).map (λi=>(i.zero,i.size,i.bytes))=some (some (.int .i64 0),1,8):=by kernel_rfl
def Rk.nums (l:List Nat):List Value:=l.map λi:Nat=>Value.int .i64 (i:Int)
theorem Rk.nums_snoc (l:List Nat)(i:Nat):Rk.nums (l++ [i])=Rk.nums l++ [.int .i64 (i:Int)]:=by simp[Rk.nums]
theorem Rk.own_shape {w:World}{B:Nat}{e:TypeId}{size:Nat}{v:Value}{n:Nat}{cs:List Value}(h:w.ownsRow B e size v n cs):∃a c,v=.slice a n c:=by
 rcases h.2 with⟨rfl,rfl⟩|⟨g,cap,cur,rfl,_⟩
 ·exact⟨none,0,rfl⟩
 exact⟨_,_,rfl⟩
theorem Rk.own_below {w w':World}{B:Nat}{e:TypeId}{size:Nat}{v:Value}{n:Nat}{cs:List Value}(h:w.ownsRow B e size v n cs)(hb:Below w.heap.size w w'):w'.ownsRow B e size v n cs:=by
 rcases h with⟨hl,h|⟨g,cap,cur,rfl,hB,hg,h4⟩⟩
 ·exact⟨hl,.inl h⟩
 exact⟨hl,.inr ⟨g,cap,cur,rfl,hB,by rw[hb.block g (Array.getElem?_eq_some_iff.1 hg).1];exact hg,h4⟩⟩
theorem Rk.below_grown {B:Nat}{a w w':World}{v:Value}{e:TypeId}{size n:Nat}{cs:List Value}(h:Below B a w)(hB:B<=w.heap.size)(ho:w.ownsRow B e size v n cs)(hg:w.grownBy w' v.ownBlock):Below B a w':=
 h.trans ⟨hg.os,hg.tape,hg.output,hg.size,λj hj=>hg.block j (by omega) (by
  intro he
  rcases ho.2 with⟨rfl,_⟩|⟨g,cap,cur,rfl,h1,_⟩
  ·simp[Value.ownBlock]at he
  simp[Value.ownBlock]at he
  omega)⟩
theorem Rk.one_cell (w:World)(i:Int)(t:TypeId):∀j u, [Value.int .i64 i][j]? =some u->(w.alloc (.cells #[.int .i64 i] t)).cell? ((⟨w.heap.size,0,none⟩:Addr).add j)=some u:=by
 intro j u hj
 match j,hj with
 |0,hj=>simp at hj;subst hj;simp[Addr.add]
theorem Rk.one_one (i:Int):∀u∈ [Value.int .i64 i],u.oneCell'=true:=by intro u hu;simp at hu;subst hu;rfl
def Rk.Hold (g:Nat)(lb:Array Value)(p:Nat->Bool)(n:Nat)(w:World):Prop:=
 ∀(W:World) (i:Nat),i<n->Below w.heap.size w W->Calls Tryz.prog g (#[.int .i64 (i:Int)]++lb) W λe w'=>e=.returned (.bool (p i))/\Below W.heap.size W w'
theorem Tryz.places_any (p:Nat->Bool)(g:Nat)(lb:Array Value)(eg:∀args w,(callFunc g args).run Tryz.prog w=.ok (.enter g args) w)(n:Nat)(w:World)(hp:Rk.Hold g lb p n w)(hn:n<=1000):
  Calls Tryz.prog 125 #[.int .i64 n,.func (.func g) #[] lb] w λe w'=>∃v,e=.returned v/\w'.ownsRow w.heap.size 3 1 v ((List.range n).filter p).length (Rk.nums ((List.range n).filter p))/\Below w.heap.size w w':=by
 obtain⟨i0,hi,hz0,hz1,hz2⟩:=info_parts Tryz.infoIntR;have HP:Hid _:=hp;clear hp
 go_enter Tryz.func125,Tryz.ntmps125
 go_wp2
 go_loopg [5,8] n (λgk s5 s8 wr=>∃(k r:Nat) (L:List Nat),gk+k=n/\s8=.int .i64 k/\r<=k/\Hid (L=(List.range k).filter p/\L.length=r/\Below w.heap.size w wr)/\wr.ownsRow w.heap.size 3 1 s5 r (Rk.nums L))
 case atStart=>exact⟨0,0, [],by omega,rfl,Nat.le_refl _,⟨rfl,rfl,Below.refl _ w⟩,World.ownsRow_nil _ _ _ _⟩
 case round=>
  obtain⟨k,r,L,hk,rfl,hr,HB,hown⟩:=hrel;obtain⟨av,cv,rfl⟩:=Rk.own_shape hown
  by_cases hlt:k<n
  rotate_left
  ·have hd:decide ((k:Int)<n)=false:=decide_eq_false (by omega)
   go_wp2;go_ret;obtain rfl:k=n:=by omega
   rw[<-HB.out.1,HB.out.2.1];exact⟨_,rfl,hown,HB.out.2.2⟩
  have hd:decide ((k:Int)<n)=true:=decide_eq_true (by omega);have hcall:=HP.out wr k hlt HB.out.2.2
  have HF:Hid ((List.range (k+1)).filter p=L++if p k=true then [k]else []):=by
   show _=_;rw[List.range_succ,List.filter_append,<-HB.out.1]
   cases hq:p k<;>simp[hq]
  cases hq:p k with
  |false=>
   rw[hq]at hcall HF;clear hq
   go_wp2_with (go_at_fn g;refine hcall.mono ?_;rintro e w1 ⟨rfl,hb⟩)
   go_roundg (gk-1)
   case measure=>omega
   case rel=>
    refine⟨k+1,r,L,by omega,by go_num,by omega,⟨?_,HB.out.2.1,HB.out.2.2.trans (hb.mono HB.out.2.2.size)⟩,Rk.own_below hown hb⟩;rw[HF.out];simp
  |true=>
   rw[hq]at hcall HF;clear hq
   go_wp2_with (first
    |(go_at_fn g;refine hcall.mono ?_;rintro e W1 ⟨rfl,hb⟩;have own1:=Rk.own_below hown hb;have B1:Hid (Below w.heap.size w W1):=HB.out.2.2.trans (hb.mono HB.out.2.2.size);have hs1:w.heap.size<=W1.heap.size:=B1.out.size;clear hb hown hcall)
    |(at_builtin;refine wpList_append_own _ rfl _ _ 111 rfl w.heap.size 3 i0 (.int .i64 0) 1 8 Tryz.underlying111 hi hz0 hz1 hz2 rfl (by decide) _ _ _ rfl (own1.alloc _) ⟨W1.heap.size,0,none⟩ 1 1 [.int .i64 k] rfl rfl (Rk.one_cell W1 k 3) (Rk.one_one k) ?c3 ?c4 ?c5 ?_))
   case c3=>unfold maxLen;omega
   case c4=>omega
   case c5=>simp;omega
   intro v' W2 own2 g2 _;obtain⟨a2,c2,rfl⟩:=Rk.own_shape own2;go_wp2;go_roundg (gk-1)
   case measure=>omega
   case rel=>
    refine⟨k+1,r+1,L++ [k],by omega,by go_num,by omega,⟨?_,by simp[HB.out.2.1],Rk.below_grown (B1.out.alloc hs1 _) (by simp;omega) (own1.alloc _) g2⟩, ?_⟩
    ·rw[HF.out];simp
    rw[Rk.nums_snoc];exact own2
theorem Nt.add_block (a:Addr)(j:Nat):(a.add j).block=a.block:=by cases j<;>simp[Addr.add]
theorem Tryz.cloneNode_nil (w:World)(c:Nat):
  Calls Tryz.prog 83 #[.slice none 0 c] w λe w'=>e=.returned (.slice none 0 0)/\w'=w:=by
 have hq:∀W:World,(binOp BinOp.eql 27 (.slice none 0 c) (.slice none 0 0)).run Tryz.prog W=.ok (.bool true) W:=λ_=>by kernel_rfl
 go_enter Tryz.func83,Tryz.ntmps83
 go_wp2;go_ret;exact⟨rfl,rfl⟩
theorem Tryz.cloneFlow_nil (w:World)(c:Nat):
  Calls Tryz.prog 84 #[.slice none 0 c] w λe w'=>e=.returned (.slice none 0 0)/\w'=w:=by
 have hq:∀W:World,(binOp BinOp.eql 28 (.slice none 0 c) (.slice none 0 0)).run Tryz.prog W=.ok (.bool true) W:=λ_=>by kernel_rfl
 go_enter Tryz.func84,Tryz.ntmps84
 go_wp2;go_ret;exact⟨rfl,rfl⟩
theorem Tryz.cloneTerm_nil (w:World)(c:Nat):
  Calls Tryz.prog 80 #[.slice none 0 c] w λe w'=>e=.returned (.slice none 0 0)/\w'=w:=by
 have hq:∀W:World,(binOp BinOp.eql 22 (.slice none 0 c) (.slice none 0 0)).run Tryz.prog W=.ok (.bool true) W:=λ_=>by kernel_rfl
 go_enter Tryz.func80,Tryz.ntmps80
 go_wp2;go_ret;exact⟨rfl,rfl⟩
def Rk.inB (n i:Int):Bool:=decide (0<=i)&&decide (i<n)
def Rk.outB (n:Int)(x:Int×Int):Bool:= !Rk.inB n x.1|| !Rk.inB n x.2
def Rk.chk (n:Int)(es:List (Int×Int)):Int:=if n<0∨64<n then 1 else if 256<es.length then 2 else if es.any (Rk.outB n)=true then 4 else 0
theorem Rk.enters_check:∀args w,(callFunc 121 args).run Tryz.prog w=.ok (.enter 121 args) w:=enters_of Tryz.func121 (by kernel_rfl) rfl
theorem Rk.check_pred (n:Int)(b:Nat)(es:List (Int×Int))(w:World)(hb:b<w.heap.size)(hc:w.cell? ⟨b,0,none⟩=some (.int .i64 n)):Rk.Pred 121 #[.pointer (some ⟨b,0,none⟩)] (Rk.outB n) es w:=by
 intro W x y _ hW;show Calls Tryz.prog 121 #[.agg #[.int .i64 x,.int .i64 y],.pointer (some ⟨b,0,none⟩)] W _;have B0:Hid (Below w.heap.size w W):=hW;have c0:W.cell? ⟨b,0,none⟩=some (.int .i64 n):=(hW.cell (p:=⟨b,0,none⟩) hb).trans hc;have HS:w.heap.size<=W.heap.size:=hW.size;have hbW:b<W.heap.size:=Nat.lt_of_lt_of_le hb hW.size;clear hc hW;have HX:Hid (Rk.outB n (x,y)=(!Rk.inB n x|| !Rk.inB n y)):=rfl
 cases hx:Rk.inB n x
 ·have h1:(decide (0<=x)&&decide (x<n))=false:=hx
  rw[HX.out,hx];clear hx HX
  go_enter Tryz.func121,Tryz.ntmps121
  go_wp2_with fail
  refine(Tryz.within_any n x _).mono ?_;rintro e W1 ⟨rfl,rfl⟩;rw[h1];go_wp2;go_ret;exact⟨rfl,B0.out.alloc HS _⟩
 have h1:(decide (0<=x)&&decide (x<n))=true:=hx;have HY:Hid (Rk.inB n y=(decide (0<=y)&&decide (y<n))):=rfl;rw[HX.out,hx,HY.out];clear hx HX HY;obtain⟨q,hq⟩:=pE ((decide (0<=y)&&decide (y<n)));rw[hq];have HQ:Hid _:=hq;clear hq
 go_enter Tryz.func121,Tryz.ntmps121
 go_wp2_with fail
 refine(Tryz.within_any n x _).mono ?_;rintro e W1 ⟨rfl,rfl⟩;rw[h1]
 go_wp2_with fail
 refine(Tryz.within_any n y _).mono ?_;rintro e W1 ⟨rfl,rfl⟩;rw[HQ.out];go_wp2;go_ret;exact⟨by simp,B0.out.alloc HS _⟩
theorem Tryz.rkCheck_any (n:Int)(a:Option Addr)(c:Nat)(es:List (Int×Int))(w:World)(hE:Rk.Eds w w.heap.size a es)(hn:es.length<=1000000000000000):
  Calls Tryz.prog 96 #[.int .i64 n,.slice a es.length c] w λe w'=>e=.returned (.int .i64 (Rk.chk n es))/\Below w.heap.size w w':=by
 have B0:Hid (Below w.heap.size w (w.alloc (.cells #[.int .i64 n] 3))):=(Below.refl _ w).alloc (Nat.le_refl _) _;have HC:Hid _:=Tryz.contains_any (Rk.outB n) 121 #[.pointer (some ⟨w.heap.size,0,none⟩)] Rk.enters_check a c es (w.alloc (.cells #[.int .i64 n] 3)) (Rk.check_pred n w.heap.size es _ (by simp) (by simp)) ((hE.below B0.out).wider (by simp)) hn;obtain⟨q,hq⟩:=pE (es.any (Rk.outB n));obtain⟨m,hm⟩:=pE (es.length);have HR:Hid (Rk.chk n es=if n<0∨64<n then 1 else if 256<m then 2 else if q=true then 4 else 0):=by show Rk.chk n es=_;unfold Rk.chk;rw[hq,hm]
 rw[HR.out];rw[hq]at HC;rw[hm]at HC hn⊢;clear hE hq hm HR
 by_cases h1:n<0
 ·have d1:decide (n<0)=true:=decide_eq_true h1
  rw[if_pos (.inl h1)];clear h1
  go_enter Tryz.func96,Tryz.ntmps96
  go_wp2;go_ret;exact⟨rfl,B0.out⟩
 have d1:decide (n<0)=false:=decide_eq_false h1
 by_cases h2:64<n
 ·have d2:decide (64<n)=true:=decide_eq_true h2
  rw[if_pos (.inr h2)];clear h1 h2
  go_enter Tryz.func96,Tryz.ntmps96
  go_wp2;go_ret;exact⟨rfl,B0.out⟩
 have d2:decide (64<n)=false:=decide_eq_false h2;rw[if_neg (by omega)];clear h1 h2
 by_cases h3:256<m
 ·have d3:decide ((256:Int)<m)=true:=decide_eq_true (by omega)
  rw[if_pos h3];clear h3
  go_enter Tryz.func96,Tryz.ntmps96
  go_wp2;go_ret;exact⟨rfl,B0.out⟩
 have d3:decide ((256:Int)<m)=false:=decide_eq_false (by omega);rw[if_neg h3];clear h3
 go_enter Tryz.func96,Tryz.ntmps96
 go_wp2_with fail
 refine Calls.mono HC.out ?_;rintro e W1 ⟨rfl,hb⟩;have B1:Hid (Below w.heap.size w W1):=B0.out.trans (hb.mono (by simp));clear hb HC
 cases q
 ·go_wp2
  go_ret;exact⟨rfl,B1.out⟩
 go_wp2;go_ret;exact⟨rfl,B1.out⟩
theorem Tryz.infoBoolQ:(Tryz.prog.info? 4).map (λi=>(i.zero,i.size,i.bytes))=some (some (.bool false),1,1):=by kernel_rfl
def Rq.row (n:Nat):Array Value:=((List.replicate n false).map Value.bool).toArray
theorem Rq.make_bools (n:Nat)(hn:n<=64)(w:World):(Instr.makeSlice 156 (.int .i64 (n:Int)) (.int .i64 (n:Int))).run Tryz.prog w=.ok (.slice (some ⟨w.heap.size,0,none⟩) n n) (w.alloc (.cells (Rq.row n) 4)):=by
 have h:=run_make_row' (P:=Tryz.prog) 156 4 (.bool false) 1 Tryz.underlying156 Tryz.infoBoolQ rfl .i64 .i64 n (by omega) (by omega) w;rw[h,show madeCells #[Value.bool false] n=Rq.row n from ?_];apply Array.toList_inj.1;rw[toList_madeCells_one];simp[Rq.row]
theorem Rq.row_bits (w:World)(n:Nat):Rq.Bits (w.alloc (.cells (Rq.row n) 4)) w.heap.size (List.replicate n false):=heap_alloc_new w (.cells (Rq.row n) 4)
theorem Tryz.mark_any (n a0:Nat)(a:Option Addr)(c:Nat)(es:List (Nat×Nat))(w:World)(hn:n<=64)(ha:a0<n)(hes:∀e,e∈es->e.1<n/\e.2<n)(hE:Rk.Eds w w.heap.size a (Rk.up es))(hm:es.length<=1000000000000000):
  Calls Tryz.prog 123 #[.int .i64 n,.slice a es.length c,.int .i64 a0] w λe w'=>
   e=.returned (.slice (some ⟨w.heap.size,0,none⟩) n n)/\Rq.Bits w' w.heap.size ((List.range n).map (Rk.met es a0))/\Below w.heap.size w w':=by
 have HE:Hid (Rk.Eds w w.heap.size a (Rk.up es)/\∀e,e∈es->e.1<n/\e.2<n):=⟨hE,hes⟩;have ha':(a0:Int)<n:=by omega
 have hmk:=Rq.make_bools n hn;obtain⟨m,hmm⟩:=pE (es.length);rw[hmm]at hm⊢;have HM:Hid (es.length=m):=hmm;have X1:=Rq.row_bits w n;have B1:Below w.heap.size w (w.alloc (.cells (Rq.row n) 4)):=(Below.refl _ w).alloc (Nat.le_refl _) _;have c1:(w.alloc (.cells (Rq.row n) 4)).cell? ⟨w.heap.size,a0,none⟩=some (.bool false):=X1.cell a0 false (by simp[ha]);have f1:=X1.frozen a0
 have X2:Hid (Rq.Bits (w.alloc (.cells ((Rq.row n).setIfInBounds a0 (.bool true)) 4)) w.heap.size ((List.replicate n false).set a0 true)):=by
  have:=heap_alloc_new w (.cells ((Rq.row n).setIfInBounds a0 (.bool true)) 4);show _=_;rw[this,Rq.row,List.setIfInBounds_toArray,List.map_set]
 have B2:Hid (Below w.heap.size w (w.alloc (.cells ((Rq.row n).setIfInBounds a0 (.bool true)) 4))):=(Below.refl _ w).alloc (Nat.le_refl _) _;clear hE hes hmm X1 B1
 go_enter Tryz.func123,Tryz.ntmps123
 go_wp2
 go_step3
 go_wp2
 go_step3
 go_wp2;clear hmk
 go_loopg [] 64 (λgk wr=>∃bs,Rk.left bs<=gk/\Hid (Rk.Way es n a0 bs/\Rq.Bits wr w.heap.size bs/\Below w.heap.size w wr))
 case atStart=>exact⟨_,by have:=Rk.left_le ((List.replicate n false).set a0 true);simp at this;omega,Rk.Way.start es ha,X2.out,B2.out⟩
 case round=>
  obtain⟨bs,hbl,HB⟩:=hrel;clear X2 B2 c1 f1;go_wp2
  go_loopg [17] m (λgi i wi=>∃k:Nat,gi+k=m/\i=.int .i64 k/\Hid (Rq.Bits wi w.heap.size bs/\Below w.heap.size w wi/\∀j (h:j<es.length),j<k->Rk.on bs es[j].1->Rk.on bs es[j].2))
  case atStart=>exact⟨0,by omega,rfl,HB.out.2.1,HB.out.2.2,λj _ h=>by omega⟩
  case round=>
   obtain⟨k,hk,rfl,HI⟩:=hrel
   by_cases hlt:k<m
   rotate_left
   ·have hd:decide ((k:Int)<m)=false:=decide_eq_false (by omega)
    go_wp2;rw[Exit.noGoto_ret];go_ret;refine⟨rfl, ?_,HI.out.2.1⟩
    have hall:Rk.Shut es bs:=by
     intro e he;obtain⟨j,hj,rfl⟩:=List.getElem_of_mem he;exact HI.out.2.2 j hj (by rw[HM.out]at hj;omega)
    rw[<-HB.out.1.done hall];exact HI.out.1
   have hd:decide ((k:Int)<m)=true:=decide_eq_true (by omega);have hkl:k<es.length:=by rw[HM.out];exact hlt
   obtain⟨q,off,rfl,hq,h0,h1⟩:=HE.out.1 k (by rw[Rk.up_length];exact hkl);obtain⟨e,he⟩:=pE (es[k]);obtain⟨x,y⟩:=e;have hxy:=HE.out.2 _ (List.getElem_mem hkl);rw[he]at hxy;obtain⟨hx,hy⟩:x<n/\y<n:=hxy;rw[Rk.up_get,he]at h0 h1;have hc0:wr.cell? ⟨q,off+k*2,none⟩=some (.int .i64 x):=by rw[HI.out.2.1.cell (p:=⟨q,off+k*2,none⟩) hq];exact h0
   have hc1:wr.cell? ⟨q,off+k*2+1,none⟩=some (.int .i64 y):=by rw[HI.out.2.1.cell (p:=⟨q,off+k*2+1,none⟩) hq];exact h1
   have HX:Hid (es[k]=(x,y)):=he;have hz:w.heap.size<wr.heap.size:=HI.out.1.lt;have hqz:q<wr.heap.size:=by omega
   have hx':(x:Int)<n:=by omega
   have hy':(y:Int)<n:=by omega
   have hu:=Tryz.underlying113;obtain⟨b1,hb1⟩:∃b,bs[x]? =some b:=⟨_,List.getElem?_eq_getElem (by rw[HB.out.1.1];exact hx)⟩;obtain⟨b2,hb2⟩:∃b,bs[y]? =some b:=⟨_,List.getElem?_eq_getElem (by rw[HB.out.1.1];exact hy)⟩;have k1:=HI.out.1.cell x b1 hb1;have k2:=HI.out.1.cell y b2 hb2;have f2:=HI.out.1.frozen y;have H12:Hid (bs[x]? =some b1/\bs[y]? =some b2):=⟨hb1,hb2⟩
   have HA:Hid (Below w.heap.size w (wr.alloc (.cells #[.int .i64 x,.int .i64 y] 113))/\Rq.Bits (wr.alloc (.cells #[.int .i64 x,.int .i64 y] 113)) w.heap.size bs):=
    ⟨HI.out.2.1.alloc (by omega) _,HI.out.1.keep (Below.heap_alloc _ _ _ hz)⟩
   clear h0 h1 he hb1 hb2
   have hrel2:(b1=true->b2=true)->∀j (h:j<es.length),j<k+1->Rk.on bs es[j].1->Rk.on bs es[j].2:=by
    intro hi j hj hj2 ho
    by_cases hjk:j=k
    ·subst hjk
     rw[HX.out]at ho⊢;have h1:=H12.out.1;have h2:=H12.out.2;have:b1=true:=by unfold Rk.on at ho;rw[h1]at ho;exact Option.some.inj ho
     rw[hi this]at h2;exact h2
    exact HI.out.2.2 j hj (by omega) ho
   have HR:Hid _:=hrel2;clear hrel2
   cases b1
   ·go_wp2
    go_roundg (gk-1)
    case measure=>omega
    case rel=>exact⟨k+1,by omega,by go_num,HA.out.2,HA.out.1,HR.out (by simp)⟩
   cases b2
   ·go_wp2
    go_roundg (Rk.left (bs.set y true))
    case measure=>have:=Rk.left_set bs y H12.out.2;omega
    case rel=>
     refine⟨bs.set y true,Nat.le_refl _,HB.out.1.mark (by rw[<-HX.out];exact List.getElem_mem hkl) H12.out.1 hy, ?_, ?_⟩
     ·exact(HI.out.1.put y true).keep (Below.heap_alloc _ _ _ (by simpa using hz))
     exact(HI.out.2.1.setCell (p:=⟨w.heap.size,y,none⟩) (Nat.le_refl _) _).alloc (by simp;omega) _
   go_wp2;go_roundg (gk-1)
   case measure=>omega
   case rel=>exact⟨k+1,by omega,by go_num,HA.out.2,HA.out.1,HR.out (by simp)⟩
def Nt.Gives (l:List Nat)(w:World)(e:Ending)(w':World):Prop:=∃v,e=.returned v/\w'.ownsRow w.heap.size 3 1 v l.length (Rk.nums l)/\Below w.heap.size w w'
theorem Nt.own_lower {w:World}{B B':Nat}{e:TypeId}{size:Nat}{v:Value}{n:Nat}{cs:List Value}(h:w.ownsRow B e size v n cs)(hB:B'<=B):w.ownsRow B' e size v n cs:=by
 rcases h with⟨hl,h|⟨g,cap,cur,rfl,hB2,hg,h4⟩⟩
 ·exact⟨hl,.inl h⟩
 exact⟨hl,.inr ⟨g,cap,cur,rfl,by omega,hg,h4⟩⟩
end Go.Proofs
namespace Go.Proofs
open Go.RowKit
end Go.Proofs
