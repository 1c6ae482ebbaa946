import Derived.Test.YtenaelpdnccgnaaGreatDoorProg
import Derived.Test.YtenaelpdnccgnaaGreatDoorRTmModel
import Derived.Shelf.Abstract
set_option maxRecDepth 100000
set_option maxHeartbeats 32000000
namespace Go.Proofs
inductive Rk.Reach (es:List (Nat×Nat)):Nat->Nat->Prop
 |refl (a:Nat):Rk.Reach es a a
 |step {a b c:Nat} :Rk.Reach es a b->(b,c)∈es->Rk.Reach es a c
def Rk.Leads (es:List (Nat×Nat))(a c:Nat):Prop:=∃b,Rk.Reach es a b/\(b,c)∈es
theorem Rk.Reach.trans {es:List (Nat×Nat)}{a b c:Nat}(h:Rk.Reach es a b)(k:Rk.Reach es b c):Rk.Reach es a c:=by
 induction k with
 |refl=>exact h
 |step _ m ih=>exact ih.step m
theorem Rk.Reach.back {es:List (Nat×Nat)}{a b:Nat}(h:Rk.Reach es a b):Rk.Reach (es.map λe=>(e.2,e.1)) b a:=by
 induction h with
 |refl=>exact .refl _
 |step h m ih=>
  refine Rk.Reach.trans (.step (.refl _) (List.mem_map.2 ⟨_,m,rfl⟩)) ih
theorem Rk.back_iff (es:List (Nat×Nat))(a b:Nat):Rk.Reach (es.map λe=>(e.2,e.1)) b a↔Rk.Reach es a b:=by
 constructor
 ·intro h
  have:=h.back
  rwa [List.map_map,show((λe:Nat×Nat=>(e.2,e.1))∘λe:Nat×Nat=>(e.2,e.1))=id from rfl,List.map_id]at this
 exact Rk.Reach.back
open Classical in
noncomputable def Rk.met (es:List (Nat×Nat))(a b:Nat):Bool:=decide (Rk.Reach es a b)
open Classical in
noncomputable def Rk.lead (es:List (Nat×Nat))(a b:Nat):Bool:=decide (Rk.Leads es a b)
theorem Rk.met_iff (es:List (Nat×Nat))(a b:Nat):Rk.met es a b=true↔Rk.Reach es a b:=by simp[Rk.met]
theorem Rk.lead_iff (es:List (Nat×Nat))(a b:Nat):Rk.lead es a b=true↔Rk.Leads es a b:=by simp[Rk.lead]
abbrev Rk.on (bs:List Bool) (i:Nat):Prop:=bs[i]? =some true
theorem Rk.on_set {bs:List Bool}{i j:Nat}(hj:j<bs.length):Rk.on (bs.set j true) i↔i=j∨Rk.on bs i:=by
 unfold Rk.on;rw[List.getElem?_set]
 by_cases h:j=i
 ·subst h
  simp[hj]
 simp[h];omega
def Rk.Way (es:List (Nat×Nat))(n a:Nat)(bs:List Bool):Prop:=bs.length=n/\Rk.on bs a/\∀i,Rk.on bs i->Rk.Reach es a i
def Rk.Shut (es:List (Nat×Nat))(bs:List Bool):Prop:=∀e,e∈es->Rk.on bs e.1->Rk.on bs e.2
theorem Rk.Way.done {es:List (Nat×Nat)}{n a:Nat}{bs:List Bool}(h:Rk.Way es n a bs)(hs:Rk.Shut es bs):bs=(List.range n).map (Rk.met es a):=by
 have hc:∀i,Rk.Reach es a i->Rk.on bs i:=by
  intro i hi
  induction hi with
  |refl=>exact h.2.1
  |step _ m ih=>exact hs _ m ih
 apply List.ext_getElem?;intro i
 by_cases hi:i<n
 rotate_left
 ·rw[List.getElem?_eq_none (by rw[h.1];omega),List.getElem?_eq_none (by simp;omega)]
 rw[List.getElem?_map,List.getElem?_range hi];have hl:i<bs.length:=by rw[h.1];exact hi
 rw[List.getElem?_eq_getElem hl];show some _=some _
 congr 1
 rw[Bool.eq_iff_iff,Rk.met_iff]
 constructor
 ·intro hb
  exact h.2.2 i (by unfold Rk.on;rw[List.getElem?_eq_getElem hl,hb])
 intro hr;have:=hc i hr;unfold Rk.on at this;rw[List.getElem?_eq_getElem hl]at this;exact Option.some.inj this
theorem Rk.Way.mark {es:List (Nat×Nat)}{n a x y:Nat}{bs:List Bool}(h:Rk.Way es n a bs)(m:(x,y)∈es)(hx:Rk.on bs x)(hy:y<n):Rk.Way es n a (bs.set y true):=by
 have hl:y<bs.length:=by rw[h.1];exact hy
 refine⟨by simpa using h.1,(Rk.on_set hl).2 (.inr h.2.1),λi hi=> ?_⟩
 rcases(Rk.on_set hl).1 hi with rfl|hi
 ·exact(h.2.2 x hx).step m
 exact h.2.2 i hi
theorem Rk.Way.start (es:List (Nat×Nat)){n a:Nat}(ha:a<n):Rk.Way es n a ((List.replicate n false).set a true):=by
 have hl:a<(List.replicate n false).length:=by simpa using ha
 refine⟨by simp,(Rk.on_set hl).2 (.inl rfl),λi hi=> ?_⟩
 rcases(Rk.on_set hl).1 hi with rfl|hi
 ·exact .refl _
 unfold Rk.on at hi;rw[List.getElem?_replicate]at hi
 split at hi<;>simp at hi
def Rk.left (bs:List Bool):Nat:=bs.countP λb=> !b
theorem Rk.left_le (bs:List Bool):Rk.left bs<=bs.length:=List.countP_le_length
theorem Rk.left_set:∀(bs:List Bool) (i:Nat),bs[i]? =some false->Rk.left (bs.set i true)+1=Rk.left bs
 | [],i,h=>by simp at h
 |b::bs,0,h=>by
  simp at h;subst h;simp[Rk.left]
 |b::bs,i+1,h=>by
  have:=Rk.left_set bs i (by simpa using h);unfold Rk.left at*
  cases b<;>simp at* <;>omega
def Rk.sweep:List (Nat×Nat)->List Bool->List Bool
 | [],bs=>bs
 |e::es,bs=>Rk.sweep es (if bs[e.1]? =some true then bs.set e.2 true else bs)
theorem Rk.sweep_length:∀(es:List (Nat×Nat)) (bs:List Bool),(Rk.sweep es bs).length=bs.length
 | [],_=>rfl
 |e::es,bs=>by
  rw[Rk.sweep,Rk.sweep_length es]
  split<;>simp
theorem Rk.one_keeps (bs:List Bool)(x y i:Nat)(h:Rk.on bs i):Rk.on (if bs[x]? =some true then bs.set y true else bs) i:=by
 split
 ·unfold Rk.on at*
  rw[List.getElem?_set];have hl:i<bs.length:=(List.getElem?_eq_some_iff.1 h).1
  split
  ·subst_vars;simp[hl]
  exact h
 exact h
theorem Rk.sweep_keeps:∀(es:List (Nat×Nat)) (bs:List Bool) (i:Nat),Rk.on bs i->Rk.on (Rk.sweep es bs) i
 | [],_,_,h=>h
 |e::es,bs,i,h=>Rk.sweep_keeps es _ i (Rk.one_keeps bs e.1 e.2 i h)
theorem Rk.sweep_does:∀(es:List (Nat×Nat)) (bs:List Bool) (e:Nat×Nat),e∈es->e.2<bs.length->Rk.on bs e.1->Rk.on (Rk.sweep es bs) e.2
 | [],_,_,h,_,_=>by simp at h
 |f::es,bs,e,h,hl,ho=>by
  rcases List.mem_cons.1 h with rfl|h
  ·rw[Rk.sweep]
   refine Rk.sweep_keeps es _ _ ?_;rw[if_pos ho];exact(Rk.on_set hl).2 (.inl rfl)
  rw[Rk.sweep];refine Rk.sweep_does es _ e h ?_ (Rk.one_keeps bs f.1 f.2 e.1 ho)
  split<;>simpa using hl
def Rk.sweeps (es:List (Nat×Nat)):Nat->List Bool->List Bool
 |0,bs=>bs
 |k+1,bs=>Rk.sweeps es k (Rk.sweep es bs)
theorem Rk.left_mono:∀(bs cs:List Bool),bs.length=cs.length->(∀i,Rk.on bs i->Rk.on cs i)->Rk.left cs<=Rk.left bs/\(Rk.left cs=Rk.left bs->cs=bs)
 | [], [],_,_=>by simp
 | [],c::cs,h,_=>by simp at h
 |b::bs, [],h,_=>by simp at h
 |b::bs,c::cs,h,hk=>by
  have ih:=Rk.left_mono bs cs (by simpa using h) (λi hi=>by simpa [Rk.on]using hk (i+1) (by simpa [Rk.on]using hi));have h0:=hk 0;unfold Rk.left at*
  cases b<;>cases c<;>simp[Rk.on]at h0⊢ <;>first|exact ih|skip
  constructor
  ·omega
  omega
theorem Rk.sweeps_shut {es:List (Nat×Nat)} :∀(k:Nat) (bs:List Bool),(∀e,e∈es->e.2<bs.length)->Rk.left bs<=k->Rk.Shut es (Rk.sweeps es k bs)
 |0,bs,hl,hk=>by
  intro e he _;have h0:Rk.left bs=0:=by omega
  unfold Rk.left at h0;rw[List.countP_eq_zero]at h0;have hb:=hl e he;show Rk.on bs e.2;unfold Rk.on;rw[List.getElem?_eq_getElem hb];have:=h0 _ (List.getElem_mem hb);simpa using this
 |k+1,bs,hl,hk=>by
  have hm:=Rk.left_mono bs (Rk.sweep es bs) (Rk.sweep_length es bs).symm (Rk.sweep_keeps es bs)
  by_cases he:Rk.left (Rk.sweep es bs)=Rk.left bs
  ·have hs:=hm.2 he
   have hsh:Rk.Shut es bs:=λe hm ho=>by
    have:=Rk.sweep_does es bs e hm (hl e hm) ho
    rwa [hs]at this
   have hfix:∀j,Rk.sweeps es j bs=bs:=by
    intro j
    induction j with
    |zero=>rfl
    |succ j ih=>rw[Rk.sweeps,hs,ih]
   rw[hfix];exact hsh
  rw[Rk.sweeps];exact Rk.sweeps_shut k _ (λe h=>by rw[Rk.sweep_length];exact hl e h) (by omega)
def Rk.first (a:Nat):List (Nat×Nat)->List Bool->List Bool
 | [],bs=>bs
 |e::es,bs=>Rk.first a es (if e.1=a then bs.set e.2 true else bs)
end Go.Proofs
namespace Go.Proofs
open Go.RowKit
structure Nd where
 kind:Int
 a:Int
 t:Tm
structure Fl where
 fr:Int
 to:Int
 els:Bool
 c:Tm
namespace Nt
def zeroB (T:Tm):Bool:=decide (T.op=0)&&decide (T.num=0)&&decide (T.ks.length=0)
def ofB (T:Tm)(k:Int):Bool:=decide (T.checkR.2=0)&&decide (T.checkR.1=k)
def mostN (k:Int):Int:=if k=3∨k=4 then 3 else if k=8 then 4 else 0
def oneB (x:Nd):Bool:=decide (1<=x.kind/\x.kind<=8/\0<=x.a/\x.a<=mostN x.kind)&&(if x.kind=4 then ofB x.t 1 else zeroB x.t)
def isNodeB (n:Nat)(i:Int):Bool:=decide (0<=i)&&decide (i<n)
def kindAt (ns:List Nd)(i:Nat):Int:=(ns[i]?.map Nd.kind).getD 0
def outsN (fs:List Fl)(i:Int):Nat:=fs.countP λf=>decide (f.fr=i)
def insN (fs:List Fl)(i:Int):Nat:=fs.countP λf=>decide (f.to=i)
def elsesN (fs:List Fl)(i:Int):Nat:=fs.countP λf=>decide (f.fr=i)&&f.els
def othersN (ns:List Nd)(fs:List Fl)(i:Int):Nat:=fs.countP λf=>decide (f.fr=i)&& !decide (kindAt ns f.to.toNat=8)
def outsL (fs:List Fl)(i:Int):List Nat:=(List.range fs.length).filter λk=>decide ((fs[k]?.map Fl.fr)=some i)
def insL (fs:List Fl)(i:Int):List Nat:=(List.range fs.length).filter λk=>decide ((fs[k]?.map Fl.to)=some i)
def chosenB (ns:List Nd)(fs:List Fl)(f:Fl):Bool:=decide (kindAt ns f.fr.toNat=5)&&decide (2<=outsN fs f.fr)
def condB (f:Fl)(ch:Bool):Bool:=if ch=true/\f.els=false then ofB f.c 2 else(ch==f.els)&&zeroB f.c
def twoB (ns:List Nd)(fs:List Fl)(f:Fl):Bool:=isNodeB ns.length f.fr&&isNodeB ns.length f.to&& !decide (f.fr=f.to)&&condB f (chosenB ns fs f)
def joinB (k:Int)(a b el ot:Nat):Bool:=
 if k=1 then decide (a=0/\b=1)else if k=2 then decide (a=1/\b=0)else if k=5 then decide ((a=1/\2<=b/\el=1)∨(2<=a/\b=1))
 else if k=6 then decide ((a=1/\2<=b)∨(2<=a/\b=1))else if k=7 then decide (a=1/\2<=b/\ot=0)else decide (a=1/\b=1)
def threeB (ns:List Nd)(fs:List Fl)(i:Nat):Bool:=joinB (kindAt ns i) (insN fs i) (outsN fs i) (elsesN fs i) (othersN ns fs i)
def firstI (ns:List Nd)(k:Int):Int:=match ns.findIdx? (λx=>decide (x.kind=k))with
 |some i=>(i:Int)
 |none=> -1
def jointB (ns:List Nd)(fs:List Fl)(i:Nat):Bool:=threeB ns fs i&& !(decide (kindAt ns i=1)&& !decide ((i:Int)=firstI ns 1))&& !(decide (kindAt ns i=2)&& !decide ((i:Int)=firstI ns 2))
def edges (fs:List Fl):List (Nat×Nat):=fs.map λf=>(f.fr.toNat,f.to.toNat)
noncomputable def roadB (ns:List Nd)(fs:List Fl)(i:Nat):Bool:=Rk.met (edges fs) (firstI ns 1).toNat i&&Rk.met (edges fs) i (firstI ns 2).toNat
def hugeB (ns:List Nd)(fs:List Fl):Bool:=decide (24<ns.length)||decide (40<fs.length)
def wrong1 (ns:List Nd)(fs:List Fl):List Nat:=if hugeB ns fs=true then [0]else(List.range ns.length).filter λi=> !((ns[i]?.map oneB).getD true)
def wrong2 (ns:List Nd)(fs:List Fl):List Nat:=(List.range fs.length).filter λi=> !((fs[i]?.map (twoB ns fs)).getD true)
def lostB (ns:List Nd):Bool:=decide (firstI ns 1<0)||decide (firstI ns 2<0)
def wrong3 (ns:List Nd)(fs:List Fl):List Nat:=((List.range ns.length).filter λi=> !jointB ns fs i)++if lostB ns=true then [ns.length]else []
noncomputable def wrong4 (ns:List Nd)(fs:List Fl):List Nat:=(List.range ns.length).filter λi=> !roadB ns fs i
noncomputable def broken (ns:List Nd)(fs:List Fl):Nat×List Nat:=
 if(wrong1 ns fs).isEmpty=false then(1,wrong1 ns fs)else if(wrong2 ns fs).isEmpty=false then(2,wrong2 ns fs)else if(wrong3 ns fs).isEmpty=false then(3,wrong3 ns fs)
 else if(wrong4 ns fs).isEmpty=false then(4,wrong4 ns fs)else(0, [])
noncomputable def checkN (ns:List Nd)(fs:List Fl):Nat×Nat:=((broken ns fs).1,(broken ns fs).2.headD 0)
theorem filter_take {α:Type}(p:α->Bool)(l:List α):∀k,k<=l.length->((List.range k).filter λj=>((l[j]?.map p).getD false)).length=(l.take k).countP p:=by
 intro k
 induction k with
 |zero=>simp
 |succ k ih=>
  intro hk;rw[List.range_succ,List.filter_append,List.length_append,ih (by omega),Tm.take_snoc l k (by omega),List.countP_append]
  congr 1
  have hk':k<l.length:=by omega
  cases hp:p l[k]<;>simp[hk',hp]
theorem kindAt_get (ns:List Nd)(i:Nat)(h:i<ns.length):kindAt ns i=ns[i].kind:=by simp[kindAt,List.getElem?_eq_getElem h]
theorem filter_nil {n:Nat}{p:Nat->Bool}(h:((List.range n).filter p).isEmpty=true):∀i,i<n->p i=false:=by
 intro i hi;rw[List.isEmpty_iff,List.filter_eq_nil_iff]at h;simpa using h i (List.mem_range.2 hi)
theorem one_keeps {ns:List Nd}{fs:List Fl}(h:(wrong1 ns fs).isEmpty=true):ns.length<=24/\fs.length<=40:=by
 unfold wrong1 at h
 split at h
 ·simp at h
 next hh=>simpa [hugeB,Nat.not_lt]using hh
theorem two_keeps {ns:List Nd}{fs:List Fl}(h:(wrong2 ns fs).isEmpty=true):∀f,f∈fs->0<=f.fr/\f.fr<ns.length/\0<=f.to/\f.to<ns.length/\twoB ns fs f=true:=by
 intro f hf;obtain⟨i,hi,rfl⟩:=List.mem_iff_getElem.1 hf;have:=filter_nil h i hi;rw[List.getElem?_eq_getElem hi]at this;have h2:twoB ns fs fs[i]=true:=by simpa using this
 refine⟨?_, ?_, ?_, ?_,h2⟩<;>simp[twoB,isNodeB]at h2<;>omega
theorem three_keeps {ns:List Nd}{fs:List Fl}(h:(wrong3 ns fs).isEmpty=true):0<=firstI ns 1/\0<=firstI ns 2:=by
 unfold wrong3 at h
 split at h
 ·simp at h
 next hh=>simp[lostB]at hh;exact hh
theorem firstI_lt (ns:List Nd)(k:Int):firstI ns k<ns.length:=by
 unfold firstI
 split
 ·next i h=>
  have:=(List.findIdx?_eq_some_iff_getElem.1 h).1;omega
 omega
def Nds (w:World)(B d:Nat)(a:Option Addr)(ns:List Nd):Prop:=∀j (h:j<ns.length),∃g off u,a=some ⟨g,off,none⟩/\g<B/\w.cell? ⟨g,off+j*5,none⟩=some (.int .i64 ns[j].kind)/\w.cell? ⟨g,off+j*5+1,none⟩=some (.int .i64 ns[j].a)/\
 w.cell? ⟨g,off+j*5+2,none⟩=some (.int .i64 ns[j].t.op)/\w.cell? ⟨g,off+j*5+3,none⟩=some (.int .i64 ns[j].t.num)/\w.cell? ⟨g,off+j*5+4,none⟩=some u/\Tm.Lies w B d u ns[j].t
def Fls (w:World)(B d:Nat)(a:Option Addr)(fs:List Fl):Prop:=∀j (h:j<fs.length),∃g off u,a=some ⟨g,off,none⟩/\g<B/\w.cell? ⟨g,off+j*6,none⟩=some (.int .i64 fs[j].fr)/\w.cell? ⟨g,off+j*6+1,none⟩=some (.int .i64 fs[j].to)/\
 w.cell? ⟨g,off+j*6+2,none⟩=some (.bool fs[j].els)/\w.cell? ⟨g,off+j*6+3,none⟩=some (.int .i64 fs[j].c.op)/\w.cell? ⟨g,off+j*6+4,none⟩=some (.int .i64 fs[j].c.num)/\w.cell? ⟨g,off+j*6+5,none⟩=some u/\Tm.Lies w B d u fs[j].c
theorem Nds.below {w w':World}{B d:Nat}{a:Option Addr}{ns:List Nd}(h:Nds w B d a ns)(hb:Below B w w'):Nds w' B d a ns:=λj hj=>by
 obtain⟨g,off,u,h1,h2,c0,c1,c2,c3,c4,h3⟩:=h j hj;have hc:∀o,w'.cell? ⟨g,o,none⟩=w.cell? ⟨g,o,none⟩:=λo=>hb.cell (p:=⟨g,o,none⟩) h2;exact⟨g,off,u,h1,h2,by rw[hc];exact c0,by rw[hc];exact c1,by rw[hc];exact c2,by rw[hc];exact c3,by rw[hc];exact c4,h3.below hb⟩
theorem Fls.below {w w':World}{B d:Nat}{a:Option Addr}{fs:List Fl}(h:Fls w B d a fs)(hb:Below B w w'):Fls w' B d a fs:=λj hj=>by
 obtain⟨g,off,u,h1,h2,c0,c1,c2,c3,c4,c5,h3⟩:=h j hj;have hc:∀o,w'.cell? ⟨g,o,none⟩=w.cell? ⟨g,o,none⟩:=λo=>hb.cell (p:=⟨g,o,none⟩) h2;exact⟨g,off,u,h1,h2,by rw[hc];exact c0,by rw[hc];exact c1,by rw[hc];exact c2,by rw[hc];exact c3,by rw[hc];exact c4,by rw[hc];exact c5,h3.below hb⟩
theorem Nds.wider {w:World}{B B' d:Nat}{a:Option Addr}{ns:List Nd}(h:Nds w B d a ns)(hB:B<=B'):Nds w B' d a ns:=λj hj=>by
 obtain⟨g,off,u,h1,h2,c0,c1,c2,c3,c4,h3⟩:=h j hj;exact⟨g,off,u,h1,by omega,c0,c1,c2,c3,c4,h3.wider hB⟩
theorem Fls.wider {w:World}{B B' d:Nat}{a:Option Addr}{fs:List Fl}(h:Fls w B d a fs)(hB:B<=B'):Fls w B' d a fs:=λj hj=>by
 obtain⟨g,off,u,h1,h2,c0,c1,c2,c3,c4,c5,h3⟩:=h j hj;exact⟨g,off,u,h1,by omega,c0,c1,c2,c3,c4,c5,h3.wider hB⟩
end Nt
structure Nt.Has (w:World)(B d:Nat)(an af:Option Addr)(ns:List Nd)(fs:List Fl):Prop where
 nds:Nt.Nds w B d an ns
 fls:Nt.Fls w B d af fs
 nlen:ns.length<=100
 flen:fs.length<=100
 nsz:∀x,x∈ns->x.t.size<=2147483647
 fsz:∀x,x∈fs->x.c.size<=2147483647
theorem Nt.Has.below {w w':World}{B d:Nat}{an af:Option Addr}{ns:List Nd}{fs:List Fl}(h:Nt.Has w B d an af ns fs)(hb:Below B w w'):Nt.Has w' B d an af ns fs:=⟨h.nds.below hb,h.fls.below hb,h.nlen,h.flen,h.nsz,h.fsz⟩
theorem Nt.Has.wider {w:World}{B B' d:Nat}{an af:Option Addr}{ns:List Nd}{fs:List Fl}(h:Nt.Has w B d an af ns fs)(hB:B<=B'):Nt.Has w B' d an af ns fs:=⟨h.nds.wider hB,h.fls.wider hB,h.nlen,h.flen,h.nsz,h.fsz⟩
inductive Ac where
 |mk (kind node a b:Int) (t:Tm) (cs:List Tm) (ks:List Ac) (ls:List (Int×Int)) (ns:List Nd) (fs:List Fl)
namespace Ac
def kind:Ac->Int|mk k _ _ _ _ _ _ _ _ _=>k
def node:Ac->Int|mk _ n _ _ _ _ _ _ _ _=>n
def a:Ac->Int|mk _ _ a _ _ _ _ _ _ _=>a
def b:Ac->Int|mk _ _ _ b _ _ _ _ _ _=>b
def t:Ac->Tm|mk _ _ _ _ t _ _ _ _ _=>t
def cs:Ac->List Tm|mk _ _ _ _ _ c _ _ _ _=>c
def ks:Ac->List Ac|mk _ _ _ _ _ _ k _ _ _=>k
def ls:Ac->List (Int×Int)|mk _ _ _ _ _ _ _ l _ _=>l
def ns:Ac->List Nd|mk _ _ _ _ _ _ _ _ n _=>n
def fs:Ac->List Fl|mk _ _ _ _ _ _ _ _ _ f=>f
mutual
def size:Ac->Nat|mk _ _ _ _ _ _ ks _ _ _=>sizes ks+1
def sizes:List Ac->Nat| []=>0|k::r=>size k+sizes r
end
mutual
def depth:Ac->Nat|mk _ _ _ _ _ _ ks _ _ _=>depths ks+1
def depths:List Ac->Nat| []=>0|k::r=>max (depth k) (depths r)
end
mutual
def go {St:Type}(step:Ac->St->Bool×St):Ac->St->Bool×St
 | .mk k n a b t c ks l x y,s=>if(step (.mk k n a b t c ks l x y) s).1=true then goes step ks (step (.mk k n a b t c ks l x y) s).2 else(false,(step (.mk k n a b t c ks l x y) s).2)
def goes {St:Type}(step:Ac->St->Bool×St):List Ac->St->Bool×St
 | [],s=>(true,s)
 |k::r,s=>if(go step k s).1=true then goes step r (go step k s).2 else(false,(go step k s).2)
end
mutual
def All (P:Ac->Prop):Ac->Prop| .mk k n a b t c ks l x y=>P (.mk k n a b t c ks l x y)/\Alls P ks
def Alls (P:Ac->Prop):List Ac->Prop| []=>True|k::r=>All P k/\Alls P r
end
mutual
def allP (p:Ac->Bool):Ac->Bool|mk k n a b t c ks l x y=>p (mk k n a b t c ks l x y)&&allPs p ks
def allPs (p:Ac->Bool):List Ac->Bool| []=>true|k::r=>allP p k&&allPs p r
end
theorem take_snoc {α:Type}(l:List α)(k:Nat)(h:k<l.length):l.take (k+1)=l.take k++ [l[k]]:=Tm.take_snoc l k h
theorem sizes_snoc (l:List Ac)(a:Ac):sizes (l++ [a])=sizes l+a.size:=by
 induction l with
 |nil=>simp[sizes]
 |cons k r ih=>simp only[List.cons_append,sizes,ih];omega
theorem depths_snoc (l:List Ac)(a:Ac):depths (l++ [a])=max (depths l) a.depth:=by
 induction l with
 |nil=>simp[depths]
 |cons k r ih=>simp only[List.cons_append,depths,ih];omega
theorem sizes_take (l:List Ac)(k:Nat)(h:k<l.length):sizes (l.take (k+1))=sizes (l.take k)+l[k].size:=by rw[take_snoc l k h,sizes_snoc]
theorem depths_take (l:List Ac)(k:Nat)(h:k<l.length):depths (l.take (k+1))=max (depths (l.take k)) l[k].depth:=by rw[take_snoc l k h,depths_snoc]
theorem sizes_le (l:List Ac):∀k,sizes (l.take k)<=sizes l:=by
 induction l with
 |nil=>intro k;simp
 |cons x r ih=>
  intro k
  cases k with
  |zero=>simp[sizes]
  |succ k=>simp only[List.take_succ_cons,sizes];have:=ih k;omega
theorem depths_get (l:List Ac):∀k (h:k<l.length),l[k].depth<=depths l:=by
 induction l with
 |nil=>intro k h;simp at h
 |cons x r ih=>
  intro k h
  cases k with
  |zero=>simp only[List.getElem_cons_zero,depths];omega
  |succ k=>simp only[List.getElem_cons_succ,depths];have:=ih k (by simpa using h);omega
theorem size_pos (T:Ac):1<=T.size:=by cases T;simp[size]
theorem sizes_get (l:List Ac)(k:Nat)(h:k<l.length):sizes (l.take k)+l[k].size<=sizes l:=by rw[<-sizes_take l k h];exact sizes_le _ _
theorem length_le_sizes (l:List Ac):l.length<=sizes l:=by
 induction l with
 |nil=>simp
 |cons k r ih=>simp only[List.length_cons,sizes];have:=k.size_pos;omega
theorem size_eq (T:Ac):T.size=sizes T.ks+1:=by cases T;rfl
theorem depth_eq (T:Ac):T.depth=depths T.ks+1:=by cases T;rfl
mutual
theorem depth_le_size:∀T:Ac,T.depth<=T.size
 |mk _ _ _ _ _ _ ks _ _ _=>by rw[depth,size];have:=depths_le_sizes ks;omega
theorem depths_le_sizes:∀l:List Ac,depths l<=sizes l
 | []=>by simp[depths,sizes]
 |k::r=>by rw[depths,sizes];have:=depth_le_size k;have:=depths_le_sizes r;omega
end
theorem go_eq {St:Type}(step:Ac->St->Bool×St)(T:Ac)(s:St):T.go step s=if(step T s).1=true then goes step T.ks (step T s).2 else(false,(step T s).2):=by cases T;rfl
theorem all_eq (P:Ac->Prop)(T:Ac):T.All P=(P T/\Alls P T.ks):=by cases T;rfl
theorem alls_get {P:Ac->Prop} :∀{l:List Ac},Alls P l->∀k (h:k<l.length),l[k].All P
 | [],_,k,h=>by simp at h
 |x::r,hl,k,h=>by
  cases k with
  |zero=>exact hl.1
  |succ k=>exact alls_get hl.2 k (by simpa using h)
theorem goes_snoc {St : Type} (step : Ac -> St -> Bool × St) (x : Ac) : ∀ (l : List Ac) (s : St), goes step (l ++ [x]) s = if (goes step l s).1 = true then x.go step (goes step l s).2 else (false, (goes step l s).2)
  | [], s => by
    simp only [List.nil_append, goes, if_true]
    split
    · rename_i h; rw [<- h]
    rename_i h; rw [<- Bool.eq_false_iff.2 h]
  | k :: r, s => by
    rw [List.cons_append, goes, goes]
    split
    · exact goes_snoc step x r _
    simp
theorem goes_stop {St:Type}(step:Ac->St->Bool×St):∀(a b:List Ac) (s s':St),goes step a s=(false,s')->goes step (a++b) s=(false,s')
 | [],b,s,s',h=>by simp[goes]at h
 |k::r,b,s,s',h=>by
  rw[goes]at h;rw[List.cons_append,goes]
  split
  ·rename_i hk;rw[if_pos hk]at h;exact goes_stop step r b _ _ h
  rename_i hk;rw[if_neg hk]at h;exact h
def Tms (w:World)(B d:Nat)(a:Option Addr)(cs:List Tm):Prop:=∀j (h:j<cs.length),∃g off u,a=some ⟨g,off,none⟩/\g<B/\w.cell? ⟨g,off+j*3,none⟩=some (.int .i64 cs[j].op)/\w.cell? ⟨g,off+j*3+1,none⟩=some (.int .i64 cs[j].num)/\w.cell? ⟨g,off+j*3+2,none⟩=some u/\Tm.Lies w B d u cs[j]
def Lks (w:World)(B:Nat)(a:Option Addr)(ls:List (Int×Int)):Prop:=∀j (h:j<ls.length),∃g off,a=some ⟨g,off,none⟩/\g<B/\w.cell? ⟨g,off+j*2,none⟩=some (.int .i64 ls[j].1)/\w.cell? ⟨g,off+j*2+1,none⟩=some (.int .i64 ls[j].2)
theorem Tms.keep {w w':World}{B d:Nat}{a:Option Addr}{cs:List Tm}(h:Tms w B d a cs)(hk:∀k,k<B->w'.heap[k]? =w.heap[k]?):Tms w' B d a cs:=λj hj=>by
 obtain⟨g,off,u,h1,h2,c0,c1,c2,h3⟩:=h j hj;have hc:∀o,w'.cell? ⟨g,o,none⟩=w.cell? ⟨g,o,none⟩:=λo=>World.cell?_of_block (w:=w) (hk g h2);exact⟨g,off,u,h1,h2,by rw[hc];exact c0,by rw[hc];exact c1,by rw[hc];exact c2,h3.keep hk⟩
theorem Lks.keep {w w':World}{B:Nat}{a:Option Addr}{ls:List (Int×Int)}(h:Lks w B a ls)(hk:∀k,k<B->w'.heap[k]? =w.heap[k]?):Lks w' B a ls:=λj hj=>by
 obtain⟨g,off,h1,h2,c0,c1⟩:=h j hj;have hc:∀o,w'.cell? ⟨g,o,none⟩=w.cell? ⟨g,o,none⟩:=λo=>World.cell?_of_block (w:=w) (hk g h2);exact⟨g,off,h1,h2,by rw[hc];exact c0,by rw[hc];exact c1⟩
theorem Tms.wider {w:World}{B B' d:Nat}{a:Option Addr}{cs:List Tm}(h:Tms w B d a cs)(hB:B<=B'):Tms w B' d a cs:=λj hj=>by
 obtain⟨g,off,u,h1,h2,c0,c1,c2,h3⟩:=h j hj;exact⟨g,off,u,h1,by omega,c0,c1,c2,h3.wider hB⟩
theorem Lks.wider {w:World}{B B':Nat}{a:Option Addr}{ls:List (Int×Int)}(h:Lks w B a ls)(hB:B<=B'):Lks w B' a ls:=λj hj=>by
 obtain⟨g,off,h1,h2,h3⟩:=h j hj;exact⟨g,off,h1,by omega,h3⟩
theorem nds_keep {w w':World}{B d:Nat}{a:Option Addr}{ns:List Nd}(h:Nt.Nds w B d a ns)(hk:∀k,k<B->w'.heap[k]? =w.heap[k]?):Nt.Nds w' B d a ns:=λj hj=>by
 obtain⟨g,off,u,h1,h2,c0,c1,c2,c3,c4,h3⟩:=h j hj;have hc:∀o,w'.cell? ⟨g,o,none⟩=w.cell? ⟨g,o,none⟩:=λo=>World.cell?_of_block (w:=w) (hk g h2);exact⟨g,off,u,h1,h2,by rw[hc];exact c0,by rw[hc];exact c1,by rw[hc];exact c2,by rw[hc];exact c3,by rw[hc];exact c4,h3.keep hk⟩
theorem fls_keep {w w':World}{B d:Nat}{a:Option Addr}{fs:List Fl}(h:Nt.Fls w B d a fs)(hk:∀k,k<B->w'.heap[k]? =w.heap[k]?):Nt.Fls w' B d a fs:=λj hj=>by
 obtain⟨g,off,u,h1,h2,c0,c1,c2,c3,c4,c5,h3⟩:=h j hj;have hc:∀o,w'.cell? ⟨g,o,none⟩=w.cell? ⟨g,o,none⟩:=λo=>World.cell?_of_block (w:=w) (hk g h2);exact⟨g,off,u,h1,h2,by rw[hc];exact c0,by rw[hc];exact c1,by rw[hc];exact c2,by rw[hc];exact c3,by rw[hc];exact c4,by rw[hc];exact c5,h3.keep hk⟩
structure Vs where
 t:Value
 c:Value
 k:Value
 l:Value
 n:Value
 f:Value
def row (T:Ac)(V:Vs):Array Value:=#[.int .i64 T.kind,.int .i64 T.node,.int .i64 T.a,.int .i64 T.b,.int .i64 T.t.op,.int .i64 T.t.num,V.t,V.c,V.k,V.l,V.n,V.f]
structure Own (w:World)(B e:Nat)(V:Vs)(T:Ac):Prop where
 t:Tm.Lies w B e V.t T.t
 c:∃a cap,V.c=.slice a T.cs.length cap/\Tms w B e a T.cs
 l:∃a cap,V.l=.slice a T.ls.length cap/\Lks w B a T.ls
 n:∃a cap,V.n=.slice a T.ns.length cap/\Nt.Nds w B e a T.ns
 f:∃a cap,V.f=.slice a T.fs.length cap/\Nt.Fls w B e a T.fs
theorem Own.keep {w w':World}{B e:Nat}{V:Vs}{T:Ac}(h:Own w B e V T)(hk:∀k,k<B->w'.heap[k]? =w.heap[k]?):Own w' B e V T:=by
 obtain⟨h1,⟨a2,c2,e2,h2⟩,⟨a3,c3,e3,h3⟩,⟨a4,c4,e4,h4⟩,⟨a5,c5,e5,h5⟩⟩:=h;exact⟨h1.keep hk,⟨a2,c2,e2,h2.keep hk⟩,⟨a3,c3,e3,h3.keep hk⟩,⟨a4,c4,e4,nds_keep h4 hk⟩,⟨a5,c5,e5,fls_keep h5 hk⟩⟩
theorem Own.wider {w:World}{B B' e:Nat}{V:Vs}{T:Ac}(h:Own w B e V T)(hB:B<=B'):Own w B' e V T:=by
 obtain⟨h1,⟨a2,c2,e2,h2⟩,⟨a3,c3,e3,h3⟩,⟨a4,c4,e4,h4⟩,⟨a5,c5,e5,h5⟩⟩:=h;exact⟨h1.wider hB,⟨a2,c2,e2,h2.wider hB⟩,⟨a3,c3,e3,h3.wider hB⟩,⟨a4,c4,e4,h4.wider hB⟩,⟨a5,c5,e5,h5.wider hB⟩⟩
def Row (w:World)(g o:Nat)(cs:Array Value):Prop:=∀i (h:i<cs.size),w.cell? ⟨g,o+i,none⟩=some cs[i]
theorem Row.keep {w w':World}{g o:Nat}{cs:Array Value}(h:Row w g o cs)(hk:w'.heap[g]? =w.heap[g]?):Row w' g o cs:=λi hi=>by
 rw[World.cell?_of_block (w:=w) hk];exact h i hi
def Lies (w:World)(B e:Nat):Nat->Vs->Ac->Prop
 |0,_,_=>False
 |d+1,V,T=>Own w B e V T/\∃a cap,V.k=.slice a T.ks.length cap/\∀j (h:j<T.ks.length),∃g off U,a=some ⟨g,off,none⟩/\g<B/\Row w g (off+j*12) (row T.ks[j] U)/\Lies w B e d U T.ks[j]
theorem Lies.keep {w w':World}{B e:Nat}(hk:∀k,k<B->w'.heap[k]? =w.heap[k]?):∀{d:Nat} {V:Vs} {T:Ac},Lies w B e d V T->Lies w' B e d V T
 |0,_,_,h=>h.elim
 |d+1,V,T,h=>by
  obtain⟨ho,a,cap,hv,h⟩:=h;refine⟨ho.keep hk,a,cap,hv,λj hj=> ?_⟩;obtain⟨g,off,U,ha,hg,hr,h1⟩:=h j hj;exact⟨g,off,U,ha,hg,hr.keep (hk g hg),Lies.keep hk h1⟩
theorem Lies.below {w w':World}{B e:Nat}(hb:Below B w w'){d:Nat}{V:Vs}{T:Ac}(h:Lies w B e d V T):Lies w' B e d V T:=h.keep hb.block
theorem Lies.wider {w:World}{B B' e:Nat}(hB:B<=B'):∀{d:Nat} {V:Vs} {T:Ac},Lies w B e d V T->Lies w B' e d V T
 |0,_,_,h=>h.elim
 |d+1,V,T,h=>by
  obtain⟨ho,a,cap,hv,h⟩:=h;refine⟨ho.wider hB,a,cap,hv,λj hj=> ?_⟩;obtain⟨g,off,U,ha,hg,hr,h1⟩:=h j hj;exact⟨g,off,U,ha,by omega,hr,Lies.wider hB h1⟩
theorem Lies.own {w:World}{B e d:Nat}{V:Vs}{T:Ac}(h:Lies w B e d V T):Own w B e V T:=by
 cases d with
 |zero=>exact h.elim
 |succ d=>exact h.1
theorem Lies.kids {w:World}{B e d:Nat}{V:Vs}{T:Ac}(h:Lies w B e d V T):∃a cap,V.k=.slice a T.ks.length cap:=by
 cases d with
 |zero=>exact h.elim
 |succ d=>obtain⟨_,a,cap,hv,_⟩:=h;exact⟨a,cap,hv⟩
theorem Lies.shape {w:World}{B e d:Nat}{V:Vs}{T:Ac}(h:Lies w B e d V T):∃a6 c6 a7 c7 a8 c8 a9 c9 a10 c10 a11 c11,V=⟨.slice a6 T.t.ks.length c6,.slice a7 T.cs.length c7,.slice a8 T.ks.length c8,.slice a9 T.ls.length c9,.slice a10 T.ns.length c10,.slice a11 T.fs.length c11⟩:=by
 obtain⟨a6,c6,e6⟩:=h.own.t.shape;obtain⟨a7,c7,e7,_⟩:=h.own.c;obtain⟨a8,c8,e8⟩:=h.kids;obtain⟨a9,c9,e9,_⟩:=h.own.l;obtain⟨a10,c10,e10,_⟩:=h.own.n;obtain⟨a11,c11,e11,_⟩:=h.own.f;refine⟨a6,c6,a7,c7,a8,c8,a9,c9,a10,c10,a11,c11, ?_⟩
 cases V
 simp only at e6 e7 e8 e9 e10 e11;rw[e6,e7,e8,e9,e10,e11]
theorem Lies.ones {w:World}{B e d:Nat}{V:Vs}{T:Ac}(h:Lies w B e d V T):(row T V).all (·.oneCell')=true:=by
 obtain⟨a6,c6,a7,c7,a8,c8,a9,c9,a10,c10,a11,c11,rfl⟩:=h.shape;simp[row,Value.oneCell']
theorem Lies.kid {w:World}{B e d:Nat}{V:Vs}{a:Option Addr}{n cap:Nat}{T:Ac}(h:Lies w B e (d+1) V T)(hv:V.k=.slice a n cap)(j:Nat)(hj:j<T.ks.length):∃g off U,a=some ⟨g,off,none⟩/\g<B/\Row w g (off+j*12) (row T.ks[j] U)/\Lies w B e d U T.ks[j]:=by
 obtain⟨_,a',cap',hv',h⟩:=h;rw[hv]at hv';obtain⟨rfl,_,_⟩:=Value.slice.inj hv';exact h j hj
end Ac
end Go.Proofs
namespace Go.Proofs
open Go.RowKit Go.Shelf
theorem Tryz.infoIntR:(Tryz.prog.info? 3).map (λi=>(i.zero,i.size,i.bytes))=some (some (.int .i64 0),1,8):=by kernel_rfl
def Rk.nums (l:List Nat):List Value:=l.map λi:Nat=>Value.int .i64 (i:Int)
theorem Rk.nums_snoc (l:List Nat)(i:Nat):Rk.nums (l++ [i])=Rk.nums l++ [.int .i64 (i:Int)]:=by simp[Rk.nums]
theorem Rk.own_shape {w:World}{B:Nat}{e:TypeId}{size:Nat}{v:Value}{n:Nat}{cs:List Value}(h:w.ownsRow B e size v n cs):∃a c,v=.slice a n c:=by
 rcases h.2 with⟨rfl,rfl⟩|⟨g,cap,cur,rfl,_⟩
 ·exact⟨none,0,rfl⟩
 exact⟨_,_,rfl⟩
theorem Rk.own_below {w w':World}{B:Nat}{e:TypeId}{size:Nat}{v:Value}{n:Nat}{cs:List Value}(h:w.ownsRow B e size v n cs)(hb:Below w.heap.size w w'):w'.ownsRow B e size v n cs:=by
 rcases h with⟨hl,h|⟨g,cap,cur,rfl,hB,hg,h4⟩⟩
 ·exact⟨hl,.inl h⟩
 exact⟨hl,.inr ⟨g,cap,cur,rfl,hB,by rw[hb.block g (Array.getElem?_eq_some_iff.1 hg).1];exact hg,h4⟩⟩
theorem Rk.below_grown {B:Nat}{a w w':World}{v:Value}{e:TypeId}{size n:Nat}{cs:List Value}(h:Below B a w)(hB:B<=w.heap.size)(ho:w.ownsRow B e size v n cs)(hg:w.grownBy w' v.ownBlock):Below B a w':=
 h.trans ⟨hg.os,hg.tape,hg.output,hg.size,λj hj=>hg.block j (by omega) (by
  intro he
  rcases ho.2 with⟨rfl,_⟩|⟨g,cap,cur,rfl,h1,_⟩
  ·simp[Value.ownBlock]at he
  simp[Value.ownBlock]at he
  omega)⟩
theorem Rk.one_cell (w:World)(i:Int)(t:TypeId):∀j u, [Value.int .i64 i][j]? =some u->(w.alloc (.cells #[.int .i64 i] t)).cell? ((⟨w.heap.size,0,none⟩:Addr).add j)=some u:=by
 intro j u hj
 match j,hj with
 |0,hj=>simp at hj;subst hj;simp[Addr.add]
theorem Rk.one_one (i:Int):∀u∈ [Value.int .i64 i],u.oneCell'=true:=by intro u hu;simp at hu;subst hu;rfl
def Rk.Hold (g:Nat)(lb:Array Value)(p:Nat->Bool)(n:Nat)(w:World):Prop:=
 ∀(W:World) (i:Nat),i<n->Below w.heap.size w W->Calls Tryz.prog g (#[.int .i64 (i:Int)]++lb) W λe w'=>e=.returned (.bool (p i))/\Below W.heap.size W w'
theorem Tryz.places_any (p:Nat->Bool)(g:Nat)(lb:Array Value)(eg:∀args w,(callFunc g args).run Tryz.prog w=.ok (.enter g args) w)(n:Nat)(w:World)(hp:Rk.Hold g lb p n w)(hn:n<=1000):
  Calls Tryz.prog 125 #[.int .i64 n,.func (.func g) #[] lb] w λe w'=>∃v,e=.returned v/\w'.ownsRow w.heap.size 3 1 v ((List.range n).filter p).length (Rk.nums ((List.range n).filter p))/\Below w.heap.size w w':=by
 obtain⟨i0,hi,hz0,hz1,hz2⟩:=info_parts Tryz.infoIntR;have HP:Hid _:=hp;clear hp
 go_enter Tryz.func125,Tryz.ntmps125
 go_wp2
 go_loopg [5,8] n (λgk s5 s8 wr=>∃(k r:Nat) (L:List Nat),gk+k=n/\s8=.int .i64 k/\r<=k/\Hid (L=(List.range k).filter p/\L.length=r/\Below w.heap.size w wr)/\wr.ownsRow w.heap.size 3 1 s5 r (Rk.nums L))
 case atStart=>exact⟨0,0, [],by omega,rfl,Nat.le_refl _,⟨rfl,rfl,Below.refl _ w⟩,World.ownsRow_nil _ _ _ _⟩
 case round=>
  obtain⟨k,r,L,hk,rfl,hr,HB,hown⟩:=hrel;obtain⟨av,cv,rfl⟩:=Rk.own_shape hown
  by_cases hlt:k<n
  rotate_left
  ·have hd:decide ((k:Int)<n)=false:=decide_eq_false (by omega)
   go_wp2;go_ret;obtain rfl:k=n:=by omega
   rw[<-HB.out.1,HB.out.2.1];exact⟨_,rfl,hown,HB.out.2.2⟩
  have hd:decide ((k:Int)<n)=true:=decide_eq_true (by omega);have hcall:=HP.out wr k hlt HB.out.2.2
  have HF:Hid ((List.range (k+1)).filter p=L++if p k=true then [k]else []):=by
   show _=_;rw[List.range_succ,List.filter_append,<-HB.out.1]
   cases hq:p k<;>simp[hq]
  cases hq:p k with
  |false=>
   rw[hq]at hcall HF;clear hq
   go_wp2_with (go_at_fn g;refine hcall.mono ?_;rintro e w1 ⟨rfl,hb⟩)
   go_roundg (gk-1)
   case measure=>omega
   case rel=>
    refine⟨k+1,r,L,by omega,by go_num,by omega,⟨?_,HB.out.2.1,HB.out.2.2.trans (hb.mono HB.out.2.2.size)⟩,Rk.own_below hown hb⟩;rw[HF.out];simp
  |true=>
   rw[hq]at hcall HF;clear hq
   go_wp2_with (first
    |(go_at_fn g;refine hcall.mono ?_;rintro e W1 ⟨rfl,hb⟩;have own1:=Rk.own_below hown hb;have B1:Hid (Below w.heap.size w W1):=HB.out.2.2.trans (hb.mono HB.out.2.2.size);have hs1:w.heap.size<=W1.heap.size:=B1.out.size;clear hb hown hcall)
    |(at_builtin;refine wpList_append_own _ rfl _ _ 111 rfl w.heap.size 3 i0 (.int .i64 0) 1 8 Tryz.underlying111 hi hz0 hz1 hz2 rfl (by decide) _ _ _ rfl (own1.alloc _) ⟨W1.heap.size,0,none⟩ 1 1 [.int .i64 k] rfl rfl (Rk.one_cell W1 k 3) (Rk.one_one k) ?c3 ?c4 ?c5 ?_))
   case c3=>unfold maxLen;omega
   case c4=>omega
   case c5=>simp;omega
   intro v' W2 own2 g2 _;obtain⟨a2,c2,rfl⟩:=Rk.own_shape own2;go_wp2;go_roundg (gk-1)
   case measure=>omega
   case rel=>
    refine⟨k+1,r+1,L++ [k],by omega,by go_num,by omega,⟨?_,by simp[HB.out.2.1],Rk.below_grown (B1.out.alloc hs1 _) (by simp;omega) (own1.alloc _) g2⟩, ?_⟩
    ·rw[HF.out];simp
    rw[Rk.nums_snoc];exact own2
end Go.Proofs
namespace Go.Proofs
namespace Dd
def leftK (ls:List (Int×Int))(fr how:Int):Nat->List Int->List Int
 |0,s=>s
 |k+1,s=>if(ls[k]?).map Prod.fst=some fr then(leftK ls fr how k s).set k how else leftK ls fr how k s
def left (ls:List (Int×Int))(s:List Int)(fr how:Int):List Int:=leftK ls fr how ls.length s
def scan (ls:List (Int×Int))(s:List Int)(kid:Int):Nat->Option (Bool×Bool)
 |0=>some (true,false)
 |k+1=>match scan ls s kid k with
  |none=>none
  |some p=>if(ls[k]?).map Prod.snd=some kid then(if s.getD k 0=0 then none else some (p.1&&decide (s.getD k 0=1),p.2||decide (s.getD k 0=1)))else some p
def ended (ls:List (Int×Int))(s:List Int)(kid:Nat)(how:Int):List Int:=left ls (s.set (40+kid) how) kid (if how=2 then 1 else 2)
def gateB (kk:List (Int×Int))(k:Nat):Bool:=decide (((kk[k]?).getD (0,0)).1=12)
def doesI (kk:List (Int×Int))(k:Nat):Int:=((kk[k]?).getD (0,0)).2
def Dies (kk:List (Int×Int))(k:Nat)(p:Bool×Bool):Prop:=p.2=false∨(gateB kk k=true/\doesI kk k=2/\p.1=false)
instance (kk:List (Int×Int)) (k:Nat) (p:Bool×Bool):Decidable (Dies kk k p):=by unfold Dies;exact inferInstance
def Auto (kk:List (Int×Int))(k:Nat):Prop:=gateB kk k=true/\doesI kk k≠3
instance (kk:List (Int×Int)) (k:Nat):Decidable (Auto kk k):=by unfold Auto;exact inferInstance
def decided (ls kk:List (Int×Int))(s:List Int)(kid:Nat):List Int:=
 if s.getD (40+kid) 0=0 then(match scan ls s kid ls.length with
  |none=>s
  |some p=>if Dies kk kid p then ended ls s kid 3 else if Auto kk kid then ended ls s kid 2 else s.set (40+kid) 1)
 else s
def nextK (ls kk:List (Int×Int))(s:List Int):Nat->Option (List Int)
 |0=>none
 |k+1=>match nextK ls kk s k with
  |some t=>some t
  |none=>if decided ls kk s k=s then none else some (decided ls kk s k)
def settleF (ls kk:List (Int×Int)):Nat->List Int->List Int
 |0,s=>s
 |f+1,s=>match nextK ls kk s kk.length with
  |none=>s
  |some t=>settleF ls kk f t
def settle (ls kk:List (Int×Int))(s:List Int):List Int:=settleF ls kk kk.length s
def zeros:List Int:=List.replicate 104 0
def start (ls kk:List (Int×Int)):List Int:=settle ls kk (left ls zeros (-1) 1)
def waits (n:Nat)(s:List Int):Nat:=(List.range n).countP λk=>decide (s.getD (40+k) 0=0)
def heldB (xs:List Int)(most:Int):Bool:=xs.all λx=>decide (0<=x)&&decide (x<=most)
def okB (n m:Nat)(s:List Int):Bool:=((heldB ((s.take 40).take m) 2&&heldB ((s.take 40).drop m) 0))&&(heldB ((s.drop 40).take n) 3&&heldB ((s.drop 40).drop n) 0)
def runsB (n:Nat)(s:List Int)(k:Int):Bool:=decide (0<=k)&&decide (k<n)&&decide (s.getD (40+k.toNat) 0=1)
def linkAt (kid:Int):List (Int×Int)->Nat->Int->Int
 | [],_,_=> -1
 |l::r,b,o=>if l.1=kid then(if o=0 then b else linkAt kid r (b+1) (o-1))else linkAt kid r (b+1) o
def finished (ls kk:List (Int×Int))(s:List Int)(k:Nat):List Int:=settle ls kk (ended ls s k 2)
def chose (ls kk:List (Int×Int))(s:List Int)(k:Nat)(c:Nat):List Int:=settle ls kk ((left ls (s.set (40+k) 2) k 2).set c 1)
def running (n:Nat)(s:List Int):List Nat:=(List.range n).filter λk=>decide (s.getD (40+k) 0=1)
end Dd
end Go.Proofs
namespace Go.Proofs
namespace Dd
structure Inv (ls kk:List (Int×Int))(s:List Int):Prop where
 len:s.length=104
 lv:∀i,i<40->0<=s.getD i 0/\s.getD i 0<=if i<ls.length then 2 else 0
 kv:∀k,k<64->0<=s.getD (40+k) 0/\s.getD (40+k) 0<=if k<kk.length then 3 else 0
 lo:∀i f,(ls[i]?).map Prod.fst=some ((f:Nat):Int)->(s.getD i 0=0↔s.getD (40+f) 0<2)
 out:∀i,(ls[i]?).map Prod.fst=some (-1)->s.getD i 0=1
 gt:∀k,s.getD (40+k) 0=1->¬Auto kk k
 skip:∀i f,(ls[i]?).map Prod.fst=some ((f:Nat):Int)->s.getD (40+f) 0=3->s.getD i 0=2
 done:∀i f,(ls[i]?).map Prod.fst=some ((f:Nat):Int)->s.getD (40+f) 0=2->(gateB kk f=true->doesI kk f≠3)->s.getD i 0=1
 fate:∀k,k<kk.length->s.getD (40+k) 0≠0->∃p,scan ls s k ls.length=some p/\(Dies kk k p->s.getD (40+k) 0=3)/\(¬Dies kk k p->Auto kk k->s.getD (40+k) 0=2)/\(¬Dies kk k p->¬Auto kk k->s.getD (40+k) 0=1∨s.getD (40+k) 0=2)
structure Web (ls kk:List (Int×Int)):Prop where
 l40:ls.length<=40
 k64:kk.length<=64
 fr:∀(i:Nat) (x:Int),(ls[i]?).map Prod.fst=some x->x= -1∨∃f:Nat,x=f/\f<kk.length
structure Kept (ls kk:List (Int×Int))(s t:List Int):Prop where
 l:∀i,i<40->s.getD i 0≠0->t.getD i 0=s.getD i 0
 k:∀k,k<64->s.getD (40+k) 0≠0->t.getD (40+k) 0=s.getD (40+k) 0
 d:∀k,k<64->¬Auto kk k->t.getD (40+k) 0=2->s.getD (40+k) 0=2
def Calm (ls kk:List (Int×Int))(s:List Int):Prop:=∀k,k<kk.length->s.getD (40+k) 0≠0∨scan ls s k ls.length=none
end Dd
end Go.Proofs
namespace Go.Proofs
namespace Dd
def cnt (n:Nat)(s:List Int):Nat:=(List.range n).countP λk=>decide (s.getD (40+k) 0<2)
structure After (ls kk:List (Int×Int))(s:List Int)(kid:Nat)(t:List Int):Prop where
 inv:Inv ls kk t
 calm:Calm ls kk t
 l:∀i,i<40->s.getD i 0≠0->t.getD i 0=s.getD i 0
 k:∀j,j<64->j≠kid->s.getD (40+j) 0≠0->t.getD (40+j) 0=s.getD (40+j) 0
 self:t.getD (40+kid) 0=2
 d:∀j,j<64->¬Auto kk j->(t.getD (40+j) 0=2↔s.getD (40+j) 0=2∨j=kid)
def Free (ls:List (Int×Int))(rk:Nat->Nat):Prop:=∀(i f t:Nat),ls[i]? =some ((f:Int),(t:Int))->rk f<rk t
end Dd
end Go.Proofs
