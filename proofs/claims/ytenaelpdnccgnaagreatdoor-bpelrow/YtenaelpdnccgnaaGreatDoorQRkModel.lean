import Derived.Test.YtenaelpdnccgnaaGreatDoorRPBase
import Derived.Test.YtenaelpdnccgnaaGreatDoorProg
import Derived.Test.YtenaelpdnccgnaaGreatDoorQTmModel
import Derived.Shelf.Abstract
set_option maxRecDepth 100000
set_option maxHeartbeats 32000000
namespace Go.Proofs
inductive Rk.Reach (es:List (Nat×Nat)):Nat->Nat->Prop
 |refl (a:Nat):Rk.Reach es a a
 |step {a b c:Nat} :Rk.Reach es a b->(b,c)∈es->Rk.Reach es a c
def Rk.Leads (es:List (Nat×Nat))(a c:Nat):Prop:=∃b,Rk.Reach es a b/\(b,c)∈es
theorem Rk.Reach.trans {es:List (Nat×Nat)}{a b c:Nat}(h:Rk.Reach es a b)(k:Rk.Reach es b c):Rk.Reach es a c:=by
 induction k with
 |refl=>exact h
 |step _ m ih=>exact ih.step m
theorem Rk.Leads.reach {es:List (Nat×Nat)}{a c:Nat}(h:Rk.Leads es a c):Rk.Reach es a c:=by
 obtain⟨b,h,m⟩:=h;exact h.step m
theorem Rk.Reach.back {es:List (Nat×Nat)}{a b:Nat}(h:Rk.Reach es a b):Rk.Reach (es.map λe=>(e.2,e.1)) b a:=by
 induction h with
 |refl=>exact .refl _
 |step h m ih=>
  refine Rk.Reach.trans (.step (.refl _) (List.mem_map.2 ⟨_,m,rfl⟩)) ih
theorem Rk.back_iff (es:List (Nat×Nat))(a b:Nat):Rk.Reach (es.map λe=>(e.2,e.1)) b a↔Rk.Reach es a b:=by
 constructor
 ·intro h
  have:=h.back
  rwa [List.map_map,show((λe:Nat×Nat=>(e.2,e.1))∘λe:Nat×Nat=>(e.2,e.1))=id from rfl,List.map_id]at this
 exact Rk.Reach.back
open Classical in
noncomputable def Rk.met (es:List (Nat×Nat))(a b:Nat):Bool:=decide (Rk.Reach es a b)
open Classical in
noncomputable def Rk.lead (es:List (Nat×Nat))(a b:Nat):Bool:=decide (Rk.Leads es a b)
theorem Rk.met_iff (es:List (Nat×Nat))(a b:Nat):Rk.met es a b=true↔Rk.Reach es a b:=by simp[Rk.met]
theorem Rk.lead_iff (es:List (Nat×Nat))(a b:Nat):Rk.lead es a b=true↔Rk.Leads es a b:=by simp[Rk.lead]
abbrev Rk.on (bs:List Bool) (i:Nat):Prop:=bs[i]? =some true
theorem Rk.on_set {bs:List Bool}{i j:Nat}(hj:j<bs.length):Rk.on (bs.set j true) i↔i=j∨Rk.on bs i:=by
 unfold Rk.on;rw[List.getElem?_set]
 by_cases h:j=i
 ·subst h
  simp[hj]
 simp[h];omega
def Rk.Way (es:List (Nat×Nat))(n a:Nat)(bs:List Bool):Prop:=bs.length=n/\Rk.on bs a/\∀i,Rk.on bs i->Rk.Reach es a i
def Rk.Shut (es:List (Nat×Nat))(bs:List Bool):Prop:=∀e,e∈es->Rk.on bs e.1->Rk.on bs e.2
theorem Rk.Way.done {es:List (Nat×Nat)}{n a:Nat}{bs:List Bool}(h:Rk.Way es n a bs)(hs:Rk.Shut es bs):bs=(List.range n).map (Rk.met es a):=by
 have hc:∀i,Rk.Reach es a i->Rk.on bs i:=by
  intro i hi
  induction hi with
  |refl=>exact h.2.1
  |step _ m ih=>exact hs _ m ih
 apply List.ext_getElem?;intro i
 by_cases hi:i<n
 rotate_left
 ·rw[List.getElem?_eq_none (by rw[h.1];omega),List.getElem?_eq_none (by simp;omega)]
 rw[List.getElem?_map,List.getElem?_range hi];have hl:i<bs.length:=by rw[h.1];exact hi
 rw[List.getElem?_eq_getElem hl];show some _=some _
 congr 1
 rw[Bool.eq_iff_iff,Rk.met_iff]
 constructor
 ·intro hb
  exact h.2.2 i (by unfold Rk.on;rw[List.getElem?_eq_getElem hl,hb])
 intro hr;have:=hc i hr;unfold Rk.on at this;rw[List.getElem?_eq_getElem hl]at this;exact Option.some.inj this
theorem Rk.Way.mark {es:List (Nat×Nat)}{n a x y:Nat}{bs:List Bool}(h:Rk.Way es n a bs)(m:(x,y)∈es)(hx:Rk.on bs x)(hy:y<n):Rk.Way es n a (bs.set y true):=by
 have hl:y<bs.length:=by rw[h.1];exact hy
 refine⟨by simpa using h.1,(Rk.on_set hl).2 (.inr h.2.1),λi hi=> ?_⟩
 rcases(Rk.on_set hl).1 hi with rfl|hi
 ·exact(h.2.2 x hx).step m
 exact h.2.2 i hi
theorem Rk.Way.start (es:List (Nat×Nat)){n a:Nat}(ha:a<n):Rk.Way es n a ((List.replicate n false).set a true):=by
 have hl:a<(List.replicate n false).length:=by simpa using ha
 refine⟨by simp,(Rk.on_set hl).2 (.inl rfl),λi hi=> ?_⟩
 rcases(Rk.on_set hl).1 hi with rfl|hi
 ·exact .refl _
 unfold Rk.on at hi;rw[List.getElem?_replicate]at hi
 split at hi<;>simp at hi
def Rk.left (bs:List Bool):Nat:=bs.countP λb=> !b
theorem Rk.left_le (bs:List Bool):Rk.left bs<=bs.length:=List.countP_le_length
theorem Rk.left_set:∀(bs:List Bool) (i:Nat),bs[i]? =some false->Rk.left (bs.set i true)+1=Rk.left bs
 | [],i,h=>by simp at h
 |b::bs,0,h=>by
  simp at h;subst h;simp[Rk.left]
 |b::bs,i+1,h=>by
  have:=Rk.left_set bs i (by simpa using h);unfold Rk.left at*
  cases b<;>simp at* <;>omega
def Rk.sweep:List (Nat×Nat)->List Bool->List Bool
 | [],bs=>bs
 |e::es,bs=>Rk.sweep es (if bs[e.1]? =some true then bs.set e.2 true else bs)
theorem Rk.sweep_length:∀(es:List (Nat×Nat)) (bs:List Bool),(Rk.sweep es bs).length=bs.length
 | [],_=>rfl
 |e::es,bs=>by
  rw[Rk.sweep,Rk.sweep_length es]
  split<;>simp
theorem Rk.one_keeps (bs:List Bool)(x y i:Nat)(h:Rk.on bs i):Rk.on (if bs[x]? =some true then bs.set y true else bs) i:=by
 split
 ·unfold Rk.on at*
  rw[List.getElem?_set];have hl:i<bs.length:=(List.getElem?_eq_some_iff.1 h).1
  split
  ·subst_vars;simp[hl]
  exact h
 exact h
theorem Rk.sweep_keeps:∀(es:List (Nat×Nat)) (bs:List Bool) (i:Nat),Rk.on bs i->Rk.on (Rk.sweep es bs) i
 | [],_,_,h=>h
 |e::es,bs,i,h=>Rk.sweep_keeps es _ i (Rk.one_keeps bs e.1 e.2 i h)
theorem Rk.sweep_does:∀(es:List (Nat×Nat)) (bs:List Bool) (e:Nat×Nat),e∈es->e.2<bs.length->Rk.on bs e.1->Rk.on (Rk.sweep es bs) e.2
 | [],_,_,h,_,_=>by simp at h
 |f::es,bs,e,h,hl,ho=>by
  rcases List.mem_cons.1 h with rfl|h
  ·rw[Rk.sweep]
   refine Rk.sweep_keeps es _ _ ?_;rw[if_pos ho];exact(Rk.on_set hl).2 (.inl rfl)
  rw[Rk.sweep];refine Rk.sweep_does es _ e h ?_ (Rk.one_keeps bs f.1 f.2 e.1 ho)
  split<;>simpa using hl
theorem Rk.sweep_only {fs:List (Nat×Nat)}{a:Nat} :∀(es:List (Nat×Nat)) (bs:List Bool),(∀e,e∈es->e∈fs)->(∀i,Rk.on bs i->Rk.Leads fs a i)->∀i,Rk.on (Rk.sweep es bs) i->Rk.Leads fs a i
 | [],_,_,h,i,hi=>h i hi
 |e::es,bs,hs,h,i,hi=>by
  refine Rk.sweep_only es _ (λx hx=>hs x (List.mem_cons_of_mem _ hx)) (λj hj=> ?_) i hi
  split at hj
  ·next hx=>
   unfold Rk.on at hj;rw[List.getElem?_set]at hj
   split at hj
   ·next he=>
    subst he;exact⟨e.1,(h e.1 hx).reach,hs e List.mem_cons_self⟩
   exact h j hj
  exact h j hj
def Rk.sweeps (es:List (Nat×Nat)):Nat->List Bool->List Bool
 |0,bs=>bs
 |k+1,bs=>Rk.sweeps es k (Rk.sweep es bs)
theorem Rk.sweeps_length (es:List (Nat×Nat)):∀(k:Nat) (bs:List Bool),(Rk.sweeps es k bs).length=bs.length
 |0,_=>rfl
 |k+1,bs=>by rw[Rk.sweeps,Rk.sweeps_length es k,Rk.sweep_length]
theorem Rk.sweeps_keeps (es:List (Nat×Nat)):∀(k:Nat) (bs:List Bool) (i:Nat),Rk.on bs i->Rk.on (Rk.sweeps es k bs) i
 |0,_,_,h=>h
 |k+1,bs,i,h=>Rk.sweeps_keeps es k _ i (Rk.sweep_keeps es bs i h)
theorem Rk.sweeps_only {es:List (Nat×Nat)}{a:Nat} :∀(k:Nat) (bs:List Bool),(∀i,Rk.on bs i->Rk.Leads es a i)->∀i,Rk.on (Rk.sweeps es k bs) i->Rk.Leads es a i
 |0,_,h,i,hi=>h i hi
 |k+1,bs,h,i,hi=>Rk.sweeps_only k _ (Rk.sweep_only es bs (λ_ h=>h) h) i hi
theorem Rk.left_mono:∀(bs cs:List Bool),bs.length=cs.length->(∀i,Rk.on bs i->Rk.on cs i)->Rk.left cs<=Rk.left bs/\(Rk.left cs=Rk.left bs->cs=bs)
 | [], [],_,_=>by simp
 | [],c::cs,h,_=>by simp at h
 |b::bs, [],h,_=>by simp at h
 |b::bs,c::cs,h,hk=>by
  have ih:=Rk.left_mono bs cs (by simpa using h) (λi hi=>by simpa [Rk.on]using hk (i+1) (by simpa [Rk.on]using hi));have h0:=hk 0;unfold Rk.left at*
  cases b<;>cases c<;>simp[Rk.on]at h0⊢ <;>first|exact ih|skip
  constructor
  ·omega
  omega
theorem Rk.sweeps_shut {es:List (Nat×Nat)} :∀(k:Nat) (bs:List Bool),(∀e,e∈es->e.2<bs.length)->Rk.left bs<=k->Rk.Shut es (Rk.sweeps es k bs)
 |0,bs,hl,hk=>by
  intro e he _;have h0:Rk.left bs=0:=by omega
  unfold Rk.left at h0;rw[List.countP_eq_zero]at h0;have hb:=hl e he;show Rk.on bs e.2;unfold Rk.on;rw[List.getElem?_eq_getElem hb];have:=h0 _ (List.getElem_mem hb);simpa using this
 |k+1,bs,hl,hk=>by
  have hm:=Rk.left_mono bs (Rk.sweep es bs) (Rk.sweep_length es bs).symm (Rk.sweep_keeps es bs)
  by_cases he:Rk.left (Rk.sweep es bs)=Rk.left bs
  ·have hs:=hm.2 he
   have hsh:Rk.Shut es bs:=λe hm ho=>by
    have:=Rk.sweep_does es bs e hm (hl e hm) ho
    rwa [hs]at this
   have hfix:∀j,Rk.sweeps es j bs=bs:=by
    intro j
    induction j with
    |zero=>rfl
    |succ j ih=>rw[Rk.sweeps,hs,ih]
   rw[hfix];exact hsh
  rw[Rk.sweeps];exact Rk.sweeps_shut k _ (λe h=>by rw[Rk.sweep_length];exact hl e h) (by omega)
def Rk.first (a:Nat):List (Nat×Nat)->List Bool->List Bool
 | [],bs=>bs
 |e::es,bs=>Rk.first a es (if e.1=a then bs.set e.2 true else bs)
theorem Rk.first_length (a:Nat):∀(es:List (Nat×Nat)) (bs:List Bool),(Rk.first a es bs).length=bs.length
 | [],_=>rfl
 |e::es,bs=>by
  rw[Rk.first,Rk.first_length a es]
  split<;>simp
theorem Rk.first_iff (a:Nat)(i:Nat):∀(es:List (Nat×Nat)) (bs:List Bool),(∀e,e∈es->e.2<bs.length)->(Rk.on (Rk.first a es bs) i↔Rk.on bs i∨(a,i)∈es)
 | [],bs,_=>by simp[Rk.first]
 |e::es,bs,hl=>by
  obtain⟨x,y⟩:=e;rw[Rk.first]
  by_cases hx:x=a
  ·subst hx
   rw[if_pos rfl,Rk.first_iff x i es _ (λe h=>by rw[List.length_set];exact hl e (List.mem_cons_of_mem _ h)),Rk.on_set (hl (x,y) List.mem_cons_self)];simp only[List.mem_cons,Prod.mk.injEq,true_and]
   constructor
   ·rintro((h|h)|h)
    ·exact .inr (.inl h)
    ·exact .inl h
    exact .inr (.inr h)
   rintro(h|h|h)
   ·exact .inl (.inr h)
   ·exact .inl (.inl h)
   exact .inr h
  rw[if_neg hx,Rk.first_iff a i es _ (λe h=>hl e (List.mem_cons_of_mem _ h))];simp only[List.mem_cons,Prod.mk.injEq]
  constructor
  ·rintro(h|h)
   ·exact .inl h
   exact .inr (.inr h)
  rintro(h|⟨h,_⟩|h)
  ·exact .inl h
  ·exact absurd h.symm hx
  exact .inr h
theorem Rk.sweeps_eq {es:List (Nat×Nat)}{n:Nat}(hes:∀e,e∈es->e.1<n/\e.2<n)(a:Nat):
  Rk.sweeps es n (Rk.first a es (List.replicate n false))=(List.range n).map (Rk.lead es a):=by
 have hf:=λi=>Rk.first_iff a i es (List.replicate n false) (λe h=>by simpa using(hes e h).2);have hfl:(Rk.first a es (List.replicate n false)).length=n:=by rw[Rk.first_length];simp
 have hno:∀i,¬Rk.on (List.replicate n false) i:=by
  intro i h;unfold Rk.on at h;rw[List.getElem?_replicate]at h
  split at h<;>simp at h
 have honly:∀i,Rk.on (Rk.sweeps es n (Rk.first a es (List.replicate n false))) i->Rk.Leads es a i:=
  Rk.sweeps_only n _ (λi hi=>by
   rcases(hf i).1 hi with h|h
   ·exact absurd h (hno i)
   exact⟨a,.refl a,h⟩)
 have hshut:=Rk.sweeps_shut (es:=es) n (Rk.first a es (List.replicate n false)) (λe h=>by rw[hfl];exact(hes e h).2) (by have:=Rk.left_le (Rk.first a es (List.replicate n false));omega);have hfirst:∀i,(a,i)∈es->Rk.on (Rk.sweeps es n (Rk.first a es (List.replicate n false))) i:=λi h=>Rk.sweeps_keeps es n _ i ((hf i).2 (.inr h))
 have hall:∀i,Rk.Leads es a i->Rk.on (Rk.sweeps es n (Rk.first a es (List.replicate n false))) i:=by
  rintro i ⟨b,hr,m⟩
  have:b=a∨Rk.on (Rk.sweeps es n (Rk.first a es (List.replicate n false))) b:=by
   clear m
   induction hr with
   |refl=>exact .inl rfl
   |step _ m ih=>
    rcases ih with rfl|ih
    ·exact .inr (hfirst _ m)
    exact .inr (hshut _ m ih)
  rcases this with rfl|h
  ·exact hfirst _ m
  exact hshut _ m h
 have hlen:(Rk.sweeps es n (Rk.first a es (List.replicate n false))).length=n:=by rw[Rk.sweeps_length,hfl]
 apply List.ext_getElem?;intro i
 by_cases hi:i<n
 rotate_left
 ·rw[List.getElem?_eq_none (by rw[hlen];omega),List.getElem?_eq_none (by simp;omega)]
 rw[List.getElem?_map,List.getElem?_range hi];have hl:i<(Rk.sweeps es n (Rk.first a es (List.replicate n false))).length:=by rw[hlen];exact hi
 rw[List.getElem?_eq_getElem hl];show some _=some _
 congr 1
 rw[Bool.eq_iff_iff,Rk.lead_iff]
 constructor
 ·intro hb
  exact honly i (by unfold Rk.on;rw[List.getElem?_eq_getElem hl,hb])
 intro hr;have:=hall i hr;unfold Rk.on at this;rw[List.getElem?_eq_getElem hl]at this;exact Option.some.inj this
end Go.Proofs
namespace Go.Proofs
open Go.RowKit
structure Nd where
 kind:Int
 a:Int
 t:Tm
structure Fl where
 fr:Int
 to:Int
 els:Bool
 c:Tm
namespace Nt
def zeroB (T:Tm):Bool:=decide (T.op=0)&&decide (T.num=0)&&decide (T.ks.length=0)
def ofB (T:Tm)(k:Int):Bool:=decide (T.checkR.2=0)&&decide (T.checkR.1=k)
def mostN (k:Int):Int:=if k=3∨k=4 then 3 else if k=8 then 4 else 0
def oneB (x:Nd):Bool:=decide (1<=x.kind/\x.kind<=8/\0<=x.a/\x.a<=mostN x.kind)&&(if x.kind=4 then ofB x.t 1 else zeroB x.t)
def isNodeB (n:Nat)(i:Int):Bool:=decide (0<=i)&&decide (i<n)
def kindAt (ns:List Nd)(i:Nat):Int:=(ns[i]?.map Nd.kind).getD 0
def outsN (fs:List Fl)(i:Int):Nat:=fs.countP λf=>decide (f.fr=i)
def insN (fs:List Fl)(i:Int):Nat:=fs.countP λf=>decide (f.to=i)
def elsesN (fs:List Fl)(i:Int):Nat:=fs.countP λf=>decide (f.fr=i)&&f.els
def othersN (ns:List Nd)(fs:List Fl)(i:Int):Nat:=fs.countP λf=>decide (f.fr=i)&& !decide (kindAt ns f.to.toNat=8)
def outsL (fs:List Fl)(i:Int):List Nat:=(List.range fs.length).filter λk=>decide ((fs[k]?.map Fl.fr)=some i)
def insL (fs:List Fl)(i:Int):List Nat:=(List.range fs.length).filter λk=>decide ((fs[k]?.map Fl.to)=some i)
def chosenB (ns:List Nd)(fs:List Fl)(f:Fl):Bool:=decide (kindAt ns f.fr.toNat=5)&&decide (2<=outsN fs f.fr)
def condB (f:Fl)(ch:Bool):Bool:=if ch=true/\f.els=false then ofB f.c 2 else(ch==f.els)&&zeroB f.c
def twoB (ns:List Nd)(fs:List Fl)(f:Fl):Bool:=isNodeB ns.length f.fr&&isNodeB ns.length f.to&& !decide (f.fr=f.to)&&condB f (chosenB ns fs f)
def joinB (k:Int)(a b el ot:Nat):Bool:=
 if k=1 then decide (a=0/\b=1)else if k=2 then decide (a=1/\b=0)else if k=5 then decide ((a=1/\2<=b/\el=1)∨(2<=a/\b=1))
 else if k=6 then decide ((a=1/\2<=b)∨(2<=a/\b=1))else if k=7 then decide (a=1/\2<=b/\ot=0)else decide (a=1/\b=1)
def threeB (ns:List Nd)(fs:List Fl)(i:Nat):Bool:=joinB (kindAt ns i) (insN fs i) (outsN fs i) (elsesN fs i) (othersN ns fs i)
def firstI (ns:List Nd)(k:Int):Int:=match ns.findIdx? (λx=>decide (x.kind=k))with
 |some i=>(i:Int)
 |none=> -1
def jointB (ns:List Nd)(fs:List Fl)(i:Nat):Bool:=threeB ns fs i&& !(decide (kindAt ns i=1)&& !decide ((i:Int)=firstI ns 1))&& !(decide (kindAt ns i=2)&& !decide ((i:Int)=firstI ns 2))
def edges (fs:List Fl):List (Nat×Nat):=fs.map λf=>(f.fr.toNat,f.to.toNat)
noncomputable def roadB (ns:List Nd)(fs:List Fl)(i:Nat):Bool:=Rk.met (edges fs) (firstI ns 1).toNat i&&Rk.met (edges fs) i (firstI ns 2).toNat
def hugeB (ns:List Nd)(fs:List Fl):Bool:=decide (24<ns.length)||decide (40<fs.length)
def wrong1 (ns:List Nd)(fs:List Fl):List Nat:=if hugeB ns fs=true then [0]else(List.range ns.length).filter λi=> !((ns[i]?.map oneB).getD true)
def wrong2 (ns:List Nd)(fs:List Fl):List Nat:=(List.range fs.length).filter λi=> !((fs[i]?.map (twoB ns fs)).getD true)
def lostB (ns:List Nd):Bool:=decide (firstI ns 1<0)||decide (firstI ns 2<0)
def wrong3 (ns:List Nd)(fs:List Fl):List Nat:=((List.range ns.length).filter λi=> !jointB ns fs i)++if lostB ns=true then [ns.length]else []
noncomputable def wrong4 (ns:List Nd)(fs:List Fl):List Nat:=(List.range ns.length).filter λi=> !roadB ns fs i
noncomputable def broken (ns:List Nd)(fs:List Fl):Nat×List Nat:=
 if(wrong1 ns fs).isEmpty=false then(1,wrong1 ns fs)else if(wrong2 ns fs).isEmpty=false then(2,wrong2 ns fs)else if(wrong3 ns fs).isEmpty=false then(3,wrong3 ns fs)
 else if(wrong4 ns fs).isEmpty=false then(4,wrong4 ns fs)else(0, [])
noncomputable def checkN (ns:List Nd)(fs:List Fl):Nat×Nat:=((broken ns fs).1,(broken ns fs).2.headD 0)
theorem filter_take {α:Type}(p:α->Bool)(l:List α):∀k,k<=l.length->((List.range k).filter λj=>((l[j]?.map p).getD false)).length=(l.take k).countP p:=by
 intro k
 induction k with
 |zero=>simp
 |succ k ih=>
  intro hk;rw[List.range_succ,List.filter_append,List.length_append,ih (by omega),Tm.take_snoc l k (by omega),List.countP_append]
  congr 1
  have hk':k<l.length:=by omega
  cases hp:p l[k]<;>simp[hk',hp]
theorem filter_len {α:Type}(p:α->Bool)(l:List α):((List.range l.length).filter λk=>((l[k]?.map p).getD false)).length=l.countP p:=by
 rw[filter_take p l l.length (Nat.le_refl _),List.take_length]
theorem outsL_eq (fs:List Fl)(i:Int):outsL fs i=(List.range fs.length).filter λk=>((fs[k]?.map λf=>decide (f.fr=i)).getD false):=by
 refine List.filter_congr λk hk=> ?_;rw[List.getElem?_eq_getElem (List.mem_range.1 hk)]
 simp
theorem insL_eq (fs:List Fl)(i:Int):insL fs i=(List.range fs.length).filter λk=>((fs[k]?.map λf=>decide (f.to=i)).getD false):=by
 refine List.filter_congr λk hk=> ?_;rw[List.getElem?_eq_getElem (List.mem_range.1 hk)]
 simp
theorem outsL_len (fs:List Fl)(i:Int):(outsL fs i).length=outsN fs i:=by rw[outsL_eq,filter_len];rfl
theorem insL_len (fs:List Fl)(i:Int):(insL fs i).length=insN fs i:=by rw[insL_eq,filter_len];rfl
theorem kindAt_get (ns:List Nd)(i:Nat)(h:i<ns.length):kindAt ns i=ns[i].kind:=by simp[kindAt,List.getElem?_eq_getElem h]
theorem filter_nil {n:Nat}{p:Nat->Bool}(h:((List.range n).filter p).isEmpty=true):∀i,i<n->p i=false:=by
 intro i hi;rw[List.isEmpty_iff,List.filter_eq_nil_iff]at h;simpa using h i (List.mem_range.2 hi)
theorem one_keeps {ns:List Nd}{fs:List Fl}(h:(wrong1 ns fs).isEmpty=true):ns.length<=24/\fs.length<=40:=by
 unfold wrong1 at h
 split at h
 ·simp at h
 next hh=>simpa [hugeB,Nat.not_lt]using hh
theorem two_keeps {ns:List Nd}{fs:List Fl}(h:(wrong2 ns fs).isEmpty=true):∀f,f∈fs->0<=f.fr/\f.fr<ns.length/\0<=f.to/\f.to<ns.length/\twoB ns fs f=true:=by
 intro f hf;obtain⟨i,hi,rfl⟩:=List.mem_iff_getElem.1 hf;have:=filter_nil h i hi;rw[List.getElem?_eq_getElem hi]at this;have h2:twoB ns fs fs[i]=true:=by simpa using this
 refine⟨?_, ?_, ?_, ?_,h2⟩<;>simp[twoB,isNodeB]at h2<;>omega
theorem three_keeps {ns:List Nd}{fs:List Fl}(h:(wrong3 ns fs).isEmpty=true):0<=firstI ns 1/\0<=firstI ns 2:=by
 unfold wrong3 at h
 split at h
 ·simp at h
 next hh=>simp[lostB]at hh;exact hh
theorem firstI_lt (ns:List Nd)(k:Int):firstI ns k<ns.length:=by
 unfold firstI
 split
 ·next i h=>
  have:=(List.findIdx?_eq_some_iff_getElem.1 h).1;omega
 omega
def Nds (w:World)(B d:Nat)(a:Option Addr)(ns:List Nd):Prop:=∀j (h:j<ns.length),∃g off u,a=some ⟨g,off,none⟩/\g<B/\w.cell? ⟨g,off+j*5,none⟩=some (.int .i64 ns[j].kind)/\w.cell? ⟨g,off+j*5+1,none⟩=some (.int .i64 ns[j].a)/\
 w.cell? ⟨g,off+j*5+2,none⟩=some (.int .i64 ns[j].t.op)/\w.cell? ⟨g,off+j*5+3,none⟩=some (.int .i64 ns[j].t.num)/\w.cell? ⟨g,off+j*5+4,none⟩=some u/\Tm.Lies w B d u ns[j].t
def Fls (w:World)(B d:Nat)(a:Option Addr)(fs:List Fl):Prop:=∀j (h:j<fs.length),∃g off u,a=some ⟨g,off,none⟩/\g<B/\w.cell? ⟨g,off+j*6,none⟩=some (.int .i64 fs[j].fr)/\w.cell? ⟨g,off+j*6+1,none⟩=some (.int .i64 fs[j].to)/\
 w.cell? ⟨g,off+j*6+2,none⟩=some (.bool fs[j].els)/\w.cell? ⟨g,off+j*6+3,none⟩=some (.int .i64 fs[j].c.op)/\w.cell? ⟨g,off+j*6+4,none⟩=some (.int .i64 fs[j].c.num)/\w.cell? ⟨g,off+j*6+5,none⟩=some u/\Tm.Lies w B d u fs[j].c
theorem Nds.below {w w':World}{B d:Nat}{a:Option Addr}{ns:List Nd}(h:Nds w B d a ns)(hb:Below B w w'):Nds w' B d a ns:=λj hj=>by
 obtain⟨g,off,u,h1,h2,c0,c1,c2,c3,c4,h3⟩:=h j hj;have hc:∀o,w'.cell? ⟨g,o,none⟩=w.cell? ⟨g,o,none⟩:=λo=>hb.cell (p:=⟨g,o,none⟩) h2;exact⟨g,off,u,h1,h2,by rw[hc];exact c0,by rw[hc];exact c1,by rw[hc];exact c2,by rw[hc];exact c3,by rw[hc];exact c4,h3.below hb⟩
theorem Fls.below {w w':World}{B d:Nat}{a:Option Addr}{fs:List Fl}(h:Fls w B d a fs)(hb:Below B w w'):Fls w' B d a fs:=λj hj=>by
 obtain⟨g,off,u,h1,h2,c0,c1,c2,c3,c4,c5,h3⟩:=h j hj;have hc:∀o,w'.cell? ⟨g,o,none⟩=w.cell? ⟨g,o,none⟩:=λo=>hb.cell (p:=⟨g,o,none⟩) h2;exact⟨g,off,u,h1,h2,by rw[hc];exact c0,by rw[hc];exact c1,by rw[hc];exact c2,by rw[hc];exact c3,by rw[hc];exact c4,by rw[hc];exact c5,h3.below hb⟩
theorem Nds.wider {w:World}{B B' d:Nat}{a:Option Addr}{ns:List Nd}(h:Nds w B d a ns)(hB:B<=B'):Nds w B' d a ns:=λj hj=>by
 obtain⟨g,off,u,h1,h2,c0,c1,c2,c3,c4,h3⟩:=h j hj;exact⟨g,off,u,h1,by omega,c0,c1,c2,c3,c4,h3.wider hB⟩
theorem Fls.wider {w:World}{B B' d:Nat}{a:Option Addr}{fs:List Fl}(h:Fls w B d a fs)(hB:B<=B'):Fls w B' d a fs:=λj hj=>by
 obtain⟨g,off,u,h1,h2,c0,c1,c2,c3,c4,c5,h3⟩:=h j hj;exact⟨g,off,u,h1,by omega,c0,c1,c2,c3,c4,c5,h3.wider hB⟩
end Nt
structure Nt.Has (w:World)(B d:Nat)(an af:Option Addr)(ns:List Nd)(fs:List Fl):Prop where
 nds:Nt.Nds w B d an ns
 fls:Nt.Fls w B d af fs
 nlen:ns.length<=100
 flen:fs.length<=100
 nsz:∀x,x∈ns->x.t.size<=2147483647
 fsz:∀x,x∈fs->x.c.size<=2147483647
theorem Nt.Has.below {w w':World}{B d:Nat}{an af:Option Addr}{ns:List Nd}{fs:List Fl}(h:Nt.Has w B d an af ns fs)(hb:Below B w w'):Nt.Has w' B d an af ns fs:=⟨h.nds.below hb,h.fls.below hb,h.nlen,h.flen,h.nsz,h.fsz⟩
theorem Nt.Has.wider {w:World}{B B' d:Nat}{an af:Option Addr}{ns:List Nd}{fs:List Fl}(h:Nt.Has w B d an af ns fs)(hB:B<=B'):Nt.Has w B' d an af ns fs:=⟨h.nds.wider hB,h.fls.wider hB,h.nlen,h.flen,h.nsz,h.fsz⟩
end Go.Proofs
namespace Go.Proofs
def Rk.freeB (es:List (Nat×Nat))(tk:List Bool)(i:Nat):Bool:= !(es.any λe=>decide (e.2=i)&& !(tk[e.1]?.getD false))
def Rk.nextB (es:List (Nat×Nat))(tk:List Bool)(i:Nat):Bool:= !(tk[i]?.getD false)&&Rk.freeB es tk i
def Rk.go (n:Nat)(es:List (Nat×Nat)):Nat->List Bool->List Nat->List Nat
 |0,_,o=>o
 |k+1,tk,o=>match (List.range n).find? (Rk.nextB es tk)with
  |none=>o
  |some i=>Rk.go n es k (tk.set i true) (o++ [i])
def Rk.order (n:Nat)(es:List (Nat×Nat)):List Nat:=Rk.go n es n (List.replicate n false) []
structure Rk.Took (n:Nat)(es:List (Nat×Nat))(tk:List Bool)(o:List Nat):Prop where
 len:tk.length=n
 mem:∀i,Rk.on tk i↔i∈o
 nodup:o.Nodup
 lt:∀i,i∈o->i<n
 ahead:∀e,e∈es->∀j:Nat,o[j]? =some e.2->∃k:Nat,k<j/\o[k]? =some e.1
 left:Rk.left tk+o.length=n
end Go.Proofs
namespace Go.Proofs
open Go.RowKit Go.Shelf
def Rq.Bits (w:World)(g:Nat)(bs:List Bool):Prop:=w.heap[g]? =some (.cells (bs.map Value.bool).toArray 4 (0,0))
theorem Rq.Bits.lt {w:World}{g:Nat}{bs:List Bool}(h:Rq.Bits w g bs):g<w.heap.size:=(Array.getElem?_eq_some_iff.1 h).1
theorem Rq.Bits.cell {w:World}{g:Nat}{bs:List Bool}(h:Rq.Bits w g bs)(j:Nat)(b:Bool)(hj:bs[j]? =some b):w.cell? ⟨g,j,none⟩=some (.bool b):=by
 unfold Rq.Bits at h;simp[World.cell?,h,hj]
theorem Rq.Bits.frozen {w:World}{g:Nat}{bs:List Bool}(h:Rq.Bits w g bs)(j:Nat):w.frozen? ⟨g,j,none⟩=false:=by
 unfold Rq.Bits at h;simp[World.frozen?,h]
theorem Rq.Bits.put {w:World}{g:Nat}{bs:List Bool}(h:Rq.Bits w g bs)(j:Nat)(b:Bool):Rq.Bits (w.setCell ⟨g,j,none⟩ (.bool b)) g (bs.set j b):=by
 unfold Rq.Bits at*;simp[World.setCell,Array.getElem?_modify,h]
theorem Rq.Bits.keep {w w':World}{g:Nat}{bs:List Bool}(h:Rq.Bits w g bs)(hk:w'.heap[g]? =w.heap[g]?):Rq.Bits w' g bs:=by unfold Rq.Bits;rw[hk];exact h
theorem Rq.Bits.below {w w':World}{g B:Nat}{bs:List Bool}(h:Rq.Bits w g bs)(hb:Below B w w')(hg:g<B):Rq.Bits w' g bs:=h.keep (hb.block g hg)
def Rk.Eds (w:World)(B:Nat)(a:Option Addr)(es:List (Int×Int)):Prop:=
 ∀j (h:j<es.length),∃g off,a=some ⟨g,off,none⟩/\g<B/\w.cell? ⟨g,off+j*2,none⟩=some (.int .i64 es[j].1)/\w.cell? ⟨g,off+j*2+1,none⟩=some (.int .i64 es[j].2)
theorem Rk.Eds.below {w w':World}{B:Nat}{a:Option Addr}{es:List (Int×Int)}(h:Rk.Eds w B a es)(hb:Below B w w'):Rk.Eds w' B a es:=λj hj=>by
 obtain⟨g,off,h1,h2,h3,h4⟩:=h j hj;exact⟨g,off,h1,h2,by rw[hb.cell (p:=⟨g,off+j*2,none⟩) h2];exact h3,by rw[hb.cell (p:=⟨g,off+j*2+1,none⟩) h2];exact h4⟩
theorem Rk.Eds.wider {w:World}{B B':Nat}{a:Option Addr}{es:List (Int×Int)}(h:Rk.Eds w B a es)(hB:B<=B'):Rk.Eds w B' a es:=λj hj=>by
 obtain⟨g,off,h1,h2,h3⟩:=h j hj;exact⟨g,off,h1,by omega,h3⟩
def Rk.up (es:List (Nat×Nat)):List (Int×Int):=es.map λe=>((e.1:Int),(e.2:Int))
theorem Rk.up_length (es:List (Nat×Nat)):(Rk.up es).length=es.length:=by simp[Rk.up]
theorem Rk.up_get (es:List (Nat×Nat))(j:Nat)(h:j<(Rk.up es).length):(Rk.up es)[j]=(((es[j]'(by simpa [Rk.up]using h)).1:Int),((es[j]'(by simpa [Rk.up]using h)).2:Int)):=by simp[Rk.up]
def Rk.Pred (g:Nat)(lb:Array Value)(p:Int×Int->Bool)(es:List (Int×Int))(w:World):Prop:=
 ∀(W:World) (x y:Int),(x,y)∈es->Below w.heap.size w W->Calls Tryz.prog g (#[.agg #[.int .i64 x,.int .i64 y]]++lb) W λe w'=>e=.returned (.bool (p (x,y)))/\Below w.heap.size w w'
theorem Tryz.index_any (p:Int×Int->Bool)(g:Nat)(lb:Array Value)(eg:∀args w,(callFunc g args).run Tryz.prog w=.ok (.enter g args) w)(a:Option Addr)(c:Nat)(es:List (Int×Int))(w:World)
  (hp:Rk.Pred g lb p es w) (hE:Rk.Eds w w.heap.size a es) (hn:es.length<=1000000000000000):
  Calls Tryz.prog 149 #[.slice a es.length c,.func (.func g) #[] lb] w λe w'=>(∃k:Int,e=.returned (.int .i64 k)/\decide (0<=k)=es.any p)/\Below w.heap.size w w':=by
 obtain⟨n,hnn⟩:=pE (es.length);rw[hnn]at hn⊢;have HP:Hid (Rk.Pred g lb p es w):=hp;have HE:Hid (Rk.Eds w w.heap.size a es/\es.length=n):=⟨hE,hnn⟩;clear hp hE hnn
 go_enter Tryz.func149,Tryz.ntmps149
 go_wp2
 go_loopg [5,8] n (λgk _ s8 wr=>∃k:Nat,gk+k=n/\s8=.int .i64 k/\Hid (Below w.heap.size w wr/\(es.take k).any p=false))
 case atStart=>exact⟨0,by omega,rfl,Below.refl _ w,by simp⟩
 case round=>
  obtain⟨k,hk,rfl,HB⟩:=hrel
  by_cases hlt:k<n
  rotate_left
  ·have hd:decide ((k:Int)<n)=false:=decide_eq_false (by omega)
   go_wp2;go_ret;refine⟨⟨-1,rfl, ?_⟩,HB.out.1⟩;have:=HB.out.2;rw[List.take_of_length_le (by rw[HE.out.2];omega)]at this;rw[this];rfl
  have hd:decide ((k:Int)<n)=true:=decide_eq_true (by omega);have hkl:k<es.length:=by rw[HE.out.2];exact hlt
  obtain⟨q,off,rfl,hq,h0,h1⟩:=HE.out.1 k hkl;obtain⟨x,hx⟩:=pE (es[k]);obtain⟨x0,x1⟩:=x;rw[hx]at h0 h1;have hc0:wr.cell? ⟨q,off+k*2,none⟩=some (.int .i64 x0):=by rw[HB.out.1.cell (p:=⟨q,off+k*2,none⟩) hq];exact h0
  have hc1:wr.cell? ⟨q,off+k*2+1,none⟩=some (.int .i64 x1):=by rw[HB.out.1.cell (p:=⟨q,off+k*2+1,none⟩) hq];exact h1
  have HX:Hid (es[k]=(x0,x1)):=hx;have hcall:=HP.out wr x0 x1 (by rw[<-hx];exact List.getElem_mem hkl) HB.out.1;clear h0 h1 hx hq;have hu:=Tryz.underlying113
  cases hq:p (x0,x1)with
  |true=>
   rw[hq]at hcall;have HQ:Hid (p (x0,x1)=true):=hq;clear hq
   go_wp2_with (go_at_fn g;refine hcall.mono ?_;rintro e w' ⟨rfl,hb'⟩)
   go_ret;refine⟨⟨k,rfl, ?_⟩,hb'⟩;rw[decide_eq_true (by omega)];exact(List.any_eq_true.2 ⟨es[k],List.getElem_mem hkl,by rw[HX.out];exact HQ.out⟩).symm
  |false=>
   rw[hq]at hcall;have HQ:Hid (p (x0,x1)=false):=hq;clear hq
   go_wp2_with (go_at_fn g;refine hcall.mono ?_;rintro e w' ⟨rfl,hb'⟩)
   go_roundg (gk-1)
   case measure=>omega
   case rel=>
    refine⟨k+1,by omega,by go_num,hb', ?_⟩;rw[Tm.take_snoc _ _ hkl,List.any_append,HB.out.2,HX.out];simp[HQ.out]
theorem Tryz.contains_any (p:Int×Int->Bool)(g:Nat)(lb:Array Value)(eg:∀args w,(callFunc g args).run Tryz.prog w=.ok (.enter g args) w)(a:Option Addr)(c:Nat)(es:List (Int×Int))(w:World)
  (hp:Rk.Pred g lb p es w) (hE:Rk.Eds w w.heap.size a es) (hn:es.length<=1000000000000000):
  Calls Tryz.prog 120 #[.slice a es.length c,.func (.func g) #[] lb] w λe w'=>e=.returned (.bool (es.any p))/\Below w.heap.size w w':=by
 have HC:Hid _:=Tryz.index_any p g lb eg a c es w hp hE hn;obtain⟨q,hq⟩:=pE (es.any p);rw[hq]at HC⊢;clear hp hE hq
 go_enter Tryz.func120,Tryz.ntmps120
 go_wp2_with fail
 refine Calls.mono HC.out ?_;rintro e W1 ⟨⟨k,rfl,hk⟩,hb⟩;have HB:Hid (Below w.heap.size w W1):=hb;have HK:Hid (decide (0<=k)=q):=hk;clear hb hk HC;go_wp2;go_ret;exact⟨Tk.ret_bool HK.out,HB.out⟩
theorem Tryz.within_any (n i:Int)(w:World):Calls Tryz.prog 122 #[.int .i64 n,.int .i64 i] w λe w'=>e=.returned (.bool (decide (0<=i)&&decide (i<n)))/\w'=w:=by
 cases h1:decide (0<=i)<;>cases h2:decide (i<n)
 all_goals
  go_enter Tryz.func122,Tryz.ntmps122
  go_wp2;go_ret;exact⟨rfl,rfl⟩
end Go.Proofs
