import Derived.Test.YtmomffminkflnaaGreatDoorProg
set_option maxRecDepth 100000
set_option maxHeartbeats 32000000
namespace Go.Proofs
inductive Rk.Reach(es:List(Nat×Nat)):Nat->Nat->Prop
 |refl(a:Nat):Rk.Reach es a a
 |step {a b c:Nat} :Rk.Reach es a b->(b,c)∈es->Rk.Reach es a c
def Rk.Leads(es:List(Nat×Nat))(a c:Nat):Prop:= ∃b,Rk.Reach es a b/\(b,c)∈es
theorem Rk.Reach.trans {es:List(Nat×Nat)} {a b c:Nat} (h:Rk.Reach es a b)(k:Rk.Reach es b c):Rk.Reach es a c:=by
 induction k with
 |refl=>exact h
 |step _ m ih=>exact ih.step m
theorem Rk.Leads.reach {es:List(Nat×Nat)} {a c:Nat} (h:Rk.Leads es a c):Rk.Reach es a c:=by
 obtain⟨b,h,m⟩:=h;exact h.step m
theorem Rk.Reach.back {es:List(Nat×Nat)} {a b:Nat} (h:Rk.Reach es a b):Rk.Reach(es.map λe=>(e.2,e.1))b a:=by
 induction h with
 |refl=>exact .refl _
 |step h m ih=>
  refine Rk.Reach.trans(.step(.refl _)(List.mem_map.2⟨_,m,rfl⟩))ih
theorem Rk.back_iff(es:List(Nat×Nat))(a b:Nat):Rk.Reach(es.map λe=>(e.2,e.1))b a↔Rk.Reach es a b:=by
 constructor
 ·intro h
  have:=h.back
  rwa [List.map_map,show((λe:Nat×Nat=>(e.2,e.1))∘λe:Nat×Nat=>(e.2,e.1))=id from rfl,List.map_id]at this
 exact Rk.Reach.back
open Classical in
noncomputable def Rk.met(es:List(Nat×Nat))(a b:Nat):Bool:=decide(Rk.Reach es a b)
open Classical in
noncomputable def Rk.lead(es:List(Nat×Nat))(a b:Nat):Bool:=decide(Rk.Leads es a b)
theorem Rk.met_iff(es:List(Nat×Nat))(a b:Nat):Rk.met es a b=true↔Rk.Reach es a b:=by simp [Rk.met]
theorem Rk.lead_iff(es:List(Nat×Nat))(a b:Nat):Rk.lead es a b=true↔Rk.Leads es a b:=by simp [Rk.lead]
abbrev Rk.on(bs:List Bool)(i:Nat):Prop:=bs[i]? =some true
theorem Rk.on_set {bs:List Bool} {i j:Nat} (hj:j<bs.length):Rk.on(bs.set j true)i↔i=j∨Rk.on bs i:=by
 unfold Rk.on;rw [List.getElem?_set]
 by_cases h:j=i
 ·subst h
  simp [hj]
 simp [h];omega
def Rk.Way(es:List(Nat×Nat))(n a:Nat)(bs:List Bool):Prop:=bs.length=n/\Rk.on bs a/\ ∀i,Rk.on bs i->Rk.Reach es a i
def Rk.Shut(es:List(Nat×Nat))(bs:List Bool):Prop:= ∀e,e∈es->Rk.on bs e.1->Rk.on bs e.2
theorem Rk.Way.done {es:List(Nat×Nat)} {n a:Nat} {bs:List Bool} (h:Rk.Way es n a bs)(hs:Rk.Shut es bs):bs=(List.range n).map(Rk.met es a):=by
 have hc: ∀i,Rk.Reach es a i->Rk.on bs i:=by
  intro i hi
  induction hi with
  |refl=>exact h.2.1
  |step _ m ih=>exact hs _ m ih
 apply List.ext_getElem?;intro i
 by_cases hi:i<n
 rotate_left
 ·rw [List.getElem?_eq_none(by rw [h.1];omega),List.getElem?_eq_none(by simp;omega)]
 rw [List.getElem?_map,List.getElem?_range hi];have hl:i<bs.length:=by rw [h.1];exact hi
 rw [List.getElem?_eq_getElem hl];show some _=some _
 congr 1
 rw [Bool.eq_iff_iff,Rk.met_iff]
 constructor
 ·intro hb
  exact h.2.2 i(by unfold Rk.on;rw [List.getElem?_eq_getElem hl,hb])
 intro hr;have:=hc i hr;unfold Rk.on at this;rw [List.getElem?_eq_getElem hl]at this;exact Option.some.inj this
theorem Rk.Way.mark {es:List(Nat×Nat)} {n a x y:Nat} {bs:List Bool} (h:Rk.Way es n a bs)(m:(x,y)∈es)(hx:Rk.on bs x)(hy:y<n):Rk.Way es n a(bs.set y true):=by
 have hl:y<bs.length:=by rw [h.1];exact hy
 refine⟨by simpa using h.1,(Rk.on_set hl).2(.inr h.2.1),λi hi=> ?_⟩
 rcases(Rk.on_set hl).1 hi with rfl|hi
 ·exact(h.2.2 x hx).step m
 exact h.2.2 i hi
theorem Rk.Way.start(es:List(Nat×Nat)) {n a:Nat} (ha:a<n):Rk.Way es n a((List.replicate n false).set a true):=by
 have hl:a<(List.replicate n false).length:=by simpa using ha
 refine⟨by simp,(Rk.on_set hl).2(.inl rfl),λi hi=> ?_⟩
 rcases(Rk.on_set hl).1 hi with rfl|hi
 ·exact .refl _
 unfold Rk.on at hi;rw [List.getElem?_replicate]at hi
 split at hi<;>simp at hi
def Rk.left(bs:List Bool):Nat:=bs.countP λb=> !b
theorem Rk.left_le(bs:List Bool):Rk.left bs<=bs.length:=List.countP_le_length
theorem Rk.left_set: ∀(bs:List Bool)(i:Nat),bs[i]? =some false->Rk.left(bs.set i true)+1=Rk.left bs
 | [],i,h=>by simp at h
 |b::bs,0,h=>by
  simp at h;subst h;simp [Rk.left]
 |b::bs,i+1,h=>by
  have:=Rk.left_set bs i(by simpa using h);unfold Rk.left at*
  cases b<;>simp at* <;>omega
def Rk.sweep:List(Nat×Nat)->List Bool->List Bool
 | [],bs=>bs
 |e::es,bs=>Rk.sweep es(if bs[e.1]? =some true then bs.set e.2 true else bs)
theorem Rk.sweep_length: ∀(es:List(Nat×Nat))(bs:List Bool),(Rk.sweep es bs).length=bs.length
 | [],_=>rfl
 |e::es,bs=>by
  rw [Rk.sweep,Rk.sweep_length es]
  split<;>simp
theorem Rk.one_keeps(bs:List Bool)(x y i:Nat)(h:Rk.on bs i):Rk.on(if bs[x]? =some true then bs.set y true else bs)i:=by
 split
 ·unfold Rk.on at*
  rw [List.getElem?_set];have hl:i<bs.length:=(List.getElem?_eq_some_iff.1 h).1
  split
  ·subst_vars;simp [hl]
  exact h
 exact h
theorem Rk.sweep_keeps: ∀(es:List(Nat×Nat))(bs:List Bool)(i:Nat),Rk.on bs i->Rk.on(Rk.sweep es bs)i
 | [],_,_,h=>h
 |e::es,bs,i,h=>Rk.sweep_keeps es _ i(Rk.one_keeps bs e.1 e.2 i h)
theorem Rk.sweep_does: ∀(es:List(Nat×Nat))(bs:List Bool)(e:Nat×Nat),e∈es->e.2<bs.length->Rk.on bs e.1->Rk.on(Rk.sweep es bs)e.2
 | [],_,_,h,_,_=>by simp at h
 |f::es,bs,e,h,hl,ho=>by
  rcases List.mem_cons.1 h with rfl|h
  ·rw [Rk.sweep]
   refine Rk.sweep_keeps es _ _ ?_;rw [if_pos ho];exact(Rk.on_set hl).2(.inl rfl)
  rw [Rk.sweep];refine Rk.sweep_does es _ e h ?_(Rk.one_keeps bs f.1 f.2 e.1 ho)
  split<;>simpa using hl
theorem Rk.sweep_only {fs:List(Nat×Nat)} {a:Nat} : ∀(es:List(Nat×Nat))(bs:List Bool),(∀e,e∈es->e∈fs)->(∀i,Rk.on bs i->Rk.Leads fs a i)-> ∀i,Rk.on(Rk.sweep es bs)i->Rk.Leads fs a i
 | [],_,_,h,i,hi=>h i hi
 |e::es,bs,hs,h,i,hi=>by
  refine Rk.sweep_only es _(λx hx=>hs x(List.mem_cons_of_mem _ hx))(λj hj=> ?_)i hi
  split at hj
  ·next hx=>
   unfold Rk.on at hj;rw [List.getElem?_set]at hj
   split at hj
   ·next he=>
    subst he;exact⟨e.1,(h e.1 hx).reach,hs e List.mem_cons_self⟩
   exact h j hj
  exact h j hj
def Rk.sweeps(es:List(Nat×Nat)):Nat->List Bool->List Bool
 |0,bs=>bs
 |k+1,bs=>Rk.sweeps es k(Rk.sweep es bs)
theorem Rk.sweeps_length(es:List(Nat×Nat)): ∀(k:Nat)(bs:List Bool),(Rk.sweeps es k bs).length=bs.length
 |0,_=>rfl
 |k+1,bs=>by rw [Rk.sweeps,Rk.sweeps_length es k,Rk.sweep_length]
theorem Rk.sweeps_keeps(es:List(Nat×Nat)): ∀(k:Nat)(bs:List Bool)(i:Nat),Rk.on bs i->Rk.on(Rk.sweeps es k bs)i
 |0,_,_,h=>h
 |k+1,bs,i,h=>Rk.sweeps_keeps es k _ i(Rk.sweep_keeps es bs i h)
theorem Rk.sweeps_only {es:List(Nat×Nat)} {a:Nat} : ∀(k:Nat)(bs:List Bool),(∀i,Rk.on bs i->Rk.Leads es a i)-> ∀i,Rk.on(Rk.sweeps es k bs)i->Rk.Leads es a i
 |0,_,h,i,hi=>h i hi
 |k+1,bs,h,i,hi=>Rk.sweeps_only k _(Rk.sweep_only es bs(λ_ h=>h)h)i hi
theorem Rk.left_mono: ∀(bs cs:List Bool),bs.length=cs.length->(∀i,Rk.on bs i->Rk.on cs i)->Rk.left cs<=Rk.left bs/\(Rk.left cs=Rk.left bs->cs=bs)
 | [], [],_,_=>by simp
 | [],c::cs,h,_=>by simp at h
 |b::bs, [],h,_=>by simp at h
 |b::bs,c::cs,h,hk=>by
  have ih:=Rk.left_mono bs cs(by simpa using h)(λi hi=>by simpa [Rk.on]using hk(i+1)(by simpa [Rk.on]using hi));have h0:=hk 0;unfold Rk.left at*
  cases b<;>cases c<;>simp [Rk.on]at h0⊢ <;>first|exact ih|skip
  constructor
  ·omega
  omega
theorem Rk.sweeps_shut {es:List(Nat×Nat)} : ∀(k:Nat)(bs:List Bool),(∀e,e∈es->e.2<bs.length)->Rk.left bs<=k->Rk.Shut es(Rk.sweeps es k bs)
 |0,bs,hl,hk=>by
  intro e he _;have h0:Rk.left bs=0:=by omega
  unfold Rk.left at h0;rw [List.countP_eq_zero]at h0;have hb:=hl e he;show Rk.on bs e.2;unfold Rk.on;rw [List.getElem?_eq_getElem hb];have:=h0 _(List.getElem_mem hb);simpa using this
 |k+1,bs,hl,hk=>by
  have hm:=Rk.left_mono bs(Rk.sweep es bs)(Rk.sweep_length es bs).symm(Rk.sweep_keeps es bs)
  by_cases he:Rk.left(Rk.sweep es bs)=Rk.left bs
  ·have hs:=hm.2 he
   have hsh:Rk.Shut es bs:=λe hm ho=>by
    have:=Rk.sweep_does es bs e hm(hl e hm)ho
    rwa [hs]at this
   have hfix: ∀j,Rk.sweeps es j bs=bs:=by
    intro j
    induction j with
    |zero=>rfl
    |succ j ih=>rw [Rk.sweeps,hs,ih]
   rw [hfix];exact hsh
  rw [Rk.sweeps];exact Rk.sweeps_shut k _(λe h=>by rw [Rk.sweep_length];exact hl e h)(by omega)
def Rk.first(a:Nat):List(Nat×Nat)->List Bool->List Bool
 | [],bs=>bs
 |e::es,bs=>Rk.first a es(if e.1=a then bs.set e.2 true else bs)
theorem Rk.first_length(a:Nat): ∀(es:List(Nat×Nat))(bs:List Bool),(Rk.first a es bs).length=bs.length
 | [],_=>rfl
 |e::es,bs=>by
  rw [Rk.first,Rk.first_length a es]
  split<;>simp
theorem Rk.first_iff(a:Nat)(i:Nat): ∀(es:List(Nat×Nat))(bs:List Bool),(∀e,e∈es->e.2<bs.length)->(Rk.on(Rk.first a es bs)i↔Rk.on bs i∨(a,i)∈es)
 | [],bs,_=>by simp [Rk.first]
 |e::es,bs,hl=>by
  obtain⟨x,y⟩:=e;rw [Rk.first]
  by_cases hx:x=a
  ·subst hx
   rw [if_pos rfl,Rk.first_iff x i es _(λe h=>by rw [List.length_set];exact hl e(List.mem_cons_of_mem _ h)),Rk.on_set(hl(x,y)List.mem_cons_self)];simp only [List.mem_cons,Prod.mk.injEq,true_and]
   constructor
   ·rintro((h|h)|h)
    ·exact .inr(.inl h)
    ·exact .inl h
    exact .inr(.inr h)
   rintro(h|h|h)
   ·exact .inl(.inr h)
   ·exact .inl(.inl h)
   exact .inr h
  rw [if_neg hx,Rk.first_iff a i es _(λe h=>hl e(List.mem_cons_of_mem _ h))];simp only [List.mem_cons,Prod.mk.injEq]
  constructor
  ·rintro(h|h)
   ·exact .inl h
   exact .inr(.inr h)
  rintro(h|⟨h,_⟩|h)
  ·exact .inl h
  ·exact absurd h.symm hx
  exact .inr h
theorem Rk.sweeps_eq {es:List(Nat×Nat)} {n:Nat} (hes: ∀e,e∈es->e.1<n/\e.2<n)(a:Nat):
  Rk.sweeps es n(Rk.first a es(List.replicate n false))=(List.range n).map(Rk.lead es a):=by
 have hf:=λi=>Rk.first_iff a i es(List.replicate n false)(λe h=>by simpa using(hes e h).2);have hfl:(Rk.first a es(List.replicate n false)).length=n:=by rw [Rk.first_length];simp
 have hno: ∀i,¬Rk.on(List.replicate n false)i:=by
  intro i h;unfold Rk.on at h;rw [List.getElem?_replicate]at h
  split at h<;>simp at h
 have honly: ∀i,Rk.on(Rk.sweeps es n(Rk.first a es(List.replicate n false)))i->Rk.Leads es a i:=
  Rk.sweeps_only n _(λi hi=>by
   rcases(hf i).1 hi with h|h
   ·exact absurd h(hno i)
   exact⟨a, .refl a,h⟩)
 have hshut:=Rk.sweeps_shut(es:=es)n(Rk.first a es(List.replicate n false))(λe h=>by rw [hfl];exact(hes e h).2)(by have:=Rk.left_le(Rk.first a es(List.replicate n false));omega);have hfirst: ∀i,(a,i)∈es->Rk.on(Rk.sweeps es n(Rk.first a es(List.replicate n false)))i:=λi h=>Rk.sweeps_keeps es n _ i((hf i).2(.inr h))
 have hall: ∀i,Rk.Leads es a i->Rk.on(Rk.sweeps es n(Rk.first a es(List.replicate n false)))i:=by
  rintro i⟨b,hr,m⟩
  have:b=a∨Rk.on(Rk.sweeps es n(Rk.first a es(List.replicate n false)))b:=by
   clear m
   induction hr with
   |refl=>exact .inl rfl
   |step _ m ih=>
    rcases ih with rfl|ih
    ·exact .inr(hfirst _ m)
    exact .inr(hshut _ m ih)
  rcases this with rfl|h
  ·exact hfirst _ m
  exact hshut _ m h
 have hlen:(Rk.sweeps es n(Rk.first a es(List.replicate n false))).length=n:=by rw [Rk.sweeps_length,hfl]
 apply List.ext_getElem?;intro i
 by_cases hi:i<n
 rotate_left
 ·rw [List.getElem?_eq_none(by rw [hlen];omega),List.getElem?_eq_none(by simp;omega)]
 rw [List.getElem?_map,List.getElem?_range hi];have hl:i<(Rk.sweeps es n(Rk.first a es(List.replicate n false))).length:=by rw [hlen];exact hi
 rw [List.getElem?_eq_getElem hl];show some _=some _
 congr 1
 rw [Bool.eq_iff_iff,Rk.lead_iff]
 constructor
 ·intro hb
  exact honly i(by unfold Rk.on;rw [List.getElem?_eq_getElem hl,hb])
 intro hr;have:=hall i hr;unfold Rk.on at this;rw [List.getElem?_eq_getElem hl]at this;exact Option.some.inj this
end Go.Proofs
namespace Go.Proofs
namespace Dd
def leftK(ls:List(Int×Int))(fr how:Int):Nat->List Int->List Int
 |0,s=>s
 |k+1,s=>if(ls[k]?).map Prod.fst=some fr then(leftK ls fr how k s).set k how else leftK ls fr how k s
def left(ls:List(Int×Int))(s:List Int)(fr how:Int):List Int:=leftK ls fr how ls.length s
def scan(ls:List(Int×Int))(s:List Int)(kid:Int):Nat->Option(Bool×Bool)
 |0=>some(true,false)
 |k+1=>match scan ls s kid k with
  |none=>none
  |some p=>if(ls[k]?).map Prod.snd=some kid then(if s.getD k 0=0 then none else some(p.1&&decide(s.getD k 0=1),p.2||decide(s.getD k 0=1)))else some p
def ended(ls:List(Int×Int))(s:List Int)(kid:Nat)(how:Int):List Int:=left ls(s.set(40+kid)how)kid(if how=2 then 1 else 2)
def gateB(kk:List(Int×Int))(k:Nat):Bool:=decide(((kk[k]?).getD(0,0)).1=12)
def doesI(kk:List(Int×Int))(k:Nat):Int:=((kk[k]?).getD(0,0)).2
def Dies(kk:List(Int×Int))(k:Nat)(p:Bool×Bool):Prop:=p.2=false∨(gateB kk k=true/\doesI kk k=2/\p.1=false)
instance(kk:List(Int×Int))(k:Nat)(p:Bool×Bool):Decidable(Dies kk k p):=by unfold Dies;exact inferInstance
def Auto(kk:List(Int×Int))(k:Nat):Prop:=gateB kk k=true/\doesI kk k≠3
instance(kk:List(Int×Int))(k:Nat):Decidable(Auto kk k):=by unfold Auto;exact inferInstance
def decided(ls kk:List(Int×Int))(s:List Int)(kid:Nat):List Int:=
 if s.getD(40+kid)0=0 then(match scan ls s kid ls.length with
  |none=>s
  |some p=>if Dies kk kid p then ended ls s kid 3 else if Auto kk kid then ended ls s kid 2 else s.set(40+kid)1)
 else s
def nextK(ls kk:List(Int×Int))(s:List Int):Nat->Option(List Int)
 |0=>none
 |k+1=>match nextK ls kk s k with
  |some t=>some t
  |none=>if decided ls kk s k=s then none else some(decided ls kk s k)
def settleF(ls kk:List(Int×Int)):Nat->List Int->List Int
 |0,s=>s
 |f+1,s=>match nextK ls kk s kk.length with
  |none=>s
  |some t=>settleF ls kk f t
def settle(ls kk:List(Int×Int))(s:List Int):List Int:=settleF ls kk kk.length s
def zeros:List Int:=List.replicate 104 0
def start(ls kk:List(Int×Int)):List Int:=settle ls kk(left ls zeros(-1)1)
def waits(n:Nat)(s:List Int):Nat:=(List.range n).countP λk=>decide(s.getD(40+k)0=0)
def heldB(xs:List Int)(most:Int):Bool:=xs.all λx=>decide(0<=x)&&decide(x<=most)
def okB(n m:Nat)(s:List Int):Bool:=((heldB((s.take 40).take m)2&&heldB((s.take 40).drop m)0))&&(heldB((s.drop 40).take n)3&&heldB((s.drop 40).drop n)0)
def runsB(n:Nat)(s:List Int)(k:Int):Bool:=decide(0<=k)&&decide(k<n)&&decide(s.getD(40+k.toNat)0=1)
def linkAt(kid:Int):List(Int×Int)->Nat->Int->Int
 | [],_,_=> -1
 |l::r,b,o=>if l.1=kid then(if o=0 then b else linkAt kid r(b+1)(o-1))else linkAt kid r(b+1)o
def finished(ls kk:List(Int×Int))(s:List Int)(k:Nat):List Int:=settle ls kk(ended ls s k 2)
def chose(ls kk:List(Int×Int))(s:List Int)(k:Nat)(c:Nat):List Int:=settle ls kk((left ls(s.set(40+k)2)k 2).set c 1)
def running(n:Nat)(s:List Int):List Nat:=(List.range n).filter λk=>decide(s.getD(40+k)0=1)
theorem getD_set(s:List Int)(i j:Nat)(v:Int)(h:i<s.length):(s.set i v).getD j 0=if i=j then v else s.getD j 0:=by
 rw [List.getD_eq_getElem?_getD,List.getElem?_set,List.getD_eq_getElem?_getD]
 by_cases e:i=j
 ·subst e;simp [h]
 simp [e]
theorem ext {s t:List Int} (hs:s.length=104)(ht:t.length=104)(h: ∀i,i<104->s.getD i 0=t.getD i 0):s=t:=by
 apply List.ext_getElem(by omega);intro i h1 h2;have:=h i(by omega);simpa [List.getD_eq_getElem?_getD,h1,h2]using this
theorem leftK_length(ls:List(Int×Int))(fr how:Int): ∀(k:Nat)(s:List Int),(leftK ls fr how k s).length=s.length
 |0,s=>rfl
 |k+1,s=>by
  rw [leftK]
  split
  ·rw [List.length_set,leftK_length ls fr how k s]
  exact leftK_length ls fr how k s
theorem leftK_get(ls:List(Int×Int))(fr how:Int): ∀(k:Nat)(s:List Int)(j:Nat),k<=s.length->(leftK ls fr how k s).getD j 0=if j<k/\(ls[j]?).map Prod.fst=some fr then how else s.getD j 0
 |0,s,j,_=>by rw [leftK,if_neg(by omega)]
 |k+1,s,j,h=>by
  have ih:=leftK_get ls fr how k s j(by omega);rw [leftK]
  split
  ·rename_i e
   rw [getD_set _ _ _ _(by rw [leftK_length];omega),ih]
   by_cases q:k=j
   ·subst q;rw [if_pos rfl,if_pos⟨by omega,e⟩]
   rw [if_neg q]
   by_cases r:j<k/\(ls[j]?).map Prod.fst=some fr
   ·rw [if_pos r,if_pos⟨by omega,r.2⟩]
   rw [if_neg r,if_neg(λx=>r⟨by omega,x.2⟩)]
  rename_i e
  rw [ih]
  by_cases r:j<k/\(ls[j]?).map Prod.fst=some fr
  ·rw [if_pos r,if_pos⟨by omega,r.2⟩]
  rw [if_neg r,if_neg];rintro⟨x,y⟩
  by_cases q:j=k
  ·subst q;exact e y
  exact r⟨by omega,y⟩
theorem left_length(ls:List(Int×Int))(s:List Int)(fr how:Int):(left ls s fr how).length=s.length:=leftK_length ..
theorem left_get(ls:List(Int×Int))(s:List Int)(fr how:Int)(h:ls.length<=s.length)(j:Nat):(left ls s fr how).getD j 0=if(ls[j]?).map Prod.fst=some fr then how else s.getD j 0:=by
 rw [left,leftK_get ls fr how _ s j h]
 by_cases q:j<ls.length
 ·simp [q]
 rw [if_neg(by omega),if_neg];rw [List.getElem?_eq_none(by omega)]
 simp
theorem scan_none {ls:List(Int×Int)} {s:List Int} {kid:Int} : ∀ {k j:Nat},scan ls s kid k=none->k<=j->scan ls s kid j=none
 |k,0,h,hj=>by obtain rfl:k=0:=by omega
               exact h
 |k,j+1,h,hj=>by
  by_cases q:k=j+1
  ·subst q;exact h
  rw [scan,scan_none h(by omega:k<=j)]
theorem scan_iff(ls:List(Int×Int))(s:List Int)(kid:Int): ∀k,match scan ls s kid k with
  |none=> ∃i,i<k/\(ls[i]?).map Prod.snd=some kid/\s.getD i 0=0
  |some p=>(∀i,i<k->(ls[i]?).map Prod.snd=some kid->s.getD i 0≠0)/\(p.1=true↔ ∀i,i<k->(ls[i]?).map Prod.snd=some kid->s.getD i 0=1)/\(p.2=true↔ ∃i,i<k/\(ls[i]?).map Prod.snd=some kid/\s.getD i 0=1)
 |0=>by rw [scan];exact⟨λi h=>by omega,⟨λ_ i h=>by omega,λ_=>rfl⟩,⟨λh=>by simp at h,fun⟨i,h,_⟩=>by omega⟩⟩
 |k+1=>by
  have ih:=scan_iff ls s kid k;rw [scan]
  cases hq:scan ls s kid k with
  |none=>
   rw [hq]at ih;obtain⟨i,h1,h2⟩:=ih;exact⟨i,by omega,h2⟩
  |some p=>
   rw [hq]at ih;obtain⟨i1,i2,i3⟩:=ih;dsimp only
   by_cases e:(ls[k]?).map Prod.snd=some kid
   rotate_left
   ·rw [if_neg e]
    have no: ∀i,i<k+1->(ls[i]?).map Prod.snd=some kid->i<k:=λi hi hk=>by
     by_cases q:i=k
     ·subst q;exact absurd hk e
     omega
    refine⟨λi hi hk=>i1 i(no i hi hk)hk,i2.trans⟨λa i hi hk=>a i(no i hi hk)hk,λa i hi hk=>a i(by omega)hk⟩,i3.trans⟨fun⟨i,a,b,c⟩=>⟨i,by omega,b,c⟩,fun⟨i,a,b,c⟩=>⟨i,no i a b,b,c⟩⟩⟩
   rw [if_pos e]
   by_cases z:s.getD k 0=0
   ·rw [if_pos z];exact⟨k,by omega,e,z⟩
   rw [if_neg z];refine⟨λi hi hk=> ?_, ?_, ?_⟩
   ·by_cases q:i=k
    ·subst q;exact z
    exact i1 i(by omega)hk
   ·dsimp only
    rw [Bool.and_eq_true,i2,decide_eq_true_iff]
    constructor
    ·rintro⟨a,b⟩i hi hk
     by_cases q:i=k
     ·subst q;exact b
     exact a i(by omega)hk
    intro a;exact⟨λi hi hk=>a i(by omega)hk,a k(by omega)e⟩
   dsimp only;rw [Bool.or_eq_true,i3,decide_eq_true_iff]
   constructor
   ·rintro(⟨i,a,b⟩|b)
    ·exact⟨i,by omega,b⟩
    exact⟨k,by omega,e,b⟩
   rintro⟨i,a,b,c⟩
   by_cases q:i=k
   ·subst q;exact .inr c
   exact .inl⟨i,by omega,b,c⟩
theorem scan_congr {ls:List(Int×Int)} {s t:List Int} {kid:Int} : ∀ {k:Nat},(∀i,i<k->(ls[i]?).map Prod.snd=some kid->s.getD i 0=t.getD i 0)->scan ls s kid k=scan ls t kid k
 |0,_=>rfl
 |k+1,h=>by
  rw [scan,scan,scan_congr(k:=k)λi hi hk=>h i(by omega)hk]
  cases scan ls t kid k with
  |none=>rfl
  |some p=>
   dsimp only
   by_cases e:(ls[k]?).map Prod.snd=some kid
   ·rw [if_pos e,if_pos e,h k(by omega)e]
   rw [if_neg e,if_neg e]
theorem ended_length(ls:List(Int×Int))(s:List Int)(kid:Nat)(how:Int):(ended ls s kid how).length=s.length:=by rw [ended,left_length,List.length_set]
theorem ended_get(ls:List(Int×Int))(s:List Int)(kid:Nat)(how:Int)(h:ls.length<=s.length)(hk:40+kid<s.length)(j:Nat):(ended ls s kid how).getD j 0=if(ls[j]?).map Prod.fst=some(kid:Int)then(if how=2 then 1 else 2)else if 40+kid=j then how else s.getD j 0:=by
 rw [ended,left_get _ _ _ _(by rw [List.length_set];exact h),getD_set _ _ _ _ hk]
theorem decided_length(ls kk:List(Int×Int))(s:List Int)(kid:Nat):(decided ls kk s kid).length=s.length:=by
 unfold decided
 split
 ·split
  ·rfl
  split
  ·exact ended_length ..
  split
  ·exact ended_length ..
  exact List.length_set ..
 rfl
theorem decided_kid {ls kk:List(Int×Int)} {s:List Int} {kid:Nat} (h40:ls.length<=40)(hl:s.length=104)(hk:kid<64)(h0:s.getD(40+kid)0=0) {p:Bool×Bool} (hp:scan ls s kid ls.length=some p):(decided ls kk s kid).getD(40+kid)0=if Dies kk kid p then 3 else if Auto kk kid then 2 else 1:=by
 have hno:(ls[40+kid]?).map Prod.fst=some(kid:Int)->False:=λh=>by
  rw [List.getElem?_eq_none(by omega)]at h;simp at h
 unfold decided;rw [if_pos h0,hp];dsimp only
 by_cases d:Dies kk kid p
 ·rw [if_pos d,if_pos d,ended_get _ _ _ _(by omega)(by omega),if_neg hno,if_pos rfl]
 rw [if_neg d,if_neg d]
 by_cases a:Auto kk kid
 ·rw [if_pos a,if_pos a,ended_get _ _ _ _(by omega)(by omega),if_neg hno,if_pos rfl]
 rw [if_neg a,if_neg a,getD_set _ _ _ _(by omega),if_pos rfl]
theorem decided_same {ls kk:List(Int×Int)} {s:List Int} {kid:Nat} (h40:ls.length<=40)(hl:s.length=104)(hk:kid<64):decided ls kk s kid=s↔s.getD(40+kid)0≠0∨scan ls s kid ls.length=none:=by
 constructor
 ·intro h
  by_cases h0:s.getD(40+kid)0=0
  ·refine .inr ?_
   cases hp:scan ls s kid ls.length with
   |none=>rfl
   |some p=>
    exfalso
    have h1:=decided_kid(kk:=kk)h40 hl hk h0 hp;rw [h,h0]at h1
    split at h1
    ·cases h1
    split at h1<;>cases h1
  exact .inl h0
 rintro(h|h)
 ·rw [decided,if_neg h]
 rw [decided,h];split<;>rfl
end Dd
end Go.Proofs
namespace Go.Proofs
namespace Dd
structure Inv(ls kk:List(Int×Int))(s:List Int):Prop where
 len:s.length=104
 lv: ∀i,i<40->0<=s.getD i 0/\s.getD i 0<=if i<ls.length then 2 else 0
 kv: ∀k,k<64->0<=s.getD(40+k)0/\s.getD(40+k)0<=if k<kk.length then 3 else 0
 lo: ∀i f,(ls[i]?).map Prod.fst=some((f:Nat):Int)->(s.getD i 0=0↔s.getD(40+f)0<2)
 out: ∀i,(ls[i]?).map Prod.fst=some(-1)->s.getD i 0=1
 gt: ∀k,s.getD(40+k)0=1-> ¬Auto kk k
 skip: ∀i f,(ls[i]?).map Prod.fst=some((f:Nat):Int)->s.getD(40+f)0=3->s.getD i 0=2
 done: ∀i f,(ls[i]?).map Prod.fst=some((f:Nat):Int)->s.getD(40+f)0=2->(gateB kk f=true->doesI kk f≠3)->s.getD i 0=1
 fate: ∀k,k<kk.length->s.getD(40+k)0≠0-> ∃p,scan ls s k ls.length=some p/\(Dies kk k p->s.getD(40+k)0=3)/\(¬Dies kk k p->Auto kk k->s.getD(40+k)0=2)/\(¬Dies kk k p-> ¬Auto kk k->s.getD(40+k)0=1∨s.getD(40+k)0=2)
structure Web(ls kk:List(Int×Int)):Prop where
 l40:ls.length<=40
 k64:kk.length<=64
 fr: ∀(i:Nat)(x:Int),(ls[i]?).map Prod.fst=some x->x= -1∨ ∃f:Nat,x=f/\f<kk.length
theorem Inv.upd {ls kk:List(Int×Int)} (hw:Web ls kk) {s t:List Int} (h:Inv ls kk s) {kid:Nat} {v:Int} {g:Nat->Int} (hk:kid<kk.length)(h2:s.getD(40+kid)0<2)
  (hl:t.length=104)(hkt: ∀k,t.getD(40+k)0=if k=kid then v else s.getD(40+k)0)
  (hlt: ∀i,i<40->t.getD i 0=if(ls[i]?).map Prod.fst=some(kid:Int)then g i else s.getD i 0)
  (hv:v=1∨v=2∨v=3)(hv1:v=1->(∀i,g i=0)/\ ¬Auto kk kid)(hv2:v≠1-> ∀i,i<ls.length->g i=1∨g i=2)(hv3:v=3-> ∀i,g i=2)(hvd:v=2->(gateB kk kid=true->doesI kk kid≠3)-> ∀i,g i=1)
  {p:Bool×Bool} (hp:scan ls s kid ls.length=some p)(hf:(Dies kk kid p->v=3)/\(¬Dies kk kid p->Auto kk kid->v=2)/\(¬Dies kk kid p-> ¬Auto kk kid->v=1∨v=2)):Inv ls kk t:=by
 have hi40: ∀i x,(ls[i]?).map Prod.fst=some x->i<ls.length:=λi x e=>by
  by_cases q:i<ls.length
  ·exact q
  rw [List.getElem?_eq_none(by omega)]at e;simp at e
 have l40:=hw.l40;have k64:=hw.k64
 -- a link from the kid is open
 have hopen: ∀i,(ls[i]?).map Prod.fst=some(kid:Int)->s.getD i 0=0:=λi e=>(h.lo i kid e).2 h2
 have scan_keep: ∀k p',scan ls s(k:Int)ls.length=some p'->scan ls t(k:Int)ls.length=some p':=λk p' e=>by
  rw [<-e];refine(scan_congr λi hi e2=> ?_).symm;have:=scan_iff ls s k ls.length;rw [e]at this;have hne:=this.1 i hi e2;rw [hlt i(by omega),if_neg];intro e3;exact hne(hopen i e3)
 constructor
 ·exact hl
 ·intro i hi
  have h1:=h.lv i hi;rw [hlt i hi]
  by_cases e:(ls[i]?).map Prod.fst=some(kid:Int)
  ·have hil:=hi40 i _ e
   rw [if_pos e,if_pos hil]
   by_cases e1:v=1
   ·rw [(hv1 e1).1 i];omega
   rcases hv2 e1 i hil with q|q<;>omega
  rw [if_neg e];exact h1
 ·intro k hk2
  rw [hkt k]
  by_cases e:k=kid
  ·rw [if_pos e,if_pos(by omega)];omega
  rw [if_neg e];exact h.kv k hk2
 ·intro i f e
  have hil:=hi40 i _ e;rw [hlt i(by omega),hkt f]
  by_cases q:f=kid
  ·subst q
   rw [if_pos e,if_pos rfl]
   by_cases e1:v=1
   ·rw [(hv1 e1).1 i];omega
   rcases hv2 e1 i hil with q|q<;>omega
  rw [if_neg(λe3=>q(by rw [e]at e3;injection e3 with e3;omega)),if_neg q];exact h.lo i f e
 ·intro i e
  have hil:=hi40 i _ e;rw [hlt i(by omega),if_neg(λe3=>by rw [e]at e3;injection e3 with e3;omega)];exact h.out i e
 ·intro k e
  rw [hkt k]at e
  by_cases q:k=kid
  ·subst q;rw [if_pos rfl]at e;exact(hv1 e).2
  rw [if_neg q]at e;exact h.gt k e
 ·intro i f e e3
  have hil:=hi40 i _ e;rw [hkt f]at e3;rw [hlt i(by omega)]
  by_cases q:f=kid
  ·subst q
   rw [if_pos rfl]at e3;rw [if_pos e];exact hv3 e3 i
  rw [if_neg q]at e3;rw [if_neg(λe3=>q(by rw [e]at e3;injection e3 with e3;omega))];exact h.skip i f e e3
 ·intro i f e e3 hd
  have hil:=hi40 i _ e;rw [hkt f]at e3;rw [hlt i(by omega)]
  by_cases q:f=kid
  ·subst q
   rw [if_pos rfl]at e3;rw [if_pos e];exact hvd e3 hd i
  rw [if_neg q]at e3;rw [if_neg(λe3=>q(by rw [e]at e3;injection e3 with e3;omega))];exact h.done i f e e3 hd
 intro k hk2 hne;rw [hkt k]at hne⊢
 by_cases q:k=kid
 ·subst q
  rw [if_pos rfl];exact⟨p,scan_keep _ _ hp,hf⟩
 rw [if_neg q]at hne⊢;obtain⟨p',h3,h4⟩:=h.fate k hk2 hne;exact⟨p',scan_keep _ _ h3,h4⟩
structure Kept(ls kk:List(Int×Int))(s t:List Int):Prop where
 l: ∀i,i<40->s.getD i 0≠0->t.getD i 0=s.getD i 0
 k: ∀k,k<64->s.getD(40+k)0≠0->t.getD(40+k)0=s.getD(40+k)0
 d: ∀k,k<64-> ¬Auto kk k->t.getD(40+k)0=2->s.getD(40+k)0=2
theorem Kept.refl(ls kk:List(Int×Int))(s:List Int):Kept ls kk s s:=⟨λ_ _ _=>rfl,λ_ _ _=>rfl,λ_ _ _ h=>h⟩
theorem Kept.trans {ls kk:List(Int×Int)} {s t u:List Int} (h:Kept ls kk s t)(k:Kept ls kk t u):Kept ls kk s u:=
 ⟨λi hi e=>(k.l i hi(by rw [h.l i hi e];exact e)).trans(h.l i hi e),λi hi e=>(k.k i hi(by rw [h.k i hi e];exact e)).trans(h.k i hi e),λi hi ha e=>h.d i hi ha(k.d i hi ha e)⟩
theorem Inv.decided {ls kk:List(Int×Int)} (hw:Web ls kk) {s:List Int} (h:Inv ls kk s) {kid:Nat} (hk:kid<kk.length)(h0:s.getD(40+kid)0=0) {p:Bool×Bool} (hp:scan ls s kid ls.length=some p):Inv ls kk(decided ls kk s kid)/\Kept ls kk s(decided ls kk s kid):=by
 have l40:=hw.l40;have k64:=hw.k64;have hlen:=h.len
 have hno: ∀k,¬(ls[40+k]?).map Prod.fst=some(kid:Int):=λk h=>by
  rw [List.getElem?_eq_none(by omega)]at h;simp at h
 have hopen: ∀i,(ls[i]?).map Prod.fst=some(kid:Int)->s.getD i 0=0:=λi e=>(h.lo i kid e).2(by omega)
 have he:Dd.decided ls kk s kid=if Dies kk kid p then ended ls s kid 3 else if Auto kk kid then ended ls s kid 2 else s.set(40+kid)1:=by
  unfold Dd.decided;rw [if_pos h0,hp]
 have key: ∀(t:List Int)(v:Int)(g:Nat->Int),(∀k,t.getD(40+k)0=if k=kid then v else s.getD(40+k)0)->(∀i,i<40->t.getD i 0=if(ls[i]?).map Prod.fst=some(kid:Int)then g i else s.getD i 0)->(v=2->Auto kk kid)->Kept ls kk s t:=by
  intro t v g h1 h2 h3;refine⟨λi hi e=> ?_,λk hk2 e=> ?_,λk hk2 ha e=> ?_⟩
  ·rw [h2 i hi,if_neg(λe3=>e(hopen i e3))]
  ·rw [h1 k,if_neg(by rintro rfl;exact e h0)]
  rw [h1 k]at e
  by_cases q:k=kid
  ·subst q;rw [if_pos rfl]at e;exact absurd(h3 e)ha
  rw [if_neg q]at e;exact e
 have hend: ∀(how:Int)(k:Nat),(ended ls s kid how).getD(40+k)0=if k=kid then how else s.getD(40+k)0:=λhow k=>by
  rw [ended_get _ _ _ _(by omega)(by omega),if_neg(hno k)]
  by_cases q:k=kid
  ·rw [if_pos(by omega),if_pos q]
  rw [if_neg(by omega),if_neg q]
 have hlnk: ∀(how:Int)(i:Nat),i<40->(ended ls s kid how).getD i 0=if(ls[i]?).map Prod.fst=some(kid:Int)then(λ_=>if how=2 then(1:Int)else 2)i else s.getD i 0:=λhow i hi=>by
  rw [ended_get _ _ _ _(by omega)(by omega),if_neg(show¬40+kid=i by omega)]
 rw [he]
 by_cases d:Dies kk kid p
 ·rw [if_pos d]
  refine⟨h.upd hw hk(by omega)(by rw [ended_length,hlen])(hend 3)(hlnk 3)(by omega)(by omega)(λ_ i _=>by simp)(λ_ i=>by simp)(by omega)hp⟨λ_=>rfl,λhd=>absurd d hd,λhd=>absurd d hd⟩,key _ 3 _(hend 3)(hlnk 3)(by omega)⟩
 rw [if_neg d]
 by_cases a:Auto kk kid
 ·rw [if_pos a]
  refine⟨h.upd hw hk(by omega)(by rw [ended_length,hlen])(hend 2)(hlnk 2)(by omega)(by omega)(λ_ i _=>by simp)(by omega)(λ_ _ i=>by simp)hp⟨λhd=>absurd hd d,λ_ _=>rfl,λ_ hd=>absurd a hd⟩,key _ 2 _(hend 2)(hlnk 2)(λ_=>a)⟩
 rw [if_neg a]
 have h1: ∀k,(s.set(40+kid)1).getD(40+k)0=if k=kid then 1 else s.getD(40+k)0:=λk=>by
  rw [getD_set _ _ _ _(by omega)]
  by_cases q:k=kid
  ·rw [if_pos(by omega),if_pos q]
  rw [if_neg(by omega),if_neg q]
 have h2: ∀i,i<40->(s.set(40+kid)1).getD i 0=if(ls[i]?).map Prod.fst=some(kid:Int)then(λ_=>(0:Int))i else s.getD i 0:=λi hi=>by
  rw [getD_set _ _ _ _(by omega),if_neg(by omega)]
  by_cases q:(ls[i]?).map Prod.fst=some(kid:Int)
  ·rw [if_pos q,hopen i q]
  rw [if_neg q]
 exact⟨h.upd hw hk(by omega)(by rw [List.length_set,hlen])h1 h2(by omega)(λ_=>⟨λ_=>rfl,a⟩)(by omega)(by omega)(by omega)hp⟨λhd=>absurd hd d,λ_ hd=>absurd hd a,λ_ _=> .inl rfl⟩,key _ 1 _ h1 h2(by omega)⟩
def Calm(ls kk:List(Int×Int))(s:List Int):Prop:= ∀k,k<kk.length->s.getD(40+k)0≠0∨scan ls s k ls.length=none
theorem next_none {ls kk:List(Int×Int)} (hw:Web ls kk) {s:List Int} (hl:s.length=104): ∀ {n:Nat},n<=kk.length->(nextK ls kk s n=none↔ ∀k,k<n->s.getD(40+k)0≠0∨scan ls s k ls.length=none)
 |0,_=>⟨λ_ k hk=>by omega,λ_=>rfl⟩
 |n+1,hn=>by
  have ih:=next_none hw hl(n:=n)(by omega);have hd:=decided_same(kk:=kk)hw.l40 hl(show n<64 by have:=hw.k64;omega);rw [nextK]
  cases hq:nextK ls kk s n with
  |some t=>
   rw [hq]at ih;refine⟨λh=>by simp at h,λh=> ?_⟩;have:=ih.2 λk hk=>h k(by omega);simp at this
  |none=>
   dsimp only;rw [hq]at ih;have ih:=ih.1 rfl
   by_cases e:Dd.decided ls kk s n=s
   ·rw [if_pos e]
    refine⟨λ_ k hk=> ?_,λ_=>rfl⟩
    by_cases q:k=n
    ·subst q;exact hd.1 e
    exact ih k(by omega)
   rw [if_neg e];refine⟨λh=>by simp at h,λh=>absurd(hd.2(h n(by omega)))e⟩
theorem next_some {ls kk:List(Int×Int)} (hw:Web ls kk) {s t:List Int} (hl:s.length=104): ∀ {n:Nat},n<=kk.length->nextK ls kk s n=some t-> ∃k p,k<n/\s.getD(40+k)0=0/\scan ls s k ls.length=some p/\t=Dd.decided ls kk s k
 |0,_,h=>by simp [nextK]at h
 |n+1,hn,h=>by
  rw [nextK]at h
  cases hq:nextK ls kk s n with
  |some t'=>
   rw [hq]at h;obtain rfl:t'=t:=by simpa using h
   obtain⟨k,p,h1,h2⟩:=next_some hw hl(by omega)hq;exact⟨k,p,by omega,h2⟩
  |none=>
   rw [hq]at h;dsimp only at h;have hd:=decided_same(kk:=kk)hw.l40 hl(show n<64 by have:=hw.k64;omega)
   by_cases e:Dd.decided ls kk s n=s
   ·rw [if_pos e]at h;simp at h
   rw [if_neg e]at h;have e':=λx=>e(hd.2 x)
   cases hp:scan ls s n ls.length with
   |none=>exact absurd(.inr hp)e'
   |some p=>
    refine⟨n,p,by omega, ?_,hp,by simpa using h.symm⟩
    by_cases q:s.getD(40+n)0=0
    ·exact q
    exact absurd(.inl q)e'
theorem waits_lt {n:Nat} {s t:List Int} {k:Nat} (hk:k<n)(h0:s.getD(40+k)0=0)(h1:t.getD(40+k)0≠0)(hall: ∀j,j<n->s.getD(40+j)0≠0->t.getD(40+j)0≠0):waits n t<waits n s:=by
 unfold waits
 induction n with
 |zero=>omega
 |succ n ih=>
  rw [List.range_succ,List.countP_append,List.countP_append,List.countP_singleton,List.countP_singleton]
  by_cases q:k=n
  ·subst q
   have hle:List.countP(λj=>decide(t.getD(40+j)0=0))(List.range k)<=List.countP(λj=>decide(s.getD(40+j)0=0))(List.range k):=by
    apply List.countP_mono_left;intro j hj e;rw [decide_eq_true_iff]at e⊢;have hj:=List.mem_range.1 hj
    by_cases e2:s.getD(40+j)0=0
    ·exact e2
    exact absurd e(hall j(by omega)e2)
   rw [decide_eq_true h0,decide_eq_false h1,if_pos rfl,if_neg(by decide)];omega
  have:=ih(by omega)λj hj=>hall j(by omega)
  have hb:(if decide(t.getD(40+n)0=0)=true then 1 else 0)<=if decide(s.getD(40+n)0=0)=true then 1 else 0:=by
   by_cases e:s.getD(40+n)0=0
   ·rw [decide_eq_true e];simp;split<;>omega
   rw [decide_eq_false(hall n(by omega)e)];simp
  omega
theorem waits_le(n:Nat)(s:List Int):waits n s<=n:=by
 unfold waits;have:=List.countP_le_length(p:=λk=>decide(s.getD(40+k)0=0))(l:=List.range n);simpa using this
theorem next_waits {ls kk:List(Int×Int)} (hw:Web ls kk) {s t:List Int} (hl:s.length=104)(h:nextK ls kk s kk.length=some t):t.length=104/\waits kk.length t<waits kk.length s:=by
 obtain⟨k,p,hk,h0,hp,rfl⟩:=next_some hw hl(Nat.le_refl _)h;have l40:=hw.l40;have k64:=hw.k64;refine⟨by rw [decided_length,hl],waits_lt hk h0 ?_ λj hj e=> ?_⟩
 ·rw [decided_kid l40 hl(by omega)h0 hp]
  split
  ·decide
  split<;>decide
 by_cases q:j=k
 ·subst q;exact absurd h0 e
 have hno: ¬(ls[40+j]?).map Prod.fst=some(k:Int):=λh=>by
  rw [List.getElem?_eq_none(by omega)]at h;simp at h
 unfold Dd.decided;rw [if_pos h0,hp];dsimp only
 split
 ·rw [ended_get _ _ _ _(by omega)(by omega),if_neg hno,if_neg(by omega)];exact e
 split
 ·rw [ended_get _ _ _ _(by omega)(by omega),if_neg hno,if_neg(by omega)];exact e
 rw [getD_set _ _ _ _(by omega),if_neg(by omega)];exact e
theorem settleF_inv {ls kk:List(Int×Int)} (hw:Web ls kk): ∀(f:Nat)(s:List Int),Inv ls kk s->waits kk.length s<=f->Inv ls kk(settleF ls kk f s)/\Kept ls kk s(settleF ls kk f s)/\Calm ls kk(settleF ls kk f s)
 |0,s,h,hf=>by
  refine⟨h,Kept.refl ..,λk hk=> .inl λe=> ?_⟩
  have h1:0<waits kk.length s:=by
   unfold waits;exact List.countP_pos_iff.2⟨k,List.mem_range.2 hk,decide_eq_true e⟩
  omega
 |f+1,s,h,hf=>by
  rw [settleF]
  cases hq:nextK ls kk s kk.length with
  |none=>exact⟨h,Kept.refl ..,(next_none hw h.len(Nat.le_refl _)).1 hq⟩
  |some t=>
   dsimp only;have h1:=(next_waits hw h.len hq).2;obtain⟨k,p,hk,h0,hp,rfl⟩:=next_some hw h.len(Nat.le_refl _)hq;obtain⟨h2,h3⟩:=h.decided hw hk h0 hp;obtain⟨h4,h5,h6⟩:=settleF_inv hw f _ h2(by omega);exact⟨h4,h3.trans h5,h6⟩
theorem settle_inv {ls kk:List(Int×Int)} (hw:Web ls kk) {s:List Int} (h:Inv ls kk s):Inv ls kk(settle ls kk s)/\Kept ls kk s(settle ls kk s)/\Calm ls kk(settle ls kk s):=settleF_inv hw _ s h(waits_le _ _)
theorem settleF_length {ls kk:List(Int×Int)} (hw:Web ls kk): ∀(f:Nat)(s:List Int),s.length=104->(settleF ls kk f s).length=104
 |0,s,h=>h
 |f+1,s,h=>by
  rw [settleF]
  cases hq:nextK ls kk s kk.length with
  |none=>exact h
  |some t=>exact settleF_length hw f t(next_waits hw h hq).1
theorem settle_length {ls kk:List(Int×Int)} (hw:Web ls kk) {s:List Int} (h:s.length=104):(settle ls kk s).length=104:=settleF_length hw _ s h
theorem zeros_get(i:Nat):zeros.getD i 0=0:=by
 rw [List.getD_eq_getElem?_getD,zeros,List.getElem?_replicate]
 split<;>rfl
theorem start_inv {ls kk:List(Int×Int)} (hw:Web ls kk):Inv ls kk(start ls kk)/\Calm ls kk(start ls kk):=by
 have l40:=hw.l40;have k64:=hw.k64;have hz:zeros.length=104:=by simp [zeros]
 have hno: ∀k,¬(ls[40+k]?).map Prod.fst=some(-1:Int):=λk h=>by
  rw [List.getElem?_eq_none(by omega)]at h;simp at h
 have hl: ∀i,(left ls zeros(-1)1).getD i 0=if(ls[i]?).map Prod.fst=some(-1)then 1 else 0:=λi=>by
  rw [left_get _ _ _ _(by omega),zeros_get]
 have hk: ∀k,(left ls zeros(-1)1).getD(40+k)0=0:=λk=>by rw [hl,if_neg(hno k)]
 have h0:Inv ls kk(left ls zeros(-1)1):=by
  refine⟨by rw [left_length,hz],λi hi=> ?_,λk hk2=> ?_,λi f e=> ?_,λi e=> ?_,λk e=> ?_,λi f e e3=> ?_,λi f e e3=> ?_,λk hk2 e=> ?_⟩
  ·rw [hl]
   by_cases e:(ls[i]?).map Prod.fst=some(-1)
   ·rw [if_pos e,if_pos]
    ·omega
    by_cases q:i<ls.length
    ·exact q
    rw [List.getElem?_eq_none(by omega)]at e;simp at e
   rw [if_neg e];split<;>omega
  ·rw [hk];split<;>omega
  ·rw [hl,hk,if_neg(by rw [e];intro e3;injection e3 with e3;omega)];omega
  ·rw [hl,if_pos e]
  ·rw [hk]at e;omega
  ·rw [hk]at e3;omega
  ·rw [hk]at e3;omega
  exact absurd(hk k)e
 have:=settle_inv hw h0;exact⟨this.1,this.2.2⟩
end Dd
end Go.Proofs
namespace Go.Proofs
namespace Dd
theorem countP_lt {n:Nat} {p q:Nat->Bool} {k:Nat} (hk:k<n)(h0:p k=false)(h1:q k=true)(hall: ∀j,j<n->p j=true->q j=true):(List.range n).countP p<(List.range n).countP q:=by
 induction n with
 |zero=>omega
 |succ n ih=>
  rw [List.range_succ,List.countP_append,List.countP_append,List.countP_singleton,List.countP_singleton]
  by_cases e:k=n
  ·subst e
   have hle:List.countP p(List.range k)<=List.countP q(List.range k):=List.countP_mono_left λj hj e=>hall j(by have:=List.mem_range.1 hj;omega)e;rw [h0,h1,if_pos rfl,if_neg(by decide)];omega
  have:=ih(by omega)λj hj=>hall j(by omega)
  have hb:(if p n=true then 1 else 0)<=if q n=true then 1 else 0:=by
   by_cases e:p n=true
   ·rw [if_pos e,if_pos(hall n(by omega)e)];omega
   rw [if_neg e];omega
  omega
def cnt(n:Nat)(s:List Int):Nat:=(List.range n).countP λk=>decide(s.getD(40+k)0<2)
theorem heldB_at {xs:List Int} {m:Int} :heldB xs m=true↔ ∀j(h:j<xs.length),0<=xs[j]/\xs[j]<=m:=by
 simp only [heldB,List.all_eq_true,Bool.and_eq_true,decide_eq_true_iff]
 constructor
 ·intro h j hj;exact h _(List.getElem_mem hj)
 intro h x hx;obtain⟨j,hj,rfl⟩:=List.mem_iff_getElem.1 hx;exact h j hj
theorem okB_iff {n m:Nat} {s:List Int} (hl:s.length=104)(hm:m<=40)(hn:n<=64):okB n m s=true↔(∀i,i<40->0<=s.getD i 0/\s.getD i 0<=if i<m then 2 else 0)/\ ∀k,k<64->0<=s.getD(40+k)0/\s.getD(40+k)0<=if k<n then 3 else 0:=by
 have g: ∀i(h:i<104),s.getD i 0=s[i]:=λi h=>by simp [List.getD_eq_getElem?_getD,show i<s.length by omega]
 unfold okB;rw [Bool.and_eq_true,Bool.and_eq_true,Bool.and_eq_true,heldB_at,heldB_at,heldB_at,heldB_at]
 constructor
 ·rintro⟨⟨h1,h2⟩,h3,h4⟩
  refine⟨λi hi=> ?_,λk hk=> ?_⟩
  ·rw [g i(by omega)]
   by_cases q:i<m
   ·rw [if_pos q]
    have:=h1 i(by simp;omega);simpa using this
   rw [if_neg q];have:=h2(i-m)(by simp;omega);simpa [show m+(i-m)=i by omega]using this
  rw [g(40+k)(by omega)]
  by_cases q:k<n
  ·rw [if_pos q]
   have:=h3 k(by simp;omega);simpa using this
  rw [if_neg q];have:=h4(k-n)(by simp;omega);simpa [show 40+n+(k-n)=40+k by omega]using this
 rintro⟨h1,h2⟩;refine⟨⟨λj hj=> ?_,λj hj=> ?_⟩,λj hj=> ?_,λj hj=> ?_⟩
 ·simp at hj
  have:=h1 j(by omega);rw [if_pos(by omega),g j(by omega)]at this;simpa using this
 ·simp at hj
  have:=h1(m+j)(by omega);rw [if_neg(by omega),g(m+j)(by omega)]at this;simpa using this
 ·simp at hj
  have:=h2 j(by omega);rw [if_pos(by omega),g(40+j)(by omega)]at this;simpa using this
 simp at hj;have:=h2(n+j)(by omega);rw [if_neg(by omega),g(40+(n+j))(by omega)]at this;simpa [Nat.add_assoc]using this
theorem Inv.ok {ls kk:List(Int×Int)} (hw:Web ls kk) {s:List Int} (h:Inv ls kk s):okB kk.length ls.length s=true:=(okB_iff h.len hw.l40 hw.k64).2⟨h.lv,h.kv⟩
structure After(ls kk:List(Int×Int))(s:List Int)(kid:Nat)(t:List Int):Prop where
 inv:Inv ls kk t
 calm:Calm ls kk t
 l: ∀i,i<40->s.getD i 0≠0->t.getD i 0=s.getD i 0
 k: ∀j,j<64->j≠kid->s.getD(40+j)0≠0->t.getD(40+j)0=s.getD(40+j)0
 self:t.getD(40+kid)0=2
 d: ∀j,j<64-> ¬Auto kk j->(t.getD(40+j)0=2↔s.getD(40+j)0=2∨j=kid)
theorem After.of {ls kk:List(Int×Int)} (hw:Web ls kk) {s t:List Int} (h:Inv ls kk s) {k:Nat} {g:Nat->Int} (hk:k<kk.length)(h1:s.getD(40+k)0=1)
  (hl:t.length=104)(hkt: ∀j,t.getD(40+j)0=if j=k then 2 else s.getD(40+j)0)(hlt: ∀i,i<40->t.getD i 0=if(ls[i]?).map Prod.fst=some(k:Int)then g i else s.getD i 0)
  (hg: ∀i,i<ls.length->g i=1∨g i=2)(hgd:(gateB kk k=true->doesI kk k≠3)-> ∀i,g i=1):After ls kk s k(settle ls kk t):=by
 have k64:=hw.k64;obtain⟨p,hp,f1,f2,f3⟩:=h.fate k hk(by omega);have hnd: ¬Dies kk k p:=λd=>by have:=f1 d;omega
 have hi:=h.upd hw hk(by omega)hl hkt hlt(by omega)(by omega)(λ_ i hi=>hg i hi)(by omega)(λ_=>hgd)hp⟨λd=>absurd d hnd,λ_ _=>rfl,λ_ _=> .inr rfl⟩;obtain⟨i1,i2,i3⟩:=settle_inv hw hi;refine⟨i1,i3,λi hi e=> ?_,λj hj hne e=> ?_, ?_,λj hj ha=> ?_⟩
 ·have ht:t.getD i 0=s.getD i 0:=by
   rw [hlt i hi,if_neg];intro e2;exact e((h.lo i k e2).2(by omega))
  rw [i2.l i hi(by rw [ht];exact e),ht]
 ·have ht:t.getD(40+j)0=s.getD(40+j)0:=by rw [hkt j,if_neg hne]
  rw [i2.k j hj(by rw [ht];exact e),ht]
 ·have ht:t.getD(40+k)0=2:=by rw [hkt k,if_pos rfl]
  rw [i2.k k(by omega)(by omega),ht]
 constructor
 ·intro e
  have:=i2.d j hj ha e;rw [hkt j]at this
  by_cases q:j=k
  ·exact .inr q
  rw [if_neg q]at this;exact .inl this
 intro e
 have ht:t.getD(40+j)0=2:=by
  rw [hkt j]
  by_cases q:j=k
  ·rw [if_pos q]
  rw [if_neg q];exact e.resolve_right q
 rw [i2.k j hj(by omega),ht]
theorem After.finish {ls kk:List(Int×Int)} (hw:Web ls kk) {s:List Int} (h:Inv ls kk s) {k:Nat} (hk:k<kk.length)(h1:s.getD(40+k)0=1):After ls kk s k(finished ls kk s k):=by
 have l40:=hw.l40;have k64:=hw.k64;have hlen:=h.len;refine After.of(g:=λ_=>1)hw h hk h1(by rw [ended_length,hlen])(λj=> ?_)(λi hi=> ?_)(λ_ _=> .inl rfl)(λ_ _=>rfl)
 ·rw [ended_get _ _ _ _(by omega)(by omega),if_neg(λe=>by rw [List.getElem?_eq_none(by omega)]at e;simp at e)]
  by_cases q:j=k
  ·rw [if_pos(by omega),if_pos q]
  rw [if_neg(by omega),if_neg q]
 rw [ended_get _ _ _ _(by omega)(by omega),if_neg(show¬40+k=i by omega)];rfl
theorem After.choose {ls kk:List(Int×Int)} (hw:Web ls kk) {s:List Int} (h:Inv ls kk s) {k c:Nat} (hk:k<kk.length)(h1:s.getD(40+k)0=1)(hg:gateB kk k=true)(hc:(ls[c]?).map Prod.fst=some(k:Int)):After ls kk s k(chose ls kk s k c):=by
 have l40:=hw.l40;have k64:=hw.k64;have hlen:=h.len
 have hcl:c<ls.length:=by
  by_cases q:c<ls.length
  ·exact q
  rw [List.getElem?_eq_none(by omega)]at hc;simp at hc
 have hd3:doesI kk k=3:=by
  by_cases q:doesI kk k=3
  ·exact q
  exact absurd⟨hg,q⟩(h.gt k h1)
 have hlen2:(left ls(s.set(40+k)2)k 2).length=104:=by rw [left_length,List.length_set,hlen]
 refine After.of(g:=λi=>if i=c then 1 else 2)hw h hk h1(by rw [List.length_set,hlen2])(λj=> ?_)(λi hi=> ?_)(λi _=> ?_)(λhh=>absurd hd3(hh hg))
 ·rw [getD_set _ _ _ _(by omega),if_neg(by omega),left_get _ _ _ _(by rw [List.length_set];omega),if_neg(λe=>by rw [List.getElem?_eq_none(by omega)]at e;simp at e),getD_set _ _ _ _(by omega)]
  by_cases q:j=k
  ·rw [if_pos(by omega),if_pos q]
  rw [if_neg(by omega),if_neg q]
 ·rw [getD_set _ _ _ _(by omega),left_get _ _ _ _(by rw [List.length_set];omega),getD_set _ _ _ _(by omega),if_neg(show¬40+k=i by omega)]
  by_cases q:c=i
  ·subst q;rw [if_pos rfl,if_pos hc];simp
  rw [if_neg q]
  by_cases e:(ls[i]?).map Prod.fst=some(k:Int)
  ·rw [if_pos e,if_pos e];simp [Ne.symm q]
  rw [if_neg e,if_neg e]
 show(if i=c then(1:Int)else 2)=1∨_=(2:Int)
 by_cases q:i=c
 ·exact .inl(if_pos q)
 exact .inr(if_neg q)
def Free(ls:List(Int×Int))(rk:Nat->Nat):Prop:= ∀(i f t:Nat),ls[i]? =some((f:Int),(t:Int))->rk f<rk t
theorem linkAt_some(kid:Int): ∀(l:List(Int×Int))(b:Nat)(o:Int),0<=o->o<(l.countP λx=>decide(x.1=kid):Nat)-> ∃c:Nat,linkAt kid l b o=(b+c:Nat)/\(l[c]?).map Prod.fst=some kid
 | [],b,o,h0,h=>by simp at h;omega
 |x::r,b,o,h0,h=>by
  rw [linkAt];rw [List.countP_cons]at h
  by_cases e:x.1=kid
  ·rw [if_pos e]
   rw [if_pos(decide_eq_true e)]at h
   by_cases z:o=0
   ·rw [if_pos z]
    exact⟨0,rfl,by simp [e]⟩
   rw [if_neg z];obtain⟨c,h1,h2⟩:=linkAt_some kid r(b+1)(o-1)(by omega)(by omega);exact⟨c+1,by rw [h1];omega,by simpa using h2⟩
  rw [if_neg e];rw [if_neg(by simp [e])]at h;obtain⟨c,h1,h2⟩:=linkAt_some kid r(b+1)o h0(by omega);exact⟨c+1,by rw [h1];omega,by simpa using h2⟩
theorem running_mem {n:Nat} {s:List Int} {k:Nat} :k∈running n s↔k<n/\s.getD(40+k)0=1:=by
 unfold running;rw [List.mem_filter,List.mem_range,decide_eq_true_iff]
end Dd
end Go.Proofs
