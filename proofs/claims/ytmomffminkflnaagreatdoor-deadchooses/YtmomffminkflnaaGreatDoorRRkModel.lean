import Derived.Test.YtmomffminkflnaaGreatDoorProg
import Derived.Test.YtmomffminkflnaaGreatDoorChecked
import Derived.WalkKit
import Derived.WalkLawsBesides
import Derived.WalkSpells
import Derived.Deep.LoopGhost
import Derived.Outline
import Derived.BigQuiet
import Derived.Deep.QuietTactic
import Derived.Deep.RegionWith
import Derived.BigCall
set_option maxRecDepth 100000
set_option maxHeartbeats 32000000
namespace Go.Proofs
inductive Rk.Reach (es:List (Nat×Nat)):Nat->Nat->Prop
 |refl (a:Nat):Rk.Reach es a a
 |step {a b c:Nat} :Rk.Reach es a b->(b,c)∈es->Rk.Reach es a c
def Rk.Leads (es:List (Nat×Nat))(a c:Nat):Prop:=∃b,Rk.Reach es a b/\(b,c)∈es
theorem Rk.Reach.trans {es:List (Nat×Nat)}{a b c:Nat}(h:Rk.Reach es a b)(k:Rk.Reach es b c):Rk.Reach es a c:=by
 induction k with
 |refl=>exact h
 |step _ m ih=>exact ih.step m
theorem Rk.Leads.reach {es:List (Nat×Nat)}{a c:Nat}(h:Rk.Leads es a c):Rk.Reach es a c:=by
 obtain⟨b,h,m⟩:=h;exact h.step m
theorem Rk.Reach.back {es:List (Nat×Nat)}{a b:Nat}(h:Rk.Reach es a b):Rk.Reach (es.map λe=>(e.2,e.1)) b a:=by
 induction h with
 |refl=>exact .refl _
 |step h m ih=>
  refine Rk.Reach.trans (.step (.refl _) (List.mem_map.2 ⟨_,m,rfl⟩)) ih
theorem Rk.back_iff (es:List (Nat×Nat))(a b:Nat):Rk.Reach (es.map λe=>(e.2,e.1)) b a↔Rk.Reach es a b:=by
 constructor
 ·intro h
  have:=h.back
  rwa [List.map_map,show((λe:Nat×Nat=>(e.2,e.1))∘λe:Nat×Nat=>(e.2,e.1))=id from rfl,List.map_id]at this
 exact Rk.Reach.back
open Classical in
noncomputable def Rk.met (es:List (Nat×Nat))(a b:Nat):Bool:=decide (Rk.Reach es a b)
open Classical in
noncomputable def Rk.lead (es:List (Nat×Nat))(a b:Nat):Bool:=decide (Rk.Leads es a b)
theorem Rk.met_iff (es:List (Nat×Nat))(a b:Nat):Rk.met es a b=true↔Rk.Reach es a b:=by simp[Rk.met]
theorem Rk.lead_iff (es:List (Nat×Nat))(a b:Nat):Rk.lead es a b=true↔Rk.Leads es a b:=by simp[Rk.lead]
abbrev Rk.on (bs:List Bool) (i:Nat):Prop:=bs[i]? =some true
theorem Rk.on_set {bs:List Bool}{i j:Nat}(hj:j<bs.length):Rk.on (bs.set j true) i↔i=j∨Rk.on bs i:=by
 unfold Rk.on;rw[List.getElem?_set]
 by_cases h:j=i
 ·subst h
  simp[hj]
 simp[h];omega
def Rk.Way (es:List (Nat×Nat))(n a:Nat)(bs:List Bool):Prop:=bs.length=n/\Rk.on bs a/\∀i,Rk.on bs i->Rk.Reach es a i
def Rk.Shut (es:List (Nat×Nat))(bs:List Bool):Prop:=∀e,e∈es->Rk.on bs e.1->Rk.on bs e.2
theorem Rk.Way.done {es:List (Nat×Nat)}{n a:Nat}{bs:List Bool}(h:Rk.Way es n a bs)(hs:Rk.Shut es bs):bs=(List.range n).map (Rk.met es a):=by
 have hc:∀i,Rk.Reach es a i->Rk.on bs i:=by
  intro i hi
  induction hi with
  |refl=>exact h.2.1
  |step _ m ih=>exact hs _ m ih
 apply List.ext_getElem?;intro i
 by_cases hi:i<n
 rotate_left
 ·rw[List.getElem?_eq_none (by rw[h.1];omega),List.getElem?_eq_none (by simp;omega)]
 rw[List.getElem?_map,List.getElem?_range hi];have hl:i<bs.length:=by rw[h.1];exact hi
 rw[List.getElem?_eq_getElem hl];show some _=some _
 congr 1
 rw[Bool.eq_iff_iff,Rk.met_iff]
 constructor
 ·intro hb
  exact h.2.2 i (by unfold Rk.on;rw[List.getElem?_eq_getElem hl,hb])
 intro hr;have:=hc i hr;unfold Rk.on at this;rw[List.getElem?_eq_getElem hl]at this;exact Option.some.inj this
theorem Rk.Way.mark {es:List (Nat×Nat)}{n a x y:Nat}{bs:List Bool}(h:Rk.Way es n a bs)(m:(x,y)∈es)(hx:Rk.on bs x)(hy:y<n):Rk.Way es n a (bs.set y true):=by
 have hl:y<bs.length:=by rw[h.1];exact hy
 refine⟨by simpa using h.1,(Rk.on_set hl).2 (.inr h.2.1),λi hi=> ?_⟩
 rcases(Rk.on_set hl).1 hi with rfl|hi
 ·exact(h.2.2 x hx).step m
 exact h.2.2 i hi
theorem Rk.Way.start (es:List (Nat×Nat)){n a:Nat}(ha:a<n):Rk.Way es n a ((List.replicate n false).set a true):=by
 have hl:a<(List.replicate n false).length:=by simpa using ha
 refine⟨by simp,(Rk.on_set hl).2 (.inl rfl),λi hi=> ?_⟩
 rcases(Rk.on_set hl).1 hi with rfl|hi
 ·exact .refl _
 unfold Rk.on at hi;rw[List.getElem?_replicate]at hi
 split at hi<;>simp at hi
def Rk.left (bs:List Bool):Nat:=bs.countP λb=> !b
theorem Rk.left_le (bs:List Bool):Rk.left bs<=bs.length:=List.countP_le_length
theorem Rk.left_set:∀(bs:List Bool) (i:Nat),bs[i]? =some false->Rk.left (bs.set i true)+1=Rk.left bs
 | [],i,h=>by simp at h
 |b::bs,0,h=>by
  simp at h;subst h;simp[Rk.left]
 |b::bs,i+1,h=>by
  have:=Rk.left_set bs i (by simpa using h);unfold Rk.left at*
  cases b<;>simp at* <;>omega
def Rk.sweep:List (Nat×Nat)->List Bool->List Bool
 | [],bs=>bs
 |e::es,bs=>Rk.sweep es (if bs[e.1]? =some true then bs.set e.2 true else bs)
theorem Rk.sweep_length:∀(es:List (Nat×Nat)) (bs:List Bool),(Rk.sweep es bs).length=bs.length
 | [],_=>rfl
 |e::es,bs=>by
  rw[Rk.sweep,Rk.sweep_length es]
  split<;>simp
theorem Rk.one_keeps (bs:List Bool)(x y i:Nat)(h:Rk.on bs i):Rk.on (if bs[x]? =some true then bs.set y true else bs) i:=by
 split
 ·unfold Rk.on at*
  rw[List.getElem?_set];have hl:i<bs.length:=(List.getElem?_eq_some_iff.1 h).1
  split
  ·subst_vars;simp[hl]
  exact h
 exact h
theorem Rk.sweep_keeps:∀(es:List (Nat×Nat)) (bs:List Bool) (i:Nat),Rk.on bs i->Rk.on (Rk.sweep es bs) i
 | [],_,_,h=>h
 |e::es,bs,i,h=>Rk.sweep_keeps es _ i (Rk.one_keeps bs e.1 e.2 i h)
theorem Rk.sweep_does:∀(es:List (Nat×Nat)) (bs:List Bool) (e:Nat×Nat),e∈es->e.2<bs.length->Rk.on bs e.1->Rk.on (Rk.sweep es bs) e.2
 | [],_,_,h,_,_=>by simp at h
 |f::es,bs,e,h,hl,ho=>by
  rcases List.mem_cons.1 h with rfl|h
  ·rw[Rk.sweep]
   refine Rk.sweep_keeps es _ _ ?_;rw[if_pos ho];exact(Rk.on_set hl).2 (.inl rfl)
  rw[Rk.sweep];refine Rk.sweep_does es _ e h ?_ (Rk.one_keeps bs f.1 f.2 e.1 ho)
  split<;>simpa using hl
theorem Rk.sweep_only {fs:List (Nat×Nat)}{a:Nat} :∀(es:List (Nat×Nat)) (bs:List Bool),(∀e,e∈es->e∈fs)->(∀i,Rk.on bs i->Rk.Leads fs a i)->∀i,Rk.on (Rk.sweep es bs) i->Rk.Leads fs a i
 | [],_,_,h,i,hi=>h i hi
 |e::es,bs,hs,h,i,hi=>by
  refine Rk.sweep_only es _ (λx hx=>hs x (List.mem_cons_of_mem _ hx)) (λj hj=> ?_) i hi
  split at hj
  ·next hx=>
   unfold Rk.on at hj;rw[List.getElem?_set]at hj
   split at hj
   ·next he=>
    subst he;exact⟨e.1,(h e.1 hx).reach,hs e List.mem_cons_self⟩
   exact h j hj
  exact h j hj
def Rk.sweeps (es:List (Nat×Nat)):Nat->List Bool->List Bool
 |0,bs=>bs
 |k+1,bs=>Rk.sweeps es k (Rk.sweep es bs)
theorem Rk.sweeps_length (es:List (Nat×Nat)):∀(k:Nat) (bs:List Bool),(Rk.sweeps es k bs).length=bs.length
 |0,_=>rfl
 |k+1,bs=>by rw[Rk.sweeps,Rk.sweeps_length es k,Rk.sweep_length]
theorem Rk.sweeps_keeps (es:List (Nat×Nat)):∀(k:Nat) (bs:List Bool) (i:Nat),Rk.on bs i->Rk.on (Rk.sweeps es k bs) i
 |0,_,_,h=>h
 |k+1,bs,i,h=>Rk.sweeps_keeps es k _ i (Rk.sweep_keeps es bs i h)
theorem Rk.sweeps_only {es:List (Nat×Nat)}{a:Nat} :∀(k:Nat) (bs:List Bool),(∀i,Rk.on bs i->Rk.Leads es a i)->∀i,Rk.on (Rk.sweeps es k bs) i->Rk.Leads es a i
 |0,_,h,i,hi=>h i hi
 |k+1,bs,h,i,hi=>Rk.sweeps_only k _ (Rk.sweep_only es bs (λ_ h=>h) h) i hi
theorem Rk.left_mono:∀(bs cs:List Bool),bs.length=cs.length->(∀i,Rk.on bs i->Rk.on cs i)->Rk.left cs<=Rk.left bs/\(Rk.left cs=Rk.left bs->cs=bs)
 | [], [],_,_=>by simp
 | [],c::cs,h,_=>by simp at h
 |b::bs, [],h,_=>by simp at h
 |b::bs,c::cs,h,hk=>by
  have ih:=Rk.left_mono bs cs (by simpa using h) (λi hi=>by simpa [Rk.on]using hk (i+1) (by simpa [Rk.on]using hi));have h0:=hk 0;unfold Rk.left at*
  cases b<;>cases c<;>simp[Rk.on]at h0⊢ <;>first|exact ih|skip
  constructor
  ·omega
  omega
theorem Rk.sweeps_shut {es:List (Nat×Nat)} :∀(k:Nat) (bs:List Bool),(∀e,e∈es->e.2<bs.length)->Rk.left bs<=k->Rk.Shut es (Rk.sweeps es k bs)
 |0,bs,hl,hk=>by
  intro e he _;have h0:Rk.left bs=0:=by omega
  unfold Rk.left at h0;rw[List.countP_eq_zero]at h0;have hb:=hl e he;show Rk.on bs e.2;unfold Rk.on;rw[List.getElem?_eq_getElem hb];have:=h0 _ (List.getElem_mem hb);simpa using this
 |k+1,bs,hl,hk=>by
  have hm:=Rk.left_mono bs (Rk.sweep es bs) (Rk.sweep_length es bs).symm (Rk.sweep_keeps es bs)
  by_cases he:Rk.left (Rk.sweep es bs)=Rk.left bs
  ·have hs:=hm.2 he
   have hsh:Rk.Shut es bs:=λe hm ho=>by
    have:=Rk.sweep_does es bs e hm (hl e hm) ho
    rwa [hs]at this
   have hfix:∀j,Rk.sweeps es j bs=bs:=by
    intro j
    induction j with
    |zero=>rfl
    |succ j ih=>rw[Rk.sweeps,hs,ih]
   rw[hfix];exact hsh
  rw[Rk.sweeps];exact Rk.sweeps_shut k _ (λe h=>by rw[Rk.sweep_length];exact hl e h) (by omega)
def Rk.first (a:Nat):List (Nat×Nat)->List Bool->List Bool
 | [],bs=>bs
 |e::es,bs=>Rk.first a es (if e.1=a then bs.set e.2 true else bs)
theorem Rk.first_length (a:Nat):∀(es:List (Nat×Nat)) (bs:List Bool),(Rk.first a es bs).length=bs.length
 | [],_=>rfl
 |e::es,bs=>by
  rw[Rk.first,Rk.first_length a es]
  split<;>simp
theorem Rk.first_iff (a:Nat)(i:Nat):∀(es:List (Nat×Nat)) (bs:List Bool),(∀e,e∈es->e.2<bs.length)->(Rk.on (Rk.first a es bs) i↔Rk.on bs i∨(a,i)∈es)
 | [],bs,_=>by simp[Rk.first]
 |e::es,bs,hl=>by
  obtain⟨x,y⟩:=e;rw[Rk.first]
  by_cases hx:x=a
  ·subst hx
   rw[if_pos rfl,Rk.first_iff x i es _ (λe h=>by rw[List.length_set];exact hl e (List.mem_cons_of_mem _ h)),Rk.on_set (hl (x,y) List.mem_cons_self)];simp only[List.mem_cons,Prod.mk.injEq,true_and]
   constructor
   ·rintro((h|h)|h)
    ·exact .inr (.inl h)
    ·exact .inl h
    exact .inr (.inr h)
   rintro(h|h|h)
   ·exact .inl (.inr h)
   ·exact .inl (.inl h)
   exact .inr h
  rw[if_neg hx,Rk.first_iff a i es _ (λe h=>hl e (List.mem_cons_of_mem _ h))];simp only[List.mem_cons,Prod.mk.injEq]
  constructor
  ·rintro(h|h)
   ·exact .inl h
   exact .inr (.inr h)
  rintro(h|⟨h,_⟩|h)
  ·exact .inl h
  ·exact absurd h.symm hx
  exact .inr h
theorem Rk.sweeps_eq {es:List (Nat×Nat)}{n:Nat}(hes:∀e,e∈es->e.1<n/\e.2<n)(a:Nat):
  Rk.sweeps es n (Rk.first a es (List.replicate n false))=(List.range n).map (Rk.lead es a):=by
 have hf:=λi=>Rk.first_iff a i es (List.replicate n false) (λe h=>by simpa using(hes e h).2);have hfl:(Rk.first a es (List.replicate n false)).length=n:=by rw[Rk.first_length];simp
 have hno:∀i,¬Rk.on (List.replicate n false) i:=by
  intro i h;unfold Rk.on at h;rw[List.getElem?_replicate]at h
  split at h<;>simp at h
 have honly:∀i,Rk.on (Rk.sweeps es n (Rk.first a es (List.replicate n false))) i->Rk.Leads es a i:=
  Rk.sweeps_only n _ (λi hi=>by
   rcases(hf i).1 hi with h|h
   ·exact absurd h (hno i)
   exact⟨a,.refl a,h⟩)
 have hshut:=Rk.sweeps_shut (es:=es) n (Rk.first a es (List.replicate n false)) (λe h=>by rw[hfl];exact(hes e h).2) (by have:=Rk.left_le (Rk.first a es (List.replicate n false));omega);have hfirst:∀i,(a,i)∈es->Rk.on (Rk.sweeps es n (Rk.first a es (List.replicate n false))) i:=λi h=>Rk.sweeps_keeps es n _ i ((hf i).2 (.inr h))
 have hall:∀i,Rk.Leads es a i->Rk.on (Rk.sweeps es n (Rk.first a es (List.replicate n false))) i:=by
  rintro i ⟨b,hr,m⟩
  have:b=a∨Rk.on (Rk.sweeps es n (Rk.first a es (List.replicate n false))) b:=by
   clear m
   induction hr with
   |refl=>exact .inl rfl
   |step _ m ih=>
    rcases ih with rfl|ih
    ·exact .inr (hfirst _ m)
    exact .inr (hshut _ m ih)
  rcases this with rfl|h
  ·exact hfirst _ m
  exact hshut _ m h
 have hlen:(Rk.sweeps es n (Rk.first a es (List.replicate n false))).length=n:=by rw[Rk.sweeps_length,hfl]
 apply List.ext_getElem?;intro i
 by_cases hi:i<n
 rotate_left
 ·rw[List.getElem?_eq_none (by rw[hlen];omega),List.getElem?_eq_none (by simp;omega)]
 rw[List.getElem?_map,List.getElem?_range hi];have hl:i<(Rk.sweeps es n (Rk.first a es (List.replicate n false))).length:=by rw[hlen];exact hi
 rw[List.getElem?_eq_getElem hl];show some _=some _
 congr 1
 rw[Bool.eq_iff_iff,Rk.lead_iff]
 constructor
 ·intro hb
  exact honly i (by unfold Rk.on;rw[List.getElem?_eq_getElem hl,hb])
 intro hr;have:=hall i hr;unfold Rk.on at this;rw[List.getElem?_eq_getElem hl]at this;exact Option.some.inj this
end Go.Proofs
namespace Go.Proofs
namespace Dd
def leftK (ls:List (Int×Int))(fr how:Int):Nat->List Int->List Int
 |0,s=>s
 |k+1,s=>if(ls[k]?).map Prod.fst=some fr then(leftK ls fr how k s).set k how else leftK ls fr how k s
def left (ls:List (Int×Int))(s:List Int)(fr how:Int):List Int:=leftK ls fr how ls.length s
def scan (ls:List (Int×Int))(s:List Int)(kid:Int):Nat->Option (Bool×Bool)
 |0=>some (true,false)
 |k+1=>match scan ls s kid k with
  |none=>none
  |some p=>if(ls[k]?).map Prod.snd=some kid then(if s.getD k 0=0 then none else some (p.1&&decide (s.getD k 0=1),p.2||decide (s.getD k 0=1)))else some p
def ended (ls:List (Int×Int))(s:List Int)(kid:Nat)(how:Int):List Int:=left ls (s.set (40+kid) how) kid (if how=2 then 1 else 2)
def gateB (kk:List (Int×Int))(k:Nat):Bool:=decide (((kk[k]?).getD (0,0)).1=12)
def doesI (kk:List (Int×Int))(k:Nat):Int:=((kk[k]?).getD (0,0)).2
def Dies (kk:List (Int×Int))(k:Nat)(p:Bool×Bool):Prop:=p.2=false∨(gateB kk k=true/\doesI kk k=2/\p.1=false)
instance (kk:List (Int×Int)) (k:Nat) (p:Bool×Bool):Decidable (Dies kk k p):=by unfold Dies;exact inferInstance
def Auto (kk:List (Int×Int))(k:Nat):Prop:=gateB kk k=true/\doesI kk k≠3
instance (kk:List (Int×Int)) (k:Nat):Decidable (Auto kk k):=by unfold Auto;exact inferInstance
def decided (ls kk:List (Int×Int))(s:List Int)(kid:Nat):List Int:=
 if s.getD (40+kid) 0=0 then(match scan ls s kid ls.length with
  |none=>s
  |some p=>if Dies kk kid p then ended ls s kid 3 else if Auto kk kid then ended ls s kid 2 else s.set (40+kid) 1)
 else s
def nextK (ls kk:List (Int×Int))(s:List Int):Nat->Option (List Int)
 |0=>none
 |k+1=>match nextK ls kk s k with
  |some t=>some t
  |none=>if decided ls kk s k=s then none else some (decided ls kk s k)
def settleF (ls kk:List (Int×Int)):Nat->List Int->List Int
 |0,s=>s
 |f+1,s=>match nextK ls kk s kk.length with
  |none=>s
  |some t=>settleF ls kk f t
def settle (ls kk:List (Int×Int))(s:List Int):List Int:=settleF ls kk kk.length s
def zeros:List Int:=List.replicate 104 0
def start (ls kk:List (Int×Int)):List Int:=settle ls kk (left ls zeros (-1) 1)
def waits (n:Nat)(s:List Int):Nat:=(List.range n).countP λk=>decide (s.getD (40+k) 0=0)
def heldB (xs:List Int)(most:Int):Bool:=xs.all λx=>decide (0<=x)&&decide (x<=most)
def okB (n m:Nat)(s:List Int):Bool:=((heldB ((s.take 40).take m) 2&&heldB ((s.take 40).drop m) 0))&&(heldB ((s.drop 40).take n) 3&&heldB ((s.drop 40).drop n) 0)
def runsB (n:Nat)(s:List Int)(k:Int):Bool:=decide (0<=k)&&decide (k<n)&&decide (s.getD (40+k.toNat) 0=1)
def linkAt (kid:Int):List (Int×Int)->Nat->Int->Int
 | [],_,_=> -1
 |l::r,b,o=>if l.1=kid then(if o=0 then b else linkAt kid r (b+1) (o-1))else linkAt kid r (b+1) o
def finished (ls kk:List (Int×Int))(s:List Int)(k:Nat):List Int:=settle ls kk (ended ls s k 2)
def chose (ls kk:List (Int×Int))(s:List Int)(k:Nat)(c:Nat):List Int:=settle ls kk ((left ls (s.set (40+k) 2) k 2).set c 1)
def running (n:Nat)(s:List Int):List Nat:=(List.range n).filter λk=>decide (s.getD (40+k) 0=1)
theorem getD_set (s:List Int)(i j:Nat)(v:Int)(h:i<s.length):(s.set i v).getD j 0=if i=j then v else s.getD j 0:=by
 rw[List.getD_eq_getElem?_getD,List.getElem?_set,List.getD_eq_getElem?_getD]
 by_cases e:i=j
 ·subst e;simp[h]
 simp[e]
theorem ext {s t:List Int}(hs:s.length=104)(ht:t.length=104)(h:∀i,i<104->s.getD i 0=t.getD i 0):s=t:=by
 apply List.ext_getElem (by omega);intro i h1 h2;have:=h i (by omega);simpa [List.getD_eq_getElem?_getD,h1,h2]using this
theorem leftK_length (ls:List (Int×Int))(fr how:Int):∀(k:Nat) (s:List Int),(leftK ls fr how k s).length=s.length
 |0,s=>rfl
 |k+1,s=>by
  rw[leftK]
  split
  ·rw[List.length_set,leftK_length ls fr how k s]
  exact leftK_length ls fr how k s
theorem leftK_get (ls:List (Int×Int))(fr how:Int):∀(k:Nat) (s:List Int) (j:Nat),k<=s.length->(leftK ls fr how k s).getD j 0=if j<k/\(ls[j]?).map Prod.fst=some fr then how else s.getD j 0
 |0,s,j,_=>by rw[leftK,if_neg (by omega)]
 |k+1,s,j,h=>by
  have ih:=leftK_get ls fr how k s j (by omega);rw[leftK]
  split
  ·rename_i e
   rw[getD_set _ _ _ _ (by rw[leftK_length];omega),ih]
   by_cases q:k=j
   ·subst q;rw[if_pos rfl,if_pos ⟨by omega,e⟩]
   rw[if_neg q]
   by_cases r:j<k/\(ls[j]?).map Prod.fst=some fr
   ·rw[if_pos r,if_pos ⟨by omega,r.2⟩]
   rw[if_neg r,if_neg (λx=>r ⟨by omega,x.2⟩)]
  rename_i e
  rw[ih]
  by_cases r:j<k/\(ls[j]?).map Prod.fst=some fr
  ·rw[if_pos r,if_pos ⟨by omega,r.2⟩]
  rw[if_neg r,if_neg];rintro⟨x,y⟩
  by_cases q:j=k
  ·subst q;exact e y
  exact r ⟨by omega,y⟩
theorem left_length (ls:List (Int×Int))(s:List Int)(fr how:Int):(left ls s fr how).length=s.length:=leftK_length ..
theorem left_get (ls:List (Int×Int))(s:List Int)(fr how:Int)(h:ls.length<=s.length)(j:Nat):(left ls s fr how).getD j 0=if(ls[j]?).map Prod.fst=some fr then how else s.getD j 0:=by
 rw[left,leftK_get ls fr how _ s j h]
 by_cases q:j<ls.length
 ·simp[q]
 rw[if_neg (by omega),if_neg];rw[List.getElem?_eq_none (by omega)]
 simp
theorem scan_none {ls:List (Int×Int)}{s:List Int}{kid:Int} :∀{k j:Nat},scan ls s kid k=none->k<=j->scan ls s kid j=none
 |k,0,h,hj=>by obtain rfl:k=0:=by omega
               exact h
 |k,j+1,h,hj=>by
  by_cases q:k=j+1
  ·subst q;exact h
  rw[scan,scan_none h (by omega:k<=j)]
theorem scan_iff (ls:List (Int×Int))(s:List Int)(kid:Int):∀k,match scan ls s kid k with
  |none=>∃i,i<k/\(ls[i]?).map Prod.snd=some kid/\s.getD i 0=0
  |some p=>(∀i,i<k->(ls[i]?).map Prod.snd=some kid->s.getD i 0≠0)/\(p.1=true↔∀i,i<k->(ls[i]?).map Prod.snd=some kid->s.getD i 0=1)/\(p.2=true↔∃i,i<k/\(ls[i]?).map Prod.snd=some kid/\s.getD i 0=1)
 |0=>by rw[scan];exact⟨λi h=>by omega,⟨λ_ i h=>by omega,λ_=>rfl⟩,⟨λh=>by simp at h,fun⟨i,h,_⟩=>by omega⟩⟩
 |k+1=>by
  have ih:=scan_iff ls s kid k;rw[scan]
  cases hq:scan ls s kid k with
  |none=>
   rw[hq]at ih;obtain⟨i,h1,h2⟩:=ih;exact⟨i,by omega,h2⟩
  |some p=>
   rw[hq]at ih;obtain⟨i1,i2,i3⟩:=ih;dsimp only
   by_cases e:(ls[k]?).map Prod.snd=some kid
   rotate_left
   ·rw[if_neg e]
    have no:∀i,i<k+1->(ls[i]?).map Prod.snd=some kid->i<k:=λi hi hk=>by
     by_cases q:i=k
     ·subst q;exact absurd hk e
     omega
    refine⟨λi hi hk=>i1 i (no i hi hk) hk,i2.trans ⟨λa i hi hk=>a i (no i hi hk) hk,λa i hi hk=>a i (by omega) hk⟩,i3.trans ⟨fun⟨i,a,b,c⟩=>⟨i,by omega,b,c⟩,fun⟨i,a,b,c⟩=>⟨i,no i a b,b,c⟩⟩⟩
   rw[if_pos e]
   by_cases z:s.getD k 0=0
   ·rw[if_pos z];exact⟨k,by omega,e,z⟩
   rw[if_neg z];refine⟨λi hi hk=> ?_, ?_, ?_⟩
   ·by_cases q:i=k
    ·subst q;exact z
    exact i1 i (by omega) hk
   ·dsimp only
    rw[Bool.and_eq_true,i2,decide_eq_true_iff]
    constructor
    ·rintro⟨a,b⟩ i hi hk
     by_cases q:i=k
     ·subst q;exact b
     exact a i (by omega) hk
    intro a;exact⟨λi hi hk=>a i (by omega) hk,a k (by omega) e⟩
   dsimp only;rw[Bool.or_eq_true,i3,decide_eq_true_iff]
   constructor
   ·rintro(⟨i,a,b⟩|b)
    ·exact⟨i,by omega,b⟩
    exact⟨k,by omega,e,b⟩
   rintro⟨i,a,b,c⟩
   by_cases q:i=k
   ·subst q;exact .inr c
   exact .inl ⟨i,by omega,b,c⟩
theorem scan_congr {ls:List (Int×Int)}{s t:List Int}{kid:Int} :∀{k:Nat},(∀i,i<k->(ls[i]?).map Prod.snd=some kid->s.getD i 0=t.getD i 0)->scan ls s kid k=scan ls t kid k
 |0,_=>rfl
 |k+1,h=>by
  rw[scan,scan,scan_congr (k:=k) λi hi hk=>h i (by omega) hk]
  cases scan ls t kid k with
  |none=>rfl
  |some p=>
   dsimp only
   by_cases e:(ls[k]?).map Prod.snd=some kid
   ·rw[if_pos e,if_pos e,h k (by omega) e]
   rw[if_neg e,if_neg e]
theorem ended_length (ls:List (Int×Int))(s:List Int)(kid:Nat)(how:Int):(ended ls s kid how).length=s.length:=by rw[ended,left_length,List.length_set]
theorem ended_get (ls:List (Int×Int))(s:List Int)(kid:Nat)(how:Int)(h:ls.length<=s.length)(hk:40+kid<s.length)(j:Nat):(ended ls s kid how).getD j 0=if(ls[j]?).map Prod.fst=some (kid:Int)then(if how=2 then 1 else 2)else if 40+kid=j then how else s.getD j 0:=by
 rw[ended,left_get _ _ _ _ (by rw[List.length_set];exact h),getD_set _ _ _ _ hk]
theorem decided_length (ls kk:List (Int×Int))(s:List Int)(kid:Nat):(decided ls kk s kid).length=s.length:=by
 unfold decided
 split
 ·split
  ·rfl
  split
  ·exact ended_length ..
  split
  ·exact ended_length ..
  exact List.length_set ..
 rfl
theorem decided_kid {ls kk:List (Int×Int)}{s:List Int}{kid:Nat}(h40:ls.length<=40)(hl:s.length=104)(hk:kid<64)(h0:s.getD (40+kid) 0=0){p:Bool×Bool}(hp:scan ls s kid ls.length=some p):(decided ls kk s kid).getD (40+kid) 0=if Dies kk kid p then 3 else if Auto kk kid then 2 else 1:=by
 have hno:(ls[40+kid]?).map Prod.fst=some (kid:Int)->False:=λh=>by
  rw[List.getElem?_eq_none (by omega)]at h;simp at h
 unfold decided;rw[if_pos h0,hp];dsimp only
 by_cases d:Dies kk kid p
 ·rw[if_pos d,if_pos d,ended_get _ _ _ _ (by omega) (by omega),if_neg hno,if_pos rfl]
 rw[if_neg d,if_neg d]
 by_cases a:Auto kk kid
 ·rw[if_pos a,if_pos a,ended_get _ _ _ _ (by omega) (by omega),if_neg hno,if_pos rfl]
 rw[if_neg a,if_neg a,getD_set _ _ _ _ (by omega),if_pos rfl]
theorem decided_same {ls kk:List (Int×Int)}{s:List Int}{kid:Nat}(h40:ls.length<=40)(hl:s.length=104)(hk:kid<64):decided ls kk s kid=s↔s.getD (40+kid) 0≠0∨scan ls s kid ls.length=none:=by
 constructor
 ·intro h
  by_cases h0:s.getD (40+kid) 0=0
  ·refine .inr ?_
   cases hp:scan ls s kid ls.length with
   |none=>rfl
   |some p=>
    exfalso
    have h1:=decided_kid (kk:=kk) h40 hl hk h0 hp;rw[h,h0]at h1
    split at h1
    ·cases h1
    split at h1<;>cases h1
  exact .inl h0
 rintro(h|h)
 ·rw[decided,if_neg h]
 rw[decided,h];split<;>rfl
end Dd
end Go.Proofs
namespace Go.Proofs
open Go.RowKit
inductive Tm where
 |mk (op num:Int) (ks:List Tm)
namespace Tm
def op:Tm->Int|mk o _ _=>o
def num:Tm->Int|mk _ n _=>n
def ks:Tm->List Tm|mk _ _ k=>k
mutual
def size:Tm->Nat|mk _ _ ks=>sizes ks+1
def sizes:List Tm->Nat| []=>0|k::r=>size k+sizes r
end
mutual
def depth:Tm->Nat|mk _ _ ks=>depths ks+1
def depths:List Tm->Nat| []=>0|k::r=>max (depth k) (depths r)
end
def kidsOf (op:Int):Nat:=if op<3 then 0 else if op<5 then 1 else 2
def mostOf (op:Int):Int:=if op=1 then 1099511627776 else if op=2 then 3 else 0
def isOf (op:Int):Int:=if op=4∨10<=op then 2 else 1
def askedOf (op:Int):Int:=if op<3 then 0 else if op=4∨13<=op then 2 else 1
def formedB (op n:Int)(len:Nat):Bool:=decide (1<=op/\op<=14/\len=kidsOf op/\0<=n/\n<=mostOf op)
mutual
def allForm:Tm->Bool|mk op n ks=>formedB op n ks.length&&allForms ks
def allForms:List Tm->Bool| []=>true|k::r=>allForm k&&allForms r
end
mutual
def typedB:Tm->Bool|mk op _ ks=>typeds op ks
def typeds (o:Int):List Tm->Bool| []=>true|k::r=>(isOf k.op==askedOf o)&&typedB k&&typeds o r
end
def checkR (T:Tm):Int×Int:=if 24<T.depth then(0,2)else if T.allForm=false then(0,4)else if T.typedB=false then(0,30)else(isOf T.op,0)
theorem sizes_snoc (l:List Tm)(a:Tm):sizes (l++ [a])=sizes l+a.size:=by
 induction l with
 |nil=>simp[sizes]
 |cons k r ih=>simp only[List.cons_append,sizes,ih];omega
theorem depths_snoc (l:List Tm)(a:Tm):depths (l++ [a])=max (depths l) a.depth:=by
 induction l with
 |nil=>simp[depths]
 |cons k r ih=>simp only[List.cons_append,depths,ih];omega
theorem allForms_snoc (l:List Tm)(a:Tm):allForms (l++ [a])=(allForms l&&a.allForm):=by
 induction l with
 |nil=>simp[allForms]
 |cons k r ih=>simp only[List.cons_append,allForms,ih,Bool.and_assoc]
theorem typeds_snoc (o:Int)(l:List Tm)(a:Tm):typeds o (l++ [a])=(typeds o l&&((isOf a.op==askedOf o)&&a.typedB)):=by
 induction l with
 |nil=>simp[typeds]
 |cons k r ih=>simp only[List.cons_append,typeds,ih,Bool.and_assoc]
theorem take_snoc {α:Type}(l:List α)(k:Nat)(h:k<l.length):l.take (k+1)=l.take k++ [l[k]]:=by
 rw[List.take_succ_eq_append_getElem h]
theorem sizes_take (l:List Tm)(k:Nat)(h:k<l.length):sizes (l.take (k+1))=sizes (l.take k)+l[k].size:=by rw[take_snoc l k h,sizes_snoc]
theorem depths_take (l:List Tm)(k:Nat)(h:k<l.length):depths (l.take (k+1))=max (depths (l.take k)) l[k].depth:=by rw[take_snoc l k h,depths_snoc]
theorem allForms_take (l:List Tm)(k:Nat)(h:k<l.length):allForms (l.take (k+1))=(allForms (l.take k)&&l[k].allForm):=by rw[take_snoc l k h,allForms_snoc]
theorem typeds_take (o:Int)(l:List Tm)(k:Nat)(h:k<l.length):typeds o (l.take (k+1))=(typeds o (l.take k)&&((isOf l[k].op==askedOf o)&&l[k].typedB)):=by rw[take_snoc l k h,typeds_snoc]
theorem sizes_le (l:List Tm):∀k,sizes (l.take k)<=sizes l:=by
 induction l with
 |nil=>simp[sizes]
 |cons a r ih=>
  intro k
  cases k with
  |zero=>simp[sizes]
  |succ k=>simp only[List.take_succ_cons,sizes];have:=ih k;omega
theorem depths_get (l:List Tm):∀k (h:k<l.length),l[k].depth<=depths l:=by
 induction l with
 |nil=>intro k h;simp at h
 |cons a r ih=>
  intro k h
  cases k with
  |zero=>simp only[List.getElem_cons_zero,depths];omega
  |succ k=>simp only[List.getElem_cons_succ,depths];have:=ih k (by simpa using h);omega
theorem allForms_get (l:List Tm)(hl:allForms l=true):∀k (h:k<l.length),l[k].allForm=true:=by
 induction l with
 |nil=>intro k h;simp at h
 |cons a r ih=>
  simp only[allForms,Bool.and_eq_true]at hl;intro k h
  cases k with
  |zero=>simpa using hl.1
  |succ k=>simpa using ih hl.2 k (by simpa using h)
theorem typeds_get (o:Int)(l:List Tm)(hl:typeds o l=true):∀k (h:k<l.length),isOf l[k].op=askedOf o/\l[k].typedB=true:=by
 induction l with
 |nil=>intro k h;simp at h
 |cons a r ih=>
  simp only[typeds,Bool.and_eq_true,beq_iff_eq]at hl;intro k h
  cases k with
  |zero=>simpa using hl.1
  |succ k=>simpa using ih hl.2 k (by simpa using h)
theorem size_pos (T:Tm):1<=T.size:=by cases T;simp[size]
theorem sizes_get (l:List Tm)(k:Nat)(h:k<l.length):sizes (l.take k)+l[k].size<=sizes l:=by rw[<-sizes_take l k h];exact sizes_le _ _
theorem length_le_sizes (l:List Tm):l.length<=sizes l:=by
 induction l with
 |nil=>simp[sizes]
 |cons a r ih=>have:=size_pos a;simp only[List.length_cons,sizes];omega
theorem formed_of_all {T:Tm}(h:T.allForm=true):formedB T.op T.num T.ks.length=true/\allForms T.ks=true:=by
 cases T;simpa [allForm,op,num,ks]using h
mutual
theorem depth_le_size:∀T:Tm,T.depth<=T.size
 |mk _ _ ks=>by simp only[depth,size];have:=depths_le_sizes ks;omega
theorem depths_le_sizes:∀l:List Tm,depths l<=sizes l
 | []=>by simp[depths,sizes]
 |k::r=>by simp only[depths,sizes];have:=depth_le_size k;have:=depths_le_sizes r;omega
end
theorem size_eq (T:Tm):T.size=sizes T.ks+1:=by cases T;rfl
theorem depth_eq (T:Tm):T.depth=depths T.ks+1:=by cases T;rfl
theorem allForm_eq (T:Tm):T.allForm=(formedB T.op T.num T.ks.length&&allForms T.ks):=by cases T;rfl
theorem typedB_eq (T:Tm):T.typedB=typeds T.op T.ks:=by cases T;rfl
def Lies (w:World)(B:Nat):Nat->Value->Tm->Prop
 |0,_,_=>False
 |d+1,v,T=>∃a cap,v=.slice a T.ks.length cap/\(T.ks= []∨∃g off,a=some ⟨g,off,none⟩/\g<B/\
  ∀j (h:j<T.ks.length),∃u,w.cell? ⟨g,off+j*3,none⟩=some (.int .i64 T.ks[j].op)/\w.cell? ⟨g,off+j*3+1,none⟩=some (.int .i64 T.ks[j].num)/\
   w.cell? ⟨g,off+j*3+2,none⟩=some u/\Lies w B d u T.ks[j])
theorem Lies.keep {w w':World}{B:Nat}(hk:∀k,k<B->w'.heap[k]? =w.heap[k]?):∀{d:Nat} {v:Value} {T:Tm},Lies w B d v T->Lies w' B d v T
 |0,_,_,h=>h.elim
 |d+1,v,T,h=>by
  obtain⟨a,cap,hv,h⟩:=h;refine⟨a,cap,hv,h.elim .inl fun⟨g,off,ha,hg,hr⟩=> .inr ⟨g,off,ha,hg,λj hj=> ?_⟩⟩;obtain⟨u,h0,h1,h2,h3⟩:=hr j hj;have hc:∀o,w'.cell? ⟨g,o,none⟩=w.cell? ⟨g,o,none⟩:=λo=>World.cell?_of_block (w:=w) (hk g hg);exact⟨u,by rw[hc];exact h0,by rw[hc];exact h1,by rw[hc];exact h2,Lies.keep hk h3⟩
theorem Lies.below {w w':World}{B:Nat}(hb:Below B w w'){d:Nat}{v:Value}{T:Tm}(h:Lies w B d v T):Lies w' B d v T:=h.keep hb.block
theorem Lies.wider {w:World}{B B':Nat}(hB:B<=B'):∀{d:Nat} {v:Value} {T:Tm},Lies w B d v T->Lies w B' d v T
 |0,_,_,h=>h.elim
 |d+1,v,T,h=>by
  obtain⟨a,cap,hv,h⟩:=h;refine⟨a,cap,hv,h.elim .inl fun⟨g,off,ha,hg,hr⟩=> .inr ⟨g,off,ha,by omega,λj hj=> ?_⟩⟩;obtain⟨u,h0,h1,h2,h3⟩:=hr j hj;exact⟨u,h0,h1,h2,Lies.wider hB h3⟩
theorem Lies.shape {w:World}{B d:Nat}{v:Value}{T:Tm}(h:Lies w B d v T):∃a cap,v=.slice a T.ks.length cap:=by
 cases d with
 |zero=>exact h.elim
 |succ d=>obtain⟨a,cap,hv,_⟩:=h;exact⟨a,cap,hv⟩
theorem Lies.kid {w:World}{B d:Nat}{a:Option Addr}{n cap:Nat}{T:Tm}(h:Lies w B (d+1) (.slice a n cap) T)(j:Nat)(hj:j<T.ks.length):
  ∃g off u,a=some ⟨g,off,none⟩/\g<B/\w.cell? ⟨g,off+j*3,none⟩=some (.int .i64 T.ks[j].op)/\w.cell? ⟨g,off+j*3+1,none⟩=some (.int .i64 T.ks[j].num)/\
   w.cell? ⟨g,off+j*3+2,none⟩=some u/\Lies w B d u T.ks[j]:=by
 obtain⟨a',cap',hv,h⟩:=h;obtain⟨rfl,_,_⟩:=Value.slice.inj hv
 rcases h with h|⟨g,off,ha,hg,hr⟩
 ·rw[h]at hj;simp at hj
 obtain⟨u,h0,h1,h2,h3⟩:=hr j hj;exact⟨g,off,u,ha,hg,h0,h1,h2,h3⟩
end Tm
structure Tk.But (E:Nat->Prop)(w w':World):Prop where
 os:w'.os=w.os
 tape:w'.tape=w.tape
 output:w'.output=w.output
 size:w.heap.size<=w'.heap.size
 block:∀k,k<w.heap.size->¬E k->w'.heap[k]? =w.heap[k]?
theorem Tk.But.refl (E:Nat->Prop)(w:World):Tk.But E w w:=⟨rfl,rfl,rfl,Nat.le_refl _,λ_ _ _=>rfl⟩
theorem Tk.But.trans {E:Nat->Prop}{a b c:World}(h:Tk.But E a b)(k:Tk.But E b c):Tk.But E a c:=
 ⟨k.os.trans h.os,k.tape.trans h.tape,k.output.trans h.output,Nat.le_trans h.size k.size,λi hi he=>(k.block i (Nat.lt_of_lt_of_le hi h.size) he).trans (h.block i hi he)⟩
theorem Tk.But.of_below {E:Nat->Prop}{w w':World}(h:Below w.heap.size w w'):Tk.But E w w':=⟨h.os,h.tape,h.output,h.size,λk hk _=>h.block k hk⟩
theorem Tk.But.below {E:Nat->Prop}{w w':World}{B:Nat}(h:Tk.But E w w')(hB:B<=w.heap.size)(hE:∀k,k<B->¬E k):Below B w w':=⟨h.os,h.tape,h.output,h.size,λk hk=>h.block k (by omega) (hE k hk)⟩
theorem Tk.But.alloc {E:Nat->Prop}{a w:World}(h:Tk.But E a w)(o:Obj):Tk.But E a (w.alloc o):=h.trans ⟨rfl,rfl,rfl,by simp,λk hk _=>Below.heap_alloc _ _ _ hk⟩
theorem Tk.But.setCell {E:Nat->Prop}{a w:World}(h:Tk.But E a w){p:Addr}(hp:E p.block)(u:Value):Tk.But E a (w.setCell p u):=
 h.trans ⟨rfl,rfl,rfl,by simp[World.setCell],λk _ he=>Below.heap_setCell _ _ _ _ (λe=>he (e▸hp))⟩
theorem Tk.But.drewN {E:Nat->Prop}{a w:World}(h:Tk.But E a w)(n:Nat):Tk.But E a (w.drewN n):=⟨h.os,h.tape,h.output,h.size,h.block⟩
theorem Tk.below_drewN {B:Nat}{a w:World}(h:Below B a w)(n:Nat):Below B a (w.drewN n):=⟨h.os,h.tape,h.output,h.size,h.block⟩
theorem Tk.ret_bool {a b:Bool}(h:a=b):Ending.returned (.bool a)=.returned (.bool b):=by rw[h]
theorem Tk.row3 {W:World}{q:Nat}{x y z:Value}{T:TypeId}(h:W.heap[q]? =some (.cells #[x,y,z] T (0,0))):
  (W.cell? ⟨q,0,none⟩=some x/\W.cell? ⟨q,1,none⟩=some y/\W.cell? ⟨q,2,none⟩=some z)/\(W.frozen? ⟨q,0,none⟩=false/\W.frozen? ⟨q,1,none⟩=false/\W.frozen? ⟨q,2,none⟩=false):=by
 simp[World.cell?,World.frozen?,h]
theorem Tm.eq_iff (S T:Tm):S=T↔S.op=T.op/\S.num=T.num/\S.ks=T.ks:=by
 cases S;cases T
 simp only[Tm.mk.injEq,Tm.op,Tm.num,Tm.ks]
end Go.Proofs
