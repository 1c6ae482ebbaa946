import Derived.Test.YtmomffminkflnaaGreatDoorRRkModel
import Derived.Shelf.Abstract
set_option maxRecDepth 100000
set_option maxHeartbeats 32000000
namespace Go.Proofs
namespace Dd
structure Inv (ls kk:List (Int×Int))(s:List Int):Prop where
 len:s.length=104
 lv:∀i,i<40->0<=s.getD i 0/\s.getD i 0<=if i<ls.length then 2 else 0
 kv:∀k,k<64->0<=s.getD (40+k) 0/\s.getD (40+k) 0<=if k<kk.length then 3 else 0
 lo:∀i f,(ls[i]?).map Prod.fst=some ((f:Nat):Int)->(s.getD i 0=0↔s.getD (40+f) 0<2)
 out:∀i,(ls[i]?).map Prod.fst=some (-1)->s.getD i 0=1
 gt:∀k,s.getD (40+k) 0=1->¬Auto kk k
 skip:∀i f,(ls[i]?).map Prod.fst=some ((f:Nat):Int)->s.getD (40+f) 0=3->s.getD i 0=2
 done:∀i f,(ls[i]?).map Prod.fst=some ((f:Nat):Int)->s.getD (40+f) 0=2->(gateB kk f=true->doesI kk f≠3)->s.getD i 0=1
 fate:∀k,k<kk.length->s.getD (40+k) 0≠0->∃p,scan ls s k ls.length=some p/\(Dies kk k p->s.getD (40+k) 0=3)/\(¬Dies kk k p->Auto kk k->s.getD (40+k) 0=2)/\(¬Dies kk k p->¬Auto kk k->s.getD (40+k) 0=1∨s.getD (40+k) 0=2)
structure Web (ls kk:List (Int×Int)):Prop where
 l40:ls.length<=40
 k64:kk.length<=64
 fr:∀(i:Nat) (x:Int),(ls[i]?).map Prod.fst=some x->x= -1∨∃f:Nat,x=f/\f<kk.length
theorem Inv.upd {ls kk:List (Int×Int)}(hw:Web ls kk){s t:List Int}(h:Inv ls kk s){kid:Nat}{v:Int}{g:Nat->Int}(hk:kid<kk.length)(h2:s.getD (40+kid) 0<2)
  (hl:t.length=104) (hkt:∀k,t.getD (40+k) 0=if k=kid then v else s.getD (40+k) 0)
  (hlt:∀i,i<40->t.getD i 0=if(ls[i]?).map Prod.fst=some (kid:Int)then g i else s.getD i 0)
  (hv:v=1∨v=2∨v=3) (hv1:v=1->(∀i,g i=0)/\¬Auto kk kid) (hv2:v≠1->∀i,i<ls.length->g i=1∨g i=2) (hv3:v=3->∀i,g i=2) (hvd:v=2->(gateB kk kid=true->doesI kk kid≠3)->∀i,g i=1)
  {p:Bool×Bool} (hp:scan ls s kid ls.length=some p) (hf:(Dies kk kid p->v=3)/\(¬Dies kk kid p->Auto kk kid->v=2)/\(¬Dies kk kid p->¬Auto kk kid->v=1∨v=2)):Inv ls kk t:=by
 have hi40:∀i x,(ls[i]?).map Prod.fst=some x->i<ls.length:=λi x e=>by
  by_cases q:i<ls.length
  ·exact q
  rw[List.getElem?_eq_none (by omega)]at e;simp at e
 have l40:=hw.l40;have k64:=hw.k64
 -- a link from the kid is open
 have hopen:∀i,(ls[i]?).map Prod.fst=some (kid:Int)->s.getD i 0=0:=λi e=>(h.lo i kid e).2 h2
 have scan_keep:∀k p',scan ls s (k:Int) ls.length=some p'->scan ls t (k:Int) ls.length=some p':=λk p' e=>by
  rw[<-e];refine(scan_congr λi hi e2=> ?_).symm;have:=scan_iff ls s k ls.length;rw[e]at this;have hne:=this.1 i hi e2;rw[hlt i (by omega),if_neg];intro e3;exact hne (hopen i e3)
 constructor
 ·exact hl
 ·intro i hi
  have h1:=h.lv i hi;rw[hlt i hi]
  by_cases e:(ls[i]?).map Prod.fst=some (kid:Int)
  ·have hil:=hi40 i _ e
   rw[if_pos e,if_pos hil]
   by_cases e1:v=1
   ·rw[(hv1 e1).1 i];omega
   rcases hv2 e1 i hil with q|q<;>omega
  rw[if_neg e];exact h1
 ·intro k hk2
  rw[hkt k]
  by_cases e:k=kid
  ·rw[if_pos e,if_pos (by omega)];omega
  rw[if_neg e];exact h.kv k hk2
 ·intro i f e
  have hil:=hi40 i _ e;rw[hlt i (by omega),hkt f]
  by_cases q:f=kid
  ·subst q
   rw[if_pos e,if_pos rfl]
   by_cases e1:v=1
   ·rw[(hv1 e1).1 i];omega
   rcases hv2 e1 i hil with q|q<;>omega
  rw[if_neg (λe3=>q (by rw[e]at e3;injection e3 with e3;omega)),if_neg q];exact h.lo i f e
 ·intro i e
  have hil:=hi40 i _ e;rw[hlt i (by omega),if_neg (λe3=>by rw[e]at e3;injection e3 with e3;omega)];exact h.out i e
 ·intro k e
  rw[hkt k]at e
  by_cases q:k=kid
  ·subst q;rw[if_pos rfl]at e;exact(hv1 e).2
  rw[if_neg q]at e;exact h.gt k e
 ·intro i f e e3
  have hil:=hi40 i _ e;rw[hkt f]at e3;rw[hlt i (by omega)]
  by_cases q:f=kid
  ·subst q
   rw[if_pos rfl]at e3;rw[if_pos e];exact hv3 e3 i
  rw[if_neg q]at e3;rw[if_neg (λe3=>q (by rw[e]at e3;injection e3 with e3;omega))];exact h.skip i f e e3
 ·intro i f e e3 hd
  have hil:=hi40 i _ e;rw[hkt f]at e3;rw[hlt i (by omega)]
  by_cases q:f=kid
  ·subst q
   rw[if_pos rfl]at e3;rw[if_pos e];exact hvd e3 hd i
  rw[if_neg q]at e3;rw[if_neg (λe3=>q (by rw[e]at e3;injection e3 with e3;omega))];exact h.done i f e e3 hd
 intro k hk2 hne;rw[hkt k]at hne⊢
 by_cases q:k=kid
 ·subst q
  rw[if_pos rfl];exact⟨p,scan_keep _ _ hp,hf⟩
 rw[if_neg q]at hne⊢;obtain⟨p',h3,h4⟩:=h.fate k hk2 hne;exact⟨p',scan_keep _ _ h3,h4⟩
structure Kept (ls kk:List (Int×Int))(s t:List Int):Prop where
 l:∀i,i<40->s.getD i 0≠0->t.getD i 0=s.getD i 0
 k:∀k,k<64->s.getD (40+k) 0≠0->t.getD (40+k) 0=s.getD (40+k) 0
 d:∀k,k<64->¬Auto kk k->t.getD (40+k) 0=2->s.getD (40+k) 0=2
theorem Kept.refl (ls kk:List (Int×Int))(s:List Int):Kept ls kk s s:=⟨λ_ _ _=>rfl,λ_ _ _=>rfl,λ_ _ _ h=>h⟩
theorem Kept.trans {ls kk:List (Int×Int)}{s t u:List Int}(h:Kept ls kk s t)(k:Kept ls kk t u):Kept ls kk s u:=
 ⟨λi hi e=>(k.l i hi (by rw[h.l i hi e];exact e)).trans (h.l i hi e),λi hi e=>(k.k i hi (by rw[h.k i hi e];exact e)).trans (h.k i hi e),λi hi ha e=>h.d i hi ha (k.d i hi ha e)⟩
theorem Inv.decided {ls kk:List (Int×Int)}(hw:Web ls kk){s:List Int}(h:Inv ls kk s){kid:Nat}(hk:kid<kk.length)(h0:s.getD (40+kid) 0=0){p:Bool×Bool}(hp:scan ls s kid ls.length=some p):Inv ls kk (decided ls kk s kid)/\Kept ls kk s (decided ls kk s kid):=by
 have l40:=hw.l40;have k64:=hw.k64;have hlen:=h.len
 have hno:∀k,¬(ls[40+k]?).map Prod.fst=some (kid:Int):=λk h=>by
  rw[List.getElem?_eq_none (by omega)]at h;simp at h
 have hopen:∀i,(ls[i]?).map Prod.fst=some (kid:Int)->s.getD i 0=0:=λi e=>(h.lo i kid e).2 (by omega)
 have he:Dd.decided ls kk s kid=if Dies kk kid p then ended ls s kid 3 else if Auto kk kid then ended ls s kid 2 else s.set (40+kid) 1:=by
  unfold Dd.decided;rw[if_pos h0,hp]
 have key:∀(t:List Int) (v:Int) (g:Nat->Int),(∀k,t.getD (40+k) 0=if k=kid then v else s.getD (40+k) 0)->(∀i,i<40->t.getD i 0=if(ls[i]?).map Prod.fst=some (kid:Int)then g i else s.getD i 0)->(v=2->Auto kk kid)->Kept ls kk s t:=by
  intro t v g h1 h2 h3;refine⟨λi hi e=> ?_,λk hk2 e=> ?_,λk hk2 ha e=> ?_⟩
  ·rw[h2 i hi,if_neg (λe3=>e (hopen i e3))]
  ·rw[h1 k,if_neg (by rintro rfl;exact e h0)]
  rw[h1 k]at e
  by_cases q:k=kid
  ·subst q;rw[if_pos rfl]at e;exact absurd (h3 e) ha
  rw[if_neg q]at e;exact e
 have hend:∀(how:Int) (k:Nat),(ended ls s kid how).getD (40+k) 0=if k=kid then how else s.getD (40+k) 0:=λhow k=>by
  rw[ended_get _ _ _ _ (by omega) (by omega),if_neg (hno k)]
  by_cases q:k=kid
  ·rw[if_pos (by omega),if_pos q]
  rw[if_neg (by omega),if_neg q]
 have hlnk:∀(how:Int) (i:Nat),i<40->(ended ls s kid how).getD i 0=if(ls[i]?).map Prod.fst=some (kid:Int)then(λ_=>if how=2 then(1:Int)else 2) i else s.getD i 0:=λhow i hi=>by
  rw[ended_get _ _ _ _ (by omega) (by omega),if_neg (show¬40+kid=i by omega)]
 rw[he]
 by_cases d:Dies kk kid p
 ·rw[if_pos d]
  refine⟨h.upd hw hk (by omega) (by rw[ended_length,hlen]) (hend 3) (hlnk 3) (by omega) (by omega) (λ_ i _=>by simp) (λ_ i=>by simp) (by omega) hp ⟨λ_=>rfl,λhd=>absurd d hd,λhd=>absurd d hd⟩,key _ 3 _ (hend 3) (hlnk 3) (by omega)⟩
 rw[if_neg d]
 by_cases a:Auto kk kid
 ·rw[if_pos a]
  refine⟨h.upd hw hk (by omega) (by rw[ended_length,hlen]) (hend 2) (hlnk 2) (by omega) (by omega) (λ_ i _=>by simp) (by omega) (λ_ _ i=>by simp) hp ⟨λhd=>absurd hd d,λ_ _=>rfl,λ_ hd=>absurd a hd⟩,key _ 2 _ (hend 2) (hlnk 2) (λ_=>a)⟩
 rw[if_neg a]
 have h1:∀k,(s.set (40+kid) 1).getD (40+k) 0=if k=kid then 1 else s.getD (40+k) 0:=λk=>by
  rw[getD_set _ _ _ _ (by omega)]
  by_cases q:k=kid
  ·rw[if_pos (by omega),if_pos q]
  rw[if_neg (by omega),if_neg q]
 have h2:∀i,i<40->(s.set (40+kid) 1).getD i 0=if(ls[i]?).map Prod.fst=some (kid:Int)then(λ_=>(0:Int)) i else s.getD i 0:=λi hi=>by
  rw[getD_set _ _ _ _ (by omega),if_neg (by omega)]
  by_cases q:(ls[i]?).map Prod.fst=some (kid:Int)
  ·rw[if_pos q,hopen i q]
  rw[if_neg q]
 exact⟨h.upd hw hk (by omega) (by rw[List.length_set,hlen]) h1 h2 (by omega) (λ_=>⟨λ_=>rfl,a⟩) (by omega) (by omega) (by omega) hp ⟨λhd=>absurd hd d,λ_ hd=>absurd hd a,λ_ _=> .inl rfl⟩,key _ 1 _ h1 h2 (by omega)⟩
def Calm (ls kk:List (Int×Int))(s:List Int):Prop:=∀k,k<kk.length->s.getD (40+k) 0≠0∨scan ls s k ls.length=none
theorem next_none {ls kk:List (Int×Int)}(hw:Web ls kk){s:List Int}(hl:s.length=104):∀{n:Nat},n<=kk.length->(nextK ls kk s n=none↔∀k,k<n->s.getD (40+k) 0≠0∨scan ls s k ls.length=none)
 |0,_=>⟨λ_ k hk=>by omega,λ_=>rfl⟩
 |n+1,hn=>by
  have ih:=next_none hw hl (n:=n) (by omega);have hd:=decided_same (kk:=kk) hw.l40 hl (show n<64 by have:=hw.k64;omega);rw[nextK]
  cases hq:nextK ls kk s n with
  |some t=>
   rw[hq]at ih;refine⟨λh=>by simp at h,λh=> ?_⟩;have:=ih.2 λk hk=>h k (by omega);simp at this
  |none=>
   dsimp only;rw[hq]at ih;have ih:=ih.1 rfl
   by_cases e:Dd.decided ls kk s n=s
   ·rw[if_pos e]
    refine⟨λ_ k hk=> ?_,λ_=>rfl⟩
    by_cases q:k=n
    ·subst q;exact hd.1 e
    exact ih k (by omega)
   rw[if_neg e];refine⟨λh=>by simp at h,λh=>absurd (hd.2 (h n (by omega))) e⟩
theorem next_some {ls kk:List (Int×Int)}(hw:Web ls kk){s t:List Int}(hl:s.length=104):∀{n:Nat},n<=kk.length->nextK ls kk s n=some t->∃k p,k<n/\s.getD (40+k) 0=0/\scan ls s k ls.length=some p/\t=Dd.decided ls kk s k
 |0,_,h=>by simp[nextK]at h
 |n+1,hn,h=>by
  rw[nextK]at h
  cases hq:nextK ls kk s n with
  |some t'=>
   rw[hq]at h;obtain rfl:t'=t:=by simpa using h
   obtain⟨k,p,h1,h2⟩:=next_some hw hl (by omega) hq;exact⟨k,p,by omega,h2⟩
  |none=>
   rw[hq]at h;dsimp only at h;have hd:=decided_same (kk:=kk) hw.l40 hl (show n<64 by have:=hw.k64;omega)
   by_cases e:Dd.decided ls kk s n=s
   ·rw[if_pos e]at h;simp at h
   rw[if_neg e]at h;have e':=λx=>e (hd.2 x)
   cases hp:scan ls s n ls.length with
   |none=>exact absurd (.inr hp) e'
   |some p=>
    refine⟨n,p,by omega, ?_,hp,by simpa using h.symm⟩
    by_cases q:s.getD (40+n) 0=0
    ·exact q
    exact absurd (.inl q) e'
theorem waits_lt {n:Nat}{s t:List Int}{k:Nat}(hk:k<n)(h0:s.getD (40+k) 0=0)(h1:t.getD (40+k) 0≠0)(hall:∀j,j<n->s.getD (40+j) 0≠0->t.getD (40+j) 0≠0):waits n t<waits n s:=by
 unfold waits
 induction n with
 |zero=>omega
 |succ n ih=>
  rw[List.range_succ,List.countP_append,List.countP_append,List.countP_singleton,List.countP_singleton]
  by_cases q:k=n
  ·subst q
   have hle:List.countP (λj=>decide (t.getD (40+j) 0=0)) (List.range k)<=List.countP (λj=>decide (s.getD (40+j) 0=0)) (List.range k):=by
    apply List.countP_mono_left;intro j hj e;rw[decide_eq_true_iff]at e⊢;have hj:=List.mem_range.1 hj
    by_cases e2:s.getD (40+j) 0=0
    ·exact e2
    exact absurd e (hall j (by omega) e2)
   rw[decide_eq_true h0,decide_eq_false h1,if_pos rfl,if_neg (by decide)];omega
  have:=ih (by omega) λj hj=>hall j (by omega)
  have hb:(if decide (t.getD (40+n) 0=0)=true then 1 else 0)<=if decide (s.getD (40+n) 0=0)=true then 1 else 0:=by
   by_cases e:s.getD (40+n) 0=0
   ·rw[decide_eq_true e];simp;split<;>omega
   rw[decide_eq_false (hall n (by omega) e)];simp
  omega
theorem waits_le (n:Nat)(s:List Int):waits n s<=n:=by
 unfold waits;have:=List.countP_le_length (p:=λk=>decide (s.getD (40+k) 0=0)) (l:=List.range n);simpa using this
theorem next_waits {ls kk:List (Int×Int)}(hw:Web ls kk){s t:List Int}(hl:s.length=104)(h:nextK ls kk s kk.length=some t):t.length=104/\waits kk.length t<waits kk.length s:=by
 obtain⟨k,p,hk,h0,hp,rfl⟩:=next_some hw hl (Nat.le_refl _) h;have l40:=hw.l40;have k64:=hw.k64;refine⟨by rw[decided_length,hl],waits_lt hk h0 ?_ λj hj e=> ?_⟩
 ·rw[decided_kid l40 hl (by omega) h0 hp]
  split
  ·decide
  split<;>decide
 by_cases q:j=k
 ·subst q;exact absurd h0 e
 have hno:¬(ls[40+j]?).map Prod.fst=some (k:Int):=λh=>by
  rw[List.getElem?_eq_none (by omega)]at h;simp at h
 unfold Dd.decided;rw[if_pos h0,hp];dsimp only
 split
 ·rw[ended_get _ _ _ _ (by omega) (by omega),if_neg hno,if_neg (by omega)];exact e
 split
 ·rw[ended_get _ _ _ _ (by omega) (by omega),if_neg hno,if_neg (by omega)];exact e
 rw[getD_set _ _ _ _ (by omega),if_neg (by omega)];exact e
theorem settleF_inv {ls kk:List (Int×Int)}(hw:Web ls kk):∀(f:Nat) (s:List Int),Inv ls kk s->waits kk.length s<=f->Inv ls kk (settleF ls kk f s)/\Kept ls kk s (settleF ls kk f s)/\Calm ls kk (settleF ls kk f s)
 |0,s,h,hf=>by
  refine⟨h,Kept.refl ..,λk hk=> .inl λe=> ?_⟩
  have h1:0<waits kk.length s:=by
   unfold waits;exact List.countP_pos_iff.2 ⟨k,List.mem_range.2 hk,decide_eq_true e⟩
  omega
 |f+1,s,h,hf=>by
  rw[settleF]
  cases hq:nextK ls kk s kk.length with
  |none=>exact⟨h,Kept.refl ..,(next_none hw h.len (Nat.le_refl _)).1 hq⟩
  |some t=>
   dsimp only;have h1:=(next_waits hw h.len hq).2;obtain⟨k,p,hk,h0,hp,rfl⟩:=next_some hw h.len (Nat.le_refl _) hq;obtain⟨h2,h3⟩:=h.decided hw hk h0 hp;obtain⟨h4,h5,h6⟩:=settleF_inv hw f _ h2 (by omega);exact⟨h4,h3.trans h5,h6⟩
theorem settle_inv {ls kk:List (Int×Int)}(hw:Web ls kk){s:List Int}(h:Inv ls kk s):Inv ls kk (settle ls kk s)/\Kept ls kk s (settle ls kk s)/\Calm ls kk (settle ls kk s):=settleF_inv hw _ s h (waits_le _ _)
theorem settleF_length {ls kk:List (Int×Int)}(hw:Web ls kk):∀(f:Nat) (s:List Int),s.length=104->(settleF ls kk f s).length=104
 |0,s,h=>h
 |f+1,s,h=>by
  rw[settleF]
  cases hq:nextK ls kk s kk.length with
  |none=>exact h
  |some t=>exact settleF_length hw f t (next_waits hw h hq).1
theorem settle_length {ls kk:List (Int×Int)}(hw:Web ls kk){s:List Int}(h:s.length=104):(settle ls kk s).length=104:=settleF_length hw _ s h
theorem zeros_get (i:Nat):zeros.getD i 0=0:=by
 rw[List.getD_eq_getElem?_getD,zeros,List.getElem?_replicate]
 split<;>rfl
theorem start_inv {ls kk:List (Int×Int)}(hw:Web ls kk):Inv ls kk (start ls kk)/\Calm ls kk (start ls kk):=by
 have l40:=hw.l40;have k64:=hw.k64;have hz:zeros.length=104:=by simp[zeros]
 have hno:∀k,¬(ls[40+k]?).map Prod.fst=some (-1:Int):=λk h=>by
  rw[List.getElem?_eq_none (by omega)]at h;simp at h
 have hl:∀i,(left ls zeros (-1) 1).getD i 0=if(ls[i]?).map Prod.fst=some (-1)then 1 else 0:=λi=>by
  rw[left_get _ _ _ _ (by omega),zeros_get]
 have hk:∀k,(left ls zeros (-1) 1).getD (40+k) 0=0:=λk=>by rw[hl,if_neg (hno k)]
 have h0:Inv ls kk (left ls zeros (-1) 1):=by
  refine⟨by rw[left_length,hz],λi hi=> ?_,λk hk2=> ?_,λi f e=> ?_,λi e=> ?_,λk e=> ?_,λi f e e3=> ?_,λi f e e3=> ?_,λk hk2 e=> ?_⟩
  ·rw[hl]
   by_cases e:(ls[i]?).map Prod.fst=some (-1)
   ·rw[if_pos e,if_pos]
    ·omega
    by_cases q:i<ls.length
    ·exact q
    rw[List.getElem?_eq_none (by omega)]at e;simp at e
   rw[if_neg e];split<;>omega
  ·rw[hk];split<;>omega
  ·rw[hl,hk,if_neg (by rw[e];intro e3;injection e3 with e3;omega)];omega
  ·rw[hl,if_pos e]
  ·rw[hk]at e;omega
  ·rw[hk]at e3;omega
  ·rw[hk]at e3;omega
  exact absurd (hk k) e
 have:=settle_inv hw h0;exact⟨this.1,this.2.2⟩
end Dd
end Go.Proofs
namespace Go.Proofs
namespace Dd
theorem countP_lt {n:Nat}{p q:Nat->Bool}{k:Nat}(hk:k<n)(h0:p k=false)(h1:q k=true)(hall:∀j,j<n->p j=true->q j=true):(List.range n).countP p<(List.range n).countP q:=by
 induction n with
 |zero=>omega
 |succ n ih=>
  rw[List.range_succ,List.countP_append,List.countP_append,List.countP_singleton,List.countP_singleton]
  by_cases e:k=n
  ·subst e
   have hle:List.countP p (List.range k)<=List.countP q (List.range k):=List.countP_mono_left λj hj e=>hall j (by have:=List.mem_range.1 hj;omega) e;rw[h0,h1,if_pos rfl,if_neg (by decide)];omega
  have:=ih (by omega) λj hj=>hall j (by omega)
  have hb:(if p n=true then 1 else 0)<=if q n=true then 1 else 0:=by
   by_cases e:p n=true
   ·rw[if_pos e,if_pos (hall n (by omega) e)];omega
   rw[if_neg e];omega
  omega
def cnt (n:Nat)(s:List Int):Nat:=(List.range n).countP λk=>decide (s.getD (40+k) 0<2)
theorem heldB_at {xs:List Int}{m:Int} :heldB xs m=true↔∀j (h:j<xs.length),0<=xs[j]/\xs[j]<=m:=by
 simp only[heldB,List.all_eq_true,Bool.and_eq_true,decide_eq_true_iff]
 constructor
 ·intro h j hj;exact h _ (List.getElem_mem hj)
 intro h x hx;obtain⟨j,hj,rfl⟩:=List.mem_iff_getElem.1 hx;exact h j hj
theorem okB_iff {n m:Nat}{s:List Int}(hl:s.length=104)(hm:m<=40)(hn:n<=64):okB n m s=true↔(∀i,i<40->0<=s.getD i 0/\s.getD i 0<=if i<m then 2 else 0)/\∀k,k<64->0<=s.getD (40+k) 0/\s.getD (40+k) 0<=if k<n then 3 else 0:=by
 have g:∀i (h:i<104),s.getD i 0=s[i]:=λi h=>by simp[List.getD_eq_getElem?_getD,show i<s.length by omega]
 unfold okB;rw[Bool.and_eq_true,Bool.and_eq_true,Bool.and_eq_true,heldB_at,heldB_at,heldB_at,heldB_at]
 constructor
 ·rintro⟨⟨h1,h2⟩,h3,h4⟩
  refine⟨λi hi=> ?_,λk hk=> ?_⟩
  ·rw[g i (by omega)]
   by_cases q:i<m
   ·rw[if_pos q]
    have:=h1 i (by simp;omega);simpa using this
   rw[if_neg q];have:=h2 (i-m) (by simp;omega);simpa [show m+(i-m)=i by omega]using this
  rw[g (40+k) (by omega)]
  by_cases q:k<n
  ·rw[if_pos q]
   have:=h3 k (by simp;omega);simpa using this
  rw[if_neg q];have:=h4 (k-n) (by simp;omega);simpa [show 40+n+(k-n)=40+k by omega]using this
 rintro⟨h1,h2⟩;refine⟨⟨λj hj=> ?_,λj hj=> ?_⟩,λj hj=> ?_,λj hj=> ?_⟩
 ·simp at hj
  have:=h1 j (by omega);rw[if_pos (by omega),g j (by omega)]at this;simpa using this
 ·simp at hj
  have:=h1 (m+j) (by omega);rw[if_neg (by omega),g (m+j) (by omega)]at this;simpa using this
 ·simp at hj
  have:=h2 j (by omega);rw[if_pos (by omega),g (40+j) (by omega)]at this;simpa using this
 simp at hj;have:=h2 (n+j) (by omega);rw[if_neg (by omega),g (40+(n+j)) (by omega)]at this;simpa [Nat.add_assoc]using this
theorem Inv.ok {ls kk:List (Int×Int)}(hw:Web ls kk){s:List Int}(h:Inv ls kk s):okB kk.length ls.length s=true:=(okB_iff h.len hw.l40 hw.k64).2 ⟨h.lv,h.kv⟩
structure After (ls kk:List (Int×Int))(s:List Int)(kid:Nat)(t:List Int):Prop where
 inv:Inv ls kk t
 calm:Calm ls kk t
 l:∀i,i<40->s.getD i 0≠0->t.getD i 0=s.getD i 0
 k:∀j,j<64->j≠kid->s.getD (40+j) 0≠0->t.getD (40+j) 0=s.getD (40+j) 0
 self:t.getD (40+kid) 0=2
 d:∀j,j<64->¬Auto kk j->(t.getD (40+j) 0=2↔s.getD (40+j) 0=2∨j=kid)
theorem After.of {ls kk:List (Int×Int)}(hw:Web ls kk){s t:List Int}(h:Inv ls kk s){k:Nat}{g:Nat->Int}(hk:k<kk.length)(h1:s.getD (40+k) 0=1)
  (hl:t.length=104) (hkt:∀j,t.getD (40+j) 0=if j=k then 2 else s.getD (40+j) 0) (hlt:∀i,i<40->t.getD i 0=if(ls[i]?).map Prod.fst=some (k:Int)then g i else s.getD i 0)
  (hg:∀i,i<ls.length->g i=1∨g i=2) (hgd:(gateB kk k=true->doesI kk k≠3)->∀i,g i=1):After ls kk s k (settle ls kk t):=by
 have k64:=hw.k64;obtain⟨p,hp,f1,f2,f3⟩:=h.fate k hk (by omega);have hnd:¬Dies kk k p:=λd=>by have:=f1 d;omega
 have hi:=h.upd hw hk (by omega) hl hkt hlt (by omega) (by omega) (λ_ i hi=>hg i hi) (by omega) (λ_=>hgd) hp ⟨λd=>absurd d hnd,λ_ _=>rfl,λ_ _=> .inr rfl⟩;obtain⟨i1,i2,i3⟩:=settle_inv hw hi;refine⟨i1,i3,λi hi e=> ?_,λj hj hne e=> ?_, ?_,λj hj ha=> ?_⟩
 ·have ht:t.getD i 0=s.getD i 0:=by
   rw[hlt i hi,if_neg];intro e2;exact e ((h.lo i k e2).2 (by omega))
  rw[i2.l i hi (by rw[ht];exact e),ht]
 ·have ht:t.getD (40+j) 0=s.getD (40+j) 0:=by rw[hkt j,if_neg hne]
  rw[i2.k j hj (by rw[ht];exact e),ht]
 ·have ht:t.getD (40+k) 0=2:=by rw[hkt k,if_pos rfl]
  rw[i2.k k (by omega) (by omega),ht]
 constructor
 ·intro e
  have:=i2.d j hj ha e;rw[hkt j]at this
  by_cases q:j=k
  ·exact .inr q
  rw[if_neg q]at this;exact .inl this
 intro e
 have ht:t.getD (40+j) 0=2:=by
  rw[hkt j]
  by_cases q:j=k
  ·rw[if_pos q]
  rw[if_neg q];exact e.resolve_right q
 rw[i2.k j hj (by omega),ht]
theorem After.finish {ls kk:List (Int×Int)}(hw:Web ls kk){s:List Int}(h:Inv ls kk s){k:Nat}(hk:k<kk.length)(h1:s.getD (40+k) 0=1):After ls kk s k (finished ls kk s k):=by
 have l40:=hw.l40;have k64:=hw.k64;have hlen:=h.len;refine After.of (g:=λ_=>1) hw h hk h1 (by rw[ended_length,hlen]) (λj=> ?_) (λi hi=> ?_) (λ_ _=> .inl rfl) (λ_ _=>rfl)
 ·rw[ended_get _ _ _ _ (by omega) (by omega),if_neg (λe=>by rw[List.getElem?_eq_none (by omega)]at e;simp at e)]
  by_cases q:j=k
  ·rw[if_pos (by omega),if_pos q]
  rw[if_neg (by omega),if_neg q]
 rw[ended_get _ _ _ _ (by omega) (by omega),if_neg (show¬40+k=i by omega)];rfl
theorem After.choose {ls kk:List (Int×Int)}(hw:Web ls kk){s:List Int}(h:Inv ls kk s){k c:Nat}(hk:k<kk.length)(h1:s.getD (40+k) 0=1)(hg:gateB kk k=true)(hc:(ls[c]?).map Prod.fst=some (k:Int)):After ls kk s k (chose ls kk s k c):=by
 have l40:=hw.l40;have k64:=hw.k64;have hlen:=h.len
 have hcl:c<ls.length:=by
  by_cases q:c<ls.length
  ·exact q
  rw[List.getElem?_eq_none (by omega)]at hc;simp at hc
 have hd3:doesI kk k=3:=by
  by_cases q:doesI kk k=3
  ·exact q
  exact absurd ⟨hg,q⟩ (h.gt k h1)
 have hlen2:(left ls (s.set (40+k) 2) k 2).length=104:=by rw[left_length,List.length_set,hlen]
 refine After.of (g:=λi=>if i=c then 1 else 2) hw h hk h1 (by rw[List.length_set,hlen2]) (λj=> ?_) (λi hi=> ?_) (λi _=> ?_) (λhh=>absurd hd3 (hh hg))
 ·rw[getD_set _ _ _ _ (by omega),if_neg (by omega),left_get _ _ _ _ (by rw[List.length_set];omega),if_neg (λe=>by rw[List.getElem?_eq_none (by omega)]at e;simp at e),getD_set _ _ _ _ (by omega)]
  by_cases q:j=k
  ·rw[if_pos (by omega),if_pos q]
  rw[if_neg (by omega),if_neg q]
 ·rw[getD_set _ _ _ _ (by omega),left_get _ _ _ _ (by rw[List.length_set];omega),getD_set _ _ _ _ (by omega),if_neg (show¬40+k=i by omega)]
  by_cases q:c=i
  ·subst q;rw[if_pos rfl,if_pos hc];simp
  rw[if_neg q]
  by_cases e:(ls[i]?).map Prod.fst=some (k:Int)
  ·rw[if_pos e,if_pos e];simp[Ne.symm q]
  rw[if_neg e,if_neg e]
 show(if i=c then(1:Int)else 2)=1∨_=(2:Int)
 by_cases q:i=c
 ·exact .inl (if_pos q)
 exact .inr (if_neg q)
def Free (ls:List (Int×Int))(rk:Nat->Nat):Prop:=∀(i f t:Nat),ls[i]? =some ((f:Int),(t:Int))->rk f<rk t
theorem linkAt_some (kid:Int):∀(l:List (Int×Int)) (b:Nat) (o:Int),0<=o->o<(l.countP λx=>decide (x.1=kid):Nat)->∃c:Nat,linkAt kid l b o=(b+c:Nat)/\(l[c]?).map Prod.fst=some kid
 | [],b,o,h0,h=>by simp at h;omega
 |x::r,b,o,h0,h=>by
  rw[linkAt];rw[List.countP_cons]at h
  by_cases e:x.1=kid
  ·rw[if_pos e]
   rw[if_pos (decide_eq_true e)]at h
   by_cases z:o=0
   ·rw[if_pos z]
    exact⟨0,rfl,by simp[e]⟩
   rw[if_neg z];obtain⟨c,h1,h2⟩:=linkAt_some kid r (b+1) (o-1) (by omega) (by omega);exact⟨c+1,by rw[h1];omega,by simpa using h2⟩
  rw[if_neg e];rw[if_neg (by simp[e])]at h;obtain⟨c,h1,h2⟩:=linkAt_some kid r (b+1) o h0 (by omega);exact⟨c+1,by rw[h1];omega,by simpa using h2⟩
theorem running_mem {n:Nat}{s:List Int}{k:Nat} :k∈running n s↔k<n/\s.getD (40+k) 0=1:=by
 unfold running;rw[List.mem_filter,List.mem_range,decide_eq_true_iff]
end Dd
end Go.Proofs
namespace Go.Proofs
open Go.RowKit
structure Nd where
 kind:Int
 a:Int
 t:Tm
structure Fl where
 fr:Int
 to:Int
 els:Bool
 c:Tm
namespace Nt
def zeroB (T:Tm):Bool:=decide (T.op=0)&&decide (T.num=0)&&decide (T.ks.length=0)
def ofB (T:Tm)(k:Int):Bool:=decide (T.checkR.2=0)&&decide (T.checkR.1=k)
def mostN (k:Int):Int:=if k=3∨k=4 then 3 else if k=8 then 4 else 0
def oneB (x:Nd):Bool:=decide (1<=x.kind/\x.kind<=8/\0<=x.a/\x.a<=mostN x.kind)&&(if x.kind=4 then ofB x.t 1 else zeroB x.t)
def isNodeB (n:Nat)(i:Int):Bool:=decide (0<=i)&&decide (i<n)
def kindAt (ns:List Nd)(i:Nat):Int:=(ns[i]?.map Nd.kind).getD 0
def outsN (fs:List Fl)(i:Int):Nat:=fs.countP λf=>decide (f.fr=i)
def insN (fs:List Fl)(i:Int):Nat:=fs.countP λf=>decide (f.to=i)
def elsesN (fs:List Fl)(i:Int):Nat:=fs.countP λf=>decide (f.fr=i)&&f.els
def othersN (ns:List Nd)(fs:List Fl)(i:Int):Nat:=fs.countP λf=>decide (f.fr=i)&& !decide (kindAt ns f.to.toNat=8)
def outsL (fs:List Fl)(i:Int):List Nat:=(List.range fs.length).filter λk=>decide ((fs[k]?.map Fl.fr)=some i)
def insL (fs:List Fl)(i:Int):List Nat:=(List.range fs.length).filter λk=>decide ((fs[k]?.map Fl.to)=some i)
def chosenB (ns:List Nd)(fs:List Fl)(f:Fl):Bool:=decide (kindAt ns f.fr.toNat=5)&&decide (2<=outsN fs f.fr)
def condB (f:Fl)(ch:Bool):Bool:=if ch=true/\f.els=false then ofB f.c 2 else(ch==f.els)&&zeroB f.c
def twoB (ns:List Nd)(fs:List Fl)(f:Fl):Bool:=isNodeB ns.length f.fr&&isNodeB ns.length f.to&& !decide (f.fr=f.to)&&condB f (chosenB ns fs f)
def joinB (k:Int)(a b el ot:Nat):Bool:=
 if k=1 then decide (a=0/\b=1)else if k=2 then decide (a=1/\b=0)else if k=5 then decide ((a=1/\2<=b/\el=1)∨(2<=a/\b=1))
 else if k=6 then decide ((a=1/\2<=b)∨(2<=a/\b=1))else if k=7 then decide (a=1/\2<=b/\ot=0)else decide (a=1/\b=1)
def threeB (ns:List Nd)(fs:List Fl)(i:Nat):Bool:=joinB (kindAt ns i) (insN fs i) (outsN fs i) (elsesN fs i) (othersN ns fs i)
def firstI (ns:List Nd)(k:Int):Int:=match ns.findIdx? (λx=>decide (x.kind=k))with
 |some i=>(i:Int)
 |none=> -1
def jointB (ns:List Nd)(fs:List Fl)(i:Nat):Bool:=threeB ns fs i&& !(decide (kindAt ns i=1)&& !decide ((i:Int)=firstI ns 1))&& !(decide (kindAt ns i=2)&& !decide ((i:Int)=firstI ns 2))
def edges (fs:List Fl):List (Nat×Nat):=fs.map λf=>(f.fr.toNat,f.to.toNat)
noncomputable def roadB (ns:List Nd)(fs:List Fl)(i:Nat):Bool:=Rk.met (edges fs) (firstI ns 1).toNat i&&Rk.met (edges fs) i (firstI ns 2).toNat
def hugeB (ns:List Nd)(fs:List Fl):Bool:=decide (24<ns.length)||decide (40<fs.length)
def wrong1 (ns:List Nd)(fs:List Fl):List Nat:=if hugeB ns fs=true then [0]else(List.range ns.length).filter λi=> !((ns[i]?.map oneB).getD true)
def wrong2 (ns:List Nd)(fs:List Fl):List Nat:=(List.range fs.length).filter λi=> !((fs[i]?.map (twoB ns fs)).getD true)
def lostB (ns:List Nd):Bool:=decide (firstI ns 1<0)||decide (firstI ns 2<0)
def wrong3 (ns:List Nd)(fs:List Fl):List Nat:=((List.range ns.length).filter λi=> !jointB ns fs i)++if lostB ns=true then [ns.length]else []
noncomputable def wrong4 (ns:List Nd)(fs:List Fl):List Nat:=(List.range ns.length).filter λi=> !roadB ns fs i
noncomputable def broken (ns:List Nd)(fs:List Fl):Nat×List Nat:=
 if(wrong1 ns fs).isEmpty=false then(1,wrong1 ns fs)else if(wrong2 ns fs).isEmpty=false then(2,wrong2 ns fs)else if(wrong3 ns fs).isEmpty=false then(3,wrong3 ns fs)
 else if(wrong4 ns fs).isEmpty=false then(4,wrong4 ns fs)else(0, [])
noncomputable def checkN (ns:List Nd)(fs:List Fl):Nat×Nat:=((broken ns fs).1,(broken ns fs).2.headD 0)
theorem filter_take {α:Type}(p:α->Bool)(l:List α):∀k,k<=l.length->((List.range k).filter λj=>((l[j]?.map p).getD false)).length=(l.take k).countP p:=by
 intro k
 induction k with
 |zero=>simp
 |succ k ih=>
  intro hk;rw[List.range_succ,List.filter_append,List.length_append,ih (by omega),Tm.take_snoc l k (by omega),List.countP_append]
  congr 1
  have hk':k<l.length:=by omega
  cases hp:p l[k]<;>simp[hk',hp]
theorem filter_len {α:Type}(p:α->Bool)(l:List α):((List.range l.length).filter λk=>((l[k]?.map p).getD false)).length=l.countP p:=by
 rw[filter_take p l l.length (Nat.le_refl _),List.take_length]
theorem outsL_eq (fs:List Fl)(i:Int):outsL fs i=(List.range fs.length).filter λk=>((fs[k]?.map λf=>decide (f.fr=i)).getD false):=by
 refine List.filter_congr λk hk=> ?_;rw[List.getElem?_eq_getElem (List.mem_range.1 hk)]
 simp
theorem insL_eq (fs:List Fl)(i:Int):insL fs i=(List.range fs.length).filter λk=>((fs[k]?.map λf=>decide (f.to=i)).getD false):=by
 refine List.filter_congr λk hk=> ?_;rw[List.getElem?_eq_getElem (List.mem_range.1 hk)]
 simp
theorem outsL_len (fs:List Fl)(i:Int):(outsL fs i).length=outsN fs i:=by rw[outsL_eq,filter_len];rfl
theorem insL_len (fs:List Fl)(i:Int):(insL fs i).length=insN fs i:=by rw[insL_eq,filter_len];rfl
theorem kindAt_get (ns:List Nd)(i:Nat)(h:i<ns.length):kindAt ns i=ns[i].kind:=by simp[kindAt,List.getElem?_eq_getElem h]
theorem filter_nil {n:Nat}{p:Nat->Bool}(h:((List.range n).filter p).isEmpty=true):∀i,i<n->p i=false:=by
 intro i hi;rw[List.isEmpty_iff,List.filter_eq_nil_iff]at h;simpa using h i (List.mem_range.2 hi)
theorem one_keeps {ns:List Nd}{fs:List Fl}(h:(wrong1 ns fs).isEmpty=true):ns.length<=24/\fs.length<=40:=by
 unfold wrong1 at h
 split at h
 ·simp at h
 next hh=>simpa [hugeB,Nat.not_lt]using hh
theorem two_keeps {ns:List Nd}{fs:List Fl}(h:(wrong2 ns fs).isEmpty=true):∀f,f∈fs->0<=f.fr/\f.fr<ns.length/\0<=f.to/\f.to<ns.length/\twoB ns fs f=true:=by
 intro f hf;obtain⟨i,hi,rfl⟩:=List.mem_iff_getElem.1 hf;have:=filter_nil h i hi;rw[List.getElem?_eq_getElem hi]at this;have h2:twoB ns fs fs[i]=true:=by simpa using this
 refine⟨?_, ?_, ?_, ?_,h2⟩<;>simp[twoB,isNodeB]at h2<;>omega
theorem three_keeps {ns:List Nd}{fs:List Fl}(h:(wrong3 ns fs).isEmpty=true):0<=firstI ns 1/\0<=firstI ns 2:=by
 unfold wrong3 at h
 split at h
 ·simp at h
 next hh=>simp[lostB]at hh;exact hh
theorem firstI_lt (ns:List Nd)(k:Int):firstI ns k<ns.length:=by
 unfold firstI
 split
 ·next i h=>
  have:=(List.findIdx?_eq_some_iff_getElem.1 h).1;omega
 omega
def Nds (w:World)(B d:Nat)(a:Option Addr)(ns:List Nd):Prop:=∀j (h:j<ns.length),∃g off u,a=some ⟨g,off,none⟩/\g<B/\w.cell? ⟨g,off+j*5,none⟩=some (.int .i64 ns[j].kind)/\w.cell? ⟨g,off+j*5+1,none⟩=some (.int .i64 ns[j].a)/\
 w.cell? ⟨g,off+j*5+2,none⟩=some (.int .i64 ns[j].t.op)/\w.cell? ⟨g,off+j*5+3,none⟩=some (.int .i64 ns[j].t.num)/\w.cell? ⟨g,off+j*5+4,none⟩=some u/\Tm.Lies w B d u ns[j].t
def Fls (w:World)(B d:Nat)(a:Option Addr)(fs:List Fl):Prop:=∀j (h:j<fs.length),∃g off u,a=some ⟨g,off,none⟩/\g<B/\w.cell? ⟨g,off+j*6,none⟩=some (.int .i64 fs[j].fr)/\w.cell? ⟨g,off+j*6+1,none⟩=some (.int .i64 fs[j].to)/\
 w.cell? ⟨g,off+j*6+2,none⟩=some (.bool fs[j].els)/\w.cell? ⟨g,off+j*6+3,none⟩=some (.int .i64 fs[j].c.op)/\w.cell? ⟨g,off+j*6+4,none⟩=some (.int .i64 fs[j].c.num)/\w.cell? ⟨g,off+j*6+5,none⟩=some u/\Tm.Lies w B d u fs[j].c
theorem Nds.below {w w':World}{B d:Nat}{a:Option Addr}{ns:List Nd}(h:Nds w B d a ns)(hb:Below B w w'):Nds w' B d a ns:=λj hj=>by
 obtain⟨g,off,u,h1,h2,c0,c1,c2,c3,c4,h3⟩:=h j hj;have hc:∀o,w'.cell? ⟨g,o,none⟩=w.cell? ⟨g,o,none⟩:=λo=>hb.cell (p:=⟨g,o,none⟩) h2;exact⟨g,off,u,h1,h2,by rw[hc];exact c0,by rw[hc];exact c1,by rw[hc];exact c2,by rw[hc];exact c3,by rw[hc];exact c4,h3.below hb⟩
theorem Fls.below {w w':World}{B d:Nat}{a:Option Addr}{fs:List Fl}(h:Fls w B d a fs)(hb:Below B w w'):Fls w' B d a fs:=λj hj=>by
 obtain⟨g,off,u,h1,h2,c0,c1,c2,c3,c4,c5,h3⟩:=h j hj;have hc:∀o,w'.cell? ⟨g,o,none⟩=w.cell? ⟨g,o,none⟩:=λo=>hb.cell (p:=⟨g,o,none⟩) h2;exact⟨g,off,u,h1,h2,by rw[hc];exact c0,by rw[hc];exact c1,by rw[hc];exact c2,by rw[hc];exact c3,by rw[hc];exact c4,by rw[hc];exact c5,h3.below hb⟩
theorem Nds.wider {w:World}{B B' d:Nat}{a:Option Addr}{ns:List Nd}(h:Nds w B d a ns)(hB:B<=B'):Nds w B' d a ns:=λj hj=>by
 obtain⟨g,off,u,h1,h2,c0,c1,c2,c3,c4,h3⟩:=h j hj;exact⟨g,off,u,h1,by omega,c0,c1,c2,c3,c4,h3.wider hB⟩
theorem Fls.wider {w:World}{B B' d:Nat}{a:Option Addr}{fs:List Fl}(h:Fls w B d a fs)(hB:B<=B'):Fls w B' d a fs:=λj hj=>by
 obtain⟨g,off,u,h1,h2,c0,c1,c2,c3,c4,c5,h3⟩:=h j hj;exact⟨g,off,u,h1,by omega,c0,c1,c2,c3,c4,c5,h3.wider hB⟩
end Nt
structure Nt.Has (w:World)(B d:Nat)(an af:Option Addr)(ns:List Nd)(fs:List Fl):Prop where
 nds:Nt.Nds w B d an ns
 fls:Nt.Fls w B d af fs
 nlen:ns.length<=100
 flen:fs.length<=100
 nsz:∀x,x∈ns->x.t.size<=2147483647
 fsz:∀x,x∈fs->x.c.size<=2147483647
theorem Nt.Has.below {w w':World}{B d:Nat}{an af:Option Addr}{ns:List Nd}{fs:List Fl}(h:Nt.Has w B d an af ns fs)(hb:Below B w w'):Nt.Has w' B d an af ns fs:=⟨h.nds.below hb,h.fls.below hb,h.nlen,h.flen,h.nsz,h.fsz⟩
theorem Nt.Has.wider {w:World}{B B' d:Nat}{an af:Option Addr}{ns:List Nd}{fs:List Fl}(h:Nt.Has w B d an af ns fs)(hB:B<=B'):Nt.Has w B' d an af ns fs:=⟨h.nds.wider hB,h.fls.wider hB,h.nlen,h.flen,h.nsz,h.fsz⟩
end Go.Proofs
namespace Go.Proofs
open Go.RowKit Go.Shelf
theorem Tryz.infoIntR:(Tryz.prog.info? 3).map (λi=>(i.zero,i.size,i.bytes))=some (some (.int .i64 0),1,8):=by kernel_rfl
def Rk.nums (l:List Nat):List Value:=l.map λi:Nat=>Value.int .i64 (i:Int)
theorem Rk.nums_snoc (l:List Nat)(i:Nat):Rk.nums (l++ [i])=Rk.nums l++ [.int .i64 (i:Int)]:=by simp[Rk.nums]
theorem Rk.own_shape {w:World}{B:Nat}{e:TypeId}{size:Nat}{v:Value}{n:Nat}{cs:List Value}(h:w.ownsRow B e size v n cs):∃a c,v=.slice a n c:=by
 rcases h.2 with⟨rfl,rfl⟩|⟨g,cap,cur,rfl,_⟩
 ·exact⟨none,0,rfl⟩
 exact⟨_,_,rfl⟩
theorem Rk.own_below {w w':World}{B:Nat}{e:TypeId}{size:Nat}{v:Value}{n:Nat}{cs:List Value}(h:w.ownsRow B e size v n cs)(hb:Below w.heap.size w w'):w'.ownsRow B e size v n cs:=by
 rcases h with⟨hl,h|⟨g,cap,cur,rfl,hB,hg,h4⟩⟩
 ·exact⟨hl,.inl h⟩
 exact⟨hl,.inr ⟨g,cap,cur,rfl,hB,by rw[hb.block g (Array.getElem?_eq_some_iff.1 hg).1];exact hg,h4⟩⟩
theorem Rk.below_grown {B:Nat}{a w w':World}{v:Value}{e:TypeId}{size n:Nat}{cs:List Value}(h:Below B a w)(hB:B<=w.heap.size)(ho:w.ownsRow B e size v n cs)(hg:w.grownBy w' v.ownBlock):Below B a w':=
 h.trans ⟨hg.os,hg.tape,hg.output,hg.size,λj hj=>hg.block j (by omega) (by
  intro he
  rcases ho.2 with⟨rfl,_⟩|⟨g,cap,cur,rfl,h1,_⟩
  ·simp[Value.ownBlock]at he
  simp[Value.ownBlock]at he
  omega)⟩
theorem Rk.one_cell (w:World)(i:Int)(t:TypeId):∀j u, [Value.int .i64 i][j]? =some u->(w.alloc (.cells #[.int .i64 i] t)).cell? ((⟨w.heap.size,0,none⟩:Addr).add j)=some u:=by
 intro j u hj
 match j,hj with
 |0,hj=>simp at hj;subst hj;simp[Addr.add]
theorem Rk.one_one (i:Int):∀u∈ [Value.int .i64 i],u.oneCell'=true:=by intro u hu;simp at hu;subst hu;rfl
def Rk.Hold (g:Nat)(lb:Array Value)(p:Nat->Bool)(n:Nat)(w:World):Prop:=
 ∀(W:World) (i:Nat),i<n->Below w.heap.size w W->Calls Tryz.prog g (#[.int .i64 (i:Int)]++lb) W λe w'=>e=.returned (.bool (p i))/\Below W.heap.size W w'
theorem Tryz.places_any (p:Nat->Bool)(g:Nat)(lb:Array Value)(eg:∀args w,(callFunc g args).run Tryz.prog w=.ok (.enter g args) w)(n:Nat)(w:World)(hp:Rk.Hold g lb p n w)(hn:n<=1000):
  Calls Tryz.prog 132 #[.int .i64 n,.func (.func g) #[] lb] w λe w'=>∃v,e=.returned v/\w'.ownsRow w.heap.size 3 1 v ((List.range n).filter p).length (Rk.nums ((List.range n).filter p))/\Below w.heap.size w w':=by
 obtain⟨i0,hi,hz0,hz1,hz2⟩:=info_parts Tryz.infoIntR;have HP:Hid _:=hp;clear hp
 go_enter Tryz.func132,Tryz.ntmps132
 go_wp2
 go_loopg [5,8] n (λgk s5 s8 wr=>∃(k r:Nat) (L:List Nat),gk+k=n/\s8=.int .i64 k/\r<=k/\Hid (L=(List.range k).filter p/\L.length=r/\Below w.heap.size w wr)/\wr.ownsRow w.heap.size 3 1 s5 r (Rk.nums L))
 case atStart=>exact⟨0,0, [],by omega,rfl,Nat.le_refl _,⟨rfl,rfl,Below.refl _ w⟩,World.ownsRow_nil _ _ _ _⟩
 case round=>
  obtain⟨k,r,L,hk,rfl,hr,HB,hown⟩:=hrel;obtain⟨av,cv,rfl⟩:=Rk.own_shape hown
  by_cases hlt:k<n
  rotate_left
  ·have hd:decide ((k:Int)<n)=false:=decide_eq_false (by omega)
   go_wp2;go_ret;obtain rfl:k=n:=by omega
   rw[<-HB.out.1,HB.out.2.1];exact⟨_,rfl,hown,HB.out.2.2⟩
  have hd:decide ((k:Int)<n)=true:=decide_eq_true (by omega);have hcall:=HP.out wr k hlt HB.out.2.2
  have HF:Hid ((List.range (k+1)).filter p=L++if p k=true then [k]else []):=by
   show _=_;rw[List.range_succ,List.filter_append,<-HB.out.1]
   cases hq:p k<;>simp[hq]
  cases hq:p k with
  |false=>
   rw[hq]at hcall HF;clear hq
   go_wp2_with (go_at_fn g;refine hcall.mono ?_;rintro e w1 ⟨rfl,hb⟩)
   go_roundg (gk-1)
   case measure=>omega
   case rel=>
    refine⟨k+1,r,L,by omega,by go_num,by omega,⟨?_,HB.out.2.1,HB.out.2.2.trans (hb.mono HB.out.2.2.size)⟩,Rk.own_below hown hb⟩;rw[HF.out];simp
  |true=>
   rw[hq]at hcall HF;clear hq
   go_wp2_with (first
    |(go_at_fn g;refine hcall.mono ?_;rintro e W1 ⟨rfl,hb⟩;have own1:=Rk.own_below hown hb;have B1:Hid (Below w.heap.size w W1):=HB.out.2.2.trans (hb.mono HB.out.2.2.size);have hs1:w.heap.size<=W1.heap.size:=B1.out.size;clear hb hown hcall)
    |(at_builtin;refine wpList_append_own _ rfl _ _ 51 rfl w.heap.size 3 i0 (.int .i64 0) 1 8 Tryz.underlying51 hi hz0 hz1 hz2 rfl (by decide) _ _ _ rfl (own1.alloc _) ⟨W1.heap.size,0,none⟩ 1 1 [.int .i64 k] rfl rfl (Rk.one_cell W1 k 3) (Rk.one_one k) ?c3 ?c4 ?c5 ?_))
   case c3=>unfold maxLen;omega
   case c4=>omega
   case c5=>simp;omega
   intro v' W2 own2 g2 _;obtain⟨a2,c2,rfl⟩:=Rk.own_shape own2;go_wp2;go_roundg (gk-1)
   case measure=>omega
   case rel=>
    refine⟨k+1,r+1,L++ [k],by omega,by go_num,by omega,⟨?_,by simp[HB.out.2.1],Rk.below_grown (B1.out.alloc hs1 _) (by simp;omega) (own1.alloc _) g2⟩, ?_⟩
    ·rw[HF.out];simp
    rw[Rk.nums_snoc];exact own2
end Go.Proofs
namespace Go.Proofs
namespace Dd
def outsD (ls:List (Int×Int))(kid:Int):List Nat:=(List.range ls.length).filter λi=>decide (((ls[i]?).map Prod.fst)=some kid)
def countD (ls:List (Int×Int))(s:List Int)(kid:Int):Nat->Nat×Nat×Nat
 |0=>(0,0,0)
 |k+1=>if(ls[k]?).map Prod.snd=some kid then((countD ls s kid k).1+(if s.getD k 0=1 then 1 else 0),(countD ls s kid k).2.1+(if s.getD k 0=2 then 1 else 0),(countD ls s kid k).2.2+1)else countD ls s kid k
def livesD (kk:List (Int×Int))(k:Nat)(c:Nat×Nat×Nat):Bool:=if gateB kk k=true/\doesI kk k=2 then decide (c.1=c.2.2)else decide (0<c.1)
def fateD (ls kk:List (Int×Int))(s:List Int)(k:Nat):List Int:=
 if livesD kk k (countD ls s k ls.length)=false then ended ls s k 3 else if Auto kk k then ended ls s k 2 else s.set (40+k) 1
def oneK (ls kk:List (Int×Int))(s:List Int):Nat->Option (List Int)
 |0=>none
 |k+1=>match oneK ls kk s k with
  |some t=>some t
  |none=>if s.getD (40+k) 0≠0∨(countD ls s k ls.length).1+(countD ls s k ls.length).2.1<(countD ls s k ls.length).2.2 then none else some (fateD ls kk s k)
def settledF (ls kk:List (Int×Int)):Nat->List Int->List Int
 |0,s=>s
 |f+1,s=>settledF ls kk f ((oneK ls kk s kk.length).getD s)
def Val (ls:List (Int×Int))(s:List Int):Prop:=s.length=104/\∀i,i<ls.length->s.getD i 0=0∨s.getD i 0=1∨s.getD i 0=2
theorem countD_scan {ls:List (Int×Int)}{s:List Int}(kid:Int):∀k,(∀i,i<k->s.getD i 0=0∨s.getD i 0=1∨s.getD i 0=2)->(countD ls s kid k).1+(countD ls s kid k).2.1<=(countD ls s kid k).2.2/\
  match scan ls s kid k with
  |none=>(countD ls s kid k).1+(countD ls s kid k).2.1<(countD ls s kid k).2.2
  |some p=>(countD ls s kid k).1+(countD ls s kid k).2.1=(countD ls s kid k).2.2/\(p.1=true↔(countD ls s kid k).1=(countD ls s kid k).2.2)/\(p.2=true↔0<(countD ls s kid k).1)
 |0,_=>by simp[countD,scan]
 |k+1,h=>by
  obtain⟨h0,ih⟩:=countD_scan (ls:=ls) (s:=s) kid k λi hi=>h i (by omega);have hv:=h k (by omega);rw[scan,countD]
  by_cases e:(ls[k]?).map Prod.snd=some kid
  rotate_left
  ·rw[if_neg e]
   refine⟨h0, ?_⟩
   cases hs:scan ls s kid k with
   |none=>rw[hs]at ih;exact ih
   |some p=>
    rw[hs]at ih;dsimp only;rw[if_neg e];exact ih
  rw[if_pos e];dsimp only
  cases hs:scan ls s kid k with
  |none=>
   rw[hs]at ih;dsimp only at ih⊢
   refine⟨?_, ?_⟩<;>rcases hv with v|v|v<;>simp only[v]<;>simp<;>omega
  |some p=>
   rw[hs]at ih;dsimp only at ih⊢;rw[if_pos e];obtain⟨i1,i2,i3⟩:=ih
   rcases hv with v|v|v
   ·simp only[v];simp;omega
   ·simp only[v]
    simp
    refine⟨by omega, ?_⟩;rw[i2];omega
   simp only[v]
   simp
   refine⟨by omega,by omega, ?_, ?_⟩
   ·have:=i3;omega
   rw[i3]
theorem countD_all (ls:List (Int×Int))(s:List Int)(kid:Int):∀k,k<=ls.length->(∃i,i<k/\(ls[i]?).map Prod.snd=some kid)->0<(countD ls s kid k).2.2
 |0,_,⟨i,hi,_⟩=>by omega
 |k+1,hk,⟨i,hi,e⟩=>by
  rw[countD]
  by_cases q:(ls[k]?).map Prod.snd=some kid
  ·rw[if_pos q];simp
  rw[if_neg q];refine countD_all ls s kid k (by omega) ⟨i, ?_,e⟩
  by_cases z:i=k
  ·subst z;exact absurd e q
  omega
def HasIn (ls kk:List (Int×Int)):Prop:=∀k:Nat,k<kk.length->∃i,i<ls.length/\(ls[i]?).map Prod.snd=some (k:Int)
theorem fateD_eq {ls kk:List (Int×Int)}{s:List Int}(hv:Val ls s)(hi:HasIn ls kk){k:Nat}(hk:k<kk.length)(h0:s.getD (40+k) 0=0){p:Bool×Bool}(hp:scan ls s k ls.length=some p):fateD ls kk s k=decided ls kk s k:=by
 have h1:=(countD_scan (ls:=ls) (s:=s) (k:Int) ls.length hv.2).2;rw[hp]at h1;obtain⟨_,i2,i3⟩:=h1;have i4:=countD_all ls s k ls.length (Nat.le_refl _) (hi k hk)
 have hd:livesD kk k (countD ls s k ls.length)=false↔Dies kk k p:=by
  unfold livesD Dies
  by_cases q:gateB kk k=true/\doesI kk k=2
  ·rw[if_pos q,decide_eq_false_iff_not,<-i2,Bool.not_eq_true]
   constructor
   ·intro h;exact .inr ⟨q.1,q.2,h⟩
   rintro(h|h)
   ·rw[<-Bool.not_eq_true]
    intro h';have:=i2.1 h';have h'':¬0<(countD ls s (↑k) ls.length).1:=λhh=>by have:=i3.2 hh;rw[h]at this;cases this
    omega
   exact h.2.2
  rw[if_neg q,decide_eq_false_iff_not,<-i3,Bool.not_eq_true]
  constructor
  ·intro h;exact .inl h
  rintro(h|h)
  ·exact h
  exact absurd ⟨h.1,h.2.1⟩ q
 unfold fateD decided;rw[if_pos h0,hp];dsimp only
 by_cases d:Dies kk k p
 ·rw[if_pos (hd.2 d),if_pos d]
 rw[if_neg (λh=>d (hd.1 h)),if_neg d]
theorem oneK_eq {ls kk:List (Int×Int)}(hw:Web ls kk)(hi:HasIn ls kk){s:List Int}(hv:Val ls s):∀n,n<=kk.length->oneK ls kk s n=nextK ls kk s n
 |0,_=>rfl
 |n+1,hn=>by
  rw[oneK,nextK,oneK_eq hw hi hv n (by omega)]
  cases nextK ls kk s n with
  |some t=>rfl
  |none=>
   dsimp only;have hd:=decided_same (kk:=kk) hw.l40 hv.1 (show n<64 by have:=hw.k64;omega);have h1:=countD_scan (ls:=ls) (s:=s) (n:Int) ls.length hv.2
   by_cases h0:s.getD (40+n) 0=0
   rotate_left
   ·rw[if_pos (.inl h0),if_pos (hd.2 (.inl h0))]
   cases hp:scan ls s n ls.length with
   |none=>
    rw[hp]at h1;rw[if_pos (.inr h1.2),if_pos (hd.2 (.inr hp))]
   |some p=>
    rw[hp]at h1;rw[if_neg,if_neg,fateD_eq hv hi (by omega) h0 hp]
    ·intro e
     rcases hd.1 e with e|e
     ·exact e h0
     rw[hp]at e;simp at e
    rintro(e|e)
    ·exact e h0
    have:=h1.2.1;omega
theorem Val.decided {ls kk:List (Int×Int)}(hw:Web ls kk){s:List Int}(hv:Val ls s){k:Nat}(hk:k<kk.length):Val ls (decided ls kk s k):=by
 have l40:=hw.l40;have k64:=hw.k64;have hl:=hv.1
 have he:∀how:Int,Val ls (ended ls s k how):=λhow=>by
  refine⟨by rw[ended_length];exact hl,λi hi=> ?_⟩;rw[ended_get _ _ _ _ (by omega) (by omega),if_neg (show¬40+k=i by omega)]
  split
  ·split
   ·exact .inr (.inl rfl)
   exact .inr (.inr rfl)
  exact hv.2 i hi
 unfold Dd.decided
 split
 ·split
  ·exact hv
  split
  ·exact he 3
  split
  ·exact he 2
  refine⟨by rw[List.length_set];exact hl,λi hi=> ?_⟩;rw[getD_set _ _ _ _ (by omega),if_neg (by omega)];exact hv.2 i hi
 exact hv
theorem settledF_eq {ls kk:List (Int×Int)}(hw:Web ls kk)(hi:HasIn ls kk):∀(f:Nat) (s:List Int),Val ls s->settledF ls kk f s=settleF ls kk f s
 |0,s,_=>rfl
 |f+1,s,hv=>by
  rw[settledF,settleF,oneK_eq hw hi hv _ (Nat.le_refl _)]
  cases hq:nextK ls kk s kk.length with
  |some t=>
   obtain⟨k,p,hk,h0,hp,rfl⟩:=next_some hw hv.1 (Nat.le_refl _) hq;exact settledF_eq hw hi f _ (hv.decided hw hk)
  |none=>
   show settledF ls kk f s=s
   have:∀g,settledF ls kk g s=s:=by
    intro g
    induction g with
    |zero=>rfl
    |succ g ih=>rw[settledF,oneK_eq hw hi hv _ (Nat.le_refl _),hq];exact ih
   exact this f
theorem settled_eq {ls kk:List (Int×Int)}(hw:Web ls kk)(hi:HasIn ls kk){s:List Int}(hv:Val ls s):settledF ls kk kk.length s=settle ls kk s:=settledF_eq hw hi _ s hv
end Dd
end Go.Proofs
