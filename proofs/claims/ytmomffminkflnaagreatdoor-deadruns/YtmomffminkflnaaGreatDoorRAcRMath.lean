import Derived.Test.YtmomffminkflnaaGreatDoorRAcRNum
set_option maxRecDepth 100000
set_option maxHeartbeats 32000000
namespace Go.Proofs
open Go.RowKit
namespace Ac
mutual
def times(i:Int):Ac->Nat|mk k n _ _ _ _ ks _ _ _=>(if hasNodeB k=true/\n=i then 1 else 0)+timess i ks
def timess(i:Int):List Ac->Nat| []=>0|k::r=>times i k+timess i r
end
theorem times_eq(i:Int)(T:Ac):T.times i=(if hasNodeB T.kind=true/\T.node=i then 1 else 0)+timess i T.ks:=by cases T;rfl
theorem timess_snoc(i:Int)(l:List Ac)(a:Ac):timess i(l++ [a])=timess i l+a.times i:=by
 induction l with
 |nil=>simp [timess]
 |cons k r ih=>simp only [List.cons_append,timess,ih];omega
theorem timess_take(i:Int)(l:List Ac)(k:Nat)(h:k<l.length):timess i(l.take(k+1))=timess i(l.take k)+l[k].times i:=by rw [take_snoc l k h,timess_snoc]
mutual
theorem times_le(i:Int): ∀T:Ac,T.times i<=T.size
 |mk k n _ _ _ _ ks _ _ _=>by
  rw [times,size];have:=timess_le i ks
  split<;>omega
theorem timess_le(i:Int): ∀l:List Ac,timess i l<=sizes l
 | []=>by simp [timess,sizes]
 |k::r=>by rw [timess,sizes];have:=times_le i k;have:=timess_le i r;omega
end
def mark(bs:List Bool)(i:Nat):Nat:=if bs[i]? =some true then 1 else 0
theorem mark_le(bs:List Bool)(i:Nat):mark bs i<=1:=by unfold mark;split<;>omega
mutual
theorem go_times: ∀(T:Ac)(bs:List Bool),bs.length=24->T.All NodeOk->
  (((T.go enterS bs).1=true↔ ∀i,i<24->mark bs i+T.times(i:Int)<=1)/\((T.go enterS bs).1=true->(T.go enterS bs).2.length=24/\ ∀i,i<24->mark(T.go enterS bs).2 i=mark bs i+T.times(i:Int)))
 |mk k n a b t c ks l x y,bs,hb,hN=>by
  obtain⟨hN1,hN2⟩:=hN;obtain⟨q,s1,hq⟩: ∃q s1,enterS(mk k n a b t c ks l x y)bs=(q,s1):=⟨_,_,rfl⟩
  have hs:q=true->s1.length=24/\ ∀i,i<24->mark s1 i=mark bs i+(if hasNodeB k=true/\n=(i:Int)then 1 else 0):=λhqt=>by
   unfold enterS at hq;change(if hasNodeB k=true then(!((bs[n.toNat]?).getD true),bs.set n.toNat true)else(true,bs))=(q,s1)at hq
   by_cases hk:hasNodeB k=true
   rotate_left
   ·rw [if_neg hk]at hq
    obtain⟨h1,h2⟩:=Prod.mk.inj hq;refine⟨by rw [<-h2];exact hb,λi hi=> ?_⟩;rw [if_neg(λh=>hk h.1),Nat.add_zero,h2]
   rw [if_pos hk]at hq;obtain⟨h1,h2⟩:=Prod.mk.inj hq;have hn:=hN1 hk;have hnn:n=(n.toNat:Int):=by have:0<=n:=hn.1;omega
   have hlt:n.toNat<24:=by have:n<24:=hn.2;omega
   refine⟨by rw [<-h2,List.length_set];exact hb,λi hi=> ?_⟩
   have h1':(bs[n.toNat]?).getD true=false:=by
    rw [hqt]at h1;have h1:(!((bs[n.toNat]?).getD true))=true:=h1;simpa using h1
   have hget:bs[n.toNat]? =some false:=by
    rw [List.getElem?_eq_getElem(by omega)]at h1'⊢;simpa using h1'
   rw [<-h2];unfold mark;show(if(bs.set n.toNat true)[i]? =some true then 1 else 0)=_
   by_cases e:n.toNat=i
   ·subst e
    rw [List.getElem?_set_self(by omega),if_pos rfl,hget,if_neg(by simp),if_pos⟨hk,hnn⟩]
   rw [List.getElem?_set_ne e];have: ¬(hasNodeB k=true/\n=(i:Int)):=λh=>e(by have:=h.2;omega);rw [if_neg this,Nat.add_zero]
  have hf:q=false-> ∃i,i<24/\mark bs i=1/\hasNodeB k=true/\n=(i:Int):=λhqf=>by
   unfold enterS at hq;change(if hasNodeB k=true then(!((bs[n.toNat]?).getD true),bs.set n.toNat true)else(true,bs))=(q,s1)at hq
   by_cases hk:hasNodeB k=true
   ·rw [if_pos hk]at hq
    obtain⟨h1,h2⟩:=Prod.mk.inj hq;have hn:=hN1 hk;have hnn:n=(n.toNat:Int):=by have:0<=n:=hn.1;omega
    have hlt:n.toNat<24:=by have:n<24:=hn.2;omega
    refine⟨n.toNat,hlt, ?_,hk,hnn⟩;rw [hqf]at h1;have h1:(!((bs[n.toNat]?).getD true))=false:=h1;unfold mark;rw [List.getElem?_eq_getElem(by omega)]at h1⊢;rw [if_pos];simpa using h1
   rw [if_neg hk]at hq;obtain⟨h1,h2⟩:=Prod.mk.inj hq;rw [hqf]at h1
   cases h1
  rw [go,hq];dsimp only
  cases q with
  |false=>
   rw [if_neg(by simp)];obtain⟨i,hi,hm,hk,hn⟩:=hf rfl;refine⟨⟨λh=>by simp at h,λh=> ?_⟩,λh=>by simp at h⟩;have:=h i hi;rw [times,if_pos⟨hk,hn⟩]at this;omega
  |true=>
   obtain⟨h1,h2⟩:=hs rfl;obtain⟨i1,i2⟩:=goes_times ks s1 h1 hN2;rw [if_pos rfl];refine⟨i1.trans ?_,λh=>⟨(i2 h).1,λi hi=> ?_⟩⟩
   ·constructor
    ·intro h i hi
     have:=h i hi;rw [h2 i hi]at this;rw [times];omega
    intro h i hi;have:=h i hi;rw [times]at this;rw [h2 i hi];omega
   rw [(i2 h).2 i hi,h2 i hi,times];omega
theorem goes_times : ∀ (ks : List Ac) (bs : List Bool), bs.length = 24 -> Alls NodeOk ks ->
    (((goes enterS ks bs).1 = true ↔ ∀ i, i < 24 -> mark bs i + timess (i : Int) ks <= 1) /\ ((goes enterS ks bs).1 = true -> (goes enterS ks bs).2.length = 24 /\ ∀ i, i < 24 -> mark (goes enterS ks bs).2 i = mark bs i + timess (i : Int) ks))
  | [], bs, hb, _ => by
    rw [goes];refine ⟨⟨λ_ i _ => by rw [timess]; have := mark_le bs i; omega, λ_ => rfl⟩, λ_ => ⟨hb, λi _ => by rw [timess]; rfl⟩⟩
  | k :: r, bs, hb, hN => by
    obtain ⟨i1, i2⟩ := go_times k bs hb hN.1;rw [goes]
    by_cases h : (go enterS k bs).1 = true
    · rw [if_pos h]
      obtain ⟨h1, h2⟩ := i2 h;obtain ⟨j1, j2⟩ := goes_times r _ h1 hN.2;refine ⟨j1.trans ?_, λhh => ⟨(j2 hh).1, λi hi => ?_⟩⟩
      · constructor
        · intro hh i hi
          have := hh i hi;rw [h2 i hi] at this;rw [timess];omega
        intro hh i hi;have := hh i hi;rw [timess] at this;rw [h2 i hi];omega
      rw [(j2 hh).2 i hi, h2 i hi, timess];omega
    rw [if_neg h];refine ⟨⟨λhh => by simp at hh, λhh => ?_⟩, λhh => by simp at hh⟩
    exfalso
    refine h (i1.2 λi hi => ?_);have := hh i hi;rw [timess] at this;omega
end
theorem twice_iff {T:Ac} (h:T.All NodeOk):T.twiceB=true↔ ∃i:Nat,i<24/\1<T.times(i:Int):=by
 have h1:=(go_times T(List.replicate 24 false)(by simp)h).1
 have hm: ∀i,mark(List.replicate 24 false)i=0:=λi=>by
  unfold mark;rw [if_neg];intro h2;have:=List.mem_of_getElem? h2;simp at this
 unfold twiceB;rw [Bool.not_eq_true',<-Bool.not_eq_true,h1]
 constructor
 ·intro hh
  by_cases q: ∃i:Nat,i<24/\1<T.times(i:Int)
  ·exact q
  exfalso
  refine hh λi hi=> ?_;rw [hm];have: ¬1<T.times(i:Int):=λh2=>q⟨i,hi,h2⟩;omega
 rintro⟨i,hi,h2⟩hh;have:=hh i hi;rw [hm]at this;omega
theorem mem_alls {P:Ac->Prop} : ∀ {l:List Ac},Alls P l-> ∀k∈l,P k
 |k::r,h,x,hx=>by
  rcases List.mem_cons.1 hx with rfl|hx
  ·have:=h.1;rw [all_eq]at this;exact this.1
  exact mem_alls h.2 x hx
theorem kid_ok {T:Ac} (h:T.FormD∨T.Formed):(1<=T.kind/\T.kind<=14)/\(T.kind=12->1<=T.a/\T.a<=4):=by
 rcases h with h|h
 ·exact⟨numbered_kind h.2.2.1,formD_gate h⟩
 exact⟨formed_kind h,formed_gate h⟩
mutual
theorem form_all: ∀T:Ac,T.All FormD↔T.All Formed
 |mk k n a b t c ks l x y=>by
  have hk:=forms_all ks;rw [All,All,hk]
  constructor
  ·rintro⟨h1,h2⟩
   exact⟨(form_iff(T:=mk k n a b t c ks l x y)λz hz=>kid_ok(.inl(mem_alls(hk.2 h2)z hz))).1 h1,h2⟩
  rintro⟨h1,h2⟩;exact⟨(form_iff(T:=mk k n a b t c ks l x y)λz hz=>kid_ok(.inr(mem_alls h2 z hz))).2 h1,h2⟩
theorem forms_all: ∀l:List Ac,Alls FormD l↔Alls Formed l
 | []=>Iff.rfl
 |k::r=>by rw [Alls,Alls,form_all k,forms_all r]
end
mutual
theorem form_go2: ∀(T:Ac)(s:Unit),T.All Formed->(T.go stepF s).1=true
 |mk k n a b t c ks l x y,s,h=>by
  rw [go,if_pos(show((mk k n a b t c ks l x y).stepF s).1=true from(formB_iff _).2 h.1)];exact forms_go2 ks _ h.2
theorem forms_go2: ∀(l:List Ac)(s:Unit),Alls Formed l->(goes stepF l s).1=true
 | [],_,_=>rfl
 |k::r,s,h=>by
  rw [goes,if_pos(show(go stepF k s).1=true from form_go2 k s h.1)];exact forms_go2 r _ h.2
end
theorem form_go {T:Ac} (s:Unit)(h:T.All Formed):(T.go stepF s).1=true:=form_go2 T s h
noncomputable def docC(T:Ac):Int:=by classical exact if 96<T.size∨24<T.depth then 2 else if T.kind=10∨T.kind=12∨ ¬T.All FormD then 4 else if∃i:Nat,i<24/\1<T.times(i:Int)then 8 else 0
theorem doc_check(T:Ac):T.docC=T.checkC:=by
 unfold docC checkC tooB;have ht:(!decide(T.depth<=24/\T.size<=96))=true↔(96<T.size∨24<T.depth):=by simp;omega
 by_cases h1:96<T.size∨24<T.depth
 ·rw [if_pos h1,if_pos(ht.2 h1)]
 rw [if_neg h1,if_neg(λh=>h1(ht.1 h))]
 have hg:(T.go stepF()).1=false↔ ¬T.All FormD:=by
  rw [form_all]
  constructor
  ·intro h h2
   rw [form_go()h2]at h
   cases h
  intro h
  cases hq:(T.go stepF()).1 with
  |false=>rfl
  |true=>exact absurd(go_form T()hq)h
 by_cases h2:T.kind=10∨T.kind=12∨ ¬T.All FormD
 ·have hc:T.kind=10∨T.kind=12∨(T.go stepF()).1=false:=by rw [hg];exact h2
  rw [if_pos h2,if_pos hc]
 have hc: ¬(T.kind=10∨T.kind=12∨(T.go stepF()).1=false):=by rw [hg];exact h2
 rw [if_neg h2,if_neg hc];have hall:T.All FormD:=Classical.not_not.1 λh=>h2(.inr(.inr h));have hn:T.All NodeOk:=all_mono formed_node T((form_all T).1 hall);have:=twice_iff hn
 by_cases h3: ∃i:Nat,i<24/\1<T.times(i:Int)
 ·rw [if_pos h3,if_pos(this.2 h3)]
 rw [if_neg h3,if_neg(λh=>h3(this.1 h))]
end Ac
end Go.Proofs
namespace Go.Proofs
open Go.RowKit Go.Shelf
theorem Tryz.r16times_any(nd:Int): ∀(d e:Nat)(T:Ac)(V:Ac.Vs)(w:World),Ac.Lies w w.heap.size e d V T->T.size<=2147483647->
  Calls Tryz.prog 43 #[.agg(Ac.row T V), .int .i64 nd]w λe w'=>e= .returned(.int .i64(T.times nd))/\Below w.heap.size w w':=by
 intro d
 induction d with
 |zero=>intro e T V w h;exact h.elim
 |succ d ih=>
  intro e T V w hT hsz;obtain⟨a,cap,hvk⟩:=hT.kids;obtain⟨n,hn⟩: ∃n,T.ks.length=n:=⟨_,rfl⟩;rw [hn]at hvk;have hnb:n<=2147483647:=by have h1:=Ac.length_le_sizes T.ks;have h2:=T.size_eq;omega
  obtain⟨k,hk⟩: ∃k,T.kind=k:=⟨_,rfl⟩;obtain⟨m,hm⟩: ∃k,T.node=k:=⟨_,rfl⟩;obtain⟨A,hA⟩: ∃k,T.a=k:=⟨_,rfl⟩;obtain⟨x3,x4,x5,x6,x7,x9,x10,x11,hrow⟩: ∃x3 x4 x5 x6 x7 x9 x10 x11,Ac.row T V= #[.int .i64 k, .int .i64 m, .int .i64 A,x3,x4,x5,x6,x7, .slice a n cap,x9,x10,x11]:=⟨_,_,_,_,_,_,_,_,by unfold Ac.row;rw [hvk,hk,hm,hA]⟩;obtain⟨ts,hts⟩: ∃k,T.times nd=k:=⟨_,rfl⟩;rw [hrow,hts];obtain⟨w1,hw1⟩: ∃z,w.alloc(.cells #[.int .i64 k, .int .i64 m, .int .i64 A,x3,x4,x5,x6,x7, .slice a n cap,x9,x10,x11]48)=z:=⟨_,rfl⟩;have B1:Below w.heap.size w w1:=by rw [<-hw1];exact(Below.refl _ w).alloc(Nat.le_refl _)_
  have N1:w1.heap[w.heap.size]? =some(.cells #[.int .i64 k, .int .i64 m, .int .i64 A,x3,x4,x5,x6,x7, .slice a n cap,x9,x10,x11]48(0,0)):=by rw [<-hw1];exact heap_alloc_new w _
  have H1:Hid _:=hw1;have HF:Hid(∀W,Below w1.heap.size w1 W->W.heap[w.heap.size]? =some(.cells #[.int .i64 k, .int .i64 m, .int .i64 A,x3,x4,x5,x6,x7, .slice a n cap,x9,x10,x11]48(0,0))/\Below w.heap.size w W):=λW hb=>⟨(hb.block _(Array.getElem?_eq_some_iff.1 N1).1).trans N1,B1.trans(hb.mono B1.size)⟩;have HT:Hid(Ac.Lies w w.heap.size e(d+1)V T/\V.k= .slice a n cap):=⟨hT,hvk⟩;have HI:Hid _:=ih;obtain⟨c0,hc0⟩: ∃c:Nat,(if Ac.hasNodeB k=true/\m=nd then 1 else 0)=c:=⟨_,rfl⟩;have hc1:c0<=1:=by rw [<-hc0];split<;>omega
  have HM:Hid(T.ks.length=n/\T.size<=2147483647/\ts=c0+Ac.timess nd T.ks/\(if Ac.hasNodeB k=true/\m=nd then 1 else 0)=c0):=⟨hn,hsz,by rw [<-hts,T.times_eq,hk,hm,hc0],hc0⟩;have CH:Hid _:=Tryz.r16Has_any k A(.int .i64 m)x3 x4 x5 x6 x7(.slice a n cap)x9 x10 x11 w1;obtain⟨s,hs⟩: ∃s:ByteArray,⟨(Ac.hasL k A).toArray⟩=s:=⟨_,rfl⟩;rw [hs]at CH;obtain⟨q,hq⟩: ∃q,Ac.hasNodeB k=q:=⟨_,rfl⟩
  have HI1:Hid(∀W,Calls Tryz.prog 52 #[.string s, .int .u8 110]W λe w'=>e= .returned(.bool q)/\w'=W):=λW=>by
   have h:=Tryz.r16in_any s 110 W(by rw [<-hs];exact Ac.hasL_size _ _);have e1:Ac.inB s.data.toList 110=q:=by rw [<-hs,<-hq];exact(Ac.has_let k A).1
   rw [e1]at h;exact h
  rw [hq]at hc0;have ha:=Tryz.underlying48;have ia:(Tryz.prog.info? 48).map(·.size)=some(#[.int .i64 k, .int .i64 m, .int .i64 A,x3,x4,x5,x6,x7, .slice a n cap,x9,x10,x11]:Array Value).size:=Ak.rinfo;clear ih hT hsz hvk hn hrow hts hw1 B1 hk hm hA hs hq;have HC0:Hid _:=hc0;clear hc0
  go_enter Tryz.func43,Tryz.ntmps43
  go_upto_region 1 with fail
  rw [H1.out];clear H1
  go_wp2_with(refine wpList_load_row rfl 48 _ rfl _ rfl 48 _(0,0)_ N1 ha rfl ia ?_)
  refine Calls.mono CH.out ?_;rintro e2 W2⟨rfl,b2⟩;have HB2:Hid(Below w1.heap.size w1 W2):=b2;have N2:=(HF.out _ b2).1;clear b2 N1 CH;have p1:W2.cell? ⟨w.heap.size,1,none⟩=some(.int .i64 m):=by simp [World.cell?,N2]
  have p8:W2.cell? ⟨w.heap.size,8,none⟩=some(.slice a n cap):=by simp [World.cell?,N2]
  go_wp2_with fail
  refine Calls.mono(HI1.out _) ?_;rintro e3 W3⟨rfl,hw3⟩;obtain rfl:=hw3.symm;clear hw3 N2
  have hv:(q=true/\(m==nd)=true/\c0=1)∨(q=true/\(m==nd)=false/\c0=0)∨(q=false/\c0=0):=by
   have h:=HC0.out
   cases q with
   |false=>exact .inr(.inr⟨rfl,by rw [<-h];simp⟩)
   |true=>
    by_cases e:m=nd
    ·exact .inl⟨rfl,by simp [e],by rw [<-h,if_pos⟨rfl,e⟩]⟩
    exact .inr(.inl⟨rfl,by simpa using e,by rw [<-h,if_neg(λh=>e h.2)]⟩)
  clear HC0
  rcases hv with⟨rfl,f0,rfl⟩|⟨rfl,f0,rfl⟩|⟨rfl,rfl⟩
  ·go_wp2
   go_loopg [5,20]n(λgk s i wr=> ∃j c:Nat,gk+j=n/\i= .int .i64 j/\s= .int .i64 c/\c<=2147483647/\Hid(Below w1.heap.size w1 wr/\c=1+Ac.timess nd(T.ks.take j)))
   case atStart=>exact⟨0,1,by omega,rfl,rfl,by omega,HB2.out,by simp [Ac.timess]⟩
   case round=>
    obtain⟨j,c,hj,rfl,rfl,hcb,HJ⟩:=hrel;clear p1 p8
    by_cases hjn:j<n
    rotate_left
    ·have hd:decide((j:Int)<n)=false:=decide_eq_false(by omega)
     have hall:T.ks.take j=T.ks:=List.take_of_length_le(by rw [HM.out.1];omega)
     have hts:c=ts:=by
      have h1:=HJ.out.2;rw [hall]at h1;have h3:=HM.out.2.2.1;omega
     have HX:Hid(Below w.heap.size w wr):=(HF.out _ HJ.out.1).2;subst hts;go_wp2;go_ret;exact⟨rfl,HX.out⟩
    have hd:decide((j:Int)<n)=true:=decide_eq_true(by omega);have hjk:j<T.ks.length:=by rw [HM.out.1];exact hjn
    have hxs:=Ac.sizes_get T.ks j hjk;have j0:(0:Int)<=j:=by omega
    have j1:(j:Int)<n:=by omega
    obtain⟨g,off,U,xs,w2,K⟩:=Ak.kid_at HT.out.1 HT.out.2(HF.out _ HJ.out.1).2 j hjk;obtain⟨x,hx⟩: ∃x,T.ks[j]=x:=⟨_,rfl⟩;have htl:=Ac.timess_le nd(T.ks.take j);rw [hx]at hxs K;have hcall:=HI.out e x U w2 K.lies(by have:=HM.out.2.1;have:=T.size_eq;omega);obtain⟨fx,hfx⟩: ∃y,x.times nd=y:=⟨_,rfl⟩;have hfl:=x.times_le nd;rw [K.row,hfx]at hcall;rw [hfx]at hfl;have HC:Hid _:=hcall;have HY:Hid(T.ks[j]=x/\x.times nd=fx):=⟨hx,hfx⟩;have hsum:c+fx<=2147483647:=by have h1:=HM.out.2.1;have h2:=T.size_eq;have h3:=HJ.out.2;omega
    obtain⟨rfl,-,ryr,xone,ix,ixl,NZ,ez,hw2,NK,B2,-,-⟩:=K;have HBW2:Hid(Below w1.heap.size w1 w2):=HJ.out.1.trans(B2.mono HJ.out.1.size);obtain⟨kb,hkb⟩: ∃z,wr.heap.size=z:=⟨_,rfl⟩;have HKB:Hid(wr.heap.size=kb):=hkb;have HW2:Hid _:=hw2;rw [hkb]at NK;clear hx hxs hcall hfx B2 hw2 hkb htl hfl
    go_upto_region 7 with(first
     |refine wpList_load_mid rfl 48 _ rfl g(off+j*12)rfl xs.toList _ ryr ha rfl ixl ?_
     |refine wpList_store_row rfl 48 _ _ rfl wr.heap.size xs rfl rfl 48 _ NZ ix ez xone ?_)
    rw [HW2.out,HKB.out];clear ryr NZ HW2 HKB
    go_wp2_with(refine wpList_load_row rfl 48 _ rfl _ rfl 48 _(0,0)_ NK ha rfl ix ?_)
    refine Calls.mono HC.out ?_;rintro e5 W5⟨rfl,b5⟩;have HB5:Hid(Below w1.heap.size w1 W5):=HBW2.out.trans(b5.mono HBW2.out.size);clear b5 HC NK;go_wp2;go_roundg(gk-1)
    case measure=>omega
    case rel=>
     refine⟨j+1,c+fx,by omega,by go_num,by go_num,hsum,HB5.out, ?_⟩;rw [Ac.timess_take _ _ _ hjk,HY.out.1,HY.out.2,HJ.out.2];omega
  ·go_wp2
   go_loopg [5,20]n(λgk s i wr=> ∃j c:Nat,gk+j=n/\i= .int .i64 j/\s= .int .i64 c/\c<=2147483647/\Hid(Below w1.heap.size w1 wr/\c=0+Ac.timess nd(T.ks.take j)))
   case atStart=>exact⟨0,0,by omega,rfl,rfl,by omega,HB2.out,by simp [Ac.timess]⟩
   case round=>
    obtain⟨j,c,hj,rfl,rfl,hcb,HJ⟩:=hrel;clear p1 p8
    by_cases hjn:j<n
    rotate_left
    ·have hd:decide((j:Int)<n)=false:=decide_eq_false(by omega)
     have hall:T.ks.take j=T.ks:=List.take_of_length_le(by rw [HM.out.1];omega)
     have hts:c=ts:=by
      have h1:=HJ.out.2;rw [hall]at h1;have h3:=HM.out.2.2.1;omega
     have HX:Hid(Below w.heap.size w wr):=(HF.out _ HJ.out.1).2;subst hts;go_wp2;go_ret;exact⟨rfl,HX.out⟩
    have hd:decide((j:Int)<n)=true:=decide_eq_true(by omega);have hjk:j<T.ks.length:=by rw [HM.out.1];exact hjn
    have hxs:=Ac.sizes_get T.ks j hjk;have j0:(0:Int)<=j:=by omega
    have j1:(j:Int)<n:=by omega
    obtain⟨g,off,U,xs,w2,K⟩:=Ak.kid_at HT.out.1 HT.out.2(HF.out _ HJ.out.1).2 j hjk;obtain⟨x,hx⟩: ∃x,T.ks[j]=x:=⟨_,rfl⟩;have htl:=Ac.timess_le nd(T.ks.take j);rw [hx]at hxs K;have hcall:=HI.out e x U w2 K.lies(by have:=HM.out.2.1;have:=T.size_eq;omega);obtain⟨fx,hfx⟩: ∃y,x.times nd=y:=⟨_,rfl⟩;have hfl:=x.times_le nd;rw [K.row,hfx]at hcall;rw [hfx]at hfl;have HC:Hid _:=hcall;have HY:Hid(T.ks[j]=x/\x.times nd=fx):=⟨hx,hfx⟩;have hsum:c+fx<=2147483647:=by have h1:=HM.out.2.1;have h2:=T.size_eq;have h3:=HJ.out.2;omega
    obtain⟨rfl,-,ryr,xone,ix,ixl,NZ,ez,hw2,NK,B2,-,-⟩:=K;have HBW2:Hid(Below w1.heap.size w1 w2):=HJ.out.1.trans(B2.mono HJ.out.1.size);obtain⟨kb,hkb⟩: ∃z,wr.heap.size=z:=⟨_,rfl⟩;have HKB:Hid(wr.heap.size=kb):=hkb;have HW2:Hid _:=hw2;rw [hkb]at NK;clear hx hxs hcall hfx B2 hw2 hkb htl hfl
    go_upto_region 7 with(first
     |refine wpList_load_mid rfl 48 _ rfl g(off+j*12)rfl xs.toList _ ryr ha rfl ixl ?_
     |refine wpList_store_row rfl 48 _ _ rfl wr.heap.size xs rfl rfl 48 _ NZ ix ez xone ?_)
    rw [HW2.out,HKB.out];clear ryr NZ HW2 HKB
    go_wp2_with(refine wpList_load_row rfl 48 _ rfl _ rfl 48 _(0,0)_ NK ha rfl ix ?_)
    refine Calls.mono HC.out ?_;rintro e5 W5⟨rfl,b5⟩;have HB5:Hid(Below w1.heap.size w1 W5):=HBW2.out.trans(b5.mono HBW2.out.size);clear b5 HC NK;go_wp2;go_roundg(gk-1)
    case measure=>omega
    case rel=>
     refine⟨j+1,c+fx,by omega,by go_num,by go_num,hsum,HB5.out, ?_⟩;rw [Ac.timess_take _ _ _ hjk,HY.out.1,HY.out.2,HJ.out.2];omega
  go_wp2
  go_loopg [5,20]n(λgk s i wr=> ∃j c:Nat,gk+j=n/\i= .int .i64 j/\s= .int .i64 c/\c<=2147483647/\Hid(Below w1.heap.size w1 wr/\c=0+Ac.timess nd(T.ks.take j)))
  case atStart=>exact⟨0,0,by omega,rfl,rfl,by omega,HB2.out,by simp [Ac.timess]⟩
  case round=>
   obtain⟨j,c,hj,rfl,rfl,hcb,HJ⟩:=hrel;clear p1 p8
   by_cases hjn:j<n
   rotate_left
   ·have hd:decide((j:Int)<n)=false:=decide_eq_false(by omega)
    have hall:T.ks.take j=T.ks:=List.take_of_length_le(by rw [HM.out.1];omega)
    have hts:c=ts:=by
     have h1:=HJ.out.2;rw [hall]at h1;have h3:=HM.out.2.2.1;omega
    have HX:Hid(Below w.heap.size w wr):=(HF.out _ HJ.out.1).2;subst hts;go_wp2;go_ret;exact⟨rfl,HX.out⟩
   have hd:decide((j:Int)<n)=true:=decide_eq_true(by omega);have hjk:j<T.ks.length:=by rw [HM.out.1];exact hjn
   have hxs:=Ac.sizes_get T.ks j hjk;have j0:(0:Int)<=j:=by omega
   have j1:(j:Int)<n:=by omega
   obtain⟨g,off,U,xs,w2,K⟩:=Ak.kid_at HT.out.1 HT.out.2(HF.out _ HJ.out.1).2 j hjk;obtain⟨x,hx⟩: ∃x,T.ks[j]=x:=⟨_,rfl⟩;have htl:=Ac.timess_le nd(T.ks.take j);rw [hx]at hxs K;have hcall:=HI.out e x U w2 K.lies(by have:=HM.out.2.1;have:=T.size_eq;omega);obtain⟨fx,hfx⟩: ∃y,x.times nd=y:=⟨_,rfl⟩;have hfl:=x.times_le nd;rw [K.row,hfx]at hcall;rw [hfx]at hfl;have HC:Hid _:=hcall;have HY:Hid(T.ks[j]=x/\x.times nd=fx):=⟨hx,hfx⟩;have hsum:c+fx<=2147483647:=by have h1:=HM.out.2.1;have h2:=T.size_eq;have h3:=HJ.out.2;omega
   obtain⟨rfl,-,ryr,xone,ix,ixl,NZ,ez,hw2,NK,B2,-,-⟩:=K;have HBW2:Hid(Below w1.heap.size w1 w2):=HJ.out.1.trans(B2.mono HJ.out.1.size);obtain⟨kb,hkb⟩: ∃z,wr.heap.size=z:=⟨_,rfl⟩;have HKB:Hid(wr.heap.size=kb):=hkb;have HW2:Hid _:=hw2;rw [hkb]at NK;clear hx hxs hcall hfx B2 hw2 hkb htl hfl
   go_upto_region 7 with(first
    |refine wpList_load_mid rfl 48 _ rfl g(off+j*12)rfl xs.toList _ ryr ha rfl ixl ?_
    |refine wpList_store_row rfl 48 _ _ rfl wr.heap.size xs rfl rfl 48 _ NZ ix ez xone ?_)
   rw [HW2.out,HKB.out];clear ryr NZ HW2 HKB
   go_wp2_with(refine wpList_load_row rfl 48 _ rfl _ rfl 48 _(0,0)_ NK ha rfl ix ?_)
   refine Calls.mono HC.out ?_;rintro e5 W5⟨rfl,b5⟩;have HB5:Hid(Below w1.heap.size w1 W5):=HBW2.out.trans(b5.mono HBW2.out.size);clear b5 HC NK;go_wp2;go_roundg(gk-1)
   case measure=>omega
   case rel=>
    refine⟨j+1,c+fx,by omega,by go_num,by go_num,hsum,HB5.out, ?_⟩;rw [Ac.timess_take _ _ _ hjk,HY.out.1,HY.out.2,HJ.out.2];omega
theorem Tryz.r16Check_any(d e:Nat)(T:Ac)(V:Ac.Vs)(w:World)(hT:Ac.Lies w w.heap.size e d V T)(hF:T.All Ac.Fit)(hsz:T.size<=2147483647):
  Calls Tryz.prog 29 #[.agg(Ac.row T V)]w λe w'=>e= .returned(.int .i64 T.checkC)/\Below w.heap.size w w':=by
 obtain⟨R,hR⟩: ∃R,T.checkC=R:=⟨_,rfl⟩;obtain⟨k,hk⟩: ∃k,T.kind=k:=⟨_,rfl⟩;obtain⟨S,hS⟩: ∃k,T.size=k:=⟨_,rfl⟩;obtain⟨D,hD⟩: ∃k,T.depth=k:=⟨_,rfl⟩;obtain⟨P,hP⟩: ∃P,T.FormAll=P:=⟨_,rfl⟩
 have HR:Hid(∀r:Int,((96<S∨24<D)->r=2)->(¬(96<S∨24<D)->(k=10∨k=12∨ ¬P)->r=4)->(¬(96<S∨24<D)-> ¬(k=10∨k=12∨ ¬P)->(∃i:Nat,i<24/\1<T.times(i:Int))->r=8)->
   (¬(96<S∨24<D)-> ¬(k=10∨k=12∨ ¬P)-> ¬(∃i:Nat,i<24/\1<T.times(i:Int))->r=0)->r=R):=λr h2 h4 h8 h0=>by
  rw [<-hR,<-T.doc_check];unfold Ac.docC;rw [hS,hD,hk,show T.All Ac.FormD=P from hP]
  by_cases c1:96<S∨24<D
  ·rw [if_pos c1];exact h2 c1
  rw [if_neg c1]
  by_cases c2:k=10∨k=12∨ ¬P
  ·rw [if_pos c2];exact h4 c1 c2
  rw [if_neg c2]
  by_cases c3: ∃i:Nat,i<24/\1<T.times(i:Int)
  ·rw [if_pos c3];exact h8 c1 c2 c3
  rw [if_neg c3];exact h0 c1 c2 c3
 obtain⟨x1,x2,x3,x4,x5,x6,x7,x8,x9,x10,x11,hrow⟩: ∃x1 x2 x3 x4 x5 x6 x7 x8 x9 x10 x11,Ac.row T V= #[.int .i64 k,x1,x2,x3,x4,x5,x6,x7,x8,x9,x10,x11]:=⟨_,_,_,_,_,_,_,_,_,_,_,by unfold Ac.row;rw [hk]⟩;have CS0: ∀W,Below w.heap.size w W->Calls Tryz.prog 40 #[.agg(Ac.row T V)]W λe w'=>e= .returned(.int .i64 S)/\Below W.heap.size W w':=λW hb=>by rw [<-hS];exact Tryz.r16Size_any d e T V W((hT.below hb).wider hb.size)hsz
 have CD0: ∀W,Below w.heap.size w W->Calls Tryz.prog 41 #[.agg(Ac.row T V)]W λe w'=>e= .returned(.int .i64 D)/\Below W.heap.size W w':=λW hb=>by rw [<-hD];exact Tryz.r16Depth_any d e T V W((hT.below hb).wider hb.size)hsz
 have CF0: ∀W,Below w.heap.size w W->Calls Tryz.prog 42 #[.agg(Ac.row T V)]W λe w'=>Ak.Told P e/\Below W.heap.size W w':=λW hb=>by rw [<-hP];exact Tryz.r16Form_any d e T V W((hT.below hb).wider hb.size)hF hsz
 have CT0: ∀W(i:Int),Below w.heap.size w W->Calls Tryz.prog 43 #[.agg(Ac.row T V), .int .i64 i]W λe w'=>e= .returned(.int .i64(T.times i))/\Below W.heap.size W w':=λW i hb=>Tryz.r16times_any i d e T V W((hT.below hb).wider hb.size)hsz;rw [hrow]at CS0 CD0 CF0 CT0⊢;rw [hR];obtain⟨w1,hw1⟩: ∃z,w.alloc(.cells #[.int .i64 k,x1,x2,x3,x4,x5,x6,x7,x8,x9,x10,x11]48)=z:=⟨_,rfl⟩;have B1:Below w.heap.size w w1:=by rw [<-hw1];exact(Below.refl _ w).alloc(Nat.le_refl _)_
 have N1:w1.heap[w.heap.size]? =some(.cells #[.int .i64 k,x1,x2,x3,x4,x5,x6,x7,x8,x9,x10,x11]48(0,0)):=by rw [<-hw1];exact heap_alloc_new w _
 have H1:Hid _:=hw1;have HF:Hid(∀W,Below w1.heap.size w1 W->W.heap[w.heap.size]? =some(.cells #[.int .i64 k,x1,x2,x3,x4,x5,x6,x7,x8,x9,x10,x11]48(0,0))/\Below w.heap.size w W):=λW hb=>⟨(hb.block _(Array.getElem?_eq_some_iff.1 N1).1).trans N1,B1.trans(hb.mono B1.size)⟩;have CS:Hid _:=CS0;have CD:Hid _:=CD0;have CF:Hid _:=CF0;have CT:Hid _:=CT0;have HTL:Hid(∀i:Int,T.times i<=2147483647):=λi=>by have:=T.times_le i;omega
 have ha:=Tryz.underlying48;have ia:(Tryz.prog.info? 48).map(·.size)=some(#[.int .i64 k,x1,x2,x3,x4,x5,x6,x7,x8,x9,x10,x11]:Array Value).size:=Ak.rinfo;clear hT hF hsz hR hk hS hD hP hrow CS0 CD0 CF0 CT0 hw1 B1
 go_enter Tryz.func29,Tryz.ntmps29
 go_upto_region 1 with fail
 rw [H1.out];clear H1
 go_wp2_with(refine wpList_load_row rfl 48 _ rfl _ rfl 48 _(0,0)_ N1 ha rfl ia ?_)
 refine Calls.mono(CS.out _(HF.out _(Below.refl _ _)).2) ?_;rintro e2 W2⟨rfl,b2⟩;have HB2:Hid(Below w1.heap.size w1 W2):=b2;have HX2:Hid(Below w.heap.size w W2):=(HF.out _ b2).2;have N2:=(HF.out _ b2).1;have RG2:=Ak.range_box N2;clear b2 N1 CS N2
 by_cases g1:96<S
 ·have f1:decide(96<(S:Int))=true:=decide_eq_true(by omega)
  have HQ:Hid((2:Int)=R):=HR.out 2(λ_=>rfl)(λh=>absurd(.inl g1)h)(λh=>absurd(.inl g1)h)(λh=>absurd(.inl g1)h);clear g1;go_wp2;go_ret;exact⟨by rw [<-HQ.out];rfl,HX2.out⟩
 have f1:decide(96<(S:Int))=false:=decide_eq_false(by omega);have HG1:Hid(¬96<S):=g1;clear g1
 go_wp2_with(refine Ak.load_want(by rfl)48 _ rfl w.heap.size 0 rfl _ _ RG2 ha rfl ia ?_)
 refine Calls.mono(CD.out _ HX2.out) ?_;rintro e3 W3⟨rfl,b3⟩;have HB3:Hid(Below w1.heap.size w1 W3):=HB2.out.trans(b3.mono HB2.out.size);have HX3:Hid(Below w.heap.size w W3):=(HF.out _ HB3.out).2;have N3:=(HF.out _ HB3.out).1;have RG3:=Ak.range_box N3;have p0:W3.cell? ⟨w.heap.size,0,none⟩=some(.int .i64 k):=by simp [World.cell?,N3]
 clear b3 CD RG2 N3 HB2 HX2
 by_cases g2:24<D
 ·have f2:decide(24<(D:Int))=true:=decide_eq_true(by omega)
  have HQ:Hid((2:Int)=R):=HR.out 2(λ_=>rfl)(λh=>absurd(.inr g2)h)(λh=>absurd(.inr g2)h)(λh=>absurd(.inr g2)h);clear g2 RG3;go_wp2;go_ret;exact⟨by rw [<-HQ.out];rfl,HX3.out⟩
 have f2:decide(24<(D:Int))=false:=decide_eq_false(by omega);have HG2:Hid(¬(96<S∨24<D)):=λh=>h.elim HG1.out g2;clear g2 HG1
 by_cases g3:k=10
 ·have f3:(k==10)=true:=by simp [g3]
  have HQ:Hid((4:Int)=R):=HR.out 4(λh=>absurd h HG2.out)(λ_ _=>rfl)(λ_ h=>absurd(.inl g3)h)(λ_ h=>absurd(.inl g3)h);clear g3 RG3;go_wp2;go_ret;exact⟨by rw [<-HQ.out];rfl,HX3.out⟩
 have f3:(k==10)=false:=by simpa using g3
 by_cases g4:k=12
 ·have f4:(k==12)=true:=by simp [g4]
  have HQ:Hid((4:Int)=R):=HR.out 4(λh=>absurd h HG2.out)(λ_ _=>rfl)(λ_ h=>absurd(.inr(.inl g4))h)(λ_ h=>absurd(.inr(.inl g4))h);clear g3 g4 RG3;go_wp2;go_ret;exact⟨by rw [<-HQ.out];rfl,HX3.out⟩
 have f4:(k==12)=false:=by simpa using g4
 have HG4:Hid(¬k=10/\ ¬k=12):=⟨g3,g4⟩;clear g3 g4
 go_wp2_with(refine Ak.load_want(by rfl)48 _ rfl w.heap.size 0 rfl _ _ RG3 ha rfl ia ?_)
 refine Calls.mono(CF.out _ HX3.out) ?_;rintro e4 W4⟨⟨r,rfl,hr⟩,b4⟩;have HB4:Hid(Below w1.heap.size w1 W4):=HB3.out.trans(b4.mono HB3.out.size);have HX4:Hid(Below w.heap.size w W4):=(HF.out _ HB4.out).2;have HRR:Hid(r=true↔P):=hr;clear b4 CF RG3 hr HB3 HX3 p0
 cases r with
 |false=>
  have HNP:Hid(¬P):=λh=>by have:=HRR.out.2 h;cases this
  have HQ:Hid((4:Int)=R):=HR.out 4(λh=>absurd h HG2.out)(λ_ _=>rfl)(λ_ h=>absurd(.inr(.inr HNP.out))h)(λ_ h=>absurd(.inr(.inr HNP.out))h);go_wp2;go_ret;exact⟨by rw [<-HQ.out];rfl,HX4.out⟩
 |true=>
 have HNN:Hid(¬(k=10∨k=12∨ ¬P)):=λh=>by
  rcases h with h|h|h
  ·exact HG4.out.1 h
  ·exact HG4.out.2 h
  exact h(HRR.out.1(by first|rfl|trivial))
 clear HRR HG4;go_wp2
 go_loopg [3]24(λgk s3 wr=> ∃j:Nat,gk+j=24/\s3= .int .i64 j/\Hid((∀i:Nat,i<j-> ¬1<T.times(i:Int))/\Below w1.heap.size w1 wr))
 case atStart=>exact⟨0,by omega,rfl,λi h=>absurd h(by omega),HB4.out⟩
 case round=>
  obtain⟨j,hj,rfl,HJ⟩:=hrel;have NB:=(HF.out _ HJ.out.2).1
  by_cases hjn:j<24
  rotate_left
  ·have hd:decide((j:Int)<24)=false:=decide_eq_false(by omega)
   have HX:Hid(Below w.heap.size w wr):=(HF.out _ HJ.out.2).2;have HQ:Hid((0:Int)=R):=HR.out 0(λh=>absurd h HG2.out)(λ_ h=>absurd h HNN.out)(λ_ _ h=>by obtain⟨i,hi,h2⟩:=h;exact absurd h2(HJ.out.1 i(by omega)))(λ_ _ _=>rfl);clear NB;go_wp2;go_ret;exact⟨by rw [<-HQ.out];rfl,HX.out⟩
  have hd:decide((j:Int)<24)=true:=decide_eq_true(by omega);have hc:=CT.out wr j(HF.out _ HJ.out.2).2;obtain⟨q,hq⟩: ∃q,T.times(j:Int)=q:=⟨_,rfl⟩;rw [hq]at hc;have HC:Hid _:=hc;have HQJ:Hid(T.times(j:Int)=q):=hq;clear hc hq
  go_wp2_with(refine wpList_load_row rfl 48 _ rfl _ rfl 48 _(0,0)_ NB ha rfl ia ?_)
  refine Calls.mono HC.out ?_;rintro e5 W5⟨rfl,b5⟩;have HB5:Hid(Below w1.heap.size w1 W5):=HJ.out.2.trans(b5.mono HJ.out.2.size);have HX5:Hid(Below w.heap.size w W5):=(HF.out _ HB5.out).2;clear b5 NB HC
  by_cases g5:1<q
  ·have f5:decide(1<(q:Int))=true:=decide_eq_true(by omega)
   have HQ:Hid((8:Int)=R):=HR.out 8(λh=>absurd h HG2.out)(λ_ h=>absurd h HNN.out)(λ_ _ _=>rfl)(λ_ _ h=>absurd⟨j,hjn,by rw [HQJ.out];exact g5⟩h);clear g5;go_wp2;go_ret;exact⟨by rw [<-HQ.out];rfl,HX5.out⟩
  have f5:decide(1<(q:Int))=false:=decide_eq_false(by omega);have HN5:Hid(¬1<T.times(j:Int)):=by show¬_;rw [HQJ.out];exact g5
  clear g5;go_wp2;go_roundg(gk-1)
  case measure=>omega
  case rel=>
   refine⟨j+1,by omega,by go_num,λi hi=> ?_,HB5.out⟩
   by_cases e:i=j
   ·subst e;exact HN5.out
   exact HJ.out.1 i(by omega)
theorem Tryz.r19Right_any(d e:Nat)(T:Ac)(V:Ac.Vs)(w:World)(hT:Ac.Lies w w.heap.size e d V T)(hsz:T.size<=2147483647)(hF:T.All Ac.Fit):
  Calls Tryz.prog 13 #[.agg(Ac.row T V)]w λe w'=>e= .returned(.bool(Dd.webB T))/\Below w.heap.size w w':=by
 obtain⟨R,hR⟩: ∃R,Dd.webB T=R:=⟨_,rfl⟩;rw [hR];obtain⟨k,hk⟩: ∃k,T.kind=k:=⟨_,rfl⟩;obtain⟨x1,x2,x3,x4,x5,x6,x7,x8,x9,x10,x11,hrow⟩: ∃x1 x2 x3 x4 x5 x6 x7 x8 x9 x10 x11,Ac.row T V= #[.int .i64 k,x1,x2,x3,x4,x5,x6,x7,x8,x9,x10,x11]:=⟨_,_,_,_,_,_,_,_,_,_,_,by unfold Ac.row;rw [hk]⟩;obtain⟨w1,hw1⟩: ∃z,w.alloc(.cells(Ac.row T V)48)=z:=⟨_,rfl⟩;have B1:Below w.heap.size w w1:=by rw [<-hw1];exact(Below.refl _ w).alloc(Nat.le_refl _)_
 have N1:w1.heap[w.heap.size]? =some(.cells(Ac.row T V)48(0,0)):=by rw [<-hw1];exact heap_alloc_new w _
 have HC0:=Tryz.r16Check_any d e T V w1((hT.below B1).wider B1.size)hF hsz;obtain⟨c,hc⟩: ∃c,T.checkC=c:=⟨_,rfl⟩;rw [hc,hrow]at HC0;rw [hrow]at hw1 N1⊢;have HC:Hid _:=HC0;have H1:Hid _:=hw1;have HB:Hid(Below w.heap.size w w1):=B1
 have HR:Hid(R=(decide(k=13)&&decide(c=0))):=by
  show _=_;rw [<-hR,Dd.webB,hk,hc]
 have c0:w1.cell? ⟨w.heap.size,0,none⟩=some(.int .i64 k):=by simp [World.cell?,N1]
 have RG:=Ak.range_box N1;have ha:=Tryz.underlying48;have ia:(Tryz.prog.info? 48).map(·.size)=some(#[.int .i64 k,x1,x2,x3,x4,x5,x6,x7,x8,x9,x10,x11]:Array Value).size:=Ak.rinfo;clear hR hk hrow hw1 B1 HC0 hc hT hsz hF N1
 by_cases hk13:k=13
 ·have ek:(k==13)=true:=by simp [hk13]
  have HQ:Hid(R=decide(c=0)):=by show _=_;rw [HR.out,decide_eq_true hk13,Bool.true_and]
  clear hk13 HR
  go_enter Tryz.func13,Tryz.ntmps13
  go_upto_region 1 with fail
  rw [H1.out]
  go_wp2_with(refine Ak.load_want(by rfl)48 _ rfl w.heap.size 0 rfl _ _ RG ha rfl ia ?_)
  refine Calls.mono HC.out ?_;rintro e W2⟨rfl,hb2⟩;have HX:Hid(Below w.heap.size w W2):=HB.out.trans(hb2.mono HB.out.size);clear hb2 HC c0 RG;go_wp2;go_ret;exact⟨by rw [HQ.out];rfl,HX.out⟩
 have ek:(k==13)=false:=by simpa using hk13
 have HQ:Hid(R=false):=by rw [HR.out,decide_eq_false hk13,Bool.false_and];exact rfl
 clear hk13 HR HC
 go_enter Tryz.func13,Tryz.ntmps13
 go_upto_region 1 with fail
 rw [H1.out];go_wp2;go_ret;exact⟨by rw [HQ.out];rfl,HB.out⟩
theorem Dd.ended_len(ls:List(Int×Int))(s:List Int)(k:Nat)(how:Int):(Dd.ended ls s k how).length=s.length:=Dd.ended_length ls s k how
theorem Dd.fate_len(ls kk:List(Int×Int))(s:List Int)(k:Nat):(Dd.fateD ls kk s k).length=s.length:=by
 unfold Dd.fateD
 split
 ·exact Dd.ended_len _ _ _ _
 split
 ·exact Dd.ended_len _ _ _ _
 exact List.length_set
theorem Dd.oneK_len {ls kk:List(Int×Int)} {s t:List Int} : ∀n,Dd.oneK ls kk s n=some t->t.length=s.length
 |0,h=>by cases h
 |n+1,h=>by
  rw [Dd.oneK]at h
  cases hq:Dd.oneK ls kk s n with
  |some x=>rw [hq]at h;dsimp only at h;rw [<-Option.some.inj h];exact Dd.oneK_len n hq
  |none=>
   rw [hq]at h;dsimp only at h
   split at h
   ·cases h
   rw [<-Option.some.inj h];exact Dd.fate_len _ _ _ _
theorem Dd.oneK_get(ls kk:List(Int×Int))(s:List Int)(n:Nat)(h:s.length=104):((Dd.oneK ls kk s n).getD s).length=104:=by
 cases hq:Dd.oneK ls kk s n with
 |none=>exact h
 |some t=>exact(Dd.oneK_len n hq).trans h
theorem Dd.settledF_len(ls kk:List(Int×Int)): ∀(f:Nat)(s:List Int),s.length=104->(Dd.settledF ls kk f s).length=104
 |0,_,h=>h
 |f+1,s,h=>Dd.settledF_len ls kk f _(Dd.oneK_get ls kk s _ h)
theorem Tryz.r19Settled_any(x0 x1 x2 x3 x4 x5 x6 x7 x10 x11:Value)(ka la:Option Addr)(n kc m lc:Nat)(ls kk:List(Int×Int))(s:List Int)(w:World)(hL:Ac.Lks w w.heap.size la ls)(hm:ls.length=m)(h40:m<=40)
  (hK:Dd.Kid12 w w.heap.size ka kk)(hn:kk.length=n)(h64:n<=64)(hs:s.length=104):
  Calls Tryz.prog 31 #[.agg #[x0,x1,x2,x3,x4,x5,x6,x7, .slice ka n kc, .slice la m lc,x10,x11], .agg(Dd.row s)]w λe w'=>
   e= .returned(.agg(Dd.row(Dd.settledF ls kk n s)))/\Below w.heap.size w w':=by
 obtain⟨R,hR⟩: ∃R,Dd.settledF ls kk n s=R:=⟨_,rfl⟩;rw [hR];have hRl:R.length=104:=by rw [<-hR];exact Dd.settledF_len ls kk n s hs
 obtain⟨w1,hw1⟩: ∃z,(((w.alloc(.cells #[x0,x1,x2,x3,x4,x5,x6,x7, .slice ka n kc, .slice la m lc,x10,x11]48)).alloc(.cells(Dd.row s)53)).alloc(.cells Tryz.zeroCells53 53))=z:=⟨_,rfl⟩;have F1:=Dd.RFr.new w #[x0,x1,x2,x3,x4,x5,x6,x7, .slice ka n kc, .slice la m lc,x10,x11]hs;rw [hw1]at F1;have H1:Hid _:=hw1
 -- the variable x
 have NZ:(w1.alloc(.cells Tryz.zeroCells53 53)).heap[w1.heap.size]? =some(.cells Tryz.zeroCells53 53(0,0)):=heap_alloc_new w1 _;obtain⟨w2,hw2⟩: ∃z,(w1.alloc(.cells Tryz.zeroCells53 53)).setRow w1.heap.size(Dd.row s)=z:=⟨_,rfl⟩;have A2:Dd.RAt w2 w1.heap.size s:=by rw [<-hw2];exact⟨setRow_heap _ _ _ _ _ _ NZ,hs⟩
 have B2:Below w1.heap.size w1 w2:=by rw [<-hw2];exact Tk.below_row((Below.refl _ w1).alloc(Nat.le_refl _)_)(Nat.le_refl _)_
 obtain⟨xb,hxb⟩: ∃z,w1.heap.size=z:=⟨_,rfl⟩;have HXB:Hid(w1.heap.size=xb):=hxb;have H2:Hid _:=hw2;have HF:Hid(∀W,Below w1.heap.size w1 W->Dd.RFr w #[x0,x1,x2,x3,x4,x5,x6,x7, .slice ka n kc, .slice la m lc,x10,x11]s Dd.zeros W):=λW hb=>F1.below hb
 have HO:Hid(∀W(t:List Int),Below w.heap.size w W->t.length=104->Calls Tryz.prog 44 #[.agg #[x0,x1,x2,x3,x4,x5,x6,x7, .slice ka n kc, .slice la m lc,x10,x11], .agg(Dd.row t)]W λe w'=>
   e= .returned(.tuple #[.agg(Dd.row((Dd.oneK ls kk t n).getD t)), .bool(Dd.oneK ls kk t n).isSome])/\Below W.heap.size W w'):=λW t hb ht=>
  Tryz.r19one_any x0 x1 x2 x3 x4 x5 x6 x7 x10 x11 ka la n kc m lc ls kk t W((hL.keep hb.block).wider hb.size)hm h40(λi h=>by
   obtain⟨g,off,xs,q1,q2,q3,q4,q5,q6,q7⟩:=hK i h
   exact⟨g,off,xs,q1,Nat.lt_of_lt_of_le q2 hb.size,q3,q4,q5,q6,λi v hv=>by rw [hb.cell(p:=⟨g,_,none⟩)q2];exact q7 i v hv⟩)hn h64 ht
 have HN:Hid(kk.length=n/\Dd.settledF ls kk n s=R/\s.length=104):=⟨hn,hR,hs⟩
 have c8:w2.cell? ⟨w.heap.size,8,none⟩=some(.slice ka n kc):=by
  have h:=(F1.below B2).bx;unfold Dd.RBx at h;simp [World.cell?,h]
 have HB2:Hid(Below w1.heap.size w1 w2/\Dd.RAt w2 xb s):=⟨B2,by rw [<-hxb];exact A2⟩;have NS1:=F1.st.h;have ha:=Tryz.underlying48;have hu:=Tryz.underlying53;have ia:(Tryz.prog.info? 48).map(·.size)=some(#[x0,x1,x2,x3,x4,x5,x6,x7, .slice ka n kc, .slice la m lc,x10,x11]:Array Value).size:=Ak.rinfo;have is:=Dd.rinfo_row hs;have zs:(Tryz.zeroCells53).size=(Dd.row s).size:=by rw [Dd.rzero_row,Dd.row_size,Dd.row_size,hs,Dd.zeros_length]
 have os:=Dd.row_one s;have HZR:Hid(R.length=104):=hRl;clear hL hm hK hn hs hR hw1 F1 hw2 A2 B2 hxb hRl
 go_enter Tryz.func31,Tryz.ntmps31
 go_upto_region 1 with fail
 rw [H1.out];clear H1
 go_upto_region 2 with(first
  |refine wpList_load_row rfl 53 _ rfl _ rfl 53(Dd.row s)(0,0)_ NS1 hu rfl is ?_
  |refine wpList_store_row rfl 53 _ _ rfl w1.heap.size(Dd.row s)rfl rfl 53 _ NZ is zs os ?_)
 rw [H2.out,HXB.out];clear NS1 NZ H2 is zs os;go_wp2
 go_loopg [6,7,12]n(λgk _ _ s12 wr=> ∃(j:Nat)(t:List Int),gk+j=n/\s12= .int .i64 j/\t.length=104/\Hid(Dd.settledF ls kk gk t=R/\Below w1.heap.size w1 wr/\Dd.RAt wr xb t))
 case atStart=>exact⟨0,s,by omega,rfl,HN.out.2.2,HN.out.2.1,HB2.out.1,HB2.out.2⟩
 case round=>
  obtain⟨j,t,hj,rfl,ht,HJ⟩:=hrel;clear c8;have FR:=HF.out wr HJ.out.2.1
  by_cases hlt:j<n
  rotate_left
  ·have hd:decide((j:Int)<n)=false:=decide_eq_false(by omega)
   have HTR:Hid(t=R):=by
    have h:=HJ.out.1;rw [show gk=0 by omega,Dd.settledF]at h;exact h
   have NT:=HJ.out.2.2.h;have NR:=FR.rs.h;have it:=Dd.rinfo_row ht;have zt:(Dd.row Dd.zeros).size=(Dd.row t).size:=by rw [Dd.row_size,Dd.row_size,ht,Dd.zeros_length]
   have ot:=Dd.row_one t;have HX:Hid(Below w.heap.size w wr):=FR.bel;clear FR HJ
   go_wp2_with(first
    |refine wpList_load_row rfl 53 _ rfl _ rfl 53(Dd.row t)(0,0)_ NT hu rfl it ?_
    |refine wpList_store_row rfl 53 _ _ rfl(w.heap.size+1+1)(Dd.row t)rfl rfl 53 _ NR it zt ot ?_)
   refine bodyPost_ret(v:= .agg(Dd.row t))(results_cell_row Tryz.results31 _ _(w.heap.size+1+1)53(Dd.row t)(0,0)_ rfl(setRow_heap _ _ _ _ _ _ NR)hu rfl it)rfl⟨?_,Tk.below_row HX.out(by omega)_⟩;rw [HTR.out]
  have hd:decide((j:Int)<n)=true:=decide_eq_true(by omega);have NA:=FR.bx;unfold Dd.RBx at NA;have NT:=HJ.out.2.2.h;have it:=Dd.rinfo_row ht;have hcall:=HO.out wr t FR.bel ht;obtain⟨O,hO⟩: ∃O,Dd.oneK ls kk t n=O:=⟨_,rfl⟩;obtain⟨y,hy⟩: ∃y,O.getD t=y:=⟨_,rfl⟩;obtain⟨q,hq⟩: ∃q,O.isSome=q:=⟨_,rfl⟩;have hyl:y.length=104:=by rw [<-hy,<-hO];exact Dd.oneK_get ls kk t n ht
  rw [hO,hy,hq]at hcall;have HC:Hid _:=hcall
  have HSF:Hid(Dd.settledF ls kk(gk-1)y=R):=by
   show _=_;have h:=HJ.out.1;obtain⟨g,hg⟩: ∃g,gk=g+1:=⟨gk-1,by omega⟩;rw [hg,Dd.settledF,HN.out.1,hO,hy]at h;rw [hg];exact h
  have HQ:Hid(q=false->y=t):=λh=>by
   rw [<-hy];rw [<-hq]at h
   cases O with
   |none=>rfl
   |some z=>cases h
  have HB4:Hid(Below w1.heap.size w1 wr/\Dd.RAt wr xb t):=HJ.out.2;have iy:=Dd.rinfo_row hyl;have zy:(Tryz.zeroCells53).size=(Dd.row y).size:=by rw [Dd.rzero_row,Dd.row_size,Dd.row_size,hyl,Dd.zeros_length]
  have ey:(Dd.row t).size=(Dd.row y).size:=by rw [Dd.row_size,Dd.row_size,hyl,ht]
  have oy:=Dd.row_one y;clear hO hy hq FR HJ hcall
  go_upto_region 4 with fail
  go_wp2_with(first
   |refine wpList_load_row rfl 48 _ rfl _ rfl 48 _(0,0)_ NA ha rfl ia ?_
   |refine wpList_load_row rfl 53 _ rfl _ rfl 53(Dd.row t)(0,0)_ NT hu rfl it ?_)
  refine Calls.mono HC.out ?_;rintro e W3⟨rfl,b3⟩;have HB5:Hid(Below w1.heap.size w1 W3/\Dd.RAt W3 xb t):=⟨HB4.out.1.trans(b3.mono HB4.out.1.size),HB4.out.2.below b3 HB4.out.2.lt⟩;have NY:(W3.alloc(.cells Tryz.zeroCells53 53)).heap[W3.heap.size]? =some(.cells Tryz.zeroCells53 53(0,0)):=heap_alloc_new W3 _;obtain⟨W4,hW4⟩: ∃z,(W3.alloc(.cells Tryz.zeroCells53 53)).setRow W3.heap.size(Dd.row y)=z:=⟨_,rfl⟩;have B4:Below W3.heap.size W3 W4:=by rw [<-hW4];exact Tk.below_row((Below.refl _ W3).alloc(Nat.le_refl _)_)(Nat.le_refl _)_
  have NW:W4.heap[W3.heap.size]? =some(.cells(Dd.row y)53(0,0)):=by rw [<-hW4];exact setRow_heap _ _ _ _ _ _ NY
  have HB6:Hid(Below w1.heap.size w1 W4/\Dd.RAt W4 xb t):=⟨HB5.out.1.trans(B4.mono HB5.out.1.size),HB5.out.2.below B4 HB5.out.2.lt⟩;obtain⟨yb,hyb⟩: ∃z,W3.heap.size=z:=⟨_,rfl⟩;have HYB:Hid(W3.heap.size=yb):=hyb;rw [hyb]at NW;have HW4:Hid _:=hW4;clear b3 B4 hW4 hyb HC NA NT HB4 HB5
  go_upto_region 5 with(refine wpList_store_row rfl 53 _ _ rfl W3.heap.size(Dd.row y)rfl rfl 53 _ NY iy zy oy ?_)
  rw [HW4.out,HYB.out];clear HW4 HYB NY;have NX:=HB6.out.2.h
  have HXL:Hid(w1.heap.size<=xb):=by
   have h:=HXB.out;show _<=_;omega
  cases q with
  |true=>
   have HNX:Hid(Below w1.heap.size w1(W4.setRow xb(Dd.row y))/\Dd.RAt(W4.setRow xb(Dd.row y))xb y):=⟨Tk.below_row HB6.out.1 HXL.out _,HB6.out.2.setRow hyl⟩
   go_wp2_with(first
    |refine wpList_load_row rfl 53 _ rfl _ rfl 53(Dd.row y)(0,0)_ NW hu rfl iy ?_
    |refine wpList_store_row rfl 53 _ _ rfl xb(Dd.row y)rfl rfl 53 _ NX iy ey oy ?_)
   go_roundg(gk-1)
   case measure=>omega
   case rel=>exact⟨j+1,y,by omega,by go_num,hyl,HSF.out,HNX.out.1,HNX.out.2⟩
  |false=>
   have HYT:Hid(y=t):=HQ.out(by first|rfl|trivial);have HSF2:Hid(Dd.settledF ls kk(gk-1)t=R):=by show _=_;rw [<-HYT.out];exact HSF.out
   clear NX NW;go_wp2;go_roundg(gk-1)
   case measure=>omega
   case rel=>exact⟨j+1,t,by omega,by go_num,ht,HSF2.out,HB6.out.1,HB6.out.2⟩
theorem Tryz.r19Start_any(x0 x1 x2 x3 x4 x5 x6 x7 x10 x11:Value)(ka la:Option Addr)(n kc m lc:Nat)(ls kk:List(Int×Int))(w:World)(hL:Ac.Lks w w.heap.size la ls)(hm:ls.length=m)(h40:m<=40)
  (hK:Dd.Kid12 w w.heap.size ka kk)(hn:kk.length=n)(h64:n<=64):
  Calls Tryz.prog 16 #[.agg #[x0,x1,x2,x3,x4,x5,x6,x7, .slice ka n kc, .slice la m lc,x10,x11]]w λe w'=>
   e= .returned(.agg(Dd.row(Dd.settledF ls kk n(Dd.left ls Dd.zeros(-1)1))))/\Below w.heap.size w w':=by
 obtain⟨Lo,hLo⟩: ∃z,Dd.outsD ls(-1)=z:=⟨_,rfl⟩;obtain⟨S,hS⟩: ∃S,Dd.left ls Dd.zeros(-1)1=S:=⟨_,rfl⟩;have hSl:S.length=104:=by rw [<-hS,Dd.left_length];exact Dd.zeros_length
 have hSL:Dd.setL 1 Lo Dd.zeros=S:=by rw [<-hLo,<-hS];exact Dd.setL_left ls(-1)1 Dd.zeros
 obtain⟨R,hR⟩: ∃R,Dd.settledF ls kk n S=R:=⟨_,rfl⟩;rw [hS,hR];have hRl:R.length=104:=by rw [<-hR];exact Dd.settledF_len ls kk n S hSl
 obtain⟨r,hr⟩: ∃r,Lo.length=r:=⟨_,rfl⟩
 have hlt40: ∀i(h:i<Lo.length),Lo[i]<40:=λi h=>by
  have:=Dd.outs_lt(ls:=ls)(kid:= -1)(i:=Lo[i])(by rw [hLo];exact List.getElem_mem h);omega
 have hr40:r<=40:=by
  have h:=List.length_filter_le(λi=>decide(((ls[i]?).map Prod.fst)=some(-1:Int)))(List.range ls.length);rw [List.length_range]at h;have h3:(Dd.outsD ls(-1)).length=r:=by rw [hLo];exact hr
  unfold Dd.outsD at h3;omega
 obtain⟨w1,hw1⟩: ∃z,(w.alloc(.cells #[x0,x1,x2,x3,x4,x5,x6,x7, .slice ka n kc, .slice la m lc,x10,x11]48)).alloc(.cells Tryz.zeroCells53 53)=z:=⟨_,rfl⟩;have h0:Dd.RBx(w.alloc(.cells #[x0,x1,x2,x3,x4,x5,x6,x7, .slice ka n kc, .slice la m lc,x10,x11]48))w.heap.size #[x0,x1,x2,x3,x4,x5,x6,x7, .slice ka n kc, .slice la m lc,x10,x11]:=heap_alloc_new w _;have hz:=Dd.RAt.new(w.alloc(.cells #[x0,x1,x2,x3,x4,x5,x6,x7, .slice ka n kc, .slice la m lc,x10,x11]48))Dd.zeros_length;rw [show(w.alloc(.cells #[x0,x1,x2,x3,x4,x5,x6,x7, .slice ka n kc, .slice la m lc,x10,x11]48)).heap.size=w.heap.size+1 by simp,<-Dd.rzero_row,hw1]at hz;have h2:Dd.RBx w1 w.heap.size #[x0,x1,x2,x3,x4,x5,x6,x7, .slice ka n kc, .slice la m lc,x10,x11]:=by rw [<-hw1];exact h0.keep(Below.heap_alloc _ _ _ h0.lt)
 have B1:Below w.heap.size w w1:=by rw [<-hw1];exact((Below.refl _ w).alloc(Nat.le_refl _)_).alloc(by simp)_
 have H1:Hid _:=hw1
 -- the variable s
 have NZ:(w1.alloc(.cells Tryz.zeroCells53 53)).heap[w1.heap.size]? =some(.cells Tryz.zeroCells53 53(0,0)):=heap_alloc_new w1 _;obtain⟨w2,hw2⟩: ∃z,(w1.alloc(.cells Tryz.zeroCells53 53)).setRow w1.heap.size Tryz.zeroCells53=z:=⟨_,rfl⟩;have A2:Dd.RAt w2 w1.heap.size Dd.zeros:=by rw [<-hw2,Dd.rzero_row];exact⟨setRow_heap _ _ _ _ _ _(heap_alloc_new w1 _),Dd.zeros_length⟩
 have B2:Below w1.heap.size w1 w2:=by rw [<-hw2];exact Tk.below_row((Below.refl _ w1).alloc(Nat.le_refl _)_)(Nat.le_refl _)_
 obtain⟨xb,hxb⟩: ∃z,w1.heap.size=z:=⟨_,rfl⟩;have HXB:Hid(w1.heap.size=xb):=hxb;have H2:Hid _:=hw2;have HF:Hid(∀W,Below w1.heap.size w1 W->Dd.RBx W w.heap.size #[x0,x1,x2,x3,x4,x5,x6,x7, .slice ka n kc, .slice la m lc,x10,x11]/\Dd.RAt W(w.heap.size+1)Dd.zeros/\Below w.heap.size w W):=λW hb=>⟨h2.below hb h2.lt,hz.below hb hz.lt,B1.trans(hb.mono B1.size)⟩;have HB2:Hid(Below w1.heap.size w1 w2/\Dd.RAt w2 xb Dd.zeros):=⟨B2,by rw [<-hxb];exact A2⟩
 have CU:Hid(∀W,Below w.heap.size w W->Calls Tryz.prog 30 #[.agg #[x0,x1,x2,x3,x4,x5,x6,x7, .slice ka n kc, .slice la m lc,x10,x11], .int .i64(-1)]W λe w'=>Nt.Gives Lo W e w'):=λW hb=>by
  have h:=Tryz.r19Outs_any x0 x1 x2 x3 x4 x5 x6 x7(.slice ka n kc)x10 x11 la m lc ls(-1)W((hL.keep hb.block).wider hb.size)hm(by omega);rw [hLo]at h;exact h
 have CS:Hid(∀W,Below w.heap.size w W->Calls Tryz.prog 31 #[.agg #[x0,x1,x2,x3,x4,x5,x6,x7, .slice ka n kc, .slice la m lc,x10,x11], .agg(Dd.row S)]W λe w'=>e= .returned(.agg(Dd.row R))/\Below W.heap.size W w'):=λW hb=>by
  rw [<-hR]
  exact Tryz.r19Settled_any x0 x1 x2 x3 x4 x5 x6 x7 x10 x11 ka la n kc m lc ls kk S W((hL.keep hb.block).wider hb.size)hm h40(λi h=>by
   obtain⟨g,off,xs,q1,q2,q3,q4,q5,q6,q7⟩:=hK i h
   exact⟨g,off,xs,q1,Nat.lt_of_lt_of_le q2 hb.size,q3,q4,q5,q6,λi v hv=>by rw [hb.cell(p:=⟨g,_,none⟩)q2];exact q7 i v hv⟩)hn h64 hSl
 have HLo:Hid(Lo.length=r/\(∀i(h:i<Lo.length),Lo[i]<40)/\Dd.setL 1 Lo Dd.zeros=S):=⟨hr,hlt40,hSL⟩;have NA:=(h2.below B2 h2.lt);unfold Dd.RBx at NA;have ha:=Tryz.underlying48;have hu:=Tryz.underlying53;have ia:(Tryz.prog.info? 48).map(·.size)=some(#[x0,x1,x2,x3,x4,x5,x6,x7, .slice ka n kc, .slice la m lc,x10,x11]:Array Value).size:=Ak.rinfo;have iz:(Tryz.prog.info? 53).map(·.size)=some(Tryz.zeroCells53).size:=by rw [Dd.rzero_row];exact Dd.rinfo_row Dd.zeros_length
 have oz:(Tryz.zeroCells53).all(·.oneCell')=true:=by rw [Dd.rzero_row];exact Dd.row_one _
 have iS:=Dd.rinfo_row hSl;have iR:=Dd.rinfo_row hRl;have oR:=Dd.row_one R;have eR:(Dd.row Dd.zeros).size=(Dd.row R).size:=by rw [Dd.row_size,Dd.row_size,hRl,Dd.zeros_length]
 clear hL hm hK hn hLo hS hSL hR hr hlt40 hw1 h0 hz h2 B1 hw2 A2 B2 hxb hRl
 go_enter Tryz.func16,Tryz.ntmps16
 go_upto_region 1 with fail
 rw [H1.out];clear H1
 go_upto_region 2 with(refine wpList_store_row rfl 53 _ _ rfl w1.heap.size Tryz.zeroCells53 rfl rfl 53 _ NZ iz rfl oz ?_)
 rw [H2.out,HXB.out];clear NZ H2 iz oz
 go_wp2_with(refine wpList_load_row rfl 48 _ rfl _ rfl 48 _(0,0)_ NA ha rfl ia ?_)
 refine Calls.mono(CU.out _(HF.out _ HB2.out.1).2.2) ?_;rintro e W3⟨v3,rfl,how,hb3⟩;rw [HLo.out.1]at how;obtain⟨ra,rc,rfl⟩:=Rk.own_shape how;have HOW:Hid(W3.ownsRow w2.heap.size 3 1(.slice ra r rc)Lo.length(Rk.nums Lo)):=by show World.ownsRow _ _ _ _ _ _ _;rw [HLo.out.1];exact how
 have HW3:Hid(Below w1.heap.size w1 W3/\Dd.RAt W3 xb Dd.zeros/\xb<w2.heap.size):=⟨HB2.out.1.trans(hb3.mono HB2.out.1.size),HB2.out.2.below hb3 HB2.out.2.lt,HB2.out.2.lt⟩;clear how hb3 NA CU;go_wp2
 go_loopg [5,10]r(λgk _ s10 wr=> ∃q:Nat,gk+q=r/\s10= .int .i64 q/\Hid(Below w1.heap.size w1 wr/\Dd.RAt wr xb(Dd.setL 1(Lo.take q)Dd.zeros)/\ ∀b,b≠xb->wr.heap[b]? =W3.heap[b]?))
 case atStart=>exact⟨0,by omega,rfl,HW3.out.1,HW3.out.2.1,λ_ _=>rfl⟩
 case round=>
  obtain⟨q,hq,rfl,HQ⟩:=hrel
  by_cases hlt:q<r
  ·have hd:decide((q:Int)<r)=true:=decide_eq_true(by omega)
   have hql:q<Lo.length:=by rw [HLo.out.1];exact hlt
   obtain⟨g,off,rfl,hg,cq⟩:=Dd.own_from HOW.out q hql;obtain⟨z,hz⟩: ∃z,Lo[q]=z:=⟨_,rfl⟩;have hz40:=HLo.out.2.1 q hql;rw [hz]at cq hz40;have hgx:g≠xb:=by have:=HW3.out.2.2;omega
   have cq2:wr.cell? ⟨g,off+q,none⟩=some(.int .i64 z):=by rw [World.cell?_of_block(w:=W3)(HQ.out.2.2 g hgx)];exact cq
   have hf:=HQ.out.2.1.frozen z;have hcz:=HQ.out.2.1.cell z(by omega);have z0:(0:Int)<=z:=by omega
   have z1:(z:Int)<40:=by omega
   have q0:(0:Int)<=q:=by omega
   have q1:(q:Int)<r:=by omega
   have HNX:Hid(Below w1.heap.size w1(wr.setCell⟨xb,z,none⟩(.int .i64 1))/\Dd.RAt(wr.setCell⟨xb,z,none⟩(.int .i64 1))xb(Dd.setL 1(Lo.take(q+1))Dd.zeros)/\ ∀b,b≠xb->(wr.setCell⟨xb,z,none⟩(.int .i64 1)).heap[b]? =W3.heap[b]?):=by
    refine⟨HQ.out.1.setCell(p:=⟨xb,z,none⟩)(by have:=HXB.out;show w1.heap.size<=xb;omega)_, ?_,λb hb=>(Below.heap_setCell _ _ _ _ hb).trans(HQ.out.2.2 b hb)⟩;rw [List.take_succ_eq_append_getElem hql,hz,Dd.setL_snoc];exact HQ.out.2.1.put z 1
   clear cq hz hgx HQ hg;go_wp2;go_roundg(gk-1)
   case measure=>omega
   case rel=>exact⟨q+1,by omega,by go_num,HNX.out⟩
  have hd:decide((q:Int)<r)=false:=decide_eq_false(by omega)
  have HSX:Hid(Dd.RAt wr xb S):=by
   have h:=HQ.out.2.1;rw [List.take_of_length_le(by rw [HLo.out.1];omega),HLo.out.2.2]at h;exact h
  have FR:=HF.out wr HQ.out.1;have NA:=FR.1;unfold Dd.RBx at NA;have NS:=HSX.out.h;have HBW:Hid(Below w1.heap.size w1 wr):=HQ.out.1;have HCS:Hid _:=CS.out wr FR.2.2;clear FR HQ HOW
  go_wp2_with(first
   |refine wpList_load_row rfl 48 _ rfl _ rfl 48 _(0,0)_ NA ha rfl ia ?_
   |refine wpList_load_row rfl 53 _ rfl _ rfl 53(Dd.row S)(0,0)_ NS hu rfl iS ?_)
  refine Calls.mono HCS.out ?_;rintro e W6⟨rfl,b6⟩;have FR:=HF.out _(HBW.out.trans(b6.mono HBW.out.size));have NR:=FR.2.1.h;have HX:Hid(Below w.heap.size w W6):=FR.2.2;clear FR b6 NA NS HCS
  go_wp2_with(refine wpList_store_row rfl 53 _ _ rfl(w.heap.size+1)(Dd.row R)rfl rfl 53 _ NR iR eR oR ?_)
  exact bodyPost_ret(v:= .agg(Dd.row R))(results_cell_row Tryz.results16 _ _(w.heap.size+1)53(Dd.row R)(0,0)_ rfl(setRow_heap _ _ _ _ _ _ NR)hu rfl iR)rfl⟨rfl,Tk.below_row HX.out(by omega)_⟩
end Go.Proofs
