import Derived.Test.YtmomffminkflnaaGreatDoorRDdCtx
import Derived.Test.YtmomffminkflnaaGreatDoorRows
import Derived.OpenShut
set_option maxRecDepth 100000
set_option maxHeartbeats 32000000
namespace Go.Proofs
open Go.RowKit
def Dd.lks (s:List Int):List Value:=Dd.ints (s.take 40)
def Dd.kds (s:List Int):List Value:=Dd.ints (s.drop 40)
theorem Dd.fit_of {T:Ac}(h:Dd.Small T):T.Fit:=
 have dp:∀x:Tm,x.size<=1000->x.size<=2147483647/\x.depth<=1000:=λx hx=>⟨by omega,by have:=x.depth_le_size;omega⟩
 ⟨dp _ h.t,λx hx=>dp _ (h.c x hx),λx hx=>dp _ (h.n x hx),λx hx=>dp _ (h.f x hx),by have:=h.cl;omega,by have:=h.kl;omega,by have:=h.ll;omega,by have:=h.nl;omega,by have:=h.fl;omega⟩
theorem Dd.fin_run {ls kk:List (Int×Int)}(hw:Dd.Web ls kk){s:List Int}(h:Dd.Inv ls kk s){k:Nat}(hk:k<kk.length)(h1:s.getD (40+k) 0=1):Dd.finR true ls kk s k=if Dd.gateB kk k=true then(Dd.zeros,6)else(Dd.finished ls kk s k,0):=by
 have hc:Dd.checkI true kk.length ls.length s=0:=by unfold Dd.checkI;rw[if_pos rfl,if_pos (h.ok hw)]
 have hr:Dd.runsB kk.length s k=true:=by
  unfold Dd.runsB;rw[show((k:Int)).toNat=k by omega,decide_eq_true (show(0:Int)<=k by omega),decide_eq_true (show(k:Int)<kk.length by omega),decide_eq_true h1];rfl
 unfold Dd.finR;rw[hc,if_neg (by decide),hr,show((k:Int)).toNat=k by omega]
 by_cases hg:Dd.gateB kk k=true
 ·rw[if_pos (.inr hg),if_pos hg]
 rw[if_neg (by rintro(e|e);cases e;exact hg e),if_neg hg]
theorem Dd.cho_run {ls kk:List (Int×Int)}(hw:Dd.Web ls kk){s:List Int}(h:Dd.Inv ls kk s){k:Nat}(hk:k<kk.length)(h1:s.getD (40+k) 0=1)(hg:Dd.gateB kk k=true){o:Nat}(ho:o<ls.countP λx=>decide (x.1=(k:Int))):∃c:Nat,(ls[c]?).map Prod.fst=some (k:Int)/\Dd.choR true ls kk s k o=(Dd.chose ls kk s k c,0):=by
 have hc:Dd.checkI true kk.length ls.length s=0:=by unfold Dd.checkI;rw[if_pos rfl,if_pos (h.ok hw)]
 have hr:Dd.runsB kk.length s k=true:=by
  unfold Dd.runsB;rw[show((k:Int)).toNat=k by omega,decide_eq_true (show(0:Int)<=k by omega),decide_eq_true (show(k:Int)<kk.length by omega),decide_eq_true h1];rfl
 obtain⟨c,hl,hm⟩:=Dd.linkAt_some k ls 0 o (by omega) (by omega);refine⟨c,hm, ?_⟩;rw[Nat.zero_add]at hl;unfold Dd.choR;rw[hc,if_neg (by decide),hr,show((k:Int)).toNat=k by omega,hg,if_neg (by simp),hl,if_neg (by omega),show((c:Int)).toNat=c by omega]
theorem Dd.run_run {ls kk:List (Int×Int)}(hw:Dd.Web ls kk){s:List Int}(h:Dd.Inv ls kk s):Dd.runL true kk.length ls.length s=Dd.running kk.length s:=by
 unfold Dd.runL Dd.checkI;rw[if_pos rfl,if_pos (h.ok hw),if_neg (by decide)]
theorem Dd.own_at {w:World}{B n c:Nat}{a:Option Addr}{l:List Nat}(h:w.ownsRow B 3 1 (.slice a n c) l.length (Rk.nums l))(j:Nat)(hj:j<l.length):∃g off,a=some ⟨g,off,none⟩/\g<w.heap.size/\w.cell? ⟨g,off+j,none⟩=some (.int .i64 l[j]):=by
 rcases h with⟨hl,⟨_,hn⟩|⟨g,cap,cur,hv,hB,hg,h4,h5,h6,h7⟩⟩
 ·omega
 obtain⟨rfl,_,_⟩:=Value.slice.inj hv;refine⟨g,0,rfl,(Array.getElem?_eq_some_iff.1 hg).1, ?_⟩;rw[Nat.zero_add];simp only[World.cell?,hg];have h8:(Rk.nums l)[j]? =some (.int .i64 l[j]):=by simp[Rk.nums,hj]
 rw[<-h7,List.getElem?_take]at h8
 split at h8
 ·rw[Array.getElem?_toList]at h8;exact h8
 simp at h8
end Go.Proofs
namespace Go.Proofs
open Go.RowKit Go.Shelf
structure Dd.RFr (w:World)(xs:Array Value)(l r:List Int)(W:World):Prop where
 bx:Dd.RBx W w.heap.size xs
 st:Dd.RAt W (w.heap.size+1) l
 rs:Dd.RAt W (w.heap.size+1+1) r
 bel:Below w.heap.size w W
theorem Dd.RFr.new (w:World)(xs:Array Value){l:List Int}(h:l.length=104):Dd.RFr w xs l Dd.zeros (((w.alloc (.cells xs 48)).alloc (.cells (Dd.row l) 53)).alloc (.cells Tryz.zeroCells53 53)):=by
 have h0:Dd.RBx (w.alloc (.cells xs 48)) w.heap.size xs:=heap_alloc_new w _;have h1:=Dd.RAt.new (w.alloc (.cells xs 48)) h;have h2:=Dd.RAt.new ((w.alloc (.cells xs 48)).alloc (.cells (Dd.row l) 53)) Dd.zeros_length;rw[Dd.rzero_row];rw[show(w.alloc (.cells xs 48)).heap.size=w.heap.size+1 by simp]at h1;rw[show((w.alloc (.cells xs 48)).alloc (.cells (Dd.row l) 53)).heap.size=w.heap.size+1+1 by simp]at h2;refine⟨(h0.keep (Below.heap_alloc _ _ _ h0.lt)).keep (Below.heap_alloc _ _ _ (by simp;omega)),h1.keep (Below.heap_alloc _ _ _ h1.lt),h2, ?_⟩;exact(((Below.refl _ w).alloc (Nat.le_refl _) _).alloc (by simp) _).alloc (by simp;omega) _
theorem Dd.RFr.below {w W W':World}{xs:Array Value}{l r:List Int}(h:Dd.RFr w xs l r W)(hb:Below W.heap.size W W'):Dd.RFr w xs l r W':=
 ⟨h.bx.below hb h.bx.lt,h.st.below hb h.st.lt,h.rs.below hb h.rs.lt,h.bel.trans (hb.mono h.bel.size)⟩
def Dd.setL (how:Int)(L:List Nat)(s:List Int):List Int:=L.foldl (λx k=>x.set k how) s
theorem Dd.setL_len (how:Int):∀(L:List Nat) (s:List Int),(Dd.setL how L s).length=s.length
 | [],_=>rfl
 |k::r,s=>by
  show(Dd.setL how r (s.set k how)).length=_;rw[Dd.setL_len how r,List.length_set]
theorem Dd.setL_snoc (how:Int)(L:List Nat)(k:Nat)(s:List Int):Dd.setL how (L++ [k]) s=(Dd.setL how L s).set k how:=by
 unfold Dd.setL;rw[List.foldl_append];rfl
theorem Dd.setL_outs (ls:List (Int×Int))(kid how:Int)(s:List Int):∀k,k<=ls.length->Dd.setL how (Dd.outsU ls kid k) s=Dd.leftK ls kid how k s
 |0,_=>rfl
 |k+1,hk=>by
  have ih:=Dd.setL_outs ls kid how s k (by omega);obtain⟨x,hx⟩:∃x,ls[k]? =some x:=⟨ls[k],List.getElem?_eq_getElem (by omega)⟩;obtain⟨a,b⟩:=x;rw[Dd.outsU_step ls kid k a b hx,Dd.leftK,hx]
  by_cases e:a=kid
  ·rw[if_pos e,Dd.setL_snoc,ih,if_pos (by rw[e];rfl)]
  rw[if_neg e,List.append_nil,ih,if_neg (show¬(Option.map Prod.fst (some (a,b))=some kid)from λh=>e (Option.some.inj h))]
theorem Dd.setL_left (ls:List (Int×Int))(kid how:Int)(s:List Int):Dd.setL how (Dd.outsD ls kid) s=Dd.left ls s kid how:=Dd.setL_outs ls kid how s ls.length (Nat.le_refl _)
theorem Dd.outs_lt {ls:List (Int×Int)}{kid:Int}{i:Nat}(h:i∈Dd.outsD ls kid):i<ls.length:=List.mem_range.1 (List.mem_filter.1 h).1
def Dd.Kid12 (w:World)(B:Nat)(ka:Option Addr)(kk:List (Int×Int)):Prop:=
 ∀i (h:i<kk.length),∃(g off:Nat) (xs:Array Value),ka=some ⟨g,off,none⟩/\g<B/\xs.size=12/\xs.all (·.oneCell')=true/\xs[0]? =some (.int .i64 kk[i].1)/\xs[2]? =some (.int .i64 kk[i].2)/\w.rangeAt g (off+i*12) xs.toList
end Go.Proofs
namespace Go.Proofs
namespace Ac
theorem numbered_kind {T:Ac}(h:T.Numbered):1<=T.kind/\T.kind<=14:=by unfold Numbered at h;omega
theorem formed_kind {T:Ac}(h:T.Formed):1<=T.kind/\T.kind<=14:=by
 unfold Formed at h
 rcases h with h|h|h|h|h|h|h|h|h|h|h|h|h|h|h<;>(have:=h.1;omega)
theorem formed_gate {T:Ac}(h:T.Formed)(hk:T.kind=12):1<=T.a/\T.a<=4:=by
 by_cases ha:T.a=3
 ·omega
 have:=(formed_12b hk ha).1 h;omega
theorem formD_gate {T:Ac}(h:T.FormD)(hk:T.kind=12):1<=T.a/\T.a<=4:=by
 have:=h.2.2.1;unfold Numbered at this;omega
theorem holds_iff {T:Ac}(hk:∀k∈T.ks,1<=k.kind/\k.kind<=14):T.holdsB=true↔∀k∈T.ks,kidBadD T.kind k.kind=false:=by
 unfold holdsB;rw[Bool.not_eq_true',List.any_eq_false]
 have e:∀k∈T.ks,(¬kidBad T.kind k.kind=true↔kidBadD T.kind k.kind=false):=λk hkm=>by
  have:=hk k hkm;rw[Bool.not_eq_true];unfold kidBad kidBadD;rw[decide_eq_false_iff_not]
  by_cases h1:k.kind=13∨k.kind=14
  ·rw[if_pos h1];simp;omega
  rw[if_neg h1]
  by_cases h2:k.kind=12
  ·rw[if_pos h2]
   by_cases h3:T.kind=13
   ·simp[h3];omega
   simp[h3];omega
  rw[if_neg h2];rw[show(k.kind==10)=decide (k.kind=10)from rfl,show(T.kind==9)=decide (T.kind=9)from rfl]
  by_cases h3:k.kind=10
  ·by_cases h4:T.kind=9
   ·rw[decide_eq_true h3,decide_eq_true h4];exact⟨λ_=>by omega,λ_=>by decide⟩
   rw[decide_eq_true h3,decide_eq_false h4];exact⟨λh=>absurd h (by decide),λh=>absurd (by omega) h⟩
  by_cases h4:T.kind=9
  ·rw[decide_eq_false h3,decide_eq_true h4];exact⟨λh=>absurd h (by decide),λh=>absurd (by omega) h⟩
  rw[decide_eq_false h3,decide_eq_false h4];exact⟨λ_=>by omega,λ_=>by decide⟩
 exact⟨λh k hkm=>(e k hkm).1 (h k hkm),λh k hkm=>(e k hkm).2 (h k hkm)⟩
theorem linked_iff {T:Ac}(hk:∀k∈T.ks,k.kind=12->1<=k.a/\k.a<=4):T.linkedB=true↔1<=T.ks.length/\T.LinkD:=by
 have hcover:∀(h:∀i (h:i<T.ks.length),kidD T.ks[i].kind T.ks[i].a T.ks[i].cs.length (inN T.ls i) (outN T.ls i)=true),∀i,i<T.ks.length->1<=inN T.ls i:=λh i hi=>by
  have h1:=h i hi;have h2:=hk T.ks[i] (List.getElem_mem hi);unfold kidD at h1
  split at h1
  ·rename_i h12
   have h2:=h2 h12
   split at h1
   ·rw[Bool.and_eq_true,decide_eq_true_iff]at h1;omega
   split at h1
   ·rw[Bool.and_eq_true,decide_eq_true_iff]at h1;omega
   split at h1
   ·rw[Bool.and_eq_true,decide_eq_true_iff]at h1;omega
   omega
  rw[Bool.and_eq_true,decide_eq_true_iff]at h1;omega
 have cvt:∀(f:Int×Int->Int) (k:Nat),(T.ls.countP λl=>decide (f l+1=((k+1:Nat):Int)))=T.ls.countP λl=>decide (f l=(k:Int)):=λf k=>by
  congr 1
  funext l
  by_cases e:f l=(k:Int)
  ·rw[decide_eq_true e,decide_eq_true (by omega)]
  rw[decide_eq_false e,decide_eq_false (by omega)]
 have cvo:∀(f:Int×Int->Int),(T.ls.countP λl=>decide (f l+1=((0:Nat):Int)))=T.ls.countP λl=>decide (f l= -1):=λf=>by
  congr 1
  funext l
  by_cases e:f l= -1
  ·rw[decide_eq_true e,decide_eq_true (by omega)]
  rw[decide_eq_false e,decide_eq_false (by omega)]
 have j0:T.joinedAt 0=(decide (inN T.ls (-1)=1)&&decide (outN T.ls (-1)=1)):=by
  unfold joinedAt;rw[insL_at _ _ _ (by omega),outsL_at _ _ _ (by omega),cvo (λl=>l.2),cvo (λl=>l.1)];show joinedB 0 0 0 ((T.ls.countP λl=>decide (l.2= -1):Nat):Int) ((T.ls.countP λl=>decide (l.1= -1):Nat):Int)=_;unfold joinedB inN outN;rw[if_neg (by decide)]
  congr 1<;>(rw[decide_eq_decide];omega)
 have j1:∀i (h:i<T.ks.length),T.joinedAt (i+1)=kidD T.ks[i].kind T.ks[i].a T.ks[i].cs.length (inN T.ls i) (outN T.ls i):=λi hi=>by
  unfold joinedAt;rw[insL_at _ _ _ (by omega),outsL_at _ _ _ (by omega),cvt (λl=>l.2) i,cvt (λl=>l.1) i];have:T.around[i+1]? =some T.ks[i]:=by simp[around,hi]
  rw[this];show joinedB T.ks[i].kind T.ks[i].a T.ks[i].cs.length ((inN T.ls i:Nat):Int) ((outN T.ls i:Nat):Int)=_;unfold joinedB kidD
  by_cases h12:T.ks[i].kind=12
  ·have h2:=hk T.ks[i] (List.getElem_mem hi) h12
   rw[if_pos h12,if_pos h12]
   by_cases a1:T.ks[i].a=1
   ·rw[if_pos a1,if_pos a1]
   rw[if_neg a1,if_neg a1]
   by_cases a3:T.ks[i].a=3
   ·rw[if_pos a3,if_pos a3]
   rw[if_neg a3,if_neg a3,if_pos (by omega)]
  rw[if_neg h12,if_neg h12]
 unfold linkedB LinkD;simp only[Bool.and_eq_true,decide_eq_true_iff,Bool.not_eq_true',decide_eq_false_iff_not]
 constructor
 ·rintro⟨⟨⟨⟨h1,h2⟩,h3⟩,h4⟩,h5⟩
  have h4:=List.all_eq_true.1 h4;have k0:=h4 0 (List.mem_range.2 (by omega));rw[j0,Bool.and_eq_true,decide_eq_true_iff,decide_eq_true_iff]at k0
  have k1:∀i (h:i<T.ks.length),kidD T.ks[i].kind T.ks[i].a T.ks[i].cs.length (inN T.ls i) (outN T.ls i)=true:=λi hi=>by
   rw[<-j1 i hi];exact h4 (i+1) (List.mem_range.2 (by omega))
  have h6:=Dd.cover T.ks.length T.ls (hcover k1);have h7:=List.countP_le_length (p:=λl:Int×Int=>decide (0<=l.2/\l.2<(T.ks.length:Int))) (l:=T.ls);exact⟨by omega,h3,⟨k0.1,k0.2,h2,by omega⟩,k1,h5⟩
 rintro⟨h1,h3,⟨k0,k0',h2,h64⟩,k1,h5⟩;refine⟨⟨⟨⟨by omega,h2⟩,h3⟩,List.all_eq_true.2 λi hi=> ?_⟩,h5⟩;have hi:=List.mem_range.1 hi
 cases i with
 |zero=>rw[j0,k0,k0'];rfl
 |succ i=>rw[j1 i (by omega)];exact k1 i (by omega)
theorem same1_iff {S T:Ac} :Same1 S T↔S.kind=T.kind/\S.node=T.node/\S.a=T.a/\S.b=T.b/\S.t=T.t/\S.cs=T.cs/\S.ls=T.ls/\S.ns=T.ns/\S.fs=T.fs:=Iff.rfl
theorem form_iff {T:Ac}(hk:∀k∈T.ks,(1<=k.kind/\k.kind<=14)/\(k.kind=12->1<=k.a/\k.a<=4)):T.FormD↔T.Formed:=by
 have hh:=holds_iff (T:=T) λk hkm=>(hk k hkm).1;have hl:=linked_iff (T:=T) λk hkm=>(hk k hkm).2;have z:T.t=.mk 0 0 []↔Nt.zeroB T.t=true:=Nt.zero_iff T.t;unfold FormD;rw[<-hh]
 by_cases hr:T.kind<1∨14<T.kind
 ·constructor
  ·rintro⟨_,_,h,_⟩;have:=numbered_kind h;omega
  intro h;have:=formed_kind h;omega
 have hkk:T.kind=1∨T.kind=2∨T.kind=3∨T.kind=4∨T.kind=5∨T.kind=6∨T.kind=7∨T.kind=8∨T.kind=9∨T.kind=10∨T.kind=11∨T.kind=12∨T.kind=13∨T.kind=14:=by omega
 obtain⟨H,hH⟩:=pE (T.holdsB);obtain⟨L,hL⟩:=pE (T.linkedB);obtain⟨D,hD⟩:=pE (T.LinkD);rw[hL,hD]at hl;rw[hH];clear hh hk
 rcases hkk with hK|hK|hK|hK|hK|hK|hK|hK|hK|hK|hK|hK|hK|hK
 ·rw[formed_1 hK,hH]
  unfold Bare Numbered Conds;rw[hD];clear hH hL hD hr;obtain⟨K,N,A,B,t,cs,ks,ls,ns,fs⟩:=T;obtain rfl:K=1:=hK;simp[hasNodeB,hasA,hasB',hasC,hasK,rest,zeroOf,same1_iff,kind,node,a,b,Ac.t,Ac.cs,Ac.ks,Ac.ls,Ac.ns,Ac.fs]at z hl⊢
  grind
 ·rw[formed_2 hK,hH]
  unfold Bare Numbered Conds;rw[hD];clear hH hL hD hr;obtain⟨K,N,A,B,t,cs,ks,ls,ns,fs⟩:=T;obtain rfl:K=2:=hK;simp[hasNodeB,hasA,hasB',hasC,hasK,rest,zeroOf,same1_iff,kind,node,a,b,Ac.t,Ac.cs,Ac.ks,Ac.ls,Ac.ns,Ac.fs]at z hl⊢
  grind
 ·rw[formed_3 hK,hH]
  unfold Bare Numbered Conds;rw[hD];clear hH hL hD hr;obtain⟨K,N,A,B,t,cs,ks,ls,ns,fs⟩:=T;obtain rfl:K=3:=hK;simp[hasNodeB,hasA,hasB',hasC,hasK,rest,zeroOf,same1_iff,kind,node,a,b,Ac.t,Ac.cs,Ac.ks,Ac.ls,Ac.ns,Ac.fs]at z hl⊢
  grind
 ·rw[formed_4 hK,hH]
  unfold Bare Numbered Conds;rw[hD];clear hH hL hD hr;obtain⟨K,N,A,B,t,cs,ks,ls,ns,fs⟩:=T;obtain rfl:K=4:=hK;simp[hasNodeB,hasA,hasB',hasC,hasK,rest,zeroOf,same1_iff,kind,node,a,b,Ac.t,Ac.cs,Ac.ks,Ac.ls,Ac.ns,Ac.fs]at z hl⊢
  grind
 ·rw[formed_5 hK,hH]
  unfold Bare Numbered Conds;rw[hD];clear hH hL hD hr;obtain⟨K,N,A,B,t,cs,ks,ls,ns,fs⟩:=T;obtain rfl:K=5:=hK;simp[hasNodeB,hasA,hasB',hasC,hasK,rest,zeroOf,same1_iff,kind,node,a,b,Ac.t,Ac.cs,Ac.ks,Ac.ls,Ac.ns,Ac.fs]at z hl⊢
  grind
 ·rw[formed_6 hK,hH]
  unfold Bare Numbered Conds;rw[hD];clear hH hL hD hr;obtain⟨K,N,A,B,t,cs,ks,ls,ns,fs⟩:=T;obtain rfl:K=6:=hK;simp[hasNodeB,hasA,hasB',hasC,hasK,rest,zeroOf,same1_iff,kind,node,a,b,Ac.t,Ac.cs,Ac.ks,Ac.ls,Ac.ns,Ac.fs]at z hl⊢
  grind
 ·rw[formed_7 hK,hH]
  unfold Bare Numbered Conds;rw[hD];clear hH hL hD hr;obtain⟨K,N,A,B,t,cs,ks,ls,ns,fs⟩:=T;obtain rfl:K=7:=hK;simp[hasNodeB,hasA,hasB',hasC,hasK,rest,zeroOf,same1_iff,kind,node,a,b,Ac.t,Ac.cs,Ac.ks,Ac.ls,Ac.ns,Ac.fs]at z hl⊢
  grind
 ·rw[formed_8 hK,hH]
  unfold Bare Numbered Conds;rw[hD];clear hH hL hD hr;obtain⟨K,N,A,B,t,cs,ks,ls,ns,fs⟩:=T;obtain rfl:K=8:=hK;simp[hasNodeB,hasA,hasB',hasC,hasK,rest,zeroOf,same1_iff,kind,node,a,b,Ac.t,Ac.cs,Ac.ks,Ac.ls,Ac.ns,Ac.fs]at z hl⊢
  grind
 ·rw[formed_9 hK,hH]
  unfold Bare Numbered Conds;rw[hD];clear hH hL hD hr;obtain⟨K,N,A,B,t,cs,ks,ls,ns,fs⟩:=T;obtain rfl:K=9:=hK;simp[hasNodeB,hasA,hasB',hasC,hasK,rest,zeroOf,same1_iff,kind,node,a,b,Ac.t,Ac.cs,Ac.ks,Ac.ls,Ac.ns,Ac.fs]at z hl⊢
  grind
 ·rw[formed_10 hK,hH]
  unfold Bare Numbered Conds;rw[hD];clear hH hL hD hr;obtain⟨K,N,A,B,t,cs,ks,ls,ns,fs⟩:=T;obtain rfl:K=10:=hK;simp[hasNodeB,hasA,hasB',hasC,hasK,rest,zeroOf,same1_iff,kind,node,a,b,Ac.t,Ac.cs,Ac.ks,Ac.ls,Ac.ns,Ac.fs]at z hl⊢
  grind
 ·rw[formed_11 hK,hH]
  unfold Bare Numbered Conds;rw[hD];clear hH hL hD hr;obtain⟨K,N,A,B,t,cs,ks,ls,ns,fs⟩:=T;obtain rfl:K=11:=hK;simp[hasNodeB,hasA,hasB',hasC,hasK,rest,zeroOf,same1_iff,kind,node,a,b,Ac.t,Ac.cs,Ac.ks,Ac.ls,Ac.ns,Ac.fs]at z hl⊢
  grind
 ·by_cases ha:T.a=3
  ·rw[formed_12a hK ha,hH]
   unfold Bare Numbered Conds;rw[hD];clear hH hL hD hr;obtain⟨K,N,A,B,t,cs,ks,ls,ns,fs⟩:=T;obtain rfl:K=12:=hK;obtain rfl:A=3:=ha;simp[hasNodeB,hasA,hasB',hasC,hasK,rest,zeroOf,same1_iff,kind,node,a,b,Ac.t,Ac.cs,Ac.ks,Ac.ls,Ac.ns,Ac.fs]at z hl⊢
   grind
  rw[formed_12b hK ha,hH];unfold Bare Numbered Conds;rw[hD];clear hH hL hD hr;obtain⟨K,N,A,B,t,cs,ks,ls,ns,fs⟩:=T;obtain rfl:K=12:=hK;replace ha:¬A=3:=ha;simp[hasNodeB,hasA,hasB',hasC,hasK,rest,zeroOf,same1_iff,kind,node,a,b,Ac.t,Ac.cs,Ac.ks,Ac.ls,Ac.ns,Ac.fs,ha]at z hl⊢
  grind
 ·rw[formed_13 hK,hH,hL]
  unfold Bare Numbered Conds;rw[hD];clear hH hL hD hr;obtain⟨K,N,A,B,t,cs,ks,ls,ns,fs⟩:=T;obtain rfl:K=13:=hK;simp[hasNodeB,hasA,hasB',hasC,hasK,rest,zeroOf,same1_iff,kind,node,a,b,Ac.t,Ac.cs,Ac.ks,Ac.ls,Ac.ns,Ac.fs]at z hl⊢
  grind
 rw[formed_14 hK,hH];unfold Bare Numbered Conds;rw[hD];clear hH hL hD hr;obtain⟨K,N,A,B,t,cs,ks,ls,ns,fs⟩:=T;obtain rfl:K=14:=hK;simp[hasNodeB,hasA,hasB',hasC,hasK,rest,zeroOf,same1_iff,kind,node,a,b,Ac.t,Ac.cs,Ac.ks,Ac.ls,Ac.ns,Ac.fs]at z hl⊢
 grind
end Ac
end Go.Proofs
namespace Go.Proofs
open Go.RowKit
namespace Ac
mutual
def times (i:Int):Ac->Nat|mk k n _ _ _ _ ks _ _ _=>(if hasNodeB k=true/\n=i then 1 else 0)+timess i ks
def timess (i:Int):List Ac->Nat| []=>0|k::r=>times i k+timess i r
end
theorem times_eq (i:Int)(T:Ac):T.times i=(if hasNodeB T.kind=true/\T.node=i then 1 else 0)+timess i T.ks:=by cases T;rfl
theorem timess_snoc (i:Int)(l:List Ac)(a:Ac):timess i (l++ [a])=timess i l+a.times i:=by
 induction l with
 |nil=>simp[timess]
 |cons k r ih=>simp only[List.cons_append,timess,ih];omega
theorem timess_take (i:Int)(l:List Ac)(k:Nat)(h:k<l.length):timess i (l.take (k+1))=timess i (l.take k)+l[k].times i:=by rw[take_snoc l k h,timess_snoc]
mutual
theorem times_le (i:Int):∀T:Ac,T.times i<=T.size
 |mk k n _ _ _ _ ks _ _ _=>by
  rw[times,size];have:=timess_le i ks
  split<;>omega
theorem timess_le (i:Int):∀l:List Ac,timess i l<=sizes l
 | []=>by simp[timess,sizes]
 |k::r=>by rw[timess,sizes];have:=times_le i k;have:=timess_le i r;omega
end
def mark (bs:List Bool)(i:Nat):Nat:=if bs[i]? =some true then 1 else 0
theorem mark_le (bs:List Bool)(i:Nat):mark bs i<=1:=by unfold mark;split<;>omega
mutual
theorem go_times:∀(T:Ac) (bs:List Bool),bs.length=24->T.All NodeOk->
  (((T.go enterS bs).1=true↔∀i,i<24->mark bs i+T.times (i:Int)<=1)/\((T.go enterS bs).1=true->(T.go enterS bs).2.length=24/\∀i,i<24->mark (T.go enterS bs).2 i=mark bs i+T.times (i:Int)))
 |mk k n a b t c ks l x y,bs,hb,hN=>by
  obtain⟨hN1,hN2⟩:=hN;obtain⟨q,s1,hq⟩:∃q s1,enterS (mk k n a b t c ks l x y) bs=(q,s1):=⟨_,_,rfl⟩
  have hs:q=true->s1.length=24/\∀i,i<24->mark s1 i=mark bs i+(if hasNodeB k=true/\n=(i:Int)then 1 else 0):=λhqt=>by
   unfold enterS at hq;change (if hasNodeB k=true then(!((bs[n.toNat]?).getD true),bs.set n.toNat true)else(true,bs))=(q,s1)at hq
   by_cases hk:hasNodeB k=true
   rotate_left
   ·rw[if_neg hk]at hq
    obtain⟨h1,h2⟩:=Prod.mk.inj hq;refine⟨by rw[<-h2];exact hb,λi hi=> ?_⟩;rw[if_neg (λh=>hk h.1),Nat.add_zero,h2]
   rw[if_pos hk]at hq;obtain⟨h1,h2⟩:=Prod.mk.inj hq;have hn:=hN1 hk;have hnn:n=(n.toNat:Int):=by have:0<=n:=hn.1;omega
   have hlt:n.toNat<24:=by have:n<24:=hn.2;omega
   refine⟨by rw[<-h2,List.length_set];exact hb,λi hi=> ?_⟩
   have h1':(bs[n.toNat]?).getD true=false:=by
    rw[hqt]at h1;have h1:(!((bs[n.toNat]?).getD true))=true:=h1;simpa using h1
   have hget:bs[n.toNat]? =some false:=by
    rw[List.getElem?_eq_getElem (by omega)]at h1'⊢;simpa using h1'
   rw[<-h2];unfold mark;show(if(bs.set n.toNat true)[i]? =some true then 1 else 0)=_
   by_cases e:n.toNat=i
   ·subst e
    rw[List.getElem?_set_self (by omega),if_pos rfl,hget,if_neg (by simp),if_pos ⟨hk,hnn⟩]
   rw[List.getElem?_set_ne e];have:¬(hasNodeB k=true/\n=(i:Int)):=λh=>e (by have:=h.2;omega);rw[if_neg this,Nat.add_zero]
  have hf:q=false->∃i,i<24/\mark bs i=1/\hasNodeB k=true/\n=(i:Int):=λhqf=>by
   unfold enterS at hq;change (if hasNodeB k=true then(!((bs[n.toNat]?).getD true),bs.set n.toNat true)else(true,bs))=(q,s1)at hq
   by_cases hk:hasNodeB k=true
   ·rw[if_pos hk]at hq
    obtain⟨h1,h2⟩:=Prod.mk.inj hq;have hn:=hN1 hk;have hnn:n=(n.toNat:Int):=by have:0<=n:=hn.1;omega
    have hlt:n.toNat<24:=by have:n<24:=hn.2;omega
    refine⟨n.toNat,hlt, ?_,hk,hnn⟩;rw[hqf]at h1;have h1:(!((bs[n.toNat]?).getD true))=false:=h1;unfold mark;rw[List.getElem?_eq_getElem (by omega)]at h1⊢;rw[if_pos];simpa using h1
   rw[if_neg hk]at hq;obtain⟨h1,h2⟩:=Prod.mk.inj hq;rw[hqf]at h1
   cases h1
  rw[go,hq];dsimp only
  cases q with
  |false=>
   rw[if_neg (by simp)];obtain⟨i,hi,hm,hk,hn⟩:=hf rfl;refine⟨⟨λh=>by simp at h,λh=> ?_⟩,λh=>by simp at h⟩;have:=h i hi;rw[times,if_pos ⟨hk,hn⟩]at this;omega
  |true=>
   obtain⟨h1,h2⟩:=hs rfl;obtain⟨i1,i2⟩:=goes_times ks s1 h1 hN2;rw[if_pos rfl];refine⟨i1.trans ?_,λh=>⟨(i2 h).1,λi hi=> ?_⟩⟩
   ·constructor
    ·intro h i hi
     have:=h i hi;rw[h2 i hi]at this;rw[times];omega
    intro h i hi;have:=h i hi;rw[times]at this;rw[h2 i hi];omega
   rw[(i2 h).2 i hi,h2 i hi,times];omega
theorem goes_times : ∀ (ks : List Ac) (bs : List Bool), bs.length = 24 -> Alls NodeOk ks ->
    (((goes enterS ks bs).1 = true ↔ ∀ i, i < 24 -> mark bs i + timess (i : Int) ks <= 1) /\ ((goes enterS ks bs).1 = true -> (goes enterS ks bs).2.length = 24 /\ ∀ i, i < 24 -> mark (goes enterS ks bs).2 i = mark bs i + timess (i : Int) ks))
  | [], bs, hb, _ => by
    rw [goes];refine ⟨⟨λ_ i _ => by rw [timess]; have := mark_le bs i; omega, λ_ => rfl⟩, λ_ => ⟨hb, λi _ => by rw [timess]; rfl⟩⟩
  | k :: r, bs, hb, hN => by
    obtain ⟨i1, i2⟩ := go_times k bs hb hN.1;rw [goes]
    by_cases h : (go enterS k bs).1 = true
    · rw [if_pos h]
      obtain ⟨h1, h2⟩ := i2 h;obtain ⟨j1, j2⟩ := goes_times r _ h1 hN.2;refine ⟨j1.trans ?_, λhh => ⟨(j2 hh).1, λi hi => ?_⟩⟩
      · constructor
        · intro hh i hi
          have := hh i hi;rw [h2 i hi] at this;rw [timess];omega
        intro hh i hi;have := hh i hi;rw [timess] at this;rw [h2 i hi];omega
      rw [(j2 hh).2 i hi, h2 i hi, timess];omega
    rw [if_neg h];refine ⟨⟨λhh => by simp at hh, λhh => ?_⟩, λhh => by simp at hh⟩
    exfalso
    refine h (i1.2 λi hi => ?_);have := hh i hi;rw [timess] at this;omega
end
theorem twice_iff {T:Ac}(h:T.All NodeOk):T.twiceB=true↔∃i:Nat,i<24/\1<T.times (i:Int):=by
 have h1:=(go_times T (List.replicate 24 false) (by simp) h).1
 have hm:∀i,mark (List.replicate 24 false) i=0:=λi=>by
  unfold mark;rw[if_neg];intro h2;have:=List.mem_of_getElem? h2;simp at this
 unfold twiceB;rw[Bool.not_eq_true',<-Bool.not_eq_true,h1]
 constructor
 ·intro hh
  by_cases q:∃i:Nat,i<24/\1<T.times (i:Int)
  ·exact q
  exfalso
  refine hh λi hi=> ?_;rw[hm];have:¬1<T.times (i:Int):=λh2=>q ⟨i,hi,h2⟩;omega
 rintro⟨i,hi,h2⟩ hh;have:=hh i hi;rw[hm]at this;omega
theorem mem_alls {P:Ac->Prop} :∀{l:List Ac},Alls P l->∀k∈l,P k
 |k::r,h,x,hx=>by
  rcases List.mem_cons.1 hx with rfl|hx
  ·have:=h.1;rw[all_eq]at this;exact this.1
  exact mem_alls h.2 x hx
theorem kid_ok {T:Ac}(h:T.FormD∨T.Formed):(1<=T.kind/\T.kind<=14)/\(T.kind=12->1<=T.a/\T.a<=4):=by
 rcases h with h|h
 ·exact⟨numbered_kind h.2.2.1,formD_gate h⟩
 exact⟨formed_kind h,formed_gate h⟩
mutual
theorem form_all:∀T:Ac,T.All FormD↔T.All Formed
 |mk k n a b t c ks l x y=>by
  have hk:=forms_all ks;rw[All,All,hk]
  constructor
  ·rintro⟨h1,h2⟩
   exact⟨(form_iff (T:=mk k n a b t c ks l x y) λz hz=>kid_ok (.inl (mem_alls (hk.2 h2) z hz))).1 h1,h2⟩
  rintro⟨h1,h2⟩;exact⟨(form_iff (T:=mk k n a b t c ks l x y) λz hz=>kid_ok (.inr (mem_alls h2 z hz))).2 h1,h2⟩
theorem forms_all:∀l:List Ac,Alls FormD l↔Alls Formed l
 | []=>Iff.rfl
 |k::r=>by rw[Alls,Alls,form_all k,forms_all r]
end
mutual
theorem form_go2:∀(T:Ac) (s:Unit),T.All Formed->(T.go stepF s).1=true
 |mk k n a b t c ks l x y,s,h=>by
  rw[go,if_pos (show((mk k n a b t c ks l x y).stepF s).1=true from(formB_iff _).2 h.1)];exact forms_go2 ks _ h.2
theorem forms_go2:∀(l:List Ac) (s:Unit),Alls Formed l->(goes stepF l s).1=true
 | [],_,_=>rfl
 |k::r,s,h=>by
  rw[goes,if_pos (show(go stepF k s).1=true from form_go2 k s h.1)];exact forms_go2 r _ h.2
end
theorem form_go {T:Ac}(s:Unit)(h:T.All Formed):(T.go stepF s).1=true:=form_go2 T s h
noncomputable def docC (T:Ac):Int:=by classical exact if 96<T.size∨24<T.depth then 2 else if T.kind=10∨T.kind=12∨¬T.All FormD then 4 else if∃i:Nat,i<24/\1<T.times (i:Int)then 8 else 0
theorem doc_check (T:Ac):T.docC=T.checkC:=by
 unfold docC checkC tooB;have ht:(!decide (T.depth<=24/\T.size<=96))=true↔(96<T.size∨24<T.depth):=by simp;omega
 by_cases h1:96<T.size∨24<T.depth
 ·rw[if_pos h1,if_pos (ht.2 h1)]
 rw[if_neg h1,if_neg (λh=>h1 (ht.1 h))]
 have hg:(T.go stepF ()).1=false↔¬T.All FormD:=by
  rw[form_all]
  constructor
  ·intro h h2
   rw[form_go () h2]at h
   cases h
  intro h
  cases hq:(T.go stepF ()).1 with
  |false=>rfl
  |true=>exact absurd (go_form T () hq) h
 by_cases h2:T.kind=10∨T.kind=12∨¬T.All FormD
 ·have hc:T.kind=10∨T.kind=12∨(T.go stepF ()).1=false:=by rw[hg];exact h2
  rw[if_pos h2,if_pos hc]
 have hc:¬(T.kind=10∨T.kind=12∨(T.go stepF ()).1=false):=by rw[hg];exact h2
 rw[if_neg h2,if_neg hc];have hall:T.All FormD:=Classical.not_not.1 λh=>h2 (.inr (.inr h));have hn:T.All NodeOk:=all_mono formed_node T ((form_all T).1 hall);have:=twice_iff hn
 by_cases h3:∃i:Nat,i<24/\1<T.times (i:Int)
 ·rw[if_pos h3,if_pos (this.2 h3)]
 rw[if_neg h3,if_neg (λh=>h3 (this.1 h))]
end Ac
end Go.Proofs
namespace Go.Proofs.YtmomffminkflnaaGreatDoor
open Go.ChangeShapes Go.WideShapes Go.ChangeAt Go.RowKit
theorem gOps:Tryz.prog.globalNamed "treenail/term.operators" =some 0:=by kernel_rfl
theorem gOpsType:(Tryz.prog.globals[0]?).map (·.type)=some 158:=by kernel_rfl
theorem cellsOps:Tryz.prog.cellsOf 158=75:=by kernel_rfl
theorem cellsOp:Tryz.prog.cellsOf 157=5:=by kernel_rfl
theorem cellsInt':Tryz.prog.cellsOf 3=1:=by kernel_rfl
theorem cellsString':Tryz.prog.cellsOf 9=1:=by kernel_rfl
theorem list5' {α:Type}{l:List α}(h:l.length=5):∃a b c d e,l= [a,b,c,d,e]:=by
 match l,h with
 | [a,b,c,d,e],_=>exact⟨a,b,c,d,e,rfl⟩
theorem op_one {H:Type}{enc:TypeId×Value->H}{W:World}{base:Nat}{sp:Nat->Bool}{held:Bool}{fuel:Nat}{cs:List Value}{x:DataW H×List MemPlace}{t:List UInt8}{n1 n2 n3 n4:Int}
  (h:DataW.trod enc Tryz.prog W base sp held fuel 157 cs=some x) (hx:x.1=.agg [.lit (.string t),.lit (.int .i64 n1),.lit (.int .i64 n2),.lit (.int .i64 n3),.lit (.int .i64 n4)]):
  cs= [.string ⟨t.toArray⟩,.int .i64 n1,.int .i64 n2,.int .i64 n3,.int .i64 n4]:=by
 obtain⟨ys,n,_,hx',hl,hy,hf⟩:=DataW.trod_struct Tryz.underlying157 h;rw[cellsOp]at hl;have hy:ys.length=5:=hy;obtain⟨c0,c1,c2,c3,c4,rfl⟩:=list5' hl;obtain⟨y0,y1,y2,y3,y4,rfl⟩:=list5' hy;have g0:DataW.trod enc Tryz.prog W base sp held n 9 (([c0,c1,c2,c3,c4].drop 0).take (Tryz.prog.cellsOf 9))= [y0,y1,y2,y3,y4][0]? :=hf 0 _ rfl;have g1:DataW.trod enc Tryz.prog W base sp held n 3 (([c0,c1,c2,c3,c4].drop 1).take (Tryz.prog.cellsOf 3))= [y0,y1,y2,y3,y4][1]? :=hf 1 _ rfl;have g2:DataW.trod enc Tryz.prog W base sp held n 3 (([c0,c1,c2,c3,c4].drop 2).take (Tryz.prog.cellsOf 3))= [y0,y1,y2,y3,y4][2]? :=hf 2 _ rfl;have g3:DataW.trod enc Tryz.prog W base sp held n 3 (([c0,c1,c2,c3,c4].drop 3).take (Tryz.prog.cellsOf 3))= [y0,y1,y2,y3,y4][3]? :=hf 3 _ rfl;have g4:DataW.trod enc Tryz.prog W base sp held n 3 (([c0,c1,c2,c3,c4].drop 4).take (Tryz.prog.cellsOf 3))= [y0,y1,y2,y3,y4][4]? :=hf 4 _ rfl;rw[cellsString']at g0;rw[cellsInt']at g1 g2 g3 g4;obtain⟨s,e0,d0,_⟩:=DataW.trod_string Tryz.underlying9 g0;obtain⟨m1,e1,d1,_⟩:=DataW.trod_int Tryz.underlying3 g1;obtain⟨m2,e2,d2,_⟩:=DataW.trod_int Tryz.underlying3 g2;obtain⟨m3,e3,d3,_⟩:=DataW.trod_int Tryz.underlying3 g3;obtain⟨m4,e4,d4,_⟩:=DataW.trod_int Tryz.underlying3 g4;obtain rfl:c0=.string s:=(List.cons.inj e0).1;obtain rfl:c1=.int .i64 m1:=(List.cons.inj e1).1
 obtain rfl:c2=.int .i64 m2:=(List.cons.inj e2).1;obtain rfl:c3=.int .i64 m3:=(List.cons.inj e3).1;obtain rfl:c4=.int .i64 m4:=(List.cons.inj e4).1;rw[hx']at hx;rw[d0,d1,d2,d3,d4]at hx;simp only[List.map_cons,List.map_nil,DataW.agg.injEq,List.cons.injEq,DataW.lit.injEq,Lit.int.injEq,Lit.string.injEq,and_true,true_and]at hx;obtain⟨rfl,rfl,rfl,rfl,rfl⟩:=hx;rfl
theorem ops_of_laid {W:World}(h:laidMet Tryz.prog [("treenail/term.operators",Rows.laid_treenail_term_operators)] W):Tk.Ops W:=by
 obtain⟨ps,⟨g',t',cs,fuel,p,q,hg',ht',hvar,hd,_,_⟩,_⟩:=h;obtain rfl:=Option.some.inj (gOps.symm.trans hg');obtain rfl:=Option.some.inj (gOpsType.symm.trans ht');obtain⟨xs,m,rfl,hx,hl,hxl,hf⟩:=DataW.trod_array Tryz.underlying158 hd;rw[cellsOps]at hl;simp only[cellsOp]at hf;have hx1:=congrArg Prod.fst hx;have hlen:xs.length=15:=hxl;simp only[Rows.laid_treenail_term_operators,DataW.agg.injEq]at hx1
 have row:∀(i:Nat) (t:List UInt8) (n1 n2 n3 n4:Int),i<15->(xs.map (·.1))[i]? =some (.agg [.lit (.string t),.lit (.int .i64 n1),.lit (.int .i64 n2),.lit (.int .i64 n3),.lit (.int .i64 n4)])->
   (cs.toList.drop (i*5)).take 5= [.string ⟨t.toArray⟩,.int .i64 n1,.int .i64 n2,.int .i64 n3,.int .i64 n4]:=by
  intro i t n1 n2 n3 n4 hi hL;obtain⟨x,hxi⟩:∃x,xs[i]? =some x:=⟨xs[i]'(by omega),List.getElem?_eq_getElem (by omega)⟩;rw[List.getElem?_map,hxi]at hL;exact op_one (x:=x) ((hf i hi).trans hxi) (by simpa using hL)
 have step:∀n,cs.toList.drop n=(cs.toList.drop n).take 5++cs.toList.drop (n+5):=λn=>by
  have:=(List.take_append_drop 5 (cs.toList.drop n)).symm;rw[List.drop_drop]at this;exact this
 have r0:=row 0 [] 0 0 0 0 (by decide) (by rw[<-hx1];rfl);have r1:=row 1 [] 0 0 1099511627776 1 (by decide) (by rw[<-hx1];rfl);have r2:=row 2 [36] 0 0 3 1 (by decide) (by rw[<-hx1];rfl);have r3:=row 3 [110,101,103] 1 1 0 1 (by decide) (by rw[<-hx1];rfl);have r4:=row 4 [110,111,116] 1 2 0 2 (by decide) (by rw[<-hx1];rfl);have r5:=row 5 [97,100,100] 2 1 0 1 (by decide) (by rw[<-hx1];rfl);have r6:=row 6 [115,117,98] 2 1 0 1 (by decide) (by rw[<-hx1];rfl);have r7:=row 7 [109,117,108] 2 1 0 1 (by decide) (by rw[<-hx1];rfl);have r8:=row 8 [100,105,118] 2 1 0 1 (by decide) (by rw[<-hx1];rfl);have r9:=row 9 [109,111,100] 2 1 0 1 (by decide) (by rw[<-hx1];rfl);have r10:=row 10 [101,113] 2 1 0 2 (by decide) (by rw[<-hx1];rfl);have r11:=row 11 [108,116] 2 1 0 2 (by decide) (by rw[<-hx1];rfl);have r12:=row 12 [108,101] 2 1 0 2 (by decide) (by rw[<-hx1];rfl);have r13:=row 13 [97,110,100] 2 2 0 2 (by decide) (by rw[<-hx1];rfl);have r14:=row 14 [111,114] 2 2 0 2 (by decide) (by rw[<-hx1];rfl)
 have hca:cs=Tk.opVals:=by
  apply Array.toList_inj.1;have h0:cs.toList=cs.toList.drop 0:=rfl;have h75:cs.toList.drop 75= []:=List.drop_eq_nil_iff.2 (by omega);rw[h0,step 0,step 5,step 10,step 15,step 20,step 25,step 30,step 35,step 40,step 45,step 50,step 55,step 60,step 65,step 70,h75];have q0:(cs.toList.drop 0).take 5=_:=r0;have q1:(cs.toList.drop 5).take 5=_:=r1;have q2:(cs.toList.drop 10).take 5=_:=r2;have q3:(cs.toList.drop 15).take 5=_:=r3;have q4:(cs.toList.drop 20).take 5=_:=r4;have q5:(cs.toList.drop 25).take 5=_:=r5;have q6:(cs.toList.drop 30).take 5=_:=r6;have q7:(cs.toList.drop 35).take 5=_:=r7;have q8:(cs.toList.drop 40).take 5=_:=r8;have q9:(cs.toList.drop 45).take 5=_:=r9;have q10:(cs.toList.drop 50).take 5=_:=r10;have q11:(cs.toList.drop 55).take 5=_:=r11;have q12:(cs.toList.drop 60).take 5=_:=r12;have q13:(cs.toList.drop 65).take 5=_:=r13;have q14:(cs.toList.drop 70).take 5=_:=r14;rw[q0,q1,q2,q3,q4,q5,q6,q7,q8,q9,q10,q11,q12,q13,q14];rfl
 subst hca;simp only[World.var?,gOps,Option.bind_some]at hvar
 split at hvar
 ·rename_i cs' t fz hh
  obtain rfl:=Option.some.inj hvar;exact⟨t,fz,hh⟩
 cases hvar
end Go.Proofs.YtmomffminkflnaaGreatDoor
