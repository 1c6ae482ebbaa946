import Derived.Test.YtmomffminkflnaaGreatDoorRAcLists
import Derived.Great.BuildSlice
set_option maxRecDepth 100000
set_option maxHeartbeats 32000000
namespace Go.Proofs
open Go.RowKit Go.Shelf
theorem Rk.enters_goes: ∀args w,(callFunc 131 args).run Tryz.prog w= .ok(.enter 131 args)w:=enters_of Tryz.func131(by kernel_rfl)rfl
theorem Rk.enters_round: ∀args w,(callFunc 107 args).run Tryz.prog w= .ok(.enter 107 args)w:=enters_of Tryz.func107(by kernel_rfl)rfl
noncomputable def Rk.backB(es:List(Nat×Nat))(i:Nat)(x:Int×Int):Bool:=decide(x.2=(i:Int))&&Rk.met es i x.1.toNat
theorem Rk.back_any(es:List(Nat×Nat))(i:Nat):(Rk.up es).any(Rk.backB es i)=Rk.lead es i i:=by
 rw [Bool.eq_iff_iff,Rk.lead_iff,List.any_eq_true]
 constructor
 ·rintro⟨x,hx,h⟩
  obtain⟨e,he,rfl⟩:=List.mem_map.1 hx;simp only [Rk.backB,Bool.and_eq_true,decide_eq_true_eq,Int.toNat_natCast,Rk.met_iff]at h;have h2:e.2=i:=by omega
  exact⟨e.1,h.2,by rw [<-h2];exact he⟩
 rintro⟨b,h,m⟩;refine⟨((b:Int),(i:Int)),List.mem_map.2⟨(b,i),m,rfl⟩, ?_⟩;simp [Rk.backB,Rk.met_iff,h]
theorem Rk.goes_pred(bi bm g n i:Nat)(es:List(Nat×Nat))(w:World)(hes: ∀e,e∈es->e.1<n/\e.2<n)(hbi:bi<w.heap.size)(hbm:bm<w.heap.size)(hci:w.cell? ⟨bi,0,none⟩=some(.int .i64 i))(hcm:w.cell? ⟨bm,0,none⟩=some(.slice(some⟨g,0,none⟩)n n))
  (hb:Rq.Bits w g((List.range n).map(Rk.met es i))):Rk.Pred 131 #[.pointer(some⟨bi,0,none⟩), .pointer(some⟨bm,0,none⟩)](Rk.backB es i)(Rk.up es)w:=by
 intro W x y hxy hW;show Calls Tryz.prog 131 #[.agg #[.int .i64 x, .int .i64 y], .pointer(some⟨bi,0,none⟩), .pointer(some⟨bm,0,none⟩)]W _;obtain⟨e,he,hee⟩:=List.mem_map.1 hxy;obtain⟨x,y⟩:=e;simp only [Prod.mk.injEq]at hee;obtain⟨rfl,rfl⟩:=hee;obtain⟨hx,hy⟩:x<n/\y<n:=hes _ he;have B0:Hid(Below w.heap.size w(W.alloc(.cells #[.int .i64 x, .int .i64 y]128))):=hW.alloc hW.size _;have ci:W.cell? ⟨bi,0,none⟩=some(.int .i64 i):=(hW.cell(p:=⟨bi,0,none⟩)hbi).trans hci;have cm:W.cell? ⟨bm,0,none⟩=some(.slice(some⟨g,0,none⟩)n n):=(hW.cell(p:=⟨bm,0,none⟩)hbm).trans hcm;have cx:W.cell? ⟨g,x,none⟩=some(.bool(Rk.met es i x)):=(hb.below hW hb.lt).cell x _(by simp [hx]);have hz:=hW.size;have z1:bi<W.heap.size:=by omega
 have z2:bm<W.heap.size:=by omega
 have z3:g<W.heap.size:=by have:=hb.lt;omega
 have hx':(x:Int)<n:=by omega
 have HR:Hid(Rk.backB es i((x:Int),(y:Int))=(decide((y:Int)=i)&&Rk.met es i x)):=rfl;obtain⟨q,hq⟩: ∃q,Rk.met es i x=q:=⟨_,rfl⟩;rw [HR.out,hq];rw [hq]at cx;clear hW hb hci hcm hq HR hxy he hes
 by_cases hyi:y=i
 ·subst hyi
  go_enter Tryz.func131,Tryz.ntmps131
  go_wp2;go_ret;exact⟨by simp,B0.out⟩
 have hd:((y:Int)==(i:Int))=false:=by simp;omega
 have hd2:decide((y:Int)=(i:Int))=false:=by simp;omega
 rw [hd2];clear hyi hd2
 go_enter Tryz.func131,Tryz.ntmps131
 go_wp2;go_ret;exact⟨by simp,B0.out⟩
theorem Tryz.goes_any(n i:Nat)(a:Option Addr)(c:Nat)(es:List(Nat×Nat))(w:World)(hn:n<=64)(hi:i<n)(hes: ∀e,e∈es->e.1<n/\e.2<n)(hE:Rk.Eds w w.heap.size a(Rk.up es))(hm:es.length<=1000000000000000):
  Calls Tryz.prog 108 #[.int .i64 n, .slice a es.length c, .int .i64 i]w λe w'=>e= .returned(.bool(Rk.lead es i i))/\Below w.heap.size w w':=by
 have A0:Below w.heap.size w(w.alloc(.cells #[.int .i64 i]3)):=(Below.refl _ w).alloc(Nat.le_refl _)_;have E0:=(hE.below A0).wider(B':=(w.alloc(.cells #[.int .i64 i]3)).heap.size)(by simp);have H1:Hid _:=Tryz.mark_any n i a c es(w.alloc(.cells #[.int .i64 i]3))hn hi hes E0 hm;have HX:Hid(Below w.heap.size w(w.alloc(.cells #[.int .i64 i]3))/\Rk.Eds(w.alloc(.cells #[.int .i64 i]3))(w.heap.size+1)a(Rk.up es)/\(∀e,e∈es->e.1<n/\e.2<n)/\es.length<=1000000000000000/\(Rk.up es).length=es.length):=⟨A0,by simpa using E0,hes,hm,Rk.up_length es⟩;obtain⟨q,hq⟩: ∃q,Rk.lead es i i=q:=⟨_,rfl⟩;have HQ:Hid(Rk.lead es i i=q):=hq;obtain⟨m,hmm⟩: ∃m,es.length=m:=⟨_,rfl⟩;rw [hq];rw [hmm]at H1 HX⊢;clear hE hes hm A0 E0 hq hmm
 go_enter Tryz.func108,Tryz.ntmps108
 go_wp2_with fail
 refine Calls.mono H1.out ?_;rintro e W1⟨rfl,hbits,hb⟩;have hs1:w.heap.size+1<W1.heap.size:=by have:=hbits.lt;simpa using this
 have B2:Below w.heap.size w(W1.alloc(.cells #[.slice(some⟨w.heap.size+1,0,none⟩)n n]151)):=(HX.out.1.trans(hb.mono(by simp))).alloc(by omega)_;have A2:Below W1.heap.size W1(W1.alloc(.cells #[.slice(some⟨w.heap.size+1,0,none⟩)n n]151)):=(Below.refl _ W1).alloc(Nat.le_refl _)_
 have hci:(W1.alloc(.cells #[.slice(some⟨w.heap.size+1,0,none⟩)n n]151)).cell? ⟨w.heap.size,0,none⟩=some(.int .i64 i):=by
  rw [A2.cell(p:=⟨w.heap.size,0,none⟩)(by show w.heap.size<_;omega),hb.cell(p:=⟨w.heap.size,0,none⟩)(by simp)]
  simp
 have HP:=Rk.goes_pred w.heap.size W1.heap.size(w.heap.size+1)n i es(W1.alloc(.cells #[.slice(some⟨w.heap.size+1,0,none⟩)n n]151))HX.out.2.2.1(by simp;omega)(by simp)hci(by simp)
  (by simpa using hbits.below A2(by simpa using hs1))
 have HE:=((HX.out.2.1.below(by simpa using hb)).below(A2.mono(by omega))).wider(B':=(W1.alloc(.cells #[.slice(some⟨w.heap.size+1,0,none⟩)n n]151)).heap.size)(by simp;omega);have hc:=Tryz.contains_any(Rk.backB es i)131 #[.pointer(some⟨w.heap.size,0,none⟩), .pointer(some⟨W1.heap.size,0,none⟩)]Rk.enters_goes a c(Rk.up es)_ HP HE(by rw [HX.out.2.2.2.2];exact HX.out.2.2.2.1);rw [Rk.back_any,HQ.out,HX.out.2.2.2.2]at hc;have HC:Hid _:=hc;have HB2:Hid _:=B2;have HA2:Hid _:=A2;clear hbits hb B2 A2 hci HP HE hc H1 HX
 go_wp2_with fail
 refine Calls.mono HC.out ?_;rintro e W2⟨rfl,hb2⟩;have B3:Hid(Below w.heap.size w W2):=HB2.out.trans(hb2.mono(by simp;omega));clear hb2;go_wp2;go_ret;exact⟨rfl,B3.out⟩
theorem Rk.inB_iff(n i:Int):Rk.inB n i=true↔0<=i/\i<n:=by simp [Rk.inB]
theorem Rk.chk_ok {n:Int} {rs:List(Int×Int)} (h:Rk.chk n rs=0): ∃(k:Nat)(es:List(Nat×Nat)),n=k/\k<=64/\rs=Rk.up es/\es.length<=256/\ ∀e,e∈es->e.1<k/\e.2<k:=by
 unfold Rk.chk at h
 split at h
 ·simp at h
 next h1=>
 split at h
 ·simp at h
 next h2=>
 split at h
 ·simp at h
 next h3=>
 obtain⟨k,rfl⟩: ∃k:Nat,n=k:=⟨n.toNat,by omega⟩;rw [Bool.not_eq_true,List.any_eq_false]at h3
 have hr: ∀e,e∈rs->0<=e.1/\e.1<k/\0<=e.2/\e.2<k:=by
  intro e he;have:=h3 e he;simp only [Rk.outB,Bool.or_eq_true,Bool.not_eq_true',not_or,Bool.not_eq_false,Rk.inB_iff]at this;exact⟨this.1.1,this.1.2,this.2.1,this.2.2⟩
 refine⟨k,rs.map λe=>(e.1.toNat,e.2.toNat),rfl,by omega, ?_,by simp;omega, ?_⟩
 ·rw [Rk.up,List.map_map]
  symm
  refine(List.map_congr_left(λe he=> ?_)).trans(List.map_id rs);have:=hr e he;obtain⟨x,y⟩:=e;simp only [Function.comp_apply,id_eq,Prod.mk.injEq];omega
 intro e he;obtain⟨x,hx,rfl⟩:=List.mem_map.1 he;have:=hr x hx;simp only;omega
theorem Rk.own_wider {w:World} {B B':Nat} {e:TypeId} {size:Nat} {v:Value} {n:Nat} {cs:List Value} (h:w.ownsRow B e size v n cs)(hB:B'<=B):w.ownsRow B' e size v n cs:=by
 rcases h with⟨hl,h|⟨g,cap,cur,h1,h2,h3⟩⟩
 ·exact⟨hl, .inl h⟩
 exact⟨hl, .inr⟨g,cap,cur,h1,Nat.le_trans hB h2,h3⟩⟩
theorem Rk.round_hold(bn bl n c:Nat)(a:Option Addr)(es:List(Nat×Nat))(w:World)(hn:n<=64)(hes: ∀e,e∈es->e.1<n/\e.2<n)(hbn:bn<w.heap.size)(hbl:bl<w.heap.size)(hcn:w.cell? ⟨bn,0,none⟩=some(.int .i64 n))(hcl:w.cell? ⟨bl,0,none⟩=some(.slice a es.length c))
  (hE:Rk.Eds w w.heap.size a(Rk.up es))(hm:es.length<=1000000000000000):Rq.Hold 107 #[.pointer(some⟨bn,0,none⟩), .pointer(some⟨bl,0,none⟩)](λi=>Rk.lead es i i)n w:=by
 intro W i hi hW;show Calls Tryz.prog 107 #[.int .i64 i, .pointer(some⟨bn,0,none⟩), .pointer(some⟨bl,0,none⟩)]W _;have c0:W.cell? ⟨bn,0,none⟩=some(.int .i64 n):=(hW.cell(p:=⟨bn,0,none⟩)hbn).trans hcn;have c1:W.cell? ⟨bl,0,none⟩=some(.slice a es.length c):=(hW.cell(p:=⟨bl,0,none⟩)hbl).trans hcl;have H1:Hid _:=Tryz.goes_any n i a c es W hn hi hes((hE.below hW).wider hW.size)hm;clear hcn hcl hE hW hes
 go_enter Tryz.func107,Tryz.ntmps107
 go_wp2_with fail
 refine Calls.mono H1.out ?_;rintro e W2⟨rfl,hb⟩;go_wp2;go_ret;exact⟨rfl,hb⟩
theorem Tryz.round_err(n err:Int)(a:Option Addr)(c:Nat)(rs:List(Int×Int))(w:World)(hE:Rk.Eds w w.heap.size a rs)(hm:rs.length<=1000000000000000)(he:Rk.chk n rs=err)(h0:err≠0):
  Calls Tryz.prog 79 #[.int .i64 n, .slice a rs.length c]w λe w'=>e= .returned(.tuple #[.slice none 0 0, .int .i64 err])/\Below w.heap.size w w':=by
 have A0:Below w.heap.size w((w.alloc(.cells #[.int .i64 n]3)).alloc(.cells #[.slice a rs.length c]127)):=((Below.refl _ w).alloc(Nat.le_refl _)_).alloc(by simp)_;have H1:Hid _:=Tryz.rkCheck_any n a c rs((w.alloc(.cells #[.int .i64 n]3)).alloc(.cells #[.slice a rs.length c]127))((hE.below A0).wider A0.size)hm;rw [he]at H1;have hd:(err==0)=false:=by simpa using h0
 have HA:Hid _:=A0;obtain⟨m,hmm⟩: ∃m,rs.length=m:=⟨_,rfl⟩;rw [hmm]at H1 HA⊢;clear hE hm he hmm h0 A0
 go_enter Tryz.func79,Tryz.ntmps79
 go_wp2_with fail
 refine Calls.mono H1.out ?_;rintro e W1⟨rfl,hb⟩;go_wp2;go_ret2;exact⟨rfl,HA.out.trans(hb.mono HA.out.size)⟩
theorem Tryz.round_ok(n:Nat)(a:Option Addr)(c:Nat)(es:List(Nat×Nat))(w:World)(hn:n<=64)(hes: ∀e,e∈es->e.1<n/\e.2<n)(hE:Rk.Eds w w.heap.size a(Rk.up es))(hm:es.length<=1000000000000000)(hck:Rk.chk n(Rk.up es)=0):
  Calls Tryz.prog 79 #[.int .i64 n, .slice a es.length c]w λe w'=> ∃v,e= .returned(.tuple #[v, .int .i64 0])/\
   w'.ownsRow w.heap.size 3 1 v((List.range n).filter(λi=>Rk.lead es i i)).length(Rq.nums((List.range n).filter(λi=>Rk.lead es i i)))/\Below w.heap.size w w':=by
 have A0:Below w.heap.size w((w.alloc(.cells #[.int .i64 n]3)).alloc(.cells #[.slice a es.length c]127)):=((Below.refl _ w).alloc(Nat.le_refl _)_).alloc(by simp)_;have E0:=(hE.below A0).wider A0.size;have H1:Hid _:=Tryz.rkCheck_any n a c(Rk.up es)((w.alloc(.cells #[.int .i64 n]3)).alloc(.cells #[.slice a es.length c]127))E0(by rw [Rk.up_length];exact hm);rw [hck,Rk.up_length]at H1
 have HX:Hid(Below w.heap.size w((w.alloc(.cells #[.int .i64 n]3)).alloc(.cells #[.slice a es.length c]127))/\n<=64/\(∀e,e∈es->e.1<n/\e.2<n)/\Rk.Eds((w.alloc(.cells #[.int .i64 n]3)).alloc(.cells #[.slice a es.length c]127))(w.heap.size+2)a(Rk.up es)/\es.length<=1000000000000000):=
  ⟨A0,hn,hes,by simpa using E0,hm⟩
 clear hE hm hn hes hck A0 E0
 go_enter Tryz.func79,Tryz.ntmps79
 go_wp2_with fail
 refine Calls.mono H1.out ?_;rintro e W1⟨rfl,hb⟩;have hb':Below(w.heap.size+2)((w.alloc(.cells #[.int .i64 n]3)).alloc(.cells #[.slice a es.length c]127))W1:=by simpa using hb
 have hs:=hb'.size;have hz:w.heap.size+2<=W1.heap.size:=by simpa using hs
 have k0:W1.cell? ⟨w.heap.size,0,none⟩=some(.int .i64 n):=by rw [hb'.cell(p:=⟨w.heap.size,0,none⟩)(by show w.heap.size<_;omega)];simp
 have k1:W1.cell? ⟨w.heap.size+1,0,none⟩=some(.slice a es.length c):=by rw [hb'.cell(p:=⟨w.heap.size+1,0,none⟩)(by show w.heap.size+1<_;omega)];simp
 have H2:Hid _:=Tryz.things_any(λi=>Rk.lead es i i)107 #[.pointer(some⟨w.heap.size,0,none⟩), .pointer(some⟨w.heap.size+1,0,none⟩)]Rk.enters_round n W1
  (Rk.round_hold w.heap.size(w.heap.size+1)n c a es W1 HX.out.2.1 HX.out.2.2.1(by omega)(by omega)k0 k1((HX.out.2.2.2.1.below hb').wider hz)HX.out.2.2.2.2)HX.out.2.1
 have HB:Hid(Below w.heap.size w W1):=HX.out.1.trans(hb'.mono(by omega));clear hb hb' hs H1 HX
 go_wp2_with fail
 refine Calls.mono H2.out ?_;rintro e W4⟨v,rfl,hown,hb4⟩;obtain⟨av,cv,rfl⟩:=Rq.own_shape hown;go_wp2;go_ret2;exact⟨_,rfl,Rk.own_wider hown HB.out.size,HB.out.trans(hb4.mono HB.out.size)⟩
namespace Ac
def inR(n:Nat)(l:Int×Int):Bool:=decide(-1<=l.1/\ -1<=l.2/\l.1<n/\l.2<n)
def insL(ls:List(Int×Int))(n:Nat):List Nat:=(List.range(n+1)).map λi:Nat=>ls.countP λl=>decide(l.2+1=(i:Int))
def outsL(ls:List(Int×Int))(n:Nat):List Nat:=(List.range(n+1)).map λi:Nat=>ls.countP λl=>decide(l.1+1=(i:Int))
def bet(ls:List(Int×Int)):List(Int×Int):=ls.filter λl=>decide(0<=l.1)&&decide(0<=l.2)
theorem insL_length(ls:List(Int×Int))(n:Nat):(insL ls n).length=n+1:=by simp [insL]
theorem outsL_length(ls:List(Int×Int))(n:Nat):(outsL ls n).length=n+1:=by simp [outsL]
theorem insL_at(ls:List(Int×Int))(n i:Nat)(h:i<n+1):(insL ls n)[i]? =some(ls.countP λl=>decide(l.2+1=(i:Int))):=by
 unfold insL;rw [List.getElem?_map,List.getElem?_range h];rfl
theorem outsL_at(ls:List(Int×Int))(n i:Nat)(h:i<n+1):(outsL ls n)[i]? =some(ls.countP λl=>decide(l.1+1=(i:Int))):=by
 unfold outsL;rw [List.getElem?_map,List.getElem?_range h];rfl
theorem insL_snoc(ls:List(Int×Int))(n:Nat)(l:Int×Int)(k c:Nat)(hk:(k:Int)=l.2+1)(hn:k<n+1)(hc:(insL ls n)[k]? =some c):insL(ls++ [l])n=(insL ls n).set k(c+1):=by
 apply List.ext_getElem?;intro i
 rcases Nat.lt_or_ge i(n+1)with hi|hi
 ·rw [insL_at _ _ _ hi,List.getElem?_set,insL_length]
  rw [insL_at _ _ _ hn,Option.some.injEq]at hc
  by_cases h:k=i
  ·subst h
   rw [if_pos rfl,if_pos hi,List.countP_append,hc];simp [hk]
  rw [if_neg h,insL_at _ _ _ hi,List.countP_append];have: ¬l.2+1=(i:Int):=by omega
  simp [this]
 rw [List.getElem?_eq_none(by rw [insL_length];exact hi),List.getElem?_eq_none(by rw [List.length_set,insL_length];exact hi)]
theorem outsL_snoc(ls:List(Int×Int))(n:Nat)(l:Int×Int)(k c:Nat)(hk:(k:Int)=l.1+1)(hn:k<n+1)(hc:(outsL ls n)[k]? =some c):outsL(ls++ [l])n=(outsL ls n).set k(c+1):=by
 apply List.ext_getElem?;intro i
 rcases Nat.lt_or_ge i(n+1)with hi|hi
 ·rw [outsL_at _ _ _ hi,List.getElem?_set,outsL_length]
  rw [outsL_at _ _ _ hn,Option.some.injEq]at hc
  by_cases h:k=i
  ·subst h
   rw [if_pos rfl,if_pos hi,List.countP_append,hc];simp [hk]
  rw [if_neg h,outsL_at _ _ _ hi,List.countP_append];have: ¬l.1+1=(i:Int):=by omega
  simp [this]
 rw [List.getElem?_eq_none(by rw [outsL_length];exact hi),List.getElem?_eq_none(by rw [List.length_set,outsL_length];exact hi)]
theorem bet_snoc(ls:List(Int×Int))(l:Int×Int):bet(ls++ [l])=bet ls++if(decide(0<=l.1)&&decide(0<=l.2))=true then [l]else []:=by
 unfold bet;rw [List.filter_append]
 congr 1
 cases h:(decide(0<=l.1)&&decide(0<=l.2))<;>simp [h]
theorem bet_length(ls:List(Int×Int)):(bet ls).length<=ls.length:=List.length_filter_le _ _
def around(T:Ac):List Ac:= .mk 0 0 0 0(.mk 0 0 []) [] [] [] [] []::T.ks
def joinedAt(T:Ac)(i:Nat):Bool:=((T.around[i]?).map λk=>joinedB k.kind k.a k.cs.length(((insL T.ls T.ks.length)[i]?).getD 0:Nat)(((outsL T.ls T.ks.length)[i]?).getD 0:Nat)).getD true
noncomputable def freeB(n:Nat)(rs:List(Int×Int)):Bool:=if Rk.chk n rs≠0 then false else((List.range n).filter λi=>Rk.lead(rs.map λe=>(e.1.toNat,e.2.toNat))i i).isEmpty
noncomputable def linkedB(T:Ac):Bool:= !decide(T.ks.length=0)&&decide(T.ls.length<=40)&&T.ls.all(inR T.ks.length)&&(List.range(T.ks.length+1)).all T.joinedAt&&freeB T.ks.length(bet T.ls)
end Ac
theorem Ak.infoAct:(Tryz.prog.info? 32).map(λi=>(i.zero,i.size,i.bytes))=some(some(.agg #[.int .i64 0, .int .i64 0, .int .i64 0, .int .i64 0, .int .i64 0, .int .i64 0, .slice none 0 0, .slice none 0 0, .slice none 0 0, .slice none 0 0, .slice none 0 0, .slice none 0 0]),12,192):=by kernel_rfl
theorem Ak.infoEdge:(Tryz.prog.info? 128).map(λi=>(i.zero,i.size,i.bytes))=some(some(.agg #[.int .i64 0, .int .i64 0]),2,16):=by kernel_rfl
theorem Ak.flat_len {f:Nat->List Value} (hf: ∀j,(f j).length=12)(n:Nat):((List.range n).flatMap f).length=n*12:=by
 induction n with
 |zero=>rfl
 |succ n ih=>rw [List.range_succ,List.flatMap_append,List.length_append,ih];simp [hf];omega
theorem Ak.flat_at {f:Nat->List Value} (hf: ∀j,(f j).length=12)(n j i:Nat)(hj:j<n)(hi:i<12):((List.range n).flatMap f)[j*12+i]? =(f j)[i]? :=by
 induction n with
 |zero=>omega
 |succ n ih=>
  rw [List.range_succ,List.flatMap_append]
  rcases Nat.lt_or_ge j n with h|h
  ·rw [List.getElem?_append_left(by rw [Ak.flat_len hf];omega)]
   exact ih h
  have:j=n:=by omega
  subst this;rw [List.getElem?_append_right(by rw [Ak.flat_len hf];omega),Ak.flat_len hf]
  simp
def Ac.kcells(T:Ac)(U:Nat->Ac.Vs):List Value:=(List.range T.ks.length).flatMap λj=>(Ac.row((T.ks[j]?).getD(.mk 0 0 0 0(.mk 0 0 []) [] [] [] [] []))(U j)).toList
theorem Ac.kcells_len(T:Ac)(U:Nat->Ac.Vs):(T.kcells U).length=T.ks.length*12:=Ak.flat_len(λ_=>rfl)_
theorem Ac.kcells_at(T:Ac)(U:Nat->Ac.Vs)(j i:Nat)(hj:j<T.ks.length)(hi:i<12):(T.kcells U)[j*12+i]? =some((Ac.row T.ks[j](U j))[i]'(by simpa [Ac.row]using hi)):=by
 unfold Ac.kcells;rw [Ak.flat_at(λ_=>rfl)_ j i hj hi,List.getElem?_eq_getElem hj];simp only [Option.getD_some,Array.getElem?_toList];rw [Array.getElem?_eq_getElem(by simpa [Ac.row]using hi)]
theorem Ac.kcells_one {w:World} {B e d:Nat} {T:Ac} {U:Nat->Ac.Vs} (h: ∀j(h:j<T.ks.length),Ac.Lies w B e d(U j)T.ks[j]): ∀u∈T.kcells U,u.oneCell'=true:=by
 intro u hu;obtain⟨j,hj,hu⟩:=List.mem_flatMap.1 hu;have hj':=List.mem_range.1 hj;have h1:=(h j hj').ones;rw [List.getElem?_eq_getElem hj']at hu;rw [Array.all_eq_true_iff_forall_mem]at h1;exact h1 u(by simpa using hu)
def Ak.Ats(w:World)(g:Nat)(l:List Nat):Prop:=w.heap[g]? =some(.cells(l.map λi:Nat=>Value.int .i64(i:Int)).toArray 3(0,0))
theorem Ak.Ats.lt {w:World} {g:Nat} {l:List Nat} (h:Ak.Ats w g l):g<w.heap.size:=(Array.getElem?_eq_some_iff.1 h).1
theorem Ak.Ats.cell {w:World} {g:Nat} {l:List Nat} (h:Ak.Ats w g l)(j x:Nat)(hj:l[j]? =some x):w.cell? ⟨g,j,none⟩=some(.int .i64(x:Int)):=by
 unfold Ak.Ats at h;simp [World.cell?,h,hj]
theorem Ak.Ats.frozen {w:World} {g:Nat} {l:List Nat} (h:Ak.Ats w g l)(j:Nat):w.frozen? ⟨g,j,none⟩=false:=by
 unfold Ak.Ats at h;simp [World.frozen?,h]
theorem Ak.Ats.put {w:World} {g:Nat} {l:List Nat} (h:Ak.Ats w g l)(j x:Nat):Ak.Ats(w.setCell⟨g,j,none⟩(.int .i64(x:Int)))g(l.set j x):=by
 unfold Ak.Ats at*;simp [World.setCell,Array.getElem?_modify,h,List.map_set]
theorem Ak.Ats.keep {w w':World} {g:Nat} {l:List Nat} (h:Ak.Ats w g l)(hk:w'.heap[g]? =w.heap[g]?):Ak.Ats w' g l:=by unfold Ak.Ats;rw [hk];exact h
def Ak.irow(n:Nat):Array Value:=((List.replicate n 0).map λi:Nat=>Value.int .i64(i:Int)).toArray
theorem Ak.infoIntA:(Tryz.prog.info? 3).map(λi=>(i.zero,i.size,i.bytes))=some(some(.int .i64 0),1,8):=by kernel_rfl
theorem Ak.make_ints(n:Nat)(hn:n<=2000)(w:World):(Instr.makeSlice 51(.int .i64(n:Int))(.int .i64(n:Int))).run Tryz.prog w= .ok(.slice(some⟨w.heap.size,0,none⟩)n n)(w.alloc(.cells(Ak.irow n)3)):=by
 have h:=run_make_row'(P:=Tryz.prog)51 3(.int .i64 0)8 Tryz.underlying51 Ak.infoIntA rfl .i64 .i64 n(by omega)(by omega)w;rw [h,show madeCells #[Value.int .i64 0]n=Ak.irow n from ?_];apply Array.toList_inj.1;rw [toList_madeCells_one];simp [Ak.irow]
theorem Ak.ats_new(w:World)(n:Nat):Ak.Ats(w.alloc(.cells(Ak.irow n)3))w.heap.size(List.replicate n 0):=heap_alloc_new w _
theorem Ac.insL_nil(n:Nat):Ac.insL []n=List.replicate(n+1)0:=by
 unfold Ac.insL;rw [List.eq_replicate_iff];exact⟨by simp,by simp⟩
theorem Ac.outsL_nil(n:Nat):Ac.outsL []n=List.replicate(n+1)0:=by
 unfold Ac.outsL;rw [List.eq_replicate_iff];exact⟨by simp,by simp⟩
def Ak.ecells(es:List(Int×Int)):List Value:=es.flatMap λe=> [.int .i64 e.1, .int .i64 e.2]
theorem Ak.ecells_at(es:List(Int×Int))(j:Nat)(hj:j<es.length):(Ak.ecells es)[j*2]? =some(.int .i64 es[j].1)/\(Ak.ecells es)[j*2+1]? =some(.int .i64 es[j].2):=by
 induction es generalizing j with
 |nil=>simp at hj
 |cons a r ih=>
  have hc:Ak.ecells(a::r)= .int .i64 a.1:: .int .i64 a.2::Ak.ecells r:=rfl;rw [hc]
  cases j with
  |zero=>simp
  |succ i=>
   have:=ih i(by simpa using hj);rw [show(i+1)*2=i*2+1+1 by omega];simpa using this
theorem Ak.eds_of_own {w:World} {B m c:Nat} {a:Option Addr} {es:List(Int×Int)} (h:w.ownsRow B 128 2(.slice a m c)es.length(Ak.ecells es)):Rk.Eds w w.heap.size a es:=by
 intro j hj
 rcases h.2 with⟨e,hn⟩|⟨g,cap,cur,e,h3,h4,h5,h6,h7,h8⟩
 ·omega
 simp only [Value.slice.injEq]at e;obtain⟨rfl,-,rfl⟩:=e;have hk:=Ak.ecells_at es j hj;rw [<-h8,List.getElem?_take,List.getElem?_take,if_pos(by omega),if_pos(by omega),Array.getElem?_toList,Array.getElem?_toList]at hk;refine⟨g,0,rfl,(Array.getElem?_eq_some_iff.1 h4).1, ?_, ?_⟩
 ·simp only [World.cell?,h4,Nat.zero_add];exact hk.1
 simp only [World.cell?,h4,Nat.zero_add];exact hk.2
theorem Ak.own_shape {w:World} {B:Nat} {e:TypeId} {size:Nat} {v:Value} {n:Nat} {cs:List Value} (h:w.ownsRow B e size v n cs): ∃a c,v= .slice a n c:=by
 rcases h.2 with⟨rfl,rfl⟩|⟨g,cap,cur,rfl,_⟩
 ·exact⟨none,0,rfl⟩
 exact⟨_,_,rfl⟩
theorem Tryz.round_free(n:Nat)(a:Option Addr)(c:Nat)(rs:List(Int×Int))(w:World)(hE:Rk.Eds w w.heap.size a rs)(hm:rs.length<=1000000):
  Calls Tryz.prog 79 #[.int .i64(n:Int), .slice a rs.length c]w λe w'=> ∃la ln lc err,e= .returned(.tuple #[.slice la ln lc, .int .i64 err])/\(decide(err=0)&&decide(ln=0))=Ac.freeB n rs/\Below w.heap.size w w':=by
 unfold Ac.freeB
 split
 ·next h=>
  refine(Tryz.round_err n _ a c rs w hE(by omega)rfl h).mono λe w'⟨h1,h2⟩=>⟨none,0,0,Rk.chk n rs,h1, ?_,h2⟩;simp [h]
 next h=>
 have h0:Rk.chk n rs=0:=Decidable.not_not.1 h;obtain⟨k,es,hk1,hk,rfl,hl,hes⟩:=Rk.chk_ok h0;obtain rfl:n=k:=by omega
 have key:=Tryz.round_ok n a c es w hk hes hE(by rw [Rk.up_length]at hm;omega)h0
 have hd:((Rk.up es).map λe=>(e.1.toNat,e.2.toNat))=es:=by
  rw [Rk.up,List.map_map];exact(List.map_congr_left λe _=>by simp).trans(List.map_id es)
 rw [Rk.up_length,hd];refine key.mono λe w'⟨v,he,hown,hb⟩=> ?_;obtain⟨la,lc,rfl⟩:=Ak.own_shape hown;refine⟨la,_,lc,0,he, ?_,hb⟩;rw [decide_eq_true rfl,Bool.true_and]
 cases(List.range n).filter(λi=>Rk.lead es i i)<;>rfl
def Ac.V0:Ac.Vs:=⟨.slice none 0 0, .slice none 0 0, .slice none 0 0, .slice none 0 0, .slice none 0 0, .slice none 0 0⟩
def Ac.UA(U:Nat->Ac.Vs)(i:Nat):Ac.Vs:=if i=0 then Ac.V0 else U(i-1)
theorem Ak.zero_own(w:World):(w.alloc(.cells #[.int .i64 0, .int .i64 0, .int .i64 0, .int .i64 0, .int .i64 0, .int .i64 0, .slice none 0 0, .slice none 0 0, .slice none 0 0, .slice none 0 0, .slice none 0 0, .slice none 0 0]32)).ownsRow w.heap.size 32 12(.slice(some⟨w.heap.size,0,none⟩)1 1)1 [.int .i64 0, .int .i64 0, .int .i64 0, .int .i64 0, .int .i64 0, .int .i64 0, .slice none 0 0, .slice none 0 0, .slice none 0 0, .slice none 0 0, .slice none 0 0, .slice none 0 0]:=
 ⟨rfl, .inr⟨w.heap.size,1, #[.int .i64 0, .int .i64 0, .int .i64 0, .int .i64 0, .int .i64 0, .int .i64 0, .slice none 0 0, .slice none 0 0, .slice none 0 0, .slice none 0 0, .slice none 0 0, .slice none 0 0],rfl,Nat.le_refl _,heap_alloc_new w _,Nat.le_refl _,by unfold maxLen;omega,rfl,rfl⟩⟩
theorem Ak.rows_of {W:World} {B n c gk:Nat} {T:Ac} {U:Nat->Ac.Vs} (h:W.ownsRow B 32 12(.slice(some⟨gk,0,none⟩)(1+n)c)(1+n)([.int .i64 0, .int .i64 0, .int .i64 0, .int .i64 0, .int .i64 0, .int .i64 0, .slice none 0 0, .slice none 0 0, .slice none 0 0, .slice none 0 0, .slice none 0 0, .slice none 0 0]++T.kcells U))(_hn:T.ks.length=n): ∀i(hi:i<T.around.length),Ac.Row W gk(i*12)(Ac.row T.around[i](Ac.UA U i)):=by
 intro i hi k hk;have hk12:k<12:=by simpa [Ac.row]using hk
 have hc:=h.cells(g:=gk)rfl(i*12+k);rw [Go.WideShapes.add_plain,Nat.zero_add]at hc;apply hc
 cases i with
 |zero=>
  rw [Nat.zero_mul,Nat.zero_add,List.getElem?_append_left(by simpa using hk12)]
  rcases(by omega:k=0∨k=1∨k=2∨k=3∨k=4∨k=5∨k=6∨k=7∨k=8∨k=9∨k=10∨k=11)with rfl|rfl|rfl|rfl|rfl|rfl|rfl|rfl|rfl|rfl|rfl|rfl<;>rfl
 |succ i=>
  have hi':i<T.ks.length:=by simpa [Ac.around]using hi
  rw [List.getElem?_append_right(by simp;omega)];have e1:(i+1)*12+k-([.int .i64 0, .int .i64 0, .int .i64 0, .int .i64 0, .int .i64 0, .int .i64 0, .slice none 0 0, .slice none 0 0, .slice none 0 0, .slice none 0 0, .slice none 0 0, .slice none 0 0]:List Value).length=i*12+k:=by simp;omega
  rw [e1,Ac.kcells_at T U i k hi' hk12];rfl
end Go.Proofs
