import Derived.Test.YtenaelpdnccgnaaGreatDoorQAcGo
import Derived.Test.YtenaelpdnccgnaaGreatDoorQAllTChk
import Derived.Deep.Slices
set_option maxRecDepth 100000
set_option maxHeartbeats 32000000
namespace Go.Proofs
open Go.RowKit Go.Shelf
theorem Tryz.infoIntQ:(Tryz.prog.info? 3).map (λi=>(i.zero,i.size,i.bytes))=some (some (.int .i64 0),1,8):=by kernel_rfl
def Rq.nums (l:List Nat):List Value:=l.map λi:Nat=>Value.int .i64 (i:Int)
theorem Rq.nums_snoc (l:List Nat)(i:Nat):Rq.nums (l++ [i])=Rq.nums l++ [.int .i64 (i:Int)]:=by simp[Rq.nums]
theorem Rq.own_shape {w:World}{B:Nat}{e:TypeId}{size:Nat}{v:Value}{n:Nat}{cs:List Value}(h:w.ownsRow B e size v n cs):∃a c,v=.slice a n c:=by
 rcases h.2 with⟨rfl,rfl⟩|⟨g,cap,cur,rfl,_⟩
 ·exact⟨none,0,rfl⟩
 exact⟨_,_,rfl⟩
theorem Rq.own_below {w w':World}{B:Nat}{e:TypeId}{size:Nat}{v:Value}{n:Nat}{cs:List Value}(h:w.ownsRow B e size v n cs)(hb:Below w.heap.size w w'):w'.ownsRow B e size v n cs:=by
 rcases h with⟨hl,h|⟨g,cap,cur,rfl,hB,hg,h4⟩⟩
 ·exact⟨hl,.inl h⟩
 exact⟨hl,.inr ⟨g,cap,cur,rfl,hB,by rw[hb.block g (Array.getElem?_eq_some_iff.1 hg).1];exact hg,h4⟩⟩
theorem Rq.below_grown {B:Nat}{a w w':World}{v:Value}{e:TypeId}{size n:Nat}{cs:List Value}(h:Below B a w)(hB:B<=w.heap.size)(ho:w.ownsRow B e size v n cs)(hg:w.grownBy w' v.ownBlock):Below B a w':=
 h.trans ⟨hg.os,hg.tape,hg.output,hg.size,λj hj=>hg.block j (by omega) (by
  intro he
  rcases ho.2 with⟨rfl,_⟩|⟨g,cap,cur,rfl,h1,_⟩
  ·simp[Value.ownBlock]at he
  simp[Value.ownBlock]at he
  omega)⟩
theorem Rq.one_cell (w:World)(i:Int)(t:TypeId):∀j u, [Value.int .i64 i][j]? =some u->(w.alloc (.cells #[.int .i64 i] t)).cell? ((⟨w.heap.size,0,none⟩:Addr).add j)=some u:=by
 intro j u hj
 match j,hj with
 |0,hj=>simp at hj;subst hj;simp[Addr.add]
theorem Rq.one_one (i:Int):∀u∈ [Value.int .i64 i],u.oneCell'=true:=by intro u hu;simp at hu;subst hu;rfl
def Rq.Hold (g:Nat)(lb:Array Value)(p:Nat->Bool)(n:Nat)(w:World):Prop:=
 ∀(W:World) (i:Nat),i<n->Below w.heap.size w W->Calls Tryz.prog g (#[.int .i64 (i:Int)]++lb) W λe w'=>e=.returned (.bool (p i))/\Below W.heap.size W w'
theorem Tryz.things_any (p:Nat->Bool)(g:Nat)(lb:Array Value)(eg:∀args w,(callFunc g args).run Tryz.prog w=.ok (.enter g args) w)(n:Nat)(w:World)(hp:Rq.Hold g lb p n w)(hn:n<=64):
  Calls Tryz.prog 97 #[.int .i64 n,.func (.func g) #[] lb] w λe w'=>∃v,e=.returned v/\w'.ownsRow w.heap.size 3 1 v ((List.range n).filter p).length (Rq.nums ((List.range n).filter p))/\Below w.heap.size w w':=by
 obtain⟨i0,hi,hz0,hz1,hz2⟩:=info_parts Tryz.infoIntQ;have HP:Hid _:=hp;clear hp
 go_enter Tryz.func97,Tryz.ntmps97
 go_wp2
 go_loopg [5,8] n (λgk s5 s8 wr=>∃(k r:Nat) (L:List Nat),gk+k=n/\s8=.int .i64 k/\r<=k/\Hid (L=(List.range k).filter p/\L.length=r/\Below w.heap.size w wr)/\wr.ownsRow w.heap.size 3 1 s5 r (Rq.nums L))
 case atStart=>exact⟨0,0, [],by omega,rfl,Nat.le_refl _,⟨rfl,rfl,Below.refl _ w⟩,World.ownsRow_nil _ _ _ _⟩
 case round=>
  obtain⟨k,r,L,hk,rfl,hr,HB,hown⟩:=hrel;obtain⟨av,cv,rfl⟩:=Rq.own_shape hown
  by_cases hlt:k<n
  rotate_left
  ·have hd:decide ((k:Int)<n)=false:=decide_eq_false (by omega)
   go_wp2;go_ret;obtain rfl:k=n:=by omega
   rw[<-HB.out.1,HB.out.2.1];exact⟨_,rfl,hown,HB.out.2.2⟩
  have hd:decide ((k:Int)<n)=true:=decide_eq_true (by omega);have hcall:=HP.out wr k hlt HB.out.2.2
  have HF:Hid ((List.range (k+1)).filter p=L++if p k=true then [k]else []):=by
   show _=_;rw[List.range_succ,List.filter_append,<-HB.out.1]
   cases hq:p k<;>simp[hq]
  cases hq:p k with
  |false=>
   rw[hq]at hcall HF;clear hq
   go_wp2_with (go_at_fn g;refine hcall.mono ?_;rintro e w1 ⟨rfl,hb⟩)
   go_roundg (gk-1)
   case measure=>omega
   case rel=>
    refine⟨k+1,r,L,by omega,by go_num,by omega,⟨?_,HB.out.2.1,HB.out.2.2.trans (hb.mono HB.out.2.2.size)⟩,Rq.own_below hown hb⟩;rw[HF.out];simp
  |true=>
   rw[hq]at hcall HF;clear hq
   go_wp2_with (first
    |(go_at_fn g;refine hcall.mono ?_;rintro e W1 ⟨rfl,hb⟩;have own1:=Rq.own_below hown hb;have B1:Hid (Below w.heap.size w W1):=HB.out.2.2.trans (hb.mono HB.out.2.2.size);have hs1:w.heap.size<=W1.heap.size:=B1.out.size;clear hb hown hcall)
    |(at_builtin;refine wpList_append_own _ rfl _ _ 111 rfl w.heap.size 3 i0 (.int .i64 0) 1 8 Tryz.underlying111 hi hz0 hz1 hz2 rfl (by decide) _ _ _ rfl (own1.alloc _) ⟨W1.heap.size,0,none⟩ 1 1 [.int .i64 k] rfl rfl (Rq.one_cell W1 k 3) (Rq.one_one k) ?c3 ?c4 ?c5 ?_))
   case c3=>unfold maxLen;omega
   case c4=>omega
   case c5=>simp;omega
   intro v' W2 own2 g2 _;obtain⟨a2,c2,rfl⟩:=Rq.own_shape own2;go_wp2;go_roundg (gk-1)
   case measure=>omega
   case rel=>
    refine⟨k+1,r+1,L++ [k],by omega,by go_num,by omega,⟨?_,by simp[HB.out.2.1],Rq.below_grown (B1.out.alloc hs1 _) (by simp;omega) (own1.alloc _) g2⟩, ?_⟩
    ·rw[HF.out];simp
    rw[Rq.nums_snoc];exact own2
theorem Rk.enters_goes:∀args w,(callFunc 124 args).run Tryz.prog w=.ok (.enter 124 args) w:=enters_of Tryz.func124 (by kernel_rfl) rfl
theorem Rk.enters_round:∀args w,(callFunc 98 args).run Tryz.prog w=.ok (.enter 98 args) w:=enters_of Tryz.func98 (by kernel_rfl) rfl
noncomputable def Rk.backB (es:List (Nat×Nat))(i:Nat)(x:Int×Int):Bool:=decide (x.2=(i:Int))&&Rk.met es i x.1.toNat
theorem Rk.back_any (es:List (Nat×Nat))(i:Nat):(Rk.up es).any (Rk.backB es i)=Rk.lead es i i:=by
 rw[Bool.eq_iff_iff,Rk.lead_iff,List.any_eq_true]
 constructor
 ·rintro⟨x,hx,h⟩
  obtain⟨e,he,rfl⟩:=List.mem_map.1 hx;simp only[Rk.backB,Bool.and_eq_true,decide_eq_true_eq,Int.toNat_natCast,Rk.met_iff]at h;have h2:e.2=i:=by omega
  exact⟨e.1,h.2,by rw[<-h2];exact he⟩
 rintro⟨b,h,m⟩;refine⟨((b:Int),(i:Int)),List.mem_map.2 ⟨(b,i),m,rfl⟩, ?_⟩;simp[Rk.backB,Rk.met_iff,h]
theorem Rk.goes_pred (bi bm g n i:Nat)(es:List (Nat×Nat))(w:World)(hes:∀e,e∈es->e.1<n/\e.2<n)(hbi:bi<w.heap.size)(hbm:bm<w.heap.size)(hci:w.cell? ⟨bi,0,none⟩=some (.int .i64 i))(hcm:w.cell? ⟨bm,0,none⟩=some (.slice (some ⟨g,0,none⟩) n n))
  (hb:Rq.Bits w g ((List.range n).map (Rk.met es i))):Rk.Pred 124 #[.pointer (some ⟨bi,0,none⟩),.pointer (some ⟨bm,0,none⟩)] (Rk.backB es i) (Rk.up es) w:=by
 intro W x y hxy hW;show Calls Tryz.prog 124 #[.agg #[.int .i64 x,.int .i64 y],.pointer (some ⟨bi,0,none⟩),.pointer (some ⟨bm,0,none⟩)] W _;obtain⟨e,he,hee⟩:=List.mem_map.1 hxy;obtain⟨x,y⟩:=e;simp only[Prod.mk.injEq]at hee;obtain⟨rfl,rfl⟩:=hee;obtain⟨hx,hy⟩:x<n/\y<n:=hes _ he;have B0:Hid (Below w.heap.size w (W.alloc (.cells #[.int .i64 x,.int .i64 y] 113))):=hW.alloc hW.size _;have ci:W.cell? ⟨bi,0,none⟩=some (.int .i64 i):=(hW.cell (p:=⟨bi,0,none⟩) hbi).trans hci;have cm:W.cell? ⟨bm,0,none⟩=some (.slice (some ⟨g,0,none⟩) n n):=(hW.cell (p:=⟨bm,0,none⟩) hbm).trans hcm;have cx:W.cell? ⟨g,x,none⟩=some (.bool (Rk.met es i x)):=(hb.below hW hb.lt).cell x _ (by simp[hx]);have hz:=hW.size;have z1:bi<W.heap.size:=by omega
 have z2:bm<W.heap.size:=by omega
 have z3:g<W.heap.size:=by have:=hb.lt;omega
 have hx':(x:Int)<n:=by omega
 have HR:Hid (Rk.backB es i ((x:Int),(y:Int))=(decide ((y:Int)=i)&&Rk.met es i x)):=rfl;obtain⟨q,hq⟩:=pE (Rk.met es i x);rw[HR.out,hq];rw[hq]at cx;clear hW hb hci hcm hq HR hxy he hes
 by_cases hyi:y=i
 ·subst hyi
  go_enter Tryz.func124,Tryz.ntmps124
  go_wp2;go_ret;exact⟨by simp,B0.out⟩
 have hd:((y:Int)==(i:Int))=false:=by simp;omega
 have hd2:decide ((y:Int)=(i:Int))=false:=by simp;omega
 rw[hd2];clear hyi hd2
 go_enter Tryz.func124,Tryz.ntmps124
 go_wp2;go_ret;exact⟨by simp,B0.out⟩
theorem Tryz.goes_any (n i:Nat)(a:Option Addr)(c:Nat)(es:List (Nat×Nat))(w:World)(hn:n<=64)(hi:i<n)(hes:∀e,e∈es->e.1<n/\e.2<n)(hE:Rk.Eds w w.heap.size a (Rk.up es))(hm:es.length<=1000000000000000):
  Calls Tryz.prog 99 #[.int .i64 n,.slice a es.length c,.int .i64 i] w λe w'=>e=.returned (.bool (Rk.lead es i i))/\Below w.heap.size w w':=by
 have A0:Below w.heap.size w (w.alloc (.cells #[.int .i64 i] 3)):=(Below.refl _ w).alloc (Nat.le_refl _) _;have E0:=(hE.below A0).wider (B':=(w.alloc (.cells #[.int .i64 i] 3)).heap.size) (by simp);have H1:Hid _:=Tryz.mark_any n i a c es (w.alloc (.cells #[.int .i64 i] 3)) hn hi hes E0 hm;have HX:Hid (Below w.heap.size w (w.alloc (.cells #[.int .i64 i] 3))/\Rk.Eds (w.alloc (.cells #[.int .i64 i] 3)) (w.heap.size+1) a (Rk.up es)/\(∀e,e∈es->e.1<n/\e.2<n)/\es.length<=1000000000000000/\(Rk.up es).length=es.length):=⟨A0,by simpa using E0,hes,hm,Rk.up_length es⟩;obtain⟨q,hq⟩:=pE (Rk.lead es i i);have HQ:Hid (Rk.lead es i i=q):=hq;obtain⟨m,hmm⟩:=pE (es.length);rw[hq];rw[hmm]at H1 HX⊢;clear hE hes hm A0 E0 hq hmm
 go_enter Tryz.func99,Tryz.ntmps99
 go_wp2_with fail
 refine Calls.mono H1.out ?_;rintro e W1 ⟨rfl,hbits,hb⟩;have hs1:w.heap.size+1<W1.heap.size:=by have:=hbits.lt;simpa using this
 have B2:Below w.heap.size w (W1.alloc (.cells #[.slice (some ⟨w.heap.size+1,0,none⟩) n n] 156)):=(HX.out.1.trans (hb.mono (by simp))).alloc (by omega) _;have A2:Below W1.heap.size W1 (W1.alloc (.cells #[.slice (some ⟨w.heap.size+1,0,none⟩) n n] 156)):=(Below.refl _ W1).alloc (Nat.le_refl _) _
 have hci:(W1.alloc (.cells #[.slice (some ⟨w.heap.size+1,0,none⟩) n n] 156)).cell? ⟨w.heap.size,0,none⟩=some (.int .i64 i):=by
  rw[A2.cell (p:=⟨w.heap.size,0,none⟩) (by show w.heap.size<_;omega),hb.cell (p:=⟨w.heap.size,0,none⟩) (by simp)]
  simp
 have HP:=Rk.goes_pred w.heap.size W1.heap.size (w.heap.size+1) n i es (W1.alloc (.cells #[.slice (some ⟨w.heap.size+1,0,none⟩) n n] 156)) HX.out.2.2.1 (by simp;omega) (by simp) hci (by simp)
  (by simpa using hbits.below A2 (by simpa using hs1))
 have HE:=((HX.out.2.1.below (by simpa using hb)).below (A2.mono (by omega))).wider (B':=(W1.alloc (.cells #[.slice (some ⟨w.heap.size+1,0,none⟩) n n] 156)).heap.size) (by simp;omega);have hc:=Tryz.contains_any (Rk.backB es i) 124 #[.pointer (some ⟨w.heap.size,0,none⟩),.pointer (some ⟨W1.heap.size,0,none⟩)] Rk.enters_goes a c (Rk.up es) _ HP HE (by rw[HX.out.2.2.2.2];exact HX.out.2.2.2.1);rw[Rk.back_any,HQ.out,HX.out.2.2.2.2]at hc;have HC:Hid _:=hc;have HB2:Hid _:=B2;have HA2:Hid _:=A2;clear hbits hb B2 A2 hci HP HE hc H1 HX
 go_wp2_with fail
 refine Calls.mono HC.out ?_;rintro e W2 ⟨rfl,hb2⟩;have B3:Hid (Below w.heap.size w W2):=HB2.out.trans (hb2.mono (by simp;omega));clear hb2;go_wp2;go_ret;exact⟨rfl,B3.out⟩
def Ak.Cn (b:Nat)(n:Nat)(w:World):Prop:=∃x:Int,w.heap[b]? =some (.cells #[.int .i64 x] 3 (0,0))/\(n<2147483648->x=n)
def Ac.stepN (_:Ac)(n:Nat):Bool×Nat:=(true,n+1)
mutual
theorem Ac.go_count:∀(T:Ac) (n:Nat),T.go Ac.stepN n=(true,n+T.size)
 | .mk _ _ _ _ _ _ ks _ _ _,n=>by
   rw[Ac.go,if_pos (show(Ac.stepN _ n).1=true from rfl),Ac.size];show Ac.goes Ac.stepN ks (n+1)=_;rw[Ac.goes_count ks (n+1)]
   congr 1
   omega
theorem Ac.goes_count:∀(l:List Ac) (n:Nat),Ac.goes Ac.stepN l n=(true,n+Ac.sizes l)
 | [],n=>by rw[Ac.goes,Ac.sizes];rfl
 |k::r,n=>by
  rw[Ac.goes,Ac.go_count k n,if_pos rfl,Ac.goes_count r,Ac.sizes]
  congr 1
  show n+k.size+Ac.sizes r=_;omega
end
theorem Tryz.size1_any (x0 x1 x2 x3 x4 x5 x6 x7 x8 x9 x10 x11:Value)(b:Nat)(x:Int)(w:World)(h:w.heap[b]? =some (.cells #[.int .i64 x] 3 (0,0))):
  Calls Tryz.prog 33 #[.agg #[x0,x1,x2,x3,x4,x5,x6,x7,x8,x9,x10,x11],.pointer (some ⟨b,0,none⟩)] w λe w'=>e=.returned (.bool true)/\w'.heap[b]? =some (.cells #[.int .i64 (IntKind.i64.wrap (x+1))] 3 (0,0))/\Tk.But (λx=>x=b) w w':=by
 obtain⟨w1,hw1⟩:=pE (w.alloc (.cells #[x0,x1,x2,x3,x4,x5,x6,x7,x8,x9,x10,x11] 32));have hlt:b<w.heap.size:=(Array.getElem?_eq_some_iff.1 h).1;have A1:=pB hw1
 have h1:w1.heap[b]? =some (.cells #[.int .i64 x] 3 (0,0)):=(A1.block b hlt).trans h;have c0:w1.cell? ⟨b,0,none⟩=some (.int .i64 x):=by simp[World.cell?,h1]
 have f0:w1.frozen? ⟨b,0,none⟩=false:=by simp[World.frozen?,h1]
 obtain⟨y,hy⟩:=pE (IntKind.i64.wrap (x+1));rw[hy];have HP:Hid ((w1.setCell ⟨b,0,none⟩ (.int .i64 y)).heap[b]? =some (.cells #[.int .i64 y] 3 (0,0))/\Tk.But (λx=>x=b) w (w1.setCell ⟨b,0,none⟩ (.int .i64 y))):=⟨by simp[World.setCell,Array.getElem?_modify,h1],(Tk.But.of_below A1).setCell (E:=λk=>k=b) (p:=⟨b,0,none⟩) rfl _⟩;have H1:Hid (w.alloc (.cells #[x0,x1,x2,x3,x4,x5,x6,x7,x8,x9,x10,x11] 32)=w1):=hw1;clear hw1 hlt A1 h1 h
 go_enter Tryz.func33,Tryz.ntmps33
 go_upto_region 1 with fail
 rw[H1.out];go_wp2;go_ret;exact⟨rfl,HP.out.1,HP.out.2⟩
theorem Ak.stepped_size (B e b bw:Nat)(hB:B<=b)(hne:b≠bw):Ak.Stepped Ac.stepN (λ_=>True) 33 #[.pointer (some ⟨b,0,none⟩)] (λn W=>Ak.Cn b n W) (λk=>k=b) B e bw where
 enters:=enters_of Tryz.func33 (by kernel_rfl) rfl
 calls:=λs W d T V _ hI _ _=>by
  obtain⟨x,hx,hn⟩:=hI;obtain⟨y0,y1,y2,y3,y4,y5,y6,y7,y8,y9,y10,y11,hrow⟩:∃y0 y1 y2 y3 y4 y5 y6 y7 y8 y9 y10 y11,Ac.row T V=#[y0,y1,y2,y3,y4,y5,y6,y7,y8,y9,y10,y11]:=⟨_,_,_,_,_,_,_,_,_,_,_,_,rfl⟩;rw[hrow];refine(Tryz.size1_any y0 y1 y2 y3 y4 y5 y6 y7 y8 y9 y10 y11 b x W hx).mono λe w' h=>⟨h.1,⟨_,h.2.1,λhs=> ?_⟩,h.2.2⟩;have hs':s+1<2147483648:=hs;have:=hn (by omega);show IntKind.i64.wrap (x+1)=((s+1:Nat):Int);rw[Go.IntWalk.i64_in _ (by omega)];omega
 keeps:=λs W W' hI hb=>by
  obtain⟨x,hx,hn⟩:=hI;exact⟨x,(hb.block b (Array.getElem?_eq_some_iff.1 hx).1 hne).trans hx,hn⟩
 above:=λk hk=>hk▸hB
 not_bw:=λh=>hne h.symm
theorem Tryz.aSize_any (d e:Nat)(T:Ac)(V:Ac.Vs)(w:World)(hT:Ac.Lies w w.heap.size e d V T)(h0:0<w.heap.size)(hsz:T.size<=2147483647)(hdp:T.depth<=1000):
  Calls Tryz.prog 16 #[.agg (Ac.row T V)] w λe w'=>e=.returned (.int .i64 (T.size:Int))/\Below w.heap.size w w':=by
 obtain⟨x0,x1,x2,x3,x4,x5,x6,x7,x8,x9,x10,x11,hrow⟩:∃x0 x1 x2 x3 x4 x5 x6 x7 x8 x9 x10 x11,Ac.row T V=#[x0,x1,x2,x3,x4,x5,x6,x7,x8,x9,x10,x11]:=⟨_,_,_,_,_,_,_,_,_,_,_,_,rfl⟩;rw[hrow];obtain⟨w1,hw1⟩:=pE (w.alloc (.cells #[x0,x1,x2,x3,x4,x5,x6,x7,x8,x9,x10,x11] 32));obtain⟨w2,hw2⟩:=pE (w1.alloc (.cells #[.int .i64 0] 3));have A1:=pB hw1
 have G1:w1.heap[w.heap.size]? =some (.cells #[x0,x1,x2,x3,x4,x5,x6,x7,x8,x9,x10,x11] 32 (0,0)):=by rw[<-hw1];exact heap_alloc_new w _
 have l1:=(Array.getElem?_eq_some_iff.1 G1).1;have A2:=pB hw2
 have G2:w2.heap[w.heap.size]? =some (.cells #[x0,x1,x2,x3,x4,x5,x6,x7,x8,x9,x10,x11] 32 (0,0)):=(A2.block _ l1).trans G1;have hC:w2.heap[w1.heap.size]? =some (.cells #[.int .i64 0] 3 (0,0)):=by rw[<-hw2];exact heap_alloc_new w1 _
 have l2:=(Array.getElem?_eq_some_iff.1 hC).1;have B2:Below w.heap.size w w2:=A1.trans (A2.mono A1.size);have cc:w2.cell? ⟨w.heap.size,0,none⟩=some x0/\w2.cell? ⟨w.heap.size,1,none⟩=some x1/\w2.cell? ⟨w.heap.size,2,none⟩=some x2/\w2.cell? ⟨w.heap.size,3,none⟩=some x3/\w2.cell? ⟨w.heap.size,4,none⟩=some x4/\w2.cell? ⟨w.heap.size,5,none⟩=some x5/\w2.cell? ⟨w.heap.size,6,none⟩=some x6/\w2.cell? ⟨w.heap.size,7,none⟩=some x7/\w2.cell? ⟨w.heap.size,8,none⟩=some x8/\w2.cell? ⟨w.heap.size,9,none⟩=some x9/\w2.cell? ⟨w.heap.size,10,none⟩=some x10/\w2.cell? ⟨w.heap.size,11,none⟩=some x11:=by simp[World.cell?,G2]
 obtain⟨m0,m1,m2,m3,m4,m5,m6,m7,m8,m9,m10,m11⟩:=cc;have key:=Tryz.athrough_any (step:=Ac.stepN) (P:=λ_=>True) (g:=33) (lb:=#[.pointer (some ⟨w1.heap.size,0,none⟩)]) (Inv:=λn W=>Ak.Cn w1.heap.size n W) (E:=λk=>k=w1.heap.size) (B:=w.heap.size) (e:=e) d 0 T V w2 (λbw hbw=>Ak.stepped_size w.heap.size e w1.heap.size bw (by omega) (by omega)) (hT.below B2) h0 B2.size ⟨0,hC,λ_=>rfl⟩ (λk hk=>by omega) hsz (Ac.all_true T);rw[hrow]at key;have HC:Hid _:=key;obtain⟨R,hR⟩:=pE (T.size);rw[hR];have HR:Hid (T.size=R/\T.depth<=1000/\T.size<=2147483647/\Below w.heap.size w w2/\w.heap.size<w1.heap.size):=⟨hR,hdp,hsz,B2,l1⟩;have H1:Hid (w.alloc (.cells #[x0,x1,x2,x3,x4,x5,x6,x7,x8,x9,x10,x11] 32)=w1):=hw1;have H2:Hid (w1.alloc (.cells #[.int .i64 0] 3)=w2):=hw2;clear key hT hrow hw1 hw2 A1 G1 A2 G2 hC l1 l2 B2 hR hsz hdp
 go_enter Tryz.func16,Tryz.ntmps16
 go_upto_region 1 with fail
 rw[H1.out]
 go_upto_region 2 with fail
 rw[H2.out]
 go_wp2_with fail
 refine Calls.mono HC.out ?_;rintro e W3 ⟨b,rfl,hbt,hend⟩;have h:=HR.out
 have hI:Ak.Cn w1.heap.size R W3:=by
  rcases hend with⟨_,_,h3,_⟩|⟨h4,_⟩
  ·rw[Ac.go_count,Nat.zero_add,h.1]at h3
   exact h3
  exact absurd ⟨h.2.1,h.2.2.1⟩ h4
 obtain⟨x,hx,hxn⟩:=hI;obtain rfl:x=R:=hxn (by omega);have c0:W3.cell? ⟨w1.heap.size,0,none⟩=some (.int .i64 (R:Int)):=by simp[World.cell?,hx]
 have H3:Hid (Below w.heap.size w W3):=h.2.2.2.1.trans (hbt.below h.2.2.2.1.size (λk hk=>by have:=h.2.2.2.2;omega));clear hbt hend HC h hx hxn;go_wp2;go_ret;exact⟨rfl,H3.out⟩
theorem Ac.Lies.kid12 {w:World}{B e d n cap:Nat}{V:Ac.Vs}{a:Option Addr}{T:Ac}(h:Ac.Lies w B e (d+1) V T)(hv:V.k=.slice a n cap)(j:Nat)(hj:j<T.ks.length):
  ∃g off U,a=some ⟨g,off,none⟩/\g<B/\w.rangeAt g (off+j*12) (Ac.row T.ks[j] U).toList/\Ac.Lies w B e d U T.ks[j]:=by
 obtain⟨g,off,U,ha,hg,hr,hl⟩:=h.kid hv j hj;refine⟨g,off,U,ha,hg,λi v hi=> ?_,hl⟩;rw[Array.getElem?_toList]at hi;obtain⟨h1,h2⟩:=Array.getElem?_eq_some_iff.1 hi;rw[<-h2];exact hr i h1
theorem Ak.rinfo:(Tryz.prog.info? 44).map (·.size)=some 12:=by kernel_rfl
structure Ak.Kd (w wr:World)(e d:Nat)(a:Option Addr)(j g off:Nat)(U:Ac.Vs)(xs:Array Value)(w2:World)(x:Ac):Prop where
 at_:a=some ⟨g,off,none⟩
 row:Ac.row x U=xs
 load:wr.rangeAt g (off+j*12) xs.toList
 one:xs.all (·.oneCell')=true
 is:(Tryz.prog.info? 44).map (·.size)=some xs.size
 il:(Tryz.prog.info? 44).map (·.size)=some xs.toList.length
 zero:(wr.alloc (.cells #[.int .i64 0,.int .i64 0,.int .i64 0,.int .i64 0,.int .i64 0,.int .i64 0,.slice none 0 0,.slice none 0 0,.slice none 0 0,.slice none 0 0,.slice none 0 0,.slice none 0 0] 44)).heap[wr.heap.size]? =some (.cells #[.int .i64 0,.int .i64 0,.int .i64 0,.int .i64 0,.int .i64 0,.int .i64 0,.slice none 0 0,.slice none 0 0,.slice none 0 0,.slice none 0 0,.slice none 0 0,.slice none 0 0] 44 (0,0))
 ez:(#[.int .i64 0,.int .i64 0,.int .i64 0,.int .i64 0,.int .i64 0,.int .i64 0,.slice none 0 0,.slice none 0 0,.slice none 0 0,.slice none 0 0,.slice none 0 0,.slice none 0 0]:Array Value).size=xs.size
 eq:(wr.alloc (.cells #[.int .i64 0,.int .i64 0,.int .i64 0,.int .i64 0,.int .i64 0,.int .i64 0,.slice none 0 0,.slice none 0 0,.slice none 0 0,.slice none 0 0,.slice none 0 0,.slice none 0 0] 44)).setRow wr.heap.size xs=w2
 box:w2.heap[wr.heap.size]? =some (.cells xs 44 (0,0))
 bel:Below wr.heap.size wr w2
 all:Below w.heap.size w w2
 lies:Ac.Lies w2 w2.heap.size e d U x
theorem Ak.kid_at {w wr:World}{e d n cap:Nat}{V:Ac.Vs}{a:Option Addr}{T:Ac}(h:Ac.Lies w w.heap.size e (d+1) V T)(hv:V.k=.slice a n cap)(hb:Below w.heap.size w wr)(j:Nat)(hj:j<T.ks.length):
  ∃g off U xs w2,Ak.Kd w wr e d a j g off U xs w2 T.ks[j]:=by
 obtain⟨g,off,U,ha,hg,ry,hl⟩:=h.kid12 hv j hj;have NZ:(wr.alloc (.cells #[.int .i64 0,.int .i64 0,.int .i64 0,.int .i64 0,.int .i64 0,.int .i64 0,.slice none 0 0,.slice none 0 0,.slice none 0 0,.slice none 0 0,.slice none 0 0,.slice none 0 0] 44)).heap[wr.heap.size]? =some (.cells #[.int .i64 0,.int .i64 0,.int .i64 0,.int .i64 0,.int .i64 0,.int .i64 0,.slice none 0 0,.slice none 0 0,.slice none 0 0,.slice none 0 0,.slice none 0 0,.slice none 0 0] 44 (0,0)):=heap_alloc_new wr _;have B2:Below wr.heap.size wr ((wr.alloc (.cells #[.int .i64 0,.int .i64 0,.int .i64 0,.int .i64 0,.int .i64 0,.int .i64 0,.slice none 0 0,.slice none 0 0,.slice none 0 0,.slice none 0 0,.slice none 0 0,.slice none 0 0] 44)).setRow wr.heap.size (Ac.row T.ks[j] U)):=Tk.below_row ((Below.refl _ wr).alloc (Nat.le_refl _) _) (Nat.le_refl _) _;have B3:=hb.trans (B2.mono hb.size);exact⟨g,off,U,Ac.row T.ks[j] U,_,ha,rfl,λi v hi=>by rw[hb.cell (p:=⟨g,off+j*12+i,none⟩) hg];exact ry i v hi,hl.ones,Ak.rinfo,Ak.rinfo,NZ,rfl,rfl,setRow_heap _ _ _ _ _ _ NZ,B2,B3,(hl.below B3).wider B3.size⟩
theorem Ac.row_kids {T:Ac}{V:Ac.Vs}{a:Option Addr}{n cap:Nat}(h:V.k=.slice a n cap):∃x0 x1 x2 x3 x4 x5 x6 x7 x9 x10 x11,Ac.row T V=#[x0,x1,x2,x3,x4,x5,x6,x7,.slice a n cap,x9,x10,x11]:=⟨_,_,_,_,_,_,_,_,_,_,_,by unfold Ac.row;rw[h]⟩
theorem Tryz.r16Size_any:∀(d e:Nat) (T:Ac) (V:Ac.Vs) (w:World),Ac.Lies w w.heap.size e d V T->T.size<=2147483647->
  Calls Tryz.prog 21 #[.agg (Ac.row T V)] w λe w'=>e=.returned (.int .i64 T.size)/\Below w.heap.size w w':=by
 intro d
 induction d with
 |zero=>intro e T V w h;exact h.elim
 |succ d ih=>
  intro e T V w hT hsz;obtain⟨a,cap,hvk⟩:=hT.kids;obtain⟨n,hn⟩:=pE (T.ks.length);rw[hn]at hvk;have hnb:n<=2147483647:=by have h1:=Ac.length_le_sizes T.ks;have h2:=T.size_eq;omega
  obtain⟨x0,x1,x2,x3,x4,x5,x6,x7,x9,x10,x11,hrow⟩:=Ac.row_kids (T:=T) hvk;obtain⟨ts,hts⟩:=pE (T.size);rw[hrow,hts];obtain⟨w1,hw1⟩:=pE (w.alloc (.cells #[x0,x1,x2,x3,x4,x5,x6,x7,.slice a n cap,x9,x10,x11] 44));have B1:=pB hw1
  have N1:w1.heap[w.heap.size]? =some (.cells #[x0,x1,x2,x3,x4,x5,x6,x7,.slice a n cap,x9,x10,x11] 44 (0,0)):=by rw[<-hw1];exact heap_alloc_new w _
  have c8:w1.cell? ⟨w.heap.size,8,none⟩=some (.slice a n cap):=by simp[World.cell?,N1]
  have H1:Hid _:=hw1;have HB:Hid (Below w.heap.size w w1):=B1;have HT:Hid (Ac.Lies w w.heap.size e (d+1) V T/\V.k=.slice a n cap):=⟨hT,hvk⟩;have HI:Hid _:=ih;have HM:Hid (T.ks.length=n/\T.size<=2147483647/\T.size=ts):=⟨hn,hsz,hts⟩;have ha:=Tryz.underlying44;clear ih hT hsz hvk hn hrow hts hw1 B1 N1
  go_enter Tryz.func21,Tryz.ntmps21
  go_upto_region 1 with fail
  rw[H1.out];go_wp2
  go_loopg [3,9] n (λgk s i wr=>∃j c:Nat,gk+j=n/\i=.int .i64 j/\s=.int .i64 c/\c<=2147483647/\Hid (Below w1.heap.size w1 wr/\c=1+Ac.sizes (T.ks.take j)))
  case atStart=>exact⟨0,1,by omega,rfl,rfl,by omega,Below.refl _ w1,by simp[Ac.sizes]⟩
  case round=>
   obtain⟨j,c,hj,rfl,rfl,hcb,HJ⟩:=hrel;clear c8
   by_cases hjn:j<n
   rotate_left
   ·have hd:decide ((j:Int)<n)=false:=decide_eq_false (by omega)
    have hall:T.ks.take j=T.ks:=List.take_of_length_le (by rw[HM.out.1];omega)
    have hts:c=ts:=by
     have h1:=HJ.out.2;rw[hall]at h1;have h2:=T.size_eq;have h3:=HM.out.2.2;omega
    have HX:Hid (Below w.heap.size w wr):=HB.out.trans (HJ.out.1.mono HB.out.size);subst hts;go_wp2;go_ret;exact⟨rfl,HX.out⟩
   have hd:decide ((j:Int)<n)=true:=decide_eq_true (by omega);have hjk:j<T.ks.length:=by rw[HM.out.1];exact hjn
   have hxs:=Ac.sizes_get T.ks j hjk;have j0:(0:Int)<=j:=by omega
   have j1:(j:Int)<n:=by omega
   obtain⟨g,off,U,xs,w2,K⟩:=Ak.kid_at HT.out.1 HT.out.2 (HB.out.trans (HJ.out.1.mono HB.out.size)) j hjk;obtain⟨x,hx⟩:=pE (T.ks[j]);rw[hx]at hxs K;have hcall:=HI.out e x U w2 K.lies (by have:=HM.out.2.1;have:=T.size_eq;omega);obtain⟨fx,hfx⟩:=pE (x.size);rw[K.row,hfx]at hcall;have HC:Hid _:=hcall;have HY:Hid (T.ks[j]=x/\x.size=fx):=⟨hx,hfx⟩;have hsum:c+fx<=2147483647:=by have h1:=HM.out.2.1;have h2:=T.size_eq;have h3:=HJ.out.2;omega
   obtain⟨rfl,-,ryr,xone,ix,ixl,NZ,ez,hw2,NK,B2,-,-⟩:=K;have HB2:Hid (Below w1.heap.size w1 w2):=HJ.out.1.trans (B2.mono HJ.out.1.size);obtain⟨kb,hkb⟩:=pE (wr.heap.size);have HKB:Hid (wr.heap.size=kb):=hkb;have HW2:Hid _:=hw2;rw[hkb]at NK;clear hx hxs hcall hfx B2 hw2 hkb
   go_upto_region 5 with(first
    |refine wpList_load_mid rfl 44 _ rfl g (off+j*12) rfl xs.toList _ ryr ha rfl ixl ?_
    |refine wpList_store_row rfl 44 _ _ rfl wr.heap.size xs rfl rfl 44 _ NZ ix ez xone ?_)
   rw[HW2.out,HKB.out];clear ryr NZ HW2 HKB
   go_wp2_with (refine wpList_load_row rfl 44 _ rfl _ rfl 44 _ (0,0) _ NK ha rfl ix ?_)
   refine Calls.mono HC.out ?_;rintro e W3 ⟨rfl,b3⟩;have B3:Hid (Below w1.heap.size w1 W3):=HB2.out.trans (b3.mono HB2.out.size);clear b3 HC NK;go_wp2;go_roundg (gk-1)
   case measure=>omega
   case rel=>
    refine⟨j+1,c+fx,by omega,by go_num,by go_num,hsum,B3.out, ?_⟩;rw[Ac.sizes_take _ _ hjk,HY.out.1,HY.out.2,HJ.out.2];omega
theorem Tryz.r16Depth_any:∀(d e:Nat) (T:Ac) (V:Ac.Vs) (w:World),Ac.Lies w w.heap.size e d V T->T.size<=2147483647->
  Calls Tryz.prog 22 #[.agg (Ac.row T V)] w λe w'=>e=.returned (.int .i64 T.depth)/\Below w.heap.size w w':=by
 intro d
 induction d with
 |zero=>intro e T V w h;exact h.elim
 |succ d ih=>
  intro e T V w hT hsz;obtain⟨a,cap,hvk⟩:=hT.kids;obtain⟨n,hn⟩:=pE (T.ks.length);rw[hn]at hvk;have hnb:n<=2147483647:=by have h1:=Ac.length_le_sizes T.ks;have h2:=T.size_eq;omega
  obtain⟨x0,x1,x2,x3,x4,x5,x6,x7,x9,x10,x11,hrow⟩:=Ac.row_kids (T:=T) hvk;obtain⟨ts,hts⟩:=pE (T.depth);rw[hrow,hts];obtain⟨w1,hw1⟩:=pE (w.alloc (.cells #[x0,x1,x2,x3,x4,x5,x6,x7,.slice a n cap,x9,x10,x11] 44));have B1:=pB hw1
  have N1:w1.heap[w.heap.size]? =some (.cells #[x0,x1,x2,x3,x4,x5,x6,x7,.slice a n cap,x9,x10,x11] 44 (0,0)):=by rw[<-hw1];exact heap_alloc_new w _
  have c8:w1.cell? ⟨w.heap.size,8,none⟩=some (.slice a n cap):=by simp[World.cell?,N1]
  have H1:Hid _:=hw1;have HB:Hid (Below w.heap.size w w1):=B1;have HT:Hid (Ac.Lies w w.heap.size e (d+1) V T/\V.k=.slice a n cap):=⟨hT,hvk⟩;have HI:Hid _:=ih;have HM:Hid (T.ks.length=n/\T.size<=2147483647/\T.depth=ts):=⟨hn,hsz,hts⟩;have ha:=Tryz.underlying44;clear ih hT hsz hvk hn hrow hts hw1 B1 N1
  go_enter Tryz.func22,Tryz.ntmps22
  go_upto_region 1 with fail
  rw[H1.out];go_wp2
  go_loopg [3,10] n (λgk s i wr=>∃j c:Nat,gk+j=n/\i=.int .i64 j/\s=.int .i64 c/\c<=2147483647/\Hid (Below w1.heap.size w1 wr/\c=Ac.depths (T.ks.take j)))
  case atStart=>exact⟨0,0,by omega,rfl,rfl,by omega,Below.refl _ w1,by simp[Ac.depths]⟩
  case round=>
   obtain⟨j,c,hj,rfl,rfl,hcb,HJ⟩:=hrel;clear c8
   by_cases hjn:j<n
   rotate_left
   ·have hd:decide ((j:Int)<n)=false:=decide_eq_false (by omega)
    have hall:T.ks.take j=T.ks:=List.take_of_length_le (by rw[HM.out.1];omega)
    have hts:c+1=ts:=by
     have h1:=HJ.out.2;rw[hall]at h1;have h2:=T.depth_eq;have h3:=HM.out.2.2;omega
    have HX:Hid (Below w.heap.size w wr):=HB.out.trans (HJ.out.1.mono HB.out.size);subst hts;go_wp2;go_ret;exact⟨rfl,HX.out⟩
   have hd:decide ((j:Int)<n)=true:=decide_eq_true (by omega);have hjk:j<T.ks.length:=by rw[HM.out.1];exact hjn
   have hxs:=Ac.sizes_get T.ks j hjk;have j0:(0:Int)<=j:=by omega
   have j1:(j:Int)<n:=by omega
   obtain⟨g,off,U,xs,w2,K⟩:=Ak.kid_at HT.out.1 HT.out.2 (HB.out.trans (HJ.out.1.mono HB.out.size)) j hjk;obtain⟨x,hx⟩:=pE (T.ks[j]);rw[hx]at hxs K;have hcall:=HI.out e x U w2 K.lies (by have:=HM.out.2.1;have:=T.size_eq;omega);obtain⟨fx,hfx⟩:=pE (x.depth);rw[K.row,hfx]at hcall;have HC:Hid _:=hcall;have HY:Hid (T.ks[j]=x/\x.depth=fx):=⟨hx,hfx⟩;have hsum:fx<=2147483647:=by have h0:=x.depth_le_size;have h1:=HM.out.2.1;have h2:=T.size_eq;omega
   obtain⟨rfl,-,ryr,xone,ix,ixl,NZ,ez,hw2,NK,B2,-,-⟩:=K;have HB2:Hid (Below w1.heap.size w1 w2):=HJ.out.1.trans (B2.mono HJ.out.1.size);obtain⟨kb,hkb⟩:=pE (wr.heap.size);have HKB:Hid (wr.heap.size=kb):=hkb;have HW2:Hid _:=hw2;rw[hkb]at NK;clear hx hxs hcall hfx B2 hw2 hkb
   go_upto_region 5 with(first
    |refine wpList_load_mid rfl 44 _ rfl g (off+j*12) rfl xs.toList _ ryr ha rfl ixl ?_
    |refine wpList_store_row rfl 44 _ _ rfl wr.heap.size xs rfl rfl 44 _ NZ ix ez xone ?_)
   rw[HW2.out,HKB.out];clear ryr NZ HW2 HKB
   go_wp2_with (refine wpList_load_row rfl 44 _ rfl _ rfl 44 _ (0,0) _ NK ha rfl ix ?_)
   refine Calls.mono HC.out ?_;rintro e W3 ⟨rfl,b3⟩;have B3:Hid (Below w1.heap.size w1 W3):=HB2.out.trans (b3.mono HB2.out.size);clear b3 HC NK
   by_cases hlt:c<fx
   ·have hdd:decide ((c:Int)<fx)=true:=decide_eq_true (by omega)
    go_wp2;go_roundg (gk-1)
    case measure=>omega
    case rel=>
     refine⟨j+1,fx,by omega,by go_num,by go_num,hsum,B3.out, ?_⟩;rw[Ac.depths_take _ _ hjk,HY.out.1,HY.out.2,<-HJ.out.2];omega
   have hdd:decide ((c:Int)<fx)=false:=decide_eq_false (by omega);go_wp2;go_roundg (gk-1)
   case measure=>omega
   case rel=>
    refine⟨j+1,c,by omega,by go_num,by go_num,hcb,B3.out, ?_⟩;rw[Ac.depths_take _ _ hjk,HY.out.1,HY.out.2,<-HJ.out.2];omega
theorem Tryz.rIns_any (i:Int)(an:Option Addr)(n cn:Nat)(af:Option Addr)(cf d:Nat)(fs:List Fl)(w:World)(hF:Nt.Fls w w.heap.size d af fs)(hl:fs.length<=100):
  Calls Tryz.prog 145 #[.agg #[.slice an n cn,.slice af fs.length cf],.int .i64 i] w λe w'=>Nt.Gives (Nt.insL fs i) w e w':=by
 obtain⟨i0,hi,hz0,hz1,hz2⟩:=info_parts Tryz.infoIntR;obtain⟨w1,hw1⟩:=pE (w.alloc (.cells #[.slice an n cn,.slice af fs.length cf] 30));have A1:=pB hw1
 obtain⟨m,hm⟩:=pE (fs.length);obtain⟨lf,hlf⟩:=pE (Nt.insL fs i);rw[hm]at hl hw1;rw[hm,hlf];have HF:Hid (Nt.Fls w w.heap.size d af fs/\fs.length=m/\Nt.insL fs i=lf):=⟨hF,hm,hlf⟩;have H1:Hid (w.alloc (.cells #[.slice an n cn,.slice af m cf] 30)=w1):=hw1;have HA:Hid (Below w.heap.size w w1):=A1;clear hF hm hw1 A1 hlf
 go_enter Tryz.func145,Tryz.ntmps145
 go_wp2;rw[H1.out]
 go_loopg [5,11] m (λgk s5 s11 wr=>∃(k r:Nat) (L:List Nat),gk+k=m/\s11=.int .i64 k/\r<=k/\Hid (L=(List.range k).filter (λk=>decide ((fs[k]?.map Fl.to)=some i))/\L.length=r/\Below w.heap.size w wr)/\wr.ownsRow w.heap.size 3 1 s5 r (Rk.nums L))
 case atStart=>exact⟨0,0, [],by omega,rfl,Nat.le_refl _,⟨rfl,rfl,HA.out⟩,World.ownsRow_nil _ _ _ _⟩
 case round=>
  obtain⟨k,r,L,hk,rfl,hr,HB,hown⟩:=hrel;clear H1 HA;obtain⟨av,cv,rfl⟩:=Rk.own_shape hown
  by_cases hlt:k<m
  rotate_left
  ·have hd:decide ((k:Int)<m)=false:=decide_eq_false (by omega)
   go_wp2;go_ret;obtain rfl:k=m:=by omega
   have h1:=HB.out.1;rw[<-HF.out.2.1]at h1;have h2:lf=L:=by rw[<-HF.out.2.2,h1];rfl
   rw[h2];exact⟨_,rfl,by rw[HB.out.2.1];exact hown,HB.out.2.2⟩
  have hd:decide ((k:Int)<m)=true:=decide_eq_true (by omega);have hkl:k<fs.length:=by rw[HF.out.2.1];exact hlt
  obtain⟨q,off,u,rfl,hq,h0,h1,h2,h3,h4,h5,h6⟩:=HF.out.1 k hkl;obtain⟨au,cu,rfl⟩:=h6.shape;obtain⟨f,hf⟩:=pE (fs[k]);rw[hf]at h0 h1 h2 h3 h4 h5;obtain⟨nu,hnu⟩:=pE (f.c.ks.length);obtain⟨fr,hfr⟩:=pE (f.fr);obtain⟨tt,hto⟩:=pE (f.to);obtain⟨els,hel⟩:=pE (f.els);obtain⟨op,hop⟩:=pE (f.c.op);obtain⟨num,hnum⟩:=pE (f.c.num);rw[hnu]at h5;rw[hfr]at h0;rw[hto]at h1;rw[hel]at h2;rw[hop]at h3;rw[hnum]at h4;have hc:∀o,wr.cell? ⟨q,o,none⟩=w.cell? ⟨q,o,none⟩:=λo=>HB.out.2.2.cell (p:=⟨q,o,none⟩) hq;have c0:=(hc _).trans h0;have c1:=(hc _).trans h1;have c2:=(hc _).trans h2;have c3:=(hc _).trans h3;have c4:=(hc _).trans h4;have c5:=(hc _).trans h5;have hu:=Tryz.underlying64;obtain⟨W0,hW0⟩:=pE (wr.alloc (.cells #[.int .i64 fr,.int .i64 tt,.bool els,.int .i64 op,.int .i64 num,.slice au nu cu] 64));have own1:W0.ownsRow w.heap.size 3 1 (.slice av r cv) r (Rk.nums L):=by rw[<-hW0];exact hown.alloc _
  have B0:Hid (Below w.heap.size w W0):=by show Below _ _ _;rw[<-hW0];exact HB.out.2.2.alloc HB.out.2.2.size _
  have hs0:w.heap.size<=W0.heap.size:=B0.out.size;have HW0:Hid (wr.alloc (.cells #[.int .i64 fr,.int .i64 tt,.bool els,.int .i64 op,.int .i64 num,.slice au nu cu] 64)=W0):=hW0
  have HF2:Hid ((List.range (k+1)).filter (λk=>decide ((fs[k]?.map Fl.to)=some i))=L++if tt=i then [k]else []):=by
   show _=_;rw[List.range_succ,List.filter_append,<-HB.out.1]
   congr 1
   simp only[List.filter_cons,List.filter_nil,List.getElem?_eq_getElem hkl,hf,Option.map_some,hto,Option.some.injEq,decide_eq_true_eq]
  clear h0 h1 h2 h3 h4 h5 h6 hc hf hnu hfr hto hel hop hnum hq hown hW0
  by_cases hti:tt=i
  ·have e1:(tt==i)=true:=by simpa using hti
   rw[if_pos hti]at HF2;clear hti
   go_upto_region 6 with fail
   rw[HW0.out]
   go_wp2_with (at_builtin;refine wpList_append_own _ rfl _ _ 111 rfl w.heap.size 3 i0 (.int .i64 0) 1 8 Tryz.underlying111 hi hz0 hz1 hz2 rfl (by decide) _ _ _ rfl (own1.alloc _) ⟨W0.heap.size,0,none⟩ 1 1 [.int .i64 k] rfl rfl (Rk.one_cell W0 k 3) (Rk.one_one k) ?c3 ?c4 ?c5 ?_)
   case c3=>unfold maxLen;omega
   case c4=>omega
   case c5=>simp;omega
   intro v' W2 own2 g2 _;obtain⟨a2,c2',rfl⟩:=Rk.own_shape own2;have B2:Hid (W2.ownsRow w.heap.size 3 1 (.slice a2 (r+1) c2') (r+1) (Rk.nums (L++ [k]))/\Below w.heap.size w W2):=⟨by rw[Rk.nums_snoc];exact own2,Rk.below_grown (B0.out.alloc hs0 _) (by simp;omega) (own1.alloc _) g2⟩;clear own1 own2 g2 HW0;go_wp2;go_roundg (gk-1)
   case measure=>omega
   case rel=>exact⟨k+1,r+1,L++ [k],by omega,by go_num,by omega,⟨HF2.out.symm,by simp[HB.out.2.1],B2.out.2⟩,B2.out.1⟩
  have e1:(tt==i)=false:=by simpa using hti
  rw[if_neg hti,List.append_nil]at HF2;clear hti;go_wp2;rw[HW0.out];go_roundg (gk-1)
  case measure=>omega
  case rel=>exact⟨k+1,r,L,by omega,by go_num,by omega,⟨HF2.out.symm,HB.out.2.1,B0.out⟩,own1⟩
theorem Tryz.rOuts_any (i:Int)(an:Option Addr)(n cn:Nat)(af:Option Addr)(cf d:Nat)(fs:List Fl)(w:World)(hF:Nt.Fls w w.heap.size d af fs)(hl:fs.length<=100):
  Calls Tryz.prog 144 #[.agg #[.slice an n cn,.slice af fs.length cf],.int .i64 i] w λe w'=>Nt.Gives (Nt.outsL fs i) w e w':=by
 obtain⟨i0,hi,hz0,hz1,hz2⟩:=info_parts Tryz.infoIntR;obtain⟨w1,hw1⟩:=pE (w.alloc (.cells #[.slice an n cn,.slice af fs.length cf] 30));have A1:=pB hw1
 obtain⟨m,hm⟩:=pE (fs.length);obtain⟨lf,hlf⟩:=pE (Nt.outsL fs i);rw[hm]at hl hw1;rw[hm,hlf];have HF:Hid (Nt.Fls w w.heap.size d af fs/\fs.length=m/\Nt.outsL fs i=lf):=⟨hF,hm,hlf⟩;have H1:Hid (w.alloc (.cells #[.slice an n cn,.slice af m cf] 30)=w1):=hw1;have HA:Hid (Below w.heap.size w w1):=A1;clear hF hm hw1 A1 hlf
 go_enter Tryz.func144,Tryz.ntmps144
 go_wp2;rw[H1.out]
 go_loopg [5,11] m (λgk s5 s11 wr=>∃(k r:Nat) (L:List Nat),gk+k=m/\s11=.int .i64 k/\r<=k/\Hid (L=(List.range k).filter (λk=>decide ((fs[k]?.map Fl.fr)=some i))/\L.length=r/\Below w.heap.size w wr)/\wr.ownsRow w.heap.size 3 1 s5 r (Rk.nums L))
 case atStart=>exact⟨0,0, [],by omega,rfl,Nat.le_refl _,⟨rfl,rfl,HA.out⟩,World.ownsRow_nil _ _ _ _⟩
 case round=>
  obtain⟨k,r,L,hk,rfl,hr,HB,hown⟩:=hrel;clear H1 HA;obtain⟨av,cv,rfl⟩:=Rk.own_shape hown
  by_cases hlt:k<m
  rotate_left
  ·have hd:decide ((k:Int)<m)=false:=decide_eq_false (by omega)
   go_wp2;go_ret;obtain rfl:k=m:=by omega
   have h1:=HB.out.1;rw[<-HF.out.2.1]at h1;have h2:lf=L:=by rw[<-HF.out.2.2,h1];rfl
   rw[h2];exact⟨_,rfl,by rw[HB.out.2.1];exact hown,HB.out.2.2⟩
  have hd:decide ((k:Int)<m)=true:=decide_eq_true (by omega);have hkl:k<fs.length:=by rw[HF.out.2.1];exact hlt
  obtain⟨q,off,u,rfl,hq,h0,h1,h2,h3,h4,h5,h6⟩:=HF.out.1 k hkl;obtain⟨au,cu,rfl⟩:=h6.shape;obtain⟨f,hf⟩:=pE (fs[k]);rw[hf]at h0 h1 h2 h3 h4 h5;obtain⟨nu,hnu⟩:=pE (f.c.ks.length);obtain⟨fr,hfr⟩:=pE (f.fr);obtain⟨tt,hto⟩:=pE (f.to);obtain⟨els,hel⟩:=pE (f.els);obtain⟨op,hop⟩:=pE (f.c.op);obtain⟨num,hnum⟩:=pE (f.c.num);rw[hnu]at h5;rw[hfr]at h0;rw[hto]at h1;rw[hel]at h2;rw[hop]at h3;rw[hnum]at h4;have hc:∀o,wr.cell? ⟨q,o,none⟩=w.cell? ⟨q,o,none⟩:=λo=>HB.out.2.2.cell (p:=⟨q,o,none⟩) hq;have c0:=(hc _).trans h0;have c1:=(hc _).trans h1;have c2:=(hc _).trans h2;have c3:=(hc _).trans h3;have c4:=(hc _).trans h4;have c5:=(hc _).trans h5;have hu:=Tryz.underlying64;obtain⟨W0,hW0⟩:=pE (wr.alloc (.cells #[.int .i64 fr,.int .i64 tt,.bool els,.int .i64 op,.int .i64 num,.slice au nu cu] 64));have own1:W0.ownsRow w.heap.size 3 1 (.slice av r cv) r (Rk.nums L):=by rw[<-hW0];exact hown.alloc _
  have B0:Hid (Below w.heap.size w W0):=by show Below _ _ _;rw[<-hW0];exact HB.out.2.2.alloc HB.out.2.2.size _
  have hs0:w.heap.size<=W0.heap.size:=B0.out.size;have HW0:Hid (wr.alloc (.cells #[.int .i64 fr,.int .i64 tt,.bool els,.int .i64 op,.int .i64 num,.slice au nu cu] 64)=W0):=hW0
  have HF2:Hid ((List.range (k+1)).filter (λk=>decide ((fs[k]?.map Fl.fr)=some i))=L++if fr=i then [k]else []):=by
   show _=_;rw[List.range_succ,List.filter_append,<-HB.out.1]
   congr 1
   simp only[List.filter_cons,List.filter_nil,List.getElem?_eq_getElem hkl,hf,Option.map_some,hfr,Option.some.injEq,decide_eq_true_eq]
  clear h0 h1 h2 h3 h4 h5 h6 hc hf hnu hfr hto hel hop hnum hq hown hW0
  by_cases hti:fr=i
  ·have e1:(fr==i)=true:=by simpa using hti
   rw[if_pos hti]at HF2;clear hti
   go_upto_region 6 with fail
   rw[HW0.out]
   go_wp2_with (at_builtin;refine wpList_append_own _ rfl _ _ 111 rfl w.heap.size 3 i0 (.int .i64 0) 1 8 Tryz.underlying111 hi hz0 hz1 hz2 rfl (by decide) _ _ _ rfl (own1.alloc _) ⟨W0.heap.size,0,none⟩ 1 1 [.int .i64 k] rfl rfl (Rk.one_cell W0 k 3) (Rk.one_one k) ?c3 ?c4 ?c5 ?_)
   case c3=>unfold maxLen;omega
   case c4=>omega
   case c5=>simp;omega
   intro v' W2 own2 g2 _;obtain⟨a2,c2',rfl⟩:=Rk.own_shape own2;have B2:Hid (W2.ownsRow w.heap.size 3 1 (.slice a2 (r+1) c2') (r+1) (Rk.nums (L++ [k]))/\Below w.heap.size w W2):=⟨by rw[Rk.nums_snoc];exact own2,Rk.below_grown (B0.out.alloc hs0 _) (by simp;omega) (own1.alloc _) g2⟩;clear own1 own2 g2 HW0;go_wp2;go_roundg (gk-1)
   case measure=>omega
   case rel=>exact⟨k+1,r+1,L++ [k],by omega,by go_num,by omega,⟨HF2.out.symm,by simp[HB.out.2.1],B2.out.2⟩,B2.out.1⟩
  have e1:(fr==i)=false:=by simpa using hti
  rw[if_neg hti,List.append_nil]at HF2;clear hti;go_wp2;rw[HW0.out];go_roundg (gk-1)
  case measure=>omega
  case rel=>exact⟨k+1,r,L,by omega,by go_num,by omega,⟨HF2.out.symm,HB.out.2.1,B0.out⟩,own1⟩
end Go.Proofs
