import Derived.Test.YtenaelpdnccgnaaGreatDoorRAcPairs
import Derived.Test.YtenaelpdnccgnaaGreatDoorRAllNtOne
set_option maxRecDepth 100000
set_option maxHeartbeats 32000000
namespace Go.Proofs
open Go.RowKit Go.Shelf
theorem Rk.own_wider {w:World}{B B':Nat}{e:TypeId}{size:Nat}{v:Value}{n:Nat}{cs:List Value}(h:w.ownsRow B e size v n cs)(hB:B'<=B):w.ownsRow B' e size v n cs:=by
 rcases h with⟨hl,h|⟨g,cap,cur,h1,h2,h3⟩⟩
 ·exact⟨hl,.inl h⟩
 exact⟨hl,.inr ⟨g,cap,cur,h1,Nat.le_trans hB h2,h3⟩⟩
theorem Rk.round_hold (bn bl n c:Nat)(a:Option Addr)(es:List (Nat×Nat))(w:World)(hn:n<=64)(hes:∀e,e∈es->e.1<n/\e.2<n)(hbn:bn<w.heap.size)(hbl:bl<w.heap.size)(hcn:w.cell? ⟨bn,0,none⟩=some (.int .i64 n))(hcl:w.cell? ⟨bl,0,none⟩=some (.slice a es.length c))
  (hE:Rk.Eds w w.heap.size a (Rk.up es)) (hm:es.length<=1000000000000000):Rq.Hold 98 #[.pointer (some ⟨bn,0,none⟩),.pointer (some ⟨bl,0,none⟩)] (λi=>Rk.lead es i i) n w:=by
 intro W i hi hW;show Calls Tryz.prog 98 #[.int .i64 i,.pointer (some ⟨bn,0,none⟩),.pointer (some ⟨bl,0,none⟩)] W _;have c0:W.cell? ⟨bn,0,none⟩=some (.int .i64 n):=(hW.cell (p:=⟨bn,0,none⟩) hbn).trans hcn;have c1:W.cell? ⟨bl,0,none⟩=some (.slice a es.length c):=(hW.cell (p:=⟨bl,0,none⟩) hbl).trans hcl;have H1:Hid _:=Tryz.goes_any n i a c es W hn hi hes ((hE.below hW).wider hW.size) hm;clear hcn hcl hE hW hes
 go_enter Tryz.func98,Tryz.ntmps98
 go_wp2_with fail
 refine Calls.mono H1.out ?_;rintro e W2 ⟨rfl,hb⟩;go_wp2;go_ret;exact⟨rfl,hb⟩
theorem Tryz.round_err (n err:Int)(a:Option Addr)(c:Nat)(rs:List (Int×Int))(w:World)(hE:Rk.Eds w w.heap.size a rs)(hm:rs.length<=1000000000000000)(he:Rk.chk n rs=err)(h0:err≠0):
  Calls Tryz.prog 73 #[.int .i64 n,.slice a rs.length c] w λe w'=>e=.returned (.tuple #[.slice none 0 0,.int .i64 err])/\Below w.heap.size w w':=by
 have A0:Below w.heap.size w ((w.alloc (.cells #[.int .i64 n] 3)).alloc (.cells #[.slice a rs.length c] 112)):=((Below.refl _ w).alloc (Nat.le_refl _) _).alloc (by simp) _;have H1:Hid _:=Tryz.rkCheck_any n a c rs ((w.alloc (.cells #[.int .i64 n] 3)).alloc (.cells #[.slice a rs.length c] 112)) ((hE.below A0).wider A0.size) hm;rw[he]at H1;have hd:(err==0)=false:=by simpa using h0
 have HA:Hid _:=A0;obtain⟨m,hmm⟩:=pE (rs.length);rw[hmm]at H1 HA⊢;clear hE hm he hmm h0 A0
 go_enter Tryz.func73,Tryz.ntmps73
 go_wp2_with fail
 refine Calls.mono H1.out ?_;rintro e W1 ⟨rfl,hb⟩;go_wp2;go_ret2;exact⟨rfl,HA.out.trans (hb.mono HA.out.size)⟩
theorem Tryz.round_ok (n:Nat)(a:Option Addr)(c:Nat)(es:List (Nat×Nat))(w:World)(hn:n<=64)(hes:∀e,e∈es->e.1<n/\e.2<n)(hE:Rk.Eds w w.heap.size a (Rk.up es))(hm:es.length<=1000000000000000)(hck:Rk.chk n (Rk.up es)=0):
  Calls Tryz.prog 73 #[.int .i64 n,.slice a es.length c] w λe w'=>∃v,e=.returned (.tuple #[v,.int .i64 0])/\
   w'.ownsRow w.heap.size 3 1 v ((List.range n).filter (λi=>Rk.lead es i i)).length (Rq.nums ((List.range n).filter (λi=>Rk.lead es i i)))/\Below w.heap.size w w':=by
 have A0:Below w.heap.size w ((w.alloc (.cells #[.int .i64 n] 3)).alloc (.cells #[.slice a es.length c] 112)):=((Below.refl _ w).alloc (Nat.le_refl _) _).alloc (by simp) _;have E0:=(hE.below A0).wider A0.size;have H1:Hid _:=Tryz.rkCheck_any n a c (Rk.up es) ((w.alloc (.cells #[.int .i64 n] 3)).alloc (.cells #[.slice a es.length c] 112)) E0 (by rw[Rk.up_length];exact hm);rw[hck,Rk.up_length]at H1
 have HX:Hid (Below w.heap.size w ((w.alloc (.cells #[.int .i64 n] 3)).alloc (.cells #[.slice a es.length c] 112))/\n<=64/\(∀e,e∈es->e.1<n/\e.2<n)/\Rk.Eds ((w.alloc (.cells #[.int .i64 n] 3)).alloc (.cells #[.slice a es.length c] 112)) (w.heap.size+2) a (Rk.up es)/\es.length<=1000000000000000):=
  ⟨A0,hn,hes,by simpa using E0,hm⟩
 clear hE hm hn hes hck A0 E0
 go_enter Tryz.func73,Tryz.ntmps73
 go_wp2_with fail
 refine Calls.mono H1.out ?_;rintro e W1 ⟨rfl,hb⟩;have hb':Below (w.heap.size+2) ((w.alloc (.cells #[.int .i64 n] 3)).alloc (.cells #[.slice a es.length c] 112)) W1:=by simpa using hb
 have hs:=hb'.size;have hz:w.heap.size+2<=W1.heap.size:=by simpa using hs
 have k0:W1.cell? ⟨w.heap.size,0,none⟩=some (.int .i64 n):=by rw[hb'.cell (p:=⟨w.heap.size,0,none⟩) (by show w.heap.size<_;omega)];simp
 have k1:W1.cell? ⟨w.heap.size+1,0,none⟩=some (.slice a es.length c):=by rw[hb'.cell (p:=⟨w.heap.size+1,0,none⟩) (by show w.heap.size+1<_;omega)];simp
 have H2:Hid _:=Tryz.things_any (λi=>Rk.lead es i i) 98 #[.pointer (some ⟨w.heap.size,0,none⟩),.pointer (some ⟨w.heap.size+1,0,none⟩)] Rk.enters_round n W1
  (Rk.round_hold w.heap.size (w.heap.size+1) n c a es W1 HX.out.2.1 HX.out.2.2.1 (by omega) (by omega) k0 k1 ((HX.out.2.2.2.1.below hb').wider hz) HX.out.2.2.2.2) HX.out.2.1
 have HB:Hid (Below w.heap.size w W1):=HX.out.1.trans (hb'.mono (by omega));clear hb hb' hs H1 HX
 go_wp2_with fail
 refine Calls.mono H2.out ?_;rintro e W4 ⟨v,rfl,hown,hb4⟩;obtain⟨av,cv,rfl⟩:=Rq.own_shape hown;go_wp2;go_ret2;exact⟨_,rfl,Rk.own_wider hown HB.out.size,HB.out.trans (hb4.mono HB.out.size)⟩
def Ak.Cn (b:Nat)(n:Nat)(w:World):Prop:=∃x:Int,w.heap[b]? =some (.cells #[.int .i64 x] 3 (0,0))/\(n<2147483648->x=n)
def Ac.stepN (_:Ac)(n:Nat):Bool×Nat:=(true,n+1)
mutual
theorem Ac.go_count:∀(T:Ac) (n:Nat),T.go Ac.stepN n=(true,n+T.size)
 | .mk _ _ _ _ _ _ ks _ _ _,n=>by
   rw[Ac.go,if_pos (show(Ac.stepN _ n).1=true from rfl),Ac.size];show Ac.goes Ac.stepN ks (n+1)=_;rw[Ac.goes_count ks (n+1)]
   congr 1
   omega
theorem Ac.goes_count:∀(l:List Ac) (n:Nat),Ac.goes Ac.stepN l n=(true,n+Ac.sizes l)
 | [],n=>by rw[Ac.goes,Ac.sizes];rfl
 |k::r,n=>by
  rw[Ac.goes,Ac.go_count k n,if_pos rfl,Ac.goes_count r,Ac.sizes]
  congr 1
  show n+k.size+Ac.sizes r=_;omega
end
theorem Tryz.size1_any (x0 x1 x2 x3 x4 x5 x6 x7 x8 x9 x10 x11:Value)(b:Nat)(x:Int)(w:World)(h:w.heap[b]? =some (.cells #[.int .i64 x] 3 (0,0))):
  Calls Tryz.prog 33 #[.agg #[x0,x1,x2,x3,x4,x5,x6,x7,x8,x9,x10,x11],.pointer (some ⟨b,0,none⟩)] w λe w'=>e=.returned (.bool true)/\w'.heap[b]? =some (.cells #[.int .i64 (IntKind.i64.wrap (x+1))] 3 (0,0))/\Tk.But (λx=>x=b) w w':=by
 obtain⟨w1,hw1⟩:=pE (w.alloc (.cells #[x0,x1,x2,x3,x4,x5,x6,x7,x8,x9,x10,x11] 32));have hlt:b<w.heap.size:=(Array.getElem?_eq_some_iff.1 h).1;have A1:=pB hw1
 have h1:w1.heap[b]? =some (.cells #[.int .i64 x] 3 (0,0)):=(A1.block b hlt).trans h;have c0:w1.cell? ⟨b,0,none⟩=some (.int .i64 x):=by simp[World.cell?,h1]
 have f0:w1.frozen? ⟨b,0,none⟩=false:=by simp[World.frozen?,h1]
 obtain⟨y,hy⟩:=pE (IntKind.i64.wrap (x+1));rw[hy];have HP:Hid ((w1.setCell ⟨b,0,none⟩ (.int .i64 y)).heap[b]? =some (.cells #[.int .i64 y] 3 (0,0))/\Tk.But (λx=>x=b) w (w1.setCell ⟨b,0,none⟩ (.int .i64 y))):=⟨by simp[World.setCell,Array.getElem?_modify,h1],(Tk.But.of_below A1).setCell (E:=λk=>k=b) (p:=⟨b,0,none⟩) rfl _⟩;have H1:Hid (w.alloc (.cells #[x0,x1,x2,x3,x4,x5,x6,x7,x8,x9,x10,x11] 32)=w1):=hw1;clear hw1 hlt A1 h1 h
 go_enter Tryz.func33,Tryz.ntmps33
 go_upto_region 1 with fail
 rw[H1.out];go_wp2;go_ret;exact⟨rfl,HP.out.1,HP.out.2⟩
theorem Ak.stepped_size (B e b bw:Nat)(hB:B<=b)(hne:b≠bw):Ak.Stepped Ac.stepN (λ_=>True) 33 #[.pointer (some ⟨b,0,none⟩)] (λn W=>Ak.Cn b n W) (λk=>k=b) B e bw where
 enters:=enters_of Tryz.func33 (by kernel_rfl) rfl
 calls:=λs W d T V _ hI _ _=>by
  obtain⟨x,hx,hn⟩:=hI;obtain⟨y0,y1,y2,y3,y4,y5,y6,y7,y8,y9,y10,y11,hrow⟩:∃y0 y1 y2 y3 y4 y5 y6 y7 y8 y9 y10 y11,Ac.row T V=#[y0,y1,y2,y3,y4,y5,y6,y7,y8,y9,y10,y11]:=⟨_,_,_,_,_,_,_,_,_,_,_,_,rfl⟩;rw[hrow];refine(Tryz.size1_any y0 y1 y2 y3 y4 y5 y6 y7 y8 y9 y10 y11 b x W hx).mono λe w' h=>⟨h.1,⟨_,h.2.1,λhs=> ?_⟩,h.2.2⟩;have hs':s+1<2147483648:=hs;have:=hn (by omega);show IntKind.i64.wrap (x+1)=((s+1:Nat):Int);rw[Go.IntWalk.i64_in _ (by omega)];omega
 keeps:=λs W W' hI hb=>by
  obtain⟨x,hx,hn⟩:=hI;exact⟨x,(hb.block b (Array.getElem?_eq_some_iff.1 hx).1 hne).trans hx,hn⟩
 above:=λk hk=>hk▸hB
 not_bw:=λh=>hne h.symm
theorem Tryz.aSize_any (d e:Nat)(T:Ac)(V:Ac.Vs)(w:World)(hT:Ac.Lies w w.heap.size e d V T)(h0:0<w.heap.size)(hsz:T.size<=2147483647)(hdp:T.depth<=1000):
  Calls Tryz.prog 16 #[.agg (Ac.row T V)] w λe w'=>e=.returned (.int .i64 (T.size:Int))/\Below w.heap.size w w':=by
 obtain⟨x0,x1,x2,x3,x4,x5,x6,x7,x8,x9,x10,x11,hrow⟩:∃x0 x1 x2 x3 x4 x5 x6 x7 x8 x9 x10 x11,Ac.row T V=#[x0,x1,x2,x3,x4,x5,x6,x7,x8,x9,x10,x11]:=⟨_,_,_,_,_,_,_,_,_,_,_,_,rfl⟩;rw[hrow];obtain⟨w1,hw1⟩:=pE (w.alloc (.cells #[x0,x1,x2,x3,x4,x5,x6,x7,x8,x9,x10,x11] 32));obtain⟨w2,hw2⟩:=pE (w1.alloc (.cells #[.int .i64 0] 3));have A1:=pB hw1
 have G1:w1.heap[w.heap.size]? =some (.cells #[x0,x1,x2,x3,x4,x5,x6,x7,x8,x9,x10,x11] 32 (0,0)):=by rw[<-hw1];exact heap_alloc_new w _
 have l1:=(Array.getElem?_eq_some_iff.1 G1).1;have A2:=pB hw2
 have G2:w2.heap[w.heap.size]? =some (.cells #[x0,x1,x2,x3,x4,x5,x6,x7,x8,x9,x10,x11] 32 (0,0)):=(A2.block _ l1).trans G1;have hC:w2.heap[w1.heap.size]? =some (.cells #[.int .i64 0] 3 (0,0)):=by rw[<-hw2];exact heap_alloc_new w1 _
 have l2:=(Array.getElem?_eq_some_iff.1 hC).1;have B2:Below w.heap.size w w2:=A1.trans (A2.mono A1.size);have cc:w2.cell? ⟨w.heap.size,0,none⟩=some x0/\w2.cell? ⟨w.heap.size,1,none⟩=some x1/\w2.cell? ⟨w.heap.size,2,none⟩=some x2/\w2.cell? ⟨w.heap.size,3,none⟩=some x3/\w2.cell? ⟨w.heap.size,4,none⟩=some x4/\w2.cell? ⟨w.heap.size,5,none⟩=some x5/\w2.cell? ⟨w.heap.size,6,none⟩=some x6/\w2.cell? ⟨w.heap.size,7,none⟩=some x7/\w2.cell? ⟨w.heap.size,8,none⟩=some x8/\w2.cell? ⟨w.heap.size,9,none⟩=some x9/\w2.cell? ⟨w.heap.size,10,none⟩=some x10/\w2.cell? ⟨w.heap.size,11,none⟩=some x11:=by simp[World.cell?,G2]
 obtain⟨m0,m1,m2,m3,m4,m5,m6,m7,m8,m9,m10,m11⟩:=cc;have key:=Tryz.athrough_any (step:=Ac.stepN) (P:=λ_=>True) (g:=33) (lb:=#[.pointer (some ⟨w1.heap.size,0,none⟩)]) (Inv:=λn W=>Ak.Cn w1.heap.size n W) (E:=λk=>k=w1.heap.size) (B:=w.heap.size) (e:=e) d 0 T V w2 (λbw hbw=>Ak.stepped_size w.heap.size e w1.heap.size bw (by omega) (by omega)) (hT.below B2) h0 B2.size ⟨0,hC,λ_=>rfl⟩ (λk hk=>by omega) hsz (Ac.all_true T);rw[hrow]at key;have HC:Hid _:=key;obtain⟨R,hR⟩:=pE (T.size);rw[hR];have HR:Hid (T.size=R/\T.depth<=1000/\T.size<=2147483647/\Below w.heap.size w w2/\w.heap.size<w1.heap.size):=⟨hR,hdp,hsz,B2,l1⟩;have H1:Hid (w.alloc (.cells #[x0,x1,x2,x3,x4,x5,x6,x7,x8,x9,x10,x11] 32)=w1):=hw1;have H2:Hid (w1.alloc (.cells #[.int .i64 0] 3)=w2):=hw2;clear key hT hrow hw1 hw2 A1 G1 A2 G2 hC l1 l2 B2 hR hsz hdp
 go_enter Tryz.func16,Tryz.ntmps16
 go_upto_region 1 with fail
 rw[H1.out]
 go_upto_region 2 with fail
 rw[H2.out]
 go_wp2_with fail
 refine Calls.mono HC.out ?_;rintro e W3 ⟨b,rfl,hbt,hend⟩;have h:=HR.out
 have hI:Ak.Cn w1.heap.size R W3:=by
  rcases hend with⟨_,_,h3,_⟩|⟨h4,_⟩
  ·rw[Ac.go_count,Nat.zero_add,h.1]at h3
   exact h3
  exact absurd ⟨h.2.1,h.2.2.1⟩ h4
 obtain⟨x,hx,hxn⟩:=hI;obtain rfl:x=R:=hxn (by omega);have c0:W3.cell? ⟨w1.heap.size,0,none⟩=some (.int .i64 (R:Int)):=by simp[World.cell?,hx]
 have H3:Hid (Below w.heap.size w W3):=h.2.2.2.1.trans (hbt.below h.2.2.2.1.size (λk hk=>by have:=h.2.2.2.2;omega));clear hbt hend HC h hx hxn;go_wp2;go_ret;exact⟨rfl,H3.out⟩
end Go.Proofs
