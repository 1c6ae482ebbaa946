import Derived.Test.YtenaelpdnccgnaaGreatDoorRAcFormed
set_option maxRecDepth 100000
set_option maxHeartbeats 32000000
namespace Go.Proofs
open Go.RowKit Go.Shelf
theorem Tryz.fm_0 (k:Int)(x1 x2 x3 x4 x5 x6 x7 x8 x9 x10 x11:Value)(w:World)(hb:Bool)(hk:k<1∨14<k)(CH0:∀W,Below w.heap.size w W->Calls Tryz.prog 43 #[.agg #[.int .i64 k,x1,x2,x3,x4,x5,x6,x7,x8,x9,x10,x11]] W λe w'=>e=.returned (.bool hb)/\Below W.heap.size W w'):
  Calls Tryz.prog 26 #[.agg #[.int .i64 k,x1,x2,x3,x4,x5,x6,x7,x8,x9,x10,x11]] w λe w'=>e=.returned (.bool false)/\Below w.heap.size w w':=by
 have e1:(k==1)=false:=by simp;omega
 have e2:(k==2)=false:=by simp;omega
 have e3:(k==3)=false:=by simp;omega
 have e4:(k==4)=false:=by simp;omega
 have e5:(k==5)=false:=by simp;omega
 have e6:(k==6)=false:=by simp;omega
 have e7:(k==7)=false:=by simp;omega
 have e8:(k==8)=false:=by simp;omega
 have e9:(k==9)=false:=by simp;omega
 have e10:(k==10)=false:=by simp;omega
 have e11:(k==11)=false:=by simp;omega
 have e12:(k==12)=false:=by simp;omega
 have e13:(k==13)=false:=by simp;omega
 have e14:(k==14)=false:=by simp;omega
 have CH:Hid _:=CH0;obtain⟨w1,hw1⟩:=pE (w.alloc (.cells #[.int .i64 k,x1,x2,x3,x4,x5,x6,x7,x8,x9,x10,x11] 32));have A1:=pB hw1
 have G1:w1.heap[w.heap.size]? =some (.cells #[.int .i64 k,x1,x2,x3,x4,x5,x6,x7,x8,x9,x10,x11] 32 (0,0)):=by rw[<-hw1];exact heap_alloc_new w _
 have ca:w1.cell? ⟨w.heap.size,0,none⟩=some (.int .i64 k)/\w1.cell? ⟨w.heap.size,1,none⟩=some x1/\w1.cell? ⟨w.heap.size,2,none⟩=some x2/\w1.cell? ⟨w.heap.size,3,none⟩=some x3/\w1.cell? ⟨w.heap.size,4,none⟩=some x4/\w1.cell? ⟨w.heap.size,5,none⟩=some x5/\w1.cell? ⟨w.heap.size,6,none⟩=some x6/\w1.cell? ⟨w.heap.size,7,none⟩=some x7/\w1.cell? ⟨w.heap.size,8,none⟩=some x8/\w1.cell? ⟨w.heap.size,9,none⟩=some x9/\w1.cell? ⟨w.heap.size,10,none⟩=some x10/\w1.cell? ⟨w.heap.size,11,none⟩=some x11:=by simp[World.cell?,G1]
 obtain⟨m0,m1,m2,m3,m4,m5,m6,m7,m8,m9,m10,m11⟩:=ca;have H1:Hid (w.alloc (.cells #[.int .i64 k,x1,x2,x3,x4,x5,x6,x7,x8,x9,x10,x11] 32)=w1):=hw1;have HA:Hid (Below w.heap.size w w1/\w1.heap[w.heap.size]? =some (.cells #[.int .i64 k,x1,x2,x3,x4,x5,x6,x7,x8,x9,x10,x11] 32 (0,0))):=⟨A1,G1⟩;have hnb:Ac.hasNodeB k=false:=by unfold Ac.hasNodeB;simp;omega
 clear hw1 A1 G1 CH0 hk
 go_enter Tryz.func26,Tryz.ntmps26
 go_upto_region 1 with fail
 rw[H1.out]
 go_wp2_with fail
 refine Calls.mono (CH.out _ HA.out.1) ?_;rintro e W2 ⟨rfl,hb2⟩;clear H1 CH m0 m1 m2 m3 m4 m5 m6 m7 m8 m9 m10 m11
 go_upto_region 3 with fail
 obtain⟨W3,hW3⟩:=pE (W2.alloc (.cells #[.bool hb] 4));have hx2:W2.heap[w.heap.size]? =some (.cells #[.int .i64 k,x1,x2,x3,x4,x5,x6,x7,x8,x9,x10,x11] 32 (0,0)):=(hb2.block _ (Array.getElem?_eq_some_iff.1 HA.out.2).1).trans HA.out.2;have hl2:=(Array.getElem?_eq_some_iff.1 hx2).1
 have FW3:Hid (Ak.Fm w w.heap.size W2.heap.size #[.int .i64 k,x1,x2,x3,x4,x5,x6,x7,x8,x9,x10,x11] hb W3):=by
  have b3:=pB hW3
  have b2:Below w.heap.size w W2:=HA.out.1.trans (hb2.mono HA.out.1.size);exact⟨(b3.block _ hl2).trans hx2,by rw[<-hW3];exact heap_alloc_new W2 _,by omega,Nat.le_refl _,b2.size,b2.trans (b3.mono b2.size)⟩
 rw[hW3];have k0:W3.cell? ⟨w.heap.size,0,none⟩=some (.int .i64 k):=by simp[World.cell?,FW3.out.box]
 have CN:Hid _:=Tryz.hasNode_any k W3;rw[hnb]at CN;clear hW3 hx2 hl2 hb2 HA hnb
 go_wp2_with fail
 refine Calls.mono CN.out ?_;rintro e W4 ⟨rfl,hw4⟩;obtain rfl:=hw4.symm;clear CN;go_wp2;go_ret;exact⟨rfl,FW3.out.bel⟩
theorem Tryz.aformed_any (d e:Nat)(T:Ac)(V:Ac.Vs)(w:World)(hT:Ac.Lies w w.heap.size e d V T)(hF:T.Fit)(hO:Tk.Ops w)(h0:0<w.heap.size):
  Calls Tryz.prog 26 #[.agg (Ac.row T V)] w λe w'=>Ak.Told T.Formed e/\Below w.heap.size w w':=by
 by_cases hr:T.kind<1∨14<T.kind
 ·have hno:¬T.Formed:=λh=>by
   unfold Ac.Formed at h
   rcases h with h|h|h|h|h|h|h|h|h|h|h|h|h|h|h<;>(have:=h.1;omega)
  have hrow:Ac.row T V=#[.int .i64 T.kind,.int .i64 T.node,.int .i64 T.a,.int .i64 T.b,.int .i64 T.t.op,.int .i64 T.t.num,V.t,V.c,V.k,V.l,V.n,V.f]:=rfl;have CH:∀W,Below w.heap.size w W->Calls Tryz.prog 43 #[.agg (Ac.row T V)] W λe w'=>e=.returned (.bool T.holdsB)/\Below W.heap.size W w':=λW hb=>Tryz.holds_any d e T V W ((hT.below hb).wider hb.size) (by have:=hF.kl;omega);rw[hrow]at CH⊢;exact(Tryz.fm_0 T.kind _ _ _ _ _ _ _ _ _ _ _ w T.holdsB hr CH).mono λe w' h=>⟨by rw[h.1];exact Ak.Told.no hno,h.2⟩
 have hk:T.kind=1∨T.kind=2∨T.kind=3∨T.kind=4∨T.kind=5∨T.kind=6∨T.kind=7∨T.kind=8∨T.kind=9∨T.kind=10∨T.kind=11∨T.kind=12∨T.kind=13∨T.kind=14:=by omega
 rcases hk with hk|hk|hk|hk|hk|hk|hk|hk|hk|hk|hk|hk|hk|hk
 ·exact Tryz.aformed_1 d e T V w hT hF hO h0 hk
 ·exact Tryz.aformed_2 d e T V w hT hF hO h0 hk
 ·exact Tryz.aformed_3 d e T V w hT hF hO h0 hk
 ·exact Tryz.aformed_4 d e T V w hT hF hO h0 hk
 ·exact Tryz.aformed_5 d e T V w hT hF hO h0 hk
 ·exact Tryz.aformed_6 d e T V w hT hF hO h0 hk
 ·exact Tryz.aformed_7 d e T V w hT hF hO h0 hk
 ·exact Tryz.aformed_8 d e T V w hT hF hO h0 hk
 ·exact Tryz.aformed_9 d e T V w hT hF hO h0 hk
 ·exact Tryz.aformed_10 d e T V w hT hF hO h0 hk
 ·exact Tryz.aformed_11 d e T V w hT hF hO h0 hk
 ·by_cases ha:T.a=3
  ·exact Tryz.aformed_12a d e T V w hT hF hO h0 hk ha
  exact Tryz.aformed_12b d e T V w hT hF hO h0 hk ha
 ·exact Tryz.aformed_13 d e T V w hT hF hO h0 hk
 exact Tryz.aformed_14 d e T V w hT hF hO h0 hk
def Ac.twiceB (T:Ac):Bool:= !(T.go Ac.enterS (List.replicate 24 false)).1
theorem Tryz.hasTwice_any (d e:Nat)(T:Ac)(V:Ac.Vs)(w:World)(hT:Ac.Lies w w.heap.size e d V T)(h0:0<w.heap.size)(hsz:T.size<=2147483647)(hdp:T.depth<=1000)(hP:T.All Ac.NodeOk):
  Calls Tryz.prog 27 #[.agg (Ac.row T V)] w λe w'=>e=.returned (.bool T.twiceB)/\Below w.heap.size w w':=by
 obtain⟨x0,x1,x2,x3,x4,x5,x6,x7,x8,x9,x10,x11,hrow⟩:∃x0 x1 x2 x3 x4 x5 x6 x7 x8 x9 x10 x11,Ac.row T V=#[x0,x1,x2,x3,x4,x5,x6,x7,x8,x9,x10,x11]:=⟨_,_,_,_,_,_,_,_,_,_,_,_,rfl⟩;rw[hrow];obtain⟨w1,hw1⟩:=pE (w.alloc (.cells #[x0,x1,x2,x3,x4,x5,x6,x7,x8,x9,x10,x11] 32));obtain⟨w2,hw2⟩:=pE (w1.alloc (.cells #[.bool false,.bool false,.bool false,.bool false,.bool false,.bool false,.bool false,.bool false,.bool false,.bool false,.bool false,.bool false,.bool false,.bool false,.bool false,.bool false,.bool false,.bool false,.bool false,.bool false,.bool false,.bool false,.bool false,.bool false] 89));have A1:=pB hw1
 have G1:w1.heap[w.heap.size]? =some (.cells #[x0,x1,x2,x3,x4,x5,x6,x7,x8,x9,x10,x11] 32 (0,0)):=by rw[<-hw1];exact heap_alloc_new w _
 have l1:=(Array.getElem?_eq_some_iff.1 G1).1;have A2:=pB hw2
 have G2:w2.heap[w.heap.size]? =some (.cells #[x0,x1,x2,x3,x4,x5,x6,x7,x8,x9,x10,x11] 32 (0,0)):=(A2.block _ l1).trans G1
 have hBt:Nt.Bt w2 w1.heap.size (List.replicate 24 false):=by
  show w2.heap[w1.heap.size]? =some (.cells #[.bool false,.bool false,.bool false,.bool false,.bool false,.bool false,.bool false,.bool false,.bool false,.bool false,.bool false,.bool false,.bool false,.bool false,.bool false,.bool false,.bool false,.bool false,.bool false,.bool false,.bool false,.bool false,.bool false,.bool false] 89 (0,0));rw[<-hw2];exact heap_alloc_new w1 _
 have l2:=hBt.lt;have B2:Below w.heap.size w w2:=A1.trans (A2.mono A1.size);have cc:w2.cell? ⟨w.heap.size,0,none⟩=some x0/\w2.cell? ⟨w.heap.size,1,none⟩=some x1/\w2.cell? ⟨w.heap.size,2,none⟩=some x2/\w2.cell? ⟨w.heap.size,3,none⟩=some x3/\w2.cell? ⟨w.heap.size,4,none⟩=some x4/\w2.cell? ⟨w.heap.size,5,none⟩=some x5/\w2.cell? ⟨w.heap.size,6,none⟩=some x6/\w2.cell? ⟨w.heap.size,7,none⟩=some x7/\w2.cell? ⟨w.heap.size,8,none⟩=some x8/\w2.cell? ⟨w.heap.size,9,none⟩=some x9/\w2.cell? ⟨w.heap.size,10,none⟩=some x10/\w2.cell? ⟨w.heap.size,11,none⟩=some x11:=by simp[World.cell?,G2]
 obtain⟨m0,m1,m2,m3,m4,m5,m6,m7,m8,m9,m10,m11⟩:=cc;have key:=Tryz.athrough_any (step:=Ac.enterS) (P:=Ac.NodeOk) (g:=50) (lb:=#[.pointer (some ⟨w1.heap.size,0,none⟩)]) (Inv:=λbs W=>Nt.Bt W w1.heap.size bs/\bs.length=24) (E:=λk=>k=w1.heap.size) (B:=w.heap.size) (e:=e) d (List.replicate 24 false) T V w2 (λbw hbw=>Ak.stepped_twice w.heap.size e w1.heap.size bw (by omega) (by omega)) (hT.below B2) h0 B2.size ⟨hBt,by simp⟩ (λk hk=>by omega) hsz hP;rw[hrow]at key;have HC:Hid _:=key;obtain⟨R,hR⟩:=pE (T.twiceB);rw[hR];have HR:Hid (T.twiceB=R/\T.depth<=1000/\T.size<=2147483647/\Below w.heap.size w w2/\w.heap.size<w1.heap.size):=⟨hR,hdp,hsz,B2,l1⟩;have H1:Hid (w.alloc (.cells #[x0,x1,x2,x3,x4,x5,x6,x7,x8,x9,x10,x11] 32)=w1):=hw1;have H2:Hid (w1.alloc (.cells #[.bool false,.bool false,.bool false,.bool false,.bool false,.bool false,.bool false,.bool false,.bool false,.bool false,.bool false,.bool false,.bool false,.bool false,.bool false,.bool false,.bool false,.bool false,.bool false,.bool false,.bool false,.bool false,.bool false,.bool false] 89)=w2):=hw2;clear key hT hP hrow hw1 hw2 A1 G1 A2 G2 hBt l1 l2 B2 hR hsz hdp
 go_enter Tryz.func27,Tryz.ntmps27
 go_upto_region 1 with fail
 rw[H1.out]
 go_upto_region 2 with fail
 rw[H2.out]
 go_wp2_with fail
 refine Calls.mono HC.out ?_;rintro e W3 ⟨b,rfl,hbt,hend⟩
 have H3:Hid (R= !b/\Below w.heap.size w W3):=by
  have h:=HR.out;refine⟨?_,h.2.2.2.1.trans (hbt.below h.2.2.2.1.size (λk hk=>by have:=h.2.2.2.2;omega))⟩
  rcases hend with⟨_,_,_,h4⟩|⟨h4,_⟩
  ·rw[<-h.1,h4];rfl
  exact absurd ⟨h.2.1,h.2.2.1⟩ h4
 clear hbt hend HC;go_wp2;go_ret;exact⟨Tk.ret_bool H3.out.1.symm,H3.out.2⟩
noncomputable def Ac.formB (T:Ac):Bool:= @decide T.Formed (Classical.propDecidable _)
noncomputable def Ac.stepF (T:Ac)(s:Unit):Bool×Unit:=(T.formB,s)
theorem Ac.formB_iff (T:Ac):T.formB=true↔T.Formed:=⟨λh=> @of_decide_eq_true _ (Classical.propDecidable _) h,λh=> @decide_eq_true _ (Classical.propDecidable _) h⟩
theorem Ac.told_form {T:Ac}{e:Ending}(h:Ak.Told T.Formed e):e=.returned (.bool T.formB):=by
 obtain⟨r,h1,h2⟩:=h;rw[h1]
 congr 2
 rw[Bool.eq_iff_iff,h2,Ac.formB_iff]
mutual
theorem Ac.go_form:∀(T:Ac) (s:Unit),(T.go Ac.stepF s).1=true->T.All Ac.Formed
 | .mk k n a b t c ks l x y,s,h=>by
   rw[Ac.go]at h
   split at h
   ·next h1=>exact⟨(Ac.formB_iff _).1 h1,Ac.goes_form ks _ h⟩
   simp at h
theorem Ac.goes_form:∀(l:List Ac) (s:Unit),(Ac.goes Ac.stepF l s).1=true->Ac.Alls Ac.Formed l
 | [],_,_=>trivial
 |k::r,s,h=>by
  rw[Ac.goes]at h
  split at h
  ·next h1=>exact⟨Ac.go_form k s h1,Ac.goes_form r _ h⟩
  simp at h
end
mutual
theorem Ac.all_mono {P Q:Ac->Prop}(h:∀T,P T->Q T):∀T:Ac,T.All P->T.All Q
 | .mk _ _ _ _ _ _ ks _ _ _,hh=>⟨h _ hh.1,Ac.alls_mono h ks hh.2⟩
theorem Ac.alls_mono {P Q:Ac->Prop}(h:∀T,P T->Q T):∀l:List Ac,Ac.Alls P l->Ac.Alls Q l
 | [],_=>trivial
 |k::r,hh=>⟨Ac.all_mono h k hh.1,Ac.alls_mono h r hh.2⟩
end
theorem Ac.formed_node (T:Ac)(h:T.Formed):T.NodeOk:=by
 intro hn;unfold Ac.Formed at h
 rcases h with h|h|h|h|h|h|h|h|h|h|h|h|h|h|h
 ·rw[h.1]at hn;simp[Ac.hasNodeB]at hn
 ·exact h.2.2.1
 ·exact h.2.2.1
 ·exact h.2.2.1
 ·exact h.2.2.1
 ·exact h.2.2.1
 ·exact h.2.2.1
 ·exact h.2.2.1
 ·exact h.2.2.1
 ·rw[h.1]at hn;simp[Ac.hasNodeB]at hn
 ·rw[h.1]at hn;simp[Ac.hasNodeB]at hn
 ·exact h.2.2.2.1
 ·exact h.2.2.2.1
 ·rw[h.1]at hn;simp[Ac.hasNodeB]at hn
 rw[h.1]at hn;simp[Ac.hasNodeB]at hn
theorem Ak.stepped_form (B e bw:Nat)(hB:0<B)(hbw:0<bw):Ak.Stepped Ac.stepF Ac.Fit 26 #[] (λ_ W=>Tk.Ops W) (λ_=>False) B e bw where
 enters:=enters_of Tryz.func26 (by kernel_rfl) rfl
 calls:=λs W d T V hF hI hBW hT=>(Tryz.aformed_any d e T V W (hT.wider hBW) hF hI (by omega)).mono λe w' h=>⟨Ac.told_form h.1,hI.below h.2 hI.lt,Tk.But.of_below h.2⟩
 keeps:=λ_ W W' hI hb=>hI.keep (hb.block _ hI.lt (by omega))
 above:=λk hk=>hk.elim
 not_bw:=λh=>h
noncomputable def Ac.checkC (T:Ac):Int:=if T.tooB=true then 2 else if T.kind=10∨T.kind=12∨(T.go Ac.stepF ()).1=false then 4 else if T.twiceB=true then 8 else 0
theorem Tryz.aCheck_any (d e:Nat)(T:Ac)(V:Ac.Vs)(w:World)(hT:Ac.Lies w w.heap.size e d V T)(h0:0<w.heap.size)(hsz:T.size<=2147483647)(hF:T.All Ac.Fit)(hO:Tk.Ops w):
  Calls Tryz.prog 11 #[.agg (Ac.row T V)] w λe w'=>e=.returned (.int .i64 T.checkC)/\Below w.heap.size w w':=by
 have CT:∀W,Below w.heap.size w W->Calls Tryz.prog 24 #[.agg (Ac.row T V)] W λe w'=>e=.returned (.bool T.tooB)/\Below W.heap.size W w':=λW hb=>Tryz.atooLarge_any d e T V W ((hT.below hb).wider hb.size) (by have:=hb.size;omega) hsz
 have CF:T.depth<=1000->∀W,Below w.heap.size w W->Calls Tryz.prog 25 #[.agg (Ac.row T V),.func (.func 26) #[] #[]] W λe w'=>e=.returned (.bool (T.go Ac.stepF ()).1)/\Below W.heap.size W w':=λhdp W hb=>by
  have key:=Tryz.athrough_any (step:=Ac.stepF) (P:=Ac.Fit) (g:=26) (lb:=#[]) (Inv:=λ_ W=>Tk.Ops W) (E:=λ_=>False) (B:=w.heap.size) (e:=e) d () T V W (λbw hbw=>Ak.stepped_form w.heap.size e bw h0 (by have:=hO.lt;have:=hb.size;omega)) (hT.below hb) h0 hb.size (hO.below hb hO.lt) (λk hk=>hk.elim) hsz hF;refine key.mono λe w' ⟨b,h1,h2,h3⟩=> ?_
  rcases h3 with⟨_,_,_,h4⟩|⟨h4,_⟩
  ·exact⟨by rw[h1,h4],h2.below (Nat.le_refl _) (λk _ h=>h)⟩
  exact absurd ⟨hdp,hsz⟩ h4
 have CW:T.depth<=1000->(T.go Ac.stepF ()).1=true->∀W,Below w.heap.size w W->Calls Tryz.prog 27 #[.agg (Ac.row T V)] W λe w'=>e=.returned (.bool T.twiceB)/\Below W.heap.size W w':=λhdp hg W hb=>
  Tryz.hasTwice_any d e T V W ((hT.below hb).wider hb.size) (by have:=hb.size;omega) hsz hdp (Ac.all_mono Ac.formed_node T (Ac.go_form T () hg))
 have htoo:T.tooB=false->T.depth<=1000:=λh=>by
  unfold Ac.tooB at h;rw[Bool.not_eq_false',decide_eq_true_eq]at h;omega
 obtain⟨R,hR⟩:=pE (T.checkC);have HR:Hid (R=if T.tooB=true then 2 else if T.kind=10∨T.kind=12∨(T.go Ac.stepF ()).1=false then 4 else if T.twiceB=true then 8 else 0):=by show _=_;rw[<-hR];rfl
 obtain⟨k,hk⟩:=pE (T.kind);obtain⟨x1,x2,x3,x4,x5,x6,x7,x8,x9,x10,x11,hrow⟩:∃x1 x2 x3 x4 x5 x6 x7 x8 x9 x10 x11,Ac.row T V=#[.int .i64 k,x1,x2,x3,x4,x5,x6,x7,x8,x9,x10,x11]:=⟨_,_,_,_,_,_,_,_,_,_,_,by unfold Ac.row;rw[hk]⟩;rw[hrow]at CT CF CW;rw[hrow,hR];rw[hk]at HR;obtain⟨b0,hb0⟩:=pE (T.tooB);obtain⟨b1,hb1⟩:=pE ((T.go Ac.stepF ()).1);obtain⟨b2,hb2⟩:=pE (T.twiceB);rw[hb0]at CT htoo HR;rw[hb1]at CF CW HR;rw[hb2]at CW HR;obtain⟨w1,hw1⟩:=pE (w.alloc (.cells #[.int .i64 k,x1,x2,x3,x4,x5,x6,x7,x8,x9,x10,x11] 32));have A1:=pB hw1
 have G1:w1.heap[w.heap.size]? =some (.cells #[.int .i64 k,x1,x2,x3,x4,x5,x6,x7,x8,x9,x10,x11] 32 (0,0)):=by rw[<-hw1];exact heap_alloc_new w _
 have cA:∀W,Below w1.heap.size w1 W->W.cell? ⟨w.heap.size,0,none⟩=some (.int .i64 k)/\W.cell? ⟨w.heap.size,1,none⟩=some x1/\W.cell? ⟨w.heap.size,2,none⟩=some x2/\W.cell? ⟨w.heap.size,3,none⟩=some x3/\W.cell? ⟨w.heap.size,4,none⟩=some x4/\W.cell? ⟨w.heap.size,5,none⟩=some x5/\W.cell? ⟨w.heap.size,6,none⟩=some x6/\W.cell? ⟨w.heap.size,7,none⟩=some x7/\W.cell? ⟨w.heap.size,8,none⟩=some x8/\W.cell? ⟨w.heap.size,9,none⟩=some x9/\W.cell? ⟨w.heap.size,10,none⟩=some x10/\W.cell? ⟨w.heap.size,11,none⟩=some x11:=λW hb=>by
  have g1:=(hb.block _ (Array.getElem?_eq_some_iff.1 G1).1).trans G1;simp[World.cell?,g1]
 have HCA:Hid _:=cA;have HCT:Hid _:=CT;have HCF:Hid _:=CF;have HCW:Hid _:=CW;have HTO:Hid _:=htoo;have HA:Hid (Below w.heap.size w w1/\∀W,Below w1.heap.size w1 W->Below w.heap.size w W):=⟨A1,λW hb=>A1.trans (hb.mono A1.size)⟩;have H1:Hid (w.alloc (.cells #[.int .i64 k,x1,x2,x3,x4,x5,x6,x7,x8,x9,x10,x11] 32)=w1):=hw1;obtain⟨m0,m1,m2,m3,m4,m5,m6,m7,m8,m9,m10,m11⟩:=cA w1 (Below.refl _ _);clear CT CF CW htoo hR hk hrow hb0 hb1 hb2 hw1 A1 G1 cA hT hsz hF hO h0
 go_enter Tryz.func11,Tryz.ntmps11
 go_upto_region 1 with fail
 rw[H1.out]
 go_wp2_with fail
 refine Calls.mono (HCT.out _ HA.out.1) ?_;rintro e W2 ⟨rfl,hbe2⟩;have B2:Hid (Below w1.heap.size w1 W2):=hbe2;clear hbe2 m0 m1 m2 m3 m4 m5 m6 m7 m8 m9 m10 m11 H1 HCT
 cases b0 with
 |true=>
  go_wp2;go_ret;exact⟨by rw[HR.out];rfl,HA.out.2 _ B2.out⟩
 |false=>
 have hdp:=HTO.out rfl;have HDP:Hid (T.depth<=1000):=hdp;clear hdp HTO;obtain⟨m0,m1,m2,m3,m4,m5,m6,m7,m8,m9,m10,m11⟩:=HCA.out W2 B2.out
 by_cases q1:k=10
 ·subst q1
  clear m1 m2 m3 m4 m5 m6 m7 m8 m9 m10 m11;go_wp2;go_ret;exact⟨by rw[HR.out];rfl,HA.out.2 _ B2.out⟩
 have e1:(k==10)=false:=by simpa using q1
 by_cases q2:k=12
 ·subst q2
  clear m1 m2 m3 m4 m5 m6 m7 m8 m9 m10 m11 q1 e1;go_wp2;go_ret;exact⟨by rw[HR.out];rfl,HA.out.2 _ B2.out⟩
 have e2:(k==12)=false:=by simpa using q2
 have HK:Hid (¬k=10/\¬k=12):=⟨q1,q2⟩;clear q1 q2
 go_wp2_with fail
 refine Calls.mono (HCF.out HDP.out _ (HA.out.2 _ B2.out)) ?_;rintro e W3 ⟨rfl,hbe3⟩;have B3:Hid (Below w1.heap.size w1 W3):=B2.out.trans (hbe3.mono B2.out.size);clear hbe3 m0 m1 m2 m3 m4 m5 m6 m7 m8 m9 m10 m11 HCF
 cases b1 with
 |false=>
  go_wp2;go_ret;exact⟨by rw[HR.out,if_neg (by decide),if_pos (.inr (.inr (by first|rfl|trivial)))];rfl,HA.out.2 _ B3.out⟩
 |true=>
 obtain⟨m0,m1,m2,m3,m4,m5,m6,m7,m8,m9,m10,m11⟩:=HCA.out W3 B3.out
 go_wp2_with fail
 refine Calls.mono (HCW.out HDP.out (by first|rfl|trivial) _ (HA.out.2 _ B3.out)) ?_;rintro e W4 ⟨rfl,hbe4⟩;have B4:Hid (Below w1.heap.size w1 W4):=B3.out.trans (hbe4.mono B3.out.size);clear hbe4 m0 m1 m2 m3 m4 m5 m6 m7 m8 m9 m10 m11 HCW
 have HRR:Hid (R=if b2=true then 8 else 0):=by
  show _=_;rw[HR.out,if_neg (by decide),if_neg (by rintro(h|h|h);exact HK.out.1 h;exact HK.out.2 h;cases h)]
 cases b2 with
 |true=>
  go_wp2;go_ret;exact⟨by rw[HRR.out];rfl,HA.out.2 _ B4.out⟩
 |false=>
  go_wp2;go_ret;exact⟨by rw[HRR.out];rfl,HA.out.2 _ B4.out⟩
end Go.Proofs
