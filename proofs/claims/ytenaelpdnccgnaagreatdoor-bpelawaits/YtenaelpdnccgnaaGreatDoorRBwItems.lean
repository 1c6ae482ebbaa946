import Derived.Test.YtenaelpdnccgnaaGreatDoorRAcFormed
import Derived.Test.YtenaelpdnccgnaaGreatDoorRAcSame2
set_option maxRecDepth 100000
set_option maxHeartbeats 32000000
namespace Go.Proofs
open Go.RowKit Go.Shelf
theorem Tryz.bwItems (kb cap:Nat)(k1 n1 k2 n2:Int)(w:World)(hT:Bw.Two kb k1 n1 k2 n2 w)(hK:kb<w.heap.size):
  Calls Tryz.prog 14 #[.agg (Bw.root kb cap)] w λe w'=>∃g c,e=.returned (.slice (some ⟨g,0,none⟩) 3 c)/\Below w.heap.size w w':=by
 obtain⟨w1,hw1⟩:=pE (w.alloc (.cells (Bw.root kb cap) 32));have B1:=pB hw1;have N1:=pH hw1;have s1:w1.heap.size=w.heap.size+1:=by rw[<-hw1];simp
 obtain⟨w2,hw2⟩:=pE (w1.alloc (.cells #[.int .i64 11184810] 3));have X2:Bw.Bx w1.heap.size 11184810 w2:=pH hw2;have B2:=pB hw2;have N2:w2.heap[w.heap.size]? =some (.cells (Bw.root kb cap) 32 (0,0)):=(B2.block _ (by omega)).trans N1;have b02:Below w.heap.size w w2:=B1.trans (B2.mono B1.size);have hu:=Tryz.underlying32
 have HB:Hid (∀W,Tk.But (λi=>i=w1.heap.size) w2 W->W.heap[w.heap.size]? =some (.cells (Bw.root kb cap) 32 (0,0))/\Below w.heap.size w W/\Bw.Two kb k1 n1 k2 n2 W/\kb<W.heap.size):=λW hb=>by
  have h1:Below w.heap.size w W:=b02.trans (hb.below b02.size (by intro k hk e;omega));exact⟨(hb.block _ (by have:=B2.size;omega) (by omega)).trans N2,h1,hT.keep (h1.block kb hK),Nat.lt_of_lt_of_le hK h1.size⟩
 have C1:Hid _:=Tryz.bwRes_root kb cap k1 n1 k2 n2 w1.heap.size 11184810 w2 X2 (HB.out w2 (.refl _ _)).2.2.1 (HB.out w2 (.refl _ _)).2.2.2 (by omega) (by decide) (by decide);have H1:Hid _:=hw1;have H2:Hid _:=hw2;clear hT hK hw1 hw2 B1 N1 s1 X2 B2 b02
 go_enter Tryz.func14,Tryz.ntmps14
 go_upto_region 1 with fail
 rw[H1.out]
 go_upto_region 2 with fail
 rw[H2.out];clear H1 H2
 go_wp2_with (refine wpList_load_row rfl 32 _ rfl _ rfl 32 _ (0,0) _ N2 hu rfl Bw.info ?_)
 refine Calls.mono C1.out ?_;rintro e W3 ⟨rfl,b3⟩;obtain⟨N3,h3,T3,k3⟩:=HB.out W3 b3;have H3:Hid (Below w.heap.size w W3/\Bw.Two kb k1 n1 k2 n2 W3/\kb<W3.heap.size):=⟨h3,T3,k3⟩;have C2:Hid _:=Tryz.bwList_root kb cap k1 n1 k2 n2 W3 T3 k3;clear b3 HB C1 N2 h3 T3 k3
 go_upto_region 4 with fail
 go_wp2_with (refine wpList_load_row rfl 32 _ rfl _ rfl 32 _ (0,0) _ N3 hu rfl Bw.info ?_)
 refine Calls.mono C2.out ?_;rintro e W4 ⟨g,c,rfl,o4,b4⟩
 have C3:Hid (Calls Tryz.prog 32 #[.slice (some ⟨g,0,none⟩) 3 c] W4 λe w'=>e=.returned (.tuple #[])/\Below w.heap.size w w'):=by
  rcases o4.2 with⟨e,_⟩|⟨g',cap',cur,hv,hge,hgc,hc1,_,hc3,hc4⟩
  ·simp at e
  simp only[Value.slice.injEq,Option.some.injEq,Addr.mk.injEq]at hv;obtain⟨⟨rfl,-,-⟩,-,rfl⟩:=hv;have hx:∀o (r:Array Value),r.size=12->o+12<=42->(∀i,i<12->(Bw.item (-1) 0 (Bw.root kb cap)++Bw.item 0 0 (Bw.leaf k1 n1)++Bw.item 0 1 (Bw.leaf k2 n2))[o+i]? =r[i]?)->Bw.At g o r W4:=λo r _ ho h=>Bw.At.of_take hgc hc4 o r h ho;refine(Tryz.bwPart g c kb cap k1 n1 k2 n2 W4 (hx 2 _ rfl (by decide) λi hi=> ?_) (hx 16 _ rfl (by decide) λi hi=> ?_) (hx 30 _ rfl (by decide) λi hi=> ?_) (H3.out.2.1.keep (b4.block kb H3.out.2.2)) (Nat.lt_of_lt_of_le H3.out.2.2 b4.size)).mono ?_
  ·match i,hi with
   |0,_|1,_|2,_|3,_|4,_|5,_|6,_|7,_|8,_|9,_|10,_|11,_=>rfl
  ·match i,hi with
   |0,_|1,_|2,_|3,_|4,_|5,_|6,_|7,_|8,_|9,_|10,_|11,_=>rfl
  ·match i,hi with
   |0,_|1,_|2,_|3,_|4,_|5,_|6,_|7,_|8,_|9,_|10,_|11,_=>rfl
  rintro e w' ⟨h1,h2⟩;have hs:=H3.out.1.size;have hb4:Below w.heap.size w W4:=H3.out.1.trans (b4.mono hs);exact⟨h1,hb4.trans (h2.below hb4.size (by intro k hk e;omega))⟩
 clear o4 b4 C2 N3
 go_wp2_with fail
 refine Calls.mono C3.out ?_;rintro e W5 ⟨rfl,b5⟩;have HE:Hid _:=b5;clear b5 C3;go_wp2;go_ret;exact⟨g,c,rfl,HE.out⟩
def Ac.twiceB (T:Ac):Bool:= !(T.go Ac.enterS (List.replicate 24 false)).1
theorem Tryz.hasTwice_any (d e:Nat)(T:Ac)(V:Ac.Vs)(w:World)(hT:Ac.Lies w w.heap.size e d V T)(h0:0<w.heap.size)(hsz:T.size<=2147483647)(hdp:T.depth<=1000)(hP:T.All Ac.NodeOk):
  Calls Tryz.prog 27 #[.agg (Ac.row T V)] w λe w'=>e=.returned (.bool T.twiceB)/\Below w.heap.size w w':=by
 obtain⟨x0,x1,x2,x3,x4,x5,x6,x7,x8,x9,x10,x11,hrow⟩:∃x0 x1 x2 x3 x4 x5 x6 x7 x8 x9 x10 x11,Ac.row T V=#[x0,x1,x2,x3,x4,x5,x6,x7,x8,x9,x10,x11]:=⟨_,_,_,_,_,_,_,_,_,_,_,_,rfl⟩;rw[hrow];obtain⟨w1,hw1⟩:=pE (w.alloc (.cells #[x0,x1,x2,x3,x4,x5,x6,x7,x8,x9,x10,x11] 32));obtain⟨w2,hw2⟩:=pE (w1.alloc (.cells #[.bool false,.bool false,.bool false,.bool false,.bool false,.bool false,.bool false,.bool false,.bool false,.bool false,.bool false,.bool false,.bool false,.bool false,.bool false,.bool false,.bool false,.bool false,.bool false,.bool false,.bool false,.bool false,.bool false,.bool false] 89));have A1:=pB hw1
 have G1:w1.heap[w.heap.size]? =some (.cells #[x0,x1,x2,x3,x4,x5,x6,x7,x8,x9,x10,x11] 32 (0,0)):=by rw[<-hw1];exact heap_alloc_new w _
 have l1:=(Array.getElem?_eq_some_iff.1 G1).1;have A2:=pB hw2
 have G2:w2.heap[w.heap.size]? =some (.cells #[x0,x1,x2,x3,x4,x5,x6,x7,x8,x9,x10,x11] 32 (0,0)):=(A2.block _ l1).trans G1
 have hBt:Nt.Bt w2 w1.heap.size (List.replicate 24 false):=by
  show w2.heap[w1.heap.size]? =some (.cells #[.bool false,.bool false,.bool false,.bool false,.bool false,.bool false,.bool false,.bool false,.bool false,.bool false,.bool false,.bool false,.bool false,.bool false,.bool false,.bool false,.bool false,.bool false,.bool false,.bool false,.bool false,.bool false,.bool false,.bool false] 89 (0,0));rw[<-hw2];exact heap_alloc_new w1 _
 have l2:=hBt.lt;have B2:Below w.heap.size w w2:=A1.trans (A2.mono A1.size);have cc:w2.cell? ⟨w.heap.size,0,none⟩=some x0/\w2.cell? ⟨w.heap.size,1,none⟩=some x1/\w2.cell? ⟨w.heap.size,2,none⟩=some x2/\w2.cell? ⟨w.heap.size,3,none⟩=some x3/\w2.cell? ⟨w.heap.size,4,none⟩=some x4/\w2.cell? ⟨w.heap.size,5,none⟩=some x5/\w2.cell? ⟨w.heap.size,6,none⟩=some x6/\w2.cell? ⟨w.heap.size,7,none⟩=some x7/\w2.cell? ⟨w.heap.size,8,none⟩=some x8/\w2.cell? ⟨w.heap.size,9,none⟩=some x9/\w2.cell? ⟨w.heap.size,10,none⟩=some x10/\w2.cell? ⟨w.heap.size,11,none⟩=some x11:=by simp[World.cell?,G2]
 obtain⟨m0,m1,m2,m3,m4,m5,m6,m7,m8,m9,m10,m11⟩:=cc;have key:=Tryz.athrough_any (step:=Ac.enterS) (P:=Ac.NodeOk) (g:=50) (lb:=#[.pointer (some ⟨w1.heap.size,0,none⟩)]) (Inv:=λbs W=>Nt.Bt W w1.heap.size bs/\bs.length=24) (E:=λk=>k=w1.heap.size) (B:=w.heap.size) (e:=e) d (List.replicate 24 false) T V w2 (λbw hbw=>Ak.stepped_twice w.heap.size e w1.heap.size bw (by omega) (by omega)) (hT.below B2) h0 B2.size ⟨hBt,by simp⟩ (λk hk=>by omega) hsz hP;rw[hrow]at key;have HC:Hid _:=key;obtain⟨R,hR⟩:=pE (T.twiceB);rw[hR];have HR:Hid (T.twiceB=R/\T.depth<=1000/\T.size<=2147483647/\Below w.heap.size w w2/\w.heap.size<w1.heap.size):=⟨hR,hdp,hsz,B2,l1⟩;have H1:Hid (w.alloc (.cells #[x0,x1,x2,x3,x4,x5,x6,x7,x8,x9,x10,x11] 32)=w1):=hw1;have H2:Hid (w1.alloc (.cells #[.bool false,.bool false,.bool false,.bool false,.bool false,.bool false,.bool false,.bool false,.bool false,.bool false,.bool false,.bool false,.bool false,.bool false,.bool false,.bool false,.bool false,.bool false,.bool false,.bool false,.bool false,.bool false,.bool false,.bool false] 89)=w2):=hw2;clear key hT hP hrow hw1 hw2 A1 G1 A2 G2 hBt l1 l2 B2 hR hsz hdp
 go_enter Tryz.func27,Tryz.ntmps27
 go_upto_region 1 with fail
 rw[H1.out]
 go_upto_region 2 with fail
 rw[H2.out]
 go_wp2_with fail
 refine Calls.mono HC.out ?_;rintro e W3 ⟨b,rfl,hbt,hend⟩
 have H3:Hid (R= !b/\Below w.heap.size w W3):=by
  have h:=HR.out;refine⟨?_,h.2.2.2.1.trans (hbt.below h.2.2.2.1.size (λk hk=>by have:=h.2.2.2.2;omega))⟩
  rcases hend with⟨_,_,_,h4⟩|⟨h4,_⟩
  ·rw[<-h.1,h4];rfl
  exact absurd ⟨h.2.1,h.2.2.1⟩ h4
 clear hbt hend HC;go_wp2;go_ret;exact⟨Tk.ret_bool H3.out.1.symm,H3.out.2⟩
noncomputable def Ac.formB (T:Ac):Bool:= @decide T.Formed (Classical.propDecidable _)
noncomputable def Ac.stepF (T:Ac)(s:Unit):Bool×Unit:=(T.formB,s)
theorem Ac.formB_iff (T:Ac):T.formB=true↔T.Formed:=⟨λh=> @of_decide_eq_true _ (Classical.propDecidable _) h,λh=> @decide_eq_true _ (Classical.propDecidable _) h⟩
theorem Ac.told_form {T:Ac}{e:Ending}(h:Ak.Told T.Formed e):e=.returned (.bool T.formB):=by
 obtain⟨r,h1,h2⟩:=h;rw[h1]
 congr 2
 rw[Bool.eq_iff_iff,h2,Ac.formB_iff]
mutual
theorem Ac.go_form:∀(T:Ac) (s:Unit),(T.go Ac.stepF s).1=true->T.All Ac.Formed
 | .mk k n a b t c ks l x y,s,h=>by
   rw[Ac.go]at h
   split at h
   ·next h1=>exact⟨(Ac.formB_iff _).1 h1,Ac.goes_form ks _ h⟩
   simp at h
theorem Ac.goes_form:∀(l:List Ac) (s:Unit),(Ac.goes Ac.stepF l s).1=true->Ac.Alls Ac.Formed l
 | [],_,_=>trivial
 |k::r,s,h=>by
  rw[Ac.goes]at h
  split at h
  ·next h1=>exact⟨Ac.go_form k s h1,Ac.goes_form r _ h⟩
  simp at h
end
mutual
theorem Ac.all_mono {P Q:Ac->Prop}(h:∀T,P T->Q T):∀T:Ac,T.All P->T.All Q
 | .mk _ _ _ _ _ _ ks _ _ _,hh=>⟨h _ hh.1,Ac.alls_mono h ks hh.2⟩
theorem Ac.alls_mono {P Q:Ac->Prop}(h:∀T,P T->Q T):∀l:List Ac,Ac.Alls P l->Ac.Alls Q l
 | [],_=>trivial
 |k::r,hh=>⟨Ac.all_mono h k hh.1,Ac.alls_mono h r hh.2⟩
end
theorem Ac.formed_node (T:Ac)(h:T.Formed):T.NodeOk:=by
 intro hn;unfold Ac.Formed at h
 rcases h with h|h|h|h|h|h|h|h|h|h|h|h|h|h|h
 ·rw[h.1]at hn;simp[Ac.hasNodeB]at hn
 ·exact h.2.2.1
 ·exact h.2.2.1
 ·exact h.2.2.1
 ·exact h.2.2.1
 ·exact h.2.2.1
 ·exact h.2.2.1
 ·exact h.2.2.1
 ·exact h.2.2.1
 ·rw[h.1]at hn;simp[Ac.hasNodeB]at hn
 ·rw[h.1]at hn;simp[Ac.hasNodeB]at hn
 ·exact h.2.2.2.1
 ·exact h.2.2.2.1
 ·rw[h.1]at hn;simp[Ac.hasNodeB]at hn
 rw[h.1]at hn;simp[Ac.hasNodeB]at hn
theorem Ak.stepped_form (B e bw:Nat)(hB:0<B)(hbw:0<bw):Ak.Stepped Ac.stepF Ac.Fit 26 #[] (λ_ W=>Tk.Ops W) (λ_=>False) B e bw where
 enters:=enters_of Tryz.func26 (by kernel_rfl) rfl
 calls:=λs W d T V hF hI hBW hT=>(Tryz.aformed_any d e T V W (hT.wider hBW) hF hI (by omega)).mono λe w' h=>⟨Ac.told_form h.1,hI.below h.2 hI.lt,Tk.But.of_below h.2⟩
 keeps:=λ_ W W' hI hb=>hI.keep (hb.block _ hI.lt (by omega))
 above:=λk hk=>hk.elim
 not_bw:=λh=>h
noncomputable def Ac.checkC (T:Ac):Int:=if T.tooB=true then 2 else if T.kind=10∨T.kind=12∨(T.go Ac.stepF ()).1=false then 4 else if T.twiceB=true then 8 else 0
theorem Tryz.aCheck_any (d e:Nat)(T:Ac)(V:Ac.Vs)(w:World)(hT:Ac.Lies w w.heap.size e d V T)(h0:0<w.heap.size)(hsz:T.size<=2147483647)(hF:T.All Ac.Fit)(hO:Tk.Ops w):
  Calls Tryz.prog 11 #[.agg (Ac.row T V)] w λe w'=>e=.returned (.int .i64 T.checkC)/\Below w.heap.size w w':=by
 have CT:∀W,Below w.heap.size w W->Calls Tryz.prog 24 #[.agg (Ac.row T V)] W λe w'=>e=.returned (.bool T.tooB)/\Below W.heap.size W w':=λW hb=>Tryz.atooLarge_any d e T V W ((hT.below hb).wider hb.size) (by have:=hb.size;omega) hsz
 have CF:T.depth<=1000->∀W,Below w.heap.size w W->Calls Tryz.prog 25 #[.agg (Ac.row T V),.func (.func 26) #[] #[]] W λe w'=>e=.returned (.bool (T.go Ac.stepF ()).1)/\Below W.heap.size W w':=λhdp W hb=>by
  have key:=Tryz.athrough_any (step:=Ac.stepF) (P:=Ac.Fit) (g:=26) (lb:=#[]) (Inv:=λ_ W=>Tk.Ops W) (E:=λ_=>False) (B:=w.heap.size) (e:=e) d () T V W (λbw hbw=>Ak.stepped_form w.heap.size e bw h0 (by have:=hO.lt;have:=hb.size;omega)) (hT.below hb) h0 hb.size (hO.below hb hO.lt) (λk hk=>hk.elim) hsz hF;refine key.mono λe w' ⟨b,h1,h2,h3⟩=> ?_
  rcases h3 with⟨_,_,_,h4⟩|⟨h4,_⟩
  ·exact⟨by rw[h1,h4],h2.below (Nat.le_refl _) (λk _ h=>h)⟩
  exact absurd ⟨hdp,hsz⟩ h4
 have CW:T.depth<=1000->(T.go Ac.stepF ()).1=true->∀W,Below w.heap.size w W->Calls Tryz.prog 27 #[.agg (Ac.row T V)] W λe w'=>e=.returned (.bool T.twiceB)/\Below W.heap.size W w':=λhdp hg W hb=>
  Tryz.hasTwice_any d e T V W ((hT.below hb).wider hb.size) (by have:=hb.size;omega) hsz hdp (Ac.all_mono Ac.formed_node T (Ac.go_form T () hg))
 have htoo:T.tooB=false->T.depth<=1000:=λh=>by
  unfold Ac.tooB at h;rw[Bool.not_eq_false',decide_eq_true_eq]at h;omega
 obtain⟨R,hR⟩:=pE (T.checkC);have HR:Hid (R=if T.tooB=true then 2 else if T.kind=10∨T.kind=12∨(T.go Ac.stepF ()).1=false then 4 else if T.twiceB=true then 8 else 0):=by show _=_;rw[<-hR];rfl
 obtain⟨k,hk⟩:=pE (T.kind);obtain⟨x1,x2,x3,x4,x5,x6,x7,x8,x9,x10,x11,hrow⟩:∃x1 x2 x3 x4 x5 x6 x7 x8 x9 x10 x11,Ac.row T V=#[.int .i64 k,x1,x2,x3,x4,x5,x6,x7,x8,x9,x10,x11]:=⟨_,_,_,_,_,_,_,_,_,_,_,by unfold Ac.row;rw[hk]⟩;rw[hrow]at CT CF CW;rw[hrow,hR];rw[hk]at HR;obtain⟨b0,hb0⟩:=pE (T.tooB);obtain⟨b1,hb1⟩:=pE ((T.go Ac.stepF ()).1);obtain⟨b2,hb2⟩:=pE (T.twiceB);rw[hb0]at CT htoo HR;rw[hb1]at CF CW HR;rw[hb2]at CW HR;obtain⟨w1,hw1⟩:=pE (w.alloc (.cells #[.int .i64 k,x1,x2,x3,x4,x5,x6,x7,x8,x9,x10,x11] 32));have A1:=pB hw1
 have G1:w1.heap[w.heap.size]? =some (.cells #[.int .i64 k,x1,x2,x3,x4,x5,x6,x7,x8,x9,x10,x11] 32 (0,0)):=by rw[<-hw1];exact heap_alloc_new w _
 have cA:∀W,Below w1.heap.size w1 W->W.cell? ⟨w.heap.size,0,none⟩=some (.int .i64 k)/\W.cell? ⟨w.heap.size,1,none⟩=some x1/\W.cell? ⟨w.heap.size,2,none⟩=some x2/\W.cell? ⟨w.heap.size,3,none⟩=some x3/\W.cell? ⟨w.heap.size,4,none⟩=some x4/\W.cell? ⟨w.heap.size,5,none⟩=some x5/\W.cell? ⟨w.heap.size,6,none⟩=some x6/\W.cell? ⟨w.heap.size,7,none⟩=some x7/\W.cell? ⟨w.heap.size,8,none⟩=some x8/\W.cell? ⟨w.heap.size,9,none⟩=some x9/\W.cell? ⟨w.heap.size,10,none⟩=some x10/\W.cell? ⟨w.heap.size,11,none⟩=some x11:=λW hb=>by
  have g1:=(hb.block _ (Array.getElem?_eq_some_iff.1 G1).1).trans G1;simp[World.cell?,g1]
 have HCA:Hid _:=cA;have HCT:Hid _:=CT;have HCF:Hid _:=CF;have HCW:Hid _:=CW;have HTO:Hid _:=htoo;have HA:Hid (Below w.heap.size w w1/\∀W,Below w1.heap.size w1 W->Below w.heap.size w W):=⟨A1,λW hb=>A1.trans (hb.mono A1.size)⟩;have H1:Hid (w.alloc (.cells #[.int .i64 k,x1,x2,x3,x4,x5,x6,x7,x8,x9,x10,x11] 32)=w1):=hw1;obtain⟨m0,m1,m2,m3,m4,m5,m6,m7,m8,m9,m10,m11⟩:=cA w1 (Below.refl _ _);clear CT CF CW htoo hR hk hrow hb0 hb1 hb2 hw1 A1 G1 cA hT hsz hF hO h0
 go_enter Tryz.func11,Tryz.ntmps11
 go_upto_region 1 with fail
 rw[H1.out]
 go_wp2_with fail
 refine Calls.mono (HCT.out _ HA.out.1) ?_;rintro e W2 ⟨rfl,hbe2⟩;have B2:Hid (Below w1.heap.size w1 W2):=hbe2;clear hbe2 m0 m1 m2 m3 m4 m5 m6 m7 m8 m9 m10 m11 H1 HCT
 cases b0 with
 |true=>
  go_wp2;go_ret;exact⟨by rw[HR.out];rfl,HA.out.2 _ B2.out⟩
 |false=>
 have hdp:=HTO.out rfl;have HDP:Hid (T.depth<=1000):=hdp;clear hdp HTO;obtain⟨m0,m1,m2,m3,m4,m5,m6,m7,m8,m9,m10,m11⟩:=HCA.out W2 B2.out
 by_cases q1:k=10
 ·subst q1
  clear m1 m2 m3 m4 m5 m6 m7 m8 m9 m10 m11;go_wp2;go_ret;exact⟨by rw[HR.out];rfl,HA.out.2 _ B2.out⟩
 have e1:(k==10)=false:=by simpa using q1
 by_cases q2:k=12
 ·subst q2
  clear m1 m2 m3 m4 m5 m6 m7 m8 m9 m10 m11 q1 e1;go_wp2;go_ret;exact⟨by rw[HR.out];rfl,HA.out.2 _ B2.out⟩
 have e2:(k==12)=false:=by simpa using q2
 have HK:Hid (¬k=10/\¬k=12):=⟨q1,q2⟩;clear q1 q2
 go_wp2_with fail
 refine Calls.mono (HCF.out HDP.out _ (HA.out.2 _ B2.out)) ?_;rintro e W3 ⟨rfl,hbe3⟩;have B3:Hid (Below w1.heap.size w1 W3):=B2.out.trans (hbe3.mono B2.out.size);clear hbe3 m0 m1 m2 m3 m4 m5 m6 m7 m8 m9 m10 m11 HCF
 cases b1 with
 |false=>
  go_wp2;go_ret;exact⟨by rw[HR.out,if_neg (by decide),if_pos (.inr (.inr (by first|rfl|trivial)))];rfl,HA.out.2 _ B3.out⟩
 |true=>
 obtain⟨m0,m1,m2,m3,m4,m5,m6,m7,m8,m9,m10,m11⟩:=HCA.out W3 B3.out
 go_wp2_with fail
 refine Calls.mono (HCW.out HDP.out (by first|rfl|trivial) _ (HA.out.2 _ B3.out)) ?_;rintro e W4 ⟨rfl,hbe4⟩;have B4:Hid (Below w1.heap.size w1 W4):=B3.out.trans (hbe4.mono B3.out.size);clear hbe4 m0 m1 m2 m3 m4 m5 m6 m7 m8 m9 m10 m11 HCW
 have HRR:Hid (R=if b2=true then 8 else 0):=by
  show _=_;rw[HR.out,if_neg (by decide),if_neg (by rintro(h|h|h);exact HK.out.1 h;exact HK.out.2 h;cases h)]
 cases b2 with
 |true=>
  go_wp2;go_ret;exact⟨by rw[HRR.out];rfl,HA.out.2 _ B4.out⟩
 |false=>
  go_wp2;go_ret;exact⟨by rw[HRR.out];rfl,HA.out.2 _ B4.out⟩
theorem Tryz.anestSame_any (d d' B e e':Nat)(S T:Ac)(U V:Ac.Vs)(w:World)(hS:Ac.Lies w B e d U S)(hT:Ac.Lies w B e' d' V T)(hB:0<B)(hBs:B<=w.heap.size)(hsz:S.size<=2147483647)(hdp:S.depth<=1000)(hF:S.All Ac.Fit):
  Calls Tryz.prog 38 #[.agg #[.func (.func 60) #[] #[],.int .i64 1000,.int .i64 2147483647],.agg (Ac.row S U),.agg (Ac.row T V),.func (.func 40) #[] #[]] w λe w'=>Ak.Told (S=T) e/\Below w.heap.size w w':=by
 obtain⟨y0,y1,y2,y3,y4,y5,y6,y7,y8,y9,y10,y11,hyr⟩:∃y0 y1 y2 y3 y4 y5 y6 y7 y8 y9 y10 y11,Ac.row S U=#[y0,y1,y2,y3,y4,y5,y6,y7,y8,y9,y10,y11]:=⟨_,_,_,_,_,_,_,_,_,_,_,_,rfl⟩;obtain⟨z0,z1,z2,z3,z4,z5,z6,z7,z8,z9,z10,z11,hzr⟩:∃z0 z1 z2 z3 z4 z5 z6 z7 z8 z9 z10 z11,Ac.row T V=#[z0,z1,z2,z3,z4,z5,z6,z7,z8,z9,z10,z11]:=⟨_,_,_,_,_,_,_,_,_,_,_,_,rfl⟩;rw[hyr,hzr];obtain⟨w1,hw1⟩:=pE (((w.alloc (.cells #[.func (.func 60) #[] #[],.int .i64 1000,.int .i64 2147483647] 80)).alloc (.cells #[y0,y1,y2,y3,y4,y5,y6,y7,y8,y9,y10,y11] 32)).alloc (.cells #[z0,z1,z2,z3,z4,z5,z6,z7,z8,z9,z10,z11] 32));have A1:Below w.heap.size w w1:=by rw[<-hw1];exact(((Below.refl _ w).alloc (Nat.le_refl _) _).alloc (by simp) _).alloc (by simp;omega) _
 have hWy:Ak.Wy w.heap.size 1000 2147483647 w1:=by
  rw[<-hw1];exact Ak.Wy.keep (Ak.Wy.keep (heap_alloc_new w _) (Below.heap_alloc _ _ _ (by simp))) (Below.heap_alloc _ _ _ (by simp;omega))
 have hcall:=Tryz.asame_any 1000 w.heap.size B e e' hB hBs d d' 1000 S T U V 2147483647 w1 (hS.below (A1.mono hBs)) (hT.below (A1.mono hBs)) (Nat.le_trans hBs A1.size) hWy hsz (Nat.le_refl _) hdp (Nat.le_refl _) hF;rw[hyr,hzr]at hcall;have HC:Hid _:=hcall;have HA:Hid (Below w.heap.size w w1):=A1;have H1:Hid (((w.alloc (.cells #[.func (.func 60) #[] #[],.int .i64 1000,.int .i64 2147483647] 80)).alloc (.cells #[y0,y1,y2,y3,y4,y5,y6,y7,y8,y9,y10,y11] 32)).alloc (.cells #[z0,z1,z2,z3,z4,z5,z6,z7,z8,z9,z10,z11] 32)=w1):=hw1;clear hcall A1 hS hT hyr hzr hw1 hWy hF
 go_enter Tryz.func38,Tryz.ntmps38
 go_wp2_with fail
 rw[H1.out];refine Calls.mono HC.out ?_;rintro e0 W1 ⟨r,rfl,hr,hb,-⟩;have X:Hid ((r=true↔S=T)/\Below w.heap.size w W1):=⟨hr,HA.out.trans (hb.below HA.out.size (λk hk=>by omega))⟩;clear hb hr;go_wp2;go_ret;exact⟨Ak.Told.iff X.out.1,X.out.2⟩
theorem Tryz.aSame_any (d d' e e':Nat)(S T:Ac)(U V:Ac.Vs)(w:World)(hS:Ac.Lies w w.heap.size e d U S)(hT:Ac.Lies w w.heap.size e' d' V T)(h0:0<w.heap.size)(hsz:S.size<=2147483647)(hdp:S.depth<=1000)(hF:S.All Ac.Fit):
  Calls Tryz.prog 20 #[.agg (Ac.row S U),.agg (Ac.row T V)] w λe w'=>Ak.Told (S=T) e/\Below w.heap.size w w':=by
 obtain⟨y0,y1,y2,y3,y4,y5,y6,y7,y8,y9,y10,y11,hyr⟩:∃y0 y1 y2 y3 y4 y5 y6 y7 y8 y9 y10 y11,Ac.row S U=#[y0,y1,y2,y3,y4,y5,y6,y7,y8,y9,y10,y11]:=⟨_,_,_,_,_,_,_,_,_,_,_,_,rfl⟩;obtain⟨z0,z1,z2,z3,z4,z5,z6,z7,z8,z9,z10,z11,hzr⟩:∃z0 z1 z2 z3 z4 z5 z6 z7 z8 z9 z10 z11,Ac.row T V=#[z0,z1,z2,z3,z4,z5,z6,z7,z8,z9,z10,z11]:=⟨_,_,_,_,_,_,_,_,_,_,_,_,rfl⟩;rw[hyr,hzr];obtain⟨w1,hw1⟩:=pE ((w.alloc (.cells #[y0,y1,y2,y3,y4,y5,y6,y7,y8,y9,y10,y11] 32)).alloc (.cells #[z0,z1,z2,z3,z4,z5,z6,z7,z8,z9,z10,z11] 32));have hs1:w1.heap.size=w.heap.size+2:=by rw[<-hw1];simp
 have A1:Below w.heap.size w w1:=by rw[<-hw1];exact((Below.refl _ w).alloc (Nat.le_refl _) _).alloc (by simp) _
 have C0:w1.heap[w.heap.size]? =some (.cells #[y0,y1,y2,y3,y4,y5,y6,y7,y8,y9,y10,y11] 32 (0,0)):=by rw[<-hw1,Below.heap_alloc _ _ _ (by simp)];exact heap_alloc_new w _
 have C1:w1.heap[w.heap.size+1]? =some (.cells #[z0,z1,z2,z3,z4,z5,z6,z7,z8,z9,z10,z11] 32 (0,0)):=by
  rw[<-hw1];have:=heap_alloc_new (w.alloc (.cells #[y0,y1,y2,y3,y4,y5,y6,y7,y8,y9,y10,y11] 32)) (.cells #[z0,z1,z2,z3,z4,z5,z6,z7,z8,z9,z10,z11] 32);simpa using this
 have CF:Hid (∀W,Below w1.heap.size w1 W->W.cell? ⟨w.heap.size,0,none⟩=some y0/\W.cell? ⟨w.heap.size,1,none⟩=some y1/\W.cell? ⟨w.heap.size,2,none⟩=some y2/\W.cell? ⟨w.heap.size,3,none⟩=some y3/\W.cell? ⟨w.heap.size,4,none⟩=some y4/\W.cell? ⟨w.heap.size,5,none⟩=some y5/\W.cell? ⟨w.heap.size,6,none⟩=some y6/\W.cell? ⟨w.heap.size,7,none⟩=some y7/\W.cell? ⟨w.heap.size,8,none⟩=some y8/\W.cell? ⟨w.heap.size,9,none⟩=some y9/\W.cell? ⟨w.heap.size,10,none⟩=some y10/\W.cell? ⟨w.heap.size,11,none⟩=some y11/\W.cell? ⟨w.heap.size+1,0,none⟩=some z0/\W.cell? ⟨w.heap.size+1,1,none⟩=some z1/\W.cell? ⟨w.heap.size+1,2,none⟩=some z2/\W.cell? ⟨w.heap.size+1,3,none⟩=some z3/\W.cell? ⟨w.heap.size+1,4,none⟩=some z4/\W.cell? ⟨w.heap.size+1,5,none⟩=some z5/\W.cell? ⟨w.heap.size+1,6,none⟩=some z6/\W.cell? ⟨w.heap.size+1,7,none⟩=some z7/\W.cell? ⟨w.heap.size+1,8,none⟩=some z8/\W.cell? ⟨w.heap.size+1,9,none⟩=some z9/\W.cell? ⟨w.heap.size+1,10,none⟩=some z10/\W.cell? ⟨w.heap.size+1,11,none⟩=some z11):=λW hb=>by
  have e1:=(hb.block w.heap.size (by omega)).trans C0;have e2:=(hb.block (w.heap.size+1) (by omega)).trans C1;simp[World.cell?,e1,e2]
 have CW:Hid (∀W,Below w1.heap.size w1 W->Calls Tryz.prog 39 #[.int .i64 1000,.int .i64 2147483647] W λe w'=>e=.returned (.agg #[.func (.func 60) #[] #[],.int .i64 1000,.int .i64 2147483647])/\Hid (Below w1.heap.size w1 w')):=λW hb=>
  (Tryz.away_any 1000 2147483647 W).mono λ_ w' h=>⟨h.1,hb.trans (h.2.mono hb.size)⟩
 have CT:Hid (∀W,Below w1.heap.size w1 W->Calls Tryz.prog 38 #[.agg #[.func (.func 60) #[] #[],.int .i64 1000,.int .i64 2147483647],.agg #[y0,y1,y2,y3,y4,y5,y6,y7,y8,y9,y10,y11],.agg #[z0,z1,z2,z3,z4,z5,z6,z7,z8,z9,z10,z11],.func (.func 40) #[] #[]] W λe w'=>∃r,e=.returned (.bool r)/\Hid ((r=true↔S=T)/\Below w1.heap.size w1 w')):=λW hb=>by
  have h:=Tryz.anestSame_any d d' w.heap.size e e' S T U V W ((hS.below A1).below (hb.mono (by omega))) ((hT.below A1).below (hb.mono (by omega))) h0 (by have:=hb.size;omega) hsz hdp hF;rw[hyr,hzr]at h
  exact h.mono λ_ w' h=>by
   obtain⟨⟨r,he,hr⟩,hb'⟩:=h;exact⟨r,he,hr,hb.trans (hb'.mono hb.size)⟩
 have H1:Hid ((w.alloc (.cells #[y0,y1,y2,y3,y4,y5,y6,y7,y8,y9,y10,y11] 32)).alloc (.cells #[z0,z1,z2,z3,z4,z5,z6,z7,z8,z9,z10,z11] 32)=w1):=hw1;have HA:Hid (Below w.heap.size w w1/\w.heap.size<=w1.heap.size):=⟨A1,by omega⟩;have BR:Hid (Below w1.heap.size w1 w1):=Below.refl _ _;clear A1 hS hT hyr hzr hF hw1 C0 C1 hs1
 go_enter Tryz.func20,Tryz.ntmps20
 go_upto_region 1 with fail
 rw[H1.out]
 go_region_held3 (λW=>W.cell? ⟨w.heap.size,0,none⟩=some y0/\W.cell? ⟨w.heap.size,1,none⟩=some y1/\W.cell? ⟨w.heap.size,2,none⟩=some y2/\W.cell? ⟨w.heap.size,3,none⟩=some y3/\W.cell? ⟨w.heap.size,4,none⟩=some y4/\W.cell? ⟨w.heap.size,5,none⟩=some y5/\W.cell? ⟨w.heap.size,6,none⟩=some y6/\W.cell? ⟨w.heap.size,7,none⟩=some y7/\W.cell? ⟨w.heap.size,8,none⟩=some y8/\W.cell? ⟨w.heap.size,9,none⟩=some y9/\W.cell? ⟨w.heap.size,10,none⟩=some y10/\W.cell? ⟨w.heap.size,11,none⟩=some y11/\W.cell? ⟨w.heap.size+1,0,none⟩=some z0/\W.cell? ⟨w.heap.size+1,1,none⟩=some z1/\W.cell? ⟨w.heap.size+1,2,none⟩=some z2/\W.cell? ⟨w.heap.size+1,3,none⟩=some z3/\W.cell? ⟨w.heap.size+1,4,none⟩=some z4/\W.cell? ⟨w.heap.size+1,5,none⟩=some z5/\W.cell? ⟨w.heap.size+1,6,none⟩=some z6/\W.cell? ⟨w.heap.size+1,7,none⟩=some z7/\W.cell? ⟨w.heap.size+1,8,none⟩=some z8/\W.cell? ⟨w.heap.size+1,9,none⟩=some z9/\W.cell? ⟨w.heap.size+1,10,none⟩=some z10/\W.cell? ⟨w.heap.size+1,11,none⟩=some z11)
  (first|exact CF.out _ H4.out.2|exact CF.out _ B3.out|exact CF.out _ BR.out.drew|exact CF.out _ BR.out)
  (first
  |(go_simp;go_at_call 39;refine Calls.mono (CW.out _ ?_) ?_;(first|exact BR.out|exact BR.out.drew|exact Tk.below_drewN BR.out _);rintro e0 W3 ⟨rfl,B3⟩)
  |(go_simp;go_at_call 38;refine Calls.mono (CT.out _ ?_) ?_;(first|exact B3.out|exact B3.out.drew|exact Tk.below_drewN B3.out _);rintro e0 W4 ⟨r,rfl,H4⟩))
 all_goals
  clear CW CT BR CF;go_simp;go_wp2;go_ret;exact⟨Ak.Told.iff H4.out.1,HA.out.1.trans (H4.out.2.mono HA.out.2)⟩
end Go.Proofs
namespace Go.Proofs
open Go.RowKit
namespace Bw
def eZ:Tm:=.mk 0 0 []
def e1:Ac:=.mk 2 1 0 0 eZ [] [] [] [] []
def e2:Ac:=.mk 5 2 0 0 eZ [] [] [] [] []
def eA:Ac:=.mk 6 0 0 0 eZ [] [e1,e2] [] [] []
def eB:Ac:=.mk 6 0 0 0 eZ [] [e1,e1] [] [] []
theorem e_same (T:Ac)(h:T.rest=Ac.zeroOf T.kind):Ac.Same1 T.rest (Ac.zeroOf T.kind):=by rw[h];exact⟨rfl,rfl,rfl,rfl,rfl,rfl,rfl,rfl,rfl⟩
theorem e1_form:e1.Formed:=(Ac.formed_2 rfl).2 ⟨by kernel_rfl,⟨by decide,by decide⟩,⟨by decide,by decide⟩,e_same e1 (by kernel_rfl),rfl⟩
theorem e2_form:e2.Formed:=(Ac.formed_5 rfl).2 ⟨by kernel_rfl,⟨by decide,by decide⟩,e_same e2 (by kernel_rfl),rfl⟩
theorem eA_form:eA.Formed:=(Ac.formed_6 rfl).2 ⟨by kernel_rfl,by decide,e_same eA (by kernel_rfl),trivial⟩
theorem eB_form:eB.Formed:=(Ac.formed_6 rfl).2 ⟨by kernel_rfl,by decide,e_same eB (by kernel_rfl),trivial⟩
theorem leaf_go (x:Ac)(hx:x.Formed)(hk:x.ks= []):(x.go Ac.stepF ()).1=true:=by
 rw[Ac.go_eq,if_pos (show(Ac.stepF x ()).1=true from(Ac.formB_iff x).2 hx),hk];rfl
theorem eA_go:(eA.go Ac.stepF ()).1=true:=by
 rw[Ac.go_eq,if_pos (show(Ac.stepF eA ()).1=true from(Ac.formB_iff eA).2 eA_form)];show(Ac.goes Ac.stepF [e1,e2] _).1=true;rw[Ac.goes,if_pos (leaf_go e1 e1_form rfl),Ac.goes,if_pos (leaf_go e2 e2_form rfl)];rfl
theorem eB_go:(eB.go Ac.stepF ()).1=true:=by
 rw[Ac.go_eq,if_pos (show(Ac.stepF eB ()).1=true from(Ac.formB_iff eB).2 eB_form)];show(Ac.goes Ac.stepF [e1,e1] _).1=true;rw[Ac.goes,if_pos (leaf_go e1 e1_form rfl),Ac.goes,if_pos (leaf_go e1 e1_form rfl)];rfl
theorem eA_check:eA.checkC=0:=by
 have h1:eA.tooB=false:=by kernel_rfl
 have h2:eA.twiceB=false:=by kernel_rfl
 unfold Ac.checkC;rw[h1,h2,if_neg (by decide),if_neg (λh=> ?_),if_neg (by decide)]
 rcases h with h|h|h
 ·exact absurd h (by decide)
 ·exact absurd h (by decide)
 rw[eA_go]at h;cases h
theorem eB_check:eB.checkC=8:=by
 have h1:eB.tooB=false:=by kernel_rfl
 have h2:eB.twiceB=true:=by kernel_rfl
 unfold Ac.checkC;rw[h1,h2,if_neg (by decide),if_neg (λh=> ?_),if_pos rfl]
 rcases h with h|h|h
 ·exact absurd h (by decide)
 ·exact absurd h (by decide)
 rw[eB_go]at h;cases h
theorem e_fit (k nd a b:Int)(ks:List Ac)(h:ks.length<=1000):(Ac.mk k nd a b eZ [] ks [] [] []).Fit:=by
 have nil:∀{α:Type} {P:α->Prop},∀x∈([]:List α),P x:=λx hx=>by cases hx
 exact⟨⟨(by decide:eZ.size<=2147483647),(by decide:eZ.depth<=1000)⟩,nil,nil,nil,Nat.zero_le _,h,Nat.zero_le _,Nat.zero_le _,Nat.zero_le _⟩
theorem leaf_fit (k nd a b:Int):(Ac.mk k nd a b eZ [] [] [] [] []).All Ac.Fit:=by
 rw[Ac.all_eq];exact⟨e_fit k nd a b [] (Nat.zero_le _),trivial⟩
theorem seq_fit (x y:Ac)(hx:x.All Ac.Fit)(hy:y.All Ac.Fit):(Ac.mk 6 0 0 0 eZ [] [x,y] [] [] []).All Ac.Fit:=by
 rw[Ac.all_eq];exact⟨e_fit 6 0 0 0 [x,y] (by show 2<=1000;decide),hx,hy,trivial⟩
theorem e1_fit:e1.All Ac.Fit:=leaf_fit 2 1 0 0
theorem e2_fit:e2.All Ac.Fit:=leaf_fit 5 2 0 0
theorem eA_fit:eA.All Ac.Fit:=seq_fit e1 e2 e1_fit e2_fit
theorem eB_fit:eB.All Ac.Fit:=seq_fit e1 e1 e1_fit e1_fit
def vN:Ac.Vs:=⟨.slice none 0 0,.slice none 0 0,.slice none 0 0,.slice none 0 0,.slice none 0 0,.slice none 0 0⟩
def vS (K:Nat):Ac.Vs:=⟨.slice none 0 0,.slice none 0 0,.slice (some ⟨K,0,none⟩) 2 2,.slice none 0 0,.slice none 0 0,.slice none 0 0⟩
theorem leaf_lies (W:World)(x:Ac)(hk:x.ks= [])(h:x.t=eZ/\x.cs= []/\x.ls= []/\x.ns= []/\x.fs= []):Ac.Lies W W.heap.size 1 1 vN x:=by
 obtain⟨k,nd,a,b,t,cs,ks,ls,ns,fs⟩:=x;obtain⟨rfl,rfl,rfl,rfl,rfl⟩:t=eZ/\cs= []/\ls= []/\ns= []/\fs= []:=h;obtain rfl:ks= []:=hk;exact⟨⟨⟨none,0,rfl,.inl rfl⟩,⟨none,0,rfl,λj h=>absurd h (Nat.not_lt_zero j)⟩,⟨none,0,rfl,λj h=>absurd h (Nat.not_lt_zero j)⟩,⟨none,0,rfl,λj h=>absurd h (Nat.not_lt_zero j)⟩,⟨none,0,rfl,λj h=>absurd h (Nat.not_lt_zero j)⟩⟩,none,0,rfl,λj hj=>absurd hj (Nat.not_lt_zero j)⟩
theorem row_of (W:World)(K o:Nat)(r:Array Value)(h:W.rangeAt K o r.toList):Ac.Row W K o r:=λi hi=>h i _ (by simp[hi])
theorem seq_lies (W:World)(K:Nat)(x y:Ac)(hK:K<W.heap.size)(hx:Ac.Lies W W.heap.size 1 1 vN x)(hy:Ac.Lies W W.heap.size 1 1 vN y)(rx:W.rangeAt K 0 (Ac.row x vN).toList)(ry:W.rangeAt K 12 (Ac.row y vN).toList):Ac.Lies W W.heap.size 1 2 (vS K) (.mk 6 0 0 0 eZ [] [x,y] [] [] []):=by
 refine⟨⟨⟨none,0,rfl,.inl rfl⟩,⟨none,0,rfl,λj h=>absurd h (Nat.not_lt_zero j)⟩,⟨none,0,rfl,λj h=>absurd h (Nat.not_lt_zero j)⟩,⟨none,0,rfl,λj h=>absurd h (Nat.not_lt_zero j)⟩,⟨none,0,rfl,λj h=>absurd h (Nat.not_lt_zero j)⟩⟩,some ⟨K,0,none⟩,2,rfl,λj hj=> ?_⟩
 match j,hj with
 |0,_=>exact⟨K,0,vN,rfl,hK,row_of W K 0 _ rx,hx⟩
 |1,_=>exact⟨K,0,vN,rfl,hK,row_of W K 12 _ ry,hy⟩
end Bw
end Go.Proofs
namespace Go.Proofs
namespace Dd
def kkOf (T:Ac):List (Int×Int):=T.ks.map λx=>(x.kind,x.a)
structure Right (T:Ac):Prop where
 web:Web T.ls (kkOf T)
 free:∃rk,Free T.ls rk
 tos:∀i (h:i<T.ls.length),-1<=T.ls[i].2/\T.ls[i].2<T.ks.length
 ins:∀k,k<T.ks.length->1<=T.ls.countP λl=>decide (l.2=(k:Int))
 outs:∀k (h:k<T.ks.length),T.ks[k].kind=12->T.ks[k].a=3->(T.ls.countP λl=>decide (l.1=(k:Int)))=T.ks[k].cs.length
 last:(T.ls.countP λl=>decide (l.2= -1))=1
 first:(T.ls.countP λl=>decide (l.1= -1))=1
 kids:0<T.ks.length
end Dd
end Go.Proofs
namespace Go.Proofs
namespace Ac
end Ac
end Go.Proofs
namespace Go.Proofs
open Go.RowKit Go.Shelf
theorem Tryz.bawaits_any (m:Int)(d e:Nat)(T:Ac)(V:Ac.Vs)(w:World)(hT:Ac.Lies w w.heap.size e d V T)(hn:T.ns.length<=100):
  Calls Tryz.prog 37 #[.agg (Ac.row T V),.int .i64 m] w λe w'=>e=.returned (.bool (Bw.awB m T))/\Below w.heap.size w w':=by
 obtain⟨a6,b6,a7,b7,a8,b8,a9,b9,aA,bA,aB,bB,rfl⟩:=hT.shape;have hN:=Ak.nds_of hT.own;obtain⟨k0,hk0⟩:=pE (T.kind);obtain⟨a2,ha2⟩:=pE (T.a);obtain⟨y,hy⟩:=pE (T.ns.any (Nt.waitB m));obtain⟨q,hq⟩:=pE (Nt.awaitsB T.ns m);obtain⟨r,hr⟩:=pE (Bw.awB m T);obtain⟨x1,x3,x4,x5,x6,x7,x8,x9,hrow⟩:∃x1 x3 x4 x5 x6 x7 x8 x9,Ac.row T ⟨.slice a6 T.t.ks.length b6,.slice a7 T.cs.length b7,.slice a8 T.ks.length b8,.slice a9 T.ls.length b9,.slice aA T.ns.length bA,.slice aB T.fs.length bB⟩=#[.int .i64 k0,x1,.int .i64 a2,x3,x4,x5,x6,x7,x8,x9,.slice aA T.ns.length bA,.slice aB T.fs.length bB]:=⟨_,_,_,_,_,_,_,_,by unfold Ac.row;rw[hk0,ha2]⟩;obtain⟨nA,hnA⟩:=pE (T.ns.length);obtain⟨nB,hnB⟩:=pE (T.fs.length)
 have HC0:∀W,Below w.heap.size w W->Calls Tryz.prog 58 #[.agg #[.slice aA nA bA,.slice aB nB bB],.int .i64 m] W λe w'=>e=.returned (.bool q)/\Below W.heap.size W w':=λW hb=>by
  have h:=Tryz.awaits_any m aA bA e aB nB bB T.ns W ((hN.below hb).wider hb.size) hn;rw[hnA,hq]at h;exact h
 rw[hrow,hr,hnA,hnB];have HR:Hid (((decide (0<=m)&&decide (m<4))&&(((decide (k0=4)||decide (k0=10))&&decide (a2=m))||(decide (k0=14)&&y)))=r):=by show _=_;rw[<-hr,Bw.awB,hk0,ha2,hy]
 have HQ:Hid ((decide (0<=m)&&decide (m<4)&&y)=q):=by show _=_;rw[<-hq,Nt.awaitsB,hy]
 obtain⟨w1,hw1⟩:=pE (w.alloc (.cells #[.int .i64 k0,x1,.int .i64 a2,x3,x4,x5,x6,x7,x8,x9,.slice aA nA bA,.slice aB nB bB] 32));have B1:=pB hw1
 have N1:w1.heap[w.heap.size]? =some (.cells #[.int .i64 k0,x1,.int .i64 a2,x3,x4,x5,x6,x7,x8,x9,.slice aA nA bA,.slice aB nB bB] 32 (0,0)):=by rw[<-hw1];exact heap_alloc_new w _
 have c0:w1.cell? ⟨w.heap.size,0,none⟩=some (.int .i64 k0):=by simp[World.cell?,N1]
 have c2:w1.cell? ⟨w.heap.size,2,none⟩=some (.int .i64 a2):=by simp[World.cell?,N1]
 have c10:w1.cell? ⟨w.heap.size,10,none⟩=some (.slice aA nA bA):=by simp[World.cell?,N1]
 have c11:w1.cell? ⟨w.heap.size,11,none⟩=some (.slice aB nB bB):=by simp[World.cell?,N1]
 have hu:=Tryz.underlying30;have HC:Hid _:=HC0;have H1:Hid (w.alloc (.cells #[.int .i64 k0,x1,.int .i64 a2,x3,x4,x5,x6,x7,x8,x9,.slice aA nA bA,.slice aB nB bB] 32)=w1):=hw1;have HB:Hid (Below w.heap.size w w1):=B1;clear HC0 hw1 B1 N1 hT hN hn hk0 ha2 hy hq hr hrow hnA hnB
 by_cases q1:k0=4∨k0=10
 ·have q3:¬k0=14:=by omega
  have ek:((k0==4)=true)∨((k0==4)=false/\(k0==10)=true):=by
   rcases q1 with rfl|rfl
   ·exact .inl rfl
   exact .inr ⟨rfl,rfl⟩
  have HR2:Hid ((decide (0<=m)&&decide (m<4)&&decide (a2=m))=r):=by
   show _=_;rw[<-HR.out,decide_eq_false q3,Bool.false_and,Bool.or_false];have:(decide (k0=4)||decide (k0=10))=true:=by simpa using q1
   rw[this,Bool.true_and]
  clear HR HC HQ q1 q3 c10 c11 hu
  have hm:((a2==m)=false/\Hid (r=false))∨((a2==m)=true/\decide (0<=m)=false/\Hid (r=false))∨((a2==m)=true/\decide (0<=m)=true/\decide (m<4)=false/\Hid (r=false))∨((a2==m)=true/\decide (0<=m)=true/\decide (m<4)=true/\Hid (r=true)):=by
   by_cases q2:a2=m
   ·have e2:(a2==m)=true:=by simpa using q2
    have h:=HR2.out;rw[decide_eq_true q2,Bool.and_true]at h
    cases h0:decide (0<=m)
    ·rw[h0,Bool.false_and]at h
     exact .inr (.inl ⟨e2,rfl,h.symm⟩)
    rw[h0,Bool.true_and]at h
    cases h4:decide (m<4)
    ·rw[h4]at h
     exact .inr (.inr (.inl ⟨e2,rfl,rfl,h.symm⟩))
    rw[h4]at h;exact .inr (.inr (.inr ⟨e2,rfl,rfl,h.symm⟩))
   have h:=HR2.out;rw[decide_eq_false q2,Bool.and_false]at h;exact .inl ⟨by simpa using q2,h.symm⟩
  clear HR2
  rcases ek with e4|⟨e4,e10⟩<;>rcases hm with⟨e1,HV⟩|⟨e1,e2,HV⟩|⟨e1,e2,e3,HV⟩|⟨e1,e2,e3,HV⟩<;>
  ·go_enter Tryz.func37,Tryz.ntmps37
   go_upto_region 1 with fail
   rw[H1.out];go_wp2;go_ret;exact⟨Tk.ret_bool HV.out.symm,HB.out⟩
 have e4:(k0==4)=false:=by simp;omega
 have e10:(k0==10)=false:=by simp;omega
 have hz:(decide (k0=4)||decide (k0=10))=false:=by simp;omega
 rw[hz,Bool.false_and,Bool.false_or]at HR
 by_cases q14:k0=14
 ·have e14:(k0==14)=true:=by simpa using q14
  have HV:Hid (q=r):=by
   show _=_;rw[<-HR.out,<-HQ.out,decide_eq_true q14,Bool.true_and]
  clear HR HQ q1 hz q14
  go_enter Tryz.func37,Tryz.ntmps37
  go_upto_region 1 with fail
  rw[H1.out]
  go_wp2_with fail
  refine Calls.mono (HC.out _ HB.out) ?_;rintro e W ⟨rfl,hb⟩;have B2:Hid (Below w.heap.size w W):=HB.out.trans (hb.mono HB.out.size);clear hb HC;go_wp2;go_ret;exact⟨Tk.ret_bool HV.out,B2.out⟩
 have e14:(k0==14)=false:=by simpa using q14
 have HV:Hid (r=false):=by
  show r=false;rw[<-HR.out,decide_eq_false q14,Bool.false_and,Bool.and_false]
 clear HR HQ q1 hz q14 HC
 go_enter Tryz.func37,Tryz.ntmps37
 go_upto_region 1 with fail
 rw[H1.out];go_wp2;go_ret;exact⟨Tk.ret_bool HV.out.symm,HB.out⟩
theorem Tryz.awaitsC_any (m:Int)(d e:Nat)(T:Ac)(V:Ac.Vs)(bm bf:Nat)(s:Bool)(w:World)(hT:Ac.Lies w w.heap.size e d V T)(hn:T.ns.length<=100)(hm:w.heap[bm]? =some (.cells #[.int .i64 m] 3 (0,0)))(hf:w.heap[bf]? =some (.cells #[.bool s] 4 (0,0))):
  Calls Tryz.prog 36 #[.agg (Ac.row T V),.pointer (some ⟨bm,0,none⟩),.pointer (some ⟨bf,0,none⟩)] w λe w'=>e=.returned (.bool (!Bw.awB m T))/\w'.heap[bf]? =some (.cells #[.bool (Bw.awB m T)] 4 (0,0))/\Tk.But (λx=>x=bf) w w':=by
 obtain⟨xs,hxs⟩:=pE (Ac.row T V);have hsz:xs.size=12:=by rw[<-hxs];rfl
 obtain⟨w1,hw1⟩:=pE (w.alloc (.cells xs 32));have B1:=pB hw1
 have N1:w1.heap[w.heap.size]? =some (.cells xs 32 (0,0)):=by rw[<-hw1];exact heap_alloc_new w _
 have HC0:=Tryz.bawaits_any m d e T V w1 ((hT.below B1).wider B1.size) hn;obtain⟨r,hr⟩:=pE (Bw.awB m T);rw[hxs,hr]at HC0;rw[hxs,hr];have hlm:=(Array.getElem?_eq_some_iff.1 hm).1;have hlf:=(Array.getElem?_eq_some_iff.1 hf).1;have m0:w1.cell? ⟨bm,0,none⟩=some (.int .i64 m):=by simp[World.cell?,(B1.block bm hlm).trans hm]
 have HP:Hid (∀W,Below w1.heap.size w1 W->(W.cell? ⟨bf,0,none⟩=some (.bool s)/\W.frozen? ⟨bf,0,none⟩=false)/\(W.setCell ⟨bf,0,none⟩ (.bool r)).heap[bf]? =some (.cells #[.bool r] 4 (0,0))/\Tk.But (λx=>x=bf) w (W.setCell ⟨bf,0,none⟩ (.bool r))):=λW hb=>by
  have h:=(hb.block bf (Nat.lt_of_lt_of_le hlf B1.size)).trans ((B1.block bf hlf).trans hf);exact⟨⟨by simp[World.cell?,h],by simp[World.frozen?,h]⟩,by simp[World.setCell,Array.getElem?_modify,h],(Tk.But.of_below (B1.trans (hb.mono B1.size))).setCell (E:=λk=>k=bf) (p:=⟨bf,0,none⟩) rfl _⟩
 have HC:Hid _:=HC0;have H1:Hid (w.alloc (.cells xs 32)=w1):=hw1;have ha:=Tryz.underlying32;have ia:(Tryz.prog.info? 32).map (·.size)=some xs.size:=by rw[hsz];kernel_rfl
 clear HC0 hw1 B1 hT hn hm hf hlm hlf hxs hr hsz
 go_enter Tryz.func36,Tryz.ntmps36
 go_upto_region 1 with fail
 rw[H1.out]
 go_wp2_with (refine wpList_load_row rfl 32 _ rfl _ rfl 32 _ (0,0) _ N1 ha rfl ia ?_)
 refine Calls.mono HC.out ?_;rintro e W ⟨rfl,hb⟩;obtain⟨⟨f0,f1⟩,hp⟩:=HP.out W hb;have HE:Hid _:=hp;clear hb hp HP HC N1 m0 H1;go_wp2;go_ret;exact⟨rfl,HE.out.1,HE.out.2⟩
theorem Ak.stepped_awaits (m:Int)(B e bm bf bw:Nat)(hB:B<=bf)(hm:bm≠bf)(hmw:bm≠bw)(hne:bf≠bw):Ak.Stepped (Bw.stepA m) (λT=>T.ns.length<=100) 36 #[.pointer (some ⟨bm,0,none⟩),.pointer (some ⟨bf,0,none⟩)] (λs W=>W.heap[bm]? =some (.cells #[.int .i64 m] 3 (0,0))/\W.heap[bf]? =some (.cells #[.bool s] 4 (0,0))) (λk=>k=bf) B e bw where
 enters:=enters_of Tryz.func36 (by kernel_rfl) rfl
 calls:=λs W d T V hn hI hBW hT=>(Tryz.awaitsC_any m d e T V bm bf s W (hT.wider hBW) hn hI.1 hI.2).mono λe w' h=>⟨h.1,⟨(h.2.2.block bm (Array.getElem?_eq_some_iff.1 hI.1).1 hm).trans hI.1,h.2.1⟩,h.2.2⟩
 keeps:=λs W W' hI hb=>⟨(hb.block bm (Array.getElem?_eq_some_iff.1 hI.1).1 hmw).trans hI.1,(hb.block bf (Array.getElem?_eq_some_iff.1 hI.2).1 hne).trans hI.2⟩
 above:=λk hk=>hk▸hB
 not_bw:=λh=>hne h.symm
theorem Tryz.aAwaits_any (m:Int)(d e:Nat)(T:Ac)(V:Ac.Vs)(w:World)(hT:Ac.Lies w w.heap.size e d V T)(h0:0<w.heap.size)(hsz:T.size<=2147483647)(hdp:T.depth<=1000)(hP:T.All λx=>x.ns.length<=100):
  Calls Tryz.prog 18 #[.agg (Ac.row T V),.int .i64 m] w λe w'=>e=.returned (.bool (Bw.aw m T))/\Below w.heap.size w w':=by
 obtain⟨xs,hxs⟩:=pE (Ac.row T V);have hs12:xs.size=12:=by rw[<-hxs];rfl
 obtain⟨w1,hw1⟩:=pE ((w.alloc (.cells xs 32)).alloc (.cells #[.int .i64 m] 3));have A1:Below w.heap.size w w1:=by rw[<-hw1];exact((Below.refl _ w).alloc (Nat.le_refl _) _).alloc (by simp) _
 have s1:w1.heap.size=w.heap.size+2:=by rw[<-hw1];simp
 have G0:w1.heap[w.heap.size]? =some (.cells xs 32 (0,0)):=by
  rw[<-hw1];have h:=((Below.refl _ (w.alloc (.cells xs 32))).alloc (Nat.le_refl _) (.cells #[.int .i64 m] 3)).block w.heap.size (by simp);exact h.trans (heap_alloc_new w _)
 have G1:w1.heap[w.heap.size+1]? =some (.cells #[.int .i64 m] 3 (0,0)):=by
  rw[<-hw1];have h:=heap_alloc_new (w.alloc (.cells xs 32)) (.cells #[.int .i64 m] 3);simpa using h
 obtain⟨w2,hw2⟩:=pE (w1.alloc (.cells #[.bool false] 4));have A2:=pB hw2
 have G2:w2.heap[w1.heap.size]? =some (.cells #[.bool false] 4 (0,0)):=by rw[<-hw2];exact heap_alloc_new w1 _
 have l2:=(Array.getElem?_eq_some_iff.1 G2).1;have B2:Below w.heap.size w w2:=A1.trans (A2.mono A1.size);have N1:w2.heap[w.heap.size]? =some (.cells xs 32 (0,0)):=(A2.block _ (by omega)).trans G0;have key:=Tryz.athrough_any (step:=Bw.stepA m) (P:=λT=>T.ns.length<=100) (g:=36) (lb:=#[.pointer (some ⟨w.heap.size+1,0,none⟩),.pointer (some ⟨w1.heap.size,0,none⟩)]) (Inv:=λs W=>W.heap[w.heap.size+1]? =some (.cells #[.int .i64 m] 3 (0,0))/\W.heap[w1.heap.size]? =some (.cells #[.bool s] 4 (0,0))) (E:=λk=>k=w1.heap.size) (B:=w.heap.size) (e:=e) d false T V w2 (λbw hbw=>Ak.stepped_awaits m w.heap.size e (w.heap.size+1) w1.heap.size bw (by omega) (by omega) (by omega) (by omega)) (hT.below B2) h0 B2.size ⟨(A2.block _ (by omega)).trans G1,G2⟩ (λk hk=>by omega) hsz hP;rw[hxs]at key;rw[hxs];have HC:Hid _:=key;obtain⟨R,hR⟩:=pE (Bw.aw m T);rw[hR];have HR:Hid (Bw.aw m T=R/\T.depth<=1000/\T.size<=2147483647/\Below w.heap.size w w2/\w.heap.size<w1.heap.size):=⟨hR,hdp,hsz,B2,by omega⟩;have H1:Hid ((w.alloc (.cells xs 32)).alloc (.cells #[.int .i64 m] 3)=w1):=hw1;have H2:Hid (w1.alloc (.cells #[.bool false] 4)=w2):=hw2;have ha:=Tryz.underlying32;have ia:(Tryz.prog.info? 32).map (·.size)=some xs.size:=by rw[hs12];kernel_rfl
 clear key hT hxs hs12 hw1 hw2 A1 s1 G0 G1 A2 G2 l2 B2 hR hsz hdp hP
 go_enter Tryz.func18,Tryz.ntmps18
 go_upto_region 1 with fail
 rw[H1.out]
 go_upto_region 2 with fail
 rw[H2.out]
 go_wp2_with (refine wpList_load_row rfl 32 _ rfl _ rfl 32 _ (0,0) _ N1 ha rfl ia ?_)
 refine Calls.mono HC.out ?_;rintro e W3 ⟨b,rfl,hbt,hend⟩;have h:=HR.out
 have hI:W3.heap[w1.heap.size]? =some (.cells #[.bool R] 4 (0,0)):=by
  rcases hend with⟨_,_,h3,_⟩|⟨h4,_⟩
  ·rw[Bw.go_aw,h.1]at h3
   exact h3.2
  exact absurd ⟨h.2.1,h.2.2.1⟩ h4
 have c0:W3.cell? ⟨w1.heap.size,0,none⟩=some (.bool R):=by simp[World.cell?,hI]
 have H3:Hid (Below w.heap.size w W3):=h.2.2.2.1.trans (hbt.below h.2.2.2.1.size (λk hk=>by have:=h.2.2.2.2;omega));clear hbt hend HC h hI N1;go_wp2;go_ret;exact⟨rfl,H3.out⟩
end Go.Proofs
