import Derived.Test.YtenaelpdnccgnaaGreatDoorRAcModel
set_option maxRecDepth 100000
set_option maxHeartbeats 32000000
namespace Go.Proofs
open Go.RowKit Go.Shelf
theorem Ak.below_row {B:Nat}{a w:World}(h:Below B a w){g:Nat}(hg:B<=g)(cs:Array Value):Below B a (w.setRow g cs):=
 h.trans ⟨rfl,rfl,rfl,by simp[World.setRow],λk hk=>by
  simp only[World.setRow,Array.getElem?_modify]
  rw[if_neg (by omega)]⟩
theorem Tryz.away_any (L n:Int)(w:World):Calls Tryz.prog 39 #[.int .i64 L,.int .i64 n] w λe w'=>e=.returned (.agg #[.func (.func 60) #[] #[],.int .i64 L,.int .i64 n])/\Below w.heap.size w w':=by
 have hbk:=heap_alloc_new w (.cells #[.nilFunc,.int .i64 0,.int .i64 0] 80);have B0:Hid (Below w.heap.size w (w.alloc (.cells #[.nilFunc,.int .i64 0,.int .i64 0] 80))):=(Below.refl _ w).alloc (Nat.le_refl _) _;have HK:Hid _:=hbk
 go_enter Tryz.func39,Tryz.ntmps39
 go_wp2_with (refine wpList_store_row rfl 80 _ _ rfl w.heap.size _ rfl rfl 80 #[.nilFunc,.int .i64 0,.int .i64 0] (by exact HK.out) (by kernel_rfl) rfl (by kernel_rfl) ?_)
 refine bodyPost_ret (v:=.agg #[.func (.func 60) #[] #[],.int .i64 L,.int .i64 n]) (results_cell_row Tryz.results39 _ _ w.heap.size 80 #[.func (.func 60) #[] #[],.int .i64 L,.int .i64 n] (0,0) _ rfl (setRow_heap _ _ _ _ _ _ HK.out) Tryz.underlying80 rfl (by kernel_rfl)) rfl ⟨rfl, ?_⟩;exact Ak.below_row B0.out (Nat.le_refl _) _
def Ak.GoneThru {St:Type}(step:Ac->St->Bool×St)(Inv:St->World->Prop)(E:Nat->Prop)(T:Ac)(L left:Nat)(s:St)(w:World)(b:Bool)(w':World):Prop:=
 Tk.But E w w'/\((T.depth<=L/\T.size<=left/\Inv (T.go step s).2 w'/\b=(T.go step s).1)∨(¬(T.depth<=L/\T.size<=left)/\b=false))
theorem Tryz.anestThru_any {St:Type}{step:Ac->St->Bool×St}{P:Ac->Prop}{g:Nat}{lb:Array Value}{Inv:St->World->Prop}{E:Nat->Prop}{B e:Nat}(d L left:Nat)(s:St)(T:Ac)(V:Ac.Vs)(w:World)(hS:Ak.Stepped step P g lb Inv E B e w.heap.size)(hT:Ac.Lies w B e d V T)(hB:0<B)(hBs:B<=w.heap.size)(hI:Inv s w)(hE:∀k,E k->k<w.heap.size)(hleft:left<=2147483647)(hL:L<=1000)(hsz:T.size<=2147483647)(hP:T.All P):
  Calls Tryz.prog 41 #[.agg #[.func (.func 60) #[] #[],.int .i64 L,.int .i64 left],.agg (Ac.row T V),.func (.func g) #[] lb] w λe w'=>∃b,e=.returned (.bool b)/\Ak.GoneThru step Inv E T L left s w b w':=by
 obtain⟨x0,x1,x2,x3,x4,x5,x6,x7,x8,x9,x10,x11,hrow⟩:∃x0 x1 x2 x3 x4 x5 x6 x7 x8 x9 x10 x11,Ac.row T V=#[x0,x1,x2,x3,x4,x5,x6,x7,x8,x9,x10,x11]:=⟨_,_,_,_,_,_,_,_,_,_,_,_,rfl⟩;rw[hrow];obtain⟨w1,hw1⟩:=pE ((w.alloc (.cells #[.func (.func 60) #[] #[],.int .i64 L,.int .i64 left] 80)).alloc (.cells #[x0,x1,x2,x3,x4,x5,x6,x7,x8,x9,x10,x11] 32));have A1:Below w.heap.size w w1:=by rw[<-hw1];exact((Below.refl _ w).alloc (Nat.le_refl _) _).alloc (by simp) _
 have hWy:Ak.Wy w.heap.size L left w1:=by
  rw[<-hw1];exact Ak.Wy.keep (heap_alloc_new w _) (Below.heap_alloc _ _ _ (by simp))
 have hcall:=Tryz.ago_any hS L d L T V left s w1 (hT.below (A1.mono hBs)) hB hBs (Nat.le_trans hBs A1.size) hWy (hS.keeps s w w1 hI (Tk.But.of_below A1)) (λk hk=>Nat.lt_of_lt_of_le (hE k hk) A1.size) hleft hL hsz hP;rw[hrow]at hcall;have HC:Hid _:=hcall;have HA:Hid (Below w.heap.size w w1):=A1;have H1:Hid ((w.alloc (.cells #[.func (.func 60) #[] #[],.int .i64 L,.int .i64 left] 80)).alloc (.cells #[x0,x1,x2,x3,x4,x5,x6,x7,x8,x9,x10,x11] 32)=w1):=hw1;clear hcall A1 hT hI hrow hw1 hWy hS hE
 go_enter Tryz.func41,Tryz.ntmps41
 go_wp2_with fail
 rw[H1.out];refine Calls.mono HC.out ?_;rintro e W1 ⟨hb,hend⟩
 have X:Hid (Tk.But E w W1):=⟨hb.os.trans HA.out.os,hb.tape.trans HA.out.tape,hb.output.trans HA.out.output,Nat.le_trans HA.out.size hb.size,λi hi he=>by
  rw[hb.block i (Nat.lt_of_lt_of_le hi HA.out.size) (by rintro(h|h);omega;exact he h)];exact HA.out.block i hi⟩
 rcases hend with⟨h1,h2,h3,rfl,_⟩|⟨h1,rfl⟩
 ·have Y:Hid (T.depth<=L/\T.size<=left/\Inv (T.go step s).2 W1):=⟨h1,h2,h3⟩
  clear hb h1 h2 h3;go_wp2;go_ret;exact⟨_,rfl,X.out,.inl ⟨Y.out.1,Y.out.2.1,Y.out.2.2,rfl⟩⟩
 have Y:Hid (¬(T.depth<=L/\T.size<=left)):=h1;clear hb h1;go_wp2;go_ret;exact⟨_,rfl,X.out,.inr ⟨Y.out,rfl⟩⟩
theorem Tryz.athrough_any {St:Type}{step:Ac->St->Bool×St}{P:Ac->Prop}{g:Nat}{lb:Array Value}{Inv:St->World->Prop}{E:Nat->Prop}{B e:Nat}(d:Nat)(s:St)(T:Ac)(V:Ac.Vs)(w:World)(hS:∀bw,w.heap.size<=bw->Ak.Stepped step P g lb Inv E B e bw)(hT:Ac.Lies w B e d V T)(hB:0<B)(hBs:B<=w.heap.size)(hI:Inv s w)(hE:∀k,E k->k<w.heap.size)(hsz:T.size<=2147483647)(hP:T.All P):
  Calls Tryz.prog 25 #[.agg (Ac.row T V),.func (.func g) #[] lb] w λe w'=>∃b,e=.returned (.bool b)/\Ak.GoneThru step Inv E T 1000 2147483647 s w b w':=by
 obtain⟨x0,x1,x2,x3,x4,x5,x6,x7,x8,x9,x10,x11,hrow⟩:∃x0 x1 x2 x3 x4 x5 x6 x7 x8 x9 x10 x11,Ac.row T V=#[x0,x1,x2,x3,x4,x5,x6,x7,x8,x9,x10,x11]:=⟨_,_,_,_,_,_,_,_,_,_,_,_,rfl⟩;rw[hrow];obtain⟨w1,hw1⟩:=pE (w.alloc (.cells #[x0,x1,x2,x3,x4,x5,x6,x7,x8,x9,x10,x11] 32));have hs1:w1.heap.size=w.heap.size+1:=by rw[<-hw1];simp
 have A1:=pB hw1
 have C0:w1.heap[w.heap.size]? =some (.cells #[x0,x1,x2,x3,x4,x5,x6,x7,x8,x9,x10,x11] 32 (0,0)):=by rw[<-hw1];exact heap_alloc_new w _
 have CF:Hid (∀W,Tk.But E w1 W->W.cell? ⟨w.heap.size,0,none⟩=some x0/\W.cell? ⟨w.heap.size,1,none⟩=some x1/\W.cell? ⟨w.heap.size,2,none⟩=some x2/\W.cell? ⟨w.heap.size,3,none⟩=some x3/\W.cell? ⟨w.heap.size,4,none⟩=some x4/\W.cell? ⟨w.heap.size,5,none⟩=some x5/\W.cell? ⟨w.heap.size,6,none⟩=some x6/\W.cell? ⟨w.heap.size,7,none⟩=some x7/\W.cell? ⟨w.heap.size,8,none⟩=some x8/\W.cell? ⟨w.heap.size,9,none⟩=some x9/\W.cell? ⟨w.heap.size,10,none⟩=some x10/\W.cell? ⟨w.heap.size,11,none⟩=some x11):=λW hb=>by
  have e1:=(hb.block w.heap.size (by omega) (λe=>by have:=hE _ e;omega)).trans C0;simp[World.cell?,e1]
 have CW:Hid (∀W,Below w1.heap.size w1 W->Calls Tryz.prog 39 #[.int .i64 1000,.int .i64 2147483647] W λe w'=>e=.returned (.agg #[.func (.func 60) #[] #[],.int .i64 1000,.int .i64 2147483647])/\Hid (Below w1.heap.size w1 w')):=λW hb=>
  (Tryz.away_any 1000 2147483647 W).mono λ_ w' h=>⟨h.1,hb.trans (h.2.mono hb.size)⟩
 have CT:Hid (∀W,Below w1.heap.size w1 W->Calls Tryz.prog 41 #[.agg #[.func (.func 60) #[] #[],.int .i64 1000,.int .i64 2147483647],.agg #[x0,x1,x2,x3,x4,x5,x6,x7,x8,x9,x10,x11],.func (.func g) #[] lb] W λe w'=>
   ∃b,e=.returned (.bool b)/\Hid (Tk.But E w1 w'/\Ak.GoneThru step Inv E T 1000 2147483647 s w b w')):=λW hb=>by
  have hS':=hS W.heap.size (by have:=hb.size;omega);have hbw:Below w.heap.size w W:=A1.trans (hb.mono (by omega));have h:=Tryz.anestThru_any d 1000 2147483647 s T V W hS' (hT.below (hbw.mono hBs)) hB (by have:=hbw.size;omega) (hS'.keeps s w W hI (Tk.But.of_below hbw)) (λk hk=>by have:=hE k hk;have:=hbw.size;omega) (by omega) (by omega) hsz hP;rw[hrow]at h;refine h.mono ?_;rintro e w' ⟨b,rfl,hbt,hend⟩;exact⟨b,rfl,(Tk.But.of_below hb).trans hbt,(Tk.But.of_below hbw).trans hbt,hend⟩
 have H1:Hid (w.alloc (.cells #[x0,x1,x2,x3,x4,x5,x6,x7,x8,x9,x10,x11] 32)=w1):=hw1;have BR:Hid (Below w1.heap.size w1 w1):=Below.refl _ _;clear A1 hT hI hrow hw1 hS hE C0 hs1
 go_enter Tryz.func25,Tryz.ntmps25
 go_upto_region 1 with fail
 rw[H1.out]
 go_region_held3 (λW=>W.cell? ⟨w.heap.size,0,none⟩=some x0/\W.cell? ⟨w.heap.size,1,none⟩=some x1/\W.cell? ⟨w.heap.size,2,none⟩=some x2/\W.cell? ⟨w.heap.size,3,none⟩=some x3/\W.cell? ⟨w.heap.size,4,none⟩=some x4/\W.cell? ⟨w.heap.size,5,none⟩=some x5/\W.cell? ⟨w.heap.size,6,none⟩=some x6/\W.cell? ⟨w.heap.size,7,none⟩=some x7/\W.cell? ⟨w.heap.size,8,none⟩=some x8/\W.cell? ⟨w.heap.size,9,none⟩=some x9/\W.cell? ⟨w.heap.size,10,none⟩=some x10/\W.cell? ⟨w.heap.size,11,none⟩=some x11)
  (first|exact CF.out _ H4.out.1|exact CF.out _ (Tk.But.of_below B3.out)|exact CF.out _ (Tk.But.of_below BR.out.drew)|exact CF.out _ (Tk.But.of_below BR.out))
  (first
  |(go_simp;go_at_call 39;refine Calls.mono (CW.out _ ?_) ?_;(first|exact BR.out|exact BR.out.drew|exact Tk.below_drewN BR.out _);rintro e W3 ⟨rfl,B3⟩)
  |(go_simp;go_at_call 41;refine Calls.mono (CT.out _ ?_) ?_;(first|exact B3.out|exact B3.out.drew|exact Tk.below_drewN B3.out _);rintro e W4 ⟨b,rfl,H4⟩))
 all_goals
  clear CW CT BR CF;go_simp;go_wp2;go_ret;exact⟨_,rfl,H4.out.2⟩
theorem Tryz.aallTrue_any (x0 x1 x2 x3 x4 x5 x6 x7 x8 x9 x10 x11:Value)(w:World):
  Calls Tryz.prog 42 #[.agg #[x0,x1,x2,x3,x4,x5,x6,x7,x8,x9,x10,x11]] w λe w'=>e=.returned (.bool true)/\Below w.heap.size w w':=by
 have B0:Hid (Below w.heap.size w (w.alloc (.cells #[x0,x1,x2,x3,x4,x5,x6,x7,x8,x9,x10,x11] 32))):=(Below.refl _ w).alloc (Nat.le_refl _) _;have BR:Hid (Below w.heap.size w w):=Below.refl _ _
 go_enter Tryz.func42,Tryz.ntmps42
 go_wp2;go_ret;exact⟨rfl,by first|exact B0.out|exact BR.out⟩
theorem Ak.stepped_true (B e bw:Nat):Ak.Stepped (λ_ (s:Unit)=>(true,s)) (λ_=>True) 42 #[] (λ_ _=>True) (λ_=>False) B e bw where
 enters:=enters_of Tryz.func42 (by kernel_rfl) rfl
 calls:=λs W d T V _ _ _ _=>by
  obtain⟨x0,x1,x2,x3,x4,x5,x6,x7,x8,x9,x10,x11,hrow⟩:∃x0 x1 x2 x3 x4 x5 x6 x7 x8 x9 x10 x11,Ac.row T V=#[x0,x1,x2,x3,x4,x5,x6,x7,x8,x9,x10,x11]:=⟨_,_,_,_,_,_,_,_,_,_,_,_,rfl⟩;rw[hrow];exact(Tryz.aallTrue_any x0 x1 x2 x3 x4 x5 x6 x7 x8 x9 x10 x11 W).mono λ_ _ q=>⟨q.1,trivial,Tk.But.of_below q.2⟩
 keeps:=λ_ _ _ _ _=>trivial
 above:=λk hk=>hk.elim
 not_bw:=λh=>h
mutual
theorem Ac.go_true:∀(T:Ac) (s:Unit),T.go (λ_ (s:Unit)=>(true,s)) s=(true,s)
 | .mk _ _ _ _ _ _ ks _ _ _,s=>by rw[Ac.go,if_pos rfl];exact Ac.goes_true ks s
theorem Ac.goes_true:∀(l:List Ac) (s:Unit),Ac.goes (λ_ (s:Unit)=>(true,s)) l s=(true,s)
 | [],s=>by rw[Ac.goes]
 |k::r,s=>by rw[Ac.goes,Ac.go_true k s,if_pos rfl];exact Ac.goes_true r s
end
mutual
theorem Ac.all_true:∀T:Ac,T.All (λ_=>True)
 | .mk _ _ _ _ _ _ ks _ _ _=>⟨trivial,Ac.alls_true ks⟩
theorem Ac.alls_true:∀l:List Ac,Ac.Alls (λ_=>True) l
 | []=>trivial
 |k::r=>⟨Ac.all_true k,Ac.alls_true r⟩
end
def Ac.tooB (T:Ac):Bool:= !decide (T.depth<=24/\T.size<=96)
theorem Tryz.atooLarge_any (d e:Nat)(T:Ac)(V:Ac.Vs)(w:World)(hT:Ac.Lies w w.heap.size e d V T)(h0:0<w.heap.size)(hsz:T.size<=2147483647):
  Calls Tryz.prog 24 #[.agg (Ac.row T V)] w λe w'=>e=.returned (.bool T.tooB)/\Below w.heap.size w w':=by
 obtain⟨x0,x1,x2,x3,x4,x5,x6,x7,x8,x9,x10,x11,hrow⟩:∃x0 x1 x2 x3 x4 x5 x6 x7 x8 x9 x10 x11,Ac.row T V=#[x0,x1,x2,x3,x4,x5,x6,x7,x8,x9,x10,x11]:=⟨_,_,_,_,_,_,_,_,_,_,_,_,rfl⟩;rw[hrow];obtain⟨w1,hw1⟩:=pE (w.alloc (.cells #[x0,x1,x2,x3,x4,x5,x6,x7,x8,x9,x10,x11] 32));have hs1:w1.heap.size=w.heap.size+1:=by rw[<-hw1];simp
 have A1:=pB hw1
 have C0:w1.heap[w.heap.size]? =some (.cells #[x0,x1,x2,x3,x4,x5,x6,x7,x8,x9,x10,x11] 32 (0,0)):=by rw[<-hw1];exact heap_alloc_new w _
 have CF:Hid (∀W,Below w1.heap.size w1 W->W.cell? ⟨w.heap.size,0,none⟩=some x0/\W.cell? ⟨w.heap.size,1,none⟩=some x1/\W.cell? ⟨w.heap.size,2,none⟩=some x2/\W.cell? ⟨w.heap.size,3,none⟩=some x3/\W.cell? ⟨w.heap.size,4,none⟩=some x4/\W.cell? ⟨w.heap.size,5,none⟩=some x5/\W.cell? ⟨w.heap.size,6,none⟩=some x6/\W.cell? ⟨w.heap.size,7,none⟩=some x7/\W.cell? ⟨w.heap.size,8,none⟩=some x8/\W.cell? ⟨w.heap.size,9,none⟩=some x9/\W.cell? ⟨w.heap.size,10,none⟩=some x10/\W.cell? ⟨w.heap.size,11,none⟩=some x11):=λW hb=>by
  have e1:=(hb.block w.heap.size (by omega)).trans C0;simp[World.cell?,e1]
 have CW:Hid (∀W,Below w1.heap.size w1 W->Calls Tryz.prog 39 #[.int .i64 24,.int .i64 96] W λe w'=>e=.returned (.agg #[.func (.func 60) #[] #[],.int .i64 24,.int .i64 96])/\Hid (Below w1.heap.size w1 w')):=λW hb=>
  (Tryz.away_any 24 96 W).mono λ_ w' h=>⟨h.1,hb.trans (h.2.mono hb.size)⟩
 obtain⟨b,hb0⟩:=pE (decide (T.depth<=24/\T.size<=96))
 have CT:Hid (∀W,Below w1.heap.size w1 W->Calls Tryz.prog 41 #[.agg #[.func (.func 60) #[] #[],.int .i64 24,.int .i64 96],.agg #[x0,x1,x2,x3,x4,x5,x6,x7,x8,x9,x10,x11],.func (.func 42) #[] #[]] W λe w'=>
   e=.returned (.bool b)/\Hid (Below w1.heap.size w1 w')):=λW hb=>by
  have hbw:Below w.heap.size w W:=A1.trans (hb.mono (by omega));have h:=Tryz.anestThru_any d 24 96 () T V W (Ak.stepped_true w.heap.size e W.heap.size) (hT.below hbw) h0 hbw.size trivial (λk hk=>hk.elim) (by omega) (by omega) hsz (Ac.all_true T);rw[hrow]at h;refine h.mono ?_;rintro e w' ⟨bb,rfl,hbt,hend⟩;have h2:Below w1.heap.size w1 w':=hb.trans (hbt.below hb.size (λk _ h=>h))
  rcases hend with⟨x1,x2,_,x4⟩|⟨x1,x4⟩
  ·exact⟨by rw[x4,Ac.go_true,<-hb0,decide_eq_true ⟨x1,x2⟩],h2⟩
  exact⟨by rw[x4,<-hb0,decide_eq_false x1],h2⟩
 have H1:Hid (w.alloc (.cells #[x0,x1,x2,x3,x4,x5,x6,x7,x8,x9,x10,x11] 32)=w1):=hw1;have HA:Hid (Below w.heap.size w w1/\w.heap.size<=w1.heap.size):=⟨A1,by omega⟩;have HD:Hid (T.tooB= !b):=by show _=_;rw[<-hb0];rfl
 have BR:Hid (Below w1.heap.size w1 w1):=Below.refl _ _;clear A1 hT hrow hw1 C0 hs1 hb0
 go_enter Tryz.func24,Tryz.ntmps24
 go_upto_region 1 with fail
 rw[H1.out]
 go_region_held3 (λW=>W.cell? ⟨w.heap.size,0,none⟩=some x0/\W.cell? ⟨w.heap.size,1,none⟩=some x1/\W.cell? ⟨w.heap.size,2,none⟩=some x2/\W.cell? ⟨w.heap.size,3,none⟩=some x3/\W.cell? ⟨w.heap.size,4,none⟩=some x4/\W.cell? ⟨w.heap.size,5,none⟩=some x5/\W.cell? ⟨w.heap.size,6,none⟩=some x6/\W.cell? ⟨w.heap.size,7,none⟩=some x7/\W.cell? ⟨w.heap.size,8,none⟩=some x8/\W.cell? ⟨w.heap.size,9,none⟩=some x9/\W.cell? ⟨w.heap.size,10,none⟩=some x10/\W.cell? ⟨w.heap.size,11,none⟩=some x11)
  (first|exact CF.out _ B4.out|exact CF.out _ B3.out|exact CF.out _ BR.out.drew|exact CF.out _ BR.out)
  (first
  |(go_simp;go_at_call 39;refine Calls.mono (CW.out _ ?_) ?_;(first|exact BR.out|exact BR.out.drew|exact Tk.below_drewN BR.out _);rintro e W3 ⟨rfl,B3⟩)
  |(go_simp;go_at_call 41;refine Calls.mono (CT.out _ ?_) ?_;(first|exact B3.out|exact B3.out.drew|exact Tk.below_drewN B3.out _);rintro e W4 ⟨rfl,B4⟩))
 all_goals
  clear CW CT BR CF;go_simp;go_wp2;go_ret;exact⟨Tk.ret_bool HD.out.symm,HA.out.1.trans (B4.out.mono HA.out.2)⟩
def Ac.hasNodeB (k:Int):Bool:=k==2||k==3||k==4||k==5||k==8||k==9||k==10||k==11||k==12
theorem Tryz.hasNode_any (k:Int)(w:World):Calls Tryz.prog 45 #[.int .i64 k] w λe w'=>e=.returned (.bool (Ac.hasNodeB k))/\w'=w:=by
 by_cases h:k=2∨k=3∨k=4∨k=5∨k=8∨k=9∨k=10∨k=11∨k=12
 ·rcases h with rfl|rfl|rfl|rfl|rfl|rfl|rfl|rfl|rfl
  all_goals
   go_enter Tryz.func45,Tryz.ntmps45
   go_wp2;go_ret;exact⟨rfl,rfl⟩
 have e:Ac.hasNodeB k=false:=by unfold Ac.hasNodeB;simp;omega
 rw[e];have e2:(k==2)=false:=by simp;omega
 have e3:(k==3)=false:=by simp;omega
 have e4:(k==4)=false:=by simp;omega
 have e5:(k==5)=false:=by simp;omega
 have e8:(k==8)=false:=by simp;omega
 have e9:(k==9)=false:=by simp;omega
 have e10:(k==10)=false:=by simp;omega
 have e11:(k==11)=false:=by simp;omega
 have e12:(k==12)=false:=by simp;omega
 clear h e
 go_enter Tryz.func45,Tryz.ntmps45
 go_wp2;go_ret;exact⟨rfl,rfl⟩
def Ac.kidBad (K k:Int):Bool:=if k=13∨k=14 then true else if k=12 then K !=13 else((k==10) !=(K==9))
def Ac.holdsB (T:Ac):Bool:= !(T.ks.any λk=>Ac.kidBad T.kind k.kind)
theorem Tryz.holds1_any (k K:Int)(x1 x2 x3 x4 x5 x6 x7 x8 x9 x10 x11:Value)(bx:Nat)(w:World)(h:w.cell? ⟨bx,0,none⟩=some (.int .i64 K)):Calls Tryz.prog 70 #[.agg #[.int .i64 k,x1,x2,x3,x4,x5,x6,x7,x8,x9,x10,x11],.pointer (some ⟨bx,0,none⟩)] w λe w'=>e=.returned (.bool (Ac.kidBad K k))/\Below w.heap.size w w':=by
 have B0:Hid (Below w.heap.size w (w.alloc (.cells #[.int .i64 k,x1,x2,x3,x4,x5,x6,x7,x8,x9,x10,x11] 32))):=(Below.refl _ w).alloc (Nat.le_refl _) _
 have hl:bx<w.heap.size:=by
  rcases Nat.lt_or_ge bx w.heap.size with h1|h1
  ·exact h1
  unfold World.cell? at h;simp[h1]at h
 have h':(w.alloc (.cells #[.int .i64 k,x1,x2,x3,x4,x5,x6,x7,x8,x9,x10,x11] 32)).cell? ⟨bx,0,none⟩=some (.int .i64 K):=(B0.out.cell (p:=⟨bx,0,none⟩) hl).trans h
 by_cases c13:k=13
 ·subst c13
  have e:Ac.kidBad K 13=true:=rfl;rw[e];clear e h
  go_enter Tryz.func70,Tryz.ntmps70
  go_wp2;go_ret;exact⟨rfl,B0.out⟩
 by_cases c14:k=14
 ·subst c14
  have e:Ac.kidBad K 14=true:=rfl;rw[e];clear e h c13
  go_enter Tryz.func70,Tryz.ntmps70
  go_wp2;go_ret;exact⟨rfl,B0.out⟩
 by_cases c12:k=12
 ·subst c12
  have e:Ac.kidBad K 12=(K !=13):=rfl;rw[e];clear e h c13 c14
  go_enter Tryz.func70,Tryz.ntmps70
  go_wp2;go_ret;exact⟨rfl,B0.out⟩
 have e:Ac.kidBad K k=((k==10) !=(K==9)):=by unfold Ac.kidBad;rw[if_neg (by omega),if_neg c12]
 rw[e];have d13:(k==13)=false:=by simpa using c13
 have d14:(k==14)=false:=by simpa using c14
 have d12:(k==12)=false:=by simpa using c12
 clear e h c13 c14 c12;obtain⟨p,hp⟩:=pE ((k==10));obtain⟨q,hq⟩:=pE ((K==9));rw[hp,hq]
 cases p<;>cases q
 all_goals
  go_enter Tryz.func70,Tryz.ntmps70
  go_wp2;go_ret;exact⟨rfl,B0.out⟩
structure Ak.Pred (p:Ac->Bool)(g:Nat)(lb:Array Value)(B e:Nat)(w0:World):Prop where
 enters:∀args w,(callFunc g args).run Tryz.prog w=.ok (.enter g args) w
 calls:∀(W:World) (d:Nat) (T:Ac) (V:Ac.Vs),Below w0.heap.size w0 W->Ac.Lies W B e d V T->Calls Tryz.prog g (#[.agg (Ac.row T V)]++lb) W λe w'=>e=.returned (.bool (p T))/\Below W.heap.size W w'
theorem Tryz.aindex_any {p:Ac->Bool}{g:Nat}{lb:Array Value}{B e:Nat}(d:Nat)(T:Ac)(V:Ac.Vs)(a:Option Addr)(cap:Nat)(w:World)(hP:Ak.Pred p g lb B e w)(hT:Ac.Lies w B e d V T)(hv:V.k=.slice a T.ks.length cap)(hB:B<=w.heap.size)(hn:T.ks.length<=2147483647):
  Calls Tryz.prog 93 #[.slice a T.ks.length cap,.func (.func g) #[] lb] w λe w'=>(∃r:Int,e=.returned (.int .i64 r)/\decide (0<=r)=T.ks.any p)/\Below w.heap.size w w':=by
 cases d with
 |zero=>exact hT.elim
 |succ d=>
 obtain⟨n,hln⟩:=pE (T.ks.length);have HT:Hid (Ac.Lies w B e (d+1) V T/\V.k=.slice a n cap/\T.ks.length=n/\B<=w.heap.size):=⟨hT,by rw[hv,hln],hln,hB⟩;have HP:Hid (Ak.Pred p g lb B e w):=hP;have eg:=hP.enters;rw[hln]at hn⊢;clear hT hv hln hP hB
 go_enter Tryz.func93,Tryz.ntmps93
 go_wp2
 go_loopg [8] n (λgk i wr=>∃j:Nat,gk+j=n/\i=.int .i64 j/\Hid ((T.ks.take j).any p=false/\Below w.heap.size w wr))
 case atStart=>exact⟨0,by omega,rfl,by simp,Below.refl _ w⟩
 case round=>
  obtain⟨j,hj,rfl,HJ⟩:=hrel
  by_cases hjn:j<n
  rotate_left
  ·have hd:decide ((j:Int)<n)=false:=decide_eq_false (by omega)
   go_wp2;go_ret;refine⟨⟨_,rfl, ?_⟩,HJ.out.2⟩;have hall:T.ks.take j=T.ks:=List.take_of_length_le (by rw[HT.out.2.2.1];omega);have h1:=HJ.out.1;rw[hall]at h1;rw[h1];rfl
  have hd:decide ((j:Int)<n)=true:=decide_eq_true (by omega);have hjk:j<T.ks.length:=by rw[HT.out.2.2.1];exact hjn
  obtain⟨g',off,U,rfl,hg,hrw,hlu⟩:=HT.out.1.kid HT.out.2.1 j hjk;obtain⟨x,hx⟩:=pE (T.ks[j]);rw[hx]at hrw hlu;obtain⟨y0,y1,y2,y3,y4,y5,y6,y7,y8,y9,y10,y11,hyr⟩:∃y0 y1 y2 y3 y4 y5 y6 y7 y8 y9 y10 y11,Ac.row x U=#[y0,y1,y2,y3,y4,y5,y6,y7,y8,y9,y10,y11]:=⟨_,_,_,_,_,_,_,_,_,_,_,_,rfl⟩;rw[hyr]at hrw;have hc:∀p,wr.cell? ⟨g',p,none⟩=w.cell? ⟨g',p,none⟩:=λp=>HJ.out.2.cell (p:=⟨g',p,none⟩) (by have:=HT.out.2.2.2;show g'<_;omega)
  have hcs:wr.cell? ⟨g',off+j*12,none⟩=some y0/\wr.cell? ⟨g',off+j*12+1,none⟩=some y1/\wr.cell? ⟨g',off+j*12+2,none⟩=some y2/\wr.cell? ⟨g',off+j*12+3,none⟩=some y3/\wr.cell? ⟨g',off+j*12+4,none⟩=some y4/\wr.cell? ⟨g',off+j*12+5,none⟩=some y5/\wr.cell? ⟨g',off+j*12+6,none⟩=some y6/\wr.cell? ⟨g',off+j*12+7,none⟩=some y7/\wr.cell? ⟨g',off+j*12+8,none⟩=some y8/\wr.cell? ⟨g',off+j*12+9,none⟩=some y9/\wr.cell? ⟨g',off+j*12+10,none⟩=some y10/\wr.cell? ⟨g',off+j*12+11,none⟩=some y11:=by
   exact⟨by rw[hc];exact hrw 0 (by simp),by rw[hc];exact hrw 1 (by simp),by rw[hc];exact hrw 2 (by simp),by rw[hc];exact hrw 3 (by simp),by rw[hc];exact hrw 4 (by simp),by rw[hc];exact hrw 5 (by simp),by rw[hc];exact hrw 6 (by simp),by rw[hc];exact hrw 7 (by simp),by rw[hc];exact hrw 8 (by simp),by rw[hc];exact hrw 9 (by simp),by rw[hc];exact hrw 10 (by simp),by rw[hc];exact hrw 11 (by simp)⟩
  obtain⟨hc0,hc1,hc2,hc3,hc4,hc5,hc6,hc7,hc8,hc9,hc10,hc11⟩:=hcs;have hcall:=HP.out.calls wr d x U HJ.out.2 (hlu.below (HJ.out.2.mono HT.out.2.2.2));rw[hyr]at hcall;obtain⟨q,hq⟩:=pE (p x);rw[hq]at hcall;have HC:Hid _:=hcall
  have HS:Hid ((T.ks.take (j+1)).any p=q/\p T.ks[j]=q):=by
   show _/\_;rw[Ac.take_snoc _ _ hjk,List.any_append,HJ.out.1,hx];simp[hq]
  have hj0:(0:Int)<=j:=by omega
  have hjn':(j:Int)<n:=by omega
  clear hcall hc hrw hlu hx hyr hq
  go_wp2_with fail
  refine Calls.mono HC.out ?_;rintro e W2 ⟨rfl,hb2⟩;have B2:Hid (Below w.heap.size w W2):=HJ.out.2.trans (hb2.mono HJ.out.2.size);clear hb2 HC
  cases q with
  |true=>
   go_wp2;go_ret;refine⟨⟨_,rfl, ?_⟩,B2.out⟩;rw[decide_eq_true hj0];exact(List.any_eq_true.2 ⟨T.ks[j],List.getElem_mem hjk,HS.out.2⟩).symm
  |false=>
   go_wp2;go_roundg (gk-1)
   case measure=>omega
   case rel=>exact⟨j+1,by omega,by go_num,HS.out.1,B2.out⟩
theorem Tryz.acontains_any {p:Ac->Bool}{g:Nat}{lb:Array Value}{B e:Nat}(d:Nat)(T:Ac)(V:Ac.Vs)(a:Option Addr)(cap:Nat)(w:World)(hP:Ak.Pred p g lb B e w)(hT:Ac.Lies w B e d V T)(hv:V.k=.slice a T.ks.length cap)(hB:B<=w.heap.size)(hn:T.ks.length<=2147483647):
  Calls Tryz.prog 69 #[.slice a T.ks.length cap,.func (.func g) #[] lb] w λe w'=>e=.returned (.bool (T.ks.any p))/\Below w.heap.size w w':=by
 have C:Hid _:=Tryz.aindex_any d T V a cap w hP hT hv hB hn;obtain⟨n,hln⟩:=pE (T.ks.length);obtain⟨b,hb⟩:=pE (T.ks.any p);rw[hln,hb]at C;rw[hln,hb];clear hP hT hv hln hb hn hB
 go_enter Tryz.func69,Tryz.ntmps69
 go_wp2_with fail
 refine Calls.mono C.out ?_;rintro e W1 ⟨⟨r,rfl,hr⟩,hb1⟩;have HB1:Hid (Below w.heap.size w W1):=hb1;clear hb1;go_wp2;go_ret;exact⟨by first|rfl|(rw[hr])|simp[hr],HB1.out⟩
theorem Tryz.holds_any (d e:Nat)(T:Ac)(V:Ac.Vs)(w:World)(hT:Ac.Lies w w.heap.size e d V T)(hn:T.ks.length<=2147483647):
  Calls Tryz.prog 43 #[.agg (Ac.row T V)] w λe w'=>e=.returned (.bool T.holdsB)/\Below w.heap.size w w':=by
 obtain⟨a,cap,hvk⟩:=hT.kids;obtain⟨n,hln⟩:=pE (T.ks.length);obtain⟨K,hK⟩:=pE (T.kind);obtain⟨x1,x2,x3,x4,x5,x6,x7,x9,x10,x11,hrow⟩:∃x1 x2 x3 x4 x5 x6 x7 x9 x10 x11,Ac.row T V=#[.int .i64 K,x1,x2,x3,x4,x5,x6,x7,.slice a n cap,x9,x10,x11]:=⟨_,_,_,_,_,_,_,_,_,_,by unfold Ac.row;rw[hvk,hK,hln]⟩;rw[hrow];obtain⟨w1,hw1⟩:=pE (w.alloc (.cells #[.int .i64 K,x1,x2,x3,x4,x5,x6,x7,.slice a n cap,x9,x10,x11] 32));have A1:=pB hw1
 have C0:w1.heap[w.heap.size]? =some (.cells #[.int .i64 K,x1,x2,x3,x4,x5,x6,x7,.slice a n cap,x9,x10,x11] 32 (0,0)):=by rw[<-hw1];exact heap_alloc_new w _
 have c8:w1.cell? ⟨w.heap.size,8,none⟩=some (.slice a n cap):=by simp[World.cell?,C0]
 have hlt:w.heap.size<w1.heap.size:=(Array.getElem?_eq_some_iff.1 C0).1
 have PR:Ak.Pred (λk=>Ac.kidBad K k.kind) 70 #[.pointer (some ⟨w.heap.size,0,none⟩)] w.heap.size e w1:=⟨enters_of Tryz.func70 (by kernel_rfl) rfl,λW d' T' V' hb hT'=>by
  have hc:W.cell? ⟨w.heap.size,0,none⟩=some (.int .i64 K):=by
   rw[hb.cell (p:=⟨w.heap.size,0,none⟩) hlt];simp[World.cell?,C0]
  exact Tryz.holds1_any T'.kind K _ _ _ _ _ _ _ _ _ _ _ w.heap.size W hc⟩
 have C:Hid _:=Tryz.acontains_any d T V a cap w1 PR (hT.below A1) hvk (Nat.le_of_lt hlt) hn;rw[hln]at C;obtain⟨b,hb⟩:=pE ((T.ks.any λk=>Ac.kidBad K k.kind));rw[hb]at C;have HB:Hid (T.holdsB= !b/\Below w.heap.size w w1):=⟨by unfold Ac.holdsB;rw[hK,hb],A1⟩;have H1:Hid (w.alloc (.cells #[.int .i64 K,x1,x2,x3,x4,x5,x6,x7,.slice a n cap,x9,x10,x11] 32)=w1):=hw1;clear hT hn hvk hln hK hrow hw1 A1 C0 hlt PR hb
 go_enter Tryz.func43,Tryz.ntmps43
 go_upto_region 1 with fail
 rw[H1.out]
 go_wp2_with fail
 refine Calls.mono C.out ?_;rintro e W2 ⟨rfl,hb2⟩;have B2:Hid (Below w1.heap.size w1 W2):=hb2;clear hb2;go_wp2;go_ret;exact⟨Tk.ret_bool HB.out.1.symm,HB.out.2.trans (B2.out.mono HB.out.2.size)⟩
theorem Tryz.infoIntQ:(Tryz.prog.info? 3).map (λi=>(i.zero,i.size,i.bytes))=some (some (.int .i64 0),1,8):=by kernel_rfl
def Rq.nums (l:List Nat):List Value:=l.map λi:Nat=>Value.int .i64 (i:Int)
theorem Rq.nums_snoc (l:List Nat)(i:Nat):Rq.nums (l++ [i])=Rq.nums l++ [.int .i64 (i:Int)]:=by simp[Rq.nums]
theorem Rq.own_shape {w:World}{B:Nat}{e:TypeId}{size:Nat}{v:Value}{n:Nat}{cs:List Value}(h:w.ownsRow B e size v n cs):∃a c,v=.slice a n c:=by
 rcases h.2 with⟨rfl,rfl⟩|⟨g,cap,cur,rfl,_⟩
 ·exact⟨none,0,rfl⟩
 exact⟨_,_,rfl⟩
theorem Rq.own_below {w w':World}{B:Nat}{e:TypeId}{size:Nat}{v:Value}{n:Nat}{cs:List Value}(h:w.ownsRow B e size v n cs)(hb:Below w.heap.size w w'):w'.ownsRow B e size v n cs:=by
 rcases h with⟨hl,h|⟨g,cap,cur,rfl,hB,hg,h4⟩⟩
 ·exact⟨hl,.inl h⟩
 exact⟨hl,.inr ⟨g,cap,cur,rfl,hB,by rw[hb.block g (Array.getElem?_eq_some_iff.1 hg).1];exact hg,h4⟩⟩
theorem Rq.below_grown {B:Nat}{a w w':World}{v:Value}{e:TypeId}{size n:Nat}{cs:List Value}(h:Below B a w)(hB:B<=w.heap.size)(ho:w.ownsRow B e size v n cs)(hg:w.grownBy w' v.ownBlock):Below B a w':=
 h.trans ⟨hg.os,hg.tape,hg.output,hg.size,λj hj=>hg.block j (by omega) (by
  intro he
  rcases ho.2 with⟨rfl,_⟩|⟨g,cap,cur,rfl,h1,_⟩
  ·simp[Value.ownBlock]at he
  simp[Value.ownBlock]at he
  omega)⟩
theorem Rq.one_cell (w:World)(i:Int)(t:TypeId):∀j u, [Value.int .i64 i][j]? =some u->(w.alloc (.cells #[.int .i64 i] t)).cell? ((⟨w.heap.size,0,none⟩:Addr).add j)=some u:=by
 intro j u hj
 match j,hj with
 |0,hj=>simp at hj;subst hj;simp[Addr.add]
theorem Rq.one_one (i:Int):∀u∈ [Value.int .i64 i],u.oneCell'=true:=by intro u hu;simp at hu;subst hu;rfl
def Rq.Hold (g:Nat)(lb:Array Value)(p:Nat->Bool)(n:Nat)(w:World):Prop:=
 ∀(W:World) (i:Nat),i<n->Below w.heap.size w W->Calls Tryz.prog g (#[.int .i64 (i:Int)]++lb) W λe w'=>e=.returned (.bool (p i))/\Below W.heap.size W w'
theorem Tryz.things_any (p:Nat->Bool)(g:Nat)(lb:Array Value)(eg:∀args w,(callFunc g args).run Tryz.prog w=.ok (.enter g args) w)(n:Nat)(w:World)(hp:Rq.Hold g lb p n w)(hn:n<=64):
  Calls Tryz.prog 97 #[.int .i64 n,.func (.func g) #[] lb] w λe w'=>∃v,e=.returned v/\w'.ownsRow w.heap.size 3 1 v ((List.range n).filter p).length (Rq.nums ((List.range n).filter p))/\Below w.heap.size w w':=by
 obtain⟨i0,hi,hz0,hz1,hz2⟩:=info_parts Tryz.infoIntQ;have HP:Hid _:=hp;clear hp
 go_enter Tryz.func97,Tryz.ntmps97
 go_wp2
 go_loopg [5,8] n (λgk s5 s8 wr=>∃(k r:Nat) (L:List Nat),gk+k=n/\s8=.int .i64 k/\r<=k/\Hid (L=(List.range k).filter p/\L.length=r/\Below w.heap.size w wr)/\wr.ownsRow w.heap.size 3 1 s5 r (Rq.nums L))
 case atStart=>exact⟨0,0, [],by omega,rfl,Nat.le_refl _,⟨rfl,rfl,Below.refl _ w⟩,World.ownsRow_nil _ _ _ _⟩
 case round=>
  obtain⟨k,r,L,hk,rfl,hr,HB,hown⟩:=hrel;obtain⟨av,cv,rfl⟩:=Rq.own_shape hown
  by_cases hlt:k<n
  rotate_left
  ·have hd:decide ((k:Int)<n)=false:=decide_eq_false (by omega)
   go_wp2;go_ret;obtain rfl:k=n:=by omega
   rw[<-HB.out.1,HB.out.2.1];exact⟨_,rfl,hown,HB.out.2.2⟩
  have hd:decide ((k:Int)<n)=true:=decide_eq_true (by omega);have hcall:=HP.out wr k hlt HB.out.2.2
  have HF:Hid ((List.range (k+1)).filter p=L++if p k=true then [k]else []):=by
   show _=_;rw[List.range_succ,List.filter_append,<-HB.out.1]
   cases hq:p k<;>simp[hq]
  cases hq:p k with
  |false=>
   rw[hq]at hcall HF;clear hq
   go_wp2_with (go_at_fn g;refine hcall.mono ?_;rintro e w1 ⟨rfl,hb⟩)
   go_roundg (gk-1)
   case measure=>omega
   case rel=>
    refine⟨k+1,r,L,by omega,by go_num,by omega,⟨?_,HB.out.2.1,HB.out.2.2.trans (hb.mono HB.out.2.2.size)⟩,Rq.own_below hown hb⟩;rw[HF.out];simp
  |true=>
   rw[hq]at hcall HF;clear hq
   go_wp2_with (first
    |(go_at_fn g;refine hcall.mono ?_;rintro e W1 ⟨rfl,hb⟩;have own1:=Rq.own_below hown hb;have B1:Hid (Below w.heap.size w W1):=HB.out.2.2.trans (hb.mono HB.out.2.2.size);have hs1:w.heap.size<=W1.heap.size:=B1.out.size;clear hb hown hcall)
    |(at_builtin;refine wpList_append_own _ rfl _ _ 111 rfl w.heap.size 3 i0 (.int .i64 0) 1 8 Tryz.underlying111 hi hz0 hz1 hz2 rfl (by decide) _ _ _ rfl (own1.alloc _) ⟨W1.heap.size,0,none⟩ 1 1 [.int .i64 k] rfl rfl (Rq.one_cell W1 k 3) (Rq.one_one k) ?c3 ?c4 ?c5 ?_))
   case c3=>unfold maxLen;omega
   case c4=>omega
   case c5=>simp;omega
   intro v' W2 own2 g2 _;obtain⟨a2,c2,rfl⟩:=Rq.own_shape own2;go_wp2;go_roundg (gk-1)
   case measure=>omega
   case rel=>
    refine⟨k+1,r+1,L++ [k],by omega,by go_num,by omega,⟨?_,by simp[HB.out.2.1],Rq.below_grown (B1.out.alloc hs1 _) (by simp;omega) (own1.alloc _) g2⟩, ?_⟩
    ·rw[HF.out];simp
    rw[Rq.nums_snoc];exact own2
end Go.Proofs
