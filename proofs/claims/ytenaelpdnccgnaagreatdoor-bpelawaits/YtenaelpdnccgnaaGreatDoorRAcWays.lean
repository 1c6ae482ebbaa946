import Derived.Test.YtenaelpdnccgnaaGreatDoorRAcGo
set_option maxRecDepth 100000
set_option maxHeartbeats 32000000
namespace Go.Proofs
open Go.RowKit Go.Shelf
theorem Ak.below_row {B:Nat}{a w:World}(h:Below B a w){g:Nat}(hg:B<=g)(cs:Array Value):Below B a (w.setRow g cs):=
 h.trans ⟨rfl,rfl,rfl,by simp[World.setRow],λk hk=>by
  simp only[World.setRow,Array.getElem?_modify]
  rw[if_neg (by omega)]⟩
theorem Tryz.away_any (L n:Int)(w:World):Calls Tryz.prog 39 #[.int .i64 L,.int .i64 n] w λe w'=>e=.returned (.agg #[.func (.func 60) #[] #[],.int .i64 L,.int .i64 n])/\Below w.heap.size w w':=by
 have hbk:=heap_alloc_new w (.cells #[.nilFunc,.int .i64 0,.int .i64 0] 80);have B0:Hid (Below w.heap.size w (w.alloc (.cells #[.nilFunc,.int .i64 0,.int .i64 0] 80))):=(Below.refl _ w).alloc (Nat.le_refl _) _;have HK:Hid _:=hbk
 go_enter Tryz.func39,Tryz.ntmps39
 go_wp2_with (refine wpList_store_row rfl 80 _ _ rfl w.heap.size _ rfl rfl 80 #[.nilFunc,.int .i64 0,.int .i64 0] (by exact HK.out) (by kernel_rfl) rfl (by kernel_rfl) ?_)
 refine bodyPost_ret (v:=.agg #[.func (.func 60) #[] #[],.int .i64 L,.int .i64 n]) (results_cell_row Tryz.results39 _ _ w.heap.size 80 #[.func (.func 60) #[] #[],.int .i64 L,.int .i64 n] (0,0) _ rfl (setRow_heap _ _ _ _ _ _ HK.out) Tryz.underlying80 rfl (by kernel_rfl)) rfl ⟨rfl, ?_⟩;exact Ak.below_row B0.out (Nat.le_refl _) _
def Ak.GoneThru {St:Type}(step:Ac->St->Bool×St)(Inv:St->World->Prop)(E:Nat->Prop)(T:Ac)(L left:Nat)(s:St)(w:World)(b:Bool)(w':World):Prop:=
 Tk.But E w w'/\((T.depth<=L/\T.size<=left/\Inv (T.go step s).2 w'/\b=(T.go step s).1)∨(¬(T.depth<=L/\T.size<=left)/\b=false))
theorem Tryz.anestThru_any {St:Type}{step:Ac->St->Bool×St}{P:Ac->Prop}{g:Nat}{lb:Array Value}{Inv:St->World->Prop}{E:Nat->Prop}{B e:Nat}(d L left:Nat)(s:St)(T:Ac)(V:Ac.Vs)(w:World)(hS:Ak.Stepped step P g lb Inv E B e w.heap.size)(hT:Ac.Lies w B e d V T)(hB:0<B)(hBs:B<=w.heap.size)(hI:Inv s w)(hE:∀k,E k->k<w.heap.size)(hleft:left<=2147483647)(hL:L<=1000)(hsz:T.size<=2147483647)(hP:T.All P):
  Calls Tryz.prog 41 #[.agg #[.func (.func 60) #[] #[],.int .i64 L,.int .i64 left],.agg (Ac.row T V),.func (.func g) #[] lb] w λe w'=>∃b,e=.returned (.bool b)/\Ak.GoneThru step Inv E T L left s w b w':=by
 obtain⟨x0,x1,x2,x3,x4,x5,x6,x7,x8,x9,x10,x11,hrow⟩:∃x0 x1 x2 x3 x4 x5 x6 x7 x8 x9 x10 x11,Ac.row T V=#[x0,x1,x2,x3,x4,x5,x6,x7,x8,x9,x10,x11]:=⟨_,_,_,_,_,_,_,_,_,_,_,_,rfl⟩;rw[hrow];obtain⟨w1,hw1⟩:=pE ((w.alloc (.cells #[.func (.func 60) #[] #[],.int .i64 L,.int .i64 left] 80)).alloc (.cells #[x0,x1,x2,x3,x4,x5,x6,x7,x8,x9,x10,x11] 32));have A1:Below w.heap.size w w1:=by rw[<-hw1];exact((Below.refl _ w).alloc (Nat.le_refl _) _).alloc (by simp) _
 have hWy:Ak.Wy w.heap.size L left w1:=by
  rw[<-hw1];exact Ak.Wy.keep (heap_alloc_new w _) (Below.heap_alloc _ _ _ (by simp))
 have hcall:=Tryz.ago_any hS L d L T V left s w1 (hT.below (A1.mono hBs)) hB hBs (Nat.le_trans hBs A1.size) hWy (hS.keeps s w w1 hI (Tk.But.of_below A1)) (λk hk=>Nat.lt_of_lt_of_le (hE k hk) A1.size) hleft hL hsz hP;rw[hrow]at hcall;have HC:Hid _:=hcall;have HA:Hid (Below w.heap.size w w1):=A1;have H1:Hid ((w.alloc (.cells #[.func (.func 60) #[] #[],.int .i64 L,.int .i64 left] 80)).alloc (.cells #[x0,x1,x2,x3,x4,x5,x6,x7,x8,x9,x10,x11] 32)=w1):=hw1;clear hcall A1 hT hI hrow hw1 hWy hS hE
 go_enter Tryz.func41,Tryz.ntmps41
 go_wp2_with fail
 rw[H1.out];refine Calls.mono HC.out ?_;rintro e W1 ⟨hb,hend⟩
 have X:Hid (Tk.But E w W1):=⟨hb.os.trans HA.out.os,hb.tape.trans HA.out.tape,hb.output.trans HA.out.output,Nat.le_trans HA.out.size hb.size,λi hi he=>by
  rw[hb.block i (Nat.lt_of_lt_of_le hi HA.out.size) (by rintro(h|h);omega;exact he h)];exact HA.out.block i hi⟩
 rcases hend with⟨h1,h2,h3,rfl,_⟩|⟨h1,rfl⟩
 ·have Y:Hid (T.depth<=L/\T.size<=left/\Inv (T.go step s).2 W1):=⟨h1,h2,h3⟩
  clear hb h1 h2 h3;go_wp2;go_ret;exact⟨_,rfl,X.out,.inl ⟨Y.out.1,Y.out.2.1,Y.out.2.2,rfl⟩⟩
 have Y:Hid (¬(T.depth<=L/\T.size<=left)):=h1;clear hb h1;go_wp2;go_ret;exact⟨_,rfl,X.out,.inr ⟨Y.out,rfl⟩⟩
theorem Tryz.athrough_any {St:Type}{step:Ac->St->Bool×St}{P:Ac->Prop}{g:Nat}{lb:Array Value}{Inv:St->World->Prop}{E:Nat->Prop}{B e:Nat}(d:Nat)(s:St)(T:Ac)(V:Ac.Vs)(w:World)(hS:∀bw,w.heap.size<=bw->Ak.Stepped step P g lb Inv E B e bw)(hT:Ac.Lies w B e d V T)(hB:0<B)(hBs:B<=w.heap.size)(hI:Inv s w)(hE:∀k,E k->k<w.heap.size)(hsz:T.size<=2147483647)(hP:T.All P):
  Calls Tryz.prog 25 #[.agg (Ac.row T V),.func (.func g) #[] lb] w λe w'=>∃b,e=.returned (.bool b)/\Ak.GoneThru step Inv E T 1000 2147483647 s w b w':=by
 obtain⟨x0,x1,x2,x3,x4,x5,x6,x7,x8,x9,x10,x11,hrow⟩:∃x0 x1 x2 x3 x4 x5 x6 x7 x8 x9 x10 x11,Ac.row T V=#[x0,x1,x2,x3,x4,x5,x6,x7,x8,x9,x10,x11]:=⟨_,_,_,_,_,_,_,_,_,_,_,_,rfl⟩;rw[hrow];obtain⟨w1,hw1⟩:=pE (w.alloc (.cells #[x0,x1,x2,x3,x4,x5,x6,x7,x8,x9,x10,x11] 32));have hs1:w1.heap.size=w.heap.size+1:=by rw[<-hw1];simp
 have A1:=pB hw1
 have C0:w1.heap[w.heap.size]? =some (.cells #[x0,x1,x2,x3,x4,x5,x6,x7,x8,x9,x10,x11] 32 (0,0)):=by rw[<-hw1];exact heap_alloc_new w _
 have CF:Hid (∀W,Tk.But E w1 W->W.cell? ⟨w.heap.size,0,none⟩=some x0/\W.cell? ⟨w.heap.size,1,none⟩=some x1/\W.cell? ⟨w.heap.size,2,none⟩=some x2/\W.cell? ⟨w.heap.size,3,none⟩=some x3/\W.cell? ⟨w.heap.size,4,none⟩=some x4/\W.cell? ⟨w.heap.size,5,none⟩=some x5/\W.cell? ⟨w.heap.size,6,none⟩=some x6/\W.cell? ⟨w.heap.size,7,none⟩=some x7/\W.cell? ⟨w.heap.size,8,none⟩=some x8/\W.cell? ⟨w.heap.size,9,none⟩=some x9/\W.cell? ⟨w.heap.size,10,none⟩=some x10/\W.cell? ⟨w.heap.size,11,none⟩=some x11):=λW hb=>by
  have e1:=(hb.block w.heap.size (by omega) (λe=>by have:=hE _ e;omega)).trans C0;simp[World.cell?,e1]
 have CW:Hid (∀W,Below w1.heap.size w1 W->Calls Tryz.prog 39 #[.int .i64 1000,.int .i64 2147483647] W λe w'=>e=.returned (.agg #[.func (.func 60) #[] #[],.int .i64 1000,.int .i64 2147483647])/\Hid (Below w1.heap.size w1 w')):=λW hb=>
  (Tryz.away_any 1000 2147483647 W).mono λ_ w' h=>⟨h.1,hb.trans (h.2.mono hb.size)⟩
 have CT:Hid (∀W,Below w1.heap.size w1 W->Calls Tryz.prog 41 #[.agg #[.func (.func 60) #[] #[],.int .i64 1000,.int .i64 2147483647],.agg #[x0,x1,x2,x3,x4,x5,x6,x7,x8,x9,x10,x11],.func (.func g) #[] lb] W λe w'=>
   ∃b,e=.returned (.bool b)/\Hid (Tk.But E w1 w'/\Ak.GoneThru step Inv E T 1000 2147483647 s w b w')):=λW hb=>by
  have hS':=hS W.heap.size (by have:=hb.size;omega);have hbw:Below w.heap.size w W:=A1.trans (hb.mono (by omega));have h:=Tryz.anestThru_any d 1000 2147483647 s T V W hS' (hT.below (hbw.mono hBs)) hB (by have:=hbw.size;omega) (hS'.keeps s w W hI (Tk.But.of_below hbw)) (λk hk=>by have:=hE k hk;have:=hbw.size;omega) (by omega) (by omega) hsz hP;rw[hrow]at h;refine h.mono ?_;rintro e w' ⟨b,rfl,hbt,hend⟩;exact⟨b,rfl,(Tk.But.of_below hb).trans hbt,(Tk.But.of_below hbw).trans hbt,hend⟩
 have H1:Hid (w.alloc (.cells #[x0,x1,x2,x3,x4,x5,x6,x7,x8,x9,x10,x11] 32)=w1):=hw1;have BR:Hid (Below w1.heap.size w1 w1):=Below.refl _ _;clear A1 hT hI hrow hw1 hS hE C0 hs1
 go_enter Tryz.func25,Tryz.ntmps25
 go_upto_region 1 with fail
 rw[H1.out]
 go_region_held3 (λW=>W.cell? ⟨w.heap.size,0,none⟩=some x0/\W.cell? ⟨w.heap.size,1,none⟩=some x1/\W.cell? ⟨w.heap.size,2,none⟩=some x2/\W.cell? ⟨w.heap.size,3,none⟩=some x3/\W.cell? ⟨w.heap.size,4,none⟩=some x4/\W.cell? ⟨w.heap.size,5,none⟩=some x5/\W.cell? ⟨w.heap.size,6,none⟩=some x6/\W.cell? ⟨w.heap.size,7,none⟩=some x7/\W.cell? ⟨w.heap.size,8,none⟩=some x8/\W.cell? ⟨w.heap.size,9,none⟩=some x9/\W.cell? ⟨w.heap.size,10,none⟩=some x10/\W.cell? ⟨w.heap.size,11,none⟩=some x11)
  (first|exact CF.out _ H4.out.1|exact CF.out _ (Tk.But.of_below B3.out)|exact CF.out _ (Tk.But.of_below BR.out.drew)|exact CF.out _ (Tk.But.of_below BR.out))
  (first
  |(go_simp;go_at_call 39;refine Calls.mono (CW.out _ ?_) ?_;(first|exact BR.out|exact BR.out.drew|exact Tk.below_drewN BR.out _);rintro e W3 ⟨rfl,B3⟩)
  |(go_simp;go_at_call 41;refine Calls.mono (CT.out _ ?_) ?_;(first|exact B3.out|exact B3.out.drew|exact Tk.below_drewN B3.out _);rintro e W4 ⟨b,rfl,H4⟩))
 all_goals
  clear CW CT BR CF;go_simp;go_wp2;go_ret;exact⟨_,rfl,H4.out.2⟩
theorem Tryz.aallTrue_any (x0 x1 x2 x3 x4 x5 x6 x7 x8 x9 x10 x11:Value)(w:World):
  Calls Tryz.prog 42 #[.agg #[x0,x1,x2,x3,x4,x5,x6,x7,x8,x9,x10,x11]] w λe w'=>e=.returned (.bool true)/\Below w.heap.size w w':=by
 have B0:Hid (Below w.heap.size w (w.alloc (.cells #[x0,x1,x2,x3,x4,x5,x6,x7,x8,x9,x10,x11] 32))):=(Below.refl _ w).alloc (Nat.le_refl _) _;have BR:Hid (Below w.heap.size w w):=Below.refl _ _
 go_enter Tryz.func42,Tryz.ntmps42
 go_wp2;go_ret;exact⟨rfl,by first|exact B0.out|exact BR.out⟩
theorem Ak.stepped_true (B e bw:Nat):Ak.Stepped (λ_ (s:Unit)=>(true,s)) (λ_=>True) 42 #[] (λ_ _=>True) (λ_=>False) B e bw where
 enters:=enters_of Tryz.func42 (by kernel_rfl) rfl
 calls:=λs W d T V _ _ _ _=>by
  obtain⟨x0,x1,x2,x3,x4,x5,x6,x7,x8,x9,x10,x11,hrow⟩:∃x0 x1 x2 x3 x4 x5 x6 x7 x8 x9 x10 x11,Ac.row T V=#[x0,x1,x2,x3,x4,x5,x6,x7,x8,x9,x10,x11]:=⟨_,_,_,_,_,_,_,_,_,_,_,_,rfl⟩;rw[hrow];exact(Tryz.aallTrue_any x0 x1 x2 x3 x4 x5 x6 x7 x8 x9 x10 x11 W).mono λ_ _ q=>⟨q.1,trivial,Tk.But.of_below q.2⟩
 keeps:=λ_ _ _ _ _=>trivial
 above:=λk hk=>hk.elim
 not_bw:=λh=>h
mutual
theorem Ac.go_true:∀(T:Ac) (s:Unit),T.go (λ_ (s:Unit)=>(true,s)) s=(true,s)
 | .mk _ _ _ _ _ _ ks _ _ _,s=>by rw[Ac.go,if_pos rfl];exact Ac.goes_true ks s
theorem Ac.goes_true:∀(l:List Ac) (s:Unit),Ac.goes (λ_ (s:Unit)=>(true,s)) l s=(true,s)
 | [],s=>by rw[Ac.goes]
 |k::r,s=>by rw[Ac.goes,Ac.go_true k s,if_pos rfl];exact Ac.goes_true r s
end
mutual
theorem Ac.all_true:∀T:Ac,T.All (λ_=>True)
 | .mk _ _ _ _ _ _ ks _ _ _=>⟨trivial,Ac.alls_true ks⟩
theorem Ac.alls_true:∀l:List Ac,Ac.Alls (λ_=>True) l
 | []=>trivial
 |k::r=>⟨Ac.all_true k,Ac.alls_true r⟩
end
def Ac.tooB (T:Ac):Bool:= !decide (T.depth<=24/\T.size<=96)
theorem Tryz.atooLarge_any (d e:Nat)(T:Ac)(V:Ac.Vs)(w:World)(hT:Ac.Lies w w.heap.size e d V T)(h0:0<w.heap.size)(hsz:T.size<=2147483647):
  Calls Tryz.prog 24 #[.agg (Ac.row T V)] w λe w'=>e=.returned (.bool T.tooB)/\Below w.heap.size w w':=by
 obtain⟨x0,x1,x2,x3,x4,x5,x6,x7,x8,x9,x10,x11,hrow⟩:∃x0 x1 x2 x3 x4 x5 x6 x7 x8 x9 x10 x11,Ac.row T V=#[x0,x1,x2,x3,x4,x5,x6,x7,x8,x9,x10,x11]:=⟨_,_,_,_,_,_,_,_,_,_,_,_,rfl⟩;rw[hrow];obtain⟨w1,hw1⟩:=pE (w.alloc (.cells #[x0,x1,x2,x3,x4,x5,x6,x7,x8,x9,x10,x11] 32));have hs1:w1.heap.size=w.heap.size+1:=by rw[<-hw1];simp
 have A1:=pB hw1
 have C0:w1.heap[w.heap.size]? =some (.cells #[x0,x1,x2,x3,x4,x5,x6,x7,x8,x9,x10,x11] 32 (0,0)):=by rw[<-hw1];exact heap_alloc_new w _
 have CF:Hid (∀W,Below w1.heap.size w1 W->W.cell? ⟨w.heap.size,0,none⟩=some x0/\W.cell? ⟨w.heap.size,1,none⟩=some x1/\W.cell? ⟨w.heap.size,2,none⟩=some x2/\W.cell? ⟨w.heap.size,3,none⟩=some x3/\W.cell? ⟨w.heap.size,4,none⟩=some x4/\W.cell? ⟨w.heap.size,5,none⟩=some x5/\W.cell? ⟨w.heap.size,6,none⟩=some x6/\W.cell? ⟨w.heap.size,7,none⟩=some x7/\W.cell? ⟨w.heap.size,8,none⟩=some x8/\W.cell? ⟨w.heap.size,9,none⟩=some x9/\W.cell? ⟨w.heap.size,10,none⟩=some x10/\W.cell? ⟨w.heap.size,11,none⟩=some x11):=λW hb=>by
  have e1:=(hb.block w.heap.size (by omega)).trans C0;simp[World.cell?,e1]
 have CW:Hid (∀W,Below w1.heap.size w1 W->Calls Tryz.prog 39 #[.int .i64 24,.int .i64 96] W λe w'=>e=.returned (.agg #[.func (.func 60) #[] #[],.int .i64 24,.int .i64 96])/\Hid (Below w1.heap.size w1 w')):=λW hb=>
  (Tryz.away_any 24 96 W).mono λ_ w' h=>⟨h.1,hb.trans (h.2.mono hb.size)⟩
 obtain⟨b,hb0⟩:=pE (decide (T.depth<=24/\T.size<=96))
 have CT:Hid (∀W,Below w1.heap.size w1 W->Calls Tryz.prog 41 #[.agg #[.func (.func 60) #[] #[],.int .i64 24,.int .i64 96],.agg #[x0,x1,x2,x3,x4,x5,x6,x7,x8,x9,x10,x11],.func (.func 42) #[] #[]] W λe w'=>
   e=.returned (.bool b)/\Hid (Below w1.heap.size w1 w')):=λW hb=>by
  have hbw:Below w.heap.size w W:=A1.trans (hb.mono (by omega));have h:=Tryz.anestThru_any d 24 96 () T V W (Ak.stepped_true w.heap.size e W.heap.size) (hT.below hbw) h0 hbw.size trivial (λk hk=>hk.elim) (by omega) (by omega) hsz (Ac.all_true T);rw[hrow]at h;refine h.mono ?_;rintro e w' ⟨bb,rfl,hbt,hend⟩;have h2:Below w1.heap.size w1 w':=hb.trans (hbt.below hb.size (λk _ h=>h))
  rcases hend with⟨x1,x2,_,x4⟩|⟨x1,x4⟩
  ·exact⟨by rw[x4,Ac.go_true,<-hb0,decide_eq_true ⟨x1,x2⟩],h2⟩
  exact⟨by rw[x4,<-hb0,decide_eq_false x1],h2⟩
 have H1:Hid (w.alloc (.cells #[x0,x1,x2,x3,x4,x5,x6,x7,x8,x9,x10,x11] 32)=w1):=hw1;have HA:Hid (Below w.heap.size w w1/\w.heap.size<=w1.heap.size):=⟨A1,by omega⟩;have HD:Hid (T.tooB= !b):=by show _=_;rw[<-hb0];rfl
 have BR:Hid (Below w1.heap.size w1 w1):=Below.refl _ _;clear A1 hT hrow hw1 C0 hs1 hb0
 go_enter Tryz.func24,Tryz.ntmps24
 go_upto_region 1 with fail
 rw[H1.out]
 go_region_held3 (λW=>W.cell? ⟨w.heap.size,0,none⟩=some x0/\W.cell? ⟨w.heap.size,1,none⟩=some x1/\W.cell? ⟨w.heap.size,2,none⟩=some x2/\W.cell? ⟨w.heap.size,3,none⟩=some x3/\W.cell? ⟨w.heap.size,4,none⟩=some x4/\W.cell? ⟨w.heap.size,5,none⟩=some x5/\W.cell? ⟨w.heap.size,6,none⟩=some x6/\W.cell? ⟨w.heap.size,7,none⟩=some x7/\W.cell? ⟨w.heap.size,8,none⟩=some x8/\W.cell? ⟨w.heap.size,9,none⟩=some x9/\W.cell? ⟨w.heap.size,10,none⟩=some x10/\W.cell? ⟨w.heap.size,11,none⟩=some x11)
  (first|exact CF.out _ B4.out|exact CF.out _ B3.out|exact CF.out _ BR.out.drew|exact CF.out _ BR.out)
  (first
  |(go_simp;go_at_call 39;refine Calls.mono (CW.out _ ?_) ?_;(first|exact BR.out|exact BR.out.drew|exact Tk.below_drewN BR.out _);rintro e W3 ⟨rfl,B3⟩)
  |(go_simp;go_at_call 41;refine Calls.mono (CT.out _ ?_) ?_;(first|exact B3.out|exact B3.out.drew|exact Tk.below_drewN B3.out _);rintro e W4 ⟨rfl,B4⟩))
 all_goals
  clear CW CT BR CF;go_simp;go_wp2;go_ret;exact⟨Tk.ret_bool HD.out.symm,HA.out.1.trans (B4.out.mono HA.out.2)⟩
def Ac.hasNodeB (k:Int):Bool:=k==2||k==3||k==4||k==5||k==8||k==9||k==10||k==11||k==12
theorem Tryz.hasNode_any (k:Int)(w:World):Calls Tryz.prog 45 #[.int .i64 k] w λe w'=>e=.returned (.bool (Ac.hasNodeB k))/\w'=w:=by
 by_cases h:k=2∨k=3∨k=4∨k=5∨k=8∨k=9∨k=10∨k=11∨k=12
 ·rcases h with rfl|rfl|rfl|rfl|rfl|rfl|rfl|rfl|rfl
  all_goals
   go_enter Tryz.func45,Tryz.ntmps45
   go_wp2;go_ret;exact⟨rfl,rfl⟩
 have e:Ac.hasNodeB k=false:=by unfold Ac.hasNodeB;simp;omega
 rw[e];have e2:(k==2)=false:=by simp;omega
 have e3:(k==3)=false:=by simp;omega
 have e4:(k==4)=false:=by simp;omega
 have e5:(k==5)=false:=by simp;omega
 have e8:(k==8)=false:=by simp;omega
 have e9:(k==9)=false:=by simp;omega
 have e10:(k==10)=false:=by simp;omega
 have e11:(k==11)=false:=by simp;omega
 have e12:(k==12)=false:=by simp;omega
 clear h e
 go_enter Tryz.func45,Tryz.ntmps45
 go_wp2;go_ret;exact⟨rfl,rfl⟩
def Ac.kidBad (K k:Int):Bool:=if k=13∨k=14 then true else if k=12 then K !=13 else((k==10) !=(K==9))
def Ac.holdsB (T:Ac):Bool:= !(T.ks.any λk=>Ac.kidBad T.kind k.kind)
theorem Tryz.holds1_any (k K:Int)(x1 x2 x3 x4 x5 x6 x7 x8 x9 x10 x11:Value)(bx:Nat)(w:World)(h:w.cell? ⟨bx,0,none⟩=some (.int .i64 K)):Calls Tryz.prog 70 #[.agg #[.int .i64 k,x1,x2,x3,x4,x5,x6,x7,x8,x9,x10,x11],.pointer (some ⟨bx,0,none⟩)] w λe w'=>e=.returned (.bool (Ac.kidBad K k))/\Below w.heap.size w w':=by
 have B0:Hid (Below w.heap.size w (w.alloc (.cells #[.int .i64 k,x1,x2,x3,x4,x5,x6,x7,x8,x9,x10,x11] 32))):=(Below.refl _ w).alloc (Nat.le_refl _) _
 have hl:bx<w.heap.size:=by
  rcases Nat.lt_or_ge bx w.heap.size with h1|h1
  ·exact h1
  unfold World.cell? at h;simp[h1]at h
 have h':(w.alloc (.cells #[.int .i64 k,x1,x2,x3,x4,x5,x6,x7,x8,x9,x10,x11] 32)).cell? ⟨bx,0,none⟩=some (.int .i64 K):=(B0.out.cell (p:=⟨bx,0,none⟩) hl).trans h
 by_cases c13:k=13
 ·subst c13
  have e:Ac.kidBad K 13=true:=rfl;rw[e];clear e h
  go_enter Tryz.func70,Tryz.ntmps70
  go_wp2;go_ret;exact⟨rfl,B0.out⟩
 by_cases c14:k=14
 ·subst c14
  have e:Ac.kidBad K 14=true:=rfl;rw[e];clear e h c13
  go_enter Tryz.func70,Tryz.ntmps70
  go_wp2;go_ret;exact⟨rfl,B0.out⟩
 by_cases c12:k=12
 ·subst c12
  have e:Ac.kidBad K 12=(K !=13):=rfl;rw[e];clear e h c13 c14
  go_enter Tryz.func70,Tryz.ntmps70
  go_wp2;go_ret;exact⟨rfl,B0.out⟩
 have e:Ac.kidBad K k=((k==10) !=(K==9)):=by unfold Ac.kidBad;rw[if_neg (by omega),if_neg c12]
 rw[e];have d13:(k==13)=false:=by simpa using c13
 have d14:(k==14)=false:=by simpa using c14
 have d12:(k==12)=false:=by simpa using c12
 clear e h c13 c14 c12;obtain⟨p,hp⟩:=pE ((k==10));obtain⟨q,hq⟩:=pE ((K==9));rw[hp,hq]
 cases p<;>cases q
 all_goals
  go_enter Tryz.func70,Tryz.ntmps70
  go_wp2;go_ret;exact⟨rfl,B0.out⟩
structure Ak.Pred (p:Ac->Bool)(g:Nat)(lb:Array Value)(B e:Nat)(w0:World):Prop where
 enters:∀args w,(callFunc g args).run Tryz.prog w=.ok (.enter g args) w
 calls:∀(W:World) (d:Nat) (T:Ac) (V:Ac.Vs),Below w0.heap.size w0 W->Ac.Lies W B e d V T->Calls Tryz.prog g (#[.agg (Ac.row T V)]++lb) W λe w'=>e=.returned (.bool (p T))/\Below W.heap.size W w'
theorem Tryz.aindex_any {p:Ac->Bool}{g:Nat}{lb:Array Value}{B e:Nat}(d:Nat)(T:Ac)(V:Ac.Vs)(a:Option Addr)(cap:Nat)(w:World)(hP:Ak.Pred p g lb B e w)(hT:Ac.Lies w B e d V T)(hv:V.k=.slice a T.ks.length cap)(hB:B<=w.heap.size)(hn:T.ks.length<=2147483647):
  Calls Tryz.prog 93 #[.slice a T.ks.length cap,.func (.func g) #[] lb] w λe w'=>(∃r:Int,e=.returned (.int .i64 r)/\decide (0<=r)=T.ks.any p)/\Below w.heap.size w w':=by
 cases d with
 |zero=>exact hT.elim
 |succ d=>
 obtain⟨n,hln⟩:=pE (T.ks.length);have HT:Hid (Ac.Lies w B e (d+1) V T/\V.k=.slice a n cap/\T.ks.length=n/\B<=w.heap.size):=⟨hT,by rw[hv,hln],hln,hB⟩;have HP:Hid (Ak.Pred p g lb B e w):=hP;have eg:=hP.enters;rw[hln]at hn⊢;clear hT hv hln hP hB
 go_enter Tryz.func93,Tryz.ntmps93
 go_wp2
 go_loopg [8] n (λgk i wr=>∃j:Nat,gk+j=n/\i=.int .i64 j/\Hid ((T.ks.take j).any p=false/\Below w.heap.size w wr))
 case atStart=>exact⟨0,by omega,rfl,by simp,Below.refl _ w⟩
 case round=>
  obtain⟨j,hj,rfl,HJ⟩:=hrel
  by_cases hjn:j<n
  rotate_left
  ·have hd:decide ((j:Int)<n)=false:=decide_eq_false (by omega)
   go_wp2;go_ret;refine⟨⟨_,rfl, ?_⟩,HJ.out.2⟩;have hall:T.ks.take j=T.ks:=List.take_of_length_le (by rw[HT.out.2.2.1];omega);have h1:=HJ.out.1;rw[hall]at h1;rw[h1];rfl
  have hd:decide ((j:Int)<n)=true:=decide_eq_true (by omega);have hjk:j<T.ks.length:=by rw[HT.out.2.2.1];exact hjn
  obtain⟨g',off,U,rfl,hg,hrw,hlu⟩:=HT.out.1.kid HT.out.2.1 j hjk;obtain⟨x,hx⟩:=pE (T.ks[j]);rw[hx]at hrw hlu;obtain⟨y0,y1,y2,y3,y4,y5,y6,y7,y8,y9,y10,y11,hyr⟩:∃y0 y1 y2 y3 y4 y5 y6 y7 y8 y9 y10 y11,Ac.row x U=#[y0,y1,y2,y3,y4,y5,y6,y7,y8,y9,y10,y11]:=⟨_,_,_,_,_,_,_,_,_,_,_,_,rfl⟩;rw[hyr]at hrw;have hc:∀p,wr.cell? ⟨g',p,none⟩=w.cell? ⟨g',p,none⟩:=λp=>HJ.out.2.cell (p:=⟨g',p,none⟩) (by have:=HT.out.2.2.2;show g'<_;omega)
  have hcs:wr.cell? ⟨g',off+j*12,none⟩=some y0/\wr.cell? ⟨g',off+j*12+1,none⟩=some y1/\wr.cell? ⟨g',off+j*12+2,none⟩=some y2/\wr.cell? ⟨g',off+j*12+3,none⟩=some y3/\wr.cell? ⟨g',off+j*12+4,none⟩=some y4/\wr.cell? ⟨g',off+j*12+5,none⟩=some y5/\wr.cell? ⟨g',off+j*12+6,none⟩=some y6/\wr.cell? ⟨g',off+j*12+7,none⟩=some y7/\wr.cell? ⟨g',off+j*12+8,none⟩=some y8/\wr.cell? ⟨g',off+j*12+9,none⟩=some y9/\wr.cell? ⟨g',off+j*12+10,none⟩=some y10/\wr.cell? ⟨g',off+j*12+11,none⟩=some y11:=by
   exact⟨by rw[hc];exact hrw 0 (by simp),by rw[hc];exact hrw 1 (by simp),by rw[hc];exact hrw 2 (by simp),by rw[hc];exact hrw 3 (by simp),by rw[hc];exact hrw 4 (by simp),by rw[hc];exact hrw 5 (by simp),by rw[hc];exact hrw 6 (by simp),by rw[hc];exact hrw 7 (by simp),by rw[hc];exact hrw 8 (by simp),by rw[hc];exact hrw 9 (by simp),by rw[hc];exact hrw 10 (by simp),by rw[hc];exact hrw 11 (by simp)⟩
  obtain⟨hc0,hc1,hc2,hc3,hc4,hc5,hc6,hc7,hc8,hc9,hc10,hc11⟩:=hcs;have hcall:=HP.out.calls wr d x U HJ.out.2 (hlu.below (HJ.out.2.mono HT.out.2.2.2));rw[hyr]at hcall;obtain⟨q,hq⟩:=pE (p x);rw[hq]at hcall;have HC:Hid _:=hcall
  have HS:Hid ((T.ks.take (j+1)).any p=q/\p T.ks[j]=q):=by
   show _/\_;rw[Ac.take_snoc _ _ hjk,List.any_append,HJ.out.1,hx];simp[hq]
  have hj0:(0:Int)<=j:=by omega
  have hjn':(j:Int)<n:=by omega
  clear hcall hc hrw hlu hx hyr hq
  go_wp2_with fail
  refine Calls.mono HC.out ?_;rintro e W2 ⟨rfl,hb2⟩;have B2:Hid (Below w.heap.size w W2):=HJ.out.2.trans (hb2.mono HJ.out.2.size);clear hb2 HC
  cases q with
  |true=>
   go_wp2;go_ret;refine⟨⟨_,rfl, ?_⟩,B2.out⟩;rw[decide_eq_true hj0];exact(List.any_eq_true.2 ⟨T.ks[j],List.getElem_mem hjk,HS.out.2⟩).symm
  |false=>
   go_wp2;go_roundg (gk-1)
   case measure=>omega
   case rel=>exact⟨j+1,by omega,by go_num,HS.out.1,B2.out⟩
theorem Tryz.acontains_any {p:Ac->Bool}{g:Nat}{lb:Array Value}{B e:Nat}(d:Nat)(T:Ac)(V:Ac.Vs)(a:Option Addr)(cap:Nat)(w:World)(hP:Ak.Pred p g lb B e w)(hT:Ac.Lies w B e d V T)(hv:V.k=.slice a T.ks.length cap)(hB:B<=w.heap.size)(hn:T.ks.length<=2147483647):
  Calls Tryz.prog 69 #[.slice a T.ks.length cap,.func (.func g) #[] lb] w λe w'=>e=.returned (.bool (T.ks.any p))/\Below w.heap.size w w':=by
 have C:Hid _:=Tryz.aindex_any d T V a cap w hP hT hv hB hn;obtain⟨n,hln⟩:=pE (T.ks.length);obtain⟨b,hb⟩:=pE (T.ks.any p);rw[hln,hb]at C;rw[hln,hb];clear hP hT hv hln hb hn hB
 go_enter Tryz.func69,Tryz.ntmps69
 go_wp2_with fail
 refine Calls.mono C.out ?_;rintro e W1 ⟨⟨r,rfl,hr⟩,hb1⟩;have HB1:Hid (Below w.heap.size w W1):=hb1;clear hb1;go_wp2;go_ret;exact⟨by first|rfl|(rw[hr])|simp[hr],HB1.out⟩
theorem Tryz.holds_any (d e:Nat)(T:Ac)(V:Ac.Vs)(w:World)(hT:Ac.Lies w w.heap.size e d V T)(hn:T.ks.length<=2147483647):
  Calls Tryz.prog 43 #[.agg (Ac.row T V)] w λe w'=>e=.returned (.bool T.holdsB)/\Below w.heap.size w w':=by
 obtain⟨a,cap,hvk⟩:=hT.kids;obtain⟨n,hln⟩:=pE (T.ks.length);obtain⟨K,hK⟩:=pE (T.kind);obtain⟨x1,x2,x3,x4,x5,x6,x7,x9,x10,x11,hrow⟩:∃x1 x2 x3 x4 x5 x6 x7 x9 x10 x11,Ac.row T V=#[.int .i64 K,x1,x2,x3,x4,x5,x6,x7,.slice a n cap,x9,x10,x11]:=⟨_,_,_,_,_,_,_,_,_,_,by unfold Ac.row;rw[hvk,hK,hln]⟩;rw[hrow];obtain⟨w1,hw1⟩:=pE (w.alloc (.cells #[.int .i64 K,x1,x2,x3,x4,x5,x6,x7,.slice a n cap,x9,x10,x11] 32));have A1:=pB hw1
 have C0:w1.heap[w.heap.size]? =some (.cells #[.int .i64 K,x1,x2,x3,x4,x5,x6,x7,.slice a n cap,x9,x10,x11] 32 (0,0)):=by rw[<-hw1];exact heap_alloc_new w _
 have c8:w1.cell? ⟨w.heap.size,8,none⟩=some (.slice a n cap):=by simp[World.cell?,C0]
 have hlt:w.heap.size<w1.heap.size:=(Array.getElem?_eq_some_iff.1 C0).1
 have PR:Ak.Pred (λk=>Ac.kidBad K k.kind) 70 #[.pointer (some ⟨w.heap.size,0,none⟩)] w.heap.size e w1:=⟨enters_of Tryz.func70 (by kernel_rfl) rfl,λW d' T' V' hb hT'=>by
  have hc:W.cell? ⟨w.heap.size,0,none⟩=some (.int .i64 K):=by
   rw[hb.cell (p:=⟨w.heap.size,0,none⟩) hlt];simp[World.cell?,C0]
  exact Tryz.holds1_any T'.kind K _ _ _ _ _ _ _ _ _ _ _ w.heap.size W hc⟩
 have C:Hid _:=Tryz.acontains_any d T V a cap w1 PR (hT.below A1) hvk (Nat.le_of_lt hlt) hn;rw[hln]at C;obtain⟨b,hb⟩:=pE ((T.ks.any λk=>Ac.kidBad K k.kind));rw[hb]at C;have HB:Hid (T.holdsB= !b/\Below w.heap.size w w1):=⟨by unfold Ac.holdsB;rw[hK,hb],A1⟩;have H1:Hid (w.alloc (.cells #[.int .i64 K,x1,x2,x3,x4,x5,x6,x7,.slice a n cap,x9,x10,x11] 32)=w1):=hw1;clear hT hn hvk hln hK hrow hw1 A1 C0 hlt PR hb
 go_enter Tryz.func43,Tryz.ntmps43
 go_upto_region 1 with fail
 rw[H1.out]
 go_wp2_with fail
 refine Calls.mono C.out ?_;rintro e W2 ⟨rfl,hb2⟩;have B2:Hid (Below w1.heap.size w1 W2):=hb2;clear hb2;go_wp2;go_ret;exact⟨Tk.ret_bool HB.out.1.symm,HB.out.2.trans (B2.out.mono HB.out.2.size)⟩
def Rq.Bits (w:World)(g:Nat)(bs:List Bool):Prop:=w.heap[g]? =some (.cells (bs.map Value.bool).toArray 4 (0,0))
theorem Rq.Bits.lt {w:World}{g:Nat}{bs:List Bool}(h:Rq.Bits w g bs):g<w.heap.size:=(Array.getElem?_eq_some_iff.1 h).1
theorem Rq.Bits.cell {w:World}{g:Nat}{bs:List Bool}(h:Rq.Bits w g bs)(j:Nat)(b:Bool)(hj:bs[j]? =some b):w.cell? ⟨g,j,none⟩=some (.bool b):=by
 unfold Rq.Bits at h;simp[World.cell?,h,hj]
theorem Rq.Bits.frozen {w:World}{g:Nat}{bs:List Bool}(h:Rq.Bits w g bs)(j:Nat):w.frozen? ⟨g,j,none⟩=false:=by
 unfold Rq.Bits at h;simp[World.frozen?,h]
theorem Rq.Bits.put {w:World}{g:Nat}{bs:List Bool}(h:Rq.Bits w g bs)(j:Nat)(b:Bool):Rq.Bits (w.setCell ⟨g,j,none⟩ (.bool b)) g (bs.set j b):=by
 unfold Rq.Bits at*;simp[World.setCell,Array.getElem?_modify,h]
theorem Rq.Bits.keep {w w':World}{g:Nat}{bs:List Bool}(h:Rq.Bits w g bs)(hk:w'.heap[g]? =w.heap[g]?):Rq.Bits w' g bs:=by unfold Rq.Bits;rw[hk];exact h
theorem Rq.Bits.below {w w':World}{g B:Nat}{bs:List Bool}(h:Rq.Bits w g bs)(hb:Below B w w')(hg:g<B):Rq.Bits w' g bs:=h.keep (hb.block g hg)
def Rk.Eds (w:World)(B:Nat)(a:Option Addr)(es:List (Int×Int)):Prop:=
 ∀j (h:j<es.length),∃g off,a=some ⟨g,off,none⟩/\g<B/\w.cell? ⟨g,off+j*2,none⟩=some (.int .i64 es[j].1)/\w.cell? ⟨g,off+j*2+1,none⟩=some (.int .i64 es[j].2)
theorem Rk.Eds.below {w w':World}{B:Nat}{a:Option Addr}{es:List (Int×Int)}(h:Rk.Eds w B a es)(hb:Below B w w'):Rk.Eds w' B a es:=λj hj=>by
 obtain⟨g,off,h1,h2,h3,h4⟩:=h j hj;exact⟨g,off,h1,h2,by rw[hb.cell (p:=⟨g,off+j*2,none⟩) h2];exact h3,by rw[hb.cell (p:=⟨g,off+j*2+1,none⟩) h2];exact h4⟩
theorem Rk.Eds.wider {w:World}{B B':Nat}{a:Option Addr}{es:List (Int×Int)}(h:Rk.Eds w B a es)(hB:B<=B'):Rk.Eds w B' a es:=λj hj=>by
 obtain⟨g,off,h1,h2,h3⟩:=h j hj;exact⟨g,off,h1,by omega,h3⟩
def Rk.up (es:List (Nat×Nat)):List (Int×Int):=es.map λe=>((e.1:Int),(e.2:Int))
theorem Rk.up_length (es:List (Nat×Nat)):(Rk.up es).length=es.length:=by simp[Rk.up]
theorem Rk.up_get (es:List (Nat×Nat))(j:Nat)(h:j<(Rk.up es).length):(Rk.up es)[j]=(((es[j]'(by simpa [Rk.up]using h)).1:Int),((es[j]'(by simpa [Rk.up]using h)).2:Int)):=by simp[Rk.up]
def Rk.Pred (g:Nat)(lb:Array Value)(p:Int×Int->Bool)(es:List (Int×Int))(w:World):Prop:=
 ∀(W:World) (x y:Int),(x,y)∈es->Below w.heap.size w W->Calls Tryz.prog g (#[.agg #[.int .i64 x,.int .i64 y]]++lb) W λe w'=>e=.returned (.bool (p (x,y)))/\Below w.heap.size w w'
theorem Tryz.index_any (p:Int×Int->Bool)(g:Nat)(lb:Array Value)(eg:∀args w,(callFunc g args).run Tryz.prog w=.ok (.enter g args) w)(a:Option Addr)(c:Nat)(es:List (Int×Int))(w:World)
  (hp:Rk.Pred g lb p es w) (hE:Rk.Eds w w.heap.size a es) (hn:es.length<=1000000000000000):
  Calls Tryz.prog 149 #[.slice a es.length c,.func (.func g) #[] lb] w λe w'=>(∃k:Int,e=.returned (.int .i64 k)/\decide (0<=k)=es.any p)/\Below w.heap.size w w':=by
 obtain⟨n,hnn⟩:=pE (es.length);rw[hnn]at hn⊢;have HP:Hid (Rk.Pred g lb p es w):=hp;have HE:Hid (Rk.Eds w w.heap.size a es/\es.length=n):=⟨hE,hnn⟩;clear hp hE hnn
 go_enter Tryz.func149,Tryz.ntmps149
 go_wp2
 go_loopg [5,8] n (λgk _ s8 wr=>∃k:Nat,gk+k=n/\s8=.int .i64 k/\Hid (Below w.heap.size w wr/\(es.take k).any p=false))
 case atStart=>exact⟨0,by omega,rfl,Below.refl _ w,by simp⟩
 case round=>
  obtain⟨k,hk,rfl,HB⟩:=hrel
  by_cases hlt:k<n
  rotate_left
  ·have hd:decide ((k:Int)<n)=false:=decide_eq_false (by omega)
   go_wp2;go_ret;refine⟨⟨-1,rfl, ?_⟩,HB.out.1⟩;have:=HB.out.2;rw[List.take_of_length_le (by rw[HE.out.2];omega)]at this;rw[this];rfl
  have hd:decide ((k:Int)<n)=true:=decide_eq_true (by omega);have hkl:k<es.length:=by rw[HE.out.2];exact hlt
  obtain⟨q,off,rfl,hq,h0,h1⟩:=HE.out.1 k hkl;obtain⟨x,hx⟩:=pE (es[k]);obtain⟨x0,x1⟩:=x;rw[hx]at h0 h1;have hc0:wr.cell? ⟨q,off+k*2,none⟩=some (.int .i64 x0):=by rw[HB.out.1.cell (p:=⟨q,off+k*2,none⟩) hq];exact h0
  have hc1:wr.cell? ⟨q,off+k*2+1,none⟩=some (.int .i64 x1):=by rw[HB.out.1.cell (p:=⟨q,off+k*2+1,none⟩) hq];exact h1
  have HX:Hid (es[k]=(x0,x1)):=hx;have hcall:=HP.out wr x0 x1 (by rw[<-hx];exact List.getElem_mem hkl) HB.out.1;clear h0 h1 hx hq;have hu:=Tryz.underlying113
  cases hq:p (x0,x1)with
  |true=>
   rw[hq]at hcall;have HQ:Hid (p (x0,x1)=true):=hq;clear hq
   go_wp2_with (go_at_fn g;refine hcall.mono ?_;rintro e w' ⟨rfl,hb'⟩)
   go_ret;refine⟨⟨k,rfl, ?_⟩,hb'⟩;rw[decide_eq_true (by omega)];exact(List.any_eq_true.2 ⟨es[k],List.getElem_mem hkl,by rw[HX.out];exact HQ.out⟩).symm
  |false=>
   rw[hq]at hcall;have HQ:Hid (p (x0,x1)=false):=hq;clear hq
   go_wp2_with (go_at_fn g;refine hcall.mono ?_;rintro e w' ⟨rfl,hb'⟩)
   go_roundg (gk-1)
   case measure=>omega
   case rel=>
    refine⟨k+1,by omega,by go_num,hb', ?_⟩;rw[Tm.take_snoc _ _ hkl,List.any_append,HB.out.2,HX.out];simp[HQ.out]
theorem Tryz.contains_any (p:Int×Int->Bool)(g:Nat)(lb:Array Value)(eg:∀args w,(callFunc g args).run Tryz.prog w=.ok (.enter g args) w)(a:Option Addr)(c:Nat)(es:List (Int×Int))(w:World)
  (hp:Rk.Pred g lb p es w) (hE:Rk.Eds w w.heap.size a es) (hn:es.length<=1000000000000000):
  Calls Tryz.prog 120 #[.slice a es.length c,.func (.func g) #[] lb] w λe w'=>e=.returned (.bool (es.any p))/\Below w.heap.size w w':=by
 have HC:Hid _:=Tryz.index_any p g lb eg a c es w hp hE hn;obtain⟨q,hq⟩:=pE (es.any p);rw[hq]at HC⊢;clear hp hE hq
 go_enter Tryz.func120,Tryz.ntmps120
 go_wp2_with fail
 refine Calls.mono HC.out ?_;rintro e W1 ⟨⟨k,rfl,hk⟩,hb⟩;have HB:Hid (Below w.heap.size w W1):=hb;have HK:Hid (decide (0<=k)=q):=hk;clear hb hk HC;go_wp2;go_ret;exact⟨Tk.ret_bool HK.out,HB.out⟩
theorem Tryz.within_any (n i:Int)(w:World):Calls Tryz.prog 122 #[.int .i64 n,.int .i64 i] w λe w'=>e=.returned (.bool (decide (0<=i)&&decide (i<n)))/\w'=w:=by
 cases h1:decide (0<=i)<;>cases h2:decide (i<n)
 all_goals
  go_enter Tryz.func122,Tryz.ntmps122
  go_wp2;go_ret;exact⟨rfl,rfl⟩
end Go.Proofs
