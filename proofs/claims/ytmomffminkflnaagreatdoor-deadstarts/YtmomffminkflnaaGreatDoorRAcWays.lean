import Derived.Test.YtmomffminkflnaaGreatDoorRNtModel
namespace Go.Proofs
open Go.RowKit Go.Shelf
theorem Ak.below_row {B : Nat} {a w : World} (h : Below B a w) {g : Nat} (hg : B ≤ g) (cs : Array Value) : Below B a (w.setRow g cs) :=
 h.trans ⟨rfl, rfl, rfl, by simp [World.setRow], fun k hk => by
  simp only [World.setRow, Array.getElem?_modify]
  rw [if_neg (by omega)]⟩
set_option maxHeartbeats 800000 in
theorem Tryz.away_any (L n : Int) (w : World) : Calls Tryz.prog 56 #[.int .i64 L, .int .i64 n] w fun e w' => e = .returned (.agg #[.func (.func 73) #[] #[], .int .i64 L, .int .i64 n]) ∧ Below w.heap.size w w' := by
 have hbk := heap_alloc_new w (.cells #[.nilFunc, .int .i64 0, .int .i64 0] 106)
 have B0 : Hid (Below w.heap.size w (w.alloc (.cells #[.nilFunc, .int .i64 0, .int .i64 0] 106))) := (Below.refl _ w).alloc (Nat.le_refl _) _
 have HK : Hid _ := hbk
 go_enter Tryz.func56, Tryz.ntmps56
 go_wp2_with (refine wpList_store_row rfl 106 _ _ rfl w.heap.size _ rfl rfl 106 #[.nilFunc, .int .i64 0, .int .i64 0] (by exact HK.out) (by kernel_rfl) rfl (by kernel_rfl) ?_)
 refine bodyPost_ret (v := .agg #[.func (.func 73) #[] #[], .int .i64 L, .int .i64 n]) (results_cell_row Tryz.results56 _ _ w.heap.size 106 #[.func (.func 73) #[] #[], .int .i64 L, .int .i64 n] (0, 0) _ rfl (setRow_heap _ _ _ _ _ _ HK.out) Tryz.underlying106 rfl (by kernel_rfl)) rfl ⟨rfl, ?_⟩
 exact Ak.below_row B0.out (Nat.le_refl _) _
def Ak.GoneThru {St : Type} (step : Ac → St → Bool × St) (Inv : St → World → Prop) (E : Nat → Prop) (T : Ac) (L left : Nat) (s : St) (w : World) (b : Bool) (w' : World) : Prop :=
 Tk.But E w w' ∧ ((T.depth ≤ L ∧ T.size ≤ left ∧ Inv (T.go step s).2 w' ∧ b = (T.go step s).1) ∨ (¬ (T.depth ≤ L ∧ T.size ≤ left) ∧ b = false))
set_option maxRecDepth 20000 in
set_option maxHeartbeats 4000000 in
theorem Tryz.anestThru_any {St : Type} {step : Ac → St → Bool × St} {P : Ac → Prop} {g : Nat} {lb : Array Value} {Inv : St → World → Prop} {E : Nat → Prop} {B e : Nat} (d L left : Nat) (s : St) (T : Ac) (V : Ac.Vs) (w : World) (hS : Ak.Stepped step P g lb Inv E B e w.heap.size) (hT : Ac.Lies w B e d V T) (hB : 0 < B) (hBs : B ≤ w.heap.size) (hI : Inv s w) (hE : ∀ k, E k → k < w.heap.size) (hleft : left ≤ 2147483647) (hL : L ≤ 1000) (hsz : T.size ≤ 2147483647) (hP : T.All P) :
  Calls Tryz.prog 55 #[.agg #[.func (.func 73) #[] #[], .int .i64 L, .int .i64 left], .agg (Ac.row T V), .func (.func g) #[] lb] w fun e w' => ∃ b, e = .returned (.bool b) ∧ Ak.GoneThru step Inv E T L left s w b w' := by
 obtain ⟨x0, x1, x2, x3, x4, x5, x6, x7, x8, x9, x10, x11, hrow⟩ : ∃ x0 x1 x2 x3 x4 x5 x6 x7 x8 x9 x10 x11, Ac.row T V = #[x0, x1, x2, x3, x4, x5, x6, x7, x8, x9, x10, x11] := ⟨_, _, _, _, _, _, _, _, _, _, _, _, rfl⟩
 rw [hrow]
 obtain ⟨w1, hw1⟩ : ∃ x, (w.alloc (.cells #[.func (.func 73) #[] #[], .int .i64 L, .int .i64 left] 106)).alloc (.cells #[x0, x1, x2, x3, x4, x5, x6, x7, x8, x9, x10, x11] 32) = x := ⟨_, rfl⟩
 have A1 : Below w.heap.size w w1 := by rw [← hw1]; exact ((Below.refl _ w).alloc (Nat.le_refl _) _).alloc (by simp) _
 have hWy : Ak.Wy w.heap.size L left w1 := by
  rw [← hw1]
  exact Ak.Wy.keep (heap_alloc_new w _) (Below.heap_alloc _ _ _ (by simp))
 have hcall := Tryz.ago_any hS L d L T V left s w1 (hT.below (A1.mono hBs)) hB hBs (Nat.le_trans hBs A1.size) hWy (hS.keeps s w w1 hI (Tk.But.of_below A1)) (fun k hk => Nat.lt_of_lt_of_le (hE k hk) A1.size) hleft hL hsz hP
 rw [hrow] at hcall
 have HC : Hid _ := hcall
 have HA : Hid (Below w.heap.size w w1) := A1
 have H1 : Hid ((w.alloc (.cells #[.func (.func 73) #[] #[], .int .i64 L, .int .i64 left] 106)).alloc (.cells #[x0, x1, x2, x3, x4, x5, x6, x7, x8, x9, x10, x11] 32) = w1) := hw1
 clear hcall A1 hT hI hrow hw1 hWy hS hE
 go_enter Tryz.func55, Tryz.ntmps55
 go_wp2_with fail
 rw [H1.out]
 refine Calls.mono HC.out ?_
 rintro e W1 ⟨hb, hend⟩
 have X : Hid (Tk.But E w W1) := ⟨hb.os.trans HA.out.os, hb.tape.trans HA.out.tape, hb.output.trans HA.out.output, Nat.le_trans HA.out.size hb.size, fun i hi he => by
  rw [hb.block i (Nat.lt_of_lt_of_le hi HA.out.size) (by rintro (h | h); omega; exact he h)]; exact HA.out.block i hi⟩
 rcases hend with ⟨h1, h2, h3, rfl, _⟩ | ⟨h1, rfl⟩
 ·have Y : Hid (T.depth ≤ L ∧ T.size ≤ left ∧ Inv (T.go step s).2 W1) := ⟨h1, h2, h3⟩
  clear hb h1 h2 h3
  go_wp2
  go_ret
  exact ⟨_, rfl, X.out, .inl ⟨Y.out.1, Y.out.2.1, Y.out.2.2, rfl⟩⟩
 ·have Y : Hid (¬ (T.depth ≤ L ∧ T.size ≤ left)) := h1
  clear hb h1
  go_wp2
  go_ret
  exact ⟨_, rfl, X.out, .inr ⟨Y.out, rfl⟩⟩
set_option maxRecDepth 20000 in
set_option maxHeartbeats 4000000 in
theorem Tryz.athrough_any {St : Type} {step : Ac → St → Bool × St} {P : Ac → Prop} {g : Nat} {lb : Array Value} {Inv : St → World → Prop} {E : Nat → Prop} {B e : Nat} (d : Nat) (s : St) (T : Ac) (V : Ac.Vs) (w : World) (hS : ∀ bw, w.heap.size ≤ bw → Ak.Stepped step P g lb Inv E B e bw) (hT : Ac.Lies w B e d V T) (hB : 0 < B) (hBs : B ≤ w.heap.size) (hI : Inv s w) (hE : ∀ k, E k → k < w.heap.size) (hsz : T.size ≤ 2147483647) (hP : T.All P) :
  Calls Tryz.prog 47 #[.agg (Ac.row T V), .func (.func g) #[] lb] w fun e w' => ∃ b, e = .returned (.bool b) ∧ Ak.GoneThru step Inv E T 1000 2147483647 s w b w' := by
 obtain ⟨x0, x1, x2, x3, x4, x5, x6, x7, x8, x9, x10, x11, hrow⟩ : ∃ x0 x1 x2 x3 x4 x5 x6 x7 x8 x9 x10 x11, Ac.row T V = #[x0, x1, x2, x3, x4, x5, x6, x7, x8, x9, x10, x11] := ⟨_, _, _, _, _, _, _, _, _, _, _, _, rfl⟩
 rw [hrow]
 obtain ⟨w1, hw1⟩ : ∃ x, w.alloc (.cells #[x0, x1, x2, x3, x4, x5, x6, x7, x8, x9, x10, x11] 32) = x := ⟨_, rfl⟩
 have hs1 : w1.heap.size = w.heap.size + 1 := by rw [← hw1]; simp
 have A1 : Below w.heap.size w w1 := by rw [← hw1]; exact (Below.refl _ w).alloc (Nat.le_refl _) _
 have C0 : w1.heap[w.heap.size]? = some (.cells #[x0, x1, x2, x3, x4, x5, x6, x7, x8, x9, x10, x11] 32 (0, 0)) := by rw [← hw1]; exact heap_alloc_new w _
 have CF : Hid (∀ W, Tk.But E w1 W → W.cell? ⟨w.heap.size, 0, none⟩ = some x0 ∧ W.cell? ⟨w.heap.size, 1, none⟩ = some x1 ∧ W.cell? ⟨w.heap.size, 2, none⟩ = some x2 ∧ W.cell? ⟨w.heap.size, 3, none⟩ = some x3 ∧ W.cell? ⟨w.heap.size, 4, none⟩ = some x4 ∧ W.cell? ⟨w.heap.size, 5, none⟩ = some x5 ∧ W.cell? ⟨w.heap.size, 6, none⟩ = some x6 ∧ W.cell? ⟨w.heap.size, 7, none⟩ = some x7 ∧ W.cell? ⟨w.heap.size, 8, none⟩ = some x8 ∧ W.cell? ⟨w.heap.size, 9, none⟩ = some x9 ∧ W.cell? ⟨w.heap.size, 10, none⟩ = some x10 ∧ W.cell? ⟨w.heap.size, 11, none⟩ = some x11) := fun W hb => by
  have e1 := (hb.block w.heap.size (by omega) (fun e => by have := hE _ e; omega)).trans C0
  simp [World.cell?, e1]
 have CW : Hid (∀ W, Below w1.heap.size w1 W → Calls Tryz.prog 56 #[.int .i64 1000, .int .i64 2147483647] W fun e w' => e = .returned (.agg #[.func (.func 73) #[] #[], .int .i64 1000, .int .i64 2147483647]) ∧ Hid (Below w1.heap.size w1 w')) := fun W hb =>
  (Tryz.away_any 1000 2147483647 W).mono fun _ w' h => ⟨h.1, hb.trans (h.2.mono hb.size)⟩
 have CT : Hid (∀ W, Below w1.heap.size w1 W → Calls Tryz.prog 55 #[.agg #[.func (.func 73) #[] #[], .int .i64 1000, .int .i64 2147483647], .agg #[x0, x1, x2, x3, x4, x5, x6, x7, x8, x9, x10, x11], .func (.func g) #[] lb] W fun e w' =>
   ∃ b, e = .returned (.bool b) ∧ Hid (Tk.But E w1 w' ∧ Ak.GoneThru step Inv E T 1000 2147483647 s w b w')) := fun W hb => by
  have hS' := hS W.heap.size (by have := hb.size; omega)
  have hbw : Below w.heap.size w W := A1.trans (hb.mono (by omega))
  have h := Tryz.anestThru_any d 1000 2147483647 s T V W hS' (hT.below (hbw.mono hBs)) hB (by have := hbw.size; omega) (hS'.keeps s w W hI (Tk.But.of_below hbw)) (fun k hk => by have := hE k hk; have := hbw.size; omega) (by omega) (by omega) hsz hP
  rw [hrow] at h
  refine h.mono ?_
  rintro e w' ⟨b, rfl, hbt, hend⟩
  exact ⟨b, rfl, (Tk.But.of_below hb).trans hbt, (Tk.But.of_below hbw).trans hbt, hend⟩
 have H1 : Hid (w.alloc (.cells #[x0, x1, x2, x3, x4, x5, x6, x7, x8, x9, x10, x11] 32) = w1) := hw1
 have BR : Hid (Below w1.heap.size w1 w1) := Below.refl _ _
 clear A1 hT hI hrow hw1 hS hE C0 hs1
 go_enter Tryz.func47, Tryz.ntmps47
 go_upto_region 1 with fail
 rw [H1.out]
 go_region_held3 (fun W => W.cell? ⟨w.heap.size, 0, none⟩ = some x0 ∧ W.cell? ⟨w.heap.size, 1, none⟩ = some x1 ∧ W.cell? ⟨w.heap.size, 2, none⟩ = some x2 ∧ W.cell? ⟨w.heap.size, 3, none⟩ = some x3 ∧ W.cell? ⟨w.heap.size, 4, none⟩ = some x4 ∧ W.cell? ⟨w.heap.size, 5, none⟩ = some x5 ∧ W.cell? ⟨w.heap.size, 6, none⟩ = some x6 ∧ W.cell? ⟨w.heap.size, 7, none⟩ = some x7 ∧ W.cell? ⟨w.heap.size, 8, none⟩ = some x8 ∧ W.cell? ⟨w.heap.size, 9, none⟩ = some x9 ∧ W.cell? ⟨w.heap.size, 10, none⟩ = some x10 ∧ W.cell? ⟨w.heap.size, 11, none⟩ = some x11)
  (first | exact CF.out _ H4.out.1 | exact CF.out _ (Tk.But.of_below B3.out) | exact CF.out _ (Tk.But.of_below BR.out.drew) | exact CF.out _ (Tk.But.of_below BR.out))
  (first
  | (go_simp; go_at_call 56; refine Calls.mono (CW.out _ ?_) ?_; (first | exact BR.out | exact BR.out.drew | exact Tk.below_drewN BR.out _); rintro e W3 ⟨rfl, B3⟩)
  | (go_simp; go_at_call 55; refine Calls.mono (CT.out _ ?_) ?_; (first | exact B3.out | exact B3.out.drew | exact Tk.below_drewN B3.out _); rintro e W4 ⟨b, rfl, H4⟩))
 all_goals
  clear CW CT BR CF
  go_simp
  go_wp2
  go_ret
  exact ⟨_, rfl, H4.out.2⟩
set_option maxHeartbeats 800000 in
theorem Tryz.aallTrue_any (x0 x1 x2 x3 x4 x5 x6 x7 x8 x9 x10 x11 : Value) (w : World) :
  Calls Tryz.prog 57 #[.agg #[x0, x1, x2, x3, x4, x5, x6, x7, x8, x9, x10, x11]] w fun e w' => e = .returned (.bool true) ∧ Below w.heap.size w w' := by
 have B0 : Hid (Below w.heap.size w (w.alloc (.cells #[x0, x1, x2, x3, x4, x5, x6, x7, x8, x9, x10, x11] 32))) := (Below.refl _ w).alloc (Nat.le_refl _) _
 have BR : Hid (Below w.heap.size w w) := Below.refl _ _
 go_enter Tryz.func57, Tryz.ntmps57
 go_wp2
 go_ret
 exact ⟨rfl, by first | exact B0.out | exact BR.out⟩
theorem Ak.stepped_true (B e bw : Nat) : Ak.Stepped (fun _ (s : Unit) => (true, s)) (fun _ => True) 57 #[] (fun _ _ => True) (fun _ => False) B e bw where
 enters := enters_of Tryz.func57 (by kernel_rfl) rfl
 calls := fun s W d T V _ _ _ _ => by
  obtain ⟨x0, x1, x2, x3, x4, x5, x6, x7, x8, x9, x10, x11, hrow⟩ : ∃ x0 x1 x2 x3 x4 x5 x6 x7 x8 x9 x10 x11, Ac.row T V = #[x0, x1, x2, x3, x4, x5, x6, x7, x8, x9, x10, x11] := ⟨_, _, _, _, _, _, _, _, _, _, _, _, rfl⟩
  rw [hrow]
  exact (Tryz.aallTrue_any x0 x1 x2 x3 x4 x5 x6 x7 x8 x9 x10 x11 W).mono fun _ _ q => ⟨q.1, trivial, Tk.But.of_below q.2⟩
 keeps := fun _ _ _ _ _ => trivial
 above := fun k hk => hk.elim
 not_bw := fun h => h
mutual
theorem Ac.go_true : ∀ (T : Ac) (s : Unit), T.go (fun _ (s : Unit) => (true, s)) s = (true, s)
 | .mk _ _ _ _ _ _ ks _ _ _, s => by rw [Ac.go, if_pos rfl]; exact Ac.goes_true ks s
theorem Ac.goes_true : ∀ (l : List Ac) (s : Unit), Ac.goes (fun _ (s : Unit) => (true, s)) l s = (true, s)
 | [], s => by rw [Ac.goes]
 | k :: r, s => by rw [Ac.goes, Ac.go_true k s, if_pos rfl]; exact Ac.goes_true r s
end
mutual
theorem Ac.all_true : ∀ T : Ac, T.All (fun _ => True)
 | .mk _ _ _ _ _ _ ks _ _ _ => ⟨trivial, Ac.alls_true ks⟩
theorem Ac.alls_true : ∀ l : List Ac, Ac.Alls (fun _ => True) l
 | [] => trivial
 | k :: r => ⟨Ac.all_true k, Ac.alls_true r⟩
end
def Ac.tooB (T : Ac) : Bool := !decide (T.depth ≤ 24 ∧ T.size ≤ 96)
set_option maxRecDepth 20000 in
set_option maxHeartbeats 4000000 in
theorem Tryz.atooLarge_any (d e : Nat) (T : Ac) (V : Ac.Vs) (w : World) (hT : Ac.Lies w w.heap.size e d V T) (h0 : 0 < w.heap.size) (hsz : T.size ≤ 2147483647) :
  Calls Tryz.prog 46 #[.agg (Ac.row T V)] w fun e w' => e = .returned (.bool T.tooB) ∧ Below w.heap.size w w' := by
 obtain ⟨x0, x1, x2, x3, x4, x5, x6, x7, x8, x9, x10, x11, hrow⟩ : ∃ x0 x1 x2 x3 x4 x5 x6 x7 x8 x9 x10 x11, Ac.row T V = #[x0, x1, x2, x3, x4, x5, x6, x7, x8, x9, x10, x11] := ⟨_, _, _, _, _, _, _, _, _, _, _, _, rfl⟩
 rw [hrow]
 obtain ⟨w1, hw1⟩ : ∃ x, w.alloc (.cells #[x0, x1, x2, x3, x4, x5, x6, x7, x8, x9, x10, x11] 32) = x := ⟨_, rfl⟩
 have hs1 : w1.heap.size = w.heap.size + 1 := by rw [← hw1]; simp
 have A1 : Below w.heap.size w w1 := by rw [← hw1]; exact (Below.refl _ w).alloc (Nat.le_refl _) _
 have C0 : w1.heap[w.heap.size]? = some (.cells #[x0, x1, x2, x3, x4, x5, x6, x7, x8, x9, x10, x11] 32 (0, 0)) := by rw [← hw1]; exact heap_alloc_new w _
 have CF : Hid (∀ W, Below w1.heap.size w1 W → W.cell? ⟨w.heap.size, 0, none⟩ = some x0 ∧ W.cell? ⟨w.heap.size, 1, none⟩ = some x1 ∧ W.cell? ⟨w.heap.size, 2, none⟩ = some x2 ∧ W.cell? ⟨w.heap.size, 3, none⟩ = some x3 ∧ W.cell? ⟨w.heap.size, 4, none⟩ = some x4 ∧ W.cell? ⟨w.heap.size, 5, none⟩ = some x5 ∧ W.cell? ⟨w.heap.size, 6, none⟩ = some x6 ∧ W.cell? ⟨w.heap.size, 7, none⟩ = some x7 ∧ W.cell? ⟨w.heap.size, 8, none⟩ = some x8 ∧ W.cell? ⟨w.heap.size, 9, none⟩ = some x9 ∧ W.cell? ⟨w.heap.size, 10, none⟩ = some x10 ∧ W.cell? ⟨w.heap.size, 11, none⟩ = some x11) := fun W hb => by
  have e1 := (hb.block w.heap.size (by omega)).trans C0
  simp [World.cell?, e1]
 have CW : Hid (∀ W, Below w1.heap.size w1 W → Calls Tryz.prog 56 #[.int .i64 24, .int .i64 96] W fun e w' => e = .returned (.agg #[.func (.func 73) #[] #[], .int .i64 24, .int .i64 96]) ∧ Hid (Below w1.heap.size w1 w')) := fun W hb =>
  (Tryz.away_any 24 96 W).mono fun _ w' h => ⟨h.1, hb.trans (h.2.mono hb.size)⟩
 obtain ⟨b, hb0⟩ : ∃ b, decide (T.depth ≤ 24 ∧ T.size ≤ 96) = b := ⟨_, rfl⟩
 have CT : Hid (∀ W, Below w1.heap.size w1 W → Calls Tryz.prog 55 #[.agg #[.func (.func 73) #[] #[], .int .i64 24, .int .i64 96], .agg #[x0, x1, x2, x3, x4, x5, x6, x7, x8, x9, x10, x11], .func (.func 57) #[] #[]] W fun e w' =>
   e = .returned (.bool b) ∧ Hid (Below w1.heap.size w1 w')) := fun W hb => by
  have hbw : Below w.heap.size w W := A1.trans (hb.mono (by omega))
  have h := Tryz.anestThru_any d 24 96 () T V W (Ak.stepped_true w.heap.size e W.heap.size) (hT.below hbw) h0 hbw.size trivial (fun k hk => hk.elim) (by omega) (by omega) hsz (Ac.all_true T)
  rw [hrow] at h
  refine h.mono ?_
  rintro e w' ⟨bb, rfl, hbt, hend⟩
  have h2 : Below w1.heap.size w1 w' := hb.trans (hbt.below hb.size (fun k _ h => h))
  rcases hend with ⟨x1, x2, _, x4⟩ | ⟨x1, x4⟩
  ·exact ⟨by rw [x4, Ac.go_true, ← hb0, decide_eq_true ⟨x1, x2⟩], h2⟩
  ·exact ⟨by rw [x4, ← hb0, decide_eq_false x1], h2⟩
 have H1 : Hid (w.alloc (.cells #[x0, x1, x2, x3, x4, x5, x6, x7, x8, x9, x10, x11] 32) = w1) := hw1
 have HA : Hid (Below w.heap.size w w1 ∧ w.heap.size ≤ w1.heap.size) := ⟨A1, by omega⟩
 have HD : Hid (T.tooB = !b) := by show _ = _; rw [← hb0]; rfl
 have BR : Hid (Below w1.heap.size w1 w1) := Below.refl _ _
 clear A1 hT hrow hw1 C0 hs1 hb0
 go_enter Tryz.func46, Tryz.ntmps46
 go_upto_region 1 with fail
 rw [H1.out]
 go_region_held3 (fun W => W.cell? ⟨w.heap.size, 0, none⟩ = some x0 ∧ W.cell? ⟨w.heap.size, 1, none⟩ = some x1 ∧ W.cell? ⟨w.heap.size, 2, none⟩ = some x2 ∧ W.cell? ⟨w.heap.size, 3, none⟩ = some x3 ∧ W.cell? ⟨w.heap.size, 4, none⟩ = some x4 ∧ W.cell? ⟨w.heap.size, 5, none⟩ = some x5 ∧ W.cell? ⟨w.heap.size, 6, none⟩ = some x6 ∧ W.cell? ⟨w.heap.size, 7, none⟩ = some x7 ∧ W.cell? ⟨w.heap.size, 8, none⟩ = some x8 ∧ W.cell? ⟨w.heap.size, 9, none⟩ = some x9 ∧ W.cell? ⟨w.heap.size, 10, none⟩ = some x10 ∧ W.cell? ⟨w.heap.size, 11, none⟩ = some x11)
  (first | exact CF.out _ B4.out | exact CF.out _ B3.out | exact CF.out _ BR.out.drew | exact CF.out _ BR.out)
  (first
  | (go_simp; go_at_call 56; refine Calls.mono (CW.out _ ?_) ?_; (first | exact BR.out | exact BR.out.drew | exact Tk.below_drewN BR.out _); rintro e W3 ⟨rfl, B3⟩)
  | (go_simp; go_at_call 55; refine Calls.mono (CT.out _ ?_) ?_; (first | exact B3.out | exact B3.out.drew | exact Tk.below_drewN B3.out _); rintro e W4 ⟨rfl, B4⟩))
 all_goals
  clear CW CT BR CF
  go_simp
  go_wp2
  go_ret
  exact ⟨Tk.ret_bool HD.out.symm, HA.out.1.trans (B4.out.mono HA.out.2)⟩
def Ac.hasNodeB (k : Int) : Bool := k == 2 || k == 3 || k == 4 || k == 5 || k == 8 || k == 9 || k == 10 || k == 11 || k == 12
set_option maxHeartbeats 4000000 in
theorem Tryz.hasNode_any (k : Int) (w : World) : Calls Tryz.prog 60 #[.int .i64 k] w fun e w' => e = .returned (.bool (Ac.hasNodeB k)) ∧ w' = w := by
 by_cases h : k = 2 ∨ k = 3 ∨ k = 4 ∨ k = 5 ∨ k = 8 ∨ k = 9 ∨ k = 10 ∨ k = 11 ∨ k = 12
 ·rcases h with rfl | rfl | rfl | rfl | rfl | rfl | rfl | rfl | rfl
  all_goals
   go_enter Tryz.func60, Tryz.ntmps60
   go_wp2
   go_ret
   exact ⟨rfl, rfl⟩
 ·have e : Ac.hasNodeB k = false := by unfold Ac.hasNodeB; simp; omega
  rw [e]
  have e2 : (k == 2) = false := by simp; omega
  have e3 : (k == 3) = false := by simp; omega
  have e4 : (k == 4) = false := by simp; omega
  have e5 : (k == 5) = false := by simp; omega
  have e8 : (k == 8) = false := by simp; omega
  have e9 : (k == 9) = false := by simp; omega
  have e10 : (k == 10) = false := by simp; omega
  have e11 : (k == 11) = false := by simp; omega
  have e12 : (k == 12) = false := by simp; omega
  clear h e
  go_enter Tryz.func60, Tryz.ntmps60
  go_wp2
  go_ret
  exact ⟨rfl, rfl⟩
end Go.Proofs
namespace Go.Proofs
open Go.RowKit Go.Shelf
def Ac.kidBad (K k : Int) : Bool := if k = 13 ∨ k = 14 then true else if k = 12 then K != 13 else ((k == 10) != (K == 9))
def Ac.holdsB (T : Ac) : Bool := !(T.ks.any fun k => Ac.kidBad T.kind k.kind)
set_option maxHeartbeats 4000000 in
theorem Tryz.holds1_any (k K : Int) (x1 x2 x3 x4 x5 x6 x7 x8 x9 x10 x11 : Value) (bx : Nat) (w : World) (h : w.cell? ⟨bx, 0, none⟩ = some (.int .i64 K)) : Calls Tryz.prog 75 #[.agg #[.int .i64 k, x1, x2, x3, x4, x5, x6, x7, x8, x9, x10, x11], .pointer (some ⟨bx, 0, none⟩)] w fun e w' => e = .returned (.bool (Ac.kidBad K k)) ∧ Below w.heap.size w w' := by
 have B0 : Hid (Below w.heap.size w (w.alloc (.cells #[.int .i64 k, x1, x2, x3, x4, x5, x6, x7, x8, x9, x10, x11] 32))) := (Below.refl _ w).alloc (Nat.le_refl _) _
 have hl : bx < w.heap.size := by
  rcases Nat.lt_or_ge bx w.heap.size with h1 | h1
  ·exact h1
  ·unfold World.cell? at h
   simp [h1] at h
 have h' : (w.alloc (.cells #[.int .i64 k, x1, x2, x3, x4, x5, x6, x7, x8, x9, x10, x11] 32)).cell? ⟨bx, 0, none⟩ = some (.int .i64 K) := (B0.out.cell (p := ⟨bx, 0, none⟩) hl).trans h
 by_cases c13 : k = 13
 ·subst c13
  have e : Ac.kidBad K 13 = true := rfl
  rw [e]
  clear e h
  go_enter Tryz.func75, Tryz.ntmps75
  go_wp2
  go_ret
  exact ⟨rfl, B0.out⟩
 by_cases c14 : k = 14
 ·subst c14
  have e : Ac.kidBad K 14 = true := rfl
  rw [e]
  clear e h c13
  go_enter Tryz.func75, Tryz.ntmps75
  go_wp2
  go_ret
  exact ⟨rfl, B0.out⟩
 by_cases c12 : k = 12
 ·subst c12
  have e : Ac.kidBad K 12 = (K != 13) := rfl
  rw [e]
  clear e h c13 c14
  go_enter Tryz.func75, Tryz.ntmps75
  go_wp2
  go_ret
  exact ⟨rfl, B0.out⟩
 ·have e : Ac.kidBad K k = ((k == 10) != (K == 9)) := by unfold Ac.kidBad; rw [if_neg (by omega), if_neg c12]
  rw [e]
  have d13 : (k == 13) = false := by simpa using c13
  have d14 : (k == 14) = false := by simpa using c14
  have d12 : (k == 12) = false := by simpa using c12
  clear e h c13 c14 c12
  obtain ⟨p, hp⟩ : ∃ p, (k == 10) = p := ⟨_, rfl⟩
  obtain ⟨q, hq⟩ : ∃ p, (K == 9) = p := ⟨_, rfl⟩
  rw [hp, hq]
  cases p <;> cases q
  all_goals
   go_enter Tryz.func75, Tryz.ntmps75
   go_wp2
   go_ret
   exact ⟨rfl, B0.out⟩
structure Ak.Pred (p : Ac → Bool) (g : Nat) (lb : Array Value) (B e : Nat) (w0 : World) : Prop where
 enters : ∀ args w, (callFunc g args).run Tryz.prog w = .ok (.enter g args) w
 calls : ∀ (W : World) (d : Nat) (T : Ac) (V : Ac.Vs), Below w0.heap.size w0 W → Ac.Lies W B e d V T → Calls Tryz.prog g (#[.agg (Ac.row T V)] ++ lb) W fun e w' => e = .returned (.bool (p T)) ∧ Below W.heap.size W w'
set_option maxRecDepth 20000 in
set_option maxHeartbeats 4000000 in
theorem Tryz.aindex_any {p : Ac → Bool} {g : Nat} {lb : Array Value} {B e : Nat} (d : Nat) (T : Ac) (V : Ac.Vs) (a : Option Addr) (cap : Nat) (w : World) (hP : Ak.Pred p g lb B e w) (hT : Ac.Lies w B e d V T) (hv : V.k = .slice a T.ks.length cap) (hB : B ≤ w.heap.size) (hn : T.ks.length ≤ 2147483647) :
  Calls Tryz.prog 99 #[.slice a T.ks.length cap, .func (.func g) #[] lb] w fun e w' => (∃ r : Int, e = .returned (.int .i64 r) ∧ decide (0 ≤ r) = T.ks.any p) ∧ Below w.heap.size w w' := by
 cases d with
 | zero => exact hT.elim
 | succ d =>
 obtain ⟨n, hln⟩ : ∃ n, T.ks.length = n := ⟨_, rfl⟩
 have HT : Hid (Ac.Lies w B e (d + 1) V T ∧ V.k = .slice a n cap ∧ T.ks.length = n ∧ B ≤ w.heap.size) := ⟨hT, by rw [hv, hln], hln, hB⟩
 have HP : Hid (Ak.Pred p g lb B e w) := hP
 have eg := hP.enters
 rw [hln] at hn ⊢
 clear hT hv hln hP hB
 go_enter Tryz.func99, Tryz.ntmps99
 go_wp2
 go_loopg [8] n (fun gk i wr => ∃ j : Nat, gk + j = n ∧ i = .int .i64 j ∧ Hid ((T.ks.take j).any p = false ∧ Below w.heap.size w wr))
 case atStart => exact ⟨0, by omega, rfl, by simp, Below.refl _ w⟩
 case round =>
  obtain ⟨j, hj, rfl, HJ⟩ := hrel
  by_cases hjn : j < n
  ·have hd : decide ((j : Int) < n) = true := decide_eq_true (by omega)
   have hjk : j < T.ks.length := by rw [HT.out.2.2.1]; exact hjn
   obtain ⟨g', off, U, rfl, hg, hrw, hlu⟩ := HT.out.1.kid HT.out.2.1 j hjk
   obtain ⟨x, hx⟩ : ∃ x, T.ks[j] = x := ⟨_, rfl⟩
   rw [hx] at hrw hlu
   obtain ⟨y0, y1, y2, y3, y4, y5, y6, y7, y8, y9, y10, y11, hyr⟩ : ∃ y0 y1 y2 y3 y4 y5 y6 y7 y8 y9 y10 y11, Ac.row x U = #[y0, y1, y2, y3, y4, y5, y6, y7, y8, y9, y10, y11] := ⟨_, _, _, _, _, _, _, _, _, _, _, _, rfl⟩
   rw [hyr] at hrw
   have hc : ∀ p, wr.cell? ⟨g', p, none⟩ = w.cell? ⟨g', p, none⟩ := fun p => HJ.out.2.cell (p := ⟨g', p, none⟩) (by have := HT.out.2.2.2; show g' < _; omega)
   have hcs : wr.cell? ⟨g', off + j * 12, none⟩ = some y0 ∧ wr.cell? ⟨g', off + j * 12 + 1, none⟩ = some y1 ∧ wr.cell? ⟨g', off + j * 12 + 2, none⟩ = some y2 ∧ wr.cell? ⟨g', off + j * 12 + 3, none⟩ = some y3 ∧ wr.cell? ⟨g', off + j * 12 + 4, none⟩ = some y4 ∧ wr.cell? ⟨g', off + j * 12 + 5, none⟩ = some y5 ∧ wr.cell? ⟨g', off + j * 12 + 6, none⟩ = some y6 ∧ wr.cell? ⟨g', off + j * 12 + 7, none⟩ = some y7 ∧ wr.cell? ⟨g', off + j * 12 + 8, none⟩ = some y8 ∧ wr.cell? ⟨g', off + j * 12 + 9, none⟩ = some y9 ∧ wr.cell? ⟨g', off + j * 12 + 10, none⟩ = some y10 ∧ wr.cell? ⟨g', off + j * 12 + 11, none⟩ = some y11 := by
     exact ⟨by rw [hc]; exact hrw 0 (by simp), by rw [hc]; exact hrw 1 (by simp), by rw [hc]; exact hrw 2 (by simp), by rw [hc]; exact hrw 3 (by simp), by rw [hc]; exact hrw 4 (by simp), by rw [hc]; exact hrw 5 (by simp), by rw [hc]; exact hrw 6 (by simp), by rw [hc]; exact hrw 7 (by simp), by rw [hc]; exact hrw 8 (by simp), by rw [hc]; exact hrw 9 (by simp), by rw [hc]; exact hrw 10 (by simp), by rw [hc]; exact hrw 11 (by simp)⟩
   obtain ⟨hc0, hc1, hc2, hc3, hc4, hc5, hc6, hc7, hc8, hc9, hc10, hc11⟩ := hcs
   have hcall := HP.out.calls wr d x U HJ.out.2 (hlu.below (HJ.out.2.mono HT.out.2.2.2))
   rw [hyr] at hcall
   obtain ⟨q, hq⟩ : ∃ q, p x = q := ⟨_, rfl⟩
   rw [hq] at hcall
   have HC : Hid _ := hcall
   have HS : Hid ((T.ks.take (j + 1)).any p = q ∧ p T.ks[j] = q) := by
     show _ ∧ _
     rw [Ac.take_snoc _ _ hjk, List.any_append, HJ.out.1, hx]
     simp [hq]
   have hj0 : (0 : Int) ≤ j := by omega
   have hjn' : (j : Int) < n := by omega
   clear hcall hc hrw hlu hx hyr hq
   go_wp2_with fail
   refine Calls.mono HC.out ?_
   rintro e W2 ⟨rfl, hb2⟩
   have B2 : Hid (Below w.heap.size w W2) := HJ.out.2.trans (hb2.mono HJ.out.2.size)
   clear hb2 HC
   cases q with
   | true =>
     go_wp2
     go_ret
     refine ⟨⟨_, rfl, ?_⟩, B2.out⟩
     rw [decide_eq_true hj0]
     exact (List.any_eq_true.2 ⟨T.ks[j], List.getElem_mem hjk, HS.out.2⟩).symm
   | false =>
     go_wp2
     go_roundg (gk - 1)
     case measure => omega
     case rel => exact ⟨j + 1, by omega, by go_num, HS.out.1, B2.out⟩
  ·have hd : decide ((j : Int) < n) = false := decide_eq_false (by omega)
   go_wp2
   go_ret
   refine ⟨⟨_, rfl, ?_⟩, HJ.out.2⟩
   have hall : T.ks.take j = T.ks := List.take_of_length_le (by rw [HT.out.2.2.1]; omega)
   have h1 := HJ.out.1
   rw [hall] at h1
   rw [h1]
   rfl
set_option maxHeartbeats 2000000 in
theorem Tryz.acontains_any {p : Ac → Bool} {g : Nat} {lb : Array Value} {B e : Nat} (d : Nat) (T : Ac) (V : Ac.Vs) (a : Option Addr) (cap : Nat) (w : World) (hP : Ak.Pred p g lb B e w) (hT : Ac.Lies w B e d V T) (hv : V.k = .slice a T.ks.length cap) (hB : B ≤ w.heap.size) (hn : T.ks.length ≤ 2147483647) :
  Calls Tryz.prog 74 #[.slice a T.ks.length cap, .func (.func g) #[] lb] w fun e w' => e = .returned (.bool (T.ks.any p)) ∧ Below w.heap.size w w' := by
 have C : Hid _ := Tryz.aindex_any d T V a cap w hP hT hv hB hn
 obtain ⟨n, hln⟩ : ∃ n, T.ks.length = n := ⟨_, rfl⟩
 obtain ⟨b, hb⟩ : ∃ b, T.ks.any p = b := ⟨_, rfl⟩
 rw [hln, hb] at C
 rw [hln, hb]
 clear hP hT hv hln hb hn hB
 go_enter Tryz.func74, Tryz.ntmps74
 go_wp2_with fail
 refine Calls.mono C.out ?_
 rintro e W1 ⟨⟨r, rfl, hr⟩, hb1⟩
 have HB1 : Hid (Below w.heap.size w W1) := hb1
 clear hb1
 go_wp2
 go_ret
 exact ⟨by first | rfl | (rw [hr]) | simp [hr], HB1.out⟩
set_option maxHeartbeats 2000000 in
theorem Tryz.holds_any (d e : Nat) (T : Ac) (V : Ac.Vs) (w : World) (hT : Ac.Lies w w.heap.size e d V T) (hn : T.ks.length ≤ 2147483647) :
  Calls Tryz.prog 58 #[.agg (Ac.row T V)] w fun e w' => e = .returned (.bool T.holdsB) ∧ Below w.heap.size w w' := by
 obtain ⟨a, cap, hvk⟩ := hT.kids
 obtain ⟨n, hln⟩ : ∃ n, T.ks.length = n := ⟨_, rfl⟩
 obtain ⟨K, hK⟩ : ∃ k, T.kind = k := ⟨_, rfl⟩
 obtain ⟨x1, x2, x3, x4, x5, x6, x7, x9, x10, x11, hrow⟩ : ∃ x1 x2 x3 x4 x5 x6 x7 x9 x10 x11, Ac.row T V = #[.int .i64 K, x1, x2, x3, x4, x5, x6, x7, .slice a n cap, x9, x10, x11] := ⟨_, _, _, _, _, _, _, _, _, _, by unfold Ac.row; rw [hvk, hK, hln]⟩
 rw [hrow]
 obtain ⟨w1, hw1⟩ : ∃ x, w.alloc (.cells #[.int .i64 K, x1, x2, x3, x4, x5, x6, x7, .slice a n cap, x9, x10, x11] 32) = x := ⟨_, rfl⟩
 have A1 : Below w.heap.size w w1 := by rw [← hw1]; exact (Below.refl _ w).alloc (Nat.le_refl _) _
 have C0 : w1.heap[w.heap.size]? = some (.cells #[.int .i64 K, x1, x2, x3, x4, x5, x6, x7, .slice a n cap, x9, x10, x11] 32 (0, 0)) := by rw [← hw1]; exact heap_alloc_new w _
 have c8 : w1.cell? ⟨w.heap.size, 8, none⟩ = some (.slice a n cap) := by simp [World.cell?, C0]
 have hlt : w.heap.size < w1.heap.size := (Array.getElem?_eq_some_iff.1 C0).1
 have PR : Ak.Pred (fun k => Ac.kidBad K k.kind) 75 #[.pointer (some ⟨w.heap.size, 0, none⟩)] w.heap.size e w1 := ⟨enters_of Tryz.func75 (by kernel_rfl) rfl, fun W d' T' V' hb hT' => by
  have hc : W.cell? ⟨w.heap.size, 0, none⟩ = some (.int .i64 K) := by
   rw [hb.cell (p := ⟨w.heap.size, 0, none⟩) hlt]
   simp [World.cell?, C0]
  exact Tryz.holds1_any T'.kind K _ _ _ _ _ _ _ _ _ _ _ w.heap.size W hc⟩
 have C : Hid _ := Tryz.acontains_any d T V a cap w1 PR (hT.below A1) hvk (Nat.le_of_lt hlt) hn
 rw [hln] at C
 obtain ⟨b, hb⟩ : ∃ b, (T.ks.any fun k => Ac.kidBad K k.kind) = b := ⟨_, rfl⟩
 rw [hb] at C
 have HB : Hid (T.holdsB = !b ∧ Below w.heap.size w w1) := ⟨by unfold Ac.holdsB; rw [hK, hb], A1⟩
 have H1 : Hid (w.alloc (.cells #[.int .i64 K, x1, x2, x3, x4, x5, x6, x7, .slice a n cap, x9, x10, x11] 32) = w1) := hw1
 clear hT hn hvk hln hK hrow hw1 A1 C0 hlt PR hb
 go_enter Tryz.func58, Tryz.ntmps58
 go_upto_region 1 with fail
 rw [H1.out]
 go_wp2_with fail
 refine Calls.mono C.out ?_
 rintro e W2 ⟨rfl, hb2⟩
 have B2 : Hid (Below w1.heap.size w1 W2) := hb2
 clear hb2
 go_wp2
 go_ret
 exact ⟨Tk.ret_bool HB.out.1.symm, HB.out.2.trans (B2.out.mono HB.out.2.size)⟩
end Go.Proofs
