/-
  way, Through, through, tooLarge and Size of blocks.
-/
import Derived.Test.YtemccpfgkbhahaaGreatDoorBlThru
namespace Go.Proofs
open Go.RowKit Go.Shelf

theorem Bk.below_row {B : Nat} {a w : World} (h : Below B a w) {g : Nat} (hg : B ≤ g) (cs : Array Value) : Below B a (w.setRow g cs) :=
  h.trans ⟨rfl, rfl, rfl, by simp [World.setRow], fun k hk => by
    simp only [World.setRow, Array.getElem?_modify]
    rw [if_neg (by omega)]⟩

set_option maxHeartbeats 800000 in
theorem Tryz.bway_any (L n : Int) (w : World) : Calls Tryz.prog 23 #[.int .i64 L, .int .i64 n] w fun e w' => e = .returned (.agg #[.func (.func 43) #[] #[], .int .i64 L, .int .i64 n]) ∧ Below w.heap.size w w' := by
  have hbk := heap_alloc_new w (.cells #[.nilFunc, .int .i64 0, .int .i64 0] 71)
  have B0 : Hid (Below w.heap.size w (w.alloc (.cells #[.nilFunc, .int .i64 0, .int .i64 0] 71))) := (Below.refl _ w).alloc (Nat.le_refl _) _
  have HK : Hid _ := hbk
  go_enter Tryz.func23, Tryz.ntmps23
  go_wp2_with (refine wpList_store_row rfl 71 _ _ rfl w.heap.size _ rfl rfl 71 #[.nilFunc, .int .i64 0, .int .i64 0] (by exact HK.out) (by kernel_rfl) rfl (by kernel_rfl) ?_)
  refine bodyPost_ret (v := .agg #[.func (.func 43) #[] #[], .int .i64 L, .int .i64 n]) (results_cell_row Tryz.results23 _ _ w.heap.size 71 #[.func (.func 43) #[] #[], .int .i64 L, .int .i64 n] (0, 0) _ rfl (setRow_heap _ _ _ _ _ _ HK.out) Tryz.underlying71 rfl (by kernel_rfl)) rfl ⟨rfl, ?_⟩
  exact Bk.below_row B0.out (Nat.le_refl _) _

/-- What Through comes to. -/
def Bk.GoneThru (p : Int → Int → Int → List (Int × Int × Int) → Bool) (Inv : Nat → World → Prop) (E : Nat → Prop) (T : Bl) (L left s : Nat) (w : World) (e : Ending) (w' : World) : Prop :=
  Tk.But E w w' ∧ ((T.depth ≤ L ∧ T.size ≤ left ∧ T.allP p = true ∧ e = .returned (.bool true) ∧ Inv (s + T.size) w') ∨ (¬ (T.depth ≤ L ∧ T.size ≤ left ∧ T.allP p = true) ∧ e = .returned (.bool false)))

set_option maxRecDepth 20000 in
set_option maxHeartbeats 4000000 in
theorem Tryz.bnestThru_any {p : Int → Int → Int → List (Int × Int × Int) → Bool} {g : Nat} {lb : Array Value} {Inv : Nat → World → Prop} {E : Nat → Prop} {B : Nat} (d L left s : Nat) (T : Bl) (v u : Value) (w : World) (hS : Bk.Shown p g lb Inv E B w.heap.size) (hT : Bl.Lies w B d v u T) (hB : 0 < B) (hBs : B ≤ w.heap.size) (hI : Inv s w) (hE : ∀ k, E k → k < w.heap.size) (hleft : s + left ≤ 2147483647) (hL : L ≤ 1000) (hsz : T.size ≤ 2147483647) (hlk : T.allP (fun _ _ _ ls => decide (ls.length ≤ 2147483647)) = true) :
    Calls Tryz.prog 35 #[.agg #[.func (.func 43) #[] #[], .int .i64 L, .int .i64 left], .agg #[.int .i64 T.kind, .int .i64 T.node, .int .i64 T.arg, v, u], .func (.func g) #[] lb] w (Bk.GoneThru p Inv E T L left s w) := by
  obtain ⟨a, cap, rfl⟩ := hT.shape
  obtain ⟨al, cl, rfl⟩ := hT.links.shape
  obtain ⟨o, ho⟩ : ∃ o, T.kind = o := ⟨_, rfl⟩
  obtain ⟨m, hm⟩ : ∃ m, T.node = m := ⟨_, rfl⟩
  obtain ⟨r, hr⟩ : ∃ m, T.arg = m := ⟨_, rfl⟩
  obtain ⟨n, hn⟩ : ∃ n, T.ks.length = n := ⟨_, rfl⟩
  obtain ⟨nl, hnl⟩ : ∃ n, T.ls.length = n := ⟨_, rfl⟩
  rw [ho, hm, hr, hn, hnl]
  rw [hn, hnl] at hT
  obtain ⟨w1, hw1⟩ : ∃ x, (w.alloc (.cells #[.func (.func 43) #[] #[], .int .i64 L, .int .i64 left] 71)).alloc (.cells #[.int .i64 o, .int .i64 m, .int .i64 r, .slice a n cap, .slice al nl cl] 29) = x := ⟨_, rfl⟩
  have A1 : Below w.heap.size w w1 := by rw [← hw1]; exact ((Below.refl _ w).alloc (Nat.le_refl _) _).alloc (by simp) _
  have hWy : Bk.Wy w.heap.size L left w1 := by
    rw [← hw1]
    exact Bk.Wy.keep (heap_alloc_new w _) (Below.heap_alloc _ _ _ (by simp))
  have hcall := Tryz.bthru_any hS L d L T (.slice a n cap) (.slice al nl cl) left s w1 (hT.below (A1.mono hBs)) hB hBs (Nat.le_trans hBs A1.size) hWy (hS.keeps s w w1 hI (Tk.But.of_below A1)) (fun k hk => Nat.lt_of_lt_of_le (hE k hk) A1.size) hleft hL hsz hlk
  rw [ho, hm, hr] at hcall
  have HC : Hid _ := hcall
  have HA : Hid (Below w.heap.size w w1) := A1
  have H1 : Hid ((w.alloc (.cells #[.func (.func 43) #[] #[], .int .i64 L, .int .i64 left] 71)).alloc (.cells #[.int .i64 o, .int .i64 m, .int .i64 r, .slice a n cap, .slice al nl cl] 29) = w1) := hw1
  clear hcall A1 hT hI ho hm hr hn hnl hw1 hWy hS hE
  go_enter Tryz.func35, Tryz.ntmps35
  go_wp2_with fail
  rw [H1.out]
  refine Calls.mono HC.out ?_
  rintro e W1 ⟨hb, hend⟩
  have X : Hid (Tk.But E w W1) := ⟨hb.os.trans HA.out.os, hb.tape.trans HA.out.tape, hb.output.trans HA.out.output, Nat.le_trans HA.out.size hb.size, fun i hi he => by
    rw [hb.block i (Nat.lt_of_lt_of_le hi HA.out.size) (by rintro (h | h); omega; exact he h)]; exact HA.out.block i hi⟩
  rcases hend with ⟨h1, h2, h3, rfl, _, h4⟩ | ⟨h1, rfl⟩
  · have Y : Hid (T.depth ≤ L ∧ T.size ≤ left ∧ T.allP p = true ∧ Inv (s + T.size) W1) := ⟨h1, h2, h3, h4⟩
    clear hb h1 h2 h3 h4
    go_wp2
    go_ret
    exact ⟨X.out, .inl ⟨Y.out.1, Y.out.2.1, Y.out.2.2.1, rfl, Y.out.2.2.2⟩⟩
  · have Y : Hid (¬ (T.depth ≤ L ∧ T.size ≤ left ∧ T.allP p = true)) := h1
    clear hb h1
    go_wp2
    go_ret
    exact ⟨X.out, .inr ⟨Y.out, rfl⟩⟩

set_option maxRecDepth 20000 in
set_option maxHeartbeats 4000000 in
/-- block.through. -/
theorem Tryz.bthrough_any {p : Int → Int → Int → List (Int × Int × Int) → Bool} {g : Nat} {lb : Array Value} {Inv : Nat → World → Prop} {E : Nat → Prop} {B : Nat} (d : Nat) (T : Bl) (v u : Value) (w : World) (hS : ∀ bw, w.heap.size ≤ bw → Bk.Shown p g lb Inv E B bw) (hT : Bl.Lies w B d v u T) (hB : 0 < B) (hBs : B ≤ w.heap.size) (hI : Inv 0 w) (hE : ∀ k, E k → k < w.heap.size) (hsz : T.size ≤ 2147483647) (hlk : T.allP (fun _ _ _ ls => decide (ls.length ≤ 2147483647)) = true) :
    Calls Tryz.prog 19 #[.agg #[.int .i64 T.kind, .int .i64 T.node, .int .i64 T.arg, v, u], .func (.func g) #[] lb] w (Bk.GoneThru p Inv E T 1000 2147483647 0 w) := by
  obtain ⟨a, cap, rfl⟩ := hT.shape
  obtain ⟨al, cl, rfl⟩ := hT.links.shape
  obtain ⟨o, ho⟩ : ∃ o, T.kind = o := ⟨_, rfl⟩
  obtain ⟨m, hm⟩ : ∃ m, T.node = m := ⟨_, rfl⟩
  obtain ⟨r, hr⟩ : ∃ m, T.arg = m := ⟨_, rfl⟩
  obtain ⟨n, hn⟩ : ∃ n, T.ks.length = n := ⟨_, rfl⟩
  obtain ⟨nl, hnl⟩ : ∃ n, T.ls.length = n := ⟨_, rfl⟩
  rw [ho, hm, hr, hn, hnl]
  rw [hn, hnl] at hT
  obtain ⟨w1, hw1⟩ : ∃ x, w.alloc (.cells #[.int .i64 o, .int .i64 m, .int .i64 r, .slice a n cap, .slice al nl cl] 29) = x := ⟨_, rfl⟩
  have hs1 : w1.heap.size = w.heap.size + 1 := by rw [← hw1]; simp
  have A1 : Below w.heap.size w w1 := by rw [← hw1]; exact (Below.refl _ w).alloc (Nat.le_refl _) _
  have C0 : w1.heap[w.heap.size]? = some (.cells #[.int .i64 o, .int .i64 m, .int .i64 r, .slice a n cap, .slice al nl cl] 29 (0, 0)) := by rw [← hw1]; exact heap_alloc_new w _
  have CF : Hid (∀ W, Tk.But E w1 W → W.cell? ⟨w.heap.size, 0, none⟩ = some (.int .i64 o) ∧ W.cell? ⟨w.heap.size, 1, none⟩ = some (.int .i64 m) ∧ W.cell? ⟨w.heap.size, 2, none⟩ = some (.int .i64 r) ∧ W.cell? ⟨w.heap.size, 3, none⟩ = some (.slice a n cap) ∧ W.cell? ⟨w.heap.size, 4, none⟩ = some (.slice al nl cl)) := fun W hb => by
    have e1 := (hb.block w.heap.size (by omega) (fun e => by have := hE _ e; omega)).trans C0
    exact ⟨by simp [World.cell?, e1], by simp [World.cell?, e1], by simp [World.cell?, e1], by simp [World.cell?, e1], by simp [World.cell?, e1]⟩
  have CW : Hid (∀ W, Below w1.heap.size w1 W → Calls Tryz.prog 23 #[.int .i64 1000, .int .i64 2147483647] W fun e w' => e = .returned (.agg #[.func (.func 43) #[] #[], .int .i64 1000, .int .i64 2147483647]) ∧ Hid (Below w1.heap.size w1 w')) := fun W hb =>
    (Tryz.bway_any 1000 2147483647 W).mono fun _ w' h => ⟨h.1, hb.trans (h.2.mono hb.size)⟩
  have CT : Hid (∀ W, Below w1.heap.size w1 W → Calls Tryz.prog 35 #[.agg #[.func (.func 43) #[] #[], .int .i64 1000, .int .i64 2147483647], .agg #[.int .i64 o, .int .i64 m, .int .i64 r, .slice a n cap, .slice al nl cl], .func (.func g) #[] lb] W fun e w' =>
      ∃ b, e = .returned (.bool b) ∧ Hid (Tk.But E w1 w' ∧ Bk.GoneThru p Inv E T 1000 2147483647 0 w (.returned (.bool b)) w')) := fun W hb => by
    have hS' := hS W.heap.size (by have := hb.size; omega)
    have hbw : Below w.heap.size w W := A1.trans (hb.mono (by omega))
    have h := Tryz.bnestThru_any d 1000 2147483647 0 T (.slice a n cap) (.slice al nl cl) W hS' (hT.below (hbw.mono hBs)) hB (by have := hbw.size; omega) (hS'.keeps 0 w W hI (Tk.But.of_below hbw)) (fun k hk => by have := hE k hk; have := hbw.size; omega) (by omega) (by omega) hsz hlk
    rw [ho, hm, hr] at h
    refine h.mono ?_
    rintro e w' ⟨hbt, hend⟩
    have h1 : Tk.But E w w' := (Tk.But.of_below hbw).trans hbt
    have h2 : Tk.But E w1 w' := (Tk.But.of_below hb).trans hbt
    rcases hend with ⟨x1, x2, x3, rfl, x4⟩ | ⟨x1, rfl⟩
    · exact ⟨true, rfl, h2, h1, .inl ⟨x1, x2, x3, rfl, x4⟩⟩
    · exact ⟨false, rfl, h2, h1, .inr ⟨x1, rfl⟩⟩
  have H1 : Hid (w.alloc (.cells #[.int .i64 o, .int .i64 m, .int .i64 r, .slice a n cap, .slice al nl cl] 29) = w1) := hw1
  have BR : Hid (Below w1.heap.size w1 w1) := Below.refl _ _
  clear A1 hT hI ho hm hr hn hnl hw1 hS hE C0 hs1
  go_enter Tryz.func19, Tryz.ntmps19
  go_upto_region 1 with fail
  rw [H1.out]
  go_region_held3 (fun W => W.cell? ⟨w.heap.size, 0, none⟩ = some (.int .i64 o) ∧ W.cell? ⟨w.heap.size, 1, none⟩ = some (.int .i64 m) ∧ W.cell? ⟨w.heap.size, 2, none⟩ = some (.int .i64 r) ∧ W.cell? ⟨w.heap.size, 3, none⟩ = some (.slice a n cap) ∧ W.cell? ⟨w.heap.size, 4, none⟩ = some (.slice al nl cl))
    (first | exact CF.out _ H4.out.1 | exact CF.out _ (Tk.But.of_below B3.out) | exact CF.out _ (Tk.But.of_below BR.out.drew) | exact CF.out _ (Tk.But.of_below BR.out))
    (first
    | (go_simp; go_at_call 23; refine Calls.mono (CW.out _ ?_) ?_; (first | exact BR.out | exact BR.out.drew | exact Tk.below_drewN BR.out _); rintro e W3 ⟨rfl, B3⟩)
    | (go_simp; go_at_call 35; refine Calls.mono (CT.out _ ?_) ?_; (first | exact B3.out | exact B3.out.drew | exact Tk.below_drewN B3.out _); rintro e W4 ⟨b, rfl, H4⟩))
  all_goals
    clear CW CT BR CF
    go_simp
    go_wp2
    go_ret
    exact H4.out.2

set_option maxHeartbeats 800000 in
theorem Tryz.allTrue_any (k n r : Int) (a : Option Addr) (len c : Nat) (al : Option Addr) (nl cl : Nat) (w : World) :
    Calls Tryz.prog 36 #[.agg #[.int .i64 k, .int .i64 n, .int .i64 r, .slice a len c, .slice al nl cl]] w fun e w' => e = .returned (.bool true) ∧ Below w.heap.size w w' := by
  have B0 : Hid (Below w.heap.size w (w.alloc (.cells #[.int .i64 k, .int .i64 n, .int .i64 r, .slice a len c, .slice al nl cl] 29))) := (Below.refl _ w).alloc (Nat.le_refl _) _
  have BR : Hid (Below w.heap.size w w) := Below.refl _ _
  go_enter Tryz.func36, Tryz.ntmps36
  go_wp2
  go_ret
  exact ⟨rfl, by first | exact B0.out | exact BR.out⟩

theorem Bk.shown_true (B bw : Nat) : Bk.Shown (fun _ _ _ _ => true) 36 #[] (fun _ _ => True) (fun _ => False) B bw where
  enters := enters_of Tryz.func36 (by kernel_rfl) rfl
  calls := fun s W k n r a len c al cl ls _ _ _ _ _ => (Tryz.allTrue_any k n r a len c al ls.length cl W).mono fun _ _ q => ⟨q.1, trivial, Tk.But.of_below q.2⟩
  keeps := fun _ _ _ _ _ => trivial
  above := fun k hk => hk.elim
  not_bw := fun h => h

mutual
theorem Bl.allP_true : ∀ T : Bl, T.allP (fun _ _ _ _ => true) = true
  | .mk _ _ _ ks _ => by rw [Bl.allP, Bl.allPs_true ks]; rfl
theorem Bl.allPs_true : ∀ l : List Bl, Bl.allPs (fun _ _ _ _ => true) l = true
  | [] => by rw [Bl.allPs]
  | k :: r => by rw [Bl.allPs, Bl.allP_true k, Bl.allPs_true r]; rfl
end

/-- Are there too many, or do they lie too deep? -/
def Bl.tooB (T : Bl) : Bool := !decide (T.depth ≤ 24 ∧ T.size ≤ 96)

set_option maxRecDepth 20000 in
set_option maxHeartbeats 4000000 in
theorem Tryz.tooLarge_any (d : Nat) (T : Bl) (v u : Value) (w : World) (hT : Bl.Lies w w.heap.size d v u T) (h0 : 0 < w.heap.size) (hsz : T.size ≤ 2147483647) (hlk : T.allP (fun _ _ _ ls => decide (ls.length ≤ 2147483647)) = true) :
    Calls Tryz.prog 18 #[.agg #[.int .i64 T.kind, .int .i64 T.node, .int .i64 T.arg, v, u]] w fun e w' => e = .returned (.bool T.tooB) ∧ Below w.heap.size w w' := by
  obtain ⟨a, cap, rfl⟩ := hT.shape
  obtain ⟨al, cl, rfl⟩ := hT.links.shape
  obtain ⟨o, ho⟩ : ∃ o, T.kind = o := ⟨_, rfl⟩
  obtain ⟨m, hm⟩ : ∃ m, T.node = m := ⟨_, rfl⟩
  obtain ⟨r, hr⟩ : ∃ m, T.arg = m := ⟨_, rfl⟩
  obtain ⟨n, hn⟩ : ∃ n, T.ks.length = n := ⟨_, rfl⟩
  obtain ⟨nl, hnl⟩ : ∃ n, T.ls.length = n := ⟨_, rfl⟩
  rw [ho, hm, hr, hn, hnl]
  rw [hn, hnl] at hT
  obtain ⟨w1, hw1⟩ : ∃ x, w.alloc (.cells #[.int .i64 o, .int .i64 m, .int .i64 r, .slice a n cap, .slice al nl cl] 29) = x := ⟨_, rfl⟩
  have hs1 : w1.heap.size = w.heap.size + 1 := by rw [← hw1]; simp
  have A1 : Below w.heap.size w w1 := by rw [← hw1]; exact (Below.refl _ w).alloc (Nat.le_refl _) _
  have C0 : w1.heap[w.heap.size]? = some (.cells #[.int .i64 o, .int .i64 m, .int .i64 r, .slice a n cap, .slice al nl cl] 29 (0, 0)) := by rw [← hw1]; exact heap_alloc_new w _
  have CF : Hid (∀ W, Below w1.heap.size w1 W → W.cell? ⟨w.heap.size, 0, none⟩ = some (.int .i64 o) ∧ W.cell? ⟨w.heap.size, 1, none⟩ = some (.int .i64 m) ∧ W.cell? ⟨w.heap.size, 2, none⟩ = some (.int .i64 r) ∧ W.cell? ⟨w.heap.size, 3, none⟩ = some (.slice a n cap) ∧ W.cell? ⟨w.heap.size, 4, none⟩ = some (.slice al nl cl)) := fun W hb => by
    have e1 := (hb.block w.heap.size (by omega)).trans C0
    exact ⟨by simp [World.cell?, e1], by simp [World.cell?, e1], by simp [World.cell?, e1], by simp [World.cell?, e1], by simp [World.cell?, e1]⟩
  have CW : Hid (∀ W, Below w1.heap.size w1 W → Calls Tryz.prog 23 #[.int .i64 24, .int .i64 96] W fun e w' => e = .returned (.agg #[.func (.func 43) #[] #[], .int .i64 24, .int .i64 96]) ∧ Hid (Below w1.heap.size w1 w')) := fun W hb =>
    (Tryz.bway_any 24 96 W).mono fun _ w' h => ⟨h.1, hb.trans (h.2.mono hb.size)⟩
  obtain ⟨b, hb0⟩ : ∃ b, decide (T.depth ≤ 24 ∧ T.size ≤ 96) = b := ⟨_, rfl⟩
  have CT : Hid (∀ W, Below w1.heap.size w1 W → Calls Tryz.prog 35 #[.agg #[.func (.func 43) #[] #[], .int .i64 24, .int .i64 96], .agg #[.int .i64 o, .int .i64 m, .int .i64 r, .slice a n cap, .slice al nl cl], .func (.func 36) #[] #[]] W fun e w' =>
      e = .returned (.bool b) ∧ Hid (Below w1.heap.size w1 w')) := fun W hb => by
    have hbw : Below w.heap.size w W := A1.trans (hb.mono (by omega))
    have h := Tryz.bnestThru_any d 24 96 0 T (.slice a n cap) (.slice al nl cl) W (Bk.shown_true w.heap.size W.heap.size) (hT.below hbw) h0 hbw.size trivial (fun k hk => hk.elim) (by omega) (by omega) hsz hlk
    rw [ho, hm, hr] at h
    refine h.mono ?_
    rintro e w' ⟨hbt, hend⟩
    have h2 : Below w1.heap.size w1 w' := hb.trans (hbt.below hb.size (fun k _ h => h))
    rcases hend with ⟨x1, x2, x3, rfl, x4⟩ | ⟨x1, rfl⟩
    · exact ⟨by rw [← hb0, decide_eq_true ⟨x1, x2⟩], h2⟩
    · exact ⟨by rw [← hb0, decide_eq_false (fun h => x1 ⟨h.1, h.2, Bl.allP_true T⟩)], h2⟩
  have H1 : Hid (w.alloc (.cells #[.int .i64 o, .int .i64 m, .int .i64 r, .slice a n cap, .slice al nl cl] 29) = w1) := hw1
  have HA : Hid (Below w.heap.size w w1 ∧ w.heap.size ≤ w1.heap.size) := ⟨A1, by omega⟩
  have HD : Hid (T.tooB = !b) := by show _ = _; rw [← hb0]; rfl
  have BR : Hid (Below w1.heap.size w1 w1) := Below.refl _ _
  clear A1 hT ho hm hr hn hnl hw1 C0 hs1 hb0
  go_enter Tryz.func18, Tryz.ntmps18
  go_upto_region 1 with fail
  rw [H1.out]
  go_region_held3 (fun W => W.cell? ⟨w.heap.size, 0, none⟩ = some (.int .i64 o) ∧ W.cell? ⟨w.heap.size, 1, none⟩ = some (.int .i64 m) ∧ W.cell? ⟨w.heap.size, 2, none⟩ = some (.int .i64 r) ∧ W.cell? ⟨w.heap.size, 3, none⟩ = some (.slice a n cap) ∧ W.cell? ⟨w.heap.size, 4, none⟩ = some (.slice al nl cl))
    (first | exact CF.out _ B4.out | exact CF.out _ B3.out | exact CF.out _ BR.out.drew | exact CF.out _ BR.out)
    (first
    | (go_simp; go_at_call 23; refine Calls.mono (CW.out _ ?_) ?_; (first | exact BR.out | exact BR.out.drew | exact Tk.below_drewN BR.out _); rintro e W3 ⟨rfl, B3⟩)
    | (go_simp; go_at_call 35; refine Calls.mono (CT.out _ ?_) ?_; (first | exact B3.out | exact B3.out.drew | exact Tk.below_drewN B3.out _); rintro e W4 ⟨rfl, B4⟩))
  all_goals
    clear CW CT BR CF
    go_simp
    go_wp2
    go_ret
    exact ⟨Tk.ret_bool HD.out.symm, HA.out.1.trans (B4.out.mono HA.out.2)⟩

end Go.Proofs
