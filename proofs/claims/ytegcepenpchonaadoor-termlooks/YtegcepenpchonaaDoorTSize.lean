/-
  The contracts of show, with whatever is handed on, and of Size.
-/
import Derived.Test.YtegcepenpchonaaDoorTCheck
namespace Go.Proofs
open Go.RowKit Go.Shelf

/-- What is asked of what show is handed: as Shown, but it answers nothing. -/
structure Tk.Does {σ : Type} (ok : σ → Int → Int → Nat → Prop) (g : Nat) (lb : Array Value) (Inv : σ → World → Prop) (step : σ → Int → Int → Nat → σ) (E : Nat → Prop) (B : Nat) : Prop where
  enters : ∀ args w, (callFunc g args).run Tryd.prog w = .ok (.enter g args) w
  calls : ∀ (s : σ) (W : World) (op n : Int) (a : Option Addr) (len c : Nat), ok s op n len → Inv s W → Calls Tryd.prog g (#[.agg #[.int .i64 op, .int .i64 n, .slice a len c]] ++ lb) W fun e w' => e = .returned (.tuple #[]) ∧ Inv (step s op n len) w' ∧ Tk.But E W w'
  keeps : ∀ (s : σ) (W W' : World), Inv s W → Below B W W' → Inv s W'
  below : ∀ k, E k → k < B

/-- A function in a box. -/
def Tk.Fb (b g : Nat) (lb : Array Value) (w : World) : Prop := w.heap[b]? = some (.cells #[.func (.func g) #[] lb] 69 (0, 0))
theorem Tk.Fb.lt {b g : Nat} {lb : Array Value} {w : World} (h : Tk.Fb b g lb w) : b < w.heap.size := (Array.getElem?_eq_some_iff.1 h).1
theorem Tk.Fb.c0 {b g : Nat} {lb : Array Value} {w : World} (h : Tk.Fb b g lb w) : w.cell? ⟨b, 0, none⟩ = some (.func (.func g) #[] lb) := by simp only [Tk.Fb] at h; simp [World.cell?, h]
theorem Tk.Fb.keep {b g : Nat} {lb : Array Value} {w w' : World} (h : Tk.Fb b g lb w) (hk : w'.heap[b]? = w.heap[b]?) : Tk.Fb b g lb w' := by unfold Tk.Fb; rw [hk]; exact h

set_option maxHeartbeats 1600000 in
theorem Tryd.show1_any {σ : Type} {ok : σ → Int → Int → Nat → Prop} {g : Nat} {lb : Array Value} {Inv : σ → World → Prop} {step : σ → Int → Int → Nat → σ} {E : Nat → Prop} {B : Nat} (hD : Tk.Does ok g lb Inv step E B) (b : Nat) (hb : B ≤ b) (s : σ) (W : World) (hBs : B ≤ W.heap.size) (op n : Int) (a : Option Addr) (len c : Nat) (hF : Tk.Fb b g lb W) (hI : Inv s W) (hok : ok s op n len) :
    Calls Tryd.prog 54 #[.agg #[.int .i64 op, .int .i64 n, .slice a len c], .pointer (some ⟨b, 0, none⟩)] W fun e w' => e = .returned (.bool true) ∧ (Tk.Fb b g lb w' ∧ Inv (step s op n len) w' ∧ B ≤ w'.heap.size) ∧ Tk.But E W w' := by
  have A0 : Below W.heap.size W (W.alloc (.cells #[.int .i64 op, .int .i64 n, .slice a len c] 24)) := (Below.refl _ W).alloc (Nat.le_refl _) _
  have F0 : Tk.Fb b g lb (W.alloc (.cells #[.int .i64 op, .int .i64 n, .slice a len c] 24)) := hF.keep (A0.block b hF.lt)
  have c0 := F0.c0
  have hbl := hF.lt
  have hcall := hD.calls s (W.alloc (.cells #[.int .i64 op, .int .i64 n, .slice a len c] 24)) op n a len c hok (hD.keeps s W _ hI (A0.mono hBs))
  have HA : Hid _ := A0
  have HF : Hid (Tk.Fb b g lb (W.alloc (.cells #[.int .i64 op, .int .i64 n, .slice a len c] 24))) := F0
  have HD : Hid _ := hD
  have eg := hD.enters
  clear A0 F0 hD hI hF
  go_enter Tryd.func54, Tryd.ntmps54
  go_wp2_with (first | (go_at_fn g; refine hcall.mono ?_; rintro e W2 ⟨rfl, hV2, hb2⟩) | fail)
  go_ret
  have hne : ¬ E b := fun h => by have := HD.out.below b h; omega
  refine ⟨rfl, ⟨HF.out.keep (hb2.block b HF.out.lt hne), hV2, ?_⟩, (Tk.But.of_below HA.out).trans hb2⟩
  have := hb2.size
  have := HA.out.size
  omega

/-- What show's closure is as what is handed on. -/
theorem Tk.shown_show {σ : Type} {ok : σ → Int → Int → Nat → Prop} {g : Nat} {lb : Array Value} {Inv : σ → World → Prop} {step : σ → Int → Int → Nat → σ} {E : Nat → Prop} {B C : Nat} (hD : Tk.Does ok g lb Inv step E B) (b bw : Nat) (hC : ∀ k, E k → C ≤ k) (hb : B ≤ b) (hbw : B ≤ bw) (hne : b ≠ bw) :
    Tk.Shown ok 54 #[.pointer (some ⟨b, 0, none⟩)] (fun s W => Tk.Fb b g lb W ∧ Inv s W ∧ B ≤ W.heap.size) step E C bw where
  enters := enters_of Tryd.func54 (by kernel_rfl) rfl
  calls := fun s W op n a len c ho h => Tryd.show1_any hD b hb s W h.2.2 op n a len c h.1 h.2.1 ho
  keeps := fun s W W' h hbt => ⟨h.1.keep (hbt.block b h.1.lt hne), hD.keeps s W W' h.2.1 (hbt.below h.2.2 (fun k hk => by omega)), Nat.le_trans h.2.2 hbt.size⟩
  above := hC
  not_bw := fun h => by have := hD.below bw h; omega

set_option maxRecDepth 20000 in
set_option maxHeartbeats 4000000 in
theorem Tryd.show_any {σ : Type} {ok : σ → Int → Int → Nat → Prop} {g : Nat} {lb : Array Value} {Inv : σ → World → Prop} {step : σ → Int → Int → Nat → σ} {E : Nat → Prop} {B : Nat} (d : Nat) (T : Tm) (v : Value) (s : σ) (w : World) (hD : Tk.Does ok g lb Inv step E w.heap.size) (hC : ∀ k, E k → B ≤ k) (hT : Tm.Lies w B d v T) (hB : 0 < B) (hBs : B ≤ w.heap.size) (hI : Inv s w) (hsz : T.size ≤ 2147483647) (hdp : T.depth ≤ 1000) (hok : Tm.okT ok step s T) :
    Calls Tryd.prog 31 #[.agg #[.int .i64 T.op, .int .i64 T.num, v], .func (.func g) #[] lb] w fun e w' => e = .returned (.tuple #[]) ∧ Tk.But E w w' ∧ Inv (Tm.foldT step s T) w' := by
  obtain ⟨a, cap, rfl⟩ := hT.shape
  obtain ⟨o, ho⟩ : ∃ o, T.op = o := ⟨_, rfl⟩
  obtain ⟨m, hm⟩ : ∃ m, T.num = m := ⟨_, rfl⟩
  obtain ⟨n, hn⟩ : ∃ n, T.ks.length = n := ⟨_, rfl⟩
  rw [ho, hm, hn]
  rw [hn] at hT
  obtain ⟨w1, hw1⟩ : ∃ x, (w.alloc (.cells #[.int .i64 o, .int .i64 m, .slice a n cap] 24)).alloc (.cells #[.func (.func g) #[] lb] 69) = x := ⟨_, rfl⟩
  have hs1 : w1.heap.size = w.heap.size + 2 := by rw [← hw1]; simp
  have A1 : Below w.heap.size w w1 := by rw [← hw1]; exact ((Below.refl _ w).alloc (Nat.le_refl _) _).alloc (by simp) _
  have hF : Tk.Fb (w.heap.size + 1) g lb w1 := by
    rw [← hw1]
    have := heap_alloc_new (w.alloc (.cells #[.int .i64 o, .int .i64 m, .slice a n cap] 24)) (.cells #[.func (.func g) #[] lb] 69)
    simpa [Tk.Fb] using this
  have CW : Hid (∀ W, Below w1.heap.size w1 W → Calls Tryd.prog 36 #[.int .i64 1000] W fun e w' => e = .returned (.agg #[.func (.func 59) #[] #[], .int .i64 1000, .int .i64 2147483647]) ∧ Hid (Below w1.heap.size w1 w') ∧ w'.cell? ⟨w.heap.size, 0, none⟩ = some (.int .i64 o) ∧ w'.cell? ⟨w.heap.size, 1, none⟩ = some (.int .i64 m) ∧ w'.cell? ⟨w.heap.size, 2, none⟩ = some (.slice a n cap)) := fun W hb =>
    (Tryd.way_any 1000 W).mono fun _ w' h => by
      have hb' : Below w1.heap.size w1 w' := hb.trans (h.2.mono hb.size)
      refine ⟨h.1, hb', ?_, ?_, ?_⟩
      · rw [hb'.cell (p := ⟨w.heap.size, 0, none⟩) (by show w.heap.size < _; omega), ← hw1]; simp
      · rw [hb'.cell (p := ⟨w.heap.size, 1, none⟩) (by show w.heap.size < _; omega), ← hw1]; simp
      · rw [hb'.cell (p := ⟨w.heap.size, 2, none⟩) (by show w.heap.size < _; omega), ← hw1]; simp
  have CT : Hid (∀ W, Below w1.heap.size w1 W → Calls Tryd.prog 39 #[.agg #[.func (.func 59) #[] #[], .int .i64 1000, .int .i64 2147483647], .agg #[.int .i64 o, .int .i64 m, .slice a n cap], .func (.func 54) #[] #[.pointer (some ⟨w.heap.size + 1, 0, none⟩)]] W fun e w' =>
      e = .returned (.bool true) ∧ Hid (Tk.But E w w' ∧ Inv (Tm.foldT step s T) w')) := fun W hb => by
    have hbw : w.heap.size + 2 ≤ W.heap.size := by have := hb.size; omega
    have hcall := Tryd.through_any d 1000 T (.slice a n cap) s W (Tk.shown_show hD (w.heap.size + 1) W.heap.size hC (by omega) (by omega) (by omega)) ((hT.below (A1.mono hBs)).below (hb.mono (by omega))) hB (by omega)
      ⟨hF.keep (hb.block _ (by omega)), hD.keeps s _ _ (hD.keeps s _ _ hI A1) (hb.mono (by omega)), by omega⟩ (fun k hk => by have := hD.below k hk; omega) hsz (by decide) hok
    rw [ho, hm] at hcall
    refine hcall.mono ?_
    rintro e w' ⟨hbt, ⟨_, rfl, hr⟩ | ⟨hd2, rfl⟩⟩
    · exact ⟨rfl, ((Tk.But.of_below A1).trans (Tk.But.of_below hb)).trans hbt, hr.2.1⟩
    · omega
  have H1 : Hid ((w.alloc (.cells #[.int .i64 o, .int .i64 m, .slice a n cap] 24)).alloc (.cells #[.func (.func g) #[] lb] 69) = w1) := hw1
  have hq0 : w1.cell? ⟨w.heap.size, 0, none⟩ = some (.int .i64 o) := by rw [← hw1]; simp
  have hq1 : w1.cell? ⟨w.heap.size, 1, none⟩ = some (.int .i64 m) := by rw [← hw1]; simp
  have hq2 : w1.cell? ⟨w.heap.size, 2, none⟩ = some (.slice a n cap) := by rw [← hw1]; simp
  have BR : Hid (Below w1.heap.size w1 w1) := Below.refl _ _
  clear A1 hT hF ho hm hn hw1 hD hC hI hsz hdp hok
  go_enter Tryd.func31, Tryd.ntmps31
  go_upto_region 1 with fail
  rw [H1.out]
  go_region_law (first
    | (go_simp; go_at_call 36; refine Calls.mono (CW.out _ ?_) ?_; (first | exact BR.out | exact BR.out.drew | exact Tk.below_drewN BR.out _); rintro e W2 ⟨rfl, B2, k0, k1, k2⟩)
    | (go_simp; go_at_call 39; refine Calls.mono (CT.out _ ?_) ?_; (first | exact B2.out | exact B2.out.drew | exact Tk.below_drewN B2.out _); rintro e W3 ⟨rfl, H3⟩)
    | fail)
  all_goals
    clear CW CT BR B2 k0 k1 k2 hq0 hq1 hq2
    go_simp
    go_wp2
    go_end0
    exact ⟨rfl, H3.out.1, H3.out.2⟩

/-- A number in a box. -/
def Tk.Ct (b : Nat) (c : Int) (w : World) : Prop := w.heap[b]? = some (.cells #[.int .i64 c] 3 (0, 0))
theorem Tk.Ct.c0 {b : Nat} {c : Int} {w : World} (h : Tk.Ct b c w) : w.cell? ⟨b, 0, none⟩ = some (.int .i64 c) := by simp only [Tk.Ct] at h; simp [World.cell?, h]
theorem Tk.Ct.f0 {b : Nat} {c : Int} {w : World} (h : Tk.Ct b c w) : w.frozen? ⟨b, 0, none⟩ = false := by simp only [Tk.Ct] at h; simp [World.frozen?, h]
theorem Tk.Ct.lt {b : Nat} {c : Int} {w : World} (h : Tk.Ct b c w) : b < w.heap.size := (Array.getElem?_eq_some_iff.1 h).1
theorem Tk.Ct.put {b : Nat} {c : Int} {w : World} (h : Tk.Ct b c w) (c' : Int) : Tk.Ct b c' (w.setCell ⟨b, 0, none⟩ (.int .i64 c')) := by
  unfold Tk.Ct at *
  simp [World.setCell, Array.getElem?_modify, h]
theorem Tk.Ct.keep {b : Nat} {c : Int} {w w' : World} (h : Tk.Ct b c w) (hk : w'.heap[b]? = w.heap[b]?) : Tk.Ct b c w' := by unfold Tk.Ct; rw [hk]; exact h

set_option maxHeartbeats 800000 in
theorem Tryd.sizeClosure_any (op n : Int) (a : Option Addr) (len cap : Nat) (b : Nat) (c : Int) (w : World) (h : Tk.Ct b c w) :
    Calls Tryd.prog 38 #[.agg #[.int .i64 op, .int .i64 n, .slice a len cap], .pointer (some ⟨b, 0, none⟩)] w fun e w' => e = .returned (.tuple #[]) ∧ Tk.Ct b (IntKind.i64.wrap (c + 1)) w' ∧ Tk.But (fun k => k = b) w w' := by
  have A0 : Below w.heap.size w (w.alloc (.cells #[.int .i64 op, .int .i64 n, .slice a len cap] 24)) := (Below.refl _ w).alloc (Nat.le_refl _) _
  have R0 : Tk.Ct b c (w.alloc (.cells #[.int .i64 op, .int .i64 n, .slice a len cap] 24)) := h.keep (A0.block b h.lt)
  have c0 := R0.c0
  have f0 := R0.f0
  have HR : Hid (Tk.Ct b c (w.alloc (.cells #[.int .i64 op, .int .i64 n, .slice a len cap] 24))) := R0
  have HA : Hid (Below w.heap.size w (w.alloc (.cells #[.int .i64 op, .int .i64 n, .slice a len cap] 24))) := A0
  obtain ⟨c', hc'⟩ : ∃ x, IntKind.i64.wrap (c + 1) = x := ⟨_, rfl⟩
  rw [hc']
  clear R0 A0 h
  go_enter Tryd.func38, Tryd.ntmps38
  go_wp2
  go_end0
  exact ⟨rfl, HR.out.put c', ((Tk.But.of_below HA.out).setCell (E := fun k => k = b) (p := ⟨b, 0, none⟩) rfl _)⟩

mutual
theorem Tm.fold_size : ∀ (c : Int) (T : Tm), 0 ≤ c → c + T.size ≤ 2147483647 → Tm.foldT (fun c _ _ _ => IntKind.i64.wrap (c + 1)) c T = c + T.size
  | c, .mk o n ks, h0, h => by
    rw [Tm.size] at h ⊢
    rw [Tm.foldT, Go.IntWalk.i64_in _ (by omega), Tm.fold_sizes _ ks (by omega) (by omega)]
    omega
theorem Tm.fold_sizes : ∀ (c : Int) (l : List Tm), 0 ≤ c → c + Tm.sizes l ≤ 2147483647 → Tm.foldL (fun c _ _ _ => IntKind.i64.wrap (c + 1)) c l = c + Tm.sizes l
  | c, [], _, _ => by simp [Tm.foldL, Tm.sizes]
  | c, k :: l, h0, h => by
    rw [Tm.sizes] at h ⊢
    rw [Tm.foldL, Tm.fold_size c k h0 (by omega), Tm.fold_sizes _ l (by omega) (by omega)]
    omega
end

theorem Tk.does_size (br B : Nat) (hbr : br < B) : Tk.Does (fun _ _ _ _ => True) 38 #[.pointer (some ⟨br, 0, none⟩)] (fun c W => Tk.Ct br c W) (fun c _ _ _ => IntKind.i64.wrap (c + 1)) (fun k => k = br) B where
  enters := enters_of Tryd.func38 (by kernel_rfl) rfl
  calls := fun c W op n a len cap _ h => Tryd.sizeClosure_any op n a len cap br c W h
  keeps := fun c W W' h hb => h.keep (hb.block br hbr)
  below := fun k hk => by omega

set_option maxHeartbeats 4000000 in
theorem Tryd.size_any (d : Nat) (T : Tm) (v : Value) (w : World) (hT : Tm.Lies w w.heap.size d v T) (hO : Tk.Ops w) (hsz : T.size ≤ 2147483647) (hdp : T.depth ≤ 1000) :
    Calls Tryd.prog 20 #[.agg #[.int .i64 T.op, .int .i64 T.num, v]] w fun e w' => e = .returned (.int .i64 T.size) ∧ Below w.heap.size w w' := by
  obtain ⟨a, cap, rfl⟩ := hT.shape
  obtain ⟨o, ho⟩ : ∃ o, T.op = o := ⟨_, rfl⟩
  obtain ⟨m, hm⟩ : ∃ m, T.num = m := ⟨_, rfl⟩
  obtain ⟨n, hn⟩ : ∃ n, T.ks.length = n := ⟨_, rfl⟩
  rw [ho, hm, hn]
  rw [hn] at hT
  obtain ⟨w0, hw0⟩ : ∃ x, (w.alloc (.cells #[.int .i64 o, .int .i64 m, .slice a n cap] 24)).alloc (.cells #[.int .i64 0] 3) = x := ⟨_, rfl⟩
  have hs0 : w0.heap.size = w.heap.size + 2 := by rw [← hw0]; simp
  have A0 : Below w.heap.size w w0 := by rw [← hw0]; exact ((Below.refl _ w).alloc (Nat.le_refl _) _).alloc (by simp) _
  have R0 : Tk.Ct (w.heap.size + 1) 0 w0 := by
    rw [← hw0]
    have := heap_alloc_new (w.alloc (.cells #[.int .i64 o, .int .i64 m, .slice a n cap] 24)) (.cells #[.int .i64 0] 3)
    simpa [Tk.Ct] using this
  have h1 := Tryd.show_any (B := w.heap.size) d T (.slice a n cap) 0 w0 (Tk.does_size (w.heap.size + 1) w0.heap.size (by omega)) (fun k hk => by omega) (hT.below A0) hO.lt A0.size R0 hsz hdp (Tm.okT_all (fun _ _ _ _ => trivial) _ _)
  rw [ho, hm, Tm.fold_size 0 T (by omega) (by omega), Int.zero_add] at h1
  have H1 : Hid _ := h1
  have HA : Hid (Below w.heap.size w w0) := A0
  have HW0 : Hid ((w.alloc (.cells #[.int .i64 o, .int .i64 m, .slice a n cap] 24)).alloc (.cells #[.int .i64 0] 3) = w0) := hw0
  clear hT hO hsz hdp ho hm hn hw0 A0 R0 h1
  go_enter Tryd.func20, Tryd.ntmps20
  go_wp2_with fail
  rw [HW0.out]
  refine Calls.mono H1.out ?_
  rintro e W1 ⟨rfl, hb, hr⟩
  have B1 : Hid (Below w.heap.size w W1) := HA.out.trans (hb.below HA.out.size (by intro k hk; show ¬ k = w.heap.size + 1; omega))
  have c0 := hr.c0
  clear hb hr H1 HW0
  go_wp2
  go_ret
  exact ⟨rfl, B1.out⟩

end Go.Proofs
