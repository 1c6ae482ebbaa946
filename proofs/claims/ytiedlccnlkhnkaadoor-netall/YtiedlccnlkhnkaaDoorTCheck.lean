/-
  The contracts of way, Through and checkForm.
-/
import Derived.Test.YtiedlccnlkhnkaaDoorNsThru
namespace Go.Proofs
open Go.RowKit Go.Shelf

theorem Tk.below_row {B : Nat} {a w : World} (h : Below B a w) {g : Nat} (hg : B ≤ g) (cs : Array Value) : Below B a (w.setRow g cs) :=
  h.trans ⟨rfl, rfl, rfl, by simp [World.setRow], fun k hk => by
    simp only [World.setRow, Array.getElem?_modify]
    rw [if_neg (by omega)]⟩

set_option maxHeartbeats 800000 in
theorem Tryd.way_any (L : Int) (w : World) : Calls Tryd.prog 92 #[.int .i64 L] w fun e w' => e = .returned (.agg #[.func (.func 97) #[] #[], .int .i64 L, .int .i64 2147483647]) ∧ Below w.heap.size w w' := by
  have hbk := heap_alloc_new w (.cells #[.nilFunc, .int .i64 0, .int .i64 0] 126)
  have B0 : Hid (Below w.heap.size w (w.alloc (.cells #[.nilFunc, .int .i64 0, .int .i64 0] 126))) := (Below.refl _ w).alloc (Nat.le_refl _) _
  have HK : Hid _ := hbk
  go_enter Tryd.func92, Tryd.ntmps92
  go_wp2_with (refine wpList_store_row rfl 126 _ _ rfl w.heap.size _ rfl rfl 126 #[.nilFunc, .int .i64 0, .int .i64 0] (by exact HK.out) (by kernel_rfl) rfl (by kernel_rfl) ?_)
  refine bodyPost_ret (v := .agg #[.func (.func 97) #[] #[], .int .i64 L, .int .i64 2147483647]) (results_cell_row Tryd.results92 _ _ w.heap.size 126 #[.func (.func 97) #[] #[], .int .i64 L, .int .i64 2147483647] (0, 0) _ rfl (setRow_heap _ _ _ _ _ _ HK.out) Tryd.underlying126 rfl (by kernel_rfl)) rfl ⟨rfl, ?_⟩
  exact Tk.below_row B0.out (Nat.le_refl _) _

set_option maxRecDepth 20000 in
set_option maxHeartbeats 4000000 in
theorem Tryd.through_any {σ : Type} {ok : σ → Int → Int → Nat → Prop} {g : Nat} {lb : Array Value} {Inv : σ → World → Prop} {step : σ → Int → Int → Nat → σ} {E : Nat → Prop} {B : Nat} (d L : Nat) (T : Tm) (v : Value) (s : σ) (w : World) (hS : Tk.Shown ok g lb Inv step E B w.heap.size) (hT : Tm.Lies w B d v T) (hB : 0 < B) (hBs : B ≤ w.heap.size) (hI : Inv s w) (hE : ∀ k, E k → k < w.heap.size) (hsz : T.size ≤ 2147483647) (hL : L ≤ 1000) (hok : Tm.okT ok step s T) :
    Calls Tryd.prog 91 #[.agg #[.func (.func 97) #[] #[], .int .i64 L, .int .i64 2147483647], .agg #[.int .i64 T.op, .int .i64 T.num, v], .func (.func g) #[] lb] w fun e w' =>
      Tk.But E w w' ∧ ((T.depth ≤ L ∧ e = .returned (.bool true) ∧ Inv (Tm.foldT step s T) w') ∨ (L < T.depth ∧ e = .returned (.bool false))) := by
  obtain ⟨a, cap, rfl⟩ := hT.shape
  obtain ⟨o, ho⟩ : ∃ o, T.op = o := ⟨_, rfl⟩
  obtain ⟨m, hm⟩ : ∃ m, T.num = m := ⟨_, rfl⟩
  obtain ⟨n, hn⟩ : ∃ n, T.ks.length = n := ⟨_, rfl⟩
  rw [ho, hm, hn]
  rw [hn] at hT
  obtain ⟨w1, hw1⟩ : ∃ x, (w.alloc (.cells #[.func (.func 97) #[] #[], .int .i64 L, .int .i64 2147483647] 126)).alloc (.cells #[.int .i64 o, .int .i64 m, .slice a n cap] 32) = x := ⟨_, rfl⟩
  have A1 : Below w.heap.size w w1 := by rw [← hw1]; exact ((Below.refl _ w).alloc (Nat.le_refl _) _).alloc (by simp) _
  have hWy : Tk.Wy w.heap.size L 2147483647 w1 := by
    rw [← hw1]
    exact Tk.Wy.keep (heap_alloc_new w _) (Below.heap_alloc _ _ _ (by simp))
  have hcall := Tryd.thru_any hS L d L T (.slice a n cap) 2147483647 s w1 (hT.below (A1.mono hBs)) hB hBs (Nat.le_trans hBs A1.size) hWy (hS.keeps s w w1 hI (Tk.But.of_below A1)) (fun k hk => Nat.lt_of_lt_of_le (hE k hk) A1.size) hsz (Nat.le_refl _) hL hok
  rw [ho, hm] at hcall
  have HC : Hid _ := hcall
  have HA : Hid (Below w.heap.size w w1) := A1
  have H1 : Hid ((w.alloc (.cells #[.func (.func 97) #[] #[], .int .i64 L, .int .i64 2147483647] 126)).alloc (.cells #[.int .i64 o, .int .i64 m, .slice a n cap] 32) = w1) := hw1
  clear hcall A1 hT hI ho hm hn hw1 hWy hS hE hok
  go_enter Tryd.func91, Tryd.ntmps91
  go_wp2_with fail
  rw [H1.out]
  refine Calls.mono HC.out ?_
  rintro e W1 ⟨hb, ⟨hdp, rfl, _, hr⟩ | ⟨hdp, rfl⟩⟩
  · have X : Hid (Tk.But E w W1 ∧ T.depth ≤ L ∧ Inv (Tm.foldT step s T) W1) := ⟨⟨hb.os.trans HA.out.os, hb.tape.trans HA.out.tape, hb.output.trans HA.out.output, Nat.le_trans HA.out.size hb.size, fun i hi he => by
        rw [hb.block i (Nat.lt_of_lt_of_le hi HA.out.size) (by rintro (h | h); omega; exact he h)]; exact HA.out.block i hi⟩, hdp, hr⟩
    clear hb hdp hr
    go_wp2
    go_ret
    exact ⟨X.out.1, .inl ⟨X.out.2.1, rfl, X.out.2.2⟩⟩
  · have X : Hid (Tk.But E w W1 ∧ L < T.depth) := ⟨⟨hb.os.trans HA.out.os, hb.tape.trans HA.out.tape, hb.output.trans HA.out.output, Nat.le_trans HA.out.size hb.size, fun i hi he => by
        rw [hb.block i (Nat.lt_of_lt_of_le hi HA.out.size) (by rintro (h | h); omega; exact he h)]; exact HA.out.block i hi⟩, hdp⟩
    clear hb hdp
    go_wp2
    go_ret
    exact ⟨X.out.1, .inr ⟨X.out.2, rfl⟩⟩

set_option maxHeartbeats 800000 in
theorem Tryd.closure_any (op n : Int) (a : Option Addr) (len c : Nat) (b : Nat) (r : Bool) (w : World) (h : Tk.Rt b r w) (hO : Tk.Ops w) :
    Calls Tryd.prog 93 #[.agg #[.int .i64 op, .int .i64 n, .slice a len c], .pointer (some ⟨b, 0, none⟩)] w fun e w' => e = .returned (.bool true) ∧ Tk.Rt b (r && Tm.formedB op n len) w' ∧ Tk.But (fun k => k = b) w w' := by
  have A0 : Below w.heap.size w (w.alloc (.cells #[.int .i64 op, .int .i64 n, .slice a len c] 32)) := (Below.refl _ w).alloc (Nat.le_refl _) _
  have R0 : Tk.Rt b r (w.alloc (.cells #[.int .i64 op, .int .i64 n, .slice a len c] 32)) := h.keep (A0.block b h.lt)
  have c0 := R0.c0
  have f0 := R0.f0
  have HR : Hid (Tk.Rt b r (w.alloc (.cells #[.int .i64 op, .int .i64 n, .slice a len c] 32))) := R0
  have HA : Hid (Below w.heap.size w (w.alloc (.cells #[.int .i64 op, .int .i64 n, .slice a len c] 32))) := A0
  have HO : Hid (Tk.Ops (w.alloc (.cells #[.int .i64 op, .int .i64 n, .slice a len c] 32))) := hO.below A0 hO.lt
  clear R0 A0 hO
  cases r
  · go_enter Tryd.func93, Tryd.ntmps93
    go_wp2
    go_ret
    exact ⟨rfl, HR.out.put false, ((Tk.But.of_below HA.out).setCell (E := fun k => k = b) (p := ⟨b, 0, none⟩) rfl _)⟩
  · go_enter Tryd.func93, Tryd.ntmps93
    go_wp2_with fail
    refine (Tryd.formed_any op n a len c _ (by exact HO.out)).mono ?_
    rintro e W1 ⟨rfl, b1⟩
    have R1 : Tk.Rt b true W1 := HR.out.keep (b1.block b HR.out.lt)
    have c1 := R1.c0
    have f1 := R1.f0
    go_wp2
    go_ret
    exact ⟨rfl, by simpa using R1.put (Tm.formedB op n len), (((Tk.But.of_below HA.out).trans (Tk.But.of_below b1)).setCell (E := fun k => k = b) (p := ⟨b, 0, none⟩) rfl _)⟩

mutual
theorem Tm.fold_form : ∀ (r : Bool) (T : Tm), Tm.foldT (fun r o n l => r && Tm.formedB o n l) r T = (r && T.allForm)
  | r, .mk o n ks => by
    rw [Tm.foldT, Tm.fold_forms _ ks, Tm.allForm, Bool.and_assoc]
theorem Tm.fold_forms : ∀ (r : Bool) (l : List Tm), Tm.foldL (fun r o n l => r && Tm.formedB o n l) r l = (r && Tm.allForms l)
  | r, [] => by simp [Tm.foldL, Tm.allForms]
  | r, k :: l => by
    rw [Tm.foldL, Tm.fold_form r k, Tm.fold_forms _ l, Tm.allForms, Bool.and_assoc]
end

theorem Tk.shown_form (br B bw : Nat) (hB : 0 < B) (hbr : B ≤ br) (hbw : B ≤ bw) (hne : br ≠ bw) :
    Tk.Shown (fun _ _ _ _ => True) 93 #[.pointer (some ⟨br, 0, none⟩)] (fun r W => Tk.Rt br r W ∧ Tk.Ops W) (fun r o n l => r && Tm.formedB o n l) (fun k => k = br) B bw where
  enters := enters_of Tryd.func93 (by kernel_rfl) rfl
  calls := fun r W op n a len c _ h => (Tryd.closure_any op n a len c br r W h.1 h.2).mono fun _ _ q => ⟨q.1, ⟨q.2.1, h.2.keep (q.2.2.block 0 h.2.lt (by omega))⟩, q.2.2⟩
  keeps := fun r W W' h hb => ⟨h.1.keep (hb.block br h.1.lt hne), h.2.keep (hb.block 0 h.2.lt (by omega))⟩
  above := fun k hk => by omega
  not_bw := fun h => hne h.symm

/-- checkForm's answer. -/
def Tm.wrongR (T : Tm) : Int := if 24 < T.depth then 2 else if T.allForm = false then 4 else 0

set_option maxRecDepth 20000 in
set_option maxHeartbeats 1600000 in
theorem Tryd.checkForm_any (d : Nat) (T : Tm) (v : Value) (w : World) (hT : Tm.Lies w w.heap.size d v T) (hO : Tk.Ops w) (hsz : T.size ≤ 2147483647) :
    Calls Tryd.prog 87 #[.agg #[.int .i64 T.op, .int .i64 T.num, v]] w fun e w' => e = .returned (.int .i64 T.wrongR) ∧ Below w.heap.size w w' := by
  obtain ⟨a, cap, rfl⟩ := hT.shape
  obtain ⟨o, ho⟩ : ∃ o, T.op = o := ⟨_, rfl⟩
  obtain ⟨m, hm⟩ : ∃ m, T.num = m := ⟨_, rfl⟩
  obtain ⟨n, hn⟩ : ∃ n, T.ks.length = n := ⟨_, rfl⟩
  rw [ho, hm, hn]
  rw [hn] at hT
  obtain ⟨w1, hw1⟩ : ∃ x, (w.alloc (.cells #[.int .i64 o, .int .i64 m, .slice a n cap] 32)).alloc (.cells #[.bool true] 4) = x := ⟨_, rfl⟩
  have hs1 : w1.heap.size = w.heap.size + 2 := by rw [← hw1]; simp
  have A1 : Below w.heap.size w w1 := by rw [← hw1]; exact ((Below.refl _ w).alloc (Nat.le_refl _) _).alloc (by simp) _
  have hR : Tk.Rt (w.heap.size + 1) true w1 := by
    rw [← hw1]
    have := heap_alloc_new (w.alloc (.cells #[.int .i64 o, .int .i64 m, .slice a n cap] 32)) (.cells #[.bool true] 4)
    simpa [Tk.Rt] using this
  have CW : Hid (∀ W, Below w1.heap.size w1 W → Calls Tryd.prog 92 #[.int .i64 24] W fun e w' => e = .returned (.agg #[.func (.func 97) #[] #[], .int .i64 24, .int .i64 2147483647]) ∧ Hid (Below w1.heap.size w1 w') ∧ w'.cell? ⟨w.heap.size, 0, none⟩ = some (.int .i64 o) ∧ w'.cell? ⟨w.heap.size, 1, none⟩ = some (.int .i64 m) ∧ w'.cell? ⟨w.heap.size, 2, none⟩ = some (.slice a n cap)) := fun W hb =>
    (Tryd.way_any 24 W).mono fun _ w' h => by
      have hb' : Below w1.heap.size w1 w' := hb.trans (h.2.mono hb.size)
      refine ⟨h.1, hb', ?_, ?_, ?_⟩
      · rw [hb'.cell (p := ⟨w.heap.size, 0, none⟩) (by show w.heap.size < _; omega), ← hw1]; simp
      · rw [hb'.cell (p := ⟨w.heap.size, 1, none⟩) (by show w.heap.size < _; omega), ← hw1]; simp
      · rw [hb'.cell (p := ⟨w.heap.size, 2, none⟩) (by show w.heap.size < _; omega), ← hw1]; simp
  have CT : Hid (∀ W, Below w1.heap.size w1 W → Calls Tryd.prog 91 #[.agg #[.func (.func 97) #[] #[], .int .i64 24, .int .i64 2147483647], .agg #[.int .i64 o, .int .i64 m, .slice a n cap], .func (.func 93) #[] #[.pointer (some ⟨w.heap.size + 1, 0, none⟩)]] W fun e w' =>
      ∃ b, e = .returned (.bool b) ∧ Hid (Below w.heap.size w w' ∧ b = decide (T.depth ≤ 24) ∧ (T.depth ≤ 24 → w'.cell? ⟨w.heap.size + 1, 0, none⟩ = some (.bool T.allForm)))) := fun W hb => by
    have hcall := Tryd.through_any d 24 T (.slice a n cap) true W (Tk.shown_form (w.heap.size + 1) w.heap.size W.heap.size hO.lt (by omega) (by have := hb.size; omega) (by have := hb.size; omega)) ((hT.below A1).below (hb.mono (by omega))) hO.lt (by have := hb.size; omega)
      ⟨hR.keep (hb.block _ (by omega)), (hO.below A1 hO.lt).keep (hb.block 0 (by have := hO.lt; omega))⟩ (fun k hk => by have := hb.size; omega) hsz (by decide) (Tm.okT_all (fun _ _ _ _ => trivial) _ _)
    rw [ho, hm, Tm.fold_form] at hcall
    refine hcall.mono ?_
    rintro e w' ⟨hbt, ⟨hdp, rfl, hr⟩ | ⟨hdp, rfl⟩⟩
    · refine ⟨true, rfl, (A1.trans (hb.mono (by omega))).trans (hbt.below (by have := hb.size; omega) (fun k hk => by omega)), (decide_eq_true hdp).symm, fun _ => ?_⟩
      have := hr.1.c0
      simpa using this
    · exact ⟨false, rfl, (A1.trans (hb.mono (by omega))).trans (hbt.below (by have := hb.size; omega) (fun k hk => by omega)), (decide_eq_false (by omega)).symm, fun h => by omega⟩
  have H1 : Hid ((w.alloc (.cells #[.int .i64 o, .int .i64 m, .slice a n cap] 32)).alloc (.cells #[.bool true] 4) = w1) := hw1
  have hq0 : w1.cell? ⟨w.heap.size, 0, none⟩ = some (.int .i64 o) := by rw [← hw1]; simp
  have hq1 : w1.cell? ⟨w.heap.size, 1, none⟩ = some (.int .i64 m) := by rw [← hw1]; simp
  have hq2 : w1.cell? ⟨w.heap.size, 2, none⟩ = some (.slice a n cap) := by rw [← hw1]; simp
  have BR : Hid (Below w1.heap.size w1 w1) := Below.refl _ _
  clear A1 hT hO hR ho hm hn hw1
  go_enter Tryd.func87, Tryd.ntmps87
  go_upto_region 2 with fail
  rw [H1.out]
  go_region_law (first
    | (go_simp; go_at_call 92; refine Calls.mono (CW.out _ ?_) ?_; (first | exact BR.out | exact BR.out.drew | exact Tk.below_drewN BR.out _); rintro e W2 ⟨rfl, B2, k0, k1, k2⟩)
    | (go_simp; go_at_call 91; refine Calls.mono (CT.out _ ?_) ?_; (first | exact B2.out | exact B2.out.drew | exact Tk.below_drewN B2.out _); rintro e W3 ⟨b, rfl, H3⟩)
    | fail)
  all_goals
    clear CW CT BR B2 k0 k1 k2 hq0 hq1 hq2
    go_simp
    by_cases hdp : T.depth ≤ 24
    · obtain rfl : b = true := by rw [H3.out.2.1]; exact decide_eq_true hdp
      have hc := H3.out.2.2 hdp
      cases hf : T.allForm
      · rw [hf] at hc
        have HF : Hid (T.wrongR = 4) := by
          show _ = _
          unfold Tm.wrongR
          rw [if_neg (by omega), if_pos hf]
        clear hf hdp
        go_wp2
        go_ret
        exact ⟨by rw [HF.out]; rfl, by first | exact H3.out.1 | exact H3.out.1.drew⟩
      · rw [hf] at hc
        have HF : Hid (T.wrongR = 0) := by
          show _ = _
          unfold Tm.wrongR
          rw [if_neg (by omega), hf]
          rfl
        clear hf hdp
        go_wp2
        go_ret
        exact ⟨by rw [HF.out]; rfl, by first | exact H3.out.1 | exact H3.out.1.drew⟩
    · obtain rfl : b = false := by rw [H3.out.2.1]; exact decide_eq_false hdp
      have HF : Hid (T.wrongR = 2) := by
        show _ = _
        unfold Tm.wrongR
        rw [if_pos (by omega)]
      clear hdp
      go_wp2
      go_ret
      exact ⟨by rw [HF.out]; rfl, by first | exact H3.out.1 | exact H3.out.1.drew⟩

end Go.Proofs
