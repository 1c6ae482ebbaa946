/-
  The contracts of enter and of checkForm's closure.
-/
import Derived.Test.YtbjomimdfcbdiaaDoorTForm
namespace Go.Proofs
open Go.RowKit

/-- The walk in block b: how many terms are left. -/
def Tk.Wk (b : Nat) (k : Nat) (w : World) : Prop := w.heap[b]? = some (.cells #[.int .i64 k] 75 (0, 0))
/-- A truth in block b. -/
def Tk.Rt (b : Nat) (r : Bool) (w : World) : Prop := w.heap[b]? = some (.cells #[.bool r] 4 (0, 0))
theorem Tk.Wk.c0 {b k : Nat} {w : World} (h : Tk.Wk b k w) : w.cell? ⟨b, 0, none⟩ = some (.int .i64 k) := by simp only [Tk.Wk] at h; simp [World.cell?, h]
theorem Tk.Wk.f0 {b k : Nat} {w : World} (h : Tk.Wk b k w) : w.frozen? ⟨b, 0, none⟩ = false := by simp only [Tk.Wk] at h; simp [World.frozen?, h]
theorem Tk.Wk.lt {b k : Nat} {w : World} (h : Tk.Wk b k w) : b < w.heap.size := (Array.getElem?_eq_some_iff.1 h).1
theorem Tk.Wk.put {b k : Nat} {w : World} (h : Tk.Wk b k w) (k' : Nat) : Tk.Wk b k' (w.setCell ⟨b, 0, none⟩ (.int .i64 k')) := by
  unfold Tk.Wk at *
  simp [World.setCell, Array.getElem?_modify, h]
theorem Tk.Rt.c0 {b : Nat} {r : Bool} {w : World} (h : Tk.Rt b r w) : w.cell? ⟨b, 0, none⟩ = some (.bool r) := by simp only [Tk.Rt] at h; simp [World.cell?, h]
theorem Tk.Rt.f0 {b : Nat} {r : Bool} {w : World} (h : Tk.Rt b r w) : w.frozen? ⟨b, 0, none⟩ = false := by simp only [Tk.Rt] at h; simp [World.frozen?, h]
theorem Tk.Rt.lt {b : Nat} {r : Bool} {w : World} (h : Tk.Rt b r w) : b < w.heap.size := (Array.getElem?_eq_some_iff.1 h).1
theorem Tk.Rt.put {b : Nat} {r : Bool} {w : World} (h : Tk.Rt b r w) (r' : Bool) : Tk.Rt b r' (w.setCell ⟨b, 0, none⟩ (.bool r')) := by
  unfold Tk.Rt at *
  simp [World.setCell, Array.getElem?_modify, h]
theorem Tk.Wk.keep {b k : Nat} {w w' : World} (h : Tk.Wk b k w) (hk : w'.heap[b]? = w.heap[b]?) : Tk.Wk b k w' := by unfold Tk.Wk; rw [hk]; exact h
theorem Tk.Rt.keep {b : Nat} {r : Bool} {w w' : World} (h : Tk.Rt b r w) (hk : w'.heap[b]? = w.heap[b]?) : Tk.Rt b r w' := by unfold Tk.Rt; rw [hk]; exact h

set_option maxHeartbeats 800000 in
theorem Tryd.enter_no (b : Nat) (w : World) :
    Calls Tryd.prog 55 #[.pointer (some ⟨b, 0, none⟩), .int .i64 0] w fun e w' => e = .returned (.bool false) ∧ w' = w := by
  go_enter Tryd.func55, Tryd.ntmps55
  go_wp2
  go_ret
  exact ⟨rfl, rfl⟩

set_option maxHeartbeats 800000 in
theorem Tryd.enter_yes (b k L : Nat) (w : World) (h : Tk.Wk b (k + 1) w) (hk : k ≤ 2147483647) :
    Calls Tryd.prog 55 #[.pointer (some ⟨b, 0, none⟩), .int .i64 ((L : Int) + 1)] w fun e w' => e = .returned (.bool true) ∧ w' = w.setCell ⟨b, 0, none⟩ (.int .i64 k) := by
  have c0 := h.c0
  have f0 := h.f0
  have e1 : (((L : Int) + 1) == 0) = false := by simp; omega
  have e2 : (((k + 1 : Nat) : Int) == 0) = false := by simp; omega
  have e3 : ((k + 1 : Nat) : Int) - 1 = k := by omega
  go_enter Tryd.func55, Tryd.ntmps55
  go_wp2
  go_ret
  exact ⟨rfl, rfl⟩

set_option maxHeartbeats 800000 in
theorem Tryd.closure_any (op n : Int) (a : Option Addr) (len c : Nat) (b : Nat) (r : Bool) (w : World) (h : Tk.Rt b r w) (hO : Tk.Ops w) :
    Calls Tryd.prog 37 #[.agg #[.int .i64 op, .int .i64 n, .slice a len c], .pointer (some ⟨b, 0, none⟩)] w fun e w' => e = .returned (.tuple #[]) ∧ Tk.Rt b (r && Tm.formedB op n len) w' ∧ Tk.But (fun k => k = b) w w' := by
  have A0 : Below w.heap.size w (w.alloc (.cells #[.int .i64 op, .int .i64 n, .slice a len c] 24)) := (Below.refl _ w).alloc (Nat.le_refl _) _
  have R0 : Tk.Rt b r (w.alloc (.cells #[.int .i64 op, .int .i64 n, .slice a len c] 24)) := h.keep (A0.block b h.lt)
  have c0 := R0.c0
  have f0 := R0.f0
  have HR : Hid (Tk.Rt b r (w.alloc (.cells #[.int .i64 op, .int .i64 n, .slice a len c] 24))) := R0
  have HA : Hid (Below w.heap.size w (w.alloc (.cells #[.int .i64 op, .int .i64 n, .slice a len c] 24))) := A0
  have HO : Hid (Tk.Ops (w.alloc (.cells #[.int .i64 op, .int .i64 n, .slice a len c] 24))) := hO.below A0 hO.lt
  clear R0 A0 hO
  cases r
  · go_enter Tryd.func37, Tryd.ntmps37
    go_wp2
    go_end0
    exact ⟨rfl, HR.out.put false, ((Tk.But.of_below HA.out).setCell (E := fun k => k = b) (p := ⟨b, 0, none⟩) rfl _)⟩
  · go_enter Tryd.func37, Tryd.ntmps37
    go_wp2_with fail
    refine (Tryd.formed_any op n a len c _ (by exact HO.out)).mono ?_
    rintro e W1 ⟨rfl, b1⟩
    have R1 : Tk.Rt b true W1 := HR.out.keep (b1.block b HR.out.lt)
    have c1 := R1.c0
    have f1 := R1.f0
    go_wp2
    go_end0
    exact ⟨rfl, by simpa using R1.put (Tm.formedB op n len), (((Tk.But.of_below HA.out).trans (Tk.But.of_below b1)).setCell (E := fun k => k = b) (p := ⟨b, 0, none⟩) rfl _)⟩

/-- What show comes to. -/
def Tk.ShowEnd (T : Tm) (L left : Nat) (r : Bool) (bw br : Nat) (w : World) (e : Ending) (w' : World) : Prop :=
  Tk.But (fun k => k = bw ∨ k = br) w w' ∧ ((T.depth ≤ L ∧ e = .returned (.bool true) ∧ Tk.Wk bw (left - T.size) w' ∧ Tk.Rt br (r && T.allForm) w') ∨ (L < T.depth ∧ e = .returned (.bool false)))

set_option maxHeartbeats 4000000 in
theorem Tryd.show_any : ∀ (d L : Nat) (T : Tm) (v : Value) (left : Nat) (r : Bool) (bw br B : Nat) (w : World), Tm.Lies w B d v T → 0 < B → B ≤ bw → B ≤ br → bw ≠ br → B ≤ w.heap.size → Tk.Ops w → Tk.Wk bw left w → Tk.Rt br r w → T.size ≤ left → left ≤ 2147483647 → L ≤ 1000 →
    Calls Tryd.prog 51 #[.pointer (some ⟨bw, 0, none⟩), .agg #[.int .i64 T.op, .int .i64 T.num, v], .int .i64 L, .func (.func 37) #[] #[.pointer (some ⟨br, 0, none⟩)]] w fun e w' => Tk.ShowEnd T L left r bw br w e w' := by
  intro d
  induction d with
  | zero => intro L T v left r bw br B w h; exact h.elim
  | succ d ih =>
    intro L T v left r bw br B w hT hB hbw hbr hne hBs hO hW hR hsz hleft hL
    obtain ⟨a, cap, rfl⟩ := hT.shape
    obtain ⟨o, ho⟩ : ∃ o, T.op = o := ⟨_, rfl⟩
    obtain ⟨m, hm⟩ : ∃ m, T.num = m := ⟨_, rfl⟩
    obtain ⟨n, hn⟩ : ∃ n, T.ks.length = n := ⟨_, rfl⟩
    rw [ho, hm, hn]
    rw [hn] at hT
    cases L with
    | zero =>
      go_enter Tryd.func51, Tryd.ntmps51
      go_wp2_with fail
      refine (Tryd.enter_no bw _).mono ?_
      rintro e W1 ⟨rfl, rfl⟩
      go_wp2
      go_ret
      exact ⟨Tk.But.of_below ((Below.refl _ w).alloc (Nat.le_refl _) _), .inr ⟨by rw [T.depth_eq]; omega, rfl⟩⟩
    | succ L =>
      obtain ⟨k, rfl⟩ : ∃ k, left = k + 1 := ⟨left - 1, by have := T.size_pos; omega⟩
      have A0 : Hid (Below w.heap.size w (w.alloc (.cells #[.int .i64 o, .int .i64 m, .slice a n cap] 24))) := (Below.refl _ w).alloc (Nat.le_refl _) _
      have W0 : Tk.Wk bw (k + 1) (w.alloc (.cells #[.int .i64 o, .int .i64 m, .slice a n cap] 24)) := hW.keep (A0.out.block bw hW.lt)
      have HT : Hid (Tm.Lies w B (d + 1) (.slice a n cap) T) := hT
      have HO : Hid (Tk.Ops w) := hO
      have HW : Hid (Tk.Wk bw (k + 1) w) := hW
      have HR : Hid (Tk.Rt br r w) := hR
      have HM : Hid (T.op = o ∧ T.num = m ∧ T.ks.length = n) := ⟨ho, hm, hn⟩
      have HN : Hid (0 < B ∧ B ≤ bw ∧ B ≤ br ∧ bw ≠ br ∧ B ≤ w.heap.size ∧ T.size ≤ k + 1 ∧ k + 1 ≤ 2147483647 ∧ L + 1 ≤ 1000) := ⟨hB, hbw, hbr, hne, hBs, hsz, hleft, hL⟩
      have HI : Hid _ := ih
      have hLb : L ≤ 1000 := by omega
      have hnb : n ≤ 2147483647 := by have h1 := Tm.length_le_sizes T.ks; have h2 := T.size_eq; omega
      clear ih hT hO hW hR ho hm hn hB hbw hbr hne hBs hsz hleft hL
      go_enter Tryd.func51, Tryd.ntmps51
      have hu := Tryd.underlying24
      go_wp2_with fail
      refine (Tryd.enter_yes bw k L _ W0 (by have := HN.out; omega)).mono ?_
      rintro e W1 ⟨rfl, hw1⟩
      have X1 : Hid (Tk.But (fun k => k = bw ∨ k = br) w W1) := by
        show Tk.But _ _ _
        rw [hw1]
        exact (Tk.But.of_below A0.out).setCell (E := fun k => k = bw ∨ k = br) (p := ⟨bw, 0, none⟩) (.inl rfl) _
      have W1k : Hid (Tk.Wk bw k W1) := by show Tk.Wk _ _ _; rw [hw1]; exact W0.put k
      have hbx : W1.heap[w.heap.size]? = some (.cells #[.int .i64 o, .int .i64 m, .slice a n cap] 24 (0, 0)) := by
        rw [hw1, Below.heap_setCell _ _ _ _ (by have := HW.out.lt; show w.heap.size ≠ bw; omega)]
        exact heap_alloc_new w _
      have R1 : Hid (Tk.Rt br r W1) := HR.out.keep (by
        rw [hw1, Below.heap_setCell _ _ _ _ (by have := HN.out; show br ≠ bw; omega)]
        exact A0.out.block br HR.out.lt)
      have O1 : Hid (Tk.Ops W1) := HO.out.keep (X1.out.block 0 (by have := HN.out; omega) (by have := HN.out; omega))
      clear W0 hw1
      go_wp2_with (refine wpList_load_row rfl 24 _ rfl _ rfl 24 _ (0, 0) _ hbx hu rfl (by kernel_rfl) ?_)
      go_wp2_with fail
      refine (Tryd.closure_any o m a n cap br r _ (by exact R1.out) (by exact O1.out)).mono ?_
      rintro e W2 ⟨rfl, hR2, hb2⟩
      have X2 : Hid (Tk.But (fun k => k = bw ∨ k = br) w W2) := X1.out.trans ⟨hb2.os, hb2.tape, hb2.output, hb2.size, fun i hi he => hb2.block i hi (fun e => he (.inr e))⟩
      have W2k : Hid (Tk.Wk bw k W2) := W1k.out.keep (hb2.block bw W1k.out.lt (by have := HN.out; omega))
      have R2 : Hid (Tk.Rt br (r && Tm.formedB o m n) W2) := hR2
      have h2 : W2.heap[w.heap.size]? = some (.cells #[.int .i64 o, .int .i64 m, .slice a n cap] 24 (0, 0)) := by
        rw [hb2.block _ (Array.getElem?_eq_some_iff.1 hbx).1 (by have := HR.out.lt; omega)]
        exact hbx
      have hc2 : W2.cell? ⟨w.heap.size, 2, none⟩ = some (.slice a n cap) := by simp [World.cell?, h2]
      clear hbx hR2 hb2 h2 X1 W1k R1 O1
      go_wp2
      go_loopg [21] n (fun g i wr => ∃ j : Nat, g + j = n ∧ i = .int .i64 j ∧ Hid (Tk.But (fun k => k = bw ∨ k = br) w wr ∧ Tk.Wk bw (k - Tm.sizes (T.ks.take j)) wr ∧ Tk.Rt br (r && Tm.formedB o m n && Tm.allForms (T.ks.take j)) wr ∧ Tm.depths (T.ks.take j) ≤ L))
      case atStart => exact ⟨0, by omega, rfl, X2.out, by simpa [Tm.sizes] using W2k.out, by simpa [Tm.allForms] using R2.out, by simp [Tm.depths]⟩
      case round =>
        obtain ⟨j, hj, rfl, HJ⟩ := hrel
        by_cases hjn : j < n
        · have hd : decide ((j : Int) < n) = true := decide_eq_true (by omega)
          have hjk : j < T.ks.length := by rw [HM.out.2.2]; exact hjn
          obtain ⟨g, off, u, rfl, hg, q0, q1, q2, q3⟩ := HT.out.kid j hjk
          obtain ⟨x, hx⟩ : ∃ x, T.ks[j] = x := ⟨_, rfl⟩
          rw [hx] at q0 q1 q3
          obtain ⟨au, cu, rfl⟩ := q3.shape
          obtain ⟨nx, hnx⟩ : ∃ n, x.ks.length = n := ⟨_, rfl⟩
          rw [hnx] at q2 q3
          obtain ⟨y0, hy0⟩ : ∃ y, x.op = y := ⟨_, rfl⟩
          obtain ⟨y1, hy1⟩ : ∃ y, x.num = y := ⟨_, rfl⟩
          rw [hy0] at q0
          rw [hy1] at q1
          have hE : ∀ i, i < B → ¬ (i = bw ∨ i = br) := fun i hi => by have := HN.out; omega
          have hc : ∀ p, wr.cell? ⟨g, p, none⟩ = w.cell? ⟨g, p, none⟩ := fun p => World.cell?_of_block (w := w) (HJ.out.1.block g (by have := HN.out; omega) (hE g hg))
          have hc0 : wr.cell? ⟨g, off + j * 3, none⟩ = some (.int .i64 y0) := by rw [hc]; exact q0
          have hc1 : wr.cell? ⟨g, off + j * 3 + 1, none⟩ = some (.int .i64 y1) := by rw [hc]; exact q1
          have hc2' : wr.cell? ⟨g, off + j * 3 + 2, none⟩ = some (.slice au nx cu) := by rw [hc]; exact q2
          have HY : Hid (T.ks[j] = x ∧ x.op = y0 ∧ x.num = y1) := ⟨hx, hy0, hy1⟩
          have HL : Hid (Tm.Lies w B d (.slice au nx cu) x) := q3
          clear hc q0 q1 q2 q3 hx hy0 hy1 hc2 hnx
          have BA : Hid (Tk.But (fun k => k = bw ∨ k = br) w (wr.alloc (.cells #[.int .i64 y0, .int .i64 y1, .slice au nx cu] 24))) := HJ.out.1.alloc _
          go_wp2_with fail
          have hcall := HI.out L x (.slice au nx cu) (k - Tm.sizes (T.ks.take j)) (r && Tm.formedB o m n && Tm.allForms (T.ks.take j)) bw br B (wr.alloc (.cells #[.int .i64 y0, .int .i64 y1, .slice au nx cu] 24))
            (HL.out.keep fun i hi => BA.out.block i (by have := HN.out; omega) (hE i hi)) HN.out.1 HN.out.2.1 HN.out.2.2.1 HN.out.2.2.2.1 (by have := HN.out; have := BA.out.size; omega)
            (HO.out.keep (BA.out.block 0 (by have := HN.out; omega) (hE 0 HN.out.1))) (HJ.out.2.1.keep (Below.heap_alloc _ _ _ HJ.out.2.1.lt)) (HJ.out.2.2.1.keep (Below.heap_alloc _ _ _ HJ.out.2.2.1.lt))
            (by have h1 := Tm.sizes_get T.ks j hjk; rw [HY.out.1] at h1; have h2 := T.size_eq; have := HN.out; omega) (by have := HN.out; omega) (by have := HN.out; omega)
          rw [HY.out.2.1, HY.out.2.2] at hcall
          refine hcall.mono ?_
          rintro e W3 ⟨hb3, ⟨hdp, rfl, hw3, hr3⟩ | ⟨hdp, rfl⟩⟩
          · have B3 : Hid (Tk.But (fun k => k = bw ∨ k = br) w W3) := BA.out.trans hb3
            have H3 : Hid (Tk.Wk bw (k - Tm.sizes (T.ks.take j) - x.size) W3 ∧ Tk.Rt br (r && Tm.formedB o m n && Tm.allForms (T.ks.take j) && x.allForm) W3 ∧ x.depth ≤ L) := ⟨hw3, hr3, hdp⟩
            clear hb3 hw3 hr3 hdp hcall
            go_wp2
            go_roundg (gk - 1)
            case measure => omega
            case rel =>
              refine ⟨j + 1, by omega, by go_num, B3.out, ?_, ?_, ?_⟩
              · rw [Tm.sizes_take _ _ hjk, HY.out.1, ← Nat.sub_sub]; exact H3.out.1
              · rw [Tm.allForms_take _ _ hjk, HY.out.1, ← Bool.and_assoc]; exact H3.out.2.1
              · rw [Tm.depths_take _ _ hjk, HY.out.1]; have := HJ.out.2.2.2; have := H3.out.2.2; omega
          · have B3 : Hid (Tk.But (fun k => k = bw ∨ k = br) w W3) := BA.out.trans hb3
            have H3 : Hid (L < x.depth) := hdp
            clear hb3 hdp hcall
            go_wp2
            go_ret
            refine ⟨B3.out, .inr ⟨?_, rfl⟩⟩
            have h1 := Tm.depths_get T.ks j hjk
            rw [HY.out.1] at h1
            have := H3.out
            rw [T.depth_eq]
            omega
        · have hd : decide ((j : Int) < n) = false := decide_eq_false (by omega)
          go_wp2
          go_ret
          have hall : T.ks.take j = T.ks := List.take_of_length_le (by rw [HM.out.2.2]; omega)
          have HZ := HJ.out
          rw [hall] at HZ
          refine ⟨HZ.1, .inl ⟨by rw [T.depth_eq]; have := HZ.2.2.2; omega, rfl, ?_, ?_⟩⟩
          · rw [T.size_eq, show k + 1 - (Tm.sizes T.ks + 1) = k - Tm.sizes T.ks by omega]; exact HZ.2.1
          · rw [T.allForm_eq, HM.out.1, HM.out.2.1, HM.out.2.2, ← Bool.and_assoc]; exact HZ.2.2.1

end Go.Proofs
