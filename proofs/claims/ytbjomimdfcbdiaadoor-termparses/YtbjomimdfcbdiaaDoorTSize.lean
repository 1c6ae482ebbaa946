/-
  The contract of show with Size's closure, and of Size.
-/
import Derived.Test.YtbjomimdfcbdiaaDoorTShow
namespace Go.Proofs
open Go.RowKit

def Tk.Ct (b : Nat) (c : Nat) (w : World) : Prop := w.heap[b]? = some (.cells #[.int .i64 c] 3 (0, 0))
theorem Tk.Ct.c0 {b c : Nat} {w : World} (h : Tk.Ct b c w) : w.cell? ⟨b, 0, none⟩ = some (.int .i64 c) := by simp only [Tk.Ct] at h; simp [World.cell?, h]
theorem Tk.Ct.f0 {b c : Nat} {w : World} (h : Tk.Ct b c w) : w.frozen? ⟨b, 0, none⟩ = false := by simp only [Tk.Ct] at h; simp [World.frozen?, h]
theorem Tk.Ct.lt {b c : Nat} {w : World} (h : Tk.Ct b c w) : b < w.heap.size := (Array.getElem?_eq_some_iff.1 h).1
theorem Tk.Ct.put {b c : Nat} {w : World} (h : Tk.Ct b c w) (c' : Nat) : Tk.Ct b c' (w.setCell ⟨b, 0, none⟩ (.int .i64 c')) := by
  unfold Tk.Ct at *
  simp [World.setCell, Array.getElem?_modify, h]
theorem Tk.Ct.keep {b c : Nat} {w w' : World} (h : Tk.Ct b c w) (hk : w'.heap[b]? = w.heap[b]?) : Tk.Ct b c w' := by unfold Tk.Ct; rw [hk]; exact h

set_option maxHeartbeats 800000 in
theorem Tryd.sizeClosure_any (op n : Int) (a : Option Addr) (len cap : Nat) (b : Nat) (c : Nat) (w : World) (h : Tk.Ct b c w) (hc : c ≤ 2147483647) :
    Calls Tryd.prog 36 #[.agg #[.int .i64 op, .int .i64 n, .slice a len cap], .pointer (some ⟨b, 0, none⟩)] w fun e w' => e = .returned (.tuple #[]) ∧ Tk.Ct b (c + 1) w' ∧ Tk.But (fun k => k = b) w w' := by
  have A0 : Below w.heap.size w (w.alloc (.cells #[.int .i64 op, .int .i64 n, .slice a len cap] 24)) := (Below.refl _ w).alloc (Nat.le_refl _) _
  have R0 : Tk.Ct b c (w.alloc (.cells #[.int .i64 op, .int .i64 n, .slice a len cap] 24)) := h.keep (A0.block b h.lt)
  have c0 := R0.c0
  have f0 := R0.f0
  have HR : Hid (Tk.Ct b c (w.alloc (.cells #[.int .i64 op, .int .i64 n, .slice a len cap] 24))) := R0
  have HA : Hid (Below w.heap.size w (w.alloc (.cells #[.int .i64 op, .int .i64 n, .slice a len cap] 24))) := A0
  clear R0 A0 h
  go_enter Tryd.func36, Tryd.ntmps36
  go_wp2
  go_end0
  exact ⟨rfl, HR.out.put (c + 1), ((Tk.But.of_below HA.out).setCell (E := fun k => k = b) (p := ⟨b, 0, none⟩) rfl _)⟩

/-- What show comes to. -/
def Tk.SizeEnd (T : Tm) (L left : Nat) (c : Nat) (bw br : Nat) (w : World) (e : Ending) (w' : World) : Prop :=
  Tk.But (fun k => k = bw ∨ k = br) w w' ∧ ((T.depth ≤ L ∧ e = .returned (.bool true) ∧ Tk.Wk bw (left - T.size) w' ∧ Tk.Ct br (c + T.size) w') ∨ (L < T.depth ∧ e = .returned (.bool false)))

set_option maxHeartbeats 4000000 in
theorem Tryd.sizeShow_any : ∀ (d L : Nat) (T : Tm) (v : Value) (left : Nat) (c : Nat) (bw br B : Nat) (w : World), Tm.Lies w B d v T → 0 < B → B ≤ bw → B ≤ br → bw ≠ br → B ≤ w.heap.size → Tk.Ops w → Tk.Wk bw left w → Tk.Ct br c w → T.size ≤ left → left ≤ 2147483647 → L ≤ 1000 → c + T.size ≤ 2147483647 →
    Calls Tryd.prog 51 #[.pointer (some ⟨bw, 0, none⟩), .agg #[.int .i64 T.op, .int .i64 T.num, v], .int .i64 L, .func (.func 36) #[] #[.pointer (some ⟨br, 0, none⟩)]] w fun e w' => Tk.SizeEnd T L left c bw br w e w' := by
  intro d
  induction d with
  | zero => intro L T v left c bw br B w h; exact h.elim
  | succ d ih =>
    intro L T v left c bw br B w hT hB hbw hbr hne hBs hO hW hR hsz hleft hL hcs
    obtain ⟨a, cap, rfl⟩ := hT.shape
    obtain ⟨o, ho⟩ : ∃ o, T.op = o := ⟨_, rfl⟩
    obtain ⟨m, hm⟩ : ∃ m, T.num = m := ⟨_, rfl⟩
    obtain ⟨n, hn⟩ : ∃ n, T.ks.length = n := ⟨_, rfl⟩
    rw [ho, hm, hn]
    rw [hn] at hT
    cases L with
    | zero =>
      go_enter Tryd.func51, Tryd.ntmps51
      go_wp2_with fail
      refine (Tryd.enter_no bw _).mono ?_
      rintro e W1 ⟨rfl, rfl⟩
      go_wp2
      go_ret
      exact ⟨Tk.But.of_below ((Below.refl _ w).alloc (Nat.le_refl _) _), .inr ⟨by rw [T.depth_eq]; omega, rfl⟩⟩
    | succ L =>
      obtain ⟨k, rfl⟩ : ∃ k, left = k + 1 := ⟨left - 1, by have := T.size_pos; omega⟩
      have A0 : Hid (Below w.heap.size w (w.alloc (.cells #[.int .i64 o, .int .i64 m, .slice a n cap] 24))) := (Below.refl _ w).alloc (Nat.le_refl _) _
      have W0 : Tk.Wk bw (k + 1) (w.alloc (.cells #[.int .i64 o, .int .i64 m, .slice a n cap] 24)) := hW.keep (A0.out.block bw hW.lt)
      have HT : Hid (Tm.Lies w B (d + 1) (.slice a n cap) T) := hT
      have HO : Hid (Tk.Ops w) := hO
      have HW : Hid (Tk.Wk bw (k + 1) w) := hW
      have HR : Hid (Tk.Ct br c w) := hR
      have HM : Hid (T.op = o ∧ T.num = m ∧ T.ks.length = n) := ⟨ho, hm, hn⟩
      have HN : Hid (0 < B ∧ B ≤ bw ∧ B ≤ br ∧ bw ≠ br ∧ B ≤ w.heap.size ∧ T.size ≤ k + 1 ∧ k + 1 ≤ 2147483647 ∧ L + 1 ≤ 1000 ∧ c + T.size ≤ 2147483647) := ⟨hB, hbw, hbr, hne, hBs, hsz, hleft, hL, hcs⟩
      have HI : Hid _ := ih
      have hLb : L ≤ 1000 := by omega
      have hnb : n ≤ 2147483647 := by have h1 := Tm.length_le_sizes T.ks; have h2 := T.size_eq; omega
      clear ih hT hO hW hR ho hm hn hB hbw hbr hne hBs hsz hleft hL hcs
      go_enter Tryd.func51, Tryd.ntmps51
      have hu := Tryd.underlying24
      go_wp2_with fail
      refine (Tryd.enter_yes bw k L _ W0 (by have := HN.out; omega)).mono ?_
      rintro e W1 ⟨rfl, hw1⟩
      have X1 : Hid (Tk.But (fun k => k = bw ∨ k = br) w W1) := by
        show Tk.But _ _ _
        rw [hw1]
        exact (Tk.But.of_below A0.out).setCell (E := fun k => k = bw ∨ k = br) (p := ⟨bw, 0, none⟩) (.inl rfl) _
      have W1k : Hid (Tk.Wk bw k W1) := by show Tk.Wk _ _ _; rw [hw1]; exact W0.put k
      have hbx : W1.heap[w.heap.size]? = some (.cells #[.int .i64 o, .int .i64 m, .slice a n cap] 24 (0, 0)) := by
        rw [hw1, Below.heap_setCell _ _ _ _ (by have := HW.out.lt; show w.heap.size ≠ bw; omega)]
        exact heap_alloc_new w _
      have R1 : Hid (Tk.Ct br c W1) := HR.out.keep (by
        rw [hw1, Below.heap_setCell _ _ _ _ (by have := HN.out; show br ≠ bw; omega)]
        exact A0.out.block br HR.out.lt)
      have O1 : Hid (Tk.Ops W1) := HO.out.keep (X1.out.block 0 (by have := HN.out; omega) (by have := HN.out; omega))
      clear W0 hw1
      go_wp2_with (refine wpList_load_row rfl 24 _ rfl _ rfl 24 _ (0, 0) _ hbx hu rfl (by kernel_rfl) ?_)
      go_wp2_with fail
      refine (Tryd.sizeClosure_any o m a n cap br c _ (by exact R1.out) (by have := HN.out; omega)).mono ?_
      rintro e W2 ⟨rfl, hR2, hb2⟩
      have X2 : Hid (Tk.But (fun k => k = bw ∨ k = br) w W2) := X1.out.trans ⟨hb2.os, hb2.tape, hb2.output, hb2.size, fun i hi he => hb2.block i hi (fun e => he (.inr e))⟩
      have W2k : Hid (Tk.Wk bw k W2) := W1k.out.keep (hb2.block bw W1k.out.lt (by have := HN.out; omega))
      have R2 : Hid (Tk.Ct br (c + 1) W2) := hR2
      have h2 : W2.heap[w.heap.size]? = some (.cells #[.int .i64 o, .int .i64 m, .slice a n cap] 24 (0, 0)) := by
        rw [hb2.block _ (Array.getElem?_eq_some_iff.1 hbx).1 (by have := HR.out.lt; omega)]
        exact hbx
      have hc2 : W2.cell? ⟨w.heap.size, 2, none⟩ = some (.slice a n cap) := by simp [World.cell?, h2]
      clear hbx hR2 hb2 h2 X1 W1k R1 O1
      go_wp2
      go_loopg [21] n (fun g i wr => ∃ j : Nat, g + j = n ∧ i = .int .i64 j ∧ Hid (Tk.But (fun k => k = bw ∨ k = br) w wr ∧ Tk.Wk bw (k - Tm.sizes (T.ks.take j)) wr ∧ Tk.Ct br (c + 1 + Tm.sizes (T.ks.take j)) wr ∧ Tm.depths (T.ks.take j) ≤ L))
      case atStart => exact ⟨0, by omega, rfl, X2.out, by simpa [Tm.sizes] using W2k.out, by simpa [Tm.sizes] using R2.out, by simp [Tm.depths]⟩
      case round =>
        obtain ⟨j, hj, rfl, HJ⟩ := hrel
        by_cases hjn : j < n
        · have hd : decide ((j : Int) < n) = true := decide_eq_true (by omega)
          have hjk : j < T.ks.length := by rw [HM.out.2.2]; exact hjn
          obtain ⟨g, off, u, rfl, hg, q0, q1, q2, q3⟩ := HT.out.kid j hjk
          obtain ⟨x, hx⟩ : ∃ x, T.ks[j] = x := ⟨_, rfl⟩
          rw [hx] at q0 q1 q3
          obtain ⟨au, cu, rfl⟩ := q3.shape
          obtain ⟨nx, hnx⟩ : ∃ n, x.ks.length = n := ⟨_, rfl⟩
          rw [hnx] at q2 q3
          obtain ⟨y0, hy0⟩ : ∃ y, x.op = y := ⟨_, rfl⟩
          obtain ⟨y1, hy1⟩ : ∃ y, x.num = y := ⟨_, rfl⟩
          rw [hy0] at q0
          rw [hy1] at q1
          have hE : ∀ i, i < B → ¬ (i = bw ∨ i = br) := fun i hi => by have := HN.out; omega
          have hc : ∀ p, wr.cell? ⟨g, p, none⟩ = w.cell? ⟨g, p, none⟩ := fun p => World.cell?_of_block (w := w) (HJ.out.1.block g (by have := HN.out; omega) (hE g hg))
          have hc0 : wr.cell? ⟨g, off + j * 3, none⟩ = some (.int .i64 y0) := by rw [hc]; exact q0
          have hc1 : wr.cell? ⟨g, off + j * 3 + 1, none⟩ = some (.int .i64 y1) := by rw [hc]; exact q1
          have hc2' : wr.cell? ⟨g, off + j * 3 + 2, none⟩ = some (.slice au nx cu) := by rw [hc]; exact q2
          have HY : Hid (T.ks[j] = x ∧ x.op = y0 ∧ x.num = y1) := ⟨hx, hy0, hy1⟩
          have HL : Hid (Tm.Lies w B d (.slice au nx cu) x) := q3
          clear hc q0 q1 q2 q3 hx hy0 hy1 hc2 hnx
          have BA : Hid (Tk.But (fun k => k = bw ∨ k = br) w (wr.alloc (.cells #[.int .i64 y0, .int .i64 y1, .slice au nx cu] 24))) := HJ.out.1.alloc _
          go_wp2_with fail
          have hcall := HI.out L x (.slice au nx cu) (k - Tm.sizes (T.ks.take j)) (c + 1 + Tm.sizes (T.ks.take j)) bw br B (wr.alloc (.cells #[.int .i64 y0, .int .i64 y1, .slice au nx cu] 24))
            (HL.out.keep fun i hi => BA.out.block i (by have := HN.out; omega) (hE i hi)) HN.out.1 HN.out.2.1 HN.out.2.2.1 HN.out.2.2.2.1 (by have := HN.out; have := BA.out.size; omega)
            (HO.out.keep (BA.out.block 0 (by have := HN.out; omega) (hE 0 HN.out.1))) (HJ.out.2.1.keep (Below.heap_alloc _ _ _ HJ.out.2.1.lt)) (HJ.out.2.2.1.keep (Below.heap_alloc _ _ _ HJ.out.2.2.1.lt))
            (by have h1 := Tm.sizes_get T.ks j hjk; rw [HY.out.1] at h1; have h2 := T.size_eq; have := HN.out; omega) (by have := HN.out; omega) (by have := HN.out; omega) (by have h1 := Tm.sizes_get T.ks j hjk; rw [HY.out.1] at h1; have h2 := T.size_eq; have := HN.out; omega)
          rw [HY.out.2.1, HY.out.2.2] at hcall
          refine hcall.mono ?_
          rintro e W3 ⟨hb3, ⟨hdp, rfl, hw3, hr3⟩ | ⟨hdp, rfl⟩⟩
          · have B3 : Hid (Tk.But (fun k => k = bw ∨ k = br) w W3) := BA.out.trans hb3
            have H3 : Hid (Tk.Wk bw (k - Tm.sizes (T.ks.take j) - x.size) W3 ∧ Tk.Ct br (c + 1 + Tm.sizes (T.ks.take j) + x.size) W3 ∧ x.depth ≤ L) := ⟨hw3, hr3, hdp⟩
            clear hb3 hw3 hr3 hdp hcall
            go_wp2
            go_roundg (gk - 1)
            case measure => omega
            case rel =>
              refine ⟨j + 1, by omega, by go_num, B3.out, ?_, ?_, ?_⟩
              · rw [Tm.sizes_take _ _ hjk, HY.out.1, ← Nat.sub_sub]; exact H3.out.1
              · rw [Tm.sizes_take _ _ hjk, HY.out.1, ← Nat.add_assoc]; exact H3.out.2.1
              · rw [Tm.depths_take _ _ hjk, HY.out.1]; have := HJ.out.2.2.2; have := H3.out.2.2; omega
          · have B3 : Hid (Tk.But (fun k => k = bw ∨ k = br) w W3) := BA.out.trans hb3
            have H3 : Hid (L < x.depth) := hdp
            clear hb3 hdp hcall
            go_wp2
            go_ret
            refine ⟨B3.out, .inr ⟨?_, rfl⟩⟩
            have h1 := Tm.depths_get T.ks j hjk
            rw [HY.out.1] at h1
            have := H3.out
            rw [T.depth_eq]
            omega
        · have hd : decide ((j : Int) < n) = false := decide_eq_false (by omega)
          go_wp2
          go_ret
          have hall : T.ks.take j = T.ks := List.take_of_length_le (by rw [HM.out.2.2]; omega)
          have HZ := HJ.out
          rw [hall] at HZ
          refine ⟨HZ.1, .inl ⟨by rw [T.depth_eq]; have := HZ.2.2.2; omega, rfl, ?_, ?_⟩⟩
          · rw [T.size_eq, show k + 1 - (Tm.sizes T.ks + 1) = k - Tm.sizes T.ks by omega]; exact HZ.2.1
          · rw [T.size_eq, show c + (Tm.sizes T.ks + 1) = c + 1 + Tm.sizes T.ks by omega]; exact HZ.2.2.1

set_option maxHeartbeats 4000000 in
theorem Tryd.sizeThrough_any (d : Nat) (T : Tm) (v : Value) (c : Nat) (br B : Nat) (w : World) (hT : Tm.Lies w B d v T) (hB : 0 < B) (hbr : B ≤ br) (hBs : B ≤ w.heap.size) (hO : Tk.Ops w) (hR : Tk.Ct br c w) (hsz : c + T.size ≤ 2147483647) :
    Calls Tryd.prog 31 #[.agg #[.int .i64 T.op, .int .i64 T.num, v], .int .i64 1000, .func (.func 36) #[] #[.pointer (some ⟨br, 0, none⟩)]] w fun e w' =>
      Tk.But (fun k => k = br) w w' ∧ ((T.depth ≤ 1000 ∧ e = .returned (.bool true) ∧ Tk.Ct br (c + T.size) w') ∨ (1000 < T.depth ∧ e = .returned (.bool false))) := by
  obtain ⟨a, cap, rfl⟩ := hT.shape
  obtain ⟨o, ho⟩ : ∃ o, T.op = o := ⟨_, rfl⟩
  obtain ⟨m, hm⟩ : ∃ m, T.num = m := ⟨_, rfl⟩
  obtain ⟨n, hn⟩ : ∃ n, T.ks.length = n := ⟨_, rfl⟩
  rw [ho, hm, hn]
  rw [hn] at hT
  have A1 : Below w.heap.size w ((w.alloc (.cells #[.int .i64 o, .int .i64 m, .slice a n cap] 24)).alloc (.cells #[.int .i64 2147483647] 75)) := ((Below.refl _ w).alloc (Nat.le_refl _) _).alloc (by simp) _
  have hcall := Tryd.sizeShow_any d 1000 T (.slice a n cap) 2147483647 c (w.heap.size + 1) br B _ (hT.below (A1.mono hBs)) hB (by omega) hbr (by have := hR.lt; omega) (by have := A1.size; omega) (hO.below A1 (by omega))
    (by have := heap_alloc_new (w.alloc (.cells #[.int .i64 o, .int .i64 m, .slice a n cap] 24)) (.cells #[.int .i64 2147483647] 75); simpa [Tk.Wk] using this) (hR.keep (A1.block br hR.lt)) (by omega) (Nat.le_refl _) (by decide) hsz
  rw [ho, hm] at hcall
  have HC : Hid _ := hcall
  have HA : Hid _ := A1
  have HL : Hid (br < w.heap.size) := hR.lt
  clear hcall A1 hT hO hR ho hm hn hsz
  go_enter Tryd.func31, Tryd.ntmps31
  go_wp2_with fail
  refine Calls.mono HC.out ?_
  rintro e W1 ⟨hb, ⟨hdp, rfl, _, hr⟩ | ⟨hdp, rfl⟩⟩
  · have X : Hid (Tk.But (fun k => k = br) w W1 ∧ T.depth ≤ 1000 ∧ Tk.Ct br (c + T.size) W1) := ⟨⟨hb.os.trans HA.out.os, hb.tape.trans HA.out.tape, hb.output.trans HA.out.output, Nat.le_trans HA.out.size hb.size, fun i hi he => by
        rw [hb.block i (Nat.lt_of_lt_of_le hi HA.out.size) (by omega)]; exact HA.out.block i hi⟩, hdp, hr⟩
    clear hb hdp hr
    go_wp2
    go_ret
    exact ⟨X.out.1, .inl ⟨X.out.2.1, rfl, X.out.2.2⟩⟩
  · have X : Hid (Tk.But (fun k => k = br) w W1 ∧ 1000 < T.depth) := ⟨⟨hb.os.trans HA.out.os, hb.tape.trans HA.out.tape, hb.output.trans HA.out.output, Nat.le_trans HA.out.size hb.size, fun i hi he => by
        rw [hb.block i (Nat.lt_of_lt_of_le hi HA.out.size) (by omega)]; exact HA.out.block i hi⟩, hdp⟩
    clear hb hdp
    go_wp2
    go_ret
    exact ⟨X.out.1, .inr ⟨X.out.2, rfl⟩⟩

set_option maxHeartbeats 4000000 in
theorem Tryd.size_any (d : Nat) (T : Tm) (v : Value) (w : World) (hT : Tm.Lies w w.heap.size d v T) (hO : Tk.Ops w) (hsz : T.size ≤ 2147483647) (hdp : T.depth ≤ 1000) :
    Calls Tryd.prog 20 #[.agg #[.int .i64 T.op, .int .i64 T.num, v]] w fun e w' => e = .returned (.int .i64 T.size) ∧ Below w.heap.size w w' := by
  obtain ⟨a, cap, rfl⟩ := hT.shape
  obtain ⟨o, ho⟩ : ∃ o, T.op = o := ⟨_, rfl⟩
  obtain ⟨m, hm⟩ : ∃ m, T.num = m := ⟨_, rfl⟩
  obtain ⟨n, hn⟩ : ∃ n, T.ks.length = n := ⟨_, rfl⟩
  rw [ho, hm, hn]
  rw [hn] at hT
  obtain ⟨w0, hw0⟩ : ∃ x, (w.alloc (.cells #[.int .i64 o, .int .i64 m, .slice a n cap] 24)).alloc (.cells #[.int .i64 0] 3) = x := ⟨_, rfl⟩
  have A0 : Below w.heap.size w w0 := by rw [← hw0]; exact ((Below.refl _ w).alloc (Nat.le_refl _) _).alloc (by simp) _
  have R0 : Tk.Ct (w.heap.size + 1) 0 w0 := by
    rw [← hw0]
    have := heap_alloc_new (w.alloc (.cells #[.int .i64 o, .int .i64 m, .slice a n cap] 24)) (.cells #[.int .i64 0] 3)
    simpa [Tk.Ct] using this
  have h1 := Tryd.sizeThrough_any d T (.slice a n cap) 0 (w.heap.size + 1) w.heap.size w0 (hT.below A0) hO.lt (by omega) A0.size (hO.below A0 hO.lt) R0 (by omega)
  rw [ho, hm] at h1
  have H1 : Hid _ := h1
  have HA : Hid (Below w.heap.size w w0) := A0
  have HD : Hid (T.depth ≤ 1000) := hdp
  have HW0 : Hid ((w.alloc (.cells #[.int .i64 o, .int .i64 m, .slice a n cap] 24)).alloc (.cells #[.int .i64 0] 3) = w0) := hw0
  clear hT hO hsz hdp ho hm hn hw0 A0 R0 h1
  go_enter Tryd.func20, Tryd.ntmps20
  go_wp2_with fail
  rw [HW0.out]
  refine Calls.mono H1.out ?_
  rintro e W1 ⟨hb, ⟨_, rfl, hr⟩ | ⟨hdp, rfl⟩⟩
  · have B1 : Hid (Below w.heap.size w W1) := HA.out.trans (hb.below HA.out.size (by intro k hk; show ¬ k = w.heap.size + 1; omega))
    have c0 := hr.c0
    rw [Nat.zero_add] at c0
    clear hb hr H1 HW0
    go_wp2
    go_ret
    exact ⟨rfl, B1.out⟩
  · have := HD.out
    omega

end Go.Proofs
