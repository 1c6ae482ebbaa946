/-
  The walk of EvalTotal: a right term is a number, a truth, or one of two faults.
-/
import Derived.Test.YteeanikildmmnaaDoorTmMore
import Derived.Test.YteeanikildmmnaaDoorTLarge
import Derived.Test.YteeanikildmmnaaDoorTHalves
import Derived.Test.YteeanikildmmnaaDoorTRefChk
namespace Go.Proofs.YteeanikildmmnaaDoor.EvalTotal
open Go.RowKit

set_option maxHeartbeats 8000000 in
theorem walk (d : Nat) (T : Tm) (v : Value) (x0 x1 x2 x3 : Int) (w : World) (hT : Tm.Lies w w.heap.size d v T) (hO : Tk.Ops w) :
    Calls Tryd.prog 6 #[.agg #[.int .i64 T.op, .int .i64 T.num, v], .agg #[.int .i64 x0, .int .i64 x1, .int .i64 x2, .int .i64 x3]] w fun e w' => e = .returned (.bool true) ∧ Below w.heap.size w w' := by
  obtain ⟨a, cap, rfl⟩ := hT.shape
  obtain ⟨o, ho⟩ : ∃ o, T.op = o := ⟨_, rfl⟩
  obtain ⟨m, hm⟩ : ∃ m, T.num = m := ⟨_, rfl⟩
  obtain ⟨n, hn⟩ : ∃ n, T.ks.length = n := ⟨_, rfl⟩
  rw [ho, hm, hn]
  rw [hn] at hT
  obtain ⟨w0, hw0⟩ : ∃ w0, ((w.alloc (.cells #[.int .i64 o, .int .i64 m, .slice a n cap] 24)).alloc (.cells #[.int .i64 x0, .int .i64 x1, .int .i64 x2, .int .i64 x3] 25)).alloc (.cells #[.int .i64 2000] 29) = w0 := ⟨_, rfl⟩
  have A0 : Below w.heap.size w w0 := by rw [← hw0]; exact (((Below.refl _ w).alloc (Nat.le_refl _) _).alloc (by simp) _).alloc (by simp; omega) _
  have C0 : w0.heap[w.heap.size]? = some (.cells #[.int .i64 o, .int .i64 m, .slice a n cap] 24 (0, 0)) := by rw [← hw0, Below.heap_alloc _ _ _ (by simp; omega), Below.heap_alloc _ _ _ (by simp)]; exact heap_alloc_new w _
  have C1 : w0.heap[w.heap.size + 1]? = some (.cells #[.int .i64 x0, .int .i64 x1, .int .i64 x2, .int .i64 x3] 25 (0, 0)) := by
    rw [← hw0, Below.heap_alloc _ _ _ (by simp)]
    have := heap_alloc_new (w.alloc (.cells #[.int .i64 o, .int .i64 m, .slice a n cap] 24)) (.cells #[.int .i64 x0, .int .i64 x1, .int .i64 x2, .int .i64 x3] 25)
    simpa using this
  have R0 : Tk.Rm (w.heap.size + 2) (2000 : Nat) w0 := by
    rw [← hw0]
    have := heap_alloc_new ((w.alloc (.cells #[.int .i64 o, .int .i64 m, .slice a n cap] 24)).alloc (.cells #[.int .i64 x0, .int .i64 x1, .int .i64 x2, .int .i64 x3] 25)) (.cells #[.int .i64 2000] 29)
    simpa [Tk.Rm] using this
  have h1 := Tryd.large_any d T (.slice a n cap) 2000 (w.heap.size + 2) 1 w.heap.size w0 (hT.below A0) (by omega) A0.size R0 (by omega) (by omega)
  rw [ho, hm] at h1
  have H1 : Hid _ := h1
  have HT : Hid (Tm.Lies w w.heap.size d (.slice a n cap) T) := hT
  have HM : Hid (T.op = o ∧ T.num = m) := ⟨ho, hm⟩
  have HO : Hid (Tk.Ops w) := hO
  have HA : Hid (Below w.heap.size w w0) := A0
  have HC0 : Hid _ := C0
  have HC1 : Hid _ := C1
  have HW0 : Hid (((w.alloc (.cells #[.int .i64 o, .int .i64 m, .slice a n cap] 24)).alloc (.cells #[.int .i64 x0, .int .i64 x1, .int .i64 x2, .int .i64 x3] 25)).alloc (.cells #[.int .i64 2000] 29) = w0) := hw0
  have hu := Tryd.underlying25
  have hu2 := Tryd.underlying24
  have HH : Hid (∀ W, Below w.heap.size w W → Calls Tryd.prog 9 #[] W fun e w' => e = .returned (.bool true) ∧ Below w.heap.size w w') := fun W hW => (Tryd.halves_true W (HO.out.below hW HO.out.lt)).mono fun e w' ⟨he, hb⟩ => ⟨he, hW.trans (hb.mono hW.size)⟩
  clear hw0 h1 hT hO ho hm A0 C0 C1 hn R0
  go_enter Tryd.func6, Tryd.ntmps6
  go_wp2_with fail
  rw [HW0.out]
  refine Calls.mono H1.out ?_
  rintro e W1 ⟨b1, hcase⟩
  have S1 := b1.size
  have B1 : Hid (Below w.heap.size w W1) := HA.out.trans (b1.below HA.out.size (by intro k hk; show ¬ k = w.heap.size + 2; omega))
  have hbx : W1.heap[w.heap.size + 1]? = some (.cells #[.int .i64 x0, .int .i64 x1, .int .i64 x2, .int .i64 x3] 25 (0, 0)) := by
    rw [b1.block _ (Array.getElem?_eq_some_iff.1 HC1.out).1 (by show ¬ w.heap.size + 1 = w.heap.size + 2; omega)]; exact HC1.out
  have hby : W1.heap[w.heap.size]? = some (.cells #[.int .i64 o, .int .i64 m, .slice a n cap] 24 (0, 0)) := by
    rw [b1.block _ (Array.getElem?_eq_some_iff.1 HC0.out).1 (by show ¬ w.heap.size = w.heap.size + 2; omega)]; exact HC0.out
  rcases hcase with ⟨rfl, hsz, -⟩ | rfl
  rotate_left
  · clear b1 S1 H1 HW0 hbx hby
    go_wp2_with fail
    refine Calls.mono (HH.out _ B1.out) ?_
    rintro e W2 ⟨rfl, b2⟩
    have B2 : Hid (Below w.heap.size w W2) := b2
    clear b2
    go_wp2
    go_ret
    exact ⟨rfl, B2.out⟩
  have HSZ : Hid (T.size ≤ 2147483647) := by show _ ≤ _; omega
  have HT1 : Hid (∀ W, Below w.heap.size w W → Tm.Lies W W.heap.size d (.slice a n cap) T) := fun W hW => (HT.out.below hW).wider hW.size
  have HX : Hid (W1.heap[w.heap.size + 1]? = some (.cells #[.int .i64 x0, .int .i64 x1, .int .i64 x2, .int .i64 x3] 25 (0, 0))) := hbx
  have HY : Hid (W1.heap[w.heap.size]? = some (.cells #[.int .i64 o, .int .i64 m, .slice a n cap] 24 (0, 0))) := hby
  clear b1 S1 H1 HW0 hsz HT HA HC0 HC1
  have h2 := Tryd.refCheck_any d T (.slice a n cap) W1 (HT1.out W1 B1.out) HSZ.out
  obtain ⟨q, hq⟩ : ∃ q, T.checkR = q := ⟨_, rfl⟩
  rw [HM.out.1, HM.out.2, hq] at h2
  have HQ : Hid (T.checkR = q) := hq
  obtain ⟨kind, er⟩ := q
  have H2 : Hid _ := h2
  clear h2 hq
  go_wp2_with (first | (refine wpList_load_row rfl 24 _ rfl _ rfl 24 _ (0, 0) _ hby hu2 rfl (by kernel_rfl) ?_) | (refine wpList_load_row rfl 25 _ rfl _ rfl 25 _ (0, 0) _ hbx hu rfl (by kernel_rfl) ?_))
  go_wp2_with fail
  refine Calls.mono H2.out ?_
  rintro e W2 ⟨rfl, b2⟩
  have B2 : Hid (Below w.heap.size w W2) := B1.out.trans (b2.mono B1.out.size)
  have hbx2 : W2.heap[w.heap.size + 1]? = some (.cells #[.int .i64 x0, .int .i64 x1, .int .i64 x2, .int .i64 x3] 25 (0, 0)) := by
    rw [b2.block _ (Array.getElem?_eq_some_iff.1 HX.out).1]; exact HX.out
  have hby2 : W2.heap[w.heap.size]? = some (.cells #[.int .i64 o, .int .i64 m, .slice a n cap] 24 (0, 0)) := by
    rw [b2.block _ (Array.getElem?_eq_some_iff.1 HY.out).1]; exact HY.out
  have HX2 : Hid _ := hbx2
  have HY2 : Hid _ := hby2
  clear b2 H2 hbx hby
  by_cases he : er = 0
  rotate_left
  · have hne : (er != 0) = true := by simpa using he
    clear he hbx2 hby2
    go_wp2_with fail
    refine Calls.mono (HH.out _ B2.out) ?_
    rintro e W9 ⟨rfl, b9⟩
    have B9 : Hid (Below w.heap.size w W9) := b9
    clear b9
    go_wp2
    go_ret
    exact ⟨rfl, B9.out⟩
  subst he
  obtain ⟨fb, hfb⟩ : ∃ f, Tk.fitsB x0 x1 x2 x3 = f := ⟨_, rfl⟩
  have h3 := Tryd.refFits_any x0 x1 x2 x3 W2
  rw [hfb] at h3
  have HF : Hid (Tk.fitsB x0 x1 x2 x3 = fb) := hfb
  have H3 : Hid _ := h3
  have m0 : W2.cell? ⟨w.heap.size + 1, 0, none⟩ = some (.int .i64 x0) := by simp [World.cell?, hbx2]
  have m1 : W2.cell? ⟨w.heap.size + 1, 1, none⟩ = some (.int .i64 x1) := by simp [World.cell?, hbx2]
  have m2 : W2.cell? ⟨w.heap.size + 1, 2, none⟩ = some (.int .i64 x2) := by simp [World.cell?, hbx2]
  have m3 : W2.cell? ⟨w.heap.size + 1, 3, none⟩ = some (.int .i64 x3) := by simp [World.cell?, hbx2]
  clear h3 hfb
  go_wp2_with fail
  refine Calls.mono H3.out ?_
  rintro e W3 ⟨rfl, b3⟩
  have B3 : Hid (Below w.heap.size w W3) := B2.out.trans (b3.mono B2.out.size)
  have hbx3 : W3.heap[w.heap.size + 1]? = some (.cells #[.int .i64 x0, .int .i64 x1, .int .i64 x2, .int .i64 x3] 25 (0, 0)) := by
    rw [b3.block _ (Array.getElem?_eq_some_iff.1 HX2.out).1]; exact HX2.out
  have hby3 : W3.heap[w.heap.size]? = some (.cells #[.int .i64 o, .int .i64 m, .slice a n cap] 24 (0, 0)) := by
    rw [b3.block _ (Array.getElem?_eq_some_iff.1 HY2.out).1]; exact HY2.out
  have HX3 : Hid _ := hbx3
  have HY3 : Hid _ := hby3
  clear b3 H3 hbx2 hby2 m0 m1 m2 m3
  cases fb
  · clear hbx3 hby3
    go_wp2_with fail
    refine Calls.mono (HH.out _ B3.out) ?_
    rintro e W9 ⟨rfl, b9⟩
    have B9 : Hid (Below w.heap.size w W9) := b9
    clear b9
    go_wp2
    go_ret
    exact ⟨rfl, B9.out⟩
  have h4 := Tryd.numberW_any d T (.slice a n cap) x0 x1 x2 x3 W3 (HT1.out W3 B3.out) (HO.out.below B3.out HO.out.lt) HSZ.out
  have h5 := fun W (hW : Below w.heap.size w W) => Tryd.truthW_any d T (.slice a n cap) x0 x1 x2 x3 W (HT1.out W hW) (HO.out.below hW HO.out.lt) HSZ.out
  rw [HM.out.1, HM.out.2] at h4 h5
  rcases Tm.total HQ.out HF.out with ⟨rfl, nn, ff, en, et, ⟨g1, g2⟩, hff⟩ | ⟨rfl, en, tb, tg, et, htg⟩
  · rw [en] at h4
    rw [et] at h5
    have H4 : Hid _ := h4
    have H5 : Hid _ := h5
    have k1 : decide (-1099511627776 ≤ nn) = true := decide_eq_true g1
    have k2 : decide (nn ≤ 1099511627776) = true := decide_eq_true g2
    clear h4 h5 en et
    go_wp2_with (first | (refine wpList_load_row rfl 24 _ rfl _ rfl 24 _ (0, 0) _ hby3 hu2 rfl (by kernel_rfl) ?_) | (refine wpList_load_row rfl 25 _ rfl _ rfl 25 _ (0, 0) _ hbx3 hu rfl (by kernel_rfl) ?_))
    go_wp2_with fail
    refine Calls.mono H4.out ?_
    rintro e W4 ⟨rfl, b4⟩
    have B4 : Hid (Below w.heap.size w W4) := B3.out.trans (b4.mono B3.out.size)
    have hbx4 : W4.heap[w.heap.size + 1]? = some (.cells #[.int .i64 x0, .int .i64 x1, .int .i64 x2, .int .i64 x3] 25 (0, 0)) := by
      rw [b4.block _ (Array.getElem?_eq_some_iff.1 HX3.out).1]; exact HX3.out
    have hby4 : W4.heap[w.heap.size]? = some (.cells #[.int .i64 o, .int .i64 m, .slice a n cap] 24 (0, 0)) := by
      rw [b4.block _ (Array.getElem?_eq_some_iff.1 HY3.out).1]; exact HY3.out
    have HX4 : Hid _ := hbx4
    have HY4 : Hid _ := hby4
    clear b4 H4 hbx3 hby3
    go_wp2_with (first | (refine wpList_load_row rfl 24 _ rfl _ rfl 24 _ (0, 0) _ hby4 hu2 rfl (by kernel_rfl) ?_) | (refine wpList_load_row rfl 25 _ rfl _ rfl 25 _ (0, 0) _ hbx4 hu rfl (by kernel_rfl) ?_))
    go_wp2_with fail
    refine Calls.mono (H5.out _ B4.out) ?_
    rintro e W5 ⟨rfl, b5⟩
    have B5 : Hid (Below w.heap.size w W5) := B4.out.trans (b5.mono B4.out.size)
    clear b5 H5 hbx4 hby4
    rcases hff with rfl | rfl | rfl
    all_goals
      go_wp2_with fail
      refine Calls.mono (HH.out _ B5.out) ?_
      rintro e W9 ⟨rfl, b9⟩
      have B9 : Hid (Below w.heap.size w W9) := b9
      clear b9
      go_wp2
      go_ret
      exact ⟨rfl, B9.out⟩
  · rw [en] at h4
    rw [et] at h5
    have H4 : Hid _ := h4
    have H5 : Hid _ := h5
    clear h4 h5 en et
    go_wp2_with (first | (refine wpList_load_row rfl 24 _ rfl _ rfl 24 _ (0, 0) _ hby3 hu2 rfl (by kernel_rfl) ?_) | (refine wpList_load_row rfl 25 _ rfl _ rfl 25 _ (0, 0) _ hbx3 hu rfl (by kernel_rfl) ?_))
    go_wp2_with fail
    refine Calls.mono H4.out ?_
    rintro e W4 ⟨rfl, b4⟩
    have B4 : Hid (Below w.heap.size w W4) := B3.out.trans (b4.mono B3.out.size)
    have hbx4 : W4.heap[w.heap.size + 1]? = some (.cells #[.int .i64 x0, .int .i64 x1, .int .i64 x2, .int .i64 x3] 25 (0, 0)) := by
      rw [b4.block _ (Array.getElem?_eq_some_iff.1 HX3.out).1]; exact HX3.out
    have hby4 : W4.heap[w.heap.size]? = some (.cells #[.int .i64 o, .int .i64 m, .slice a n cap] 24 (0, 0)) := by
      rw [b4.block _ (Array.getElem?_eq_some_iff.1 HY3.out).1]; exact HY3.out
    have HX4 : Hid _ := hbx4
    have HY4 : Hid _ := hby4
    clear b4 H4 hbx3 hby3
    go_wp2_with (first | (refine wpList_load_row rfl 24 _ rfl _ rfl 24 _ (0, 0) _ hby4 hu2 rfl (by kernel_rfl) ?_) | (refine wpList_load_row rfl 25 _ rfl _ rfl 25 _ (0, 0) _ hbx4 hu rfl (by kernel_rfl) ?_))
    go_wp2_with fail
    refine Calls.mono (H5.out _ B4.out) ?_
    rintro e W5 ⟨rfl, b5⟩
    have B5 : Hid (Below w.heap.size w W5) := B4.out.trans (b5.mono B4.out.size)
    clear b5 H5 hbx4 hby4
    rcases htg with rfl | rfl | rfl
    all_goals
      go_wp2_with fail
      refine Calls.mono (HH.out _ B5.out) ?_
      rintro e W9 ⟨rfl, b9⟩
      have B9 : Hid (Below w.heap.size w W9) := b9
      clear b9
      go_wp2
      go_ret
      exact ⟨rfl, B9.out⟩

end Go.Proofs.YteeanikildmmnaaDoor.EvalTotal
