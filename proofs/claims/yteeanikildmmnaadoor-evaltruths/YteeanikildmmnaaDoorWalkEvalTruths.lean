/-
  The walk of EvalTruths: the truth that any term is, or its fault, or what is wrong.
-/
import Derived.Test.YteeanikildmmnaaDoorTRefNumber
import Derived.Test.YteeanikildmmnaaDoorTLarge
import Derived.Test.YteeanikildmmnaaDoorTHalves
namespace Go.Proofs.YteeanikildmmnaaDoor.EvalTruths
open Go.RowKit

set_option maxHeartbeats 8000000 in
theorem walk (d : Nat) (T : Tm) (v : Value) (x0 x1 x2 x3 : Int) (w : World) (hT : Tm.Lies w w.heap.size d v T) (hO : Tk.Ops w) :
    Calls Tryd.prog 4 #[.agg #[.int .i64 T.op, .int .i64 T.num, v], .agg #[.int .i64 x0, .int .i64 x1, .int .i64 x2, .int .i64 x3]] w fun e w' => e = .returned (.bool true) ∧ Below w.heap.size w w' := by
  obtain ⟨a, cap, rfl⟩ := hT.shape
  obtain ⟨o, ho⟩ : ∃ o, T.op = o := ⟨_, rfl⟩
  obtain ⟨m, hm⟩ : ∃ m, T.num = m := ⟨_, rfl⟩
  obtain ⟨n, hn⟩ : ∃ n, T.ks.length = n := ⟨_, rfl⟩
  rw [ho, hm, hn]
  rw [hn] at hT
  obtain ⟨w0, hw0⟩ : ∃ w0, ((w.alloc (.cells #[.int .i64 o, .int .i64 m, .slice a n cap] 24)).alloc (.cells #[.int .i64 x0, .int .i64 x1, .int .i64 x2, .int .i64 x3] 25)).alloc (.cells #[.int .i64 3000] 29) = w0 := ⟨_, rfl⟩
  have A0 : Below w.heap.size w w0 := by rw [← hw0]; exact (((Below.refl _ w).alloc (Nat.le_refl _) _).alloc (by simp) _).alloc (by simp; omega) _
  have C0 : w0.heap[w.heap.size]? = some (.cells #[.int .i64 o, .int .i64 m, .slice a n cap] 24 (0, 0)) := by rw [← hw0, Below.heap_alloc _ _ _ (by simp; omega), Below.heap_alloc _ _ _ (by simp)]; exact heap_alloc_new w _
  have C1 : w0.heap[w.heap.size + 1]? = some (.cells #[.int .i64 x0, .int .i64 x1, .int .i64 x2, .int .i64 x3] 25 (0, 0)) := by
    rw [← hw0, Below.heap_alloc _ _ _ (by simp)]
    have := heap_alloc_new (w.alloc (.cells #[.int .i64 o, .int .i64 m, .slice a n cap] 24)) (.cells #[.int .i64 x0, .int .i64 x1, .int .i64 x2, .int .i64 x3] 25)
    simpa using this
  have R0 : Tk.Rm (w.heap.size + 2) (3000 : Nat) w0 := by
    rw [← hw0]
    have := heap_alloc_new ((w.alloc (.cells #[.int .i64 o, .int .i64 m, .slice a n cap] 24)).alloc (.cells #[.int .i64 x0, .int .i64 x1, .int .i64 x2, .int .i64 x3] 25)) (.cells #[.int .i64 3000] 29)
    simpa [Tk.Rm] using this
  have h1 := Tryd.large_any d T (.slice a n cap) 3000 (w.heap.size + 2) 1 w.heap.size w0 (hT.below A0) (by omega) A0.size R0 (by omega) (by omega)
  rw [ho, hm] at h1
  have H1 : Hid _ := h1
  have HT : Hid (Tm.Lies w w.heap.size d (.slice a n cap) T) := hT
  have HM : Hid (T.op = o ∧ T.num = m) := ⟨ho, hm⟩
  have HO : Hid (Tk.Ops w) := hO
  have HA : Hid (Below w.heap.size w w0) := A0
  have HC0 : Hid _ := C0
  have HC1 : Hid _ := C1
  have HW0 : Hid (((w.alloc (.cells #[.int .i64 o, .int .i64 m, .slice a n cap] 24)).alloc (.cells #[.int .i64 x0, .int .i64 x1, .int .i64 x2, .int .i64 x3] 25)).alloc (.cells #[.int .i64 3000] 29) = w0) := hw0
  have hu := Tryd.underlying25
  have hu2 := Tryd.underlying24
  have HH : Hid (∀ W, Below w.heap.size w W → Calls Tryd.prog 9 #[] W fun e w' => e = .returned (.bool true) ∧ Below w.heap.size w w') := fun W hW => (Tryd.halves_true W (HO.out.below hW HO.out.lt)).mono fun e w' ⟨he, hb⟩ => ⟨he, hW.trans (hb.mono hW.size)⟩
  clear hw0 h1 hT hO ho hm A0 C0 C1 hn R0
  go_enter Tryd.func4, Tryd.ntmps4
  go_wp2_with fail
  rw [HW0.out]
  refine Calls.mono H1.out ?_
  rintro e W1 ⟨b1, hcase⟩
  have S1 := b1.size
  have B1 : Hid (Below w.heap.size w W1) := HA.out.trans (b1.below HA.out.size (by intro k hk; show ¬ k = w.heap.size + 2; omega))
  have hbx : W1.heap[w.heap.size + 1]? = some (.cells #[.int .i64 x0, .int .i64 x1, .int .i64 x2, .int .i64 x3] 25 (0, 0)) := by
    rw [b1.block _ (Array.getElem?_eq_some_iff.1 HC1.out).1 (by show ¬ w.heap.size + 1 = w.heap.size + 2; omega)]; exact HC1.out
  have hby : W1.heap[w.heap.size]? = some (.cells #[.int .i64 o, .int .i64 m, .slice a n cap] 24 (0, 0)) := by
    rw [b1.block _ (Array.getElem?_eq_some_iff.1 HC0.out).1 (by show ¬ w.heap.size = w.heap.size + 2; omega)]; exact HC0.out
  rcases hcase with ⟨rfl, hsz, -⟩ | rfl
  rotate_left
  · clear b1 S1 H1 HW0 hbx hby
    go_wp2_with fail
    refine Calls.mono (HH.out _ B1.out) ?_
    rintro e W2 ⟨rfl, b2⟩
    have B2 : Hid (Below w.heap.size w W2) := b2
    clear b2
    go_wp2
    go_ret
    exact ⟨rfl, B2.out⟩
  have HSZ : Hid (T.size ≤ 2147483647) := by show _ ≤ _; omega
  have HT1 : Hid (∀ W, Below w.heap.size w W → Tm.Lies W W.heap.size d (.slice a n cap) T) := fun W hW => (HT.out.below hW).wider hW.size
  have HX : Hid (W1.heap[w.heap.size + 1]? = some (.cells #[.int .i64 x0, .int .i64 x1, .int .i64 x2, .int .i64 x3] 25 (0, 0))) := hbx
  have HY : Hid (W1.heap[w.heap.size]? = some (.cells #[.int .i64 o, .int .i64 m, .slice a n cap] 24 (0, 0))) := hby
  clear b1 S1 H1 HW0 hsz HT HA HC0 HC1
  obtain ⟨⟨n1, n2⟩, hq⟩ : ∃ q, T.truR x0 x1 x2 x3 = q := ⟨_, rfl⟩
  have h2 := Tryd.truthW_any d T (.slice a n cap) x0 x1 x2 x3 W1 (HT1.out W1 B1.out) (HO.out.below B1.out HO.out.lt) HSZ.out
  have h3 := fun W (hW : Below w.heap.size w W) => Tryd.refTruth4_any d T (.slice a n cap) x0 x1 x2 x3 W (HT1.out W hW) HSZ.out
  rw [HM.out.1, HM.out.2, hq] at h2 h3
  have H2 : Hid _ := h2
  have H3 : Hid _ := h3
  clear h2 h3 hq
  go_wp2_with (first | (refine wpList_load_row rfl 24 _ rfl _ rfl 24 _ (0, 0) _ hby hu2 rfl (by kernel_rfl) ?_) | (refine wpList_load_row rfl 25 _ rfl _ rfl 25 _ (0, 0) _ hbx hu rfl (by kernel_rfl) ?_))
  go_wp2_with fail
  refine Calls.mono H2.out ?_
  rintro e W2 ⟨rfl, b2⟩
  have B2 : Hid (Below w.heap.size w W2) := B1.out.trans (b2.mono B1.out.size)
  have hbx2 : W2.heap[w.heap.size + 1]? = some (.cells #[.int .i64 x0, .int .i64 x1, .int .i64 x2, .int .i64 x3] 25 (0, 0)) := by
    rw [b2.block _ (Array.getElem?_eq_some_iff.1 HX.out).1]; exact HX.out
  have hby2 : W2.heap[w.heap.size]? = some (.cells #[.int .i64 o, .int .i64 m, .slice a n cap] 24 (0, 0)) := by
    rw [b2.block _ (Array.getElem?_eq_some_iff.1 HY.out).1]; exact HY.out
  have HX2 : Hid _ := hbx2
  have HY2 : Hid _ := hby2
  clear b2 H2 hbx hby
  go_wp2_with (first | (refine wpList_load_row rfl 24 _ rfl _ rfl 24 _ (0, 0) _ hby2 hu2 rfl (by kernel_rfl) ?_) | (refine wpList_load_row rfl 25 _ rfl _ rfl 25 _ (0, 0) _ hbx2 hu rfl (by kernel_rfl) ?_))
  go_wp2_with fail
  refine Calls.mono (H3.out _ B2.out) ?_
  rintro e W3 ⟨rfl, b3⟩
  have B3 : Hid (Below w.heap.size w W3) := B2.out.trans (b3.mono B2.out.size)
  clear b3 H3 hbx2 hby2
  go_wp2_with fail
  refine Calls.mono (HH.out _ B3.out) ?_
  rintro e W9 ⟨rfl, b9⟩
  have B9 : Hid (Below w.heap.size w W9) := b9
  clear b9
  go_wp2
  go_ret
  exact ⟨rfl, B9.out⟩

end Go.Proofs.YteeanikildmmnaaDoor.EvalTruths
