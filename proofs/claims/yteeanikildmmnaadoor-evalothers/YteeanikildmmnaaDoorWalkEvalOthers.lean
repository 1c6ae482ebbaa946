/-
  The walk of EvalOthers: variables that do not stand in a term say nothing.
-/
import Derived.Test.YteeanikildmmnaaDoorTRefHas
import Derived.Test.YteeanikildmmnaaDoorTLarge
import Derived.Test.YteeanikildmmnaaDoorTHalves
namespace Go.Proofs.YteeanikildmmnaaDoor.EvalOthers
open Go.RowKit

set_option maxHeartbeats 8000000 in
theorem walk (d : Nat) (T : Tm) (v : Value) (x0 x1 x2 x3 s0 s1 : Int) (w : World) (hT : Tm.Lies w w.heap.size d v T) (hO : Tk.Ops w) :
    Calls Tryd.prog 7 #[.agg #[.int .i64 T.op, .int .i64 T.num, v], .agg #[.int .i64 x0, .int .i64 x1, .int .i64 x2, .int .i64 x3], .agg #[.int .i64 s0, .int .i64 s1]] w fun e w' => e = .returned (.bool true) ∧ Below w.heap.size w w' := by
  obtain ⟨a, cap, rfl⟩ := hT.shape
  obtain ⟨o, ho⟩ : ∃ o, T.op = o := ⟨_, rfl⟩
  obtain ⟨m, hm⟩ : ∃ m, T.num = m := ⟨_, rfl⟩
  obtain ⟨n, hn⟩ : ∃ n, T.ks.length = n := ⟨_, rfl⟩
  rw [ho, hm, hn]
  rw [hn] at hT
  obtain ⟨w0, hw0⟩ : ∃ w0, (((w.alloc (.cells #[.int .i64 o, .int .i64 m, .slice a n cap] 24)).alloc (.cells #[.int .i64 x0, .int .i64 x1, .int .i64 x2, .int .i64 x3] 25)).alloc (.cells #[.int .i64 s0, .int .i64 s1] 48)).alloc (.cells #[.int .i64 2000] 29) = w0 := ⟨_, rfl⟩
  have A0 : Below w.heap.size w w0 := by rw [← hw0]; exact ((((Below.refl _ w).alloc (Nat.le_refl _) _).alloc (by simp) _).alloc (by simp; omega) _).alloc (by simp; omega) _
  have C0 : w0.heap[w.heap.size]? = some (.cells #[.int .i64 o, .int .i64 m, .slice a n cap] 24 (0, 0)) := by rw [← hw0, Below.heap_alloc _ _ _ (by simp; omega), Below.heap_alloc _ _ _ (by simp; omega), Below.heap_alloc _ _ _ (by simp)]; exact heap_alloc_new w _
  have C1 : w0.heap[w.heap.size + 1]? = some (.cells #[.int .i64 x0, .int .i64 x1, .int .i64 x2, .int .i64 x3] 25 (0, 0)) := by
    rw [← hw0, Below.heap_alloc _ _ _ (by simp), Below.heap_alloc _ _ _ (by simp)]
    have := heap_alloc_new (w.alloc (.cells #[.int .i64 o, .int .i64 m, .slice a n cap] 24)) (.cells #[.int .i64 x0, .int .i64 x1, .int .i64 x2, .int .i64 x3] 25)
    simpa using this
  have C2 : w0.heap[w.heap.size + 2]? = some (.cells #[.int .i64 s0, .int .i64 s1] 48 (0, 0)) := by
    rw [← hw0, Below.heap_alloc _ _ _ (by simp)]
    have := heap_alloc_new ((w.alloc (.cells #[.int .i64 o, .int .i64 m, .slice a n cap] 24)).alloc (.cells #[.int .i64 x0, .int .i64 x1, .int .i64 x2, .int .i64 x3] 25)) (.cells #[.int .i64 s0, .int .i64 s1] 48)
    simpa using this
  have R0 : Tk.Rm (w.heap.size + 3) (2000 : Nat) w0 := by
    rw [← hw0]
    have := heap_alloc_new (((w.alloc (.cells #[.int .i64 o, .int .i64 m, .slice a n cap] 24)).alloc (.cells #[.int .i64 x0, .int .i64 x1, .int .i64 x2, .int .i64 x3] 25)).alloc (.cells #[.int .i64 s0, .int .i64 s1] 48)) (.cells #[.int .i64 2000] 29)
    simpa [Tk.Rm] using this
  have h1 := Tryd.large_any d T (.slice a n cap) 2000 (w.heap.size + 3) 1 w.heap.size w0 (hT.below A0) (by omega) A0.size R0 (by omega) (by omega)
  rw [ho, hm] at h1
  have H1 : Hid _ := h1
  have HT : Hid (Tm.Lies w w.heap.size d (.slice a n cap) T) := hT
  have HM : Hid (T.op = o ∧ T.num = m) := ⟨ho, hm⟩
  have HO : Hid (Tk.Ops w) := hO
  have HA : Hid (Below w.heap.size w w0) := A0
  have HC0 : Hid _ := C0
  have HC1 : Hid _ := C1
  have HC2 : Hid _ := C2
  have HW0 : Hid ((((w.alloc (.cells #[.int .i64 o, .int .i64 m, .slice a n cap] 24)).alloc (.cells #[.int .i64 x0, .int .i64 x1, .int .i64 x2, .int .i64 x3] 25)).alloc (.cells #[.int .i64 s0, .int .i64 s1] 48)).alloc (.cells #[.int .i64 2000] 29) = w0) := hw0
  have hu := Tryd.underlying25
  have hu2 := Tryd.underlying24
  have HH : Hid (∀ W, Below w.heap.size w W → Calls Tryd.prog 9 #[] W fun e w' => e = .returned (.bool true) ∧ Below w.heap.size w w') := fun W hW => (Tryd.halves_true W (HO.out.below hW HO.out.lt)).mono fun e w' ⟨he, hb⟩ => ⟨he, hW.trans (hb.mono hW.size)⟩
  clear hw0 h1 hT hO ho hm A0 C0 C1 C2 hn R0
  go_enter Tryd.func7, Tryd.ntmps7
  go_wp2_with fail
  rw [HW0.out]
  refine Calls.mono H1.out ?_
  rintro e W1 ⟨b1, hcase⟩
  have S1 := b1.size
  have B1 : Hid (Below w.heap.size w W1) := HA.out.trans (b1.below HA.out.size (by intro k hk; show ¬ k = w.heap.size + 3; omega))
  have HX1 : Hid (W1.heap[w.heap.size + 1]? = some (.cells #[.int .i64 x0, .int .i64 x1, .int .i64 x2, .int .i64 x3] 25 (0, 0))) := by
    show _ = _
    rw [b1.block _ (Array.getElem?_eq_some_iff.1 HC1.out).1 (by show ¬ w.heap.size + 1 = w.heap.size + 3; omega)]; exact HC1.out
  have HY1 : Hid (W1.heap[w.heap.size]? = some (.cells #[.int .i64 o, .int .i64 m, .slice a n cap] 24 (0, 0))) := by
    show _ = _
    rw [b1.block _ (Array.getElem?_eq_some_iff.1 HC0.out).1 (by show ¬ w.heap.size = w.heap.size + 3; omega)]; exact HC0.out
  have HZ1 : Hid (W1.heap[w.heap.size + 2]? = some (.cells #[.int .i64 s0, .int .i64 s1] 48 (0, 0))) := by
    show _ = _
    rw [b1.block _ (Array.getElem?_eq_some_iff.1 HC2.out).1 (by show ¬ w.heap.size + 2 = w.heap.size + 3; omega)]; exact HC2.out
  rcases hcase with ⟨rfl, hsz, -⟩ | rfl
  rotate_left
  · clear b1 S1 H1 HW0 HX1 HY1 HZ1
    go_wp2_with fail
    refine Calls.mono (HH.out _ B1.out) ?_
    rintro e W9 ⟨rfl, b9⟩
    have B9 : Hid (Below w.heap.size w W9) := b9
    clear b9
    go_wp2
    go_ret
    exact ⟨rfl, B9.out⟩
  have HSZ : Hid (T.size ≤ 2147483647) := by show _ ≤ _; omega
  have HT1 : Hid (∀ W, Below w.heap.size w W → Tm.Lies W W.heap.size d (.slice a n cap) T) := fun W hW => (HT.out.below hW).wider hW.size
  have t0 : W1.cell? ⟨w.heap.size, 0, none⟩ = some (.int .i64 o) := by have := HY1.out; simp [World.cell?, this]
  have t1 : W1.cell? ⟨w.heap.size, 1, none⟩ = some (.int .i64 m) := by have := HY1.out; simp [World.cell?, this]
  have t2 : W1.cell? ⟨w.heap.size, 2, none⟩ = some (.slice a n cap) := by have := HY1.out; simp [World.cell?, this]
  have z0 : W1.cell? ⟨w.heap.size + 2, 0, none⟩ = some (.int .i64 s0) := by have := HZ1.out; simp [World.cell?, this]
  have z1 : W1.cell? ⟨w.heap.size + 2, 1, none⟩ = some (.int .i64 s1) := by have := HZ1.out; simp [World.cell?, this]
  clear b1 S1 H1 HW0 hsz HT HA HC0 HC1 HC2
  by_cases hs0 : s0 < 0
  · have e1 : decide (s0 < 0) = true := decide_eq_true hs0
    clear hs0
    go_wp2_with fail
    refine Calls.mono (HH.out _ B1.out) ?_
    rintro e W9 ⟨rfl, b9⟩
    have B9 : Hid (Below w.heap.size w W9) := b9
    clear b9
    go_wp2
    go_ret
    exact ⟨rfl, B9.out⟩
  by_cases hs3 : 3 < s0
  · have e1 : decide (s0 < 0) = false := decide_eq_false hs0
    have e2 : decide (3 < s0) = true := decide_eq_true hs3
    clear hs0 hs3
    go_wp2_with fail
    refine Calls.mono (HH.out _ B1.out) ?_
    rintro e W9 ⟨rfl, b9⟩
    have B9 : Hid (Below w.heap.size w W9) := b9
    clear b9
    go_wp2
    go_ret
    exact ⟨rfl, B9.out⟩
  have e1 : decide (s0 < 0) = false := decide_eq_false hs0
  have e2 : decide (3 < s0) = false := decide_eq_false hs3
  have h2 := Tryd.refHas_any s0 d T (.slice a n cap) W1 (HT1.out W1 B1.out) HSZ.out
  obtain ⟨hb, hhb⟩ : ∃ q, T.has s0 = q := ⟨_, rfl⟩
  rw [HM.out.1, HM.out.2, hhb] at h2
  have HHB : Hid (T.has s0 = hb) := hhb
  have H2 : Hid _ := h2
  have HS : Hid (0 ≤ s0 ∧ s0 ≤ 3) := by show _ ∧ _; omega
  clear h2 hhb hs0 hs3
  go_wp2_with fail
  refine Calls.mono H2.out ?_
  rintro e W2 ⟨rfl, b2⟩
  have B2 : Hid (Below w.heap.size w W2) := B1.out.trans (b2.mono B1.out.size)
  have HX2 : Hid (W2.heap[w.heap.size + 1]? = some (.cells #[.int .i64 x0, .int .i64 x1, .int .i64 x2, .int .i64 x3] 25 (0, 0))) := by show _ = _; rw [b2.block _ (Array.getElem?_eq_some_iff.1 HX1.out).1]; exact HX1.out
  have HY2 : Hid (W2.heap[w.heap.size]? = some (.cells #[.int .i64 o, .int .i64 m, .slice a n cap] 24 (0, 0))) := by show _ = _; rw [b2.block _ (Array.getElem?_eq_some_iff.1 HY1.out).1]; exact HY1.out
  have HZ2 : Hid (W2.heap[w.heap.size + 2]? = some (.cells #[.int .i64 s0, .int .i64 s1] 48 (0, 0))) := by show _ = _; rw [b2.block _ (Array.getElem?_eq_some_iff.1 HZ1.out).1]; exact HZ1.out
  clear b2 H2 t0 t1 t2 z0 z1 HX1 HY1 HZ1
  cases hb
  rotate_left
  · go_wp2_with fail
    refine Calls.mono (HH.out _ B2.out) ?_
    rintro e W9 ⟨rfl, b9⟩
    have B9 : Hid (Below w.heap.size w W9) := b9
    clear b9
    go_wp2
    go_ret
    exact ⟨rfl, B9.out⟩
  have h3 := Tryd.set_any x0 x1 x2 x3 s0 s1 W2
  obtain ⟨y0, hy0⟩ : ∃ y, Tk.setY 0 x0 s0 s1 = y := ⟨_, rfl⟩
  obtain ⟨y1, hy1⟩ : ∃ y, Tk.setY 1 x1 s0 s1 = y := ⟨_, rfl⟩
  obtain ⟨y2, hy2⟩ : ∃ y, Tk.setY 2 x2 s0 s1 = y := ⟨_, rfl⟩
  obtain ⟨y3, hy3⟩ : ∃ y, Tk.setY 3 x3 s0 s1 = y := ⟨_, rfl⟩
  obtain ⟨se, hse⟩ : ∃ y, Tk.setE s0 s1 = y := ⟨_, rfl⟩
  rw [hy0, hy1, hy2, hy3, hse] at h3
  have H3 : Hid _ := h3
  have HE : Hid (Tk.setY 0 x0 s0 s1 = y0 ∧ Tk.setY 1 x1 s0 s1 = y1 ∧ Tk.setY 2 x2 s0 s1 = y2 ∧ Tk.setY 3 x3 s0 s1 = y3 ∧ Tk.setE s0 s1 = se) := ⟨hy0, hy1, hy2, hy3, hse⟩
  have hbx := HX2.out
  have z0 : W2.cell? ⟨w.heap.size + 2, 0, none⟩ = some (.int .i64 s0) := by have := HZ2.out; simp [World.cell?, this]
  have z1 : W2.cell? ⟨w.heap.size + 2, 1, none⟩ = some (.int .i64 s1) := by have := HZ2.out; simp [World.cell?, this]
  clear h3 hy0 hy1 hy2 hy3 hse
  go_wp2_with (refine wpList_load_row rfl 25 _ rfl _ rfl 25 _ (0, 0) _ hbx hu rfl (by kernel_rfl) ?_)
  go_wp2_with fail
  refine Calls.mono H3.out ?_
  rintro e W3 ⟨rfl, b3⟩
  obtain ⟨W4, hW4⟩ : ∃ x, W3.alloc (.cells #[.int .i64 y0, .int .i64 y1, .int .i64 y2, .int .i64 y3] 25) = x := ⟨_, rfl⟩
  have B3 : Hid (Below w.heap.size w W3) := B2.out.trans (b3.mono B2.out.size)
  have B4 : Hid (Below w.heap.size w W4) := by show Below _ _ _; rw [← hW4]; exact B3.out.alloc B3.out.size _
  have HX4 : Hid (W4.heap[w.heap.size + 1]? = some (.cells #[.int .i64 x0, .int .i64 x1, .int .i64 x2, .int .i64 x3] 25 (0, 0))) := by show _ = _; rw [← hW4, Below.heap_alloc _ _ _ (by have := b3.size; have := (Array.getElem?_eq_some_iff.1 HX2.out).1; omega), b3.block _ (Array.getElem?_eq_some_iff.1 HX2.out).1]; exact HX2.out
  have HY4 : Hid (W4.heap[w.heap.size]? = some (.cells #[.int .i64 o, .int .i64 m, .slice a n cap] 24 (0, 0))) := by show _ = _; rw [← hW4, Below.heap_alloc _ _ _ (by have := b3.size; have := (Array.getElem?_eq_some_iff.1 HY2.out).1; omega), b3.block _ (Array.getElem?_eq_some_iff.1 HY2.out).1]; exact HY2.out
  have HQ4 : Hid (W4.heap[W3.heap.size]? = some (.cells #[.int .i64 y0, .int .i64 y1, .int .i64 y2, .int .i64 y3] 25 (0, 0))) := by show _ = _; rw [← hW4]; exact heap_alloc_new W3 _
  have x0' : (W3.alloc (.cells #[.int .i64 y0, .int .i64 y1, .int .i64 y2, .int .i64 y3] 25)).cell? ⟨w.heap.size + 1, 0, none⟩ = some (.int .i64 x0) := by rw [hW4]; have := HX4.out; simp [World.cell?, this]
  have x1' : (W3.alloc (.cells #[.int .i64 y0, .int .i64 y1, .int .i64 y2, .int .i64 y3] 25)).cell? ⟨w.heap.size + 1, 1, none⟩ = some (.int .i64 x1) := by rw [hW4]; have := HX4.out; simp [World.cell?, this]
  have x2' : (W3.alloc (.cells #[.int .i64 y0, .int .i64 y1, .int .i64 y2, .int .i64 y3] 25)).cell? ⟨w.heap.size + 1, 2, none⟩ = some (.int .i64 x2) := by rw [hW4]; have := HX4.out; simp [World.cell?, this]
  have x3' : (W3.alloc (.cells #[.int .i64 y0, .int .i64 y1, .int .i64 y2, .int .i64 y3] 25)).cell? ⟨w.heap.size + 1, 3, none⟩ = some (.int .i64 x3) := by rw [hW4]; have := HX4.out; simp [World.cell?, this]
  have HW4 : Hid (W3.alloc (.cells #[.int .i64 y0, .int .i64 y1, .int .i64 y2, .int .i64 y3] 25) = W4) := hW4
  clear b3 H3 hW4 hbx z0 z1 HX2 HY2 HZ2 e1 e2
  by_cases he : se = 0
  rotate_left
  · have hne : (se != 0) = true := by simpa using he
    clear he x0' x1' x2' x3'
    go_wp2_with fail
    rw [HW4.out]
    refine Calls.mono (HH.out _ B4.out) ?_
    rintro e W9 ⟨rfl, b9⟩
    have B9 : Hid (Below w.heap.size w W9) := b9
    clear b9
    go_wp2
    go_ret
    exact ⟨rfl, B9.out⟩
  subst he
  obtain ⟨fb, hfb⟩ : ∃ f, Tk.fitsB x0 x1 x2 x3 = f := ⟨_, rfl⟩
  have h5 := Tryd.fits_any x0 x1 x2 x3 W4
  rw [hfb] at h5
  have HF : Hid (Tk.fitsB x0 x1 x2 x3 = fb) := hfb
  have H5 : Hid _ := h5
  clear h5 hfb
  go_wp2_with fail
  rw [HW4.out]
  refine Calls.mono H5.out ?_
  rintro e W5 ⟨rfl, b5⟩
  have B5 : Hid (Below w.heap.size w W5) := B4.out.trans (b5.mono B4.out.size)
  have HK : Hid (∀ W, Below W5.heap.size W5 W → W.heap[w.heap.size + 1]? = some (.cells #[.int .i64 x0, .int .i64 x1, .int .i64 x2, .int .i64 x3] 25 (0, 0)) ∧ W.heap[w.heap.size]? = some (.cells #[.int .i64 o, .int .i64 m, .slice a n cap] 24 (0, 0)) ∧ W.heap[W3.heap.size]? = some (.cells #[.int .i64 y0, .int .i64 y1, .int .i64 y2, .int .i64 y3] 25 (0, 0)) ∧ Below w.heap.size w W) := by
    intro W hW
    have q1 := (Array.getElem?_eq_some_iff.1 HX4.out).1
    have q2 := (Array.getElem?_eq_some_iff.1 HY4.out).1
    have q3 := (Array.getElem?_eq_some_iff.1 HQ4.out).1
    have q4 := b5.size
    refine ⟨?_, ?_, ?_, B5.out.trans (hW.mono B5.out.size)⟩
    · rw [hW.block _ (by omega), b5.block _ q1]; exact HX4.out
    · rw [hW.block _ (by omega), b5.block _ q2]; exact HY4.out
    · rw [hW.block _ (by omega), b5.block _ q3]; exact HQ4.out
  clear b5 H5 x0' x1' x2' x3' HW4
  cases fb
  · go_wp2_with fail
    refine Calls.mono (HH.out _ B5.out) ?_
    rintro e W9 ⟨rfl, b9⟩
    have B9 : Hid (Below w.heap.size w W9) := b9
    clear b9
    go_wp2
    go_ret
    exact ⟨rfl, B9.out⟩
  have hset := HE.out
  have hN1 : ∀ W, Below w.heap.size w W → _ := fun W hW => Tryd.numberW_any d T (.slice a n cap) x0 x1 x2 x3 W (HT1.out W hW) (HO.out.below hW HO.out.lt) HSZ.out
  have hN2 : ∀ W, Below w.heap.size w W → _ := fun W hW => Tryd.numberW_any d T (.slice a n cap) y0 y1 y2 y3 W (HT1.out W hW) (HO.out.below hW HO.out.lt) HSZ.out
  have hT1 : ∀ W, Below w.heap.size w W → _ := fun W hW => Tryd.truthW_any d T (.slice a n cap) x0 x1 x2 x3 W (HT1.out W hW) (HO.out.below hW HO.out.lt) HSZ.out
  have hT2 : ∀ W, Below w.heap.size w W → _ := fun W hW => Tryd.truthW_any d T (.slice a n cap) y0 y1 y2 y3 W (HT1.out W hW) (HO.out.below hW HO.out.lt) HSZ.out
  have eqn : T.numR x0 x1 x2 x3 = T.numR y0 y1 y2 y3 := by
    obtain ⟨g0, g1, g2, g3, g4⟩ := hset
    subst g0 g1 g2 g3
    exact Tm.numR_other HF.out (Tk.set_fits g4 HF.out) (Tk.set_vget g4) HHB.out
  have eqt : T.truR x0 x1 x2 x3 = T.truR y0 y1 y2 y3 := by
    obtain ⟨g0, g1, g2, g3, g4⟩ := hset
    subst g0 g1 g2 g3
    exact Tm.truR_other HF.out (Tk.set_fits g4 HF.out) (Tk.set_vget g4) HHB.out
  rw [HM.out.1, HM.out.2] at hN1 hN2 hT1 hT2
  rw [← eqn] at hN2
  rw [← eqt] at hT2
  obtain ⟨⟨n1, n2⟩, hn⟩ : ∃ q, T.numR x0 x1 x2 x3 = q := ⟨_, rfl⟩
  obtain ⟨⟨r1, r2⟩, hr⟩ : ∃ q, T.truR x0 x1 x2 x3 = q := ⟨_, rfl⟩
  rw [hn] at hN1 hN2
  rw [hr] at hT1 hT2
  have N1 : Hid _ := hN1
  have N2 : Hid _ := hN2
  have T1 : Hid _ := hT1
  have T2 : Hid _ := hT2
  clear hset hN1 hN2 hT1 hT2 eqn eqt hn hr
  obtain ⟨hx, ht, hy, hw⟩ := HK.out W5 (Below.refl _ W5)
  go_wp2_with (first | (refine wpList_load_row rfl 24 _ rfl _ rfl 24 _ (0, 0) _ ht hu2 rfl (by kernel_rfl) ?_) | (refine wpList_load_row rfl 25 _ rfl _ rfl 25 _ (0, 0) _ hx hu rfl (by kernel_rfl) ?_))
  go_wp2_with fail
  refine Calls.mono (N1.out _ hw) ?_
  rintro e W6 ⟨rfl, b6⟩
  have D6 : Hid (Below W5.heap.size W5 W6) := b6
  clear b6 hx ht hy hw
  obtain ⟨hx, ht, hy, hw⟩ := HK.out W6 D6.out
  go_wp2_with (first | (refine wpList_load_row rfl 24 _ rfl _ rfl 24 _ (0, 0) _ ht hu2 rfl (by kernel_rfl) ?_) | (refine wpList_load_row rfl 25 _ rfl _ rfl 25 _ (0, 0) _ hy hu rfl (by kernel_rfl) ?_))
  go_wp2_with fail
  refine Calls.mono (N2.out _ hw) ?_
  rintro e W7 ⟨rfl, b7⟩
  have D7 : Hid (Below W5.heap.size W5 W7) := D6.out.trans (b7.mono D6.out.size)
  clear b7 hx ht hy hw
  obtain ⟨hx, ht, hy, hw⟩ := HK.out W7 D7.out
  go_wp2_with (first | (refine wpList_load_row rfl 24 _ rfl _ rfl 24 _ (0, 0) _ ht hu2 rfl (by kernel_rfl) ?_) | (refine wpList_load_row rfl 25 _ rfl _ rfl 25 _ (0, 0) _ hx hu rfl (by kernel_rfl) ?_))
  go_wp2_with fail
  refine Calls.mono (T1.out _ hw) ?_
  rintro e W8 ⟨rfl, b8⟩
  have D8 : Hid (Below W5.heap.size W5 W8) := D7.out.trans (b8.mono D7.out.size)
  clear b8 hx ht hy hw
  obtain ⟨hx, ht, hy, hw⟩ := HK.out W8 D8.out
  go_wp2_with (first | (refine wpList_load_row rfl 24 _ rfl _ rfl 24 _ (0, 0) _ ht hu2 rfl (by kernel_rfl) ?_) | (refine wpList_load_row rfl 25 _ rfl _ rfl 25 _ (0, 0) _ hy hu rfl (by kernel_rfl) ?_))
  go_wp2_with fail
  refine Calls.mono (T2.out _ hw) ?_
  rintro e W9 ⟨rfl, b9⟩
  have D9 : Hid (Below W5.heap.size W5 W9) := D8.out.trans (b9.mono D8.out.size)
  clear b9 hx ht hy hw
  obtain ⟨_, _, _, hw⟩ := HK.out W9 D9.out
  have B9' : Hid (Below w.heap.size w W9) := hw
  clear hw
  go_wp2_with fail
  refine Calls.mono (HH.out _ B9'.out) ?_
  rintro e W10 ⟨rfl, b10⟩
  have B10 : Hid (Below w.heap.size w W10) := b10
  clear b10
  go_wp2
  go_ret
  exact ⟨rfl, B10.out⟩

end Go.Proofs.YteeanikildmmnaaDoor.EvalOthers
