/-
  The walk of EvalSets: of all values and every change, Set and Fits answer as the document's do.
-/
import Derived.Test.YtcnohonajgeglabDoorTArrEq
namespace Go.Proofs.YtcnohonajgeglabDoor.EvalSets
open Go.RowKit

set_option maxHeartbeats 8000000 in
theorem walk (x0 x1 x2 x3 v n : Int) (w : World) (hO : Tk.Ops w) :
    Calls Tryd.prog 4 #[.agg #[.int .i64 x0, .int .i64 x1, .int .i64 x2, .int .i64 x3], .int .i64 v, .int .i64 n] w fun e w' => e = .returned (.bool true) ∧ Below w.heap.size w w' := by
  have hu := Tryd.underlying25
  have HO : Hid (Tk.Ops w) := hO
  obtain ⟨w0, hw0⟩ : ∃ x, w.alloc (.cells #[.int .i64 x0, .int .i64 x1, .int .i64 x2, .int .i64 x3] 25) = x := ⟨_, rfl⟩
  have B0 : Hid (Below w.heap.size w w0) := by show Below _ _ _; rw [← hw0]; exact (Below.refl _ w).alloc (Nat.le_refl _) _
  have C0 : Hid (w0.heap[w.heap.size]? = some (.cells #[.int .i64 x0, .int .i64 x1, .int .i64 x2, .int .i64 x3] 25 (0, 0))) := by show _ = _; rw [← hw0]; exact heap_alloc_new w _
  have HW0 : Hid (w.alloc (.cells #[.int .i64 x0, .int .i64 x1, .int .i64 x2, .int .i64 x3] 25) = w0) := hw0
  have hS := fun W => Tryd.set_any x0 x1 x2 x3 v n W
  have hR := fun W => Tryd.refSet_any x0 x1 x2 x3 v n W
  obtain ⟨y0, hy0⟩ : ∃ y, Tk.setY 0 x0 v n = y := ⟨_, rfl⟩
  obtain ⟨y1, hy1⟩ : ∃ y, Tk.setY 1 x1 v n = y := ⟨_, rfl⟩
  obtain ⟨y2, hy2⟩ : ∃ y, Tk.setY 2 x2 v n = y := ⟨_, rfl⟩
  obtain ⟨y3, hy3⟩ : ∃ y, Tk.setY 3 x3 v n = y := ⟨_, rfl⟩
  obtain ⟨se, hse⟩ : ∃ y, Tk.setE v n = y := ⟨_, rfl⟩
  rw [hy0, hy1, hy2, hy3, hse] at hS hR
  have HS : Hid _ := hS
  have HR : Hid _ := hR
  clear hw0 hS hR hy0 hy1 hy2 hy3 hse hO
  go_enter Tryd.func4, Tryd.ntmps4
  go_wp2_with fail
  rw [HW0.out]
  refine Calls.mono (HS.out _) ?_
  rintro e W1 ⟨rfl, b1⟩
  have B1 : Hid (Below w.heap.size w W1) := B0.out.trans (b1.mono B0.out.size)
  have C1 : W1.heap[w.heap.size]? = some (.cells #[.int .i64 x0, .int .i64 x1, .int .i64 x2, .int .i64 x3] 25 (0, 0)) := by rw [b1.block _ (Array.getElem?_eq_some_iff.1 C0.out).1]; exact C0.out
  have C1' : (W1.alloc (.cells #[.int .i64 y0, .int .i64 y1, .int .i64 y2, .int .i64 y3] 25)).heap[w.heap.size]? = some (.cells #[.int .i64 x0, .int .i64 x1, .int .i64 x2, .int .i64 x3] 25 (0, 0)) := by rw [Below.heap_alloc _ _ _ (Array.getElem?_eq_some_iff.1 C1).1]; exact C1
  have B1a : Hid (Below w.heap.size w (W1.alloc (.cells #[.int .i64 y0, .int .i64 y1, .int .i64 y2, .int .i64 y3] 25))) := B1.out.alloc B1.out.size _
  have D1 : Hid ((W1.alloc (.cells #[.int .i64 y0, .int .i64 y1, .int .i64 y2, .int .i64 y3] 25)).heap[W1.heap.size]? = some (.cells #[.int .i64 y0, .int .i64 y1, .int .i64 y2, .int .i64 y3] 25 (0, 0))) := heap_alloc_new W1 _
  have HC1 : Hid _ := C1'
  clear b1 C1 HW0
  go_wp2_with (refine wpList_load_row rfl 25 _ rfl _ rfl 25 _ (0, 0) _ C1' hu rfl (by kernel_rfl) ?_)
  go_wp2_with fail
  refine Calls.mono (HR.out _) ?_
  rintro e W2 ⟨rfl, b2⟩
  have B2 : Hid (Below w.heap.size w W2) := B1a.out.trans (b2.mono B1a.out.size)
  have C2 : W2.heap[w.heap.size]? = some (.cells #[.int .i64 x0, .int .i64 x1, .int .i64 x2, .int .i64 x3] 25 (0, 0)) := by rw [b2.block _ (Array.getElem?_eq_some_iff.1 HC1.out).1]; exact HC1.out
  have D2 : W2.heap[W1.heap.size]? = some (.cells #[.int .i64 y0, .int .i64 y1, .int .i64 y2, .int .i64 y3] 25 (0, 0)) := by rw [b2.block _ (Array.getElem?_eq_some_iff.1 D1.out).1]; exact D1.out
  obtain ⟨W3, hW3⟩ : ∃ x, W2.alloc (.cells #[.int .i64 y0, .int .i64 y1, .int .i64 y2, .int .i64 y3] 25) = x := ⟨_, rfl⟩
  have B3 : Hid (Below w.heap.size w W3) := by show Below _ _ _; rw [← hW3]; exact B2.out.alloc B2.out.size _
  have C3 : W3.heap[w.heap.size]? = some (.cells #[.int .i64 x0, .int .i64 x1, .int .i64 x2, .int .i64 x3] 25 (0, 0)) := by rw [← hW3, Below.heap_alloc _ _ _ (Array.getElem?_eq_some_iff.1 C2).1]; exact C2
  have D3 : W3.heap[W1.heap.size]? = some (.cells #[.int .i64 y0, .int .i64 y1, .int .i64 y2, .int .i64 y3] 25 (0, 0)) := by rw [← hW3, Below.heap_alloc _ _ _ (Array.getElem?_eq_some_iff.1 D2).1]; exact D2
  have E3 : W3.heap[W2.heap.size]? = some (.cells #[.int .i64 y0, .int .i64 y1, .int .i64 y2, .int .i64 y3] 25 (0, 0)) := by rw [← hW3]; exact heap_alloc_new W2 _
  have HC3 : Hid _ := C3
  have HW3 : Hid (W2.alloc (.cells #[.int .i64 y0, .int .i64 y1, .int .i64 y2, .int .i64 y3] 25) = W3) := hW3
  have k0 : ∀ W : World, W.heap[w.heap.size]? = some (.cells #[.int .i64 x0, .int .i64 x1, .int .i64 x2, .int .i64 x3] 25 (0, 0)) → W.cell? ⟨w.heap.size, 0, none⟩ = some (.int .i64 x0) ∧ W.cell? ⟨w.heap.size, 1, none⟩ = some (.int .i64 x1) ∧ W.cell? ⟨w.heap.size, 2, none⟩ = some (.int .i64 x2) ∧ W.cell? ⟨w.heap.size, 3, none⟩ = some (.int .i64 x3) := fun W h => by simp [World.cell?, h]
  have K : Hid _ := k0
  obtain ⟨m0, m1, m2, m3⟩ := k0 W3 C3
  have p0 : W3.cell? ⟨W1.heap.size, 0, none⟩ = some (.int .i64 y0) := by simp [World.cell?, D3]
  have p1 : W3.cell? ⟨W1.heap.size, 1, none⟩ = some (.int .i64 y1) := by simp [World.cell?, D3]
  have p2 : W3.cell? ⟨W1.heap.size, 2, none⟩ = some (.int .i64 y2) := by simp [World.cell?, D3]
  have p3 : W3.cell? ⟨W1.heap.size, 3, none⟩ = some (.int .i64 y3) := by simp [World.cell?, D3]
  have q0 : W3.cell? ⟨W2.heap.size, 0, none⟩ = some (.int .i64 y0) := by simp [World.cell?, E3]
  have q1 : W3.cell? ⟨W2.heap.size, 1, none⟩ = some (.int .i64 y1) := by simp [World.cell?, E3]
  have q2 : W3.cell? ⟨W2.heap.size, 2, none⟩ = some (.int .i64 y2) := by simp [World.cell?, E3]
  have q3 : W3.cell? ⟨W2.heap.size, 3, none⟩ = some (.int .i64 y3) := by simp [World.cell?, E3]
  obtain ⟨fb, hfb⟩ : ∃ f, Tk.fitsB x0 x1 x2 x3 = f := ⟨_, rfl⟩
  have HF : Hid (∀ W : World, Below w.heap.size w W → W.heap[w.heap.size]? = some (.cells #[.int .i64 x0, .int .i64 x1, .int .i64 x2, .int .i64 x3] 25 (0, 0)) → Calls Tryd.prog 13 #[.agg #[.int .i64 x0, .int .i64 x1, .int .i64 x2, .int .i64 x3]] W fun e w' => e = .returned (.bool fb) ∧ Below w.heap.size w w' ∧ w'.heap[w.heap.size]? = some (.cells #[.int .i64 x0, .int .i64 x1, .int .i64 x2, .int .i64 x3] 25 (0, 0))) := by
    intro W hW hC
    have := Tryd.fits_any x0 x1 x2 x3 W
    rw [hfb] at this
    exact this.mono fun e w' ⟨he, hb⟩ => ⟨he, hW.trans (hb.mono hW.size), by rw [hb.block _ (Array.getElem?_eq_some_iff.1 hC).1]; exact hC⟩
  have HG : Hid (∀ W : World, Below w.heap.size w W → W.heap[w.heap.size]? = some (.cells #[.int .i64 x0, .int .i64 x1, .int .i64 x2, .int .i64 x3] 25 (0, 0)) → Calls Tryd.prog 14 #[.agg #[.int .i64 x0, .int .i64 x1, .int .i64 x2, .int .i64 x3]] W fun e w' => e = .returned (.bool fb) ∧ Below w.heap.size w w' ∧ w'.heap[w.heap.size]? = some (.cells #[.int .i64 x0, .int .i64 x1, .int .i64 x2, .int .i64 x3] 25 (0, 0))) := by
    intro W hW hC
    have := Tryd.refFits_any x0 x1 x2 x3 W
    rw [hfb] at this
    exact this.mono fun e w' ⟨he, hb⟩ => ⟨he, hW.trans (hb.mono hW.size), by rw [hb.block _ (Array.getElem?_eq_some_iff.1 hC).1]; exact hC⟩
  have HH : Hid (∀ W, Below w.heap.size w W → Calls Tryd.prog 8 #[] W fun e w' => e = .returned (.bool true) ∧ Below w.heap.size w w') := fun W hW => (Tryd.halves_true W (HO.out.below hW HO.out.lt)).mono fun e w' ⟨he, hb⟩ => ⟨he, hW.trans (hb.mono hW.size)⟩
  clear b2 C1' C2 D2 hW3 C3 D3 E3 k0 hfb HS HR
  go_wp2
  rw [HW3.out]
  clear HW3
  have hq : ∀ W : World, (Op.equalIn 10000 25 (.agg #[.int .i64 y0, .int .i64 y1, .int .i64 y2, .int .i64 y3]) (.agg #[.int .i64 y0, .int .i64 y1, .int .i64 y2, .int .i64 y3])).run Tryd.prog W = .ok true W := fun W => Tk.arr_eq y0 y1 y2 y3 W
  go_region_with (first
    | (go_at_call 13; refine Calls.mono (HF.out _ (by first | exact B3.out | exact B3.out.drew | exact b5) (by first | exact HC3.out | exact c5)) ?_; rintro e W4 ⟨rfl, b4, c4⟩; obtain ⟨n0, n1, n2, n3⟩ := K.out W4 c4)
    | (go_at_call 14; refine Calls.mono (HG.out _ (by first | exact B3.out | exact B3.out.drew | exact b4) (by first | exact HC3.out | exact c4)) ?_; rintro e W5 ⟨rfl, b5, c5⟩; obtain ⟨n4, n5, n6, n7⟩ := K.out W5 c5)
    | (go_at_call 8; refine Calls.mono (HH.out _ (by first | exact b5 | exact b4)) ?_; rintro e W6 ⟨rfl, b6⟩))
  all_goals
    have B6 : Hid (Below w.heap.size w W6) := b6
    go_wp2
    go_ret
    exact ⟨rfl, B6.out⟩

end Go.Proofs.YtcnohonajgeglabDoor.EvalSets
