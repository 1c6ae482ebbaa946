/-
  ScopeNil: the example is undone as the document says, and a nil run is none.
-/
import Derived.Test.YtkjjeoblmcljnaaScNew
namespace Go.Proofs
open Go.RowKit Go.Shelf Go.Sort

theorem Sc.act_cells {g cap : Nat} {xs : List Value} {w : World} (h : w.ownsRow 0 52 2 (.slice (some ⟨g, 0, none⟩) 3 cap) 3 xs) : ∀ j, j < 6 → w.cell? ⟨g, j, none⟩ = xs[j]? := by
  rcases h.2 with ⟨e, _⟩ | ⟨g', cap', cur, e, _, h4, _, _, _, h7⟩
  · cases e
  · injection e with e1 e2 e3
    injection e1 with e1
    injection e1 with e1
    subst e1
    intro j hj
    rw [← h7, List.getElem?_take, if_pos (by omega), Array.getElem?_toList]
    simp only [World.cell?, h4]
    rfl

/-- Where the example's blocks lie, from a world on. -/
def Sc.New (w : World) (r gs : Nat) (vd : Value) (w' : World) : Prop := w.heap.size ≤ r ∧ w.heap.size ≤ gs ∧ (∀ g, vd.ownBlock = some g → w.heap.size ≤ g) ∧ Below w.heap.size w w'
theorem Sc.New.step {w w1 w2 : World} {r gs : Nat} {vd v' : Value} (h : Sc.New w r gs vd w1) (hb : Tk.But (fun x => x = r ∨ x = gs ∨ vd.ownBlock = some x) w1 w2) (hv : ∀ g, v'.ownBlock = some g → vd.ownBlock = some g ∨ w1.heap.size ≤ g) : Sc.New w r gs v' w2 := by
  obtain ⟨h1, h2, h3, h4⟩ := h
  refine ⟨h1, h2, fun g hg => ?_, h4.trans (hb.below h4.size fun k hk e => ?_)⟩
  · rcases hv g hg with e | e
    · exact h3 g e
    · exact Nat.le_trans h4.size e
  · rcases e with e | e | e
    · omega
    · omega
    · have := h3 _ e
      omega

set_option maxRecDepth 20000 in
set_option maxHeartbeats 1600000 in
theorem Try.undone_true (w : World) : Calls Try.prog 8 #[] w fun e w' => e = .returned (.bool true) ∧ Below w.heap.size w w' := by
  obtain ⟨W1, hW1⟩ : ∃ y, w.alloc (.cells Sc.pl.toArray 56) = y := ⟨_, rfl⟩
  have b1 : Below w.heap.size w W1 := by rw [← hW1]; exact (Below.refl _ _).alloc (Nat.le_refl _) _
  have n1 : W1.heap[w.heap.size]? = some (.cells Sc.pl.toArray 56 (0, 0)) := by rw [← hW1]; exact heap_alloc_new _ _
  have CN : Hid _ := Try.sNew_lit w.heap.size W1 n1
  have HW1 : Hid (w.alloc (.cells #[.int .i64 (-1), .bool true, .bool false, .int .i64 0, .bool false, .bool true, .int .i64 0, .bool false, .bool true] 56) = W1) := hW1
  have HB1 : Hid (Below w.heap.size w W1) := b1
  clear hW1 b1 n1
  go_enter Try.func8, Try.ntmps8
  go_wp2_with fail
  rw [HW1.out]
  refine Calls.mono CN.out ?_
  rintro e W2 ⟨r, gp, gs, cp, rfl, hr, hs, a2, b2⟩
  have H2 : Hid (Sc.At r gp gs cp (.slice none 0 0) 1 0 0 [] W2 ∧ Sc.New w r gs (.slice none 0 0) W2) := ⟨a2, Nat.le_trans HB1.out.size hr, Nat.le_trans HB1.out.size hs, fun g hg => (by cases hg), HB1.out.trans (b2.mono HB1.out.size)⟩
  clear hr hs a2 b2 CN HB1 HW1
  go_wp2_with fail
  refine Calls.mono (Try.sEnter_1 W2 H2.out.1) ?_
  rintro e W3 ⟨rfl, a3, b3⟩
  have H3 : Hid (Sc.At r gp gs cp (.slice none 0 0) 1 1 0 [] W3 ∧ Sc.New w r gs (.slice none 0 0) W3) := ⟨a3, H2.out.2.step (b3.mono fun x hx => .inr (.inl hx)) fun g hg => by cases hg⟩
  clear H2 a3 b3
  go_wp2_with fail
  refine Calls.mono (Try.sLeave_1 (by simp) W3 H3.out.1) ?_
  rintro e W4 ⟨rfl, v4, a4, l4, b4⟩
  have H4 : Hid (Sc.At r gp gs cp v4 1 2 0 [1] W4 ∧ Sc.New w r gs v4 W4) := ⟨a4, H3.out.2.step b4 l4⟩
  clear H3 a4 b4 l4
  go_wp2_with fail
  refine Calls.mono (Try.sEnter_2 W4 H4.out.1) ?_
  rintro e W5 ⟨rfl, a5, b5⟩
  have H5 : Hid (Sc.At r gp gs cp v4 1 2 1 [1] W5 ∧ Sc.New w r gs v4 W5) := ⟨a5, H4.out.2.step (b5.mono fun x hx => .inr (.inl hx)) fun g hg => .inl hg⟩
  clear H4 a5 b5
  go_wp2_with fail
  refine Calls.mono (Try.sLeave_2 (by simp) W5 H5.out.1) ?_
  rintro e W6 ⟨rfl, v6, a6, l6, b6⟩
  have H6 : Hid (Sc.At r gp gs cp v6 1 2 2 [1, 2] W6 ∧ Sc.New w r gs v6 W6) := ⟨a6, H5.out.2.step b6 l6⟩
  clear H5 a6 b6 l6
  go_wp2_with fail
  refine Calls.mono (Try.sFault_0 W6 H6.out.1) ?_
  rintro e W7 ⟨g, cap, v7, rfl, own7, a7, b7⟩
  have H7 : Hid (Sc.At r gp gs cp v7 5 4 4 [] W7 ∧ Below w.heap.size w W7) := ⟨a7, (H6.out.2.step (v' := .slice none 0 0) b7 fun g hg => by cases hg).2.2.2⟩
  have CS : Hid _ := Try.sState_any W7 a7
  have q0 := Sc.act_cells own7 0 (by omega)
  have q1 := Sc.act_cells own7 1 (by omega)
  have q2 := Sc.act_cells own7 2 (by omega)
  have q3 := Sc.act_cells own7 3 (by omega)
  have q4 := Sc.act_cells own7 4 (by omega)
  have q5 := Sc.act_cells own7 5 (by omega)
  simp only [List.getElem?_cons_succ, List.getElem?_cons_zero] at q0 q1 q2 q3 q4 q5
  clear H6 own7 a7 b7
  go_wp2_with fail
  refine Calls.mono CS.out ?_
  rintro e W8 ⟨rfl, hW⟩
  obtain rfl := hW.symm
  clear CS q0 q1 q2 q3 q4 q5
  go_wp2
  go_ret
  exact ⟨rfl, H7.out.2⟩

set_option maxRecDepth 20000 in
set_option maxHeartbeats 1600000 in
theorem Ytkjjeoblmcljnaa.ScopeNil.walk (i : Int) (w : World) : Calls Try.prog 7 #[.int .i64 i] w fun e w' => e = .returned (.bool true) ∧ Below w.heap.size w w' := by
  have C : Hid _ := Try.undone_true w
  go_enter Try.func7, Try.ntmps7
  go_wp2_with fail
  refine Calls.mono (Try.sFault_nil i w) ?_
  rintro e W ⟨rfl, hW⟩
  obtain rfl := hW.symm
  go_wp2_with fail
  refine Calls.mono (Try.sEnter_nil i w) ?_
  rintro e W ⟨rfl, hW⟩
  obtain rfl := hW.symm
  go_wp2_with fail
  refine Calls.mono (Try.sLeave_nil i w) ?_
  rintro e W ⟨rfl, hW⟩
  obtain rfl := hW.symm
  go_wp2_with fail
  refine Calls.mono (Try.sState_nil i w) ?_
  rintro e W ⟨rfl, hW⟩
  obtain rfl := hW.symm
  go_wp2_with fail
  refine Calls.mono (Try.sOrder_nil w) ?_
  rintro e W ⟨rfl, hW⟩
  obtain rfl := hW.symm
  go_wp2_with fail
  refine Calls.mono C.out ?_
  rintro e W1 ⟨rfl, B⟩
  have HB : Hid (Below w.heap.size w W1) := B
  clear B C
  go_wp2
  go_ret
  exact ⟨rfl, HB.out⟩

end Go.Proofs
