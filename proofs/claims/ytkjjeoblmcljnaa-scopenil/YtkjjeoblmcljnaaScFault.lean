/-
  A fault at the root, in the statements' example.
-/
import Derived.Test.YtkjjeoblmcljnaaScUndid
namespace Go.Proofs
open Go.RowKit Go.Shelf Go.Sort

set_option maxRecDepth 20000 in
set_option maxHeartbeats 1600000 in
theorem Try.sfault_0 {r gp gs cp : Nat} {vd : Value} (w : World) (h : Sc.At r gp gs cp vd 1 2 2 [1, 2] w) :
    Calls Try.prog 28 #[.pointer (some ⟨r, 0, none⟩), .slice none 0 0, .int .i64 0] w fun e w' => ∃ g cap vd', e = .returned (.slice (some ⟨g, 0, none⟩) 3 cap) ∧ w'.ownsRow 0 52 2 (.slice (some ⟨g, 0, none⟩) 3 cap) 3 [.int .i64 2, .int .i64 2, .int .i64 2, .int .i64 1, .int .i64 3, .int .i64 0] ∧ Sc.At r gp gs cp vd' 5 4 4 [] w' ∧ Tk.But (fun x => x = r ∨ x = gs ∨ vd.ownBlock = some x) w w' := by
  obtain ⟨i0, hi, hz0, hz1, hz2⟩ := info_parts Sc.infoAct
  have H : Hid (Sc.At r gp gs cp vd 1 2 2 [1, 2] w) := h
  clear h
  go_enter Try.func28, Try.ntmps28
  go_wp2_with fail
  refine Calls.mono (Try.isOf_any r 0 w) ?_
  rintro e W1 ⟨rfl, q1, q2, hs1, hb1⟩
  have CP := Try.parts_none 1 0 w.heap.size (w.heap.size + 1) (by omega) (.func (.func 31) #[] #[]) W1 (H.out.below hb1) q1 q2 (by omega) (by omega) (by
    intro k hk
    obtain rfl | rfl | rfl : k = 0 ∨ k = 1 ∨ k = 2 := by omega
    all_goals simp [Sc.par, Sc.sel])
  have HC : Hid _ := CP
  have HB1 : Hid (Below w.heap.size w W1) := hb1
  clear CP q1 q2 hs1 hb1
  go_wp2_with fail
  refine Calls.mono HC.out ?_
  rintro e W2 ⟨rfl, hb2⟩
  have HB2 : Hid (Below w.heap.size w W2) := HB1.out.trans (hb2.mono HB1.out.size)
  clear HC hb2 HB1
  go_wp2_with fail
  refine wp_loop_rounds 1 ?_
  rw [rounds_succ]
  go_wp2_with fail
  refine Calls.mono (Try.isOf_any r 0 W2) ?_
  rintro e W3 ⟨rfl, q1, q2, hs3, hb3⟩
  have HB3 : Hid (Below w.heap.size w W3) := HB2.out.trans (hb3.mono HB2.out.size)
  have HC : Hid _ := Try.parts_two W2.heap.size (W2.heap.size + 1) W3 (H.out.below HB3.out) q1 q2 (by omega) (by omega)
  clear q1 q2 hs3 hb3 HB2
  go_wp2_with fail
  refine Calls.mono HC.out ?_
  rintro e W4 ⟨gl, cl, rfl, d0, d1, hgl, hb4⟩
  have HB4 : Hid (Below w.heap.size w W4) := HB3.out.trans (hb4.mono HB3.out.size)
  have a4 := H.out.below HB4.out
  have HU : Hid _ := Try.sUndo_2 (vt := .slice none 0 0) (n := 0) (xs := []) (by simp) (by simp) (by omega) W4 a4 ⟨rfl, .inl ⟨rfl, rfl⟩⟩
  have lt4 : gl < W4.heap.size := by
    rcases Nat.lt_or_ge gl W4.heap.size with h1 | h1
    · exact h1
    · unfold World.cell? at d0
      simp [h1] at d0
  have HL : Hid (w.heap.size ≤ gl ∧ gl < W4.heap.size) := ⟨Nat.le_trans HB3.out.size hgl, lt4⟩
  clear hgl hb4 HC HB3 a4 lt4
  go_wp2_with fail
  refine wp_loop_rounds 3 ?_
  rw [rounds_succ]
  go_wp2_with fail
  refine Calls.mono HU.out ?_
  rintro e W5 ⟨vt5, vd5, rfl, own5, a5, hv5, hl5, hb5⟩
  have d15 : W5.cell? ⟨gl, 1, none⟩ = some (.int .i64 1) := by
    have lt := H.out.lts
    have e := hb5.block gl HL.out.2 (fun e => by
      have := HL.out.1
      rcases e with e | e | e | e
      · omega
      · omega
      · have := lt.2.2.2 _ e
        omega
      · cases e)
    rw [← d1]
    simp only [World.cell?, e]
  have HB5 : Hid (Tk.But (fun x => x = r ∨ x = gs ∨ vd.ownBlock = some x) w W5 ∧ vd5.ownBlock = vd.ownBlock ∧ W4.heap.size ≤ W5.heap.size ∧ ∀ g, vt5.ownBlock = some g → w.heap.size ≤ g) := by
    refine ⟨(Tk.But.of_below HB4.out).trans (hb5.mono fun x hx => ?_), hv5, hb5.size, fun g hg => ?_⟩
    · rcases hx with e | e | e | e
      · exact .inl e
      · exact .inr (.inl e)
      · exact .inr (.inr e)
      · cases e
    · rcases hl5 g hg with e | e
      · cases e
      · exact Nat.le_trans HB4.out.size e
  have HU1 : Hid _ := Try.sUndo_1 (D := [1]) (by simp) (by simp) (by omega) W5 a5 own5
  clear d0 d1 HU own5 a5 hv5 hl5 hb5 HB4
  go_wp2_with fail
  rw [rounds_succ]
  go_wp2_with fail
  refine Calls.mono HU1.out ?_
  rintro e W6 ⟨vt6, vd6, rfl, own6, a6, hv6, hl6, hb6⟩
  have HB6 : Hid (Tk.But (fun x => x = r ∨ x = gs ∨ vd.ownBlock = some x) w W6 ∧ vd6.ownBlock = vd.ownBlock ∧ ∀ g, vt6.ownBlock = some g → w.heap.size ≤ g) := by
    obtain ⟨b5, v5, s5, l5⟩ := HB5.out
    refine ⟨?_, hv6.trans v5, fun g hg => ?_⟩
    · refine ⟨hb6.os.trans b5.os, hb6.tape.trans b5.tape, hb6.output.trans b5.output, Nat.le_trans b5.size hb6.size, fun k hk he => (hb6.block k (Nat.lt_of_lt_of_le hk b5.size) (fun e => he ?_)).trans (b5.block k hk he)⟩
      rcases e with e | e | e | e
      · exact .inl e
      · exact .inr (.inl e)
      · exact .inr (.inr (v5 ▸ e))
      · have := l5 _ e
        omega
    · rcases hl6 g hg with e | e
      · exact l5 _ e
      · exact Nat.le_trans b5.size e
  have HA : Hid (Sc.At r gp gs cp vd6 1 4 4 [] W6 ∧ W6.ownsRow 0 52 2 vt6 2 [.int .i64 2, .int .i64 2, .int .i64 2, .int .i64 1]) := ⟨a6, own6⟩
  clear HU1 own6 a6 hv6 hl6 hb6 HB5 d15
  have c0 := HA.out.1.c0.1
  have c1 := HA.out.1.c0.2.1
  have pl := HA.out.1.pls 1 (by omega)
  simp only [Sc.pl, List.getElem?_cons_succ, List.getElem?_cons_zero] at pl
  obtain ⟨t0, t1, t2, tf⟩ := HA.out.1.st
  obtain ⟨W7, hW7⟩ : ∃ y, W6.setCell ⟨gs, 0, none⟩ (.int .i64 5) = y := ⟨_, rfl⟩
  obtain ⟨W8, hW8⟩ : ∃ y, W7.alloc (.cells #[.int .i64 3, .int .i64 0] 52) = y := ⟨_, rfl⟩
  have HW7 : Hid (W6.setCell ⟨gs, 0, none⟩ (.int .i64 5) = W7) := hW7
  have HW8 : Hid (W7.alloc (.cells #[.int .i64 3, .int .i64 0] 52) = W8) := hW8
  have a7 := (HA.out.1.set 5).1
  rw [hW7] at a7
  have b8 : Below W7.heap.size W7 W8 := by rw [← hW8]; exact (Below.refl _ _).alloc (Nat.le_refl _) _
  have a8 := a7.below b8
  have n8 : W8.heap[W7.heap.size]? = some (.cells #[.int .i64 3, .int .i64 0] 52 (0, 0)) := by rw [← hW8]; exact heap_alloc_new _ _
  have b68 : Tk.But (fun x => x = gs) W6 W8 := by
    refine Tk.But.trans (b := W7) ?_ (Tk.But.of_below b8)
    rw [← hW7]
    exact (Tk.But.refl (fun x => x = gs) W6).setCell (E := fun x => x = gs) (p := ⟨gs, 0, none⟩) rfl _
  have own8 : W8.ownsRow 0 52 2 vt6 2 [.int .i64 2, .int .i64 2, .int .i64 2, .int .i64 1] := by
    refine ⟨rfl, ?_⟩
    rcases HA.out.2.2 with hn | ⟨g', cap', cur, e, h3, h4, h5⟩
    · exact .inl hn
    · refine .inr ⟨g', cap', cur, e, h3, (b68.block g' (Array.getElem?_eq_some_iff.1 h4).1 (fun e' => ?_)).trans h4, h5⟩
      have := HA.out.1.sts
      rw [← e', h4] at this
      simp at this
  have HK : Hid (Sc.At r gp gs cp vd6 5 4 4 [] W8 ∧ Tk.But (fun x => x = gs) W6 W8 ∧ W8.ownsRow 0 52 2 vt6 2 [.int .i64 2, .int .i64 2, .int .i64 2, .int .i64 1]) := ⟨a8, b68, own8⟩
  clear hW7 hW8 a7 b8 a8 b68
  go_wp2_with fail
  rw [rounds_succ]
  go_upto_region 13 with fail
  rw [HW7.out]
  go_wp2_with (at_builtin; rw [HW8.out]; refine wpList_append_lies _ rfl _ _ 48 rfl 0 52 i0 (.agg #[.int .i64 0, .int .i64 0]) 2 16 Try.underlying48 hi hz0 hz1 hz2 rfl (by decide) vt6 2 [.int .i64 2, .int .i64 2, .int .i64 2, .int .i64 1] rfl own8 ⟨W7.heap.size, 0, none⟩ 1 1 [.int .i64 3, .int .i64 0] rfl rfl (World.news_of_block n8) (by intro u hu; simp at hu; rcases hu with rfl | rfl <;> rfl) (by decide) (by unfold maxLen; omega) (by omega) (Nat.zero_le _) _ rfl ?_; intro g cap w9 own9 hgrow hloc hlt)
  go_ret
  have bg : Tk.But (fun x => vt6.ownBlock = some x) W8 w9 := ⟨hgrow.os, hgrow.tape, hgrow.output, hgrow.size, fun j hj he => hgrow.block j hj (fun e => he e.symm)⟩
  refine ⟨g, cap, vd6, rfl, own9, HK.out.1.told HK.out.2.2 bg, ?_⟩
  obtain ⟨b6, _, l6⟩ := HB6.out
  have b8 := HK.out.2.1
  refine ⟨bg.os.trans (b8.os.trans b6.os), bg.tape.trans (b8.tape.trans b6.tape), bg.output.trans (b8.output.trans b6.output), Nat.le_trans b6.size (Nat.le_trans b8.size bg.size), fun k hk he => (bg.block k (Nat.lt_of_lt_of_le hk (Nat.le_trans b6.size b8.size)) (fun e => ?_)).trans ((b8.block k (Nat.lt_of_lt_of_le hk b6.size) (fun e => he (.inr (.inl e)))).trans (b6.block k hk he))⟩
  have := l6 _ e
  omega

set_option maxRecDepth 20000 in
theorem Try.sFault_0 {r gp gs cp : Nat} {vd : Value} (w : World) (h : Sc.At r gp gs cp vd 1 2 2 [1, 2] w) :
    Calls Try.prog 17 #[.pointer (some ⟨r, 0, none⟩), .int .i64 0] w fun e w' => ∃ g cap vd', e = .returned (.tuple #[.slice (some ⟨g, 0, none⟩) 3 cap, .int .i64 0]) ∧ w'.ownsRow 0 52 2 (.slice (some ⟨g, 0, none⟩) 3 cap) 3 [.int .i64 2, .int .i64 2, .int .i64 2, .int .i64 1, .int .i64 3, .int .i64 0] ∧ Sc.At r gp gs cp vd' 5 4 4 [] w' ∧ Tk.But (fun x => x = r ∨ x = gs ∨ vd.ownBlock = some x) w w' := by
  have C : Hid _ := Try.sHas_any 0 (by omega) w h
  have c1 := h.c0.2.1
  obtain ⟨s0, s1, s2, _⟩ := h.st
  have CF : Hid _ := Try.sfault_0 w h
  clear h
  go_enter Try.func17, Try.ntmps17
  go_wp2_with fail
  refine Calls.mono C.out ?_
  rintro e W ⟨rfl, hW⟩
  obtain rfl := hW.symm
  clear C
  go_wp2_with fail
  refine Calls.mono CF.out ?_
  rintro e W1 ⟨g, cap, vd', rfl, h1, h2, h3⟩
  have HQ : Hid (W1.ownsRow 0 52 2 (.slice (some ⟨g, 0, none⟩) 3 cap) 3 [.int .i64 2, .int .i64 2, .int .i64 2, .int .i64 1, .int .i64 3, .int .i64 0] ∧ Sc.At r gp gs cp vd' 5 4 4 [] W1 ∧ Tk.But (fun x => x = r ∨ x = gs ∨ vd.ownBlock = some x) w W1) := ⟨h1, h2, h3⟩
  clear h1 h2 h3
  go_wp2
  go_ret2
  exact ⟨g, cap, vd', rfl, HQ.out⟩

end Go.Proofs
