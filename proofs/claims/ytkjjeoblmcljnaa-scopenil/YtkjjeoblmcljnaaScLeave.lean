/-
  Leave at the example's scopes.
-/
import Derived.Test.YtkjjeoblmcljnaaScParts
import Derived.Deep.AppendLies
namespace Go.Proofs
open Go.RowKit Go.Shelf Go.Sort

theorem Sc.infoInt : (Try.prog.info? 3).map (fun i => (i.zero, i.size, i.bytes)) = some (some (.int .i64 0), 1, 8) := by kernel_rfl
/-- What is done is another row. -/
theorem Sc.At.redone {r gp gs cp : Nat} {vd v' : Value} {a b c : Int} {D D' : List Int} {w w' : World} (h : Sc.At r gp gs cp vd a b c D w) (hb : Tk.But (fun x => vd.ownBlock = some x) w w') (ho : w'.ownsRow 0 3 1 v' D'.length (D'.map encZ)) (hf : v'.ownBlock ≠ some gs) :
    Sc.At r gp gs cp v' a b c D' (w'.setCell ⟨r, 2, none⟩ v') := by
  obtain ⟨l1, l2, l3, l4⟩ := h.lts
  obtain ⟨cur, hp, hc⟩ := h.plan
  have kind : ∀ x, vd.ownBlock = some x → ∃ cs, w.heap[x]? = some (.cells cs 3 (0, 0)) := fun x hx => by
    rcases h.done.2 with ⟨rfl, _⟩ | ⟨g', cap, cur, rfl, _, h4, _⟩
    · cases hx
    · have : g' = x := by simpa [Value.ownBlock] using hx
      subst this
      exact ⟨cur, h4⟩
  have n1 : vd.ownBlock ≠ some r := fun e => by
    obtain ⟨cs, hcs⟩ := kind r e
    rw [h.run] at hcs
    simp at hcs
  have n2 : vd.ownBlock ≠ some gp := fun e => by
    obtain ⟨cs, hcs⟩ := kind gp e
    rw [hp] at hcs
    simp at hcs
  have r1 := (hb.block _ l1 n1).trans h.run
  have p1 := (hb.block _ l2 n2).trans hp
  have s1 := (hb.block _ l3 h.far).trans h.sts
  have d1 : gp ≠ r := fun e => by
    rw [e, r1] at p1
    simp at p1
  have d2 : gs ≠ r := fun e => by
    rw [e, r1] at s1
    simp at s1
  refine ⟨by simp [World.setCell, Array.getElem?_modify, r1], ⟨cur, (Below.heap_setCell _ _ _ _ (by exact d1)).trans p1, hc⟩, (Below.heap_setCell _ _ _ _ (by exact d2)).trans s1, ⟨ho.1, ?_⟩, hf⟩
  rcases ho.2 with hn | ⟨g, cap, cur, e, h3, h4, h5⟩
  · exact .inl hn
  · have hne : g ≠ r := by
      intro e
      rw [e, r1] at h4
      simp at h4
    exact .inr ⟨g, cap, cur, e, h3, (Below.heap_setCell _ _ _ _ (by exact hne)).trans h4, h5⟩

set_option maxRecDepth 20000 in
set_option maxHeartbeats 1600000 in
theorem Try.sLeave_1 {r gp gs cp : Nat} {vd : Value} {D : List Int} (hD : D.length ≤ 8) (w : World) (h : Sc.At r gp gs cp vd 1 1 0 D w) : Calls Try.prog 20 #[.pointer (some ⟨r, 0, none⟩), .int .i64 1] w fun e w' => e = .returned (.int .i64 0) ∧ ∃ v', Sc.At r gp gs cp v' 1 2 0 (D ++ [1]) w' ∧ (∀ g, v'.ownBlock = some g → vd.ownBlock = some g ∨ w.heap.size ≤ g) ∧ Tk.But (fun x => x = r ∨ x = gs ∨ vd.ownBlock = some x) w w' := by
  obtain ⟨i0, hi, hz0, hz1, hz2⟩ := info_parts Sc.infoInt
  have C : Hid _ := Try.sHas_any 1 (by omega) w h
  have c1 := h.c0.2.1
  obtain ⟨s0, s1, s2, _⟩ := h.st
  have H : Hid (Sc.At r gp gs cp vd 1 1 0 D w) := h
  clear h
  go_enter Try.func20, Try.ntmps20
  go_wp2_with fail
  refine Calls.mono C.out ?_
  rintro e W ⟨rfl, hW⟩
  obtain rfl := hW.symm
  clear C
  go_wp2_with fail
  refine Calls.mono (Try.isOf_any r 1 w) ?_
  rintro e W1 ⟨rfl, q1, q2, hs1, hb1⟩
  have a1 := H.out.below hb1
  have CP := Try.parts_none 1 1 w.heap.size (w.heap.size + 1) (by omega) (.func (.func 31) #[] #[]) W1 a1 q1 q2 (by omega) (by omega) (by
    intro k hk
    obtain rfl | rfl | rfl : k = 0 ∨ k = 1 ∨ k = 2 := by omega
    all_goals simp [Sc.par, Sc.sel])
  have HC : Hid _ := CP
  have HB1 : Hid (Below w.heap.size w W1) := hb1
  clear a1 CP q1 q2 hs1 hb1
  go_wp2_with fail
  refine Calls.mono HC.out ?_
  rintro e W2 ⟨rfl, hb2⟩
  have hb2' : Below w.heap.size w W2 := HB1.out.trans (hb2.mono HB1.out.size)
  have a2 := H.out.below hb2'
  have c1' := a2.c0.2.1
  have c2' := a2.c0.2.2
  obtain ⟨t0, t1, t2, tf⟩ := a2.st
  have a3 := (a2.set 2).2.1
  have c23 := a3.c0.2.2
  obtain ⟨W3, hW3⟩ : ∃ y, W2.setCell ⟨gs, 1, none⟩ (.int .i64 2) = y := ⟨_, rfl⟩
  rw [hW3] at a3 c23
  have hbw : Tk.But (fun x => x = gs) w W3 := by
    rw [← hW3]
    exact (Tk.But.of_below hb2').setCell (E := fun x => x = gs) (p := ⟨gs, 1, none⟩) rfl _
  obtain ⟨va, vc, hvd⟩ : ∃ va vc, vd = .slice va D.length vc := by
    rcases a3.done.2 with ⟨e, hn⟩ | ⟨g', cap, cur, e, _⟩
    · exact ⟨none, 0, by rw [e, hn]⟩
    · exact ⟨_, _, e⟩
  obtain ⟨n, hn⟩ : ∃ n, D.length = n := ⟨_, rfl⟩
  rw [hn] at hvd
  subst hvd
  have W3s : W3.heap.size = W2.heap.size := by rw [← hW3]; simp [World.setCell]
  obtain ⟨W4, hW4⟩ : ∃ y, W3.alloc (.cells #[.int .i64 1] 3) = y := ⟨_, rfl⟩
  have b4 : Below W3.heap.size W3 W4 := by rw [← hW4]; exact (Below.refl _ _).alloc (Nat.le_refl _) _
  have a4 := a3.below b4
  have n4 : W4.heap[W3.heap.size]? = some (.cells #[.int .i64 1] 3 (0, 0)) := by rw [← hW4]; exact heap_alloc_new _ _
  have s4 : W4.heap.size = W3.heap.size + 1 := by rw [← hW4]; simp
  have own4 := a4.done
  rw [hn] at own4
  have c24 := a4.c0.2.2
  have f24 : W4.frozen? ⟨r, 2, none⟩ = false := by simp [World.frozen?, a4.run]
  have HK : Hid (Sc.At r gp gs cp (.slice va n vc) 1 2 0 D W4 ∧ Tk.But (fun x => x = gs) w W4 ∧ D.length = n ∧ W4.heap.size = W3.heap.size + 1 ∧ w.heap.size ≤ W3.heap.size ∧ D.length ≤ 8) := ⟨a4, hbw.trans (Tk.But.of_below b4), hn, s4, hbw.size, hD⟩
  have HQ : Hid (some r ≠ (Value.slice va n vc).ownBlock ∧ r < W4.heap.size) := by
    refine ⟨fun e => ?_, a4.lts.1⟩
    rcases a4.done.2 with ⟨e', _⟩ | ⟨g', cap, cur, e', _, h4, _⟩
    · rw [e'] at e
      cases e
    · have : g' = r := by
        rw [e'] at e
        simpa [Value.ownBlock] using e.symm
      subst this
      have := a4.run
      rw [h4] at this
      simp at this
  have HW3 : Hid (W2.setCell ⟨gs, 1, none⟩ (.int .i64 2) = W3) := hW3
  have HW4 : Hid (W3.alloc (.cells #[.int .i64 1] 3) = W4) := hW4
  have hn8 : n ≤ 8 := by omega
  clear HC hb2 hb2' a2 a3 hW3 hbw W3s hW4 b4 a4 hn HB1 c1 s0 s1 s2 s4
  go_upto_region 7 with fail
  rw [HW3.out]
  go_wp2_with (at_builtin; rw [HW4.out]; refine wpList_append_lies _ rfl _ _ 44 rfl 0 3 i0 (.int .i64 0) 1 8 Try.underlying44 hi hz0 hz1 hz2 rfl (by decide) (.slice va n vc) n (D.map encZ) rfl own4 ⟨W3.heap.size, 0, none⟩ 1 1 [.int .i64 1] rfl rfl (World.news_of_block n4) (by intro u hu; rw [List.mem_singleton.1 hu]; rfl) (by decide) (by unfold maxLen; omega) (by omega) (Nat.zero_le _) _ rfl ?_; intro g cap w5 own5 hgrow hloc hlt; have c25 := (hgrow.cell_far ⟨r, 2, none⟩ HQ.out.2 HQ.out.1).trans c24; have z25 := (hgrow.frozen_far ⟨r, 2, none⟩ HQ.out.2 HQ.out.1).trans f24)
  go_ret
  have own6 : w5.ownsRow 0 3 1 (.slice (some ⟨g, 0, none⟩) (n + 1) cap) (D ++ [1]).length ((D ++ [1]).map encZ) := by
    rw [List.length_append, List.map_append, HK.out.2.2.1]
    exact own5
  have bg : Tk.But (fun x => (Value.slice va n vc).ownBlock = some x) W4 w5 := ⟨hgrow.os, hgrow.tape, hgrow.output, hgrow.size, fun j hj he => hgrow.block j hj (fun e => he e.symm)⟩
  have lt4 := HK.out.1.lts
  refine ⟨rfl, _, HK.out.1.redone bg own6 ?_, fun g' hg' => ?_, ?_⟩
  · intro e
    have e' : g = gs := by simpa [Value.ownBlock] using e
    rcases hloc with hl | hl
    · exact HK.out.1.far (by rw [hl, e'])
    · have := lt4.2.2.1
      omega
  · have e' : g = g' := by simpa [Value.ownBlock] using hg'
    subst e'
    rcases hloc with hl | hl
    · exact .inl hl
    · refine .inr ?_
      have := HK.out.2.2.2.1
      have := HK.out.2.2.2.2.1
      omega
  · refine Tk.But.setCell (p := ⟨r, 2, none⟩) ⟨hgrow.os.trans HK.out.2.1.os, hgrow.tape.trans HK.out.2.1.tape, hgrow.output.trans HK.out.2.1.output, Nat.le_trans HK.out.2.1.size hgrow.size, fun j hj he => (hgrow.block j (Nat.lt_of_lt_of_le hj HK.out.2.1.size) (fun e => he (.inr (.inr e.symm)))).trans (HK.out.2.1.block j hj (fun e => he (.inr (.inl e))))⟩ (.inl rfl) _

set_option maxRecDepth 20000 in
set_option maxHeartbeats 1600000 in
theorem Try.sLeave_2 {r gp gs cp : Nat} {vd : Value} {D : List Int} (hD : D.length ≤ 8) (w : World) (h : Sc.At r gp gs cp vd 1 2 1 D w) : Calls Try.prog 20 #[.pointer (some ⟨r, 0, none⟩), .int .i64 2] w fun e w' => e = .returned (.int .i64 0) ∧ ∃ v', Sc.At r gp gs cp v' 1 2 2 (D ++ [2]) w' ∧ (∀ g, v'.ownBlock = some g → vd.ownBlock = some g ∨ w.heap.size ≤ g) ∧ Tk.But (fun x => x = r ∨ x = gs ∨ vd.ownBlock = some x) w w' := by
  obtain ⟨i0, hi, hz0, hz1, hz2⟩ := info_parts Sc.infoInt
  have C : Hid _ := Try.sHas_any 2 (by omega) w h
  have c1 := h.c0.2.1
  obtain ⟨s0, s1, s2, _⟩ := h.st
  have H : Hid (Sc.At r gp gs cp vd 1 2 1 D w) := h
  clear h
  go_enter Try.func20, Try.ntmps20
  go_wp2_with fail
  refine Calls.mono C.out ?_
  rintro e W ⟨rfl, hW⟩
  obtain rfl := hW.symm
  clear C
  go_wp2_with fail
  refine Calls.mono (Try.isOf_any r 2 w) ?_
  rintro e W1 ⟨rfl, q1, q2, hs1, hb1⟩
  have a1 := H.out.below hb1
  have CP := Try.parts_none 1 2 w.heap.size (w.heap.size + 1) (by omega) (.func (.func 31) #[] #[]) W1 a1 q1 q2 (by omega) (by omega) (by
    intro k hk
    obtain rfl | rfl | rfl : k = 0 ∨ k = 1 ∨ k = 2 := by omega
    all_goals simp [Sc.par, Sc.sel])
  have HC : Hid _ := CP
  have HB1 : Hid (Below w.heap.size w W1) := hb1
  clear a1 CP q1 q2 hs1 hb1
  go_wp2_with fail
  refine Calls.mono HC.out ?_
  rintro e W2 ⟨rfl, hb2⟩
  have hb2' : Below w.heap.size w W2 := HB1.out.trans (hb2.mono HB1.out.size)
  have a2 := H.out.below hb2'
  have c1' := a2.c0.2.1
  have c2' := a2.c0.2.2
  obtain ⟨t0, t1, t2, tf⟩ := a2.st
  have a3 := (a2.set 2).2.2
  have c23 := a3.c0.2.2
  obtain ⟨W3, hW3⟩ : ∃ y, W2.setCell ⟨gs, 2, none⟩ (.int .i64 2) = y := ⟨_, rfl⟩
  rw [hW3] at a3 c23
  have hbw : Tk.But (fun x => x = gs) w W3 := by
    rw [← hW3]
    exact (Tk.But.of_below hb2').setCell (E := fun x => x = gs) (p := ⟨gs, 2, none⟩) rfl _
  obtain ⟨va, vc, hvd⟩ : ∃ va vc, vd = .slice va D.length vc := by
    rcases a3.done.2 with ⟨e, hn⟩ | ⟨g', cap, cur, e, _⟩
    · exact ⟨none, 0, by rw [e, hn]⟩
    · exact ⟨_, _, e⟩
  obtain ⟨n, hn⟩ : ∃ n, D.length = n := ⟨_, rfl⟩
  rw [hn] at hvd
  subst hvd
  have W3s : W3.heap.size = W2.heap.size := by rw [← hW3]; simp [World.setCell]
  obtain ⟨W4, hW4⟩ : ∃ y, W3.alloc (.cells #[.int .i64 2] 3) = y := ⟨_, rfl⟩
  have b4 : Below W3.heap.size W3 W4 := by rw [← hW4]; exact (Below.refl _ _).alloc (Nat.le_refl _) _
  have a4 := a3.below b4
  have n4 : W4.heap[W3.heap.size]? = some (.cells #[.int .i64 2] 3 (0, 0)) := by rw [← hW4]; exact heap_alloc_new _ _
  have s4 : W4.heap.size = W3.heap.size + 1 := by rw [← hW4]; simp
  have own4 := a4.done
  rw [hn] at own4
  have c24 := a4.c0.2.2
  have f24 : W4.frozen? ⟨r, 2, none⟩ = false := by simp [World.frozen?, a4.run]
  have HK : Hid (Sc.At r gp gs cp (.slice va n vc) 1 2 2 D W4 ∧ Tk.But (fun x => x = gs) w W4 ∧ D.length = n ∧ W4.heap.size = W3.heap.size + 1 ∧ w.heap.size ≤ W3.heap.size ∧ D.length ≤ 8) := ⟨a4, hbw.trans (Tk.But.of_below b4), hn, s4, hbw.size, hD⟩
  have HQ : Hid (some r ≠ (Value.slice va n vc).ownBlock ∧ r < W4.heap.size) := by
    refine ⟨fun e => ?_, a4.lts.1⟩
    rcases a4.done.2 with ⟨e', _⟩ | ⟨g', cap, cur, e', _, h4, _⟩
    · rw [e'] at e
      cases e
    · have : g' = r := by
        rw [e'] at e
        simpa [Value.ownBlock] using e.symm
      subst this
      have := a4.run
      rw [h4] at this
      simp at this
  have HW3 : Hid (W2.setCell ⟨gs, 2, none⟩ (.int .i64 2) = W3) := hW3
  have HW4 : Hid (W3.alloc (.cells #[.int .i64 2] 3) = W4) := hW4
  have hn8 : n ≤ 8 := by omega
  clear HC hb2 hb2' a2 a3 hW3 hbw W3s hW4 b4 a4 hn HB1 c1 s0 s1 s2 s4
  go_upto_region 7 with fail
  rw [HW3.out]
  go_wp2_with (at_builtin; rw [HW4.out]; refine wpList_append_lies _ rfl _ _ 44 rfl 0 3 i0 (.int .i64 0) 1 8 Try.underlying44 hi hz0 hz1 hz2 rfl (by decide) (.slice va n vc) n (D.map encZ) rfl own4 ⟨W3.heap.size, 0, none⟩ 1 1 [.int .i64 2] rfl rfl (World.news_of_block n4) (by intro u hu; rw [List.mem_singleton.1 hu]; rfl) (by decide) (by unfold maxLen; omega) (by omega) (Nat.zero_le _) _ rfl ?_; intro g cap w5 own5 hgrow hloc hlt; have c25 := (hgrow.cell_far ⟨r, 2, none⟩ HQ.out.2 HQ.out.1).trans c24; have z25 := (hgrow.frozen_far ⟨r, 2, none⟩ HQ.out.2 HQ.out.1).trans f24)
  go_ret
  have own6 : w5.ownsRow 0 3 1 (.slice (some ⟨g, 0, none⟩) (n + 1) cap) (D ++ [2]).length ((D ++ [2]).map encZ) := by
    rw [List.length_append, List.map_append, HK.out.2.2.1]
    exact own5
  have bg : Tk.But (fun x => (Value.slice va n vc).ownBlock = some x) W4 w5 := ⟨hgrow.os, hgrow.tape, hgrow.output, hgrow.size, fun j hj he => hgrow.block j hj (fun e => he e.symm)⟩
  have lt4 := HK.out.1.lts
  refine ⟨rfl, _, HK.out.1.redone bg own6 ?_, fun g' hg' => ?_, ?_⟩
  · intro e
    have e' : g = gs := by simpa [Value.ownBlock] using e
    rcases hloc with hl | hl
    · exact HK.out.1.far (by rw [hl, e'])
    · have := lt4.2.2.1
      omega
  · have e' : g = g' := by simpa [Value.ownBlock] using hg'
    subst e'
    rcases hloc with hl | hl
    · exact .inl hl
    · refine .inr ?_
      have := HK.out.2.2.2.1
      have := HK.out.2.2.2.2.1
      omega
  · refine Tk.But.setCell (p := ⟨r, 2, none⟩) ⟨hgrow.os.trans HK.out.2.1.os, hgrow.tape.trans HK.out.2.1.tape, hgrow.output.trans HK.out.2.1.output, Nat.le_trans HK.out.2.1.size hgrow.size, fun j hj he => (hgrow.block j (Nat.lt_of_lt_of_le hj HK.out.2.1.size) (fun e => he (.inr (.inr e.symm)))).trans (HK.out.2.1.block j hj (fun e => he (.inr (.inl e))))⟩ (.inl rfl) _

end Go.Proofs
