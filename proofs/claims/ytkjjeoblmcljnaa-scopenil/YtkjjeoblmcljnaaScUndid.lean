/-
  undo of a scope that may, in the statements' example.
-/
import Derived.Test.YtkjjeoblmcljnaaScUndo
namespace Go.Proofs
open Go.RowKit Go.Shelf Go.Sort

theorem Sc.infoAct : (Try.prog.info? 52).map (fun i => (i.zero, i.size, i.bytes)) = some (some (.agg #[.int .i64 0, .int .i64 0]), 2, 16) := by kernel_rfl
theorem Sc.At.nr {r gp gs cp : Nat} {vd : Value} {a b c : Int} {D : List Int} {w : World} (h : Sc.At r gp gs cp vd a b c D w) : vd.ownBlock ≠ some r := fun e => by
  rcases h.done.2 with ⟨rfl, _⟩ | ⟨g', cap, cur, rfl, _, h4, _⟩
  · cases e
  · have : g' = r := by simpa [Value.ownBlock] using e
    subst this
    have := h.run
    rw [h4] at this
    simp at this
theorem Tk.But.mono {E F : Nat → Prop} {w w' : World} (h : Tk.But E w w') (hEF : ∀ x, E x → F x) : Tk.But F w w' := ⟨h.os, h.tape, h.output, h.size, fun k hk he => h.block k hk (fun e => he (hEF k e))⟩
/-- A row stands where its block does. -/
theorem Sc.owns_but {E : Nat → Prop} {g k n cap : Nat} {t : TypeId} {xs : List Value} {w w' : World} (h : w.ownsRow 0 t k (.slice (some ⟨g, 0, none⟩) n cap) n xs) (hlt : g < w.heap.size) (hb : Tk.But E w w') (hE : ¬ E g) : w'.ownsRow 0 t k (.slice (some ⟨g, 0, none⟩) n cap) n xs := by
  refine ⟨h.1, ?_⟩
  rcases h.2 with hn | ⟨g', cap', cur, e, h3, h4, h5⟩
  · exact .inl hn
  · injection e with e1 e2 e3
    injection e1 with e1
    injection e1 with e1
    subst e1 e3
    exact .inr ⟨g, cap, cur, rfl, h3, (hb.block g hlt hE).trans h4, h5⟩
theorem Sc.owns_set {g k n cap : Nat} {t : TypeId} {xs : List Value} {w : World} (h : w.ownsRow 0 t k (.slice (some ⟨g, 0, none⟩) n cap) n xs) (r : Nat) (v : Value) {o : Nat} (hr : g ≠ r) : (w.setCell ⟨r, o, none⟩ v).ownsRow 0 t k (.slice (some ⟨g, 0, none⟩) n cap) n xs := by
  rcases h.2 with ⟨e, _⟩ | ⟨g', cap', cur, e, h3, h4, h5⟩
  · cases e
  · injection e with e1 e2 e3
    injection e1 with e1
    injection e1 with e1
    subst e1
    exact Sc.owns_but h (Array.getElem?_eq_some_iff.1 h4).1 (Tk.But.setCell (E := fun x => x = r) (p := ⟨r, o, none⟩) (Tk.But.refl _ w) rfl v) hr
/-- A row of actions changes: the run stands. -/
theorem Sc.At.told {r gp gs cp : Nat} {vd vt : Value} {n : Nat} {a b c : Int} {D : List Int} {xs : List Value} {w w' : World} (h : Sc.At r gp gs cp vd a b c D w) (ht : w.ownsRow 0 52 2 vt n xs) (hb : Tk.But (fun x => vt.ownBlock = some x) w w') : Sc.At r gp gs cp vd a b c D w' := by
  obtain ⟨l1, l2, l3, l4⟩ := h.lts
  obtain ⟨cur, hp, hc⟩ := h.plan
  have kind : ∀ x, vt.ownBlock = some x → ∃ cs, w.heap[x]? = some (.cells cs 52 (0, 0)) := fun x hx => by
    rcases ht.2 with ⟨rfl, _⟩ | ⟨g', cap, cur, rfl, _, h4, _⟩
    · cases hx
    · have : g' = x := by simpa [Value.ownBlock] using hx
      subst this
      exact ⟨cur, h4⟩
  have n1 : vt.ownBlock ≠ some r := fun e => by
    obtain ⟨cs, e1⟩ := kind _ e
    have := h.run
    rw [e1] at this
    simp at this
  have n2 : vt.ownBlock ≠ some gp := fun e => by
    obtain ⟨cs, e1⟩ := kind _ e
    rw [e1] at hp
    simp at hp
  have n3 : vt.ownBlock ≠ some gs := fun e => by
    obtain ⟨cs, e1⟩ := kind _ e
    have := h.sts
    rw [e1] at this
    simp at this
  refine ⟨(hb.block _ l1 n1).trans h.run, ⟨cur, (hb.block _ l2 n2).trans hp, hc⟩, (hb.block _ l3 n3).trans h.sts, ⟨h.done.1, ?_⟩, h.far⟩
  rcases h.done.2 with hn | ⟨g', cap, cur, e, h3, h4, h5⟩
  · exact .inl hn
  · refine .inr ⟨g', cap, cur, e, h3, (hb.block _ (l4 g' (by rw [e]; rfl)) (fun e' => ?_)).trans h4, h5⟩
    obtain ⟨cs, e1⟩ := kind _ e'
    rw [e1] at h4
    simp at h4

set_option maxRecDepth 20000 in
set_option maxHeartbeats 1600000 in
theorem Try.sUndo_2 {r gp gs cp : Nat} {vd vt : Value} {a b c : Int} {D : List Int} {n : Nat} {xs : List Value} (hD : D ≠ []) (h8 : D.length ≤ 8) (hn8 : n ≤ 8) (w : World) (h : Sc.At r gp gs cp vd a b c D w) (ht : w.ownsRow 0 52 2 vt n xs) :
    Calls Try.prog 37 #[.pointer (some ⟨r, 0, none⟩), vt, .int .i64 2] w fun e w' => ∃ vt' vd', e = .returned vt' ∧ w'.ownsRow 0 52 2 vt' (n + 1) (xs ++ [.int .i64 2, .int .i64 2]) ∧ Sc.At r gp gs cp vd' a b 4 (D.filter fun x => !(x == 2)) w' ∧ vd'.ownBlock = vd.ownBlock ∧ (∀ g, vt'.ownBlock = some g → vt.ownBlock = some g ∨ w.heap.size ≤ g) ∧ Tk.But (fun x => x = r ∨ x = gs ∨ vd.ownBlock = some x ∨ vt.ownBlock = some x) w w' := by
  obtain ⟨i0, hi, hz0, hz1, hz2⟩ := info_parts Sc.infoAct
  obtain ⟨W0, hW0⟩ : ∃ y, w.alloc (.cells #[.int .i64 2] 3) = y := ⟨_, rfl⟩
  have b0 : Below w.heap.size w W0 := by rw [← hW0]; exact (Below.refl _ _).alloc (Nat.le_refl _) _
  have n0 : W0.heap[w.heap.size]? = some (.cells #[.int .i64 2] 3 (0, 0)) := by rw [← hW0]; exact heap_alloc_new _ _
  have s0 : W0.heap.size = w.heap.size + 1 := by rw [← hW0]; simp
  have x0 : W0.cell? ⟨w.heap.size, 0, none⟩ = some (.int .i64 2) := by simp [World.cell?, n0]
  have a0 := h.below b0
  have HL : Hid _ := h.lts
  have c0 := a0.c0.1
  have pl := a0.pls 8 (by omega)
  simp only [Sc.pl, List.getElem?_cons_succ, List.getElem?_cons_zero] at pl
  have H : Hid (Sc.At r gp gs cp vd a b c D W0 ∧ Below w.heap.size w W0 ∧ W0.heap.size = w.heap.size + 1 ∧ w.ownsRow 0 52 2 vt n xs) := ⟨a0, b0, s0, ht⟩
  have HW0 : Hid (w.alloc (.cells #[.int .i64 2] 3) = W0) := hW0
  clear a0 b0 s0 hW0 n0 h ht
  go_enter Try.func37, Try.ntmps37
  go_upto_region 1 with fail
  rw [HW0.out]
  go_quiet (fail)
  obtain ⟨W1, hW1⟩ : ∃ y, (W0.drewN nq).alloc (.cells #[.int .i64 2, .int .i64 2] 52) = y := ⟨_, rfl⟩
  have HW1 : Hid ((W0.drewN nq).alloc (.cells #[.int .i64 2, .int .i64 2] 52) = W1) := hW1
  have b1 : Below W0.heap.size W0 W1 := by rw [← hW1]; exact (below_drewN' (Below.refl _ _) _).alloc (Nat.le_refl _) _
  have n1 : W1.heap[W0.heap.size]? = some (.cells #[.int .i64 2, .int .i64 2] 52 (0, 0)) := by rw [← hW1]; exact heap_alloc_new _ _
  have s1 : W1.heap.size = W0.heap.size + 1 := by rw [← hW1]; simp
  have ht1 : W1.ownsRow 0 52 2 vt n xs := by
    refine ⟨H.out.2.2.2.1, ?_⟩
    rcases H.out.2.2.2.2 with hn | ⟨g', cap, cur, e, h3, h4, h5⟩
    · exact .inl hn
    · have hlt := (Array.getElem?_eq_some_iff.1 h4).1
      exact .inr ⟨g', cap, cur, e, h3, (b1.block _ (by have := H.out.2.2.1; omega)).trans ((H.out.2.1.block _ hlt).trans h4), h5⟩
  have x1 : W1.cell? ⟨w.heap.size, 0, none⟩ = some (.int .i64 2) := (b1.cell (p := ⟨w.heap.size, 0, none⟩) (by show w.heap.size < _; have := H.out.2.2.1; omega)).trans x0
  have a1 := H.out.1.below b1
  have HK : Hid (Sc.At r gp gs cp vd a b c D W1 ∧ Below W0.heap.size W0 W1 ∧ W1.heap.size = W0.heap.size + 1 ∧ W1.ownsRow 0 52 2 vt n xs) := ⟨a1, b1, s1, ht1⟩
  have hbx : vt.ownBlock ≠ some w.heap.size := fun e => by
    rcases H.out.2.2.2.2 with ⟨rfl, hn⟩ | ⟨g', cap, cur, rfl, h3, h4, h5⟩
    · cases e
    · have hlt := (Array.getElem?_eq_some_iff.1 h4).1
      have : g' = w.heap.size := by simpa [Value.ownBlock] using e
      omega
  have hlb : w.heap.size < W1.heap.size := by have := H.out.2.2.1; omega
  clear hW1 b1 s1 a1 pl c0
  go_upto_region 8 with (at_builtin; rw [HW1.out]; refine wpList_append_lies _ rfl _ _ 48 rfl 0 52 i0 (.agg #[.int .i64 0, .int .i64 0]) 2 16 Try.underlying48 hi hz0 hz1 hz2 rfl (by decide) vt n xs rfl ht1 ⟨W0.heap.size, 0, none⟩ 1 1 [.int .i64 2, .int .i64 2] rfl rfl (World.news_of_block n1) (by intro u hu; simp at hu; rcases hu with rfl | rfl <;> rfl) (by decide) (by unfold maxLen; omega) (by omega) (Nat.zero_le _) _ rfl ?_; intro g cap w5 own5 hgrow hloc hlt)
  have bg : Tk.But (fun x => vt.ownBlock = some x) W1 w5 := ⟨hgrow.os, hgrow.tape, hgrow.output, hgrow.size, fun j hj he => hgrow.block j hj (fun e => he e.symm)⟩
  have a5 := HK.out.1.told HK.out.2.2.2 bg
  have c51 := a5.c0.2.1
  have c52 := a5.c0.2.2
  obtain ⟨t0, t1, t2, tf⟩ := a5.st
  have x5 : w5.cell? ⟨w.heap.size, 0, none⟩ = some (.int .i64 2) := (hgrow.cell_far ⟨w.heap.size, 0, none⟩ hlb (fun e => hbx e.symm)).trans x1
  have a6 := (a5.set 4).2.2
  obtain ⟨w6, hw6⟩ : ∃ y, w5.setCell ⟨gs, 2, none⟩ (.int .i64 4) = y := ⟨_, rfl⟩
  rw [hw6] at a6
  have ngs : gs ≠ w.heap.size := Nat.ne_of_lt HL.out.2.2.1
  have x6 : w6.cell? ⟨w.heap.size, 0, none⟩ = some (.int .i64 2) := by rw [← hw6]; exact (World.cell?_setCell_other _ _ _ _ (fun e => ngs (congrArg Addr.block e))).trans x5
  have hvn : vd.ownBlock ≠ some w.heap.size := fun e => Nat.lt_irrefl _ (HL.out.2.2.2 _ e)
  have s6 : w.heap.size < w6.heap.size := by rw [← hw6]; simp only [World.setCell, Array.size_modify]; have := hgrow.size; omega
  have CD : Hid (∀ W, Below w6.heap.size w6 W → Calls Try.prog 43 #[vd, .func (.func 44) #[] #[.pointer (some ⟨w.heap.size, 0, none⟩)]] W fun e w' => ∃ v', e = .returned v' ∧ Hid (W = W ∧ w'.ownsRow 0 3 1 v' (D.filter fun x => !(x == 2)).length ((D.filter fun x => !(x == 2)).map encZ) ∧ v'.ownBlock = vd.ownBlock ∧ Tk.But (fun x => vd.ownBlock = some x) w6 w')) := fun W hb => (Try.del_any w.heap.size 2 hD h8 W (a6.below hb) ((hb.cell (p := ⟨w.heap.size, 0, none⟩) s6).trans x6) hvn).mono fun e w' ⟨v', h1, h2, h3, h4⟩ => ⟨v', h1, rfl, h2, h3, (Tk.But.of_below hb).trans h4⟩
  have c62 : w6.cell? ⟨r, 2, none⟩ = some vd := a6.c0.2.2
  have HA : Hid (Sc.At r gp gs cp vd a b 4 D w6) := a6
  have f62 : ∀ w', Tk.But (fun x => vd.ownBlock = some x) w6 w' → w'.cell? ⟨r, 2, none⟩ = some vd ∧ w'.frozen? ⟨r, 2, none⟩ = false := fun w' hb => by
    have e := (hb.block r a6.lts.1 (fun e => a6.nr e)).trans a6.run
    simp [World.cell?, World.frozen?, e]
  have HF : Hid _ := f62
  have HB6 : Hid (Tk.But (fun x => x = r ∨ x = gs ∨ vd.ownBlock = some x ∨ vt.ownBlock = some x) w w6) := by
    have e1 : Tk.But (fun x => x = r ∨ x = gs ∨ vd.ownBlock = some x ∨ vt.ownBlock = some x) w W0 := Tk.But.of_below H.out.2.1
    have e2 : Tk.But (fun x => x = r ∨ x = gs ∨ vd.ownBlock = some x ∨ vt.ownBlock = some x) W0 W1 := Tk.But.of_below HK.out.2.1
    have e3 := (e1.trans e2).trans (bg.mono fun x hx => .inr (.inr (.inr hx)))
    rw [← hw6]
    exact Tk.But.setCell (p := ⟨gs, 2, none⟩) e3 (.inr (.inl rfl)) _
  have h5g : ∃ cur, w5.heap[g]? = some (.cells cur 52 (0, 0)) := by
    rcases own5.2 with ⟨e, _⟩ | ⟨g', cap', cur, e, _, h4, _⟩
    · cases e
    · injection e with e1 e2 e3
      injection e1 with e1
      injection e1 with e1
      exact ⟨cur, by rw [e1]; exact h4⟩
  have HG : Hid (g ≠ r ∧ g ≠ gs ∧ vd.ownBlock ≠ some g) := by
    obtain ⟨cur, hg⟩ := h5g
    refine ⟨fun e => ?_, fun e => ?_, fun e => ?_⟩
    · have := a5.run
      rw [← e, hg] at this
      simp at this
    · have := a5.sts
      rw [← e, hg] at this
      simp at this
    · rcases a5.done.2 with ⟨e', _⟩ | ⟨g', cap', cur', e', _, h4, _⟩
      · rw [e'] at e
        cases e
      · have : g' = g := by
          rw [e'] at e
          simpa [Value.ownBlock] using e
        rw [this, hg] at h4
        simp at h4
  have HO : Hid (∀ w', Tk.But (fun x => vd.ownBlock = some x) w6 w' → w'.ownsRow 0 52 2 (.slice (some ⟨g, 0, none⟩) (n + 1) cap) (n + 1) (xs ++ [.int .i64 2, .int .i64 2])) := by
    intro w' hb
    have hb5 : Tk.But (fun x => x = gs ∨ vd.ownBlock = some x) w5 w' := by
      refine Tk.But.trans (b := w6) ?_ (hb.mono fun x hx => .inr hx)
      rw [← hw6]
      exact Tk.But.setCell (p := ⟨gs, 2, none⟩) (Tk.But.refl _ w5) (.inl rfl) _
    exact Sc.owns_but own5 hlt hb5 (fun e => e.elim HG.out.2.1 HG.out.2.2)
  have HW6 : Hid (w5.setCell ⟨gs, 2, none⟩ (.int .i64 4) = w6) := hw6
  clear h5g f62 a5 bg a6 x6 hw6 hvn x1 x0 n1 ht1
  go_region_law (fail)
  all_goals
    rw [HW6.out]
    go_wp2_with fail
    refine Calls.mono (CD.out _ (Below.refl _ _).drew) ?_
    rintro e w7 ⟨v', rfl, Q7⟩
    obtain ⟨c72, f72⟩ := HF.out w7 Q7.out.2.2.2
    obtain ⟨va, vn, vc, hv⟩ : ∃ va vn vc, v' = .slice va vn vc := by
      rcases Q7.out.2.1.2 with ⟨e, _⟩ | ⟨g', cap, cur, e, _⟩
      · exact ⟨_, _, _, e⟩
      · exact ⟨_, _, _, e⟩
    subst hv
    go_wp2
    go_ret
    have own7 : w7.ownsRow 0 52 2 (.slice (some ⟨g, 0, none⟩) (n + 1) cap) (n + 1) (xs ++ [.int .i64 2, .int .i64 2]) := HO.out w7 Q7.out.2.2.2
    refine ⟨_, _, rfl, ?_, HA.out.redone Q7.out.2.2.2 Q7.out.2.1 (by rw [Q7.out.2.2.1]; exact HA.out.far), Q7.out.2.2.1, ?_, ?_⟩
    · refine Sc.owns_set own7 r _ ?_
      exact HG.out.1
    · intro g' hg'
      have e' : g = g' := by simpa [Value.ownBlock] using hg'
      subst e'
      rcases hloc with hl | hl
      · exact .inl hl
      · refine .inr ?_
        have := H.out.2.2.1
        have := HK.out.2.2.1
        omega
    · refine Tk.But.setCell (p := ⟨r, 2, none⟩) ?_ (.inl rfl) _
      have q1 : Tk.But (fun x => x = r ∨ x = gs ∨ vd.ownBlock = some x ∨ vt.ownBlock = some x) w w6 := HB6.out
      exact q1.trans (Q7.out.2.2.2.mono fun x hx => .inr (.inr (.inl hx)))

set_option maxRecDepth 20000 in
set_option maxHeartbeats 1600000 in
theorem Try.sUndo_1 {r gp gs cp : Nat} {vd vt : Value} {a b c : Int} {D : List Int} {n : Nat} {xs : List Value} (hD : D ≠ []) (h8 : D.length ≤ 8) (hn8 : n ≤ 8) (w : World) (h : Sc.At r gp gs cp vd a b c D w) (ht : w.ownsRow 0 52 2 vt n xs) :
    Calls Try.prog 37 #[.pointer (some ⟨r, 0, none⟩), vt, .int .i64 1] w fun e w' => ∃ vt' vd', e = .returned vt' ∧ w'.ownsRow 0 52 2 vt' (n + 1) (xs ++ [.int .i64 2, .int .i64 1]) ∧ Sc.At r gp gs cp vd' a 4 c (D.filter fun x => !(x == 1)) w' ∧ vd'.ownBlock = vd.ownBlock ∧ (∀ g, vt'.ownBlock = some g → vt.ownBlock = some g ∨ w.heap.size ≤ g) ∧ Tk.But (fun x => x = r ∨ x = gs ∨ vd.ownBlock = some x ∨ vt.ownBlock = some x) w w' := by
  obtain ⟨i0, hi, hz0, hz1, hz2⟩ := info_parts Sc.infoAct
  obtain ⟨W0, hW0⟩ : ∃ y, w.alloc (.cells #[.int .i64 1] 3) = y := ⟨_, rfl⟩
  have b0 : Below w.heap.size w W0 := by rw [← hW0]; exact (Below.refl _ _).alloc (Nat.le_refl _) _
  have n0 : W0.heap[w.heap.size]? = some (.cells #[.int .i64 1] 3 (0, 0)) := by rw [← hW0]; exact heap_alloc_new _ _
  have s0 : W0.heap.size = w.heap.size + 1 := by rw [← hW0]; simp
  have x0 : W0.cell? ⟨w.heap.size, 0, none⟩ = some (.int .i64 1) := by simp [World.cell?, n0]
  have a0 := h.below b0
  have HL : Hid _ := h.lts
  have c0 := a0.c0.1
  have pl := a0.pls 5 (by omega)
  simp only [Sc.pl, List.getElem?_cons_succ, List.getElem?_cons_zero] at pl
  have H : Hid (Sc.At r gp gs cp vd a b c D W0 ∧ Below w.heap.size w W0 ∧ W0.heap.size = w.heap.size + 1 ∧ w.ownsRow 0 52 2 vt n xs) := ⟨a0, b0, s0, ht⟩
  have HW0 : Hid (w.alloc (.cells #[.int .i64 1] 3) = W0) := hW0
  clear a0 b0 s0 hW0 n0 h ht
  go_enter Try.func37, Try.ntmps37
  go_upto_region 1 with fail
  rw [HW0.out]
  go_quiet (fail)
  obtain ⟨W1, hW1⟩ : ∃ y, (W0.drewN nq).alloc (.cells #[.int .i64 2, .int .i64 1] 52) = y := ⟨_, rfl⟩
  have HW1 : Hid ((W0.drewN nq).alloc (.cells #[.int .i64 2, .int .i64 1] 52) = W1) := hW1
  have b1 : Below W0.heap.size W0 W1 := by rw [← hW1]; exact (below_drewN' (Below.refl _ _) _).alloc (Nat.le_refl _) _
  have n1 : W1.heap[W0.heap.size]? = some (.cells #[.int .i64 2, .int .i64 1] 52 (0, 0)) := by rw [← hW1]; exact heap_alloc_new _ _
  have s1 : W1.heap.size = W0.heap.size + 1 := by rw [← hW1]; simp
  have ht1 : W1.ownsRow 0 52 2 vt n xs := by
    refine ⟨H.out.2.2.2.1, ?_⟩
    rcases H.out.2.2.2.2 with hn | ⟨g', cap, cur, e, h3, h4, h5⟩
    · exact .inl hn
    · have hlt := (Array.getElem?_eq_some_iff.1 h4).1
      exact .inr ⟨g', cap, cur, e, h3, (b1.block _ (by have := H.out.2.2.1; omega)).trans ((H.out.2.1.block _ hlt).trans h4), h5⟩
  have x1 : W1.cell? ⟨w.heap.size, 0, none⟩ = some (.int .i64 1) := (b1.cell (p := ⟨w.heap.size, 0, none⟩) (by show w.heap.size < _; have := H.out.2.2.1; omega)).trans x0
  have a1 := H.out.1.below b1
  have HK : Hid (Sc.At r gp gs cp vd a b c D W1 ∧ Below W0.heap.size W0 W1 ∧ W1.heap.size = W0.heap.size + 1 ∧ W1.ownsRow 0 52 2 vt n xs) := ⟨a1, b1, s1, ht1⟩
  have hbx : vt.ownBlock ≠ some w.heap.size := fun e => by
    rcases H.out.2.2.2.2 with ⟨rfl, hn⟩ | ⟨g', cap, cur, rfl, h3, h4, h5⟩
    · cases e
    · have hlt := (Array.getElem?_eq_some_iff.1 h4).1
      have : g' = w.heap.size := by simpa [Value.ownBlock] using e
      omega
  have hlb : w.heap.size < W1.heap.size := by have := H.out.2.2.1; omega
  clear hW1 b1 s1 a1 pl c0
  go_upto_region 8 with (at_builtin; rw [HW1.out]; refine wpList_append_lies _ rfl _ _ 48 rfl 0 52 i0 (.agg #[.int .i64 0, .int .i64 0]) 2 16 Try.underlying48 hi hz0 hz1 hz2 rfl (by decide) vt n xs rfl ht1 ⟨W0.heap.size, 0, none⟩ 1 1 [.int .i64 2, .int .i64 1] rfl rfl (World.news_of_block n1) (by intro u hu; simp at hu; rcases hu with rfl | rfl <;> rfl) (by decide) (by unfold maxLen; omega) (by omega) (Nat.zero_le _) _ rfl ?_; intro g cap w5 own5 hgrow hloc hlt)
  have bg : Tk.But (fun x => vt.ownBlock = some x) W1 w5 := ⟨hgrow.os, hgrow.tape, hgrow.output, hgrow.size, fun j hj he => hgrow.block j hj (fun e => he e.symm)⟩
  have a5 := HK.out.1.told HK.out.2.2.2 bg
  have c51 := a5.c0.2.1
  have c52 := a5.c0.2.2
  obtain ⟨t0, t1, t2, tf⟩ := a5.st
  have x5 : w5.cell? ⟨w.heap.size, 0, none⟩ = some (.int .i64 1) := (hgrow.cell_far ⟨w.heap.size, 0, none⟩ hlb (fun e => hbx e.symm)).trans x1
  have a6 := (a5.set 4).2.1
  obtain ⟨w6, hw6⟩ : ∃ y, w5.setCell ⟨gs, 1, none⟩ (.int .i64 4) = y := ⟨_, rfl⟩
  rw [hw6] at a6
  have ngs : gs ≠ w.heap.size := Nat.ne_of_lt HL.out.2.2.1
  have x6 : w6.cell? ⟨w.heap.size, 0, none⟩ = some (.int .i64 1) := by rw [← hw6]; exact (World.cell?_setCell_other _ _ _ _ (fun e => ngs (congrArg Addr.block e))).trans x5
  have hvn : vd.ownBlock ≠ some w.heap.size := fun e => Nat.lt_irrefl _ (HL.out.2.2.2 _ e)
  have s6 : w.heap.size < w6.heap.size := by rw [← hw6]; simp only [World.setCell, Array.size_modify]; have := hgrow.size; omega
  have CD : Hid (∀ W, Below w6.heap.size w6 W → Calls Try.prog 43 #[vd, .func (.func 44) #[] #[.pointer (some ⟨w.heap.size, 0, none⟩)]] W fun e w' => ∃ v', e = .returned v' ∧ Hid (W = W ∧ w'.ownsRow 0 3 1 v' (D.filter fun x => !(x == 1)).length ((D.filter fun x => !(x == 1)).map encZ) ∧ v'.ownBlock = vd.ownBlock ∧ Tk.But (fun x => vd.ownBlock = some x) w6 w')) := fun W hb => (Try.del_any w.heap.size 1 hD h8 W (a6.below hb) ((hb.cell (p := ⟨w.heap.size, 0, none⟩) s6).trans x6) hvn).mono fun e w' ⟨v', h1, h2, h3, h4⟩ => ⟨v', h1, rfl, h2, h3, (Tk.But.of_below hb).trans h4⟩
  have c62 : w6.cell? ⟨r, 2, none⟩ = some vd := a6.c0.2.2
  have HA : Hid (Sc.At r gp gs cp vd a 4 c D w6) := a6
  have f62 : ∀ w', Tk.But (fun x => vd.ownBlock = some x) w6 w' → w'.cell? ⟨r, 2, none⟩ = some vd ∧ w'.frozen? ⟨r, 2, none⟩ = false := fun w' hb => by
    have e := (hb.block r a6.lts.1 (fun e => a6.nr e)).trans a6.run
    simp [World.cell?, World.frozen?, e]
  have HF : Hid _ := f62
  have HB6 : Hid (Tk.But (fun x => x = r ∨ x = gs ∨ vd.ownBlock = some x ∨ vt.ownBlock = some x) w w6) := by
    have e1 : Tk.But (fun x => x = r ∨ x = gs ∨ vd.ownBlock = some x ∨ vt.ownBlock = some x) w W0 := Tk.But.of_below H.out.2.1
    have e2 : Tk.But (fun x => x = r ∨ x = gs ∨ vd.ownBlock = some x ∨ vt.ownBlock = some x) W0 W1 := Tk.But.of_below HK.out.2.1
    have e3 := (e1.trans e2).trans (bg.mono fun x hx => .inr (.inr (.inr hx)))
    rw [← hw6]
    exact Tk.But.setCell (p := ⟨gs, 1, none⟩) e3 (.inr (.inl rfl)) _
  have h5g : ∃ cur, w5.heap[g]? = some (.cells cur 52 (0, 0)) := by
    rcases own5.2 with ⟨e, _⟩ | ⟨g', cap', cur, e, _, h4, _⟩
    · cases e
    · injection e with e1 e2 e3
      injection e1 with e1
      injection e1 with e1
      exact ⟨cur, by rw [e1]; exact h4⟩
  have HG : Hid (g ≠ r ∧ g ≠ gs ∧ vd.ownBlock ≠ some g) := by
    obtain ⟨cur, hg⟩ := h5g
    refine ⟨fun e => ?_, fun e => ?_, fun e => ?_⟩
    · have := a5.run
      rw [← e, hg] at this
      simp at this
    · have := a5.sts
      rw [← e, hg] at this
      simp at this
    · rcases a5.done.2 with ⟨e', _⟩ | ⟨g', cap', cur', e', _, h4, _⟩
      · rw [e'] at e
        cases e
      · have : g' = g := by
          rw [e'] at e
          simpa [Value.ownBlock] using e
        rw [this, hg] at h4
        simp at h4
  have HO : Hid (∀ w', Tk.But (fun x => vd.ownBlock = some x) w6 w' → w'.ownsRow 0 52 2 (.slice (some ⟨g, 0, none⟩) (n + 1) cap) (n + 1) (xs ++ [.int .i64 2, .int .i64 1])) := by
    intro w' hb
    have hb5 : Tk.But (fun x => x = gs ∨ vd.ownBlock = some x) w5 w' := by
      refine Tk.But.trans (b := w6) ?_ (hb.mono fun x hx => .inr hx)
      rw [← hw6]
      exact Tk.But.setCell (p := ⟨gs, 1, none⟩) (Tk.But.refl _ w5) (.inl rfl) _
    exact Sc.owns_but own5 hlt hb5 (fun e => e.elim HG.out.2.1 HG.out.2.2)
  have HW6 : Hid (w5.setCell ⟨gs, 1, none⟩ (.int .i64 4) = w6) := hw6
  clear h5g f62 a5 bg a6 x6 hw6 hvn x1 x0 n1 ht1
  go_region_law (fail)
  all_goals
    rw [HW6.out]
    go_wp2_with fail
    refine Calls.mono (CD.out _ (Below.refl _ _).drew) ?_
    rintro e w7 ⟨v', rfl, Q7⟩
    obtain ⟨c72, f72⟩ := HF.out w7 Q7.out.2.2.2
    obtain ⟨va, vn, vc, hv⟩ : ∃ va vn vc, v' = .slice va vn vc := by
      rcases Q7.out.2.1.2 with ⟨e, _⟩ | ⟨g', cap, cur, e, _⟩
      · exact ⟨_, _, _, e⟩
      · exact ⟨_, _, _, e⟩
    subst hv
    go_wp2
    go_ret
    have own7 : w7.ownsRow 0 52 2 (.slice (some ⟨g, 0, none⟩) (n + 1) cap) (n + 1) (xs ++ [.int .i64 2, .int .i64 1]) := HO.out w7 Q7.out.2.2.2
    refine ⟨_, _, rfl, ?_, HA.out.redone Q7.out.2.2.2 Q7.out.2.1 (by rw [Q7.out.2.2.1]; exact HA.out.far), Q7.out.2.2.1, ?_, ?_⟩
    · refine Sc.owns_set own7 r _ ?_
      exact HG.out.1
    · intro g' hg'
      have e' : g = g' := by simpa [Value.ownBlock] using hg'
      subst e'
      rcases hloc with hl | hl
      · exact .inl hl
      · refine .inr ?_
        have := H.out.2.2.1
        have := HK.out.2.2.1
        omega
    · refine Tk.But.setCell (p := ⟨r, 2, none⟩) ?_ (.inl rfl) _
      have q1 : Tk.But (fun x => x = r ∨ x = gs ∨ vd.ownBlock = some x ∨ vt.ownBlock = some x) w w6 := HB6.out
      exact q1.trans (Q7.out.2.2.2.mono fun x hx => .inr (.inr (.inl hx)))

end Go.Proofs
