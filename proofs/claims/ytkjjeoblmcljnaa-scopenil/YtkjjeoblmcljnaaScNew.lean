/-
  A new run, of the statements' example.
-/
import Derived.Test.YtkjjeoblmcljnaaScFault
import Derived.Deep.OwnRows
namespace Go.Proofs
open Go.RowKit Go.Shelf Go.Sort

theorem Sc.infoScope : (Try.prog.info? 56).map (fun i => (i.zero, i.size, i.bytes)) = some (some (.agg #[.int .i64 0, .bool false, .bool false]), 3, 16) := by kernel_rfl
theorem Sc.lit {g : Nat} {w : World} (h : w.heap[g]? = some (.cells Sc.pl.toArray 56 (0, 0))) : ∀ W, Below w.heap.size w W → (W.cell? ⟨g, 0, none⟩ = some (.int .i64 (-1)) ∧ W.cell? ⟨g, 1, none⟩ = some (.bool true) ∧ W.cell? ⟨g, 2, none⟩ = some (.bool false) ∧ W.cell? ⟨g, 3, none⟩ = some (.int .i64 0) ∧ W.cell? ⟨g, 4, none⟩ = some (.bool false) ∧ W.cell? ⟨g, 5, none⟩ = some (.bool true) ∧ W.cell? ⟨g, 6, none⟩ = some (.int .i64 0) ∧ W.cell? ⟨g, 7, none⟩ = some (.bool false) ∧ W.cell? ⟨g, 8, none⟩ = some (.bool true)) := fun W hb => by
  have e := (hb.block g (Array.getElem?_eq_some_iff.1 h).1).trans h
  simp [World.cell?, e, Sc.pl]

theorem Sc.gen_rounds {P : Program} {c : Code} {Q : Exit → Act → World → Prop} {n : Nat} {a : Act} {w W : World} (hb : Below w.heap.size w W) (h : ∀ W', Below w.heap.size w W' → Code.rounds P c Q n a W') : Code.rounds P c Q n a W := h W hb
set_option maxRecDepth 20000 in
set_option maxHeartbeats 1600000 in
theorem Try.isPlan_lit (g : Nat) (w : World) (h : w.heap[g]? = some (.cells Sc.pl.toArray 56 (0, 0))) : Calls Try.prog 21 #[.slice (some ⟨g, 0, none⟩) 3 3] w fun e w' => e = .returned (.bool true) ∧ Below w.heap.size w w' := by
  have L : Hid _ := Sc.lit h
  obtain ⟨c0, c1, c2, c3, c4, c5, c6, c7, c8⟩ := Sc.lit h w (Below.refl _ _)
  clear h
  go_enter Try.func21, Try.ntmps21
  go_wp2
  refine wp_loop_rounds 3 ?_
  rw [rounds_succ]
  go_wp2
  refine Sc.gen_rounds (w := w) ((Below.refl _ _).alloc (Nat.le_refl _) _) ?_
  intro W1 hb1
  obtain ⟨d0, d1, d2, d3, d4, d5, d6, d7, d8⟩ := L.out W1 hb1
  have HB1 : Hid _ := hb1
  clear c0 c1 c2 c3 c4 c5 c6 c7 c8 hb1
  rw [rounds_succ]
  go_wp2
  refine Sc.gen_rounds (w := w) (HB1.out.alloc HB1.out.size _) ?_
  intro W2 hb2
  have HB2 : Hid _ := hb2
  clear d0 d1 d2 d3 d4 d5 d6 d7 d8 hb2
  rw [rounds_succ]
  go_wp2
  go_ret
  exact ⟨rfl, HB2.out⟩

set_option maxRecDepth 20000 in
set_option maxHeartbeats 1600000 in
theorem Try.cloneS_lit (g : Nat) (w : World) (h : w.heap[g]? = some (.cells Sc.pl.toArray 56 (0, 0))) : Calls Try.prog 22 #[.slice (some ⟨g, 0, none⟩) 3 3] w fun e w' => ∃ gp cp, e = .returned (.slice (some ⟨gp, 0, none⟩) 3 cp) ∧ Hid (w.heap.size ≤ gp ∧ (∃ cur, w'.heap[gp]? = some (.cells cur 56 (0, 0)) ∧ cur.toList.take 9 = Sc.pl) ∧ Below w.heap.size w w') := by
  obtain ⟨i0, hi, hz0, hz1, hz2⟩ := info_parts Sc.infoScope
  have hlt := (Array.getElem?_eq_some_iff.1 h).1
  obtain ⟨W1, hW1⟩ : ∃ y, w.alloc (.cells #[] 56) = y := ⟨_, rfl⟩
  have b1 : Below w.heap.size w W1 := by rw [← hW1]; exact (Below.refl _ _).alloc (Nat.le_refl _) _
  have n1 : W1.heap[w.heap.size]? = some (.cells #[] 56 (0, 0)) := by rw [← hW1]; exact heap_alloc_new _ _
  have s1 := b1.size
  have g1 : W1.heap[g]? = some (.cells Sc.pl.toArray 56 (0, 0)) := (b1.block g hlt).trans h
  have own1 : W1.ownsRow w.heap.size 56 3 (.slice (some ⟨w.heap.size, 0, none⟩) 0 0) 0 [] := ⟨rfl, .inr ⟨w.heap.size, 0, #[], rfl, Nat.le_refl _, n1, Nat.le_refl _, by decide, rfl, rfl⟩⟩
  have HW1 : Hid (w.alloc (.cells #[] 56) = W1) := hW1
  have HB1 : Hid (Below w.heap.size w W1) := b1
  have hq : ∀ W : World, (binOp BinOp.eql 22 (.slice (some ⟨g, 0, none⟩) 3 3) (.slice none 0 0)).run Try.prog W = .ok (.bool false) W := fun _ => by kernel_rfl
  clear h hlt hW1 b1 n1
  go_enter Try.func22, Try.ntmps22
  go_wp2_with (at_builtin; rw [HW1.out]; refine wpList_append_lies _ rfl _ _ 22 rfl w.heap.size 56 i0 (.agg #[.int .i64 0, .bool false, .bool false]) 3 16 Try.underlying22 hi hz0 hz1 hz2 rfl (by decide) (.slice (some ⟨w.heap.size, 0, none⟩) 0 0) 0 [] rfl own1 ⟨g, 0, none⟩ 3 3 Sc.pl rfl rfl (World.news_of_block g1) (by intro u hu; simp [Sc.pl] at hu; rcases hu with rfl | rfl | rfl | rfl | rfl | rfl | rfl | rfl | rfl <;> rfl) (by decide) (by unfold maxLen; omega) (by omega) s1 _ rfl ?_; intro gp cp w5 own5 hgrow hloc hlt5)
  go_ret
  refine ⟨gp, cp, rfl, ?_, ?_, ?_⟩
  · rcases hloc with hl | hl
    · have : w.heap.size = gp := by simpa [Value.ownBlock] using hl
      omega
    · have := HB1.out.size
      omega
  · rcases own5.2 with ⟨e, _⟩ | ⟨g', cap', cur, e, _, h4, _, _, _, h7⟩
    · cases e
    · injection e with e1 e2 e3
      injection e1 with e1
      injection e1 with e1
      subst e1
      exact ⟨cur, h4, h7⟩
  · refine HB1.out.trans ⟨hgrow.os, hgrow.tape, hgrow.output, hgrow.size, fun j hj => hgrow.block j (by have := HB1.out.size; omega) (fun e => ?_)⟩
    have : w.heap.size = j := by simpa [Value.ownBlock] using e.symm
    omega

theorem Sc.make3 (W : World) : (Instr.makeSlice 44 (.int .i64 3) (.int .i64 3)).run Try.prog W = .ok (.slice (some ⟨W.heap.size, 0, none⟩) 3 3) (W.alloc (.cells #[.int .i64 0, .int .i64 0, .int .i64 0] 3)) := by
  have h := run_make_row' (P := Try.prog) 44 3 (.int .i64 0) 8 Try.underlying44 Sc.infoInt rfl .i64 .i64 3 (by omega) (by omega) W
  exact h.trans (by rw [show madeCells #[Value.int .i64 0] 3 = #[.int .i64 0, .int .i64 0, .int .i64 0] by kernel_rfl])

/-- A run, just boxed. -/
theorem Sc.At.fresh {gp gs cp : Nat} {W : World} (hp : ∃ cur, W.heap[gp]? = some (.cells cur 56 (0, 0)) ∧ cur.toList.take 9 = Sc.pl) (hs : W.heap[gs]? = some (.cells #[.int .i64 0, .int .i64 0, .int .i64 0] 3 (0, 0))) :
    Sc.At W.heap.size gp gs cp (.slice none 0 0) 0 0 0 [] (W.alloc (.cells #[.slice (some ⟨gp, 0, none⟩) 3 cp, .slice (some ⟨gs, 0, none⟩) 3 3, .slice none 0 0] 62)) := by
  have b : Below W.heap.size W (W.alloc (.cells #[.slice (some ⟨gp, 0, none⟩) 3 cp, .slice (some ⟨gs, 0, none⟩) 3 3, .slice none 0 0] 62)) := (Below.refl _ _).alloc (Nat.le_refl _) _
  obtain ⟨cur, h4, h5⟩ := hp
  exact ⟨heap_alloc_new _ _, ⟨cur, (b.block gp (Array.getElem?_eq_some_iff.1 h4).1).trans h4, h5⟩, (b.block gs (Array.getElem?_eq_some_iff.1 hs).1).trans hs, ⟨rfl, .inl ⟨rfl, rfl⟩⟩, fun e => by cases e⟩

set_option maxRecDepth 20000 in
set_option maxHeartbeats 1600000 in
theorem Try.sNew_lit (g : Nat) (w : World) (h : w.heap[g]? = some (.cells Sc.pl.toArray 56 (0, 0))) : Calls Try.prog 9 #[.slice (some ⟨g, 0, none⟩) 3 3] w fun e w' => ∃ r gp gs cp, e = .returned (.tuple #[.pointer (some ⟨r, 0, none⟩), .int .i64 0]) ∧ w.heap.size ≤ r ∧ w.heap.size ≤ gs ∧ Sc.At r gp gs cp (.slice none 0 0) 1 0 0 [] w' ∧ Below w.heap.size w w' := by
  have hlt := (Array.getElem?_eq_some_iff.1 h).1
  have CP : Hid _ := Try.isPlan_lit g w h
  have CC : Hid (∀ W, Below w.heap.size w W → Calls Try.prog 22 #[.slice (some ⟨g, 0, none⟩) 3 3] W fun e w' => ∃ gp cp, e = .returned (.slice (some ⟨gp, 0, none⟩) 3 cp) ∧ Hid (W.heap.size ≤ gp ∧ (∃ cur, w'.heap[gp]? = some (.cells cur 56 (0, 0)) ∧ cur.toList.take 9 = Sc.pl) ∧ Below W.heap.size W w')) := fun W hb => Try.cloneS_lit g W ((hb.block g hlt).trans h)
  have mk := Sc.make3
  clear h hlt
  go_enter Try.func9, Try.ntmps9
  go_wp2_with fail
  refine Calls.mono CP.out ?_
  rintro e W1 ⟨rfl, B1⟩
  have HB1 : Hid (Below w.heap.size w W1) := B1
  clear B1 CP
  go_upto_region 3 with fail
  go_region_law (first
    | (go_simp; go_at_call 22; refine Calls.mono (CC.out _ (by first | exact HB1.out | exact HB1.out.drew | exact HB1.out.alloc HB1.out.size _ | exact HB1.out.drew.alloc HB1.out.size _)) ?_; rintro e W2 ⟨gp, cp, rfl, HC2⟩))
  · obtain ⟨hg, hp, hb⟩ := HC2.out
    obtain ⟨W3, hW3⟩ : ∃ y, W2.alloc (.cells #[.int .i64 0, .int .i64 0, .int .i64 0] 3) = y := ⟨_, rfl⟩
    obtain ⟨W4, hW4⟩ : ∃ y, W3.alloc (.cells #[.slice (some ⟨gp, 0, none⟩) 3 cp, .slice (some ⟨W2.heap.size, 0, none⟩) 3 3, .slice none 0 0] 62) = y := ⟨_, rfl⟩
    have b12 : Below w.heap.size w W2 := HB1.out.drew.trans (hb.mono HB1.out.size)
    have b3 : Below W2.heap.size W2 W3 := by rw [← hW3]; exact (Below.refl _ _).alloc (Nat.le_refl _) _
    have s3 : W3.heap.size = W2.heap.size + 1 := by rw [← hW3]; simp
    have n3 : W3.heap[W2.heap.size]? = some (.cells #[.int .i64 0, .int .i64 0, .int .i64 0] 3 (0, 0)) := by rw [← hW3]; exact heap_alloc_new _ _
    have b4 : Below W3.heap.size W3 W4 := by rw [← hW4]; exact (Below.refl _ _).alloc (Nat.le_refl _) _
    have a4 : Sc.At (W2.heap.size + 1) gp W2.heap.size cp (.slice none 0 0) 0 0 0 [] W4 := by
      obtain ⟨cur, h4, h5⟩ := hp
      have h4' := (b3.block gp (Array.getElem?_eq_some_iff.1 h4).1).trans h4
      rw [← s3, ← hW4]
      exact Sc.At.fresh ⟨cur, h4', h5⟩ n3
    have b24 : Below w.heap.size w W4 := (b12.trans (b3.mono b12.size)).trans (b4.mono (by have := b12.size; omega))
    have HW3 : Hid _ := hW3
    have HW4 : Hid _ := hW4
    have HA : Hid (Sc.At (W2.heap.size + 1) gp W2.heap.size cp (.slice none 0 0) 0 0 0 [] W4 ∧ Below w.heap.size w W4 ∧ w.heap.size ≤ W2.heap.size) := ⟨a4, b24, b12.size⟩
    have c1 := a4.c0.2.1
    obtain ⟨t0, t1, t2, tf⟩ := a4.st
    clear hg hp hb b12 b3 s3 n3 b4 a4 b24 hW3 hW4 mk HC2
    rw [HW3.out, HW4.out]
    go_wp2
    go_ret2
    refine ⟨_, gp, _, cp, rfl, by have := HA.out.2.2; omega, HA.out.2.2, (HA.out.1.set 1).1, HA.out.2.1.setCell (p := ⟨W2.heap.size, 0, none⟩) HA.out.2.2 _⟩
  · obtain ⟨hg, hp, hb⟩ := HC2.out
    have b1 : Below W1.heap.size W1 (W1.alloc (.cells #[.int .i64 0, .int .i64 0, .int .i64 0] 3)).drew := ((Below.refl _ _).alloc (Nat.le_refl _) _).drew
    have s1 : (W1.alloc (.cells #[.int .i64 0, .int .i64 0, .int .i64 0] 3)).drew.heap.size = W1.heap.size + 1 := by simp
    have n1 : (W1.alloc (.cells #[.int .i64 0, .int .i64 0, .int .i64 0] 3)).drew.heap[W1.heap.size]? = some (.cells #[.int .i64 0, .int .i64 0, .int .i64 0] 3 (0, 0)) := heap_alloc_new _ _
    obtain ⟨W4, hW4⟩ : ∃ y, W2.alloc (.cells #[.slice (some ⟨gp, 0, none⟩) 3 cp, .slice (some ⟨W1.heap.size, 0, none⟩) 3 3, .slice none 0 0] 62) = y := ⟨_, rfl⟩
    have n2 : W2.heap[W1.heap.size]? = some (.cells #[.int .i64 0, .int .i64 0, .int .i64 0] 3 (0, 0)) := (hb.block _ (by rw [s1]; omega)).trans n1
    have b12 : Below w.heap.size w W2 := (HB1.out.trans (b1.mono HB1.out.size)).trans (hb.mono (by have := HB1.out.size; omega))
    have b4 : Below W2.heap.size W2 W4 := by rw [← hW4]; exact (Below.refl _ _).alloc (Nat.le_refl _) _
    have a4 : Sc.At W2.heap.size gp W1.heap.size cp (.slice none 0 0) 0 0 0 [] W4 := by
      rw [← hW4]
      exact Sc.At.fresh hp n2
    have b24 : Below w.heap.size w W4 := b12.trans (b4.mono b12.size)
    have HW4 : Hid _ := hW4
    have HA : Hid (Sc.At W2.heap.size gp W1.heap.size cp (.slice none 0 0) 0 0 0 [] W4 ∧ Below w.heap.size w W4 ∧ w.heap.size ≤ W2.heap.size ∧ w.heap.size ≤ W1.heap.size) := ⟨a4, b24, b12.size, HB1.out.size⟩
    have c1 := a4.c0.2.1
    obtain ⟨t0, t1, t2, tf⟩ := a4.st
    clear hg hp hb b12 b1 s1 n1 n2 b4 a4 b24 hW4 mk HC2
    rw [HW4.out]
    go_wp2
    go_ret2
    exact ⟨_, gp, _, cp, rfl, HA.out.2.2.1, HA.out.2.2.2, (HA.out.1.set 1).1, HA.out.2.1.setCell (p := ⟨W1.heap.size, 0, none⟩) HA.out.2.2.2 _⟩

end Go.Proofs
