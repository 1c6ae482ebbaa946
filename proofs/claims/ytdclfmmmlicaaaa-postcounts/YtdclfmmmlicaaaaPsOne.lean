/-
  one: the statements' example.
-/
import Derived.Test.YtdclfmmmlicaaaaPsInts
import Derived.Test.YtdclfmmmlicaaaaPsArr
namespace Go.Proofs
open Go.RowKit Go.Shelf Go.Maps

set_option maxRecDepth 20000 in
set_option maxHeartbeats 4000000 in
theorem Try.one_any (w : World) : Calls Try.prog 9 #[] w fun e w' => e = .returned (.bool true) ∧ Below w.heap.size w w' := by
  have wf5 : (Lit.int .i64 5).wf = true := by decide
  have hq4 : ∀ W : World, (Op.equalIn 10000 33 (.agg #[.int .i64 0, .int .i64 0, .int .i64 0, .int .i64 0]) (.agg #[.int .i64 0, .int .i64 0, .int .i64 0, .int .i64 0])).run Try.prog W = .ok true W := fun W => Ps.arr_eq 0 0 0 0 W
  have hg4 := Ps.guard_arr
  have wf6 : (Lit.int .i64 6).wf = true := by decide
  go_enter Try.func9, Try.ntmps9
  go_wp2_with fail
  refine Calls.mono (Try.pNew_any w) ?_
  rintro e W1 ⟨rfl, hA, hb⟩
  obtain ⟨o, ho⟩ : ∃ x, w.heap.size = x := ⟨_, rfl⟩
  rw [ho] at hA
  have H1 : Hid (Ps.At o none [] W1 ∧ Below w.heap.size w W1 ∧ w.heap.size = o) := ⟨hA, hb, ho⟩
  rw [ho]
  clear hA hb ho
  go_wp2_with fail
  refine Calls.mono (Try.pOpen_any o none [] 5 wf5 W1 H1.out.1) ?_
  rintro e W2 ⟨rfl, ⟨pm, hp, hA⟩, hb⟩
  have e2 : Ps.openE [] 5 = 0 := by decide
  have m2 : Ps.openM [] 5 = [(5, Bx.none)] := by decide
  rw [m2] at hA
  rw [e2]
  have H2 : Hid (Ps.At o pm [(5, Bx.none)] W2 ∧ Tk.But (fun x => x = o ∨ none = some x) W1 W2 ∧ (pm = none ∨ ∃ b, pm = some b ∧ W1.heap.size ≤ b)) := ⟨hA, hb, hp⟩
  clear hA hb hp e2 m2
  go_wp2_with fail
  refine Calls.mono (Try.pPut_any o pm [(5, Bx.none)] 5 1 wf5 W2 H2.out.1 (by unfold Bx.ok; decide) (by decide)) ?_
  rintro e W3 ⟨rfl, hA, hb⟩
  have e2 : Ps.putE [(5, Bx.none)] 5 1 = 0 := by decide
  have m2 : Ps.putM [(5, Bx.none)] 5 1 = [(5, (0, 1, 0, 0))] := by decide
  rw [m2] at hA
  rw [e2]
  have H3 : Hid (Ps.At o pm [(5, (0, 1, 0, 0))] W3 ∧ Tk.But (fun x => x = o ∨ pm = some x) W2 W3) := ⟨hA, hb⟩
  clear hA hb e2 m2
  go_wp2_with fail
  refine Calls.mono (Try.pTake_any o pm [(5, (0, 1, 0, 0))] 6 1 wf6 W3 H3.out.1 (by unfold Bx.ok; decide) (by decide)) ?_
  rintro e W4 ⟨rfl, hA, hb⟩
  have e2 : Ps.takeE [(5, (0, 1, 0, 0))] 6 1 = 6 := by decide
  have m2 : Ps.takeM [(5, (0, 1, 0, 0))] 6 1 = [(5, (0, 1, 0, 0))] := by decide
  rw [m2] at hA
  rw [e2]
  have H4 : Hid (Ps.At o pm [(5, (0, 1, 0, 0))] W4 ∧ Tk.But (fun x => x = o ∨ pm = some x) W3 W4) := ⟨hA, hb⟩
  clear hA hb e2 m2
  go_wp2_with fail
  refine Calls.mono (Try.pTake_any o pm [(5, (0, 1, 0, 0))] 5 1 wf5 W4 H4.out.1 (by unfold Bx.ok; decide) (by decide)) ?_
  rintro e W5 ⟨rfl, hA, hb⟩
  have e2 : Ps.takeE [(5, (0, 1, 0, 0))] 5 1 = 0 := by decide
  have m2 : Ps.takeM [(5, (0, 1, 0, 0))] 5 1 = [(5, Bx.none)] := by decide
  rw [m2] at hA
  rw [e2]
  have H5 : Hid (Ps.At o pm [(5, Bx.none)] W5 ∧ Tk.But (fun x => x = o ∨ pm = some x) W4 W5) := ⟨hA, hb⟩
  clear hA hb e2 m2
  go_wp2_with fail
  refine Calls.mono (Try.pWaiting_any o pm [(5, Bx.none)] 5 wf5 W5 H5.out.1) ?_
  rintro e W6 ⟨rfl, hb⟩
  have e2 : Ps.get [(5, Bx.none)] 5 = (0, 0, 0, 0) := by decide
  have m2 : Ps.has [(5, Bx.none)] 5 = true := by decide
  rw [e2, m2]
  simp only [Bx.val]
  have H6 : Hid (Ps.At o pm [(5, Bx.none)] (W6.alloc (.cells #[.int .i64 0, .int .i64 0, .int .i64 0, .int .i64 0] 33)) ∧ Below W5.heap.size W5 W6) := ⟨(H5.out.1.below hb (Nat.le_refl _)).alloc _, hb⟩
  clear hb e2 m2
  go_wp2_with fail
  refine Calls.mono (Try.pKeys_any o pm [(5, Bx.none)] _ H6.out.1 (by decide)) ?_
  rintro e W7 ⟨v, rfl, hrow, hb⟩
  obtain ⟨a, c, rfl⟩ := Ps.own_shape hrow
  have e2 : Ps.keysS [(5, Bx.none)] = [5] := by simp [Ps.keysS, Ps.key]
  rw [e2] at hrow
  have n1 := Ps.nums_of_own hrow
  obtain ⟨w8, hw8⟩ : ∃ x, W7.alloc (.cells #[.int .i64 5] 3) = x := ⟨_, rfl⟩
  have b8 : Below W7.heap.size W7 w8 := by rw [← hw8]; exact (Below.refl _ _).alloc (Nat.le_refl _) _
  have n2 : Ps.Nums w8 w8.heap.size (some ⟨W7.heap.size, 0, none⟩) [5] := by
    intro j hj
    have : j = 0 := by simpa using hj
    subst this
    refine ⟨W7.heap.size, 0, rfl, by rw [← hw8]; simp, ?_⟩
    rw [← hw8]
    simp
  have H7 : Hid (Ps.Nums w8 w8.heap.size a [5] ∧ Ps.Nums w8 w8.heap.size (some ⟨W7.heap.size, 0, none⟩) [5] ∧ Below W7.heap.size W7 w8 ∧ Below (W6.heap.size + 1) (W6.alloc (.cells #[.int .i64 0, .int .i64 0, .int .i64 0, .int .i64 0] 33)) W7) := ⟨(n1.below b8).wider b8.size, n2, b8, by simpa using hb⟩
  have HW8 : Hid (W7.alloc (.cells #[.int .i64 5] 3) = w8) := hw8
  clear hrow hb n1 n2 b8 hw8 e2
  go_wp2_with fail
  rw [HW8.out]
  refine Calls.mono (Try.pInts_same a (some ⟨W7.heap.size, 0, none⟩) c 1 [5] w8 H7.out.1 H7.out.2.1 (by decide)) ?_
  rintro e W9 ⟨rfl, hb⟩
  have H9 : Hid (Below w8.heap.size w8 W9) := hb
  clear hb
  go_wp2
  go_ret
  refine ⟨rfl, ?_⟩
  have s1 := H1.out.2.1.size
  have s2 := H2.out.2.1.size
  have s3 := H3.out.2.size
  have s4 := H4.out.2.size
  have s5 := H5.out.2.size
  have s6 := H6.out.2.size
  have t1 := H1.out.2.2
  have hpm : ∀ x, pm = some x → w.heap.size ≤ x := by
    intro x hx
    rcases H2.out.2.2 with e | ⟨b, e, h⟩
    · rw [e] at hx
      cases hx
    · rw [e] at hx
      cases hx
      omega
  have k2 : Below w.heap.size w W2 := H1.out.2.1.trans (H2.out.2.1.below (by omega) (by rintro x hx (e | e); omega; cases e))
  have k3 : Below w.heap.size w W3 := k2.trans (H3.out.2.below (by omega) (by rintro x hx (e | e); omega; have := hpm x e; omega))
  have k4 : Below w.heap.size w W4 := k3.trans (H4.out.2.below (by omega) (by rintro x hx (e | e); omega; have := hpm x e; omega))
  have k5 : Below w.heap.size w W5 := k4.trans (H5.out.2.below (by omega) (by rintro x hx (e | e); omega; have := hpm x e; omega))
  have k6 : Below w.heap.size w W6 := k5.trans (H6.out.2.mono (by omega))
  have k7 := (k6.alloc k6.size (.cells #[.int .i64 0, .int .i64 0, .int .i64 0, .int .i64 0] 33)).trans (H7.out.2.2.2.mono (by omega))
  have k8 := k7.trans (H7.out.2.2.1.mono k7.size)
  exact k8.trans (H9.out.mono k8.size)

end Go.Proofs
