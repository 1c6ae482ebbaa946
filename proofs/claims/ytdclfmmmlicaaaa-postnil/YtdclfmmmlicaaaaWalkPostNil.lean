/-
  The walk of PostNil.
-/
import Derived.Test.YtdclfmmmlicaaaaPsOne
import Derived.Test.YtdclfmmmlicaaaaPsNil
namespace Go.Proofs.Ytdclfmmmlicaaaa.PostNil
open Go.RowKit Go.Shelf Go.Maps

set_option maxRecDepth 20000 in
set_option maxHeartbeats 4000000 in
theorem walk (x k m : Int) (w : World) : Calls Try.prog 7 #[.agg #[.int .i64 x, .int .i64 k, .int .i64 m]] w fun e w' => e = .returned (.bool true) ∧ Below w.heap.size w w' := by
  obtain ⟨w0, hw0⟩ : ∃ y, w.alloc (.cells #[.int .i64 x, .int .i64 k, .int .i64 m] 31) = y := ⟨_, rfl⟩
  have b0 : Below w.heap.size w w0 := by rw [← hw0]; exact (Below.refl _ w).alloc (Nat.le_refl _) _
  have hs0 : w0.heap.size = w.heap.size + 1 := by rw [← hw0]; simp
  have hbl : w0.heap[w.heap.size]? = some (.cells #[.int .i64 x, .int .i64 k, .int .i64 m] 31 (0, 0)) := by rw [← hw0]; exact heap_alloc_new _ _
  have SB : Hid (∀ W : World, Below w0.heap.size w0 W → W.cell? ⟨w.heap.size, 1, none⟩ = some (.int .i64 k) ∧ W.cell? ⟨w.heap.size, 2, none⟩ = some (.int .i64 m)) := fun W e => by
    have := e.block w.heap.size (by omega)
    rw [hbl] at this
    simp [World.cell?, this]
  have c1 := (SB.out w0 (Below.refl _ _)).1
  have c2 := (SB.out w0 (Below.refl _ _)).2
  obtain ⟨p1, hp1⟩ : ∃ b, decide (0 ≤ k) = b := ⟨_, rfl⟩
  obtain ⟨p2, hp2⟩ : ∃ b, decide (k ≤ 999) = b := ⟨_, rfl⟩
  obtain ⟨q1, hq1⟩ : ∃ b, decide (0 ≤ m) = b := ⟨_, rfl⟩
  obtain ⟨q2, hq2⟩ : ∃ b, decide (m ≤ 3) = b := ⟨_, rfl⟩
  obtain ⟨e1, he1⟩ : ∃ e, Ps.nilE (decide (0 ≤ k) && decide (k ≤ 999)) = e := ⟨_, rfl⟩
  obtain ⟨e2, he2⟩ : ∃ e, Ps.nilE (decide (0 ≤ m) && decide (m ≤ 3)) = e := ⟨_, rfl⟩
  have f1 : (e1 == 7) = (p1 && p2) := by rw [← he1, hp1, hp2]; cases p1 <;> cases p2 <;> rfl
  have f2 : (e1 == 1) = !(p1 && p2) := by rw [← he1, hp1, hp2]; cases p1 <;> cases p2 <;> rfl
  have f3 : (e2 == 7) = (q1 && q2) := by rw [← he2, hq1, hq2]; cases q1 <;> cases q2 <;> rfl
  have f4 : (e2 == 1) = !(q1 && q2) := by rw [← he2, hq1, hq2]; cases q1 <;> cases q2 <;> rfl
  have C1 : Hid _ := Try.pOpen_nil k w0
  have C2 : Hid (∀ W : World, Calls Try.prog 17 #[.pointer none, .int .i64 k, .int .i64 m] W fun e w' => e = .returned (.int .i64 e2) ∧ Below W.heap.size W w') := fun W => by rw [← he2]; exact Try.pPut_nil k m W
  have C3 : Hid (∀ W : World, Calls Try.prog 18 #[.pointer none, .int .i64 k, .int .i64 m] W fun e w' => e = .returned (.int .i64 e2) ∧ Below W.heap.size W w') := fun W => by rw [← he2]; exact Try.pTake_nil k m W
  rw [he1] at C1
  have HB : Hid (Below w.heap.size w w0) := b0
  have HW0 : Hid (w.alloc (.cells #[.int .i64 x, .int .i64 k, .int .i64 m] 31) = w0) := hw0
  clear he1 he2 hw0 b0 hs0 hbl
  cases p1 <;> cases p2 <;> cases q1 <;> cases q2
  all_goals
    simp only [Bool.and_true, Bool.and_false, Bool.not_true, Bool.not_false] at f1 f2 f3 f4
    go_enter Try.func7, Try.ntmps7
    go_upto_region 2 with fail
    rw [HW0.out]
    go_wp2_with fail
    refine Calls.mono C1.out ?_
    rintro e W1 ⟨rfl, hW⟩
    obtain rfl := hW.symm
    go_wp2_with fail
    refine Calls.mono (C2.out _) ?_
    rintro e W2 ⟨rfl, hb⟩
    have d1 := (SB.out W2 hb).1
    have d2 := (SB.out W2 hb).2
    have H2 : Hid (Below w0.heap.size w0 W2) := hb
    clear hb
    go_wp2_with fail
    refine Calls.mono (C3.out _) ?_
    rintro e W3 ⟨rfl, hb⟩
    have h3 := H2.out.trans (hb.mono H2.out.size)
    have d3 := (SB.out W3 h3).1
    have H3 : Hid (Below w0.heap.size w0 W3) := h3
    clear hb h3
    go_wp2_with fail
    refine Calls.mono (Try.pWaiting_nil k W3) ?_
    rintro e W4 ⟨rfl, hb⟩
    have h4 := (H3.out.trans (hb.mono H3.out.size)).alloc (Nat.le_trans H3.out.size hb.size) (.cells #[.int .i64 0, .int .i64 0, .int .i64 0, .int .i64 0] 33)
    have d4 := (SB.out _ h4).1
    have H4 : Hid (Below w0.heap.size w0 (W4.alloc (.cells #[.int .i64 0, .int .i64 0, .int .i64 0, .int .i64 0] 33))) := h4
    simp only [Bx.val, Bx.none]
    clear hb h4
    go_wp2_with fail
    refine Calls.mono (Try.pClose_nil k _) ?_
    rintro e W5 ⟨rfl, rfl⟩
    go_wp2_with fail
    refine Calls.mono (Try.pKeys_nil _) ?_
    rintro e W6 ⟨rfl, rfl⟩
    go_wp2_with fail
    refine Calls.mono (Try.pCopy_nil _) ?_
    rintro e W7 ⟨rfl, rfl⟩
    go_wp2_with fail
    refine Calls.mono (Try.one_any _) ?_
    rintro e W8 ⟨rfl, hb⟩
    have H8 : Hid (Below w0.heap.size w0 W8) := H4.out.trans (hb.mono H4.out.size)
    clear hb
    go_wp2
    go_ret
    exact ⟨rfl, HB.out.trans (H8.out.mono HB.out.size)⟩

end Go.Proofs.Ytdclfmmmlicaaaa.PostNil
