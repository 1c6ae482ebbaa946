/-
  The walk of ClockNil.
-/
import Derived.Test.YtolniefefohbjaaCkTwo
namespace Go.Proofs.Ytolniefefohbjaa.ClockNil
open Go.RowKit Go.Shelf

set_option maxRecDepth 20000 in
set_option maxHeartbeats 4000000 in
theorem walk (x k m : Int) (w : World) : Calls Try.prog 7 #[.agg #[.int .i64 x, .int .i64 k, .int .i64 m]] w fun e w' => e = .returned (.bool true) ∧ Below w.heap.size w w' := by
  obtain ⟨w0, hw0⟩ : ∃ y, w.alloc (.cells #[.int .i64 x, .int .i64 k, .int .i64 m] 31) = y := ⟨_, rfl⟩
  have b0 : Below w.heap.size w w0 := by rw [← hw0]; exact (Below.refl _ w).alloc (Nat.le_refl _) _
  have hs0 : w0.heap.size = w.heap.size + 1 := by rw [← hw0]; simp
  have hbl : w0.heap[w.heap.size]? = some (.cells #[.int .i64 x, .int .i64 k, .int .i64 m] 31 (0, 0)) := by rw [← hw0]; exact heap_alloc_new _ _
  have SB : Hid (∀ W : World, Below w0.heap.size w0 W → W.cell? ⟨w.heap.size, 1, none⟩ = some (.int .i64 k) ∧ W.cell? ⟨w.heap.size, 2, none⟩ = some (.int .i64 m)) := fun W e => by
    have := e.block w.heap.size (by omega)
    rw [hbl] at this
    simp [World.cell?, this]
  have c1 := (SB.out w0 (Below.refl _ _)).1
  have c2 := (SB.out w0 (Below.refl _ _)).2
  obtain ⟨p1, hp1⟩ : ∃ b, decide (0 ≤ k) = b := ⟨_, rfl⟩
  obtain ⟨q1, hq1⟩ : ∃ b, decide (0 ≤ m) = b := ⟨_, rfl⟩
  obtain ⟨q2, hq2⟩ : ∃ b, decide (m ≤ 1099511627776) = b := ⟨_, rfl⟩
  obtain ⟨e1, he1⟩ : ∃ e, Ck.nilE (decide (0 ≤ k) && Ck.time m) = e := ⟨_, rfl⟩
  obtain ⟨e2, he2⟩ : ∃ e, Ck.nilE (Ck.time m) = e := ⟨_, rfl⟩
  have ht : Ck.time m = (q1 && q2) := by unfold Ck.time; rw [hq1, hq2]
  have f1 : (e1 == 7) = (p1 && (q1 && q2)) := by rw [← he1, ht, hp1]; cases p1 <;> cases q1 <;> cases q2 <;> rfl
  have f2 : (e1 == 1) = !(p1 && (q1 && q2)) := by rw [← he1, ht, hp1]; cases p1 <;> cases q1 <;> cases q2 <;> rfl
  have f3 : (e2 == 7) = (q1 && q2) := by rw [← he2, ht]; cases q1 <;> cases q2 <;> rfl
  have f4 : (e2 == 1) = !(q1 && q2) := by rw [← he2, ht]; cases q1 <;> cases q2 <;> rfl
  have C1 : Hid _ := Try.cSet_nil k m w0
  have C2 : Hid _ := Try.cTick_nil m w0
  rw [he1] at C1
  rw [he2] at C2
  have HB : Hid (Below w.heap.size w w0) := b0
  have HW0 : Hid (w.alloc (.cells #[.int .i64 x, .int .i64 k, .int .i64 m] 31) = w0) := hw0
  clear he1 he2 hw0 b0 hs0 hbl ht
  cases p1 <;> cases q1 <;> cases q2
  all_goals
    simp only [Bool.and_true, Bool.and_false, Bool.not_true, Bool.not_false] at f1 f2 f3 f4
    go_enter Try.func7, Try.ntmps7
    go_upto_region 2 with fail
    rw [HW0.out]
    go_wp2_with fail
    refine Calls.mono C1.out ?_
    rintro e W1 ⟨rfl, hW⟩
    obtain rfl := hW.symm
    clear hW
    go_wp2_with fail
    refine Calls.mono C2.out ?_
    rintro e W2 ⟨rfl, hW⟩
    obtain rfl := hW.symm
    clear hW
    go_wp2_with fail
    refine Calls.mono (Try.cLeft_nil k _) ?_
    rintro e W3 ⟨rfl, hb⟩
    have d3 := (SB.out W3 hb).1
    have H3 : Hid (Below w0.heap.size w0 W3) := hb
    clear hb
    go_wp2_with fail
    refine Calls.mono (Try.cNext_nil _) ?_
    rintro e W4 ⟨rfl, rfl⟩
    go_wp2_with fail
    refine Calls.mono (Try.cDrop_nil k _) ?_
    rintro e W5 ⟨rfl, rfl⟩
    go_wp2_with fail
    refine Calls.mono (Try.cDue_nil _) ?_
    rintro e W6 ⟨rfl, rfl⟩
    go_wp2_with fail
    refine Calls.mono (Try.cNow_nil _) ?_
    rintro e W7 ⟨rfl, rfl⟩
    go_wp2_with fail
    refine Calls.mono (Try.two_any _) ?_
    rintro e W8 ⟨rfl, hb⟩
    have H8 : Hid (Below w0.heap.size w0 W8) := H3.out.trans (hb.mono H3.out.size)
    clear hb
    go_wp2
    go_ret
    exact ⟨rfl, HB.out.trans (H8.out.mono HB.out.size)⟩

end Go.Proofs.Ytolniefefohbjaa.ClockNil
