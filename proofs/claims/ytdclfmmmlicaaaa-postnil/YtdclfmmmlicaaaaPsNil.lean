/-
  A nil office.
-/
import Derived.Test.YtdclfmmmlicaaaaPsMem
namespace Go.Proofs
open Go.RowKit Go.Shelf Go.Maps

def Ps.nilE (r : Bool) : Int := if r then 7 else 1
set_option maxRecDepth 20000 in
theorem Try.pOpen_nil (k : Int) (w : World) : Calls Try.prog 16 #[.pointer none, .int .i64 k] w fun e w' => e = .returned (.int .i64 (Ps.nilE (decide (0 ≤ k) && decide (k ≤ 999)))) ∧ w' = w := by
  by_cases h1 : k < 0
  · have e : (decide (0 ≤ k) && decide (k ≤ 999)) = false := by simp; omega
    rw [e]
    have d1 : decide (k < 0) = true := decide_eq_true h1
    clear h1 e
    go_enter Try.func16, Try.ntmps16
    go_wp2
    go_ret
    exact ⟨rfl, rfl⟩
  have d1 : decide (k < 0) = false := decide_eq_false h1
  by_cases h2 : 999 < k
  · have e : (decide (0 ≤ k) && decide (k ≤ 999)) = false := by simp; omega
    rw [e]
    have d2 : decide (999 < k) = true := decide_eq_true h2
    clear h1 h2 e
    go_enter Try.func16, Try.ntmps16
    go_wp2
    go_ret
    exact ⟨rfl, rfl⟩
  · have e : (decide (0 ≤ k) && decide (k ≤ 999)) = true := by simp; omega
    rw [e]
    have d2 : decide (999 < k) = false := decide_eq_false h2
    clear h1 h2 e
    go_enter Try.func16, Try.ntmps16
    go_wp2
    go_ret
    exact ⟨rfl, rfl⟩
theorem Try.pClose_nil (k : Int) (w : World) : Calls Try.prog 19 #[.pointer none, .int .i64 k] w fun e w' => e = .returned (.int .i64 7) ∧ w' = w := by
  go_enter Try.func19, Try.ntmps19
  go_wp2
  go_ret
  exact ⟨rfl, rfl⟩
theorem Try.pKeys_nil (w : World) : Calls Try.prog 13 #[.pointer none] w fun e w' => e = .returned (.slice none 0 0) ∧ w' = w := by
  go_enter Try.func13, Try.ntmps13
  go_wp2
  go_ret
  exact ⟨rfl, rfl⟩
theorem Try.pCopy_nil (w : World) : Calls Try.prog 14 #[.pointer none] w fun e w' => e = .returned (.pointer none) ∧ w' = w := by
  go_enter Try.func14, Try.ntmps14
  go_wp2
  go_ret
  exact ⟨rfl, rfl⟩
theorem Try.pWaiting_nil (k : Int) (w : World) : Calls Try.prog 11 #[.pointer none, .int .i64 k] w fun e w' => e = .returned (.tuple #[Bx.val Bx.none, .bool false]) ∧ Below w.heap.size w w' := by
  go_enter Try.func11, Try.ntmps11
  go_wp2
  refine bodyPost_ret (Ps.results_arr Try.results11 _ _ w.heap.size _ _ _ _ rfl (heap_alloc_new _ _)) rfl ⟨rfl, ?_⟩
  exact (Below.refl _ w).alloc (Nat.le_refl _) _
set_option maxRecDepth 20000 in
theorem Try.pReach_nil (k m : Int) (w : World) : Calls Try.prog 27 #[.pointer none, .int .i64 k, .int .i64 m] w fun e w' => e = .returned (.tuple #[.agg #[.int .i64 0, .int .i64 0, .int .i64 0, .int .i64 0], .int .i64 (Ps.nilE (decide (0 ≤ m) && decide (m ≤ 3)))]) ∧ Below w.heap.size w w' := by
  by_cases h1 : m < 0
  · have e : (decide (0 ≤ m) && decide (m ≤ 3)) = false := by simp; omega
    rw [e]
    have d1 : decide (m < 0) = true := decide_eq_true h1
    clear h1 e
    go_enter Try.func27, Try.ntmps27
    go_wp2
    refine bodyPost_ret (Ps.results_box Try.results27 _ _ w.heap.size _ _ _ _ rfl (heap_alloc_new _ _)) rfl ⟨rfl, ?_⟩
    exact (Below.refl _ w).alloc (Nat.le_refl _) _
  have d1 : decide (m < 0) = false := decide_eq_false h1
  by_cases h2 : 4 ≤ m
  · have e : (decide (0 ≤ m) && decide (m ≤ 3)) = false := by simp; omega
    rw [e]
    have d2 : decide (4 ≤ m) = true := decide_eq_true h2
    clear h1 h2 e
    go_enter Try.func27, Try.ntmps27
    go_wp2
    refine bodyPost_ret (Ps.results_box Try.results27 _ _ w.heap.size _ _ _ _ rfl (heap_alloc_new _ _)) rfl ⟨rfl, ?_⟩
    exact (Below.refl _ w).alloc (Nat.le_refl _) _
  · have e : (decide (0 ≤ m) && decide (m ≤ 3)) = true := by simp; omega
    rw [e]
    have d2 : decide (4 ≤ m) = false := decide_eq_false h2
    clear h1 h2 e
    go_enter Try.func27, Try.ntmps27
    go_wp2
    refine bodyPost_ret (Ps.results_box Try.results27 _ _ w.heap.size _ _ _ _ rfl (heap_alloc_new _ _)) rfl ⟨rfl, ?_⟩
    exact (Below.refl _ w).alloc (Nat.le_refl _) _
set_option maxRecDepth 20000 in
theorem Try.pPut_nil (k m : Int) (w : World) : Calls Try.prog 17 #[.pointer none, .int .i64 k, .int .i64 m] w fun e w' => e = .returned (.int .i64 (Ps.nilE (decide (0 ≤ m) && decide (m ≤ 3)))) ∧ Below w.heap.size w w' := by
  have C := Try.pReach_nil k m w
  obtain ⟨x, hx⟩ : ∃ x, Ps.nilE (decide (0 ≤ m) && decide (m ≤ 3)) = x := ⟨_, rfl⟩
  have hd : (x != 0) = true := by
    rw [← hx]
    unfold Ps.nilE
    split <;> rfl
  rw [hx] at C ⊢
  have HC : Hid _ := C
  clear C hx
  go_enter Try.func17, Try.ntmps17
  go_wp2_with fail
  refine Calls.mono HC.out ?_
  rintro e W1 ⟨rfl, hB⟩
  have HB : Hid (Below w.heap.size w W1) := hB
  clear hB HC
  go_wp2
  go_ret
  exact ⟨rfl, HB.out.alloc HB.out.size _⟩
set_option maxRecDepth 20000 in
theorem Try.pTake_nil (k m : Int) (w : World) : Calls Try.prog 18 #[.pointer none, .int .i64 k, .int .i64 m] w fun e w' => e = .returned (.int .i64 (Ps.nilE (decide (0 ≤ m) && decide (m ≤ 3)))) ∧ Below w.heap.size w w' := by
  have C := Try.pReach_nil k m w
  obtain ⟨x, hx⟩ : ∃ x, Ps.nilE (decide (0 ≤ m) && decide (m ≤ 3)) = x := ⟨_, rfl⟩
  have hd : (x != 0) = true := by
    rw [← hx]
    unfold Ps.nilE
    split <;> rfl
  rw [hx] at C ⊢
  have HC : Hid _ := C
  clear C hx
  go_enter Try.func18, Try.ntmps18
  go_wp2_with fail
  refine Calls.mono HC.out ?_
  rintro e W1 ⟨rfl, hB⟩
  have HB : Hid (Below w.heap.size w W1) := hB
  clear hB HC
  go_wp2
  go_ret
  exact ⟨rfl, HB.out.alloc HB.out.size _⟩

end Go.Proofs
