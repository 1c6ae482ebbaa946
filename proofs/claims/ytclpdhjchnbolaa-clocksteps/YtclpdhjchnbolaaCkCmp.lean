/-
  How alarms are compared: by their times, then by their ids.
-/
import Derived.Test.YtclpdhjchnbolaaCkMem
import Derived.Deep.RegionLaw
namespace Go.Proofs
open Go.RowKit

def Ck.cmp (x y : Int) : Int := if x < y then -1 else if y < x then 1 else 0
/-- What compare tells. -/
def Ck.orI (x y : Int) : Int := if x = 0 then y else x
def Ck.cf (a b : Ck.Al) : Int := Ck.orI (Ck.cmp a.2 b.2) (Ck.cmp a.1 b.1)
/-- Is one ahead of the other? -/
def Ck.lt (a b : Ck.Al) : Bool := decide (a.2 < b.2 ∨ a.2 = b.2 ∧ a.1 < b.1)
theorem Try.isNaN_any (x : Int) (w : World) : Calls Try.prog 51 #[.int .i64 x] w fun e w' => e = .returned (.bool false) ∧ w' = w := by
  go_enter Try.func51, Try.ntmps51
  go_wp2
  go_ret
  exact ⟨rfl, rfl⟩
theorem Try.compare_any (x y : Int) (w : World) : Calls Try.prog 39 #[.int .i64 x, .int .i64 y] w fun e w' => e = .returned (.int .i64 (Ck.cmp x y)) ∧ w' = w := by
  have H := fun z W => Try.isNaN_any z W
  obtain ⟨r, hr⟩ : ∃ r, Ck.cmp x y = r := ⟨_, rfl⟩
  rw [hr]
  unfold Ck.cmp at hr
  by_cases h1 : x < y
  · rw [if_pos h1] at hr
    subst hr
    have d1 : decide (x < y) = true := decide_eq_true h1
    clear h1
    go_enter Try.func39, Try.ntmps39
    go_wp2_with (go_at_call 51; refine Calls.mono (H _ _) ?_; rintro e w' ⟨rfl, rfl⟩)
    go_ret
    exact ⟨rfl, rfl⟩
  · rw [if_neg h1] at hr
    have d1 : decide (x < y) = false := decide_eq_false h1
    by_cases h2 : y < x
    · rw [if_pos h2] at hr
      subst hr
      have d2 : decide (y < x) = true := decide_eq_true h2
      clear h1 h2
      go_enter Try.func39, Try.ntmps39
      go_wp2_with (go_at_call 51; refine Calls.mono (H _ _) ?_; rintro e w' ⟨rfl, rfl⟩)
      go_ret
      exact ⟨rfl, rfl⟩
    · rw [if_neg h2] at hr
      subst hr
      have d2 : decide (y < x) = false := decide_eq_false h2
      clear h1 h2
      go_enter Try.func39, Try.ntmps39
      go_wp2_with (go_at_call 51; refine Calls.mono (H _ _) ?_; rintro e w' ⟨rfl, rfl⟩)
      go_ret
      exact ⟨rfl, rfl⟩
theorem Try.or_any (b : Nat) (x y : Int) (w : World) (h0 : w.cell? ⟨b, 0, none⟩ = some (.int .i64 x)) (h1 : w.cell? ⟨b, 1, none⟩ = some (.int .i64 y)) : Calls Try.prog 38 #[.slice (some ⟨b, 0, none⟩) 2 2] w fun e w' => e = .returned (.int .i64 (if x = 0 then y else x)) ∧ w' = w := by
  obtain ⟨r, hr⟩ : ∃ r, (if x = 0 then y else x) = r := ⟨_, rfl⟩
  rw [hr]
  by_cases hx : x = 0
  · rw [if_pos hx] at hr
    have d1 : (x != 0) = false := by simp [hx]
    have d1' : (x == 0) = true := by simp [hx]
    by_cases hy : y = 0
    · have d2 : (y != 0) = false := by simp [hy]
      have d2' : (y == 0) = true := by simp [hy]
      have HR : Hid (0 = r) := by rw [← hr, hy]; rfl
      clear hr hx hy
      go_enter Try.func38, Try.ntmps38
      go_wp2
      refine wp_loop_rounds 3 ?_
      rw [rounds_succ]
      go_wp2
      rw [rounds_succ]
      go_wp2
      rw [rounds_succ]
      go_wp2
      go_ret
      rw [← HR.out]
      exact ⟨rfl, rfl⟩
    · have d2 : (y != 0) = true := by simp [hy]
      have d2' : (y == 0) = false := by simp [hy]
      subst hr
      clear hx hy
      go_enter Try.func38, Try.ntmps38
      go_wp2
      refine wp_loop_rounds 2 ?_
      rw [rounds_succ]
      go_wp2
      rw [rounds_succ]
      go_wp2
      go_ret
      exact ⟨rfl, rfl⟩
  · rw [if_neg hx] at hr
    subst hr
    have d1 : (x != 0) = true := by simp [hx]
    have d1' : (x == 0) = false := by simp [hx]
    clear hx
    go_enter Try.func38, Try.ntmps38
    go_wp2
    refine wp_loop_rounds 1 ?_
    rw [rounds_succ]
    go_wp2
    go_ret
    exact ⟨rfl, rfl⟩

set_option maxRecDepth 20000 in
set_option maxHeartbeats 2000000 in
theorem Try.alarmCmp_any (a b : Ck.Al) (w : World) : Calls Try.prog 30 #[.agg #[.int .i64 a.1, .int .i64 a.2], .agg #[.int .i64 b.1, .int .i64 b.2]] w fun e w' => e = .returned (.int .i64 (Ck.cf a b)) ∧ ∃ q o1 o2 o3, w' = (((w.alloc o1).alloc o2).drewN q).alloc o3 := by
  obtain ⟨a1, a2⟩ := a
  obtain ⟨b1, b2⟩ := b
  have C4 : Hid (∀ (W : World) (x y : Int), Calls Try.prog 38 #[.slice (some ⟨W.heap.size, 0, none⟩) 2 2] (W.alloc (Obj.cells #[Value.int IntKind.i64 x, Value.int IntKind.i64 y] 3)).drew fun e w' => e = .returned (.int .i64 (Ck.orI x y)) ∧ w' = (W.alloc (Obj.cells #[Value.int IntKind.i64 x, Value.int IntKind.i64 y] 3)).drew) := fun W x y => by
    have hn := heap_alloc_new W (Obj.cells #[Value.int IntKind.i64 x, Value.int IntKind.i64 y] 3)
    refine Try.or_any W.heap.size x y _ ?_ ?_
    · show World.cell? (W.alloc _) _ = _
      unfold World.cell?
      rw [hn]
      rfl
    · show World.cell? (W.alloc _) _ = _
      unfold World.cell?
      rw [hn]
      rfl
  have C5 : Hid (∀ (x y : Int) (W : World), Calls Try.prog 39 #[.int .i64 x, .int .i64 y] W fun e w' => e = .returned (.int .i64 (Ck.cmp x y)) ∧ w' = W) := Try.compare_any
  obtain ⟨o1, ho1⟩ : ∃ o, Obj.cells #[Value.int IntKind.i64 a1, Value.int IntKind.i64 a2] 62 = o := ⟨_, rfl⟩
  obtain ⟨o2, ho2⟩ : ∃ o, Obj.cells #[Value.int IntKind.i64 b1, Value.int IntKind.i64 b2] 62 = o := ⟨_, rfl⟩
  obtain ⟨W2, hW2⟩ : ∃ y, (w.alloc o1).alloc o2 = y := ⟨_, rfl⟩
  have hs : W2.heap.size = w.heap.size + 2 := by rw [← hW2]; simp
  have hx : W2.heap[w.heap.size]? = some (.cells #[Value.int IntKind.i64 a1, Value.int IntKind.i64 a2] 62 (0, 0)) := by
    rw [← hW2, Below.heap_alloc _ _ _ (by simp), ← ho1]
    exact heap_alloc_new _ _
  have hy : W2.heap[w.heap.size + 1]? = some (.cells #[Value.int IntKind.i64 b1, Value.int IntKind.i64 b2] 62 (0, 0)) := by
    have := heap_alloc_new (w.alloc o1) o2
    rw [← hW2, ← ho2]
    rw [← ho2] at this
    simpa using this
  have x0 : W2.cell? ⟨w.heap.size, 0, none⟩ = some (.int .i64 a1) := by simp [World.cell?, hx]
  have x1 : W2.cell? ⟨w.heap.size, 1, none⟩ = some (.int .i64 a2) := by simp [World.cell?, hx]
  have y0 : W2.cell? ⟨w.heap.size + 1, 0, none⟩ = some (.int .i64 b1) := by simp [World.cell?, hy]
  have y1 : W2.cell? ⟨w.heap.size + 1, 1, none⟩ = some (.int .i64 b2) := by simp [World.cell?, hy]
  have HS : Hid (W2.heap.size = w.heap.size + 2) := hs
  have HW : Hid ((w.alloc (Obj.cells #[Value.int IntKind.i64 a1, Value.int IntKind.i64 a2] 62)).alloc (Obj.cells #[Value.int IntKind.i64 b1, Value.int IntKind.i64 b2] 62) = W2) := by rw [ho1, ho2]; exact hW2
  clear hs hx hy hW2 ho1 ho2
  go_enter Try.func30, Try.ntmps30
  go_wp2_with fail
  rw [HW.out]
  go_region_law (first | (go_simp; go_at_call 39; refine Calls.mono (C5.out _ _ _) ?_; rintro e W3 ⟨rfl, rfl⟩) | (go_simp; go_at_call 38; refine Calls.mono (C4.out _ _ _) ?_; rintro e W3 ⟨rfl, rfl⟩) | fail)
  all_goals
    go_wp2
    go_ret
    exact ⟨rfl, 1, _, _, _, by rw [← HW.out]; rfl⟩

end Go.Proofs
