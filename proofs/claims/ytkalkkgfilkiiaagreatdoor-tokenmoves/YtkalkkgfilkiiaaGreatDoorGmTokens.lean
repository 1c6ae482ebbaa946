/-
  The token game: how many tokens there are, by the program and by the document.
-/
import Derived.Test.YtkalkkgfilkiiaaGreatDoorAllNtPlaces
import Derived.Deep.MidRow
import Derived.Deep.DeepCutAuto
namespace Go.Proofs
open Go.RowKit Go.Shelf

/-- The sum of the first 40 numbers, as Go adds. -/
def Gm.sumW (xs : List Int) : Int := xs.foldl (fun a x => wrap64 (a + x)) 0
theorem Gm.sumW_take (xs : List Int) (j : Nat) (h : j < xs.length) : Gm.sumW (xs.take (j + 1)) = wrap64 (Gm.sumW (xs.take j) + xs[j]) := by
  unfold Gm.sumW
  rw [List.take_succ_eq_append_getElem h, List.foldl_append]
  rfl

set_option maxRecDepth 20000 in
set_option maxHeartbeats 4000000 in
theorem Tryz.refTokens_any (cs : Array Value) (xs : List Int) (W : World) (hx : ∀ j (h : j < xs.length), cs[j]? = some (.int .i64 xs[j])) (hl : xs.length = 40) :
    Calls Tryz.prog 15 #[.agg cs] W fun e w' => e = .returned (.int .i64 (Gm.sumW xs)) ∧ Below W.heap.size W w' := by
  obtain ⟨r, hr⟩ : ∃ z, Gm.sumW xs = z := ⟨_, rfl⟩
  rw [hr]
  obtain ⟨w1, hw1⟩ : ∃ z, W.alloc (.cells cs 32) = z := ⟨_, rfl⟩
  have A1 : Below W.heap.size W w1 := by rw [← hw1]; exact (Below.refl _ W).alloc (Nat.le_refl _) _
  have N1 : w1.heap[W.heap.size]? = some (.cells cs 32 (0, 0)) := by rw [← hw1]; exact heap_alloc_new W _
  have HX : Hid (∀ j (h : j < 40), ∃ x, w1.cell? ⟨W.heap.size, j, none⟩ = some (.int .i64 x) ∧ Gm.sumW (xs.take (j + 1)) = wrap64 (Gm.sumW (xs.take j) + x)) := fun j h => by
    have hj : j < xs.length := by omega
    refine ⟨xs[j], ?_, Gm.sumW_take xs j hj⟩
    simp only [World.cell?, N1]
    exact hx j hj
  have HR : Hid (Gm.sumW (xs.take 40) = r) := by show _ = _; rw [List.take_of_length_le (by omega)]; exact hr
  have HA : Hid (Below W.heap.size W w1) := A1
  have HW1 : Hid _ := hw1
  clear hw1 A1 N1 hx hl hr
  go_enter Tryz.func15, Tryz.ntmps15
  go_upto_region 1 with fail
  rw [HW1.out]
  go_wp2
  go_loopg [3, 4] 40 (fun gk s3 s4 wr => ∃ (j : Nat) (t : Int), s4 = .int .i64 j ∧ s3 = .int .i64 t ∧ gk + j = 40 ∧ wr = w1 ∧ Hid (Gm.sumW (xs.take j) = t))
  case atStart => exact ⟨0, 0, rfl, rfl, by omega, rfl, rfl⟩
  case round =>
    obtain ⟨j, t, rfl, rfl, hj, rfl, HJ⟩ := hrel
    by_cases hlt : j < 40
    · have hd : decide ((j : Int) < 40) = true := decide_eq_true (by omega)
      obtain ⟨x, hc, hs⟩ := HX.out j hlt
      have j1 : (j : Int) < 40 := by omega
      have j0 : (0 : Int) ≤ j := by omega
      have HN : Hid (Gm.sumW (xs.take (j + 1)) = wrap64 (t + x)) := by show _ = _; rw [hs, HJ.out]
      clear hs HJ
      go_wp2
      go_roundg (gk - 1)
      case measure => omega
      case rel => exact ⟨j + 1, wrap64 (t + x), by go_num, rfl, by omega, rfl, HN.out⟩
    · obtain rfl : j = 40 := by omega
      have HE : Hid (t = r) := by show _ = _; rw [← HJ.out]; exact HR.out
      clear HJ
      go_wp2
      go_ret
      exact ⟨by rw [HE.out]; rfl, HA.out⟩

/-- A number of an array that is a value. -/
theorem Gm.run_index (cs : Array Value) (j : Nat) (x : Int) (hj : j < 40) (hc : cs[j]? = some (.int .i64 x)) (W : World) : (Instr.index 26 (.agg cs) (.int .i64 (j : Int))).run Tryz.prog W = .ok (.int .i64 x) W := by
  have h1 : (0 : Int) ≤ j ∧ (j : Int) < ((40 : Nat) : Int) := by omega
  have h2 : (j : Int) < 40 := by omega
  simp [Instr.index, run_underlying Tryz.underlying26, asIntOf, part, Tryz.isAgg3, Tryz.sizeOf3, hc, go_sem]
  intro h; omega

set_option maxRecDepth 20000 in
set_option maxHeartbeats 4000000 in
theorem Tryz.tokens_any (cs : Array Value) (xs : List Int) (W : World) (hx : ∀ j (h : j < xs.length), cs[j]? = some (.int .i64 xs[j])) (hl : xs.length = 40) :
    Calls Tryz.prog 14 #[.agg cs] W fun e w' => e = .returned (.int .i64 (Gm.sumW xs)) ∧ Below W.heap.size W w' := by
  obtain ⟨r, hr⟩ : ∃ z, Gm.sumW xs = z := ⟨_, rfl⟩
  rw [hr]
  obtain ⟨w1, hw1⟩ : ∃ z, W.alloc (.cells cs 29) = z := ⟨_, rfl⟩
  have A1 : Below W.heap.size W w1 := by rw [← hw1]; exact (Below.refl _ W).alloc (Nat.le_refl _) _
  have N1 : w1.heap[W.heap.size]? = some (.cells cs 29 (0, 0)) := by rw [← hw1]; exact heap_alloc_new W _
  obtain ⟨ys, hys⟩ : ∃ z, (xs.map fun x => Value.int .i64 x) = z := ⟨_, rfl⟩
  have hyl : ys.length = 40 := by rw [← hys, List.length_map]; exact hl
  have hrg : w1.rangeAt W.heap.size 0 ys := fun j v hv => by
    rw [← hys, List.getElem?_map] at hv
    obtain ⟨x, hx1, rfl⟩ := Option.map_eq_some_iff.1 hv
    obtain ⟨hj, rfl⟩ := List.getElem?_eq_some_iff.1 hx1
    simp only [World.cell?, N1, Nat.zero_add]
    exact hx j hj
  have hi : (Tryz.prog.info? 26).map (·.size) = some ys.length := by rw [hyl]; kernel_rfl
  have hu := Tryz.underlying26
  have HX : Hid (∀ (j : Nat) (h : j < 40), ∃ x, (∀ V : World, (Instr.index 26 (.agg ys.toArray) (.int .i64 (j : Int))).run Tryz.prog V = .ok (.int .i64 x) V) ∧ Gm.sumW (xs.take (j + 1)) = wrap64 (Gm.sumW (xs.take j) + x)) := fun j h => by
    have hj : j < xs.length := by omega
    refine ⟨xs[j], fun V => Gm.run_index ys.toArray j xs[j] h ?_ V, Gm.sumW_take xs j hj⟩
    rw [← hys]
    simp [hj]
  have HR : Hid (Gm.sumW (xs.take 40) = r) := by show _ = _; rw [List.take_of_length_le (by omega)]; exact hr
  have HA : Hid (Below W.heap.size W w1) := A1
  have HW1 : Hid _ := hw1
  clear hw1 A1 N1 hx hl hr hys hyl
  go_enter Tryz.func14, Tryz.ntmps14
  go_upto_region 1 with fail
  rw [HW1.out]
  go_wp2_with (refine wpList_load_mid rfl 26 _ rfl W.heap.size 0 rfl ys _ hrg hu rfl hi ?_)
  go_loopg [3, 5, 8] 40 (fun gk s3 _ s8 wr => ∃ (j : Nat) (t : Int), s8 = .int .i64 j ∧ s3 = .int .i64 t ∧ gk + j = 40 ∧ wr = w1 ∧ Hid (Gm.sumW (xs.take j) = t))
  case atStart => exact ⟨0, 0, rfl, rfl, by omega, rfl, rfl⟩
  case round =>
    obtain ⟨j, t, rfl, rfl, hj, rfl, HJ⟩ := hrel
    by_cases hlt : j < 40
    · have hd : decide ((j : Int) < 40) = true := decide_eq_true (by omega)
      obtain ⟨x, hc, hs⟩ := HX.out j hlt
      have HN : Hid (Gm.sumW (xs.take (j + 1)) = wrap64 (t + x)) := by show _ = _; rw [hs, HJ.out]
      clear hs HJ
      go_wp2
      go_roundg (gk - 1)
      case measure => omega
      case rel => exact ⟨j + 1, wrap64 (t + x), by go_num, rfl, by omega, rfl, HN.out⟩
    · obtain rfl : j = 40 := by omega
      have HE : Hid (t = r) := by show _ = _; rw [← HJ.out]; exact HR.out
      clear HJ
      go_wp2
      go_ret
      exact ⟨by rw [HE.out]; rfl, HA.out⟩

end Go.Proofs
