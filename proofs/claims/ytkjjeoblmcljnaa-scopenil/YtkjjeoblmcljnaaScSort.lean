/-
  Two scopes that are done, the later one first.
-/
import Derived.Test.YtkjjeoblmcljnaaScLeave
import Derived.Deep.RegionHeld3
namespace Go.Proofs
open Go.RowKit Go.Shelf Go.Sort

/-- What is done: two. -/
theorem Sc.At.two {r gp gs cp : Nat} {vd : Value} {a b c x y : Int} {w : World} (h : Sc.At r gp gs cp vd a b c [x, y] w) : ∃ g cd, vd = .slice (some ⟨g, 0, none⟩) 2 cd ∧ w.cell? ⟨g, 0, none⟩ = some (.int .i64 x) ∧ w.cell? ⟨g, 1, none⟩ = some (.int .i64 y) ∧ g < w.heap.size := by
  rcases h.done.2 with ⟨_, hn⟩ | ⟨g, cap, cur, e, _, h4, h5, _, h6, h7⟩
  · cases hn
  · have hg : ∀ j, j < 2 → w.cell? ⟨g, j, none⟩ = ([x, y].map encZ)[j]? := fun j hj => by
      rw [← h7, List.getElem?_take, if_pos (by simpa using hj), Array.getElem?_toList]
      simp only [World.cell?, h4]
      rfl
    exact ⟨g, cap, e, hg 0 (by omega), hg 1 (by omega), (Array.getElem?_eq_some_iff.1 h4).1⟩

theorem Try.index_12 (g cd : Nat) (x : Int) (hx : x = 1 ∨ x = 2) (w : World) (c0 : w.cell? ⟨g, 0, none⟩ = some (.int .i64 1)) (c1 : w.cell? ⟨g, 1, none⟩ = some (.int .i64 2)) :
    Calls Try.prog 42 #[.slice (some ⟨g, 0, none⟩) 2 cd, .int .i64 x] w fun e w' => e = .returned (.int .i64 (x - 1)) ∧ w' = w := by
  rcases hx with rfl | rfl
  · go_enter Try.func42, Try.ntmps42
    go_wp2
    refine wp_loop_rounds 1 ?_
    rw [rounds_succ]
    go_wp2
    go_ret
    exact ⟨rfl, rfl⟩
  · go_enter Try.func42, Try.ntmps42
    go_wp2
    refine wp_loop_rounds 2 ?_
    rw [rounds_succ]
    go_wp2
    rw [rounds_succ]
    go_wp2
    go_ret
    exact ⟨rfl, rfl⟩

set_option maxRecDepth 20000 in
set_option maxHeartbeats 1600000 in
theorem Try.later_21 {r gp gs cp : Nat} {vd : Value} {a b c : Int} (w : World) (h : Sc.At r gp gs cp vd a b c [1, 2] w) : Calls Try.prog 36 #[.pointer (some ⟨r, 0, none⟩), .int .i64 2, .int .i64 1] w fun e w' => e = .returned (.int .i64 (-1)) ∧ Below w.heap.size w w' := by
  obtain ⟨g, cd, rfl, c0, c1, hg⟩ := h.two
  have r2 := h.c0.2.2
  have lr := h.lts.1
  have SB : Hid (∀ W, Below w.heap.size w W → W.cell? ⟨r, 2, none⟩ = some (.slice (some ⟨g, 0, none⟩) 2 cd)) := fun W hb => (hb.cell (p := ⟨r, 2, none⟩) lr).trans r2
  have CI : Hid (∀ (x : Int) W, x = 1 ∨ x = 2 → Below w.heap.size w W → Calls Try.prog 42 #[.slice (some ⟨g, 0, none⟩) 2 cd, .int .i64 x] W fun e w' => e = .returned (.int .i64 (x - 1)) ∧ Hid (Below w.heap.size w w')) := fun x W hx hb => (Try.index_12 g cd x hx W ((hb.cell (p := ⟨g, 0, none⟩) hg).trans c0) ((hb.cell (p := ⟨g, 1, none⟩) hg).trans c1)).mono fun e w' q => ⟨q.1, by rw [q.2]; exact hb⟩
  clear h c0 c1 hg lr
  go_enter Try.func36, Try.ntmps36
  go_upto_region 1 with fail
  go_region_held3 (fun W => W.cell? ⟨r, 2, none⟩ = some (.slice (some ⟨g, 0, none⟩) 2 cd))
    (first | exact SB.out _ B2.out | exact SB.out _ B1.out | exact SB.out _ (Below.refl _ w).drew | exact SB.out _ (Below.refl _ w))
    (first
    | (go_simp; go_at_call 42; have _h := B1.out; refine Calls.mono (CI.out 2 _ (.inr rfl) (by exact B1.out)) ?_; rintro e W2 ⟨rfl, B2⟩)
    | (go_simp; go_at_call 42; refine Calls.mono (CI.out 1 _ (.inl rfl) (by first | exact (Below.refl _ w).drew | exact (Below.refl _ w))) ?_; rintro e W1 ⟨rfl, B1⟩))
  clear SB CI
  go_simp
  go_wp2
  go_ret
  exact ⟨rfl, B2.out⟩

end Go.Proofs
