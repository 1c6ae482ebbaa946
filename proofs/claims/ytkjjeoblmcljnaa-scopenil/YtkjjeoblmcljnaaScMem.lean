/-
  The statements' example of scopes: a plan of three, its run in memory; nil runs; has, State, Enter, isOf.
-/
import Derived.Test.YtkjjeoblmcljnaaTmModel
import Derived.Lib.Hide
import Derived.Shelf.SlIterI.Nil
import Derived.Great.BuildSlice
import Derived.Deep.RegionLaw
import Derived.Deep.DeepCutAuto
namespace Go.Proofs
open Go.RowKit Go.Shelf Go.Sort

/-- The plan's cells. -/
def Sc.pl : List Value := [.int .i64 (-1), .bool true, .bool false, .int .i64 0, .bool false, .bool true, .int .i64 0, .bool false, .bool true]
/-- A run of that plan. -/
structure Sc.At (r gp gs cp : Nat) (vd : Value) (a b c : Int) (D : List Int) (w : World) : Prop where
  run : w.heap[r]? = some (.cells #[.slice (some ⟨gp, 0, none⟩) 3 cp, .slice (some ⟨gs, 0, none⟩) 3 3, vd] 62 (0, 0))
  plan : ∃ cur, w.heap[gp]? = some (.cells cur 56 (0, 0)) ∧ cur.toList.take 9 = Sc.pl
  sts : w.heap[gs]? = some (.cells #[.int .i64 a, .int .i64 b, .int .i64 c] 3 (0, 0))
  done : w.ownsRow 0 3 1 vd D.length (D.map encZ)
  far : vd.ownBlock ≠ some gs
theorem Sc.At.lts {r gp gs cp : Nat} {vd : Value} {a b c : Int} {D : List Int} {w : World} (h : Sc.At r gp gs cp vd a b c D w) : r < w.heap.size ∧ gp < w.heap.size ∧ gs < w.heap.size ∧ ∀ g, vd.ownBlock = some g → g < w.heap.size := by
  obtain ⟨cur, hp, _⟩ := h.plan
  refine ⟨(Array.getElem?_eq_some_iff.1 h.run).1, (Array.getElem?_eq_some_iff.1 hp).1, (Array.getElem?_eq_some_iff.1 h.sts).1, fun g hg => ?_⟩
  rcases h.done.2 with ⟨rfl, _⟩ | ⟨g', cap, cur, rfl, _, h4, _⟩
  · cases hg
  · have : g' = g := by simpa [Value.ownBlock] using hg
    subst this
    exact (Array.getElem?_eq_some_iff.1 h4).1
theorem Sc.At.below {r gp gs cp : Nat} {vd : Value} {a b c : Int} {D : List Int} {w w' : World} (h : Sc.At r gp gs cp vd a b c D w) (hb : Below w.heap.size w w') : Sc.At r gp gs cp vd a b c D w' := by
  obtain ⟨l1, l2, l3, l4⟩ := h.lts
  obtain ⟨cur, hp, hc⟩ := h.plan
  refine ⟨(hb.block _ l1).trans h.run, ⟨cur, (hb.block _ l2).trans hp, hc⟩, (hb.block _ l3).trans h.sts, ⟨h.done.1, ?_⟩, h.far⟩
  rcases h.done.2 with hn | ⟨g', cap, cur, e, h3, h4, h5⟩
  · exact .inl hn
  · exact .inr ⟨g', cap, cur, e, h3, (hb.block _ (l4 g' (by rw [e]; rfl))).trans h4, h5⟩
theorem Sc.At.c0 {r gp gs cp : Nat} {vd : Value} {a b c : Int} {D : List Int} {w : World} (h : Sc.At r gp gs cp vd a b c D w) : w.cell? ⟨r, 0, none⟩ = some (.slice (some ⟨gp, 0, none⟩) 3 cp) ∧ w.cell? ⟨r, 1, none⟩ = some (.slice (some ⟨gs, 0, none⟩) 3 3) ∧ w.cell? ⟨r, 2, none⟩ = some vd := by
  simp [World.cell?, h.run]
theorem Sc.At.st {r gp gs cp : Nat} {vd : Value} {a b c : Int} {D : List Int} {w : World} (h : Sc.At r gp gs cp vd a b c D w) : w.cell? ⟨gs, 0, none⟩ = some (.int .i64 a) ∧ w.cell? ⟨gs, 1, none⟩ = some (.int .i64 b) ∧ w.cell? ⟨gs, 2, none⟩ = some (.int .i64 c) ∧ ∀ o, w.frozen? ⟨gs, o, none⟩ = false := by
  simp [World.cell?, World.frozen?, h.sts]
theorem Sc.At.pls {r gp gs cp : Nat} {vd : Value} {a b c : Int} {D : List Int} {w : World} (h : Sc.At r gp gs cp vd a b c D w) (j : Nat) (hj : j < 9) : w.cell? ⟨gp, j, none⟩ = Sc.pl[j]? := by
  obtain ⟨cur, hp, hc⟩ := h.plan
  rw [← hc, List.getElem?_take, if_pos hj, Array.getElem?_toList]
  simp only [World.cell?, hp]
  rfl

theorem Try.sHas_nil (i : Int) (w : World) : Calls Try.prog 26 #[.pointer none, .int .i64 i] w fun e w' => e = .returned (.int .i64 7) ∧ w' = w := by
  go_enter Try.func26, Try.ntmps26
  go_wp2
  go_ret
  exact ⟨rfl, rfl⟩
theorem Try.sFault_nil (i : Int) (w : World) : Calls Try.prog 17 #[.pointer none, .int .i64 i] w fun e w' => e = .returned (.tuple #[.slice none 0 0, .int .i64 7]) ∧ w' = w := by
  have C : Hid _ := Try.sHas_nil i w
  go_enter Try.func17, Try.ntmps17
  go_wp2_with fail
  refine Calls.mono C.out ?_
  rintro e W ⟨rfl, hW⟩
  obtain rfl := hW.symm
  go_wp2
  go_ret2
  exact ⟨rfl, rfl⟩
theorem Try.sEnter_nil (i : Int) (w : World) : Calls Try.prog 19 #[.pointer none, .int .i64 i] w fun e w' => e = .returned (.int .i64 7) ∧ w' = w := by
  have C : Hid _ := Try.sHas_nil i w
  go_enter Try.func19, Try.ntmps19
  go_wp2_with fail
  refine Calls.mono C.out ?_
  rintro e W ⟨rfl, hW⟩
  obtain rfl := hW.symm
  go_wp2
  go_ret
  exact ⟨rfl, rfl⟩
theorem Try.sLeave_nil (i : Int) (w : World) : Calls Try.prog 20 #[.pointer none, .int .i64 i] w fun e w' => e = .returned (.int .i64 7) ∧ w' = w := by
  have C : Hid _ := Try.sHas_nil i w
  go_enter Try.func20, Try.ntmps20
  go_wp2_with fail
  refine Calls.mono C.out ?_
  rintro e W ⟨rfl, hW⟩
  obtain rfl := hW.symm
  go_wp2
  go_ret
  exact ⟨rfl, rfl⟩
theorem Try.sState_nil (i : Int) (w : World) : Calls Try.prog 13 #[.pointer none, .int .i64 i] w fun e w' => e = .returned (.int .i64 0) ∧ w' = w := by
  have C : Hid _ := Try.sHas_nil i w
  go_enter Try.func13, Try.ntmps13
  go_wp2_with fail
  refine Calls.mono C.out ?_
  rintro e W ⟨rfl, hW⟩
  obtain rfl := hW.symm
  go_wp2
  go_ret
  exact ⟨rfl, rfl⟩
theorem Try.sOrder_nil (w : World) : Calls Try.prog 16 #[.pointer none] w fun e w' => e = .returned (.slice none 0 0) ∧ w' = w := by
  go_enter Try.func16, Try.ntmps16
  go_wp2
  go_ret
  exact ⟨rfl, rfl⟩

theorem Try.sHas_any {r gp gs cp : Nat} {vd : Value} {a b c : Int} {D : List Int} (i : Nat) (hi : i < 3) (w : World) (h : Sc.At r gp gs cp vd a b c D w) : Calls Try.prog 26 #[.pointer (some ⟨r, 0, none⟩), .int .i64 i] w fun e w' => e = .returned (.int .i64 0) ∧ w' = w := by
  have c0 := h.c0.1
  obtain rfl | rfl | rfl : i = 0 ∨ i = 1 ∨ i = 2 := by omega
  all_goals
    clear h hi
    go_enter Try.func26, Try.ntmps26
    go_wp2
    go_ret
    exact ⟨rfl, rfl⟩
theorem Try.sState_any {r gp gs cp : Nat} {vd : Value} {a b c : Int} {D : List Int} (w : World) (h : Sc.At r gp gs cp vd a b c D w) : Calls Try.prog 13 #[.pointer (some ⟨r, 0, none⟩), .int .i64 1] w fun e w' => e = .returned (.int .i64 b) ∧ w' = w := by
  have C : Hid _ := Try.sHas_any 1 (by omega) w h
  have c1 := h.c0.2.1
  have s1 := h.st.2.1
  clear h
  go_enter Try.func13, Try.ntmps13
  go_wp2_with fail
  refine Calls.mono C.out ?_
  rintro e W ⟨rfl, hW⟩
  obtain rfl := hW.symm
  go_wp2
  go_ret
  exact ⟨rfl, rfl⟩

/-- Closures: is this scope's Parent that one? -/
theorem Try.isOf_any (r : Nat) (i : Int) (w : World) : Calls Try.prog 30 #[.pointer (some ⟨r, 0, none⟩), .int .i64 i] w fun e w' => e = .returned (.func (.func 39) #[] #[.pointer (some ⟨w.heap.size, 0, none⟩), .pointer (some ⟨w.heap.size + 1, 0, none⟩)]) ∧ w'.cell? ⟨w.heap.size, 0, none⟩ = some (.pointer (some ⟨r, 0, none⟩)) ∧ w'.cell? ⟨w.heap.size + 1, 0, none⟩ = some (.int .i64 i) ∧ w'.heap.size = w.heap.size + 2 ∧ Below w.heap.size w w' := by
  go_enter Try.func30, Try.ntmps30
  go_wp2
  go_ret
  refine ⟨rfl, ?_, ?_, by simp, ((Below.refl _ w).alloc (Nat.le_refl _) _).alloc (by simp) _⟩
  · simp
  · simp

end Go.Proofs
