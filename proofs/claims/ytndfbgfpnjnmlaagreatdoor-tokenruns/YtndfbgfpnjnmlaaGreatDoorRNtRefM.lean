import Derived.Test.YtndfbgfpnjnmlaaGreatDoorRNtRef4
import Derived.Test.YtndfbgfpnjnmlaaGreatDoorRNtAll
namespace Go.Proofs
open Go.RowKit Go.Shelf
theorem Nt.head_filter {n : Nat} {p : Nat → Bool} {k : Nat} (hk : k < n) (hp : p k = true) (h : ∀ i, i < k → p i = false) : ((List.range n).filter p).headD 0 = k ∧ (List.range n).filter p ≠ [] := by
 have e : (List.range n).filter p = k :: ((List.range n).filter p).tail := by
  have h1 : List.range n = List.range k ++ (k :: (List.range (n - k - 1)).map (k + 1 + ·)) := by
   rw [show List.range n = List.range (k + (1 + (n - k - 1))) by congr 1; omega, List.range_add, List.range_add]
   simp [Function.comp_def, Nat.add_assoc]
  rw [h1, List.filter_append, List.filter_cons_of_pos hp]
  have h2 : (List.range k).filter p = [] := List.filter_eq_nil_iff.2 fun i hi => by rw [h i (List.mem_range.1 hi)]; simp
  rw [h2]
  rfl
 rw [e]
 exact ⟨rfl, by simp⟩
theorem Nt.filter_none {n : Nat} {p : Nat → Bool} (h : ∀ i, i < n → p i = false) : (List.range n).filter p = [] := List.filter_eq_nil_iff.2 fun i hi => by rw [h i (List.mem_range.1 hi)]; simp
theorem Nt.check_at {ns : List Nd} {fs : List Fl} {j a : Nat} (hj : j < 4) (hb : ∀ i, i < j → Nt.wrongAt ns fs i = []) (h : Nt.wrongAt ns fs j ≠ []) (ha : (Nt.wrongAt ns fs j).headD 0 = a) : Nt.checkN ns fs = (j + 1, a) := by
 rw [Nt.checkN, Nt.broken_at hj hb h, ← ha]
theorem Nt.check_none {ns : List Nd} {fs : List Fl} (hb : ∀ i, i < 4 → Nt.wrongAt ns fs i = []) : Nt.checkN ns fs = (0, 0) := by rw [Nt.checkN, Nt.broken_none hb]; rfl
theorem Nt.first_le {ns : List Nd} {k : Int} {i : Nat} (hi : i < ns.length) (hk : ns[i].kind = k) : 0 ≤ Nt.firstI ns k ∧ Nt.firstI ns k ≤ i := by
 unfold Nt.firstI
 cases h : ns.findIdx? (fun x => decide (x.kind = k)) with
 | none =>
   have := List.findIdx?_eq_none_iff.1 h ns[i] (List.getElem_mem hi)
   simp [hk] at this
 | some j =>
   obtain ⟨hj, _, h2⟩ := List.findIdx?_eq_some_iff_getElem.1 h
   refine ⟨by simp, ?_⟩
   rcases Nat.lt_or_ge i j with hlt | hge
   ·have := h2 i hlt
    simp [hk] at this
   ·simp; exact hge
theorem Nt.joint_eq {ns : List Nd} {fs : List Fl} {i : Nat} (hi : i < ns.length) : (!Nt.jointB ns fs i) = (!Nt.threeB ns fs i || (decide (ns[i].kind = 1) && decide (Nt.firstI ns 1 < (i : Int))) || (decide (ns[i].kind = 2) && decide (Nt.firstI ns 2 < (i : Int)))) := by
 unfold Nt.jointB
 rw [Nt.kindAt_get ns i hi]
 have h1 : ns[i].kind = 1 → (!decide ((i : Int) = Nt.firstI ns 1)) = decide (Nt.firstI ns 1 < (i : Int)) := fun hk => by
  have := Nt.first_le hi hk
  rw [← decide_not]
  exact decide_eq_decide.2 (by omega)
 have h2 : ns[i].kind = 2 → (!decide ((i : Int) = Nt.firstI ns 2)) = decide (Nt.firstI ns 2 < (i : Int)) := fun hk => by
  have := Nt.first_le hi hk
  rw [← decide_not]
  exact decide_eq_decide.2 (by omega)
 by_cases k1 : ns[i].kind = 1
 ·rw [h1 k1, decide_eq_true k1, decide_eq_false (show ¬ ns[i].kind = 2 by omega)]
  cases Nt.threeB ns fs i <;> cases decide (Nt.firstI ns 1 < (i : Int)) <;> rfl
 ·by_cases k2 : ns[i].kind = 2
  ·rw [h2 k2, decide_eq_true k2, decide_eq_false k1]
   cases Nt.threeB ns fs i <;> cases decide (Nt.firstI ns 2 < (i : Int)) <;> rfl
  ·rw [decide_eq_false k1, decide_eq_false k2]
   cases Nt.threeB ns fs i <;> rfl
structure Nt.Kw (w : World) (box : Array Value) (W : World) : Prop where
 below : Below w.heap.size w W
 box : W.heap[w.heap.size]? = some (.cells box 25 (0, 0))
 ans : W.heap[w.heap.size + 1]? = some (.cells #[.int .i64 0, .int .i64 0] 57 (0, 0))
theorem Nt.Kw.next {w : World} {box : Array Value} {W W' : World} (h : Nt.Kw w box W) (hb : Below W.heap.size W W') : Nt.Kw w box W' :=
 ⟨h.below.trans (hb.mono h.below.size), by rw [hb.block _ (Nt.lt_of h.box)]; exact h.box, by rw [hb.block _ (Nt.lt_of h.ans)]; exact h.ans⟩
theorem Nt.Kw.alloc {w : World} {box : Array Value} {W : World} (h : Nt.Kw w box W) (o : Obj) : Nt.Kw w box (W.alloc o) := h.next ((Below.refl _ W).alloc (Nat.le_refl _) o)
theorem Nt.Kw.ends {w : World} {box : Array Value} {W : World} (h : Nt.Kw w box W) (r a : Int) (tmps : Array Value) (ht : tmps.getD 2 undef = .pointer (some ⟨w.heap.size + 1, 0, none⟩)) :
  (results Tryz.f19 tmps).run Tryz.prog (W.setRow (w.heap.size + 1) #[.int .i64 r, .int .i64 a]) = .ok (.agg #[.int .i64 r, .int .i64 a]) (W.setRow (w.heap.size + 1) #[.int .i64 r, .int .i64 a]) ∧ Below w.heap.size w (W.setRow (w.heap.size + 1) #[.int .i64 r, .int .i64 a]) :=
 ⟨results_cell_row Tryz.results19 _ _ (w.heap.size + 1) 57 #[.int .i64 r, .int .i64 a] (0, 0) _ ht (setRow_heap _ _ _ _ _ _ h.ans) Tryz.underlying57 rfl (by kernel_rfl), Tk.below_row h.below (by omega) _⟩
end Go.Proofs
