/-
  nest.Part at terms: all that is shared is copied.
-/
import Derived.Test.YtmpejbdmamgepaaDoorNtPart2
namespace Go.Proofs
open Go.RowKit Go.Shelf

theorem Tryd.infoPtr : (Tryd.prog.info? 66).map (fun i => (i.zero, i.size, i.bytes)) = some (some (.pointer none), 1, 8) := by kernel_rfl
def Pt.ptrs (Q : List Pl) : List Value := Q.map fun x => .pointer (some ⟨x.b, x.o, none⟩)
def Pt.pls (Q : List Pl) : List (Nat × Nat) := Q.map fun x => (x.b, x.o)
def Pt.wt : List Pl → Nat | [] => 0 | x :: r => x.T.size + Pt.wt r
def Pt.owe : List Pl → Nat | [] => 0 | x :: r => (x.T.size - 1) + Pt.owe r
theorem Pt.wt_app : ∀ a b : List Pl, Pt.wt (a ++ b) = Pt.wt a + Pt.wt b
  | [], b => by simp [Pt.wt]
  | x :: r, b => by rw [List.cons_append, Pt.wt, Pt.wt, Pt.wt_app r b]; omega
theorem Pt.owe_app : ∀ a b : List Pl, Pt.owe (a ++ b) = Pt.owe a + Pt.owe b
  | [], b => by simp [Pt.owe]
  | x :: r, b => by rw [List.cons_append, Pt.owe, Pt.owe, Pt.owe_app r b]; omega
/-- The kids up to j that are to be copied. -/
def Pt.todoP (g : Nat) (ts : List Tm) (us : List Value) (j : Nat) : List Pl := (List.range j).filterMap fun i => if (us[i]?.map Pt.live).getD false = true then ts[i]?.map fun T => ⟨g, i * 3, T⟩ else none
theorem Pt.todoP_succ {g : Nat} {ts : List Tm} {us : List Value} {j : Nat} (h1 : j < ts.length) (h2 : j < us.length) : Pt.todoP g ts us (j + 1) = Pt.todoP g ts us j ++ if Pt.live us[j] = true then [⟨g, j * 3, ts[j]⟩] else [] := by
  unfold Pt.todoP
  rw [List.range_succ, List.filterMap_append]
  congr 1
  cases hl : Pt.live us[j] <;> simp [List.getElem?_eq_getElem h2, List.getElem?_eq_getElem h1, hl]
theorem Pt.todoP_wt {g : Nat} {ts : List Tm} {us : List Value} (hl : us.length = ts.length) : ∀ j, j ≤ ts.length → Pt.wt (Pt.todoP g ts us j) ≤ Tm.sizes (ts.take j) ∧ Pt.owe (Pt.todoP g ts us j) + j ≤ Tm.sizes (ts.take j)
  | 0, _ => by simp [Pt.todoP, Pt.wt, Pt.owe, Tm.sizes]
  | j + 1, h => by
    have ih := Pt.todoP_wt (g := g) hl j (by omega)
    rw [Pt.todoP_succ (by omega) (by omega), Pt.wt_app, Pt.owe_app, Tm.sizes_take _ _ (by omega)]
    have hp := (ts[j]'(by omega)).size_pos
    split
    · simp only [Pt.wt, Pt.owe]; omega
    · simp only [Pt.wt, Pt.owe]; omega
theorem Pt.todoP_pls {g : Nat} {ts : List Tm} {us : List Value} (hl : us.length = ts.length) : Pt.pls (Pt.todoP g ts us us.length) = Pt.todo g us := by
  have key : ∀ j, j ≤ us.length → Pt.pls (Pt.todoP g ts us j) = ((List.range j).filter fun i => (us[i]?.map Pt.live).getD false).map fun i => (g, i * 3) := by
    intro j
    induction j with
    | zero => intro _; rfl
    | succ j ih =>
      intro hj
      rw [Pt.todoP_succ (by omega) (by omega), List.range_succ, List.filter_append, List.map_append, ← ih (by omega), Pt.pls, List.map_append, ← Pt.pls]
      congr 1
      rw [List.filter_cons, List.getElem?_eq_getElem (show j < us.length by omega)]
      simp only [Option.map_some, Option.getD_some, List.filter_nil]
      split <;> simp_all
  exact key us.length (Nat.le_refl _)
theorem Pt.todoP_mem {g : Nat} {ts : List Tm} {us : List Value} {j : Nat} {x : Pl} (h : x ∈ Pt.todoP g ts us j) : x ∈ Pt.kids g ts := by
  unfold Pt.todoP at h
  rw [List.mem_filterMap] at h
  obtain ⟨i, _, hx⟩ := h
  split at hx
  · cases hi : ts[i]? with
    | none => rw [hi] at hx; simp at hx
    | some T =>
      rw [hi] at hx
      obtain ⟨hl, he⟩ := List.getElem?_eq_some_iff.1 hi
      refine Pt.mem_kids.2 ⟨i, hl, ?_⟩
      rw [he]
      simpa using hx.symm
  · simp at hx

end Go.Proofs
