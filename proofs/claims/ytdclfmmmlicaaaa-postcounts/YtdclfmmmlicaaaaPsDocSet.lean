/-
  A box that is written into.
-/
import Derived.Test.YtdclfmmmlicaaaaPsDocOpen
namespace Go.Proofs
open Go.RowKit Go.Shelf Go.Maps

theorem Ps.cells_set : ∀ (M : Ps.Ofc) (i j : Nat) (p : Int × Bx) (u : Value) (h : i < M.length), j < 5 → Ps.cell5 p = (Ps.cell5 M[i]).set j u → (Ps.cells M).set (i * 5 + j) u = Ps.cells (M.set i p)
  | [], i, j, p, u, h, _, _ => by simp at h
  | r :: M, 0, j, p, u, _, hj, e => by
    have e' : Ps.cell5 p = (Ps.cell5 r).set j u := e
    rw [List.set_cons_zero, Ps.cells_cons, Ps.cells_cons, e', Nat.zero_mul, Nat.zero_add, List.set_append_left _ _ (by simp [Ps.cell5]; omega)]
  | r :: M, i + 1, j, p, u, h, hj, e => by
    have e' : Ps.cell5 p = (Ps.cell5 (M[i]'(by simpa using h))).set j u := e
    rw [List.set_cons_succ, Ps.cells_cons, Ps.cells_cons, List.set_append_right _ _ (by simp [Ps.cell5]; omega)]
    have e2 : (i + 1) * 5 + j - (Ps.cell5 r).length = i * 5 + j := by simp [Ps.cell5]; omega
    rw [e2, Ps.cells_set M i j p u (by simpa using h) hj e']
theorem Ps.set_at {M : Ps.Ofc} {k : Int} (hn : (Ps.key M).Nodup) {i : Nat} (h : i < M.length) (e : M[i].1 = k) (y : Bx) : Ps.set M k y = M.set i (k, y) := by
  induction M generalizing i with
  | nil => simp at h
  | cons p M ih =>
    have hn' : p.1 ∉ Ps.key M ∧ (Ps.key M).Nodup := by simpa [Ps.key] using hn
    have e2 : Ps.set (p :: M) k y = (if p.1 = k then (p.1, y) else p) :: Ps.set M k y := rfl
    cases i with
    | zero =>
      have e' : p.1 = k := e
      have hm : k ∉ Ps.key M := by rw [← e']; exact hn'.1
      have c2 : Ps.set M k y = M := by
        refine (List.map_congr_left fun q hq => ?_).trans (List.map_id M)
        have : q.1 ≠ k := fun e => hm (by rw [← e]; exact List.mem_map.2 ⟨q, hq, rfl⟩)
        rw [if_neg this]; rfl
      rw [e2, if_pos e', c2, e', List.set_cons_zero]
    | succ i =>
      have h' : i < M.length := by simpa using h
      have e' : M[i].1 = k := e
      have hne : ¬ p.1 = k := by
        intro ep
        exact hn'.1 (by rw [ep, ← e']; exact List.mem_map.2 ⟨M[i], List.getElem_mem h', rfl⟩)
      rw [e2, if_neg hne, ih hn'.2 h' e', List.set_cons_succ]
theorem Ps.Dc.set {B q g n c : Nat} {M : Ps.Ofc} {w : World} (h : Ps.Dc B q (.slice (some ⟨g, 0, none⟩) n c) M w) {i j : Nat} (hi : i < M.length) (hj : j < 5) (p : Int × Bx) (u : Value) (e : Ps.cell5 p = (Ps.cell5 M[i]).set j u) : Ps.Dc B q (.slice (some ⟨g, 0, none⟩) n c) (M.set i p) (w.setCell ⟨g, i * 5 + j, none⟩ u) := by
  have hne := (h.row (g := g) rfl).2.2
  refine ⟨(Below.heap_setCell _ _ _ _ (by exact fun e => hne e.symm)).trans h.1, by rw [Ps.cells_length, List.length_set], ?_⟩
  rcases h.2.2 with ⟨hv, _⟩ | ⟨g', cap, cur, hv, h3, h4, h5, h5', h6, h7⟩
  · cases hv
  · have hg : g = g' := by
      have := (Value.slice.inj hv).1
      simpa using this
    subst hg
    refine .inr ⟨g, cap, cur.setIfInBounds (i * 5 + j) u, by rw [List.length_set]; exact hv, h3, ?_, by rw [List.length_set]; exact h5, h5', by simpa using h6, ?_⟩
    · simp [World.setCell, Array.getElem?_modify, h4]
    · rw [List.length_set, Array.toList_setIfInBounds, List.take_set, h7, Ps.cells_set M i j p u hi hj e]
theorem Ps.ix_len {M : Ps.Ofc} {k m : Int} (h : Ps.has M k = false) (hor : ¬ (m < 0 ∨ 4 ≤ m)) : Ps.reachE M k m = 6 := by
  unfold Ps.reachE
  rw [if_neg hor, h]
  rfl
theorem Ps.ix_yes {M : Ps.Ofc} {k m : Int} (h : Ps.has M k = true) (hor : ¬ (m < 0 ∨ 4 ≤ m)) : Ps.reachE M k m = 0 := by
  unfold Ps.reachE
  rw [if_neg hor, h]
  rfl

end Go.Proofs
