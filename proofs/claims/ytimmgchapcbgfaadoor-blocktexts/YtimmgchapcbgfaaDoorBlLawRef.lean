/-
  What the statements' ref goes on with: a block as the document has it, its kids and links laid in new rows.
-/
import Derived.Test.YtimmgchapcbgfaaDoorBlModel
import Derived.Test.YtimmgchapcbgfaaDoorSteps
import Derived.Deep.AppendLies
import Derived.Lib.Hide
namespace Go.Proofs
open Go.RowKit

namespace Bl
/-- Links in blocks of P. -/
def LkP (w : World) (P : Nat → Prop) (v : Value) (ls : List (Int × Int × Int)) : Prop := ∃ a cap, v = .slice a ls.length cap ∧
  ∀ j (h : j < ls.length), ∃ g off, a = some ⟨g, off, none⟩ ∧ P g ∧ w.cell? ⟨g, off + j * 3, none⟩ = some (.int .i64 ls[j].1) ∧ w.cell? ⟨g, off + j * 3 + 1, none⟩ = some (.int .i64 ls[j].2.1) ∧ w.cell? ⟨g, off + j * 3 + 2, none⟩ = some (.int .i64 ls[j].2.2)
theorem LkP.keep {w w' : World} {P P' : Nat → Prop} {v : Value} {ls : List (Int × Int × Int)} (h : LkP w P v ls) (hk : ∀ k, P k → w'.heap[k]? = w.heap[k]?) (hP : ∀ k, P k → P' k) : LkP w' P' v ls := by
  obtain ⟨a, cap, hv, h⟩ := h
  refine ⟨a, cap, hv, fun j hj => ?_⟩
  obtain ⟨g, off, ha, hg, h0, h1, h2⟩ := h j hj
  have hc : ∀ o, w'.cell? ⟨g, o, none⟩ = w.cell? ⟨g, o, none⟩ := fun o => World.cell?_of_block (w := w) (hk g hg)
  exact ⟨g, off, ha, hP g hg, by rw [hc]; exact h0, by rw [hc]; exact h1, by rw [hc]; exact h2⟩
/-- A block's kids and links in blocks of P. -/
def LiesP (w : World) (P : Nat → Prop) : Nat → Value → Value → Bl → Prop
  | 0, _, _, _ => False
  | d + 1, v, lv, T => LkP w P lv T.ls ∧ ∃ a cap, v = .slice a T.ks.length cap ∧ (T.ks = [] ∨ ∃ g off, a = some ⟨g, off, none⟩ ∧ P g ∧
      ∀ j (h : j < T.ks.length), ∃ u lu, w.cell? ⟨g, off + j * 5, none⟩ = some (.int .i64 T.ks[j].kind) ∧ w.cell? ⟨g, off + j * 5 + 1, none⟩ = some (.int .i64 T.ks[j].node) ∧ w.cell? ⟨g, off + j * 5 + 2, none⟩ = some (.int .i64 T.ks[j].arg) ∧
        w.cell? ⟨g, off + j * 5 + 3, none⟩ = some u ∧ w.cell? ⟨g, off + j * 5 + 4, none⟩ = some lu ∧ LiesP w P d u lu T.ks[j])
theorem LiesP.keep {w w' : World} {P P' : Nat → Prop} (hk : ∀ k, P k → w'.heap[k]? = w.heap[k]?) (hP : ∀ k, P k → P' k) : ∀ {d : Nat} {v lv : Value} {T : Bl}, LiesP w P d v lv T → LiesP w' P' d v lv T
  | 0, _, _, _, h => h.elim
  | d + 1, v, lv, T, h => by
    obtain ⟨hl, a, cap, hv, h⟩ := h
    refine ⟨hl.keep hk hP, a, cap, hv, h.elim .inl fun ⟨g, off, ha, hg, hr⟩ => .inr ⟨g, off, ha, hP g hg, fun j hj => ?_⟩⟩
    obtain ⟨u, lu, h0, h1, h2, h3, h4, h5⟩ := hr j hj
    have hc : ∀ o, w'.cell? ⟨g, o, none⟩ = w.cell? ⟨g, o, none⟩ := fun o => World.cell?_of_block (w := w) (hk g hg)
    exact ⟨u, lu, by rw [hc]; exact h0, by rw [hc]; exact h1, by rw [hc]; exact h2, by rw [hc]; exact h3, by rw [hc]; exact h4, LiesP.keep hk hP h5⟩
theorem LiesP.lies {w : World} {P : Nat → Prop} {B : Nat} (hP : ∀ k, P k → k < B) : ∀ {d : Nat} {v lv : Value} {T : Bl}, LiesP w P d v lv T → Lies w B d v lv T
  | 0, _, _, _, h => h.elim
  | d + 1, v, lv, T, h => by
    obtain ⟨⟨al, cl, hvl, hl⟩, a, cap, hv, h⟩ := h
    refine ⟨⟨al, cl, hvl, fun j hj => ?_⟩, a, cap, hv, h.elim .inl fun ⟨g, off, ha, hg, hr⟩ => .inr ⟨g, off, ha, hP g hg, fun j hj => ?_⟩⟩
    · obtain ⟨g, off, ha, hg, h0⟩ := hl j hj
      exact ⟨g, off, ha, hP g hg, h0⟩
    · obtain ⟨u, lu, h0, h1, h2, h3, h4, h5⟩ := hr j hj
      exact ⟨u, lu, h0, h1, h2, h3, h4, LiesP.lies hP h5⟩
theorem LiesP.upto {w : World} {P : Nat → Prop} : ∀ {d d' : Nat} {v lv : Value} {T : Bl}, LiesP w P d v lv T → d ≤ d' → LiesP w P d' v lv T
  | 0, _, _, _, _, h, _ => h.elim
  | d + 1, 0, _, _, _, _, h' => by omega
  | d + 1, d' + 1, v, lv, T, h, h' => by
    obtain ⟨hl, a, cap, hv, h⟩ := h
    refine ⟨hl, a, cap, hv, h.elim .inl fun ⟨g, off, ha, hg, hr⟩ => .inr ⟨g, off, ha, hg, fun j hj => ?_⟩⟩
    obtain ⟨u, lu, h0, h1, h2, h3, h4, h5⟩ := hr j hj
    exact ⟨u, lu, h0, h1, h2, h3, h4, LiesP.upto h5 (by omega)⟩
end Bl

theorem Bk.rows_ne {X : World} {B B' : Nat} {e e' : TypeId} {s s' : Nat} {v v' : Value} {n n' : Nat} {cs cs' : List Value} (h : X.ownsRow B e s v n cs) (h' : X.ownsRow B' e' s' v' n' cs') (hne : e ≠ e') {k : Nat} (hk : v.ownBlock = some k) : v'.ownBlock ≠ some k := by
  rcases h.2 with ⟨rfl, _⟩ | ⟨g, cap, cur, rfl, _, hg, _⟩
  · cases hk
  · have e2 : g = k := Option.some.inj hk
    subst e2
    rcases h'.2 with ⟨rfl, _⟩ | ⟨g', cap', cur', rfl, _, hg', _⟩
    · simp [Value.ownBlock]
    · intro e1
      have e3 : g' = g := Option.some.inj e1
      subst e3
      rw [hg'] at hg
      cases hg
      exact hne rfl
theorem Bk.row_lt {X : World} {B : Nat} {e : TypeId} {s : Nat} {v : Value} {n : Nat} {cs : List Value} (h : X.ownsRow B e s v n cs) {k : Nat} (hk : v.ownBlock = some k) : B ≤ k ∧ k < X.heap.size := by
  rcases h.2 with ⟨rfl, _⟩ | ⟨g, cap, cur, rfl, hb, hg, _⟩
  · cases hk
  · have e2 : g = k := Option.some.inj hk
    subst e2
    exact ⟨hb, (Array.getElem?_eq_some_iff.1 hg).1⟩
theorem Bk.own_kept {w w' : World} {B : Nat} {e : TypeId} {size : Nat} {v : Value} {n : Nat} {cs : List Value} (h : w.ownsRow B e size v n cs) (hb : ∀ k, v.ownBlock = some k → w'.heap[k]? = w.heap[k]?) : w'.ownsRow B e size v n cs :=
  ⟨h.1, h.2.imp id fun ⟨g, cap, cur, hv, h1, h2, h3⟩ => ⟨g, cap, cur, hv, h1, (hb g (by rw [hv]; rfl)).trans h2, h3⟩⟩

/-- Kids' cells; links' cells. -/
def Bk.bCells (qs : List (Bl × Value × Value)) : List Value := qs.flatMap fun q => [.int .i64 q.1.kind, .int .i64 q.1.node, .int .i64 q.1.arg, q.2.1, q.2.2]
def Bk.lCells (xs : List (Int × Int × Int)) : List Value := xs.flatMap fun x => [.int .i64 x.1, .int .i64 x.2.1, .int .i64 x.2.2]
theorem Bk.bCells_append (a b : List (Bl × Value × Value)) : Bk.bCells (a ++ b) = Bk.bCells a ++ Bk.bCells b := by simp [Bk.bCells]
theorem Bk.lCells_append (a b : List (Int × Int × Int)) : Bk.lCells (a ++ b) = Bk.lCells a ++ Bk.lCells b := by simp [Bk.lCells]
theorem Bk.bCells_at : ∀ (qs : List (Bl × Value × Value)) (j : Nat) (h : j < qs.length), (Bk.bCells qs)[j * 5]? = some (.int .i64 qs[j].1.kind) ∧ (Bk.bCells qs)[j * 5 + 1]? = some (.int .i64 qs[j].1.node) ∧ (Bk.bCells qs)[j * 5 + 2]? = some (.int .i64 qs[j].1.arg) ∧ (Bk.bCells qs)[j * 5 + 3]? = some qs[j].2.1 ∧ (Bk.bCells qs)[j * 5 + 4]? = some qs[j].2.2
  | [], j, h => by simp at h
  | q :: r, 0, _ => by simp [Bk.bCells]
  | q :: r, j + 1, h => by
    have := Bk.bCells_at r j (by simpa using h)
    have e : Bk.bCells (q :: r) = [.int .i64 q.1.kind, .int .i64 q.1.node, .int .i64 q.1.arg, q.2.1, q.2.2] ++ Bk.bCells r := by simp [Bk.bCells]
    rw [e]
    rw [List.getElem?_append_right (by simp; omega), List.getElem?_append_right (by simp; omega), List.getElem?_append_right (by simp; omega), List.getElem?_append_right (by simp; omega), List.getElem?_append_right (by simp; omega)]
    simp only [List.length_cons, List.length_nil, List.getElem_cons_succ]
    rw [show (j + 1) * 5 - 5 = j * 5 by omega, show (j + 1) * 5 + 1 - 5 = j * 5 + 1 by omega, show (j + 1) * 5 + 2 - 5 = j * 5 + 2 by omega, show (j + 1) * 5 + 3 - 5 = j * 5 + 3 by omega, show (j + 1) * 5 + 4 - 5 = j * 5 + 4 by omega]
    exact this
theorem Bk.lCells_at : ∀ (xs : List (Int × Int × Int)) (j : Nat) (h : j < xs.length), (Bk.lCells xs)[j * 3]? = some (.int .i64 xs[j].1) ∧ (Bk.lCells xs)[j * 3 + 1]? = some (.int .i64 xs[j].2.1) ∧ (Bk.lCells xs)[j * 3 + 2]? = some (.int .i64 xs[j].2.2)
  | [], j, h => by simp at h
  | q :: r, 0, _ => by simp [Bk.lCells]
  | q :: r, j + 1, h => by
    have := Bk.lCells_at r j (by simpa using h)
    have e : Bk.lCells (q :: r) = [.int .i64 q.1, .int .i64 q.2.1, .int .i64 q.2.2] ++ Bk.lCells r := by simp [Bk.lCells]
    rw [e]
    rw [List.getElem?_append_right (by simp; omega), List.getElem?_append_right (by simp; omega), List.getElem?_append_right (by simp; omega)]
    simp only [List.length_cons, List.length_nil, List.getElem_cons_succ]
    rw [show (j + 1) * 3 - 3 = j * 3 by omega, show (j + 1) * 3 + 1 - 3 = j * 3 + 1 by omega, show (j + 1) * 3 + 2 - 3 = j * 3 + 2 by omega]
    exact this

/-- Blocks that neither row lies in. -/
def Bk.Far (b n : Nat) (vK vL : Value) (k : Nat) : Prop := b + 3 ≤ k ∧ k < n ∧ vK.ownBlock ≠ some k ∧ vL.ownBlock ≠ some k
/-- What ref goes on with: the box, the answer, the variable out. -/
structure Bk.Rf (w : World) (bx : Array Value) (k n r : Int) (vK vL : Value) (qs : List (Bl × Value × Value)) (xs : List (Int × Int × Int)) (X : World) : Prop where
  box : X.heap[w.heap.size]? = some (.cells bx 25 (0, 0))
  res : X.heap[w.heap.size + 1]? = some (.cells #[.int .i64 0, .int .i64 0, .int .i64 0, .slice none 0 0, .slice none 0 0] 34 (0, 0))
  var : X.heap[w.heap.size + 1 + 1]? = some (.cells #[.int .i64 k, .int .i64 n, .int .i64 r, vK, vL] 34 (0, 0))
  ownK : X.ownsRow (w.heap.size + 3) 34 5 vK qs.length (Bk.bCells qs)
  ownL : X.ownsRow (w.heap.size + 3) 47 3 vL xs.length (Bk.lCells xs)
  lies : ∀ q ∈ qs, ∃ d, Bl.LiesP X (Bk.Far w.heap.size X.heap.size vK vL) d q.2.1 q.2.2 q.1
  below : Below w.heap.size w X
section
variable {w : World} {bx : Array Value} {k n r : Int} {vK vL : Value} {qs : List (Bl × Value × Value)} {xs : List (Int × Int × Int)} {X X' W6 : World}
theorem Bk.Rf.lt (h : Bk.Rf w bx k n r vK vL qs xs X) : w.heap.size + 1 + 1 < X.heap.size := (Array.getElem?_eq_some_iff.1 h.var).1
theorem Bk.Rf.step (h : Bk.Rf w bx k n r vK vL qs xs X) (hb : Below X.heap.size X X') : Bk.Rf w bx k n r vK vL qs xs X' := by
  have hz := h.lt
  exact ⟨(hb.block _ (by omega)).trans h.box, (hb.block _ (by omega)).trans h.res, (hb.block _ hz).trans h.var, Bk.own_kept h.ownK fun k hk => hb.block k (Bk.row_lt h.ownK hk).2, Bk.own_kept h.ownL fun k hk => hb.block k (Bk.row_lt h.ownL hk).2,
    fun q hq => by obtain ⟨d, hd⟩ := h.lies q hq; exact ⟨d, hd.keep (fun k hk => hb.block k hk.2.1) fun k hk => ⟨hk.1, Nat.lt_of_lt_of_le hk.2.1 hb.size, hk.2.2⟩⟩, h.below.trans (hb.mono h.below.size)⟩
/-- A link more: ahead of the store, and behind it. -/
theorem Bk.Rf.midL (h : Bk.Rf w bx k n r vK vL qs xs X) (g6 : X.grownBy W6 vL.ownBlock) : W6.heap[w.heap.size + 1 + 1]? = some (.cells #[.int .i64 k, .int .i64 n, .int .i64 r, vK, vL] 34 (0, 0)) :=
  (g6.block _ h.lt (by intro e; have := (Bk.row_lt h.ownL e.symm).1; omega)).trans h.var
theorem Bk.Rf.midK (h : Bk.Rf w bx k n r vK vL qs xs X) (g6 : X.grownBy W6 vK.ownBlock) : W6.heap[w.heap.size + 1 + 1]? = some (.cells #[.int .i64 k, .int .i64 n, .int .i64 r, vK, vL] 34 (0, 0)) :=
  (g6.block _ h.lt (by intro e; have := (Bk.row_lt h.ownK e.symm).1; omega)).trans h.var
theorem Bk.Rf.kid {x : Bl} {ua uk : Value} {g cap H : Nat} (h : Bk.Rf w bx k n r vK vL qs xs X) (hx : ∃ d, Bl.LiesP X (Bk.Far w.heap.size X.heap.size vK vL) d ua uk x) (hH : X.heap.size = H)
    (o6 : W6.ownsRow (w.heap.size + 3) 34 5 (.slice (some ⟨g, 0, none⟩) (qs.length + 1) cap) (qs.length + 1) (Bk.bCells qs ++ [.int .i64 x.kind, .int .i64 x.node, .int .i64 x.arg, ua, uk])) (g6 : X.grownBy W6 vK.ownBlock) (hg : vK.ownBlock = some g ∨ g = H) :
    Bk.Rf w bx k n r (.slice (some ⟨g, 0, none⟩) (qs.length + 1) cap) vL (qs ++ [(x, ua, uk)]) xs (W6.setCell ⟨w.heap.size + 1 + 1, 3, none⟩ (.slice (some ⟨g, 0, none⟩) (qs.length + 1) cap)) := by
  have hz := h.lt
  have hv := h.midK g6
  have hk : ∀ k, k < w.heap.size + 3 → k < X.heap.size → W6.heap[k]? = X.heap[k]? := fun k h1 h2 => g6.block k h2 (by intro e; have := (Bk.row_lt h.ownK e.symm).1; omega)
  have key : ∀ (d : Nat) (va vk : Value) (E : Bl), Bl.LiesP X (Bk.Far w.heap.size X.heap.size vK vL) d va vk E → Bl.LiesP (W6.setCell ⟨w.heap.size + 1 + 1, 3, none⟩ (.slice (some ⟨g, 0, none⟩) (qs.length + 1) cap)) (Bk.Far w.heap.size (W6.setCell ⟨w.heap.size + 1 + 1, 3, none⟩ (.slice (some ⟨g, 0, none⟩) (qs.length + 1) cap)).heap.size (.slice (some ⟨g, 0, none⟩) (qs.length + 1) cap) vL) d va vk E := fun d va vk E hE =>
    hE.keep (fun k hk => (Below.heap_setCell _ _ _ _ (by have := hk.1; show k ≠ w.heap.size + 1 + 1; omega)).trans (g6.block k hk.2.1 (Ne.symm hk.2.2.1))) fun k hk => ⟨hk.1, by have := g6.size; have := hk.2.1; simp [World.setCell]; omega, by
      intro e
      have e' : g = k := Option.some.inj e
      subst e'
      rcases hg with hg | hg
      · exact hk.2.2.1 hg
      · have := hk.2.1; omega, hk.2.2.2⟩
  refine ⟨?_, ?_, ?_, ?_, ?_, ?_, ?_⟩
  · rw [Below.heap_setCell _ _ _ _ (by show _ ≠ w.heap.size + 1 + 1; omega)]; exact (hk _ (by omega) (by omega)).trans h.box
  · rw [Below.heap_setCell _ _ _ _ (by show _ ≠ w.heap.size + 1 + 1; omega)]; exact (hk _ (by omega) (by omega)).trans h.res
  · simp [World.setCell, Array.getElem?_modify, hv]
  · rw [Bk.bCells_append, List.length_append]
    exact ownsRow_setCell_below o6 (by show w.heap.size + 1 + 1 < _; omega) _
  · refine ownsRow_setCell_below (Bk.own_kept h.ownL fun k hk1 => g6.block k (Bk.row_lt h.ownL hk1).2 ?_) (by show w.heap.size + 1 + 1 < _; omega) _
    intro e
    exact Bk.rows_ne h.ownL h.ownK (by decide) hk1 e.symm
  · intro q hq
    rcases List.mem_append.1 hq with hq | hq
    · obtain ⟨d, hd⟩ := h.lies q hq
      exact ⟨d, key _ _ _ _ hd⟩
    · rw [List.mem_singleton.1 hq]
      obtain ⟨d, hd⟩ := hx
      exact ⟨d, key _ _ _ _ hd⟩
  · exact (h.below.trans ⟨g6.os, g6.tape, g6.output, g6.size, fun j hj => hk j (by omega) (by omega)⟩).setCell (by show _ ≤ w.heap.size + 1 + 1; omega) _
theorem Bk.Rf.link {x : Int × Int × Int} {g cap H : Nat} (h : Bk.Rf w bx k n r vK vL qs xs X) (hH : X.heap.size = H)
    (o6 : W6.ownsRow (w.heap.size + 3) 47 3 (.slice (some ⟨g, 0, none⟩) (xs.length + 1) cap) (xs.length + 1) (Bk.lCells xs ++ [.int .i64 x.1, .int .i64 x.2.1, .int .i64 x.2.2])) (g6 : X.grownBy W6 vL.ownBlock) (hg : vL.ownBlock = some g ∨ g = H) :
    Bk.Rf w bx k n r vK (.slice (some ⟨g, 0, none⟩) (xs.length + 1) cap) qs (xs ++ [x]) (W6.setCell ⟨w.heap.size + 1 + 1, 4, none⟩ (.slice (some ⟨g, 0, none⟩) (xs.length + 1) cap)) := by
  have hz := h.lt
  have hv := h.midL g6
  have hk : ∀ k, k < w.heap.size + 3 → k < X.heap.size → W6.heap[k]? = X.heap[k]? := fun k h1 h2 => g6.block k h2 (by intro e; have := (Bk.row_lt h.ownL e.symm).1; omega)
  refine ⟨?_, ?_, ?_, ?_, ?_, ?_, ?_⟩
  · rw [Below.heap_setCell _ _ _ _ (by show _ ≠ w.heap.size + 1 + 1; omega)]; exact (hk _ (by omega) (by omega)).trans h.box
  · rw [Below.heap_setCell _ _ _ _ (by show _ ≠ w.heap.size + 1 + 1; omega)]; exact (hk _ (by omega) (by omega)).trans h.res
  · simp [World.setCell, Array.getElem?_modify, hv]
  · refine ownsRow_setCell_below (Bk.own_kept h.ownK fun k hk1 => g6.block k (Bk.row_lt h.ownK hk1).2 ?_) (by show w.heap.size + 1 + 1 < _; omega) _
    intro e
    exact Bk.rows_ne h.ownK h.ownL (by decide) hk1 e.symm
  · rw [Bk.lCells_append, List.length_append]
    exact ownsRow_setCell_below o6 (by show w.heap.size + 1 + 1 < _; omega) _
  · intro q hq
    obtain ⟨d, hd⟩ := h.lies q hq
    refine ⟨d, hd.keep (fun k hk => (Below.heap_setCell _ _ _ _ (by have := hk.1; show k ≠ w.heap.size + 1 + 1; omega)).trans (g6.block k hk.2.1 (Ne.symm hk.2.2.2))) fun k hk => ⟨hk.1, by have := g6.size; have := hk.2.1; simp [World.setCell]; omega, hk.2.2.1, ?_⟩⟩
    intro e
    have e' : g = k := Option.some.inj e
    subst e'
    rcases hg with hg | hg
    · exact hk.2.2.2 hg
    · have := hk.2.1; omega
  · exact (h.below.trans ⟨g6.os, g6.tape, g6.output, g6.size, fun j hj => hk j (by omega) (by omega)⟩).setCell (by show _ ≤ w.heap.size + 1 + 1; omega) _
end
theorem Bk.maxL {w : World} {P : Nat → Prop} : ∀ (l : List (Bl × Value × Value)), (∀ q ∈ l, ∃ d, Bl.LiesP w P d q.2.1 q.2.2 q.1) → ∃ D, ∀ q ∈ l, Bl.LiesP w P D q.2.1 q.2.2 q.1
  | [], _ => ⟨0, fun _ h => by cases h⟩
  | a :: l, h => by
    obtain ⟨D, hD⟩ := Bk.maxL l fun q hq => h q (by simp [hq])
    obtain ⟨d, hd⟩ := h a (by simp)
    refine ⟨max D d, fun q hq => ?_⟩
    rcases List.mem_cons.1 hq with rfl | hq
    · exact hd.upto (Nat.le_max_right _ _)
    · exact (hD q hq).upto (Nat.le_max_left _ _)
/-- The block that is there. -/
theorem Bk.Rf.all {w : World} {bx : Array Value} {k n r : Int} {vK vL : Value} {qs : List (Bl × Value × Value)} {X : World} {T : Bl} (h : Bk.Rf w bx k n r vK vL qs T.ls X) (hk : qs.map (·.1) = T.ks) : ∃ d, Bl.LiesP X (fun k => w.heap.size + 3 ≤ k ∧ k < X.heap.size) d vK vL T := by
  obtain ⟨D, hD⟩ := Bk.maxL qs h.lies
  have hlen : T.ks.length = qs.length := by rw [← hk]; simp
  refine ⟨D + 1, ?_, ?_⟩
  · rcases h.ownL.2 with ⟨rfl, h0⟩ | ⟨g, cap, cur, rfl, hb, hg, _⟩
    · exact ⟨none, 0, by rw [h0], fun j hj => by omega⟩
    · refine ⟨_, _, rfl, fun j hj => ⟨g, 0, rfl, ⟨hb, (Array.getElem?_eq_some_iff.1 hg).1⟩, ?_⟩⟩
      obtain ⟨c0, c1, c2⟩ := Bk.lCells_at T.ls j hj
      have hc : ∀ o u, (Bk.lCells T.ls)[o]? = some u → X.cell? ⟨g, o, none⟩ = some u := fun o u hu => by
        have h1 := h.ownL.cells (g := g) rfl o u hu
        have ea : (⟨g, 0, none⟩ : Addr).add o = ⟨g, o, none⟩ := by unfold Addr.add; split <;> simp_all
        rw [ea] at h1
        exact h1
      rw [Nat.zero_add]
      exact ⟨hc _ _ c0, hc _ _ c1, hc _ _ c2⟩
  rcases h.ownK.2 with ⟨rfl, h0⟩ | ⟨g, cap, cur, rfl, hb, hg, _⟩
  · exact ⟨none, 0, by rw [hlen, h0], .inl (List.length_eq_zero_iff.1 (by omega))⟩
  · refine ⟨_, _, by rw [hlen], .inr ⟨g, 0, rfl, ⟨hb, (Array.getElem?_eq_some_iff.1 hg).1⟩, fun j hj => ?_⟩⟩
    have hj' : j < qs.length := by omega
    obtain ⟨c0, c1, c2, c3, c4⟩ := Bk.bCells_at qs j hj'
    have hc : ∀ o u, (Bk.bCells qs)[o]? = some u → X.cell? ⟨g, o, none⟩ = some u := fun o u hu => by
      have h1 := h.ownK.cells (g := g) rfl o u hu
      have ea : (⟨g, 0, none⟩ : Addr).add o = ⟨g, o, none⟩ := by unfold Addr.add; split <;> simp_all
      rw [ea] at h1
      exact h1
    have he : T.ks[j] = qs[j].1 := by simp [← hk]
    rw [he, Nat.zero_add]
    exact ⟨qs[j].2.1, qs[j].2.2, hc _ _ c0, hc _ _ c1, hc _ _ c2, hc _ _ c3, hc _ _ c4, (hD _ (List.getElem_mem hj')).keep (fun _ _ => rfl) fun k hk => ⟨hk.1, hk.2.1⟩⟩

end Go.Proofs
