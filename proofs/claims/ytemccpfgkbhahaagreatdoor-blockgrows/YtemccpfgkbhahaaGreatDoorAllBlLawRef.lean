/-
  What the statements' ref goes on with: a block as the document has it, its kids and links laid in new rows. · The walk of the statements' ref.
-/
import Derived.Test.YtemccpfgkbhahaaGreatDoorBlModel
import Derived.Test.YtemccpfgkbhahaaGreatDoorSteps
import Derived.Deep.AppendLies
import Derived.Lib.Hide
import Derived.Deep.DeepCutAuto
import Derived.Deep.RegionLaw
namespace Go.Proofs
open Go.RowKit

namespace Bl
/-- Links in blocks of P. -/
def LkP (w : World) (P : Nat → Prop) (v : Value) (ls : List (Int × Int × Int)) : Prop := ∃ a cap, v = .slice a ls.length cap ∧
  ∀ j (h : j < ls.length), ∃ g off, a = some ⟨g, off, none⟩ ∧ P g ∧ w.cell? ⟨g, off + j * 3, none⟩ = some (.int .i64 ls[j].1) ∧ w.cell? ⟨g, off + j * 3 + 1, none⟩ = some (.int .i64 ls[j].2.1) ∧ w.cell? ⟨g, off + j * 3 + 2, none⟩ = some (.int .i64 ls[j].2.2)
theorem LkP.keep {w w' : World} {P P' : Nat → Prop} {v : Value} {ls : List (Int × Int × Int)} (h : LkP w P v ls) (hk : ∀ k, P k → w'.heap[k]? = w.heap[k]?) (hP : ∀ k, P k → P' k) : LkP w' P' v ls := by
  obtain ⟨a, cap, hv, h⟩ := h
  refine ⟨a, cap, hv, fun j hj => ?_⟩
  obtain ⟨g, off, ha, hg, h0, h1, h2⟩ := h j hj
  have hc : ∀ o, w'.cell? ⟨g, o, none⟩ = w.cell? ⟨g, o, none⟩ := fun o => World.cell?_of_block (w := w) (hk g hg)
  exact ⟨g, off, ha, hP g hg, by rw [hc]; exact h0, by rw [hc]; exact h1, by rw [hc]; exact h2⟩
/-- A block's kids and links in blocks of P. -/
def LiesP (w : World) (P : Nat → Prop) : Nat → Value → Value → Bl → Prop
  | 0, _, _, _ => False
  | d + 1, v, lv, T => LkP w P lv T.ls ∧ ∃ a cap, v = .slice a T.ks.length cap ∧ (T.ks = [] ∨ ∃ g off, a = some ⟨g, off, none⟩ ∧ P g ∧
      ∀ j (h : j < T.ks.length), ∃ u lu, w.cell? ⟨g, off + j * 5, none⟩ = some (.int .i64 T.ks[j].kind) ∧ w.cell? ⟨g, off + j * 5 + 1, none⟩ = some (.int .i64 T.ks[j].node) ∧ w.cell? ⟨g, off + j * 5 + 2, none⟩ = some (.int .i64 T.ks[j].arg) ∧
        w.cell? ⟨g, off + j * 5 + 3, none⟩ = some u ∧ w.cell? ⟨g, off + j * 5 + 4, none⟩ = some lu ∧ LiesP w P d u lu T.ks[j])
theorem LiesP.keep {w w' : World} {P P' : Nat → Prop} (hk : ∀ k, P k → w'.heap[k]? = w.heap[k]?) (hP : ∀ k, P k → P' k) : ∀ {d : Nat} {v lv : Value} {T : Bl}, LiesP w P d v lv T → LiesP w' P' d v lv T
  | 0, _, _, _, h => h.elim
  | d + 1, v, lv, T, h => by
    obtain ⟨hl, a, cap, hv, h⟩ := h
    refine ⟨hl.keep hk hP, a, cap, hv, h.elim .inl fun ⟨g, off, ha, hg, hr⟩ => .inr ⟨g, off, ha, hP g hg, fun j hj => ?_⟩⟩
    obtain ⟨u, lu, h0, h1, h2, h3, h4, h5⟩ := hr j hj
    have hc : ∀ o, w'.cell? ⟨g, o, none⟩ = w.cell? ⟨g, o, none⟩ := fun o => World.cell?_of_block (w := w) (hk g hg)
    exact ⟨u, lu, by rw [hc]; exact h0, by rw [hc]; exact h1, by rw [hc]; exact h2, by rw [hc]; exact h3, by rw [hc]; exact h4, LiesP.keep hk hP h5⟩
theorem LiesP.lies {w : World} {P : Nat → Prop} {B : Nat} (hP : ∀ k, P k → k < B) : ∀ {d : Nat} {v lv : Value} {T : Bl}, LiesP w P d v lv T → Lies w B d v lv T
  | 0, _, _, _, h => h.elim
  | d + 1, v, lv, T, h => by
    obtain ⟨⟨al, cl, hvl, hl⟩, a, cap, hv, h⟩ := h
    refine ⟨⟨al, cl, hvl, fun j hj => ?_⟩, a, cap, hv, h.elim .inl fun ⟨g, off, ha, hg, hr⟩ => .inr ⟨g, off, ha, hP g hg, fun j hj => ?_⟩⟩
    · obtain ⟨g, off, ha, hg, h0⟩ := hl j hj
      exact ⟨g, off, ha, hP g hg, h0⟩
    · obtain ⟨u, lu, h0, h1, h2, h3, h4, h5⟩ := hr j hj
      exact ⟨u, lu, h0, h1, h2, h3, h4, LiesP.lies hP h5⟩
theorem LiesP.upto {w : World} {P : Nat → Prop} : ∀ {d d' : Nat} {v lv : Value} {T : Bl}, LiesP w P d v lv T → d ≤ d' → LiesP w P d' v lv T
  | 0, _, _, _, _, h, _ => h.elim
  | d + 1, 0, _, _, _, _, h' => by omega
  | d + 1, d' + 1, v, lv, T, h, h' => by
    obtain ⟨hl, a, cap, hv, h⟩ := h
    refine ⟨hl, a, cap, hv, h.elim .inl fun ⟨g, off, ha, hg, hr⟩ => .inr ⟨g, off, ha, hg, fun j hj => ?_⟩⟩
    obtain ⟨u, lu, h0, h1, h2, h3, h4, h5⟩ := hr j hj
    exact ⟨u, lu, h0, h1, h2, h3, h4, LiesP.upto h5 (by omega)⟩
end Bl

theorem Bk.rows_ne {X : World} {B B' : Nat} {e e' : TypeId} {s s' : Nat} {v v' : Value} {n n' : Nat} {cs cs' : List Value} (h : X.ownsRow B e s v n cs) (h' : X.ownsRow B' e' s' v' n' cs') (hne : e ≠ e') {k : Nat} (hk : v.ownBlock = some k) : v'.ownBlock ≠ some k := by
  rcases h.2 with ⟨rfl, _⟩ | ⟨g, cap, cur, rfl, _, hg, _⟩
  · cases hk
  · have e2 : g = k := Option.some.inj hk
    subst e2
    rcases h'.2 with ⟨rfl, _⟩ | ⟨g', cap', cur', rfl, _, hg', _⟩
    · simp [Value.ownBlock]
    · intro e1
      have e3 : g' = g := Option.some.inj e1
      subst e3
      rw [hg'] at hg
      cases hg
      exact hne rfl
theorem Bk.row_lt {X : World} {B : Nat} {e : TypeId} {s : Nat} {v : Value} {n : Nat} {cs : List Value} (h : X.ownsRow B e s v n cs) {k : Nat} (hk : v.ownBlock = some k) : B ≤ k ∧ k < X.heap.size := by
  rcases h.2 with ⟨rfl, _⟩ | ⟨g, cap, cur, rfl, hb, hg, _⟩
  · cases hk
  · have e2 : g = k := Option.some.inj hk
    subst e2
    exact ⟨hb, (Array.getElem?_eq_some_iff.1 hg).1⟩
theorem Bk.own_kept {w w' : World} {B : Nat} {e : TypeId} {size : Nat} {v : Value} {n : Nat} {cs : List Value} (h : w.ownsRow B e size v n cs) (hb : ∀ k, v.ownBlock = some k → w'.heap[k]? = w.heap[k]?) : w'.ownsRow B e size v n cs :=
  ⟨h.1, h.2.imp id fun ⟨g, cap, cur, hv, h1, h2, h3⟩ => ⟨g, cap, cur, hv, h1, (hb g (by rw [hv]; rfl)).trans h2, h3⟩⟩

/-- Kids' cells; links' cells. -/
def Bk.bCells (qs : List (Bl × Value × Value)) : List Value := qs.flatMap fun q => [.int .i64 q.1.kind, .int .i64 q.1.node, .int .i64 q.1.arg, q.2.1, q.2.2]
def Bk.lCells (xs : List (Int × Int × Int)) : List Value := xs.flatMap fun x => [.int .i64 x.1, .int .i64 x.2.1, .int .i64 x.2.2]
theorem Bk.bCells_append (a b : List (Bl × Value × Value)) : Bk.bCells (a ++ b) = Bk.bCells a ++ Bk.bCells b := by simp [Bk.bCells]
theorem Bk.lCells_append (a b : List (Int × Int × Int)) : Bk.lCells (a ++ b) = Bk.lCells a ++ Bk.lCells b := by simp [Bk.lCells]
theorem Bk.bCells_at : ∀ (qs : List (Bl × Value × Value)) (j : Nat) (h : j < qs.length), (Bk.bCells qs)[j * 5]? = some (.int .i64 qs[j].1.kind) ∧ (Bk.bCells qs)[j * 5 + 1]? = some (.int .i64 qs[j].1.node) ∧ (Bk.bCells qs)[j * 5 + 2]? = some (.int .i64 qs[j].1.arg) ∧ (Bk.bCells qs)[j * 5 + 3]? = some qs[j].2.1 ∧ (Bk.bCells qs)[j * 5 + 4]? = some qs[j].2.2
  | [], j, h => by simp at h
  | q :: r, 0, _ => by simp [Bk.bCells]
  | q :: r, j + 1, h => by
    have := Bk.bCells_at r j (by simpa using h)
    have e : Bk.bCells (q :: r) = [.int .i64 q.1.kind, .int .i64 q.1.node, .int .i64 q.1.arg, q.2.1, q.2.2] ++ Bk.bCells r := by simp [Bk.bCells]
    rw [e]
    rw [List.getElem?_append_right (by simp; omega), List.getElem?_append_right (by simp; omega), List.getElem?_append_right (by simp; omega), List.getElem?_append_right (by simp; omega), List.getElem?_append_right (by simp; omega)]
    simp only [List.length_cons, List.length_nil, List.getElem_cons_succ]
    rw [show (j + 1) * 5 - 5 = j * 5 by omega, show (j + 1) * 5 + 1 - 5 = j * 5 + 1 by omega, show (j + 1) * 5 + 2 - 5 = j * 5 + 2 by omega, show (j + 1) * 5 + 3 - 5 = j * 5 + 3 by omega, show (j + 1) * 5 + 4 - 5 = j * 5 + 4 by omega]
    exact this
theorem Bk.lCells_at : ∀ (xs : List (Int × Int × Int)) (j : Nat) (h : j < xs.length), (Bk.lCells xs)[j * 3]? = some (.int .i64 xs[j].1) ∧ (Bk.lCells xs)[j * 3 + 1]? = some (.int .i64 xs[j].2.1) ∧ (Bk.lCells xs)[j * 3 + 2]? = some (.int .i64 xs[j].2.2)
  | [], j, h => by simp at h
  | q :: r, 0, _ => by simp [Bk.lCells]
  | q :: r, j + 1, h => by
    have := Bk.lCells_at r j (by simpa using h)
    have e : Bk.lCells (q :: r) = [.int .i64 q.1, .int .i64 q.2.1, .int .i64 q.2.2] ++ Bk.lCells r := by simp [Bk.lCells]
    rw [e]
    rw [List.getElem?_append_right (by simp; omega), List.getElem?_append_right (by simp; omega), List.getElem?_append_right (by simp; omega)]
    simp only [List.length_cons, List.length_nil, List.getElem_cons_succ]
    rw [show (j + 1) * 3 - 3 = j * 3 by omega, show (j + 1) * 3 + 1 - 3 = j * 3 + 1 by omega, show (j + 1) * 3 + 2 - 3 = j * 3 + 2 by omega]
    exact this

/-- Blocks that neither row lies in. -/
def Bk.Far (b n : Nat) (vK vL : Value) (k : Nat) : Prop := b + 3 ≤ k ∧ k < n ∧ vK.ownBlock ≠ some k ∧ vL.ownBlock ≠ some k
/-- What ref goes on with: the box, the answer, the variable out. -/
structure Bk.Rf (w : World) (bx : Array Value) (k n r : Int) (vK vL : Value) (qs : List (Bl × Value × Value)) (xs : List (Int × Int × Int)) (X : World) : Prop where
  box : X.heap[w.heap.size]? = some (.cells bx 29 (0, 0))
  res : X.heap[w.heap.size + 1]? = some (.cells #[.int .i64 0, .int .i64 0, .int .i64 0, .slice none 0 0, .slice none 0 0] 50 (0, 0))
  var : X.heap[w.heap.size + 1 + 1]? = some (.cells #[.int .i64 k, .int .i64 n, .int .i64 r, vK, vL] 50 (0, 0))
  ownK : X.ownsRow (w.heap.size + 3) 50 5 vK qs.length (Bk.bCells qs)
  ownL : X.ownsRow (w.heap.size + 3) 76 3 vL xs.length (Bk.lCells xs)
  lies : ∀ q ∈ qs, ∃ d, Bl.LiesP X (Bk.Far w.heap.size X.heap.size vK vL) d q.2.1 q.2.2 q.1
  below : Below w.heap.size w X
section
variable {w : World} {bx : Array Value} {k n r : Int} {vK vL : Value} {qs : List (Bl × Value × Value)} {xs : List (Int × Int × Int)} {X X' W6 : World}
theorem Bk.Rf.lt (h : Bk.Rf w bx k n r vK vL qs xs X) : w.heap.size + 1 + 1 < X.heap.size := (Array.getElem?_eq_some_iff.1 h.var).1
theorem Bk.Rf.step (h : Bk.Rf w bx k n r vK vL qs xs X) (hb : Below X.heap.size X X') : Bk.Rf w bx k n r vK vL qs xs X' := by
  have hz := h.lt
  exact ⟨(hb.block _ (by omega)).trans h.box, (hb.block _ (by omega)).trans h.res, (hb.block _ hz).trans h.var, Bk.own_kept h.ownK fun k hk => hb.block k (Bk.row_lt h.ownK hk).2, Bk.own_kept h.ownL fun k hk => hb.block k (Bk.row_lt h.ownL hk).2,
    fun q hq => by obtain ⟨d, hd⟩ := h.lies q hq; exact ⟨d, hd.keep (fun k hk => hb.block k hk.2.1) fun k hk => ⟨hk.1, Nat.lt_of_lt_of_le hk.2.1 hb.size, hk.2.2⟩⟩, h.below.trans (hb.mono h.below.size)⟩
/-- A link more: ahead of the store, and behind it. -/
theorem Bk.Rf.midL (h : Bk.Rf w bx k n r vK vL qs xs X) (g6 : X.grownBy W6 vL.ownBlock) : W6.heap[w.heap.size + 1 + 1]? = some (.cells #[.int .i64 k, .int .i64 n, .int .i64 r, vK, vL] 50 (0, 0)) :=
  (g6.block _ h.lt (by intro e; have := (Bk.row_lt h.ownL e.symm).1; omega)).trans h.var
theorem Bk.Rf.midK (h : Bk.Rf w bx k n r vK vL qs xs X) (g6 : X.grownBy W6 vK.ownBlock) : W6.heap[w.heap.size + 1 + 1]? = some (.cells #[.int .i64 k, .int .i64 n, .int .i64 r, vK, vL] 50 (0, 0)) :=
  (g6.block _ h.lt (by intro e; have := (Bk.row_lt h.ownK e.symm).1; omega)).trans h.var
theorem Bk.Rf.kid {x : Bl} {ua uk : Value} {g cap H : Nat} (h : Bk.Rf w bx k n r vK vL qs xs X) (hx : ∃ d, Bl.LiesP X (Bk.Far w.heap.size X.heap.size vK vL) d ua uk x) (hH : X.heap.size = H)
    (o6 : W6.ownsRow (w.heap.size + 3) 50 5 (.slice (some ⟨g, 0, none⟩) (qs.length + 1) cap) (qs.length + 1) (Bk.bCells qs ++ [.int .i64 x.kind, .int .i64 x.node, .int .i64 x.arg, ua, uk])) (g6 : X.grownBy W6 vK.ownBlock) (hg : vK.ownBlock = some g ∨ g = H) :
    Bk.Rf w bx k n r (.slice (some ⟨g, 0, none⟩) (qs.length + 1) cap) vL (qs ++ [(x, ua, uk)]) xs (W6.setCell ⟨w.heap.size + 1 + 1, 3, none⟩ (.slice (some ⟨g, 0, none⟩) (qs.length + 1) cap)) := by
  have hz := h.lt
  have hv := h.midK g6
  have hk : ∀ k, k < w.heap.size + 3 → k < X.heap.size → W6.heap[k]? = X.heap[k]? := fun k h1 h2 => g6.block k h2 (by intro e; have := (Bk.row_lt h.ownK e.symm).1; omega)
  have key : ∀ (d : Nat) (va vk : Value) (E : Bl), Bl.LiesP X (Bk.Far w.heap.size X.heap.size vK vL) d va vk E → Bl.LiesP (W6.setCell ⟨w.heap.size + 1 + 1, 3, none⟩ (.slice (some ⟨g, 0, none⟩) (qs.length + 1) cap)) (Bk.Far w.heap.size (W6.setCell ⟨w.heap.size + 1 + 1, 3, none⟩ (.slice (some ⟨g, 0, none⟩) (qs.length + 1) cap)).heap.size (.slice (some ⟨g, 0, none⟩) (qs.length + 1) cap) vL) d va vk E := fun d va vk E hE =>
    hE.keep (fun k hk => (Below.heap_setCell _ _ _ _ (by have := hk.1; show k ≠ w.heap.size + 1 + 1; omega)).trans (g6.block k hk.2.1 (Ne.symm hk.2.2.1))) fun k hk => ⟨hk.1, by have := g6.size; have := hk.2.1; simp [World.setCell]; omega, by
      intro e
      have e' : g = k := Option.some.inj e
      subst e'
      rcases hg with hg | hg
      · exact hk.2.2.1 hg
      · have := hk.2.1; omega, hk.2.2.2⟩
  refine ⟨?_, ?_, ?_, ?_, ?_, ?_, ?_⟩
  · rw [Below.heap_setCell _ _ _ _ (by show _ ≠ w.heap.size + 1 + 1; omega)]; exact (hk _ (by omega) (by omega)).trans h.box
  · rw [Below.heap_setCell _ _ _ _ (by show _ ≠ w.heap.size + 1 + 1; omega)]; exact (hk _ (by omega) (by omega)).trans h.res
  · simp [World.setCell, Array.getElem?_modify, hv]
  · rw [Bk.bCells_append, List.length_append]
    exact ownsRow_setCell_below o6 (by show w.heap.size + 1 + 1 < _; omega) _
  · refine ownsRow_setCell_below (Bk.own_kept h.ownL fun k hk1 => g6.block k (Bk.row_lt h.ownL hk1).2 ?_) (by show w.heap.size + 1 + 1 < _; omega) _
    intro e
    exact Bk.rows_ne h.ownL h.ownK (by decide) hk1 e.symm
  · intro q hq
    rcases List.mem_append.1 hq with hq | hq
    · obtain ⟨d, hd⟩ := h.lies q hq
      exact ⟨d, key _ _ _ _ hd⟩
    · rw [List.mem_singleton.1 hq]
      obtain ⟨d, hd⟩ := hx
      exact ⟨d, key _ _ _ _ hd⟩
  · exact (h.below.trans ⟨g6.os, g6.tape, g6.output, g6.size, fun j hj => hk j (by omega) (by omega)⟩).setCell (by show _ ≤ w.heap.size + 1 + 1; omega) _
theorem Bk.Rf.link {x : Int × Int × Int} {g cap H : Nat} (h : Bk.Rf w bx k n r vK vL qs xs X) (hH : X.heap.size = H)
    (o6 : W6.ownsRow (w.heap.size + 3) 76 3 (.slice (some ⟨g, 0, none⟩) (xs.length + 1) cap) (xs.length + 1) (Bk.lCells xs ++ [.int .i64 x.1, .int .i64 x.2.1, .int .i64 x.2.2])) (g6 : X.grownBy W6 vL.ownBlock) (hg : vL.ownBlock = some g ∨ g = H) :
    Bk.Rf w bx k n r vK (.slice (some ⟨g, 0, none⟩) (xs.length + 1) cap) qs (xs ++ [x]) (W6.setCell ⟨w.heap.size + 1 + 1, 4, none⟩ (.slice (some ⟨g, 0, none⟩) (xs.length + 1) cap)) := by
  have hz := h.lt
  have hv := h.midL g6
  have hk : ∀ k, k < w.heap.size + 3 → k < X.heap.size → W6.heap[k]? = X.heap[k]? := fun k h1 h2 => g6.block k h2 (by intro e; have := (Bk.row_lt h.ownL e.symm).1; omega)
  refine ⟨?_, ?_, ?_, ?_, ?_, ?_, ?_⟩
  · rw [Below.heap_setCell _ _ _ _ (by show _ ≠ w.heap.size + 1 + 1; omega)]; exact (hk _ (by omega) (by omega)).trans h.box
  · rw [Below.heap_setCell _ _ _ _ (by show _ ≠ w.heap.size + 1 + 1; omega)]; exact (hk _ (by omega) (by omega)).trans h.res
  · simp [World.setCell, Array.getElem?_modify, hv]
  · refine ownsRow_setCell_below (Bk.own_kept h.ownK fun k hk1 => g6.block k (Bk.row_lt h.ownK hk1).2 ?_) (by show w.heap.size + 1 + 1 < _; omega) _
    intro e
    exact Bk.rows_ne h.ownK h.ownL (by decide) hk1 e.symm
  · rw [Bk.lCells_append, List.length_append]
    exact ownsRow_setCell_below o6 (by show w.heap.size + 1 + 1 < _; omega) _
  · intro q hq
    obtain ⟨d, hd⟩ := h.lies q hq
    refine ⟨d, hd.keep (fun k hk => (Below.heap_setCell _ _ _ _ (by have := hk.1; show k ≠ w.heap.size + 1 + 1; omega)).trans (g6.block k hk.2.1 (Ne.symm hk.2.2.2))) fun k hk => ⟨hk.1, by have := g6.size; have := hk.2.1; simp [World.setCell]; omega, hk.2.2.1, ?_⟩⟩
    intro e
    have e' : g = k := Option.some.inj e
    subst e'
    rcases hg with hg | hg
    · exact hk.2.2.2 hg
    · have := hk.2.1; omega
  · exact (h.below.trans ⟨g6.os, g6.tape, g6.output, g6.size, fun j hj => hk j (by omega) (by omega)⟩).setCell (by show _ ≤ w.heap.size + 1 + 1; omega) _
end
theorem Bk.maxL {w : World} {P : Nat → Prop} : ∀ (l : List (Bl × Value × Value)), (∀ q ∈ l, ∃ d, Bl.LiesP w P d q.2.1 q.2.2 q.1) → ∃ D, ∀ q ∈ l, Bl.LiesP w P D q.2.1 q.2.2 q.1
  | [], _ => ⟨0, fun _ h => by cases h⟩
  | a :: l, h => by
    obtain ⟨D, hD⟩ := Bk.maxL l fun q hq => h q (by simp [hq])
    obtain ⟨d, hd⟩ := h a (by simp)
    refine ⟨max D d, fun q hq => ?_⟩
    rcases List.mem_cons.1 hq with rfl | hq
    · exact hd.upto (Nat.le_max_right _ _)
    · exact (hD q hq).upto (Nat.le_max_left _ _)
/-- The block that is there. -/
theorem Bk.Rf.all {w : World} {bx : Array Value} {k n r : Int} {vK vL : Value} {qs : List (Bl × Value × Value)} {X : World} {T : Bl} (h : Bk.Rf w bx k n r vK vL qs T.ls X) (hk : qs.map (·.1) = T.ks) : ∃ d, Bl.LiesP X (fun k => w.heap.size + 3 ≤ k ∧ k < X.heap.size) d vK vL T := by
  obtain ⟨D, hD⟩ := Bk.maxL qs h.lies
  have hlen : T.ks.length = qs.length := by rw [← hk]; simp
  refine ⟨D + 1, ?_, ?_⟩
  · rcases h.ownL.2 with ⟨rfl, h0⟩ | ⟨g, cap, cur, rfl, hb, hg, _⟩
    · exact ⟨none, 0, by rw [h0], fun j hj => by omega⟩
    · refine ⟨_, _, rfl, fun j hj => ⟨g, 0, rfl, ⟨hb, (Array.getElem?_eq_some_iff.1 hg).1⟩, ?_⟩⟩
      obtain ⟨c0, c1, c2⟩ := Bk.lCells_at T.ls j hj
      have hc : ∀ o u, (Bk.lCells T.ls)[o]? = some u → X.cell? ⟨g, o, none⟩ = some u := fun o u hu => by
        have h1 := h.ownL.cells (g := g) rfl o u hu
        have ea : (⟨g, 0, none⟩ : Addr).add o = ⟨g, o, none⟩ := by unfold Addr.add; split <;> simp_all
        rw [ea] at h1
        exact h1
      rw [Nat.zero_add]
      exact ⟨hc _ _ c0, hc _ _ c1, hc _ _ c2⟩
  rcases h.ownK.2 with ⟨rfl, h0⟩ | ⟨g, cap, cur, rfl, hb, hg, _⟩
  · exact ⟨none, 0, by rw [hlen, h0], .inl (List.length_eq_zero_iff.1 (by omega))⟩
  · refine ⟨_, _, by rw [hlen], .inr ⟨g, 0, rfl, ⟨hb, (Array.getElem?_eq_some_iff.1 hg).1⟩, fun j hj => ?_⟩⟩
    have hj' : j < qs.length := by omega
    obtain ⟨c0, c1, c2, c3, c4⟩ := Bk.bCells_at qs j hj'
    have hc : ∀ o u, (Bk.bCells qs)[o]? = some u → X.cell? ⟨g, o, none⟩ = some u := fun o u hu => by
      have h1 := h.ownK.cells (g := g) rfl o u hu
      have ea : (⟨g, 0, none⟩ : Addr).add o = ⟨g, o, none⟩ := by unfold Addr.add; split <;> simp_all
      rw [ea] at h1
      exact h1
    have he : T.ks[j] = qs[j].1 := by simp [← hk]
    rw [he, Nat.zero_add]
    exact ⟨qs[j].2.1, qs[j].2.2, hc _ _ c0, hc _ _ c1, hc _ _ c2, hc _ _ c3, hc _ _ c4, (hD _ (List.getElem_mem hj')).keep (fun _ _ => rfl) fun k hk => ⟨hk.1, hk.2.1⟩⟩

end Go.Proofs

namespace Go.Proofs
open Go.RowKit

theorem Tryz.infoRBlock : (Tryz.prog.info? 50).map (fun i => (i.zero, i.size, i.bytes)) = some (some (.agg #[.int .i64 0, .int .i64 0, .int .i64 0, .slice none 0 0, .slice none 0 0]), 5, 72) := by kernel_rfl
theorem Tryz.infoRLink : (Tryz.prog.info? 76).map (fun i => (i.zero, i.size, i.bytes)) = some (some (.agg #[.int .i64 0, .int .i64 0, .int .i64 0]), 3, 24) := by kernel_rfl
theorem Bk.at_op2 {P : Program} {ops : Array Oper} {o : Oper} {a : Act} {w : World} {K : Act → World → Prop} {Q : Exit → Act → World → Prop} {E : Prop} (x : Op) (_hop : o.op = x)
    (h : if Region.wanted o (yielded ops a.tmps) = true then Oper.wp P o a w K Q else E) : if Region.wanted o (yielded ops a.tmps) = true then Oper.wp P o a w K Q else E := h
theorem Bk.put5t {X : World} {q : Nat} {a b c d e : Value} {t : TypeId} (h : X.heap[q]? = some (.cells #[a, b, c, d, e] t (0, 0))) (a' b' c' d' e' : Value) :
    (((((X.setCell ⟨q, 0, none⟩ a').setCell ⟨q, 1, none⟩ b').setCell ⟨q, 2, none⟩ c').setCell ⟨q, 3, none⟩ d').setCell ⟨q, 4, none⟩ e').heap[q]? = some (.cells #[a', b', c', d', e'] t (0, 0)) := by
  simp [World.setCell, Array.getElem?_modify, h]

/-- The contract of ref. -/
def Bk.RefC (d : Nat) : Prop := ∀ (T : Bl) (v lv : Value) (w : World), Bl.Lies w w.heap.size d v lv T → T.size ≤ 100000 → T.allP (fun _ _ _ ls => decide (ls.length ≤ 100)) = true →
    Calls Tryz.prog 14 #[.agg #[.int .i64 T.kind, .int .i64 T.node, .int .i64 T.arg, v, lv]] w fun e w' => Below w.heap.size w w' ∧ ∃ a c a' c' d', e = .returned (.agg #[.int .i64 T.kind, .int .i64 T.node, .int .i64 T.arg, .slice a T.ks.length c, .slice a' T.ls.length c']) ∧ Bl.LiesP w' (fun k => w.heap.size ≤ k ∧ k < w'.heap.size) d' (.slice a T.ks.length c) (.slice a' T.ls.length c') T

set_option maxHeartbeats 8000000 in
set_option maxRecDepth 100000 in
theorem Bk.refC : ∀ d : Nat, Bk.RefC d := by
  intro d
  induction d with
  | zero => intro T v lv w hT; exact hT.elim
  | succ d ih =>
    intro T v lv w hT hsz hlk
    have hat := hT.links
    obtain ⟨ak, ck, rfl⟩ := hT.shape
    obtain ⟨aa, ca, rfl⟩ := hT.links.shape
    obtain ⟨kk, hkk⟩ : ∃ x, T.kind = x := ⟨_, rfl⟩
    obtain ⟨nn, hnn⟩ : ∃ x, T.node = x := ⟨_, rfl⟩
    obtain ⟨rr, hrr⟩ : ∃ x, T.arg = x := ⟨_, rfl⟩
    obtain ⟨n, hn⟩ : ∃ n, T.ks.length = n := ⟨_, rfl⟩
    obtain ⟨m, hm⟩ : ∃ n, T.ls.length = n := ⟨_, rfl⟩
    rw [hkk, hnn, hrr, hn, hm]
    rw [hn, hm] at hT
    rw [hm] at hat
    rw [T.allP_eq, Bool.and_eq_true, decide_eq_true_eq] at hlk
    have hnb : n ≤ 100000 := by
      have h1 := T.size_eq
      have h2 := Bl.length_le_sizes T.ks
      omega
    have hmb : m ≤ 100 := by have := hlk.1; omega
    obtain ⟨w0, hw0⟩ : ∃ x, ((w.alloc (.cells #[.int .i64 kk, .int .i64 nn, .int .i64 rr, .slice ak n ck, .slice aa m ca] 29)).alloc (.cells #[.int .i64 0, .int .i64 0, .int .i64 0, .slice none 0 0, .slice none 0 0] 50)).alloc (.cells #[.int .i64 kk, .int .i64 nn, .int .i64 rr, .slice none 0 0, .slice none 0 0] 50) = x := ⟨_, rfl⟩
    have R0 : Bk.Rf w #[.int .i64 kk, .int .i64 nn, .int .i64 rr, .slice ak n ck, .slice aa m ca] kk nn rr (.slice none 0 0) (.slice none 0 0) [] [] w0 := by
      rw [← hw0]
      refine ⟨?_, ?_, ?_, World.ownsRow_nil _ _ _ _, World.ownsRow_nil _ _ _ _, (fun q hq => by cases hq), (((Below.refl _ w).alloc (Nat.le_refl _) _).alloc (by simp) _).alloc (by simp; omega) _⟩
      · rw [Below.heap_alloc _ _ _ (by simp; omega), Below.heap_alloc _ _ _ (by simp)]; exact heap_alloc_new w _
      · rw [Below.heap_alloc _ _ _ (by simp)]
        have := heap_alloc_new (w.alloc (.cells #[.int .i64 kk, .int .i64 nn, .int .i64 rr, .slice ak n ck, .slice aa m ca] 29)) (.cells #[.int .i64 0, .int .i64 0, .int .i64 0, .slice none 0 0, .slice none 0 0] 50)
        simpa using this
      · have := heap_alloc_new ((w.alloc (.cells #[.int .i64 kk, .int .i64 nn, .int .i64 rr, .slice ak n ck, .slice aa m ca] 29)).alloc (.cells #[.int .i64 0, .int .i64 0, .int .i64 0, .slice none 0 0, .slice none 0 0] 50)) (.cells #[.int .i64 kk, .int .i64 nn, .int .i64 rr, .slice none 0 0, .slice none 0 0] 50)
        simpa using this
    have HR0 : Hid _ := R0
    have q1 : w0.cell? ⟨w.heap.size, 3, none⟩ = some (.slice ak n ck) := by have := R0.box; simp [World.cell?, this]
    have HW0 : Hid _ := hw0
    have HT : Hid (Bl.Lies w w.heap.size (d + 1) (.slice ak n ck) (.slice aa m ca) T) := hT
    have HAT : Hid (Bl.Lk w w.heap.size (.slice aa m ca) T.ls) := hat
    have HI : Hid (Bk.RefC d) := ih
    have HM : Hid (T.kind = kk ∧ T.node = nn ∧ T.arg = rr ∧ T.ks.length = n ∧ T.ls.length = m ∧ T.size ≤ 100000 ∧ Bl.allPs (fun _ _ _ ls => decide (ls.length ≤ 100)) T.ks = true) := ⟨hkk, hnn, hrr, hn, hm, hsz, hlk.2⟩
    obtain ⟨i0, hi, hz0, hz1, hz2⟩ := info_parts Tryz.infoRLink
    obtain ⟨i1, hi1, hy0, hy1, hy2⟩ := info_parts Tryz.infoRBlock
    clear ih hT hat hkk hnn hrr hn hm hsz hlk hw0 R0
    go_enter Tryz.func14, Tryz.ntmps14
    go_upto_region 2 with fail
    rw [HW0.out]
    go_wp2
    go_loopg [18] n (fun g i wr => ∃ (j : Nat) (qs : List (Bl × Value × Value)) (vK : Value), g + j = n ∧ i = .int .i64 j ∧ qs.length = j ∧ Hid (qs.map (·.1) = T.ks.take j ∧ Bk.Rf w #[.int .i64 kk, .int .i64 nn, .int .i64 rr, .slice ak n ck, .slice aa m ca] kk nn rr vK (.slice none 0 0) qs [] wr))
    case atStart => exact ⟨0, [], .slice none 0 0, by omega, rfl, rfl, rfl, HR0.out⟩
    case round =>
      obtain ⟨j, qs, vK, hg, rfl, hql, HJ⟩ := hrel
      clear q1
      subst hql
      obtain ⟨avk, cvk, hvk⟩ := Tk.own_shape HJ.out.2.ownK
      subst hvk
      by_cases hjn : qs.length < n
      · have hd : decide ((qs.length : Int) < n) = true := decide_eq_true (by omega)
        have hjk : qs.length < T.ks.length := by rw [HM.out.2.2.2.1]; exact hjn
        obtain ⟨g, off, u, lu, rfl, hgl, p0, p1, p2, p3, p4, p5⟩ := HT.out.kid qs.length hjk
        obtain ⟨x, hx⟩ : ∃ x, T.ks[qs.length] = x := ⟨_, rfl⟩
        have hxs := Bl.sizes_get T.ks qs.length hjk
        have hxl := Bl.allPs_get _ T.ks HM.out.2.2.2.2.2.2 qs.length hjk
        rw [hx] at p0 p1 p2 p5 hxs hxl
        obtain ⟨xa, xc, rfl⟩ := p5.shape
        obtain ⟨xk, xd, rfl⟩ := p5.links.shape
        obtain ⟨x0, hx0⟩ : ∃ n, x.kind = n := ⟨_, rfl⟩
        obtain ⟨x1, hx1⟩ : ∃ n, x.node = n := ⟨_, rfl⟩
        obtain ⟨x2, hx2⟩ : ∃ n, x.arg = n := ⟨_, rfl⟩
        obtain ⟨xm, hxm⟩ : ∃ n, x.ks.length = n := ⟨_, rfl⟩
        obtain ⟨xl, hxl'⟩ : ∃ n, x.ls.length = n := ⟨_, rfl⟩
        rw [hx0] at p0
        rw [hx1] at p1
        rw [hx2] at p2
        rw [hxm] at p3 p5
        rw [hxl'] at p4 p5
        have hcb : ∀ o, wr.cell? ⟨g, o, none⟩ = w.cell? ⟨g, o, none⟩ := fun o => World.cell?_of_block (w := w) (HJ.out.2.below.block g hgl)
        have k0 : wr.cell? ⟨g, off + qs.length * 5, none⟩ = some (.int .i64 x0) := by rw [hcb]; exact p0
        have k1 : wr.cell? ⟨g, off + qs.length * 5 + 1, none⟩ = some (.int .i64 x1) := by rw [hcb]; exact p1
        have k2 : wr.cell? ⟨g, off + qs.length * 5 + 2, none⟩ = some (.int .i64 x2) := by rw [hcb]; exact p2
        have k3 : wr.cell? ⟨g, off + qs.length * 5 + 3, none⟩ = some (.slice xa xm xc) := by rw [hcb]; exact p3
        have k4 : wr.cell? ⟨g, off + qs.length * 5 + 4, none⟩ = some (.slice xk xl xd) := by rw [hcb]; exact p4
        obtain ⟨wa, hwa⟩ : ∃ y, wr.alloc (.cells #[.int .i64 x0, .int .i64 x1, .int .i64 x2, .slice xa xm xc, .slice xk xl xd] 29) = y := ⟨_, rfl⟩
        have Aa : Below wr.heap.size wr wa := by rw [← hwa]; exact (Below.refl _ wr).alloc (Nat.le_refl _) _
        have hma : wa.heap[wr.heap.size]? = some (.cells #[.int .i64 x0, .int .i64 x1, .int .i64 x2, .slice xa xm xc, .slice xk xl xd] 29 (0, 0)) := by rw [← hwa]; exact heap_alloc_new wr _
        have m0 : wa.cell? ⟨wr.heap.size, 0, none⟩ = some (.int .i64 x0) := by simp [World.cell?, hma]
        have m1 : wa.cell? ⟨wr.heap.size, 1, none⟩ = some (.int .i64 x1) := by simp [World.cell?, hma]
        have m2 : wa.cell? ⟨wr.heap.size, 2, none⟩ = some (.int .i64 x2) := by simp [World.cell?, hma]
        have m3 : wa.cell? ⟨wr.heap.size, 3, none⟩ = some (.slice xa xm xc) := by simp [World.cell?, hma]
        have m4 : wa.cell? ⟨wr.heap.size, 4, none⟩ = some (.slice xk xl xd) := by simp [World.cell?, hma]
        have RA : Hid (Bk.Rf w #[.int .i64 kk, .int .i64 nn, .int .i64 rr, .slice (some ⟨g, off, none⟩) n ck, .slice aa m ca] kk nn rr (.slice avk qs.length cvk) (.slice none 0 0) qs [] wa) := HJ.out.2.step Aa
        have s0 : wa.cell? ⟨w.heap.size + 1 + 1, 3, none⟩ = some (.slice avk qs.length cvk) := by have := RA.out.var; simp [World.cell?, this]
        have hxw : x.size ≤ 100000 := by have h2 := T.size_eq; have := HM.out.2.2.2.2.2.1; omega
        have hpl : ∀ k, k < w.heap.size → wa.heap[k]? = w.heap[k]? := fun k hk => RA.out.below.block k hk
        have HCALL : Hid (∀ W : World, W.heap = wa.heap → W.os = wa.os ∧ W.tape = wa.tape ∧ W.output = wa.output → Calls Tryz.prog 14 #[.agg #[.int .i64 x0, .int .i64 x1, .int .i64 x2, .slice xa xm xc, .slice xk xl xd]] W fun e w' =>
            ∃ a c a' c', e = .returned (.agg #[.int .i64 x0, .int .i64 x1, .int .i64 x2, .slice a xm c, .slice a' xl c']) ∧ Bk.Rf w #[.int .i64 kk, .int .i64 nn, .int .i64 rr, .slice (some ⟨g, off, none⟩) n ck, .slice aa m ca] kk nn rr (.slice avk qs.length cvk) (.slice none 0 0) qs [] w' ∧
              ∃ d', Bl.LiesP w' (Bk.Far w.heap.size w'.heap.size (.slice avk qs.length cvk) (.slice none 0 0)) d' (.slice a xm c) (.slice a' xl c') x) := by
          intro W hh ho
          have hbW : Below wa.heap.size wa W := ⟨ho.1, ho.2.1, ho.2.2, by rw [hh]; exact Nat.le_refl _, fun k _ => by rw [hh]⟩
          have h1 := HI.out x (.slice xa xm xc) (.slice xk xl xd) W ((p5.keep (fun k hk => by rw [hh]; exact hpl k hk)).wider (by have := RA.out.below.size; rw [hh]; exact this)) hxw hxl
          rw [hx0, hx1, hx2, hxm, hxl'] at h1
          refine h1.mono ?_
          rintro e w' ⟨hb, a, c, a', c', d', rfl, hl⟩
          refine ⟨a, c, a', c', rfl, (RA.out.step hbW).step hb, d', hl.keep (fun _ _ => rfl) fun k hk => ⟨?_, hk.2, ?_, ?_⟩⟩
          · have := RA.out.lt; have h5 := hk.1; rw [hh] at h5; omega
          · intro e
            have := (Bk.row_lt RA.out.ownK e).2
            have h5 := hk.1
            rw [hh] at h5
            omega
          · simp [Value.ownBlock]
        have HU : Hid (wa.os = wa.os ∧ wa.tape = wa.tape ∧ wa.output = wa.output) := ⟨rfl, rfl, rfl⟩
        have HX : Hid (T.ks[qs.length] = x ∧ x.kind = x0 ∧ x.node = x1 ∧ x.arg = x2 ∧ x.ks.length = xm ∧ x.ls.length = xl) := ⟨hx, hx0, hx1, hx2, hxm, hxl'⟩
        have HWA : Hid _ := hwa
        have lg : g < wr.heap.size := by have := HJ.out.2.below.size; omega
        have F4 : Hid (∀ W4 : World, Bk.Rf w #[.int .i64 kk, .int .i64 nn, .int .i64 rr, .slice (some ⟨g, off, none⟩) n ck, .slice aa m ca] kk nn rr (.slice avk qs.length cvk) (.slice none 0 0) qs [] W4 → W4.cell? ⟨w.heap.size + 1 + 1, 3, none⟩ = some (.slice avk qs.length cvk) ∧ w.heap.size + 3 ≤ W4.heap.size ∧ ∀ o, (W4.alloc o).cell? ⟨w.heap.size + 1 + 1, 3, none⟩ = some (.slice avk qs.length cvk)) := fun W4 h => by
          have h1 := h.var
          refine ⟨by simp [World.cell?, h1], h.lt, fun o => ?_⟩
          have h2 := (h.step ((Below.refl _ W4).alloc (Nat.le_refl _) o)).var
          simp [World.cell?, h2]
        have F6 : Hid (∀ (W4 W6 : World) (o : Obj), Bk.Rf w #[.int .i64 kk, .int .i64 nn, .int .i64 rr, .slice (some ⟨g, off, none⟩) n ck, .slice aa m ca] kk nn rr (.slice avk qs.length cvk) (.slice none 0 0) qs [] W4 → (W4.alloc o).grownBy W6 (Value.slice avk qs.length cvk).ownBlock → W6.cell? ⟨w.heap.size + 1 + 1, 3, none⟩ = some (.slice avk qs.length cvk) ∧ W6.frozen? ⟨w.heap.size + 1 + 1, 3, none⟩ = false) := fun W4 W6 o h hg6 => by
          have h1 := (h.step ((Below.refl _ W4).alloc (Nat.le_refl _) o)).midK hg6
          exact ⟨by simp [World.cell?, h1], by simp [World.frozen?, h1]⟩
        clear hcb p0 p1 p2 p3 p4 p5 hx hx0 hx1 hx2 hxm hxl' hxs hxl hwa Aa hma hxw hpl
        go_upto_region 5 with fail
        rw [HWA.out]
        clear k0 k1 k2 k3 k4
        go_region_law (first
          | (go_simp; go_at_call 14; refine Calls.mono (HCALL.out _ ?_ ?_) ?_; exact rfl; exact HU.out; rintro e W4 ⟨a4, c4, a5, c5, rfl, r4, l4⟩; obtain ⟨y4, y5, y6⟩ := F4.out W4 r4)
          | ((with_reducible refine Bk.at_op2 (Op.call { callee := Callee.builtin Builtin.append, args := #[.tmp 23, .tmp 26], argTypes := #[47, 47] }) ?hop ?_); (case hop => with_reducible rfl); go_loud (refine step_append_lies _ rfl (.tmp 23) (.tmp 26) 47 rfl (w.heap.size + 3) 50 i1 _ 5 72 Tryz.underlying47 hi1 hy0 hy1 hy2 rfl (by decide) (.slice avk qs.length cvk) qs.length (Bk.bCells qs) (by simp [Act.eval]) (by exact (r4.step ((Below.refl _ W4).alloc (Nat.le_refl _) (.cells #[.int .i64 x0, .int .i64 x1, .int .i64 x2, .slice a4 xm c4, .slice a5 xl c5] 50))).ownK) ⟨W4.heap.size, 0, none⟩ 1 1 [.int .i64 x0, .int .i64 x1, .int .i64 x2, .slice a4 xm c4, .slice a5 xl c5] (by simp [Act.eval]) rfl (by exact World.news_of_block (heap_alloc_new W4 (.cells #[.int .i64 x0, .int .i64 x1, .int .i64 x2, .slice a4 xm c4, .slice a5 xl c5] 50))) (by simp [Value.oneCell']) (by decide) (by unfold maxLen; omega) (by omega) (by simp; omega) (W4.heap.size + 1) (by simp) ?_); intro g6 c6 W6 o6 q6 hg6 hl6; obtain ⟨z0, z1⟩ := F6.out W4 W6 _ r4 (by exact ⟨q6.os, q6.tape, q6.output, q6.size, q6.block⟩))
          | fail)
        all_goals
          have RN : Hid (Bk.Rf w #[.int .i64 kk, .int .i64 nn, .int .i64 rr, .slice (some ⟨g, off, none⟩) n ck, .slice aa m ca] kk nn rr (.slice (some ⟨g6, 0, none⟩) (qs.length + 1) c6) (.slice none 0 0) (qs ++ [(x, .slice a4 xm c4, .slice a5 xl c5)]) [] (W6.setCell ⟨w.heap.size + 1 + 1, 3, none⟩ (.slice (some ⟨g6, 0, none⟩) (qs.length + 1) c6))) := by
            have A4 : Below W4.heap.size W4 (W4.alloc (.cells #[.int .i64 x0, .int .i64 x1, .int .i64 x2, .slice a4 xm c4, .slice a5 xl c5] 50)) := (Below.refl _ W4).alloc (Nat.le_refl _) _
            obtain ⟨d', hl⟩ := l4
            refine Bk.Rf.kid (x := x) (H := W4.heap.size + 1) (r4.step A4) ⟨d', hl.keep (fun k hk => A4.block k hk.2.1) fun k hk => ⟨hk.1, Nat.lt_of_lt_of_le hk.2.1 A4.size, hk.2.2⟩⟩ (by simp) (by rw [HX.out.2.1, HX.out.2.2.1, HX.out.2.2.2.1]; exact o6) ⟨q6.os, q6.tape, q6.output, q6.size, q6.block⟩ hg6
          have HQ : Hid ((qs ++ [(x, Value.slice a4 xm c4, Value.slice a5 xl c5)]).map (·.1) = T.ks.take (qs.length + 1)) := by
            show _ = _
            rw [List.take_succ_eq_append_getElem hjk, List.map_append, HJ.out.1, HX.out.1]
            rfl
          clear r4 l4 y4 y5 y6 o6 q6 hg6 hl6 z0 z1
          go_wp2
          go_roundg (gk - 1)
          case measure => omega
          case rel => exact ⟨qs.length + 1, _, _, by omega, by go_num, by simp, HQ.out, RN.out⟩
      · have hd : decide ((qs.length : Int) < n) = false := decide_eq_false (by omega)
        have hall : qs.map (·.1) = T.ks := HJ.out.1.trans (List.take_of_length_le (by rw [HM.out.2.2.2.1]; omega))
        have hlen : qs.length = n := by rw [← HM.out.2.2.2.1, ← hall]; simp
        have HF0 : Hid (Bk.Rf w #[.int .i64 kk, .int .i64 nn, .int .i64 rr, .slice ak n ck, .slice aa m ca] kk nn rr (.slice avk qs.length cvk) (.slice none 0 0) qs [] wr) := HJ.out.2
        have HALL : Hid (qs.map (·.1) = T.ks ∧ qs.length = n) := ⟨hall, hlen⟩
        have q2 : wr.cell? ⟨w.heap.size, 4, none⟩ = some (.slice aa m ca) := by have := HF0.out.box; simp [World.cell?, this]
        clear hall hlen HJ hg
        go_wp2
        go_loopg [33] m (fun g i wr => ∃ (k : Nat) (ys : List (Int × Int × Int)) (vb : Value), g + k = m ∧ i = .int .i64 k ∧ ys.length = k ∧ Hid (ys = T.ls.take k ∧ Bk.Rf w #[.int .i64 kk, .int .i64 nn, .int .i64 rr, .slice ak n ck, .slice aa m ca] kk nn rr (.slice avk qs.length cvk) vb qs ys wr))
        case atStart => exact ⟨0, [], .slice none 0 0, by omega, rfl, rfl, rfl, HF0.out⟩
        case round =>
          obtain ⟨k, ys, vb, hg, rfl, hyl, HL⟩ := hrel
          clear q2
          subst hyl
          obtain ⟨av, cv, hva⟩ := Tk.own_shape HL.out.2.ownL
          subst hva
          by_cases hk : ys.length < m
          · have hd2 : decide ((ys.length : Int) < m) = true := decide_eq_true (by omega)
            have hkm : ys.length < T.ls.length := by rw [HM.out.2.2.2.2.1]; exact hk
            obtain ⟨al', cl', hv', hat'⟩ := HAT.out
            simp only [Value.slice.injEq] at hv'
            obtain ⟨rfl, -, -⟩ := hv'
            obtain ⟨g, off, rfl, hgl, c0, c1, c2⟩ := hat' ys.length hkm
            obtain ⟨x, hx⟩ : ∃ x, T.ls[ys.length] = x := ⟨_, rfl⟩
            rw [hx] at c0 c1 c2
            have hcb : ∀ o, wr.cell? ⟨g, o, none⟩ = w.cell? ⟨g, o, none⟩ := fun o => World.cell?_of_block (w := w) (HL.out.2.below.block g hgl)
            have hc0 : wr.cell? ⟨g, off + ys.length * 3, none⟩ = some (.int .i64 x.1) := by rw [hcb]; exact c0
            have hc1 : wr.cell? ⟨g, off + ys.length * 3 + 1, none⟩ = some (.int .i64 x.2.1) := by rw [hcb]; exact c1
            have hc2 : wr.cell? ⟨g, off + ys.length * 3 + 2, none⟩ = some (.int .i64 x.2.2) := by rw [hcb]; exact c2
            have hob := HL.out.2.var
            have co : wr.cell? ⟨w.heap.size + 1 + 1, 4, none⟩ = some (.slice av ys.length cv) := by simp [World.cell?, hob]
            have hzf := HL.out.2.lt
            have HF1 := HL.out.2.step ((Below.refl _ wr).alloc (Nat.le_refl _) (.cells #[.int .i64 x.1, .int .i64 x.2.1, .int .i64 x.2.2] 75))
            have own3 := HF1.ownL
            have HX : Hid (T.ls[ys.length] = x) := hx
            have lg : g < wr.heap.size := by omega
            clear c0 c1 c2 hob hx hat' hcb
            go_wp2_with (at_builtin; refine wpList_append_lies _ rfl _ _ 48 rfl (w.heap.size + 3) 76 i0 _ 3 24 Tryz.underlying48 hi hz0 hz1 hz2 rfl (by decide) _ _ _ rfl (own3.alloc _) ⟨wr.heap.size + 1, 0, none⟩ 1 1 [.int .i64 x.1, .int .i64 x.2.1, .int .i64 x.2.2] rfl rfl ?c1 ?c2 (by decide) ?c3 ?c4 ?c5 (wr.heap.size + 2) ?c6 ?_)
            case c1 =>
              intro j u hj
              match j, hj with
              | 0, hj => simp at hj; subst hj; simp [Addr.add]
              | 1, hj => simp at hj; subst hj; simp [Addr.add]
              | 2, hj => simp at hj; subst hj; simp [Addr.add]
            case c2 => intro u hu; simp at hu; rcases hu with rfl | rfl | rfl <;> rfl
            case c3 => unfold maxLen; omega
            case c4 => omega
            case c5 => simp; omega
            case c6 => simp
            intro g6 c6 W6 o6 q6 hg6 hl6
            have HF2 := HF1.step ((Below.refl _ _).alloc (Nat.le_refl _) (.cells #[.int .i64 x.1, .int .i64 x.2.1, .int .i64 x.2.2] 76))
            have m6 := HF2.midL q6
            have z6 : w.heap.size + 1 + 1 < W6.heap.size := (Array.getElem?_eq_some_iff.1 m6).1
            have k60 : W6.cell? ⟨w.heap.size + 1 + 1, 4, none⟩ = some (.slice av ys.length cv) := by simp [World.cell?, m6]
            have k61 : W6.frozen? ⟨w.heap.size + 1 + 1, 4, none⟩ = false := by simp [World.frozen?, m6]
            have P6 : Hid (ys ++ [x] = T.ls.take (ys.length + 1) ∧ Bk.Rf w #[.int .i64 kk, .int .i64 nn, .int .i64 rr, .slice ak n ck, .slice (some ⟨g, off, none⟩) m ca] kk nn rr (.slice avk qs.length cvk) (.slice (some ⟨g6, 0, none⟩) (ys.length + 1) c6) qs (ys ++ [x]) (W6.setCell ⟨w.heap.size + 1 + 1, 4, none⟩ (.slice (some ⟨g6, 0, none⟩) (ys.length + 1) c6))) := by
              refine ⟨?_, Bk.Rf.link (H := wr.heap.size + 2) HF2 (by simp) o6 q6 hg6⟩
              rw [List.take_succ_eq_append_getElem hkm, HX.out, ← HL.out.1]
            clear m6 o6 q6 own3 HF1 HF2 hg6 hl6
            go_wp2
            go_roundg (gk - 1)
            case measure => omega
            case rel => exact ⟨ys.length + 1, _, _, by omega, by go_num, by simp, P6.out⟩
          · have hd2 : decide ((ys.length : Int) < m) = false := decide_eq_false (by omega)
            have hall : ys = T.ls := HL.out.1.trans (List.take_of_length_le (by rw [HM.out.2.2.2.2.1]; omega))
            subst hall
            have hu := Tryz.underlying50
            have HR : Hid (Bk.Rf w #[.int .i64 kk, .int .i64 nn, .int .i64 rr, .slice ak n ck, .slice aa m ca] kk nn rr (.slice avk qs.length cvk) (.slice av T.ls.length cv) qs T.ls wr) := HL.out.2
            have HEl : Hid (∃ d', Bl.LiesP wr (fun k => w.heap.size + 3 ≤ k ∧ k < wr.heap.size) d' (.slice avk qs.length cvk) (.slice av T.ls.length cv) T) := Bk.Rf.all HR.out HALL.out.1
            have HLEN : Hid (qs.length = n ∧ T.ls.length = m) := ⟨HALL.out.2, HM.out.2.2.2.2.1⟩
            have hv := HR.out.var
            obtain ⟨⟨z0, z1, z2, z3, z4⟩, y0, y1, y2, y3, y4⟩ : (wr.cell? ⟨w.heap.size + 1, 0, none⟩ = some (.int .i64 0) ∧ wr.cell? ⟨w.heap.size + 1, 1, none⟩ = some (.int .i64 0) ∧ wr.cell? ⟨w.heap.size + 1, 2, none⟩ = some (.int .i64 0) ∧ wr.cell? ⟨w.heap.size + 1, 3, none⟩ = some (.slice none 0 0) ∧ wr.cell? ⟨w.heap.size + 1, 4, none⟩ = some (.slice none 0 0)) ∧ wr.frozen? ⟨w.heap.size + 1, 0, none⟩ = false ∧ wr.frozen? ⟨w.heap.size + 1, 1, none⟩ = false ∧ wr.frozen? ⟨w.heap.size + 1, 2, none⟩ = false ∧ wr.frozen? ⟨w.heap.size + 1, 3, none⟩ = false ∧ wr.frozen? ⟨w.heap.size + 1, 4, none⟩ = false := by
              have := HR.out.res
              simp [World.cell?, World.frozen?, this]
            clear HL
            go_wp2_with (first | (refine wpList_load_row rfl 50 _ rfl _ rfl 50 _ (0, 0) _ hv hu rfl (by kernel_rfl) ?_) | fail)
            refine bodyPost_ret (results_cell_row Tryz.results14 _ _ (w.heap.size + 1) 50 #[.int .i64 kk, .int .i64 nn, .int .i64 rr, .slice avk qs.length cvk, .slice av T.ls.length cv] (0, 0) _ rfl (Bk.put5t HR.out.res _ _ _ _ _) Tryz.underlying50 rfl (by kernel_rfl)) rfl ⟨?_, ?_⟩
            · exact ((((HR.out.below.setCell (by show _ ≤ w.heap.size + 1; omega) _).setCell (by show _ ≤ w.heap.size + 1; omega) _).setCell (by show _ ≤ w.heap.size + 1; omega) _).setCell (by show _ ≤ w.heap.size + 1; omega) _).setCell (by show _ ≤ w.heap.size + 1; omega) _
            · obtain ⟨d', hl⟩ := HEl.out
              refine ⟨avk, cvk, av, cv, d', by rw [HLEN.out.1, HLEN.out.2], ?_⟩
              rw [← HLEN.out.1, ← HLEN.out.2]
              refine hl.keep (fun k hk => ?_) fun k hk => ⟨by have := hk.1; omega, by have := hk.2; simpa [World.setCell] using this⟩
              have hk1 := hk.1
              rw [Below.heap_setCell _ _ _ _ (by show k ≠ w.heap.size + 1; omega), Below.heap_setCell _ _ _ _ (by show k ≠ w.heap.size + 1; omega), Below.heap_setCell _ _ _ _ (by show k ≠ w.heap.size + 1; omega), Below.heap_setCell _ _ _ _ (by show k ≠ w.heap.size + 1; omega), Below.heap_setCell _ _ _ _ (by show k ≠ w.heap.size + 1; omega)]

end Go.Proofs
