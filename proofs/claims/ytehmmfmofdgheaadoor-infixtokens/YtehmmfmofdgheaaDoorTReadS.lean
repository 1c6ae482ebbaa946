/-
  The document's read: the kids that it has gathered, in memory.
-/
import Derived.Test.YtehmmfmofdgheaaDoorTRefParse
import Derived.Deep.AppendLies
namespace Go.Proofs
open Go.RowKit

namespace Tm
/-- As Lies, with all blocks of P. -/
def LiesP (w : World) (P : Nat → Prop) : Nat → Value → Tm → Prop
  | 0, _, _ => False
  | d + 1, v, T => ∃ a cap, v = .slice a T.ks.length cap ∧ (T.ks = [] ∨ ∃ g off, a = some ⟨g, off, none⟩ ∧ P g ∧
      ∀ j (h : j < T.ks.length), ∃ u, w.cell? ⟨g, off + j * 3, none⟩ = some (.int .i64 T.ks[j].op) ∧ w.cell? ⟨g, off + j * 3 + 1, none⟩ = some (.int .i64 T.ks[j].num) ∧
        w.cell? ⟨g, off + j * 3 + 2, none⟩ = some u ∧ LiesP w P d u T.ks[j])
theorem LiesP.keep {w w' : World} {P Q : Nat → Prop} (hk : ∀ k, P k → w'.heap[k]? = w.heap[k]?) (hq : ∀ k, P k → Q k) : ∀ {d : Nat} {v : Value} {T : Tm}, LiesP w P d v T → LiesP w' Q d v T
  | 0, _, _, h => h.elim
  | d + 1, v, T, h => by
    obtain ⟨a, cap, hv, h⟩ := h
    refine ⟨a, cap, hv, h.elim .inl fun ⟨g, off, ha, hp, hr⟩ => .inr ⟨g, off, ha, hq g hp, fun j hj => ?_⟩⟩
    obtain ⟨u, h0, h1, h2, h3⟩ := hr j hj
    have hc : ∀ o, w'.cell? ⟨g, o, none⟩ = w.cell? ⟨g, o, none⟩ := fun o => World.cell?_of_block (w := w) (hk g hp)
    exact ⟨u, by rw [hc]; exact h0, by rw [hc]; exact h1, by rw [hc]; exact h2, LiesP.keep hk hq h3⟩
theorem LiesIn.toP {w : World} {A B : Nat} {P : Nat → Prop} (hq : ∀ k, A ≤ k → k < B → P k) : ∀ {d : Nat} {v : Value} {T : Tm}, LiesIn w A B d v T → LiesP w P d v T
  | 0, _, _, h => h.elim
  | d + 1, v, T, h => by
    obtain ⟨a, cap, hv, h⟩ := h
    refine ⟨a, cap, hv, h.elim .inl fun ⟨g, off, ha, h1, h2, hr⟩ => .inr ⟨g, off, ha, hq g h1 h2, fun j hj => ?_⟩⟩
    obtain ⟨u, h0, h1, h2, h3⟩ := hr j hj
    exact ⟨u, h0, h1, h2, LiesIn.toP hq h3⟩
theorem LiesP.toIn {w : World} {A B : Nat} {P : Nat → Prop} (hq : ∀ k, P k → A ≤ k ∧ k < B) : ∀ {d : Nat} {v : Value} {T : Tm}, LiesP w P d v T → LiesIn w A B d v T
  | 0, _, _, h => h.elim
  | d + 1, v, T, h => by
    obtain ⟨a, cap, hv, h⟩ := h
    refine ⟨a, cap, hv, h.elim .inl fun ⟨g, off, ha, hp, hr⟩ => .inr ⟨g, off, ha, (hq g hp).1, (hq g hp).2, fun j hj => ?_⟩⟩
    obtain ⟨u, h0, h1, h2, h3⟩ := hr j hj
    exact ⟨u, h0, h1, h2, LiesP.toIn hq h3⟩
end Tm

def Tk.tcells (qs : List (Tm × Value)) : List Value := qs.flatMap fun q => [.int .i64 q.1.op, .int .i64 q.1.num, q.2]
theorem Tk.tcells_snoc (qs : List (Tm × Value)) (q : Tm × Value) : Tk.tcells (qs ++ [q]) = Tk.tcells qs ++ [.int .i64 q.1.op, .int .i64 q.1.num, q.2] := by simp [Tk.tcells]
theorem Tk.tcells_at (qs : List (Tm × Value)) (j : Nat) (h : j < qs.length) : (Tk.tcells qs)[j * 3]? = some (.int .i64 qs[j].1.op) ∧ (Tk.tcells qs)[j * 3 + 1]? = some (.int .i64 qs[j].1.num) ∧ (Tk.tcells qs)[j * 3 + 2]? = some qs[j].2 := by
  induction qs generalizing j with
  | nil => simp at h
  | cons q r ih =>
    cases j with
    | zero => simp [Tk.tcells]
    | succ j =>
      have := ih j (by simpa using h)
      have e : Tk.tcells (q :: r) = [.int .i64 q.1.op, .int .i64 q.1.num, q.2] ++ Tk.tcells r := by simp [Tk.tcells]
      rw [e]
      rw [List.getElem?_append_right (by simp; omega), List.getElem?_append_right (by simp; omega), List.getElem?_append_right (by simp; omega)]
      simp only [List.length_cons, List.length_nil, List.getElem_cons_succ]
      rw [show (j + 1) * 3 - 3 = j * 3 by omega, show (j + 1) * 3 + 1 - 3 = j * 3 + 1 by omega, show (j + 1) * 3 + 2 - 3 = j * 3 + 2 by omega]
      exact this

/-- What holds ahead of a round over kids: the variable in block p, its slice v, the kids qs. -/
structure Tk.RkS (L op : Nat) (w : World) (p : Nat) (v : Value) (qs : List (Tm × Value)) (X : World) : Prop where
  res : X.heap[w.heap.size]? = some (.cells #[.int .i64 0, .int .i64 0, .slice none 0 0, .int .i64 0] 98 (0, 0))
  var : X.heap[p]? = some (.cells #[.int .i64 op, .int .i64 0, v] 37 (0, 0))
  own : X.ownsRow (p + 1) 37 3 v qs.length (Tk.tcells qs)
  kids : ∀ q ∈ qs, Tm.LiesP X (fun k => p + 1 ≤ k ∧ k < X.heap.size ∧ v.ownBlock ≠ some k) L q.2 q.1
  below : Below w.heap.size w X
  big : w.heap.size < p
theorem Tk.RkS.lt {L op : Nat} {w : World} {p : Nat} {v : Value} {qs : List (Tm × Value)} {X : World} (h : Tk.RkS L op w p v qs X) : p < X.heap.size := (Array.getElem?_eq_some_iff.1 h.var).1
theorem Tk.own_on {w w' : World} {B : Nat} {e : TypeId} {size : Nat} {v : Value} {n : Nat} {cs : List Value} (h : w.ownsRow B e size v n cs) (hb : Below w.heap.size w w') : w'.ownsRow B e size v n cs :=
  ⟨h.1, h.2.imp id fun ⟨g, cap, cur, hv, h1, h2, h3⟩ => ⟨g, cap, cur, hv, h1, (hb.block g (Array.getElem?_eq_some_iff.1 h2).1).trans h2, h3⟩⟩
theorem Tk.RkS.step {L op : Nat} {w : World} {p : Nat} {v : Value} {qs : List (Tm × Value)} {X X' : World} (h : Tk.RkS L op w p v qs X) (hb : Below X.heap.size X X') : Tk.RkS L op w p v qs X' := by
  have hz := h.lt
  have hbig := h.big
  exact ⟨(hb.block _ (by omega)).trans h.res, (hb.block _ hz).trans h.var, Tk.own_on h.own hb, fun q hq => (h.kids q hq).keep (fun k hk => hb.block k hk.2.1) (fun k hk => ⟨hk.1, Nat.lt_of_lt_of_le hk.2.1 hb.size, hk.2.2⟩), h.below.trans (hb.mono (by omega)), hbig⟩
theorem Tk.RkS.alloc {L op : Nat} {w : World} {p : Nat} {v : Value} {qs : List (Tm × Value)} {X : World} (h : Tk.RkS L op w p v qs X) (o : Obj) : Tk.RkS L op w p v qs (X.alloc o) :=
  h.step ((Below.refl _ X).alloc (Nat.le_refl _) o)
/-- What an append leaves, ahead of the store. -/
theorem Tk.RkS.mid {L op : Nat} {w : World} {p : Nat} {v : Value} {qs : List (Tm × Value)} {X W6 : World} (h : Tk.RkS L op w p v qs X) (g6 : X.grownBy W6 v.ownBlock) : W6.heap[p]? = some (.cells #[.int .i64 op, .int .i64 0, v] 37 (0, 0)) ∧ W6.heap[w.heap.size]? = some (.cells #[.int .i64 0, .int .i64 0, .slice none 0 0, .int .i64 0] 98 (0, 0)) := by
  have hz := h.lt
  have hbig := h.big
  have hrow := h.own.lt
  exact ⟨(g6.block _ hz (by intro e; have := (hrow _ e.symm).1; omega)).trans h.var, (g6.block _ (by omega) (by intro e; have := (hrow _ e.symm).1; omega)).trans h.res⟩
/-- And behind it. -/
theorem Tk.RkS.push {L op : Nat} {w : World} {p : Nat} {v : Value} {qs : List (Tm × Value)} {X W6 : World} {T : Tm} {u : Value} {g cap H : Nat} (h : Tk.RkS L op w p v qs X)
    (hT : Tm.LiesP X (fun k => p + 1 ≤ k ∧ k < X.heap.size ∧ v.ownBlock ≠ some k) L u T) (hH : X.heap.size = H)
    (o6 : W6.ownsRow (p + 1) 37 3 (.slice (some ⟨g, 0, none⟩) (qs.length + 1) cap) (qs.length + 1) (Tk.tcells qs ++ [.int .i64 T.op, .int .i64 T.num, u])) (g6 : X.grownBy W6 v.ownBlock) (hg : v.ownBlock = some g ∨ g = H) :
    Tk.RkS L op w p (.slice (some ⟨g, 0, none⟩) (qs.length + 1) cap) (qs ++ [(T, u)]) (W6.setCell ⟨p, 2, none⟩ (.slice (some ⟨g, 0, none⟩) (qs.length + 1) cap)) := by
  obtain ⟨m1, m2⟩ := h.mid g6
  have hz := h.lt
  have hbig := h.big
  have hrow := h.own.lt
  have key : ∀ (u : Value) (T : Tm), Tm.LiesP X (fun k => p + 1 ≤ k ∧ k < X.heap.size ∧ v.ownBlock ≠ some k) L u T → Tm.LiesP (W6.setCell ⟨p, 2, none⟩ (.slice (some ⟨g, 0, none⟩) (qs.length + 1) cap)) (fun k => p + 1 ≤ k ∧ k < (W6.setCell ⟨p, 2, none⟩ (.slice (some ⟨g, 0, none⟩) (qs.length + 1) cap)).heap.size ∧ (Value.slice (some ⟨g, 0, none⟩) (qs.length + 1) cap).ownBlock ≠ some k) L u T := fun u T hT =>
    hT.keep (fun k hk => (Below.heap_setCell _ _ _ _ (by show k ≠ p; omega)).trans (g6.block k hk.2.1 (Ne.symm hk.2.2))) fun k hk => ⟨hk.1, by have := g6.size; simp [World.setCell]; omega, by
      intro e
      have e' : g = k := Option.some.inj e
      subst e'
      rcases hg with hg | hg
      · exact hk.2.2 hg
      · omega⟩
  refine ⟨?_, ?_, ?_, ?_, ?_, hbig⟩
  · rw [Below.heap_setCell _ _ _ _ (by show _ ≠ p; omega)]; exact m2
  · simp [World.setCell, Array.getElem?_modify, m1]
  · rw [Tk.tcells_snoc, List.length_append]
    exact ownsRow_setCell_below o6 (by show p < _; omega) _
  · intro q hq
    rcases List.mem_append.1 hq with hq | hq
    · exact key _ _ (h.kids q hq)
    · rw [List.mem_singleton.1 hq]
      exact key _ _ hT
  · refine Tk.bsetCell (h.below.trans ⟨g6.os, g6.tape, g6.output, g6.size, fun j hj => g6.block j (by omega) (by intro e; have := (hrow _ e.symm).1; omega)⟩) (by show _ ≤ p; omega) _
/-- The term. -/
theorem Tk.RkS.lies {L op : Nat} {w : World} {p : Nat} {v : Value} {qs : List (Tm × Value)} {X : World} (h : Tk.RkS L op w p v qs X) (hn : 0 < qs.length) : Tm.LiesIn X (p + 1) X.heap.size (L + 1) v (.mk op 0 (qs.map (·.1))) := by
  obtain ⟨g, cap, rfl, hg1, hg2⟩ := h.own.form hn
  refine ⟨some ⟨g, 0, none⟩, cap, by simp [Tm.ks], .inr ⟨g, 0, rfl, hg1, hg2, fun j hj => ?_⟩⟩
  have hj' : j < qs.length := by simpa [Tm.ks] using hj
  obtain ⟨t0, t1, t2⟩ := Tk.tcells_at qs j hj'
  have hlen := h.own.1
  have e : ∀ o, o < qs.length * 3 → X.cell? ⟨g, o, none⟩ = (Tk.tcells qs)[o]? := fun o ho => h.own.cellAt o ho
  have hk : (Tm.mk op 0 (qs.map (·.1))).ks[j] = qs[j].1 := by simp [Tm.ks]
  rw [Nat.zero_add, hk]
  exact ⟨qs[j].2, by rw [e _ (by omega)]; exact t0, by rw [e _ (by omega)]; exact t1, by rw [e _ (by omega)]; exact t2, (h.kids qs[j] (List.getElem_mem hj')).toIn fun k hk => ⟨hk.1, hk.2.1⟩⟩

end Go.Proofs
