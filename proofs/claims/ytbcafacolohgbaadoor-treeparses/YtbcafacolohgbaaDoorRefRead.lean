/-
  What the document's Read goes on with, and how it ends.
-/
import Derived.Test.YtbcafacolohgbaaDoorRefOpenW
namespace Go.Proofs
open Go.RowKit
open Go.Proofs.Mk

/-- A slice of the document's marks that lies, with all that it leads to, from block B on. -/
structure Mk.RMarksOwn (w : World) (B : Nat) (v : Value) (qs : List (Mk.MarkV × Value)) : Prop where
  row : w.ownsRow B 86 5 v qs.length (Mk.markCells qs)
  attrs : ∀ q ∈ qs, w.ownsRow B 69 2 q.2 q.1.attrs.length (Mk.attrCells q.1.attrs)

/-- The blocks of Read: its answer's, and its list's. -/
structure Mk.RS (w : World) (v : Value) (qs : List (Mk.MarkV × Value)) (X : World) : Prop where
  res : X.heap[w.heap.size]? = some (.cells #[.slice none 0 0, .int .i64 0] 83 (0, 0))
  out : X.heap[w.heap.size + 1]? = some (.cells #[v, .int .i64 (-1)] 83 (0, 0))
  own : Mk.RMarksOwn X (w.heap.size + 2) v qs
  below : Below w.heap.size w X

theorem Mk.RS.size {w : World} {v : Value} {qs : List (Mk.MarkV × Value)} {X : World} (h : Mk.RS w v qs X) : w.heap.size + 1 < X.heap.size := (Array.getElem?_eq_some_iff.1 h.out).1
theorem Mk.RS.c0 {w : World} {v : Value} {qs : List (Mk.MarkV × Value)} {X : World} (h : Mk.RS w v qs X) : X.cell? ⟨w.heap.size + 1, 0, none⟩ = some v := by
  have := h.out
  simp [World.cell?, this]
theorem Mk.RS.f0 {w : World} {v : Value} {qs : List (Mk.MarkV × Value)} {X : World} (h : Mk.RS w v qs X) : X.frozen? ⟨w.heap.size + 1, 0, none⟩ = false := by
  have := h.out
  simp [World.frozen?, this]
theorem Mk.RS.step {w : World} {v : Value} {qs : List (Mk.MarkV × Value)} {X X' : World} (h : Mk.RS w v qs X) (hb : Below X.heap.size X X') : Mk.RS w v qs X' := by
  have hz := h.size
  exact ⟨by rw [hb.block _ (by omega)]; exact h.res, by rw [hb.block _ hz]; exact h.out, ⟨Mk.own_below h.own.row hb, fun q hq => Mk.own_below (h.own.attrs q hq) hb⟩, h.below.trans (hb.mono (by omega))⟩
theorem Mk.RS.alloc {w : World} {v : Value} {qs : List (Mk.MarkV × Value)} {X : World} (h : Mk.RS w v qs X) (o : Obj) : Mk.RS w v qs (X.alloc o) :=
  h.step ((Below.refl _ X).alloc (Nat.le_refl _) o)
/-- What an append to the list leaves of them, ahead of the store. -/
theorem Mk.RS.mid {w : World} {v v6 : Value} {qs : List (Mk.MarkV × Value)} {q : Mk.MarkV × Value} {X W6 : World} (h : Mk.RS w v qs X) (hq : X.ownsRow (w.heap.size + 2) 69 2 q.2 q.1.attrs.length (Mk.attrCells q.1.attrs))
    (o6 : W6.ownsRow (w.heap.size + 2) 86 5 v6 (qs.length + 1) (Mk.markCells qs ++ Mk.cellsOf q)) (g6 : X.grownBy W6 v.ownBlock) :
    (W6.heap[w.heap.size]? = some (.cells #[.slice none 0 0, .int .i64 0] 83 (0, 0)) ∧ W6.heap[w.heap.size + 1]? = some (.cells #[v, .int .i64 (-1)] 83 (0, 0))) ∧
      Mk.RMarksOwn W6 (w.heap.size + 2) v6 (qs ++ [q]) ∧ Below w.heap.size w W6 := by
  have hz := h.size
  have hrow := h.own.row.lt
  refine ⟨⟨?_, ?_⟩, ⟨?_, ?_⟩, ?_⟩
  · rw [g6.block _ (by omega) (by intro e; have := (hrow _ e.symm).1; omega)]; exact h.res
  · rw [g6.block _ hz (by intro e; have := (hrow _ e.symm).1; omega)]; exact h.out
  · rw [Mk.markCells_append, List.length_append]
    simpa [Mk.markCells] using o6
  · intro c hc
    rcases List.mem_append.1 hc with hc | hc
    · exact Mk.own_other (h.own.attrs c hc) h.own.row (by decide) g6
    · simp only [List.mem_singleton] at hc
      subst hc
      exact Mk.own_other hq h.own.row (by decide) g6
  · exact h.below.trans ⟨g6.os, g6.tape, g6.output, g6.size, fun j hj => g6.block j (by omega) (by intro e; have := (hrow _ e.symm).1; omega)⟩
/-- And behind it. -/
theorem Mk.RS.push {w : World} {v v6 : Value} {qs : List (Mk.MarkV × Value)} {q : Mk.MarkV × Value} {X W6 : World} (h : Mk.RS w v qs X) (hq : X.ownsRow (w.heap.size + 2) 69 2 q.2 q.1.attrs.length (Mk.attrCells q.1.attrs))
    (o6 : W6.ownsRow (w.heap.size + 2) 86 5 v6 (qs.length + 1) (Mk.markCells qs ++ Mk.cellsOf q)) (g6 : X.grownBy W6 v.ownBlock) :
    Mk.RS w v6 (qs ++ [q]) (W6.setCell ⟨w.heap.size + 1, 0, none⟩ v6) := by
  obtain ⟨⟨h1, h2⟩, ⟨h3, h4⟩, h5⟩ := h.mid hq o6 g6
  refine ⟨?_, ?_, ⟨ownsRow_setCell_below h3 (by show w.heap.size + 1 < _; omega) _, fun c hc => ownsRow_setCell_below (h4 c hc) (by show w.heap.size + 1 < _; omega) _⟩, h5.setCell (by show _ ≤ w.heap.size + 1; omega) _⟩
  · rw [Below.heap_setCell _ _ _ _ (by show _ ≠ w.heap.size + 1; omega)]
    exact h1
  · simp [World.setCell, Array.getElem?_modify, h2]

theorem Mk.own_nil76 (w : World) (B : Nat) : w.ownsRow B 69 2 (.slice none 0 0) 0 [] := World.ownsRow_nil _ _ _ _

theorem Mk.not_both {l : List UInt8} (h : Lib.hasPrefix l [47, 62] = true) : ¬ Lib.hasPrefix l [62] = true := by
  intro h2
  cases l with
  | nil => simp [Lib.hasPrefix] at h
  | cons a r =>
    simp only [Lib.hasPrefix, List.isPrefixOf_cons_cons, List.isPrefixOf_nil_left, Bool.and_true, Bool.and_eq_true, beq_iff_eq] at h h2
    have := h.1.trans h2.symm
    exact absurd this (by decide)

theorem Mk.cell_set_new (w : World) (a : Addr) (v : Value) (cs : Array Value) (t : TypeId) (j : Nat) : ((w.setCell a v).alloc (.cells cs t)).cell? ⟨w.heap.size, j, none⟩ = cs[j]? := by
  have h := heap_alloc_new (w.setCell a v) (.cells cs t)
  have hz : (w.setCell a v).heap.size = w.heap.size := by simp [World.setCell]
  rw [hz] at h
  simp only [World.cell?, h]
  rfl

/-- How Read ends. -/
def Mk.RefReadEnd (w : World) (s : ByteArray) (e : Ending) (w' : World) : Prop :=
  match Mk.readL s.data.toList 0 with
  | .error k => e = .returned (.agg #[.slice none 0 0, .int .i64 k])
  | .ok ms => ∃ v qs, e = .returned (.agg #[v, .int .i64 (-1)]) ∧ qs.map (·.1) = ms ∧ Mk.RMarksOwn w' w.heap.size v qs

theorem Tryd.infoRMark : (Tryd.prog.info? 86).map (fun i => (i.zero, i.size, i.bytes)) = some (some (.agg #[.int .i64 0, .int .i64 0, .string ⟨#[]⟩, .slice none 0 0, .string ⟨#[]⟩]), 5, 72) := by kernel_rfl

theorem Mk.nextL_text {l : List UInt8} {k : Nat} (hp : Lib.hasPrefix l [60, 47] = false) (hq : Lib.hasPrefix l [60] = false) : Mk.nextL l k = match Mk.textL 60 l with | none => none | some (o, m) => some ([⟨3, k, ⟨#[]⟩, [], ⟨o.toArray⟩⟩], m) := by
  unfold Mk.nextL
  rw [if_neg (by rw [hp]; simp), if_neg (by rw [hq]; simp)]
  cases Mk.textL 60 l <;> rfl
theorem Mk.nextL_close {l : List UInt8} {k : Nat} {nm : List UInt8} (hp : Lib.hasPrefix (l.drop k) [60, 47] = true) (hnm : Mk.nameOf (l.drop (k + 2)) = nm) :
    Mk.nextL (l.drop k) k = if nameL nm = false then none else if Lib.hasPrefix (l.drop (k + 2 + nm.length)) [62] = false then none else some ([⟨2, k, ⟨nm.toArray⟩, [], ⟨#[]⟩⟩], 2 + nm.length + 1) := by
  have e1 : (l.drop k).drop 2 = l.drop (k + 2) := by rw [List.drop_drop]
  have e2 : (l.drop k).drop (2 + nm.length) = l.drop (k + 2 + nm.length) := by rw [List.drop_drop]; congr 1; omega
  unfold Mk.nextL
  rw [if_pos hp, e1, hnm, e2]
theorem Mk.pre_head {s : ByteArray} {k : Nat} (hk : k < s.size) : Lib.hasPrefix (s.data.toList.drop k) [60] = ((s[k].toNat : Int) == 60) := by
  have hr : s.data.toList.drop k = s[k] :: s.data.toList.drop (k + 1) := List.drop_eq_getElem_cons hk
  rw [hr, Bool.eq_iff_iff]
  simp only [Lib.hasPrefix, List.isPrefixOf_cons_cons, List.isPrefixOf_nil_left, Bool.and_true, beq_iff_eq]
  constructor
  · intro e; rw [← e]; rfl
  · intro e
    apply UInt8.toNat_inj.1
    have : s[k].toNat = 60 := by omega
    rw [this]; rfl

end Go.Proofs
