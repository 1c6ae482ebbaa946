/-
  Marks as they lie in memory, and the reader's marks: plain mathematics.
-/
import Derived.Test.YtbcafacolohgbaaDoorRAttrs
namespace Go.Proofs
open Go.RowKit
open Go.Proofs.Mk

/-- A mark. -/
structure Mk.MarkV where
  kind : Nat
  at_ : Nat
  name : ByteArray
  attrs : List (ByteArray × ByteArray)
  text : ByteArray

/-- A mark's cells, the value of its slice of attributes given. -/
def Mk.cellsOf (q : Mk.MarkV × Value) : List Value := [.int .i64 q.1.kind, .int .i64 q.1.at_, .string q.1.name, q.2, .string q.1.text]
def Mk.markCells (qs : List (Mk.MarkV × Value)) : List Value := qs.flatMap Mk.cellsOf
theorem Mk.markCells_append (a c : List (Mk.MarkV × Value)) : Mk.markCells (a ++ c) = Mk.markCells a ++ Mk.markCells c := by simp [Mk.markCells]
theorem Mk.markCells_length (qs : List (Mk.MarkV × Value)) : (Mk.markCells qs).length = qs.length * 5 := by
  induction qs with
  | nil => rfl
  | cons a r ih => simp only [Mk.markCells, List.flatMap_cons, List.length_append, Mk.cellsOf, List.length_cons, List.length_nil] at *; omega

/-- A slice of marks that lies, with all that it leads to, from block B on. -/
structure Mk.MarksOwn (w : World) (B : Nat) (v : Value) (qs : List (Mk.MarkV × Value)) : Prop where
  row : w.ownsRow B 78 5 v qs.length (Mk.markCells qs)
  attrs : ∀ q ∈ qs, w.ownsRow B 54 2 q.2 q.1.attrs.length (Mk.attrCells q.1.attrs)

/-- The mark at the front of a text whose place is k: an element that is closed at once is two. -/
def Mk.nextL (l : List UInt8) (k : Nat) : Option (List Mk.MarkV × Nat) :=
  if Lib.hasPrefix l [60, 47] = true then
    if nameL (nameOf (l.drop 2)) = false then none else
    if Lib.hasPrefix (l.drop (2 + (nameOf (l.drop 2)).length)) [62] = false then none else
    some ([⟨2, k, ⟨(nameOf (l.drop 2)).toArray⟩, [], ⟨#[]⟩⟩], 2 + (nameOf (l.drop 2)).length + 1)
  else if Lib.hasPrefix l [60] = true then
    if nameL (nameOf (l.drop 1)) = false then none else
    match Mk.attrsL (l.drop (1 + (nameOf (l.drop 1)).length)) with
    | none => none
    | some (xs, m) => if Mk.unlikeB xs = false then none else
      if Lib.hasPrefix (l.drop (1 + (nameOf (l.drop 1)).length + m)) [62] = true then some ([⟨1, k, ⟨(nameOf (l.drop 1)).toArray⟩, xs, ⟨#[]⟩⟩], 1 + (nameOf (l.drop 1)).length + m + 1) else
      if Lib.hasPrefix (l.drop (1 + (nameOf (l.drop 1)).length + m)) [47, 62] = true then some ([⟨1, k, ⟨(nameOf (l.drop 1)).toArray⟩, xs, ⟨#[]⟩⟩, ⟨2, k, ⟨(nameOf (l.drop 1)).toArray⟩, [], ⟨#[]⟩⟩], 1 + (nameOf (l.drop 1)).length + m + 2) else none
  else match Mk.textL 60 l with
    | none => none
    | some (o, m) => some ([⟨3, k, ⟨#[]⟩, [], ⟨o.toArray⟩⟩], m)

/-- A row that was just built. -/
theorem Mk.own_built (w : World) (B : Nat) (e : TypeId) (size n : Nat) (cs : Array Value) (hb : B ≤ w.heap.size) (hn : n ≤ maxLen) (hs : cs.size = n * size) :
    (w.alloc (.cells cs e)).ownsRow B e size (.slice (some ⟨w.heap.size, 0, none⟩) n n) n cs.toList :=
  ⟨by simpa using hs, .inr ⟨w.heap.size, n, cs, rfl, hb, heap_alloc_new w _, Nat.le_refl _, hn, hs, by rw [← hs]; exact List.take_of_length_le (Nat.le_refl _)⟩⟩

theorem Mk.own_shape {w : World} {B : Nat} {e : TypeId} {size : Nat} {v : Value} {n : Nat} {cs : List Value} (h : w.ownsRow B e size v n cs) : ∃ a c, v = .slice a n c := by
  rcases h.2 with ⟨h1, h2⟩ | ⟨g, cap, cur, hv, _⟩
  · exact ⟨none, 0, by rw [h1, h2]⟩
  · exact ⟨_, _, hv⟩

theorem Mk.own_nil (w : World) (B : Nat) : w.ownsRow B 54 2 (.slice none 0 0) 0 [] := World.ownsRow_nil _ _ _ _

theorem Mk.own_base {w : World} {B C : Nat} {e : TypeId} {size : Nat} {v : Value} {n : Nat} {cs : List Value} (h : w.ownsRow C e size v n cs) (hB : B ≤ C) : w.ownsRow B e size v n cs := by
  refine ⟨h.1, ?_⟩
  rcases h.2 with h2 | ⟨g, cap, cur, hv, hg, r⟩
  · exact .inl h2
  · exact .inr ⟨g, cap, cur, hv, by omega, r⟩

end Go.Proofs
