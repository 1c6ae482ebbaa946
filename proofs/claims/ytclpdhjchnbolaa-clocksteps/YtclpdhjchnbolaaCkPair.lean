/-
  Two clocks side by side.
-/
import Derived.Test.YtclpdhjchnbolaaCkTwo
namespace Go.Proofs
open Go.RowKit Go.Shelf Go.Sort

theorem Ck.At.wider {B B' c : Nat} {v : Value} {now : Int} {L : List Ck.Al} {w : World} (h : Ck.At B c v now L w) (hB : B' ≤ B) : Ck.At B' c v now L w := by
  refine ⟨Nat.le_trans hB h.low, h.blk, h.row.1, ?_⟩
  rcases h.row.2 with hn | ⟨g, cap, cur, rfl, h3, h4⟩
  · exact .inl hn
  · exact .inr ⟨g, cap, cur, rfl, Nat.le_trans hB h3, h4⟩
/-- A row is no clock. -/
theorem Ck.At.told {B B' c c' : Nat} {v v' : Value} {now now' : Int} {L L' : List Ck.Al} {w : World} (h : Ck.At B c v now L w) (h' : Ck.At B' c' v' now' L' w) : v.ownBlock ≠ some c' := fun e => by
  rcases h.row.2 with ⟨rfl, _⟩ | ⟨g, cap, cur, rfl, _, h4, _⟩
  · cases e
  · have : g = c' := by simpa [Value.ownBlock] using e
    subst this
    rw [h'.blk] at h4
    simp at h4
structure Ck.Pair (B c d : Nat) (v u : Value) (n m : Int) (L M : List Ck.Al) (w : World) : Prop where
  a : Ck.At B c v n L w
  b : Ck.At B d u m M w
  ne : c ≠ d
  dj : ∀ g, v.ownBlock = some g → u.ownBlock ≠ some g
theorem Ck.Pair.below {D B c d : Nat} {v u : Value} {n m : Int} {L M : List Ck.Al} {w w' : World} (h : Ck.Pair B c d v u n m L M w) (hb : Below D w w') (hD : w.heap.size ≤ D) : Ck.Pair B c d v u n m L M w' :=
  ⟨h.a.below hb hD, h.b.below hb hD, h.ne, h.dj⟩
theorem Ck.Pair.stepA {B c d : Nat} {v u v' : Value} {n m n' : Int} {L M L' : List Ck.Al} {w w' : World} (h : Ck.Pair B c d v u n m L M w) (h' : Ck.At B c v' n' L' w') (hg : ∀ g, v'.ownBlock = some g → v.ownBlock = some g ∨ w.heap.size ≤ g) (hb : Tk.But (fun x => x = c ∨ v.ownBlock = some x) w w') : Ck.Pair B c d v' u n' m L' M w' := by
  refine ⟨h', h.b.but hb (fun e => ?_) (fun b e => ?_), h.ne, fun g e e2 => ?_⟩
  · rcases e with e | e
    · exact h.ne e.symm
    · exact h.a.told h.b e
  · rintro (e3 | e3)
    · exact h.b.told h.a (by rw [e, e3])
    · exact h.dj b e3 e
  · rcases hg g e with e3 | e3
    · exact h.dj g e3 e2
    · have := h.b.rlt g e2
      omega
theorem Ck.Pair.swap {B c d : Nat} {v u : Value} {n m : Int} {L M : List Ck.Al} {w : World} (h : Ck.Pair B c d v u n m L M w) : Ck.Pair B d c u v m n M L w :=
  ⟨h.b, h.a, fun e => h.ne e.symm, fun g e e2 => h.dj g e2 e⟩
theorem Ck.Pair.stepB {B c d : Nat} {v u u' : Value} {n m m' : Int} {L M M' : List Ck.Al} {w w' : World} (h : Ck.Pair B c d v u n m L M w) (h' : Ck.At B d u' m' M' w') (hg : ∀ g, u'.ownBlock = some g → u.ownBlock = some g ∨ w.heap.size ≤ g) (hb : Tk.But (fun x => x = d ∨ u.ownBlock = some x) w w') : Ck.Pair B c d v u' n m' L M' w' :=
  (h.swap.stepA h' hg hb).swap
theorem Ck.But.row {c : Nat} {v : Value} {w w' : World} (h : Tk.But (fun x => x = c) w w') : Tk.But (fun x => x = c ∨ v.ownBlock = some x) w w' := ⟨h.os, h.tape, h.output, h.size, fun k hk he => h.block k hk (fun e => he (.inl e))⟩

end Go.Proofs
