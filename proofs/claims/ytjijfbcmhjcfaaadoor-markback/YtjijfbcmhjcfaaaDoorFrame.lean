/-
  Worlds in which a reader lies in block b, and what a call keeps of them.
-/
import Derived.Test.YtjijfbcmhjcfaaaDoorSmall
namespace Go.Proofs
open Go.RowKit

/-- The reader in block b: its text, and the place of the next byte. -/
def Mk.Rd (b : Nat) (s : ByteArray) (k : Nat) (w : World) : Prop := w.heap[b]? = some (.cells #[.string s, .int .i64 k] 74 (0, 0))

theorem Mk.grown_refl (w : World) (r : Option Nat) : w.grownBy w r := ⟨rfl, rfl, rfl, Nat.le_refl _, fun _ _ _ => rfl⟩
theorem Mk.grown_trans {a b c : World} {r : Option Nat} (h : a.grownBy b r) (k : b.grownBy c r) : a.grownBy c r :=
  ⟨k.os.trans h.os, k.tape.trans h.tape, k.output.trans h.output, Nat.le_trans h.size k.size, fun i hi hr => (k.block i (Nat.lt_of_lt_of_le hi h.size) hr).trans (h.block i hi hr)⟩
theorem Mk.grown_of_below {w w' : World} (h : Below w.heap.size w w') (r : Option Nat) : w.grownBy w' r :=
  ⟨h.os, h.tape, h.output, h.size, fun k hk _ => h.block k hk⟩
theorem Mk.grown_drewN {a w : World} {r : Option Nat} (h : a.grownBy w r) (n : Nat) : a.grownBy (w.drewN n) r :=
  ⟨h.os, h.tape, h.output, h.size, h.block⟩
theorem Mk.grown_setCell {a w : World} {b : Nat} (h : a.grownBy w (some b)) (o : Nat) (x : Option Nat) (v : Value) : a.grownBy (w.setCell ⟨b, o, x⟩ v) (some b) :=
  ⟨h.os, h.tape, h.output, by simpa [World.setCell] using h.size, fun k hk hr => by
    rw [Below.heap_setCell _ _ _ _ (fun e => hr (by rw [e]))]
    exact h.block k hk hr⟩

theorem Mk.Rd.lt {b : Nat} {s : ByteArray} {k : Nat} {w : World} (h : Mk.Rd b s k w) : b < w.heap.size := (Array.getElem?_eq_some_iff.1 h).1
theorem Mk.Rd.c0 {b : Nat} {s : ByteArray} {k : Nat} {w : World} (h : Mk.Rd b s k w) : w.cell? ⟨b, 0, none⟩ = some (.string s) := by
  simp only [Mk.Rd] at h; simp [World.cell?, h]
theorem Mk.Rd.c1 {b : Nat} {s : ByteArray} {k : Nat} {w : World} (h : Mk.Rd b s k w) : w.cell? ⟨b, 1, none⟩ = some (.int .i64 k) := by
  simp only [Mk.Rd] at h; simp [World.cell?, h]
theorem Mk.Rd.f1 {b : Nat} {s : ByteArray} {k : Nat} {w : World} (h : Mk.Rd b s k w) : w.frozen? ⟨b, 1, none⟩ = false := by
  simp only [Mk.Rd] at h; simp [World.frozen?, h]
theorem Mk.Rd.kept {b : Nat} {s : ByteArray} {k : Nat} {w w' : World} (h : Mk.Rd b s k w) (hb : Below w.heap.size w w') : Mk.Rd b s k w' := by
  unfold Mk.Rd
  rw [hb.block b h.lt]
  exact h
theorem Mk.Rd.put {b : Nat} {s : ByteArray} {k : Nat} {w : World} (h : Mk.Rd b s k w) (k' : Nat) : Mk.Rd b s k' (w.setCell ⟨b, 1, none⟩ (.int .i64 k')) := by
  unfold Mk.Rd at *
  simp [World.setCell, Array.getElem?_modify, h]

theorem Mk.builderAt_kept {T e : TypeId} {B b : Nat} {p : Value} {bs : List Value} {w w' : World} (h : Lib.BuilderAtF T e B b p bs w) (hk : ∀ k, B ≤ k → k < w.heap.size → w'.heap[k]? = w.heap[k]?) : Lib.BuilderAtF T e B b p bs w' := by
  obtain ⟨hB, v, hb, hown, hne⟩ := h
  refine ⟨hB, v, by rw [hk b hB (Array.getElem?_eq_some_iff.1 hb).1]; exact hb, ⟨hown.1, ?_⟩, hne⟩
  rcases hown.2 with hn | ⟨g, cap, cur, fz, hv, hbg, hg, rest⟩
  · exact .inl hn
  · exact .inr ⟨g, cap, cur, fz, hv, hbg, by rw [hk g hbg (Array.getElem?_eq_some_iff.1 hg).1]; exact hg, rest⟩
theorem Mk.builder_kept {T e : TypeId} {B b : Nat} {bs : List Value} {w w' : World} (h : Lib.IsBuilderF T e B b bs w) (hk : ∀ k, B ≤ k → k < w.heap.size → w'.heap[k]? = w.heap[k]?) : Lib.IsBuilderF T e B b bs w' :=
  h.elim (fun x => .inl (Mk.builderAt_kept x hk)) (fun x => .inr (Mk.builderAt_kept x hk))
theorem Mk.builder_below {T e : TypeId} {B b : Nat} {bs : List Value} {w w' : World} (h : Lib.IsBuilderF T e B b bs w) (hb : Below w.heap.size w w') : Lib.IsBuilderF T e B b bs w' :=
  Mk.builder_kept h fun k _ hk => hb.block k hk
theorem Mk.builder_setCell {T e : TypeId} {B b : Nat} {bs : List Value} {w : World} (h : Lib.IsBuilderF T e B b bs w) (a : Addr) (ha : a.block < B) (v : Value) : Lib.IsBuilderF T e B b bs (w.setCell a v) :=
  Mk.builder_kept h fun k hk _ => Below.heap_setCell _ _ _ _ (by omega)
/-- A step that keeps all below B keeps a reader that lies there. -/
theorem Mk.Rd.keptB {b B : Nat} {s : ByteArray} {k : Nat} {w w' : World} (h : Mk.Rd b s k w) (hb : Below B w w') (hB : b < B) : Mk.Rd b s k w' := by
  unfold Mk.Rd
  rw [hb.block b hB]
  exact h
theorem Mk.grown_belowB {a w w' : World} {r : Option Nat} (h : a.grownBy w r) (hb : Below a.heap.size w w') : a.grownBy w' r :=
  ⟨hb.os.trans h.os, hb.tape.trans h.tape, hb.output.trans h.output, Nat.le_trans h.size hb.size, fun k hk hr => (hb.block k hk).trans (h.block k hk hr)⟩
theorem Mk.below_drewN {B : Nat} {a w : World} (h : Below B a w) (n : Nat) : Below B a (w.drewN n) := ⟨h.os, h.tape, h.output, h.size, h.block⟩

/-- Behind a step that writes to one row of the call's own. -/
theorem Mk.grown_own {a w w' : World} {b : Nat} {row : Option Nat} (h : a.grownBy w (some b)) (hg : w.grownBy w' row) (hr : ∀ k, row = some k → a.heap.size ≤ k) : a.grownBy w' (some b) :=
  ⟨hg.os.trans h.os, hg.tape.trans h.tape, hg.output.trans h.output, Nat.le_trans h.size hg.size, fun k hk hb =>
    (hg.block k (Nat.lt_of_lt_of_le hk h.size) (fun e => by have := hr k e.symm; omega)).trans (h.block k hk hb)⟩
theorem Mk.grown_alloc {a w : World} {r : Option Nat} (h : a.grownBy w r) (o : Obj) : a.grownBy (w.alloc o) r :=
  Mk.grown_trans h (World.grownBy_alloc w o r)
theorem Mk.Rd.grown {b : Nat} {s : ByteArray} {k : Nat} {w w' : World} {row : Option Nat} (h : Mk.Rd b s k w) (hg : w.grownBy w' row) (hr : some b ≠ row) : Mk.Rd b s k w' := by
  unfold Mk.Rd
  rw [hg.block b h.lt hr]
  exact h

end Go.Proofs
