/-
  A program's office and the document's with the same boxes; what a step makes of them.
-/
import Derived.Test.YtdclfmmmlicaaaaPsDocPut
import Derived.Test.YtdclfmmmlicaaaaPsDocTake
import Derived.Test.YtdclfmmmlicaaaaPsKeys
namespace Go.Proofs
open Go.RowKit Go.Shelf Go.Maps

def Ps.Ok (M : Ps.Ofc) : Prop := (∀ k, Bx.ok (Ps.get M k)) ∧ M.length ≤ 8
theorem Bx.ok_none : Bx.ok Bx.none := by simp [Bx.ok, Bx.none]
theorem Bx.ok_put {x : Bx} (h : Bx.ok x) (m : Int) {v : Int} (h0 : 0 ≤ v) (h1 : v ≤ 3) : Bx.ok (x.put m v) := by
  obtain ⟨a, b, c, d⟩ := h
  unfold Bx.put
  split
  · exact ⟨⟨h0, h1⟩, b, c, d⟩
  · split
    · exact ⟨a, ⟨h0, h1⟩, c, d⟩
    · split
      · exact ⟨a, b, ⟨h0, h1⟩, d⟩
      · exact ⟨a, b, c, ⟨h0, h1⟩⟩
theorem Bx.ok_at {x : Bx} (h : Bx.ok x) (m : Int) : 0 ≤ x.at m ∧ x.at m ≤ 3 := by
  obtain ⟨a, b, c, d⟩ := h
  unfold Bx.at
  split
  · exact a
  · split
    · exact b
    · split
      · exact c
      · exact d
theorem Ps.ok_nil : Ps.Ok [] := ⟨fun _ => Bx.ok_none, by simp⟩
theorem Ps.Ok.open {M : Ps.Ofc} (h : Ps.Ok M) (k : Int) : Ps.Ok (Ps.openM M k) := by
  unfold Ps.openM
  split
  · rename_i he
    refine ⟨fun k' => by rw [Ps.get_add]; exact h.1 k', ?_⟩
    unfold Ps.openE at he
    split at he
    · omega
    · split at he
      · omega
      · split at he
        · omega
        · simp
          omega
  · exact h
theorem Ps.Ok.cut {M : Ps.Ofc} (h : Ps.Ok M) (k : Int) : Ps.Ok (Ps.cut M k) := by
  refine ⟨fun k' => ?_, Nat.le_trans (List.length_filter_le _ _) h.2⟩
  rw [Ps.get_cut]
  split
  · exact Bx.ok_none
  · exact h.1 k'
theorem Ps.Ok.set {M : Ps.Ofc} (h : Ps.Ok M) (k : Int) {x : Bx} (hx : Bx.ok x) : Ps.Ok (Ps.set M k x) := by
  refine ⟨fun k' => ?_, by rw [Ps.len_set]; exact h.2⟩
  rw [Ps.get_set]
  split
  · exact hx
  · exact h.1 k'
theorem Ps.Ok.put {M : Ps.Ofc} (h : Ps.Ok M) (k m : Int) : Ps.Ok (Ps.putM M k m) := by
  unfold Ps.putM
  split
  · rename_i he
    have hb := Bx.ok_at (h.1 k) m
    refine h.set k (Bx.ok_put (h.1 k) m (by omega) ?_)
    unfold Ps.putE at he
    split at he
    · split at he
      · omega
      · omega
    · rename_i h1
      exact absurd he h1
  · exact h
theorem Ps.Ok.take {M : Ps.Ofc} (h : Ps.Ok M) (k m : Int) : Ps.Ok (Ps.takeM M k m) := by
  unfold Ps.takeM
  split
  · rename_i he
    have hb := Bx.ok_at (h.1 k) m
    refine h.set k (Bx.ok_put (h.1 k) m ?_ (by omega))
    unfold Ps.takeE at he
    split at he
    · split at he
      · omega
      · omega
    · rename_i h1
      exact absurd he h1
  · exact h
def Ps.step (M : Ps.Ofc) (x k m : Int) : Ps.Ofc := if x = 0 ∨ x = 1 then Ps.openM M k else if x = 2 then Ps.cut M k else if x = 3 ∨ x = 4 then Ps.putM M k m else if x = 5 then Ps.takeM M k m else M
theorem Ps.Ok.step {M : Ps.Ofc} (h : Ps.Ok M) (x k m : Int) : Ps.Ok (Ps.step M x k m) := by
  unfold Ps.step
  split
  · exact h.open k
  · split
    · exact h.cut k
    · split
      · exact h.put k m
      · split
        · exact h.take k m
        · exact h

/-- Blocks apart: by what lies in them. -/
theorem Ps.apart {o q B : Nat} {pm : Option Nat} {v : Value} {M N : Ps.Ofc} {w : World} (h : Ps.At o pm M w) (d : Ps.Dc B q v N w) : o ≠ q ∧ pm ≠ some q ∧ v.ownBlock ≠ some o ∧ ∀ b, pm = some b → v.ownBlock ≠ some b := by
  have hrow : ∀ g, v.ownBlock = some g → ∃ cur, w.heap[g]? = some (.cells cur 38 (0, 0)) := by
    intro g hg
    rcases d.2.2 with ⟨rfl, _⟩ | ⟨g', cap, cur, rfl, _, h4, _⟩
    · cases hg
    · have : g' = g := by simpa [Value.ownBlock] using hg
      subst this
      exact ⟨cur, h4⟩
  have hmap : ∀ b, pm = some b → ∃ es clock, w.heap[b]? = some (.map es clock) := by
    intro b hb
    obtain ⟨D, ⟨es, clock, hh, _⟩, _⟩ := h.2.2 b hb
    exact ⟨es, clock, hh⟩
  refine ⟨fun e => ?_, fun e => ?_, fun e => ?_, fun b hb e => ?_⟩
  · have h1 := h.1
    rw [e, d.1] at h1
    simp at h1
  · obtain ⟨es, clock, hh⟩ := hmap q e
    rw [d.1] at hh
    cases hh
  · obtain ⟨cur, hc⟩ := hrow o e
    rw [h.1] at hc
    simp at hc
  · obtain ⟨es, clock, hh⟩ := hmap b hb
    obtain ⟨cur, hc⟩ := hrow b e
    rw [hh] at hc
    cases hc

/-- A program's office and the document's, with the same boxes, in blocks of E. -/
def Ps.Two (B : Nat) (E : Nat → Prop) (o q : Nat) (M : Ps.Ofc) (w : World) : Prop :=
  Ps.Ok M ∧ ∃ pm v, Ps.At o pm M w ∧ Ps.Dc B q v M w ∧ E o ∧ (∀ b, pm = some b → E b) ∧ E q ∧ ∀ g, v.ownBlock = some g → E g

theorem Ps.Two.keep {B : Nat} {E : Nat → Prop} {o q : Nat} {M : Ps.Ofc} {w w' : World} (h : Ps.Two B E o q M w) (hb : ∀ k, k < w.heap.size → E k → w'.heap[k]? = w.heap[k]?) : Ps.Two B E o q M w' := by
  obtain ⟨hk, pm, v, h1, h2, h3, h4, h5, h6⟩ := h
  refine ⟨hk, pm, v, h1.keep (hb o h1.lt h3) fun b e => ?_, h2.keep (hb q h2.lt h5) fun g e => hb g (h2.row e).1 (h6 g e), h3, h4, h5, h6⟩
  subst e
  exact hb b h1.mlt (h4 b rfl)
theorem Ps.Two.but {B : Nat} {E F : Nat → Prop} {o q : Nat} {M : Ps.Ofc} {w w' : World} (h : Ps.Two B E o q M w) (hb : Tk.But F w w') (hd : ∀ k, E k → ¬ F k) : Ps.Two B E o q M w' := h.keep fun k hk he => hb.block k hk (hd k he)
theorem Ps.Two.below {B A : Nat} {E : Nat → Prop} {o q : Nat} {M : Ps.Ofc} {w w' : World} (h : Ps.Two B E o q M w) (hb : Below A w w') (hA : w.heap.size ≤ A) : Ps.Two B E o q M w' := h.keep fun k hk _ => hb.block k (by omega)

end Go.Proofs
