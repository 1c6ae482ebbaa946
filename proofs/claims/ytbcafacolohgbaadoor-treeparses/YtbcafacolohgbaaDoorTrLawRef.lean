/-
  The contract of the statements' ref: an element as the document has it.
-/
import Derived.Test.YtbcafacolohgbaaDoorAllTrStep
import Derived.Test.YtbcafacolohgbaaDoorRefOpen
import Derived.Deep.DeepCutAuto
import Derived.Deep.RegionLaw
namespace Go.Proofs
open Go.RowKit
open Go.Proofs.Mk

theorem Tryd.infoRElem : (Tryd.prog.info? 39).map (fun i => (i.zero, i.size, i.bytes)) = some (some (.agg #[.string ⟨#[]⟩, .slice none 0 0, .slice none 0 0, .string ⟨#[]⟩]), 4, 80) := by kernel_rfl
theorem Tryd.infoRAttr2 : (Tryd.prog.info? 69).map (fun i => (i.zero, i.size, i.bytes)) = some (some (.agg #[.string ⟨#[]⟩, .string ⟨#[]⟩]), 2, 32) := by kernel_rfl
theorem Tr.at_op2 {P : Program} {ops : Array Oper} {o : Oper} {a : Act} {w : World} {K : Act → World → Prop} {Q : Exit → Act → World → Prop} {E : Prop} (x : Op) (_hop : o.op = x)
    (h : if Region.wanted o (yielded ops a.tmps) = true then Oper.wp P o a w K Q else E) : if Region.wanted o (yielded ops a.tmps) = true then Oper.wp P o a w K Q else E := h

/-- What ref goes on with: the box, the answer, the variable p. -/
structure Tr.Rf (w : World) (bx : Array Value) (nm tx : ByteArray) (vA vK : Value) (xs : List (ByteArray × ByteArray)) (qs : List (El × Value × Value)) (X : World) : Prop where
  box : X.heap[w.heap.size]? = some (.cells bx 25 (0, 0))
  res : X.heap[w.heap.size + 1]? = some (.cells #[.string ⟨#[]⟩, .slice none 0 0, .slice none 0 0, .string ⟨#[]⟩] 39 (0, 0))
  var : X.heap[w.heap.size + 1 + 1]? = some (.cells #[.string nm, vA, vK, .string tx] 39 (0, 0))
  ownA : X.ownsRow (w.heap.size + 3) 69 2 vA xs.length (Mk.attrCells xs)
  ownK : X.ownsRow (w.heap.size + 3) 39 4 vK qs.length (Tr.eCells qs)
  lies : ∀ q ∈ qs, ∃ d, El.Lies X (fun k => w.heap.size + 3 ≤ k ∧ k < X.heap.size ∧ vK.ownBlock ≠ some k) d q.2.1 q.2.2 q.1
  below : Below w.heap.size w X
theorem Tr.Rf.lt {w : World} {bx : Array Value} {nm tx : ByteArray} {vA vK : Value} {xs : List (ByteArray × ByteArray)} {qs : List (El × Value × Value)} {X : World} (h : Tr.Rf w bx nm tx vA vK xs qs X) : w.heap.size + 1 + 1 < X.heap.size := (Array.getElem?_eq_some_iff.1 h.var).1
theorem Tr.Rf.step {w : World} {bx : Array Value} {nm tx : ByteArray} {vA vK : Value} {xs : List (ByteArray × ByteArray)} {qs : List (El × Value × Value)} {X X' : World} (h : Tr.Rf w bx nm tx vA vK xs qs X) (hb : Below X.heap.size X X') : Tr.Rf w bx nm tx vA vK xs qs X' := by
  have hz := h.lt
  exact ⟨(hb.block _ (by omega)).trans h.box, (hb.block _ (by omega)).trans h.res, (hb.block _ hz).trans h.var, Tr.own_kept h.ownA fun k hk => hb.block k (Tr.row_lt h.ownA hk).2, Tr.own_kept h.ownK fun k hk => hb.block k (Tr.row_lt h.ownK hk).2,
    fun q hq => by obtain ⟨d, hd⟩ := h.lies q hq; exact ⟨d, hd.keep (fun k hk => hb.block k hk.2.1) fun k hk => ⟨hk.1, Nat.lt_of_lt_of_le hk.2.1 hb.size, hk.2.2⟩⟩, h.below.trans (hb.mono h.below.size)⟩
/-- An attribute more. -/
theorem Tr.Rf.attr {w : World} {bx : Array Value} {nm tx : ByteArray} {vA v6 : Value} {xs : List (ByteArray × ByteArray)} {a : ByteArray × ByteArray} {X W6 : World} (h : Tr.Rf w bx nm tx vA (.slice none 0 0) xs [] X)
    (o6 : W6.ownsRow (w.heap.size + 3) 69 2 v6 (xs.length + 1) (Mk.attrCells xs ++ [.string a.1, .string a.2])) (g6 : X.grownBy W6 vA.ownBlock) :
    W6.heap[w.heap.size + 1 + 1]? = some (.cells #[.string nm, vA, .slice none 0 0, .string tx] 39 (0, 0)) ∧ Tr.Rf w bx nm tx v6 (.slice none 0 0) (xs ++ [a]) [] (W6.setCell ⟨w.heap.size + 1 + 1, 1, none⟩ v6) := by
  have hz := h.lt
  have hk : ∀ k, k < w.heap.size + 3 → k < X.heap.size → W6.heap[k]? = X.heap[k]? := fun k h1 h2 => g6.block k h2 (by intro e; have := (Tr.row_lt h.ownA e.symm).1; omega)
  have hv := (hk _ (by omega) hz).trans h.var
  refine ⟨hv, ?_, ?_, ?_, ?_, World.ownsRow_nil _ _ _ _, (fun q hq => by cases hq), ?_⟩
  · rw [Below.heap_setCell _ _ _ _ (by show _ ≠ w.heap.size + 1 + 1; omega)]; exact (hk _ (by omega) (by omega)).trans h.box
  · rw [Below.heap_setCell _ _ _ _ (by show _ ≠ w.heap.size + 1 + 1; omega)]; exact (hk _ (by omega) (by omega)).trans h.res
  · simp [World.setCell, Array.getElem?_modify, hv]
  · rw [Mk.attrCells_append, List.length_append]
    exact ownsRow_setCell_below o6 (by show w.heap.size + 1 + 1 < _; omega) _
  · exact (h.below.trans ⟨g6.os, g6.tape, g6.output, g6.size, fun j hj => hk j (by omega) (by omega)⟩).setCell (by show _ ≤ w.heap.size + 1 + 1; omega) _
/-- A kid more: ahead of the store, and behind it. -/
theorem Tr.Rf.mid {w : World} {bx : Array Value} {nm tx : ByteArray} {vA vK : Value} {xs : List (ByteArray × ByteArray)} {qs : List (El × Value × Value)} {X W6 : World} (h : Tr.Rf w bx nm tx vA vK xs qs X) (g6 : X.grownBy W6 vK.ownBlock) :
    W6.heap[w.heap.size + 1 + 1]? = some (.cells #[.string nm, vA, vK, .string tx] 39 (0, 0)) :=
  (g6.block _ h.lt (by intro e; have := (Tr.row_lt h.ownK e.symm).1; omega)).trans h.var
theorem Tr.Rf.kid {w : World} {bx : Array Value} {nm tx : ByteArray} {vA vK : Value} {xs : List (ByteArray × ByteArray)} {qs : List (El × Value × Value)} {X W6 : World} {x : El} {ua uk : Value} {g cap H : Nat} (h : Tr.Rf w bx nm tx vA vK xs qs X)
    (hx : ∃ d, El.Lies X (fun k => w.heap.size + 3 ≤ k ∧ k < X.heap.size ∧ vK.ownBlock ≠ some k) d ua uk x) (hH : X.heap.size = H)
    (o6 : W6.ownsRow (w.heap.size + 3) 39 4 (.slice (some ⟨g, 0, none⟩) (qs.length + 1) cap) (qs.length + 1) (Tr.eCells qs ++ [.string x.name, ua, uk, .string x.text])) (g6 : X.grownBy W6 vK.ownBlock) (hg : vK.ownBlock = some g ∨ g = H) :
    Tr.Rf w bx nm tx vA (.slice (some ⟨g, 0, none⟩) (qs.length + 1) cap) xs (qs ++ [(x, ua, uk)]) (W6.setCell ⟨w.heap.size + 1 + 1, 2, none⟩ (.slice (some ⟨g, 0, none⟩) (qs.length + 1) cap)) := by
  have hz := h.lt
  have hv := h.mid g6
  have hk : ∀ k, k < w.heap.size + 3 → k < X.heap.size → W6.heap[k]? = X.heap[k]? := fun k h1 h2 => g6.block k h2 (by intro e; have := (Tr.row_lt h.ownK e.symm).1; omega)
  have key : ∀ (d : Nat) (va vk : Value) (E : El), El.Lies X (fun k => w.heap.size + 3 ≤ k ∧ k < X.heap.size ∧ vK.ownBlock ≠ some k) d va vk E → El.Lies (W6.setCell ⟨w.heap.size + 1 + 1, 2, none⟩ (.slice (some ⟨g, 0, none⟩) (qs.length + 1) cap)) (fun k => w.heap.size + 3 ≤ k ∧ k < (W6.setCell ⟨w.heap.size + 1 + 1, 2, none⟩ (.slice (some ⟨g, 0, none⟩) (qs.length + 1) cap)).heap.size ∧ (Value.slice (some ⟨g, 0, none⟩) (qs.length + 1) cap).ownBlock ≠ some k) d va vk E := fun d va vk E hE =>
    hE.keep (fun k hk => (Below.heap_setCell _ _ _ _ (by show k ≠ w.heap.size + 1 + 1; omega)).trans (g6.block k hk.2.1 (Ne.symm hk.2.2))) fun k hk => ⟨hk.1, by have := g6.size; simp [World.setCell]; omega, by
      intro e
      have e' : g = k := Option.some.inj e
      subst e'
      rcases hg with hg | hg
      · exact hk.2.2 hg
      · omega⟩
  refine ⟨?_, ?_, ?_, ?_, ?_, ?_, ?_⟩
  · rw [Below.heap_setCell _ _ _ _ (by show _ ≠ w.heap.size + 1 + 1; omega)]; exact (hk _ (by omega) (by omega)).trans h.box
  · rw [Below.heap_setCell _ _ _ _ (by show _ ≠ w.heap.size + 1 + 1; omega)]; exact (hk _ (by omega) (by omega)).trans h.res
  · simp [World.setCell, Array.getElem?_modify, hv]
  · refine ownsRow_setCell_below (Tr.own_kept h.ownA fun k hk1 => g6.block k (Tr.row_lt h.ownA hk1).2 ?_) (by show w.heap.size + 1 + 1 < _; omega) _
    intro e
    exact Tr.rows_ne h.ownA h.ownK (by decide) hk1 e.symm
  · rw [Tr.eCells_append, List.length_append]
    exact ownsRow_setCell_below o6 (by show w.heap.size + 1 + 1 < _; omega) _
  · intro q hq
    rcases List.mem_append.1 hq with hq | hq
    · obtain ⟨d, hd⟩ := h.lies q hq
      exact ⟨d, key _ _ _ _ hd⟩
    · rw [List.mem_singleton.1 hq]
      obtain ⟨d, hd⟩ := hx
      exact ⟨d, key _ _ _ _ hd⟩
  · exact (h.below.trans ⟨g6.os, g6.tape, g6.output, g6.size, fun j hj => hk j (by omega) (by omega)⟩).setCell (by show _ ≤ w.heap.size + 1 + 1; omega) _
theorem Tr.maxL {w : World} {P : Nat → Prop} : ∀ (l : List (El × Value × Value)), (∀ q ∈ l, ∃ d, El.Lies w P d q.2.1 q.2.2 q.1) → ∃ D, ∀ q ∈ l, El.Lies w P D q.2.1 q.2.2 q.1
  | [], _ => ⟨0, fun _ h => by cases h⟩
  | a :: l, h => by
    obtain ⟨D, hD⟩ := Tr.maxL l fun q hq => h q (by simp [hq])
    obtain ⟨d, hd⟩ := h a (by simp)
    refine ⟨max D d, fun q hq => ?_⟩
    rcases List.mem_cons.1 hq with rfl | hq
    · exact hd.upto (Nat.le_max_right _ _)
    · exact (hD q hq).upto (Nat.le_max_left _ _)
/-- The element that is there. -/
theorem Tr.Rf.elem {w : World} {bx : Array Value} {vA vK : Value} {qs : List (El × Value × Value)} {X : World} {E : El} (h : Tr.Rf w bx E.name E.text vA vK E.attrs qs X) (hk : qs.map (·.1) = E.kids) : ∃ d, El.Lies X (fun k => w.heap.size + 3 ≤ k ∧ k < X.heap.size) d vA vK E := by
  obtain ⟨D, hD⟩ := Tr.maxL qs h.lies
  have hlen : E.kids.length = qs.length := by rw [← hk]; simp
  have hA : El.AttrsP X (fun k => w.heap.size + 3 ≤ k ∧ k < X.heap.size) vA E.attrs := by
    rcases Mk.attrsAt_own h.ownA with h1 | ⟨g, off, cap, rfl, hc, hg, hr⟩
    · exact .inl h1
    · refine .inr ⟨g, off, cap, rfl, hc, ?_, hr⟩
      rcases h.ownA.2 with ⟨h0, _⟩ | ⟨g', cap', cur, hv, hb, _⟩
      · cases h0
      · cases hv; exact ⟨hb, hg⟩
  refine ⟨D + 1, hA, ?_⟩
  rcases h.ownK.2 with ⟨rfl, h0⟩ | ⟨g, cap, cur, rfl, hb, hg, _⟩
  · exact ⟨none, 0, by rw [hlen, h0], .inl (List.length_eq_zero_iff.1 (by omega))⟩
  · refine ⟨_, _, by rw [hlen], .inr ⟨g, 0, rfl, ⟨hb, (Array.getElem?_eq_some_iff.1 hg).1⟩, fun j hj => ?_⟩⟩
    have hj' : j < qs.length := by omega
    obtain ⟨c0, c1, c2, c3⟩ := Tr.eCells_at qs j hj'
    have hc : ∀ o u, (Tr.eCells qs)[o]? = some u → X.cell? ⟨g, o, none⟩ = some u := fun o u hu => by
      have h1 := h.ownK.cells (g := g) rfl o u hu
      have ea : (⟨g, 0, none⟩ : Addr).add o = ⟨g, o, none⟩ := by unfold Addr.add; split <;> simp_all
      rw [ea] at h1
      exact h1
    have he : E.kids[j] = qs[j].1 := by simp [← hk]
    rw [he, Nat.zero_add]
    exact ⟨qs[j].2.1, qs[j].2.2, hc _ _ c0, hc _ _ c1, hc _ _ c2, hc _ _ c3, (hD _ (List.getElem_mem hj')).keep (fun _ _ => rfl) fun k hk => ⟨hk.1, hk.2.1⟩⟩

end Go.Proofs
