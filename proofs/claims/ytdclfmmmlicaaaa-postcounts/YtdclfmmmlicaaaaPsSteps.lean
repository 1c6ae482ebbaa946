/-
  What steps do to one key; offices in blocks of their own.
-/
import Derived.Test.YtdclfmmmlicaaaaPsTwo
namespace Go.Proofs
open Go.RowKit Go.Shelf Go.Maps

/-- Steps of another key say nothing. -/
theorem Ps.step_other (M : Ps.Ofc) (x k m key : Int) (h : k ≠ key) : Ps.has (Ps.step M x k m) key = Ps.has M key ∧ Ps.get (Ps.step M x k m) key = Ps.get M key := by
  have h' : ¬ key = k := fun e => h e.symm
  have hs : ∀ y, Ps.has (Ps.set M k y) key = Ps.has M key ∧ Ps.get (Ps.set M k y) key = Ps.get M key := fun y => by
    rw [Ps.has_set, Ps.get_set]
    simp [h']
  unfold Ps.step
  split
  · unfold Ps.openM
    split
    · rw [Ps.has_add, Ps.get_add]
      simp [h]
    · exact ⟨rfl, rfl⟩
  · split
    · rw [Ps.has_cut, Ps.get_cut]
      simp [h']
    · split
      · unfold Ps.putM
        split
        · exact hs _
        · exact ⟨rfl, rfl⟩
      · split
        · unfold Ps.takeM
          split
          · exact hs _
          · exact ⟨rfl, rfl⟩
        · exact ⟨rfl, rfl⟩

/-- What a step of a key makes of that key. -/
theorem Ps.step_key {M N : Ps.Ofc} (x k m : Int) (hh : Ps.has M k = Ps.has N k) (hg : Ps.get M k = Ps.get N k) (h1 : M.length < 8) (h2 : N.length < 8) : Ps.has (Ps.step M x k m) k = Ps.has (Ps.step N x k m) k ∧ Ps.get (Ps.step M x k m) k = Ps.get (Ps.step N x k m) k := by
  have eo : Ps.openE M k = Ps.openE N k := by
    unfold Ps.openE
    rw [hh, if_neg (show ¬ 8 ≤ M.length by omega), if_neg (show ¬ 8 ≤ N.length by omega)]
  have er : Ps.reachE M k m = Ps.reachE N k m := by
    unfold Ps.reachE
    rw [hh]
  have ep : Ps.putE M k m = Ps.putE N k m := by
    unfold Ps.putE
    rw [er, hg]
  have et : Ps.takeE M k m = Ps.takeE N k m := by
    unfold Ps.takeE
    rw [er, hg]
  unfold Ps.step
  split
  · unfold Ps.openM
    rw [eo]
    split
    · rw [Ps.has_add, Ps.has_add, Ps.get_add, Ps.get_add, hh, hg]
      exact ⟨rfl, rfl⟩
    · exact ⟨hh, hg⟩
  · split
    · rw [Ps.has_cut, Ps.has_cut, Ps.get_cut, Ps.get_cut, hh, hg]
      exact ⟨rfl, rfl⟩
    · split
      · unfold Ps.putM
        rw [ep]
        split
        · rw [Ps.has_set, Ps.has_set, Ps.get_set, Ps.get_set, hh, hg]
          exact ⟨rfl, rfl⟩
        · exact ⟨hh, hg⟩
      · split
        · unfold Ps.takeM
          rw [et]
          split
          · rw [Ps.has_set, Ps.has_set, Ps.get_set, Ps.get_set, hh, hg]
            exact ⟨rfl, rfl⟩
          · exact ⟨hh, hg⟩
        · exact ⟨hh, hg⟩

/-- An office with no other key than one. -/
def Ps.Only (M : Ps.Ofc) (k : Int) : Prop := ∀ p ∈ M, p.1 = k
theorem Ps.Only.step {M : Ps.Ofc} {k : Int} (h : Ps.Only M k) (x m : Int) : Ps.Only (Ps.step M x k m) k := by
  have hs : ∀ y, Ps.Only (Ps.set M k y) k := fun y p hp => by
    obtain ⟨r, hr, rfl⟩ := List.mem_map.1 hp
    have := h r hr
    simp [this]
  unfold Ps.step
  split
  · unfold Ps.openM
    split
    · intro p hp
      rcases List.mem_append.1 hp with hp | hp
      · exact h p hp
      · rw [List.mem_singleton.1 hp]
    · exact h
  · split
    · exact fun p hp => h p (List.mem_filter.1 hp).1
    · split
      · unfold Ps.putM
        split
        · exact hs _
        · exact h
      · split
        · unfold Ps.takeM
          split
          · exact hs _
          · exact h
        · exact h
theorem Ps.Only.len {M : Ps.Ofc} {k : Int} (h : Ps.Only M k) (hn : (Ps.key M).Nodup) : M.length ≤ 1 := by
  match M, h, hn with
  | [], _, _ => simp
  | [_], _, _ => simp
  | p :: r :: M, h, hn =>
    have e1 := h p (by simp)
    have e2 := h r (by simp)
    simp [Ps.key, e1, e2] at hn

theorem Ps.Two.tight {B : Nat} {E : Nat → Prop} {o q : Nat} {M : Ps.Ofc} {w : World} (h : Ps.Two B E o q M w) : Ps.Two B (fun x => E x ∧ x < w.heap.size) o q M w := by
  obtain ⟨hk, pm, v, h1, h2, h3, h4, h5, h6⟩ := h
  refine ⟨hk, pm, v, h1, h2, ⟨h3, h1.lt⟩, fun b e => ?_, ⟨h5, h2.lt⟩, fun g e => ⟨h6 g e, (h2.row e).1⟩⟩
  subst e
  exact ⟨h4 b rfl, h1.mlt⟩
theorem Ps.Two.nodup {B : Nat} {E : Nat → Prop} {o q : Nat} {M : Ps.Ofc} {w : World} (h : Ps.Two B E o q M w) : (Ps.key M).Nodup := by
  obtain ⟨_, pm, v, h1, _⟩ := h
  exact h1.nodup
/-- Two that have no boxes. -/
theorem Ps.two_new {B o q : Nat} {w : World} (h : Ps.At o none [] w) (hq : w.heap[q]? = some (.cells #[.slice none 0 0] 29 (0, 0))) : Ps.Two B (fun x => x = o ∨ x = q) o q [] w :=
  ⟨Ps.ok_nil, none, .slice none 0 0, h, ⟨hq, rfl, .inl ⟨rfl, rfl⟩⟩, .inl rfl, (fun b e => by cases e), .inr rfl, (fun g e => by cases e)⟩
/-- A step more, in blocks of its own. -/
theorem Ps.own_step {B : Nat} {E E' : Nat → Prop} {o q : Nat} {M : Ps.Ofc} {w w' : World} (hE : ∀ x, E x → B ≤ x ∧ x < w.heap.size) (hB : B ≤ w.heap.size) (hE' : ∀ x, E' x → E x ∨ w.heap.size ≤ x) (h : Ps.Two B E' o q M w') :
    Ps.Two B (fun x => E' x ∧ x < w'.heap.size) o q M w' ∧ (∀ x, (E' x ∧ x < w'.heap.size) → B ≤ x ∧ x < w'.heap.size) ∧ ∀ F : Nat → Prop, (∀ x, F x → x < w.heap.size) → (∀ x, E x → ¬ F x) → ∀ x, (E' x ∧ x < w'.heap.size) → ¬ F x := by
  refine ⟨h.tight, fun x hx => ⟨?_, hx.2⟩, fun F hF hd x hx hf => ?_⟩
  · rcases hE' x hx.1 with e | e
    · exact (hE x e).1
    · omega
  · rcases hE' x hx.1 with e | e
    · exact hd x e hf
    · have := hF x hf
      omega

end Go.Proofs
