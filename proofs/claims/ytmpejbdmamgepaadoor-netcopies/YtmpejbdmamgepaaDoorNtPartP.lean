/-
  nest.Part: a pointer more on the stack leaves the places as they are; the round's inner loop.
-/
import Derived.Test.YtmpejbdmamgepaaDoorNtPartC
namespace Go.Proofs
open Go.RowKit Go.Shelf

theorem Pt.push {B d : Nat} {w W W' : World} {L : List Pl} {S : List (Nat × Nat)} {v : Value} {n : Nat} {cs : List Value} {xs : Array Value} {ty : TypeId} (h : Pt.Inv B d w L S W) (ho : W.ownsRow B 66 1 v n cs) (hB : B ≤ W.heap.size) (hg : (W.alloc (.cells xs ty)).grownBy W' v.ownBlock) : Pt.Inv B d w L S W' ∧ (∀ x ∈ L, W'.heap[x.b]? = W.heap[x.b]?) ∧ B ≤ W'.heap.size := by
  have hb0 : Below W.heap.size W (W.alloc (.cells xs ty)) := (Below.refl _ W).alloc (Nat.le_refl _) _
  have hbB : Below B W W' := Rk.below_grown (hb0.mono hB) (by simp; omega) (ho.alloc _) hg
  have key : ∀ x ∈ L, W'.heap[x.b]? = W.heap[x.b]? := fun x hx => by
    obtain ⟨⟨csb, tyb, hcb, htb⟩, _⟩ := h.at_ x hx
    have hlt : x.b < W.heap.size := (Array.getElem?_eq_some_iff.1 hcb).1
    rw [← hb0.block _ hlt]
    refine hg.block x.b (by simp; omega) ?_
    intro he
    rcases ho.2 with ⟨rfl, _⟩ | ⟨g, cap, cur, rfl, _, hgc, _⟩
    · cases he
    · have e : x.b = g := by simpa [Value.ownBlock] using he
      rw [← e, hcb] at hgc
      injection hgc with hgc
      injection hgc with _ hgc
      exact htb hgc
  exact ⟨h.keep hbB key, key, Nat.le_trans hB hbB.size⟩

/-- What the making of a copy leaves as it was: all cells of the world w0 but those in which the places of L0 have their kids, and rows of pointers. -/
structure Pt.Kept (w0 : World) (L0 L : List Pl) (W : World) : Prop where
  size : w0.heap.size ≤ W.heap.size
  new : ∀ x ∈ L, x ∈ L0 ∨ w0.heap.size ≤ x.b
  at_ : ∀ k cs ty, w0.heap[k]? = some (.cells cs ty (0, 0)) → ty ≠ 66 → ∃ cs', W.heap[k]? = some (.cells cs' ty (0, 0)) ∧ ∀ o, (∀ x ∈ L0, ¬ (x.b = k ∧ x.o + 2 = o)) → cs'[o]? = cs[o]?
theorem Pt.Kept.refl (w0 : World) (L : List Pl) : Pt.Kept w0 L L w0 := ⟨Nat.le_refl _, fun _ h => .inl h, fun _ cs _ h _ => ⟨cs, h, fun _ _ => rfl⟩⟩
theorem Pt.Kept.below {w0 W W' : World} {L0 L : List Pl} (h : Pt.Kept w0 L0 L W) (hb : Below W.heap.size W W') : Pt.Kept w0 L0 L W' := by
  refine ⟨Nat.le_trans h.size hb.size, h.new, fun k cs ty hk ht => ?_⟩
  obtain ⟨cs', h1, h2⟩ := h.at_ k cs ty hk ht
  exact ⟨cs', by rw [hb.block k (Array.getElem?_eq_some_iff.1 h1).1]; exact h1, h2⟩
theorem Pt.Kept.more {w0 W : World} {L0 L L1 : List Pl} (h : Pt.Kept w0 L0 L W) (hL : ∀ x ∈ L1, x ∈ L ∨ W.heap.size ≤ x.b) : Pt.Kept w0 L0 L1 W :=
  ⟨h.size, fun x hx => (hL x hx).elim (h.new x) fun hg => .inr (Nat.le_trans h.size hg), h.at_⟩
theorem Pt.Kept.store {w0 W : World} {L0 L : List Pl} {b o : Nat} {T : Tm} {v : Value} (h : Pt.Kept w0 L0 L W) (hx : (⟨b, o, T⟩ : Pl) ∈ L) : Pt.Kept w0 L0 L (W.setCell ⟨b, o + 2, none⟩ v) := by
  refine ⟨by simpa using h.size, h.new, fun k cs ty hk ht => ?_⟩
  obtain ⟨cs', h1, h2⟩ := h.at_ k cs ty hk ht
  by_cases hkb : k = b
  · subst hkb
    refine ⟨cs'.setIfInBounds (o + 2) v, by simp [World.setCell, Array.getElem?_modify, h1], fun o' ho' => ?_⟩
    have hne : o + 2 ≠ o' := by
      intro e
      rcases h.new _ hx with hm | hm
      · exact ho' _ hm ⟨rfl, e⟩
      · have := (Array.getElem?_eq_some_iff.1 hk).1
        simp only at hm
        omega
    rw [Array.getElem?_setIfInBounds_ne hne]
    exact h2 o' ho'
  · exact ⟨cs', by rw [Below.heap_setCell _ _ _ _ hkb]; exact h1, h2⟩
theorem Pt.Kept.push {w0 W W' : World} {L0 L : List Pl} {B : Nat} {v : Value} {n : Nat} {cs : List Value} {xs : Array Value} {ty : TypeId} (h : Pt.Kept w0 L0 L W) (ho : W.ownsRow B 66 1 v n cs) (hg : (W.alloc (.cells xs ty)).grownBy W' v.ownBlock) : Pt.Kept w0 L0 L W' := by
  have hb0 : Below W.heap.size W (W.alloc (.cells xs ty)) := (Below.refl _ W).alloc (Nat.le_refl _) _
  refine ⟨Nat.le_trans h.size (Nat.le_trans (by simp) hg.size), h.new, fun k cs0 t hk ht => ?_⟩
  obtain ⟨cs', h1, h2⟩ := h.at_ k cs0 t hk ht
  refine ⟨cs', ?_, h2⟩
  have hlt : k < W.heap.size := (Array.getElem?_eq_some_iff.1 h1).1
  rw [hg.block k (by simp; omega), hb0.block k hlt]
  · exact h1
  · intro he
    rcases ho.2 with ⟨rfl, _⟩ | ⟨g, cap, cur, rfl, _, hgc, _⟩
    · cases he
    · have e : k = g := by simpa [Value.ownBlock] using he
      rw [← e, h1] at hgc
      injection hgc with hgc
      injection hgc with _ hgc
      exact ht hgc

theorem Pt.one_cell (w : World) (a : Addr) (t : TypeId) : ∀ j u, [Value.pointer (some a)][j]? = some u → (w.alloc (.cells #[.pointer (some a)] t)).cell? ((⟨w.heap.size, 0, none⟩ : Addr).add j) = some u := by
  intro j u hj
  match j, hj with
  | 0, hj => simp at hj; subst hj; simp [Addr.add]
theorem Pt.one_one (a : Addr) : ∀ u ∈ [Value.pointer (some a)], u.oneCell' = true := by intro u hu; simp at hu; subst hu; rfl

end Go.Proofs
