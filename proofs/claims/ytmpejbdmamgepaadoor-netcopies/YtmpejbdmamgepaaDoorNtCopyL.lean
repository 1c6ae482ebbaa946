/-
  A copy as a process; a copy into which is written: what stays.
-/
import Derived.Test.YtmpejbdmamgepaaDoorNtCopyW
namespace Go.Proofs
open Go.RowKit Go.Shelf

/-- A copy is the process, wherever its blocks stayed. -/
theorem Cp.Made.has {w W W' : World} {d gn gf : Nat} {ns : List Nd} {fs : List Fl} {a1 a2 : Option Addr} {L : List Pl} (h : Cp.Made w d ns fs a1 a2 gn gf L W) (hn : ns.length ≤ 60) (hm : fs.length ≤ 100) (hnz : ∀ x, x ∈ ns → x.t.size ≤ 3000) (hfz : ∀ x, x ∈ fs → x.c.size ≤ 3000)
    (hk : ∀ k, w.heap.size ≤ k → k < W.heap.size → W'.heap[k]? = W.heap[k]?) (hs : W.heap.size ≤ W'.heap.size) : Nt.Has W' W'.heap.size 3000 a1 a2 ns fs := by
  have lies : ∀ (T : Tm) (b o : Nat), (⟨b, o, T⟩ : Pl) ∈ L → T.size ≤ 3000 → ∃ v, W'.cell? ⟨b, o + 2, none⟩ = some v ∧ Tm.Lies W' W'.heap.size 3000 v T := fun T b o hx hz => by
    obtain ⟨v, hv, hl⟩ := Pt.whole h.inv T b o hx
    obtain ⟨⟨cs, ty, hc, _⟩, hB, _⟩ := h.inv.at_ _ hx
    refine ⟨v, ?_, ?_⟩
    · rw [World.cell?_of_block (w := W) (hk b hB (Array.getElem?_eq_some_iff.1 hc).1)]; exact hv
    · have h1 := Pt.Lies.keep (W' := W') (fun k hkk => hk k hkk.1 hkk.2) hl
      have h2 := Pt.Lies.deeper (Nat.le_trans (Tm.depth_le_size T) hz) h1
      exact Pt.Lies.lies (fun k hkk => Nat.lt_of_lt_of_le hkk.2 hs) h2
  refine ⟨fun j hj => ?_, fun j hj => ?_, by omega, hm, fun x hx => by have := hnz x hx; omega, fun x hx => by have := hfz x hx; omega⟩
  · obtain ⟨h1, h2, h3, h4, cs, h5⟩ := h.nat j hj
    obtain ⟨v, hv, hl⟩ := lies _ _ _ h2 (hnz _ (List.getElem_mem hj))
    have hlt := (Array.getElem?_eq_some_iff.1 h5).1
    have hB : w.heap.size ≤ gn := (h.inv.at_ _ h2).2.1
    have hc : ∀ o, W'.cell? ⟨gn, o, none⟩ = W.cell? ⟨gn, o, none⟩ := fun o => World.cell?_of_block (w := W) (hk gn hB hlt)
    obtain ⟨_, _, k0, k1, _⟩ := h.inv.at_ _ h2
    refine ⟨gn, 0, v, h1, by omega, ?_, ?_, ?_, ?_, ?_, hl⟩
    · rw [Nat.zero_add, hc]; exact h3
    · rw [Nat.zero_add, hc]; exact h4
    · rw [Nat.zero_add, hc]; exact k0
    · rw [Nat.zero_add, hc]; exact k1
    · rw [Nat.zero_add]; exact hv
  · obtain ⟨h1, h2, h3, h4, h4', cs, h5⟩ := h.fat j hj
    obtain ⟨v, hv, hl⟩ := lies _ _ _ h2 (hfz _ (List.getElem_mem hj))
    have hlt := (Array.getElem?_eq_some_iff.1 h5).1
    have hB : w.heap.size ≤ gf := (h.inv.at_ _ h2).2.1
    have hc : ∀ o, W'.cell? ⟨gf, o, none⟩ = W.cell? ⟨gf, o, none⟩ := fun o => World.cell?_of_block (w := W) (hk gf hB hlt)
    obtain ⟨_, _, k0, k1, _⟩ := h.inv.at_ _ h2
    refine ⟨gf, 0, v, h1, by omega, ?_, ?_, ?_, ?_, ?_, ?_, hl⟩
    · rw [Nat.zero_add, hc]; exact h3
    · rw [Nat.zero_add, hc]; exact h4
    · rw [Nat.zero_add, hc]; exact h4'
    · rw [Nat.zero_add, hc]; exact k0
    · rw [Nat.zero_add, hc]; exact k1
    · rw [Nat.zero_add]; exact hv

/-- What stays of the world R where a copy is written into: the cells of kids, and all other blocks. -/
structure Cp.Live (R : World) (L : List Pl) (W : World) : Prop where
  at_ : ∀ x ∈ L, ∃ cs0 cs ty, R.heap[x.b]? = some (.cells cs0 ty (0, 0)) ∧ W.heap[x.b]? = some (.cells cs ty (0, 0)) ∧ cs.size = cs0.size ∧ ∀ y ∈ L, y.b = x.b → cs[y.o + 2]? = cs0[y.o + 2]?
  others : ∀ k, (∀ x ∈ L, x.b ≠ k) → W.heap[k]? = R.heap[k]?
  size : W.heap.size = R.heap.size
  os : W.os = R.os
  tape : W.tape = R.tape
  output : W.output = R.output
theorem Cp.Live.refl {B d : Nat} {w R : World} {L : List Pl} (h : Pt.Inv B d w L [] R) : Cp.Live R L R :=
  ⟨fun x hx => by obtain ⟨⟨cs, ty, hc, _⟩, _⟩ := h.at_ x hx; exact ⟨cs, cs, ty, hc, hc, rfl, fun _ _ _ => rfl⟩, fun _ _ => rfl, rfl, rfl, rfl, rfl⟩
theorem Cp.Live.put {R W : World} {L : List Pl} (h : Cp.Live R L W) {x : Pl} (hx : x ∈ L) {o : Nat} (ho : ∀ y ∈ L, y.b = x.b → y.o + 2 ≠ o) (v : Value) : Cp.Live R L (W.setCell ⟨x.b, o, none⟩ v) := by
  refine ⟨fun y hy => ?_, fun k hk => ?_, by simpa using h.size, h.os, h.tape, h.output⟩
  · obtain ⟨cs0, cs, ty, h1, h2, h3, h4⟩ := h.at_ y hy
    by_cases hyx : y.b = x.b
    · refine ⟨cs0, cs.setIfInBounds o v, ty, h1, ?_, by simpa using h3, fun z hz hzb => ?_⟩
      · rw [hyx] at h2 ⊢
        simp [World.setCell, Array.getElem?_modify, h2]
      · rw [Array.getElem?_setIfInBounds_ne (Ne.symm (ho z hz (hzb.trans hyx)))]
        exact h4 z hz hzb
    · exact ⟨cs0, cs, ty, h1, by rw [Below.heap_setCell _ _ _ _ hyx]; exact h2, h3, h4⟩
  · rw [Below.heap_setCell _ _ _ _ (Ne.symm (hk x hx))]
    exact h.others k hk
theorem Cp.Live.kidsCell {R W : World} {L : List Pl} (h : Cp.Live R L W) {x : Pl} (hx : x ∈ L) : W.cell? ⟨x.b, x.o + 2, none⟩ = R.cell? ⟨x.b, x.o + 2, none⟩ := by
  obtain ⟨cs0, cs, ty, h1, h2, _, h4⟩ := h.at_ x hx
  simp only [World.cell?, h1, h2]
  rw [h4 x hx rfl]
theorem Cp.Live.cell {R W : World} {L : List Pl} (h : Cp.Live R L W) {x : Pl} (hx : x ∈ L) {o : Nat} {v : Value} (hv : R.cell? ⟨x.b, o, none⟩ = some v) : (∃ u, W.cell? ⟨x.b, o, none⟩ = some u) ∧ W.frozen? ⟨x.b, o, none⟩ = false := by
  obtain ⟨cs0, cs, ty, h1, h2, h3, _⟩ := h.at_ x hx
  simp only [World.cell?, h1] at hv
  have hlt : o < cs0.size := (Array.getElem?_eq_some_iff.1 hv).1
  refine ⟨⟨cs[o]'(by omega), ?_⟩, by simp [World.frozen?, h2]⟩
  simp only [World.cell?, h2]
  exact Array.getElem?_eq_getElem (by omega)
/-- A place's first cell is no place's kids. -/
theorem Cp.op_free {B d : Nat} {w R : World} {L : List Pl} (h : Pt.Inv B d w L [] R) {x : Pl} (hx : x ∈ L) : ∀ y ∈ L, y.b = x.b → y.o + 2 ≠ x.o := fun y hy e => by
  rcases h.apart y hy x hx e with h1 | h1 | h1 <;> omega
theorem Cp.node_free {B d gn n : Nat} {w R : World} {L : List Pl} (h : Pt.Inv B d w L [] R) (hL : ∀ j, j < n → ∃ T, (⟨gn, j * 5 + 2, T⟩ : Pl) ∈ L) {j : Nat} (hj : j < n) : ∀ y ∈ L, y.b = gn → y.o + 2 ≠ j * 5 := fun y hy e he => by
  obtain ⟨T, hT⟩ := hL (j - 1) (by omega)
  rcases h.apart y hy _ hT e with h1 | h1 | h1 <;> simp only at h1 <;> omega
theorem Cp.flow_free {B d gf n : Nat} {w R : World} {L : List Pl} (h : Pt.Inv B d w L [] R) (hL : ∀ j, j < n → ∃ T, (⟨gf, j * 6 + 3, T⟩ : Pl) ∈ L) {j : Nat} (hj : j < n) : ∀ y ∈ L, y.b = gf → y.o + 2 ≠ j * 6 + 1 := fun y hy e he => by
  obtain ⟨T, hT⟩ := hL (j - 1) (by omega)
  rcases h.apart y hy _ hT e with h1 | h1 | h1 <;> simp only at h1 <;> omega
/-- A place's kids, as they lie in R. -/
theorem Cp.kids_of {B d : Nat} {w R : World} {L : List Pl} (h : Pt.Inv B d w L [] R) {b o : Nat} {T : Tm} (hx : (⟨b, o, T⟩ : Pl) ∈ L) : ∃ a c, R.cell? ⟨b, o + 2, none⟩ = some (.slice a T.ks.length c) ∧ ∀ k, k < T.ks.length → ∃ g T', a = some ⟨g, 0, none⟩ ∧ (⟨g, k * 3, T'⟩ : Pl) ∈ L := by
  obtain ⟨_, _, _, _, v, hv, hd⟩ := h.at_ _ hx
  rcases hd with ⟨hm, _⟩ | ⟨_, a, c, rfl, hk⟩
  · cases hm
  · refine ⟨a, c, hv, fun k hkl => ?_⟩
    rcases hk with hk | ⟨g, ha, hg, hj⟩
    · rw [hk] at hkl; simp at hkl
    · exact ⟨g, T.ks[k], ha, hj k hkl⟩

end Go.Proofs
