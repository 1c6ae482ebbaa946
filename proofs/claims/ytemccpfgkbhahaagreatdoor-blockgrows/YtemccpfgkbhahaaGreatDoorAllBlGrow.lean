/-
  What BlockGrows says of blocks, as plain mathematics: which nodes stand in a row of two blocks. · block.Leaves: how many there are. · The document's Times of blocks: how often a node stands in one. · What BlockGrows says of the document's Times, and a row of two blocks in memory.
-/
import Derived.Test.YtemccpfgkbhahaaGreatDoorAllBlStand
import Derived.Test.YtemccpfgkbhahaaGreatDoorBlModel
import Derived.Test.YtemccpfgkbhahaaGreatDoorNtRef1
import Derived.Lib.Hide
import Derived.Deep.DeepCutAuto
import Derived.Test.YtemccpfgkbhahaaGreatDoorBlArg
namespace Go.Proofs
open Go.RowKit

namespace Bl
mutual
/-- All nodes that stand in a block, in their order. -/
def allN (fs : List Fl) : Bl → List Nat | .mk k n _ ks _ => nodesL fs k n ++ allNs fs ks
def allNs (fs : List Fl) : List Bl → List Nat | [] => [] | k :: r => allN fs k ++ allNs fs r
end
theorem allN_eq (fs : List Fl) (T : Bl) : T.allN fs = nodesL fs T.kind T.node ++ allNs fs T.ks := by cases T; rfl

theorem enter_app : ∀ (l m : List Nat) (bs : List Bool), enterAll (l ++ m) bs = if (enterAll l bs).1 = true then enterAll l bs else enterAll m (enterAll l bs).2
  | [], m, bs => by simp [enterAll]
  | x :: r, m, bs => by
    rw [List.cons_append, enterAll, enterAll]
    split
    · rfl
    · exact enter_app r m _
mutual
theorem go_enter2 (fs : List Fl) : ∀ (T : Bl) (bs : List Bool), T.go (step2 fs) bs = (!(enterAll (T.allN fs) bs).1, (enterAll (T.allN fs) bs).2)
  | .mk k n a ks ls, bs => by
    rw [Bl.go, allN, enter_app]
    have hs : step2 fs (.mk k n a ks ls) bs = (!(enterAll (nodesL fs k n) bs).1, (enterAll (nodesL fs k n) bs).2) := rfl
    rw [hs]
    cases h : (enterAll (nodesL fs k n) bs).1 with
    | true => simp [h]
    | false => simpa [h] using goes_enter2 fs ks (enterAll (nodesL fs k n) bs).2
theorem goes_enter2 (fs : List Fl) : ∀ (l : List Bl) (bs : List Bool), goes (step2 fs) l bs = (!(enterAll (allNs fs l) bs).1, (enterAll (allNs fs l) bs).2)
  | [], bs => by simp [goes, allNs, enterAll]
  | k :: r, bs => by
    rw [goes, allNs, enter_app, go_enter2 fs k bs]
    cases h : (enterAll (k.allN fs) bs).1 with
    | true => simp [h]
    | false => simpa [h] using goes_enter2 fs r (enterAll (k.allN fs) bs).2
end

theorem enter_ok : ∀ (l : List Nat) (bs : List Bool), (∀ x ∈ l, x < bs.length) → ((enterAll l bs).1 = false ↔ l.Nodup ∧ ∀ x ∈ l, bs[x]? ≠ some true)
  | [], bs, _ => by simp [enterAll]
  | x :: r, bs, h => by
    rw [enterAll]
    have hx := h x (by simp)
    split
    · rename_i ht
      simp only [Bool.true_eq_false, false_iff]
      intro hh
      exact hh.2 x (by simp) ht
    · rename_i ht
      rw [enter_ok r (bs.set x true) (fun y hy => by rw [List.length_set]; exact h y (by simp [hy]))]
      constructor
      · rintro ⟨h1, h2⟩
        have hn : x ∉ r := fun hm => h2 x hm (by rw [List.getElem?_set_self hx])
        refine ⟨List.nodup_cons.2 ⟨hn, h1⟩, fun y hy => ?_⟩
        rw [List.mem_cons] at hy
        rcases hy with rfl | hy
        · exact ht
        · have hne : x ≠ y := fun e => hn (e ▸ hy)
          have := h2 y hy
          rw [List.getElem?_set_ne hne] at this
          exact this
      · rintro ⟨h1, h2⟩
        obtain ⟨hn, h3⟩ := List.nodup_cons.1 h1
        refine ⟨h3, fun y hy => ?_⟩
        have hne : x ≠ y := fun e => hn (e ▸ hy)
        rw [List.getElem?_set_ne hne]
        exact h2 y (by simp [hy])
theorem enter_marks : ∀ (l : List Nat) (bs : List Bool), (∀ x ∈ l, x < bs.length) → (enterAll l bs).1 = false → ∀ j, (enterAll l bs).2[j]? = some true ↔ bs[j]? = some true ∨ j ∈ l
  | [], bs, _, _, j => by simp [enterAll]
  | x :: r, bs, h, ho, j => by
    rw [enterAll] at ho ⊢
    have hx := h x (by simp)
    split at ho
    · simp at ho
    · rename_i ht
      rw [if_neg ht, enter_marks r (bs.set x true) (fun y hy => by rw [List.length_set]; exact h y (by simp [hy])) ho j]
      by_cases hj : j = x
      · subst hj
        rw [List.getElem?_set_self hx]
        simp
      · rw [List.getElem?_set_ne (Ne.symm hj)]
        simp [hj]
theorem none_marked (j : Nat) : noMarks[j]? ≠ some true := by
  unfold noMarks
  rw [List.getElem?_replicate]
  split <;> simp

/-- What is right of a block in a process. -/
structure Right (ns : List Nd) (fs : List Fl) (T : Bl) : Prop where
  net : (Nt.checkN ns fs).1 = 0
  small : T.depth ≤ 24 ∧ T.size ≤ 96
  form : T.All fun x => x.formedB ns fs = true
theorem all_nodes {ns : List Nd} {fs : List Fl} (hR : (Nt.checkN ns fs).1 = 0) : ∀ T : Bl, (T.All fun x => x.formedB ns fs = true) → ∀ x ∈ T.allN fs, x < ns.length := fun T =>
  Bl.rec (motive_1 := fun T => (T.All fun x => x.formedB ns fs = true) → ∀ x ∈ T.allN fs, x < ns.length) (motive_2 := fun l => Alls (fun x => x.formedB ns fs = true) l → ∀ x ∈ allNs fs l, x < ns.length)
    (fun k n a ks ls ih h x hx => by
      obtain ⟨h24, hto⟩ := Bl.right_keeps hR
      rw [allN, List.mem_append] at hx
      rcases hx with hx | hx
      · have hf : (Bl.mk k n a ks ls).formedB ns fs = true := h.1
        have hp := formed_parts hf
        simp only [Bl.kind, Bl.node] at hp
        unfold nodesL at hx
        split at hx
        · rw [List.mem_singleton] at hx; omega
        · split at hx
          · rw [List.mem_cons] at hx
            rcases hx with hx | hx
            · omega
            · obtain ⟨f, hf, rfl⟩ := List.mem_map.1 hx
              have hl := outs_lt hf
              rw [List.getElem?_eq_getElem hl]
              have := hto _ (List.getElem_mem hl)
              simp
              omega
          · cases hx
      · exact ih h.2 x hx)
    (fun _ x hx => by cases hx)
    (fun k r i1 i2 h x hx => by
      rw [allNs, List.mem_append] at hx
      rcases hx with hx | hx
      · exact i1 h.1 x hx
      · exact i2 h.2 x hx) T
theorem stand_cases (ns : List Nd) (fs : List Fl) (T : Bl) : (T.Right ns fs ∧ ((enterAll (T.allN fs) noMarks).1 = false ∧ T.standR ns fs = ((enterAll (T.allN fs) noMarks).2, 0) ∨ (enterAll (T.allN fs) noMarks).1 = true ∧ (T.standR ns fs).2 = 8)) ∨ (¬ T.Right ns fs ∧ (T.standR ns fs).2 ≠ 0 ∧ (T.standR ns fs).2 ≠ 8) := by
  unfold standR
  by_cases h1 : (Nt.checkN ns fs).1 = 0
  · rw [if_neg (by simpa using h1)]
    by_cases h2 : T.tooB = true
    · rw [if_pos h2]
      refine .inr ⟨fun h => ?_, by simp, by simp⟩
      have := h.small
      simp [tooB] at h2
      omega
    · rw [if_neg h2]
      have hs : T.depth ≤ 24 ∧ T.size ≤ 96 := by simpa [tooB] using h2
      have e1 : T.go (step1 ns fs) () = T.go (fun T s => (T.formedB ns fs, s)) () := rfl
      rcases go_all (fun x => x.formedB ns fs) () T with h | h
      · rw [if_neg (by rw [e1, h.1]; simp), go_enter2]
        refine .inl ⟨⟨h1, hs, h.2⟩, ?_⟩
        cases he : (enterAll (T.allN fs) noMarks).1 with
        | false => exact .inl ⟨rfl, by simp⟩
        | true => exact .inr ⟨rfl, by simp⟩
      · rw [if_pos (by rw [e1, h])]
        refine .inr ⟨fun hr => ?_, by simp, by simp⟩
        have hf := hr.form
        rcases go_all (fun x => x.formedB ns fs) () T with h' | h'
        · rw [h] at h'; simp at h'
        · have key : ∀ T : Bl, (T.All fun x => x.formedB ns fs = true) → T.go (fun T s => (T.formedB ns fs, s)) () = (true, ()) := fun T =>
            Bl.rec (motive_1 := fun T => (T.All fun x => x.formedB ns fs = true) → T.go (fun T s => (T.formedB ns fs, s)) () = (true, ())) (motive_2 := fun l => Alls (fun x => x.formedB ns fs = true) l → goes (fun T s => (T.formedB ns fs, s)) l () = (true, ()))
              (fun k n a ks ls ih hh => by
                rw [Bl.go]
                have h0 : (Bl.mk k n a ks ls).formedB ns fs = true := hh.1
                simp only [h0, if_true]
                exact ih hh.2)
              (fun _ => rfl)
              (fun k r i1 i2 hh => by
                rw [goes, i1 hh.1]
                simp only [if_true]
                exact i2 hh.2) T
          rw [key T hf] at h
          simp at h
  · rw [if_pos (by simpa using h1)]
    exact .inr ⟨fun h => h1 h.net, by simp, by simp⟩
theorem stand_zero {ns : List Nd} {fs : List Fl} {T : Bl} : (T.standR ns fs).2 = 0 ↔ T.Right ns fs ∧ (T.allN fs).Nodup := by
  have hl : T.Right ns fs → ∀ x ∈ T.allN fs, x < noMarks.length := fun h x hx => by
    have h1 := all_nodes h.net T h.form x hx
    have h2 := (Bl.right_keeps h.net).1
    show x < 24
    omega
  rcases stand_cases ns fs T with ⟨h, ⟨h1, h2⟩ | ⟨h1, h2⟩⟩ | ⟨h, h1, h2⟩
  · have := (enter_ok (T.allN fs) noMarks (hl h)).1 h1
    rw [h2]
    exact ⟨fun _ => ⟨h, this.1⟩, fun _ => rfl⟩
  · rw [h2]
    refine ⟨fun e => by simp at e, fun e => ?_⟩
    have := (enter_ok (T.allN fs) noMarks (hl h)).2 ⟨e.2, fun x _ => none_marked x⟩
    rw [this] at h1
    cases h1
  · exact ⟨fun e => (h1 e).elim, fun e => (h e.1).elim⟩
theorem stand_eight {ns : List Nd} {fs : List Fl} {T : Bl} (hR : T.Right ns fs) (h : ¬ (T.allN fs).Nodup) : (T.standR ns fs).2 = 8 := by
  rcases stand_cases ns fs T with ⟨_, ⟨h1, h2⟩ | ⟨h1, h2⟩⟩ | ⟨h', h1, h2⟩
  · exact (h (stand_zero.1 (by rw [h2])).2).elim
  · exact h2
  · exact (h' hR).elim
theorem stand_marks {ns : List Nd} {fs : List Fl} {T : Bl} (h : (T.standR ns fs).2 = 0) (j : Nat) : (T.standR ns fs).1[j]? = some true ↔ j ∈ T.allN fs := by
  have hz := stand_zero.1 h
  have hl : ∀ x ∈ T.allN fs, x < noMarks.length := fun x hx => by
    have h1 := all_nodes hz.1.net T hz.1.form x hx
    have h2 := (Bl.right_keeps hz.1.net).1
    show x < 24
    omega
  rcases stand_cases ns fs T with ⟨_, ⟨h1, h2⟩ | ⟨h1, h2⟩⟩ | ⟨h', h1, h2⟩
  · rw [h2]
    have := enter_marks (T.allN fs) noMarks hl h1 j
    rw [this]
    simp [none_marked j]
  · rw [h2] at h; cases h
  · exact (h' hz.1).elim

/-- Two blocks in a row. -/
def row (a b : Bl) : Bl := .mk 3 0 0 [a, b] []
theorem row_all (fs : List Fl) (a b : Bl) : (row a b).allN fs = a.allN fs ++ b.allN fs := by
  rw [row, allN, allNs, allNs, allNs, List.append_nil, nodesL, if_neg (by omega), if_neg (by omega), List.nil_append]
theorem row_form {ns : List Nd} {fs : List Fl} {a b : Bl} : ((row a b).All fun x => x.formedB ns fs = true) ↔ (badKid 3 a.kind = false ∧ badKid 3 b.kind = false) ∧ (a.All fun x => x.formedB ns fs = true) ∧ (b.All fun x => x.formedB ns fs = true) := by
  have hf : (row a b).formedB ns fs = true ↔ badKid 3 a.kind = false ∧ badKid 3 b.kind = false := by
    unfold formedB
    simp only [row, Bl.kind, Bl.node, Bl.arg, Bl.ks, Bl.ls, holdsB, List.any_cons, List.any_nil, Bool.or_false]
    cases h1 : badKid 3 a.kind <;> cases h2 : badKid 3 b.kind <;> simp
  constructor
  · rintro ⟨h1, h2, h3, -⟩
    exact ⟨hf.1 h1, h2, h3⟩
  · rintro ⟨h1, h2, h3⟩
    exact ⟨hf.2 h1, h2, h3, trivial⟩
theorem row_size (a b : Bl) : (row a b).size = a.size + b.size + 1 := by simp [row, size, sizes]
theorem row_depth (a b : Bl) : (row a b).depth = max a.depth b.depth + 1 := by simp [row, depth, depths]
theorem bad3 {ns : List Nd} {fs : List Fl} {T : Bl} (h : T.formedB ns fs = true) : badKid 3 T.kind = false ↔ T.kind ≠ 3 ∧ T.kind < 8 := by
  have hp := formed_parts h
  unfold badKid
  constructor
  · intro hh
    split at hh
    · cases hh
    split at hh
    · simp at hh
    split at hh
    · simp at hh
    · omega
  · rintro ⟨h1, h2⟩
    rw [if_neg (by omega), if_neg (by omega), if_neg h1]
theorem form_of {ns : List Nd} {fs : List Fl} {T : Bl} (h : T.All fun x => x.formedB ns fs = true) : T.formedB ns fs = true := by rw [all_eq] at h; exact h.1
/-- A row that is right is made of right blocks, of kinds that may stand there. -/
theorem row_zero {ns : List Nd} {fs : List Fl} {a b : Bl} (h : ((row a b).standR ns fs).2 = 0) : (a.standR ns fs).2 = 0 ∧ (b.standR ns fs).2 = 0 ∧ a.kind < 8 ∧ b.kind < 8 ∧ (row a b).size ≤ 96 ∧ (row a b).depth ≤ 24 := by
  obtain ⟨hR, hN⟩ := stand_zero.1 h
  obtain ⟨⟨b1, b2⟩, f1, f2⟩ := row_form.1 hR.form
  rw [row_all, List.nodup_append] at hN
  have hs := hR.small
  have h1 := row_size a b
  have h2 := row_depth a b
  have c1 := (bad3 (form_of f1)).1 b1
  have c2 := (bad3 (form_of f2)).1 b2
  exact ⟨stand_zero.2 ⟨⟨hR.net, by omega, f1⟩, hN.1⟩, stand_zero.2 ⟨⟨hR.net, by omega, f2⟩, hN.2.1⟩, c1.2, c2.2, hs.2, hs.1⟩
/-- How many of the process's leaves are marked. -/
def leavesN (ns : List Nd) (all : Bool) (bs : List Bool) : Nat := ((List.range ns.length).filter fun i : Nat => ((bs[i]?).getD false || all) && Nt.ofKinds ns (i : Int) [3, 4, 8]).length
theorem count_or {α : Type} (p q r : α → Bool) : ∀ l : List α, (∀ x ∈ l, ¬ (p x = true ∧ q x = true)) → (∀ x ∈ l, r x = (p x || q x)) → (l.filter r).length = (l.filter p).length + (l.filter q).length
  | [], _, _ => rfl
  | x :: l, h, hr => by
    have ih := count_or p q r l (fun y hy => h y (by simp [hy])) (fun y hy => hr y (by simp [hy]))
    have h1 := h x (by simp)
    have h2 := hr x (by simp)
    rw [List.filter_cons, List.filter_cons, List.filter_cons, h2]
    cases hp : p x <;> cases hq : q x
    · simpa using ih
    · simp; omega
    · simp; omega
    · exact (h1 ⟨hp, hq⟩).elim
/-- A row of right blocks, of kinds that may stand there: right just if no node stands in both; then it has the leaves of both. -/
theorem row_grows {ns : List Nd} {fs : List Fl} {a b : Bl} (ha : (a.standR ns fs).2 = 0) (hb : (b.standR ns fs).2 = 0) (k1 : a.kind ≠ 3 ∧ a.kind < 8) (k2 : b.kind ≠ 3 ∧ b.kind < 8) (hs : (row a b).size ≤ 96 ∧ (row a b).depth ≤ 24) :
    ((∃ i, i < ns.length ∧ i ∈ a.allN fs ∧ i ∈ b.allN fs) ∧ ((row a b).standR ns fs).2 = 8) ∨ ((¬ ∃ i, i < ns.length ∧ i ∈ a.allN fs ∧ i ∈ b.allN fs) ∧ ((row a b).standR ns fs).2 = 0 ∧ leavesN ns false ((row a b).standR ns fs).1 = leavesN ns false (a.standR ns fs).1 + leavesN ns false (b.standR ns fs).1) := by
  obtain ⟨ra, na⟩ := stand_zero.1 ha
  obtain ⟨rb, nb⟩ := stand_zero.1 hb
  have rr : (row a b).Right ns fs := ⟨ra.net, ⟨hs.2, hs.1⟩, row_form.2 ⟨⟨(bad3 (form_of ra.form)).2 k1, (bad3 (form_of rb.form)).2 k2⟩, ra.form, rb.form⟩⟩
  by_cases hsh : ∃ i, i < ns.length ∧ i ∈ a.allN fs ∧ i ∈ b.allN fs
  · refine .inl ⟨hsh, stand_eight rr ?_⟩
    obtain ⟨i, _, h1, h2⟩ := hsh
    rw [row_all, List.nodup_append]
    intro h
    exact h.2.2 i h1 i h2 rfl
  · have hz : ((row a b).standR ns fs).2 = 0 := stand_zero.2 ⟨rr, by
      rw [row_all, List.nodup_append]
      refine ⟨na, nb, fun x hx y hy e => hsh ⟨x, all_nodes ra.net a ra.form x hx, hx, ?_⟩⟩
      rw [e]; exact hy⟩
    refine .inr ⟨hsh, hz, ?_⟩
    have mem : ∀ {T : Bl}, (T.standR ns fs).2 = 0 → ∀ j, (((T.standR ns fs).1[j]?).getD false = true ↔ j ∈ T.allN fs) := fun {T} h j => by
      rw [← stand_marks h j]
      cases hh : (T.standR ns fs).1[j]? with
      | none => simp
      | some v => simp
    unfold leavesN
    refine count_or _ _ _ _ ?_ ?_
    · rintro x hx ⟨h1, h2⟩
      simp only [Bool.or_false, Bool.and_eq_true] at h1 h2
      exact hsh ⟨x, List.mem_range.1 hx, (mem ha x).1 h1.1, (mem hb x).1 h2.1⟩
    · intro x _
      have : (((row a b).standR ns fs).1[x]?).getD false = ((((a.standR ns fs).1[x]?).getD false) || (((b.standR ns fs).1[x]?).getD false)) := by
        rw [Bool.eq_iff_iff, Bool.or_eq_true, mem hz x, mem ha x, mem hb x, row_all, List.mem_append]
      rw [this]
      simp only [Bool.or_false]
      rw [Bool.and_or_distrib_right]
end Bl

end Go.Proofs

namespace Go.Proofs
open Go.RowKit Go.Shelf

/-- Leaves' answer: how many, and the error. -/
noncomputable def Bl.leavesR (ns : List Nd) (fs : List Fl) (T : Bl) : Nat × Int := (if (T.standR ns fs).2 = 0 then Bl.leavesN ns (decide (T.kind = 10)) (T.standR ns fs).1 else 0, (T.standR ns fs).2)

set_option maxRecDepth 20000 in
set_option maxHeartbeats 16000000 in
theorem Tryz.bleaves_any (d dn : Nat) (T : Bl) (v u : Value) (an : Option Addr) (cn : Nat) (af : Option Addr) (cf : Nat) (ns : List Nd) (fs : List Fl) (w : World) (hT : Bl.Lies w w.heap.size d v u T) (hN : Nt.Has w w.heap.size dn an af ns fs) (hO : Tk.Ops w) (hsz : T.size ≤ 2147483647) (hdp : T.depth ≤ 1000) (hlk : T.allP (fun _ _ _ ls => decide (ls.length ≤ 2147483647)) = true) :
    Calls Tryz.prog 11 #[.agg #[.slice an ns.length cn, .slice af fs.length cf], .agg #[.int .i64 T.kind, .int .i64 T.node, .int .i64 T.arg, v, u]] w fun e w' => (∃ a c, e = .returned (.tuple #[.slice a (T.leavesR ns fs).1 c, .int .i64 (T.leavesR ns fs).2])) ∧ Below w.heap.size w w' := by
  obtain ⟨a, c, rfl⟩ := hT.shape
  obtain ⟨al, cl, rfl⟩ := hT.links.shape
  obtain ⟨o, ho⟩ : ∃ o, T.kind = o := ⟨_, rfl⟩
  obtain ⟨nd, hnd⟩ : ∃ m, T.node = m := ⟨_, rfl⟩
  obtain ⟨r, hr⟩ : ∃ m, T.arg = m := ⟨_, rfl⟩
  obtain ⟨nk, hnk⟩ : ∃ n, T.ks.length = n := ⟨_, rfl⟩
  obtain ⟨nl, hnl⟩ : ∃ n, T.ls.length = n := ⟨_, rfl⟩
  obtain ⟨n, hn⟩ : ∃ n, ns.length = n := ⟨_, rfl⟩
  obtain ⟨m, hm⟩ : ∃ n, fs.length = n := ⟨_, rfl⟩
  obtain ⟨W0, hW0⟩ : ∃ z, (w.alloc (.cells #[.slice an n cn, .slice af m cf] 25)).alloc (.cells #[.int .i64 o, .int .i64 nd, .int .i64 r, .slice a nk c, .slice al nl cl] 29) = z := ⟨_, rfl⟩
  have A0 : Below w.heap.size w W0 := by rw [← hW0]; exact ((Below.refl _ w).alloc (Nat.le_refl _) _).alloc (by simp) _
  have S0 : W0.heap.size = w.heap.size + 2 := by rw [← hW0]; simp
  have G1 : W0.heap[w.heap.size]? = some (.cells #[.slice an n cn, .slice af m cf] 25 (0, 0)) := by rw [← hW0, Below.heap_alloc _ _ _ (by simp)]; exact heap_alloc_new w _
  have G2 : W0.heap[w.heap.size + 1]? = some (.cells #[.int .i64 o, .int .i64 nd, .int .i64 r, .slice a nk c, .slice al nl cl] 29 (0, 0)) := by
    rw [← hW0]
    have := heap_alloc_new (w.alloc (.cells #[.slice an n cn, .slice af m cf] 25)) (.cells #[.int .i64 o, .int .i64 nd, .int .i64 r, .slice a nk c, .slice al nl cl] 29)
    simpa using this
  have CF : Hid (∀ W, Below W0.heap.size W0 W → (W.cell? ⟨w.heap.size, 0, none⟩ = some (.slice an n cn) ∧ W.cell? ⟨w.heap.size, 1, none⟩ = some (.slice af m cf)) ∧ (W.cell? ⟨w.heap.size + 1, 0, none⟩ = some (.int .i64 o) ∧ W.cell? ⟨w.heap.size + 1, 1, none⟩ = some (.int .i64 nd) ∧ W.cell? ⟨w.heap.size + 1, 2, none⟩ = some (.int .i64 r) ∧ W.cell? ⟨w.heap.size + 1, 3, none⟩ = some (.slice a nk c) ∧ W.cell? ⟨w.heap.size + 1, 4, none⟩ = some (.slice al nl cl)) ∧ Below w.heap.size w W) := fun W hb => by
    have e1 := (hb.block w.heap.size (by omega)).trans G1
    have e2 := (hb.block (w.heap.size + 1) (by omega)).trans G2
    exact ⟨⟨by simp [World.cell?, e1], by simp [World.cell?, e1]⟩, ⟨by simp [World.cell?, e2], by simp [World.cell?, e2], by simp [World.cell?, e2], by simp [World.cell?, e2], by simp [World.cell?, e2]⟩, A0.trans (hb.mono (by omega))⟩
  have h := Tryz.stand_any d dn T _ _ an cn af cf ns fs W0 ((hT.below A0).wider A0.size) ((hN.below A0).wider A0.size) (hO.below A0 hO.lt) hsz hdp hlk
  have hl := T.stand_len ns fs
  have h24 : (T.standR ns fs).2 = 0 → ns.length ≤ 24 := fun e => (Bl.right_keeps (Bl.stand_zero.1 e).1.net).1
  obtain ⟨R, hR⟩ : ∃ z, T.standR ns fs = z := ⟨_, rfl⟩
  rw [Bl.leavesR]
  rw [hR] at h hl h24 ⊢
  obtain ⟨bs, er⟩ := R
  rw [ho, hnd, hr, hnk, hnl, hn, hm] at h
  rw [ho, hnd, hr, hnk, hnl, hn, hm]
  obtain ⟨S, hS⟩ : ∃ z, Bk.arrB bs = z := ⟨_, rfl⟩
  have hi : (Tryz.prog.info? 61).map (·.size) = some S.size := by rw [← hS]; exact Bk.arrB_info hl
  have hj2 : S.all (·.oneCell') = true := by rw [← hS]; exact Bk.arrB_all _
  have hj1 : (#[.bool false, .bool false, .bool false, .bool false, .bool false, .bool false, .bool false, .bool false, .bool false, .bool false, .bool false, .bool false, .bool false, .bool false, .bool false, .bool false, .bool false, .bool false, .bool false, .bool false, .bool false, .bool false, .bool false, .bool false] : Array Value).size = S.size := by rw [← hS, Bk.arrB_size]; exact hl.symm
  have HC : Hid (Calls Tryz.prog 17 #[.agg #[.slice an n cn, .slice af m cf], .agg #[.int .i64 o, .int .i64 nd, .int .i64 r, .slice a nk c, .slice al nl cl]] W0 fun e w' => e = .returned (.tuple #[.agg S, .int .i64 er]) ∧ Hid (Below W0.heap.size W0 w')) := by
    rw [hS] at h
    exact h.mono fun _ _ q => ⟨q.1, q.2⟩
  have CO : Hid (∀ (j : Nat) (W : World), Below W0.heap.size W0 W → Calls Tryz.prog 25 #[.agg #[.slice an n cn, .slice af m cf], .int .i64 (j : Int), .slice (some ⟨W.heap.size, 0, none⟩) 3 3] (W.alloc (.cells #[.int .i64 3, .int .i64 4, .int .i64 8] 3)) fun e w' => e = .returned (.bool (Nt.ofKinds ns (j : Int) [3, 4, 8])) ∧ Hid (Below W.heap.size W w')) := fun j W hb => by
    have A1 : Below W.heap.size W (W.alloc (.cells #[.int .i64 3, .int .i64 4, .int .i64 8] 3)) := (Below.refl _ _).alloc (Nat.le_refl _) _
    have hb1 := hb.trans (A1.mono hb.size)
    have h2 := A0.trans (hb1.mono A0.size)
    have h := Tryz.bisOf_any (j : Int) [3, 4, 8] (some ⟨W.heap.size, 0, none⟩) 3 an cn af m cf _ dn ns (W.alloc (.cells #[.int .i64 3, .int .i64 4, .int .i64 8] 3)) ((hN.below h2).wider h2.size).nds (Bk.nums_three (heap_alloc_new W _)) (Nat.le_refl _) (by simp)
    rw [hn] at h
    exact h.mono fun _ _ q => ⟨q.1, A1.trans (q.2.mono A1.size)⟩
  have HW0 : Hid _ := hW0
  have BR : Hid (Below W0.heap.size W0 W0) := Below.refl _ _
  have HL : Hid (bs.length = 24 ∧ ns.length = n ∧ Bk.arrB bs = S ∧ (er = 0 → n ≤ 24)) := ⟨hl, hn, hS, fun e => by rw [← hn]; exact h24 e⟩
  obtain ⟨i0, hi0, hz0, hz1, hz2⟩ := info_parts Tryz.infoIntR
  clear hT hN hO hsz hdp hlk ho hnd hr hnk hnl hn hm hW0 A0 S0 G1 G2 h hl hR hS h24
  obtain ⟨⟨x0, x1⟩, ⟨y0, y1, y2, y3, y4⟩, -⟩ := CF.out W0 BR.out
  by_cases he : er = 0
  · subst he
    go_enter Tryz.func11, Tryz.ntmps11
    go_upto_region 1 with fail
    rw [HW0.out]
    go_wp2_with fail
    refine Calls.mono HC.out ?_
    rintro e W ⟨rfl, HB⟩
    have N3 := heap_alloc_new W (.cells #[.bool false, .bool false, .bool false, .bool false, .bool false, .bool false, .bool false, .bool false, .bool false, .bool false, .bool false, .bool false, .bool false, .bool false, .bool false, .bool false, .bool false, .bool false, .bool false, .bool false, .bool false, .bool false, .bool false, .bool false] 61)
    obtain ⟨W1, hW1⟩ : ∃ z, (W.alloc (.cells #[.bool false, .bool false, .bool false, .bool false, .bool false, .bool false, .bool false, .bool false, .bool false, .bool false, .bool false, .bool false, .bool false, .bool false, .bool false, .bool false, .bool false, .bool false, .bool false, .bool false, .bool false, .bool false, .bool false, .bool false] 61)).setRow W.heap.size S = z := ⟨_, rfl⟩
    have HW1 : Hid _ := hW1
    have M1 : Hid (Nt.Bt W1 W.heap.size bs) := by
      show Nt.Bt _ _ _
      rw [← hW1, Nt.Bt]
      have := HL.out.2.2.1
      rw [Bk.arrB] at this
      rw [this]
      exact setRow_heap _ _ _ _ _ _ N3
    have B1 : Hid (Below W0.heap.size W0 W1) := by show Below _ _ _; rw [← hW1]; exact Bk.below_row (HB.out.alloc HB.out.size _) HB.out.size _
    clear hW1 HC x0 x1 y0 y1 y2 y3 y4
    go_upto_region 2 with (first | refine wpList_store_row rfl 61 _ _ rfl W.heap.size S rfl rfl 61 _ N3 hi hj1 hj2 ?_ | fail)
    rw [HW1.out]
    clear HW1 N3
    obtain ⟨⟨x0, x1⟩, ⟨y0, y1, y2, y3, y4⟩, -⟩ := CF.out W1 B1.out
    have hn24 : n ≤ 24 := HL.out.2.2.2 (by first | rfl | trivial)
    go_wp2
    go_loopg [8, 9, 22] n (fun gk s8 _ s22 wr => ∃ (j q : Nat), gk + j = n ∧ s22 = .int .i64 j ∧ q ≤ j ∧ Hid (Tk.But (fun _ => False) W1 wr ∧ q = ((List.range j).filter fun i : Nat => ((bs[i]?).getD false || decide (o = 10)) && Nt.ofKinds ns (i : Int) [3, 4, 8]).length) ∧ ∃ cs, wr.ownsRow W1.heap.size 3 1 s8 q cs)
    case atStart => exact ⟨0, 0, by omega, rfl, Nat.le_refl _, ⟨Tk.But.refl _ _, by simp⟩, [], World.ownsRow_nil _ _ _ _⟩
    case round =>
      obtain ⟨j, q, hj, rfl, hq, HJ, cs, hown⟩ := hrel
      obtain ⟨av, cv, rfl⟩ := Rk.own_shape hown
      clear x0 x1 y0 y1 y2 y3 y4
      by_cases hjn : j < n
      · have hd : decide ((j : Int) < n) = true := decide_eq_true (by omega)
        obtain ⟨b, hb⟩ : ∃ b, bs[j]? = some b := ⟨_, List.getElem?_eq_getElem (by rw [HL.out.1]; omega)⟩
        have HBW : Hid (Below W1.heap.size W1 wr) := HJ.out.1.below (Nat.le_refl _) fun _ _ h => h
        have BW : Hid (Below W0.heap.size W0 wr) := B1.out.trans (HBW.out.mono B1.out.size)
        have c0 : wr.cell? ⟨W.heap.size, j, none⟩ = some (.bool b) := (M1.out.keep (HBW.out.block _ M1.out.lt)).cell j b hb
        have HF : Hid (((List.range (j + 1)).filter fun i : Nat => ((bs[i]?).getD false || decide (o = 10)) && Nt.ofKinds ns (i : Int) [3, 4, 8]).length = q + if ((b || decide (o = 10)) && Nt.ofKinds ns (j : Int) [3, 4, 8]) = true then 1 else 0) := by
          show _ = _
          rw [List.range_succ, List.filter_append, List.length_append, ← HJ.out.2, List.filter_cons, hb]
          simp only [Option.getD_some, List.filter_nil]
          split <;> simp
        have hj24 : (j : Int) < 24 := by omega
        have hj0 : (0 : Int) ≤ j := by omega
        obtain ⟨⟨x0, x1⟩, ⟨y0, y1, y2, y3, y4⟩, -⟩ := CF.out wr BW.out
        clear hb
        cases hin : (b || decide (o = 10)) with
        | false =>
          rw [hin] at HF
          rw [Bool.or_eq_false_iff] at hin
          have e10 : (o == 10) = false := by simpa using hin.2
          obtain rfl := hin.1
          clear hin
          go_wp2
          go_roundg (gk - 1)
          case measure => omega
          case rel =>
            have h1 := HF.out
            rw [Bool.false_and, if_neg (by simp)] at h1
            exact ⟨j + 1, q, by omega, by go_num, by omega, ⟨HJ.out.1, by omega⟩, cs, hown⟩
        | true =>
          rw [hin] at HF
          have HIN : Hid (b = true ∨ (b = false ∧ (o == 10) = true)) := by
            rw [Bool.or_eq_true] at hin
            cases b
            · exact .inr ⟨rfl, by simpa using hin⟩
            · exact .inl rfl
          clear hin
          rcases HIN.out with rfl | ⟨rfl, e10⟩
          all_goals
            clear HIN
            go_wp2_with fail
            refine Calls.mono (CO.out j _ BW.out) ?_
            rintro e W2 ⟨rfl, B2⟩
            clear x0 x1 y0 y1 y2 y3 y4 c0
            have own1 := Rk.own_below hown B2.out
            have HB2 : Hid (Tk.But (fun _ => False) W1 W2) := HJ.out.1.trans (Tk.But.of_below B2.out)
            have hs2 : W1.heap.size ≤ W2.heap.size := HB2.out.size
            cases hk : Nt.ofKinds ns (j : Int) [3, 4, 8] with
            | false =>
              rw [hk] at HF
              clear hk
              go_wp2
              go_roundg (gk - 1)
              case measure => omega
              case rel =>
                have h1 := HF.out
                rw [Bool.and_false, if_neg (by simp)] at h1
                exact ⟨j + 1, q, by omega, by go_num, by omega, ⟨HB2.out, by omega⟩, cs, own1⟩
            | true =>
              rw [hk] at HF
              clear hk
              go_wp2_with (at_builtin; refine wpList_append_own _ rfl _ _ 42 rfl W1.heap.size 3 i0 (.int .i64 0) 1 8 Tryz.underlying42 hi0 hz0 hz1 hz2 rfl (by decide) _ _ _ rfl (own1.alloc _) ⟨W2.heap.size, 0, none⟩ 1 1 [.int .i64 (j : Int)] rfl rfl (Rk.one_cell W2 j 3) (Rk.one_one j) ?c3 ?c4 ?c5 ?_)
              case c3 => unfold maxLen; omega
              case c4 => omega
              case c5 => simp; omega
              intro v' W3 own2 g2 _
              obtain ⟨a2, c2, rfl⟩ := Rk.own_shape own2
              have HB3 : Hid (Tk.But (fun _ => False) W1 W3) := by
                have h1 : Below W1.heap.size W1 (W2.alloc (.cells #[.int .i64 (j : Int)] 3)) := (HB2.out.alloc _).below (Nat.le_refl _) fun _ _ h => h
                exact Tk.But.of_below (Rk.below_grown h1 (by simp; omega) (own1.alloc _) g2)
              clear own1 g2
              go_wp2
              go_roundg (gk - 1)
              case measure => omega
              case rel =>
                have h1 := HF.out
                rw [Bool.and_true, if_pos rfl] at h1
                exact ⟨j + 1, q + 1, by omega, by go_num, by omega, ⟨HB3.out, by omega⟩, _, own2⟩
      · have hd : decide ((j : Int) < n) = false := decide_eq_false (by omega)
        have HZ : Hid (q = Bl.leavesN ns (decide (o = 10)) bs ∧ Below w.heap.size w wr) := by
          refine ⟨?_, (CF.out wr (B1.out.trans ((HJ.out.1.below (Nat.le_refl _) fun _ _ h => h).mono B1.out.size))).2.2⟩
          obtain rfl : j = n := by omega
          rw [HJ.out.2, Bl.leavesN, HL.out.2.1]
        clear hown
        go_wp2
        go_ret2
        obtain ⟨hz, hb⟩ := HZ.out
        subst hz
        refine ⟨⟨av, cv, ?_⟩, hb⟩
        simp
  · have e1 : (er != 0) = true := by simpa using he
    have HX : Hid ((if er = 0 then Bl.leavesN ns (decide (o = 10)) bs else 0) = 0) := by show _ = _; rw [if_neg he]
    clear he
    rw [HX.out]
    go_enter Tryz.func11, Tryz.ntmps11
    go_upto_region 1 with fail
    rw [HW0.out]
    go_wp2_with fail
    refine Calls.mono HC.out ?_
    rintro e W ⟨rfl, HB⟩
    have N3 := heap_alloc_new W (.cells #[.bool false, .bool false, .bool false, .bool false, .bool false, .bool false, .bool false, .bool false, .bool false, .bool false, .bool false, .bool false, .bool false, .bool false, .bool false, .bool false, .bool false, .bool false, .bool false, .bool false, .bool false, .bool false, .bool false, .bool false] 61)
    have HF : Hid (Below w.heap.size w ((W.alloc (.cells #[.bool false, .bool false, .bool false, .bool false, .bool false, .bool false, .bool false, .bool false, .bool false, .bool false, .bool false, .bool false, .bool false, .bool false, .bool false, .bool false, .bool false, .bool false, .bool false, .bool false, .bool false, .bool false, .bool false, .bool false] 61)).setRow W.heap.size S)) := (CF.out _ (Bk.below_row (HB.out.alloc HB.out.size _) HB.out.size _)).2.2
    clear HC x0 x1 y0 y1 y2 y3 y4
    go_wp2_with (first | refine wpList_store_row rfl 61 _ _ rfl W.heap.size S rfl rfl 61 _ N3 hi hj1 hj2 ?_ | fail)
    go_ret2
    exact ⟨⟨_, _, rfl⟩, HF.out⟩

end Go.Proofs

namespace Go.Proofs
open Go.RowKit

namespace Bl
/-- How often a node stands in a block by itself. -/
def ownT (k nd i : Int) : Nat := if (k = 2 ∨ (4 ≤ k ∧ k ≤ 8)) ∧ nd = i then 1 else 0
def pickT (fs : List Fl) (k nd i : Int) : Nat := if k = 6 then ((Nt.outsL fs nd).filter fun f => decide ((fs[f]?.map Fl.to) = some i)).length else 0
mutual
def times (fs : List Fl) (i : Int) : Bl → Nat | .mk k n _ ks _ => ownT k n i + pickT fs k n i + timess fs i ks
def timess (fs : List Fl) (i : Int) : List Bl → Nat | [] => 0 | k :: r => times fs i k + timess fs i r
end
theorem times_eq (fs : List Fl) (i : Int) (T : Bl) : T.times fs i = ownT T.kind T.node i + pickT fs T.kind T.node i + timess fs i T.ks := by cases T; rfl
theorem timess_snoc (fs : List Fl) (i : Int) (l : List Bl) (a : Bl) : timess fs i (l ++ [a]) = timess fs i l + a.times fs i := by
  induction l with
  | nil => simp [timess]
  | cons k r ih => simp only [List.cons_append, timess, ih]; omega
theorem timess_take (fs : List Fl) (i : Int) (l : List Bl) : ∀ k, timess fs i (l.take k) ≤ timess fs i l := by
  induction l with
  | nil => intro k; simp
  | cons x r ih =>
    intro k
    cases k with
    | zero => simp [timess]
    | succ k => simp only [List.take_succ_cons, timess]; have := ih k; omega
theorem pick_le (fs : List Fl) (k nd i : Int) : pickT fs k nd i ≤ fs.length := by
  unfold pickT
  split
  · have h1 := List.length_filter_le (fun f => decide ((fs[f]?.map Fl.to) = some i)) (Nt.outsL fs nd)
    have h2 := List.length_filter_le (fun k => decide ((fs[k]?.map Fl.fr) = some nd)) (List.range fs.length)
    rw [List.length_range] at h2
    exact Nat.le_trans h1 h2
  · omega
theorem own_le (k nd i : Int) : ownT k nd i ≤ 1 := by unfold ownT; split <;> omega
theorem times_le (fs : List Fl) (i : Int) (T : Bl) : T.times fs i ≤ T.size * (fs.length + 1) :=
  Bl.rec (motive_1 := fun T => T.times fs i ≤ T.size * (fs.length + 1)) (motive_2 := fun l => timess fs i l ≤ sizes l * (fs.length + 1))
    (fun k n a ks ls ih => by
      have h1 := own_le k n i
      have h2 := pick_le fs k n i
      rw [times, size, Nat.add_mul]
      omega)
    (by rw [timess]; omega)
    (fun x r i1 i2 => by rw [timess, sizes, Nat.add_mul]; omega) T
end Bl

set_option maxRecDepth 20000 in
set_option maxHeartbeats 16000000 in
theorem Tryz.refTimes_any (i : Int) (an : Option Addr) (nn cn : Nat) (af : Option Addr) (cf dn : Nat) (fs : List Fl) : ∀ (d : Nat) (T : Bl) (v lv : Value) (w : World), Bl.Lies w w.heap.size d v lv T → Nt.Fls w w.heap.size dn af fs → T.size ≤ 1000 → fs.length ≤ 100 →
    Calls Tryz.prog 15 #[.agg #[.slice an nn cn, .slice af fs.length cf], .agg #[.int .i64 T.kind, .int .i64 T.node, .int .i64 T.arg, v, lv], .int .i64 i] w fun e w' => e = .returned (.int .i64 (T.times fs i : Int)) ∧ Below w.heap.size w w' := by
  intro d
  induction d with
  | zero => intro T v lv w h; exact h.elim
  | succ d ih =>
    intro T v lv w hT hF hsz hfl
    obtain ⟨a, cap, rfl⟩ := hT.shape
    obtain ⟨al, cl, rfl⟩ := hT.links.shape
    obtain ⟨o, ho⟩ : ∃ m, T.kind = m := ⟨_, rfl⟩
    obtain ⟨m, hm⟩ : ∃ m, T.node = m := ⟨_, rfl⟩
    obtain ⟨r, hr⟩ : ∃ m, T.arg = m := ⟨_, rfl⟩
    obtain ⟨nl, hnl⟩ : ∃ n, T.ls.length = n := ⟨_, rfl⟩
    obtain ⟨n, hn⟩ : ∃ n, T.ks.length = n := ⟨_, rfl⟩
    obtain ⟨nf, hnf⟩ : ∃ n, fs.length = n := ⟨_, rfl⟩
    have hnb : n ≤ 1000 := by have h1 := Bl.length_le_sizes T.ks; have h2 := T.size_eq; omega
    rw [ho, hm, hr, hn, hnl, hnf]
    rw [hn, hnl] at hT
    obtain ⟨W0, hW0⟩ : ∃ z, (w.alloc (.cells #[.slice an nn cn, .slice af nf cf] 25)).alloc (.cells #[.int .i64 o, .int .i64 m, .int .i64 r, .slice a n cap, .slice al nl cl] 50) = z := ⟨_, rfl⟩
    have A0 : Below w.heap.size w W0 := by rw [← hW0]; exact ((Below.refl _ w).alloc (Nat.le_refl _) _).alloc (by simp) _
    have S0 : W0.heap.size = w.heap.size + 2 := by rw [← hW0]; simp
    have G1 : W0.heap[w.heap.size]? = some (.cells #[.slice an nn cn, .slice af nf cf] 25 (0, 0)) := by rw [← hW0, Below.heap_alloc _ _ _ (by simp)]; exact heap_alloc_new w _
    have G2 : W0.heap[w.heap.size + 1]? = some (.cells #[.int .i64 o, .int .i64 m, .int .i64 r, .slice a n cap, .slice al nl cl] 50 (0, 0)) := by
      rw [← hW0]
      have := heap_alloc_new (w.alloc (.cells #[.slice an nn cn, .slice af nf cf] 25)) (.cells #[.int .i64 o, .int .i64 m, .int .i64 r, .slice a n cap, .slice al nl cl] 50)
      simpa using this
    have CF : Hid (∀ W, Below W0.heap.size W0 W → (W.cell? ⟨w.heap.size, 0, none⟩ = some (.slice an nn cn) ∧ W.cell? ⟨w.heap.size, 1, none⟩ = some (.slice af nf cf)) ∧ (W.cell? ⟨w.heap.size + 1, 0, none⟩ = some (.int .i64 o) ∧ W.cell? ⟨w.heap.size + 1, 1, none⟩ = some (.int .i64 m) ∧ W.cell? ⟨w.heap.size + 1, 3, none⟩ = some (.slice a n cap)) ∧ Below w.heap.size w W) := fun W hb => by
      have e1 := (hb.block _ (by omega)).trans G1
      have e2 := (hb.block _ (by omega)).trans G2
      exact ⟨⟨by simp [World.cell?, e1], by simp [World.cell?, e1]⟩, ⟨by simp [World.cell?, e2], by simp [World.cell?, e2], by simp [World.cell?, e2]⟩, A0.trans (hb.mono (by omega))⟩
    have HT : Hid (Bl.Lies w w.heap.size (d + 1) (.slice a n cap) (.slice al nl cl) T) := hT
    have HI : Hid (∀ (T : Bl) (v lv : Value) (w : World), Bl.Lies w w.heap.size d v lv T → Nt.Fls w w.heap.size dn af fs → T.size ≤ 1000 → Calls Tryz.prog 15 #[.agg #[.slice an nn cn, .slice af fs.length cf], .agg #[.int .i64 T.kind, .int .i64 T.node, .int .i64 T.arg, v, lv], .int .i64 i] w fun e w' => e = .returned (.int .i64 (T.times fs i : Int)) ∧ Below w.heap.size w w') := fun T v lv w h1 h2 h3 => ih T v lv w h1 h2 h3 hfl
    have HM : Hid (T.kind = o ∧ T.node = m ∧ T.ks.length = n ∧ T.size ≤ 1000) := ⟨ho, hm, hn, hsz⟩
    have HN : Hid (Nt.Fls w w.heap.size dn af fs ∧ fs.length ≤ 100 ∧ fs.length = nf) := ⟨hF, hfl, hnf⟩
    obtain ⟨ts, hts⟩ : ∃ k, T.times fs i = k := ⟨_, rfl⟩
    have HS : Hid (T.times fs i = ts) := hts
    rw [hts]
    obtain ⟨t0, ht0⟩ : ∃ k, Bl.ownT T.kind T.node i + Bl.pickT fs T.kind T.node i = k := ⟨_, rfl⟩
    have HT0 : Hid (Bl.ownT T.kind T.node i + Bl.pickT fs T.kind T.node i = t0) := ht0
    have HW0 : Hid _ := hW0
    have BR : Hid (Below W0.heap.size W0 W0) := Below.refl _ _
    obtain ⟨⟨x0, x1⟩, ⟨y0, y1, y3⟩, -⟩ := CF.out W0 BR.out
    clear ih hT hF hfl ho hm hr hn hnl hnf hsz hts ht0 hW0 A0 S0 G1 G2
    by_cases h6 : o = 6
    · have HO6 : Hid (T.kind = 6) := by show _ = _; rw [HM.out.1]; exact h6
      subst h6
      obtain ⟨ou, hou⟩ : ∃ l, Nt.outsL fs m = l := ⟨_, rfl⟩
      obtain ⟨ol, hol⟩ : ∃ l, ou.length = l := ⟨_, rfl⟩
      have hol100 : ol ≤ 100 := by
        have h := List.length_filter_le (fun k => decide ((fs[k]?.map Fl.fr) = some m)) (List.range fs.length)
        rw [List.length_range] at h
        have h2 := HN.out.2.1
        rw [← hol, ← hou]
        exact Nat.le_trans h h2
      have HOU : Hid (∀ f, f ∈ ou → f < fs.length) := fun f hf => by
        rw [← hou] at hf
        exact List.mem_range.1 (List.mem_filter.1 hf).1
      have HOL : Hid (ou.length = ol) := hol
      have HP : Hid (Bl.pickT fs T.kind T.node i = (ou.filter fun f => decide ((fs[f]?.map Fl.to) = some i)).length) := by show _ = _; rw [HO6.out, HM.out.2.1, Bl.pickT, if_pos rfl, hou]
      have C1 : Hid (Calls Tryz.prog 27 #[.agg #[.slice an nn cn, .slice af nf cf], .int .i64 m] W0 fun e w' => ∃ ao co, e = .returned (.slice ao ol co) ∧ Hid (Below W0.heap.size W0 w' ∧ w'.ownsRow W0.heap.size 3 1 (.slice ao ol co) ol (Rk.nums ou))) := by
        show Calls _ _ _ _ _
        have hb := (CF.out W0 BR.out).2.2
        have h := Tryz.rOuts_any m an nn cn af cf dn fs W0 ((HN.out.1.below hb).wider hb.size) HN.out.2.1
        rw [HN.out.2.2, hou] at h
        refine h.mono ?_
        rintro e w' ⟨v, rfl, ho, hb'⟩
        rw [hol] at ho
        obtain ⟨ao, co, rfl⟩ := Rk.own_shape ho
        exact ⟨ao, co, rfl, hb', ho⟩
      clear hou hol
      obtain ⟨q0, hq0⟩ : ∃ q, Bl.ownT T.kind T.node i = q := ⟨_, rfl⟩
      obtain ⟨f0, hz⟩ | ⟨f0, hz⟩ : ((m == i) = true ∧ q0 = 1) ∨ ((m == i) = false ∧ q0 = 0) := by
        rw [← hq0, HO6.out, HM.out.2.1, Bl.ownT]
        by_cases h : m = i <;> simp [h]
      all_goals
        subst hz
        have HQ0 : Hid _ := hq0
        clear hq0
        go_enter Tryz.func15, Tryz.ntmps15
        go_upto_region 1 with fail
        rw [HW0.out]
        go_wp2_with fail
        refine Calls.mono C1.out ?_
        rintro e W2 ⟨ao, co, rfl, H2⟩
        clear C1 x0 x1 y0 y1 y3
        go_wp2
        go_loopg [7, 9, 39] ol (fun gk s7 _ s39 wr => ∃ (j c : Nat), gk + j = ol ∧ s39 = .int .i64 j ∧ s7 = .int .i64 c ∧ c ≤ 101 ∧ Hid (wr = W2 ∧ c = Bl.ownT T.kind T.node i + ((ou.take j).filter fun f => decide ((fs[f]?.map Fl.to) = some i)).length))
        case atStart => first | exact ⟨0, 1, by omega, rfl, rfl, by omega, rfl, by rw [HQ0.out]; simp⟩ | exact ⟨0, 0, by omega, rfl, rfl, by omega, rfl, by rw [HQ0.out]; simp⟩
        case round =>
          obtain ⟨j, c, hj, rfl, rfl, hcb, HJ⟩ := hrel
          have hwr := HJ.out.1
          subst hwr
          obtain ⟨⟨x0, x1⟩, ⟨y0, y1, y3⟩, hbw⟩ := CF.out wr H2.out.1
          by_cases hjn : j < ol
          · have hd : decide ((j : Int) < ol) = true := decide_eq_true (by omega)
            have hjk : j < ou.length := by rw [HOL.out]; exact hjn
            have hO := H2.out.2
            rcases hO.2 with ⟨_, hz⟩ | ⟨go, cap2, cur, hv, hgB, hgc, hgr⟩
            · omega
            · simp only [Value.slice.injEq] at hv
              obtain ⟨rfl, -, rfl⟩ := hv
              have hoc := hO.cells (g := go) rfl j (.int .i64 (ou[j] : Int)) (by simp [Rk.nums, hjk])
              have ha : ((⟨go, 0, none⟩ : Addr).add j) = ⟨go, j, none⟩ := by cases j <;> simp [Addr.add]
              rw [ha] at hoc
              obtain ⟨f, hf⟩ : ∃ f, ou[j] = f := ⟨_, rfl⟩
              have hfl : f < fs.length := by rw [← hf]; exact HOU.out _ (List.getElem_mem hjk)
              rw [hf] at hoc
              obtain ⟨q, off, u, rfl, hq, p0, p1, -⟩ := HN.out.1 f hfl
              obtain ⟨t, ht⟩ : ∃ t, fs[f].to = t := ⟨_, rfl⟩
              rw [ht] at p1
              have c1 : wr.cell? ⟨q, off + f * 6 + 1, none⟩ = some (.int .i64 t) := by rw [hbw.cell (p := ⟨q, off + f * 6 + 1, none⟩) hq]; exact p1
              have hfm : (f : Int) < nf := by have := HN.out.2.2; omega
              have hf0 : (0 : Int) ≤ f := by omega
              have hjo : (j : Int) < ol := by omega
              have hj0 : (0 : Int) ≤ j := by omega
              have HTT : Hid (((ou.take (j + 1)).filter fun f => decide ((fs[f]?.map Fl.to) = some i)).length = ((ou.take j).filter fun f => decide ((fs[f]?.map Fl.to) = some i)).length + if t = i then 1 else 0) := by
                show _ = _
                rw [Bl.take_snoc _ _ hjk, hf, List.filter_append, List.length_append, List.filter_cons, List.getElem?_eq_getElem hfl]
                simp only [Option.map_some, ht, Option.some.injEq, decide_eq_true_eq, List.filter_nil]
                split <;> simp
              have HLE : Hid (((ou.take (j + 1)).filter fun f => decide ((fs[f]?.map Fl.to) = some i)).length ≤ ol) := by
                show _ ≤ _
                have h1 := List.length_filter_le (fun f => decide ((fs[f]?.map Fl.to) = some i)) (ou.take (j + 1))
                have h2 := List.length_take_le' (j + 1) ou
                have h3 := HOL.out
                omega
              have HOW := Bl.own_le T.kind T.node i
              clear p0 p1 hbw hO hgc hgr ha hf ht hq hgB hjk hfl
              by_cases hti : t = i
              · have e1 : (t == i) = true := by simpa using hti
                have HTI : Hid (t = i) := hti
                clear hti
                go_wp2
                go_roundg (gk - 1)
                case measure => omega
                case rel =>
                  have h1 := HTT.out
                  rw [if_pos HTI.out] at h1
                  have h2 := HJ.out.2
                  have h3 := HLE.out
                  exact ⟨j + 1, c + 1, by omega, by go_num, by go_num, by omega, rfl, by omega⟩
              · have e1 : (t == i) = false := by simpa using hti
                have HTI : Hid (¬ t = i) := hti
                clear hti
                go_wp2
                go_roundg (gk - 1)
                case measure => omega
                case rel =>
                  have h1 := HTT.out
                  rw [if_neg HTI.out] at h1
                  have h2 := HJ.out.2
                  exact ⟨j + 1, c, by omega, by go_num, by go_num, hcb, rfl, by omega⟩
          · have hd : decide ((j : Int) < ol) = false := decide_eq_false (by omega)
            have HT1 : Hid (t0 = c) := by
              show _ = _
              have h1 := HJ.out.2
              rw [List.take_of_length_le (by rw [HOL.out]; omega)] at h1
              rw [← HT0.out, HP.out]
              exact h1.symm
            have HTX := HT1.out
            subst HTX
            have HB2 : Hid (Below W0.heap.size W0 wr) := H2.out.1
            clear hbw HJ HT1 H2
            go_wp2
            go_loopg [7, 11, 57] n (fun gk s7 _ s57 wr => ∃ j c : Nat, gk + j = n ∧ s57 = .int .i64 j ∧ s7 = .int .i64 c ∧ c ≤ 1000000 ∧ Hid (Below W0.heap.size W0 wr ∧ c = t0 + Bl.timess fs i (T.ks.take j)))
            case atStart => exact ⟨0, t0, by omega, rfl, rfl, by omega, HB2.out, by simp [Bl.timess]⟩
            case round =>
              obtain ⟨j, c, hj, rfl, rfl, hcb, HJ⟩ := hrel
              clear x0 x1 y0 y1 y3
              by_cases hjn : j < n
              · have hd : decide ((j : Int) < n) = true := decide_eq_true (by omega)
                have hjk : j < T.ks.length := by rw [HM.out.2.2.1]; exact hjn
                have hxs := Bl.sizes_get T.ks j hjk
                obtain ⟨g, off, u, lu, rfl, hg, q0, q1, q2, q3, q4, q5⟩ := HT.out.kid j hjk
                obtain ⟨x, hx⟩ : ∃ x, T.ks[j] = x := ⟨_, rfl⟩
                rw [hx] at q0 q1 q2 q5 hxs
                obtain ⟨au, cu, rfl⟩ := q5.shape
                obtain ⟨bu, du, rfl⟩ := q5.links.shape
                obtain ⟨mx, hmx⟩ : ∃ n, x.ls.length = n := ⟨_, rfl⟩
                rw [hmx] at q4 q5
                obtain ⟨nx, hnx⟩ : ∃ n, x.ks.length = n := ⟨_, rfl⟩
                rw [hnx] at q3 q5
                obtain ⟨z0, hz0⟩ : ∃ y, x.kind = y := ⟨_, rfl⟩
                obtain ⟨z1, hz1⟩ : ∃ y, x.node = y := ⟨_, rfl⟩
                obtain ⟨z2, hz2⟩ : ∃ y, x.arg = y := ⟨_, rfl⟩
                rw [hz2] at q2
                rw [hz0] at q0
                rw [hz1] at q1
                have HBW := (CF.out wr HJ.out.1).2.2
                have hc : ∀ p, wr.cell? ⟨g, p, none⟩ = w.cell? ⟨g, p, none⟩ := fun p => HBW.cell (p := ⟨g, p, none⟩) hg
                have hc0 : wr.cell? ⟨g, off + j * 5, none⟩ = some (.int .i64 z0) := by rw [hc]; exact q0
                have hc1 : wr.cell? ⟨g, off + j * 5 + 1, none⟩ = some (.int .i64 z1) := by rw [hc]; exact q1
                have hc2 : wr.cell? ⟨g, off + j * 5 + 2, none⟩ = some (.int .i64 z2) := by rw [hc]; exact q2
                have hc3 : wr.cell? ⟨g, off + j * 5 + 3, none⟩ = some (.slice au nx cu) := by rw [hc]; exact q3
                have hc4 : wr.cell? ⟨g, off + j * 5 + 4, none⟩ = some (.slice bu mx du) := by rw [hc]; exact q4
                have HK : Hid ((wr.alloc (.cells #[.int .i64 0, .int .i64 0, .int .i64 0, .slice none 0 0, .slice none 0 0] 50)).heap[wr.heap.size]? = some (.cells #[.int .i64 0, .int .i64 0, .int .i64 0, .slice none 0 0, .slice none 0 0] 50 (0, 0))) := heap_alloc_new wr _
                obtain ⟨V0, hV0⟩ : ∃ z, (wr.alloc (.cells #[.int .i64 0, .int .i64 0, .int .i64 0, .slice none 0 0, .slice none 0 0] 50)).setRow wr.heap.size #[.int .i64 z0, .int .i64 z1, .int .i64 z2, .slice au nx cu, .slice bu mx du] = z := ⟨_, rfl⟩
                have HV0 : Hid _ := hV0
                have GV : Hid (V0.heap[wr.heap.size]? = some (.cells #[.int .i64 z0, .int .i64 z1, .int .i64 z2, .slice au nx cu, .slice bu mx du] 50 (0, 0))) := by show _ = _; rw [← hV0]; exact setRow_heap _ _ _ _ _ _ HK.out
                have BV : Hid (Below W0.heap.size W0 V0) := by
                  show Below _ _ _
                  rw [← hV0]
                  have h1 := HJ.out.1.alloc HJ.out.1.size (.cells #[.int .i64 0, .int .i64 0, .int .i64 0, .slice none 0 0, .slice none 0 0] 50)
                  exact h1.trans ⟨rfl, rfl, rfl, by simp [World.setRow], fun k hk => setRow_other _ _ _ _ (by have := HJ.out.1.size; omega)⟩
                have BV2 := (CF.out V0 BV.out).2.2
                have hcall := HI.out x (.slice au nx cu) (.slice bu mx du) V0 ((q5.below BV2).wider BV2.size) ((HN.out.1.below BV2).wider BV2.size) (by have := HM.out.2.2.2; have := T.size_eq; omega)
                obtain ⟨fx, hfx⟩ : ∃ y, x.times fs i = y := ⟨_, rfl⟩
                rw [hz0, hz1, hz2, hfx, HN.out.2.2] at hcall
                have HC : Hid _ := hcall
                have HY : Hid (Bl.timess fs i (T.ks.take (j + 1)) = Bl.timess fs i (T.ks.take j) + fx) := by
                  show _ = _
                  rw [Bl.take_snoc _ _ hjk, Bl.timess_snoc, hx, hfx]
                have hsum : c + fx ≤ 1000000 := by
                  have h1 := Bl.times_le fs i T
                  have h2 := T.times_eq fs i
                  have h3 := Bl.timess_take fs i T.ks (j + 1)
                  have h4 := HY.out
                  have h5 := HJ.out.2
                  have h6 := HM.out.2.2.2
                  have h7 := HT0.out
                  have h8 := HN.out.2.1
                  have h9 : T.size * (fs.length + 1) ≤ 1000 * 101 := Nat.mul_le_mul (by omega) (by omega)
                  omega
                have e0 : V0.cell? ⟨wr.heap.size, 0, none⟩ = some (.int .i64 z0) := by simp [World.cell?, GV.out]
                have e1 : V0.cell? ⟨wr.heap.size, 1, none⟩ = some (.int .i64 z1) := by simp [World.cell?, GV.out]
                have e2 : V0.cell? ⟨wr.heap.size, 2, none⟩ = some (.int .i64 z2) := by simp [World.cell?, GV.out]
                have e3 : V0.cell? ⟨wr.heap.size, 3, none⟩ = some (.slice au nx cu) := by simp [World.cell?, GV.out]
                have e4 : V0.cell? ⟨wr.heap.size, 4, none⟩ = some (.slice bu mx du) := by simp [World.cell?, GV.out]
                clear hc q0 q1 q2 q3 q4 q5 hx hz0 hz1 hz2 hnx hmx hcall hfx hxs HBW BV2 hV0 GV
                go_upto_region 15 with (refine wpList_store_row rfl 50 _ _ rfl wr.heap.size _ rfl rfl 50 #[.int .i64 0, .int .i64 0, .int .i64 0, .slice none 0 0, .slice none 0 0] (by exact HK.out) (by kernel_rfl) rfl (by kernel_rfl) ?_)
                rw [HV0.out]
                clear HV0 HK hc0 hc1 hc2 hc3 hc4
                obtain ⟨⟨x0, x1⟩, -, -⟩ := CF.out V0 BV.out
                go_wp2_with fail
                refine Calls.mono HC.out ?_
                rintro e W3 ⟨rfl, b3⟩
                have B3 : Hid (Below W0.heap.size W0 W3) := BV.out.trans (b3.mono BV.out.size)
                clear b3 HC x0 x1 e0 e1 e2 e3 e4
                go_wp2
                go_roundg (gk - 1)
                case measure => omega
                case rel =>
                  refine ⟨j + 1, c + fx, by omega, by go_num, by go_num, hsum, B3.out, ?_⟩
                  rw [HY.out, HJ.out.2]
                  omega
              · have hd : decide ((j : Int) < n) = false := decide_eq_false (by omega)
                have hall : T.ks.take j = T.ks := List.take_of_length_le (by rw [HM.out.2.2.1]; omega)
                have HF : Hid (Below w.heap.size w wr ∧ c = ts) := by
                  refine ⟨(CF.out wr HJ.out.1).2.2, ?_⟩
                  have h1 := HJ.out.2
                  rw [hall] at h1
                  have h2 := T.times_eq fs i
                  have h3 := HS.out
                  have h4 := HT0.out
                  omega
                go_wp2
                go_ret
                obtain ⟨hf1, hf2⟩ := HF.out
                subst hf2
                exact ⟨rfl, hf1⟩
    · have e6 : (o == 6) = false := by simpa using h6
      obtain ⟨q0, hq0⟩ : ∃ q, Bl.ownT T.kind T.node i = q := ⟨_, rfl⟩
      have HQ : Hid (q0 = t0) := by show _ = _; rw [← hq0, ← HT0.out, Bl.pickT, if_neg (by rw [HM.out.1]; exact h6)]; rfl
      obtain ⟨f1, f0, hz⟩ | ⟨f1, f0, hz⟩ | ⟨f1, f2, f3, f0, hz⟩ | ⟨f1, f2, f3, f0, hz⟩ | ⟨f1, f2, f3, hz⟩ | ⟨f1, f2, hz⟩ : ((o == 2) = true ∧ (m == i) = true ∧ q0 = 1) ∨ ((o == 2) = true ∧ (m == i) = false ∧ q0 = 0) ∨ ((o == 2) = false ∧ decide (4 ≤ o) = true ∧ decide (o ≤ 8) = true ∧ (m == i) = true ∧ q0 = 1) ∨ ((o == 2) = false ∧ decide (4 ≤ o) = true ∧ decide (o ≤ 8) = true ∧ (m == i) = false ∧ q0 = 0) ∨ ((o == 2) = false ∧ decide (4 ≤ o) = true ∧ decide (o ≤ 8) = false ∧ q0 = 0) ∨ ((o == 2) = false ∧ decide (4 ≤ o) = false ∧ q0 = 0) := by
        rw [← hq0, HM.out.1, HM.out.2.1, Bl.ownT]
        by_cases g2 : o = 2 <;> by_cases g4 : 4 ≤ o <;> by_cases g8 : o ≤ 8 <;> by_cases h : m = i <;> simp [g2, g4, g8, h] <;> omega
      all_goals
        subst hz
        clear hq0 h6
        go_enter Tryz.func15, Tryz.ntmps15
        go_upto_region 1 with fail
        rw [HW0.out]
        go_wp2
        go_loopg [7, 11, 57] n (fun gk s7 _ s57 wr => ∃ j c : Nat, gk + j = n ∧ s57 = .int .i64 j ∧ s7 = .int .i64 c ∧ c ≤ 1000000 ∧ Hid (Below W0.heap.size W0 wr ∧ c = t0 + Bl.timess fs i (T.ks.take j)))
        case atStart => first | exact ⟨0, 1, by omega, rfl, rfl, by omega, BR.out, by rw [← HQ.out]; simp [Bl.timess]⟩ | exact ⟨0, 0, by omega, rfl, rfl, by omega, BR.out, by rw [← HQ.out]; simp [Bl.timess]⟩
        case round =>
          obtain ⟨j, c, hj, rfl, rfl, hcb, HJ⟩ := hrel
          clear x0 x1 y0 y1 y3
          by_cases hjn : j < n
          · have hd : decide ((j : Int) < n) = true := decide_eq_true (by omega)
            have hjk : j < T.ks.length := by rw [HM.out.2.2.1]; exact hjn
            have hxs := Bl.sizes_get T.ks j hjk
            obtain ⟨g, off, u, lu, rfl, hg, q0, q1, q2, q3, q4, q5⟩ := HT.out.kid j hjk
            obtain ⟨x, hx⟩ : ∃ x, T.ks[j] = x := ⟨_, rfl⟩
            rw [hx] at q0 q1 q2 q5 hxs
            obtain ⟨au, cu, rfl⟩ := q5.shape
            obtain ⟨bu, du, rfl⟩ := q5.links.shape
            obtain ⟨mx, hmx⟩ : ∃ n, x.ls.length = n := ⟨_, rfl⟩
            rw [hmx] at q4 q5
            obtain ⟨nx, hnx⟩ : ∃ n, x.ks.length = n := ⟨_, rfl⟩
            rw [hnx] at q3 q5
            obtain ⟨z0, hz0⟩ : ∃ y, x.kind = y := ⟨_, rfl⟩
            obtain ⟨z1, hz1⟩ : ∃ y, x.node = y := ⟨_, rfl⟩
            obtain ⟨z2, hz2⟩ : ∃ y, x.arg = y := ⟨_, rfl⟩
            rw [hz2] at q2
            rw [hz0] at q0
            rw [hz1] at q1
            have HBW := (CF.out wr HJ.out.1).2.2
            have hc : ∀ p, wr.cell? ⟨g, p, none⟩ = w.cell? ⟨g, p, none⟩ := fun p => HBW.cell (p := ⟨g, p, none⟩) hg
            have hc0 : wr.cell? ⟨g, off + j * 5, none⟩ = some (.int .i64 z0) := by rw [hc]; exact q0
            have hc1 : wr.cell? ⟨g, off + j * 5 + 1, none⟩ = some (.int .i64 z1) := by rw [hc]; exact q1
            have hc2 : wr.cell? ⟨g, off + j * 5 + 2, none⟩ = some (.int .i64 z2) := by rw [hc]; exact q2
            have hc3 : wr.cell? ⟨g, off + j * 5 + 3, none⟩ = some (.slice au nx cu) := by rw [hc]; exact q3
            have hc4 : wr.cell? ⟨g, off + j * 5 + 4, none⟩ = some (.slice bu mx du) := by rw [hc]; exact q4
            have HK : Hid ((wr.alloc (.cells #[.int .i64 0, .int .i64 0, .int .i64 0, .slice none 0 0, .slice none 0 0] 50)).heap[wr.heap.size]? = some (.cells #[.int .i64 0, .int .i64 0, .int .i64 0, .slice none 0 0, .slice none 0 0] 50 (0, 0))) := heap_alloc_new wr _
            obtain ⟨V0, hV0⟩ : ∃ z, (wr.alloc (.cells #[.int .i64 0, .int .i64 0, .int .i64 0, .slice none 0 0, .slice none 0 0] 50)).setRow wr.heap.size #[.int .i64 z0, .int .i64 z1, .int .i64 z2, .slice au nx cu, .slice bu mx du] = z := ⟨_, rfl⟩
            have HV0 : Hid _ := hV0
            have GV : Hid (V0.heap[wr.heap.size]? = some (.cells #[.int .i64 z0, .int .i64 z1, .int .i64 z2, .slice au nx cu, .slice bu mx du] 50 (0, 0))) := by show _ = _; rw [← hV0]; exact setRow_heap _ _ _ _ _ _ HK.out
            have BV : Hid (Below W0.heap.size W0 V0) := by
              show Below _ _ _
              rw [← hV0]
              have h1 := HJ.out.1.alloc HJ.out.1.size (.cells #[.int .i64 0, .int .i64 0, .int .i64 0, .slice none 0 0, .slice none 0 0] 50)
              exact h1.trans ⟨rfl, rfl, rfl, by simp [World.setRow], fun k hk => setRow_other _ _ _ _ (by have := HJ.out.1.size; omega)⟩
            have BV2 := (CF.out V0 BV.out).2.2
            have hcall := HI.out x (.slice au nx cu) (.slice bu mx du) V0 ((q5.below BV2).wider BV2.size) ((HN.out.1.below BV2).wider BV2.size) (by have := HM.out.2.2.2; have := T.size_eq; omega)
            obtain ⟨fx, hfx⟩ : ∃ y, x.times fs i = y := ⟨_, rfl⟩
            rw [hz0, hz1, hz2, hfx, HN.out.2.2] at hcall
            have HC : Hid _ := hcall
            have HY : Hid (Bl.timess fs i (T.ks.take (j + 1)) = Bl.timess fs i (T.ks.take j) + fx) := by
              show _ = _
              rw [Bl.take_snoc _ _ hjk, Bl.timess_snoc, hx, hfx]
            have hsum : c + fx ≤ 1000000 := by
              have h1 := Bl.times_le fs i T
              have h2 := T.times_eq fs i
              have h3 := Bl.timess_take fs i T.ks (j + 1)
              have h4 := HY.out
              have h5 := HJ.out.2
              have h6 := HM.out.2.2.2
              have h7 := HT0.out
              have h8 := HN.out.2.1
              have h9 : T.size * (fs.length + 1) ≤ 1000 * 101 := Nat.mul_le_mul (by omega) (by omega)
              omega
            have e0 : V0.cell? ⟨wr.heap.size, 0, none⟩ = some (.int .i64 z0) := by simp [World.cell?, GV.out]
            have e1 : V0.cell? ⟨wr.heap.size, 1, none⟩ = some (.int .i64 z1) := by simp [World.cell?, GV.out]
            have e2 : V0.cell? ⟨wr.heap.size, 2, none⟩ = some (.int .i64 z2) := by simp [World.cell?, GV.out]
            have e3 : V0.cell? ⟨wr.heap.size, 3, none⟩ = some (.slice au nx cu) := by simp [World.cell?, GV.out]
            have e4 : V0.cell? ⟨wr.heap.size, 4, none⟩ = some (.slice bu mx du) := by simp [World.cell?, GV.out]
            clear hc q0 q1 q2 q3 q4 q5 hx hz0 hz1 hz2 hnx hmx hcall hfx hxs HBW BV2 hV0 GV
            go_upto_region 15 with (refine wpList_store_row rfl 50 _ _ rfl wr.heap.size _ rfl rfl 50 #[.int .i64 0, .int .i64 0, .int .i64 0, .slice none 0 0, .slice none 0 0] (by exact HK.out) (by kernel_rfl) rfl (by kernel_rfl) ?_)
            rw [HV0.out]
            clear HV0 HK hc0 hc1 hc2 hc3 hc4
            obtain ⟨⟨x0, x1⟩, -, -⟩ := CF.out V0 BV.out
            go_wp2_with fail
            refine Calls.mono HC.out ?_
            rintro e W3 ⟨rfl, b3⟩
            have B3 : Hid (Below W0.heap.size W0 W3) := BV.out.trans (b3.mono BV.out.size)
            clear b3 HC x0 x1 e0 e1 e2 e3 e4
            go_wp2
            go_roundg (gk - 1)
            case measure => omega
            case rel =>
              refine ⟨j + 1, c + fx, by omega, by go_num, by go_num, hsum, B3.out, ?_⟩
              rw [HY.out, HJ.out.2]
              omega
          · have hd : decide ((j : Int) < n) = false := decide_eq_false (by omega)
            have hall : T.ks.take j = T.ks := List.take_of_length_le (by rw [HM.out.2.2.1]; omega)
            have HF : Hid (Below w.heap.size w wr ∧ c = ts) := by
              refine ⟨(CF.out wr HJ.out.1).2.2, ?_⟩
              have h1 := HJ.out.2
              rw [hall] at h1
              have h2 := T.times_eq fs i
              have h3 := HS.out
              have h4 := HT0.out
              omega
            go_wp2
            go_ret
            obtain ⟨hf1, hf2⟩ := HF.out
            subst hf2
            exact ⟨rfl, hf1⟩

end Go.Proofs

namespace Go.Proofs
open Go.RowKit

namespace Bl
theorem own_pos {fs : List Fl} {k nd : Int} (h0 : 0 ≤ nd) (hto : ∀ f, f ∈ fs → 0 ≤ f.to) (hk : k = 1 ∨ k = 2 ∨ k = 3 ∨ k = 4 ∨ k = 5 ∨ k = 6 ∨ k = 7 ∨ k = 8 ∨ k = 9 ∨ k = 10) (i : Nat) : 0 < ownT k nd i + pickT fs k nd i ↔ i ∈ nodesL fs k nd := by
  have hp : 0 < pickT fs 6 nd i ↔ i ∈ tos fs (Nt.outsL fs nd) := by
    rw [pickT, if_pos rfl, List.length_pos_iff_exists_mem, tos, List.mem_map]
    constructor
    · rintro ⟨f, hf⟩
      obtain ⟨h1, h2⟩ := List.mem_filter.1 hf
      have hl := outs_lt h1
      rw [List.getElem?_eq_getElem hl] at h2
      refine ⟨f, h1, ?_⟩
      rw [List.getElem?_eq_getElem hl]
      simp only [Option.map_some, Option.some.injEq, decide_eq_true_eq] at h2
      simp only [Option.map_some, Option.getD_some]
      omega
    · rintro ⟨f, h1, h2⟩
      have hl := outs_lt h1
      rw [List.getElem?_eq_getElem hl] at h2
      simp only [Option.map_some, Option.getD_some] at h2
      have h3 := hto _ (List.getElem_mem hl)
      refine ⟨f, List.mem_filter.2 ⟨h1, ?_⟩⟩
      rw [List.getElem?_eq_getElem hl]
      simp only [Option.map_some, Option.some.injEq, decide_eq_true_eq]
      omega
  by_cases h6 : k = 6
  · subst h6
    rw [nodesL, if_neg (by omega), if_pos rfl, List.mem_cons, ← hp, ownT]
    split
    · rename_i h; exact ⟨fun _ => .inl (by omega), fun _ => by omega⟩
    · rename_i h
      constructor
      · intro hh; exact .inr (by omega)
      · rintro (hh | hh)
        · exfalso; exact h ⟨by omega, by omega⟩
        · omega
  · rw [pickT, if_neg h6, ownT, nodesL]
    by_cases hn : k = 2 ∨ k = 4 ∨ k = 5 ∨ k = 7 ∨ k = 8
    · rw [if_pos hn, List.mem_singleton]
      split
      · rename_i h; exact ⟨fun _ => by omega, fun _ => by omega⟩
      · rename_i h
        exact ⟨fun hh => by omega, fun hh => by exfalso; exact h ⟨by omega, by omega⟩⟩
    · rw [if_neg hn, if_neg h6, if_neg (by omega)]
      simp
theorem times_pos {ns : List Nd} {fs : List Fl} (hR : (Nt.checkN ns fs).1 = 0) : ∀ T : Bl, (T.All fun x => x.formedB ns fs = true) → ∀ i : Nat, (0 < T.times fs i ↔ i ∈ T.allN fs) := fun T =>
  Bl.rec (motive_1 := fun T => (T.All fun x => x.formedB ns fs = true) → ∀ i : Nat, (0 < T.times fs i ↔ i ∈ T.allN fs)) (motive_2 := fun l => Alls (fun x => x.formedB ns fs = true) l → ∀ i : Nat, (0 < timess fs i l ↔ i ∈ allNs fs l))
    (fun k n a ks ls ih h i => by
      have hp := formed_parts (show (Bl.mk k n a ks ls).formedB ns fs = true from h.1)
      simp only [Bl.kind, Bl.node] at hp
      have h1 := own_pos (fs := fs) (k := k) (nd := n) (by omega) (fun f hf => ((Bl.right_keeps hR).2 f hf).1) (by omega) i
      have h2 := ih h.2 i
      rw [times, allN, List.mem_append, ← h1, ← h2]
      omega)
    (fun _ i => by simp [timess, allNs])
    (fun x r i1 i2 h i => by
      have h1 := i1 h.1 i
      have h2 := i2 h.2 i
      rw [timess, allNs, List.mem_append, ← h1, ← h2]
      omega) T
/-- What BlockGrows asks of a row of two blocks. -/
theorem grows (ns : List Nd) (fs : List Fl) (a b : Bl) : ((a.leavesR ns fs).2 ≠ 0 ∨ (b.leavesR ns fs).2 ≠ 0 → ((row a b).leavesR ns fs).2 ≠ 0) ∧ (8 ≤ a.kind ∨ 8 ≤ b.kind ∨ 96 < (row a b).size ∨ 24 < (row a b).depth → ((row a b).leavesR ns fs).2 ≠ 0) ∧
    ((a.leavesR ns fs).2 = 0 → (b.leavesR ns fs).2 = 0 → a.kind ≠ 3 → b.kind ≠ 3 → ¬ (8 ≤ a.kind ∨ 8 ≤ b.kind ∨ 96 < (row a b).size ∨ 24 < (row a b).depth) →
      (((List.range ns.length).any fun i : Nat => decide (0 < a.times fs i) && decide (0 < b.times fs i)) = true ∧ ((row a b).leavesR ns fs).2 = 8) ∨
      (((List.range ns.length).any fun i : Nat => decide (0 < a.times fs i) && decide (0 < b.times fs i)) = false ∧ ((row a b).leavesR ns fs).2 = 0 ∧ ((row a b).leavesR ns fs).1 = (a.leavesR ns fs).1 + (b.leavesR ns fs).1)) := by
  refine ⟨fun h h0 => ?_, fun h h0 => ?_, fun h1 h2 k1 k2 hn => ?_⟩
  · have := row_zero (show ((row a b).standR ns fs).2 = 0 from h0)
    rcases h with h | h
    · exact h this.1
    · exact h this.2.1
  · have := row_zero (show ((row a b).standR ns fs).2 = 0 from h0)
    omega
  · have e1 : (a.standR ns fs).2 = 0 := h1
    have e2 : (b.standR ns fs).2 = 0 := h2
    have z1 := stand_zero.1 e1
    have z2 := stand_zero.1 e2
    have hany : ((List.range ns.length).any fun i : Nat => decide (0 < a.times fs i) && decide (0 < b.times fs i)) = true ↔ ∃ i, i < ns.length ∧ i ∈ a.allN fs ∧ i ∈ b.allN fs := by
      rw [List.any_eq_true]
      constructor
      · rintro ⟨i, hi, hh⟩
        rw [Bool.and_eq_true, decide_eq_true_eq, decide_eq_true_eq] at hh
        exact ⟨i, List.mem_range.1 hi, (times_pos z1.1.net a z1.1.form i).1 hh.1, (times_pos z1.1.net b z2.1.form i).1 hh.2⟩
      · rintro ⟨i, hi, g1, g2⟩
        refine ⟨i, List.mem_range.2 hi, ?_⟩
        rw [Bool.and_eq_true, decide_eq_true_eq, decide_eq_true_eq]
        exact ⟨(times_pos z1.1.net a z1.1.form i).2 g1, (times_pos z1.1.net b z2.1.form i).2 g2⟩
    rcases row_grows e1 e2 ⟨k1, by omega⟩ ⟨k2, by omega⟩ ⟨by omega, by omega⟩ with ⟨hs, he⟩ | ⟨hs, he, hc⟩
    · exact .inl ⟨hany.2 hs, he⟩
    · refine .inr ⟨?_, he, ?_⟩
      · rw [Bool.eq_false_iff]
        exact fun h => hs (hany.1 h)
      · simp only [leavesR]
        rw [if_pos he, if_pos e1, if_pos e2, show (row a b).kind = 3 from rfl, decide_eq_false (p := a.kind = 10) (by omega), decide_eq_false (p := b.kind = 10) (by omega), decide_eq_false (by omega)]
        exact hc
theorem lies_le {w : World} {B d e : Nat} (h : d ≤ e) {v lv : Value} {T : Bl} (hT : Bl.Lies w B d v lv T) : Bl.Lies w B e v lv T := by
  induction h with
  | refl => exact hT
  | step _ ih => exact ih.more
/-- A row of two blocks lies in memory where their cells lie side by side. -/
theorem row_lies {w : World} {B d d' g : Nat} {S T : Bl} {u lu v lv : Value} (hS : Bl.Lies w B d u lu S) (hT : Bl.Lies w B d' v lv T) (hg : g < B)
    (h : w.heap[g]? = some (.cells #[.int .i64 S.kind, .int .i64 S.node, .int .i64 S.arg, u, lu, .int .i64 T.kind, .int .i64 T.node, .int .i64 T.arg, v, lv] 29 (0, 0))) :
    Bl.Lies w B (d + d' + 1) (.slice (some ⟨g, 0, none⟩) 2 2) (.slice none 0 0) (row S T) := by
  refine ⟨⟨none, 0, rfl, fun j h => by simp [row, Bl.ls] at h⟩, some ⟨g, 0, none⟩, 2, rfl, .inr ⟨g, 0, rfl, hg, fun j hj => ?_⟩⟩
  have hj2 : j < 2 := by simpa [row, Bl.ks] using hj
  obtain rfl | rfl : j = 0 ∨ j = 1 := by omega
  · exact ⟨u, lu, by simp [World.cell?, h, row, Bl.ks], by simp [World.cell?, h, row, Bl.ks], by simp [World.cell?, h, row, Bl.ks], by simp [World.cell?, h], by simp [World.cell?, h], lies_le (by omega) hS⟩
  · exact ⟨v, lv, by simp [World.cell?, h, row, Bl.ks], by simp [World.cell?, h, row, Bl.ks], by simp [World.cell?, h, row, Bl.ks], by simp [World.cell?, h], by simp [World.cell?, h], lies_le (by omega) hT⟩
end Bl

end Go.Proofs
