/-
  Offices as plain mathematics: a list of keys with their boxes; what a map that holds them tells.
-/
import Derived.Test.YtdclfmmmlicaaaaTmModel
import Derived.Maps.OwnSet
import Derived.Lib.Hide
import Derived.Shelf.SlIterI.Nil
namespace Go.Proofs
open Go.RowKit Go.Shelf Go.Maps

/-- A box: how many wait of each of the four messages. -/
abbrev Bx := Int × Int × Int × Int
def Bx.none : Bx := (0, 0, 0, 0)
/-- How many wait of message m. -/
def Bx.at (x : Bx) (m : Int) : Int := if m = 0 then x.1 else if m = 1 then x.2.1 else if m = 2 then x.2.2.1 else x.2.2.2
def Bx.put (x : Bx) (m v : Int) : Bx := if m = 0 then (v, x.2.1, x.2.2.1, x.2.2.2) else if m = 1 then (x.1, v, x.2.2.1, x.2.2.2) else if m = 2 then (x.1, x.2.1, v, x.2.2.2) else (x.1, x.2.1, x.2.2.1, v)
def Bx.val (x : Bx) : Value := .agg #[.int .i64 x.1, .int .i64 x.2.1, .int .i64 x.2.2.1, .int .i64 x.2.2.2]
theorem Bx.val_inj {x y : Bx} (h : Bx.val x = Bx.val y) : x = y := by
  obtain ⟨a, b, c, d⟩ := x
  obtain ⟨a', b', c', d'⟩ := y
  simp [Bx.val] at h
  simp [h]

open Classical in
/-- How a box's value reads. -/
noncomputable def Ps.R (v : Value) : Option (DataW Bx × List MemPlace) := if h : ∃ x, v = Bx.val x then some (.held h.choose, []) else Option.none
theorem Ps.R_val (x : Bx) : Ps.R (Bx.val x) = some (.held x, []) := by
  have h : ∃ y, Bx.val x = Bx.val y := ⟨x, rfl⟩
  unfold Ps.R
  rw [dif_pos h, ← Bx.val_inj h.choose_spec]
theorem Ps.R_inv {v : Value} {z : DataW Bx × List MemPlace} (h : Ps.R v = some z) : ∃ x, v = Bx.val x ∧ z = (.held x, []) := by
  unfold Ps.R at h
  split at h
  · rename_i hx
    cases h
    exact ⟨_, hx.choose_spec, rfl⟩
  · cases h

/-- An office: its keys with their boxes, in the order in which they were opened. -/
abbrev Ps.Ofc := List (Int × Bx)
def Ps.key (M : Ps.Ofc) : List Int := M.map (·.1)
/-- Is there a box? -/
def Ps.has (M : Ps.Ofc) (k : Int) : Bool := M.any fun p => decide (p.1 = k)
/-- What waits there. -/
def Ps.get (M : Ps.Ofc) (k : Int) : Bx := match M.find? (fun p => decide (p.1 = k)) with | some p => p.2 | Option.none => Bx.none
/-- Another box for a key. -/
def Ps.set (M : Ps.Ofc) (k : Int) (x : Bx) : Ps.Ofc := M.map fun p => if p.1 = k then (p.1, x) else p
def Ps.cut (M : Ps.Ofc) (k : Int) : Ps.Ofc := M.filter fun p => !decide (p.1 = k)
def Ps.ent (p : Int × Bx) : Lit × DataW Bx := (.int .i64 p.1, .held p.2)

theorem Ps.has_iff {M : Ps.Ofc} {k : Int} : Ps.has M k = true ↔ k ∈ Ps.key M := by
  simp [Ps.has, Ps.key]
theorem Ps.key_set (M : Ps.Ofc) (k : Int) (x : Bx) : Ps.key (Ps.set M k x) = Ps.key M := by
  simp only [Ps.key, Ps.set, List.map_map]
  refine List.map_congr_left fun p _ => ?_
  simp only [Function.comp]
  split <;> rfl
theorem Ps.len_set (M : Ps.Ofc) (k : Int) (x : Bx) : (Ps.set M k x).length = M.length := by simp [Ps.set]
theorem Ps.has_set (M : Ps.Ofc) (k k' : Int) (x : Bx) : Ps.has (Ps.set M k x) k' = Ps.has M k' := by
  rw [Bool.eq_iff_iff, Ps.has_iff, Ps.has_iff, Ps.key_set]
theorem Ps.get_cons (p : Int × Bx) (M : Ps.Ofc) (k : Int) : Ps.get (p :: M) k = if p.1 = k then p.2 else Ps.get M k := by
  unfold Ps.get
  rw [List.find?_cons]
  by_cases h : p.1 = k <;> simp [h]
theorem Ps.get_set (M : Ps.Ofc) (k k' : Int) (x : Bx) : Ps.get (Ps.set M k x) k' = if Ps.has M k && decide (k' = k) then x else Ps.get M k' := by
  induction M with
  | nil => simp [Ps.set, Ps.has]
  | cons p M ih =>
    have e : Ps.set (p :: M) k x = (if p.1 = k then (p.1, x) else p) :: Ps.set M k x := rfl
    have h : Ps.has (p :: M) k = (decide (p.1 = k) || Ps.has M k) := rfl
    rw [e, Ps.get_cons, Ps.get_cons, ih, h]
    by_cases h1 : p.1 = k
    · by_cases h2 : k' = k
      · simp [h1, h2]
      · have h3 : ¬ k = k' := fun e => h2 e.symm
        simp [h1, h2, h3]
    · by_cases h2 : k' = k
      · subst h2
        simp [h1]
      · simp [h1, h2]
theorem Ps.has_cut (M : Ps.Ofc) (k k' : Int) : Ps.has (Ps.cut M k) k' = (Ps.has M k' && !decide (k' = k)) := by
  rw [Bool.eq_iff_iff]
  simp only [Ps.has, Ps.cut, List.any_eq_true, List.mem_filter, decide_eq_true_eq, Bool.and_eq_true, Bool.not_eq_true', decide_eq_false_iff_not]
  constructor
  · rintro ⟨p, ⟨h1, h2⟩, rfl⟩
    exact ⟨⟨p, h1, rfl⟩, h2⟩
  · rintro ⟨⟨p, h1, rfl⟩, h2⟩
    exact ⟨p, ⟨h1, h2⟩, rfl⟩
theorem Ps.get_cut (M : Ps.Ofc) (k k' : Int) : Ps.get (Ps.cut M k) k' = if k' = k then Bx.none else Ps.get M k' := by
  induction M with
  | nil => simp [Ps.cut, Ps.get]
  | cons p M ih =>
    have e : Ps.cut (p :: M) k = if p.1 = k then Ps.cut M k else p :: Ps.cut M k := by
      simp only [Ps.cut, List.filter_cons]
      by_cases h : p.1 = k <;> simp [h]
    rw [e, Ps.get_cons]
    by_cases h1 : p.1 = k
    · rw [if_pos h1, ih]
      by_cases h2 : k' = k
      · simp [h2]
      · have h3 : ¬ k = k' := fun e => h2 e.symm
        simp [h1, h2, h3]
    · rw [if_neg h1, Ps.get_cons, ih]
      by_cases h2 : k' = k
      · subst h2
        simp [h1]
      · simp [h2]
theorem Ps.has_add (M : Ps.Ofc) (k k' : Int) (x : Bx) : Ps.has (M ++ [(k, x)]) k' = (Ps.has M k' || decide (k = k')) := by
  simp [Ps.has]
theorem Ps.get_add (M : Ps.Ofc) (k k' : Int) : Ps.get (M ++ [(k, Bx.none)]) k' = Ps.get M k' := by
  induction M with
  | nil =>
    rw [List.nil_append, Ps.get_cons]
    split <;> rfl
  | cons p M ih => rw [List.cons_append, Ps.get_cons, Ps.get_cons, ih]
theorem Ps.get_none {M : Ps.Ofc} {k : Int} (h : Ps.has M k = false) : Ps.get M k = Bx.none := by
  induction M with
  | nil => rfl
  | cons p M ih =>
    have e : Ps.has (p :: M) k = (decide (p.1 = k) || Ps.has M k) := rfl
    rw [e, Bool.or_eq_false_iff] at h
    rw [Ps.get_cons, if_neg (by simpa using h.1), ih h.2]

/-- A map that holds an office. -/
def Ps.Is (D : DataW Bx) (M : Ps.Ofc) : Prop := (Ps.key M).Nodup ∧ ∃ es, D = .map es ∧ es.Perm (M.map Ps.ent)
theorem Ps.is_nil : Ps.Is (.map []) [] := ⟨by simp [Ps.key], [], rfl, by simp⟩
theorem Ps.Is.size {D : DataW Bx} {M : Ps.Ofc} (h : Ps.Is D M) : Maps.size D = M.length := by
  obtain ⟨_, es, rfl, hp⟩ := h
  simpa [Maps.size] using hp.length_eq
theorem Ps.sameKey (a b : Int) : (Lit.int .i64 a).sameKey (.int .i64 b) = decide (a = b) := by simp [Lit.sameKey]
theorem Ps.Is.has {D : DataW Bx} {M : Ps.Ofc} (h : Ps.Is D M) (k : Int) : Maps.has D (.int .i64 k) = Ps.has M k := by
  obtain ⟨_, es, rfl, hp⟩ := h
  rw [Maps.has_eq, Bool.eq_iff_iff, List.any_eq_true, Ps.has, List.any_eq_true]
  constructor
  · rintro ⟨p, h1, h2⟩
    obtain ⟨q, hq, rfl⟩ := List.mem_map.1 (hp.mem_iff.1 h1)
    exact ⟨q, hq, by rw [← Ps.sameKey]; exact h2⟩
  · rintro ⟨q, hq, h2⟩
    exact ⟨Ps.ent q, hp.mem_iff.2 (List.mem_map.2 ⟨q, hq, rfl⟩), by rw [Ps.ent, Ps.sameKey]; exact h2⟩
theorem Ps.get_mem {M : Ps.Ofc} (hn : (Ps.key M).Nodup) {q : Int × Bx} (hq : q ∈ M) : Ps.get M q.1 = q.2 := by
  induction M with
  | nil => cases hq
  | cons p M ih =>
    rw [Ps.get_cons]
    have hn' : p.1 ∉ Ps.key M ∧ (Ps.key M).Nodup := by simpa [Ps.key] using hn
    rcases List.mem_cons.1 hq with rfl | hq'
    · simp
    · rw [if_neg ?_, ih hn'.2 hq']
      intro e
      exact hn'.1 (by rw [e]; exact List.mem_map.2 ⟨q, hq', rfl⟩)
theorem Ps.Is.atKey {D : DataW Bx} {M : Ps.Ofc} (h : Ps.Is D M) (k : Int) : D.atKey (.int .i64 k) (.held Bx.none) = .held (Ps.get M k) := by
  have hh := h.has k
  obtain ⟨hn, es, rfl, hp⟩ := h
  rw [Maps.has_eq] at hh
  simp only [DataW.atKey]
  cases hf : es.find? (fun p => p.1.sameKey (.int .i64 k)) with
  | none =>
    rw [List.find?_eq_none] at hf
    have : Ps.has M k = false := by
      rw [← hh]
      rw [List.any_eq_false]
      exact hf
    rw [Ps.get_none this]
  | some p =>
    have h1 := List.mem_of_find?_eq_some hf
    have h2 := List.find?_some hf
    obtain ⟨q, hq, rfl⟩ := List.mem_map.1 (hp.mem_iff.1 h1)
    have h3 : q.1 = k := by simpa [Ps.ent, Ps.sameKey] using h2
    subst h3
    rw [Ps.get_mem hn hq]
    rfl
theorem Ps.Is.del {D : DataW Bx} {M : Ps.Ofc} (h : Ps.Is D M) (k : Int) : Ps.Is (D.del (.int .i64 k)) (Ps.cut M k) := by
  obtain ⟨hn, es, rfl, hp⟩ := h
  refine ⟨hn.sublist (List.filter_sublist.map _), _, rfl, ?_⟩
  refine (hp.filter _).trans ?_
  rw [List.filter_map]
  refine List.Perm.of_eq (congrArg _ (List.filter_congr fun p _ => ?_))
  simp [Ps.ent, Ps.sameKey]
theorem Ps.Is.put_new {D : DataW Bx} {M : Ps.Ofc} (h : Ps.Is D M) (k : Int) (x : Bx) (hk : Ps.has M k = false) : Ps.Is (D.put (.int .i64 k) (.held x)) (M ++ [(k, x)]) := by
  have hm : k ∉ Ps.key M := fun e => by rw [Ps.has_iff.2 e] at hk; cases hk
  have hc : Ps.cut M k = M := by
    refine List.filter_eq_self.2 fun p hp => ?_
    have : p.1 ≠ k := fun e => hm (by rw [← e]; exact List.mem_map.2 ⟨p, hp, rfl⟩)
    simp [this]
  obtain ⟨_, es, he, hp⟩ := h.del k
  obtain ⟨hn0, es0, rfl, _⟩ := h
  refine ⟨?_, _, rfl, ?_⟩
  · simp only [Ps.key, List.map_append, List.map_cons, List.map_nil]
    rw [List.nodup_append]
    refine ⟨hn0, by simp, fun a ha b hb => ?_⟩
    have : b = k := by simpa using hb
    subst this
    intro e
    exact hm (by rw [← e]; exact ha)
  · refine (Go.WideShapes.insert_perm _ _).trans ?_
    have h2 : (es0.filter fun p => !p.1.sameKey (.int .i64 k)).Perm (M.map Ps.ent) := by
      have he' : es0.filter (fun p => !p.1.sameKey (.int .i64 k)) = es := by simpa [DataW.del] using he
      rw [he', ← hc]
      exact hp
    rw [List.map_append]
    exact (h2.cons _).trans (List.perm_append_singleton _ _).symm
theorem Ps.set_perm {M : Ps.Ofc} (hn : (Ps.key M).Nodup) {k : Int} (hk : Ps.has M k = true) (x : Bx) : ((k, x) :: Ps.cut M k).Perm (Ps.set M k x) := by
  induction M with
  | nil => cases hk
  | cons p M ih =>
    have hn' : p.1 ∉ Ps.key M ∧ (Ps.key M).Nodup := by simpa [Ps.key] using hn
    have e1 : Ps.cut (p :: M) k = if p.1 = k then Ps.cut M k else p :: Ps.cut M k := by
      simp only [Ps.cut, List.filter_cons]
      by_cases h : p.1 = k <;> simp [h]
    have e2 : Ps.set (p :: M) k x = (if p.1 = k then (p.1, x) else p) :: Ps.set M k x := rfl
    by_cases h : p.1 = k
    · rw [e1, e2, if_pos h, if_pos h, h]
      have hm : k ∉ Ps.key M := by rw [← h]; exact hn'.1
      have c1 : Ps.cut M k = M := by
        refine List.filter_eq_self.2 fun q hq => ?_
        have : q.1 ≠ k := fun e => hm (by rw [← e]; exact List.mem_map.2 ⟨q, hq, rfl⟩)
        simp [this]
      have c2 : Ps.set M k x = M := by
        refine (List.map_congr_left fun q hq => ?_).trans (List.map_id M)
        have : q.1 ≠ k := fun e => hm (by rw [← e]; exact List.mem_map.2 ⟨q, hq, rfl⟩)
        rw [if_neg this]; rfl
      rw [c1, c2]
    · rw [e1, e2, if_neg h, if_neg h]
      have hk' : Ps.has M k = true := by
        have : Ps.has (p :: M) k = (decide (p.1 = k) || Ps.has M k) := rfl
        rw [this] at hk
        simpa [h] using hk
      exact (List.Perm.swap _ _ _).trans ((ih hn'.2 hk').cons _)
theorem Ps.Is.put_old {D : DataW Bx} {M : Ps.Ofc} (h : Ps.Is D M) (k : Int) (x : Bx) (hk : Ps.has M k = true) : Ps.Is (D.put (.int .i64 k) (.held x)) (Ps.set M k x) := by
  obtain ⟨_, es, he, hp⟩ := h.del k
  obtain ⟨hn0, es0, rfl, _⟩ := h
  refine ⟨by rw [Ps.key_set]; exact hn0, _, rfl, ?_⟩
  have he' : es0.filter (fun p => !p.1.sameKey (.int .i64 k)) = es := by simpa [DataW.del] using he
  refine (Go.WideShapes.insert_perm _ _).trans ?_
  rw [he']
  refine (hp.cons _).trans ?_
  have := (Ps.set_perm hn0 hk x).map Ps.ent
  exact this
theorem Ps.Is.keys {D : DataW Bx} {M : Ps.Ofc} (h : Ps.Is D M) : (Go.intKeys D).Perm (Ps.key M) := by
  obtain ⟨_, es, rfl, hp⟩ := h
  refine (hp.map fun p => Go.intOf p.1).trans ?_
  rw [List.map_map]
  exact List.Perm.of_eq rfl

end Go.Proofs
