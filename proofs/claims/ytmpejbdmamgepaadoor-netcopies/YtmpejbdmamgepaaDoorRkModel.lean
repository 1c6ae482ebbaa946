/-
  Graphs of numbered things as plain mathematics: what is met, what goes round, the order that takes the least free thing again and again.
-/
import Derived.Test.YtmpejbdmamgepaaDoorProg
namespace Go.Proofs

/-- From one to another one over no edge or more. -/
inductive Rk.Reach (es : List (Nat × Nat)) : Nat → Nat → Prop
  | refl (a : Nat) : Rk.Reach es a a
  | step {a b c : Nat} : Rk.Reach es a b → (b, c) ∈ es → Rk.Reach es a c
/-- From one to another one over one edge or more. -/
def Rk.Leads (es : List (Nat × Nat)) (a c : Nat) : Prop := ∃ b, Rk.Reach es a b ∧ (b, c) ∈ es
theorem Rk.Reach.trans {es : List (Nat × Nat)} {a b c : Nat} (h : Rk.Reach es a b) (k : Rk.Reach es b c) : Rk.Reach es a c := by
  induction k with
  | refl => exact h
  | step _ m ih => exact ih.step m
theorem Rk.Leads.reach {es : List (Nat × Nat)} {a c : Nat} (h : Rk.Leads es a c) : Rk.Reach es a c := by
  obtain ⟨b, h, m⟩ := h
  exact h.step m
theorem Rk.reach_iff (es : List (Nat × Nat)) (a c : Nat) : Rk.Reach es a c ↔ a = c ∨ Rk.Leads es a c := by
  constructor
  · intro h
    cases h with
    | refl => exact .inl rfl
    | step h m => exact .inr ⟨_, h, m⟩
  · rintro (rfl | h)
    · exact .refl _
    · exact h.reach
theorem Rk.Leads.cons {es : List (Nat × Nat)} {a b c : Nat} (m : (a, b) ∈ es) (h : Rk.Reach es b c) : Rk.Leads es a c := by
  rcases (Rk.reach_iff es b c).1 h with rfl | ⟨x, h1, h2⟩
  · exact ⟨a, .refl a, m⟩
  · exact ⟨x, ((Rk.Reach.refl a).step m).trans h1, h2⟩
theorem Rk.Leads.trans {es : List (Nat × Nat)} {a b c : Nat} (h : Rk.Leads es a b) (k : Rk.Leads es b c) : Rk.Leads es a c := by
  obtain ⟨x, h1, h2⟩ := k
  exact ⟨x, h.reach.trans h1, h2⟩
theorem Rk.Reach.mono {es fs : List (Nat × Nat)} (hs : ∀ e, e ∈ es → e ∈ fs) {a b : Nat} (h : Rk.Reach es a b) : Rk.Reach fs a b := by
  induction h with
  | refl => exact .refl _
  | step _ m ih => exact ih.step (hs _ m)
theorem Rk.Reach.back {es : List (Nat × Nat)} {a b : Nat} (h : Rk.Reach es a b) : Rk.Reach (es.map fun e => (e.2, e.1)) b a := by
  induction h with
  | refl => exact .refl _
  | step h m ih =>
    refine Rk.Reach.trans (.step (.refl _) (List.mem_map.2 ⟨_, m, rfl⟩)) ih
theorem Rk.back_iff (es : List (Nat × Nat)) (a b : Nat) : Rk.Reach (es.map fun e => (e.2, e.1)) b a ↔ Rk.Reach es a b := by
  constructor
  · intro h
    have := h.back
    rwa [List.map_map, show ((fun e : Nat × Nat => (e.2, e.1)) ∘ fun e : Nat × Nat => (e.2, e.1)) = id from rfl, List.map_id] at this
  · exact Rk.Reach.back
theorem Rk.Reach.lt {es : List (Nat × Nat)} {n a b : Nat} (hes : ∀ e, e ∈ es → e.1 < n ∧ e.2 < n) (h : Rk.Reach es a b) (ha : a < n) : b < n := by
  cases h with
  | refl => exact ha
  | step _ m => exact (hes _ m).2

open Classical in
/-- Is it met? -/
noncomputable def Rk.met (es : List (Nat × Nat)) (a b : Nat) : Bool := decide (Rk.Reach es a b)
open Classical in
/-- Does one lead to it, over one edge or more? -/
noncomputable def Rk.lead (es : List (Nat × Nat)) (a b : Nat) : Bool := decide (Rk.Leads es a b)
theorem Rk.met_iff (es : List (Nat × Nat)) (a b : Nat) : Rk.met es a b = true ↔ Rk.Reach es a b := by simp [Rk.met]
theorem Rk.lead_iff (es : List (Nat × Nat)) (a b : Nat) : Rk.lead es a b = true ↔ Rk.Leads es a b := by simp [Rk.lead]
theorem Rk.met_eq (es : List (Nat × Nat)) (a b : Nat) : Rk.met es a b = (decide (b = a) || Rk.lead es a b) := by
  rw [Bool.eq_iff_iff, Rk.met_iff, Rk.reach_iff, Bool.or_eq_true, Rk.lead_iff, decide_eq_true_iff]
  exact ⟨fun h => h.imp Eq.symm id, fun h => h.imp Eq.symm id⟩

/-- A set of marks, by their places. -/
abbrev Rk.on (bs : List Bool) (i : Nat) : Prop := bs[i]? = some true

theorem Rk.on_set {bs : List Bool} {i j : Nat} (hj : j < bs.length) : Rk.on (bs.set j true) i ↔ i = j ∨ Rk.on bs i := by
  unfold Rk.on
  rw [List.getElem?_set]
  by_cases h : j = i
  · subst h
    simp [hj]
  · simp [h]
    omega

/-- Marks on the way: the one itself, and only what is met. -/
def Rk.Way (es : List (Nat × Nat)) (n a : Nat) (bs : List Bool) : Prop := bs.length = n ∧ Rk.on bs a ∧ ∀ i, Rk.on bs i → Rk.Reach es a i
/-- No edge leads out of the marks. -/
def Rk.Shut (es : List (Nat × Nat)) (bs : List Bool) : Prop := ∀ e, e ∈ es → Rk.on bs e.1 → Rk.on bs e.2
theorem Rk.Way.done {es : List (Nat × Nat)} {n a : Nat} {bs : List Bool} (h : Rk.Way es n a bs) (hs : Rk.Shut es bs) : bs = (List.range n).map (Rk.met es a) := by
  have hc : ∀ i, Rk.Reach es a i → Rk.on bs i := by
    intro i hi
    induction hi with
    | refl => exact h.2.1
    | step _ m ih => exact hs _ m ih
  apply List.ext_getElem?
  intro i
  by_cases hi : i < n
  · rw [List.getElem?_map, List.getElem?_range hi]
    have hl : i < bs.length := by rw [h.1]; exact hi
    rw [List.getElem?_eq_getElem hl]
    show some _ = some _
    congr 1
    rw [Bool.eq_iff_iff, Rk.met_iff]
    constructor
    · intro hb
      exact h.2.2 i (by unfold Rk.on; rw [List.getElem?_eq_getElem hl, hb])
    · intro hr
      have := hc i hr
      unfold Rk.on at this
      rw [List.getElem?_eq_getElem hl] at this
      exact Option.some.inj this
  · rw [List.getElem?_eq_none (by rw [h.1]; omega), List.getElem?_eq_none (by simp; omega)]
theorem Rk.Way.mark {es : List (Nat × Nat)} {n a x y : Nat} {bs : List Bool} (h : Rk.Way es n a bs) (m : (x, y) ∈ es) (hx : Rk.on bs x) (hy : y < n) : Rk.Way es n a (bs.set y true) := by
  have hl : y < bs.length := by rw [h.1]; exact hy
  refine ⟨by simpa using h.1, (Rk.on_set hl).2 (.inr h.2.1), fun i hi => ?_⟩
  rcases (Rk.on_set hl).1 hi with rfl | hi
  · exact (h.2.2 x hx).step m
  · exact h.2.2 i hi
theorem Rk.Way.start (es : List (Nat × Nat)) {n a : Nat} (ha : a < n) : Rk.Way es n a ((List.replicate n false).set a true) := by
  have hl : a < (List.replicate n false).length := by simpa using ha
  refine ⟨by simp, (Rk.on_set hl).2 (.inl rfl), fun i hi => ?_⟩
  rcases (Rk.on_set hl).1 hi with rfl | hi
  · exact .refl _
  · unfold Rk.on at hi
    rw [List.getElem?_replicate] at hi
    split at hi <;> simp at hi

/-- How many are not marked. -/
def Rk.left (bs : List Bool) : Nat := bs.countP fun b => !b
theorem Rk.left_le (bs : List Bool) : Rk.left bs ≤ bs.length := List.countP_le_length
theorem Rk.left_set : ∀ (bs : List Bool) (i : Nat), bs[i]? = some false → Rk.left (bs.set i true) + 1 = Rk.left bs
  | [], i, h => by simp at h
  | b :: bs, 0, h => by
    simp at h
    subst h
    simp [Rk.left]
  | b :: bs, i + 1, h => by
    have := Rk.left_set bs i (by simpa using h)
    unfold Rk.left at *
    cases b <;> simp at * <;> omega

/-- One sweep over the edges, one behind the other. -/
def Rk.sweep : List (Nat × Nat) → List Bool → List Bool
  | [], bs => bs
  | e :: es, bs => Rk.sweep es (if bs[e.1]? = some true then bs.set e.2 true else bs)
theorem Rk.sweep_length : ∀ (es : List (Nat × Nat)) (bs : List Bool), (Rk.sweep es bs).length = bs.length
  | [], _ => rfl
  | e :: es, bs => by
    rw [Rk.sweep, Rk.sweep_length es]
    split <;> simp
theorem Rk.one_keeps (bs : List Bool) (x y i : Nat) (h : Rk.on bs i) : Rk.on (if bs[x]? = some true then bs.set y true else bs) i := by
  split
  · unfold Rk.on at *
    rw [List.getElem?_set]
    have hl : i < bs.length := (List.getElem?_eq_some_iff.1 h).1
    split
    · subst_vars; simp [hl]
    · exact h
  · exact h
theorem Rk.sweep_keeps : ∀ (es : List (Nat × Nat)) (bs : List Bool) (i : Nat), Rk.on bs i → Rk.on (Rk.sweep es bs) i
  | [], _, _, h => h
  | e :: es, bs, i, h => Rk.sweep_keeps es _ i (Rk.one_keeps bs e.1 e.2 i h)
theorem Rk.sweep_does : ∀ (es : List (Nat × Nat)) (bs : List Bool) (e : Nat × Nat), e ∈ es → e.2 < bs.length → Rk.on bs e.1 → Rk.on (Rk.sweep es bs) e.2
  | [], _, _, h, _, _ => by simp at h
  | f :: es, bs, e, h, hl, ho => by
    rcases List.mem_cons.1 h with rfl | h
    · rw [Rk.sweep]
      refine Rk.sweep_keeps es _ _ ?_
      rw [if_pos ho]
      exact (Rk.on_set hl).2 (.inl rfl)
    · rw [Rk.sweep]
      refine Rk.sweep_does es _ e h ?_ (Rk.one_keeps bs f.1 f.2 e.1 ho)
      split <;> simpa using hl
theorem Rk.sweep_only {fs : List (Nat × Nat)} {a : Nat} : ∀ (es : List (Nat × Nat)) (bs : List Bool), (∀ e, e ∈ es → e ∈ fs) → (∀ i, Rk.on bs i → Rk.Leads fs a i) → ∀ i, Rk.on (Rk.sweep es bs) i → Rk.Leads fs a i
  | [], _, _, h, i, hi => h i hi
  | e :: es, bs, hs, h, i, hi => by
    refine Rk.sweep_only es _ (fun x hx => hs x (List.mem_cons_of_mem _ hx)) (fun j hj => ?_) i hi
    split at hj
    · next hx =>
      unfold Rk.on at hj
      rw [List.getElem?_set] at hj
      split at hj
      · next he =>
        subst he
        exact ⟨e.1, (h e.1 hx).reach, hs e List.mem_cons_self⟩
      · exact h j hj
    · exact h j hj
/-- So many sweeps. -/
def Rk.sweeps (es : List (Nat × Nat)) : Nat → List Bool → List Bool
  | 0, bs => bs
  | k + 1, bs => Rk.sweeps es k (Rk.sweep es bs)
theorem Rk.sweeps_length (es : List (Nat × Nat)) : ∀ (k : Nat) (bs : List Bool), (Rk.sweeps es k bs).length = bs.length
  | 0, _ => rfl
  | k + 1, bs => by rw [Rk.sweeps, Rk.sweeps_length es k, Rk.sweep_length]
theorem Rk.sweeps_keeps (es : List (Nat × Nat)) : ∀ (k : Nat) (bs : List Bool) (i : Nat), Rk.on bs i → Rk.on (Rk.sweeps es k bs) i
  | 0, _, _, h => h
  | k + 1, bs, i, h => Rk.sweeps_keeps es k _ i (Rk.sweep_keeps es bs i h)
theorem Rk.sweeps_only {es : List (Nat × Nat)} {a : Nat} : ∀ (k : Nat) (bs : List Bool), (∀ i, Rk.on bs i → Rk.Leads es a i) → ∀ i, Rk.on (Rk.sweeps es k bs) i → Rk.Leads es a i
  | 0, _, h, i, hi => h i hi
  | k + 1, bs, h, i, hi => Rk.sweeps_only k _ (Rk.sweep_only es bs (fun _ h => h) h) i hi

theorem Rk.left_mono : ∀ (bs cs : List Bool), bs.length = cs.length → (∀ i, Rk.on bs i → Rk.on cs i) → Rk.left cs ≤ Rk.left bs ∧ (Rk.left cs = Rk.left bs → cs = bs)
  | [], [], _, _ => by simp
  | [], c :: cs, h, _ => by simp at h
  | b :: bs, [], h, _ => by simp at h
  | b :: bs, c :: cs, h, hk => by
    have ih := Rk.left_mono bs cs (by simpa using h) (fun i hi => by simpa [Rk.on] using hk (i + 1) (by simpa [Rk.on] using hi))
    have h0 := hk 0
    unfold Rk.left at *
    cases b <;> cases c <;> simp [Rk.on] at h0 ⊢ <;> first | exact ih | skip
    constructor
    · omega
    · omega
/-- As many sweeps as there are marks left: then no edge leads out. -/
theorem Rk.sweeps_shut {es : List (Nat × Nat)} : ∀ (k : Nat) (bs : List Bool), (∀ e, e ∈ es → e.2 < bs.length) → Rk.left bs ≤ k → Rk.Shut es (Rk.sweeps es k bs)
  | 0, bs, hl, hk => by
    intro e he _
    have h0 : Rk.left bs = 0 := by omega
    unfold Rk.left at h0
    rw [List.countP_eq_zero] at h0
    have hb := hl e he
    show Rk.on bs e.2
    unfold Rk.on
    rw [List.getElem?_eq_getElem hb]
    have := h0 _ (List.getElem_mem hb)
    simpa using this
  | k + 1, bs, hl, hk => by
    have hm := Rk.left_mono bs (Rk.sweep es bs) (Rk.sweep_length es bs).symm (Rk.sweep_keeps es bs)
    by_cases he : Rk.left (Rk.sweep es bs) = Rk.left bs
    · have hs := hm.2 he
      have hsh : Rk.Shut es bs := fun e hm ho => by
        have := Rk.sweep_does es bs e hm (hl e hm) ho
        rwa [hs] at this
      have hfix : ∀ j, Rk.sweeps es j bs = bs := by
        intro j
        induction j with
        | zero => rfl
        | succ j ih => rw [Rk.sweeps, hs, ih]
      rw [hfix]
      exact hsh
    · rw [Rk.sweeps]
      exact Rk.sweeps_shut k _ (fun e h => by rw [Rk.sweep_length]; exact hl e h) (by omega)
/-- The first edges' ends. -/
def Rk.first (a : Nat) : List (Nat × Nat) → List Bool → List Bool
  | [], bs => bs
  | e :: es, bs => Rk.first a es (if e.1 = a then bs.set e.2 true else bs)
theorem Rk.first_length (a : Nat) : ∀ (es : List (Nat × Nat)) (bs : List Bool), (Rk.first a es bs).length = bs.length
  | [], _ => rfl
  | e :: es, bs => by
    rw [Rk.first, Rk.first_length a es]
    split <;> simp
theorem Rk.first_iff (a : Nat) (i : Nat) : ∀ (es : List (Nat × Nat)) (bs : List Bool), (∀ e, e ∈ es → e.2 < bs.length) → (Rk.on (Rk.first a es bs) i ↔ Rk.on bs i ∨ (a, i) ∈ es)
  | [], bs, _ => by simp [Rk.first]
  | e :: es, bs, hl => by
    obtain ⟨x, y⟩ := e
    rw [Rk.first]
    by_cases hx : x = a
    · subst hx
      rw [if_pos rfl, Rk.first_iff x i es _ (fun e h => by rw [List.length_set]; exact hl e (List.mem_cons_of_mem _ h)), Rk.on_set (hl (x, y) List.mem_cons_self)]
      simp only [List.mem_cons, Prod.mk.injEq, true_and]
      constructor
      · rintro ((h | h) | h)
        · exact .inr (.inl h)
        · exact .inl h
        · exact .inr (.inr h)
      · rintro (h | h | h)
        · exact .inl (.inr h)
        · exact .inl (.inl h)
        · exact .inr h
    · rw [if_neg hx, Rk.first_iff a i es _ (fun e h => hl e (List.mem_cons_of_mem _ h))]
      simp only [List.mem_cons, Prod.mk.injEq]
      constructor
      · rintro (h | h)
        · exact .inl h
        · exact .inr (.inr h)
      · rintro (h | ⟨h, _⟩ | h)
        · exact .inl h
        · exact absurd h.symm hx
        · exact .inr h
/-- The document's Leads: the ends of the first edges, then n sweeps. -/
theorem Rk.sweeps_eq {es : List (Nat × Nat)} {n : Nat} (hes : ∀ e, e ∈ es → e.1 < n ∧ e.2 < n) (a : Nat) :
    Rk.sweeps es n (Rk.first a es (List.replicate n false)) = (List.range n).map (Rk.lead es a) := by
  have hf := fun i => Rk.first_iff a i es (List.replicate n false) (fun e h => by simpa using (hes e h).2)
  have hfl : (Rk.first a es (List.replicate n false)).length = n := by rw [Rk.first_length]; simp
  have hno : ∀ i, ¬ Rk.on (List.replicate n false) i := by
    intro i h
    unfold Rk.on at h
    rw [List.getElem?_replicate] at h
    split at h <;> simp at h
  have honly : ∀ i, Rk.on (Rk.sweeps es n (Rk.first a es (List.replicate n false))) i → Rk.Leads es a i :=
    Rk.sweeps_only n _ (fun i hi => by
      rcases (hf i).1 hi with h | h
      · exact absurd h (hno i)
      · exact ⟨a, .refl a, h⟩)
  have hshut := Rk.sweeps_shut (es := es) n (Rk.first a es (List.replicate n false)) (fun e h => by rw [hfl]; exact (hes e h).2) (by have := Rk.left_le (Rk.first a es (List.replicate n false)); omega)
  have hfirst : ∀ i, (a, i) ∈ es → Rk.on (Rk.sweeps es n (Rk.first a es (List.replicate n false))) i := fun i h => Rk.sweeps_keeps es n _ i ((hf i).2 (.inr h))
  have hall : ∀ i, Rk.Leads es a i → Rk.on (Rk.sweeps es n (Rk.first a es (List.replicate n false))) i := by
    rintro i ⟨b, hr, m⟩
    have : b = a ∨ Rk.on (Rk.sweeps es n (Rk.first a es (List.replicate n false))) b := by
      clear m
      induction hr with
      | refl => exact .inl rfl
      | step _ m ih =>
        rcases ih with rfl | ih
        · exact .inr (hfirst _ m)
        · exact .inr (hshut _ m ih)
    rcases this with rfl | h
    · exact hfirst _ m
    · exact hshut _ m h
  have hlen : (Rk.sweeps es n (Rk.first a es (List.replicate n false))).length = n := by rw [Rk.sweeps_length, hfl]
  apply List.ext_getElem?
  intro i
  by_cases hi : i < n
  · rw [List.getElem?_map, List.getElem?_range hi]
    have hl : i < (Rk.sweeps es n (Rk.first a es (List.replicate n false))).length := by rw [hlen]; exact hi
    rw [List.getElem?_eq_getElem hl]
    show some _ = some _
    congr 1
    rw [Bool.eq_iff_iff, Rk.lead_iff]
    constructor
    · intro hb
      exact honly i (by unfold Rk.on; rw [List.getElem?_eq_getElem hl, hb])
    · intro hr
      have := hall i hr
      unfold Rk.on at this
      rw [List.getElem?_eq_getElem hl] at this
      exact Option.some.inj this
  · rw [List.getElem?_eq_none (by rw [hlen]; omega), List.getElem?_eq_none (by simp; omega)]

end Go.Proofs
