/-
  The order that takes the least free thing again and again, as plain mathematics: it is whole just if nothing goes round, and then each edge leads onward.
-/
import Derived.Test.YtkbenpgmadnkcaaRkModel
namespace Go.Proofs

/-- Is all taken that leads to it? -/
def Rk.freeB (es : List (Nat × Nat)) (tk : List Bool) (i : Nat) : Bool := !(es.any fun e => decide (e.2 = i) && !(tk[e.1]?.getD false))
/-- May it be taken next? -/
def Rk.nextB (es : List (Nat × Nat)) (tk : List Bool) (i : Nat) : Bool := !(tk[i]?.getD false) && Rk.freeB es tk i
/-- Taking so often. -/
def Rk.go (n : Nat) (es : List (Nat × Nat)) : Nat → List Bool → List Nat → List Nat
  | 0, _, o => o
  | k + 1, tk, o => match (List.range n).find? (Rk.nextB es tk) with
    | none => o
    | some i => Rk.go n es k (tk.set i true) (o ++ [i])
/-- The order, as far as it goes. -/
def Rk.order (n : Nat) (es : List (Nat × Nat)) : List Nat := Rk.go n es n (List.replicate n false) []

theorem Rk.go_none {n : Nat} {es : List (Nat × Nat)} {tk : List Bool} (h : (List.range n).find? (Rk.nextB es tk) = none) (k : Nat) (o : List Nat) : Rk.go n es k tk o = o := by
  cases k with
  | zero => rfl
  | succ k => rw [Rk.go, h]
theorem Rk.go_some {n i : Nat} {es : List (Nat × Nat)} {tk : List Bool} (h : (List.range n).find? (Rk.nextB es tk) = some i) (k : Nat) (o : List Nat) : Rk.go n es (k + 1) tk o = Rk.go n es k (tk.set i true) (o ++ [i]) := by
  rw [Rk.go, h]

/-- What holds all the while. -/
structure Rk.Took (n : Nat) (es : List (Nat × Nat)) (tk : List Bool) (o : List Nat) : Prop where
  len : tk.length = n
  mem : ∀ i, Rk.on tk i ↔ i ∈ o
  nodup : o.Nodup
  lt : ∀ i, i ∈ o → i < n
  ahead : ∀ e, e ∈ es → ∀ j : Nat, o[j]? = some e.2 → ∃ k : Nat, k < j ∧ o[k]? = some e.1
  left : Rk.left tk + o.length = n

theorem Rk.find_range {n i : Nat} {p : Nat → Bool} (h : (List.range n).find? p = some i) : i < n ∧ p i = true :=
  ⟨List.mem_range.1 (List.mem_of_find?_eq_some h), List.find?_some h⟩
theorem Rk.next_fresh {n i : Nat} {es : List (Nat × Nat)} {tk : List Bool} (hl : tk.length = n) (h : (List.range n).find? (Rk.nextB es tk) = some i) : i < n ∧ tk[i]? = some false ∧ ∀ e, e ∈ es → e.2 = i → Rk.on tk e.1 := by
  obtain ⟨hi, hp⟩ := Rk.find_range h
  have hil : i < tk.length := by omega
  simp only [Rk.nextB, Rk.freeB, Bool.and_eq_true, Bool.not_eq_true', List.any_eq_false, Bool.and_eq_true, decide_eq_true_eq, not_and, Bool.not_eq_true', Bool.not_eq_false] at hp
  refine ⟨hi, ?_, fun e he h2 => ?_⟩
  · have := hp.1
    rw [List.getElem?_eq_getElem hil] at this ⊢
    simpa using this
  · have := hp.2 e he h2
    unfold Rk.on
    cases hx : tk[e.1]? with
    | none => rw [hx] at this; simp at this
    | some b => rw [hx] at this; simp at this; rw [this]

theorem Rk.Took.next {n i : Nat} {es : List (Nat × Nat)} {tk : List Bool} {o : List Nat} (T : Rk.Took n es tk o) (h : (List.range n).find? (Rk.nextB es tk) = some i) : Rk.Took n es (tk.set i true) (o ++ [i]) := by
  obtain ⟨hi, hf, hfr⟩ := Rk.next_fresh T.len h
  have hni : i ∉ o := fun hm => by
    have := (T.mem i).2 hm
    unfold Rk.on at this
    rw [hf] at this
    simp at this
  have hil : i < tk.length := by rw [T.len]; exact hi
  refine ⟨by simp [T.len], fun j => ?_, ?_, ?_, ?_, ?_⟩
  · rw [Rk.on_set hil, T.mem j, List.mem_append, List.mem_singleton]
    exact ⟨fun h => h.elim .inr .inl, fun h => h.elim .inr .inl⟩
  · rw [List.nodup_append]
    refine ⟨T.nodup, by simp, ?_⟩
    intro a ha b hb
    rw [List.mem_singleton] at hb
    subst hb
    intro hab
    subst hab
    exact hni ha
  · intro j hj
    rcases List.mem_append.1 hj with hj | hj
    · exact T.lt j hj
    · rw [List.mem_singleton] at hj
      omega
  · intro e he j hj
    by_cases hjl : j < o.length
    · rw [List.getElem?_append_left hjl] at hj
      obtain ⟨k, hk, h2⟩ := T.ahead e he j hj
      exact ⟨k, hk, by rw [List.getElem?_append_left (by omega)]; exact h2⟩
    · rw [List.getElem?_append_right (by omega)] at hj
      have hj0 : j - o.length = 0 := by
        rcases Nat.eq_zero_or_pos (j - o.length) with h | h
        · exact h
        · rw [List.getElem?_eq_none (by simp; omega)] at hj
          simp at hj
      rw [hj0] at hj
      have hie : e.2 = i := by simpa using hj.symm
      have hm := (T.mem e.1).1 (hfr e he hie)
      obtain ⟨k, hk⟩ := List.mem_iff_getElem?.1 hm
      have hkl : k < o.length := (List.getElem?_eq_some_iff.1 hk).1
      exact ⟨k, by omega, by rw [List.getElem?_append_left hkl]; exact hk⟩
  · have := Rk.left_set tk i hf
    have := T.left
    simp
    omega
theorem Rk.left_all : ∀ (n : Nat), Rk.left (List.replicate n false) = n
  | 0 => rfl
  | n + 1 => by
    have := Rk.left_all n
    unfold Rk.left at *
    rw [List.replicate_succ, List.countP_cons]
    simp [this]
theorem Rk.Took.start (n : Nat) (es : List (Nat × Nat)) : Rk.Took n es (List.replicate n false) [] := by
  refine ⟨by simp, fun i => ?_, by simp, by simp, by simp, by simp [Rk.left_all]⟩
  simp only [Rk.on, List.getElem?_replicate, List.not_mem_nil, iff_false]
  split <;> simp
/-- The end of the taking. -/
theorem Rk.Took.go {n : Nat} {es : List (Nat × Nat)} : ∀ (k : Nat) (tk : List Bool) (o : List Nat), Rk.Took n es tk o → Rk.left tk ≤ k →
    ∃ tk', Rk.Took n es tk' (Rk.go n es k tk o) ∧ (List.range n).find? (Rk.nextB es tk') = none
  | 0, tk, o, T, hk => by
    refine ⟨tk, T, ?_⟩
    rw [List.find?_eq_none]
    intro i hi hp
    have h0 : Rk.left tk = 0 := by omega
    unfold Rk.left at h0
    rw [List.countP_eq_zero] at h0
    have hil : i < tk.length := by rw [T.len]; exact List.mem_range.1 hi
    have := h0 _ (List.getElem_mem hil)
    simp [Rk.nextB, List.getElem?_eq_getElem hil] at hp
    simp [hp.1] at this
  | k + 1, tk, o, T, hk => by
    cases h : (List.range n).find? (Rk.nextB es tk) with
    | none => exact ⟨tk, by rw [Rk.go_none h]; exact T, h⟩
    | some i =>
      rw [Rk.go_some h]
      have := Rk.left_set tk i (Rk.next_fresh T.len h).2.1
      exact Rk.Took.go k _ _ (T.next h) (by omega)
theorem Rk.order_took (n : Nat) (es : List (Nat × Nat)) : ∃ tk, Rk.Took n es tk (Rk.order n es) ∧ (List.range n).find? (Rk.nextB es tk) = none :=
  Rk.Took.go n _ _ (Rk.Took.start n es) (by rw [Rk.left_all]; exact Nat.le_refl _)

theorem Rk.countP_lt {p q : Nat → Bool} : ∀ (l : List Nat), (∀ x, x ∈ l → p x = true → q x = true) → (∃ x, x ∈ l ∧ q x = true ∧ p x = false) → l.countP p < l.countP q
  | [], _, h => by obtain ⟨x, hx, _⟩ := h; simp at hx
  | a :: l, h, hx => by
    have hl : ∀ x, x ∈ l → p x = true → q x = true := fun x hx => h x (List.mem_cons_of_mem _ hx)
    have hle : l.countP p ≤ l.countP q := List.countP_mono_left hl
    have ha := h a List.mem_cons_self
    rw [List.countP_cons, List.countP_cons]
    obtain ⟨x, hx, hq, hp⟩ := hx
    rcases List.mem_cons.1 hx with rfl | hx
    · simp [hq, hp]
      omega
    · have := Rk.countP_lt l hl ⟨x, hx, hq, hp⟩
      cases hpa : p a
      · simp
        split <;> omega
      · simp [ha hpa]
        omega

/-- Where each of some has one of them that leads to it, one goes round. -/
theorem Rk.goes_round {n : Nat} {es : List (Nat × Nat)} (hes : ∀ e, e ∈ es → e.1 < n ∧ e.2 < n) (U : Nat → Prop) (hU : ∀ i, U i → ∃ j, U j ∧ (j, i) ∈ es) : ∀ (k i : Nat), U i → (List.range n).countP (fun y => Rk.lead es y i) ≤ k → ∃ x, x < n ∧ Rk.Leads es x x := by
  intro k
  induction k with
  | zero =>
    intro i hi hk
    obtain ⟨j, _, m⟩ := hU i hi
    have h0 : (List.range n).countP (fun y => Rk.lead es y i) = 0 := by omega
    rw [List.countP_eq_zero] at h0
    exact absurd ((Rk.lead_iff es j i).2 ⟨j, .refl j, m⟩) (h0 j (List.mem_range.2 (hes _ m).1))
  | succ k ih =>
    intro i hi hk
    obtain ⟨j, hj, m⟩ := hU i hi
    by_cases hc : Rk.Leads es j j
    · exact ⟨j, (hes _ m).1, hc⟩
    · have hlt : (List.range n).countP (fun y => Rk.lead es y j) < (List.range n).countP (fun y => Rk.lead es y i) := by
        refine Rk.countP_lt _ (fun x _ hx => ?_) ⟨j, List.mem_range.2 (hes _ m).1, (Rk.lead_iff es j i).2 ⟨j, .refl j, m⟩, ?_⟩
        · exact (Rk.lead_iff es x i).2 ⟨j, ((Rk.lead_iff es x j).1 hx).reach, m⟩
        · rw [Bool.eq_false_iff]
          intro h
          exact hc ((Rk.lead_iff es j j).1 h)
      exact ih j hj (by omega)

/-- The order is whole just if nothing goes round. -/
theorem Rk.order_whole {n : Nat} {es : List (Nat × Nat)} (hes : ∀ e, e ∈ es → e.1 < n ∧ e.2 < n) : (Rk.order n es).length < n ↔ ∃ x, x < n ∧ Rk.Leads es x x := by
  obtain ⟨tk, T, hn⟩ := Rk.order_took n es
  constructor
  · intro hl
    have hpos : 0 < Rk.left tk := by have := T.left; omega
    unfold Rk.left at hpos
    rw [List.countP_pos_iff] at hpos
    obtain ⟨b, hb, hb2⟩ := hpos
    obtain ⟨i, hi⟩ := List.mem_iff_getElem?.1 hb
    have hbf : b = false := by simpa using hb2
    subst hbf
    refine Rk.goes_round hes (fun i => tk[i]? = some false) (fun i hi => ?_) _ i hi (Nat.le_refl _)
    have hil : i < n := by rw [← T.len]; exact (List.getElem?_eq_some_iff.1 hi).1
    rw [List.find?_eq_none] at hn
    have hx := hn i (List.mem_range.2 hil)
    simp only [Rk.nextB, hi, Rk.freeB, Option.getD_some, Bool.not_false, Bool.true_and, Bool.not_eq_true', Bool.not_eq_false, List.any_eq_true, Bool.and_eq_true, decide_eq_true_eq] at hx
    obtain ⟨e, he, h2, h3⟩ := hx
    refine ⟨e.1, ?_, by rw [← h2]; exact he⟩
    have hel : e.1 < tk.length := by rw [T.len]; exact (hes e he).1
    rw [List.getElem?_eq_getElem hel] at h3 ⊢
    simpa using h3
  · rintro ⟨x, hx, hc⟩
    by_cases hl : (Rk.order n es).length < n
    · exact hl
    · exfalso
      have h0 : Rk.left tk = 0 := by have := T.left; omega
      have hall : ∀ i, i < n → i ∈ Rk.order n es := by
        intro i hi
        rw [← T.mem i]
        unfold Rk.left at h0
        rw [List.countP_eq_zero] at h0
        have hil : i < tk.length := by rw [T.len]; exact hi
        have := h0 _ (List.getElem_mem hil)
        unfold Rk.on
        rw [List.getElem?_eq_getElem hil]
        simpa using this
      have hr : ∀ a b, Rk.Reach es a b → ∀ j : Nat, (Rk.order n es)[j]? = some b → ∃ k : Nat, k ≤ j ∧ (Rk.order n es)[k]? = some a := by
        intro a b h
        induction h with
        | refl => exact fun j hj => ⟨j, Nat.le_refl _, hj⟩
        | step _ m ih =>
          intro j hj
          obtain ⟨k, hk, h2⟩ := T.ahead _ m j hj
          obtain ⟨k', hk', h3⟩ := ih k h2
          exact ⟨k', by omega, h3⟩
      obtain ⟨b, h1, m⟩ := hc
      obtain ⟨j, hj⟩ := List.mem_iff_getElem?.1 (hall x hx)
      obtain ⟨k, hk, h2⟩ := T.ahead _ m j hj
      obtain ⟨k', hk', h3⟩ := hr x b h1 k h2
      have hjl : j < (Rk.order n es).length := (List.getElem?_eq_some_iff.1 hj).1
      have := (List.getElem?_inj hjl T.nodup).1 (hj.trans h3.symm)
      omega

end Go.Proofs
