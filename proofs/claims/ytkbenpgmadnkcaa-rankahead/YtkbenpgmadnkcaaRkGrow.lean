/-
  What RankGrows and RankAhead lean on, as plain mathematics.
-/
import Derived.Test.YtkbenpgmadnkcaaRkAll
namespace Go.Proofs

theorem Rk.filter_sub {p q : Nat → Bool} (h : ∀ x, p x = true → q x = true) (l : List Nat) : (l.filter p).Sublist (l.filter q) := by
  have e : l.filter p = (l.filter q).filter p := by
    rw [List.filter_filter]
    refine List.filter_congr fun x _ => ?_
    cases hp : p x
    · simp
    · simp [h x hp]
  rw [e]
  exact List.filter_sublist
theorem Rk.chk_tail {n : Int} {rs : List (Int × Int)} (h : Rk.chk n rs = 0) : Rk.chk n rs.tail = 0 := by
  obtain ⟨k, es, rfl, hk, rfl, hl, hes⟩ := Rk.chk_ok h
  unfold Rk.chk
  rw [if_neg (by omega), if_neg (by simp [Rk.up]; omega), if_neg]
  rw [Bool.not_eq_true, List.any_eq_false]
  intro x hx
  obtain ⟨e, he, rfl⟩ := List.mem_map.1 (List.mem_of_mem_tail hx)
  have := hes e he
  simp [Rk.outB, Rk.inB]
  omega
/-- With an edge more no less is met. -/
theorem Rk.meets_grow {n : Int} {rs : List (Int × Int)} {f : Int} (h : (Rk.meetsR n rs f).2 = 0) : (Rk.meetsR n rs.tail f).2 = 0 ∧ (Rk.meetsR n rs.tail f).1.Sublist (Rk.meetsR n rs f).1 := by
  unfold Rk.meetsR at h ⊢
  split at h
  · next h1 => exact absurd h h1
  · next h1 =>
    have h0 : Rk.chk n rs = 0 := Decidable.not_not.1 h1
    split at h
    · simp at h
    · next h2 =>
      have ht := Rk.chk_tail h0
      rw [if_neg (by simp [ht]), if_neg h2]
      rw [if_neg h1, if_neg h2]
      refine ⟨rfl, Rk.filter_sub (fun x hx => ?_) _⟩
      rw [Rk.met_iff] at hx ⊢
      refine hx.mono fun e he => ?_
      rw [Rk.down] at he ⊢
      obtain ⟨z, hz, rfl⟩ := List.mem_map.1 he
      exact List.mem_map.2 ⟨z, List.mem_of_mem_tail hz, rfl⟩
theorem Rk.meets_nil {n : Int} {rs : List (Int × Int)} {f : Int} (h : (Rk.meetsR n rs f).2 ≠ 0) : (Rk.meetsR n rs f).1 = [] := by
  unfold Rk.meetsR at h ⊢
  split
  · rfl
  · next h1 =>
    rw [if_neg h1] at h
    split
    · rfl
    · next h2 =>
      rw [if_neg h2] at h
      exact absurd rfl h

/-- What Order and Round say of one another. -/
theorem Rk.ahead_cases (n : Int) (rs : List (Int × Int)) : ((Rk.roundR n rs).2 ≠ 0 ∧ (Rk.ordR n rs).2 = (Rk.roundR n rs).2) ∨
    ((Rk.roundR n rs).2 = 0 ∧ 0 < (Rk.roundR n rs).1.length ∧ Rk.ordR n rs = ([], 7)) ∨
    ((Rk.roundR n rs).2 = 0 ∧ (Rk.roundR n rs).1.length = 0 ∧ ∃ (k : Nat) (es : List (Nat × Nat)), n = k ∧ k ≤ 64 ∧ rs = Rk.up es ∧ (∀ e, e ∈ es → e.1 < k ∧ e.2 < k) ∧ Rk.ordR n rs = (Rk.order k es, 0) ∧ (Rk.order k es).length = k) := by
  unfold Rk.roundR Rk.ordR
  by_cases h : Rk.chk n rs = 0
  · rw [if_neg (by simp [h]), if_neg (by simp [h])]
    obtain ⟨k, es, rfl, hk, rfl, hl, hes⟩ := Rk.chk_ok h
    simp only [Int.toNat_natCast, Rk.down_up]
    have hr := Rk.round_some hes
    by_cases h2 : (Rk.order k es).length < k
    · exact .inr (.inl ⟨trivial, hr.2 h2, by unfold Rk.orderR; rw [if_pos h2]⟩)
    · refine .inr (.inr ⟨trivial, by omega, k, es, rfl, hk, rfl, hes, by unfold Rk.orderR; rw [if_neg h2], ?_⟩)
      have := Rk.order_le k es
      omega
  · rw [if_pos h, if_pos h]
    exact .inl ⟨h, rfl⟩

/-- In a whole order each thing has its place, and each edge leads onward. -/
theorem Rk.places {k : Nat} {es : List (Nat × Nat)} (hes : ∀ e, e ∈ es → e.1 < k ∧ e.2 < k) (hw : (Rk.order k es).length = k) {ats : List Nat}
    (hats : ∀ (j : Nat) (h : j < (Rk.order k es).length), ats[(Rk.order k es)[j]]? = some j) : ∀ e, e ∈ es → ∃ i j, ats[e.1]? = some i ∧ ats[e.2]? = some j ∧ i < j := by
  intro e he
  obtain ⟨tk, T, _⟩ := Rk.order_took k es
  have h0 : Rk.left tk = 0 := by have := T.left; omega
  have hmem : e.2 ∈ Rk.order k es := by
    rw [← T.mem]
    unfold Rk.left at h0
    rw [List.countP_eq_zero] at h0
    have hil : e.2 < tk.length := by rw [T.len]; exact (hes e he).2
    have := h0 _ (List.getElem_mem hil)
    unfold Rk.on
    rw [List.getElem?_eq_getElem hil]
    simpa using this
  obtain ⟨j, hj⟩ := List.mem_iff_getElem?.1 hmem
  obtain ⟨i, hij, hi⟩ := T.ahead e he j hj
  obtain ⟨hjl, hj2⟩ := List.getElem?_eq_some_iff.1 hj
  obtain ⟨hil, hi2⟩ := List.getElem?_eq_some_iff.1 hi
  have qi := hats i hil
  have qj := hats j hjl
  rw [hi2] at qi
  rw [hj2] at qj
  exact ⟨i, j, qi, qj, hij⟩
theorem Rk.order_nodup (k : Nat) (es : List (Nat × Nat)) : (Rk.order k es).Nodup ∧ ∀ x, x ∈ Rk.order k es → x < k := by
  obtain ⟨tk, T, _⟩ := Rk.order_took k es
  exact ⟨T.nodup, T.lt⟩

end Go.Proofs
