/-
  infix: what is true of all tokens; how much of the tokens a parsed term is: plain mathematics.
-/
import Derived.Test.YtehmmfmofdgheaaDoorIxTokens
namespace Go.Proofs
open Go.RowKit

namespace Ix
theorem toks_all (P : K → Prop) (hP : ∀ l : List UInt8, l ≠ [] → (firstR l).1 ≠ 0 → P (firstR l)) : ∀ (n a : Nat) (l : List UInt8) (L : List Tok), toksF n a l = .ok L → ∀ x ∈ L, P (kt x)
  | 0, _, _, L, h => by
    obtain rfl : [] = L := Except.ok.inj h
    intro x hx; cases hx
  | n + 1, a, [], L, h => by
    obtain rfl : [] = L := Except.ok.inj h
    intro x hx; cases hx
  | n + 1, a, c :: r, L, h => by
    rw [toks_step] at h
    split at h
    · exact toks_all P hP n _ _ L h
    · split at h
      · cases h
      · rename_i h0
        cases hq : toksF n (a + (firstR (c :: r)).2.length) ((c :: r).drop (firstR (c :: r)).2.length) with
        | error b => rw [hq] at h; cases h
        | ok M =>
          rw [hq] at h
          obtain rfl := Except.ok.inj h
          intro x hx
          rcases List.mem_cons.1 hx with rfl | hx
          · exact hP _ (List.cons_ne_nil _ _) h0
          · exact toks_all P hP n _ _ M hq x hx
/-- A token's kind and text go together. -/
def Fit (k : K) : Prop := (k.1 = 4 ∧ (k.2 ∈ ([[43], [45], [42], [47], [37], [61], [60], [62], [40], [41], [33, 61], [60, 61], [62, 61]] : List (List UInt8)))) ∨ (k.1 = 3 ∧ isWord k.2 = true) ∨ ((k.1 = 1 ∨ k.1 = 2) ∧ k.2 ≠ [] ∧ (∀ c ∈ k.2, runB c = true) ∧ isWord k.2 = false ∧ ∃ T, Tk.parseR k.2 = .ok T ∧ T.op = k.1)
theorem sign_in (l : List UInt8) (h : signL l ≠ []) : signL l ∈ ([[43], [45], [42], [47], [37], [61], [60], [62], [40], [41], [33, 61], [60, 61], [62, 61]] : List (List UInt8)) := by
  have h1 : ∀ c : UInt8, one.contains c = true → [c] ∈ ([[43], [45], [42], [47], [37], [61], [60], [62], [40], [41], [33, 61], [60, 61], [62, 61]] : List (List UInt8)) := by
    intro c hc
    simp only [one, List.contains_cons, List.contains_nil, Bool.or_eq_true, beq_iff_eq, Bool.or_false] at hc
    simp only [List.mem_cons, List.cons.injEq, and_true]
    grind
  match l with
  | [] => exact (h rfl).elim
  | [c] =>
    rw [signL_one] at h ⊢
    split at h
    · rename_i hc; rw [if_pos hc]; exact h1 c hc
    · exact (h rfl).elim
  | c :: d :: r =>
    rw [signL_two] at h ⊢
    by_cases h2 : (d == 61 && (c == 33 || c == 60 || c == 62)) = true
    · rw [if_pos h2]
      simp only [Bool.and_eq_true, Bool.or_eq_true, beq_iff_eq] at h2
      obtain ⟨rfl, (rfl | rfl) | rfl⟩ := h2 <;> decide
    · rw [if_neg h2] at h ⊢
      split at h
      · rename_i hc; rw [if_pos hc]; exact h1 c hc
      · exact (h rfl).elim
theorem first_fit (l : List UInt8) (h : (firstR l).1 ≠ 0) : Fit (firstR l) := by
  by_cases hr : runL l = []
  · by_cases hs : signL l = []
    · rw [firstR_none hr hs] at h; exact (h rfl).elim
    · rw [firstR_sign hr hs]; exact .inl ⟨rfl, sign_in l hs⟩
  · rw [firstR_run hr] at h ⊢
    simp only [kindR] at h ⊢
    by_cases hw : isWord (runL l) = true
    · rw [if_pos hw]; exact .inr (.inl ⟨rfl, hw⟩)
    · rw [if_neg hw] at h ⊢
      cases hp : Tk.parseR (runL l) with
      | error x => rw [hp] at h; exact (h rfl).elim
      | ok T => exact .inr (.inr ⟨(leaf_of _ (run_all l) T hp).1, hr, run_all l, by simpa using hw, T, hp, rfl⟩)
theorem toks_fit {s : List UInt8} {L : List Tok} (h : toksR s = .ok L) : ∀ x ∈ L, Fit (kt x) := toks_all Fit (fun l _ h0 => first_fit l h0) _ _ _ _ h

/-- What a parsed term weighs is no more than its tokens are. -/
structure Weigh (φ : Nat → Tm → Nat) : Prop where
  leaf : ∀ (k : K) (T : Tm), Fit k → (k.1 = 1 ∨ k.1 = 2) → Tk.parseR k.2 = .ok T → φ 8 T ≤ 1
  bracket : ∀ T, φ 8 T ≤ φ 1 T + 2
  up : ∀ r T, φ r T ≤ φ (r + 1) T
  one : ∀ r o T, (r = 3 ∨ r = 7) → o ∈ ops → o.row = r → φ r (make1 o T) ≤ φ r T + 1
  two : ∀ r o T U, (r = 1 ∨ r = 2 ∨ r = 5 ∨ r = 6) → o ∈ ops → o.row = r → φ r (make o T U) ≤ φ r T + 1 + φ (r + 1) U
  comp : ∀ o T U, o ∈ ops → o.row = 4 → φ 4 (make o T U) ≤ φ 5 T + 1 + φ 5 U
theorem head_in {r : Nat} {l : List K} {o : Op} {l' : List K} (h : opHead r l = some (o, l')) : o ∈ ops ∧ o.row = r ∧ l.length = l'.length + 1 ∧ ∃ k, l = k :: l' ∧ o.text = k.2 := by
  cases l with
  | nil => cases h
  | cons k l =>
    simp only [opHead, findO, Option.map_eq_some_iff] at h
    obtain ⟨o', ho, he⟩ := h
    obtain ⟨rfl, rfl⟩ := Prod.mk.inj he
    have h1 := List.mem_of_find?_eq_some ho
    have h2 := List.find?_some ho
    simp only [Bool.and_eq_true, beq_iff_eq] at h2
    exact ⟨h1, h2.1, by simp, k, rfl, h2.2⟩
theorem loop_weight {φ : Nat → Tm → Nat} (hw : Weigh φ) (f : List K → Res) (r : Nat) (hr : r = 1 ∨ r = 2 ∨ r = 5 ∨ r = 6) (hf : ∀ l T l', (∀ k ∈ l, Fit k) → f l = .ok (T, l') → l' <:+ l ∧ l'.length + φ (r + 1) T ≤ l.length) :
    ∀ (m : Nat) (T : Tm) (l : List K) (S : Tm) (l' : List K), (∀ k ∈ l, Fit k) → loop f r m T l = .ok (S, l') → l' <:+ l ∧ l'.length + φ r S ≤ l.length + φ r T
  | 0, T, l, S, l', _, h => by
    obtain ⟨rfl, rfl⟩ := Prod.mk.inj (Except.ok.inj h)
    exact ⟨List.suffix_refl _, Nat.le_refl _⟩
  | m + 1, T, l, S, l', hl, h => by
    rw [loop] at h
    cases hq : opHead r l with
    | none =>
      rw [hq] at h
      obtain ⟨rfl, rfl⟩ := Prod.mk.inj (Except.ok.inj h)
      exact ⟨List.suffix_refl _, Nat.le_refl _⟩
    | some p =>
      obtain ⟨o, l2⟩ := p
      rw [hq] at h
      simp only at h
      cases hff : f l2 with
      | error b => rw [hff] at h; cases h
      | ok p =>
        obtain ⟨U, l3⟩ := p
        rw [hff] at h
        simp only [if_neg (show r ≠ 4 by omega)] at h
        obtain ⟨h1, h2, h3, k, rfl, _⟩ := head_in hq
        obtain ⟨s4, h4⟩ := hf l2 U l3 (fun x hx => hl x (List.mem_cons_of_mem _ hx)) hff
        obtain ⟨s5, h5⟩ := loop_weight hw f r hr hf m _ _ _ _ (fun x hx => hl x (List.mem_cons_of_mem _ (s4.mem hx))) h
        have h6 := hw.two r o T U hr h1 h2
        exact ⟨(s5.trans s4).trans (List.suffix_cons _ _), by omega⟩
theorem row_weight {φ : Nat → Tm → Nat} (hw : Weigh φ) : ∀ (n r : Nat) (l : List K) (T : Tm) (l' : List K), 1 ≤ r → r ≤ 8 → (∀ k ∈ l, Fit k) → row n r l = .ok (T, l') → l' <:+ l ∧ l'.length + φ r T ≤ l.length
  | 0, _, _, _, _, _, _, _, h => by cases h
  | n + 1, r, l, T, l', h1, h8, hl, h => by
    have ih := row_weight hw n
    rw [row] at h
    by_cases hr8 : r = 8
    · subst hr8
      rw [if_pos rfl] at h
      cases l with
      | nil => cases h
      | cons k l =>
        simp only [single] at h
        split at h
        · cases hp : Tk.parseR k.2 with
          | error x => rw [hp] at h; cases h
          | ok U =>
            rw [hp] at h
            obtain ⟨rfl, rfl⟩ := Prod.mk.inj (Except.ok.inj h)
            rename_i hk
            have := hw.leaf _ _ (hl k (by simp)) hk hp
            exact ⟨List.suffix_cons _ _, by simp only [List.length_cons]; omega⟩
        · split at h
          · cases hf : row n 1 l with
            | error b => rw [hf] at h; cases h
            | ok p =>
              obtain ⟨U, l2⟩ := p
              rw [hf] at h
              obtain ⟨s2, h2⟩ := ih 1 l U l2 (by omega) (by omega) (fun x hx => hl x (List.mem_cons_of_mem _ hx)) hf
              cases l2 with
              | nil => cases h
              | cons k2 l3 =>
                simp only at h
                split at h
                · obtain ⟨rfl, rfl⟩ := Prod.mk.inj (Except.ok.inj h)
                  have := hw.bracket U
                  exact ⟨((List.suffix_cons _ _).trans s2).trans (List.suffix_cons _ _), by simp only [List.length_cons] at h2 ⊢; omega⟩
                · cases h
          · cases h
    · rw [if_neg hr8] at h
      by_cases hr3 : r = 3 ∨ r = 7
      · rw [if_pos hr3] at h
        cases hq : opHead r l with
        | none =>
          rw [hq] at h
          obtain ⟨s2, h2⟩ := ih (r + 1) l T l' (by omega) (by omega) hl h
          have := hw.up r T
          exact ⟨s2, by omega⟩
        | some p =>
          obtain ⟨o, l2⟩ := p
          rw [hq] at h
          simp only at h
          cases hf : row n r l2 with
          | error b => rw [hf] at h; cases h
          | ok p =>
            obtain ⟨U, l3⟩ := p
            rw [hf] at h
            obtain ⟨rfl, rfl⟩ := Prod.mk.inj (Except.ok.inj h)
            obtain ⟨q1, q2, q3, k, rfl, _⟩ := head_in hq
            obtain ⟨s2, h2⟩ := ih r l2 U l3 h1 h8 (fun x hx => hl x (List.mem_cons_of_mem _ hx)) hf
            have := hw.one r o U hr3 q1 q2
            exact ⟨s2.trans (List.suffix_cons _ _), by omega⟩
      · rw [if_neg hr3] at h
        cases hf : row n (r + 1) l with
        | error b => rw [hf] at h; cases h
        | ok p =>
          obtain ⟨U, l2⟩ := p
          rw [hf] at h
          simp only at h
          obtain ⟨s2, h2⟩ := ih (r + 1) l U l2 (by omega) (by omega) hl hf
          by_cases hr4 : r = 4
          · subst hr4
            replace h2 : l2.length + φ 5 U ≤ l.length := h2
            have hu : φ 4 U ≤ φ 5 U := hw.up 4 U
            cases hm : l2.length with
            | zero =>
              rw [hm] at h
              obtain ⟨rfl, rfl⟩ := Prod.mk.inj (Except.ok.inj h)
              exact ⟨s2, by omega⟩
            | succ m =>
              rw [hm, loop] at h
              cases hq : opHead 4 l2 with
              | none =>
                rw [hq] at h
                obtain ⟨rfl, rfl⟩ := Prod.mk.inj (Except.ok.inj h)
                exact ⟨s2, by omega⟩
              | some p =>
                obtain ⟨o, l3⟩ := p
                rw [hq] at h
                simp only at h
                cases hff : row n 5 l3 with
                | error b => rw [hff] at h; cases h
                | ok p =>
                  obtain ⟨V, l4⟩ := p
                  rw [hff] at h
                  simp only [if_true] at h
                  obtain ⟨rfl, rfl⟩ := Prod.mk.inj (Except.ok.inj h)
                  obtain ⟨q1, q2, q3, k, rfl, _⟩ := head_in hq
                  obtain ⟨s3, h3⟩ := ih 5 l3 V l4 (by omega) (by omega) (fun x hx => hl x (s2.mem (List.mem_cons_of_mem _ hx))) hff
                  have := hw.comp o U V q1 q2
                  exact ⟨(s3.trans (List.suffix_cons _ _)).trans s2, by omega⟩
          · obtain ⟨s3, h3⟩ := loop_weight hw (row n (r + 1)) r (by omega) (fun l T l' hl h => ih (r + 1) l T l' (by omega) (by omega) hl h) _ _ _ _ _ (fun x hx => hl x (s2.mem hx)) h
            have := hw.up r U
            exact ⟨s3.trans s2, by omega⟩
theorem leaf_fit {k : K} {T : Tm} (hf : Fit k) (hk : k.1 = 1 ∨ k.1 = 2) (h : Tk.parseR k.2 = .ok T) : (T.op = 1 ∨ T.op = 2) ∧ T.ks = [] ∧ T.allForm = true ∧ T.txt = k.2 ∧ T.depth = 1 := by
  rcases hf with ⟨h1, _⟩ | ⟨h1, _⟩ | ⟨_, _, h2, _⟩
  · omega
  · omega
  · exact leaf_of _ h2 T h
/-- The size of a term. -/
theorem weigh_size : Weigh fun _ T => (T.size + 1) / 2 where
  leaf := fun k T hf hk h => by
    have := (leaf_fit hf hk h).2.1
    rw [T.size_eq, this]
    simp [Tm.sizes]
  bracket := fun T => by omega
  up := fun r T => Nat.le_refl _
  one := fun r o T _ _ _ => by simp only [make1, Tm.size, Tm.sizes]; omega
  two := fun r o T U _ _ _ => by
    unfold make
    cases o.de <;> cases o.sw <;> simp only [if_true, if_false, Tm.size, Tm.sizes, Bool.false_eq_true] <;> omega
  comp := fun o T U _ _ => by
    unfold make
    cases o.de <;> cases o.sw <;> simp only [if_true, if_false, Tm.size, Tm.sizes, Bool.false_eq_true] <;> omega
end Ix

end Go.Proofs
