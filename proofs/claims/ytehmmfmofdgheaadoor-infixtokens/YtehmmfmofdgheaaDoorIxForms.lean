/-
  infix: how formed terms are written, case by case; how long their texts are: plain mathematics.
-/
import Derived.Test.YtehmmfmofdgheaaDoorIxWith
import Derived.Test.YtehmmfmofdgheaaDoorTText
namespace Go.Proofs
open Go.RowKit

namespace Ix
theorem ks_one {l : List Tm} (h : l.length = 1) : l = [l.getD 0 zero] := by
  match l, h with
  | [a], _ => rfl
theorem ks_two {l : List Tm} (h : l.length = 2) : l = [l.getD 0 zero, l.getD 1 zero] := by
  match l, h with
  | [a, b], _ => rfl
theorem form_parts {T : Tm} (h : T.allForm = true) : 1 ≤ T.op ∧ T.op ≤ 14 ∧ T.ks.length = Tm.kidsOf T.op := by
  have := (Tm.formed_of_all h).1
  simp only [Tm.formedB, decide_eq_true_eq] at this
  exact ⟨this.1, this.2.1, this.2.2.1⟩
theorem form_kid {T : Tm} (h : T.allForm = true) {x : Tm} (hx : x ∈ T.ks) : x.allForm = true := by
  obtain ⟨k, hk, rfl⟩ := List.getElem_of_mem hx
  exact Tm.allForms_get _ (Tm.formed_of_all h).2 k hk
theorem depth_kid {T x : Tm} (hx : x ∈ T.ks) : x.depth + 1 ≤ T.depth := by
  have h : ∀ l : List Tm, x ∈ l → x.depth ≤ Tm.depths l := by
    intro l
    induction l with
    | nil => intro h; cases h
    | cons a r ih =>
      intro h
      simp only [Tm.depths]
      rcases List.mem_cons.1 h with rfl | h
      · omega
      · have := ih h; omega
  cases T with
  | mk o n ks => simp only [Tm.depth]; exact Nat.succ_le_succ (h ks hx)
theorem depth_pos (T : Tm) : 1 ≤ T.depth := by cases T; simp [Tm.depth]
theorem size_pos (T : Tm) : 1 ≤ T.size := by cases T; simp [Tm.size]
theorem size_one {T a : Tm} (h : T.ks = [a]) : T.size = a.size + 1 := by cases T; simp only [Tm.ks] at h; subst h; simp [Tm.size, Tm.sizes]
theorem size_two {T a b : Tm} (h : T.ks = [a, b]) : T.size = a.size + b.size + 1 := by cases T; simp only [Tm.ks] at h; subst h; simp [Tm.size, Tm.sizes]
theorem size_none {T : Tm} (h : T.ks = []) : T.size = 1 := by cases T; simp only [Tm.ks] at h; subst h; simp [Tm.size, Tm.sizes]

/-- A formed term is one of these. -/
inductive How (T : Tm) : Prop where
  | leaf (h : withO T = none) (hr : rowT T = 8) (hk : T.ks = []) (ho : T.op = 1 ∨ T.op = 2)
  | neg (h : withO T = some (opN 0)) (hr : rowT T = 7) (hk : T.ks = [k0 T])
  | not (h : withO T = some (opN 12)) (hr : rowT T = 3) (hk : T.ks = [k0 T])
  | ne (h : withO T = some (opN 7)) (hr : rowT T = 4) (ho : T.op = 4) (hk : T.ks = [k0 T]) (hk2 : (k0 T).ks = [k0 (k0 T), k1 (k0 T)])
  | two (o : Op) (h : withO T = some o) (hr : rowT T = o.row) (ho : T.op ≠ 4) (hk : T.ks = [k0 T, k1 T]) (ht : o.text = signOf T.op) (hd : o.de = false) (h1 : 1 ≤ o.row) (h2 : o.row ≤ 6) (h3 : o.row ≠ 3) (hl : o.text.length ≤ 3)

theorem how_of {T : Tm} (h : T.allForm = true) : How T := by
  obtain ⟨h1, h2, h3⟩ := form_parts h
  have hw : ∀ k, k < 15 → takB (opN k) T = true → (∀ j, j < k → takB (opN j) T = false) → withO T = some (opN k) := fun k a b c => with_hit T k a b c
  obtain ho | ho | ho | ho | ho | ho | ho | ho | ho | ho | ho | ho | ho | ho : T.op = 1 ∨ T.op = 2 ∨ T.op = 3 ∨ T.op = 4 ∨ T.op = 5 ∨ T.op = 6 ∨ T.op = 7 ∨ T.op = 8 ∨ T.op = 9 ∨ T.op = 10 ∨ T.op = 11 ∨ T.op = 12 ∨ T.op = 13 ∨ T.op = 14 := by omega
  · refine .leaf ?_ (by simp [rowT, ho]) (List.length_eq_zero_iff.1 (by rw [h3, ho]; rfl)) (.inl ho)
    simp [withO, ops, List.find?, takB, ho]
  · refine .leaf ?_ (by simp [rowT, ho]) (List.length_eq_zero_iff.1 (by rw [h3, ho]; rfl)) (.inr ho)
    simp [withO, ops, List.find?, takB, ho]
  · refine .neg ?_ (by simp [rowT, ho]) (ks_one (by rw [h3, ho]; rfl))
    simp [withO, ops, takB, ho, opN]
  · have hk := ks_one (l := T.ks) (by rw [h3, ho]; rfl)
    by_cases hne : (k0 T).op = 10
    · refine .ne ?_ (by simp [rowT, ho, hne]) ho hk ?_
      · simp [withO, ops, List.find?, takB, ho, hne, opN]
      · obtain ⟨q1, q2, q3⟩ := form_parts (form_kid h (x := k0 T) (by rw [hk]; exact List.mem_cons_self))
        exact ks_two (by rw [q3, hne]; rfl)
    · refine .not ?_ (by simp [rowT, ho, hne]) hk
      have hb : ((k0 T).op == 10) = false := by simpa using hne
      simp [withO, ops, List.find?, takB, ho, hb, opN]
  · exact .two (opN 4) (by simp [withO, ops, List.find?, takB, ho, opN]) (by simp [rowT, ho, opN, ops]) (by omega) (ks_two (by rw [h3, ho]; rfl)) (by simp [signOf, ho, opN, ops]) rfl (by decide) (by decide) (by decide) (by decide)
  · exact .two (opN 5) (by simp [withO, ops, List.find?, takB, ho, opN]) (by simp [rowT, ho, opN, ops]) (by omega) (ks_two (by rw [h3, ho]; rfl)) (by simp [signOf, ho, opN, ops]) rfl (by decide) (by decide) (by decide) (by decide)
  · exact .two (opN 1) (by simp [withO, ops, List.find?, takB, ho, opN]) (by simp [rowT, ho, opN, ops]) (by omega) (ks_two (by rw [h3, ho]; rfl)) (by simp [signOf, ho, opN, ops]) rfl (by decide) (by decide) (by decide) (by decide)
  · exact .two (opN 2) (by simp [withO, ops, List.find?, takB, ho, opN]) (by simp [rowT, ho, opN, ops]) (by omega) (ks_two (by rw [h3, ho]; rfl)) (by simp [signOf, ho, opN, ops]) rfl (by decide) (by decide) (by decide) (by decide)
  · exact .two (opN 3) (by simp [withO, ops, List.find?, takB, ho, opN]) (by simp [rowT, ho, opN, ops]) (by omega) (ks_two (by rw [h3, ho]; rfl)) (by simp [signOf, ho, opN, ops]) rfl (by decide) (by decide) (by decide) (by decide)
  · exact .two (opN 6) (by simp [withO, ops, List.find?, takB, ho, opN]) (by simp [rowT, ho, opN, ops]) (by omega) (ks_two (by rw [h3, ho]; rfl)) (by simp [signOf, ho, opN, ops]) rfl (by decide) (by decide) (by decide) (by decide)
  · exact .two (opN 8) (by simp [withO, ops, List.find?, takB, ho, opN]) (by simp [rowT, ho, opN, ops]) (by omega) (ks_two (by rw [h3, ho]; rfl)) (by simp [signOf, ho, opN, ops]) rfl (by decide) (by decide) (by decide) (by decide)
  · exact .two (opN 9) (by simp [withO, ops, List.find?, takB, ho, opN]) (by simp [rowT, ho, opN, ops]) (by omega) (ks_two (by rw [h3, ho]; rfl)) (by simp [signOf, ho, opN, ops]) rfl (by decide) (by decide) (by decide) (by decide)
  · exact .two (opN 13) (by simp [withO, ops, List.find?, takB, ho, opN]) (by simp [rowT, ho, opN, ops]) (by omega) (ks_two (by rw [h3, ho]; rfl)) (by simp [signOf, ho, opN, ops]) rfl (by decide) (by decide) (by decide) (by decide)
  · exact .two (opN 14) (by simp [withO, ops, List.find?, takB, ho, opN]) (by simp [rowT, ho, opN, ops]) (by omega) (ks_two (by rw [h3, ho]; rfl)) (by simp [signOf, ho, opN, ops]) rfl (by decide) (by decide) (by decide) (by decide)

theorem left_least {r : Nat} (h1 : 1 ≤ r) (h2 : r ≤ 6) (h3 : r ≠ 3) : leastR r 0 = leftR r ∧ leastR r 1 = r + 1 := by
  unfold leastR leftR
  obtain rfl | rfl | rfl | rfl | rfl : r = 1 ∨ r = 2 ∨ r = 4 ∨ r = 5 ∨ r = 6 := by omega
  all_goals simp
theorem txt_leaf (n : Nat) {T : Tm} (hr : rowT T = 8) : txt (n + 1) T = T.txt := by simp [txt, hr]
theorem txt_neg (n : Nat) {T : Tm} (hr : rowT T = 7) : txt (n + 1) T = 45 :: kidOf (txt n) 7 (k0 T) := by simp [txt, hr]
theorem txt_not (n : Nat) {T : Tm} (hr : rowT T = 3) : txt (n + 1) T = 110 :: 111 :: 116 :: 32 :: kidOf (txt n) 3 (k0 T) := by simp [txt, hr]
theorem txt_ne (n : Nat) {T : Tm} (hr : rowT T = 4) (ho : T.op = 4) : txt (n + 1) T = kidOf (txt n) 5 (k0 (k0 T)) ++ (32 :: 33 :: 61 :: 32 :: kidOf (txt n) 5 (k1 (k0 T))) := by simp [txt, hr, ho]
theorem txt_two (n : Nat) {T : Tm} (h1 : rowT T ≤ 6) (h3 : rowT T ≠ 3) (ho : T.op ≠ 4) : txt (n + 1) T = kidOf (txt n) (leftR (rowT T)) (k0 T) ++ (32 :: (signOf T.op ++ (32 :: kidOf (txt n) (rowT T + 1) (k1 T)))) := by
  have h7 : rowT T ≠ 7 := by omega
  have h8 : rowT T ≠ 8 := by omega
  simp only [txt, if_neg h7, if_neg h8, if_neg h3, if_neg ho]
theorem kidOf_len (f : Tm → List UInt8) (r : Nat) (T : Tm) : (kidOf f r T).length ≤ (f T).length + 2 := by unfold kidOf; split <;> simp
/-- How long a text is. -/
theorem txt_len : ∀ (n : Nat) (T : Tm), T.allForm = true → T.depth ≤ n → (txt n T).length + 2 ≤ 40 * T.size
  | 0, T, _, hd => by have := depth_pos T; omega
  | n + 1, T, h, hd => by
    have kid : ∀ x ∈ T.ks, ∀ r, (kidOf (txt n) r x).length ≤ 40 * x.size := fun x hx r => by
      have := txt_len n x (form_kid h hx) (by have := depth_kid hx; omega)
      have := kidOf_len (txt n) r x
      omega
    cases how_of h with
    | leaf hw hr hk ho =>
      rw [txt_leaf n hr]
      have := Tm.txt_len T h
      have := size_pos T
      omega
    | neg hw hr hk =>
      rw [txt_neg n hr, size_one hk]
      have := kid (k0 T) (by rw [hk]; exact List.mem_cons_self) 7
      simp; omega
    | not hw hr hk =>
      rw [txt_not n hr, size_one hk]
      have := kid (k0 T) (by rw [hk]; exact List.mem_cons_self) 3
      simp; omega
    | ne hw hr ho hk hk2 =>
      rw [txt_ne n hr ho, size_one hk, size_two hk2]
      have hm : k0 T ∈ T.ks := by rw [hk]; exact List.mem_cons_self
      have kid2 : ∀ x ∈ (k0 T).ks, ∀ r, (kidOf (txt n) r x).length ≤ 40 * x.size := fun x hx r => by
        have := txt_len n x (form_kid (form_kid h hm) hx) (by have := depth_kid hx; have := depth_kid hm; omega)
        have := kidOf_len (txt n) r x
        omega
      have q1 := kid2 (k0 (k0 T)) (by rw [hk2]; exact List.mem_cons_self) 5
      have q2 := kid2 (k1 (k0 T)) (by rw [hk2]; exact List.mem_cons_of_mem _ List.mem_cons_self) 5
      simp; omega
    | two o hw hr ho hk ht hd1 h1 h2 h3 hl =>
      rw [txt_two n (by omega) (by omega) ho, size_two hk, ← ht]
      have q1 := kid (k0 T) (by rw [hk]; exact List.mem_cons_self) (leftR (rowT T))
      have q2 := kid (k1 T) (by rw [hk]; exact List.mem_cons_of_mem _ List.mem_cons_self) (rowT T + 1)
      simp; omega
end Ix

end Go.Proofs
