/-
  There and back, for whole terms: plain mathematics.
-/
import Derived.Test.YtehmmfmofdgheaaDoorTmBack
namespace Go.Proofs
open Go.RowKit

theorem Tk.pre_cons (c x : UInt8) (l : List UInt8) : Lib.hasPrefix (c :: l) [x] = (x == c) := by simp [Lib.hasPrefix, List.isPrefixOf]
theorem Tk.pre_nil (x : UInt8) : Lib.hasPrefix [] [x] = false := by simp [Lib.hasPrefix, List.isPrefixOf]
theorem Tk.pre_true {x : UInt8} {l : List UInt8} (h : Lib.hasPrefix l [x] = true) : l = x :: l.drop 1 := by
  cases l with
  | nil => rw [Tk.pre_nil] at h; cases h
  | cons c r => rw [Tk.pre_cons] at h; rw [beq_iff_eq.1 h]; rfl
theorem Tk.named_text (o : Nat) (h3 : 3 ≤ o) (h14 : o ≤ 14) : Tk.namedL (Tm.opText o) = o ∧ (∀ c ∈ Tm.opText o, Tk.wordB c = true) := by
  obtain rfl | rfl | rfl | rfl | rfl | rfl | rfl | rfl | rfl | rfl | rfl | rfl : o = 3 ∨ o = 4 ∨ o = 5 ∨ o = 6 ∨ o = 7 ∨ o = 8 ∨ o = 9 ∨ o = 10 ∨ o = 11 ∨ o = 12 ∨ o = 13 ∨ o = 14 := by omega
  all_goals exact ⟨by kernel_rfl, by decide⟩
theorem Tk.text_opT (o : Nat) (h3 : 3 ≤ o) (h14 : o ≤ 14) : Tm.opText o = Tk.opT o := by
  obtain rfl | rfl | rfl | rfl | rfl | rfl | rfl | rfl | rfl | rfl | rfl | rfl : o = 3 ∨ o = 4 ∨ o = 5 ∨ o = 6 ∨ o = 7 ∨ o = 8 ∨ o = 9 ∨ o = 10 ∨ o = 11 ∨ o = 12 ∨ o = 13 ∨ o = 14 := by omega
  all_goals rfl
theorem Tk.text_named {l : List UInt8} (h : Tk.namedL l ≠ 0) : l = Tm.opText (Tk.namedL l) ∧ 3 ≤ Tk.namedL l ∧ Tk.namedL l ≤ 14 := by
  have hr : 3 ≤ Tk.namedL l ∧ Tk.namedL l ≤ 14 := (Tk.named_range l).resolve_left h
  refine ⟨?_, hr⟩
  by_cases he : ∃ k : Nat, k < 15 ∧ 0 < Tm.kidsOf k ∧ Tk.opT k = l
  · obtain ⟨k, hk, h0, he⟩ := he
    have e := Tk.named_hit l k hk h0 he
    rw [Tk.text_opT _ hr.1 hr.2, e]
    exact he.symm
  · exact (h (Tk.named_none l fun k hk hh => he ⟨k, hk, hh.1, hh.2⟩)).elim

theorem Tk.there_kids (L : Nat) (ih : ∀ (T : Tm) (rest : List UInt8), T.allForm = true → T.depth ≤ L → Tk.endsB rest = true → Tk.termF L (T.txt ++ rest) = some (T, rest)) :
    ∀ (ks : List Tm) (rest : List UInt8), Tm.allForms ks = true → Tm.depths ks ≤ L → Tk.kidsF (Tk.termF L) ks.length (Tm.txts ks ++ 41 :: rest) = some (ks, 41 :: rest)
  | [], rest, _, _ => rfl
  | k :: r, rest, hf, hd => by
    simp only [Tm.allForms, Bool.and_eq_true] at hf
    simp only [Tm.depths] at hd
    have h1 := Tk.there_kids L ih r rest hf.2 (by omega)
    have h2 := ih k (Tm.txts r ++ 41 :: rest) hf.1 (by omega) (by cases r <;> rfl)
    have e : Tm.txts (k :: r) ++ 41 :: rest = 32 :: (k.txt ++ (Tm.txts r ++ 41 :: rest)) := by simp [Tm.txts]
    rw [e, List.length_cons, Tk.kidsF, Tk.pre_cons, if_neg (by decide), List.drop_one, List.tail_cons, h2]
    simp only [h1]
/-- What is written is read. -/
theorem Tk.there : ∀ (L : Nat) (T : Tm) (rest : List UInt8), T.allForm = true → T.depth ≤ L → Tk.endsB rest = true → Tk.termF L (T.txt ++ rest) = some (T, rest) := by
  intro L
  induction L with
  | zero => intro T rest _ hd _; have := T.depth_eq; omega
  | succ L ih =>
    intro T rest hf hd hr
    obtain ⟨op, n, ks⟩ := T
    simp only [Tm.allForm, Bool.and_eq_true, Tm.formedB, decide_eq_true_eq] at hf
    obtain ⟨⟨h1, h14, hlen, h0, hm⟩, hks⟩ := hf
    simp only [Tm.depth] at hd
    obtain ⟨o, rfl⟩ : ∃ o : Nat, op = o := ⟨op.toNat, by omega⟩
    obtain ⟨m, rfl⟩ : ∃ m : Nat, n = m := ⟨n.toNat, by omega⟩
    by_cases h3 : o < 3
    · have hk : Tm.kidsOf o = 0 := if_pos (by omega)
      have hks0 : ks = [] := List.length_eq_zero_iff.1 (by omega)
      subst hks0
      obtain rfl | rfl : o = 1 ∨ o = 2 := by omega
      · have ht : (Tm.mk ((1 : Nat) : Int) (m : Int) []).txt = Lib.decDigits m := by
          simp only [Tm.txt, hk, if_true]
          rw [Lib.itoa_nonneg]
          rfl
        have hm' : m ≤ 1099511627776 := by have : (m : Int) ≤ 1099511627776 := hm; omega
        have hp := Tk.pre_dec m 36 (by decide) []
        rw [List.append_nil] at hp
        rw [ht, Tk.termF, if_neg (by rw [Tk.pre_dec m 40 (by decide)]; decide), Tk.word_app _ _ (Tk.wordB_dec m) hr, Tk.leafL_eq, if_neg (by rw [hp]; decide), Tk.digL_dec _ _ hm']
        simp
      · have ht : (Tm.mk ((2 : Nat) : Int) (m : Int) []).txt = 36 :: Lib.decDigits m := by
          simp only [Tm.txt, hk, if_true]
          rw [Lib.itoa_nonneg]
          rfl
        have hm' : m ≤ 3 := by have : (m : Int) ≤ 3 := hm; omega
        have hw := Tk.word_app (36 :: Lib.decDigits m) rest (fun c hc => by
          rcases List.mem_cons.1 hc with rfl | hc
          · decide
          · exact Tk.wordB_dec m c hc) hr
        rw [ht, Tk.termF, List.cons_append, Tk.pre_cons, if_neg (by decide), ← List.cons_append, hw, Tk.leafL_eq, Tk.pre_cons, if_pos (by decide), List.drop_one, List.tail_cons, Tk.digL_dec _ _ hm']
        simp
    · have hk : Tm.kidsOf o ≠ 0 := by unfold Tm.kidsOf; (repeat' split) <;> omega
      have hm0 : m = 0 := by
        have : Tm.mostOf (o : Int) = 0 := by unfold Tm.mostOf; rw [if_neg (by omega), if_neg (by omega)]
        rw [this] at hm
        omega
      subst hm0
      obtain ⟨hnm, hwb⟩ := Tk.named_text o (by omega) (by omega)
      have ht : (Tm.mk (o : Int) ((0 : Nat) : Int) ks).txt ++ rest = 40 :: (Tm.opText o ++ (Tm.txts ks ++ 41 :: rest)) := by
        simp only [Tm.txt, hk, if_false]
        simp
      have hends : Tk.endsB (Tm.txts ks ++ 41 :: rest) = true := by cases ks <;> rfl
      have hw := Tk.word_app (Tm.opText o) (Tm.txts ks ++ 41 :: rest) hwb hends
      have hkd := Tk.there_kids L ih ks rest hks (by omega)
      rw [hlen] at hkd
      rw [ht, Tk.termF, Tk.pre_cons, if_pos (by decide), List.drop_one, List.tail_cons, hw, hnm, if_neg (by omega), List.drop_left, hkd]
      simp only [Tk.pre_cons]
      simp

theorem Tk.back_kids (L : Nat) (ih : ∀ (l : List UInt8) (T : Tm) (r : List UInt8), Tk.termF L l = some (T, r) → l = T.txt ++ r ∧ T.allForm = true ∧ T.depth ≤ L) :
    ∀ (k : Nat) (l : List UInt8) (ks : List Tm) (r : List UInt8), Tk.kidsF (Tk.termF L) k l = some (ks, r) → l = Tm.txts ks ++ r ∧ ks.length = k ∧ Tm.allForms ks = true ∧ Tm.depths ks ≤ L
  | 0, l, ks, r, h => by
    simp only [Tk.kidsF, Option.some.injEq, Prod.mk.injEq] at h
    obtain ⟨rfl, rfl⟩ := h
    exact ⟨rfl, rfl, rfl, by simp [Tm.depths]⟩
  | k + 1, l, ks, r, h => by
    rw [Tk.kidsF] at h
    by_cases hp : Lib.hasPrefix l [32] = false
    · rw [if_pos hp] at h; cases h
    · rw [if_neg hp] at h
      have hl := Tk.pre_true (by simpa using hp)
      cases h1 : Tk.termF L (l.drop 1) with
      | none => rw [h1] at h; cases h
      | some p =>
        obtain ⟨T, r1⟩ := p
        rw [h1] at h
        simp only at h
        cases h2 : Tk.kidsF (Tk.termF L) k r1 with
        | none => rw [h2] at h; cases h
        | some q =>
          obtain ⟨ts, r2⟩ := q
          rw [h2] at h
          simp only [Option.some.injEq, Prod.mk.injEq] at h
          obtain ⟨rfl, rfl⟩ := h
          obtain ⟨a1, a2, a3⟩ := ih _ _ _ h1
          obtain ⟨b1, b2, b3, b4⟩ := Tk.back_kids L ih k r1 ts r2 h2
          refine ⟨?_, by simp [b2], by simp [Tm.allForms, a2, b3], by simp only [Tm.depths]; omega⟩
          rw [hl, a1, b1]
          simp [Tm.txts]
/-- What is read is what is written of it. -/
theorem Tk.back : ∀ (L : Nat) (l : List UInt8) (T : Tm) (r : List UInt8), Tk.termF L l = some (T, r) → l = T.txt ++ r ∧ T.allForm = true ∧ T.depth ≤ L := by
  intro L
  induction L with
  | zero => intro l T r h; cases h
  | succ L ih =>
    intro l T r h
    rw [Tk.termF] at h
    by_cases hp : Lib.hasPrefix l [40] = true
    · rw [if_pos hp] at h
      have hl := Tk.pre_true hp
      by_cases hz : Tk.namedL (Tk.wordL (l.drop 1)) = 0
      · rw [if_pos hz] at h; cases h
      · rw [if_neg hz] at h
        obtain ⟨hw, h3, h14⟩ := Tk.text_named hz
        obtain ⟨o, ho⟩ : ∃ o, Tk.namedL (Tk.wordL (l.drop 1)) = o := ⟨_, rfl⟩
        rw [ho] at h hw h3 h14
        cases hk : Tk.kidsF (Tk.termF L) (Tm.kidsOf o) ((l.drop 1).drop (Tk.wordL (l.drop 1)).length) with
        | none => rw [hk] at h; cases h
        | some p =>
          obtain ⟨ks, r1⟩ := p
          rw [hk] at h
          simp only at h
          by_cases hc : Lib.hasPrefix r1 [41] = true
          · rw [if_pos hc] at h
            simp only [Option.some.injEq, Prod.mk.injEq] at h
            obtain ⟨rfl, rfl⟩ := h
            obtain ⟨b1, b2, b3, b4⟩ := Tk.back_kids L ih _ _ _ _ hk
            have hr1 := Tk.pre_true hc
            have hko : Tm.kidsOf (o : Int) ≠ 0 := by unfold Tm.kidsOf; (repeat' split) <;> omega
            have hd : l.drop 1 = Tm.opText o ++ (Tm.txts ks ++ r1) := by
              have := List.take_append_drop (Tk.wordL (l.drop 1)).length (l.drop 1)
              rw [b1, ← Tk.word_take, hw] at this
              exact this.symm
            refine ⟨?_, ?_, by simp only [Tm.depth]; omega⟩
            · rw [hl, hd, hr1]
              simp only [Tm.txt, hko, if_false]
              simp
            · simp only [Tm.allForm, Bool.and_eq_true, Tm.formedB, decide_eq_true_eq]
              refine ⟨⟨by omega, by omega, b2, by omega, ?_⟩, b3⟩
              unfold Tm.mostOf
              rw [if_neg (by omega), if_neg (by omega)]
              omega
          · rw [if_neg hc] at h; cases h
    · rw [if_neg hp] at h
      cases hf : Tk.leafL (Tk.wordL l) with
      | none => rw [hf] at h; cases h
      | some T' =>
        rw [hf] at h
        simp only [Option.some.injEq, Prod.mk.injEq] at h
        obtain ⟨rfl, rfl⟩ := h
        have hl : l = Tk.wordL l ++ l.drop (Tk.wordL l).length := by
          have := List.take_append_drop (Tk.wordL l).length l
          rw [← Tk.word_take] at this
          exact this.symm
        rw [Tk.leafL_eq] at hf
        by_cases hd : Lib.hasPrefix (Tk.wordL l) [36] = true
        · rw [if_pos hd] at hf
          obtain ⟨n, hn, rfl⟩ := Option.map_eq_some_iff.1 hf
          obtain ⟨e1, e2⟩ := Tk.dec_digL hn
          refine ⟨?_, ?_, by simp [Tm.depth, Tm.depths]⟩
          · have : (Tm.mk 2 (n : Int) []).txt = Tk.wordL l := by
              rw [Tk.pre_true hd, e1]
              simp only [Tm.txt]
              rw [if_pos (by decide), Lib.itoa_nonneg]
              rfl
            rw [this]
            exact hl
          · simp [Tm.allForm, Tm.allForms, Tm.formedB, Tm.kidsOf, Tm.mostOf]
            omega
        · rw [if_neg hd] at hf
          obtain ⟨n, hn, rfl⟩ := Option.map_eq_some_iff.1 hf
          obtain ⟨e1, e2⟩ := Tk.dec_digL hn
          refine ⟨?_, ?_, by simp [Tm.depth, Tm.depths]⟩
          · have : (Tm.mk 1 (n : Int) []).txt = Tk.wordL l := by
              rw [e1]
              simp only [Tm.txt]
              rw [if_pos (by decide), Lib.itoa_nonneg]
              rfl
            rw [this]
            exact hl
          · simp [Tm.allForm, Tm.allForms, Tm.formedB, Tm.kidsOf, Tm.mostOf]
            omega

theorem Tm.wrong_eq {T : Tm} (h1 : T.depth ≤ 24) (h2 : T.allForm = true) : T.wrongR = 0 := by
  unfold Tm.wrongR
  rw [if_neg (by omega), if_neg (by rw [h2]; decide)]
theorem Tk.parse_of_text {T : Tm} {l : List UInt8} (h : T.textR = (l, 0)) : Tk.parseR l = .ok T := by
  unfold Tm.textR at h
  by_cases hw : T.wrongR ≠ 0
  · rw [if_pos hw] at h
    exact (hw (Prod.mk.inj h).2).elim
  · rw [if_neg hw] at h
    have hw0 : T.wrongR = 0 := by simpa using hw
    by_cases hl : 20000 < T.txt.length
    · rw [if_pos hl] at h
      have := (Prod.mk.inj h).2
      omega
    · rw [if_neg hl] at h
      obtain rfl := (Prod.mk.inj h).1
      have hz := Tm.wrong_zero hw0
      have := Tk.there 24 T [] hz.2 (by omega) rfl
      rw [List.append_nil] at this
      unfold Tk.parseR
      rw [if_neg hl, this]
theorem Tk.text_of_parse {T : Tm} {l : List UInt8} (h : Tk.parseR l = .ok T) : T.textR = (l, 0) := by
  unfold Tk.parseR at h
  by_cases hl : 20000 < l.length
  · rw [if_pos hl] at h; cases h
  · rw [if_neg hl] at h
    cases ht : Tk.termF 24 l with
    | none => rw [ht] at h; cases h
    | some p =>
      obtain ⟨T', r⟩ := p
      rw [ht] at h
      cases r with
      | cons c r => cases h
      | nil =>
        obtain rfl := Except.ok.inj h
        obtain ⟨e1, e2, e3⟩ := Tk.back 24 l T' [] ht
        rw [List.append_nil] at e1
        unfold Tm.textR
        rw [Tm.wrong_eq e3 e2, if_neg (by decide), ← e1, if_neg hl]

end Go.Proofs
