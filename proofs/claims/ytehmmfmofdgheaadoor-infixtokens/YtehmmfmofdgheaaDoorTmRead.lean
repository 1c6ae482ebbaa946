/-
  The document's reader: plain mathematics; it parses what the program's parses.
-/
import Derived.Test.YtehmmfmofdgheaaDoorTmBack2
import Derived.Test.YtehmmfmofdgheaaDoorTRefAt3
namespace Go.Proofs
open Go.RowKit

/-- The operator with kids whose text, and a blank behind it, a text begins with. -/
def Tk.opFind (l : List UInt8) : Nat := if Lib.hasPrefix (l.drop (Tk.wordL l).length) [32] = true then Tk.namedL (Tk.wordL l) else 0
/-- The term with which a text begins, and what is behind it. -/
def Tk.readF : Nat → List UInt8 → Option (Tm × List UInt8)
  | 0, _ => none
  | L + 1, l => if Lib.hasPrefix l [36] = true then
      (match Tk.numL (l.drop 1) with
        | none => none
        | some (n, m) => if 3 < n then none else some (.mk 2 (n : Int) [], (l.drop 1).drop m))
    else if Lib.hasPrefix l [40] = false then
      (match Tk.numL l with
        | none => none
        | some (n, m) => some (.mk 1 (n : Int) [], l.drop m))
    else if Tk.opFind (l.drop 1) = 0 then none else
      match Tk.kidsF (Tk.readF L) (Tm.kidsOf (Tk.opFind (l.drop 1))) ((l.drop 1).drop (Tm.opText (Tk.opFind (l.drop 1))).length) with
      | none => none
      | some (ks, r) => if Lib.hasPrefix r [41] = true then some (.mk (Tk.opFind (l.drop 1)) 0 ks, r.drop 1) else none
/-- The document's Parse. -/
def Tk.refParseR (l : List UInt8) : Except Int Tm := if 20000 < l.length then .error 2 else match Tk.readF 24 l with | some (t, []) => .ok t | _ => .error 4

theorem Tk.digB_dec (n : Nat) (r : List UInt8) (hr : Tk.endsB r = true) : (Lib.decDigits n ++ r).takeWhile Tk.digB = Lib.decDigits n := by
  rw [List.takeWhile_append_of_pos (fun c hc => by have := Tk.dec_plain n c hc; simp [Tk.digB, this])]
  cases r with
  | nil => simp
  | cons c r =>
    have hc : Tk.wordB c = false := by simpa [Tk.endsB] using hr
    have hd : Tk.digB c = false := by
      unfold Tk.wordB at hc
      simp only [Bool.and_eq_false_iff, bne_eq_false_iff_eq] at hc
      rcases hc with rfl | rfl <;> decide
    rw [List.takeWhile_cons_of_neg (by rw [hd]; decide), List.append_nil]
theorem Tk.numL_dec (n : Nat) (r : List UInt8) (hn : n ≤ 1099511627776) (hr : Tk.endsB r = true) : Tk.numL (Lib.decDigits n ++ r) = some (n, (Lib.decDigits n).length) := by
  unfold Tk.numL
  rw [Tk.digB_dec n r hr, Tk.digL_dec _ _ hn]
  rfl
theorem Tk.dec_numL {l : List UInt8} {n m : Nat} (h : Tk.numL l = some (n, m)) : l = Lib.decDigits n ++ l.drop m ∧ n ≤ 1099511627776 := by
  unfold Tk.numL at h
  obtain ⟨k, hk, he⟩ := Option.map_eq_some_iff.1 h
  obtain ⟨rfl, rfl⟩ := Prod.mk.inj he
  obtain ⟨h1, h2⟩ := Tk.dec_digL hk
  refine ⟨?_, h2⟩
  rw [← h1]
  have hpre : l.takeWhile Tk.digB <+: l := List.takeWhile_prefix _
  obtain ⟨t, ht⟩ := hpre
  have : l.drop (l.takeWhile Tk.digB).length = t := by
    conv => lhs; rw [← ht]
    rw [show ((l.takeWhile Tk.digB ++ t).takeWhile Tk.digB) = l.takeWhile Tk.digB by rw [ht], List.drop_left]
  rw [this]
  exact ht.symm
theorem Tk.find_text (o : Nat) (h3 : 3 ≤ o) (h14 : o ≤ 14) (r : List UInt8) : Tk.opFind (Tm.opText o ++ 32 :: r) = o := by
  obtain ⟨hnm, hwb⟩ := Tk.named_text o h3 h14
  unfold Tk.opFind
  rw [Tk.word_app _ _ hwb rfl, List.drop_left, Tk.pre_cons, if_pos (by decide), hnm]
theorem Tk.text_find {l : List UInt8} (h : Tk.opFind l ≠ 0) : l = Tm.opText (Tk.opFind l) ++ l.drop (Tm.opText (Tk.opFind l)).length ∧ 3 ≤ Tk.opFind l ∧ Tk.opFind l ≤ 14 ∧ Lib.hasPrefix (l.drop (Tm.opText (Tk.opFind l)).length) [32] = true := by
  unfold Tk.opFind at h ⊢
  by_cases hp : Lib.hasPrefix (l.drop (Tk.wordL l).length) [32] = true
  · rw [if_pos hp] at h ⊢
    obtain ⟨h1, h2, h3⟩ := Tk.text_named h
    refine ⟨?_, h2, h3, by rw [← h1]; exact hp⟩
    rw [← h1]
    have := List.take_append_drop (Tk.wordL l).length l
    rw [← Tk.word_take] at this
    exact this.symm
  · rw [if_neg hp] at h
    exact (h rfl).elim
/-- What the document's loop over operators finds. -/
theorem Tk.find_pre (l : List UInt8) (o : Nat) (h3 : 3 ≤ o) (h14 : o ≤ 14) : Lib.hasPrefix l (Tm.opText o ++ [32]) = (Tk.opFind l == o) := by
  rw [Bool.eq_iff_iff, beq_iff_eq]
  constructor
  · intro h
    simp only [Lib.hasPrefix, List.isPrefixOf_iff_prefix] at h
    obtain ⟨t, rfl⟩ := h
    rw [List.append_assoc]
    exact Tk.find_text o h3 h14 t
  · intro h
    have hne : Tk.opFind l ≠ 0 := by omega
    obtain ⟨h1, _, _, h4⟩ := Tk.text_find hne
    rw [h] at h1 h4
    have h5 := Tk.pre_true h4
    simp only [Lib.hasPrefix, List.isPrefixOf_iff_prefix]
    refine ⟨(l.drop (Tm.opText o).length).drop 1, ?_⟩
    rw [List.append_assoc, List.singleton_append, ← h5]
    exact h1.symm

theorem Tk.read_there_kids (L : Nat) (ih : ∀ (T : Tm) (rest : List UInt8), T.allForm = true → T.depth ≤ L → Tk.endsB rest = true → Tk.readF L (T.txt ++ rest) = some (T, rest)) :
    ∀ (ks : List Tm) (rest : List UInt8), Tm.allForms ks = true → Tm.depths ks ≤ L → Tk.kidsF (Tk.readF L) ks.length (Tm.txts ks ++ 41 :: rest) = some (ks, 41 :: rest)
  | [], rest, _, _ => rfl
  | k :: r, rest, hf, hd => by
    simp only [Tm.allForms, Bool.and_eq_true] at hf
    simp only [Tm.depths] at hd
    have h1 := Tk.read_there_kids L ih r rest hf.2 (by omega)
    have h2 := ih k (Tm.txts r ++ 41 :: rest) hf.1 (by omega) (by cases r <;> rfl)
    have e : Tm.txts (k :: r) ++ 41 :: rest = 32 :: (k.txt ++ (Tm.txts r ++ 41 :: rest)) := by simp [Tm.txts]
    rw [e, List.length_cons, Tk.kidsF, Tk.pre_cons, if_neg (by decide), List.drop_one, List.tail_cons, h2]
    simp only [h1]
theorem Tk.read_there : ∀ (L : Nat) (T : Tm) (rest : List UInt8), T.allForm = true → T.depth ≤ L → Tk.endsB rest = true → Tk.readF L (T.txt ++ rest) = some (T, rest) := by
  intro L
  induction L with
  | zero => intro T rest _ hd _; have := T.depth_eq; omega
  | succ L ih =>
    intro T rest hf hd hr
    obtain ⟨op, n, ks⟩ := T
    simp only [Tm.allForm, Bool.and_eq_true, Tm.formedB, decide_eq_true_eq] at hf
    obtain ⟨⟨h1, h14, hlen, h0, hm⟩, hks⟩ := hf
    simp only [Tm.depth] at hd
    obtain ⟨o, rfl⟩ : ∃ o : Nat, op = o := ⟨op.toNat, by omega⟩
    obtain ⟨m, rfl⟩ : ∃ m : Nat, n = m := ⟨n.toNat, by omega⟩
    by_cases h3 : o < 3
    · have hk : Tm.kidsOf o = 0 := if_pos (by omega)
      have hks0 : ks = [] := List.length_eq_zero_iff.1 (by omega)
      subst hks0
      obtain rfl | rfl : o = 1 ∨ o = 2 := by omega
      · have ht : (Tm.mk ((1 : Nat) : Int) (m : Int) []).txt = Lib.decDigits m := by
          simp only [Tm.txt, hk, if_true]
          rw [Lib.itoa_nonneg]
          rfl
        have hm' : m ≤ 1099511627776 := by have : (m : Int) ≤ 1099511627776 := hm; omega
        rw [ht, Tk.readF, if_neg (by rw [Tk.pre_dec m 36 (by decide)]; decide), if_pos (Tk.pre_dec m 40 (by decide) rest), Tk.numL_dec m rest hm' hr]
        simp only [List.drop_left]
        rfl
      · have ht : (Tm.mk ((2 : Nat) : Int) (m : Int) []).txt = 36 :: Lib.decDigits m := by
          simp only [Tm.txt, hk, if_true]
          rw [Lib.itoa_nonneg]
          rfl
        have hm' : m ≤ 3 := by have : (m : Int) ≤ 3 := hm; omega
        rw [ht, List.cons_append, Tk.readF, Tk.pre_cons, if_pos (by decide), List.drop_one, List.tail_cons, Tk.numL_dec m rest (by omega) hr]
        simp only [List.drop_left]
        rw [if_neg (by omega)]
        rfl
    · have hk : Tm.kidsOf o ≠ 0 := by unfold Tm.kidsOf; (repeat' split) <;> omega
      have hm0 : m = 0 := by
        have : Tm.mostOf (o : Int) = 0 := by unfold Tm.mostOf; rw [if_neg (by omega), if_neg (by omega)]
        rw [this] at hm
        omega
      subst hm0
      have ht : (Tm.mk (o : Int) ((0 : Nat) : Int) ks).txt ++ rest = 40 :: (Tm.opText o ++ (Tm.txts ks ++ 41 :: rest)) := by
        simp only [Tm.txt, hk, if_false]
        simp
      have hfind : Tk.opFind (Tm.opText o ++ (Tm.txts ks ++ 41 :: rest)) = o := by
        cases ks with
        | nil => simp at hlen; omega
        | cons k r =>
          have : Tm.txts (k :: r) ++ 41 :: rest = 32 :: (k.txt ++ (Tm.txts r ++ 41 :: rest)) := by simp [Tm.txts]
          rw [this]
          exact Tk.find_text o (by omega) (by omega) _
      have hkd := Tk.read_there_kids L ih ks rest hks (by omega)
      rw [hlen] at hkd
      rw [ht, Tk.readF, Tk.pre_cons, if_neg (by decide), Tk.pre_cons, if_neg (by decide), List.drop_one, List.tail_cons, hfind, if_neg (by omega), List.drop_left, hkd]
      simp only [Tk.pre_cons]
      simp
theorem Tk.read_back_kids (L : Nat) (ih : ∀ (l : List UInt8) (T : Tm) (r : List UInt8), Tk.readF L l = some (T, r) → l = T.txt ++ r ∧ T.allForm = true ∧ T.depth ≤ L) :
    ∀ (k : Nat) (l : List UInt8) (ks : List Tm) (r : List UInt8), Tk.kidsF (Tk.readF L) k l = some (ks, r) → l = Tm.txts ks ++ r ∧ ks.length = k ∧ Tm.allForms ks = true ∧ Tm.depths ks ≤ L
  | 0, l, ks, r, h => by
    simp only [Tk.kidsF, Option.some.injEq, Prod.mk.injEq] at h
    obtain ⟨rfl, rfl⟩ := h
    exact ⟨rfl, rfl, rfl, by simp [Tm.depths]⟩
  | k + 1, l, ks, r, h => by
    rw [Tk.kidsF] at h
    by_cases hp : Lib.hasPrefix l [32] = false
    · rw [if_pos hp] at h; cases h
    · rw [if_neg hp] at h
      have hl := Tk.pre_true (by simpa using hp)
      cases h1 : Tk.readF L (l.drop 1) with
      | none => rw [h1] at h; cases h
      | some p =>
        obtain ⟨T, r1⟩ := p
        rw [h1] at h
        simp only at h
        cases h2 : Tk.kidsF (Tk.readF L) k r1 with
        | none => rw [h2] at h; cases h
        | some q =>
          obtain ⟨ts, r2⟩ := q
          rw [h2] at h
          simp only [Option.some.injEq, Prod.mk.injEq] at h
          obtain ⟨rfl, rfl⟩ := h
          obtain ⟨a1, a2, a3⟩ := ih _ _ _ h1
          obtain ⟨b1, b2, b3, b4⟩ := Tk.read_back_kids L ih k r1 ts r2 h2
          refine ⟨?_, by simp [b2], by simp [Tm.allForms, a2, b3], by simp only [Tm.depths]; omega⟩
          rw [hl, a1, b1]
          simp [Tm.txts]
theorem Tk.read_back : ∀ (L : Nat) (l : List UInt8) (T : Tm) (r : List UInt8), Tk.readF L l = some (T, r) → l = T.txt ++ r ∧ T.allForm = true ∧ T.depth ≤ L := by
  intro L
  induction L with
  | zero => intro l T r h; cases h
  | succ L ih =>
    intro l T r h
    rw [Tk.readF] at h
    by_cases hv : Lib.hasPrefix l [36] = true
    · rw [if_pos hv] at h
      have hl := Tk.pre_true hv
      cases hn : Tk.numL (l.drop 1) with
      | none => rw [hn] at h; cases h
      | some p =>
        obtain ⟨n, m⟩ := p
        rw [hn] at h
        simp only at h
        by_cases h3 : 3 < n
        · rw [if_pos h3] at h; cases h
        · rw [if_neg h3] at h
          simp only [Option.some.injEq, Prod.mk.injEq] at h
          obtain ⟨rfl, rfl⟩ := h
          obtain ⟨e1, e2⟩ := Tk.dec_numL hn
          refine ⟨?_, ?_, by simp [Tm.depth, Tm.depths]⟩
          · have ht : (Tm.mk 2 (n : Int) []).txt = 36 :: Lib.decDigits n := by
              simp only [Tm.txt]
              rw [if_pos (by decide), Lib.itoa_nonneg]
              rfl
            rw [ht, List.cons_append, ← e1]
            exact hl
          · simp [Tm.allForm, Tm.allForms, Tm.formedB, Tm.kidsOf, Tm.mostOf]
            omega
    · rw [if_neg hv] at h
      by_cases hp : Lib.hasPrefix l [40] = false
      · rw [if_pos hp] at h
        cases hn : Tk.numL l with
        | none => rw [hn] at h; cases h
        | some p =>
          obtain ⟨n, m⟩ := p
          rw [hn] at h
          simp only [Option.some.injEq, Prod.mk.injEq] at h
          obtain ⟨rfl, rfl⟩ := h
          obtain ⟨e1, e2⟩ := Tk.dec_numL hn
          refine ⟨?_, ?_, by simp [Tm.depth, Tm.depths]⟩
          · have ht : (Tm.mk 1 (n : Int) []).txt = Lib.decDigits n := by
              simp only [Tm.txt]
              rw [if_pos (by decide), Lib.itoa_nonneg]
              rfl
            rw [ht]
            exact e1
          · simp [Tm.allForm, Tm.allForms, Tm.formedB, Tm.kidsOf, Tm.mostOf]
            omega
      · rw [if_neg hp] at h
        have hl := Tk.pre_true (by simpa using hp)
        by_cases hz : Tk.opFind (l.drop 1) = 0
        · rw [if_pos hz] at h; cases h
        · rw [if_neg hz] at h
          obtain ⟨hw, h3, h14, _⟩ := Tk.text_find hz
          obtain ⟨o, ho⟩ : ∃ o, Tk.opFind (l.drop 1) = o := ⟨_, rfl⟩
          rw [ho] at h hw h3 h14
          cases hk : Tk.kidsF (Tk.readF L) (Tm.kidsOf o) ((l.drop 1).drop (Tm.opText o).length) with
          | none => rw [hk] at h; cases h
          | some p =>
            obtain ⟨ks, r1⟩ := p
            rw [hk] at h
            simp only at h
            by_cases hc : Lib.hasPrefix r1 [41] = true
            · rw [if_pos hc] at h
              simp only [Option.some.injEq, Prod.mk.injEq] at h
              obtain ⟨rfl, rfl⟩ := h
              obtain ⟨b1, b2, b3, b4⟩ := Tk.read_back_kids L ih _ _ _ _ hk
              have hr1 := Tk.pre_true hc
              have hko : Tm.kidsOf (o : Int) ≠ 0 := by unfold Tm.kidsOf; (repeat' split) <;> omega
              refine ⟨?_, ?_, by simp only [Tm.depth]; omega⟩
              · rw [hl, hw, b1, hr1]
                simp only [Tm.txt, hko, if_false]
                simp
              · simp only [Tm.allForm, Bool.and_eq_true, Tm.formedB, decide_eq_true_eq]
                refine ⟨⟨by omega, by omega, b2, by omega, ?_⟩, b3⟩
                unfold Tm.mostOf
                rw [if_neg (by omega), if_neg (by omega)]
                omega
            · rw [if_neg hc] at h; cases h
/-- Both parse the same. -/
theorem Tk.parse_same (l : List UInt8) : Tk.refParseR l = Tk.parseR l := by
  unfold Tk.refParseR Tk.parseR
  by_cases hl : 20000 < l.length
  · rw [if_pos hl, if_pos hl]
  · rw [if_neg hl, if_neg hl]
    have key : ∀ T : Tm, Tk.readF 24 l = some (T, []) ↔ Tk.termF 24 l = some (T, []) := by
      intro T
      constructor
      · intro h
        obtain ⟨e1, e2, e3⟩ := Tk.read_back 24 l T [] h
        rw [e1]
        exact Tk.there 24 T [] e2 e3 rfl
      · intro h
        obtain ⟨e1, e2, e3⟩ := Tk.back 24 l T [] h
        rw [e1]
        exact Tk.read_there 24 T [] e2 e3 rfl
    cases h1 : Tk.termF 24 l with
    | some p =>
      obtain ⟨T, r⟩ := p
      cases r with
      | nil => rw [(key T).2 h1]
      | cons c r =>
        cases h2 : Tk.readF 24 l with
        | none => rfl
        | some q =>
          obtain ⟨U, r'⟩ := q
          cases r' with
          | nil => rw [(key U).1 h2] at h1; cases h1
          | cons c' r' => rfl
    | none =>
      cases h2 : Tk.readF 24 l with
      | none => rfl
      | some q =>
        obtain ⟨U, r'⟩ := q
        cases r' with
        | nil => rw [(key U).1 h2] at h1; cases h1
        | cons c' r' => rfl

end Go.Proofs
