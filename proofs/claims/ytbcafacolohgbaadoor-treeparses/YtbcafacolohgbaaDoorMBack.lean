/-
  What was written is read: plain mathematics.
-/
import Derived.Test.YtbcafacolohgbaaDoorWMark
import Derived.Test.YtbcafacolohgbaaDoorRRead
namespace Go.Proofs
open Go.RowKit
open Go.Proofs.Mk

theorem Mk.pre_yes (p r : List UInt8) : Lib.hasPrefix (p ++ r) p = true := by
  simp only [Lib.hasPrefix, List.isPrefixOf_iff_prefix]
  exact ⟨r, rfl⟩
theorem Mk.pre_cons_no {c d : UInt8} (h : c ≠ d) (r p : List UInt8) : Lib.hasPrefix (c :: r) (d :: p) = false := by
  simp [Lib.hasPrefix, List.isPrefixOf, Ne.symm h]

/-- What is written for a plain byte is read as it. -/
theorem Mk.meant_wr (c : UInt8) (h : bplain c = true) (r : List UInt8) : Mk.meantL (wrL c.toNat ++ r) = (c, (wrL c.toNat).length) := by
  by_cases h1 : c = 60
  · subst h1; simp [wrL, signL, Mk.meantL, Lib.hasPrefix, List.isPrefixOf]
  by_cases h2 : c = 62
  · subst h2; simp [wrL, signL, Mk.meantL, Lib.hasPrefix, List.isPrefixOf]
  by_cases h3 : c = 38
  · subst h3; simp [wrL, signL, Mk.meantL, Lib.hasPrefix, List.isPrefixOf]
  by_cases h4 : c = 34
  · subst h4; simp [wrL, signL, Mk.meantL, Lib.hasPrefix, List.isPrefixOf]
  have e : ∀ d : Nat, d < 256 → c ≠ UInt8.ofNat d → ¬ ((c.toNat : Int) = d) := fun d hd hn he => hn (by
    have : c.toNat = d := by omega
    rw [← this]; simp)
  have hw : wrL c.toNat = [c] := by
    have h0 : signL c.toNat = [] := by
      unfold signL
      have g1 : ¬ ((c.toNat : Int) = 60) := e 60 (by decide) h1
      have g2 : ¬ ((c.toNat : Int) = 62) := e 62 (by decide) h2
      have g3 : ¬ ((c.toNat : Int) = 38) := e 38 (by decide) h3
      have g4 : ¬ ((c.toNat : Int) = 34) := e 34 (by decide) h4
      rw [if_neg g1, if_neg g2, if_neg g3, if_neg g4]
    unfold wrL
    rw [if_pos h0]
    simp
  rw [hw]
  simp [Mk.meantL, h1, h3, h]
theorem Mk.wr_head (c : UInt8) (r : List UInt8) : ((wrL c.toNat) ++ r).head? ≠ some 60 ∧ ((wrL c.toNat) ++ r).head? ≠ some 34 ∧ 1 ≤ (wrL c.toNat).length := by
  by_cases h1 : c = 60
  · subst h1; simp [wrL, signL]
  by_cases h2 : c = 62
  · subst h2; simp [wrL, signL]
  by_cases h3 : c = 38
  · subst h3; simp [wrL, signL]
  by_cases h4 : c = 34
  · subst h4; simp [wrL, signL]
  have e : ∀ d : Nat, d < 256 → c ≠ UInt8.ofNat d → ¬ ((c.toNat : Int) = d) := fun d hd hn he => hn (by
    have : c.toNat = d := by omega
    rw [← this]; simp)
  have hw : wrL c.toNat = [c] := by
    have h0 : signL c.toNat = [] := by
      unfold signL
      have g1 : ¬ ((c.toNat : Int) = 60) := e 60 (by decide) h1
      have g2 : ¬ ((c.toNat : Int) = 62) := e 62 (by decide) h2
      have g3 : ¬ ((c.toNat : Int) = 38) := e 38 (by decide) h3
      have g4 : ¬ ((c.toNat : Int) = 34) := e 34 (by decide) h4
      rw [if_neg g1, if_neg g2, if_neg g3, if_neg g4]
    unfold wrL
    rw [if_pos h0]
    simp
  rw [hw]
  simp [h1, h4]

theorem Mk.text_esc (stop : UInt8) (hs : stop = 60 ∨ stop = 34) (r : List UInt8) (hr : r = [] ∨ r.head? = some stop) : ∀ t : List UInt8, t.all bplain = true → Mk.textL stop (Mk.escF t ++ r) = some (t, (Mk.escF t).length)
  | [], _ => by simpa [Mk.escF] using Mk.textL_end stop r hr
  | c :: t, h => by
    simp only [List.all_cons, Bool.and_eq_true] at h
    have e0 : Mk.escF (c :: t) = wrL c.toNat ++ Mk.escF t := by simp [Mk.escF]
    have hm := Mk.meant_wr c h.1 (Mk.escF t ++ r)
    obtain ⟨g1, g2, g3⟩ := Mk.wr_head c (Mk.escF t ++ r)
    rw [e0, List.append_assoc]
    rw [Mk.textL_step stop _ (by intro hn; have := congrArg List.length hn; simp only [List.length_append, List.length_nil] at this; omega) (by rcases hs with rfl | rfl; exact g1; exact g2) (by rw [hm]; simp only; omega), hm]
    simp only [List.drop_left, Mk.text_esc stop hs r hr t h.2, List.length_append]

theorem Mk.nameOf_w (nm r : List UInt8) (h : nm.all bofName = true) (hr : ∀ c, r.head? = some c → bofName c = false) : Mk.nameOf (nm ++ r) = nm := by
  unfold Mk.nameOf
  induction nm with
  | nil =>
    cases r with
    | nil => rfl
    | cons c r => simp [hr c rfl]
  | cons c nm ih =>
    simp only [List.all_cons, Bool.and_eq_true] at h
    simp [h.1, ih h.2]
theorem Mk.name_all {nm : List UInt8} (h : nameL nm = true) : nm.all bofName = true := by
  rw [List.all_eq_true]
  intro c hc
  obtain ⟨k, hk, rfl⟩ := List.getElem_of_mem hc
  have := ((nameL_iff nm).1 h).2 k hk
  cases k with
  | zero =>
    have h2 : bletter nm[0] = true := by simpa [inNameB_zero] using this
    exact letter_ofName h2
  | succ k => simpa [inNameB_pos] using this

theorem Mk.attr1_w (a : ByteArray × ByteArray) (h : Mk.okA a = true) (r : List UInt8) : Mk.attr1 (Mk.attrW a ++ r) = some (a, (Mk.attrW a).length) := by
  simp only [Mk.okA, Bool.and_eq_true] at h
  obtain ⟨⟨⟨n⟩⟩, ⟨⟨v⟩⟩⟩ := a
  simp only at h
  have e1 : (Mk.attrW (⟨⟨n⟩⟩, ⟨⟨v⟩⟩) ++ r).drop 1 = n ++ (61 :: 34 :: (Mk.escF v ++ 34 :: r)) := by simp [Mk.attrW]
  have e2 : Mk.nameOf ((Mk.attrW (⟨⟨n⟩⟩, ⟨⟨v⟩⟩) ++ r).drop 1) = n := by
    rw [e1]
    exact Mk.nameOf_w n _ (Mk.name_all h.2) (by intro c hc; simp only [List.head?_cons, Option.some.injEq] at hc; subst hc; decide)
  have e3 : ∀ k, (Mk.attrW (⟨⟨n⟩⟩, ⟨⟨v⟩⟩) ++ r).drop (1 + k) = (n ++ (61 :: 34 :: (Mk.escF v ++ 34 :: r))).drop k := fun k => by rw [← List.drop_drop, e1]
  have e4 : (Mk.attrW (⟨⟨n⟩⟩, ⟨⟨v⟩⟩) ++ r).drop (1 + n.length) = 61 :: 34 :: (Mk.escF v ++ 34 :: r) := by rw [e3]; simp
  have e5 : (Mk.attrW (⟨⟨n⟩⟩, ⟨⟨v⟩⟩) ++ r).drop (1 + n.length + 2) = Mk.escF v ++ 34 :: r := by rw [← List.drop_drop, e4]; rfl
  have e6 : (Mk.attrW (⟨⟨n⟩⟩, ⟨⟨v⟩⟩) ++ r).drop (1 + n.length + 2 + (Mk.escF v).length) = 34 :: r := by rw [← List.drop_drop, e5]; simp
  unfold Mk.attr1
  rw [e2, if_neg (by rw [h.2]; simp), e4, if_neg (by intro hp; have := Mk.pre_yes [61, 34] (Mk.escF v ++ 34 :: r); rw [show [61, 34] ++ (Mk.escF v ++ 34 :: r) = 61 :: 34 :: (Mk.escF v ++ 34 :: r) from rfl, hp] at this; cases this), e5, Mk.text_esc 34 (.inr rfl) (34 :: r) (.inr rfl) v h.1]
  simp only
  rw [e6, if_neg (by intro hp; have := Mk.pre_yes [34] r; rw [show [34] ++ r = 34 :: r from rfl, hp] at this; cases this)]
  simp only [Option.some.injEq, Prod.mk.injEq, true_and]
  simp [Mk.attrW]
  omega

theorem Mk.attrs_w (r : List UInt8) (hr : Lib.hasPrefix r [32] = false) : ∀ xs : List (ByteArray × ByteArray), xs.all Mk.okA = true → Mk.attrsL (Mk.attrsW xs ++ r) = some (xs, (Mk.attrsW xs).length)
  | [], _ => by simpa [Mk.attrsW] using Mk.attrsL_end hr
  | a :: xs, h => by
    simp only [List.all_cons, Bool.and_eq_true] at h
    have e0 : Mk.attrsW (a :: xs) = Mk.attrW a ++ Mk.attrsW xs := by simp [Mk.attrsW]
    rw [e0, List.append_assoc]
    rw [Mk.attrsL_step (by simp [Mk.attrW, Lib.hasPrefix, List.isPrefixOf]) (Mk.attr1_w a h.1 (Mk.attrsW xs ++ r))]
    simp only [List.drop_left, Mk.attrs_w r hr xs h.2, List.length_append]

theorem Mk.name_head {nm : List UInt8} (h : nameL nm = true) : ∃ c t, nm = c :: t ∧ c ≠ 47 := by
  cases nm with
  | nil => simp [nameL] at h
  | cons c t =>
    refine ⟨c, t, rfl, ?_⟩
    rintro rfl
    have := ((nameL_iff _).1 h).2 0 (by simp)
    simp [inNameB, letterB] at this

theorem Mk.next_open (nm : ByteArray) (xs : List (ByteArray × ByteArray)) (h1 : nameL nm.data.toList = true) (h2 : Mk.unlikeB xs = true) (h3 : xs.all Mk.okA = true) (r : List UInt8) (k : Nat) :
    Mk.nextL (Mk.openW nm xs ++ [62] ++ r) k = some ([⟨1, k, nm, xs, ⟨#[]⟩⟩], (Mk.openW nm xs ++ [62]).length) := by
  obtain ⟨⟨n⟩⟩ := nm
  simp only at h1
  have e0 : Mk.openW ⟨⟨n⟩⟩ xs ++ [62] ++ r = 60 :: (n ++ (Mk.attrsW xs ++ 62 :: r)) := by simp [Mk.openW]
  have hn : Mk.nameOf (n ++ (Mk.attrsW xs ++ 62 :: r)) = n := Mk.nameOf_w n _ (Mk.name_all h1) (by
    intro c hc
    cases xs with
    | nil => simp only [Mk.attrsW, List.flatMap_nil, List.nil_append, List.head?_cons, Option.some.injEq] at hc; subst hc; decide
    | cons a xs => simp only [Mk.attrsW, List.flatMap_cons, Mk.attrW, List.cons_append, List.head?_cons, Option.some.injEq] at hc; subst hc; decide)
  obtain ⟨c, t, hc, hc47⟩ := Mk.name_head h1
  have p0 : Lib.hasPrefix (60 :: (n ++ (Mk.attrsW xs ++ 62 :: r))) [60, 47] = false := by
    rw [hc]
    simp [Lib.hasPrefix, List.isPrefixOf, Ne.symm hc47]
  have p1 : Lib.hasPrefix (60 :: (n ++ (Mk.attrsW xs ++ 62 :: r))) [60] = true := Mk.pre_yes [60] _
  have d1 : (60 :: (n ++ (Mk.attrsW xs ++ 62 :: r))).drop 1 = n ++ (Mk.attrsW xs ++ 62 :: r) := rfl
  have d2 : (60 :: (n ++ (Mk.attrsW xs ++ 62 :: r))).drop (1 + n.length) = Mk.attrsW xs ++ 62 :: r := by rw [← List.drop_drop, d1]; simp
  have d3 : (60 :: (n ++ (Mk.attrsW xs ++ 62 :: r))).drop (1 + n.length + (Mk.attrsW xs).length) = 62 :: r := by rw [← List.drop_drop, d2]; simp
  rw [e0]
  unfold Mk.nextL
  rw [if_neg (by rw [p0]; simp), if_pos p1, d1, hn, if_neg (by rw [h1]; simp), d2, Mk.attrs_w (62 :: r) (Mk.pre_cons_no (by decide) _ _) xs h3]
  simp only
  rw [if_neg (by rw [h2]; simp), d3, if_pos (show Lib.hasPrefix (62 :: r) [62] = true from Mk.pre_yes [62] r)]
  simp only [Option.some.injEq, Prod.mk.injEq, true_and]
  simp [Mk.openW]
  omega

theorem Mk.next_close (nm : ByteArray) (h1 : nameL nm.data.toList = true) (r : List UInt8) (k : Nat) :
    Mk.nextL (60 :: 47 :: (nm.data.toList ++ [62]) ++ r) k = some ([⟨2, k, nm, [], ⟨#[]⟩⟩], (60 :: 47 :: (nm.data.toList ++ [62])).length) := by
  obtain ⟨⟨n⟩⟩ := nm
  simp only at h1 ⊢
  have e0 : 60 :: 47 :: (n ++ [62]) ++ r = 60 :: 47 :: (n ++ 62 :: r) := by simp
  have hn : Mk.nameOf (n ++ 62 :: r) = n := Mk.nameOf_w n _ (Mk.name_all h1) (by intro c hc; simp only [List.head?_cons, Option.some.injEq] at hc; subst hc; decide)
  have d2 : (60 :: 47 :: (n ++ 62 :: r)).drop 2 = n ++ 62 :: r := rfl
  have d3 : (60 :: 47 :: (n ++ 62 :: r)).drop (2 + n.length) = 62 :: r := by rw [← List.drop_drop, d2]; simp
  rw [e0]
  unfold Mk.nextL
  rw [if_pos (show Lib.hasPrefix (60 :: 47 :: (n ++ 62 :: r)) [60, 47] = true from Mk.pre_yes [60, 47] _), d2, hn, if_neg (by rw [h1]; simp), d3, if_neg (by intro hp; have := Mk.pre_yes [62] r; rw [show [62] ++ r = 62 :: r from rfl, hp] at this; cases this)]
  simp only [Option.some.injEq, Prod.mk.injEq, true_and]
  simp
  omega

theorem Mk.next_text (tx : ByteArray) (h0 : tx ≠ ⟨#[]⟩) (h1 : tx.data.toList.all bplain = true) (r : List UInt8) (hr : r = [] ∨ r.head? = some 60) (k : Nat) :
    Mk.nextL (Mk.escF tx.data.toList ++ r) k = some ([⟨3, k, ⟨#[]⟩, [], tx⟩], (Mk.escF tx.data.toList).length) := by
  obtain ⟨⟨t⟩⟩ := tx
  simp only at h1 ⊢
  cases t with
  | nil => exact absurd rfl h0
  | cons c t =>
    have e0 : Mk.escF (c :: t) ++ r = wrL c.toNat ++ (Mk.escF t ++ r) := by simp [Mk.escF]
    obtain ⟨g1, _, g3⟩ := Mk.wr_head c (Mk.escF t ++ r)
    have hx : ∀ p, Lib.hasPrefix (Mk.escF (c :: t) ++ r) (60 :: p) = false := by
      intro p
      rw [e0]
      cases hw : wrL c.toNat ++ (Mk.escF t ++ r) with
      | nil => rfl
      | cons d l =>
        rw [hw] at g1
        exact Mk.pre_cons_no (by intro h; exact g1 (by rw [h]; rfl)) _ _
    unfold Mk.nextL
    rw [if_neg (by rw [hx]; simp), if_neg (by rw [hx]; simp), Mk.text_esc 60 (.inl rfl) r hr (c :: t) h1]

/-- Marks that have bytes, as numbers and texts. -/
abbrev Mk.Q := Int × ByteArray × ByteArray × List (ByteArray × ByteArray)
def Mk.wQ (q : Mk.Q) : List UInt8 := (Mk.wMark q.1 q.2.1 q.2.2.1 q.2.2.2).1.data.toList
def Mk.okQ (q : Mk.Q) : Prop := (Mk.wMark q.1 q.2.1 q.2.2.1 q.2.2.2).2 = 0
/-- No two texts stand one behind the other. -/
def Mk.Sep : List Mk.Q → Prop | a :: b :: r => ¬ (a.1 = 3 ∧ b.1 = 3) ∧ Sep (b :: r) | _ => True
def Mk.Like (m : Mk.MarkV) (q : Mk.Q) : Prop := (m.kind : Int) = q.1 ∧ m.name = q.2.1 ∧ m.text = q.2.2.1 ∧ m.attrs = q.2.2.2

theorem Mk.next_w (q : Mk.Q) (h : Mk.okQ q) (r : List UInt8) (hr : q.1 = 3 → r = [] ∨ r.head? = some 60) (k : Nat) :
    (∃ m, Mk.nextL (Mk.wQ q ++ r) k = some ([m], (Mk.wQ q).length) ∧ Mk.Like m q) ∧ Mk.wQ q ≠ [] ∧ (q.1 ≠ 3 → (Mk.wQ q).head? = some 60) := by
  obtain ⟨kd, nm, tx, xs⟩ := q
  simp only [Mk.okQ, Mk.wMark] at h
  simp only [Mk.wQ, Mk.wMark, Mk.Like]
  simp only at hr
  by_cases h1 : kd = 1
  · subst h1
    simp only [if_true, Mk.wOpen] at h ⊢
    split at h
    · rename_i hc
      rw [if_pos hc]
      obtain ⟨c1, rfl, c3, c4⟩ := hc
      refine ⟨⟨_, Mk.next_open nm xs c1 c3 c4 r k, rfl, rfl, rfl, rfl⟩, by simp [Mk.openW], fun _ => by simp [Mk.openW]⟩
    · cases h
  · rw [if_neg h1] at h ⊢
    by_cases h2 : kd = 2
    · subst h2
      simp only [if_true, Mk.wClose] at h ⊢
      split at h
      · rename_i hc
        rw [if_pos hc]
        obtain ⟨c1, rfl, c3⟩ := hc
        obtain rfl : xs = [] := List.length_eq_zero_iff.1 c3
        have e : ((⟨#[60, 47]⟩ : ByteArray) ++ nm ++ ⟨#[62]⟩).data.toList = 60 :: 47 :: (nm.data.toList ++ [62]) := by simp [ByteArray.data_append]
        rw [e]
        exact ⟨⟨_, Mk.next_close nm c1 r k, rfl, rfl, rfl, rfl⟩, by simp, fun _ => rfl⟩
      · cases h
    · rw [if_neg h2] at h ⊢
      by_cases h3 : kd = 3
      · subst h3
        simp only [if_true, Mk.wText] at h ⊢
        split at h
        · cases h
        · rename_i hc
          rw [if_neg hc]
          simp only [Mk.escErr] at h
          split at h
          · rename_i ha
            have c1 : tx ≠ ⟨#[]⟩ := fun e => hc (.inl e)
            have c2 : nm = ⟨#[]⟩ := Decidable.byContradiction fun e => hc (.inr (.inl e))
            have c3 : xs = [] := List.length_eq_zero_iff.1 (Decidable.byContradiction fun e => hc (.inr (.inr e)))
            subst c2 c3
            have e : Mk.escText tx.data.toList = Mk.escF tx.data.toList := by rw [Mk.escText, if_pos ha]
            simp only [e]
            refine ⟨⟨_, Mk.next_text tx c1 ha r (hr rfl) k, rfl, rfl, rfl, rfl⟩, ?_, fun h => absurd rfl h⟩
            obtain ⟨⟨t⟩⟩ := tx
            cases t with
            | nil => exact absurd rfl c1
            | cons c t =>
              intro he
              have := (Mk.wr_head c (Mk.escF t)).2.2
              have h2 := congrArg List.length he
              rw [show Mk.escF (c :: t) = wrL c.toNat ++ Mk.escF t by simp [Mk.escF]] at h2
              simp only [List.length_append, List.length_nil] at h2
              omega
          · cases h
      · rw [if_neg h3] at h
        cases h

/-- What was written is read. -/
theorem Mk.read_back : ∀ (l : List Mk.Q), (∀ q ∈ l, Mk.okQ q) → Mk.Sep l → ∀ k, ∃ rs : List Mk.MarkV, Mk.readL (l.flatMap Mk.wQ) k = .ok rs ∧ rs.length = l.length ∧ ∀ i (h1 : i < rs.length) (h2 : i < l.length), Mk.Like rs[i] l[i]
  | [], _, _, k => ⟨[], by simp [Mk.readL_nil], rfl, fun i h => by simp at h⟩
  | q :: l, hq, hs, k => by
    have hl : Mk.Sep l := by
      cases l with
      | nil => trivial
      | cons b r => exact hs.2
    have hr : q.1 = 3 → l.flatMap Mk.wQ = [] ∨ (l.flatMap Mk.wQ).head? = some 60 := by
      intro h3
      cases l with
      | nil => exact .inl rfl
      | cons b r =>
        right
        have hb : b.1 ≠ 3 := fun e => hs.1 ⟨h3, e⟩
        obtain ⟨_, hne, hh⟩ := Mk.next_w b (hq b (by simp)) [] (fun e => absurd e hb) 0
        have h60 := hh hb
        cases hw : Mk.wQ b with
        | nil => exact absurd hw hne
        | cons c t =>
          rw [hw] at h60
          simp only [List.flatMap_cons, hw, List.cons_append, List.head?_cons]
          simpa using h60
    obtain ⟨⟨m, hn, hlike⟩, hne, _⟩ := Mk.next_w q (hq q (by simp)) (l.flatMap Mk.wQ) hr k
    obtain ⟨rs, e, elen, eall⟩ := Mk.read_back l (fun x hx => hq x (by simp [hx])) hl (k + (Mk.wQ q).length)
    refine ⟨m :: rs, ?_, by simp [elen], ?_⟩
    · rw [List.flatMap_cons, Mk.readL_step (by simp [hne]) hn]
      simp only [List.drop_left, e, List.singleton_append]
    · intro i h1 h2
      cases i with
      | zero => simpa using hlike
      | succ i => simpa using eall i (by simpa using h1) (by simpa using h2)

end Go.Proofs
