/-
  There and back: plain mathematics: what is written of an element is parsed as that element.
-/
import Derived.Test.YtbcafacolohgbaaDoorMBack
import Derived.Test.YtbcafacolohgbaaDoorTrMach
namespace Go.Proofs
open Go.RowKit
open Go.Proofs.Mk

/-- The marks of a text, read one behind the other. -/
inductive Mk.Reads : List UInt8 → Nat → List Mk.MarkV → Prop
  | nil (k : Nat) : Reads [] k []
  | next {l : List UInt8} {k m : Nat} {ms r : List Mk.MarkV} : l ≠ [] → Mk.nextL l k = some (ms, m) → Reads (l.drop m) (k + m) r → Reads l k (ms ++ r)
theorem Mk.Reads.readF {l : List UInt8} {k : Nat} {ms : List Mk.MarkV} (h : Mk.Reads l k ms) : ∀ f, l.length ≤ f → Mk.readF f l k = .ok ms := by
  induction h with
  | nil k => intro f _; cases f <;> simp [Mk.readF]
  | @next l k m ms r hl hn _ ih =>
    intro f hf
    have hp := Mk.nextL_pos hl hn
    cases f with
    | zero => cases l with | nil => exact absurd rfl hl | cons a l => simp at hf
    | succ f =>
      rw [Mk.readF, if_neg hl, hn]
      simp only
      rw [ih f (by rw [List.length_drop]; omega)]
theorem Mk.Reads.readL {l : List UInt8} {k : Nat} {ms : List Mk.MarkV} (h : Mk.Reads l k ms) : Mk.readL l k = .ok ms := h.readF _ (Nat.le_refl _)
theorem Mk.Reads.of_readF : ∀ (f : Nat) (l : List UInt8) (k : Nat) (ms : List Mk.MarkV), l.length ≤ f → Mk.readF f l k = .ok ms → Mk.Reads l k ms
  | 0, l, k, ms, hf, h => by
    obtain rfl : l = [] := by cases l with | nil => rfl | cons a l => simp at hf
    rw [Mk.readF] at h; cases h; exact .nil k
  | f + 1, l, k, ms, hf, h => by
    rw [Mk.readF] at h
    by_cases hl : l = []
    · rw [if_pos hl] at h; cases h; subst hl; exact .nil k
    · rw [if_neg hl] at h
      cases hn : Mk.nextL l k with
      | none => rw [hn] at h; cases h
      | some p =>
        obtain ⟨ms', m⟩ := p
        rw [hn] at h
        simp only at h
        have hp := Mk.nextL_pos hl hn
        cases hr : Mk.readF f (l.drop m) (k + m) with
        | error e => rw [hr] at h; cases h
        | ok r =>
          rw [hr] at h
          cases h
          exact .next hl hn (of_readF f _ _ _ (by rw [List.length_drop]; omega) hr)
theorem Mk.Reads.of_readL {l : List UInt8} {k : Nat} {ms : List Mk.MarkV} (h : Mk.readL l k = .ok ms) : Mk.Reads l k ms := Mk.Reads.of_readF _ _ _ _ (Nat.le_refl _) h
/-- One step: p ++ r where p is what is taken. -/
theorem Mk.Reads.step {p r : List UInt8} {k : Nat} {ms rs : List Mk.MarkV} (hp : p ≠ []) (hn : Mk.nextL (p ++ r) k = some (ms, p.length)) (h : Mk.Reads r (k + p.length) rs) : Mk.Reads (p ++ r) k (ms ++ rs) :=
  .next (by simp [hp]) hn (by rw [List.drop_left]; exact h)

/-- The short form of an element with nothing inside. -/
theorem Mk.next_short (nm : ByteArray) (xs : List (ByteArray × ByteArray)) (h1 : nameL nm.data.toList = true) (h2 : Mk.unlikeB xs = true) (h3 : xs.all Mk.okA = true) (r : List UInt8) (k : Nat) :
    Mk.nextL (Mk.openW nm xs ++ [47, 62] ++ r) k = some ([⟨1, k, nm, xs, ⟨#[]⟩⟩, ⟨2, k, nm, [], ⟨#[]⟩⟩], (Mk.openW nm xs ++ [47, 62]).length) := by
  obtain ⟨⟨n⟩⟩ := nm
  simp only at h1
  have e0 : Mk.openW ⟨⟨n⟩⟩ xs ++ [47, 62] ++ r = 60 :: (n ++ (Mk.attrsW xs ++ 47 :: 62 :: r)) := by simp [Mk.openW]
  have hn : Mk.nameOf (n ++ (Mk.attrsW xs ++ 47 :: 62 :: r)) = n := Mk.nameOf_w n _ (Mk.name_all h1) (by
    intro c hc
    cases xs with
    | nil => simp only [Mk.attrsW, List.flatMap_nil, List.nil_append, List.head?_cons, Option.some.injEq] at hc; subst hc; decide
    | cons a xs => simp only [Mk.attrsW, List.flatMap_cons, Mk.attrW, List.cons_append, List.head?_cons, Option.some.injEq] at hc; subst hc; decide)
  obtain ⟨c, t, hc, hc47⟩ := Mk.name_head h1
  have p0 : Lib.hasPrefix (60 :: (n ++ (Mk.attrsW xs ++ 47 :: 62 :: r))) [60, 47] = false := by
    rw [hc]
    simp [Lib.hasPrefix, List.isPrefixOf, Ne.symm hc47]
  have p1 : Lib.hasPrefix (60 :: (n ++ (Mk.attrsW xs ++ 47 :: 62 :: r))) [60] = true := Mk.pre_yes [60] _
  have d1 : (60 :: (n ++ (Mk.attrsW xs ++ 47 :: 62 :: r))).drop 1 = n ++ (Mk.attrsW xs ++ 47 :: 62 :: r) := rfl
  have d2 : (60 :: (n ++ (Mk.attrsW xs ++ 47 :: 62 :: r))).drop (1 + n.length) = Mk.attrsW xs ++ 47 :: 62 :: r := by rw [← List.drop_drop, d1]; simp
  have d3 : (60 :: (n ++ (Mk.attrsW xs ++ 47 :: 62 :: r))).drop (1 + n.length + (Mk.attrsW xs).length) = 47 :: 62 :: r := by rw [← List.drop_drop, d2]; simp
  rw [e0]
  unfold Mk.nextL
  rw [if_neg (by rw [p0]; simp), if_pos p1, d1, hn, if_neg (by rw [h1]; simp), d2, Mk.attrs_w (47 :: 62 :: r) (Mk.pre_cons_no (by decide) _ _) xs h3]
  simp only
  rw [if_neg (by rw [h2]; simp), d3, if_neg (by rw [show Lib.hasPrefix (47 :: 62 :: r) [62] = false from Mk.pre_cons_no (by decide) _ _]; simp), if_pos (show Lib.hasPrefix (47 :: 62 :: r) [47, 62] = true from Mk.pre_yes [47, 62] r)]
  simp only [Option.some.injEq, Prod.mk.injEq, true_and]
  simp [Mk.openW]
  omega

theorem El.head_ok {n : ByteArray} {xs : List (ByteArray × ByteArray)} (h : (Mk.wMark 1 n ⟨#[]⟩ xs).2 = 0) :
    nameL n.data.toList = true ∧ Mk.unlikeB xs = true ∧ xs.all Mk.okA = true ∧ (Mk.wMark 1 n ⟨#[]⟩ xs).1.data.toList = Mk.openW n xs ++ [62] := by
  unfold Mk.wMark at h ⊢
  rw [if_pos rfl] at h ⊢
  unfold Mk.wOpen at h ⊢
  split at h
  · rename_i hc
    rw [if_pos hc]
    exact ⟨hc.1, hc.2.2.1, hc.2.2.2, by simp⟩
  · cases h

theorem Tr.ba_nil {t : ByteArray} (h : t.data.toList = []) : t = ⟨#[]⟩ := by
  obtain ⟨⟨l⟩⟩ := t
  simp only at h
  rw [h]

mutual
/-- An element's text ahead of any other: its marks, and what they do inside others. -/
theorem El.back : ∀ (E : El) (r : List UInt8) (k : Nat) (rs : List Mk.MarkV), E.formB = true → E.wideB = false → Mk.Reads r (k + E.textL.length) rs →
    ∃ (m : Mk.MarkV) (ms : List Mk.MarkV), Mk.Reads (E.textL ++ r) k (m :: ms ++ rs) ∧ m.kind = 1 ∧ ∀ R0 : List (El × List El), R0.length + E.depth ≤ 24 → Ps.run (.ins (Ps.leaf m) [] R0) ms = .ok (Ps.close E R0)
  | .mk n xs ks t, r, k, rs, hf, hw, hr => by
    rw [El.formB] at hf
    simp only [Bool.and_eq_true] at hf
    obtain ⟨hown, hks⟩ := hf
    unfold El.ownForm at hown
    simp only [Bool.and_eq_true, Bool.or_eq_true, El.headW, El.name, El.attrs, El.text, El.kids] at hown
    obtain ⟨⟨h0, hpl⟩, hor⟩ := hown
    have h0 := of_decide_eq_true h0
    have hor := hor.imp of_decide_eq_true of_decide_eq_true
    obtain ⟨h1, h2, h3, h4⟩ := El.head_ok h0
    have hw' := hw
    rw [El.wideB] at hw'
    simp only [Bool.or_eq_false_iff, decide_eq_false_iff_not] at hw'
    by_cases hE : ks = [] ∧ t.data.toList = []
    · obtain ⟨rfl, htn⟩ := hE
      obtain rfl := Tr.ba_nil htn
      have htl : El.textL (.mk n xs [] ⟨#[]⟩) = Mk.openW n xs ++ [47, 62] := by
        rw [El.textL, if_pos ⟨rfl, rfl⟩, h4, List.dropLast_concat]
      rw [htl] at hr ⊢
      refine ⟨⟨1, k, n, xs, ⟨#[]⟩⟩, [⟨2, k, n, [], ⟨#[]⟩⟩], Mk.Reads.step (by simp) (Mk.next_short n xs h1 h2 h3 r k) hr, rfl, fun R0 _ => ?_⟩
      simp [Ps.run, Ps.take, Ps.leaf, Ps.withKids, El.name, El.attrs, El.text]
    · have htl : El.textL (.mk n xs ks t) = (Mk.openW n xs ++ [62]) ++ (Mk.escF t.data.toList ++ (El.textLs ks ++ (60 :: 47 :: (n.data.toList ++ [62])))) := by
        rw [El.textL, if_neg hE, h4]; simp [List.append_assoc]
      rw [htl] at hr ⊢
      -- the closing mark
      have hc : Mk.Reads ((60 :: 47 :: (n.data.toList ++ [62])) ++ r) (k + (Mk.openW n xs ++ [62]).length + (Mk.escF t.data.toList).length + (El.textLs ks).length) (⟨2, k + (Mk.openW n xs ++ [62]).length + (Mk.escF t.data.toList).length + (El.textLs ks).length, n, [], ⟨#[]⟩⟩ :: rs) := by
        refine Mk.Reads.step (ms := [_]) (by simp) (Mk.next_close n h1 r _) ?_
        refine Eq.mp (congrArg (fun q => Mk.Reads r q rs) ?_) hr
        simp only [List.length_append]
        omega
      obtain ⟨ms, hms, hrun⟩ := El.backs ks _ _ _ hks hw'.2 hc
      rw [← List.append_assoc] at hms
      by_cases ht : t.data.toList = []
      · obtain rfl := Tr.ba_nil ht
        simp only [show Mk.escF (⟨#[]⟩ : ByteArray).data.toList = [] from rfl, List.nil_append, List.length_nil, Nat.add_zero] at hms ⊢
        refine ⟨⟨1, k, n, xs, ⟨#[]⟩⟩, ms ++ [⟨2, k + (Mk.openW n xs ++ [62]).length + (El.textLs ks).length, n, [], ⟨#[]⟩⟩], ?_, rfl, fun R0 hd => ?_⟩
        · have := Mk.Reads.step (ms := [_]) (by simp) (Mk.next_open n xs h1 h2 h3 ((El.textLs ks ++ (60 :: 47 :: (n.data.toList ++ [62]))) ++ r) k) hms
          simpa [List.append_assoc] using this
        · rw [El.depth] at hd
          rw [Ps.run_append, hrun (Ps.leaf _) [] R0 rfl (by simpa using hw'.1) (by omega)]
          simp [Ps.run, Ps.take, Ps.leaf, Ps.withKids, El.name, El.attrs, El.text]
      · have hks0 : ks = [] := by rcases hor with h | h; exact absurd h ht; exact h
        subst hks0
        simp only [El.textLs, List.nil_append, List.length_nil, Nat.add_zero] at hc ⊢
        refine ⟨⟨1, k, n, xs, ⟨#[]⟩⟩, [⟨3, k + (Mk.openW n xs ++ [62]).length, ⟨#[]⟩, [], t⟩, ⟨2, k + (Mk.openW n xs ++ [62]).length + (Mk.escF t.data.toList).length, n, [], ⟨#[]⟩⟩], ?_, rfl, fun R0 hd => ?_⟩
        · have hnt := Mk.next_text t (fun h => ht (by rw [h])) hpl ((60 :: 47 :: (n.data.toList ++ [62])) ++ r) (.inr rfl) (k + (Mk.openW n xs ++ [62]).length)
          have hne : Mk.escF t.data.toList ≠ [] := by
            intro h
            have h9 := Mk.nextL_pos (l := Mk.escF t.data.toList ++ ((60 :: 47 :: (n.data.toList ++ [62])) ++ r)) (by simp) hnt
            rw [h] at h9
            simp at h9
          have q1 := Mk.Reads.step (ms := [_]) hne hnt hc
          have q2 := Mk.Reads.step (ms := [_]) (by simp) (Mk.next_open n xs h1 h2 h3 (Mk.escF t.data.toList ++ ((60 :: 47 :: (n.data.toList ++ [62])) ++ r)) k) q1
          simpa [List.append_assoc] using q2
        · simp [Ps.run, Ps.take, Ps.leaf, Ps.withKids, Ps.withText, El.name, El.attrs, El.text, El.kids]
theorem El.backs : ∀ (l : List El) (r : List UInt8) (k : Nat) (rs : List Mk.MarkV), El.forms l = true → El.wides l = false → Mk.Reads r (k + (El.textLs l).length) rs →
    ∃ ms : List Mk.MarkV, Mk.Reads (El.textLs l ++ r) k (ms ++ rs) ∧ ∀ (h : El) (ks : List El) (R : List (El × List El)), h.text = ⟨#[]⟩ → ks.length + l.length ≤ 64 → R.length + 1 + El.depths l ≤ 24 → Ps.run (.ins h ks R) ms = .ok (.ins h (ks ++ l) R)
  | [], r, k, rs, _, _, hr => ⟨[], by simpa [El.textLs] using hr, fun h ks R _ _ _ => by simp [Ps.run]⟩
  | E :: l, r, k, rs, hf, hw, hr => by
    rw [El.forms] at hf
    rw [El.wides] at hw
    simp only [Bool.and_eq_true] at hf
    simp only [Bool.or_eq_false_iff] at hw
    rw [El.textLs] at hr ⊢
    obtain ⟨ms, hms, hrun⟩ := El.backs l r (k + E.textL.length) rs hf.2 hw.2 (by rw [List.length_append] at hr; rw [Nat.add_assoc]; exact hr)
    obtain ⟨m, ms', hms', hk, hrun'⟩ := El.back E (El.textLs l ++ r) k (ms ++ rs) hf.1 hw.1 hms
    refine ⟨m :: ms' ++ ms, by simpa [List.append_assoc] using hms', fun h ks R ht hl hd => ?_⟩
    rw [El.depths] at hd
    simp only [List.length_cons] at hl
    have hpos : 1 ≤ E.depth := by rw [El.depth_eq]; omega
    have htk : Ps.take (.ins h ks R) m = .ok (.ins (Ps.leaf m) [] ((h, ks) :: R)) := by
      simp only [Ps.take]
      rw [if_pos hk, if_neg (by rw [ht]; simp), if_neg (by omega)]
    rw [List.cons_append, Ps.run, htk]
    simp only
    rw [Ps.run_append, hrun' ((h, ks) :: R) (by simp only [List.length_cons]; omega)]
    simp only [Ps.close]
    rw [hrun h (ks ++ [E]) R ht (by simp only [List.length_append, List.length_singleton]; omega) (by omega)]
    simp
end

/-- What is written is parsed. -/
theorem El.parse_write (E : El) (h : E.writeR.2 = 0) : El.parseL E.writeR.1 = (some E, 0, 0) := by
  unfold El.writeR at h ⊢
  split at h
  · cases h
  rename_i c1
  split at h
  · cases h
  rename_i c2
  split at h
  · cases h
  rename_i c3
  rw [if_neg c1, if_neg c2, if_neg c3]
  obtain ⟨m, ms, hr, hk, hrun⟩ := El.back E [] 0 [] (by simpa using c2) (by simp only [not_or, Bool.not_eq_true] at c1; exact c1.2) (.nil _)
  simp only [List.append_nil] at hr
  unfold El.parseL
  rw [if_neg (by simpa [ByteArray.size] using c3)]
  simp only [hr.readL]
  have htk : Ps.take .start m = .ok (.ins (Ps.leaf m) [] []) := by simp only [Ps.take]; rw [if_pos hk]
  rw [Ps.run, htk]
  simp only
  rw [hrun [] (by simp only [not_or, Nat.not_lt] at c1; simpa using c1.1)]
  rfl

end Go.Proofs
