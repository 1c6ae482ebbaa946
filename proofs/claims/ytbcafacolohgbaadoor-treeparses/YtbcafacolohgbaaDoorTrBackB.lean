/-
  There and back: plain mathematics: what was parsed can be written, but for its length.
-/
import Derived.Test.YtbcafacolohgbaaDoorTrBack
namespace Go.Proofs
open Go.RowKit
open Go.Proofs.Mk

theorem Mk.meant_plain (l : List UInt8) (h : (Mk.meantL l).2 ≠ 0) : bplain (Mk.meantL l).1 = true := by
  unfold Mk.meantL at h ⊢
  split
  · split
    · decide
    · split
      · decide
      · split
        · decide
        · split
          · decide
          · rename_i h1 h2 h3 h4 h5; rw [if_pos h1, if_neg h2, if_neg h3, if_neg h4, if_neg h5] at h; simp at h
  · rename_i h0
    rw [if_neg h0] at h
    cases l with
    | nil => simp at h
    | cons c r =>
      simp only at h ⊢
      split
      · rename_i hc; rw [if_pos hc] at h; simp at h
      · rename_i hc
        simp only [not_or, Bool.not_eq_false] at hc
        exact hc.2
theorem Mk.textF_ok (stop : UInt8) : ∀ (f : Nat) (l o : List UInt8) (m : Nat), Mk.textF stop f l = some (o, m) → o.all bplain = true ∧ o.length ≤ m
  | 0, l, o, m, h => by rw [Mk.textF] at h; cases h; simp
  | f + 1, l, o, m, h => by
    rw [Mk.textF] at h
    split at h
    · cases h; simp
    split at h
    · cases h; simp
    split at h
    · cases h
    rename_i hz
    have hm := Mk.meant_plain l hz
    split at h
    · cases h
    · rename_i o' m' hr
      obtain ⟨i1, i2⟩ := Mk.textF_ok stop f _ _ _ hr
      cases h
      simp only [List.all_cons, hm, i1, Bool.and_self, List.length_cons, true_and]
      omega
theorem Mk.textL_ok {stop : UInt8} {l o : List UInt8} {m : Nat} (h : Mk.textL stop l = some (o, m)) : o.all bplain = true ∧ o.length ≤ m := Mk.textF_ok stop _ l o m h
theorem Mk.attr1_ok {l : List UInt8} {a : ByteArray × ByteArray} {c : Nat} (h : Mk.attr1 l = some (a, c)) : Mk.okA a = true ∧ 1 + a.1.size + a.2.size ≤ c := by
  unfold Mk.attr1 at h
  split at h
  · cases h
  rename_i h1
  split at h
  · cases h
  split at h
  · cases h
  rename_i v m hv
  split at h
  · cases h
  cases h
  obtain ⟨i1, i2⟩ := Mk.textL_ok hv
  refine ⟨?_, ?_⟩
  · simp only [Mk.okA, i1, Bool.true_and]; simpa using h1
  · simp only [ByteArray.size, List.size_toArray]; omega
theorem Mk.attrsF_ok : ∀ (f : Nat) (l : List UInt8) (xs : List (ByteArray × ByteArray)) (d : Nat), Mk.attrsF f l = some (xs, d) → xs.all Mk.okA = true ∧ El.attrsW xs ≤ d
  | 0, l, xs, d, h => by rw [Mk.attrsF] at h; cases h; simp [El.attrsW]
  | f + 1, l, xs, d, h => by
    rw [Mk.attrsF] at h
    split at h
    · cases h; simp [El.attrsW]
    split at h
    · cases h
    rename_i a c ha
    split at h
    · cases h
    rename_i r d' hr
    cases h
    obtain ⟨i1, i2⟩ := Mk.attr1_ok ha
    obtain ⟨j1, j2⟩ := Mk.attrsF_ok f _ _ _ hr
    simp only [List.all_cons, i1, j1, Bool.and_self, El.attrsW, true_and]
    omega
/-- A mark as it can be read, and what it weighs. -/
def Mk.okR (q : Mk.MarkV) : Prop := (q.kind = 1 → nameL q.name.data.toList = true ∧ Mk.unlikeB q.attrs = true ∧ q.attrs.all Mk.okA = true) ∧ q.text.data.toList.all bplain = true
def Mk.mW (q : Mk.MarkV) : Nat := if q.kind = 1 then El.attrsW q.attrs + 1 else q.text.size
def Mk.mWs : List Mk.MarkV → Nat | [] => 0 | q :: r => Mk.mW q + mWs r
theorem Mk.mWs_append : ∀ a b : List Mk.MarkV, Mk.mWs (a ++ b) = Mk.mWs a + Mk.mWs b
  | [], b => by simp [Mk.mWs]
  | q :: a, b => by simp only [List.cons_append, Mk.mWs, mWs_append a b]; omega
theorem Mk.nextL_ok {l : List UInt8} {k : Nat} {ms : List Mk.MarkV} {m : Nat} (h : Mk.nextL l k = some (ms, m)) : (∀ q ∈ ms, Mk.okR q) ∧ Mk.mWs ms ≤ m := by
  unfold Mk.nextL at h
  split at h
  · split at h
    · cases h
    split at h
    · cases h
    cases h
    refine ⟨fun q hq => ?_, by simp [Mk.mWs, Mk.mW, ByteArray.size]⟩
    simp only [List.mem_singleton] at hq
    subst hq
    exact ⟨fun h => by simp at h, rfl⟩
  split at h
  · split at h
    · cases h
    rename_i hnm
    split at h
    · cases h
    rename_i xs d hx
    obtain ⟨i1, i2⟩ := Mk.attrsF_ok _ _ _ _ hx
    split at h
    · cases h
    rename_i hun
    have hok : Mk.okR ⟨1, k, ⟨(nameOf (l.drop 1)).toArray⟩, xs, ⟨#[]⟩⟩ := ⟨fun _ => ⟨by simpa using hnm, by simpa using hun, i1⟩, rfl⟩
    split at h
    · cases h
      refine ⟨fun q hq => ?_, by simp [Mk.mWs, Mk.mW]; omega⟩
      simp only [List.mem_singleton] at hq
      subst hq
      exact hok
    split at h
    · cases h
      refine ⟨fun q hq => ?_, by simp [Mk.mWs, Mk.mW, ByteArray.size]; omega⟩
      simp only [List.mem_cons, List.not_mem_nil, or_false] at hq
      rcases hq with rfl | rfl
      · exact hok
      · exact ⟨fun h => by simp at h, rfl⟩
    · cases h
  · split at h
    · cases h
    rename_i o m' ho
    cases h
    obtain ⟨i1, i2⟩ := Mk.textL_ok ho
    refine ⟨fun q hq => ?_, by simpa [Mk.mWs, Mk.mW, ByteArray.size] using i2⟩
    simp only [List.mem_singleton] at hq
    subst hq
    exact ⟨fun h => by simp at h, by simpa using i1⟩
theorem Mk.Reads.ok {l : List UInt8} {k : Nat} {ms : List Mk.MarkV} (h : Mk.Reads l k ms) : (∀ q ∈ ms, Mk.okR q) ∧ Mk.mWs ms ≤ l.length := by
  induction h with
  | nil k => simp [Mk.mWs]
  | @next l k m ms r hl hn _ ih =>
    obtain ⟨i1, i2⟩ := Mk.nextL_ok hn
    have hp := Mk.nextL_pos hl hn
    refine ⟨fun q hq => ?_, ?_⟩
    · rcases List.mem_append.1 hq with hq | hq
      · exact i1 q hq
      · exact ih.1 q hq
    · rw [Mk.mWs_append]
      have := ih.2
      rw [List.length_drop] at this
      omega

/-- A head as it can be written. -/
def Ps.okH (h : El) : Prop := (Mk.wMark 1 h.name ⟨#[]⟩ h.attrs).2 = 0 ∧ h.text.data.toList.all bplain = true
def Ps.low : List (El × List El) → Prop
  | [] => True
  | (h, ks) :: r => Ps.okH h ∧ h.text.data.toList = [] ∧ El.forms ks = true ∧ El.wides ks = false ∧ ks.length < 64 ∧ El.depths ks + r.length + 1 ≤ 24 ∧ low r
def Ps.good : Ps → Prop
  | .start => True
  | .ins h ks r => Ps.okH h ∧ (h.text.data.toList = [] ∨ ks = []) ∧ El.forms ks = true ∧ El.wides ks = false ∧ ks.length ≤ 64 ∧ El.depths ks + r.length + 1 ≤ 24 ∧ Ps.low r
  | .over E => E.formB = true ∧ E.wideB = false ∧ E.depth ≤ 24
def Ps.lowW : List (El × List El) → Nat
  | [] => 0
  | (h, ks) :: r => El.attrsW h.attrs + (1 + h.text.size) + El.weights ks + lowW r
def Ps.wt : Ps → Nat
  | .start => 0
  | .ins h ks r => El.attrsW h.attrs + (1 + h.text.size) + El.weights ks + Ps.lowW r
  | .over E => E.weight
theorem El.forms_snoc : ∀ (l : List El) (E : El), El.forms (l ++ [E]) = (El.forms l && E.formB)
  | [], E => by simp [El.forms]
  | a :: l, E => by simp only [List.cons_append, El.forms, forms_snoc l E, Bool.and_assoc]
theorem El.wides_snoc : ∀ (l : List El) (E : El), El.wides (l ++ [E]) = (El.wides l || E.wideB)
  | [], E => by simp [El.wides]
  | a :: l, E => by simp only [List.cons_append, El.wides, wides_snoc l E, Bool.or_assoc]
theorem El.depths_snoc : ∀ (l : List El) (E : El), El.depths (l ++ [E]) = max (El.depths l) E.depth
  | [], E => by simp [El.depths]
  | a :: l, E => by simp only [List.cons_append, El.depths, depths_snoc l E]; omega
theorem El.weights_snoc : ∀ (l : List El) (E : El), El.weights (l ++ [E]) = El.weights l + E.weight
  | [], E => by simp [El.weights]
  | a :: l, E => by simp only [List.cons_append, El.weights, weights_snoc l E]; omega
theorem Ps.close_good {E : El} {r : List (El × List El)} (h1 : E.formB = true) (h2 : E.wideB = false) (h3 : E.depth + r.length ≤ 24) (hl : Ps.low r) : (Ps.close E r).good ∧ (Ps.close E r).wt = E.weight + Ps.lowW r := by
  cases r with
  | nil => exact ⟨⟨h1, h2, by simpa using h3⟩, by simp [Ps.close, Ps.wt, Ps.lowW]⟩
  | cons a r =>
    obtain ⟨h, ks⟩ := a
    obtain ⟨l1, l2, l3, l4, l5, l6, l7⟩ := hl
    simp only [List.length_cons] at h3
    refine ⟨⟨l1, .inl l2, by rw [El.forms_snoc, l3, h1]; rfl, by rw [El.wides_snoc, l4, h2]; rfl, by simp only [List.length_append, List.length_singleton]; omega, by rw [El.depths_snoc]; omega, l7⟩, ?_⟩
    simp only [Ps.close, Ps.wt, Ps.lowW, El.weights_snoc]
    omega
theorem Ps.take_good {st st' : Ps} {m : Mk.MarkV} (hg : st.good) (hm : Mk.okR m) (h : st.take m = .ok st') : st'.good ∧ st'.wt ≤ st.wt + Mk.mW m := by
  have hleaf : m.kind = 1 → Ps.okH (Ps.leaf m) := fun hk => by
    obtain ⟨a, b, c⟩ := hm.1 hk
    refine ⟨?_, rfl⟩
    show (Mk.wMark 1 m.name ⟨#[]⟩ m.attrs).2 = 0
    unfold Mk.wMark
    rw [if_pos rfl]
    unfold Mk.wOpen
    rw [if_pos ⟨a, rfl, b, c⟩]
  cases st with
  | start =>
    simp only [Ps.take] at h
    split at h
    · rename_i hk
      cases h
      refine ⟨⟨hleaf hk, .inl rfl, rfl, rfl, by simp, by simp [El.depths], trivial⟩, ?_⟩
      have hz : (⟨#[]⟩ : ByteArray).size = 0 := rfl
      simp only [Ps.wt, Ps.lowW, El.weights, Mk.mW, if_pos hk, Ps.leaf, El.attrs, El.text]
      omega
    · cases h
  | over E => cases h
  | ins hd ks r =>
    obtain ⟨g1, g2, g3, g4, g5, g6, g7⟩ := hg
    simp only [Ps.take] at h
    split at h
    · rename_i hk
      split at h
      · cases h
      rename_i ht
      split at h
      · cases h
      rename_i hn
      cases h
      refine ⟨⟨hleaf hk, .inl rfl, rfl, rfl, by simp, by simp only [El.depths, List.length_cons]; omega, g1, by simpa using ht, g3, g4, by omega, g6, g7⟩, ?_⟩
      have hz : (⟨#[]⟩ : ByteArray).size = 0 := rfl
      have hz1 : El.attrsW (Ps.leaf m).attrs = El.attrsW m.attrs := rfl
      have hz2 : (Ps.leaf m).text.size = 0 := rfl
      simp only [Ps.wt, Ps.lowW, El.weights, Mk.mW, if_pos hk]
      omega
    split at h
    · split at h
      · cases h
      cases h
      rename_i hk hk2 _
      have hf : (Ps.withKids hd ks).formB = true := by
        rw [El.formB_eq]
        simp only [Bool.and_eq_true]
        refine ⟨?_, g3⟩
        unfold El.ownForm
        simp only [Bool.and_eq_true, Bool.or_eq_true]
        exact ⟨⟨decide_eq_true g1.1, g1.2⟩, g2.imp decide_eq_true decide_eq_true⟩
      have hw : (Ps.withKids hd ks).wideB = false := by
        rw [El.wideB_eq]
        simp only [Bool.or_eq_false_iff, decide_eq_false_iff_not]
        exact ⟨by show ¬ 64 < ks.length; omega, g4⟩
      have hdp : (Ps.withKids hd ks).depth + r.length ≤ 24 := by
        rw [El.depth_eq]; show El.depths ks + 1 + r.length ≤ 24; omega
      obtain ⟨c1, c2⟩ := Ps.close_good hf hw hdp g7
      refine ⟨c1, ?_⟩
      rw [c2, El.weight_eq]
      show El.weights ks + (El.attrsW hd.attrs + (1 + hd.text.size)) + Ps.lowW r ≤ _
      simp only [Ps.wt]
      omega
    split at h
    · cases h
    cases h
    rename_i hk hk2 hks
    have hks : ks = [] := by simpa using hks
    subst hks
    refine ⟨⟨⟨g1.1, hm.2⟩, .inr rfl, g3, g4, g5, g6, g7⟩, ?_⟩
    simp only [Ps.wt, Mk.mW, if_neg hk]
    show El.attrsW hd.attrs + (1 + m.text.size) + El.weights [] + Ps.lowW r ≤ _
    omega
theorem Ps.run_good : ∀ (ms : List Mk.MarkV) (st st' : Ps), st.good → (∀ q ∈ ms, Mk.okR q) → st.run ms = .ok st' → st'.good ∧ st'.wt ≤ st.wt + Mk.mWs ms
  | [], st, st', hg, _, h => by rw [Ps.run] at h; cases h; exact ⟨hg, by simp [Mk.mWs]⟩
  | m :: ms, st, st', hg, hm, h => by
    rw [Ps.run] at h
    cases ht : st.take m with
    | error e => rw [ht] at h; cases h
    | ok s1 =>
      rw [ht] at h
      simp only at h
      obtain ⟨i1, i2⟩ := Ps.take_good hg (hm m (List.mem_cons_self ..)) ht
      obtain ⟨j1, j2⟩ := Ps.run_good ms s1 st' i1 (fun q hq => hm q (List.mem_cons_of_mem _ hq)) h
      refine ⟨j1, ?_⟩
      rw [Mk.mWs]
      omega
/-- What was parsed. -/
theorem El.parse_good {s : ByteArray} {E : El} {k : Nat} {er : Int} (h : El.parseL s = (some E, k, er)) : E.formB = true ∧ E.wideB = false ∧ E.depth ≤ 24 ∧ E.weight ≤ 20000 := by
  unfold El.parseL at h
  split at h
  · cases h
  rename_i hs
  split at h
  · cases h
  rename_i ms hr
  split at h
  · cases h
  rename_i st hst
  split at h
  · cases h
  rename_i X hX
  cases h
  obtain ⟨i1, i2⟩ := (Mk.Reads.of_readL hr).ok
  obtain ⟨j1, j2⟩ := Ps.run_good ms .start st trivial i1 hst
  cases st with
  | start => cases hX
  | ins a b c => cases hX
  | over F =>
    cases hX
    refine ⟨j1.1, j1.2.1, j1.2.2, ?_⟩
    have : E.weight ≤ 0 + Mk.mWs ms := j2
    rw [Mk.size_list] at i2
    omega
theorem El.parse_writes {s : ByteArray} {E : El} {k : Nat} {er : Int} (h : El.parseL s = (some E, k, er)) : E.writeR.2 = 0 ∨ E.writeR.2 = 5 := by
  obtain ⟨h1, h2, h3, _⟩ := El.parse_good h
  unfold El.writeR
  rw [if_neg (by rw [h2]; simp; omega), if_neg (by rw [h1]; simp)]
  split
  · exact .inr rfl
  · exact .inl rfl

mutual
/-- What has a form and weighs little can be reached. -/
theorem El.reach_form : ∀ E : El, E.formB = true → E.weight ≤ 100000 → E.Reach
  | .mk n xs ks t, hf, hw => by
    rw [El.formB] at hf
    simp only [Bool.and_eq_true] at hf
    obtain ⟨hown, hks⟩ := hf
    unfold El.ownForm at hown
    simp only [Bool.and_eq_true, Bool.or_eq_true, El.headW, El.name, El.attrs, El.text, El.kids] at hown
    have h1 := (El.head_ok (of_decide_eq_true hown.1.1)).1
    have hn : n.size ≤ 24 := by
      unfold nameL at h1
      simp only [Bool.and_eq_true] at h1
      have := of_decide_eq_true h1.1
      rw [Mk.size_list] at this
      exact this.2
    rw [El.weight] at hw
    have hl := El.attrsW_len xs
    refine ⟨by omega, by omega, ⟨by omega, fun j hj => by have := El.attrsW_get xs j hj; omega⟩, ?_, El.reachs_form ks hks (by omega)⟩
    have : ks.length ≤ El.weights ks := El.weights_len ks
    omega
theorem El.reachs_form : ∀ l : List El, El.forms l = true → El.weights l ≤ 100000 → El.Reachs l
  | [], _, _ => trivial
  | E :: l, hf, hw => by
    rw [El.forms] at hf
    simp only [Bool.and_eq_true] at hf
    rw [El.weights] at hw
    exact ⟨El.reach_form E hf.1 (by omega), El.reachs_form l hf.2 (by omega)⟩
theorem El.weights_len : ∀ l : List El, l.length ≤ El.weights l
  | [] => by simp
  | E :: l => by
    have h1 := El.weight_eq E
    have h2 := El.weights_len l
    rw [El.weights, List.length_cons]
    omega
end

end Go.Proofs
