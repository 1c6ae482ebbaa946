import Derived.Test.YtbcafacolohgbaaDoorTrBegin3
import Derived.Test.YtbcafacolohgbaaDoorAllTrText
import Derived.Test.YtbcafacolohgbaaDoorRefOpen
import Derived.Test.YtbcafacolohgbaaDoorTrMach
/-
  The contract of the parser's take: it is the machine's.
-/
namespace Go.Proofs
open Go.RowKit
open Go.Proofs.Mk

theorem Tr.lies_on {L bp : Nat} {vE vO vE' vO' : Value} {w w' : World} (hb : Tk.But (fun k => k = bp ∨ vE.ownBlock = some k ∨ vO.ownBlock = some k) w w')
    (hE : ∀ g, vE'.ownBlock = some g → vE.ownBlock = some g ∨ w.heap.size ≤ g) (hO : ∀ g, vO'.ownBlock = some g → vO.ownBlock = some g ∨ w.heap.size ≤ g) {d : Nat} {a k : Value} {E : El}
    (h : El.Lies w (Tr.Apart L bp vE vO w.heap.size) d a k E) : El.Lies w' (Tr.Apart L bp vE' vO' w'.heap.size) d a k E :=
  h.keep (fun k hk => hb.block k hk.1 (by rintro (h | h | h); exact hk.2.1 h; exact hk.2.2.1 h; exact hk.2.2.2.1 h))
    fun k hk => ⟨Nat.lt_of_lt_of_le hk.1 hb.size, hk.2.1, fun e => (hE k e).elim hk.2.2.1 (fun h => by have := hk.1; omega), fun e => (hO k e).elim hk.2.2.2.1 (fun h => by have := hk.1; omega), hk.2.2.2.2⟩
theorem Tr.attrs_on {L bp : Nat} {vE vO vE' vO' : Value} {w w' : World} (hb : Tk.But (fun k => k = bp ∨ vE.ownBlock = some k ∨ vO.ownBlock = some k) w w')
    (hE : ∀ g, vE'.ownBlock = some g → vE.ownBlock = some g ∨ w.heap.size ≤ g) (hO : ∀ g, vO'.ownBlock = some g → vO.ownBlock = some g ∨ w.heap.size ≤ g) {a : Value} {xs : List (ByteArray × ByteArray)}
    (h : El.AttrsP w (Tr.Apart L bp vE vO w.heap.size) a xs) : El.AttrsP w' (Tr.Apart L bp vE' vO' w'.heap.size) a xs :=
  h.keep (fun k hk => hb.block k hk.1 (by rintro (h | h | h); exact hk.2.1 h; exact hk.2.2.1 h; exact hk.2.2.2.1 h))
    fun k hk => ⟨Nat.lt_of_lt_of_le hk.1 hb.size, hk.2.1, fun e => (hE k e).elim hk.2.2.1 (fun h => by have := hk.1; omega), fun e => (hO k e).elim hk.2.2.2.1 (fun h => by have := hk.1; omega), hk.2.2.2.2⟩
/-- A row of attributes, as it lies. -/
theorem Tr.attrs_of {w : World} {B : Nat} {v : Value} {xs : List (ByteArray × ByteArray)} {e : TypeId} (h : w.ownsRow B e 2 v xs.length (Mk.attrCells xs)) {P : Nat → Prop} (hP : ∀ k, v.ownBlock = some k → P k) : El.AttrsP w P v xs := by
  rcases Mk.attrsAt_own h with h1 | ⟨g, off, cap, rfl, hc, hg, hr⟩
  · exact .inl h1
  · refine .inr ⟨g, off, cap, rfl, hc, ?_, hr⟩
    rcases h.2 with ⟨h0, _⟩ | ⟨g', cap', cur, hv, _⟩
    · cases h0
    · cases hv
      exact hP g rfl

/-- All parts of an inside parser's row. -/
theorem Tr.Pa.parts {L B bp : Nat} {h : El} {ks : List El} {r : List (El × List El)} {vE vO : Value} {qs : List (El × Value × Value)} {X : World} (hP : Tr.Pa L B bp (.ins h ks r) vE vO qs X) :
    ∃ A va vk D gE cE gO cO, qs = A ++ (h, va, vk) :: D ∧ A.map (·.1) = Ps.flat r ∧ D.map (·.1) = ks ∧ A.length = (Ps.flat r).length ∧ D.length = ks.length ∧
      vE = .slice (some ⟨gE, 0, none⟩) (A.length + 1 + D.length) cE ∧ vO = .slice (some ⟨gO, 0, none⟩) (r.length + 1) cO := by
  have he : qs.map (·.1) = Ps.flat r ++ h :: ks := hP.els
  obtain ⟨A, Z, rfl, hA, hZ⟩ := List.map_eq_append_iff.1 he
  obtain ⟨q, D, rfl, hq, hD⟩ := List.map_eq_cons_iff.1 hZ
  obtain ⟨q0, va, vk⟩ := q
  simp only at hq
  subst hq
  have hl : (A ++ (q0, va, vk) :: D).length = A.length + 1 + D.length := by simp; omega
  have hm : (Ps.ops (.ins q0 ks r)).length = r.length + 1 := by simp [Ps.ops, Ps.places, Ps.places_length]
  obtain ⟨gE, cE, hvE, _⟩ := hP.rowE.form (by rw [hl]; omega)
  obtain ⟨gO, cO, hvO, _⟩ := hP.rowO.form (by rw [hm]; omega)
  rw [hl] at hvE
  rw [hm] at hvO
  exact ⟨A, va, vk, D, gE, cE, gO, cO, rfl, hA, hD, by rw [← hA]; simp, by rw [← hD]; simp, hvE, hvO⟩
theorem Tr.Pa.inn {L B bp : Nat} {h : El} {ks : List El} {r : List (El × List El)} {X : World} {A D : List (El × Value × Value)} {va vk : Value} {gE cE gO cO : Nat}
    (hP : Tr.Pa L B bp (.ins h ks r) (.slice (some ⟨gE, 0, none⟩) (A.length + 1 + D.length) cE) (.slice (some ⟨gO, 0, none⟩) (r.length + 1) cO) (A ++ (h, va, vk) :: D) X) (hA : A.length = (Ps.flat r).length) (hn : A.length + 1 + D.length ≤ 1000000) (hr : r.length ≤ 1000000) :
    Tr.In bp gE cE gO cO (A.length + 1 + D.length) r.length A.length h.text X ∧ X.cell? ⟨gE, A.length * 4, none⟩ = some (.string h.name) ∧
      X.ownsRow B 25 4 (.slice (some ⟨gE, 0, none⟩) (A.length + 1 + D.length) cE) (A.length + 1 + D.length) (Tr.eCells (A ++ [(h, va, vk)]) ++ Tr.eCells D) ∧
      X.ownsRow B 3 1 (.slice (some ⟨gO, 0, none⟩) (r.length + 1) cO) (r.length + 1) (Tr.nCells (Ps.places r) ++ [.int .i64 (A.length : Nat)]) := by
  have hl : (A ++ (h, va, vk) :: D).length = A.length + 1 + D.length := by simp; omega
  have hm : (Ps.ops (.ins h ks r)).length = r.length + 1 := by simp [Ps.ops, Ps.places, Ps.places_length]
  have rE := hP.rowE
  have rO := hP.rowO
  rw [hl] at rE
  rw [hm] at rO
  have hat := Tr.eCells_at (A ++ (h, va, vk) :: D) A.length (by simp)
  simp only [List.getElem_append_right (Nat.le_refl _), Nat.sub_self, List.getElem_cons_zero] at hat
  have eE : Tr.eCells (A ++ (h, va, vk) :: D) = Tr.eCells (A ++ [(h, va, vk)]) ++ Tr.eCells D := by rw [← Tr.eCells_append]; simp
  have eO : Tr.nCells (Ps.ops (.ins h ks r)) = Tr.nCells (Ps.places r) ++ [.int .i64 (A.length : Nat)] := by simp [Ps.ops, Ps.places, Tr.nCells, hA]
  refine ⟨⟨hP.c0, hP.c1, ?_, Tr.own_at rE hat.2.2.2, by omega, hn, hr⟩, Tr.own_at rE hat.1, by rw [← eE]; exact rE, by rw [← eO]; exact rO⟩
  refine Tr.own_at rO ?_
  rw [eO, List.getElem?_append_right (by simp [Tr.nCells, Ps.places_length])]
  simp [Tr.nCells, Ps.places_length]

/-- What a call of the parser leaves. -/
def Tr.Took (L B bp : Nat) (_st : Ps) (vE vO : Value) (n : Nat) (w : World) (r : Except Int Ps) (e : Ending) (w' : World) : Prop :=
  Tk.But (fun k => k = bp ∨ vE.ownBlock = some k ∨ vO.ownBlock = some k) w w' ∧ match r with
    | .error x => e = .returned (.int .i64 x)
    | .ok st' => e = .returned (.int .i64 0) ∧ ∃ vE' vO' qs', Tr.Pa L B bp st' vE' vO' qs' w' ∧ qs'.length ≤ n + 1

theorem Tr.oneCells (qs : List (El × Value × Value)) (h : ∀ q ∈ qs, ∃ d w P, El.Lies w P d q.2.1 q.2.2 q.1) : ∀ u ∈ Tr.eCells qs, u.oneCell' = true := by
  intro u hu
  simp only [Tr.eCells, List.mem_flatMap] at hu
  obtain ⟨q, hq, hu⟩ := hu
  obtain ⟨d, w, P, hl⟩ := h q hq
  obtain ⟨a, c, a', c', h1, h2⟩ := hl.shape
  simp only [List.mem_cons, List.not_mem_nil, or_false] at hu
  rcases hu with rfl | rfl | rfl | rfl
  · rfl
  · rw [h1]; rfl
  · rw [h2]; rfl
  · rfl

theorem Tr.begun {L B bp : Nat} {st : Ps} {vE vO : Value} {qs : List (El × Value × Value)} {w w' : World} {m : MarkV} {va : Value} (hP : Tr.Pa L B bp st vE vO qs w) (hA : El.AttrsP w (Tr.Apart L bp vE vO w.heap.size) va m.attrs)
    (h : Tr.Begun bp B qs.length st.ops.length vE vO (Tr.eCells qs) (Tr.nCells st.ops) m.name va w w') (st' : Ps) (he : st'.els = st.els ++ [Ps.leaf m]) (ho : st'.ops = st.ops ++ [qs.length]) (hne : st' ≠ .start) :
    ∃ vE' vO' qs', Tr.Pa L B bp st' vE' vO' qs' w' ∧ qs'.length ≤ qs.length + 1 := by
  obtain ⟨hb, g, c, g', c', hg, hg', hp, h1, h2⟩ := h
  have kE : ∀ k, (Value.slice (some ⟨g, 0, none⟩) (qs.length + 1) c).ownBlock = some k → vE.ownBlock = some k ∨ w.heap.size ≤ k := fun k e => by have : g = k := Option.some.inj e; subst this; exact hg
  have kO : ∀ k, (Value.slice (some ⟨g', 0, none⟩) (st.ops.length + 1) c').ownBlock = some k → vO.ownBlock = some k ∨ w.heap.size ≤ k := fun k e => by have : g' = k := Option.some.inj e; subst this; exact hg'
  refine ⟨_, _, qs ++ [(Ps.leaf m, va, .slice none 0 0)], ⟨hp, ?_, ?_, ?_, ?_, fun h => absurd h hne⟩, by simp⟩
  · rw [List.length_append, Tr.eCells_append]; exact h1
  · rw [ho, List.length_append]
    have : Tr.nCells (st.ops ++ [qs.length]) = Tr.nCells st.ops ++ [.int .i64 (qs.length : Nat)] := by simp [Tr.nCells]
    rw [this]; exact h2
  · rw [List.map_append, hP.els, he]; rfl
  · intro q hq
    rcases List.mem_append.1 hq with hq | hq
    · obtain ⟨d, hd⟩ := hP.lies q hq
      exact ⟨d, Tr.lies_on hb kE kO hd⟩
    · rw [List.mem_singleton.1 hq]
      exact ⟨1, El.Lies.leaf 0 (Tr.attrs_on hb kE kO hA) _ _ rfl⟩

theorem Tryd.begin_any (L B bp : Nat) (st : Ps) (vE vO : Value) (qs : List (El × Value × Value)) (q : MarkV × Value) (w : World) (hP : Tr.Pa L B bp st vE vO qs w) (hB : B ≤ w.heap.size) (hA : El.AttrsP w (Tr.Apart L bp vE vO w.heap.size) q.2 q.1.attrs)
    (hk : q.1.kind = 1) (hn : qs.length ≤ 1000000) (hr : st.ops.length ≤ 1000000) :
    Calls Tryd.prog 46 #[.pointer (some ⟨bp, 0, none⟩), .agg #[.int .i64 q.1.kind, .int .i64 q.1.at_, .string q.1.name, q.2, .string q.1.text]] w fun e w' => Tr.Took L B bp st vE vO qs.length w (Ps.take st q.1) e w' := by
  obtain ⟨m, va⟩ := q
  simp only at hA hk ⊢
  obtain ⟨aa, ac, hva⟩ := hA.shape
  subst hva
  cases st with
  | start =>
    obtain ⟨rfl, rfl⟩ := hP.new rfl
    have hq : qs = [] := by have := hP.els; simpa [Ps.els] using this
    subst hq
    refine (Tryd.begin_start bp B _ _ _ _ _ _ _ w hP.par hB).mono ?_
    rintro e w' ⟨rfl, hb⟩
    have ht : Ps.take .start m = .ok (.ins (Ps.leaf m) [] []) := by simp [Ps.take, hk]
    rw [ht]
    exact ⟨hb.1, rfl, Tr.begun hP hA hb (.ins (Ps.leaf m) [] []) rfl rfl (by simp)⟩
  | over E =>
    obtain ⟨o', c', hvO⟩ := Mk.own_shape hP.rowO
    obtain ⟨o, c, hvE⟩ := Mk.own_shape hP.rowE
    have hl : 0 < qs.length := by have := congrArg List.length hP.els; simp [Ps.els] at this; omega
    refine (Tryd.begin_over bp qs.length c c' o o' _ _ _ _ _ w hP.lt (by rw [hP.c0, hvE]) (by rw [hP.c1, hvO]; rfl) hl).mono ?_
    rintro e w' ⟨rfl, hb⟩
    exact ⟨Tk.But.of_below hb, rfl⟩
  | ins h ks r =>
    obtain ⟨A, vb, vk, D, gE, cE, gO, cO, rfl, hA1, hD1, hA2, hD2, rfl, rfl⟩ := hP.parts
    have hrl : (Ps.ops (.ins h ks r)).length = r.length + 1 := by simp [Ps.ops, Ps.places, Ps.places_length]
    have hl : (A ++ (h, vb, vk) :: D).length = A.length + 1 + D.length := by simp; omega
    obtain ⟨hI, hc, hE, hO⟩ := hP.inn hA2 (by omega) (by omega)
    simp only [Ps.take, hk, if_true]
    by_cases ht : h.text.data.toList ≠ []
    · rw [if_pos ht]
      refine (Tryd.begin_text bp gE cE gO cO _ _ _ _ _ _ _ _ _ w hI ht).mono ?_
      rintro e w' ⟨rfl, hb⟩
      exact ⟨Tk.But.of_below hb, rfl⟩
    · rw [if_neg ht]
      have ht' : h.text.data.toList = [] := by simpa using ht
      by_cases h24 : r.length + 1 = 24
      · rw [if_pos (.inl h24)]
        refine (Tryd.begin_deep bp gE cE gO cO _ _ _ _ _ _ _ _ _ w hI ht' h24).mono ?_
        rintro e w' ⟨rfl, hb⟩
        exact ⟨Tk.But.of_below hb, rfl⟩
      · by_cases h64 : ks.length = 64
        · rw [if_pos (.inr h64)]
          refine (Tryd.begin_wide bp gE cE gO cO _ _ _ _ _ _ _ _ _ w hI ht' h24 (by omega)).mono ?_
          rintro e w' ⟨rfl, hb⟩
          exact ⟨Tk.But.of_below hb, rfl⟩
        · rw [if_neg (by rintro (h | h); exact h24 h; exact h64 h)]
          refine (Tryd.begin_ok bp B gE cE gO cO _ _ _ _ _ _ _ _ _ _ _ _ _ w hI ht' h24 (by omega) hP.par hB hE hO).mono ?_
          rintro e w' ⟨rfl, hb⟩
          have eE : Tr.eCells (A ++ (h, vb, vk) :: D) = Tr.eCells (A ++ [(h, vb, vk)]) ++ Tr.eCells D := by rw [← Tr.eCells_append]; simp
          have eO : Tr.nCells (Ps.ops (.ins h ks r)) = Tr.nCells (Ps.places r) ++ [.int .i64 (A.length : Nat)] := by simp [Ps.ops, Ps.places, Tr.nCells, hA2]
          refine ⟨hb.1, rfl, Tr.begun hP hA (by rw [hl, hrl, eE, eO]; exact hb) (.ins (Ps.leaf m) [] ((h, ks) :: r)) (by simp [Ps.els, Ps.flat]) ?_ (by simp)⟩
          rw [hl]
          simp [Ps.ops, Ps.places, Ps.flat, hA2]
          omega

end Go.Proofs

/-
  The contracts of the parser's end, text and take: they are the machine's.
-/
namespace Go.Proofs
open Go.RowKit
open Go.Proofs.Mk

theorem Tr.eCells_set2 (A : List (El × Value × Value)) (h : El) (va vk vk' : Value) (E : El) (hn : E.name = h.name) (ht : E.text = h.text) : (Tr.eCells (A ++ [(h, va, vk)])).set (A.length * 4 + 2) vk' = Tr.eCells (A ++ [(E, va, vk')]) := by
  rw [Tr.eCells_append, Tr.eCells_append, List.set_append_right _ _ (by rw [Tr.eCells_length]; omega), Tr.eCells_length]
  simp [Tr.eCells, hn, ht]
theorem Tr.eCells_set3 (A : List (El × Value × Value)) (h : El) (va vk : Value) (t : ByteArray) (E : El) (hn : E.name = h.name) (ht : E.text = t) : (Tr.eCells (A ++ [(h, va, vk)])).set (A.length * 4 + 3) (.string t) = Tr.eCells (A ++ [(E, va, vk)]) := by
  rw [Tr.eCells_append, Tr.eCells_append, List.set_append_right _ _ (by rw [Tr.eCells_length]; omega), Tr.eCells_length]
  simp [Tr.eCells, hn, ht]
theorem Tr.max_lies {w : World} {P : Nat → Prop} : ∀ (l : List (El × Value × Value)), (∀ q ∈ l, ∃ d, El.Lies w P d q.2.1 q.2.2 q.1) → ∃ D, ∀ q ∈ l, El.Lies w P D q.2.1 q.2.2 q.1
  | [], _ => ⟨0, fun _ h => by cases h⟩
  | a :: l, h => by
    obtain ⟨D, hD⟩ := Tr.max_lies l fun q hq => h q (by simp [hq])
    obtain ⟨d, hd⟩ := h a (by simp)
    refine ⟨max D d, fun q hq => ?_⟩
    rcases List.mem_cons.1 hq with rfl | hq
    · exact hd.upto (Nat.le_max_right _ _)
    · exact (hD q hq).upto (Nat.le_max_left _ _)
/-- The element that takes its kids. -/
theorem Tr.closed {w : World} {P : Nat → Prop} {E : El} {va vk : Value} (D : List (El × Value × Value)) (hD : D.map (·.1) = E.kids) (hA : El.AttrsP w P va E.attrs) (hl : ∀ q ∈ D, ∃ d, El.Lies w P d q.2.1 q.2.2 q.1)
    (hk : (D.length = 0 ∧ vk = .slice none 0 0) ∨ ∃ gk, P gk ∧ vk = .slice (some ⟨gk, 0, none⟩) D.length D.length ∧ w.heap[gk]? = some (.cells (Tr.eCells D).toArray 25 (0, 0))) : ∃ d, El.Lies w P d va vk E := by
  obtain ⟨M, hM⟩ := Tr.max_lies D hl
  have hlen : E.kids.length = D.length := by rw [← hD]; simp
  refine ⟨M + 1, hA, ?_⟩
  rcases hk with ⟨h0, rfl⟩ | ⟨gk, hp, rfl, hg⟩
  · exact ⟨none, 0, by rw [hlen, h0], .inl (List.length_eq_zero_iff.1 (by omega))⟩
  · refine ⟨_, _, by rw [hlen], .inr ⟨gk, 0, rfl, hp, fun j hj => ?_⟩⟩
    have hj' : j < D.length := by omega
    obtain ⟨c0, c1, c2, c3⟩ := Tr.eCells_at D j hj'
    have hc : ∀ o, w.cell? ⟨gk, o, none⟩ = (Tr.eCells D)[o]? := fun o => by simp [World.cell?, hg]
    have he : E.kids[j] = D[j].1 := by simp [← hD]
    rw [he]
    refine ⟨D[j].2.1, D[j].2.2, ?_, ?_, ?_, ?_, hM _ (List.getElem_mem hj')⟩ <;> rw [hc, Nat.zero_add] <;> assumption

theorem Tryd.end_any (L B bp : Nat) (st : Ps) (vE vO : Value) (qs : List (El × Value × Value)) (q : MarkV × Value) (w : World) (hP : Tr.Pa L B bp st vE vO qs w) (hB : B ≤ w.heap.size) (hL : L ≤ w.heap.size)
    (hk : q.1.kind = 2) (hn : qs.length ≤ 1000000) (hr : st.ops.length ≤ 1000000) :
    Calls Tryd.prog 47 #[.pointer (some ⟨bp, 0, none⟩), .agg #[.int .i64 q.1.kind, .int .i64 q.1.at_, .string q.1.name, q.2, .string q.1.text]] w fun e w' => Tr.Took L B bp st vE vO qs.length w (Ps.take st q.1) e w' := by
  obtain ⟨m, va⟩ := q
  simp only at hk ⊢
  have hout : ∀ r : Except Int Ps, r = .error 4 → st.ops = [] → Calls Tryd.prog 47 #[.pointer (some ⟨bp, 0, none⟩), .agg #[.int .i64 m.kind, .int .i64 m.at_, .string m.name, va, .string m.text]] w fun e w' => Tr.Took L B bp st vE vO qs.length w r e w' := by
    intro r hr ho
    obtain ⟨o', c', hvO⟩ := Mk.own_shape hP.rowO
    subst hr
    refine (Tryd.end_out bp c' o' _ _ _ _ _ w hP.lt (by rw [hP.c1, hvO, ho]; rfl)).mono ?_
    rintro e w' ⟨rfl, hb⟩
    exact ⟨Tk.But.of_below hb, rfl⟩
  cases st with
  | start => exact hout _ (by simp [Ps.take, hk]) rfl
  | over E => exact hout _ rfl rfl
  | ins h ks r =>
    clear hout
    obtain ⟨A, vb, vk, D, gE, cE, gO, cO, rfl, hA1, hD1, hA2, hD2, rfl, rfl⟩ := hP.parts
    have hrl : (Ps.ops (.ins h ks r)).length = r.length + 1 := by simp [Ps.ops, Ps.places, Ps.places_length]
    have hl : (A ++ (h, vb, vk) :: D).length = A.length + 1 + D.length := by simp; omega
    obtain ⟨hI, hc, hE, hO⟩ := hP.inn hA2 (by omega) (by omega)
    have ht : Ps.take (.ins h ks r) m = if h.name ≠ m.name then .error 4 else .ok (Ps.close (Ps.withKids h ks) r) := by simp [Ps.take, hk]
    rw [ht]
    by_cases hne : h.name ≠ m.name
    · rw [if_pos hne]
      refine (Tryd.end_name bp gE cE gO cO _ _ _ _ _ _ _ _ _ _ w hI hc hne).mono ?_
      rintro e w' ⟨rfl, hb⟩
      exact ⟨Tk.But.of_below hb, rfl⟩
    · rw [if_neg hne]
      have hne' : h.name = m.name := by simpa using hne
      rw [hne'] at hc
      have hlD : ∀ q ∈ D, ∃ d, El.Lies w (Tr.Apart L bp (.slice (some ⟨gE, 0, none⟩) (A.length + 1 + D.length) cE) (.slice (some ⟨gO, 0, none⟩) (r.length + 1) cO) w.heap.size) d q.2.1 q.2.2 q.1 := fun q hq => hP.lies q (by simp [hq])
      refine (Tryd.end_ok bp B gE cE gO cO _ _ _ _ _ _ _ _ _ _ _ _ w hI hc hP.par hB hE hO (by rw [Tr.eCells_length]; simp) (Tr.oneCells D fun q hq => by obtain ⟨d, hd⟩ := hlD q hq; exact ⟨d, _, _, hd⟩)).mono ?_
      rintro e w' ⟨rfl, hb, hp, vk', hT, hE'⟩
      have hb' : Tk.But (fun k => k = bp ∨ (Value.slice (some ⟨gE, 0, none⟩) (A.length + 1 + D.length) cE).ownBlock = some k ∨ (Value.slice (some ⟨gO, 0, none⟩) (r.length + 1) cO).ownBlock = some k) w w' :=
        ⟨hb.os, hb.tape, hb.output, hb.size, fun k hk he => hb.block k hk (by rintro (h | h); exact he (.inl h); exact he (.inr (.inl (by rw [h]; rfl))))⟩
      have kE : ∀ k, (Value.slice (some ⟨gE, 0, none⟩) (A.length + 1) cE).ownBlock = some k → (Value.slice (some ⟨gE, 0, none⟩) (A.length + 1 + D.length) cE).ownBlock = some k ∨ w.heap.size ≤ k := fun k e => .inl e
      have kO : ∀ k, (Value.slice (some ⟨gO, 0, none⟩) r.length cO).ownBlock = some k → (Value.slice (some ⟨gO, 0, none⟩) (r.length + 1) cO).ownBlock = some k ∨ w.heap.size ≤ k := fun k e => .inl e
      have hgOb : gO ≠ bp := fun e => Tr.row_ne hO hP.par (by decide) (by rw [e]; rfl)
      have hgEO : gE ≠ gO := fun e => Tr.rows_ne hE hO (by decide) (k := gE) rfl (by rw [e]; rfl)
      have hgEl := (Tr.row_lt hE (k := gE) rfl).2
      have hgOl := (Tr.row_lt hO (k := gO) rfl).2
      have hbl := hP.lt
      refine ⟨hb', rfl, _, _, A ++ [(Ps.withKids h ks, vb, vk')], ⟨hp, ?_, ?_, ?_, ?_, ?_⟩, by simp⟩
      · rw [Tr.eCells_set2 A h vb vk vk' (Ps.withKids h ks) rfl rfl] at hE'
        rw [List.length_append]
        exact hE'
      · have hO' : w'.ownsRow B 3 1 (.slice (some ⟨gO, 0, none⟩) (r.length + 1) cO) (r.length + 1) (Tr.nCells (Ps.places r) ++ [.int .i64 (A.length : Nat)]) := Tr.own_kept hO fun k hk => by
          have e : gO = k := Option.some.inj hk
          subst e
          exact hb.block gO hgOl (by rintro (h | h); exact hgOb h; exact hgEO h.symm)
        rw [Ps.ops_close, Ps.places_length]
        exact Tr.own_cut hO' (by omega) (by simp [Tr.nCells, Ps.places_length])
      · rw [Ps.els_close, List.map_append, hA1]; rfl
      · intro q hq
        rcases List.mem_append.1 hq with hq | hq
        · obtain ⟨d, hd⟩ := hP.lies q (by simp [hq])
          exact ⟨d, Tr.lies_on hb' kE kO hd⟩
        · rw [List.mem_singleton.1 hq]
          obtain ⟨d, hd⟩ := hP.lies (h, vb, vk) (by simp)
          refine Tr.closed D hD1 (Tr.attrs_on hb' kE kO hd.attrsP) (fun q hq => ?_) ?_
          · obtain ⟨d, hd⟩ := hlD q hq
            exact ⟨d, Tr.lies_on hb' kE kO hd⟩
          · rcases hT with ⟨h0, rfl⟩ | ⟨gk, h1, rfl, h3⟩
            · exact .inl ⟨h0, rfl⟩
            · refine .inr ⟨gk, ⟨(Array.getElem?_eq_some_iff.1 h3).1, by omega, ?_, ?_, by omega⟩, rfl, h3⟩
              · intro e; have : gE = gk := Option.some.inj e; omega
              · intro e; have : gO = gk := Option.some.inj e; omega
      · intro e
        cases r with
        | nil => simp [Ps.close] at e
        | cons a r => obtain ⟨x, y⟩ := a; simp [Ps.close] at e

theorem Tryd.text_any2 (L B bp : Nat) (st : Ps) (vE vO : Value) (qs : List (El × Value × Value)) (q : MarkV × Value) (w : World) (hP : Tr.Pa L B bp st vE vO qs w)
    (hk : q.1.kind = 3) (hn : qs.length ≤ 1000000) (hr : st.ops.length ≤ 1000000) :
    Calls Tryd.prog 48 #[.pointer (some ⟨bp, 0, none⟩), .agg #[.int .i64 q.1.kind, .int .i64 q.1.at_, .string q.1.name, q.2, .string q.1.text]] w fun e w' => Tr.Took L B bp st vE vO qs.length w (Ps.take st q.1) e w' := by
  obtain ⟨m, va⟩ := q
  simp only at hk ⊢
  have hout : ∀ r : Except Int Ps, r = .error 4 → st.ops = [] → Calls Tryd.prog 48 #[.pointer (some ⟨bp, 0, none⟩), .agg #[.int .i64 m.kind, .int .i64 m.at_, .string m.name, va, .string m.text]] w fun e w' => Tr.Took L B bp st vE vO qs.length w r e w' := by
    intro r hr ho
    obtain ⟨o', c', hvO⟩ := Mk.own_shape hP.rowO
    subst hr
    refine (Tryd.text_out bp c' o' _ _ _ _ _ w hP.lt (by rw [hP.c1, hvO, ho]; rfl)).mono ?_
    rintro e w' ⟨rfl, hb⟩
    exact ⟨Tk.But.of_below hb, rfl⟩
  cases st with
  | start => exact hout _ (by simp [Ps.take, hk]) rfl
  | over E => exact hout _ rfl rfl
  | ins h ks r =>
    clear hout
    obtain ⟨A, vb, vk, D, gE, cE, gO, cO, rfl, hA1, hD1, hA2, hD2, rfl, rfl⟩ := hP.parts
    have hrl : (Ps.ops (.ins h ks r)).length = r.length + 1 := by simp [Ps.ops, Ps.places, Ps.places_length]
    have hl : (A ++ (h, vb, vk) :: D).length = A.length + 1 + D.length := by simp; omega
    obtain ⟨hI, hc, hE, hO⟩ := hP.inn hA2 (by omega) (by omega)
    have ht : Ps.take (.ins h ks r) m = if ks ≠ [] then .error 4 else .ok (.ins (Ps.withText h m.text) ks r) := by simp [Ps.take, hk]
    rw [ht]
    by_cases hks : ks ≠ []
    · rw [if_pos hks]
      have : 0 < ks.length := List.length_pos_iff.2 hks
      refine (Tryd.text_kids bp gE cE gO cO _ _ _ _ _ _ _ _ _ w hI (by omega)).mono ?_
      rintro e w' ⟨rfl, hb⟩
      exact ⟨Tk.But.of_below hb, rfl⟩
    · rw [if_neg hks]
      have hks' : ks = [] := by simpa using hks
      subst hks'
      obtain rfl : D = [] := List.length_eq_zero_iff.1 (by simpa using hD2)
      refine (Tryd.text_ok bp B gE cE gO cO _ _ _ _ _ _ _ _ _ _ w hI (by simp) hE).mono ?_
      rintro e w' ⟨rfl, hb, hE'⟩
      have hb' : Tk.But (fun k => k = bp ∨ (Value.slice (some ⟨gE, 0, none⟩) (A.length + 1 + ([] : List (El × Value × Value)).length) cE).ownBlock = some k ∨ (Value.slice (some ⟨gO, 0, none⟩) (r.length + 1) cO).ownBlock = some k) w w' :=
        ⟨hb.os, hb.tape, hb.output, hb.size, fun k hk he => hb.block k hk (by rintro h; exact he (.inr (.inl (by rw [h]; rfl))))⟩
      have hgOb : gE ≠ bp := fun e => Tr.row_ne hE hP.par (by decide) (by rw [e]; rfl)
      have hgEO : gE ≠ gO := fun e => Tr.rows_ne hE hO (by decide) (k := gE) rfl (by rw [e]; rfl)
      refine ⟨hb', rfl, _, _, A ++ [(Ps.withText h m.text, vb, vk)], ⟨(hb.block bp hP.lt (by intro e; exact hgOb e.symm)).trans hP.par, ?_, Tr.own_kept hP.rowO fun k hk => hb.block k (Tr.row_lt hP.rowO hk).2 (by intro e; subst e; exact hgEO (Option.some.inj hk).symm), ?_, ?_, fun e => by simp at e⟩, by simp⟩
      · have e0 : Tr.eCells (A ++ [(h, vb, vk)]) ++ Tr.eCells [] = Tr.eCells (A ++ [(h, vb, vk)]) := by simp [Tr.eCells]
        rw [e0, Tr.eCells_set3 A h vb vk m.text (Ps.withText h m.text) rfl rfl] at hE'
        rw [List.length_append]
        exact hE'
      · rw [List.map_append, hA1]; rfl
      · intro q hq
        rcases List.mem_append.1 hq with hq | hq
        · obtain ⟨d, hd⟩ := hP.lies q (by simp [hq])
          exact ⟨d, Tr.lies_on hb' (fun _ e => .inl e) (fun _ e => .inl e) hd⟩
        · rw [List.mem_singleton.1 hq]
          obtain ⟨d, hd⟩ := hP.lies (h, vb, vk) (by simp)
          have hd' := Tr.lies_on hb' (fun _ e => .inl e) (fun _ e => .inl e) hd
          refine ⟨d, ?_⟩
          cases d with
          | zero => exact hd'.elim
          | succ d => exact hd'

end Go.Proofs

/-
  The contracts of the parser's take and of tree.Parse.
-/
namespace Go.Proofs
open Go.RowKit
open Go.Proofs.Mk

set_option maxHeartbeats 4000000 in
theorem Tryd.ptake_any (L B bp : Nat) (st : Ps) (vE vO : Value) (qs : List (El × Value × Value)) (q : MarkV × Value) (w : World) (hP : Tr.Pa L B bp st vE vO qs w) (hB : B ≤ w.heap.size) (hL : L ≤ w.heap.size) (hA : El.AttrsP w (Tr.Apart L bp vE vO w.heap.size) q.2 q.1.attrs)
    (hk : q.1.kind = 1 ∨ q.1.kind = 2 ∨ q.1.kind = 3) (hn : qs.length ≤ 1000000) (hr : st.ops.length ≤ 1000000) :
    Calls Tryd.prog 31 #[.pointer (some ⟨bp, 0, none⟩), .agg #[.int .i64 q.1.kind, .int .i64 q.1.at_, .string q.1.name, q.2, .string q.1.text]] w fun e w' => Tr.Took L B bp st vE vO qs.length w (Ps.take st q.1) e w' := by
  obtain ⟨w0, hw0⟩ : ∃ x, w.alloc (.cells #[.int .i64 q.1.kind, .int .i64 q.1.at_, .string q.1.name, q.2, .string q.1.text] 78) = x := ⟨_, rfl⟩
  have A0 : Below w.heap.size w w0 := by rw [← hw0]; exact (Below.refl _ w).alloc (Nat.le_refl _) _
  have hP0 := hP.step A0
  have hA0 : El.AttrsP w0 (Tr.Apart L bp vE vO w0.heap.size) q.2 q.1.attrs := hA.keep (fun k hk => A0.block k hk.1) fun k hk => ⟨Nat.lt_of_lt_of_le hk.1 A0.size, hk.2⟩
  have hB0 : B ≤ w0.heap.size := Nat.le_trans hB A0.size
  have hm := heap_alloc_new w (.cells #[.int .i64 q.1.kind, .int .i64 q.1.at_, .string q.1.name, q.2, .string q.1.text] 78)
  rw [hw0] at hm
  have hback : ∀ e w', Tr.Took L B bp st vE vO qs.length w0 (Ps.take st q.1) e w' → Tr.Took L B bp st vE vO qs.length w (Ps.take st q.1) e w' := fun e w' h => ⟨(Tk.But.of_below A0).trans h.1, h.2⟩
  have hret : ∀ e w', Tr.Took L B bp st vE vO qs.length w0 (Ps.take st q.1) e w' → ∃ x : Int, e = .returned (.int .i64 x) := fun e w' h => by
    have := h.2
    revert this
    cases Ps.take st q.1 with
    | error x => exact fun h => ⟨x, h⟩
    | ok s => exact fun h => ⟨0, h.1⟩
  obtain ⟨R, hR⟩ : ∃ R : Ending → World → Prop, R = fun e w' => Tr.Took L B bp st vE vO qs.length w0 (Ps.take st q.1) e w' := ⟨_, rfl⟩
  obtain ⟨R', hR'⟩ : ∃ R : Ending → World → Prop, R = fun e w' => Tr.Took L B bp st vE vO qs.length w (Ps.take st q.1) e w' := ⟨_, rfl⟩
  have c0 : q.1.kind = 1 → Calls Tryd.prog 46 #[.pointer (some ⟨bp, 0, none⟩), .agg #[.int .i64 q.1.kind, .int .i64 q.1.at_, .string q.1.name, q.2, .string q.1.text]] w0 R := fun h => by rw [hR]; exact Tryd.begin_any L B bp st vE vO qs q w0 hP0 hB0 hA0 h hn hr
  have c1 : q.1.kind = 2 → Calls Tryd.prog 47 #[.pointer (some ⟨bp, 0, none⟩), .agg #[.int .i64 q.1.kind, .int .i64 q.1.at_, .string q.1.name, q.2, .string q.1.text]] w0 R := fun h => by rw [hR]; exact Tryd.end_any L B bp st vE vO qs q w0 hP0 hB0 (Nat.le_trans hL A0.size) h hn hr
  have c2 : q.1.kind = 3 → Calls Tryd.prog 48 #[.pointer (some ⟨bp, 0, none⟩), .agg #[.int .i64 q.1.kind, .int .i64 q.1.at_, .string q.1.name, q.2, .string q.1.text]] w0 R := fun h => by rw [hR]; exact Tryd.text_any2 L B bp st vE vO qs q w0 hP0 h hn hr
  rw [← hR']
  have HB : Hid (∀ e w', R e w' → (∃ x : Int, e = .returned (.int .i64 x)) ∧ R' e w') := fun e w' h => by rw [hR] at h; rw [hR']; exact ⟨hret e w' h, hback e w' h⟩
  clear hback hret hR hR' hP hA hP0 hA0 hB hB0 A0 hL
  obtain ⟨⟨kd, at_, nm, xs, tx⟩, va⟩ := q
  simp only at *
  obtain ⟨ki, hki⟩ : ∃ x : Int, (kd : Int) = x := ⟨_, rfl⟩
  rw [hki] at c0 c1 c2 hw0 hm ⊢
  have C0 : Hid _ := c0
  have C1 : Hid _ := c1
  have C2 : Hid _ := c2
  have HW : Hid _ := hw0
  have hu := Tryd.underlying78
  clear c0 c1 c2 hw0
  have k0 : w0.cell? ⟨w.heap.size, 0, none⟩ = some (.int .i64 ki) := by simp [World.cell?, hm]
  rcases hk with h1 | h1 | h1
  · have HK : Hid (kd = 1) := h1
    have t1 : (ki == 1) = true := beq_iff_eq.2 (by omega)
    clear h1 hki
    go_enter Tryd.func31, Tryd.ntmps31
    go_upto_region 1 with fail
    rw [HW.out]
    go_wp2_with (refine wpList_load_row rfl 78 _ rfl _ rfl 78 _ (0, 0) _ hm hu rfl (by kernel_rfl) ?_)
    go_wp2_with fail
    refine Calls.mono (C0.out HK.out) ?_
    intro e W1 h
    obtain ⟨⟨x, rfl⟩, h'⟩ := HB.out e W1 h
    have H' : Hid _ := h'
    clear h h'
    go_wp2
    exact H'.out
  · have HK : Hid (kd = 2) := h1
    have t1 : (ki == 1) = false := beq_eq_false_iff_ne.2 (by omega)
    have t2 : (ki == 2) = true := beq_iff_eq.2 (by omega)
    clear h1 hki
    go_enter Tryd.func31, Tryd.ntmps31
    go_upto_region 1 with fail
    rw [HW.out]
    go_wp2_with (refine wpList_load_row rfl 78 _ rfl _ rfl 78 _ (0, 0) _ hm hu rfl (by kernel_rfl) ?_)
    go_wp2_with fail
    refine Calls.mono (C1.out HK.out) ?_
    intro e W1 h
    obtain ⟨⟨x, rfl⟩, h'⟩ := HB.out e W1 h
    have H' : Hid _ := h'
    clear h h'
    go_wp2
    exact H'.out
  · have HK : Hid (kd = 3) := h1
    have t1 : (ki == 1) = false := beq_eq_false_iff_ne.2 (by omega)
    have t2 : (ki == 2) = false := beq_eq_false_iff_ne.2 (by omega)
    clear h1 hki
    go_enter Tryd.func31, Tryd.ntmps31
    go_upto_region 1 with fail
    rw [HW.out]
    go_wp2_with (refine wpList_load_row rfl 78 _ rfl _ rfl 78 _ (0, 0) _ hm hu rfl (by kernel_rfl) ?_)
    go_wp2_with fail
    refine Calls.mono (C2.out HK.out) ?_
    intro e W1 h
    obtain ⟨⟨x, rfl⟩, h'⟩ := HB.out e W1 h
    have H' : Hid _ := h'
    clear h h'
    go_wp2
    exact H'.out

end Go.Proofs

/-
  The contract of tree.Parse.
-/
namespace Go.Proofs
open Go.RowKit
open Go.Proofs.Mk

set_option maxHeartbeats 1000000 in
theorem Tryd.read_long (s : ByteArray) (w : World) (hs : s.size ≤ 140737488355328) (hl : 20000 < s.size) :
    Calls Tryd.prog 30 #[.string s] w fun e w' => e = .returned (.tuple #[.slice none 0 0, .int .i64 0, .int .i64 2]) ∧ w' = w := by
  have hd : decide ((20000 : Int) < s.size) = true := decide_eq_true (by omega)
  go_enter Tryd.func30, Tryd.ntmps30
  go_wp2
  go_ret3
  exact ⟨rfl, rfl⟩

theorem Tr.markCells_get : ∀ (qs : List (Mk.MarkV × Value)) (j : Nat) (h : j < qs.length) (i : Nat), i < 5 → (Mk.markCells qs)[j * 5 + i]? = (Mk.cellsOf qs[j])[i]?
  | [], j, h, i, hi => by simp at h
  | a :: r, 0, h, i, hi => by
    simp only [Mk.markCells, List.flatMap_cons, Nat.zero_mul, Nat.zero_add, List.getElem_cons_zero]
    rw [List.getElem?_append_left (by simpa [Mk.cellsOf] using hi)]
  | a :: r, j + 1, h, i, hi => by
    have := Tr.markCells_get r j (by simpa using h) i hi
    have e1 : (j + 1) * 5 + i = (j * 5 + i) + 5 := by omega
    simp only [Mk.markCells, List.flatMap_cons, List.getElem_cons_succ] at *
    rw [e1, List.getElem?_append_right (by simp [Mk.cellsOf])]
    simpa [Mk.cellsOf] using this

theorem Tr.results_elem {fn : Func} {p u v : Tmp} (h : fn.results = #[.cell p 25, .tmp u, .tmp v]) (tmps : Array Value) (w : World) (q : Nat) (a b c d : Value)
    (hp : tmps.getD p undef = .pointer (some ⟨q, 0, none⟩)) (hq : w.heap[q]? = some (.cells #[a, b, c, d] 25 (0, 0))) :
    (results fn tmps).run Tryd.prog w = .ok (.tuple #[.agg #[a, b, c, d], tmps.getD u undef, tmps.getD v undef]) w := by
  have hr := run_loadVar_row (P := Tryd.prog) w q 25 25 #[a, b, c, d] (0, 0) _ hq Tryd.underlying25 rfl (by kernel_rfl)
  have hp' : tmps[p]?.getD undef = .pointer (some ⟨q, 0, none⟩) := by simpa using hp
  simp [results, h, hp', asAddr, hr]

/-- How Parse ends. -/
def Tr.ParseEnd (s : ByteArray) (e : Ending) (w' : World) : Prop := match El.parseL s with
  | (none, k, er) => e = .returned (.tuple #[.agg #[.string ⟨#[]⟩, .slice none 0 0, .slice none 0 0, .string ⟨#[]⟩], .int .i64 k, .int .i64 er])
  | (some E, _, _) => ∃ va vk d, e = .returned (.tuple #[.agg #[.string E.name, va, vk, .string E.text], .int .i64 0, .int .i64 0]) ∧ El.Lies w' (· < w'.heap.size) d va vk E

/-- What stands ahead of a round of Parse. -/
structure Tr.Rnd (w : World) (bp : Nat) (v : Value) (qs : List (MarkV × Value)) (k : Nat) (st : Ps) (vE vO : Value) (es : List (El × Value × Value)) (X : World) : Prop where
  pa : Tr.Pa (w.heap.size + 1) (bp + 1) bp st vE vO es X
  res : X.heap[w.heap.size]? = some (.cells #[.string ⟨#[]⟩, .slice none 0 0, .slice none 0 0, .string ⟨#[]⟩] 25 (0, 0))
  marks : MarksOwn X (w.heap.size + 1) v qs
  below : Below w.heap.size w X
  run : Ps.run .start ((qs.map (·.1)).take k) = .ok st
  els : es.length ≤ k
  ops : st.ops.length ≤ k
  big : w.heap.size < bp
theorem Tr.Rnd.step {w : World} {bp : Nat} {v : Value} {qs : List (MarkV × Value)} {k : Nat} {st : Ps} {vE vO : Value} {es : List (El × Value × Value)} {X X' : World} (h : Tr.Rnd w bp v qs k st vE vO es X) (hb : Below X.heap.size X X') : Tr.Rnd w bp v qs k st vE vO es X' :=
  ⟨h.pa.step hb, (hb.block _ (Array.getElem?_eq_some_iff.1 h.res).1).trans h.res, ⟨Mk.own_below h.marks.row hb, fun q hq => Mk.own_below (h.marks.attrs q hq) hb⟩, h.below.trans (hb.mono h.below.size), h.run, h.els, h.ops, h.big⟩
theorem Tr.Rnd.apart {w : World} {bp : Nat} {v : Value} {qs : List (MarkV × Value)} {k : Nat} {st : Ps} {vE vO : Value} {es : List (El × Value × Value)} {X : World} (h : Tr.Rnd w bp v qs k st vE vO es X) {e : TypeId} {B s n : Nat} {u : Value} {cs : List Value} (hu : X.ownsRow B e s u n cs)
    (h1 : e ≠ 76) (h2 : e ≠ 25) (h3 : e ≠ 3) (h4 : w.heap.size + 1 ≤ B) (j : Nat) (hj : u.ownBlock = some j) : Tr.Apart (w.heap.size + 1) bp vE vO X.heap.size j :=
  ⟨(Tr.row_lt hu hj).2, fun e => Tr.row_ne hu h.pa.par h1 (by rw [← e]; exact hj), Tr.rows_ne hu h.pa.rowE h2 hj, Tr.rows_ne hu h.pa.rowO h3 hj, Nat.le_trans h4 (Tr.row_lt hu hj).1⟩
theorem Tr.Rnd.next {w : World} {bp : Nat} {v : Value} {qs : List (MarkV × Value)} {k : Nat} {st st' : Ps} {vE vO vE' vO' : Value} {es es' : List (El × Value × Value)} {X X' : World} (h : Tr.Rnd w bp v qs k st vE vO es X) (hk : k < qs.length)
    (hb : Tk.But (fun k => k = bp ∨ vE.ownBlock = some k ∨ vO.ownBlock = some k) X X') (ht : Ps.take st qs[k].1 = .ok st') (hP : Tr.Pa (w.heap.size + 1) (bp + 1) bp st' vE' vO' es' X') (hl : es'.length ≤ es.length + 1) : Tr.Rnd w bp v qs (k + 1) st' vE' vO' es' X' := by
  have hbl : ∀ j, j < X.heap.size → j ≤ bp → j ≠ bp → X'.heap[j]? = X.heap[j]? := fun j h1 h2 h3 => hb.block j h1 (by
    rintro (e | e | e)
    · exact h3 e
    · have := (Tr.row_lt h.pa.rowE e).1; omega
    · have := (Tr.row_lt h.pa.rowO e).1; omega)
  have hbig := h.big
  have hkeep : ∀ j, Tr.Apart (w.heap.size + 1) bp vE vO X.heap.size j → X'.heap[j]? = X.heap[j]? := fun j hj => hb.block j hj.1 (by rintro (e | e | e); exact hj.2.1 e; exact hj.2.2.1 e; exact hj.2.2.2.1 e)
  refine ⟨hP, (hbl _ (Array.getElem?_eq_some_iff.1 h.res).1 (by omega) (by omega)).trans h.res, ⟨Tr.own_kept h.marks.row fun j hj => hkeep j (h.apart h.marks.row (by decide) (by decide) (by decide) (Nat.le_refl _) j hj), fun q hq => Tr.own_kept (h.marks.attrs q hq) fun j hj => hkeep j (h.apart (h.marks.attrs q hq) (by decide) (by decide) (by decide) (Nat.le_refl _) j hj)⟩,
    ⟨hb.os.trans h.below.os, hb.tape.trans h.below.tape, hb.output.trans h.below.output, Nat.le_trans h.below.size hb.size, fun j hj => (hbl j (by have := h.below.size; omega) (by omega) (by omega)).trans (h.below.block j hj)⟩, ?_, by have := h.els; omega, by have := Ps.take_ops ht; have := h.ops; omega, hbig⟩
  have hk' : k < (qs.map (·.1)).length := by simpa using hk
  rw [Ps.run_take _ k hk' _ _ h.run]
  simp only [List.getElem_map, ht]

theorem Tr.parse_err {s : ByteArray} {ms : List MarkV} {x : Int × Nat} (hs : ¬ 20000 < s.size) (h : Mk.readL s.data.toList 0 = .ok ms) (hr : Ps.run .start ms = .error x) : El.parseL s = (none, x.2, x.1) := by
  unfold El.parseL; rw [if_neg hs, h]; simp only [hr]
theorem Tr.parse_end {s : ByteArray} {ms : List MarkV} {st : Ps} (hs : ¬ 20000 < s.size) (h : Mk.readL s.data.toList 0 = .ok ms) (hr : Ps.run .start ms = .ok st) : El.parseL s = match st.isOver with | none => (none, s.size, 4) | some E => (some E, 0, 0) := by
  unfold El.parseL; rw [if_neg hs, h]; simp only [hr]; cases st.isOver <;> rfl
theorem Tr.parse_bad {s : ByteArray} {k : Nat} (hs : ¬ 20000 < s.size) (h : Mk.readL s.data.toList 0 = .error k) : El.parseL s = (none, k, 4) := by
  unfold El.parseL; rw [if_neg hs, h]

end Go.Proofs

/-
  What is known of marks that were read: plain mathematics.
-/
namespace Go.Proofs
open Go.RowKit
open Go.Proofs.Mk

theorem Mk.readF_all (Q : MarkV → Prop) (hQ : ∀ l k ms m, Mk.nextL l k = some (ms, m) → ∀ x ∈ ms, Q x) : ∀ (f : Nat) (l : List UInt8) (k : Nat) (ms : List MarkV), Mk.readF f l k = .ok ms → ∀ x ∈ ms, Q x
  | 0, l, k, ms, h, x, hx => by simp only [Mk.readF, Except.ok.injEq] at h; rw [← h] at hx; cases hx
  | f + 1, l, k, ms, h, x, hx => by
    simp only [Mk.readF] at h
    split at h
    · simp only [Except.ok.injEq] at h; rw [← h] at hx; cases hx
    · split at h
      · cases h
      · rename_i ms' m hn
        split at h
        · cases h
        · rename_i r hr
          simp only [Except.ok.injEq] at h
          rw [← h] at hx
          rcases List.mem_append.1 hx with hx | hx
          · exact hQ _ _ _ _ hn x hx
          · exact Mk.readF_all Q hQ f _ _ r hr x hx
theorem Mk.readL_all (Q : MarkV → Prop) (hQ : ∀ l k ms m, Mk.nextL l k = some (ms, m) → ∀ x ∈ ms, Q x) {l : List UInt8} {k : Nat} {ms : List MarkV} (h : Mk.readL l k = .ok ms) : ∀ x ∈ ms, Q x := Mk.readF_all Q hQ _ l k ms h
theorem Mk.readF_len : ∀ (f : Nat) (l : List UInt8) (k : Nat) (ms : List MarkV), Mk.readF f l k = .ok ms → ms.length ≤ 2 * l.length
  | 0, l, k, ms, h => by simp only [Mk.readF, Except.ok.injEq] at h; rw [← h]; simp
  | f + 1, l, k, ms, h => by
    simp only [Mk.readF] at h
    split at h
    · simp only [Except.ok.injEq] at h; rw [← h]; simp
    · rename_i hne
      split at h
      · cases h
      · rename_i ms' m hn
        split at h
        · cases h
        · rename_i r hr
          simp only [Except.ok.injEq] at h
          have h1 := Mk.nextL_pos hne hn
          have h2 := Mk.readF_len f _ _ r hr
          rw [List.length_drop] at h2
          rw [← h, List.length_append]
          omega
/-- A mark as it is read. -/
def Mk.okM (m : MarkV) : Prop := (m.kind = 1 ∧ nameL m.name.data.toList = true) ∨ (m.kind = 2 ∧ nameL m.name.data.toList = true) ∨ m.kind = 3
theorem Mk.next_ok (l : List UInt8) (k : Nat) (ms : List MarkV) (m : Nat) (h : Mk.nextL l k = some (ms, m)) : ∀ x ∈ ms, Mk.okM x := by
  unfold Mk.nextL at h
  split at h
  · split at h
    · cases h
    · rename_i hn
      split at h
      · cases h
      · simp only [Option.some.injEq, Prod.mk.injEq] at h
        rw [← h.1]
        intro x hx
        rw [List.mem_singleton.1 hx]
        exact .inr (.inl ⟨rfl, by simpa using hn⟩)
  · split at h
    · split at h
      · cases h
      · rename_i hn
        split at h
        · cases h
        · split at h
          · cases h
          · split at h
            · simp only [Option.some.injEq, Prod.mk.injEq] at h
              rw [← h.1]
              intro x hx
              rw [List.mem_singleton.1 hx]
              exact .inl ⟨rfl, by simpa using hn⟩
            · split at h
              · simp only [Option.some.injEq, Prod.mk.injEq] at h
                rw [← h.1]
                intro x hx
                rcases List.mem_cons.1 hx with rfl | hx
                · exact .inl ⟨rfl, by simpa using hn⟩
                · rw [List.mem_singleton.1 hx]
                  exact .inr (.inl ⟨rfl, by simpa using hn⟩)
              · cases h
    · split at h
      · cases h
      · simp only [Option.some.injEq, Prod.mk.injEq] at h
        rw [← h.1]
        intro x hx
        rw [List.mem_singleton.1 hx]
        exact .inr (.inr rfl)
theorem Mk.readL_kind {l : List UInt8} {k : Nat} {ms : List MarkV} (h : Mk.readL l k = .ok ms) : ∀ x ∈ ms, x.kind = 1 ∨ x.kind = 2 ∨ x.kind = 3 := fun x hx => by
  rcases Mk.readL_all Mk.okM Mk.next_ok h x hx with ⟨h, _⟩ | ⟨h, _⟩ | h
  · exact .inl h
  · exact .inr (.inl h)
  · exact .inr (.inr h)
theorem Ps.take_err {st : Ps} {m : MarkV} {x : Int} (h : Ps.take st m = .error x) : x = 2 ∨ x = 4 := by
  cases st with
  | start =>
    simp only [Ps.take] at h
    split at h <;> cases h
    exact .inr rfl
  | over E => cases h; exact .inr rfl
  | ins a ks r =>
    simp only [Ps.take] at h
    split at h
    · split at h
      · cases h; exact .inr rfl
      · split at h <;> cases h
        exact .inl rfl
    · split at h
      · split at h <;> cases h
        exact .inr rfl
      · split at h <;> cases h
        exact .inr rfl

end Go.Proofs

/-
  The walk of tree.Parse.
-/
namespace Go.Proofs
open Go.RowKit
open Go.Proofs.Mk

theorem Tr.put4 {X : World} {q : Nat} {a b c d : Value} (h : X.heap[q]? = some (.cells #[a, b, c, d] 25 (0, 0))) (a' b' c' d' : Value) :
    ((((X.setCell ⟨q, 0, none⟩ a').setCell ⟨q, 1, none⟩ b').setCell ⟨q, 2, none⟩ c').setCell ⟨q, 3, none⟩ d').heap[q]? = some (.cells #[a', b', c', d'] 25 (0, 0)) := by
  simp [World.setCell, Array.getElem?_modify, h]
theorem Tr.row4 {X : World} {q : Nat} {a b c d : Value} {t : TypeId} (h : X.heap[q]? = some (.cells #[a, b, c, d] t (0, 0))) :
    (X.cell? ⟨q, 0, none⟩ = some a ∧ X.cell? ⟨q, 1, none⟩ = some b ∧ X.cell? ⟨q, 2, none⟩ = some c ∧ X.cell? ⟨q, 3, none⟩ = some d) ∧ X.frozen? ⟨q, 0, none⟩ = false ∧ X.frozen? ⟨q, 1, none⟩ = false ∧ X.frozen? ⟨q, 2, none⟩ = false ∧ X.frozen? ⟨q, 3, none⟩ = false := by
  simp [World.cell?, World.frozen?, h]

set_option maxHeartbeats 8000000 in
set_option maxRecDepth 20000 in
theorem Tryd.parse_any (s : ByteArray) (w : World) (hE : Mk.Esc w) (hs : s.size ≤ 140737488355328) :
    Calls Tryd.prog 14 #[.string s] w fun e w' => Below w.heap.size w w' ∧ Tr.ParseEnd s e w' := by
  obtain ⟨o, ho⟩ : ∃ o, El.parseL s = o := ⟨_, rfl⟩
  have HO : Hid (El.parseL s = o) := ho
  have HPE : Hid (∀ e w', (match o with
      | (none, k, er) => e = .returned (.tuple #[.agg #[.string ⟨#[]⟩, .slice none 0 0, .slice none 0 0, .string ⟨#[]⟩], .int .i64 k, .int .i64 er])
      | (some E, _, _) => ∃ va vk d, e = .returned (.tuple #[.agg #[.string E.name, va, vk, .string E.text], .int .i64 0, .int .i64 0]) ∧ El.Lies w' (· < w'.heap.size) d va vk E) → Tr.ParseEnd s e w') := fun e w' h => by unfold Tr.ParseEnd; rw [ho]; exact h
  clear ho
  obtain ⟨w0, hw0⟩ : ∃ x, w.alloc (.cells #[.string ⟨#[]⟩, .slice none 0 0, .slice none 0 0, .string ⟨#[]⟩] 25) = x := ⟨_, rfl⟩
  have HW : Hid (w.alloc (.cells #[.string ⟨#[]⟩, .slice none 0 0, .slice none 0 0, .string ⟨#[]⟩] 25) = w0) := hw0
  have A0 : Hid (Below w.heap.size w w0) := by show Below _ _ _; rw [← hw0]; exact (Below.refl _ w).alloc (Nat.le_refl _) _
  have N0 : Hid (w0.heap[w.heap.size]? = some (.cells #[.string ⟨#[]⟩, .slice none 0 0, .slice none 0 0, .string ⟨#[]⟩] 25 (0, 0))) := by show _ = _; rw [← hw0]; exact heap_alloc_new w _
  have E0 : Hid (Mk.Esc w0) := hE.kept (Mk.grown_of_below A0.out none) (by simp)
  have BS : Hid (∀ (X : World) (a b c d : Value), Below w.heap.size w X → Below w.heap.size w ((((X.setCell ⟨w.heap.size, 0, none⟩ a).setCell ⟨w.heap.size, 1, none⟩ b).setCell ⟨w.heap.size, 2, none⟩ c).setCell ⟨w.heap.size, 3, none⟩ d)) := fun X a b c d h =>
    (((h.setCell (Nat.le_refl _) _).setCell (Nat.le_refl _) _).setCell (Nat.le_refl _) _).setCell (Nat.le_refl _) _
  clear hw0 hE
  by_cases hl : 20000 < s.size
  · have HE : Hid ((none, 0, 2) = o) := by show _ = _; rw [← HO.out]; unfold El.parseL; rw [if_pos hl]
    obtain ⟨⟨z0, z1, z2, z3⟩, y0, y1, y2, y3⟩ := Tr.row4 N0.out
    go_enter Tryd.func14, Tryd.ntmps14
    go_wp2_with fail
    rw [HW.out]
    refine (Tryd.read_long s _ hs hl).mono ?_
    rintro e w0 ⟨rfl, rfl⟩
    go_wp2
    refine bodyPost_ret (Tr.results_elem Tryd.results14 _ _ w.heap.size _ _ _ _ rfl (Tr.put4 N0.out _ _ _ _)) rfl ⟨BS.out _ _ _ _ _ A0.out, HPE.out _ _ ?_⟩
    rw [← HE.out]
    rfl
  · have hs2 : s.size ≤ 20000 := by omega
    cases hrd : Mk.readL s.data.toList 0 with
    | error k =>
      have HE : Hid ((none, k, 4) = o) := by show _ = _; rw [← HO.out]; exact (Tr.parse_bad hl hrd).symm
      go_enter Tryd.func14, Tryd.ntmps14
      go_wp2_with fail
      rw [HW.out]
      refine (Tryd.read_any s _ (by exact E0.out) hs2).mono ?_
      rintro e W1 ⟨b1, h1⟩
      unfold Mk.ReadEnd at h1
      rw [hrd] at h1
      obtain rfl := h1
      have N1 : Hid _ := (b1.block _ (Array.getElem?_eq_some_iff.1 N0.out).1).trans N0.out
      have B1 : Hid (Below w.heap.size w W1) := A0.out.trans (b1.mono A0.out.size)
      obtain ⟨⟨z0, z1, z2, z3⟩, y0, y1, y2, y3⟩ := Tr.row4 N1.out
      clear b1 hrd
      go_wp2
      refine bodyPost_ret (Tr.results_elem Tryd.results14 _ _ w.heap.size _ _ _ _ rfl (Tr.put4 N1.out _ _ _ _)) rfl ⟨BS.out _ _ _ _ _ B1.out, HPE.out _ _ ?_⟩
      rw [← HE.out]
      rfl
    | ok ms =>
      go_enter Tryd.func14, Tryd.ntmps14
      go_wp2_with fail
      rw [HW.out]
      refine (Tryd.read_any s _ (by exact E0.out) hs2).mono ?_
      rintro e W1 ⟨b1, h1⟩
      unfold Mk.ReadEnd at h1
      rw [hrd] at h1
      obtain ⟨v, qs, rfl, hms, hown⟩ := h1
      subst hms
      obtain ⟨av, cv, rfl⟩ := Mk.own_shape hown.row
      have B1 : Hid (Below w.heap.size w W1) := A0.out.trans (b1.mono A0.out.size)
      have hz1 : w.heap.size < W1.heap.size := by have := b1.size; have := (Array.getElem?_eq_some_iff.1 N0.out).1; omega
      have HLen : Hid (qs.length ≤ 1000000) := by
        have h1 := Mk.readF_len _ _ _ _ hrd
        rw [List.length_map, Mk.size_list] at h1
        show _ ≤ _
        omega
      have HK : Hid (∀ j (h : j < qs.length), qs[j].1.kind = 1 ∨ qs[j].1.kind = 2 ∨ qs[j].1.kind = 3) := fun j hj => Mk.readL_kind hrd _ (List.mem_map.2 ⟨_, List.getElem_mem hj, rfl⟩)
      have R0 : Hid (Tr.Rnd w W1.heap.size (.slice av qs.length cv) qs 0 .start (.slice none 0 0) (.slice none 0 0) [] (W1.alloc (.cells #[.slice none 0 0, .slice none 0 0] 76))) := by
        have A1 : Below W1.heap.size W1 (W1.alloc (.cells #[.slice none 0 0, .slice none 0 0] 76)) := (Below.refl _ W1).alloc (Nat.le_refl _) _
        have hz0 : w.heap.size + 1 ≤ w0.heap.size := (Array.getElem?_eq_some_iff.1 N0.out).1
        exact ⟨⟨heap_alloc_new W1 _, World.ownsRow_nil _ _ _ _, World.ownsRow_nil _ _ _ _, rfl, (fun q hq => by cases hq), fun _ => ⟨rfl, rfl⟩⟩, (A1.block _ hz1).trans ((b1.block _ (Array.getElem?_eq_some_iff.1 N0.out).1).trans N0.out),
          ⟨Mk.own_base (Mk.own_below hown.row A1) hz0, fun q hq => Mk.own_base (Mk.own_below (hown.attrs q hq) A1) hz0⟩, B1.out.trans (A1.mono B1.out.size), rfl, Nat.le_refl _, Nat.le_refl _, hz1⟩
      have HRD : Hid (Mk.readL s.data.toList 0 = .ok (qs.map (·.1))) := hrd
      have hnb := HLen.out
      clear b1 hown hrd
      go_wp2
      go_loopg [25] qs.length (fun g i wr => ∃ (k : Nat) (st : Ps) (vE vO : Value) (es : List (El × Value × Value)), g + k = qs.length ∧ i = .int .i64 k ∧ Tr.Rnd w W1.heap.size (.slice av qs.length cv) qs k st vE vO es wr)
      case atStart => exact ⟨0, _, _, _, _, by omega, rfl, R0.out⟩
      case round =>
        obtain ⟨k, st, vE, vO, es, hg, rfl, hR⟩ := hrel
        have HR : Hid (Tr.Rnd w W1.heap.size (.slice av qs.length cv) qs k st vE vO es wr) := hR
        clear hR R0
        by_cases hk : k < qs.length
        · have hd : decide ((k : Int) < qs.length) = true := decide_eq_true (by omega)
          have hkd := HK.out k hk
          have hmo := HR.out.marks.attrs qs[k] (List.getElem_mem hk)
          obtain ⟨⟨mk, va⟩, hqk⟩ : ∃ q, qs[k] = q := ⟨_, rfl⟩
          rw [hqk] at hkd hmo
          obtain ⟨g, hav⟩ : ∃ g, av = some ⟨g, 0, none⟩ := by
            rcases HR.out.marks.row.2 with ⟨_, h0⟩ | ⟨g', cap, cur, hv, _⟩
            · omega
            · simp only [Value.slice.injEq] at hv
              exact ⟨g', hv.1⟩
          subst hav
          obtain ⟨pa, ca, hva⟩ := Mk.own_shape hmo
          simp only at hva hkd hmo
          obtain ⟨na, hna⟩ : ∃ n, mk.attrs.length = n := ⟨_, rfl⟩
          rw [hna] at hva
          subst hva
          have R1 : ∀ i (hi : i < 5) u, (Mk.cellsOf (mk, .slice pa na ca))[i]? = some u → wr.cell? ⟨g, k * 5 + i, none⟩ = some u := by
            intro i hi u hu
            exact Tr.own_at HR.out.marks.row (by rw [Tr.markCells_get qs k hk i hi, hqk]; exact hu)
          have x0 := R1 0 (by omega) _ rfl
          have x1 := R1 1 (by omega) _ rfl
          have x2 := R1 2 (by omega) _ rfl
          have x3 := R1 3 (by omega) _ rfl
          have x4 := R1 4 (by omega) _ rfl
          simp only [Nat.add_zero] at x0
          obtain ⟨wa, hwa⟩ : ∃ x, wr.alloc (.cells #[.int .i64 mk.kind, .int .i64 mk.at_, .string mk.name, .slice pa na ca, .string mk.text] 78) = x := ⟨_, rfl⟩
          have Aa : Below wr.heap.size wr wa := by rw [← hwa]; exact (Below.refl _ wr).alloc (Nat.le_refl _) _
          have Ra : Hid (Tr.Rnd w W1.heap.size (.slice (some ⟨g, 0, none⟩) qs.length cv) qs k st vE vO es wa) := HR.out.step Aa
          have hma : wa.heap[wr.heap.size]? = some (.cells #[.int .i64 mk.kind, .int .i64 mk.at_, .string mk.name, .slice pa na ca, .string mk.text] 78 (0, 0)) := by rw [← hwa]; exact heap_alloc_new wr _
          have HMA : Hid _ := hma
          have hcall := Tryd.ptake_any (w.heap.size + 1) (W1.heap.size + 1) W1.heap.size st vE vO es (mk, .slice pa na ca) wa Ra.out.pa (by have := Ra.out.pa.lt; omega) (by have := Ra.out.pa.lt; have := Ra.out.big; omega)
            (Tr.attrs_of (Mk.own_below hmo Aa) fun j hj => Ra.out.apart (Mk.own_below hmo Aa) (by decide) (by decide) (by decide) (Nat.le_refl _) j hj) hkd (by have := Ra.out.els; omega) (by have := Ra.out.ops; omega)
          simp only at hcall
          have HC : Hid _ := hcall
          have HWA : Hid _ := hwa
          have HQK : Hid (qs[k].1 = mk) := by show _ = _; rw [hqk]
          have hu := Tryd.underlying78
          have lg : g < wr.heap.size := (Tr.row_lt HR.out.marks.row (k := g) rfl).2
          clear R1 hmo hkd hqk hcall hwa Aa hna
          go_wp2_with (first | (refine wpList_load_row rfl 78 _ rfl _ rfl 78 _ (0, 0) _ hma hu rfl (by kernel_rfl) ?_) | fail)
          rw [HWA.out]
          refine Calls.mono HC.out ?_
          rintro e W2 ⟨hb2, h2⟩
          have hln : k < (qs.map (·.1)).length := by simpa using hk
          have M2 : Hid (W2.heap[wr.heap.size]? = some (.cells #[.int .i64 mk.kind, .int .i64 mk.at_, .string mk.name, .slice pa na ca, .string mk.text] 78 (0, 0))) := by
            show _ = _
            rw [hb2.block _ (Array.getElem?_eq_some_iff.1 HMA.out).1 (by
              rintro (e | e | e)
              · have := HR.out.pa.lt; omega
              · exact Tr.row_ne Ra.out.pa.rowE HMA.out (by decide) e
              · exact Tr.row_ne Ra.out.pa.rowO HMA.out (by decide) e)]
            exact HMA.out
          cases htk : Ps.take st mk with
          | error x =>
            rw [htk] at h2
            obtain rfl := h2
            have hx := Ps.take_err htk
            have hx0 : (x != 0) = true := by rcases hx with rfl | rfl <;> rfl
            have HE : Hid ((none, mk.at_, x) = o) := by
              show _ = _
              rw [← HO.out]
              have := Ps.run_fails (qs.map (·.1)) k hln .start st Ra.out.run (e := x) (by rw [List.getElem_map, HQK.out]; exact htk)
              rw [List.getElem_map, HQK.out] at this
              exact (Tr.parse_err hl HRD.out this).symm
            have hres : Hid (W2.heap[w.heap.size]? = some (.cells #[.string ⟨#[]⟩, .slice none 0 0, .slice none 0 0, .string ⟨#[]⟩] 25 (0, 0)) ∧ Below w.heap.size w W2) := by
              have hbg := Ra.out.big
              have hbl : ∀ j, j < wa.heap.size → j < W1.heap.size → W2.heap[j]? = wa.heap[j]? := fun j h1 h2 => hb2.block j h1 (by
                rintro (e | e | e)
                · omega
                · have := (Tr.row_lt Ra.out.pa.rowE e).1; omega
                · have := (Tr.row_lt Ra.out.pa.rowO e).1; omega)
              exact ⟨(hbl _ (Array.getElem?_eq_some_iff.1 Ra.out.res).1 hbg).trans Ra.out.res, ⟨hb2.os.trans Ra.out.below.os, hb2.tape.trans Ra.out.below.tape, hb2.output.trans Ra.out.below.output, Nat.le_trans Ra.out.below.size hb2.size, fun j hj => (hbl j (by have := Ra.out.below.size; omega) (by omega)).trans (Ra.out.below.block j hj)⟩⟩
            have m1 : W2.cell? ⟨wr.heap.size, 1, none⟩ = some (.int .i64 mk.at_) := by have := M2.out; simp [World.cell?, this]
            obtain ⟨⟨z0, z1, z2, z3⟩, y0, y1, y2, y3⟩ := Tr.row4 hres.out.1
            have hnw : wr.heap.size ≠ w.heap.size := by have := HR.out.pa.lt; have := HR.out.big; omega
            have hnw2 : w.heap.size ≠ wr.heap.size := Ne.symm hnw
            clear hb2 hx htk HC HWA hma x0 x1 x2 x3 x4
            go_wp2
            go_region
            all_goals
              go_wp2
              refine bodyPost_ret (Tr.results_elem Tryd.results14 _ _ w.heap.size _ _ _ _ rfl (Tr.put4 hres.out.1 _ _ _ _)) rfl ⟨Mk.below_drewN (BS.out _ _ _ _ _ hres.out.2) 1, HPE.out _ _ ?_⟩
              rw [← HE.out]
              rfl
          | ok st' =>
            rw [htk] at h2
            obtain ⟨rfl, vE', vO', es', hP', hl'⟩ := h2
            have RN : Hid (Tr.Rnd w W1.heap.size (.slice (some ⟨g, 0, none⟩) qs.length cv) qs (k + 1) st' vE' vO' es' W2) := Ra.out.next hk hb2 (by rw [HQK.out]; exact htk) hP' hl'
            clear hb2 htk HC HWA hma x0 x1 x2 x3 x4 hP' hl'
            go_wp2
            go_roundg (gk - 1)
            case measure => omega
            case rel => exact ⟨k + 1, _, _, _, _, by omega, by go_num, RN.out⟩
        · have hd : decide ((k : Int) < qs.length) = false := decide_eq_false (by omega)
          have hrun : Hid (Ps.run .start (qs.map (·.1)) = .ok st) := by
            have := HR.out.run
            rw [List.take_of_length_le (by simp; omega)] at this
            exact this
          obtain ⟨oO, cO, hvO⟩ := Mk.own_shape HR.out.pa.rowO
          obtain ⟨oE, cE, hvE⟩ := Mk.own_shape HR.out.pa.rowE
          have k0 : wr.cell? ⟨W1.heap.size, 0, none⟩ = some (.slice oE es.length cE) := by rw [HR.out.pa.c0, hvE]
          have k1 : wr.cell? ⟨W1.heap.size, 1, none⟩ = some (.slice oO st.ops.length cO) := by rw [HR.out.pa.c1, hvO]
          have HK1 : Hid _ := k1
          have HK0 : Hid _ := k0
          obtain ⟨⟨z0, z1, z2, z3⟩, y0, y1, y2, y3⟩ := Tr.row4 HR.out.res
          have hels := HR.out.pa.els
          cases st with
          | over E =>
            have HE : Hid ((some E, 0, 0) = o) := by show _ = _; rw [← HO.out]; exact (Tr.parse_end hl HRD.out hrun.out).symm
            obtain ⟨q, hq⟩ : ∃ q, es = [q] := by
              match es, hels with
              | [q], _ => exact ⟨q, rfl⟩
            subst hq
            have hqe : q.1 = E := by simpa [Ps.els] using hels
            obtain ⟨d, hd'⟩ := HR.out.pa.lies q (by simp)
            obtain ⟨gE, cE', hvE', _⟩ := HR.out.pa.rowE.form (by simp)
            rw [hvE] at hvE'
            obtain ⟨rfl, _, _⟩ := Value.slice.inj hvE'
            have hat := Tr.eCells_at [q] 0 (by simp)
            have hrow := HR.out.pa.rowE
            rw [hvE] at hrow
            obtain ⟨qE, qa, qk⟩ := q
            simp only at hqe
            subst hqe
            have e0 := Tr.own_at hrow hat.1
            have e1 := Tr.own_at hrow hat.2.1
            have e2 := Tr.own_at hrow hat.2.2.1
            have e3 := Tr.own_at hrow hat.2.2.2
            simp only [Nat.zero_mul, Nat.zero_add, List.getElem_cons_zero] at e0 e1 e2 e3
            have HL : Hid (El.Lies wr (fun k => k < wr.heap.size ∧ k ≠ w.heap.size) d qa qk qE) := hd'.wider fun k hk => ⟨hk.1, by have := hk.2.2.2.2; omega⟩
            obtain ⟨a1, c1, a2, c2, hqa, hqk⟩ := HL.out.shape
            have lE : gE < wr.heap.size := (Tr.row_lt hrow (k := gE) rfl).2
            have HNE : Hid (gE ≠ w.heap.size) := by have := (Tr.row_lt hrow (k := gE) rfl).1; have := HR.out.big; show _ ≠ _; omega
            clear hels hd' hvE' hat hrow
            have HQA : Hid (qa = .slice a1 qE.attrs.length c1 ∧ qk = .slice a2 qE.kids.length c2) := ⟨hqa, hqk⟩
            clear hqa hqk
            have hne := HNE.out
            have hne2 : w.heap.size ≠ gE := Ne.symm hne
            go_wp2_with fail
            refine (Tryd.over_any W1.heap.size _ _ 0 _ 1 _ true _ HK0.out HK1.out rfl).mono ?_
            rintro e wr ⟨rfl, rfl⟩
            obtain ⟨rfl, rfl⟩ : qa = .slice a1 qE.attrs.length c1 ∧ qk = .slice a2 qE.kids.length c2 := HQA.out
            go_wp2
            refine bodyPost_ret (Tr.results_elem Tryd.results14 _ _ w.heap.size _ _ _ _ rfl (Tr.put4 HR.out.res _ _ _ _)) rfl ⟨BS.out _ _ _ _ _ HR.out.below, HPE.out _ _ ?_⟩
            rw [← HE.out]
            refine ⟨_, _, d, rfl, HL.out.keep (fun k hk => ?_) fun k hk => by simpa [World.setCell] using hk.1⟩
            rw [Below.heap_setCell _ _ _ _ (by show k ≠ _; exact hk.2), Below.heap_setCell _ _ _ _ (by show k ≠ _; exact hk.2), Below.heap_setCell _ _ _ _ (by show k ≠ _; exact hk.2), Below.heap_setCell _ _ _ _ (by show k ≠ _; exact hk.2)]
          | start =>
            have HE : Hid ((none, s.size, 4) = o) := by show _ = _; rw [← HO.out]; exact (Tr.parse_end hl HRD.out hrun.out).symm
            have hl0 : es.length = 0 := by have := congrArg List.length hels; simpa [Ps.els] using this
            clear hels
            go_wp2_with fail
            refine (Tryd.over_any W1.heap.size _ _ 0 _ es.length _ false _ HK0.out HK1.out (by simp [hl0])).mono ?_
            rintro e wr ⟨rfl, rfl⟩
            go_wp2
            refine bodyPost_ret (Tr.results_elem Tryd.results14 _ _ w.heap.size _ _ _ _ rfl (Tr.put4 HR.out.res _ _ _ _)) rfl ⟨BS.out _ _ _ _ _ HR.out.below, HPE.out _ _ ?_⟩
            rw [← HE.out]
            rfl
          | ins a b c =>
            have HE : Hid ((none, s.size, 4) = o) := by show _ = _; rw [← HO.out]; exact (Tr.parse_end hl HRD.out hrun.out).symm
            have hm : (Ps.ops (.ins a b c)).length = c.length + 1 := by simp [Ps.ops, Ps.places, Ps.places_length]
            have HM : Hid _ := hm
            clear hels hm
            go_wp2_with fail
            refine (Tryd.over_any W1.heap.size _ _ _ _ es.length _ false _ HK0.out HK1.out (by simp [HM.out])).mono ?_
            rintro e wr ⟨rfl, rfl⟩
            go_wp2
            refine bodyPost_ret (Tr.results_elem Tryd.results14 _ _ w.heap.size _ _ _ _ rfl (Tr.put4 HR.out.res _ _ _ _)) rfl ⟨BS.out _ _ _ _ _ HR.out.below, HPE.out _ _ ?_⟩
            rw [← HE.out]
            rfl

end Go.Proofs
