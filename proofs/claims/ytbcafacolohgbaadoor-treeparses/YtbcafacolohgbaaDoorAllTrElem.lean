/-
  The document's parsing, as plain mathematics: one element from a mark on, and that the machine comes to the same. · The document's elem: what its worlds hold; its contract.
-/
import Derived.Test.YtbcafacolohgbaaDoorTrBack
import Derived.Test.YtbcafacolohgbaaDoorTrLawRef
namespace Go.Proofs
open Go.RowKit
open Go.Proofs.Mk

/-- The document's answer: an element and the next mark's place; or a fault and its mark. -/
inductive Dc.Got where
  | ok (E : El) (next : Nat)
  | err (e : Int) (mark : Nat)
/-- What is inside an element, from a mark on (first the number of rounds that are left). -/
def Dc.loopF (l : List MarkV) : Nat → Nat → El → List El → Nat → Dc.Got
  | 0, _, _, _, _ => .err 4 l.length
  | f + 1, d, h, ks, k => match l[k]? with
    | none => .err 4 l.length
    | some m =>
      if m.kind = 2 then (if h.name = m.name then .ok (Ps.withKids h ks) (k + 1) else .err 4 k)
      else if m.kind = 3 then (if ks.length = 0 then Dc.loopF l f d (Ps.withText h m.text) ks (k + 1) else .err 4 k)
      else if h.text.size ≠ 0 then .err 4 k
      else if d < 24 ∧ 64 ≤ ks.length then .err 2 k
      else if 24 < d + 1 then .err 2 k
      else match Dc.loopF l f (d + 1) (Ps.leaf m) [] (k + 1) with
        | .err e j => .err e j
        | .ok E n => Dc.loopF l f d h (ks ++ [E]) n
def Dc.loop (l : List MarkV) (d : Nat) (h : El) (ks : List El) (k : Nat) : Dc.Got := Dc.loopF l (l.length + 1 - k) d h ks k
theorem Dc.next_gt {l : List MarkV} : ∀ (f d : Nat) (h : El) (ks : List El) (k : Nat) {E : El} {n : Nat}, Dc.loopF l f d h ks k = .ok E n → k < n ∧ n ≤ l.length := by
  intro f
  induction f with
  | zero => intro d h ks k E n hr; rw [Dc.loopF] at hr; cases hr
  | succ f ih =>
    intro d h ks k E n hr
    rw [Dc.loopF] at hr
    cases hm : l[k]? with
    | none => rw [hm] at hr; cases hr
    | some m =>
      rw [hm] at hr
      have hk := (List.getElem?_eq_some_iff.1 hm).1
      simp only at hr
      split at hr
      · split at hr
        · cases hr; omega
        · cases hr
      split at hr
      · split at hr
        · have := ih _ _ _ _ hr; omega
        · cases hr
      split at hr
      · cases hr
      split at hr
      · cases hr
      split at hr
      · cases hr
      cases hg : Dc.loopF l f (d + 1) (Ps.leaf m) [] (k + 1) with
      | err e j => rw [hg] at hr; cases hr
      | ok E' n' =>
        rw [hg] at hr
        have h1 := ih _ _ _ _ hg
        have h2 := ih _ _ _ _ hr
        omega
theorem Dc.enough {l : List MarkV} : ∀ (f f' d : Nat) (h : El) (ks : List El) (k : Nat), l.length - k < f → l.length - k < f' → Dc.loopF l f d h ks k = Dc.loopF l f' d h ks k := by
  intro f
  induction f with
  | zero => intro f' d h ks k h1; omega
  | succ f ih =>
    intro f' d h ks k h1 h2
    cases f' with
    | zero => omega
    | succ f' =>
      rw [Dc.loopF, Dc.loopF]
      cases hm : l[k]? with
      | none => rfl
      | some m =>
        have hk := (List.getElem?_eq_some_iff.1 hm).1
        simp only
        rw [ih f' d (Ps.withText h m.text) ks (k + 1) (by omega) (by omega), ih f' (d + 1) (Ps.leaf m) [] (k + 1) (by omega) (by omega)]
        cases hg : Dc.loopF l f' (d + 1) (Ps.leaf m) [] (k + 1) with
        | err e j => rfl
        | ok E n =>
          have h3 := Dc.next_gt _ _ _ _ _ hg
          simp only
          rw [ih f' d h (ks ++ [E]) n (by omega) (by omega)]
theorem Dc.loop_end {l : List MarkV} {d : Nat} {h : El} {ks : List El} {k : Nat} (hk : l.length ≤ k) : Dc.loop l d h ks k = .err 4 l.length := by
  unfold Dc.loop
  cases l.length + 1 - k with
  | zero => rfl
  | succ f => rw [Dc.loopF, List.getElem?_eq_none hk]
theorem Dc.loop_eq {l : List MarkV} {d : Nat} {h : El} {ks : List El} {k : Nat} {m : MarkV} (hk : k < l.length) (hm : l[k] = m) : Dc.loop l d h ks k =
      if m.kind = 2 then (if h.name = m.name then .ok (Ps.withKids h ks) (k + 1) else .err 4 k)
      else if m.kind = 3 then (if ks.length = 0 then Dc.loop l d (Ps.withText h m.text) ks (k + 1) else .err 4 k)
      else if h.text.size ≠ 0 then .err 4 k
      else if d < 24 ∧ 64 ≤ ks.length then .err 2 k
      else if 24 < d + 1 then .err 2 k
      else match Dc.loop l (d + 1) (Ps.leaf m) [] (k + 1) with
        | .err e j => .err e j
        | .ok E n => Dc.loop l d h (ks ++ [E]) n := by
  unfold Dc.loop
  obtain ⟨f, hf⟩ : ∃ f, l.length + 1 - k = f + 1 := ⟨l.length - k, by omega⟩
  have hm' : l[k]? = some m := by rw [List.getElem?_eq_getElem hk, hm]
  rw [hf, Dc.loopF, hm']
  simp only
  rw [Dc.enough f (l.length + 1 - (k + 1)) d (Ps.withText h m.text) ks (k + 1) (by omega) (by omega), Dc.enough f (l.length + 1 - (k + 1)) (d + 1) (Ps.leaf m) [] (k + 1) (by omega) (by omega)]
  cases hg : Dc.loopF l (l.length + 1 - (k + 1)) (d + 1) (Ps.leaf m) [] (k + 1) with
  | err e j => rfl
  | ok E n =>
    have h3 := Dc.next_gt _ _ _ _ _ hg
    simp only
    rw [Dc.enough f (l.length + 1 - n) d h (ks ++ [E]) n (by omega) (by omega)]
theorem Dc.loop_next {l : List MarkV} {d : Nat} {h : El} {ks : List El} {k : Nat} {E : El} {n : Nat} (hr : Dc.loop l d h ks k = .ok E n) : k < n ∧ n ≤ l.length := Dc.next_gt _ _ _ _ _ hr

theorem Dc.size_zero (t : ByteArray) : t.size = 0 ↔ t.data.toList = [] := by
  rw [← Mk.size_list, List.length_eq_zero_iff]
/-- The machine comes to the same. -/
theorem Dc.sim {l : List MarkV} (hK : ∀ m ∈ l, m.kind = 1 ∨ m.kind = 2 ∨ m.kind = 3) : ∀ (N d : Nat) (h : El) (ks : List El) (k : Nat) (r : List (El × List El)), l.length - k ≤ N → r.length + 1 = d → ks.length ≤ 64 → d ≤ 24 →
    match Dc.loop l d h ks k with
    | .ok E n => Ps.run (.ins h ks r) (l.drop k) = Ps.run (Ps.close E r) (l.drop n)
    | .err e j => (∃ hj : j < l.length, Ps.run (.ins h ks r) (l.drop k) = .error (e, l[j].at_)) ∨ (j = l.length ∧ e = 4 ∧ ∃ st, Ps.run (.ins h ks r) (l.drop k) = .ok st ∧ st.isOver = none) := by
  intro N
  induction N with
  | zero =>
    intro d h ks k r hN hd hks hd24
    rw [Dc.loop_end (by omega)]
    refine .inr ⟨rfl, rfl, .ins h ks r, ?_, rfl⟩
    rw [List.drop_eq_nil_of_le (by omega)]
    rfl
  | succ N ih =>
    intro d h ks k r hN hd hks hd24
    by_cases hk : k < l.length
    · obtain ⟨m, hm⟩ : ∃ m, l[k] = m := ⟨_, rfl⟩
      have hdr : l.drop k = m :: l.drop (k + 1) := by rw [← hm]; exact List.drop_eq_getElem_cons hk
      have hmk := hK m (by rw [← hm]; exact List.getElem_mem hk)
      have hst : ∀ (e : Int), Ps.take (.ins h ks r) m = .error e → ∃ hj : k < l.length, Ps.run (.ins h ks r) (l.drop k) = .error (e, l[k].at_) := fun e he => ⟨hk, by rw [hdr, Ps.run, he, hm]⟩
      have hok : ∀ st, Ps.take (.ins h ks r) m = .ok st → Ps.run (.ins h ks r) (l.drop k) = Ps.run st (l.drop (k + 1)) := fun st he => by rw [hdr, Ps.run, he]
      rw [Dc.loop_eq hk hm]
      by_cases h2 : m.kind = 2
      · rw [if_pos h2]
        by_cases hn : h.name = m.name
        · rw [if_pos hn]
          exact hok _ (by simp [Ps.take, h2, hn])
        · rw [if_neg hn]
          exact .inl (hst 4 (by simp [Ps.take, h2, hn]))
      rw [if_neg h2]
      by_cases h3 : m.kind = 3
      · rw [if_pos h3]
        by_cases hk0 : ks.length = 0
        · rw [if_pos hk0]
          have hks0 := List.length_eq_zero_iff.1 hk0
          have := ih d (Ps.withText h m.text) ks (k + 1) r (by omega) hd hks hd24
          rw [hok (.ins (Ps.withText h m.text) ks r) (by simp [Ps.take, h3, hks0])]
          exact this
        · rw [if_neg hk0]
          exact .inl (hst 4 (by have hne : ks ≠ [] := fun e => hk0 (by rw [e]; rfl); simp [Ps.take, h3, hne]))
      rw [if_neg h3]
      have h1 : m.kind = 1 := by omega
      by_cases ht : h.text.size ≠ 0
      · rw [if_pos ht]
        exact .inl (hst 4 (by simp only [Ps.take, if_pos h1]; rw [if_pos (fun e => ht ((Dc.size_zero _).2 e))]))
      rw [if_neg ht]
      have ht0 : h.text.data.toList = [] := (Dc.size_zero _).1 (by omega)
      have htk : Ps.take (.ins h ks r) m = if r.length + 1 = 24 ∨ ks.length = 64 then .error 2 else .ok (.ins (Ps.leaf m) [] ((h, ks) :: r)) := by
        simp only [Ps.take, if_pos h1]; rw [if_neg (by simpa using ht0)]
      by_cases hw : d < 24 ∧ 64 ≤ ks.length
      · rw [if_pos hw]
        exact .inl (hst 2 (by rw [htk, if_pos (.inr (by omega))]))
      rw [if_neg hw]
      by_cases hdp : 24 < d + 1
      · rw [if_pos hdp]
        exact .inl (hst 2 (by rw [htk, if_pos (.inl (by omega))]))
      rw [if_neg hdp]
      have hrun := hok _ (by rw [htk, if_neg (by omega)])
      have hin := ih (d + 1) (Ps.leaf m) [] (k + 1) ((h, ks) :: r) (by omega) (by simp; omega) (by simp) (by omega)
      cases hg : Dc.loop l (d + 1) (Ps.leaf m) [] (k + 1) with
      | err e j =>
        rw [hg] at hin
        simp only at hin ⊢
        rw [hrun]
        exact hin
      | ok E n =>
        rw [hg] at hin
        simp only at hin ⊢
        rw [hrun, hin]
        have h4 := Dc.loop_next hg
        exact ih d h (ks ++ [E]) n r (by omega) hd (by simp; omega) hd24
    · rw [Dc.loop_end (by omega)]
      refine .inr ⟨rfl, rfl, .ins h ks r, ?_, rfl⟩
      rw [List.drop_eq_nil_of_le (by omega)]
      rfl

theorem Mk.next_kinds {l : List UInt8} {k m : Nat} {ms : List MarkV} (h : Mk.nextL l k = some (ms, m)) : (∀ x ∈ ms, x.kind = 1 ∨ x.kind = 2 ∨ x.kind = 3) ∧ ∃ x r, ms = x :: r ∧ x.at_ = k := by
  unfold Mk.nextL at h
  split at h
  · split at h
    · cases h
    split at h
    · cases h
    · cases h; exact ⟨by simp, _, _, rfl, rfl⟩
  split at h
  · split at h
    · cases h
    split at h
    · cases h
    split at h
    · cases h
    split at h
    · cases h; exact ⟨by simp, _, _, rfl, rfl⟩
    split at h
    · cases h; exact ⟨by simp, _, _, rfl, rfl⟩
    · cases h
  · split at h
    · cases h
    · cases h; exact ⟨by simp, _, _, rfl, rfl⟩
theorem Mk.Reads.kinds {l : List UInt8} {k : Nat} {ms : List MarkV} (h : Mk.Reads l k ms) : (∀ x ∈ ms, x.kind = 1 ∨ x.kind = 2 ∨ x.kind = 3) ∧ ∀ x r, ms = x :: r → x.at_ = k := by
  induction h with
  | nil k => exact ⟨by simp, fun x r h => by cases h⟩
  | @next l k m ms r hl hn _ ih =>
    obtain ⟨h1, x, q, rfl, h2⟩ := Mk.next_kinds hn
    refine ⟨fun y hy => ?_, fun y z hy => ?_⟩
    · rcases List.mem_append.1 hy with hy | hy
      · exact h1 y hy
      · exact ih.1 y hy
    · rw [List.cons_append] at hy
      injection hy with hy _
      rw [← hy]; exact h2

/-- Parse's answer by the document's own way. -/
theorem Dc.parse_none {s : ByteArray} (hs : ¬ 20000 < s.size) (hr : Mk.readL s.data.toList 0 = .ok []) : El.parseL s = (none, s.size, 4) := by
  unfold El.parseL; rw [if_neg hs, hr]; rfl
theorem Dc.parse_first {s : ByteArray} {m : MarkV} {r : List MarkV} (hs : ¬ 20000 < s.size) (hr : Mk.readL s.data.toList 0 = .ok (m :: r)) (h1 : m.kind ≠ 1) : El.parseL s = (none, 0, 4) := by
  have h0 := (Mk.Reads.of_readL hr).kinds.2 m r rfl
  unfold El.parseL; rw [if_neg hs, hr]; simp [Ps.run, Ps.take, h1, h0]
theorem Dc.parse_loop {s : ByteArray} {m : MarkV} {r : List MarkV} (hs : ¬ 20000 < s.size) (hr : Mk.readL s.data.toList 0 = .ok (m :: r)) (h1 : m.kind = 1) :
    match Dc.loop (m :: r) 1 (Ps.leaf m) [] 1 with
    | .ok E n => (∀ h : n < (m :: r).length, El.parseL s = (none, (m :: r)[n].at_, 4)) ∧ (¬ n < (m :: r).length → El.parseL s = (some E, 0, 0))
    | .err e j => (∀ h : j < (m :: r).length, El.parseL s = (none, (m :: r)[j].at_, e)) ∧ (¬ j < (m :: r).length → El.parseL s = (none, s.size, e)) := by
  have hK := (Mk.Reads.of_readL hr).kinds.1
  have hsim := Dc.sim hK (m :: r).length 1 (Ps.leaf m) [] 1 [] (by omega) rfl (by simp) (by omega)
  have hrun : Ps.run .start (m :: r) = Ps.run (.ins (Ps.leaf m) [] []) ((m :: r).drop 1) := by
    simp [Ps.run, Ps.take, h1]
  cases hg : Dc.loop (m :: r) 1 (Ps.leaf m) [] 1 with
  | ok E n =>
    rw [hg] at hsim
    simp only at hsim ⊢
    rw [← hrun] at hsim
    refine ⟨fun hn => ?_, fun hn => ?_⟩
    · rw [List.drop_eq_getElem_cons hn] at hsim
      unfold El.parseL; rw [if_neg hs, hr]; simp only
      rw [hsim]
      rfl
    · rw [List.drop_eq_nil_of_le (by omega)] at hsim
      unfold El.parseL; rw [if_neg hs, hr]; simp only
      rw [hsim]
      rfl
  | err e j =>
    rw [hg] at hsim
    simp only at hsim ⊢
    rw [← hrun] at hsim
    rcases hsim with ⟨hj, hsim⟩ | ⟨hj, he, st, hsim, hov⟩
    · refine ⟨fun _ => ?_, fun h => absurd hj h⟩
      unfold El.parseL; rw [if_neg hs, hr]; simp only
      rw [hsim]
    · refine ⟨fun h => by omega, fun _ => ?_⟩
      unfold El.parseL; rw [if_neg hs, hr]; simp only
      rw [hsim]; simp only; rw [hov, he]

end Go.Proofs

namespace Go.Proofs
open Go.RowKit
open Go.Proofs.Mk

/-- Marks as the document's elem reads them: all in blocks below B. -/
def Dc.Marks (w : World) (A B : Nat) (a : Option Addr) (ms : List MarkV) : Prop := ∀ j (h : j < ms.length), ∃ g u, a = some ⟨g, 0, none⟩ ∧ g < B ∧ w.cell? ⟨g, j * 5, none⟩ = some (.int .i64 ms[j].kind) ∧ w.cell? ⟨g, j * 5 + 1, none⟩ = some (.int .i64 ms[j].at_) ∧
  w.cell? ⟨g, j * 5 + 2, none⟩ = some (.string ms[j].name) ∧ w.cell? ⟨g, j * 5 + 3, none⟩ = some u ∧ w.cell? ⟨g, j * 5 + 4, none⟩ = some (.string ms[j].text) ∧ El.AttrsP w (fun k => A ≤ k ∧ k < B) u ms[j].attrs
theorem Dc.Marks.below {w w' : World} {A B : Nat} {a : Option Addr} {ms : List MarkV} (h : Dc.Marks w A B a ms) (hb : Below B w w') : Dc.Marks w' A B a ms := fun j hj => by
  obtain ⟨g, u, ha, hg, c0, c1, c2, c3, c4, hA⟩ := h j hj
  have hc : ∀ o, w'.cell? ⟨g, o, none⟩ = w.cell? ⟨g, o, none⟩ := fun o => hb.cell (p := ⟨g, o, none⟩) hg
  exact ⟨g, u, ha, hg, by rw [hc]; exact c0, by rw [hc]; exact c1, by rw [hc]; exact c2, by rw [hc]; exact c3, by rw [hc]; exact c4, hA.keep (fun k hk => hb.block k hk.2) fun _ h => h⟩

/-- What elem goes on with: the answer's box, its variable, the kids so far. -/
structure Dc.Rf (w : World) (A B : Nat) (nm tx : ByteArray) (vA vK : Value) (qs : List (El × Value × Value)) (X : World) : Prop where
  res : X.heap[w.heap.size]? = some (.cells #[.string ⟨#[]⟩, .slice none 0 0, .slice none 0 0, .string ⟨#[]⟩, .int .i64 0, .int .i64 0, .int .i64 0] 88 (0, 0))
  var : X.heap[w.heap.size + 1]? = some (.cells #[.string nm, vA, vK, .string tx] 39 (0, 0))
  ownK : X.ownsRow (w.heap.size + 2) 39 4 vK qs.length (Tr.eCells qs)
  lies : ∀ q ∈ qs, ∃ d, El.Lies X (fun k => ((A ≤ k ∧ k < B) ∨ w.heap.size + 2 ≤ k) ∧ k < X.heap.size ∧ vK.ownBlock ≠ some k) d q.2.1 q.2.2 q.1
  below : Below w.heap.size w X
theorem Dc.Rf.lt {w : World} {A B : Nat} {nm tx : ByteArray} {vA vK : Value} {qs : List (El × Value × Value)} {X : World} (h : Dc.Rf w A B nm tx vA vK qs X) : w.heap.size + 1 < X.heap.size := (Array.getElem?_eq_some_iff.1 h.var).1
theorem Dc.Rf.step {w : World} {A B : Nat} {nm tx : ByteArray} {vA vK : Value} {qs : List (El × Value × Value)} {X X' : World} (h : Dc.Rf w A B nm tx vA vK qs X) (hb : Below X.heap.size X X') : Dc.Rf w A B nm tx vA vK qs X' := by
  have hz := h.lt
  exact ⟨(hb.block _ (by omega)).trans h.res, (hb.block _ hz).trans h.var, Tr.own_kept h.ownK fun k hk => hb.block k (Tr.row_lt h.ownK hk).2,
    fun q hq => by obtain ⟨d, hd⟩ := h.lies q hq; exact ⟨d, hd.keep (fun k hk => hb.block k hk.2.1) fun k hk => ⟨hk.1, Nat.lt_of_lt_of_le hk.2.1 hb.size, hk.2.2⟩⟩, h.below.trans (hb.mono h.below.size)⟩
/-- Another text. -/
theorem Dc.Rf.txt {w : World} {A B : Nat} {nm tx : ByteArray} {vA vK : Value} {qs : List (El × Value × Value)} {X : World} (h : Dc.Rf w A B nm tx vA vK qs X) (hB : B ≤ w.heap.size) (t : ByteArray) : Dc.Rf w A B nm t vA vK qs (X.setCell ⟨w.heap.size + 1, 3, none⟩ (.string t)) := by
  have hz := h.lt
  have hv := h.var
  refine ⟨?_, ?_, ownsRow_setCell_below h.ownK (by show w.heap.size + 1 < _; omega) _, fun q hq => ?_, h.below.setCell (by show _ ≤ w.heap.size + 1; omega) _⟩
  · rw [Below.heap_setCell _ _ _ _ (by show _ ≠ w.heap.size + 1; omega)]; exact h.res
  · simp [World.setCell, Array.getElem?_modify, hv]
  · obtain ⟨d, hd⟩ := h.lies q hq
    exact ⟨d, hd.keep (fun k hk => Below.heap_setCell _ _ _ _ (by show k ≠ w.heap.size + 1; omega)) fun k hk => ⟨hk.1, by simpa [World.setCell] using hk.2.1, hk.2.2⟩⟩
/-- A kid more: ahead of the store, and behind it. -/
theorem Dc.Rf.mid {w : World} {A B : Nat} {nm tx : ByteArray} {vA vK : Value} {qs : List (El × Value × Value)} {X W6 : World} (h : Dc.Rf w A B nm tx vA vK qs X) (g6 : X.grownBy W6 vK.ownBlock) :
    W6.heap[w.heap.size + 1]? = some (.cells #[.string nm, vA, vK, .string tx] 39 (0, 0)) :=
  (g6.block _ h.lt (by intro e; have := (Tr.row_lt h.ownK e.symm).1; omega)).trans h.var
theorem Dc.Rf.kid {w : World} {A B : Nat} {nm tx : ByteArray} {vA vK : Value} {qs : List (El × Value × Value)} {X W6 : World} {x : El} {ua uk : Value} {g cap H : Nat} (h : Dc.Rf w A B nm tx vA vK qs X) (hB : B ≤ w.heap.size)
    (hx : ∃ d, El.Lies X (fun k => ((A ≤ k ∧ k < B) ∨ w.heap.size + 2 ≤ k) ∧ k < X.heap.size ∧ vK.ownBlock ≠ some k) d ua uk x) (hH : X.heap.size = H)
    (o6 : W6.ownsRow (w.heap.size + 2) 39 4 (.slice (some ⟨g, 0, none⟩) (qs.length + 1) cap) (qs.length + 1) (Tr.eCells qs ++ [.string x.name, ua, uk, .string x.text])) (g6 : X.grownBy W6 vK.ownBlock) (hg : vK.ownBlock = some g ∨ g = H) :
    Dc.Rf w A B nm tx vA (.slice (some ⟨g, 0, none⟩) (qs.length + 1) cap) (qs ++ [(x, ua, uk)]) (W6.setCell ⟨w.heap.size + 1, 2, none⟩ (.slice (some ⟨g, 0, none⟩) (qs.length + 1) cap)) := by
  have hz := h.lt
  have hv := h.mid g6
  have hk : ∀ k, k < w.heap.size + 2 → k < X.heap.size → W6.heap[k]? = X.heap[k]? := fun k h1 h2 => g6.block k h2 (by intro e; have := (Tr.row_lt h.ownK e.symm).1; omega)
  have key : ∀ (d : Nat) (va vk : Value) (E : El), El.Lies X (fun k => ((A ≤ k ∧ k < B) ∨ w.heap.size + 2 ≤ k) ∧ k < X.heap.size ∧ vK.ownBlock ≠ some k) d va vk E → El.Lies (W6.setCell ⟨w.heap.size + 1, 2, none⟩ (.slice (some ⟨g, 0, none⟩) (qs.length + 1) cap)) (fun k => ((A ≤ k ∧ k < B) ∨ w.heap.size + 2 ≤ k) ∧ k < (W6.setCell ⟨w.heap.size + 1, 2, none⟩ (.slice (some ⟨g, 0, none⟩) (qs.length + 1) cap)).heap.size ∧ (Value.slice (some ⟨g, 0, none⟩) (qs.length + 1) cap).ownBlock ≠ some k) d va vk E := fun d va vk E hE =>
    hE.keep (fun k hk => (Below.heap_setCell _ _ _ _ (by show k ≠ w.heap.size + 1; omega)).trans (g6.block k hk.2.1 (Ne.symm hk.2.2))) fun k hk => ⟨hk.1, by have := g6.size; simp [World.setCell]; omega, by
      intro e
      have e' : g = k := Option.some.inj e
      subst e'
      rcases hg with hg | hg
      · exact hk.2.2 hg
      · omega⟩
  refine ⟨?_, ?_, ?_, ?_, ?_⟩
  · rw [Below.heap_setCell _ _ _ _ (by show _ ≠ w.heap.size + 1; omega)]; exact (hk _ (by omega) (by omega)).trans h.res
  · simp [World.setCell, Array.getElem?_modify, hv]
  · rw [Tr.eCells_append, List.length_append]
    exact ownsRow_setCell_below o6 (by show w.heap.size + 1 < _; omega) _
  · intro q hq
    rcases List.mem_append.1 hq with hq | hq
    · obtain ⟨d, hd⟩ := h.lies q hq
      exact ⟨d, key _ _ _ _ hd⟩
    · rw [List.mem_singleton.1 hq]
      obtain ⟨d, hd⟩ := hx
      exact ⟨d, key _ _ _ _ hd⟩
  · exact (h.below.trans ⟨g6.os, g6.tape, g6.output, g6.size, fun j hj => hk j (by omega) (by omega)⟩).setCell (by show _ ≤ w.heap.size + 1; omega) _
/-- The whole element. -/
theorem Dc.Rf.elem {w : World} {A B : Nat} {vA vK : Value} {qs : List (El × Value × Value)} {X : World} {E : El} (h : Dc.Rf w A B E.name E.text vA vK qs X) (hA : El.AttrsP X (fun k => ((A ≤ k ∧ k < B) ∨ w.heap.size + 2 ≤ k) ∧ k < X.heap.size) vA E.attrs) (hk : qs.map (·.1) = E.kids) : ∃ d, El.Lies X (fun k => ((A ≤ k ∧ k < B) ∨ w.heap.size + 2 ≤ k) ∧ k < X.heap.size) d vA vK E := by
  obtain ⟨D, hD⟩ := Tr.maxL qs h.lies
  have hlen : E.kids.length = qs.length := by rw [← hk]; simp
  refine ⟨D + 1, hA, ?_⟩
  rcases h.ownK.2 with ⟨rfl, h0⟩ | ⟨g, cap, cur, rfl, hb, hg, _⟩
  · exact ⟨none, 0, by rw [hlen, h0], .inl (List.length_eq_zero_iff.1 (by omega))⟩
  · refine ⟨_, _, by rw [hlen], .inr ⟨g, 0, rfl, ⟨.inr hb, (Array.getElem?_eq_some_iff.1 hg).1⟩, fun j hj => ?_⟩⟩
    have hj' : j < qs.length := by omega
    obtain ⟨c0, c1, c2, c3⟩ := Tr.eCells_at qs j hj'
    have hc : ∀ o u, (Tr.eCells qs)[o]? = some u → X.cell? ⟨g, o, none⟩ = some u := fun o u hu => by
      have h1 := h.ownK.cells (g := g) rfl o u hu
      have ea : (⟨g, 0, none⟩ : Addr).add o = ⟨g, o, none⟩ := by unfold Addr.add; split <;> simp_all
      rw [ea] at h1
      exact h1
    have he : E.kids[j] = qs[j].1 := by simp [← hk]
    rw [he, Nat.zero_add]
    exact ⟨qs[j].2.1, qs[j].2.2, hc _ _ c0, hc _ _ c1, hc _ _ c2, hc _ _ c3, (hD _ (List.getElem_mem hj')).keep (fun _ _ => rfl) fun k hk => ⟨hk.1, hk.2.1⟩⟩

/-- What elem comes to. -/
def Dc.End (A B : Nat) (w : World) : Dc.Got → Ending → World → Prop
  | .err er j, e, _ => e = .returned (.agg #[.string ⟨#[]⟩, .slice none 0 0, .slice none 0 0, .string ⟨#[]⟩, .int .i64 0, .int .i64 er, .int .i64 j])
  | .ok E n, e, w' => ∃ a c a' c' d, e = .returned (.agg #[.string E.name, .slice a E.attrs.length c, .slice a' E.kids.length c', .string E.text, .int .i64 n, .int .i64 0, .int .i64 0]) ∧ El.Lies w' (fun k => ((A ≤ k ∧ k < B) ∨ w.heap.size ≤ k) ∧ k < w'.heap.size) d (.slice a E.attrs.length c) (.slice a' E.kids.length c') E
/-- elem's answer, as plain mathematics. -/
def Dc.elemR (ms : List MarkV) (i d : Nat) : Dc.Got := if 24 < d then .err 2 i else match ms[i]? with | none => .err 4 0 | some m => Dc.loop ms d (Ps.leaf m) [] (i + 1)
theorem Dc.elemR_eq {ms : List MarkV} {i d : Nat} (h : i < ms.length) : Dc.elemR ms i d = if 24 < d then .err 2 i else Dc.loop ms d (Ps.leaf ms[i]) [] (i + 1) := by
  unfold Dc.elemR; rw [List.getElem?_eq_getElem h]
theorem Dc.loopF_err {l : List MarkV} : ∀ (f d : Nat) (h : El) (ks : List El) (k : Nat) {e : Int} {j : Nat}, Dc.loopF l f d h ks k = .err e j → (e = 2 ∨ e = 4) ∧ j ≤ l.length := by
  intro f
  induction f with
  | zero => intro d h ks k e j hr; rw [Dc.loopF] at hr; cases hr; simp
  | succ f ih =>
    intro d h ks k e j hr
    rw [Dc.loopF] at hr
    cases hm : l[k]? with
    | none => rw [hm] at hr; cases hr; simp
    | some m =>
      rw [hm] at hr
      have hk := (List.getElem?_eq_some_iff.1 hm).1
      simp only at hr
      split at hr
      · split at hr
        · cases hr
        · cases hr; exact ⟨.inr rfl, by omega⟩
      split at hr
      · split at hr
        · exact ih _ _ _ _ hr
        · cases hr; exact ⟨.inr rfl, by omega⟩
      split at hr
      · cases hr; exact ⟨.inr rfl, by omega⟩
      split at hr
      · cases hr; exact ⟨.inl rfl, by omega⟩
      split at hr
      · cases hr; exact ⟨.inl rfl, by omega⟩
      cases hg : Dc.loopF l f (d + 1) (Ps.leaf m) [] (k + 1) with
      | err e' j' => rw [hg] at hr; cases hr; exact ih _ _ _ _ hg
      | ok E' n' => rw [hg] at hr; exact ih _ _ _ _ hr
theorem Dc.elemR_err {ms : List MarkV} {i d : Nat} (hi : i < ms.length) {e : Int} {j : Nat} (h : Dc.elemR ms i d = .err e j) : (e = 2 ∨ e = 4) ∧ j ≤ ms.length := by
  rw [Dc.elemR_eq hi] at h
  split at h
  · cases h; exact ⟨.inl rfl, by omega⟩
  · exact Dc.loopF_err _ _ _ _ _ h
theorem Dc.elemR_next {ms : List MarkV} {i d : Nat} (hi : i < ms.length) {E : El} {n : Nat} (h : Dc.elemR ms i d = .ok E n) : i + 1 < n ∧ n ≤ ms.length := by
  rw [Dc.elemR_eq hi] at h
  split at h
  · cases h
  · exact Dc.next_gt _ _ _ _ _ h
/-- What the loop goes on with behind a kid's answer. -/
def Dc.cont (l : List MarkV) (d : Nat) (h : El) (ks : List El) : Dc.Got → Dc.Got
  | .err e j => .err e j
  | .ok E n => Dc.loop l d h (ks ++ [E]) n
theorem Dc.loop_kid {l : List MarkV} {d : Nat} {h : El} {ks : List El} {k : Nat} {m : MarkV} (hk : k < l.length) (hm : l[k] = m) (h2 : m.kind ≠ 2) (h3 : m.kind ≠ 3) (ht : h.text.size = 0) (hw : ¬ (d < 24 ∧ 64 ≤ ks.length)) : Dc.loop l d h ks k = Dc.cont l d h ks (Dc.elemR l k (d + 1)) := by
  rw [Dc.loop_eq hk hm, if_neg h2, if_neg h3, if_neg (by omega), if_neg hw, Dc.elemR_eq hk, hm]
  by_cases hd : 24 < d + 1
  · rw [if_pos hd, if_pos hd]; rfl
  · rw [if_neg hd, if_neg hd]
    cases Dc.loop l (d + 1) (Ps.leaf m) [] (k + 1) <;> rfl
def Dc.ElemC (N : Nat) : Prop := ∀ (A B : Nat) (ms : List MarkV) (a : Option Addr) (c i d : Nat) (w : World), Dc.Marks w A B a ms → B ≤ w.heap.size → ms.length ≤ 100000 → i < ms.length → ms.length - i ≤ N → d ≤ 25 →
  Calls Tryd.prog 35 #[.slice a ms.length c, .int .i64 i, .int .i64 d] w fun e w' => Below w.heap.size w w' ∧ Dc.End A B w (Dc.elemR ms i d) e w'

end Go.Proofs
