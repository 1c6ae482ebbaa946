/-
  The contract of the reader's next.
-/
import Derived.Test.YtbcafacolohgbaaDoorRClosed
namespace Go.Proofs
open Go.RowKit
open Go.Proofs.Mk

/-- How next ends. -/
def Mk.NextEnd (B b : Nat) (s : ByteArray) (k : Nat) (e : Ending) (w' : World) : Prop :=
  match Mk.nextL (s.data.toList.drop k) k with
  | none => e = .returned (.slice none 0 0) ∧ ∃ k', k' ≤ s.size ∧ Rd b s k' w'
  | some (ms, m) => ∃ v qs, e = .returned v ∧ qs.map (·.1) = ms ∧ Rd b s (k + m) w' ∧ Mk.MarksOwn w' B v qs

theorem Mk.own_marks_base {w : World} {B C : Nat} {v : Value} {qs : List (Mk.MarkV × Value)} (h : Mk.MarksOwn w C v qs) (hB : B ≤ C) : Mk.MarksOwn w B v qs :=
  ⟨Mk.own_base h.row hB, fun q hq => Mk.own_base (h.attrs q hq) hB⟩

theorem Mk.NextEnd.returned {B b : Nat} {s : ByteArray} {k : Nat} {e : Ending} {w' : World} (h : Mk.NextEnd B b s k e w') : ∃ v, e = .returned v := by
  unfold Mk.NextEnd at h
  split at h
  · exact ⟨_, h.1⟩
  · obtain ⟨v, _, he, _⟩ := h
    exact ⟨v, he⟩

theorem Mk.nextL_open {l : List UInt8} {k : Nat} {nm : List UInt8} (hp : Lib.hasPrefix (l.drop k) [60, 47] = false) (hq : Lib.hasPrefix (l.drop k) [60] = true) (hnm : Mk.nameOf (l.drop (k + 1)) = nm) :
    (nameL nm = false → Mk.nextL (l.drop k) k = none) ∧
    (nameL nm = true → Mk.attrsL (l.drop (k + 1 + nm.length)) = none → Mk.nextL (l.drop k) k = none) ∧
    (∀ xs m, nameL nm = true → Mk.attrsL (l.drop (k + 1 + nm.length)) = some (xs, m) → Mk.nextL (l.drop k) k =
      if Mk.unlikeB xs = false then none else
      if Lib.hasPrefix (l.drop (k + 1 + nm.length + m)) [62] = true then some ([⟨1, k, ⟨nm.toArray⟩, xs, ⟨#[]⟩⟩], 1 + nm.length + m + 1) else
      if Lib.hasPrefix (l.drop (k + 1 + nm.length + m)) [47, 62] = true then some ([⟨1, k, ⟨nm.toArray⟩, xs, ⟨#[]⟩⟩, ⟨2, k, ⟨nm.toArray⟩, [], ⟨#[]⟩⟩], 1 + nm.length + m + 2) else none) := by
  have e1 : (l.drop k).drop 1 = l.drop (k + 1) := by rw [List.drop_drop]
  have e2 : ∀ n, (l.drop k).drop (1 + nm.length + n) = l.drop (k + 1 + nm.length + n) := fun n => by rw [List.drop_drop]; congr 1; omega
  have e4 : (l.drop k).drop (1 + nm.length) = l.drop (k + 1 + nm.length) := e2 0
  unfold Mk.nextL
  rw [if_neg (by rw [hp]; simp), if_pos hq, e1, hnm, e4]
  refine ⟨fun h => by rw [if_pos h], fun h ha => by rw [if_neg (by rw [h]; simp), ha], fun xs m h ha => ?_⟩
  rw [if_neg (by rw [h]; simp), ha]
  simp only [e2]

theorem Mk.next_of_open {B C b : Nat} {s : ByteArray} {k : Nat} {nm : List UInt8} {e : Ending} {w' : World} (hp : Lib.hasPrefix (s.data.toList.drop k) [60, 47] = false) (hq : Lib.hasPrefix (s.data.toList.drop k) [60] = true)
    (hnm : Mk.nameOf (s.data.toList.drop (k + 1)) = nm) (z : B ≤ C) (t : Mk.OpenEnd C b s (k + 1) k nm e w') : Mk.NextEnd B b s k e w' := by
  obtain ⟨n1, n2, n3⟩ := Mk.nextL_open hp hq hnm
  unfold Mk.OpenEnd at t
  unfold Mk.NextEnd
  by_cases hn : nameL nm = false
  · rw [if_pos hn] at t; rw [n1 hn]; exact t
  · have hn' : nameL nm = true := by simpa using hn
    rw [if_neg hn] at t
    cases ha : Mk.attrsL (s.data.toList.drop (k + 1 + nm.length)) with
    | none => rw [ha] at t; rw [n2 hn' ha]; exact t
    | some q =>
      obtain ⟨xs, m⟩ := q
      rw [ha] at t
      rw [n3 xs m hn' ha]
      simp only at t
      by_cases hu : Mk.unlikeB xs = false
      · rw [if_pos hu] at t ⊢; exact t
      · rw [if_neg hu] at t ⊢
        by_cases h1 : Lib.hasPrefix (s.data.toList.drop (k + 1 + nm.length + m)) [62] = true
        · rw [if_pos h1] at t ⊢
          obtain ⟨v, q, he, hq, r, o⟩ := t
          refine ⟨v, [q], he, by simp [hq], ?_, Mk.own_marks_base o z⟩
          rw [show k + (1 + nm.length + m + 1) = k + 1 + nm.length + m + 1 by omega]
          exact r
        · rw [if_neg h1] at t ⊢
          by_cases h2 : Lib.hasPrefix (s.data.toList.drop (k + 1 + nm.length + m)) [47, 62] = true
          · rw [if_pos h2] at t ⊢
            obtain ⟨v, q, r', he, hq, hr, r, o⟩ := t
            refine ⟨v, [q, r'], he, by simp [hq, hr], ?_, Mk.own_marks_base o z⟩
            rw [show k + (1 + nm.length + m + 2) = k + 1 + nm.length + m + 2 by omega]
            exact r
          · rw [if_neg h2] at t ⊢; exact t

theorem Mk.next_of_closed {B C b : Nat} {s : ByteArray} {k : Nat} {nm : List UInt8} {e : Ending} {w' : World} (hp : Lib.hasPrefix (s.data.toList.drop k) [60, 47] = true)
    (hnm : Mk.nameOf (s.data.toList.drop (k + 2)) = nm) (z : B ≤ C)
    (t : if nameL nm = true ∧ Lib.hasPrefix (s.data.toList.drop (k + 2 + nm.length)) [62] = true then
        ∃ v q, e = .returned v ∧ q.1 = ⟨2, k, ⟨nm.toArray⟩, [], ⟨#[]⟩⟩ ∧ Rd b s (k + 2 + nm.length + 1) w' ∧ Mk.MarksOwn w' C v [q]
      else e = .returned (.slice none 0 0) ∧ ∃ k', k' ≤ s.size ∧ Rd b s k' w') : Mk.NextEnd B b s k e w' := by
  have e1 : (s.data.toList.drop k).drop 2 = s.data.toList.drop (k + 2) := by rw [List.drop_drop]
  have e2 : (s.data.toList.drop k).drop (2 + nm.length) = s.data.toList.drop (k + 2 + nm.length) := by rw [List.drop_drop]; congr 1; omega
  unfold Mk.NextEnd Mk.nextL
  rw [if_pos hp, e1, hnm, e2]
  by_cases hn : nameL nm = false
  · rw [if_pos hn]
    rw [if_neg (by rw [hn]; simp)] at t
    exact t
  · rw [if_neg hn]
    have hn' : nameL nm = true := by simpa using hn
    by_cases h1 : Lib.hasPrefix (s.data.toList.drop (k + 2 + nm.length)) [62] = false
    · rw [if_pos h1]
      rw [if_neg (by rw [h1]; simp)] at t
      exact t
    · rw [if_neg h1]
      rw [if_pos ⟨hn', by simpa using h1⟩] at t
      obtain ⟨v, q, he, hq, r, o⟩ := t
      refine ⟨v, [q], he, by simp [hq], ?_, Mk.own_marks_base o z⟩
      rw [show k + (2 + nm.length + 1) = k + 2 + nm.length + 1 by omega]
      exact r

set_option maxHeartbeats 4000000 in
theorem Tryd.rnext_any (b : Nat) (s : ByteArray) (k : Nat) (w : World) (h : Rd b s k w) (hb0 : b ≠ 0) (hE : Mk.Esc w) (hk : k ≤ s.size) (hs : s.size ≤ 20000) :
    Calls Tryd.prog 45 #[.pointer (some ⟨b, 0, none⟩)] w fun e w' => w.grownBy w' (some b) ∧ Mk.NextEnd w.heap.size b s k e w' := by
  have hbw := h.lt
  have hc1 := h.c1
  have HH : Hid (Rd b s k w) := h
  have HE : Hid (Mk.Esc w) := hE
  clear h hE
  cases hp : Lib.hasPrefix (s.data.toList.drop k) [60, 47]
  · cases hq : Lib.hasPrefix (s.data.toList.drop k) [60]
    · -- a text
      go_enter Tryd.func45, Tryd.ntmps45
      go_wp2_with fail
      refine (Tryd.skip_any b s _ k _ (by exact HH.out) hk hs (by decide) false hp).mono ?_
      rintro e W1 ⟨rfl, g1, r1⟩
      have R1 : Hid (Rd b s k W1) := r1
      clear r1
      go_wp2_with fail
      refine (Tryd.skip_any b s _ k _ (by exact R1.out) hk hs (by decide) false hq).mono ?_
      rintro e W2 ⟨rfl, g2, r2⟩
      have R2 : Hid (Rd b s k W2) := r2
      clear r2
      have G2 := Mk.grown_trans g1 g2
      have E2 : Hid (Mk.Esc W2) := HE.out.kept G2 (by simpa using Ne.symm hb0)
      cases ht : Mk.textL 60 (s.data.toList.drop k) with
      | none =>
        go_wp2_with fail
        refine (Tryd.rtext_none b s k 60 _ ht (by exact R2.out) hb0 (by exact E2.out) hk hs).mono ?_
        rintro e W3 ⟨rfl, g3, k3, hk3, r3⟩
        have R3 : Hid (Rd b s k3 W3) := r3
        clear r3
        go_wp2
        go_ret
        refine ⟨Mk.grown_trans G2 g3, ?_⟩
        unfold Mk.NextEnd Mk.nextL
        rw [if_neg (by rw [hp]; simp), if_neg (by rw [hq]; simp), ht]
        exact ⟨rfl, _, hk3, R3.out⟩
      | some q =>
        obtain ⟨o, m⟩ := q
        go_wp2_with fail
        refine (Tryd.rtext_some b s k 60 o m _ ht (by exact R2.out) hb0 (by exact E2.out) hk hs).mono ?_
        rintro e W3 ⟨rfl, g3, r3⟩
        have R3 : Hid (Rd b s (k + m) W3) := r3
        clear r3
        have G3 := Mk.grown_trans G2 g3
        go_wp2
        go_ret
        refine ⟨Mk.grown_alloc G3 _, ?_⟩
        unfold Mk.NextEnd Mk.nextL
        rw [if_neg (by rw [hp]; simp), if_neg (by rw [hq]; simp), ht]
        refine ⟨_, [(⟨3, k, ⟨#[]⟩, [], ⟨o.toArray⟩⟩, .slice none 0 0)], rfl, rfl, R3.out.grown (World.grownBy_alloc W3 _ none) (by simp), ?_, ?_⟩
        · exact Mk.own_built W3 w.heap.size 78 5 1 _ G3.size (by decide) rfl
        · intro q hq
          simp only [List.mem_singleton] at hq
          subst hq
          exact Mk.own_nil _ _
    · -- an opened element
      have hl1 : k + 1 ≤ s.size := Mk.drop_pre_bound hq (by simp)
      obtain ⟨nm, hnm⟩ : ∃ nm, Mk.nameOf (s.data.toList.drop (k + 1)) = nm := ⟨_, rfl⟩
      go_enter Tryd.func45, Tryd.ntmps45
      go_wp2_with fail
      refine (Tryd.skip_any b s _ k _ (by exact HH.out) hk hs (by decide) false hp).mono ?_
      rintro e W1 ⟨rfl, g1, r1⟩
      have R1 : Hid (Rd b s k W1) := r1
      clear r1
      go_wp2_with fail
      refine (Tryd.skip_any b s _ k _ (by exact R1.out) hk hs (by decide) true hq).mono ?_
      rintro e W2 ⟨rfl, g2, r2⟩
      have R2 : Hid (Rd b s (k + 1) W2) := r2
      clear r2
      have G2 := Mk.grown_trans g1 g2
      have E2 : Hid (Mk.Esc W2) := HE.out.kept G2 (by simpa using Ne.symm hb0)
      go_wp2_with fail
      refine (Tryd.ropened_any b s (k + 1) k nm _ hnm (by exact R2.out) hb0 (by exact E2.out) hl1 hs (by omega)).mono ?_
      rintro e W3 ⟨g3, t3⟩
      have G3 := Mk.grown_trans G2 g3
      have z2 := G2.size
      have HF : Hid (Mk.NextEnd w.heap.size b s k e W3) := Mk.next_of_open hp hq hnm z2 t3
      obtain ⟨v, rfl⟩ := HF.out.returned
      clear t3 hnm
      go_wp2
      go_ret
      exact ⟨G3, HF.out⟩
  · -- a closed element
    have hl1 : k + 2 ≤ s.size := Mk.drop_pre_bound hp (by simp)
    obtain ⟨nm, hnm⟩ : ∃ nm, Mk.nameOf (s.data.toList.drop (k + 2)) = nm := ⟨_, rfl⟩
    go_enter Tryd.func45, Tryd.ntmps45
    go_wp2_with fail
    refine (Tryd.skip_any b s _ k _ (by exact HH.out) hk hs (by decide) true hp).mono ?_
    rintro e W1 ⟨rfl, g1, r1⟩
    have R1 : Hid (Rd b s (k + 2) W1) := r1
    clear r1
    go_wp2_with fail
    refine (Tryd.rclosed_any b s (k + 2) k nm _ hnm (by exact R1.out) hl1 hs (by omega)).mono ?_
    rintro e W2 ⟨g2, t2⟩
    have G2 := Mk.grown_trans g1 g2
    have z1 := g1.size
    have HF : Hid (Mk.NextEnd w.heap.size b s k e W2) := Mk.next_of_closed hp hnm z1 t2
    obtain ⟨v, rfl⟩ := HF.out.returned
    clear t2 hnm
    go_wp2
    go_ret
    exact ⟨G2, HF.out⟩

end Go.Proofs
