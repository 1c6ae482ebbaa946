/-
  The attributes at the front of a text: plain mathematics.
-/
import Derived.Test.YtbcafacolohgbaaDoorUnlike
namespace Go.Proofs
open Go.RowKit
open Go.Proofs.Mk

/-- One attribute, from its blank on: itself, and how many bytes it takes. -/
def Mk.attr1 (l : List UInt8) : Option ((ByteArray × ByteArray) × Nat) :=
  if nameL (nameOf (l.drop 1)) = false then none else
  if Lib.hasPrefix (l.drop (1 + (nameOf (l.drop 1)).length)) [61, 34] = false then none else
  match textL 34 (l.drop (1 + (nameOf (l.drop 1)).length + 2)) with
  | none => none
  | some (v, m) => if Lib.hasPrefix (l.drop (1 + (nameOf (l.drop 1)).length + 2 + m)) [34] = false then none else
    some ((⟨(nameOf (l.drop 1)).toArray⟩, ⟨v.toArray⟩), 1 + (nameOf (l.drop 1)).length + 2 + m + 1)

/-- All of them. -/
def Mk.attrsF : Nat → List UInt8 → Option (List (ByteArray × ByteArray) × Nat)
  | 0, _ => some ([], 0)
  | f + 1, l => if Lib.hasPrefix l [32] = false then some ([], 0) else
      match Mk.attr1 l with
      | none => none
      | some (a, c) => match Mk.attrsF f (l.drop c) with
        | none => none
        | some (r, d) => some (a :: r, c + d)
def Mk.attrsL (l : List UInt8) : Option (List (ByteArray × ByteArray) × Nat) := Mk.attrsF l.length l

theorem Mk.drop_pre_le {l p : List UInt8} {n : Nat} (h : ¬ Lib.hasPrefix (l.drop n) p = false) (hp : p ≠ []) : n + p.length ≤ l.length := by
  have h' : Lib.hasPrefix (l.drop n) p = true := by simpa using h
  have := Mk.hasPrefix_len h'
  rw [List.length_drop] at this
  have : 0 < p.length := List.length_pos_iff.2 hp
  omega

theorem Mk.attr1_le {l : List UInt8} {a : ByteArray × ByteArray} {c : Nat} (h : Mk.attr1 l = some (a, c)) : 1 ≤ c ∧ c ≤ l.length := by
  unfold Mk.attr1 at h
  split at h
  · cases h
  · split at h
    · cases h
    · split at h
      · cases h
      · rename_i v m ht
        split at h
        · cases h
        · rename_i hq
          simp only [Option.some.injEq, Prod.mk.injEq] at h
          have := Mk.drop_pre_le hq (by simp)
          simp only [List.length_cons, List.length_nil] at this
          omega

theorem Mk.attrsF_fuel : ∀ (f g : Nat) (l : List UInt8), l.length ≤ f → l.length ≤ g → Mk.attrsF f l = Mk.attrsF g l
  | 0, 0, _, _, _ => rfl
  | 0, g + 1, l, h, _ => by
    obtain rfl : l = [] := List.length_eq_zero_iff.1 (by omega)
    simp [Mk.attrsF, Lib.hasPrefix]
  | f + 1, 0, l, _, h => by
    obtain rfl : l = [] := List.length_eq_zero_iff.1 (by omega)
    simp [Mk.attrsF, Lib.hasPrefix]
  | f + 1, g + 1, l, hf, hg => by
    simp only [Mk.attrsF]
    by_cases h1 : Lib.hasPrefix l [32] = false
    · rw [if_pos h1, if_pos h1]
    · rw [if_neg h1, if_neg h1]
      cases ha : Mk.attr1 l with
      | none => rfl
      | some q =>
        obtain ⟨a, c⟩ := q
        have := Mk.attr1_le ha
        simp only
        rw [Mk.attrsF_fuel f g (l.drop c) (by rw [List.length_drop]; omega) (by rw [List.length_drop]; omega)]

theorem Mk.attrsL_end {l : List UInt8} (h : Lib.hasPrefix l [32] = false) : Mk.attrsL l = some ([], 0) := by
  unfold Mk.attrsL
  cases l.length with
  | zero => rfl
  | succ f => simp only [Mk.attrsF]; rw [if_pos h]
theorem Mk.pre_pos {l : List UInt8} (h : Lib.hasPrefix l [32] = true) : 0 < l.length := by
  have := Mk.hasPrefix_len h
  simp only [List.length_cons, List.length_nil] at this
  omega
theorem Mk.attrsL_bad {l : List UInt8} (h : Lib.hasPrefix l [32] = true) (ha : Mk.attr1 l = none) : Mk.attrsL l = none := by
  unfold Mk.attrsL
  obtain ⟨f, hf⟩ : ∃ f, l.length = f + 1 := ⟨l.length - 1, by have := Mk.pre_pos h; omega⟩
  rw [hf]
  simp only [Mk.attrsF]
  rw [if_neg (by rw [h]; simp), ha]
theorem Mk.attrsL_step {l : List UInt8} {a : ByteArray × ByteArray} {c : Nat} (h : Lib.hasPrefix l [32] = true) (ha : Mk.attr1 l = some (a, c)) :
    Mk.attrsL l = match Mk.attrsL (l.drop c) with | none => none | some (r, d) => some (a :: r, c + d) := by
  unfold Mk.attrsL
  obtain ⟨f, hf⟩ : ∃ f, l.length = f + 1 := ⟨l.length - 1, by have := Mk.pre_pos h; omega⟩
  have hc := Mk.attr1_le ha
  rw [hf]
  simp only [Mk.attrsF]
  rw [if_neg (by rw [h]; simp), ha]
  simp only
  rw [Mk.attrsF_fuel f (l.drop c).length (l.drop c) (by rw [List.length_drop]; omega) (Nat.le_refl _)]
theorem Mk.attrsF_le : ∀ (f : Nat) (l : List UInt8) (r : List (ByteArray × ByteArray)) (d : Nat), Mk.attrsF f l = some (r, d) → d ≤ l.length
  | 0, _, _, _, h => by simp only [Mk.attrsF, Option.some.injEq, Prod.mk.injEq] at h; omega
  | f + 1, l, r, d, h => by
    simp only [Mk.attrsF] at h
    split at h
    · simp only [Option.some.injEq, Prod.mk.injEq] at h; omega
    · split at h
      · cases h
      · rename_i a c ha
        split at h
        · cases h
        · rename_i r' d' he
          simp only [Option.some.injEq, Prod.mk.injEq] at h
          have := Mk.attrsF_le f _ r' d' he
          rw [List.length_drop] at this
          have := Mk.attr1_le ha
          omega
theorem Mk.attrsL_le {l : List UInt8} {r : List (ByteArray × ByteArray)} {d : Nat} (h : Mk.attrsL l = some (r, d)) : d ≤ l.length := Mk.attrsF_le _ l r d h

theorem Mk.attr1_eq (L : List UInt8) (p : Nat) (nm : List UInt8) (hnm : nameOf (L.drop (p + 1)) = nm) : Mk.attr1 (L.drop p) =
    if nameL nm = false then none else if Lib.hasPrefix (L.drop (p + 1 + nm.length)) [61, 34] = false then none else
      match textL 34 (L.drop (p + 1 + nm.length + 2)) with
      | none => none
      | some (v, m) => if Lib.hasPrefix (L.drop (p + 1 + nm.length + 2 + m)) [34] = false then none else some ((⟨nm.toArray⟩, ⟨v.toArray⟩), 1 + nm.length + 2 + m + 1) := by
  unfold Mk.attr1
  have e1 : (L.drop p).drop 1 = L.drop (p + 1) := by rw [List.drop_drop]
  rw [e1, hnm]
  have e2 : ∀ n, (L.drop p).drop (1 + nm.length + n) = L.drop (p + 1 + nm.length + n) := fun n => by rw [List.drop_drop]; congr 1; omega
  have e3 : ∀ n m, (L.drop p).drop (1 + nm.length + n + m) = L.drop (p + 1 + nm.length + n + m) := fun n m => by rw [List.drop_drop]; congr 1; omega
  have e4 : (L.drop p).drop (1 + nm.length) = L.drop (p + 1 + nm.length) := e2 0
  rw [e4, e2 2]
  cases textL 34 (L.drop (p + 1 + nm.length + 2)) with
  | none => rfl
  | some q => obtain ⟨v, m⟩ := q; simp only [e3]

/-- Attributes as cells. -/
def Mk.attrCells (xs : List (ByteArray × ByteArray)) : List Value := xs.flatMap fun a => [.string a.1, .string a.2]
theorem Mk.attrCells_length (xs : List (ByteArray × ByteArray)) : (Mk.attrCells xs).length = xs.length * 2 := by
  induction xs with
  | nil => rfl
  | cons a r ih => simp only [Mk.attrCells, List.flatMap_cons, List.length_append, List.length_cons, List.length_nil] at *; omega
theorem Mk.attrCells_append (xs ys : List (ByteArray × ByteArray)) : Mk.attrCells (xs ++ ys) = Mk.attrCells xs ++ Mk.attrCells ys := by simp [Mk.attrCells]
theorem Mk.attrCells_get : ∀ (xs : List (ByteArray × ByteArray)) (j : Nat) (h : j < xs.length), (Mk.attrCells xs)[j * 2]? = some (.string xs[j].1) ∧ (Mk.attrCells xs)[j * 2 + 1]? = some (.string xs[j].2)
  | [], j, h => by simp at h
  | a :: r, j, h => by
    cases j with
    | zero => simp [Mk.attrCells]
    | succ j =>
      have := Mk.attrCells_get r j (by simpa using h)
      have e1 : (j + 1) * 2 = j * 2 + 2 := by omega
      rw [e1]
      simpa [Mk.attrCells] using this

/-- A row that the call owns is a slice of attributes. -/
theorem Mk.attrsAt_of {w : World} {base : Nat} {v : Value} {xs : List (ByteArray × ByteArray)} (h : w.ownsRow base 54 2 v xs.length (Mk.attrCells xs)) : Mk.AttrsAt w v xs := by
  have hcs := fun (g : Nat) (e : v.ownBlock = some g) => h.cells e
  rcases h.2 with ⟨rfl, hn⟩ | ⟨g, cap, cur, rfl, hb, hg, hc, hm, hs, ht⟩
  · exact .inl ⟨none, 0, rfl, List.length_eq_zero_iff.1 hn⟩
  · refine .inr ⟨g, 0, cap, rfl, hc, (Array.getElem?_eq_some_iff.1 hg).1, fun j hj => ?_⟩
    have hq := Mk.attrCells_get xs j hj
    have h1 := hcs g rfl (j * 2) _ hq.1
    have h2 := hcs g rfl (j * 2 + 1) _ hq.2
    have ea : ∀ n, (⟨g, 0, none⟩ : Addr).add n = ⟨g, n, none⟩ := fun n => by unfold Addr.add; split <;> simp_all
    rw [ea] at h1 h2
    simpa using ⟨h1, h2⟩

end Go.Proofs
