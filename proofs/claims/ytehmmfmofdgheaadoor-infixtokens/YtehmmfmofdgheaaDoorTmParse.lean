/-
  Terms out of texts: plain mathematics.
-/
import Derived.Test.YtehmmfmofdgheaaDoorTmText
import Derived.Lib.MapLaws
import Derived.Laws.RangeAny
namespace Go.Proofs
open Go.RowKit

/-- A byte of a word. -/
def Tk.wordB (c : UInt8) : Bool := c != 32 && c != 41
def Tk.wordL (l : List UInt8) : List UInt8 := l.takeWhile Tk.wordB
/-- The number that digits are. -/
def Tk.digF (most : Nat) : Nat → Bool → List UInt8 → Option Nat
  | n, _, [] => some n
  | n, f, c :: r => if c.toNat < 48 ∨ 57 < c.toNat ∨ (f = false ∧ n = 0) then none else if most < n * 10 + (c.toNat - 48) then none else Tk.digF most (n * 10 + (c.toNat - 48)) false r
def Tk.digL (most : Nat) (l : List UInt8) : Option Nat := if l = [] then none else Tk.digF most 0 true l
/-- The operator with kids that has this text. -/
def Tk.namedL (l : List UInt8) : Nat :=
  if l = [110, 101, 103] then 3 else if l = [110, 111, 116] then 4 else if l = [97, 100, 100] then 5 else if l = [115, 117, 98] then 6 else if l = [109, 117, 108] then 7 else if l = [100, 105, 118] then 8 else
  if l = [109, 111, 100] then 9 else if l = [101, 113] then 10 else if l = [108, 116] then 11 else if l = [108, 101] then 12 else if l = [97, 110, 100] then 13 else if l = [111, 114] then 14 else 0
/-- The term without kids that a word is. -/
def Tk.leafL (l : List UInt8) : Option Tm :=
  if Lib.hasPrefix l [36] = true then (Tk.digL 3 (l.drop 1)).map fun n => .mk 2 n [] else (Tk.digL 1099511627776 l).map fun n => .mk 1 n []
/-- So many kids, each behind a blank. -/
def Tk.kidsF (f : List UInt8 → Option (Tm × List UInt8)) : Nat → List UInt8 → Option (List Tm × List UInt8)
  | 0, l => some ([], l)
  | k + 1, l => if Lib.hasPrefix l [32] = false then none else
    match f (l.drop 1) with
    | none => none
    | some (t, r) => match Tk.kidsF f k r with
      | none => none
      | some (ts, r') => some (t :: ts, r')
/-- The term with which a text begins, of at most so many levels, and what is behind it. -/
def Tk.termF : Nat → List UInt8 → Option (Tm × List UInt8)
  | 0, _ => none
  | L + 1, l => if Lib.hasPrefix l [40] = true then
      (if Tk.namedL (Tk.wordL (l.drop 1)) = 0 then none else
        match Tk.kidsF (Tk.termF L) (Tm.kidsOf (Tk.namedL (Tk.wordL (l.drop 1)))) ((l.drop 1).drop (Tk.wordL (l.drop 1)).length) with
        | none => none
        | some (ks, r) => if Lib.hasPrefix r [41] = true then some (.mk (Tk.namedL (Tk.wordL (l.drop 1))) 0 ks, r.drop 1) else none)
    else match Tk.leafL (Tk.wordL l) with
      | none => none
      | some t => some (t, l.drop (Tk.wordL l).length)
/-- Parse's answer. -/
def Tk.parseR (l : List UInt8) : Except Int Tm := if 20000 < l.length then .error 2 else match Tk.termF 24 l with | some (t, []) => .ok t | _ => .error 4

theorem Tk.get_at (s : ByteArray) (i : Nat) (h : i < s.size) : s.get! i = s[i] := by
  exact Go.get_at s i h
/-- The bytes that a rune takes behind its first one are no blanks and no brackets. -/
theorem Tk.decode_cont (s : ByteArray) (pos : Nat) (h : pos < s.size) (ha : ¬ (s[pos]'h).toNat < 128) : pos + (Utf8.decode s pos).2 ≤ s.size ∧ 1 ≤ (Utf8.decode s pos).2 ∧ ∀ i (hi : i < s.size), pos ≤ i → i < pos + (Utf8.decode s pos).2 → 128 ≤ (s[i]'hi).toNat := by
  have hd := Lib.decode_at s pos
  have hb0 : (s.get! pos).toNat = (s[pos]'h).toNat := by rw [Tk.get_at s pos h]
  rcases Lib.decodeN_shape (s.size - pos) (s.get! pos).toNat (s.get! (pos + 1)).toNat (s.get! (pos + 2)).toNat (s.get! (pos + 3)).toNat with ⟨h0, _⟩ | ⟨_, hn, h1, _, he⟩ | ⟨_, hn, h1, h2, _, _, he⟩ | ⟨_, hn, h1, h2, h3, _, _, he⟩ | he
  · omega
  · rw [hd, he]
    refine ⟨by show pos + 2 ≤ _; omega, by show 1 ≤ 2; omega, fun i hi hp hq => ?_⟩
    have hq' : i < pos + 2 := hq
    obtain rfl | rfl : i = pos ∨ i = pos + 1 := by omega
    · omega
    · rw [← Tk.get_at s _ hi]; omega
  · rw [hd, he]
    refine ⟨by show pos + 3 ≤ _; omega, by show 1 ≤ 3; omega, fun i hi hp hq => ?_⟩
    have hq' : i < pos + 3 := hq
    obtain rfl | rfl | rfl : i = pos ∨ i = pos + 1 ∨ i = pos + 2 := by omega
    · omega
    · rw [← Tk.get_at s _ hi]; omega
    · rw [← Tk.get_at s _ hi]; omega
  · rw [hd, he]
    refine ⟨by show pos + 4 ≤ _; omega, by show 1 ≤ 4; omega, fun i hi hp hq => ?_⟩
    have hq' : i < pos + 4 := hq
    obtain rfl | rfl | rfl | rfl : i = pos ∨ i = pos + 1 ∨ i = pos + 2 ∨ i = pos + 3 := by omega
    · omega
    · rw [← Tk.get_at s _ hi]; omega
    · rw [← Tk.get_at s _ hi]; omega
    · rw [← Tk.get_at s _ hi]; omega
  · rw [hd, he]
    refine ⟨by show pos + 1 ≤ _; omega, by show 1 ≤ 1; omega, fun i hi hp hq => ?_⟩
    have hq' : i < pos + 1 := hq
    obtain rfl : i = pos := by omega
    omega
theorem Tk.wordB_high {c : UInt8} (h : 128 ≤ c.toNat) : Tk.wordB c = true := by
  unfold Tk.wordB
  have h1 : c ≠ 32 := by rintro rfl; simp at h
  have h2 : c ≠ 41 := by rintro rfl; simp at h
  simp [h1, h2]
/-- How long the word is. -/
theorem Tk.word_len (l : List UInt8) (p : Nat) (hp : p ≤ l.length) (h1 : ∀ j (h : j < l.length), j < p → Tk.wordB l[j] = true) (h2 : p = l.length ∨ ∃ h : p < l.length, Tk.wordB l[p] = false) : (Tk.wordL l).length = p := by
  induction l generalizing p with
  | nil => simp at hp; subst hp; rfl
  | cons c r ih =>
    unfold Tk.wordL
    cases p with
    | zero =>
      rcases h2 with h2 | ⟨_, h2⟩
      · simp at h2
      · simp only [List.getElem_cons_zero] at h2
        simp [h2]
    | succ p =>
      have h0 := h1 0 (by simp) (by omega)
      simp only [List.getElem_cons_zero] at h0
      rw [List.takeWhile_cons_of_pos h0, List.length_cons]
      have := ih p (by simpa using hp) (fun j h hj => by have := h1 (j + 1) (by simpa using h) (by omega); simpa using this) (by
        rcases h2 with h2 | ⟨h, h2⟩
        · left; simpa using h2
        · right; exact ⟨by simpa using h, by simpa using h2⟩)
      unfold Tk.wordL at this
      rw [this]
theorem Tk.word_take (l : List UInt8) : Tk.wordL l = l.take (Tk.wordL l).length := by
  unfold Tk.wordL
  induction l with
  | nil => rfl
  | cons c r ih =>
    by_cases h : Tk.wordB c = true
    · rw [List.takeWhile_cons_of_pos h, List.length_cons, List.take_succ_cons, ← ih]
    · rw [List.takeWhile_cons_of_neg h]; rfl
theorem Tk.word_le (l : List UInt8) : (Tk.wordL l).length ≤ l.length := by
  unfold Tk.wordL
  exact (List.takeWhile_sublist _).length_le

end Go.Proofs
