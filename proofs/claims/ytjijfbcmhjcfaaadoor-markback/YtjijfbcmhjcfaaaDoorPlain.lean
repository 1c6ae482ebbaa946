/-
  Plain mathematics of marks: which bytes are plain, which are in names, what is written for a byte. It speaks of no program.
-/
namespace Go.Proofs.Mk

/-- plain, of a rune. -/
def plainB (r : Int) : Bool := decide (32 ≤ r ∧ r ≤ 126 ∨ r = 10)
def letterB (r : Int) : Bool := decide (97 ≤ r ∧ r ≤ 122)
def ofNameB (r : Int) : Bool := decide ((97 ≤ r ∧ r ≤ 122 ∨ 48 ≤ r ∧ r ≤ 57) ∨ r = 45)

/-- The same of a byte. -/
def bplain (c : UInt8) : Bool := plainB c.toNat
def bletter (c : UInt8) : Bool := letterB c.toNat
def bofName (c : UInt8) : Bool := ofNameB c.toNat

/-- inName(c, first). -/
def inNameB (c : Int) (first : Bool) : Bool := letterB c || (!first && ofNameB c)

/-- What stands for a byte; empty: itself. -/
def signL (c : Int) : List UInt8 := if c = 60 then [38, 108, 116, 59] else if c = 62 then [38, 103, 116, 59] else if c = 38 then [38, 97, 109, 112, 59] else if c = 34 then [38, 113, 117, 111, 116, 59] else []

/-- What is written for a plain byte. -/
def wrL (c : Int) : List UInt8 := if signL c = [] then [UInt8.ofNat c.toNat] else signL c

/-- A name. -/
def nameL (l : List UInt8) : Bool := decide (1 ≤ l.length ∧ l.length ≤ 24) && (match l with | [] => true | c :: r => bletter c && r.all bofName)

theorem letter_ofName {r : Int} (h : letterB r = true) : ofNameB r = true := by
  simp only [letterB, ofNameB, decide_eq_true_eq] at *
  omega

theorem inNameB_zero (c : UInt8) : inNameB c.toNat true = bletter c := by simp [inNameB, bletter]
theorem inNameB_pos (c : UInt8) : inNameB c.toNat false = bofName c := by
  unfold inNameB bofName
  cases h : letterB c.toNat
  · simp
  · simp [letter_ofName h]

theorem nameL_iff (l : List UInt8) : nameL l = true ↔ (1 ≤ l.length ∧ l.length ≤ 24) ∧ ∀ j (h : j < l.length), inNameB l[j].toNat (j == 0) = true := by
  cases l with
  | nil => simp [nameL]
  | cons c r =>
    simp only [nameL, Bool.and_eq_true, decide_eq_true_eq, List.all_eq_true]
    constructor
    · rintro ⟨h, h1, h2⟩
      refine ⟨h, fun j hj => ?_⟩
      cases j with
      | zero => simpa [inNameB_zero] using h1
      | succ k =>
        have hk : k < r.length := by simpa using hj
        have := h2 r[k] (List.getElem_mem hk)
        simpa [inNameB_pos] using this
    · rintro ⟨h, h1⟩
      refine ⟨h, ?_, fun x hx => ?_⟩
      · rw [← inNameB_zero]; exact h1 0 (by simp)
      · obtain ⟨k, hk, rfl⟩ := List.getElem_of_mem hx
        rw [← inNameB_pos]; exact h1 (k + 1) (by simpa using hk)

theorem nameL_false {l : List UInt8} {j : Nat} (h : j < l.length) (hn : inNameB l[j].toNat (j == 0) = false) : nameL l = false := by
  cases hc : nameL l
  · rfl
  · rw [(nameL_iff l).1 hc |>.2 j h] at hn
    cases hn

theorem nameL_short {l : List UInt8} (h : l.length < 1) : nameL l = false := by
  cases hc : nameL l
  · rfl
  · have := (nameL_iff l).1 hc
    omega
theorem nameL_long {l : List UInt8} (h : 24 < l.length) : nameL l = false := by
  cases hc : nameL l
  · rfl
  · have := (nameL_iff l).1 hc
    omega

theorem tw_in {p : UInt8 → Bool} : ∀ (l : List UInt8) (j : Nat), j < (l.takeWhile p).length → ∃ h : j < l.length, p l[j] = true
  | [], j, h => by simp at h
  | c :: r, j, h => by
    cases hc : p c
    · simp [hc] at h
    · rw [List.takeWhile_cons, if_pos hc] at h
      cases j with
      | zero => exact ⟨by simp, hc⟩
      | succ j =>
        obtain ⟨h1, h2⟩ := tw_in r j (by simpa using h)
        exact ⟨by simpa using h1, h2⟩

theorem tw_out {p : UInt8 → Bool} : ∀ (l : List UInt8) (h : (l.takeWhile p).length < l.length), p (l[(l.takeWhile p).length]'h) = false
  | [], h => by simp at h
  | c :: r, h => by
    cases hc : p c
    · simp [hc]
    · have h' : (r.takeWhile p).length < r.length := by simpa [List.takeWhile_cons, hc] using h
      have := tw_out r h'
      simpa [List.takeWhile_cons, hc] using this

theorem tw_take {p : UInt8 → Bool} : ∀ (l : List UInt8), l.take (l.takeWhile p).length = l.takeWhile p
  | [] => rfl
  | c :: r => by
    cases hc : p c
    · simp [hc]
    · simp [hc, tw_take r]

theorem tw_le {p : UInt8 → Bool} (l : List UInt8) : (l.takeWhile p).length ≤ l.length := by
  rw [← tw_take (p := p) l]
  simp
  omega

end Go.Proofs.Mk
