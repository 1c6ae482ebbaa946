/-
  What is written is what it is parsed as, and the other way round: plain mathematics.
-/
import Derived.Test.YtehmmfmofdgheaaDoorTLeaf
import Derived.Test.YtehmmfmofdgheaaDoorTText
namespace Go.Proofs
open Go.RowKit

theorem Tk.digF_snoc (most : Nat) : ∀ (l : List UInt8) (n : Nat) (f : Bool) (c : UInt8), Tk.digF most n f (l ++ [c]) = (Tk.digF most n f l).bind fun k =>
    if c.toNat < 48 ∨ 57 < c.toNat ∨ ((if l = [] then f else false) = false ∧ k = 0) then none else if most < k * 10 + (c.toNat - 48) then none else some (k * 10 + (c.toNat - 48))
  | [], n, f, c => by simp [Tk.digF]
  | a :: r, n, f, c => by
    rw [List.cons_append, Tk.digF, Tk.digF]
    by_cases h1 : a.toNat < 48 ∨ 57 < a.toNat ∨ (f = false ∧ n = 0)
    · rw [if_pos h1, if_pos h1]; rfl
    · rw [if_neg h1, if_neg h1]
      by_cases h2 : most < n * 10 + (a.toNat - 48)
      · rw [if_pos h2, if_pos h2]; rfl
      · rw [if_neg h2, if_neg h2, Tk.digF_snoc most r]
        by_cases h3 : r = [] <;> simp [h3]
theorem Tk.dec_ne (n : Nat) : Lib.decDigits n ≠ [] := by
  unfold Lib.decDigits
  split <;> simp
theorem Tk.u8 (k : Nat) (h : k < 10) : (UInt8.ofNat (48 + k)).toNat = 48 + k := by
  rw [UInt8.toNat_ofNat']
  omega
theorem Tk.dec_step {n : Nat} (h : ¬ n < 10) : Lib.decDigits n = Lib.decDigits (n / 10) ++ [UInt8.ofNat (48 + n % 10)] := by
  rw [Lib.decDigits, dif_neg h]
theorem Tk.dec_plain (n : Nat) : ∀ c ∈ Lib.decDigits n, 48 ≤ c.toNat ∧ c.toNat ≤ 57 := by
  induction n using Nat.strongRecOn with
  | _ n ih =>
    by_cases h : n < 10
    · rw [Lib.decDigits_one h]
      intro c hc
      rw [List.mem_singleton.1 hc, Tk.u8 n h]
      omega
    · rw [Tk.dec_step h]
      intro c hc
      rcases List.mem_append.1 hc with hc | hc
      · exact ih _ (by omega) c hc
      · rw [List.mem_singleton.1 hc, Tk.u8 _ (by omega)]
        omega
/-- Digits are read as their number. -/
theorem Tk.dig_dec (most n : Nat) (h : n ≤ most) : Tk.digF most 0 true (Lib.decDigits n) = some n := by
  induction n using Nat.strongRecOn with
  | _ n ih =>
    by_cases h10 : n < 10
    · rw [Lib.decDigits_one h10, Tk.digF, Tk.u8 n h10, if_neg (by simp; omega), if_neg (by omega), Tk.digF]
      congr 1
      omega
    · rw [Tk.dec_step h10, Tk.digF_snoc, ih (n / 10) (by omega) (by omega), Option.bind_some, Tk.u8 _ (by omega), if_neg (by simp [Tk.dec_ne]; omega), if_neg (by omega)]
      congr 1
      omega
/-- What is read as a number is its digits. -/
theorem Tk.dec_dig (most : Nat) : ∀ (m : Nat) (l : List UInt8) (n : Nat), l.length = m → l ≠ [] → Tk.digF most 0 true l = some n → l = Lib.decDigits n ∧ n ≤ most := by
  intro m
  induction m with
  | zero => intro l n hl hne _; exact (hne (List.length_eq_zero_iff.1 hl)).elim
  | succ m ih =>
    intro l n hl hne h
    obtain ⟨r, c, rfl⟩ : ∃ r c, l = r ++ [c] := ⟨l.dropLast, l.getLast hne, (List.dropLast_concat_getLast hne).symm⟩
    rw [Tk.digF_snoc] at h
    obtain ⟨k, hk, h⟩ := Option.bind_eq_some_iff.1 h
    by_cases hb : c.toNat < 48 ∨ 57 < c.toNat ∨ ((if r = [] then true else false) = false ∧ k = 0)
    · rw [if_pos hb] at h
      cases h
    · rw [if_neg hb] at h
      by_cases hm : most < k * 10 + (c.toNat - 48)
      · rw [if_pos hm] at h
        cases h
      · rw [if_neg hm] at h
        obtain rfl := Option.some.inj h
        refine ⟨?_, by omega⟩
        have hc : UInt8.ofNat (48 + (c.toNat - 48)) = c := by
          apply UInt8.toNat_inj.1
          rw [UInt8.toNat_ofNat']
          have := c.toNat_lt
          omega
        by_cases hr : r = []
        · subst hr
          simp only [Tk.digF, Option.some.injEq] at hk
          subst hk
          rw [Lib.decDigits_one (by omega)]
          simp only [List.nil_append, Nat.zero_mul, Nat.zero_add, hc]
        · obtain ⟨h1, h2⟩ := ih r k (by simp at hl; omega) hr hk
          rw [if_neg hr] at hb
          have hk0 : k ≠ 0 := fun e => hb (.inr (.inr ⟨rfl, e⟩))
          rw [Tk.dec_step (by omega), show (k * 10 + (c.toNat - 48)) / 10 = k by omega, show (k * 10 + (c.toNat - 48)) % 10 = c.toNat - 48 by omega, hc, ← h1]
theorem Tk.digL_dec (most n : Nat) (h : n ≤ most) : Tk.digL most (Lib.decDigits n) = some n := by
  unfold Tk.digL
  rw [if_neg (Tk.dec_ne n), Tk.dig_dec most n h]
theorem Tk.dec_digL {most n : Nat} {l : List UInt8} (h : Tk.digL most l = some n) : l = Lib.decDigits n ∧ n ≤ most := by
  unfold Tk.digL at h
  split at h
  · cases h
  · rename_i hne
    exact Tk.dec_dig most _ l n rfl hne h

/-- Where a word ends. -/
def Tk.endsB (l : List UInt8) : Bool := match l with | [] => true | c :: _ => !Tk.wordB c
theorem Tk.word_app (a r : List UInt8) (ha : ∀ c ∈ a, Tk.wordB c = true) (hr : Tk.endsB r = true) : Tk.wordL (a ++ r) = a := by
  unfold Tk.wordL
  rw [List.takeWhile_append_of_pos ha]
  cases r with
  | nil => simp
  | cons c r =>
    rw [List.takeWhile_cons_of_neg (by simpa [Tk.endsB] using hr), List.append_nil]
theorem Tk.wordB_dec (n : Nat) : ∀ c ∈ Lib.decDigits n, Tk.wordB c = true := fun c hc => by
  have h := Tk.dec_plain n c hc
  unfold Tk.wordB
  have h1 : c ≠ 32 := by rintro rfl; simp at h
  have h2 : c ≠ 41 := by rintro rfl; simp at h
  simp [h1, h2]
theorem Tk.pre_dec (n : Nat) (x : UInt8) (hx : x.toNat < 48) (r : List UInt8) : Lib.hasPrefix (Lib.decDigits n ++ r) [x] = false := by
  cases h : Lib.decDigits n with
  | nil => exact (Tk.dec_ne n h).elim
  | cons c l =>
    have := Tk.dec_plain n c (by rw [h]; simp)
    have hne : c ≠ x := by rintro rfl; omega
    simp [Lib.hasPrefix, List.isPrefixOf, Ne.symm hne]

end Go.Proofs
