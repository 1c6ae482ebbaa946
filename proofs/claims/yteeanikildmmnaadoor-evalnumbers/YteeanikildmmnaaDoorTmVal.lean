/-
  What a right term comes to: plain mathematics.
-/
import Derived.Test.YteeanikildmmnaaDoorTSmall
import Derived.Test.YteeanikildmmnaaDoorTVars
import Derived.Test.YteeanikildmmnaaDoorTTyped
namespace Go.Proofs
open Go.RowKit

def Tk.vget (x0 x1 x2 x3 n : Int) : Int := if n = 0 then x0 else if n = 1 then x1 else if n = 2 then x2 else x3

namespace Tm
/-- What a term comes to, of what its kids come to: a number, a truth, a fault. -/
def valOf (x : Int → Int) (op n : Int) (l : List (Int × Bool × Int)) : Int × Bool × Int :=
  if op = 1 then (n, false, 0) else if op = 2 then (x n, false, 0) else
  match l with
  | [] => (0, false, 0)
  | a :: r => if a.2.2 ≠ 0 then (0, false, a.2.2) else if op = 3 then (-a.1, false, 0) else if op = 4 then (0, !a.2.1, 0) else
    match r with
    | [] => (0, false, 0)
    | b :: _ => if op = 13 then (if a.2.1 = false then a else b) else if op = 14 then (if a.2.1 = true then a else b) else if b.2.2 ≠ 0 then (0, false, b.2.2) else Tk.sumR op a.1 b.1

mutual
def val (x : Int → Int) : Tm → Int × Bool × Int | mk op n ks => valOf x op n (vals x ks)
def vals (x : Int → Int) : List Tm → List (Int × Bool × Int) | [] => [] | k :: r => val x k :: vals x r
end

/-- What is known of it. -/
def Good (t : Int) (r : Int × Bool × Int) : Prop :=
  Tk.isNum r.1 = true ∧ (r.2.2 = 0 ∨ r.2.2 = 40 ∨ r.2.2 = 41) ∧ (r.2.2 ≠ 0 → r.1 = 0 ∧ r.2.1 = false) ∧ (t = 2 → r.1 = 0) ∧ (t = 1 → r.2.1 = false)

/-- The shapes of right terms. -/
theorem right_cases {T : Tm} (hF : T.allForm = true) :
    (∃ n, T = mk 1 n [] ∧ 0 ≤ n ∧ n ≤ 1099511627776) ∨ (∃ n, T = mk 2 n [] ∧ 0 ≤ n ∧ n ≤ 3) ∨ (∃ op k, T = mk op 0 [k] ∧ (op = 3 ∨ op = 4) ∧ k.allForm = true) ∨
    (∃ op k l, T = mk op 0 [k, l] ∧ 5 ≤ op ∧ op ≤ 14 ∧ k.allForm = true ∧ l.allForm = true) := by
  obtain ⟨h1, h2⟩ := formed_of_all hF
  cases T with
  | mk op n ks =>
    simp only [Tm.op, Tm.num, Tm.ks] at h1 h2
    simp only [formedB, decide_eq_true_eq] at h1
    obtain ⟨g1, g2, g3, g4, g5⟩ := h1
    by_cases c1 : op = 1
    · subst c1
      obtain rfl : ks = [] := List.length_eq_zero_iff.1 (by simpa [kidsOf] using g3)
      exact .inl ⟨n, rfl, g4, by simpa [mostOf] using g5⟩
    by_cases c2 : op = 2
    · subst c2
      obtain rfl : ks = [] := List.length_eq_zero_iff.1 (by simpa [kidsOf] using g3)
      exact .inr (.inl ⟨n, rfl, g4, by simpa [mostOf] using g5⟩)
    have hn : n = 0 := by
      unfold mostOf at g5
      rw [if_neg c1, if_neg c2] at g5
      omega
    subst hn
    by_cases c3 : op < 5
    · have hl : ks.length = 1 := by rw [g3]; unfold kidsOf; rw [if_neg (by omega), if_pos c3]
      match ks, hl with
      | [k], _ =>
        simp only [allForms, Bool.and_true] at h2
        exact .inr (.inr (.inl ⟨op, k, rfl, by omega, h2⟩))
    · have hl : ks.length = 2 := by rw [g3]; unfold kidsOf; rw [if_neg (by omega), if_neg c3]
      match ks, hl with
      | [k, l], _ =>
        simp only [allForms, Bool.and_true, Bool.and_eq_true] at h2
        exact .inr (.inr (.inr ⟨op, k, l, rfl, by omega, g2, h2.1, h2.2⟩))

theorem good_fit (n : Int) : Good 1 ((Tk.fitR n).1, false, (Tk.fitR n).2) := by
  unfold Tk.fitR
  split
  · rename_i h; exact ⟨h, .inl rfl, fun h => absurd rfl h, by omega, fun _ => rfl⟩
  · exact ⟨by simp [Tk.isNum], .inr (.inl rfl), fun _ => ⟨rfl, rfl⟩, by omega, fun _ => rfl⟩
theorem good_sum (op a b : Int) (ha : Tk.isNum a = true) : Good (isOf op) (Tk.sumR op a b) ∨ ¬ (5 ≤ op ∧ op ≤ 12) := by
  by_cases h : 5 ≤ op ∧ op ≤ 12
  · left
    unfold Tk.sumR
    by_cases h10 : 10 ≤ op
    · rw [if_pos h10]
      have : isOf op = 2 := by unfold isOf; rw [if_pos (.inr h10)]
      rw [this]
      exact ⟨by simp [Tk.isNum], .inl rfl, fun h => absurd rfl h, fun _ => rfl, by omega⟩
    · rw [if_neg h10]
      have : isOf op = 1 := by unfold isOf; rw [if_neg (by omega)]
      rw [this]
      unfold Tk.reckR Tk.mulR
      have hn := Tk.isNum_iff.1 ha
      split
      · exact good_fit _
      · split
        · exact good_fit _
        · split
          · exact good_fit _
          · split
            · exact ⟨by simp [Tk.isNum], .inr (.inr rfl), fun _ => ⟨rfl, rfl⟩, by omega, fun _ => rfl⟩
            · split
              · have := Tk.tdiv_le a b
                exact ⟨Tk.isNum_iff.2 (by show -1099511627776 ≤ a.tdiv b ∧ a.tdiv b ≤ 1099511627776; omega), .inl rfl, fun h => absurd rfl h, by omega, fun _ => rfl⟩
              · have h3 : (a.tmod b).natAbs ≤ a.natAbs := by rw [Int.natAbs_tmod]; exact Nat.mod_le _ _
                exact ⟨Tk.isNum_iff.2 (by show -1099511627776 ≤ a.tmod b ∧ a.tmod b ≤ 1099511627776; omega), .inl rfl, fun h => absurd rfl h, by omega, fun _ => rfl⟩
  · exact .inr h

theorem typed_mk1 {op n : Int} {k : Tm} (h : (mk op n [k]).typedB = true) : isOf k.op = askedOf op ∧ k.typedB = true := by
  simpa [typedB, typeds] using h
theorem typed_mk2 {op n : Int} {k l : Tm} (h : (mk op n [k, l]).typedB = true) : (isOf k.op = askedOf op ∧ k.typedB = true) ∧ (isOf l.op = askedOf op ∧ l.typedB = true) := by
  simpa [typedB, typeds] using h

/-- What a right term comes to is good. -/
theorem good_val (x : Int → Int) (hx : ∀ n, Tk.isNum (x n) = true) : ∀ (d : Nat) (T : Tm), T.depth ≤ d → T.allForm = true → T.typedB = true → Good (isOf T.op) (T.val x)
  | 0, T, hd, _, _ => by rw [T.depth_eq] at hd; omega
  | d + 1, T, hd, hF, hY => by
    rcases right_cases hF with ⟨n, rfl, h1, h2⟩ | ⟨n, rfl, h1, h2⟩ | ⟨op, k, rfl, ho, hk⟩ | ⟨op, k, l, rfl, o1, o2, hk, hl⟩
    · exact ⟨by simp [val, valOf, Tk.isNum]; omega, .inl rfl, fun h => absurd rfl h, by simp [isOf, Tm.op], fun _ => rfl⟩
    · exact ⟨by simpa [val, valOf] using hx n, .inl rfl, fun h => absurd rfl h, by simp [isOf, Tm.op], fun _ => rfl⟩
    · obtain ⟨t1, t2⟩ := typed_mk1 hY
      have hdk : k.depth ≤ d := by simp only [depth, depths] at hd; omega
      have g := good_val x hx d k hdk hk t2
      rw [t1] at g
      simp only [val, vals, valOf, Tm.op]
      generalize k.val x = a at g
      have c1 : ¬ op = 1 := by omega
      have c2 : ¬ op = 2 := by omega
      rw [if_neg c1, if_neg c2]
      by_cases hf : a.2.2 ≠ 0
      · rw [if_pos hf]
        exact ⟨by simp [Tk.isNum], g.2.1, fun _ => ⟨rfl, rfl⟩, fun _ => rfl, fun _ => rfl⟩
      · rw [if_neg hf]
        rcases ho with rfl | rfl
        · rw [if_pos rfl]
          have := Tk.isNum_iff.1 g.1
          exact ⟨Tk.isNum_iff.2 (by show -1099511627776 ≤ -a.1 ∧ -a.1 ≤ 1099511627776; omega), .inl rfl, fun h => absurd rfl h, by simp [isOf], fun _ => rfl⟩
        · rw [if_neg (by decide), if_pos rfl]
          exact ⟨by simp [Tk.isNum], .inl rfl, fun h => absurd rfl h, fun _ => rfl, by simp [isOf]⟩
    · obtain ⟨⟨t1, t2⟩, t3, t4⟩ := typed_mk2 hY
      have hdk : k.depth ≤ d ∧ l.depth ≤ d := by simp only [depth, depths] at hd; omega
      have g := good_val x hx d k hdk.1 hk t2
      have g' := good_val x hx d l hdk.2 hl t4
      rw [t1] at g
      rw [t3] at g'
      simp only [val, vals, valOf, Tm.op]
      generalize k.val x = a at g
      generalize l.val x = b at g'
      rw [if_neg (by omega), if_neg (by omega)]
      by_cases hf : a.2.2 ≠ 0
      · rw [if_pos hf]
        exact ⟨by simp [Tk.isNum], g.2.1, fun _ => ⟨rfl, rfl⟩, fun _ => rfl, fun _ => rfl⟩
      · rw [if_neg hf, if_neg (by omega), if_neg (by omega)]
        by_cases h13 : 13 ≤ op
        · have e1 : askedOf op = 2 := by unfold askedOf; rw [if_neg (by omega), if_pos (.inr h13)]
          have e2 : isOf op = 2 := by unfold isOf; rw [if_pos (.inr (by omega))]
          rw [e1] at g g'
          rw [e2]
          split
          · split
            · exact g
            · exact g'
          · rw [if_pos (by omega)]
            split
            · exact g
            · exact g'
        · rw [if_neg (by omega), if_neg (by omega)]
          by_cases hf' : b.2.2 ≠ 0
          · rw [if_pos hf']
            exact ⟨by simp [Tk.isNum], g'.2.1, fun _ => ⟨rfl, rfl⟩, fun _ => rfl, fun _ => rfl⟩
          · rw [if_neg hf']
            rcases good_sum op a.1 b.1 g.1 with h | h
            · exact h
            · exact absurd ⟨o1, by omega⟩ h
end Tm
theorem Tk.vget_num {x0 x1 x2 x3 : Int} (h : Tk.fitsB x0 x1 x2 x3 = true) (n : Int) : Tk.isNum (Tk.vget x0 x1 x2 x3 n) = true := by
  simp only [Tk.fitsB, Bool.and_eq_true] at h
  unfold Tk.vget
  split
  · exact h.1.1.1
  · split
    · exact h.1.1.2
    · split
      · exact h.1.2
      · exact h.2

end Go.Proofs
