/-
  More of what a term comes to: plain mathematics (variables that do not stand in it; what Number and Truth answer of a right term).
-/
import Derived.Test.YteeanikildmmnaaDoorTTruthW
import Derived.Test.YteeanikildmmnaaDoorTSet
namespace Go.Proofs
open Go.RowKit

namespace Tm
mutual
def has (v : Int) : Tm → Bool | mk op n ks => (decide (op = 2) && decide (n = v)) || hass v ks
def hass (v : Int) : List Tm → Bool | [] => false | k :: r => has v k || hass v r
end
theorem hass_snoc (v : Int) (l : List Tm) (a : Tm) : hass v (l ++ [a]) = (hass v l || a.has v) := by
  induction l with
  | nil => simp [hass]
  | cons k r ih => simp only [List.cons_append, hass, ih, Bool.or_assoc]
theorem hass_take (v : Int) (l : List Tm) (k : Nat) (h : k < l.length) : hass v (l.take (k + 1)) = (hass v (l.take k) || l[k].has v) := by rw [take_snoc l k h, hass_snoc]
theorem hass_get (v : Int) (l : List Tm) : ∀ k (h : k < l.length), l[k].has v = true → hass v l = true := by
  induction l with
  | nil => intro k h; simp at h
  | cons a r ih =>
    intro k h hk
    cases k with
    | zero => simp only [List.getElem_cons_zero] at hk; simp [hass, hk]
    | succ k => simp only [List.getElem_cons_succ] at hk; simp [hass, ih k (by simpa using h) hk]
theorem has_eq (v : Int) (T : Tm) : T.has v = ((decide (T.op = 2) && decide (T.num = v)) || hass v T.ks) := by cases T; rfl

theorem valOf_other (x y : Int → Int) (op n : Int) (l : List (Int × Bool × Int)) (h : op = 2 → x n = y n) : valOf x op n l = valOf y op n l := by
  unfold valOf
  by_cases h1 : op = 1
  · rw [if_pos h1, if_pos h1]
  · rw [if_neg h1, if_neg h1]
    by_cases h2 : op = 2
    · rw [if_pos h2, if_pos h2, h h2]
    · rw [if_neg h2, if_neg h2]
mutual
theorem val_other (x y : Int → Int) (v : Int) (h : ∀ n, 0 ≤ n → n ≤ 3 → n ≠ v → x n = y n) : ∀ T : Tm, T.allForm = true → T.has v = false → T.val x = T.val y
  | mk op n ks, hF, hh => by
    simp only [allForm, Bool.and_eq_true] at hF
    simp only [has, Bool.or_eq_false_iff] at hh
    simp only [val]
    rw [vals_other x y v h ks hF.2 hh.2]
    refine valOf_other x y op n _ fun h2 => ?_
    subst h2
    have h3 := hF.1
    simp only [formedB, decide_eq_true_eq] at h3
    have h4 := hh.1
    simp at h4
    exact h n h3.2.2.2.1 (by have := h3.2.2.2.2; simpa [mostOf] using this) h4
theorem vals_other (x y : Int → Int) (v : Int) (h : ∀ n, 0 ≤ n → n ≤ 3 → n ≠ v → x n = y n) : ∀ l : List Tm, allForms l = true → hass v l = false → vals x l = vals y l
  | [], _, _ => rfl
  | k :: r, hF, hh => by
    simp only [allForms, Bool.and_eq_true] at hF
    simp only [hass, Bool.or_eq_false_iff] at hh
    simp only [vals]
    rw [val_other x y v h k hF.1 hh.1, vals_other x y v h r hF.2 hh.2]
end

theorem numR_other {T : Tm} {x0 x1 x2 x3 y0 y1 y2 y3 v : Int} (hx : Tk.fitsB x0 x1 x2 x3 = true) (hy : Tk.fitsB y0 y1 y2 y3 = true) (h : ∀ n, 0 ≤ n → n ≤ 3 → n ≠ v → Tk.vget x0 x1 x2 x3 n = Tk.vget y0 y1 y2 y3 n) (hh : T.has v = false) :
    T.numR x0 x1 x2 x3 = T.numR y0 y1 y2 y3 := by
  unfold numR
  rw [hx, hy]
  by_cases h0 : T.askR 1 true = 0
  · rw [if_neg (by simpa using h0), if_neg (by simpa using h0)]
    rw [val_other _ _ v h T (check_ok (ask_zero h0).1).2.1 hh]
  · rw [if_pos h0, if_pos h0]
theorem truR_other {T : Tm} {x0 x1 x2 x3 y0 y1 y2 y3 v : Int} (hx : Tk.fitsB x0 x1 x2 x3 = true) (hy : Tk.fitsB y0 y1 y2 y3 = true) (h : ∀ n, 0 ≤ n → n ≤ 3 → n ≠ v → Tk.vget x0 x1 x2 x3 n = Tk.vget y0 y1 y2 y3 n) (hh : T.has v = false) :
    T.truR x0 x1 x2 x3 = T.truR y0 y1 y2 y3 := by
  unfold truR
  rw [hx, hy]
  by_cases h0 : T.askR 2 true = 0
  · rw [if_neg (by simpa using h0), if_neg (by simpa using h0)]
    rw [val_other _ _ v h T (check_ok (ask_zero h0).1).2.1 hh]
  · rw [if_pos h0, if_pos h0]

/-- What Number and Truth answer of a right term. -/
theorem total {T : Tm} {x0 x1 x2 x3 kind : Int} (hc : T.checkR = (kind, 0)) (hf : Tk.fitsB x0 x1 x2 x3 = true) :
    (kind = 1 ∧ ∃ n f, T.numR x0 x1 x2 x3 = (n, f) ∧ T.truR x0 x1 x2 x3 = (false, 30) ∧ (-1099511627776 ≤ n ∧ n ≤ 1099511627776) ∧ (f = 0 ∨ f = 40 ∨ f = 41)) ∨
    (kind = 2 ∧ T.numR x0 x1 x2 x3 = (0, 30) ∧ ∃ b g, T.truR x0 x1 x2 x3 = (b, g) ∧ (g = 0 ∨ g = 40 ∨ g = 41)) := by
  obtain ⟨_, p2, p3, p4⟩ := check_ok hc
  have g := good_val _ (Tk.vget_num hf) T.depth T (Nat.le_refl _) p2 p3
  have hk : kind = 1 ∨ kind = 2 := by
    rw [← p4]
    unfold isOf
    split
    · exact .inr rfl
    · exact .inl rfl
  rcases hk with rfl | rfl
  · left
    have a1 : T.askR 1 true = 0 := by unfold askR; rw [hc]; simp
    have a2 : T.askR 2 true = 30 := by unfold askR; rw [hc]; simp
    refine ⟨rfl, (T.val (Tk.vget x0 x1 x2 x3)).1, (T.val (Tk.vget x0 x1 x2 x3)).2.2, ?_, ?_, Tk.isNum_iff.1 g.1, g.2.1⟩
    · unfold numR; rw [hf, a1]; simp
    · unfold truR; rw [hf, a2]; simp
  · right
    have a1 : T.askR 1 true = 30 := by unfold askR; rw [hc]; simp
    have a2 : T.askR 2 true = 0 := by unfold askR; rw [hc]; simp
    refine ⟨rfl, ?_, (T.val (Tk.vget x0 x1 x2 x3)).2.1, (T.val (Tk.vget x0 x1 x2 x3)).2.2, ?_, g.2.1⟩
    · unfold numR; rw [hf, a1]; simp
    · unfold truR; rw [hf, a2]; simp
end Tm

theorem Tk.set_vget {x0 x1 x2 x3 v n : Int} (h : Tk.setE v n = 0) : ∀ m, 0 ≤ m → m ≤ 3 → m ≠ v → Tk.vget x0 x1 x2 x3 m = Tk.vget (Tk.setY 0 x0 v n) (Tk.setY 1 x1 v n) (Tk.setY 2 x2 v n) (Tk.setY 3 x3 v n) m := by
  intro m h0 h3 hm
  unfold Tk.vget Tk.setY
  rw [h]
  simp only [if_true]
  obtain rfl | rfl | rfl | rfl : m = 0 ∨ m = 1 ∨ m = 2 ∨ m = 3 := by omega
  · simp [Ne.symm hm]
  · simp [Ne.symm hm]
  · simp [Ne.symm hm]
  · simp [Ne.symm hm]
theorem Tk.set_fits {x0 x1 x2 x3 v n : Int} (h : Tk.setE v n = 0) (hx : Tk.fitsB x0 x1 x2 x3 = true) : Tk.fitsB (Tk.setY 0 x0 v n) (Tk.setY 1 x1 v n) (Tk.setY 2 x2 v n) (Tk.setY 3 x3 v n) = true := by
  have hn : Tk.isNum n = true := by
    unfold Tk.setE at h
    split at h
    · rename_i hc; exact hc.2.2
    · cases h
  simp only [Tk.fitsB, Bool.and_eq_true] at hx ⊢
  unfold Tk.setY
  rw [h]
  simp only [if_true]
  refine ⟨⟨⟨?_, ?_⟩, ?_⟩, ?_⟩
  all_goals
    split
    · exact hn
    · first | exact hx.1.1.1 | exact hx.1.1.2 | exact hx.1.2 | exact hx.2

end Go.Proofs
