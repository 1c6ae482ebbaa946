/-
  Which variables stand in a term: plain mathematics.
-/
import Derived.Test.YtegcepenpchonaaDoorTmModel
namespace Go.Proofs

namespace Tm
mutual
def has (v : Int) : Tm → Bool | mk op n ks => (decide (op = 2) && decide (n = v)) || hass v ks
def hass (v : Int) : List Tm → Bool | [] => false | k :: r => has v k || hass v r
end
theorem hass_snoc (v : Int) (l : List Tm) (a : Tm) : hass v (l ++ [a]) = (hass v l || a.has v) := by
  induction l with
  | nil => simp [hass]
  | cons k r ih => simp only [List.cons_append, hass, ih, Bool.or_assoc]
theorem hass_take (v : Int) (l : List Tm) (k : Nat) (h : k < l.length) : hass v (l.take (k + 1)) = (hass v (l.take k) || l[k].has v) := by rw [take_snoc l k h, hass_snoc]
theorem hass_get (v : Int) (l : List Tm) : ∀ k (h : k < l.length), l[k].has v = true → hass v l = true := by
  induction l with
  | nil => intro k h; simp at h
  | cons a r ih =>
    intro k h hk
    cases k with
    | zero => simp only [List.getElem_cons_zero] at hk; simp [hass, hk]
    | succ k => simp only [List.getElem_cons_succ] at hk; simp [hass, ih k (by simpa using h) hk]
theorem has_eq (v : Int) (T : Tm) : T.has v = ((decide (T.op = 2) && decide (T.num = v)) || hass v T.ks) := by cases T; rfl
end Tm
end Go.Proofs
