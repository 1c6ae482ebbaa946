/-
  The contract of the document's Of, whole.
-/
import Derived.Test.YteeanikildmmnaaDoorTRefOne
import Derived.Test.YteeanikildmmnaaDoorTRefAnd
import Derived.Test.YteeanikildmmnaaDoorTRefOr
import Derived.Test.YteeanikildmmnaaDoorTRefTwo
namespace Go.Proofs
open Go.RowKit

theorem Tryd.of_any (x0 x1 x2 x3 : Int) (hx : Tk.fitsB x0 x1 x2 x3 = true) : ∀ d, Tk.OfOk x0 x1 x2 x3 d := by
  intro d
  induction d with
  | zero => intro T v w h; exact h.elim
  | succ d ih =>
    intro T v w hT hF hY
    have good : ∀ k : Tm, k.allForm = true → k.typedB = true → Tk.isNum (k.val (Tk.vget x0 x1 x2 x3)).1 = true := fun k h1 h2 => (Tm.good_val _ (Tk.vget_num hx) k.depth k (Nat.le_refl _) h1 h2).1
    rcases Tm.right_cases hF with ⟨n, rfl, h1, h2⟩ | ⟨n, rfl, h1, h2⟩ | ⟨op, k, rfl, ho, hk⟩ | ⟨op, k, l, rfl, o1, o2, hk, hl⟩
    · obtain ⟨a, cap, rfl⟩ := hT.shape
      exact Tryd.of_leaf1 x0 x1 x2 x3 n a _ cap w _ (by simp [Tm.val, Tm.valOf])
    · obtain ⟨a, cap, rfl⟩ := hT.shape
      exact Tryd.of_leaf2 x0 x1 x2 x3 n a _ cap w ⟨h1, h2⟩ _ (by simp [Tm.val, Tm.valOf])
    · obtain ⟨t1, t2⟩ := Tm.typed_mk1 hY
      refine Tryd.of_one x0 x1 x2 x3 d ih op ho k v w hT hk t2 (good k hk t2) _ ?_
      simp only [Tm.val, Tm.vals, Tm.valOf]
      rcases ho with rfl | rfl
      · simp
      · simp
    · obtain ⟨⟨t1, t2⟩, t3, t4⟩ := Tm.typed_mk2 hY
      by_cases h13 : op = 13
      · refine Tryd.of_and x0 x1 x2 x3 d ih op h13 k l v w hT hk hl t2 t4 (good k hk t2) (good l hl t4) _ ?_
        subst h13
        simp only [Tm.val, Tm.vals, Tm.valOf]
        simp
      · by_cases h14 : op = 14
        · refine Tryd.of_or x0 x1 x2 x3 d ih op h14 k l v w hT hk hl t2 t4 (good k hk t2) (good l hl t4) _ ?_
          subst h14
          simp only [Tm.val, Tm.vals, Tm.valOf]
          simp
        · refine Tryd.of_two x0 x1 x2 x3 d ih op o1 (by omega) k l v w hT hk hl t2 t4 (good k hk t2) (good l hl t4) _ ?_
          simp only [Tm.val, Tm.vals, Tm.valOf]
          rw [if_neg (show ¬ op = 1 by omega), if_neg (show ¬ op = 2 by omega), if_neg (show ¬ op = 3 by omega), if_neg (show ¬ op = 4 by omega), if_neg h13, if_neg h14]

end Go.Proofs
