/-
  The contract of truth, whole.
-/
import Derived.Test.YteeanikildmmnaaDoorTJunct
import Derived.Test.YteeanikildmmnaaDoorTJunctO
namespace Go.Proofs
open Go.RowKit

/-- truth answers right of right terms of whatever depth. -/
theorem Tryd.truth_any (x0 x1 x2 x3 : Int) (hx : Tk.fitsB x0 x1 x2 x3 = true) : ∀ d, Tk.TruOk x0 x1 x2 x3 d := by
  intro d
  induction d with
  | zero => intro T v w h; exact h.elim
  | succ d ih =>
    intro T v w hT hF hY hi
    have hgood : ∀ k : Tm, k.allForm = true → k.typedB = true → Tm.isOf k.op = 2 → Tm.Good 2 (k.val (Tk.vget x0 x1 x2 x3)) := fun k h1 h2 h3 => by
      have := Tm.good_val _ (Tk.vget_num hx) k.depth k (Nat.le_refl _) h1 h2
      rw [h3] at this
      exact this
    rcases Tm.right_cases hF with ⟨n, rfl, h1, h2⟩ | ⟨n, rfl, h1, h2⟩ | ⟨op, k, rfl, ho, hk⟩ | ⟨op, k, l, rfl, o1, o2, hk, hl⟩
    · simp [Tm.isOf, Tm.op] at hi
    · simp [Tm.isOf, Tm.op] at hi
    · obtain ⟨t1, t2⟩ := Tm.typed_mk1 hY
      obtain rfl : op = 4 := by
        rcases ho with h | h
        · subst h; simp [Tm.isOf, Tm.op] at hi
        · exact h
      have ik : Tm.isOf k.op = 2 := by rw [t1]; simp [Tm.askedOf]
      have g := hgood k hk t2 ik
      refine (Tryd.tru_not x0 x1 x2 x3 d ih k v w hT hk t2 ik).mono fun e w' ⟨he, hb⟩ => ⟨?_, hb⟩
      rw [he]
      simp only [Tm.val, Tm.vals, Tm.valOf]
      generalize k.val (Tk.vget x0 x1 x2 x3) = va at g
      by_cases hf : va.2.2 = 0
      · simp [hf]
      · simp [hf]
    · obtain ⟨⟨t1, t2⟩, t3, t4⟩ := Tm.typed_mk2 hY
      have o10 : 10 ≤ op := by
        rcases Int.lt_or_le op 10 with h | h
        · have h2 : Tm.isOf (Tm.mk op 0 [k, l]).op = 1 := by
            unfold Tm.isOf
            rw [if_neg (by show ¬ (op = 4 ∨ 10 ≤ op); omega)]
          rw [h2] at hi
          omega
        · exact h
      by_cases h13 : 13 ≤ op
      · have e1 : Tm.askedOf op = 2 := by unfold Tm.askedOf; rw [if_neg (by omega), if_pos (.inr h13)]
        have ik : Tm.isOf k.op = 2 := t1.trans e1
        have il : Tm.isOf l.op = 2 := t3.trans e1
        have g := hgood k hk t2 ik
        have hj : Calls Tryd.prog 24 #[.agg #[.int .i64 op, .int .i64 0, v], .agg #[.int .i64 x0, .int .i64 x1, .int .i64 x2, .int .i64 x3]] w fun e w' =>
            e = .returned (.tuple #[.bool (Tk.junctR op (k.val (Tk.vget x0 x1 x2 x3)) (l.val (Tk.vget x0 x1 x2 x3))).1, .int .i64 (Tk.junctR op (k.val (Tk.vget x0 x1 x2 x3)) (l.val (Tk.vget x0 x1 x2 x3))).2]) ∧ Below w.heap.size w w' := by
          by_cases h14 : op = 14
          · exact Tryd.tru_or x0 x1 x2 x3 d ih op h14 k l v w hT hk hl t2 t4 ik il
          · exact Tryd.tru_and x0 x1 x2 x3 d ih op (by omega) k l v w hT hk hl t2 t4 ik il
        refine hj.mono fun e w' ⟨he, hb⟩ => ⟨?_, hb⟩
        rw [he]
        simp only [Tm.val, Tm.vals, Tm.valOf]
        generalize k.val (Tk.vget x0 x1 x2 x3) = va at g
        generalize l.val (Tk.vget x0 x1 x2 x3) = vb
        rw [if_neg (show ¬ op = 1 by omega), if_neg (show ¬ op = 2 by omega), if_neg (show ¬ op = 3 by omega), if_neg (show ¬ op = 4 by omega)]
        unfold Tk.junctR
        obtain ⟨a1, ab, a3⟩ := va
        by_cases hf : a3 = 0
        · subst hf
          obtain rfl | rfl : op = 13 ∨ op = 14 := by omega
          · cases ab <;> simp
          · cases ab <;> simp
        · have := (g.2.2.1 hf).2
          simp only at this
          simp [hf, this]
      · have e1 : Tm.askedOf op = 1 := by unfold Tm.askedOf; rw [if_neg (by omega), if_neg (by omega)]
        have ik : Tm.isOf k.op = 1 := t1.trans e1
        have il : Tm.isOf l.op = 1 := t3.trans e1
        refine Tryd.tru_cmp x0 x1 x2 x3 d (Tryd.number_any x0 x1 x2 x3 hx d) op k l v w o10 (by omega) hT hk hl t2 t4 ik il ((Tm.val (Tk.vget x0 x1 x2 x3) (.mk op 0 [k, l])).2.1, (Tm.val (Tk.vget x0 x1 x2 x3) (.mk op 0 [k, l])).2.2) ?_
        simp only [Tm.val, Tm.vals, Tm.valOf]
        generalize k.val (Tk.vget x0 x1 x2 x3) = va
        generalize l.val (Tk.vget x0 x1 x2 x3) = vb
        rw [if_neg (show ¬ op = 1 by omega), if_neg (show ¬ op = 2 by omega), if_neg (show ¬ op = 3 by omega), if_neg (show ¬ op = 4 by omega), if_neg (show ¬ op = 13 by omega), if_neg (show ¬ op = 14 by omega)]
        unfold Tk.bothR Tk.sumR
        rw [if_pos (show 10 ≤ op by omega)]
        by_cases hf : va.2.2 = 0
        · by_cases hg : vb.2.2 = 0
          · simp [hf, hg]
          · simp [hf, hg]
        · simp [hf]

end Go.Proofs
