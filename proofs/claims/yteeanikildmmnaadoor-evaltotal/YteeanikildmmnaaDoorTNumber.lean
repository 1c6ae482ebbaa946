/-
  The contract of number, whole.
-/
import Derived.Test.YteeanikildmmnaaDoorTNum
namespace Go.Proofs
open Go.RowKit

set_option maxHeartbeats 4000000 in
theorem Tryd.num_two (x0 x1 x2 x3 : Int) (d : Nat) (hN : Tk.NumOk x0 x1 x2 x3 d) (op : Int) (k l : Tm) (v : Value) (w : World) (h5 : 5 ≤ op) (h9 : op ≤ 9) (hT : Tm.Lies w w.heap.size (d + 1) v (.mk op 0 [k, l])) (hk : k.allForm = true) (hl : l.allForm = true)
    (tk : k.typedB = true) (tl : l.typedB = true) (ik : Tm.isOf k.op = 1) (il : Tm.isOf l.op = 1) (gk : Tm.Good 1 (k.val (Tk.vget x0 x1 x2 x3))) (gl : Tm.Good 1 (l.val (Tk.vget x0 x1 x2 x3))) (r : Int × Int)
    (hr : r = if (Tk.bothR (k.val (Tk.vget x0 x1 x2 x3)) (l.val (Tk.vget x0 x1 x2 x3))).2.2 ≠ 0 then (0, (Tk.bothR (k.val (Tk.vget x0 x1 x2 x3)) (l.val (Tk.vget x0 x1 x2 x3))).2.2) else Tk.reckR op (Tk.bothR (k.val (Tk.vget x0 x1 x2 x3)) (l.val (Tk.vget x0 x1 x2 x3))).1 (Tk.bothR (k.val (Tk.vget x0 x1 x2 x3)) (l.val (Tk.vget x0 x1 x2 x3))).2.1) :
    Calls Tryd.prog 21 #[.agg #[.int .i64 op, .int .i64 0, v], .agg #[.int .i64 x0, .int .i64 x1, .int .i64 x2, .int .i64 x3]] w fun e w' => e = .returned (.tuple #[.int .i64 r.1, .int .i64 r.2]) ∧ Below w.heap.size w w' := by
  have hbn : Tk.isNum (Tk.bothR (k.val (Tk.vget x0 x1 x2 x3)) (l.val (Tk.vget x0 x1 x2 x3))).1 = true ∧ Tk.isNum (Tk.bothR (k.val (Tk.vget x0 x1 x2 x3)) (l.val (Tk.vget x0 x1 x2 x3))).2.1 = true := by
    unfold Tk.bothR
    split
    · exact ⟨by simp [Tk.isNum], by simp [Tk.isNum]⟩
    · split
      · exact ⟨by simp [Tk.isNum], by simp [Tk.isNum]⟩
      · exact ⟨gk.1, gl.1⟩
  obtain ⟨a, cap, rfl⟩ := hT.shape
  simp only [Tm.ks, List.length_cons, List.length_nil] at *
  have CB : Hid (∀ W, Below w.heap.size w W → _) := fun W (hW : Below w.heap.size w W) => Tryd.both_step x0 x1 x2 x3 d hN op k l (.slice a 2 cap) W ((hT.below hW).wider hW.size) hk hl tk tl ik il
  obtain ⟨q, hq⟩ : ∃ q, Tk.bothR (k.val (Tk.vget x0 x1 x2 x3)) (l.val (Tk.vget x0 x1 x2 x3)) = q := ⟨_, rfl⟩
  rw [hq] at hbn hr CB
  obtain ⟨c1, c2, c3⟩ := q
  have h1 := Tk.isNum_iff.1 hbn.1
  have h2 := Tk.isNum_iff.1 hbn.2
  simp only at h1 h2 hr
  obtain ⟨w0, hw0⟩ : ∃ w0, (w.alloc (.cells #[.int .i64 op, .int .i64 0, .slice a 2 cap] 24)).alloc (.cells #[.int .i64 x0, .int .i64 x1, .int .i64 x2, .int .i64 x3] 25) = w0 := ⟨_, rfl⟩
  have A0 : Hid (Below w.heap.size w w0) := by show Below _ _ _; rw [← hw0]; exact ((Below.refl _ w).alloc (Nat.le_refl _) _).alloc (by simp) _
  have C0 : Hid (w0.heap[w.heap.size]? = some (.cells #[.int .i64 op, .int .i64 0, .slice a 2 cap] 24 (0, 0))) := by
    show _ = _
    rw [← hw0, Below.heap_alloc _ _ _ (by simp)]; exact heap_alloc_new w _
  have HW0 : Hid ((w.alloc (.cells #[.int .i64 op, .int .i64 0, .slice a 2 cap] 24)).alloc (.cells #[.int .i64 x0, .int .i64 x1, .int .i64 x2, .int .i64 x3] 25) = w0) := hw0
  have HR : Hid (r = if c3 ≠ 0 then (0, c3) else Tk.reckR op c1 c2) := hr
  have HB : Hid (-1099511627776 ≤ c1 ∧ c1 ≤ 1099511627776 ∧ -1099511627776 ≤ c2 ∧ c2 ≤ 1099511627776) := ⟨h1.1, h1.2, h2.1, h2.2⟩
  have e1 : (op == 1) = false := by simp; omega
  have e2 : (op == 2) = false := by simp; omega
  have e3 : (op == 3) = false := by simp; omega
  clear hT hk hl tk tl ik il gk gl hr hbn hq h1 h2 hw0 h5 h9 hN
  go_enter Tryd.func21, Tryd.ntmps21
  go_wp2_with fail
  rw [HW0.out]
  refine Calls.mono (CB.out w0 A0.out) ?_
  rintro e W1 ⟨rfl, b1⟩
  have B1 : Hid (Below w.heap.size w W1) := A0.out.trans (b1.mono A0.out.size)
  have c0 : W1.cell? ⟨w.heap.size, 0, none⟩ = some (.int .i64 op) := by
    have : W1.heap[w.heap.size]? = _ := (b1.block _ (Array.getElem?_eq_some_iff.1 C0.out).1).trans C0.out
    simp [World.cell?, this]
  clear b1 CB HW0
  by_cases h3 : c3 = 0
  · subst h3
    have HRR : Hid (r = Tk.reckR op c1 c2) := by show r = Tk.reckR op c1 c2; have := HR.out; simpa using this
    clear HR
    go_wp2_with fail
    refine Calls.mono (Tryd.reckon_any op c1 c2 _ HB.out.1 HB.out.2.1 HB.out.2.2.1 HB.out.2.2.2) ?_
    rintro e W2 ⟨rfl, rfl⟩
    go_wp2
    go_ret2
    exact ⟨by rw [HRR.out]; rfl, B1.out⟩
  · have hne : (c3 != 0) = true := by simpa using h3
    have HRR : Hid (r = (0, c3)) := by show r = (0, c3); have := HR.out; simpa [h3] using this
    clear HR h3
    go_wp2
    go_ret2
    exact ⟨by rw [HRR.out]; rfl, B1.out⟩

/-- number answers right of right terms of whatever depth. -/
theorem Tryd.number_any (x0 x1 x2 x3 : Int) (hx : Tk.fitsB x0 x1 x2 x3 = true) : ∀ d, Tk.NumOk x0 x1 x2 x3 d := by
  intro d
  induction d with
  | zero => intro T v w h; exact h.elim
  | succ d ih =>
    intro T v w hT hF hY hi
    have hgood : ∀ k : Tm, k.allForm = true → k.typedB = true → Tm.isOf k.op = 1 → Tm.Good 1 (k.val (Tk.vget x0 x1 x2 x3)) := fun k h1 h2 h3 => by
      have := Tm.good_val _ (Tk.vget_num hx) k.depth k (Nat.le_refl _) h1 h2
      rw [h3] at this
      exact this
    rcases Tm.right_cases hF with ⟨n, rfl, h1, h2⟩ | ⟨n, rfl, h1, h2⟩ | ⟨op, k, rfl, ho, hk⟩ | ⟨op, k, l, rfl, o1, o2, hk, hl⟩
    · obtain ⟨a, cap, rfl⟩ := hT.shape
      exact Tryd.num_leaf1 x0 x1 x2 x3 n a _ cap w
    · obtain ⟨a, cap, rfl⟩ := hT.shape
      exact Tryd.num_leaf2 x0 x1 x2 x3 n a _ cap w ⟨h1, h2⟩
    · obtain ⟨t1, t2⟩ := Tm.typed_mk1 hY
      obtain rfl : op = 3 := by
        rcases ho with h | h
        · exact h
        · subst h; simp [Tm.isOf, Tm.op] at hi
      have ik : Tm.isOf k.op = 1 := by rw [t1]; simp [Tm.askedOf]
      have g := hgood k hk t2 ik
      have := Tryd.num_neg x0 x1 x2 x3 d ih k v w hT hk t2 ik g
      refine this.mono fun e w' ⟨he, hb⟩ => ⟨?_, hb⟩
      rw [he]
      simp only [Tm.val, Tm.vals, Tm.valOf]
      generalize k.val (Tk.vget x0 x1 x2 x3) = va at g
      by_cases hf : va.2.2 = 0
      · simp [hf]
      · have := (g.2.2.1 hf).1
        simp [hf, this]
    · obtain ⟨⟨t1, t2⟩, t3, t4⟩ := Tm.typed_mk2 hY
      have o9 : op ≤ 9 := by
        rcases Int.lt_or_le 9 op with h | h
        · have h2 : Tm.isOf (Tm.mk op 0 [k, l]).op = 2 := by
            unfold Tm.isOf
            rw [if_pos (.inr (by show 10 ≤ op; omega))]
          rw [h2] at hi
          omega
        · exact h
      have e1 : Tm.askedOf op = 1 := by unfold Tm.askedOf; rw [if_neg (by omega), if_neg (by omega)]
      have ik : Tm.isOf k.op = 1 := t1.trans e1
      have il : Tm.isOf l.op = 1 := t3.trans e1
      refine Tryd.num_two x0 x1 x2 x3 d ih op k l v w o1 o9 hT hk hl t2 t4 ik il (hgood k hk t2 ik) (hgood l hl t4 il) ((Tm.val (Tk.vget x0 x1 x2 x3) (.mk op 0 [k, l])).1, (Tm.val (Tk.vget x0 x1 x2 x3) (.mk op 0 [k, l])).2.2) ?_
      simp only [Tm.val, Tm.vals, Tm.valOf]
      generalize k.val (Tk.vget x0 x1 x2 x3) = va
      generalize l.val (Tk.vget x0 x1 x2 x3) = vb
      rw [if_neg (show ¬ op = 1 by omega), if_neg (show ¬ op = 2 by omega), if_neg (show ¬ op = 3 by omega), if_neg (show ¬ op = 4 by omega), if_neg (show ¬ op = 13 by omega), if_neg (show ¬ op = 14 by omega)]
      unfold Tk.bothR Tk.sumR
      rw [if_neg (show ¬ 10 ≤ op by omega)]
      by_cases hf : va.2.2 = 0
      · by_cases hg : vb.2.2 = 0
        · simp [hf, hg]
        · simp [hf, hg]
      · simp [hf]

end Go.Proofs
