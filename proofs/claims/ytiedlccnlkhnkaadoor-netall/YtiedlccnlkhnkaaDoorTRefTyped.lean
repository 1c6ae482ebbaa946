/-
  The contracts of the document's typed, Wrong and Check.
-/
import Derived.Test.YtiedlccnlkhnkaaDoorTRefForm
namespace Go.Proofs
open Go.RowKit

theorem Tm.asked_eq {T : Tm} (h : T.allForm = true) (hk : 0 < T.ks.length) : Tm.askedOf T.op = if decide (T.op = 4 ∨ 13 ≤ T.op) = true then 2 else 1 := by
  have := (Tm.formedB_iff _ _ _).1 (Tm.formed_of_all h).1
  have h3 : ¬ T.op < 3 := by
    intro h3
    have : T.ks.length = 0 := by rw [this.2.2.1]; unfold Tm.kidsOf; rw [if_pos h3]
    omega
  unfold Tm.askedOf
  rw [if_neg h3]
  simp
theorem Tm.is_eq (op : Int) : Tm.isOf op = if decide (op = 4 ∨ 10 ≤ op) = true then 2 else 1 := by
  unfold Tm.isOf
  simp

set_option maxHeartbeats 8000000 in
theorem Tryd.refTyped_any : ∀ (d : Nat) (T : Tm) (v : Value) (w : World), Tm.Lies w w.heap.size d v T → T.allForm = true →
    Calls Tryd.prog 85 #[.agg #[.int .i64 T.op, .int .i64 T.num, v]] w fun e w' => e = .returned (.bool T.typedB) ∧ Below w.heap.size w w' := by
  intro d
  induction d with
  | zero => intro T v w h; exact h.elim
  | succ d ih =>
    intro T v w hT hF
    obtain ⟨a, cap, rfl⟩ := hT.shape
    obtain ⟨o, ho⟩ : ∃ m, T.op = m := ⟨_, rfl⟩
    obtain ⟨m, hm⟩ : ∃ m, T.num = m := ⟨_, rfl⟩
    obtain ⟨n, hn⟩ : ∃ n, T.ks.length = n := ⟨_, rfl⟩
    have hn2 : n ≤ 2 := by rw [← hn]; exact Tm.len_le hF
    rw [ho, hm, hn]
    rw [hn] at hT
    have HT : Hid (Tm.Lies w w.heap.size (d + 1) (.slice a n cap) T) := hT
    have HI : Hid _ := ih
    have HM : Hid (T.op = o ∧ T.num = m ∧ T.ks.length = n ∧ T.allForm = true) := ⟨ho, hm, hn, hF⟩
    have A0 : Hid (Below w.heap.size w (w.alloc (.cells #[.int .i64 o, .int .i64 m, .slice a n cap] 32))) := (Below.refl _ w).alloc (Nat.le_refl _) _
    obtain ⟨ab, HAB, hcase⟩ : ∃ ab : Bool, Hid (decide (T.op = 4 ∨ 13 ≤ T.op) = ab) ∧ ((ab = true ∧ (o == 4) = true) ∨ (ab = true ∧ (o == 4) = false ∧ decide (13 ≤ o) = true) ∨ (ab = false ∧ (o == 4) = false ∧ decide (13 ≤ o) = false)) := by
      refine ⟨_, rfl, ?_⟩
      rw [ho]
      simp
      omega
    clear ih hT ho hm hn hF
    rcases hcase with ⟨rfl, e4⟩ | ⟨rfl, e4, d13⟩ | ⟨rfl, e4, d13⟩
    all_goals
      go_enter Tryd.func85, Tryd.ntmps85
      go_wp2
      go_loopg [17] n (fun g i wr => ∃ j : Nat, g + j = n ∧ i = .int .i64 j ∧ Hid (Below w.heap.size w wr ∧ Tm.typeds T.op (T.ks.take j) = true))
      case atStart => exact ⟨0, by omega, rfl, A0.out, by simp [Tm.typeds]⟩
      case round =>
        obtain ⟨j, hj, rfl, HJ⟩ := hrel
        by_cases hjn : j < n
        · have hd : decide ((j : Int) < n) = true := decide_eq_true (by omega)
          have hjk : j < T.ks.length := by rw [HM.out.2.2.1]; exact hjn
          have hxF := Tm.allForms_get T.ks (Tm.formed_of_all HM.out.2.2.2).2 j hjk
          obtain ⟨g, off, u, rfl, hg, q0, q1, q2, q3⟩ := HT.out.kid j hjk
          obtain ⟨x, hx⟩ : ∃ x, T.ks[j] = x := ⟨_, rfl⟩
          rw [hx] at q0 q1 q3 hxF
          obtain ⟨au, cu, rfl⟩ := q3.shape
          obtain ⟨nx, hnx⟩ : ∃ n, x.ks.length = n := ⟨_, rfl⟩
          rw [hnx] at q2 q3
          obtain ⟨y0, hy0⟩ : ∃ y, x.op = y := ⟨_, rfl⟩
          obtain ⟨y1, hz1⟩ : ∃ y, x.num = y := ⟨_, rfl⟩
          rw [hy0] at q0
          rw [hz1] at q1
          have hc : ∀ p, wr.cell? ⟨g, p, none⟩ = w.cell? ⟨g, p, none⟩ := fun p => HJ.out.1.cell (p := ⟨g, p, none⟩) hg
          have hc0 : wr.cell? ⟨g, off + j * 3, none⟩ = some (.int .i64 y0) := by rw [hc]; exact q0
          have hc1 : wr.cell? ⟨g, off + j * 3 + 1, none⟩ = some (.int .i64 y1) := by rw [hc]; exact q1
          have hc2 : wr.cell? ⟨g, off + j * 3 + 2, none⟩ = some (.slice au nx cu) := by rw [hc]; exact q2
          have BA : Hid (Below w.heap.size w (wr.alloc (.cells #[.int .i64 y0, .int .i64 y1, .slice au nx cu] 32))) := HJ.out.1.alloc HJ.out.1.size _
          have hcall := HI.out x (.slice au nx cu) _ ((q3.below BA.out).wider BA.out.size) hxF
          obtain ⟨fx, hfx⟩ : ∃ y, x.typedB = y := ⟨_, rfl⟩
          rw [hy0, hz1, hfx] at hcall
          have HC : Hid _ := hcall
          obtain ⟨kb, hkb⟩ : ∃ b, decide (y0 = 4 ∨ 10 ≤ y0) = b := ⟨_, rfl⟩
          have htr := fun W => Tryd.refTruth_any y0 W
          rw [hkb] at htr
          have HTR : Hid _ := htr
          have hjp : 0 < T.ks.length := by omega
          have HY : Hid (T.ks[j] = x ∧ x.typedB = fx ∧ Tm.isOf x.op = if kb = true then 2 else 1) := ⟨hx, hfx, by rw [Tm.is_eq, hy0, hkb]⟩
          have HAS : Hid (Tm.askedOf T.op = _) := Tm.asked_eq HM.out.2.2.2 hjp
          rw [HAB.out] at HAS
          clear hc q0 q1 q2 q3 hx hy0 hz1 hnx hcall hfx htr hkb
          cases kb
          all_goals
            go_wp2_with fail
            refine Calls.mono (HTR.out _) ?_
            rintro e W2 ⟨rfl, rfl⟩
            first
            | (go_wp2
               go_ret
               refine ⟨Tk.ret_bool ?_, BA.out⟩
               rw [T.typedB_eq]
               cases hty : Tm.typeds T.op T.ks
               · rfl
               · have := (Tm.typeds_get _ _ hty j hjk).1
                 rw [HY.out.1, HY.out.2.2, HAS.out] at this
                 simp at this)
            | (go_wp2_with fail
               refine Calls.mono HC.out ?_
               rintro e W3 ⟨rfl, b3⟩
               have B3 : Hid (Below w.heap.size w W3) := BA.out.trans (b3.mono BA.out.size)
               clear b3 HC
               cases fx
               · go_wp2
                 go_ret
                 refine ⟨Tk.ret_bool ?_, B3.out⟩
                 rw [T.typedB_eq]
                 cases hty : Tm.typeds T.op T.ks
                 · rfl
                 · have := (Tm.typeds_get _ _ hty j hjk).2
                   rw [HY.out.1, HY.out.2.1] at this
                   cases this
               · go_wp2
                 go_roundg (gk - 1)
                 case measure => omega
                 case rel =>
                   refine ⟨j + 1, by omega, by go_num, B3.out, ?_⟩
                   rw [Tm.typeds_take _ _ _ hjk, HJ.out.2, HY.out.1, HY.out.2.1, HY.out.2.2, HAS.out]
                   simp)
        · have hd : decide ((j : Int) < n) = false := decide_eq_false (by omega)
          have hall : T.ks.take j = T.ks := List.take_of_length_le (by rw [HM.out.2.2.1]; omega)
          go_wp2
          go_ret
          refine ⟨Tk.ret_bool ?_, HJ.out.1⟩
          rw [T.typedB_eq, ← hall, HJ.out.2]

end Go.Proofs
