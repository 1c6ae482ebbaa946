/-
  The contract of typed, of terms of right form.
-/
import Derived.Test.YtiedlccnlkhnkaaDoorTCheck
namespace Go.Proofs
open Go.RowKit

theorem Tm.op_range {T : Tm} (h : T.allForm = true) : ∃ o : Nat, T.op = o ∧ 1 ≤ o ∧ o ≤ 14 := by
  have := (Tm.formed_of_all h).1
  simp only [Tm.formedB, decide_eq_true_eq] at this
  exact ⟨T.op.toNat, by omega, by omega, by omega⟩
theorem Tm.len_le {T : Tm} (h : T.allForm = true) : T.ks.length ≤ 2 := by
  have := (Tm.formed_of_all h).1
  simp only [Tm.formedB, decide_eq_true_eq] at this
  have h2 : Tm.kidsOf T.op ≤ 2 := by unfold Tm.kidsOf; (repeat' split) <;> omega
  omega

set_option maxHeartbeats 4000000 in
theorem Tryd.typed_any : ∀ (d : Nat) (T : Tm) (v : Value) (w : World), Tm.Lies w w.heap.size d v T → T.allForm = true → Tk.Ops w →
    Calls Tryd.prog 88 #[.agg #[.int .i64 T.op, .int .i64 T.num, v]] w fun e w' => e = .returned (.bool T.typedB) ∧ Below w.heap.size w w' := by
  intro d
  induction d with
  | zero => intro T v w h; exact h.elim
  | succ d ih =>
    intro T v w hT hF hO
    obtain ⟨a, cap, rfl⟩ := hT.shape
    obtain ⟨o, ho, ho1, ho2⟩ := Tm.op_range hF
    obtain ⟨m, hm⟩ : ∃ m, T.num = m := ⟨_, rfl⟩
    obtain ⟨n, hn⟩ : ∃ n, T.ks.length = n := ⟨_, rfl⟩
    have hn2 : n ≤ 2 := by rw [← hn]; exact Tm.len_le hF
    rw [ho, hm, hn]
    rw [hn] at hT
    have HT : Hid (Tm.Lies w w.heap.size (d + 1) (.slice a n cap) T) := hT
    have HO : Hid (Tk.Ops w) := hO
    have HM : Hid (T.op = o ∧ T.num = m ∧ T.ks.length = n ∧ T.allForm = true) := ⟨ho, hm, hn, hF⟩
    have HI : Hid _ := ih
    have A0 : Hid (Below w.heap.size w (w.alloc (.cells #[.int .i64 o, .int .i64 m, .slice a n cap] 32))) := (Below.refl _ w).alloc (Nat.le_refl _) _
    have C0 : Hid ((w.alloc (.cells #[.int .i64 o, .int .i64 m, .slice a n cap] 32)).heap[w.heap.size]? = some (.cells #[.int .i64 o, .int .i64 m, .slice a n cap] 32 (0, 0))) := heap_alloc_new w _
    have HS : Hid ((w.alloc (.cells #[.int .i64 o, .int .i64 m, .slice a n cap] 32)).heap.size = w.heap.size + 1) := by simp [Hid]
    obtain ⟨w0, hw0⟩ : ∃ w0, w.alloc (.cells #[.int .i64 o, .int .i64 m, .slice a n cap] 32) = w0 := ⟨_, rfl⟩
    rw [hw0] at A0 C0 HS
    have HW0 : Hid (w.alloc (.cells #[.int .i64 o, .int .i64 m, .slice a n cap] 32) = w0) := hw0
    clear hw0 ih hT hO ho hm hn hF
    go_enter Tryd.func88, Tryd.ntmps88
    go_wp2
    rw [HW0.out]
    clear HW0
    go_loopg [8] n (fun g i wr => ∃ j : Nat, g + j = n ∧ i = .int .i64 j ∧ Hid (Below (w.heap.size + 1) w0 wr ∧ Tm.typeds T.op (T.ks.take j) = true))
    case atStart => exact ⟨0, by omega, rfl, Below.refl _ _, by simp [Tm.typeds]⟩
    case round =>
      obtain ⟨j, hj, rfl, HJ⟩ := hrel
      have HB : Hid (Below w.heap.size w wr) := A0.out.trans (HJ.out.1.mono (by omega))
      by_cases hjn : j < n
      · have hd : decide ((j : Int) < n) = true := decide_eq_true (by omega)
        have hjk : j < T.ks.length := by rw [HM.out.2.2.1]; exact hjn
        have hxF := Tm.allForms_get T.ks (Tm.formed_of_all HM.out.2.2.2).2 j hjk
        obtain ⟨g, off, u, rfl, hg, q0, q1, q2, q3⟩ := HT.out.kid j hjk
        obtain ⟨x, hx⟩ : ∃ x, T.ks[j] = x := ⟨_, rfl⟩
        rw [hx] at q0 q1 q3 hxF
        obtain ⟨au, cu, rfl⟩ := q3.shape
        obtain ⟨nx, hnx⟩ : ∃ n, x.ks.length = n := ⟨_, rfl⟩
        rw [hnx] at q2 q3
        obtain ⟨y0, hy0, hy1, hy2⟩ := Tm.op_range hxF
        obtain ⟨y1, hz1⟩ : ∃ y, x.num = y := ⟨_, rfl⟩
        rw [hy0] at q0
        rw [hz1] at q1
        have hc : ∀ p, wr.cell? ⟨g, p, none⟩ = w.cell? ⟨g, p, none⟩ := fun p => HB.out.cell (p := ⟨g, p, none⟩) hg
        have hc0 : wr.cell? ⟨g, off + j * 3, none⟩ = some (.int .i64 y0) := by rw [hc]; exact q0
        have hc1 : wr.cell? ⟨g, off + j * 3 + 1, none⟩ = some (.int .i64 y1) := by rw [hc]; exact q1
        have hc2 : wr.cell? ⟨g, off + j * 3 + 2, none⟩ = some (.slice au nx cu) := by rw [hc]; exact q2
        have BA : Hid (Below w.heap.size w (wr.alloc (.cells #[.int .i64 y0, .int .i64 y1, .slice au nx cu] 32))) := HB.out.alloc HB.out.size _
        have BB : Hid (Below (w.heap.size + 1) w0 (wr.alloc (.cells #[.int .i64 y0, .int .i64 y1, .slice au nx cu] 32))) := HJ.out.1.alloc (by have := HS.out; have := HJ.out.1.size; omega) _
        have OA : Tk.Ops (wr.alloc (.cells #[.int .i64 y0, .int .i64 y1, .slice au nx cu] 32)) := HO.out.below BA.out HO.out.lt
        have hb0 : (wr.alloc (.cells #[.int .i64 y0, .int .i64 y1, .slice au nx cu] 32)).cell? ⟨w.heap.size, 0, none⟩ = some (.int .i64 o) := by
          rw [BB.out.cell (p := ⟨w.heap.size, 0, none⟩) (by show w.heap.size < w.heap.size + 1; omega)]
          simp [World.cell?, C0.out]
        obtain ⟨_, _, _, _, _, k4⟩ := OA.cells y0 hy1 hy2
        obtain ⟨_, _, _, k2, _, _⟩ := OA.cells o ho1 ho2
        have ix1 : (y0 : Int) < 15 := by omega
        have ix2 : (o : Int) < 15 := by omega
        have HY : Hid (T.ks[j] = x ∧ x.op = y0 ∧ x.num = y1 ∧ x.allForm = true) := ⟨hx, hy0, hz1, hxF⟩
        have HL : Hid (Tm.Lies w w.heap.size d (.slice au nx cu) x) := q3
        obtain ⟨i1, hi1⟩ : ∃ i, Tm.isOf y0 = i := ⟨_, rfl⟩
        obtain ⟨i2, hi2⟩ : ∃ i, Tm.askedOf o = i := ⟨_, rfl⟩
        rw [hi1] at k4
        rw [hi2] at k2
        have HQ : Hid (Tm.isOf y0 = i1 ∧ Tm.askedOf o = i2) := ⟨hi1, hi2⟩
        obtain ⟨tb, htb⟩ : ∃ t, x.typedB = t := ⟨_, rfl⟩
        have HB0 : Hid (x.typedB = tb) := htb
        have HC : Hid (∀ W, Below w.heap.size w W → Below (w.heap.size + 1) w0 W → Calls Tryd.prog 88 #[.agg #[.int .i64 y0, .int .i64 y1, .slice au nx cu]] W fun e w' => e = .returned (.bool tb) ∧ Below w.heap.size w w' ∧ Below (w.heap.size + 1) w0 w') := by
          intro W hW hW0
          have := HI.out x (.slice au nx cu) W ((HL.out.below hW).wider hW.size) hxF (HO.out.below hW HO.out.lt)
          rw [hy0, hz1, htb] at this
          exact this.mono fun e w' ⟨he, hb⟩ => ⟨he, hW.trans (hb.mono hW.size), hW0.trans (hb.mono (by have := hW0.size; have := HS.out; omega))⟩
        clear hc q0 q1 q2 q3 hx hy0 hz1 hnx hxF OA hi1 hi2 htb
        by_cases he : i1 = i2
        · subst he
          go_wp2_with fail
          go_region_with (first | (go_at_call 88; refine Calls.mono (HC.out _ (by first | exact BA.out | exact BA.out.drew | exact Tk.below_drewN BA.out _) (by first | exact BB.out | exact BB.out.drew | exact Tk.below_drewN BB.out _)) ?_; rintro e W3 ⟨rfl, b3, c3⟩) | fail)
          all_goals
            have B3 : Hid (Below w.heap.size w W3) := b3
            have C3 : Hid (Below (w.heap.size + 1) w0 W3) := c3
            clear b3 c3
            cases tb
            · go_wp2
              go_ret
              refine ⟨Tk.ret_bool ?_, B3.out⟩
              rw [T.typedB_eq]
              cases hty : Tm.typeds T.op T.ks
              · rfl
              · have := (Tm.typeds_get _ _ hty j hjk).2
                rw [HY.out.1, HB0.out] at this
                cases this
            · go_wp2
              go_roundg (gk - 1)
              case measure => omega
              case rel =>
                refine ⟨j + 1, by omega, by go_num, C3.out, ?_⟩
                rw [Tm.typeds_take _ _ _ hjk, HJ.out.2, HY.out.1, HY.out.2.1, HB0.out, HM.out.1, HQ.out.1, HQ.out.2]
                simp
        · have hd2 : (i1 != i2) = true := by simpa using he
          have BD : ∀ n, Below w.heap.size w ((wr.alloc (.cells #[.int .i64 y0, .int .i64 y1, .slice au nx cu] 32)).drewN n) := fun n => Tk.below_drewN BA.out n
          have HBD : Hid _ := BD
          clear BD
          go_wp2_with fail
          go_quiet (fail)
          go_wp2
          go_ret
          refine ⟨Tk.ret_bool ?_, HBD.out _⟩
          rw [T.typedB_eq]
          cases hty : Tm.typeds T.op T.ks
          · rfl
          · have := (Tm.typeds_get _ _ hty j hjk).1
            rw [HY.out.1, HY.out.2.1, HM.out.1, HQ.out.1, HQ.out.2] at this
            exact absurd this he
      · have hd : decide ((j : Int) < n) = false := decide_eq_false (by omega)
        go_wp2
        go_ret
        have hall : T.ks.take j = T.ks := List.take_of_length_le (by rw [HM.out.2.2.1]; omega)
        refine ⟨Tk.ret_bool ?_, HB.out⟩
        have := HJ.out.2
        rw [hall] at this
        rw [T.typedB_eq, this]

end Go.Proofs
