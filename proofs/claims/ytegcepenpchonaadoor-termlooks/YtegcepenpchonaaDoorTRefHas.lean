/-
  The contract of the document's Has.
-/
import Derived.Test.YtegcepenpchonaaDoorTmHas
import Derived.Test.YtegcepenpchonaaDoorTOps
namespace Go.Proofs
open Go.RowKit

set_option maxHeartbeats 8000000 in
theorem Tryd.refHas_any (v0 : Int) : ∀ (d : Nat) (T : Tm) (v : Value) (w : World), Tm.Lies w w.heap.size d v T → T.size ≤ 2147483647 →
    Calls Tryd.prog 18 #[.agg #[.int .i64 T.op, .int .i64 T.num, v], .int .i64 v0] w fun e w' => e = .returned (.bool (T.has v0)) ∧ Below w.heap.size w w' := by
  intro d
  induction d with
  | zero => intro T v w h; exact h.elim
  | succ d ih =>
    intro T v w hT hsz
    obtain ⟨a, cap, rfl⟩ := hT.shape
    obtain ⟨o, ho⟩ : ∃ m, T.op = m := ⟨_, rfl⟩
    obtain ⟨m, hm⟩ : ∃ m, T.num = m := ⟨_, rfl⟩
    obtain ⟨n, hn⟩ : ∃ n, T.ks.length = n := ⟨_, rfl⟩
    have hnb : n ≤ 2147483647 := by have h1 := Tm.length_le_sizes T.ks; have h2 := T.size_eq; omega
    rw [ho, hm, hn]
    rw [hn] at hT
    have HT : Hid (Tm.Lies w w.heap.size (d + 1) (.slice a n cap) T) := hT
    have HI : Hid _ := ih
    have HM : Hid (T.op = o ∧ T.num = m ∧ T.ks.length = n ∧ T.size ≤ 2147483647) := ⟨ho, hm, hn, hsz⟩
    have A0 : Hid (Below w.heap.size w (w.alloc (.cells #[.int .i64 o, .int .i64 m, .slice a n cap] 24))) := (Below.refl _ w).alloc (Nat.le_refl _) _
    obtain ⟨hh, HH, hcase⟩ : ∃ hh : Bool, Hid ((decide (T.op = 2) && decide (T.num = v0)) = hh) ∧ ((hh = true ∧ (o == 2) = true ∧ (m == v0) = true) ∨ (hh = false ∧ (o == 2) = true ∧ (m == v0) = false) ∨ (hh = false ∧ (o == 2) = false)) := by
      refine ⟨_, rfl, ?_⟩
      rw [ho, hm]
      by_cases h1 : o = 2 <;> by_cases h2 : m = v0 <;> simp [h1, h2]
    clear ih hT ho hm hn hsz
    rcases hcase with ⟨rfl, e1, e2⟩ | ⟨rfl, e1, e2⟩ | ⟨rfl, e1⟩
    · go_enter Tryd.func18, Tryd.ntmps18
      go_wp2
      go_ret
      exact ⟨Tk.ret_bool (by rw [T.has_eq, HH.out]; rfl), A0.out⟩
    all_goals
      go_enter Tryd.func18, Tryd.ntmps18
      go_wp2
      go_loopg [19] n (fun g i wr => ∃ j : Nat, g + j = n ∧ i = .int .i64 j ∧ Hid (Below w.heap.size w wr ∧ Tm.hass v0 (T.ks.take j) = false))
      case atStart => exact ⟨0, by omega, rfl, A0.out, by simp [Tm.hass]⟩
      case round =>
        obtain ⟨j, hj, rfl, HJ⟩ := hrel
        by_cases hjn : j < n
        · have hd : decide ((j : Int) < n) = true := decide_eq_true (by omega)
          have hjk : j < T.ks.length := by rw [HM.out.2.2.1]; exact hjn
          have hxs := Tm.sizes_get T.ks j hjk
          obtain ⟨g, off, u, rfl, hg, q0, q1, q2, q3⟩ := HT.out.kid j hjk
          obtain ⟨x, hx⟩ : ∃ x, T.ks[j] = x := ⟨_, rfl⟩
          rw [hx] at q0 q1 q3 hxs
          obtain ⟨au, cu, rfl⟩ := q3.shape
          obtain ⟨nx, hnx⟩ : ∃ n, x.ks.length = n := ⟨_, rfl⟩
          rw [hnx] at q2 q3
          obtain ⟨y0, hy0⟩ : ∃ y, x.op = y := ⟨_, rfl⟩
          obtain ⟨y1, hz1⟩ : ∃ y, x.num = y := ⟨_, rfl⟩
          rw [hy0] at q0
          rw [hz1] at q1
          have hc : ∀ p, wr.cell? ⟨g, p, none⟩ = w.cell? ⟨g, p, none⟩ := fun p => HJ.out.1.cell (p := ⟨g, p, none⟩) hg
          have hc0 : wr.cell? ⟨g, off + j * 3, none⟩ = some (.int .i64 y0) := by rw [hc]; exact q0
          have hc1 : wr.cell? ⟨g, off + j * 3 + 1, none⟩ = some (.int .i64 y1) := by rw [hc]; exact q1
          have hc2 : wr.cell? ⟨g, off + j * 3 + 2, none⟩ = some (.slice au nx cu) := by rw [hc]; exact q2
          have BA : Hid (Below w.heap.size w (wr.alloc (.cells #[.int .i64 y0, .int .i64 y1, .slice au nx cu] 24))) := HJ.out.1.alloc HJ.out.1.size _
          have hcall := HI.out x (.slice au nx cu) _ ((q3.below BA.out).wider BA.out.size) (by have := HM.out.2.2.2; have := T.size_eq; omega)
          obtain ⟨fx, hfx⟩ : ∃ y, x.has v0 = y := ⟨_, rfl⟩
          rw [hy0, hz1, hfx] at hcall
          have HC : Hid _ := hcall
          have HY : Hid (T.ks[j] = x ∧ x.has v0 = fx) := ⟨hx, hfx⟩
          clear hc q0 q1 q2 q3 hx hy0 hz1 hnx hcall hfx hxs
          go_wp2_with fail
          refine Calls.mono HC.out ?_
          rintro e W3 ⟨rfl, b3⟩
          have B3 : Hid (Below w.heap.size w W3) := BA.out.trans (b3.mono BA.out.size)
          clear b3 HC
          cases fx
          · go_wp2
            go_roundg (gk - 1)
            case measure => omega
            case rel =>
              refine ⟨j + 1, by omega, by go_num, B3.out, ?_⟩
              rw [Tm.hass_take _ _ _ hjk, HJ.out.2, HY.out.1, HY.out.2]
              rfl
          · go_wp2
            go_ret
            refine ⟨Tk.ret_bool ?_, B3.out⟩
            rw [T.has_eq, Tm.hass_get v0 T.ks j hjk (by rw [HY.out.1, HY.out.2])]
            simp
        · have hd : decide ((j : Int) < n) = false := decide_eq_false (by omega)
          have hall : T.ks.take j = T.ks := List.take_of_length_le (by rw [HM.out.2.2.1]; omega)
          go_wp2
          go_ret
          refine ⟨Tk.ret_bool ?_, HJ.out.1⟩
          rw [T.has_eq, HH.out, ← hall, HJ.out.2]
          rfl

end Go.Proofs
