/-
  The contract of the document's Size.
-/
import Derived.Test.YtegcepenpchonaaDoorTmModel
namespace Go.Proofs
open Go.RowKit

set_option maxHeartbeats 8000000 in
theorem Tryd.refTSize_any : ∀ (d : Nat) (T : Tm) (v : Value) (w : World), Tm.Lies w w.heap.size d v T → T.size ≤ 2147483647 →
    Calls Tryd.prog 21 #[.agg #[.int .i64 T.op, .int .i64 T.num, v]] w fun e w' => e = .returned (.int .i64 T.size) ∧ Below w.heap.size w w' := by
  intro d
  induction d with
  | zero => intro T v w h; exact h.elim
  | succ d ih =>
    intro T v w hT hsz
    obtain ⟨a, cap, rfl⟩ := hT.shape
    obtain ⟨o, ho⟩ : ∃ m, T.op = m := ⟨_, rfl⟩
    obtain ⟨m, hm⟩ : ∃ m, T.num = m := ⟨_, rfl⟩
    obtain ⟨n, hn⟩ : ∃ n, T.ks.length = n := ⟨_, rfl⟩
    have hnb : n ≤ 2147483647 := by have h1 := Tm.length_le_sizes T.ks; have h2 := T.size_eq; omega
    rw [ho, hm, hn]
    rw [hn] at hT
    have HT : Hid (Tm.Lies w w.heap.size (d + 1) (.slice a n cap) T) := hT
    have HI : Hid _ := ih
    have HM : Hid (T.op = o ∧ T.num = m ∧ T.ks.length = n ∧ T.size ≤ 2147483647) := ⟨ho, hm, hn, hsz⟩
    have A0 : Hid (Below w.heap.size w (w.alloc (.cells #[.int .i64 o, .int .i64 m, .slice a n cap] 24))) := (Below.refl _ w).alloc (Nat.le_refl _) _
    obtain ⟨ts, hts⟩ : ∃ k, T.size = k := ⟨_, rfl⟩
    have HS : Hid (T.size = ts) := hts
    rw [hts]
    clear ih hT ho hm hn hsz hts
    go_enter Tryd.func21, Tryd.ntmps21
    go_wp2
    go_loopg [3, 9] n (fun g s i wr => ∃ j c : Nat, g + j = n ∧ i = .int .i64 j ∧ s = .int .i64 c ∧ c ≤ 2147483647 ∧ Hid (Below w.heap.size w wr ∧ c = 1 + Tm.sizes (T.ks.take j)))
    case atStart => exact ⟨0, 1, by omega, rfl, rfl, by omega, A0.out, by simp [Tm.sizes]⟩
    case round =>
      obtain ⟨j, c, hj, rfl, rfl, hcb, HJ⟩ := hrel
      by_cases hjn : j < n
      · have hd : decide ((j : Int) < n) = true := decide_eq_true (by omega)
        have hjk : j < T.ks.length := by rw [HM.out.2.2.1]; exact hjn
        have hxs := Tm.sizes_get T.ks j hjk
        obtain ⟨g, off, u, rfl, hg, q0, q1, q2, q3⟩ := HT.out.kid j hjk
        obtain ⟨x, hx⟩ : ∃ x, T.ks[j] = x := ⟨_, rfl⟩
        rw [hx] at q0 q1 q3 hxs
        obtain ⟨au, cu, rfl⟩ := q3.shape
        obtain ⟨nx, hnx⟩ : ∃ n, x.ks.length = n := ⟨_, rfl⟩
        rw [hnx] at q2 q3
        obtain ⟨y0, hy0⟩ : ∃ y, x.op = y := ⟨_, rfl⟩
        obtain ⟨y1, hz1⟩ : ∃ y, x.num = y := ⟨_, rfl⟩
        rw [hy0] at q0
        rw [hz1] at q1
        have hc : ∀ p, wr.cell? ⟨g, p, none⟩ = w.cell? ⟨g, p, none⟩ := fun p => HJ.out.1.cell (p := ⟨g, p, none⟩) hg
        have hc0 : wr.cell? ⟨g, off + j * 3, none⟩ = some (.int .i64 y0) := by rw [hc]; exact q0
        have hc1 : wr.cell? ⟨g, off + j * 3 + 1, none⟩ = some (.int .i64 y1) := by rw [hc]; exact q1
        have hc2 : wr.cell? ⟨g, off + j * 3 + 2, none⟩ = some (.slice au nx cu) := by rw [hc]; exact q2
        have BA : Hid (Below w.heap.size w (wr.alloc (.cells #[.int .i64 y0, .int .i64 y1, .slice au nx cu] 24))) := HJ.out.1.alloc HJ.out.1.size _
        have hcall := HI.out x (.slice au nx cu) _ ((q3.below BA.out).wider BA.out.size) (by have := HM.out.2.2.2; have := T.size_eq; omega)
        obtain ⟨fx, hfx⟩ : ∃ y, x.size = y := ⟨_, rfl⟩
        rw [hy0, hz1, hfx] at hcall
        have HC : Hid _ := hcall
        have HY : Hid (T.ks[j] = x ∧ x.size = fx) := ⟨hx, hfx⟩
        have hsum : c + fx ≤ 2147483647 := by have h1 := HM.out.2.2.2; have h2 := T.size_eq; have h3 := HJ.out.2; omega
        clear hc q0 q1 q2 q3 hx hy0 hz1 hnx hcall hfx hxs
        go_wp2_with fail
        refine Calls.mono HC.out ?_
        rintro e W3 ⟨rfl, b3⟩
        have B3 : Hid (Below w.heap.size w W3) := BA.out.trans (b3.mono BA.out.size)
        clear b3 HC
        go_wp2
        go_roundg (gk - 1)
        case measure => omega
        case rel =>
          refine ⟨j + 1, c + fx, by omega, by go_num, by go_num, hsum, B3.out, ?_⟩
          rw [Tm.sizes_take _ _ hjk, HY.out.1, HY.out.2, HJ.out.2]
          omega
      · have hd : decide ((j : Int) < n) = false := decide_eq_false (by omega)
        have hall : T.ks.take j = T.ks := List.take_of_length_le (by rw [HM.out.2.2.1]; omega)
        go_wp2
        go_ret
        refine ⟨?_, HJ.out.1⟩
        have h1 := HJ.out.2
        rw [hall] at h1
        have h2 := T.size_eq
        have h3 := HS.out
        obtain rfl : c = ts := by omega
        rfl

end Go.Proofs
