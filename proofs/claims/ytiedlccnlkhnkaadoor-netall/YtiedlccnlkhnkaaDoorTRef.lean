/-
  The contracts of the document's Depth and form.
-/
import Derived.Test.YtiedlccnlkhnkaaDoorTChk
namespace Go.Proofs
open Go.RowKit

set_option maxHeartbeats 4000000 in
theorem Tryd.depth_any : ∀ (d : Nat) (T : Tm) (v : Value) (w : World), Tm.Lies w w.heap.size d v T → T.size ≤ 2147483647 →
    Calls Tryd.prog 89 #[.agg #[.int .i64 T.op, .int .i64 T.num, v]] w fun e w' => e = .returned (.int .i64 T.depth) ∧ Below w.heap.size w w' := by
  intro d
  induction d with
  | zero => intro T v w h; exact h.elim
  | succ d ih =>
    intro T v w hT hsz
    obtain ⟨a, cap, rfl⟩ := hT.shape
    obtain ⟨o, ho⟩ : ∃ m, T.op = m := ⟨_, rfl⟩
    obtain ⟨m, hm⟩ : ∃ m, T.num = m := ⟨_, rfl⟩
    obtain ⟨n, hn⟩ : ∃ n, T.ks.length = n := ⟨_, rfl⟩
    have hnb : n ≤ 2147483647 := by have h1 := Tm.length_le_sizes T.ks; have h2 := T.size_eq; omega
    rw [ho, hm, hn]
    rw [hn] at hT
    have HT : Hid (Tm.Lies w w.heap.size (d + 1) (.slice a n cap) T) := hT
    have HM : Hid (T.op = o ∧ T.num = m ∧ T.ks.length = n ∧ T.size ≤ 2147483647) := ⟨ho, hm, hn, hsz⟩
    have HI : Hid _ := ih
    have A0 : Hid (Below w.heap.size w (w.alloc (.cells #[.int .i64 o, .int .i64 m, .slice a n cap] 32))) := (Below.refl _ w).alloc (Nat.le_refl _) _
    clear ih hT ho hm hn hsz
    go_enter Tryd.func89, Tryd.ntmps89
    go_wp2
    go_loopg [3, 10] n (fun g s i wr => ∃ j t : Nat, g + j = n ∧ i = .int .i64 j ∧ s = .int .i64 t ∧ t ≤ 2147483647 ∧ Hid (Below w.heap.size w wr ∧ Tm.depths (T.ks.take j) = t))
    case atStart => exact ⟨0, 0, by omega, rfl, rfl, by omega, A0.out, by simp [Tm.depths]⟩
    case round =>
      obtain ⟨j, t, hj, rfl, rfl, ht, HJ⟩ := hrel
      by_cases hjn : j < n
      · have hd : decide ((j : Int) < n) = true := decide_eq_true (by omega)
        have hjk : j < T.ks.length := by rw [HM.out.2.2.1]; exact hjn
        obtain ⟨g, off, u, rfl, hg, q0, q1, q2, q3⟩ := HT.out.kid j hjk
        have hxs := Tm.sizes_get T.ks j hjk
        obtain ⟨x, hx⟩ : ∃ x, T.ks[j] = x := ⟨_, rfl⟩
        rw [hx] at q0 q1 q3 hxs
        obtain ⟨au, cu, rfl⟩ := q3.shape
        obtain ⟨nx, hnx⟩ : ∃ n, x.ks.length = n := ⟨_, rfl⟩
        rw [hnx] at q2 q3
        obtain ⟨y0, hy0⟩ : ∃ y, x.op = y := ⟨_, rfl⟩
        obtain ⟨y1, hz1⟩ : ∃ y, x.num = y := ⟨_, rfl⟩
        rw [hy0] at q0
        rw [hz1] at q1
        have hc : ∀ p, wr.cell? ⟨g, p, none⟩ = w.cell? ⟨g, p, none⟩ := fun p => HJ.out.1.cell (p := ⟨g, p, none⟩) hg
        have hc0 : wr.cell? ⟨g, off + j * 3, none⟩ = some (.int .i64 y0) := by rw [hc]; exact q0
        have hc1 : wr.cell? ⟨g, off + j * 3 + 1, none⟩ = some (.int .i64 y1) := by rw [hc]; exact q1
        have hc2 : wr.cell? ⟨g, off + j * 3 + 2, none⟩ = some (.slice au nx cu) := by rw [hc]; exact q2
        have BA : Hid (Below w.heap.size w (wr.alloc (.cells #[.int .i64 y0, .int .i64 y1, .slice au nx cu] 32))) := HJ.out.1.alloc HJ.out.1.size _
        have hcall := HI.out x (.slice au nx cu) _ ((q3.below BA.out).wider BA.out.size) (by have := HM.out.2.2.2; have := T.size_eq; omega)
        rw [hy0, hz1] at hcall
        obtain ⟨dx, hdx⟩ : ∃ y, x.depth = y := ⟨_, rfl⟩
        rw [hdx] at hcall
        have hdb : dx ≤ 2147483647 := by rw [← hdx]; exact Nat.le_trans (Tm.depth_le_size x) (by have := HM.out.2.2.2; have := T.size_eq; omega)
        have HC : Hid _ := hcall
        have HY : Hid (T.ks[j] = x ∧ x.depth = dx) := ⟨hx, hdx⟩
        clear hc q0 q1 q2 q3 hx hy0 hz1 hnx hcall hxs hdx
        go_wp2_with fail
        refine Calls.mono HC.out ?_
        rintro e W3 ⟨rfl, b3⟩
        have B3 : Hid (Below w.heap.size w W3) := BA.out.trans (b3.mono BA.out.size)
        clear b3 HC
        by_cases hlt : t < dx
        · have hd2 : decide ((t : Int) < dx) = true := decide_eq_true (by omega)
          go_wp2
          go_roundg (gk - 1)
          case measure => omega
          case rel =>
            refine ⟨j + 1, dx, by omega, by go_num, rfl, hdb, B3.out, ?_⟩
            rw [Tm.depths_take _ _ hjk, HY.out.1, HY.out.2, HJ.out.2]
            omega
        · have hd2 : decide ((t : Int) < dx) = false := decide_eq_false (by omega)
          go_wp2
          go_roundg (gk - 1)
          case measure => omega
          case rel =>
            refine ⟨j + 1, t, by omega, by go_num, rfl, ht, B3.out, ?_⟩
            rw [Tm.depths_take _ _ hjk, HY.out.1, HY.out.2, HJ.out.2]
            omega
      · have hd : decide ((j : Int) < n) = false := decide_eq_false (by omega)
        have hall : T.ks.take j = T.ks := List.take_of_length_le (by rw [HM.out.2.2.1]; omega)
        have HZ : Hid (T.depth = t + 1) := by
          show _ = _
          rw [T.depth_eq, ← hall, HJ.out.2]
        go_wp2
        go_ret
        refine ⟨Tk.ret_int ?_, HJ.out.1⟩
        rw [HZ.out]
        omega

end Go.Proofs
