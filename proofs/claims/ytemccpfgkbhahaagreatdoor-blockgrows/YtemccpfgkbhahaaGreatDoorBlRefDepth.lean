/-
  The document's Size and Depth of blocks.
-/
import Derived.Test.YtemccpfgkbhahaaGreatDoorBlModel
import Derived.Lib.Hide
import Derived.Deep.DeepCutAuto
namespace Go.Proofs
open Go.RowKit

theorem Tk.ret_intN {a b : Int} (h : a = b) : Ending.returned (.int .i64 a) = .returned (.int .i64 b) := by rw [h]

set_option maxHeartbeats 8000000 in
theorem Tryz.refBDepth_any : ∀ (d : Nat) (T : Bl) (v lv : Value) (w : World), Bl.Lies w w.heap.size d v lv T → T.size ≤ 2147483647 →
    Calls Tryz.prog 13 #[.agg #[.int .i64 T.kind, .int .i64 T.node, .int .i64 T.arg, v, lv]] w fun e w' => e = .returned (.int .i64 T.depth) ∧ Below w.heap.size w w' := by
  intro d
  induction d with
  | zero => intro T v lv w h; exact h.elim
  | succ d ih =>
    intro T v lv w hT hsz
    obtain ⟨a, cap, rfl⟩ := hT.shape
    obtain ⟨al, cl, rfl⟩ := hT.links.shape
    obtain ⟨o, ho⟩ : ∃ m, T.kind = m := ⟨_, rfl⟩
    obtain ⟨m, hm⟩ : ∃ m, T.node = m := ⟨_, rfl⟩
    obtain ⟨r, hr⟩ : ∃ m, T.arg = m := ⟨_, rfl⟩
    obtain ⟨nl, hnl⟩ : ∃ n, T.ls.length = n := ⟨_, rfl⟩
    obtain ⟨n, hn⟩ : ∃ n, T.ks.length = n := ⟨_, rfl⟩
    have hnb : n ≤ 2147483647 := by have h1 := Bl.length_le_sizes T.ks; have h2 := T.size_eq; omega
    rw [ho, hm, hr, hn, hnl]
    rw [hn, hnl] at hT
    have HT : Hid (Bl.Lies w w.heap.size (d + 1) (.slice a n cap) (.slice al nl cl) T) := hT
    have HI : Hid _ := ih
    have HM : Hid (T.kind = o ∧ T.node = m ∧ T.ks.length = n ∧ T.size ≤ 2147483647) := ⟨ho, hm, hn, hsz⟩
    have A0 : Hid (Below w.heap.size w (w.alloc (.cells #[.int .i64 o, .int .i64 m, .int .i64 r, .slice a n cap, .slice al nl cl] 50))) := (Below.refl _ w).alloc (Nat.le_refl _) _
    obtain ⟨ts, hts⟩ : ∃ k, T.depth = k := ⟨_, rfl⟩
    have HS : Hid (T.depth = ts) := hts
    rw [hts]
    clear ih hT ho hm hr hn hnl hsz hts
    go_enter Tryz.func13, Tryz.ntmps13
    go_wp2
    go_loopg [3, 10] n (fun g s i wr => ∃ j c : Nat, g + j = n ∧ i = .int .i64 j ∧ s = .int .i64 c ∧ c ≤ 2147483647 ∧ Hid (Below w.heap.size w wr ∧ c = Bl.depths (T.ks.take j)))
    case atStart => exact ⟨0, 0, by omega, rfl, rfl, by omega, A0.out, by simp [Bl.depths]⟩
    case round =>
      obtain ⟨j, c, hj, rfl, rfl, hcb, HJ⟩ := hrel
      by_cases hjn : j < n
      · have hd : decide ((j : Int) < n) = true := decide_eq_true (by omega)
        have hjk : j < T.ks.length := by rw [HM.out.2.2.1]; exact hjn
        have hxs := Bl.sizes_get T.ks j hjk
        obtain ⟨g, off, u, lu, rfl, hg, q0, q1, q2, q3, q4, q5⟩ := HT.out.kid j hjk
        obtain ⟨x, hx⟩ : ∃ x, T.ks[j] = x := ⟨_, rfl⟩
        rw [hx] at q0 q1 q2 q5 hxs
        obtain ⟨au, cu, rfl⟩ := q5.shape
        obtain ⟨bu, du, rfl⟩ := q5.links.shape
        obtain ⟨mx, hmx⟩ : ∃ n, x.ls.length = n := ⟨_, rfl⟩
        rw [hmx] at q4 q5
        obtain ⟨nx, hnx⟩ : ∃ n, x.ks.length = n := ⟨_, rfl⟩
        rw [hnx] at q3 q5
        obtain ⟨y0, hy0⟩ : ∃ y, x.kind = y := ⟨_, rfl⟩
        obtain ⟨y1, hz1⟩ : ∃ y, x.node = y := ⟨_, rfl⟩
        obtain ⟨y2, hz2⟩ : ∃ y, x.arg = y := ⟨_, rfl⟩
        rw [hz2] at q2
        rw [hy0] at q0
        rw [hz1] at q1
        have hc : ∀ p, wr.cell? ⟨g, p, none⟩ = w.cell? ⟨g, p, none⟩ := fun p => HJ.out.1.cell (p := ⟨g, p, none⟩) hg
        have hc0 : wr.cell? ⟨g, off + j * 5, none⟩ = some (.int .i64 y0) := by rw [hc]; exact q0
        have hc1 : wr.cell? ⟨g, off + j * 5 + 1, none⟩ = some (.int .i64 y1) := by rw [hc]; exact q1
        have hc2 : wr.cell? ⟨g, off + j * 5 + 2, none⟩ = some (.int .i64 y2) := by rw [hc]; exact q2
        have hc3 : wr.cell? ⟨g, off + j * 5 + 3, none⟩ = some (.slice au nx cu) := by rw [hc]; exact q3
        have hc4 : wr.cell? ⟨g, off + j * 5 + 4, none⟩ = some (.slice bu mx du) := by rw [hc]; exact q4
        have BA : Hid (Below w.heap.size w (wr.alloc (.cells #[.int .i64 y0, .int .i64 y1, .int .i64 y2, .slice au nx cu, .slice bu mx du] 50))) := HJ.out.1.alloc HJ.out.1.size _
        have hcall := HI.out x (.slice au nx cu) (.slice bu mx du) _ ((q5.below BA.out).wider BA.out.size) (by have := HM.out.2.2.2; have := T.size_eq; omega)
        obtain ⟨fx, hfx⟩ : ∃ y, x.depth = y := ⟨_, rfl⟩
        rw [hy0, hz1, hz2, hfx] at hcall
        have HC : Hid _ := hcall
        have HY : Hid (T.ks[j] = x ∧ x.depth = fx) := ⟨hx, hfx⟩
        have hsum : fx ≤ 2147483647 := by have h0 := x.depth_le_size; have h1 := HM.out.2.2.2; have h2 := T.size_eq; omega
        clear hc q0 q1 q2 q3 q4 q5 hx hy0 hz1 hz2 hnx hmx hcall hfx hxs
        go_wp2_with fail
        refine Calls.mono HC.out ?_
        rintro e W3 ⟨rfl, b3⟩
        have B3 : Hid (Below w.heap.size w W3) := BA.out.trans (b3.mono BA.out.size)
        clear b3 HC
        by_cases hlt : c < fx
        · have hdd : decide ((c : Int) < fx) = true := decide_eq_true (by omega)
          go_wp2
          go_roundg (gk - 1)
          case measure => omega
          case rel =>
            refine ⟨j + 1, fx, by omega, by go_num, by go_num, hsum, B3.out, ?_⟩
            rw [Bl.depths_take _ _ hjk, HY.out.1, HY.out.2, ← HJ.out.2]
            omega
        · have hdd : decide ((c : Int) < fx) = false := decide_eq_false (by omega)
          go_wp2
          go_roundg (gk - 1)
          case measure => omega
          case rel =>
            refine ⟨j + 1, c, by omega, by go_num, by go_num, hcb, B3.out, ?_⟩
            rw [Bl.depths_take _ _ hjk, HY.out.1, HY.out.2, ← HJ.out.2]
            omega
      · have hd : decide ((j : Int) < n) = false := decide_eq_false (by omega)
        have hall : T.ks.take j = T.ks := List.take_of_length_le (by rw [HM.out.2.2.1]; omega)
        go_wp2
        go_ret
        refine ⟨?_, HJ.out.1⟩
        have h1 := HJ.out.2
        rw [hall] at h1
        have h2 := T.depth_eq
        have h3 := HS.out
        obtain rfl : c + 1 = ts := by omega
        exact Tk.ret_intN rfl



end Go.Proofs
