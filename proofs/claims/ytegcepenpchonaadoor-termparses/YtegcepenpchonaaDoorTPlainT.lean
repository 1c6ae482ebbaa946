/-
  The contract of plain.Term where both terms are the same one.
-/
import Derived.Test.YtegcepenpchonaaDoorTLeaf
import Derived.Deep.DeepCutAuto
namespace Go.Proofs
open Go.RowKit

set_option maxHeartbeats 8000000 in
set_option maxRecDepth 20000 in
theorem Tryd.plainTerm_same : ∀ (d : Nat) (T : Tm) (va vb : Value) (d' B : Nat) (w : World), Tm.Lies w B d va T → Tm.Lies w B d' vb T → B ≤ w.heap.size → T.size ≤ 2147483647 →
    Calls Tryd.prog 16 #[.agg #[.int .i64 T.op, .int .i64 T.num, va], .agg #[.int .i64 T.op, .int .i64 T.num, vb]] w fun e w' => e = .returned (.bool true) ∧ Below w.heap.size w w' := by
  intro d
  induction d with
  | zero => intro T va vb d' B w h; exact h.elim
  | succ d ih =>
    intro T va vb d' B w hA hB hBs hsz
    cases d' with
    | zero => exact hB.elim
    | succ d' =>
    obtain ⟨a, ca, rfl⟩ := hA.shape
    obtain ⟨b, cb, rfl⟩ := hB.shape
    obtain ⟨o, ho⟩ : ∃ m, T.op = m := ⟨_, rfl⟩
    obtain ⟨m, hm⟩ : ∃ m, T.num = m := ⟨_, rfl⟩
    obtain ⟨n, hn⟩ : ∃ n, T.ks.length = n := ⟨_, rfl⟩
    have hn2 : n ≤ 2147483647 := by have := Tm.length_le_sizes T.ks; have := T.size_eq; omega
    rw [ho, hm, hn]
    rw [hn] at hA hB
    have HA : Hid (Tm.Lies w B (d + 1) (.slice a n ca) T) := hA
    have HB : Hid (Tm.Lies w B (d' + 1) (.slice b n cb) T) := hB
    have HI : Hid _ := ih
    have HM : Hid (T.ks.length = n ∧ B ≤ w.heap.size ∧ T.size ≤ 2147483647) := ⟨hn, hBs, hsz⟩
    obtain ⟨w0, hw0⟩ : ∃ w0, w0 = (w.alloc (.cells #[.int .i64 o, .int .i64 m, .slice a n ca] 24)).alloc (.cells #[.int .i64 o, .int .i64 m, .slice b n cb] 24) := ⟨_, rfl⟩
    have A0 : Hid (Below w.heap.size w w0) := by rw [hw0]; exact ((Below.refl _ w).alloc (Nat.le_refl _) _).alloc (by simp) _
    have S0 : Hid (w0.heap.size = w.heap.size + 2) := by show _ = _; rw [hw0]; simp
    have C0 : Hid (w0.heap[w.heap.size]? = some (.cells #[.int .i64 o, .int .i64 m, .slice a n ca] 24 (0, 0))) := by show _ = _; rw [hw0, Below.heap_alloc _ _ _ (by simp)]; exact heap_alloc_new w _
    have C1 : Hid (w0.heap[w.heap.size + 1]? = some (.cells #[.int .i64 o, .int .i64 m, .slice b n cb] 24 (0, 0))) := by
      show _ = _
      rw [hw0]
      have := heap_alloc_new (w.alloc (.cells #[.int .i64 o, .int .i64 m, .slice a n ca] 24)) (.cells #[.int .i64 o, .int .i64 m, .slice b n cb] 24)
      simpa using this
    have HW0 : Hid (w0 = _) := hw0
    clear ih hA hB ho hm hn hw0 hBs hsz
    go_enter Tryd.func16, Tryd.ntmps16
    go_wp2
    go_loopg [30] n (fun g i wr => ∃ j : Nat, g + j = n ∧ i = .int .i64 j ∧ Hid (Below w0.heap.size w0 wr))
    case atStart => exact ⟨0, by omega, rfl, by rw [HW0.out]; exact Below.refl _ _⟩
    case round =>
      obtain ⟨j, hj, rfl, HJ⟩ := hrel
      by_cases hjn : j < n
      · have hjk : j < T.ks.length := by rw [HM.out.1]; exact hjn
        have hxs := Tm.sizes_get T.ks j hjk
        have hts := T.size_eq
        obtain ⟨g, off, u, rfl, hg, q0, q1, q2, q3⟩ := HA.out.kid j hjk
        obtain ⟨g', off', u', rfl, hg', p0, p1, p2, p3⟩ := HB.out.kid j hjk
        obtain ⟨x, hx⟩ : ∃ x, T.ks[j] = x := ⟨_, rfl⟩
        rw [hx] at q0 q1 q3 p0 p1 p3 hxs
        obtain ⟨au, cu, rfl⟩ := q3.shape
        obtain ⟨bu, du, rfl⟩ := p3.shape
        obtain ⟨nx, hnx⟩ : ∃ n, x.ks.length = n := ⟨_, rfl⟩
        rw [hnx] at q2 q3 p2 p3
        obtain ⟨y0, hy0⟩ : ∃ y, x.op = y := ⟨_, rfl⟩
        obtain ⟨y1, hz1⟩ : ∃ y, x.num = y := ⟨_, rfl⟩
        rw [hy0] at q0 p0
        rw [hz1] at q1 p1
        have hs0 := S0.out
        have hbs := HM.out.2.1
        have hbw : Below w.heap.size w wr := A0.out.trans (HJ.out.mono (by omega))
        have hc : ∀ g p, g < B → wr.cell? ⟨g, p, none⟩ = w.cell? ⟨g, p, none⟩ := fun g p hg => hbw.cell (p := ⟨g, p, none⟩) (by show g < _; omega)
        have hc0 : wr.cell? ⟨g, off + j * 3, none⟩ = some (.int .i64 y0) := by rw [hc _ _ hg]; exact q0
        have hc1 : wr.cell? ⟨g, off + j * 3 + 1, none⟩ = some (.int .i64 y1) := by rw [hc _ _ hg]; exact q1
        have hc2 : wr.cell? ⟨g, off + j * 3 + 2, none⟩ = some (.slice au nx cu) := by rw [hc _ _ hg]; exact q2
        have hd0 : wr.cell? ⟨g', off' + j * 3, none⟩ = some (.int .i64 y0) := by rw [hc _ _ hg']; exact p0
        have hd1 : wr.cell? ⟨g', off' + j * 3 + 1, none⟩ = some (.int .i64 y1) := by rw [hc _ _ hg']; exact p1
        have hd2 : wr.cell? ⟨g', off' + j * 3 + 2, none⟩ = some (.slice bu nx du) := by rw [hc _ _ hg']; exact p2
        obtain ⟨⟨_, _, va2⟩, _⟩ := Tk.row3 ((HJ.out.block _ (by omega)).trans C0.out)
        obtain ⟨⟨_, _, vb2⟩, _⟩ := Tk.row3 ((HJ.out.block _ (by omega)).trans C1.out)
        have HC : Hid (∀ W, Below w0.heap.size w0 W → Calls Tryd.prog 16 #[.agg #[.int .i64 y0, .int .i64 y1, .slice au nx cu], .agg #[.int .i64 y0, .int .i64 y1, .slice bu nx du]] W fun e w' => e = .returned (.bool true) ∧ Below w0.heap.size w0 w') := fun W hW => by
          have hbW : Below w.heap.size w W := A0.out.trans (hW.mono (by omega))
          have := HI.out x (.slice au nx cu) (.slice bu nx du) d' B W (q3.keep fun k hk => hbW.block k (by omega)) (p3.keep fun k hk => hbW.block k (by omega)) (by have := hbW.size; omega) (by have := HM.out.2.2; omega)
          rw [hy0, hz1] at this
          exact this.mono fun e w' ⟨he, hb⟩ => ⟨he, hW.trans (hb.mono hW.size)⟩
        clear hc q0 q1 q2 q3 p0 p1 p2 p3 hx hy0 hz1 hnx hbw hxs hts hg hg' hs0 hbs
        go_upto_region 6 with fail
        go_region_with (first | (go_at_call 16; refine Calls.mono (HC.out _ (by first | exact HJ.out | exact Tk.below_drewN HJ.out _)) ?_; rintro e W3 ⟨rfl, b3⟩) | fail)
        all_goals
          have B3 : Hid (Below w0.heap.size w0 W3) := b3
          clear b3
          go_wp2
          go_roundg (gk - 1)
          case measure => omega
          case rel => exact ⟨j + 1, by omega, by go_num, B3.out⟩
      · go_wp2
        go_ret
        exact ⟨rfl, A0.out.trans (HJ.out.mono A0.out.size)⟩

end Go.Proofs
