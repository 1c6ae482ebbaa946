/-
  Links held against one another (slices.Equal), and alike.
-/
import Derived.Test.YtemccpfgkbhahaaGreatDoorBlWays
namespace Go.Proofs
open Go.RowKit Go.Shelf

set_option maxRecDepth 20000 in
set_option maxHeartbeats 8000000 in
theorem Tryz.linksEq_any (l1 l2 : List (Int × Int × Int)) (a b : Option Addr) (ca cb B : Nat) (w : World) (h1 : Bl.Lk w B (.slice a l1.length ca) l1) (h2 : Bl.Lk w B (.slice b l2.length cb) l2) (hB : B ≤ w.heap.size) (hn1 : l1.length ≤ 2147483647) :
    Calls Tryz.prog 44 #[.slice a l1.length ca, .slice b l2.length cb] w fun e w' => (∃ r, e = .returned (.bool r) ∧ (r = true ↔ l1 = l2)) ∧ Below w.heap.size w w' := by
  obtain ⟨n, hn⟩ : ∃ n, l1.length = n := ⟨_, rfl⟩
  obtain ⟨m, hm⟩ : ∃ n, l2.length = n := ⟨_, rfl⟩
  have HX : Hid (Bl.Lk w B (.slice a n ca) l1 ∧ Bl.Lk w B (.slice b m cb) l2 ∧ l1.length = n ∧ l2.length = m ∧ B ≤ w.heap.size) := ⟨by rw [← hn]; exact h1, by rw [← hm]; exact h2, hn, hm, hB⟩
  rw [hn] at hn1
  rw [hn, hm]
  clear h1 h2 hn hm hB
  by_cases hnm : n = m
  · subst hnm
    go_enter Tryz.func44, Tryz.ntmps44
    go_wp2
    go_loopg [13] n (fun gk i wr => ∃ j : Nat, gk + j = n ∧ i = .int .i64 j ∧ Hid (Below w.heap.size w wr ∧ l1.take j = l2.take j))
    case atStart => exact ⟨0, by omega, rfl, Below.refl _ _, by simp⟩
    case round =>
      obtain ⟨j, hj, rfl, HJ⟩ := hrel
      by_cases hjn : j < n
      · have hd : decide ((j : Int) < n) = true := decide_eq_true (by omega)
        have hj1 : (j : Int) < n := by omega
        have hj0 : (0 : Int) ≤ j := by omega
        have hx : j < l1.length := by rw [HX.out.2.2.1]; exact hjn
        have hy : j < l2.length := by rw [HX.out.2.2.2.1]; exact hjn
        obtain ⟨a', ca', hv, hl⟩ := HX.out.1
        obtain ⟨rfl, -, -⟩ := Value.slice.inj hv
        obtain ⟨b', cb', hv', hl'⟩ := HX.out.2.1
        obtain ⟨rfl, -, -⟩ := Value.slice.inj hv'
        obtain ⟨g1, off1, rfl, hg1, p0, p1, p2⟩ := hl j hx
        obtain ⟨g2, off2, rfl, hg2, q0, q1, q2⟩ := hl' j hy
        obtain ⟨x, hxe⟩ : ∃ x, l1[j] = x := ⟨_, rfl⟩
        obtain ⟨y, hye⟩ : ∃ x, l2[j] = x := ⟨_, rfl⟩
        obtain ⟨x0, x1, x2⟩ := x
        obtain ⟨y0, y1, y2⟩ := y
        rw [hxe] at p0 p1 p2
        rw [hye] at q0 q1 q2
        have hc1 : ∀ p, wr.cell? ⟨g1, p, none⟩ = w.cell? ⟨g1, p, none⟩ := fun p => HJ.out.1.cell (p := ⟨g1, p, none⟩) (by have := HX.out.2.2.2.2; show g1 < _; omega)
        have hc2 : ∀ p, wr.cell? ⟨g2, p, none⟩ = w.cell? ⟨g2, p, none⟩ := fun p => HJ.out.1.cell (p := ⟨g2, p, none⟩) (by have := HX.out.2.2.2.2; show g2 < _; omega)
        have a0 : wr.cell? ⟨g1, off1 + j * 3, none⟩ = some (.int .i64 x0) := by rw [hc1]; exact p0
        have a1 : wr.cell? ⟨g1, off1 + j * 3 + 1, none⟩ = some (.int .i64 x1) := by rw [hc1]; exact p1
        have a2 : wr.cell? ⟨g1, off1 + j * 3 + 2, none⟩ = some (.int .i64 x2) := by rw [hc1]; exact p2
        have b0 : wr.cell? ⟨g2, off2 + j * 3, none⟩ = some (.int .i64 y0) := by rw [hc2]; exact q0
        have b1 : wr.cell? ⟨g2, off2 + j * 3 + 1, none⟩ = some (.int .i64 y1) := by rw [hc2]; exact q1
        have b2 : wr.cell? ⟨g2, off2 + j * 3 + 2, none⟩ = some (.int .i64 y2) := by rw [hc2]; exact q2
        have HXY : Hid (l1[j] = (x0, x1, x2) ∧ l2[j] = (y0, y1, y2)) := ⟨hxe, hye⟩
        clear hv hv' hl hl' hg1 hg2 p0 p1 p2 q0 q1 q2 hxe hye hc1 hc2
        have hu := Tryz.underlying75
        have hcase : (x0 = y0 ∧ x1 = y1 ∧ x2 = y2) ∨ ((x0 == y0) = true ∧ (x1 == y1) = true ∧ (x2 == y2) = false) ∨ ((x0 == y0) = true ∧ (x1 == y1) = false) ∨ ((x0 == y0) = false) := by
          by_cases h0 : x0 = y0 <;> by_cases h1 : x1 = y1 <;> by_cases h2 : x2 = y2 <;> simp [h0, h1, h2]
        rcases hcase with ⟨rfl, rfl, rfl⟩ | ⟨e0, e1, e2⟩ | ⟨e0, e1⟩ | e0
        · go_wp2
          go_region_held3 (fun W => W.cell? ⟨g1, off1 + j * 3, none⟩ = some (.int .i64 x0) ∧ W.cell? ⟨g1, off1 + j * 3 + 1, none⟩ = some (.int .i64 x1) ∧ W.cell? ⟨g1, off1 + j * 3 + 2, none⟩ = some (.int .i64 x2) ∧ W.cell? ⟨g2, off2 + j * 3, none⟩ = some (.int .i64 x0) ∧ W.cell? ⟨g2, off2 + j * 3 + 1, none⟩ = some (.int .i64 x1) ∧ W.cell? ⟨g2, off2 + j * 3 + 2, none⟩ = some (.int .i64 x2)) (go_keep) (fail)
          have HN : Hid (l1.take (j + 1) = l2.take (j + 1)) := by
            show _ = _
            rw [Bl.take_snoc _ _ hx, Bl.take_snoc _ _ hy, HJ.out.2, HXY.out.1, HXY.out.2]
          go_simp
          go_wp2
          go_roundg (gk - 1)
          case measure => omega
          case rel => exact ⟨j + 1, by omega, by go_num, by first | exact HJ.out.1 | exact HJ.out.1.drew, HN.out⟩
        · have HNE : Hid (l1 ≠ l2) := fun h => by
            subst h
            have := HXY.out.1.symm.trans HXY.out.2
            simp only [Prod.mk.injEq] at this
            simp [this.2.2] at e2
          go_wp2
          go_region_held3 (fun W => W.cell? ⟨g1, off1 + j * 3, none⟩ = some (.int .i64 x0) ∧ W.cell? ⟨g1, off1 + j * 3 + 1, none⟩ = some (.int .i64 x1) ∧ W.cell? ⟨g1, off1 + j * 3 + 2, none⟩ = some (.int .i64 x2) ∧ W.cell? ⟨g2, off2 + j * 3, none⟩ = some (.int .i64 y0) ∧ W.cell? ⟨g2, off2 + j * 3 + 1, none⟩ = some (.int .i64 y1) ∧ W.cell? ⟨g2, off2 + j * 3 + 2, none⟩ = some (.int .i64 y2)) (go_keep) (fail)
          go_simp
          go_wp2
          go_ret
          exact ⟨⟨false, rfl, fun h => by simp at h, fun h => (HNE.out h).elim⟩, by first | exact HJ.out.1 | exact HJ.out.1.drew⟩
        · have HNE : Hid (l1 ≠ l2) := fun h => by
            subst h
            have := HXY.out.1.symm.trans HXY.out.2
            simp only [Prod.mk.injEq] at this
            simp [this.2.1] at e1
          go_wp2
          go_region_held3 (fun W => W.cell? ⟨g1, off1 + j * 3, none⟩ = some (.int .i64 x0) ∧ W.cell? ⟨g1, off1 + j * 3 + 1, none⟩ = some (.int .i64 x1) ∧ W.cell? ⟨g1, off1 + j * 3 + 2, none⟩ = some (.int .i64 x2) ∧ W.cell? ⟨g2, off2 + j * 3, none⟩ = some (.int .i64 y0) ∧ W.cell? ⟨g2, off2 + j * 3 + 1, none⟩ = some (.int .i64 y1) ∧ W.cell? ⟨g2, off2 + j * 3 + 2, none⟩ = some (.int .i64 y2)) (go_keep) (fail)
          go_simp
          go_wp2
          go_ret
          exact ⟨⟨false, rfl, fun h => by simp at h, fun h => (HNE.out h).elim⟩, by first | exact HJ.out.1 | exact HJ.out.1.drew⟩
        · have HNE : Hid (l1 ≠ l2) := fun h => by
            subst h
            have := HXY.out.1.symm.trans HXY.out.2
            simp only [Prod.mk.injEq] at this
            simp [this.1] at e0
          go_wp2
          go_region_held3 (fun W => W.cell? ⟨g1, off1 + j * 3, none⟩ = some (.int .i64 x0) ∧ W.cell? ⟨g1, off1 + j * 3 + 1, none⟩ = some (.int .i64 x1) ∧ W.cell? ⟨g1, off1 + j * 3 + 2, none⟩ = some (.int .i64 x2) ∧ W.cell? ⟨g2, off2 + j * 3, none⟩ = some (.int .i64 y0) ∧ W.cell? ⟨g2, off2 + j * 3 + 1, none⟩ = some (.int .i64 y1) ∧ W.cell? ⟨g2, off2 + j * 3 + 2, none⟩ = some (.int .i64 y2)) (go_keep) (fail)
          go_simp
          go_wp2
          go_ret
          exact ⟨⟨false, rfl, fun h => by simp at h, fun h => (HNE.out h).elim⟩, by first | exact HJ.out.1 | exact HJ.out.1.drew⟩
      · have hd : decide ((j : Int) < n) = false := decide_eq_false (by omega)
        go_wp2
        go_ret
        refine ⟨⟨true, rfl, fun _ => ?_, fun _ => rfl⟩, HJ.out.1⟩
        have h := HJ.out.2
        rwa [List.take_of_length_le (by rw [HX.out.2.2.1]; omega), List.take_of_length_le (by rw [HX.out.2.2.2.1]; omega)] at h
  · have hd : ((n : Int) == (m : Int)) = false := by simp; omega
    go_enter Tryz.func44, Tryz.ntmps44
    go_wp2
    go_ret
    refine ⟨⟨false, rfl, fun h => by simp at h, fun h => ?_⟩, Below.refl _ _⟩
    have := congrArg List.length h
    rw [HX.out.2.2.1, HX.out.2.2.2.1] at this
    exact absurd this hnm

theorem Bl.eq_iff (S T : Bl) : S = T ↔ (S.kind = T.kind ∧ S.node = T.node ∧ S.arg = T.arg ∧ S.ls = T.ls) ∧ S.ks = T.ks := by
  cases S; cases T
  simp only [Bl.mk.injEq, Bl.kind, Bl.node, Bl.arg, Bl.ks, Bl.ls]
  constructor
  · rintro ⟨h1, h2, h3, h4, h5⟩; exact ⟨⟨h1, h2, h3, h5⟩, h4⟩
  · rintro ⟨⟨h1, h2, h3, h5⟩, h4⟩; exact ⟨h1, h2, h3, h4, h5⟩

set_option maxRecDepth 20000 in
set_option maxHeartbeats 8000000 in
theorem Tryz.balike_any (k1 n1 r1 k2 n2 r2 : Int) (a b : Option Addr) (la ca lb cb : Nat) (l1 l2 : List (Int × Int × Int)) (p q : Option Addr) (cp cq B : Nat) (w : World) (h1 : Bl.Lk w B (.slice p l1.length cp) l1) (h2 : Bl.Lk w B (.slice q l2.length cq) l2) (hB : B ≤ w.heap.size) (hn1 : l1.length ≤ 2147483647) :
    Calls Tryz.prog 24 #[.agg #[.int .i64 k1, .int .i64 n1, .int .i64 r1, .slice a la ca, .slice p l1.length cp], .agg #[.int .i64 k2, .int .i64 n2, .int .i64 r2, .slice b lb cb, .slice q l2.length cq]] w fun e w' => (∃ r, e = .returned (.bool r) ∧ (r = true ↔ (k1 = k2 ∧ n1 = n2 ∧ r1 = r2 ∧ l1 = l2))) ∧ Below w.heap.size w w' := by
  obtain ⟨n, hn⟩ : ∃ n, l1.length = n := ⟨_, rfl⟩
  obtain ⟨m, hm⟩ : ∃ n, l2.length = n := ⟨_, rfl⟩
  have B0 : Below w.heap.size w ((w.alloc (.cells #[.int .i64 k1, .int .i64 n1, .int .i64 r1, .slice a la ca, .slice p n cp] 29)).alloc (.cells #[.int .i64 k2, .int .i64 n2, .int .i64 r2, .slice b lb cb, .slice q m cq] 29)) := ((Below.refl _ w).alloc (Nat.le_refl _) _).alloc (by simp) _
  have hcall := Tryz.linksEq_any l1 l2 p q cp cq B _ (h1.below (B0.mono hB)) (h2.below (B0.mono hB)) (Nat.le_trans hB B0.size) hn1
  rw [hn, hm] at hcall
  rw [hn, hm]
  have HC : Hid _ := hcall
  have HB : Hid _ := B0
  clear h1 h2 hB hn1 hn hm hcall B0
  have hcase : (k1 = k2 ∧ n1 = n2 ∧ r1 = r2) ∨ ((k1 == k2) = true ∧ (n1 == n2) = true ∧ (r1 == r2) = false) ∨ ((k1 == k2) = true ∧ (n1 == n2) = false) ∨ ((k1 == k2) = false) := by
    by_cases h0 : k1 = k2 <;> by_cases h1 : n1 = n2 <;> by_cases h2 : r1 = r2 <;> simp [h0, h1, h2]
  rcases hcase with ⟨rfl, rfl, rfl⟩ | ⟨e0, e1, e2⟩ | ⟨e0, e1⟩ | e0
  · go_enter Tryz.func24, Tryz.ntmps24
    go_wp2_with fail
    refine Calls.mono HC.out ?_
    rintro e W ⟨⟨r, rfl, hr⟩, hb⟩
    have X : Hid ((r = true ↔ l1 = l2) ∧ Below w.heap.size w W) := ⟨hr, HB.out.trans (hb.mono HB.out.size)⟩
    clear hr hb HC
    go_wp2
    go_ret
    exact ⟨⟨r, rfl, by simpa using X.out.1⟩, X.out.2⟩
  · have HE : Hid (r1 ≠ r2) := by show _ ≠ _; simpa using e2
    clear HC
    go_enter Tryz.func24, Tryz.ntmps24
    go_wp2
    go_ret
    exact ⟨⟨false, rfl, fun h => by simp at h, fun h => (HE.out h.2.2.1).elim⟩, HB.out⟩
  · have HE : Hid (n1 ≠ n2) := by show _ ≠ _; simpa using e1
    clear HC
    go_enter Tryz.func24, Tryz.ntmps24
    go_wp2
    go_ret
    exact ⟨⟨false, rfl, fun h => by simp at h, fun h => (HE.out h.2.1).elim⟩, HB.out⟩
  · have HE : Hid (k1 ≠ k2) := by show _ ≠ _; simpa using e0
    clear HC
    go_enter Tryz.func24, Tryz.ntmps24
    go_wp2
    go_ret
    exact ⟨⟨false, rfl, fun h => by simp at h, fun h => (HE.out h.1).elim⟩, HB.out⟩

end Go.Proofs
