/-
  The document's Same of blocks.
-/
import Derived.Test.YtomcaophaglljaaDoorBlLinks
namespace Go.Proofs
open Go.RowKit Go.Shelf

/-- It tells whether they are the same. -/
def Bk.Told (S T : Bl) (e : Ending) : Prop := ∃ r, e = .returned (.bool r) ∧ (r = true ↔ S = T)

set_option maxRecDepth 20000 in
set_option maxHeartbeats 16000000 in
theorem Tryd.refBSame_any : ∀ (d : Nat) (S T : Bl) (u lu v lv : Value) (d' B : Nat) (w : World), Bl.Lies w B d u lu S → Bl.Lies w B d' v lv T → B ≤ w.heap.size → S.size ≤ 2147483647 → S.allP (fun _ _ _ ls => decide (ls.length ≤ 2147483647)) = true →
    Calls Tryd.prog 13 #[.agg #[.int .i64 S.kind, .int .i64 S.node, .int .i64 S.arg, u, lu], .agg #[.int .i64 T.kind, .int .i64 T.node, .int .i64 T.arg, v, lv]] w fun e w' => Bk.Told S T e ∧ Below w.heap.size w w' := by
  intro d
  induction d with
  | zero => intro S T u lu v lv d' B w h; exact h.elim
  | succ d ih =>
    intro S T u lu v lv d' B w hS hT hBs hsz hlk
    cases d' with
    | zero => exact hT.elim
    | succ d' =>
    obtain ⟨a, ca, rfl⟩ := hS.shape
    obtain ⟨b, cb, rfl⟩ := hT.shape
    obtain ⟨al, cal, rfl⟩ := hS.links.shape
    obtain ⟨bl, cbl, rfl⟩ := hT.links.shape
    obtain ⟨x0, hx0⟩ : ∃ z, S.kind = z := ⟨_, rfl⟩
    obtain ⟨x1, hx1⟩ : ∃ z, S.node = z := ⟨_, rfl⟩
    obtain ⟨x2, hx2⟩ : ∃ z, S.arg = z := ⟨_, rfl⟩
    obtain ⟨y0, hy0⟩ : ∃ z, T.kind = z := ⟨_, rfl⟩
    obtain ⟨y1, hy1⟩ : ∃ z, T.node = z := ⟨_, rfl⟩
    obtain ⟨y2, hy2⟩ : ∃ z, T.arg = z := ⟨_, rfl⟩
    obtain ⟨nl, hnl⟩ : ∃ n, S.ls.length = n := ⟨_, rfl⟩
    obtain ⟨ml, hml⟩ : ∃ n, T.ls.length = n := ⟨_, rfl⟩
    obtain ⟨n, hn⟩ : ∃ n, S.ks.length = n := ⟨_, rfl⟩
    obtain ⟨m, hm⟩ : ∃ n, T.ks.length = n := ⟨_, rfl⟩
    rw [hx0, hx1, hx2, hy0, hy1, hy2, hn, hm, hnl, hml]
    rw [hn, hnl] at hS
    rw [hm, hml] at hT
    obtain ⟨w2, hw2⟩ : ∃ x, (w.alloc (.cells #[.int .i64 x0, .int .i64 x1, .int .i64 x2, .slice a n ca, .slice al nl cal] 34)).alloc (.cells #[.int .i64 y0, .int .i64 y1, .int .i64 y2, .slice b m cb, .slice bl ml cbl] 34) = x := ⟨_, rfl⟩
    have hs2 : w2.heap.size = w.heap.size + 2 := by rw [← hw2]; simp
    have A2 : Below w.heap.size w w2 := by rw [← hw2]; exact ((Below.refl _ w).alloc (Nat.le_refl _) _).alloc (by simp) _
    have C0 : w2.heap[w.heap.size]? = some (.cells #[.int .i64 x0, .int .i64 x1, .int .i64 x2, .slice a n ca, .slice al nl cal] 34 (0, 0)) := by rw [← hw2, Below.heap_alloc _ _ _ (by simp)]; exact heap_alloc_new w _
    have C1 : w2.heap[w.heap.size + 1]? = some (.cells #[.int .i64 y0, .int .i64 y1, .int .i64 y2, .slice b m cb, .slice bl ml cbl] 34 (0, 0)) := by
      rw [← hw2]
      have := heap_alloc_new (w.alloc (.cells #[.int .i64 x0, .int .i64 x1, .int .i64 x2, .slice a n ca, .slice al nl cal] 34)) (.cells #[.int .i64 y0, .int .i64 y1, .int .i64 y2, .slice b m cb, .slice bl ml cbl] 34)
      simpa using this
    have CF : Hid (∀ W, Below w2.heap.size w2 W → W.cell? ⟨w.heap.size, 3, none⟩ = some (.slice a n ca) ∧ W.cell? ⟨w.heap.size, 4, none⟩ = some (.slice al nl cal) ∧ W.cell? ⟨w.heap.size + 1, 3, none⟩ = some (.slice b m cb) ∧ W.cell? ⟨w.heap.size + 1, 4, none⟩ = some (.slice bl ml cbl)) := fun W hb => by
      have e1 := (hb.block w.heap.size (by omega)).trans C0
      have e2 := (hb.block (w.heap.size + 1) (by omega)).trans C1
      exact ⟨by simp [World.cell?, e1], by simp [World.cell?, e1], by simp [World.cell?, e2], by simp [World.cell?, e2]⟩
    have BW : Hid (∀ W, Below w2.heap.size w2 W → Below w.heap.size w W) := fun W hb => A2.trans (hb.mono (by omega))
    have HX : Hid (Bl.Lies w B (d + 1) (.slice a n ca) (.slice al nl cal) S ∧ Bl.Lies w B (d' + 1) (.slice b m cb) (.slice bl ml cbl) T ∧ S.ks.length = n ∧ T.ks.length = m ∧ S.ls.length = nl ∧ T.ls.length = ml ∧ B ≤ w.heap.size ∧ S.size ≤ 2147483647) := ⟨hS, hT, hn, hm, hnl, hml, hBs, hsz⟩
    have HLK : Hid (S.ls.length ≤ 2147483647 ∧ Bl.allPs (fun _ _ _ ls => decide (ls.length ≤ 2147483647)) S.ks = true) := by
      have h := hlk
      rw [S.allP_eq, Bool.and_eq_true, decide_eq_true_iff] at h
      exact h
    have HE : Hid (S = T ↔ (x0 = y0 ∧ x1 = y1 ∧ x2 = y2 ∧ S.ls = T.ls) ∧ S.ks = T.ks) := by
      show _ ↔ _
      rw [Bl.eq_iff S T, hx0, hx1, hx2, hy0, hy1, hy2]
    have HI : Hid _ := ih
    have H2 : Hid ((w.alloc (.cells #[.int .i64 x0, .int .i64 x1, .int .i64 x2, .slice a n ca, .slice al nl cal] 34)).alloc (.cells #[.int .i64 y0, .int .i64 y1, .int .i64 y2, .slice b m cb, .slice bl ml cbl] 34) = w2) := hw2
    have BR : Hid (Below w2.heap.size w2 w2) := Below.refl _ _
    have hnb : n ≤ 2147483647 := by have h1 := Bl.length_le_sizes S.ks; have h2 := S.size_eq; omega
    have hnlb : nl ≤ 2147483647 := by have := HLK.out.1; omega
    clear ih hS hT hBs hsz hlk hx0 hx1 hx2 hy0 hy1 hy2 hn hm hnl hml hw2 hs2 A2 C0 C1
    have hcase : (x0 = y0 ∧ x1 = y1 ∧ x2 = y2 ∧ n = m ∧ nl = ml) ∨ (x0 ≠ y0) ∨ (x0 = y0 ∧ x1 ≠ y1) ∨ (x0 = y0 ∧ x1 = y1 ∧ x2 ≠ y2) ∨ (x0 = y0 ∧ x1 = y1 ∧ x2 = y2 ∧ n ≠ m) ∨ (x0 = y0 ∧ x1 = y1 ∧ x2 = y2 ∧ n = m ∧ nl ≠ ml) := by omega
    rcases hcase with ⟨rfl, rfl, rfl, rfl, rfl⟩ | h | ⟨rfl, h⟩ | ⟨rfl, rfl, h⟩ | ⟨rfl, rfl, rfl, h⟩ | ⟨rfl, rfl, rfl, rfl, h⟩
    · go_enter Tryd.func13, Tryd.ntmps13
      go_wp2
      rw [H2.out]
      go_loopg [47] nl (fun gk i wr => ∃ j : Nat, gk + j = nl ∧ i = .int .i64 j ∧ Hid (Below w2.heap.size w2 wr ∧ S.ls.take j = T.ls.take j))
      case atStart => exact ⟨0, by omega, rfl, BR.out, by simp⟩
      case round =>
        obtain ⟨j, hj, rfl, HJ⟩ := hrel
        by_cases hjn : j < nl
        · have hd : decide ((j : Int) < nl) = true := decide_eq_true (by omega)
          have hj1 : (j : Int) < nl := by omega
          have hj0 : (0 : Int) ≤ j := by omega
          have hx : j < S.ls.length := by rw [HX.out.2.2.2.2.1]; exact hjn
          have hy : j < T.ls.length := by rw [HX.out.2.2.2.2.2.1]; exact hjn
          obtain ⟨a', ca', hv, hl⟩ := HX.out.1.links
          obtain ⟨rfl, -, -⟩ := Value.slice.inj hv
          obtain ⟨b', cb', hv', hl'⟩ := HX.out.2.1.links
          obtain ⟨rfl, -, -⟩ := Value.slice.inj hv'
          obtain ⟨g1, off1, rfl, hg1, r0, r1, r2⟩ := hl j hx
          obtain ⟨g2, off2, rfl, hg2, t0, t1, t2⟩ := hl' j hy
          obtain ⟨x, hxe⟩ : ∃ x, S.ls[j] = x := ⟨_, rfl⟩
          obtain ⟨y, hye⟩ : ∃ x, T.ls[j] = x := ⟨_, rfl⟩
          obtain ⟨p0, p1, p2⟩ := x
          obtain ⟨q0, q1, q2⟩ := y
          rw [hxe] at r0 r1 r2
          rw [hye] at t0 t1 t2
          have hbw := BW.out _ HJ.out.1
          have hc1 : ∀ p, wr.cell? ⟨g1, p, none⟩ = w.cell? ⟨g1, p, none⟩ := fun p => hbw.cell (p := ⟨g1, p, none⟩) (by have := HX.out.2.2.2.2.2.2.1; show g1 < _; omega)
          have hc2 : ∀ p, wr.cell? ⟨g2, p, none⟩ = w.cell? ⟨g2, p, none⟩ := fun p => hbw.cell (p := ⟨g2, p, none⟩) (by have := HX.out.2.2.2.2.2.2.1; show g2 < _; omega)
          have a0 : wr.cell? ⟨g1, off1 + j * 3, none⟩ = some (.int .i64 p0) := by rw [hc1]; exact r0
          have a1 : wr.cell? ⟨g1, off1 + j * 3 + 1, none⟩ = some (.int .i64 p1) := by rw [hc1]; exact r1
          have a2 : wr.cell? ⟨g1, off1 + j * 3 + 2, none⟩ = some (.int .i64 p2) := by rw [hc1]; exact r2
          have b0 : wr.cell? ⟨g2, off2 + j * 3, none⟩ = some (.int .i64 q0) := by rw [hc2]; exact t0
          have b1 : wr.cell? ⟨g2, off2 + j * 3 + 1, none⟩ = some (.int .i64 q1) := by rw [hc2]; exact t1
          have b2 : wr.cell? ⟨g2, off2 + j * 3 + 2, none⟩ = some (.int .i64 q2) := by rw [hc2]; exact t2
          have HXY : Hid (S.ls[j] = (p0, p1, p2) ∧ T.ls[j] = (q0, q1, q2)) := ⟨hxe, hye⟩
          obtain ⟨_, f1, _, f2⟩ := CF.out wr HJ.out.1
          clear hv hv' hl hl' hg1 hg2 r0 r1 r2 t0 t1 t2 hxe hye hc1 hc2 hbw
          have hcase : (p0 = q0 ∧ p1 = q1 ∧ p2 = q2) ∨ ((p0 == q0) = true ∧ (p1 == q1) = true ∧ (p2 == q2) = false) ∨ ((p0 == q0) = true ∧ (p1 == q1) = false) ∨ ((p0 == q0) = false) := by
            by_cases h0 : p0 = q0 <;> by_cases h1 : p1 = q1 <;> by_cases h2 : p2 = q2 <;> simp [h0, h1, h2]
          have HNE0 : Hid ((p0, p1, p2) ≠ (q0, q1, q2) → S ≠ T) := fun hne h => by
            subst h
            exact hne (HXY.out.1.symm.trans HXY.out.2)
          rcases hcase with ⟨rfl, rfl, rfl⟩ | ⟨e0, e1, e2⟩ | ⟨e0, e1⟩ | e0
          · go_wp2
            go_region_held3 (fun W => W.cell? ⟨w.heap.size, 4, none⟩ = some (.slice (some ⟨g1, off1, none⟩) nl cal) ∧ W.cell? ⟨w.heap.size + 1, 4, none⟩ = some (.slice (some ⟨g2, off2, none⟩) nl cbl) ∧ W.cell? ⟨g1, off1 + j * 3, none⟩ = some (.int .i64 p0) ∧ W.cell? ⟨g1, off1 + j * 3 + 1, none⟩ = some (.int .i64 p1) ∧ W.cell? ⟨g1, off1 + j * 3 + 2, none⟩ = some (.int .i64 p2) ∧ W.cell? ⟨g2, off2 + j * 3, none⟩ = some (.int .i64 p0) ∧ W.cell? ⟨g2, off2 + j * 3 + 1, none⟩ = some (.int .i64 p1) ∧ W.cell? ⟨g2, off2 + j * 3 + 2, none⟩ = some (.int .i64 p2)) (go_keep) (fail)
            have HN : Hid (S.ls.take (j + 1) = T.ls.take (j + 1)) := by
              show _ = _
              rw [Bl.take_snoc _ _ hx, Bl.take_snoc _ _ hy, HJ.out.2, HXY.out.1, HXY.out.2]
            go_simp
            go_wp2
            go_roundg (gk - 1)
            case measure => omega
            case rel => exact ⟨j + 1, by omega, by go_num, by first | exact HJ.out.1 | exact HJ.out.1.drew, HN.out⟩
          · have HNE : Hid (S ≠ T) := HNE0.out (by intro h; simp only [Prod.mk.injEq] at h; simp [h.2.2] at e2)
            go_wp2
            go_region_held3 (fun W => W.cell? ⟨w.heap.size, 4, none⟩ = some (.slice (some ⟨g1, off1, none⟩) nl cal) ∧ W.cell? ⟨w.heap.size + 1, 4, none⟩ = some (.slice (some ⟨g2, off2, none⟩) nl cbl) ∧ W.cell? ⟨g1, off1 + j * 3, none⟩ = some (.int .i64 p0) ∧ W.cell? ⟨g1, off1 + j * 3 + 1, none⟩ = some (.int .i64 p1) ∧ W.cell? ⟨g1, off1 + j * 3 + 2, none⟩ = some (.int .i64 p2) ∧ W.cell? ⟨g2, off2 + j * 3, none⟩ = some (.int .i64 q0) ∧ W.cell? ⟨g2, off2 + j * 3 + 1, none⟩ = some (.int .i64 q1) ∧ W.cell? ⟨g2, off2 + j * 3 + 2, none⟩ = some (.int .i64 q2)) (go_keep) (fail)
            go_simp
            go_wp2
            go_ret
            exact ⟨⟨false, rfl, fun h => by simp at h, fun h => (HNE.out h).elim⟩, by first | exact BW.out _ HJ.out.1 | exact BW.out _ HJ.out.1.drew⟩
          · have HNE : Hid (S ≠ T) := HNE0.out (by intro h; simp only [Prod.mk.injEq] at h; simp [h.2.1] at e1)
            go_wp2
            go_region_held3 (fun W => W.cell? ⟨w.heap.size, 4, none⟩ = some (.slice (some ⟨g1, off1, none⟩) nl cal) ∧ W.cell? ⟨w.heap.size + 1, 4, none⟩ = some (.slice (some ⟨g2, off2, none⟩) nl cbl) ∧ W.cell? ⟨g1, off1 + j * 3, none⟩ = some (.int .i64 p0) ∧ W.cell? ⟨g1, off1 + j * 3 + 1, none⟩ = some (.int .i64 p1) ∧ W.cell? ⟨g1, off1 + j * 3 + 2, none⟩ = some (.int .i64 p2) ∧ W.cell? ⟨g2, off2 + j * 3, none⟩ = some (.int .i64 q0) ∧ W.cell? ⟨g2, off2 + j * 3 + 1, none⟩ = some (.int .i64 q1) ∧ W.cell? ⟨g2, off2 + j * 3 + 2, none⟩ = some (.int .i64 q2)) (go_keep) (fail)
            go_simp
            go_wp2
            go_ret
            exact ⟨⟨false, rfl, fun h => by simp at h, fun h => (HNE.out h).elim⟩, by first | exact BW.out _ HJ.out.1 | exact BW.out _ HJ.out.1.drew⟩
          · have HNE : Hid (S ≠ T) := HNE0.out (by intro h; simp only [Prod.mk.injEq] at h; simp [h.1] at e0)
            go_wp2
            go_region_held3 (fun W => W.cell? ⟨w.heap.size, 4, none⟩ = some (.slice (some ⟨g1, off1, none⟩) nl cal) ∧ W.cell? ⟨w.heap.size + 1, 4, none⟩ = some (.slice (some ⟨g2, off2, none⟩) nl cbl) ∧ W.cell? ⟨g1, off1 + j * 3, none⟩ = some (.int .i64 p0) ∧ W.cell? ⟨g1, off1 + j * 3 + 1, none⟩ = some (.int .i64 p1) ∧ W.cell? ⟨g1, off1 + j * 3 + 2, none⟩ = some (.int .i64 p2) ∧ W.cell? ⟨g2, off2 + j * 3, none⟩ = some (.int .i64 q0) ∧ W.cell? ⟨g2, off2 + j * 3 + 1, none⟩ = some (.int .i64 q1) ∧ W.cell? ⟨g2, off2 + j * 3 + 2, none⟩ = some (.int .i64 q2)) (go_keep) (fail)
            go_simp
            go_wp2
            go_ret
            exact ⟨⟨false, rfl, fun h => by simp at h, fun h => (HNE.out h).elim⟩, by first | exact BW.out _ HJ.out.1 | exact BW.out _ HJ.out.1.drew⟩
        · have hd : decide ((j : Int) < nl) = false := decide_eq_false (by omega)
          have HLS : Hid (S.ls = T.ls) := by
            have h := HJ.out.2
            rwa [List.take_of_length_le (by rw [HX.out.2.2.2.2.1]; omega), List.take_of_length_le (by rw [HX.out.2.2.2.2.2.1]; omega)] at h
          obtain ⟨f1, _, _, _⟩ := CF.out _ HJ.out.1
          have HB1 : Hid (Below w2.heap.size w2 _) := HJ.out.1
          clear HJ
          go_wp2
          clear f1
          go_loopg [65] n (fun gk i wr => ∃ j : Nat, gk + j = n ∧ i = .int .i64 j ∧ Hid (Below w2.heap.size w2 wr ∧ S.ks.take j = T.ks.take j))
          case atStart => exact ⟨0, by omega, rfl, HB1.out, by simp⟩
          case round =>
            obtain ⟨j, hj, rfl, HJ⟩ := hrel
            by_cases hjn : j < n
            · have hd : decide ((j : Int) < n) = true := decide_eq_true (by omega)
              have hj1 : (j : Int) < n := by omega
              have hj0 : (0 : Int) ≤ j := by omega
              have hx : j < S.ks.length := by rw [HX.out.2.2.1]; exact hjn
              have hy : j < T.ks.length := by rw [HX.out.2.2.2.1]; exact hjn
              obtain ⟨g1, off1, u1, l1, rfl, hg1, r0, r1, r2, r3, r4, r5⟩ := HX.out.1.kid j hx
              obtain ⟨g2, off2, u2, l2, rfl, hg2, t0, t1, t2, t3, t4, t5⟩ := HX.out.2.1.kid j hy
              have hxs := Bl.sizes_get S.ks j hx
              have hxl := Bl.allPs_get _ S.ks HLK.out.2 j hx
              obtain ⟨x, hxe⟩ : ∃ x, S.ks[j] = x := ⟨_, rfl⟩
              obtain ⟨y, hye⟩ : ∃ x, T.ks[j] = x := ⟨_, rfl⟩
              rw [hxe] at r0 r1 r2 r5 hxs hxl
              rw [hye] at t0 t1 t2 t5
              obtain ⟨au, cu, rfl⟩ := r5.shape
              obtain ⟨av, cv, rfl⟩ := t5.shape
              obtain ⟨bu, du, rfl⟩ := r5.links.shape
              obtain ⟨bv, dv, rfl⟩ := t5.links.shape
              have CS0 := fun W hb hbs => HI.out x y _ _ _ _ d' B W (r5.below hb) (t5.below hb) hbs (by have := HX.out.2.2.2.2.2.2.2; have := S.size_eq; omega) hxl
              obtain ⟨nx, hnx⟩ : ∃ n, x.ks.length = n := ⟨_, rfl⟩
              obtain ⟨ny, hny⟩ : ∃ n, y.ks.length = n := ⟨_, rfl⟩
              obtain ⟨mx, hmx⟩ : ∃ n, x.ls.length = n := ⟨_, rfl⟩
              obtain ⟨my, hmy⟩ : ∃ n, y.ls.length = n := ⟨_, rfl⟩
              obtain ⟨p0, hp0⟩ : ∃ z, x.kind = z := ⟨_, rfl⟩
              obtain ⟨p1, hp1⟩ : ∃ z, x.node = z := ⟨_, rfl⟩
              obtain ⟨p2, hp2⟩ : ∃ z, x.arg = z := ⟨_, rfl⟩
              obtain ⟨q0, hq0⟩ : ∃ z, y.kind = z := ⟨_, rfl⟩
              obtain ⟨q1, hq1⟩ : ∃ z, y.node = z := ⟨_, rfl⟩
              obtain ⟨q2, hq2⟩ : ∃ z, y.arg = z := ⟨_, rfl⟩
              rw [hnx] at r3
              rw [hny] at t3
              rw [hmx] at r4
              rw [hmy] at t4
              rw [hp0] at r0
              rw [hp1] at r1
              rw [hp2] at r2
              rw [hq0] at t0
              rw [hq1] at t1
              rw [hq2] at t2
              rw [hnx, hny, hmx, hmy, hp0, hp1, hp2, hq0, hq1, hq2] at CS0
              have CS : Hid (∀ W, Below w2.heap.size w2 W → Calls Tryd.prog 13 #[.agg #[.int .i64 p0, .int .i64 p1, .int .i64 p2, .slice au nx cu, .slice bu mx du], .agg #[.int .i64 q0, .int .i64 q1, .int .i64 q2, .slice av ny cv, .slice bv my dv]] W fun e w' => ∃ r, e = .returned (.bool r) ∧ Hid ((r = true ↔ x = y) ∧ Below w2.heap.size w2 w')) := fun W hb => by
                have hbw := BW.out W hb
                refine (CS0 W (hbw.mono HX.out.2.2.2.2.2.2.1) (Nat.le_trans HX.out.2.2.2.2.2.2.1 hbw.size)).mono ?_
                rintro e w' ⟨⟨r, he, hr⟩, hb'⟩
                exact ⟨r, he, hr, hb.trans (hb'.mono hb.size)⟩
              have SF : Hid (∀ W, Below w2.heap.size w2 W → ((fun W => W.cell? ⟨w.heap.size, 3, none⟩ = some (.slice (some ⟨g1, off1, none⟩) n ca) ∧ W.cell? ⟨w.heap.size + 1, 3, none⟩ = some (.slice (some ⟨g2, off2, none⟩) n cb) ∧ W.cell? ⟨g1, off1 + j * 5, none⟩ = some (.int .i64 p0) ∧ W.cell? ⟨g1, off1 + j * 5 + 1, none⟩ = some (.int .i64 p1) ∧ W.cell? ⟨g1, off1 + j * 5 + 2, none⟩ = some (.int .i64 p2) ∧ W.cell? ⟨g1, off1 + j * 5 + 3, none⟩ = some (.slice au nx cu) ∧ W.cell? ⟨g1, off1 + j * 5 + 4, none⟩ = some (.slice bu mx du) ∧ W.cell? ⟨g2, off2 + j * 5, none⟩ = some (.int .i64 q0) ∧ W.cell? ⟨g2, off2 + j * 5 + 1, none⟩ = some (.int .i64 q1) ∧ W.cell? ⟨g2, off2 + j * 5 + 2, none⟩ = some (.int .i64 q2) ∧ W.cell? ⟨g2, off2 + j * 5 + 3, none⟩ = some (.slice av ny cv) ∧ W.cell? ⟨g2, off2 + j * 5 + 4, none⟩ = some (.slice bv my dv))) W) := fun W hb => by
                have hbw := BW.out W hb
                have hc1 : ∀ p, W.cell? ⟨g1, p, none⟩ = w.cell? ⟨g1, p, none⟩ := fun p => hbw.cell (p := ⟨g1, p, none⟩) (by have := HX.out.2.2.2.2.2.2.1; show g1 < _; omega)
                have hc2 : ∀ p, W.cell? ⟨g2, p, none⟩ = w.cell? ⟨g2, p, none⟩ := fun p => hbw.cell (p := ⟨g2, p, none⟩) (by have := HX.out.2.2.2.2.2.2.1; show g2 < _; omega)
                have h4 := CF.out W hb
                exact ⟨h4.1, h4.2.2.1, by rw [hc1]; exact r0, by rw [hc1]; exact r1, by rw [hc1]; exact r2, by rw [hc1]; exact r3, by rw [hc1]; exact r4, by rw [hc2]; exact t0, by rw [hc2]; exact t1, by rw [hc2]; exact t2, by rw [hc2]; exact t3, by rw [hc2]; exact t4⟩
              have HXY : Hid (S.ks[j] = x ∧ T.ks[j] = y) := ⟨hxe, hye⟩
              have BJ : Hid (Below w2.heap.size w2 _) := HJ.out.1
              clear CS0 hg1 hg2 r0 r1 r2 r3 r4 r5 t0 t1 t2 t3 t4 t5 hxe hye hxs hxl hnx hny hmx hmy hp0 hp1 hp2 hq0 hq1 hq2
              go_wp2
              go_region_held3 (fun W => W.cell? ⟨w.heap.size, 3, none⟩ = some (.slice (some ⟨g1, off1, none⟩) n ca) ∧ W.cell? ⟨w.heap.size + 1, 3, none⟩ = some (.slice (some ⟨g2, off2, none⟩) n cb) ∧ W.cell? ⟨g1, off1 + j * 5, none⟩ = some (.int .i64 p0) ∧ W.cell? ⟨g1, off1 + j * 5 + 1, none⟩ = some (.int .i64 p1) ∧ W.cell? ⟨g1, off1 + j * 5 + 2, none⟩ = some (.int .i64 p2) ∧ W.cell? ⟨g1, off1 + j * 5 + 3, none⟩ = some (.slice au nx cu) ∧ W.cell? ⟨g1, off1 + j * 5 + 4, none⟩ = some (.slice bu mx du) ∧ W.cell? ⟨g2, off2 + j * 5, none⟩ = some (.int .i64 q0) ∧ W.cell? ⟨g2, off2 + j * 5 + 1, none⟩ = some (.int .i64 q1) ∧ W.cell? ⟨g2, off2 + j * 5 + 2, none⟩ = some (.int .i64 q2) ∧ W.cell? ⟨g2, off2 + j * 5 + 3, none⟩ = some (.slice av ny cv) ∧ W.cell? ⟨g2, off2 + j * 5 + 4, none⟩ = some (.slice bv my dv))
                (first | exact SF.out _ H4.out.2 | exact SF.out _ BJ.out.drew | exact SF.out _ BJ.out)
                (first
                | (go_simp; go_at_call 13; refine Calls.mono (CS.out _ ?_) ?_; (first | exact BJ.out.drew | exact BJ.out | exact Tk.below_drewN BJ.out _); rintro e W4 ⟨r, rfl, H4⟩))
              clear CS SF BJ
              cases r
              · have HNE : Hid (S ≠ T) := fun h => by
                  have h1 := H4.out.1.2 (by rw [← HXY.out.1, ← HXY.out.2]; simp only [h])
                  simp at h1
                have HB4 : Hid (Below w2.heap.size w2 W4) := H4.out.2
                clear H4
                go_simp
                go_wp2
                go_ret
                exact ⟨⟨false, rfl, fun h => by simp at h, fun h => (HNE.out h).elim⟩, BW.out _ HB4.out⟩
              · have HN : Hid (S.ks.take (j + 1) = T.ks.take (j + 1)) := by
                  show _ = _
                  rw [Bl.take_snoc _ _ hx, Bl.take_snoc _ _ hy, HJ.out.2, HXY.out.1, HXY.out.2, H4.out.1.1 rfl]
                have HB4 : Hid (Below w2.heap.size w2 W4) := H4.out.2
                clear H4
                go_simp
                go_wp2
                go_roundg (n - j - 1)
                case measure => omega
                case rel => exact ⟨j + 1, by omega, by go_num, HB4.out, HN.out⟩
            · have hd : decide ((j : Int) < n) = false := decide_eq_false (by omega)
              have HKS : Hid (S.ks = T.ks) := by
                have h := HJ.out.2
                rwa [List.take_of_length_le (by rw [HX.out.2.2.1]; omega), List.take_of_length_le (by rw [HX.out.2.2.2.1]; omega)] at h
              go_wp2
              go_ret
              exact ⟨⟨true, rfl, fun _ => HE.out.2 ⟨⟨by trivial, by trivial, by trivial, HLS.out⟩, HKS.out⟩, fun _ => rfl⟩, BW.out _ HJ.out.1⟩
    · have hb : (x0 == y0) = false := by simpa using h
      have HN : Hid (¬ (x0 = y0)) := h
      clear h
      go_enter Tryd.func13, Tryd.ntmps13
      go_wp2
      go_ret
      rw [H2.out]
      exact ⟨⟨false, rfl, fun h => by simp at h, fun h => (HN.out (HE.out.1 h).1.1).elim⟩, BW.out _ BR.out⟩
    · have hb : (x1 == y1) = false := by simpa using h
      have HN : Hid (¬ (x1 = y1)) := h
      clear h
      go_enter Tryd.func13, Tryd.ntmps13
      go_wp2
      go_ret
      rw [H2.out]
      exact ⟨⟨false, rfl, fun h => by simp at h, fun h => (HN.out (HE.out.1 h).1.2.1).elim⟩, BW.out _ BR.out⟩
    · have hb : (x2 == y2) = false := by simpa using h
      have HN : Hid (¬ (x2 = y2)) := h
      clear h
      go_enter Tryd.func13, Tryd.ntmps13
      go_wp2
      go_ret
      rw [H2.out]
      exact ⟨⟨false, rfl, fun h => by simp at h, fun h => (HN.out (HE.out.1 h).1.2.2.1).elim⟩, BW.out _ BR.out⟩
    · have hb : ((n : Int) == (m : Int)) = false := by simp; omega
      have HN : Hid (¬ (S.ks = T.ks)) := fun e => h (by have h1 := HX.out.2.2; rw [← h1.1, ← h1.2.1, e])
      clear h
      go_enter Tryd.func13, Tryd.ntmps13
      go_wp2
      go_ret
      rw [H2.out]
      exact ⟨⟨false, rfl, fun h => by simp at h, fun h => (HN.out (HE.out.1 h).2).elim⟩, BW.out _ BR.out⟩
    · have hb : ((nl : Int) == (ml : Int)) = false := by simp; omega
      have HN : Hid (¬ (S.ls = T.ls)) := fun e => h (by have h1 := HX.out.2.2.2.2; rw [← h1.1, ← h1.2.1, e])
      clear h
      go_enter Tryd.func13, Tryd.ntmps13
      go_wp2
      go_ret
      rw [H2.out]
      exact ⟨⟨false, rfl, fun h => by simp at h, fun h => (HN.out (HE.out.1 h).1.2.2.2).elim⟩, BW.out _ BR.out⟩

end Go.Proofs
