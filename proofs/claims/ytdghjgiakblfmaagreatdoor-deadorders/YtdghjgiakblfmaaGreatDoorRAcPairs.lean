import Derived.Test.YtdghjgiakblfmaaGreatDoorRAcEq
namespace Go.Proofs
open Go.RowKit Go.Shelf
set_option maxRecDepth 20000 in
set_option maxHeartbeats 8000000 in
theorem Tryz.alinksEq_any (l1 l2 : List (Int × Int)) (a b : Option Addr) (ca cb B : Nat) (w : World) (h1 : Ac.Lks w B a l1) (h2 : Ac.Lks w B b l2) (hB : B ≤ w.heap.size) (hn1 : l1.length ≤ 2147483647) :
  Calls Tryz.prog 82 #[.slice a l1.length ca, .slice b l2.length cb] w fun e w' => (∃ r, e = .returned (.bool r) ∧ (r = true ↔ l1 = l2)) ∧ Below w.heap.size w w' := by
 obtain ⟨n, hn⟩ : ∃ n, l1.length = n := ⟨_, rfl⟩
 obtain ⟨m, hm⟩ : ∃ n, l2.length = n := ⟨_, rfl⟩
 have HX : Hid (Ac.Lks w B a l1 ∧ Ac.Lks w B b l2 ∧ l1.length = n ∧ l2.length = m ∧ B ≤ w.heap.size) := ⟨h1, h2, hn, hm, hB⟩
 rw [hn] at hn1
 rw [hn, hm]
 clear h1 h2 hn hm hB
 by_cases hnm : n = m
 ·subst hnm
  go_enter Tryz.func82, Tryz.ntmps82
  go_wp2
  go_loopg [13] n (fun gk i wr => ∃ j : Nat, gk + j = n ∧ i = .int .i64 j ∧ Hid (Below w.heap.size w wr ∧ l1.take j = l2.take j))
  case atStart => exact ⟨0, by omega, rfl, Below.refl _ _, by simp⟩
  case round =>
   obtain ⟨j, hj, rfl, HJ⟩ := hrel
   by_cases hjn : j < n
   ·have hd : decide ((j : Int) < n) = true := decide_eq_true (by omega)
    have hj1 : (j : Int) < n := by omega
    have hj0 : (0 : Int) ≤ j := by omega
    have hx : j < l1.length := by rw [HX.out.2.2.1]; exact hjn
    have hy : j < l2.length := by rw [HX.out.2.2.2.1]; exact hjn
    obtain ⟨g1, off1, rfl, hg1, p0, p1⟩ := HX.out.1 j hx
    obtain ⟨g2, off2, rfl, hg2, q0, q1⟩ := HX.out.2.1 j hy
    obtain ⟨x, hxe⟩ : ∃ x, l1[j] = x := ⟨_, rfl⟩
    obtain ⟨y, hye⟩ : ∃ x, l2[j] = x := ⟨_, rfl⟩
    obtain ⟨x0, x1⟩ := x
    obtain ⟨y0, y1⟩ := y
    rw [hxe] at p0 p1
    rw [hye] at q0 q1
    have hc1 : ∀ p, wr.cell? ⟨g1, p, none⟩ = w.cell? ⟨g1, p, none⟩ := fun p => HJ.out.1.cell (p := ⟨g1, p, none⟩) (by have := HX.out.2.2.2.2; show g1 < _; omega)
    have hc2 : ∀ p, wr.cell? ⟨g2, p, none⟩ = w.cell? ⟨g2, p, none⟩ := fun p => HJ.out.1.cell (p := ⟨g2, p, none⟩) (by have := HX.out.2.2.2.2; show g2 < _; omega)
    have a0 : wr.cell? ⟨g1, off1 + j * 2, none⟩ = some (.int .i64 x0) := by rw [hc1]; exact p0
    have a1 : wr.cell? ⟨g1, off1 + j * 2 + 1, none⟩ = some (.int .i64 x1) := by rw [hc1]; exact p1
    have b0 : wr.cell? ⟨g2, off2 + j * 2, none⟩ = some (.int .i64 y0) := by rw [hc2]; exact q0
    have b1 : wr.cell? ⟨g2, off2 + j * 2 + 1, none⟩ = some (.int .i64 y1) := by rw [hc2]; exact q1
    have HXY : Hid (l1[j] = (x0, x1) ∧ l2[j] = (y0, y1)) := ⟨hxe, hye⟩
    clear hg1 hg2 p0 p1 q0 q1 hxe hye hc1 hc2
    have hu := Tryz.underlying80
    have hcase : (x0 = y0 ∧ x1 = y1) ∨ ((x0 == y0) = true ∧ (x1 == y1) = false) ∨ ((x0 == y0) = false) := by
     by_cases h0 : x0 = y0 <;> by_cases h1 : x1 = y1 <;> simp [h0, h1]
    rcases hcase with ⟨rfl, rfl⟩ | ⟨e0, e1⟩ | e0
    ·go_wp2
     go_region_held3 (fun W => W.cell? ⟨g1, off1 + j * 2, none⟩ = some (.int .i64 x0) ∧ W.cell? ⟨g1, off1 + j * 2 + 1, none⟩ = some (.int .i64 x1) ∧ W.cell? ⟨g2, off2 + j * 2, none⟩ = some (.int .i64 x0) ∧ W.cell? ⟨g2, off2 + j * 2 + 1, none⟩ = some (.int .i64 x1)) (go_keep) (fail)
     have HN : Hid (l1.take (j + 1) = l2.take (j + 1)) := by
      show _ = _
      rw [Ac.take_snoc _ _ hx, Ac.take_snoc _ _ hy, HJ.out.2, HXY.out.1, HXY.out.2]
     go_simp
     go_wp2
     go_roundg (gk - 1)
     case measure => omega
     case rel => exact ⟨j + 1, by omega, by go_num, by first | exact HJ.out.1 | exact HJ.out.1.drew, HN.out⟩
    ·have HNE : Hid (l1 ≠ l2) := fun h => by
      subst h
      have := HXY.out.1.symm.trans HXY.out.2
      simp only [Prod.mk.injEq] at this
      simp [this.2] at e1
     go_wp2
     go_region_held3 (fun W => W.cell? ⟨g1, off1 + j * 2, none⟩ = some (.int .i64 x0) ∧ W.cell? ⟨g1, off1 + j * 2 + 1, none⟩ = some (.int .i64 x1) ∧ W.cell? ⟨g2, off2 + j * 2, none⟩ = some (.int .i64 y0) ∧ W.cell? ⟨g2, off2 + j * 2 + 1, none⟩ = some (.int .i64 y1)) (go_keep) (fail)
     go_simp
     go_wp2
     go_ret
     exact ⟨⟨false, rfl, fun h => by simp at h, fun h => (HNE.out h).elim⟩, by first | exact HJ.out.1 | exact HJ.out.1.drew⟩
    ·have HNE : Hid (l1 ≠ l2) := fun h => by
      subst h
      have := HXY.out.1.symm.trans HXY.out.2
      simp only [Prod.mk.injEq] at this
      simp [this.1] at e0
     go_wp2
     go_region_held3 (fun W => W.cell? ⟨g1, off1 + j * 2, none⟩ = some (.int .i64 x0) ∧ W.cell? ⟨g1, off1 + j * 2 + 1, none⟩ = some (.int .i64 x1) ∧ W.cell? ⟨g2, off2 + j * 2, none⟩ = some (.int .i64 y0) ∧ W.cell? ⟨g2, off2 + j * 2 + 1, none⟩ = some (.int .i64 y1)) (go_keep) (fail)
     go_simp
     go_wp2
     go_ret
     exact ⟨⟨false, rfl, fun h => by simp at h, fun h => (HNE.out h).elim⟩, by first | exact HJ.out.1 | exact HJ.out.1.drew⟩
   ·have hd : decide ((j : Int) < n) = false := decide_eq_false (by omega)
    go_wp2
    go_ret
    refine ⟨⟨true, rfl, fun _ => ?_, fun _ => rfl⟩, HJ.out.1⟩
    have h := HJ.out.2
    rwa [List.take_of_length_le (by rw [HX.out.2.2.1]; omega), List.take_of_length_le (by rw [HX.out.2.2.2.1]; omega)] at h
 ·have hd : ((n : Int) == (m : Int)) = false := by simp; omega
  go_enter Tryz.func82, Tryz.ntmps82
  go_wp2
  go_ret
  refine ⟨⟨false, rfl, fun h => by simp at h, fun h => ?_⟩, Below.refl _ _⟩
  have := congrArg List.length h
  rw [HX.out.2.2.1, HX.out.2.2.2.1] at this
  exact absurd this hnm
def Ak.Told (P : Prop) (e : Ending) : Prop := ∃ r, e = .returned (.bool r) ∧ (r = true ↔ P)
theorem Ak.Told.no {P : Prop} (h : ¬ P) : Ak.Told P (.returned (.bool false)) := ⟨false, rfl, (fun h => by cases h), fun hp => absurd hp h⟩
theorem Ak.Told.yes {P : Prop} (h : P) : Ak.Told P (.returned (.bool true)) := ⟨true, rfl, fun _ => h, fun _ => rfl⟩
theorem Ak.Told.iff {P : Prop} {r : Bool} (h : r = true ↔ P) : Ak.Told P (.returned (.bool r)) := ⟨r, rfl, h⟩
set_option maxRecDepth 20000 in
set_option maxHeartbeats 4000000 in
theorem Tryz.sameNode_any (e e' : Nat) (x y : Nd) (u v : Value) (w : World) (hx : Tm.Lies w w.heap.size e u x.t) (hy : Tm.Lies w w.heap.size e' v y.t) (h0 : 0 < w.heap.size) (hsz : x.t.size ≤ 2147483647) (hdp : x.t.depth ≤ 1000) :
  Calls Tryz.prog 84 #[.agg #[.int .i64 x.kind, .int .i64 x.a, .int .i64 x.t.op, .int .i64 x.t.num, u], .agg #[.int .i64 y.kind, .int .i64 y.a, .int .i64 y.t.op, .int .i64 y.t.num, v]] w fun e w' => Ak.Told (x = y) e ∧ Below w.heap.size w w' := by
 have HIFF : Hid (x = y ↔ x.kind = y.kind ∧ x.a = y.a ∧ x.t = y.t) := by
  cases x; cases y
  simp [Hid]
 obtain ⟨ua, uc, rfl⟩ := hx.shape
 obtain ⟨va, vc, rfl⟩ := hy.shape
 obtain ⟨X, hX⟩ : ∃ z, x.t = z := ⟨_, rfl⟩
 obtain ⟨Y, hY⟩ : ∃ z, y.t = z := ⟨_, rfl⟩
 rw [hX] at hx hsz hdp HIFF
 rw [hY] at hy HIFF
 rw [hX, hY]
 obtain ⟨x0, hx0⟩ : ∃ z, x.kind = z := ⟨_, rfl⟩
 obtain ⟨y0, hy0⟩ : ∃ z, y.kind = z := ⟨_, rfl⟩
 rw [hx0, hy0] at HIFF ⊢
 obtain ⟨x1, hx1⟩ : ∃ z, x.a = z := ⟨_, rfl⟩
 obtain ⟨y1, hy1⟩ : ∃ z, y.a = z := ⟨_, rfl⟩
 rw [hx1, hy1] at HIFF ⊢
 obtain ⟨un, hun⟩ : ∃ n, X.ks.length = n := ⟨_, rfl⟩
 obtain ⟨vn, hvn⟩ : ∃ n, Y.ks.length = n := ⟨_, rfl⟩
 rw [hun] at hx
 rw [hvn] at hy
 rw [hun, hvn]
 obtain ⟨w2, hw2⟩ : ∃ z, (w.alloc (.cells #[.int .i64 x0, .int .i64 x1, .int .i64 X.op, .int .i64 X.num, .slice ua un uc] 76)).alloc (.cells #[.int .i64 y0, .int .i64 y1, .int .i64 Y.op, .int .i64 Y.num, .slice va vn vc] 76) = z := ⟨_, rfl⟩
 have A2 : Below w.heap.size w w2 := by rw [← hw2]; exact ((Below.refl _ w).alloc (Nat.le_refl _) _).alloc (by simp) _
 have CS := Tryz.termSame_any e e' X Y (.slice ua un uc) (.slice va vn vc) w2 ((hx.below A2).wider A2.size) ((hy.below A2).wider A2.size) (by have := A2.size; omega) hsz hdp
 obtain ⟨o, ho⟩ : ∃ n, X.op = n := ⟨_, rfl⟩
 obtain ⟨m, hm⟩ : ∃ n, X.num = n := ⟨_, rfl⟩
 obtain ⟨o', ho'⟩ : ∃ n, Y.op = n := ⟨_, rfl⟩
 obtain ⟨m', hm'⟩ : ∃ n, Y.num = n := ⟨_, rfl⟩
 rw [ho, hm, ho', hm'] at CS hw2
 rw [ho, hm, ho', hm']
 have HC : Hid _ := CS
 have HA : Hid (Below w.heap.size w w2) := A2
 have HW : Hid ((w.alloc (.cells #[.int .i64 x0, .int .i64 x1, .int .i64 o, .int .i64 m, .slice ua un uc] 76)).alloc (.cells #[.int .i64 y0, .int .i64 y1, .int .i64 o', .int .i64 m', .slice va vn vc] 76) = w2) := hw2
 have G2 : w2.heap[w.heap.size + 1]? = some (.cells #[.int .i64 y0, .int .i64 y1, .int .i64 o', .int .i64 m', .slice va vn vc] 76 (0, 0)) := by
  rw [← hw2]
  have := heap_alloc_new (w.alloc (.cells #[.int .i64 x0, .int .i64 x1, .int .i64 o, .int .i64 m, .slice ua un uc] 76)) (.cells #[.int .i64 y0, .int .i64 y1, .int .i64 o', .int .i64 m', .slice va vn vc] 76)
  simpa using this
 have G1 : w2.heap[w.heap.size]? = some (.cells #[.int .i64 x0, .int .i64 x1, .int .i64 o, .int .i64 m, .slice ua un uc] 76 (0, 0)) := by
  rw [← hw2, Below.heap_alloc _ _ _ (by simp)]
  exact heap_alloc_new _ _
 have ca : w2.cell? ⟨w.heap.size, 0, none⟩ = some (.int .i64 x0) ∧ w2.cell? ⟨w.heap.size, 1, none⟩ = some (.int .i64 x1) ∧ w2.cell? ⟨w.heap.size, 2, none⟩ = some (.int .i64 o) ∧ w2.cell? ⟨w.heap.size, 3, none⟩ = some (.int .i64 m) ∧ w2.cell? ⟨w.heap.size, 4, none⟩ = some (.slice ua un uc) := by simp [World.cell?, G1]
 have cb : w2.cell? ⟨w.heap.size + 1, 0, none⟩ = some (.int .i64 y0) ∧ w2.cell? ⟨w.heap.size + 1, 1, none⟩ = some (.int .i64 y1) ∧ w2.cell? ⟨w.heap.size + 1, 2, none⟩ = some (.int .i64 o') ∧ w2.cell? ⟨w.heap.size + 1, 3, none⟩ = some (.int .i64 m') ∧ w2.cell? ⟨w.heap.size + 1, 4, none⟩ = some (.slice va vn vc) := by simp [World.cell?, G2]
 obtain ⟨a0, a1, a2, a3, a4⟩ := ca
 obtain ⟨b0, b1, b2, b3, b4⟩ := cb
 clear CS A2 hw2 hx hy hX hY hun hvn ho hm ho' hm' hsz hdp G1 G2 hx0 hy0 hx1 hy1
 by_cases q0 : ¬ x0 = y0
 ·have d0 : (x0 == y0) = false := by simpa using q0
  have HN : Hid (¬ x = y) := fun h => q0 (HIFF.out.1 h).1
  clear q0
  go_enter Tryz.func84, Tryz.ntmps84
  go_upto_region 1 with fail
  rw [HW.out]
  go_wp2
  go_ret
  exact ⟨Ak.Told.no HN.out, HA.out⟩
 replace q0 := Decidable.not_not.1 q0
 have d0 : (x0 == y0) = true := by simpa using q0
 have Q0 : Hid (x0 = y0) := q0
 clear q0
 by_cases q1 : ¬ x1 = y1
 ·have d1 : (x1 == y1) = false := by simpa using q1
  have HN : Hid (¬ x = y) := fun h => q1 (HIFF.out.1 h).2.1
  clear q1
  go_enter Tryz.func84, Tryz.ntmps84
  go_upto_region 1 with fail
  rw [HW.out]
  go_wp2
  go_ret
  exact ⟨Ak.Told.no HN.out, HA.out⟩
 replace q1 := Decidable.not_not.1 q1
 have d1 : (x1 == y1) = true := by simpa using q1
 have Q1 : Hid (x1 = y1) := q1
 clear q1
 go_enter Tryz.func84, Tryz.ntmps84
 go_upto_region 1 with fail
 rw [HW.out]
 go_wp2_with fail
 refine Calls.mono HC.out ?_
 rintro e W3 ⟨⟨r, rfl, hr⟩, hb3⟩
 have H3 : Hid (Below w.heap.size w W3 ∧ (r = true ↔ x = y)) := ⟨HA.out.trans (hb3.mono HA.out.size), by rw [hr, HIFF.out]; exact ⟨fun h => ⟨Q0.out, Q1.out, h⟩, fun h => h.2.2⟩⟩
 clear hr hb3
 go_wp2
 go_ret
 exact ⟨Ak.Told.iff H3.out.2, H3.out.1⟩
set_option maxRecDepth 20000 in
set_option maxHeartbeats 4000000 in
theorem Tryz.sameFlow_any (e e' : Nat) (x y : Fl) (u v : Value) (w : World) (hx : Tm.Lies w w.heap.size e u x.c) (hy : Tm.Lies w w.heap.size e' v y.c) (h0 : 0 < w.heap.size) (hsz : x.c.size ≤ 2147483647) (hdp : x.c.depth ≤ 1000) :
  Calls Tryz.prog 86 #[.agg #[.int .i64 x.fr, .int .i64 x.to, .bool x.els, .int .i64 x.c.op, .int .i64 x.c.num, u], .agg #[.int .i64 y.fr, .int .i64 y.to, .bool y.els, .int .i64 y.c.op, .int .i64 y.c.num, v]] w fun e w' => Ak.Told (x = y) e ∧ Below w.heap.size w w' := by
 have HIFF : Hid (x = y ↔ x.fr = y.fr ∧ x.to = y.to ∧ x.els = y.els ∧ x.c = y.c) := by
  cases x; cases y
  simp [Hid]
 obtain ⟨ua, uc, rfl⟩ := hx.shape
 obtain ⟨va, vc, rfl⟩ := hy.shape
 obtain ⟨X, hX⟩ : ∃ z, x.c = z := ⟨_, rfl⟩
 obtain ⟨Y, hY⟩ : ∃ z, y.c = z := ⟨_, rfl⟩
 rw [hX] at hx hsz hdp HIFF
 rw [hY] at hy HIFF
 rw [hX, hY]
 obtain ⟨x0, hx0⟩ : ∃ z, x.fr = z := ⟨_, rfl⟩
 obtain ⟨y0, hy0⟩ : ∃ z, y.fr = z := ⟨_, rfl⟩
 rw [hx0, hy0] at HIFF ⊢
 obtain ⟨x1, hx1⟩ : ∃ z, x.to = z := ⟨_, rfl⟩
 obtain ⟨y1, hy1⟩ : ∃ z, y.to = z := ⟨_, rfl⟩
 rw [hx1, hy1] at HIFF ⊢
 obtain ⟨x2, hx2⟩ : ∃ z, x.els = z := ⟨_, rfl⟩
 obtain ⟨y2, hy2⟩ : ∃ z, y.els = z := ⟨_, rfl⟩
 rw [hx2, hy2] at HIFF ⊢
 obtain ⟨un, hun⟩ : ∃ n, X.ks.length = n := ⟨_, rfl⟩
 obtain ⟨vn, hvn⟩ : ∃ n, Y.ks.length = n := ⟨_, rfl⟩
 rw [hun] at hx
 rw [hvn] at hy
 rw [hun, hvn]
 obtain ⟨w2, hw2⟩ : ∃ z, (w.alloc (.cells #[.int .i64 x0, .int .i64 x1, .bool x2, .int .i64 X.op, .int .i64 X.num, .slice ua un uc] 78)).alloc (.cells #[.int .i64 y0, .int .i64 y1, .bool y2, .int .i64 Y.op, .int .i64 Y.num, .slice va vn vc] 78) = z := ⟨_, rfl⟩
 have A2 : Below w.heap.size w w2 := by rw [← hw2]; exact ((Below.refl _ w).alloc (Nat.le_refl _) _).alloc (by simp) _
 have CS := Tryz.termSame_any e e' X Y (.slice ua un uc) (.slice va vn vc) w2 ((hx.below A2).wider A2.size) ((hy.below A2).wider A2.size) (by have := A2.size; omega) hsz hdp
 obtain ⟨o, ho⟩ : ∃ n, X.op = n := ⟨_, rfl⟩
 obtain ⟨m, hm⟩ : ∃ n, X.num = n := ⟨_, rfl⟩
 obtain ⟨o', ho'⟩ : ∃ n, Y.op = n := ⟨_, rfl⟩
 obtain ⟨m', hm'⟩ : ∃ n, Y.num = n := ⟨_, rfl⟩
 rw [ho, hm, ho', hm'] at CS hw2
 rw [ho, hm, ho', hm']
 have HC : Hid _ := CS
 have HA : Hid (Below w.heap.size w w2) := A2
 have HW : Hid ((w.alloc (.cells #[.int .i64 x0, .int .i64 x1, .bool x2, .int .i64 o, .int .i64 m, .slice ua un uc] 78)).alloc (.cells #[.int .i64 y0, .int .i64 y1, .bool y2, .int .i64 o', .int .i64 m', .slice va vn vc] 78) = w2) := hw2
 have G2 : w2.heap[w.heap.size + 1]? = some (.cells #[.int .i64 y0, .int .i64 y1, .bool y2, .int .i64 o', .int .i64 m', .slice va vn vc] 78 (0, 0)) := by
  rw [← hw2]
  have := heap_alloc_new (w.alloc (.cells #[.int .i64 x0, .int .i64 x1, .bool x2, .int .i64 o, .int .i64 m, .slice ua un uc] 78)) (.cells #[.int .i64 y0, .int .i64 y1, .bool y2, .int .i64 o', .int .i64 m', .slice va vn vc] 78)
  simpa using this
 have G1 : w2.heap[w.heap.size]? = some (.cells #[.int .i64 x0, .int .i64 x1, .bool x2, .int .i64 o, .int .i64 m, .slice ua un uc] 78 (0, 0)) := by
  rw [← hw2, Below.heap_alloc _ _ _ (by simp)]
  exact heap_alloc_new _ _
 have ca : w2.cell? ⟨w.heap.size, 0, none⟩ = some (.int .i64 x0) ∧ w2.cell? ⟨w.heap.size, 1, none⟩ = some (.int .i64 x1) ∧ w2.cell? ⟨w.heap.size, 2, none⟩ = some (.bool x2) ∧ w2.cell? ⟨w.heap.size, 3, none⟩ = some (.int .i64 o) ∧ w2.cell? ⟨w.heap.size, 4, none⟩ = some (.int .i64 m) ∧ w2.cell? ⟨w.heap.size, 5, none⟩ = some (.slice ua un uc) := by simp [World.cell?, G1]
 have cb : w2.cell? ⟨w.heap.size + 1, 0, none⟩ = some (.int .i64 y0) ∧ w2.cell? ⟨w.heap.size + 1, 1, none⟩ = some (.int .i64 y1) ∧ w2.cell? ⟨w.heap.size + 1, 2, none⟩ = some (.bool y2) ∧ w2.cell? ⟨w.heap.size + 1, 3, none⟩ = some (.int .i64 o') ∧ w2.cell? ⟨w.heap.size + 1, 4, none⟩ = some (.int .i64 m') ∧ w2.cell? ⟨w.heap.size + 1, 5, none⟩ = some (.slice va vn vc) := by simp [World.cell?, G2]
 obtain ⟨a0, a1, a2, a3, a4, a5⟩ := ca
 obtain ⟨b0, b1, b2, b3, b4, b5⟩ := cb
 clear CS A2 hw2 hx hy hX hY hun hvn ho hm ho' hm' hsz hdp G1 G2 hx0 hy0 hx1 hy1 hx2 hy2
 by_cases q0 : ¬ x0 = y0
 ·have d0 : (x0 == y0) = false := by simpa using q0
  have HN : Hid (¬ x = y) := fun h => q0 (HIFF.out.1 h).1
  clear q0
  go_enter Tryz.func86, Tryz.ntmps86
  go_upto_region 1 with fail
  rw [HW.out]
  go_wp2
  go_ret
  exact ⟨Ak.Told.no HN.out, HA.out⟩
 replace q0 := Decidable.not_not.1 q0
 have d0 : (x0 == y0) = true := by simpa using q0
 have Q0 : Hid (x0 = y0) := q0
 clear q0
 by_cases q1 : ¬ x1 = y1
 ·have d1 : (x1 == y1) = false := by simpa using q1
  have HN : Hid (¬ x = y) := fun h => q1 (HIFF.out.1 h).2.1
  clear q1
  go_enter Tryz.func86, Tryz.ntmps86
  go_upto_region 1 with fail
  rw [HW.out]
  go_wp2
  go_ret
  exact ⟨Ak.Told.no HN.out, HA.out⟩
 replace q1 := Decidable.not_not.1 q1
 have d1 : (x1 == y1) = true := by simpa using q1
 have Q1 : Hid (x1 = y1) := q1
 clear q1
 by_cases q2 : ¬ x2 = y2
 ·have d2 : (x2 == y2) = false := by simpa using q2
  have HN : Hid (¬ x = y) := fun h => q2 (HIFF.out.1 h).2.2.1
  clear q2
  go_enter Tryz.func86, Tryz.ntmps86
  go_upto_region 1 with fail
  rw [HW.out]
  go_wp2
  go_ret
  exact ⟨Ak.Told.no HN.out, HA.out⟩
 replace q2 := Decidable.not_not.1 q2
 have d2 : (x2 == y2) = true := by simpa using q2
 have Q2 : Hid (x2 = y2) := q2
 clear q2
 go_enter Tryz.func86, Tryz.ntmps86
 go_upto_region 1 with fail
 rw [HW.out]
 go_wp2_with fail
 refine Calls.mono HC.out ?_
 rintro e W3 ⟨⟨r, rfl, hr⟩, hb3⟩
 have H3 : Hid (Below w.heap.size w W3 ∧ (r = true ↔ x = y)) := ⟨HA.out.trans (hb3.mono HA.out.size), by rw [hr, HIFF.out]; exact ⟨fun h => ⟨Q0.out, Q1.out, Q2.out, h⟩, fun h => h.2.2.2⟩⟩
 clear hr hb3
 go_wp2
 go_ret
 exact ⟨Ak.Told.iff H3.out.2, H3.out.1⟩
end Go.Proofs
