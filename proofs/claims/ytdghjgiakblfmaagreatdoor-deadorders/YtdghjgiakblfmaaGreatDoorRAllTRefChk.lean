import Derived.Test.YtdghjgiakblfmaaGreatDoorRAllTChk
import Derived.Lib.Hide
namespace Go.Proofs
open Go.RowKit
end Go.Proofs
namespace Go.Proofs
open Go.RowKit
def Tm.Bad1 (op n : Int) (len : Nat) : Prop := op < 1 ∨ 14 < op ∨ len ≠ Tm.kidsOf op ∨ n < 0
end Go.Proofs
namespace Go.Proofs
open Go.RowKit
end Go.Proofs
namespace Go.Proofs
open Go.RowKit
end Go.Proofs
namespace Go.Proofs
open Go.RowKit
set_option maxHeartbeats 1600000 in
theorem Tryz.isZero_any (T : Tm) (a : Option Addr) (cap : Nat) (w : World) :
  Calls Tryz.prog 151 #[.agg #[.int .i64 T.op, .int .i64 T.num, .slice a T.ks.length cap]] w fun e w' => e = .returned (.bool (Nt.zeroB T)) ∧ Below w.heap.size w w' := by
 obtain ⟨o, ho⟩ : ∃ o, T.op = o := ⟨_, rfl⟩
 obtain ⟨m, hm⟩ : ∃ m, T.num = m := ⟨_, rfl⟩
 obtain ⟨n, hn⟩ : ∃ n, T.ks.length = n := ⟨_, rfl⟩
 obtain ⟨b, hb⟩ : ∃ b, Nt.zeroB T = b := ⟨_, rfl⟩
 rw [hb, ho, hm, hn]
 have B0 : Hid (Below w.heap.size w (w.alloc (.cells #[.int .i64 o, .int .i64 m, .slice a n cap] 24))) := (Below.refl _ w).alloc (Nat.le_refl _) _
 have HB : Hid ((decide (o = 0) && decide (m = 0) && decide (n = 0)) = b) := by show _ = _; rw [← hb, Nt.zeroB, ho, hm, hn]
 clear hb ho hm hn
 by_cases h0 : o = 0 <;> by_cases h1 : m = 0 <;> by_cases h2 : n = 0
 all_goals
  have e0 : (o == 0) = decide (o = 0) := rfl
  have e1 : (m == 0) = decide (m = 0) := rfl
  have e2 : ((n : Int) == 0) = decide (n = 0) := by rw [show ((n : Int) == 0) = decide ((n : Int) = 0) from rfl]; exact decide_eq_decide.2 (by omega)
  simp only [h0, h1, h2, decide_true, decide_false] at e0 e1 e2 HB
  try subst h0
  try subst h1
  try subst h2
  go_enter Tryz.func151, Tryz.ntmps151
  go_wp2
  go_ret
  exact ⟨Tk.ret_bool (by rw [← HB.out]; first | rfl | simp), B0.out⟩
set_option maxHeartbeats 1600000 in
theorem Tryz.isNode_any (i : Int) (an : Option Addr) (n cn : Nat) (af : Option Addr) (m cf : Nat) (w : World) :
  Calls Tryz.prog 137 #[.agg #[.slice an n cn, .slice af m cf], .int .i64 i] w fun e w' => e = .returned (.bool (Nt.isNodeB n i)) ∧ Below w.heap.size w w' := by
 have B0 : Hid (Below w.heap.size w (w.alloc (.cells #[.slice an n cn, .slice af m cf] 30))) := (Below.refl _ w).alloc (Nat.le_refl _) _
 by_cases h0 : 0 ≤ i <;> by_cases h1 : i < n
 all_goals
  have e0 : decide (0 ≤ i) = decide (0 ≤ i) := rfl
  have e1 : decide (i < (n : Int)) = decide (i < (n : Int)) := rfl
  have HB : Hid (Nt.isNodeB n i = (decide (0 ≤ i) && decide (i < (n : Int)))) := rfl
  conv at e0 => rhs; simp only [h0, decide_true, decide_false]
  conv at e1 => rhs; simp only [h1, decide_true, decide_false]
  rw [e0, e1] at HB
  clear h0 h1
  go_enter Tryz.func137, Tryz.ntmps137
  go_wp2
  go_ret
  exact ⟨Tk.ret_bool (by rw [HB.out]; rfl), B0.out⟩
set_option maxHeartbeats 1600000 in
theorem Tryz.isOf_any (k : Int) (d : Nat) (T : Tm) (v : Value) (w : World) (hT : Tm.Lies w w.heap.size d v T) (hO : Tk.Ops w) (hsz : T.size ≤ 2147483647) :
  Calls Tryz.prog 150 #[.int .i64 k, .agg #[.int .i64 T.op, .int .i64 T.num, v]] w fun e w' => e = .returned (.bool (Nt.ofB T k)) ∧ Below w.heap.size w w' := by
 obtain ⟨a, cap, rfl⟩ := hT.shape
 have A0 : Below w.heap.size w (w.alloc (.cells #[.int .i64 T.op, .int .i64 T.num, .slice a T.ks.length cap] 24)) := (Below.refl _ w).alloc (Nat.le_refl _) _
 have hc := Tryz.check_any d T (.slice a T.ks.length cap) _ ((hT.below A0).wider A0.size) (hO.below A0 hO.lt) hsz
 obtain ⟨o, ho⟩ : ∃ o, T.op = o := ⟨_, rfl⟩
 obtain ⟨m, hm⟩ : ∃ m, T.num = m := ⟨_, rfl⟩
 obtain ⟨n, hn⟩ : ∃ n, T.ks.length = n := ⟨_, rfl⟩
 obtain ⟨b, hb⟩ : ∃ b, Nt.ofB T k = b := ⟨_, rfl⟩
 obtain ⟨q, hq⟩ : ∃ q, T.checkR = q := ⟨_, rfl⟩
 rw [ho, hm, hn, hq] at hc
 rw [ho, hm, hn] at A0
 rw [hb, ho, hm, hn]
 obtain ⟨q0, q1⟩ := q
 have HC : Hid _ := hc
 have HA : Hid _ := A0
 have HB : Hid ((decide (q1 = 0) && decide (q0 = k)) = b) := by show _ = _; rw [← hb, Nt.ofB, hq]
 clear hc A0 hT hO hsz ho hm hn hb hq
 by_cases h0 : q1 = 0 <;> by_cases h1 : q0 = k
 all_goals
  have e0 : (q1 == 0) = decide (q1 = 0) := rfl
  have e1 : (q0 == k) = decide (q0 = k) := rfl
  simp only [h0, h1, decide_true, decide_false] at e0 e1 HB
  try subst h0
  try subst h1
  go_enter Tryz.func150, Tryz.ntmps150
  go_wp2_with fail
  refine Calls.mono HC.out ?_
  rintro e W1 ⟨rfl, hb1⟩
  have B1 : Hid (Below w.heap.size w W1) := HA.out.trans (hb1.mono HA.out.size)
  clear hb1 HC
  go_wp2
  go_ret
  exact ⟨Tk.ret_bool (by rw [← HB.out]; first | rfl | simp), B1.out⟩
end Go.Proofs
namespace Go.Proofs
open Go.RowKit Go.Shelf
set_option maxHeartbeats 800000 in
theorem Tryz.alike_any (o1 n1 o2 n2 : Int) (a b : Option Addr) (l1 c1 l2 c2 : Nat) (w : World) :
  Calls Tryz.prog 104 #[.agg #[.int .i64 o1, .int .i64 n1, .slice a l1 c1], .agg #[.int .i64 o2, .int .i64 n2, .slice b l2 c2]] w fun e w' => e = .returned (.bool (o1 == o2 && n1 == n2)) ∧ Below w.heap.size w w' := by
 have B0 : Hid (Below w.heap.size w ((w.alloc (.cells #[.int .i64 o1, .int .i64 n1, .slice a l1 c1] 24)).alloc (.cells #[.int .i64 o2, .int .i64 n2, .slice b l2 c2] 24))) := ((Below.refl _ w).alloc (Nat.le_refl _) _).alloc (by simp) _
 cases h1 : (o1 == o2)
 ·go_enter Tryz.func104, Tryz.ntmps104
  go_wp2
  go_ret
  exact ⟨rfl, B0.out⟩
 ·go_enter Tryz.func104, Tryz.ntmps104
  go_wp2
  go_ret
  exact ⟨by simp, B0.out⟩
set_option maxRecDepth 20000 in
set_option maxHeartbeats 8000000 in
theorem Tryz.equalFunc_any {g : Nat} {lb : Array Value} (eg : ∀ args w, (callFunc g args).run Tryz.prog w = .ok (.enter g args) w) (S T : Tm) (a b : Option Addr) (ca cb B d d' : Nat) (w : World) (Inv : Nat → World → Prop)
  (hS : Tm.Lies w B (d + 1) (.slice a S.ks.length ca) S) (hT : Tm.Lies w B (d' + 1) (.slice b T.ks.length cb) T) (hI0 : Inv 0 w) (hk : ∀ j W, Inv j W → ∀ i, i < B → W.heap[i]? = w.heap[i]?) (hal : ∀ j W o, Inv j W → Inv j (W.alloc o)) (hdr : ∀ j W, Inv j W → Inv j W.drew) (hsm : S.ks.length ≤ 2147483647)
  (hc : ∀ j (hx : j < S.ks.length) (hy : j < T.ks.length) (W : World) (u v : Value), Inv j W → Tm.Lies w B d u S.ks[j] → Tm.Lies w B d' v T.ks[j] → Calls Tryz.prog g (#[.agg #[.int .i64 S.ks[j].op, .int .i64 S.ks[j].num, u], .agg #[.int .i64 T.ks[j].op, .int .i64 T.ks[j].num, v]] ++ lb) W fun e w' => ∃ r, e = .returned (.bool r) ∧ (r = true ↔ S.ks[j] = T.ks[j]) ∧ Inv (j + 1) w') :
  Calls Tryz.prog 81 #[.slice a S.ks.length ca, .slice b T.ks.length cb, .func (.func g) #[] lb] w fun e w' => ∃ r, e = .returned (.bool r) ∧ (r = true ↔ S.ks = T.ks) ∧ ∃ j, Inv j w' := by
 obtain ⟨n, hn⟩ : ∃ n, S.ks.length = n := ⟨_, rfl⟩
 obtain ⟨m, hm⟩ : ∃ n, T.ks.length = n := ⟨_, rfl⟩
 have HX : Hid (Tm.Lies w B (d + 1) (.slice a n ca) S ∧ Tm.Lies w B (d' + 1) (.slice b m cb) T ∧ S.ks.length = n ∧ T.ks.length = m ∧ Inv 0 w) := ⟨by rw [← hn]; exact hS, by rw [← hm]; exact hT, hn, hm, hI0⟩
 have HK : Hid ((∀ j W, Inv j W → ∀ i, i < B → W.heap[i]? = w.heap[i]?) ∧ (∀ j W o, Inv j W → Inv j (W.alloc o)) ∧ (∀ j W, Inv j W → Inv j W.drew)) := ⟨hk, hal, hdr⟩
 have HC : Hid _ := hc
 rw [hn] at hsm
 rw [hn, hm]
 clear hS hT hI0 hk hal hdr hc hn hm
 by_cases hnm : n = m
 ·subst hnm
  go_enter Tryz.func81, Tryz.ntmps81
  go_wp2
  go_loopg [17] n (fun gk i wr => ∃ j : Nat, gk + j = n ∧ i = .int .i64 j ∧ Hid (Inv j wr ∧ S.ks.take j = T.ks.take j))
  case atStart => exact ⟨0, by omega, rfl, HX.out.2.2.2.2, by simp⟩
  case round =>
   obtain ⟨j, hj, rfl, HJ⟩ := hrel
   by_cases hjn : j < n
   ·have hd : decide ((j : Int) < n) = true := decide_eq_true (by omega)
    have hjn' : (j : Int) < n := by omega
    have hx : j < S.ks.length := by rw [HX.out.2.2.1]; exact hjn
    have hy : j < T.ks.length := by rw [HX.out.2.2.2.1]; exact hjn
    obtain ⟨g1, off1, u1, rfl, hg1, p0, p1, p2, p3⟩ := HX.out.1.kid j hx
    obtain ⟨g2, off2, u2, rfl, hg2, q0, q1, q2, q3⟩ := HX.out.2.1.kid j hy
    have hcl := fun W h => HC.out j hx hy W u1 u2 h p3 q3
    obtain ⟨x, hxe⟩ : ∃ x, S.ks[j] = x := ⟨_, rfl⟩
    obtain ⟨y, hye⟩ : ∃ x, T.ks[j] = x := ⟨_, rfl⟩
    rw [hxe] at p0 p1 p3
    rw [hye] at q0 q1 q3
    simp only [hxe, hye] at hcl
    obtain ⟨au, cu, rfl⟩ := p3.shape
    obtain ⟨av, cv, rfl⟩ := q3.shape
    obtain ⟨nx, hnx⟩ : ∃ n, x.ks.length = n := ⟨_, rfl⟩
    obtain ⟨ny, hny⟩ : ∃ n, y.ks.length = n := ⟨_, rfl⟩
    obtain ⟨x0, hx0⟩ : ∃ z, x.op = z := ⟨_, rfl⟩
    obtain ⟨x1, hx1⟩ : ∃ z, x.num = z := ⟨_, rfl⟩
    obtain ⟨y0, hy0⟩ : ∃ z, y.op = z := ⟨_, rfl⟩
    obtain ⟨y1, hy1⟩ : ∃ z, y.num = z := ⟨_, rfl⟩
    rw [hnx] at p2
    rw [hny] at q2
    rw [hx0] at p0
    rw [hx1] at p1
    rw [hy0] at q0
    rw [hy1] at q1
    rw [hnx, hny, hx0, hx1, hy0, hy1] at hcl
    have hkb := HK.out.1 j wr HJ.out.1
    have hc1 : ∀ p, wr.cell? ⟨g1, p, none⟩ = w.cell? ⟨g1, p, none⟩ := fun p => World.cell?_of_block (w := w) (hkb g1 hg1)
    have hc2 : ∀ p, wr.cell? ⟨g2, p, none⟩ = w.cell? ⟨g2, p, none⟩ := fun p => World.cell?_of_block (w := w) (hkb g2 hg2)
    have a0 : wr.cell? ⟨g1, off1 + j * 3, none⟩ = some (.int .i64 x0) := by rw [hc1]; exact p0
    have a1 : wr.cell? ⟨g1, off1 + j * 3 + 1, none⟩ = some (.int .i64 x1) := by rw [hc1]; exact p1
    have a2 : wr.cell? ⟨g1, off1 + j * 3 + 2, none⟩ = some (.slice au nx cu) := by rw [hc1]; exact p2
    have b0 : wr.cell? ⟨g2, off2 + j * 3, none⟩ = some (.int .i64 y0) := by rw [hc2]; exact q0
    have b1 : wr.cell? ⟨g2, off2 + j * 3 + 1, none⟩ = some (.int .i64 y1) := by rw [hc2]; exact q1
    have b2 : wr.cell? ⟨g2, off2 + j * 3 + 2, none⟩ = some (.slice av ny cv) := by rw [hc2]; exact q2
    have z1 : g1 < wr.heap.size := by
     rcases Nat.lt_or_ge g1 wr.heap.size with h | h
     ·exact h
     ·simp [World.cell?, h] at a0
    have z2 : g2 < wr.heap.size := by
     rcases Nat.lt_or_ge g2 wr.heap.size with h | h
     ·exact h
     ·simp [World.cell?, h] at b0
    have hcall := hcl ((wr.alloc (.cells #[.int .i64 x0, .int .i64 x1, .slice au nx cu] 24)).alloc (.cells #[.int .i64 y0, .int .i64 y1, .slice av ny cv] 24)) (HK.out.2.1 _ _ _ (HK.out.2.1 _ _ _ HJ.out.1))
    have HCL : Hid _ := hcall
    have HXY : Hid (S.ks[j] = x ∧ T.ks[j] = y) := ⟨hxe, hye⟩
    have hu := Tryz.underlying24
    clear hcl hcall p0 p1 p2 p3 q0 q1 q2 q3 hc1 hc2 hxe hye hnx hny hx0 hx1 hy0 hy1 hkb
    go_wp2_with (first | (go_at_fn g; refine Calls.mono HCL.out ?_; rintro e W3 ⟨r, rfl, hr, hI3⟩) | fail)
    ·obtain rfl : r = false := by cases r <;> simp_all
     go_ret
     refine ⟨false, rfl, ⟨fun h => by simp at h, fun h => ?_⟩, j + 1, hI3⟩
     have hxy : x = y := by
      rw [← HXY.out.1, ← HXY.out.2]
      simp only [h]
     exact hr.2 hxy
    ·obtain rfl : r = true := by cases r <;> simp_all
     have HN : Hid (Inv (j + 1) W3 ∧ S.ks.take (j + 1) = T.ks.take (j + 1)) := by
      refine ⟨hI3, ?_⟩
      rw [Tm.take_snoc _ _ hx, Tm.take_snoc _ _ hy, HJ.out.2, HXY.out.1, HXY.out.2, hr.1 rfl]
     go_roundg (gk - 1)
     case measure => omega
     case rel => exact ⟨j + 1, by omega, by go_num, HN.out⟩
   ·have hd : decide ((j : Int) < n) = false := decide_eq_false (by omega)
    go_wp2
    go_ret
    refine ⟨true, rfl, ⟨fun _ => ?_, fun _ => rfl⟩, j, HJ.out.1⟩
    have h := HJ.out.2
    rwa [List.take_of_length_le (by rw [HX.out.2.2.1]; omega), List.take_of_length_le (by rw [HX.out.2.2.2.1]; omega)] at h
 ·have hd : ((n : Int) == (m : Int)) = false := by simp; omega
  go_enter Tryz.func81, Tryz.ntmps81
  go_wp2
  go_ret
  refine ⟨false, rfl, ⟨fun h => by simp at h, fun h => ?_⟩, 0, HX.out.2.2.2.2⟩
  have := congrArg List.length h
  rw [HX.out.2.2.1, HX.out.2.2.2.1] at this
  exact absurd this hnm
def Tk.SameEnd (S T : Tm) (lv left bw : Nat) (w : World) (e : Ending) (w' : World) : Prop :=
 ∃ r, e = .returned (.bool r) ∧ (r = true ↔ S = T) ∧ Tk.But (fun k => k = bw) w w' ∧ ∃ left', Tk.Wy bw lv left' w' ∧ left ≤ left' + S.size ∧ left' ≤ left
structure Tk.Sb (bw L : Nat) (b1 b2 b3 : Nat) (w : World) : Prop where
 h1 : w.heap[b1]? = some (.cells #[.pointer (some ⟨bw, 0, none⟩)] 187 (0, 0))
 h2 : w.heap[b2]? = some (.cells #[.int .i64 L] 3 (0, 0))
 h3 : w.heap[b3]? = some (.cells #[.func (.func 104) #[] #[]] 126 (0, 0))
theorem Tk.Sb.keep {bw L b1 b2 b3 : Nat} {w w' : World} (h : Tk.Sb bw L b1 b2 b3 w) (k1 : w'.heap[b1]? = w.heap[b1]?) (k2 : w'.heap[b2]? = w.heap[b2]?) (k3 : w'.heap[b3]? = w.heap[b3]?) : Tk.Sb bw L b1 b2 b3 w' := ⟨k1.trans h.h1, k2.trans h.h2, k3.trans h.h3⟩
theorem Tk.Sb.c1 {bw L b1 b2 b3 : Nat} {w : World} (h : Tk.Sb bw L b1 b2 b3 w) : w.cell? ⟨b1, 0, none⟩ = some (.pointer (some ⟨bw, 0, none⟩)) := by have := h.h1; simp [World.cell?, this]
theorem Tk.Sb.c2 {bw L b1 b2 b3 : Nat} {w : World} (h : Tk.Sb bw L b1 b2 b3 w) : w.cell? ⟨b2, 0, none⟩ = some (.int .i64 L) := by have := h.h2; simp [World.cell?, this]
theorem Tk.Sb.c3 {bw L b1 b2 b3 : Nat} {w : World} (h : Tk.Sb bw L b1 b2 b3 w) : w.cell? ⟨b3, 0, none⟩ = some (.func (.func 104) #[] #[]) := by have := h.h3; simp [World.cell?, this]
theorem Tk.Sb.lt {bw L b1 b2 b3 : Nat} {w : World} (h : Tk.Sb bw L b1 b2 b3 w) : b1 < w.heap.size ∧ b2 < w.heap.size ∧ b3 < w.heap.size :=
 ⟨(Array.getElem?_eq_some_iff.1 h.h1).1, (Array.getElem?_eq_some_iff.1 h.h2).1, (Array.getElem?_eq_some_iff.1 h.h3).1⟩
set_option maxRecDepth 20000 in
set_option maxHeartbeats 8000000 in
theorem Tryz.same1_any (bw lv L b1 b2 b3 : Nat) (S T : Tm) (u v : Value) (left : Nat) (W : World) (hb : Tk.Sb bw (L + 1) b1 b2 b3 W) (hL : L ≤ 1000)
  (hs : ∀ W', Below W.heap.size W W' → Calls Tryz.prog 125 #[.pointer (some ⟨bw, 0, none⟩), .agg #[.int .i64 S.op, .int .i64 S.num, u], .agg #[.int .i64 T.op, .int .i64 T.num, v], .int .i64 L, .func (.func 104) #[] #[]] W' (Tk.SameEnd S T lv left bw W')) (_hbw : bw < W.heap.size)
  (hu : ∃ a n c, u = .slice a n c) (hv : ∃ a n c, v = .slice a n c) :
  Calls Tryz.prog 148 #[.agg #[.int .i64 S.op, .int .i64 S.num, u], .agg #[.int .i64 T.op, .int .i64 T.num, v], .pointer (some ⟨b1, 0, none⟩), .pointer (some ⟨b2, 0, none⟩), .pointer (some ⟨b3, 0, none⟩)] W (Tk.SameEnd S T lv left bw W) := by
 obtain ⟨a, n, c, rfl⟩ := hu
 obtain ⟨a', n', c', rfl⟩ := hv
 obtain ⟨x0, hx0⟩ : ∃ z, S.op = z := ⟨_, rfl⟩
 obtain ⟨x1, hx1⟩ : ∃ z, S.num = z := ⟨_, rfl⟩
 obtain ⟨y0, hy0⟩ : ∃ z, T.op = z := ⟨_, rfl⟩
 obtain ⟨y1, hy1⟩ : ∃ z, T.num = z := ⟨_, rfl⟩
 rw [hx0, hx1, hy0, hy1]
 rw [hx0, hx1, hy0, hy1] at hs
 have k1 := hb.c1
 have k2 := hb.c2
 have k3 := hb.c3
 obtain ⟨z1, z2, z3⟩ := hb.lt
 have A0 : Below W.heap.size W ((W.alloc (.cells #[.int .i64 x0, .int .i64 x1, .slice a n c] 24)).alloc (.cells #[.int .i64 y0, .int .i64 y1, .slice a' n' c'] 24)) := ((Below.refl _ W).alloc (Nat.le_refl _) _).alloc (by simp) _
 have H1 : Hid _ := hs _ A0
 have HA : Hid _ := A0
 have e1 : ((L + 1 : Nat) : Int) - 1 = L := by omega
 clear hs A0 hb hx0 hx1 hy0 hy1
 go_enter Tryz.func148, Tryz.ntmps148
 go_wp2_with fail
 refine Calls.mono H1.out ?_
 rintro e W2 ⟨r, rfl, hr, hbt, hl⟩
 have HR : Hid ((r = true ↔ S = T) ∧ Tk.But (fun k => k = bw) W W2 ∧ ∃ left', Tk.Wy bw lv left' W2 ∧ left ≤ left' + S.size ∧ left' ≤ left) := ⟨hr, (Tk.But.of_below HA.out).trans hbt, hl⟩
 clear hr hbt hl H1
 go_wp2
 go_ret
 exact ⟨r, rfl, HR.out⟩
end Go.Proofs
