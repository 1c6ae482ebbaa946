/-
  Holding two terms against one another (nest.Way's same, at terms): EqualFunc, same, Same.
-/
import Derived.Test.YtegcepenpchonaaDoorTCheck
namespace Go.Proofs
open Go.RowKit Go.Shelf

theorem Tm.eq_iff (S T : Tm) : S = T ↔ S.op = T.op ∧ S.num = T.num ∧ S.ks = T.ks := by
  cases S; cases T
  simp only [Tm.mk.injEq, Tm.op, Tm.num, Tm.ks]

set_option maxHeartbeats 800000 in
theorem Tryd.alike_any (o1 n1 o2 n2 : Int) (a b : Option Addr) (l1 c1 l2 c2 : Nat) (w : World) :
    Calls Tryd.prog 37 #[.agg #[.int .i64 o1, .int .i64 n1, .slice a l1 c1], .agg #[.int .i64 o2, .int .i64 n2, .slice b l2 c2]] w fun e w' => e = .returned (.bool (o1 == o2 && n1 == n2)) ∧ Below w.heap.size w w' := by
  have B0 : Hid (Below w.heap.size w ((w.alloc (.cells #[.int .i64 o1, .int .i64 n1, .slice a l1 c1] 24)).alloc (.cells #[.int .i64 o2, .int .i64 n2, .slice b l2 c2] 24))) := ((Below.refl _ w).alloc (Nat.le_refl _) _).alloc (by simp) _
  cases h1 : (o1 == o2)
  · go_enter Tryd.func37, Tryd.ntmps37
    go_wp2
    go_ret
    exact ⟨rfl, B0.out⟩
  · go_enter Tryd.func37, Tryd.ntmps37
    go_wp2
    go_ret
    exact ⟨by simp, B0.out⟩

set_option maxRecDepth 20000 in
set_option maxHeartbeats 8000000 in
theorem Tryd.equalFunc_any {g : Nat} {lb : Array Value} (eg : ∀ args w, (callFunc g args).run Tryd.prog w = .ok (.enter g args) w) (S T : Tm) (a b : Option Addr) (ca cb B d d' : Nat) (w : World) (Inv : Nat → World → Prop)
    (hS : Tm.Lies w B (d + 1) (.slice a S.ks.length ca) S) (hT : Tm.Lies w B (d' + 1) (.slice b T.ks.length cb) T) (hI0 : Inv 0 w) (hk : ∀ j W, Inv j W → ∀ i, i < B → W.heap[i]? = w.heap[i]?) (hal : ∀ j W o, Inv j W → Inv j (W.alloc o)) (hdr : ∀ j W, Inv j W → Inv j W.drew) (hsm : S.ks.length ≤ 2147483647)
    (hc : ∀ j (hx : j < S.ks.length) (hy : j < T.ks.length) (W : World) (u v : Value), Inv j W → Tm.Lies w B d u S.ks[j] → Tm.Lies w B d' v T.ks[j] → Calls Tryd.prog g (#[.agg #[.int .i64 S.ks[j].op, .int .i64 S.ks[j].num, u], .agg #[.int .i64 T.ks[j].op, .int .i64 T.ks[j].num, v]] ++ lb) W fun e w' => ∃ r, e = .returned (.bool r) ∧ (r = true ↔ S.ks[j] = T.ks[j]) ∧ Inv (j + 1) w') :
    Calls Tryd.prog 69 #[.slice a S.ks.length ca, .slice b T.ks.length cb, .func (.func g) #[] lb] w fun e w' => ∃ r, e = .returned (.bool r) ∧ (r = true ↔ S.ks = T.ks) ∧ ∃ j, Inv j w' := by
  obtain ⟨n, hn⟩ : ∃ n, S.ks.length = n := ⟨_, rfl⟩
  obtain ⟨m, hm⟩ : ∃ n, T.ks.length = n := ⟨_, rfl⟩
  have HX : Hid (Tm.Lies w B (d + 1) (.slice a n ca) S ∧ Tm.Lies w B (d' + 1) (.slice b m cb) T ∧ S.ks.length = n ∧ T.ks.length = m ∧ Inv 0 w) := ⟨by rw [← hn]; exact hS, by rw [← hm]; exact hT, hn, hm, hI0⟩
  have HK : Hid ((∀ j W, Inv j W → ∀ i, i < B → W.heap[i]? = w.heap[i]?) ∧ (∀ j W o, Inv j W → Inv j (W.alloc o)) ∧ (∀ j W, Inv j W → Inv j W.drew)) := ⟨hk, hal, hdr⟩
  have HC : Hid _ := hc
  rw [hn] at hsm
  rw [hn, hm]
  clear hS hT hI0 hk hal hdr hc hn hm
  by_cases hnm : n = m
  · subst hnm
    go_enter Tryd.func69, Tryd.ntmps69
    go_wp2
    go_loopg [17] n (fun gk i wr => ∃ j : Nat, gk + j = n ∧ i = .int .i64 j ∧ Hid (Inv j wr ∧ S.ks.take j = T.ks.take j))
    case atStart => exact ⟨0, by omega, rfl, HX.out.2.2.2.2, by simp⟩
    case round =>
      obtain ⟨j, hj, rfl, HJ⟩ := hrel
      by_cases hjn : j < n
      · have hd : decide ((j : Int) < n) = true := decide_eq_true (by omega)
        have hjn' : (j : Int) < n := by omega
        have hx : j < S.ks.length := by rw [HX.out.2.2.1]; exact hjn
        have hy : j < T.ks.length := by rw [HX.out.2.2.2.1]; exact hjn
        obtain ⟨g1, off1, u1, rfl, hg1, p0, p1, p2, p3⟩ := HX.out.1.kid j hx
        obtain ⟨g2, off2, u2, rfl, hg2, q0, q1, q2, q3⟩ := HX.out.2.1.kid j hy
        have hcl := fun W h => HC.out j hx hy W u1 u2 h p3 q3
        obtain ⟨x, hxe⟩ : ∃ x, S.ks[j] = x := ⟨_, rfl⟩
        obtain ⟨y, hye⟩ : ∃ x, T.ks[j] = x := ⟨_, rfl⟩
        rw [hxe] at p0 p1 p3
        rw [hye] at q0 q1 q3
        simp only [hxe, hye] at hcl
        obtain ⟨au, cu, rfl⟩ := p3.shape
        obtain ⟨av, cv, rfl⟩ := q3.shape
        obtain ⟨nx, hnx⟩ : ∃ n, x.ks.length = n := ⟨_, rfl⟩
        obtain ⟨ny, hny⟩ : ∃ n, y.ks.length = n := ⟨_, rfl⟩
        obtain ⟨x0, hx0⟩ : ∃ z, x.op = z := ⟨_, rfl⟩
        obtain ⟨x1, hx1⟩ : ∃ z, x.num = z := ⟨_, rfl⟩
        obtain ⟨y0, hy0⟩ : ∃ z, y.op = z := ⟨_, rfl⟩
        obtain ⟨y1, hy1⟩ : ∃ z, y.num = z := ⟨_, rfl⟩
        rw [hnx] at p2
        rw [hny] at q2
        rw [hx0] at p0
        rw [hx1] at p1
        rw [hy0] at q0
        rw [hy1] at q1
        rw [hnx, hny, hx0, hx1, hy0, hy1] at hcl
        have hkb := HK.out.1 j wr HJ.out.1
        have hc1 : ∀ p, wr.cell? ⟨g1, p, none⟩ = w.cell? ⟨g1, p, none⟩ := fun p => World.cell?_of_block (w := w) (hkb g1 hg1)
        have hc2 : ∀ p, wr.cell? ⟨g2, p, none⟩ = w.cell? ⟨g2, p, none⟩ := fun p => World.cell?_of_block (w := w) (hkb g2 hg2)
        have a0 : wr.cell? ⟨g1, off1 + j * 3, none⟩ = some (.int .i64 x0) := by rw [hc1]; exact p0
        have a1 : wr.cell? ⟨g1, off1 + j * 3 + 1, none⟩ = some (.int .i64 x1) := by rw [hc1]; exact p1
        have a2 : wr.cell? ⟨g1, off1 + j * 3 + 2, none⟩ = some (.slice au nx cu) := by rw [hc1]; exact p2
        have b0 : wr.cell? ⟨g2, off2 + j * 3, none⟩ = some (.int .i64 y0) := by rw [hc2]; exact q0
        have b1 : wr.cell? ⟨g2, off2 + j * 3 + 1, none⟩ = some (.int .i64 y1) := by rw [hc2]; exact q1
        have b2 : wr.cell? ⟨g2, off2 + j * 3 + 2, none⟩ = some (.slice av ny cv) := by rw [hc2]; exact q2
        have z1 : g1 < wr.heap.size := by
          rcases Nat.lt_or_ge g1 wr.heap.size with h | h
          · exact h
          · simp [World.cell?, h] at a0
        have z2 : g2 < wr.heap.size := by
          rcases Nat.lt_or_ge g2 wr.heap.size with h | h
          · exact h
          · simp [World.cell?, h] at b0
        have hcall := hcl ((wr.alloc (.cells #[.int .i64 x0, .int .i64 x1, .slice au nx cu] 24)).alloc (.cells #[.int .i64 y0, .int .i64 y1, .slice av ny cv] 24)) (HK.out.2.1 _ _ _ (HK.out.2.1 _ _ _ HJ.out.1))
        have HCL : Hid _ := hcall
        have HXY : Hid (S.ks[j] = x ∧ T.ks[j] = y) := ⟨hxe, hye⟩
        have hu := Tryd.underlying24
        clear hcl hcall p0 p1 p2 p3 q0 q1 q2 q3 hc1 hc2 hxe hye hnx hny hx0 hx1 hy0 hy1 hkb
        go_wp2_with (first | (go_at_fn g; refine Calls.mono HCL.out ?_; rintro e W3 ⟨r, rfl, hr, hI3⟩) | fail)
        · obtain rfl : r = false := by cases r <;> simp_all
          go_ret
          refine ⟨false, rfl, ⟨fun h => by simp at h, fun h => ?_⟩, j + 1, hI3⟩
          have hxy : x = y := by
            rw [← HXY.out.1, ← HXY.out.2]
            simp only [h]
          exact hr.2 hxy
        · obtain rfl : r = true := by cases r <;> simp_all
          have HN : Hid (Inv (j + 1) W3 ∧ S.ks.take (j + 1) = T.ks.take (j + 1)) := by
            refine ⟨hI3, ?_⟩
            rw [Tm.take_snoc _ _ hx, Tm.take_snoc _ _ hy, HJ.out.2, HXY.out.1, HXY.out.2, hr.1 rfl]
          go_roundg (gk - 1)
          case measure => omega
          case rel => exact ⟨j + 1, by omega, by go_num, HN.out⟩
      · have hd : decide ((j : Int) < n) = false := decide_eq_false (by omega)
        go_wp2
        go_ret
        refine ⟨true, rfl, ⟨fun _ => ?_, fun _ => rfl⟩, j, HJ.out.1⟩
        have h := HJ.out.2
        rwa [List.take_of_length_le (by rw [HX.out.2.2.1]; omega), List.take_of_length_le (by rw [HX.out.2.2.2.1]; omega)] at h
  · have hd : ((n : Int) == (m : Int)) = false := by simp; omega
    go_enter Tryd.func69, Tryd.ntmps69
    go_wp2
    go_ret
    refine ⟨false, rfl, ⟨fun h => by simp at h, fun h => ?_⟩, 0, HX.out.2.2.2.2⟩
    have := congrArg List.length h
    rw [HX.out.2.2.1, HX.out.2.2.2.1] at this
    exact absurd this hnm

/-- What same comes to. -/
def Tk.SameEnd (S T : Tm) (lv left bw : Nat) (w : World) (e : Ending) (w' : World) : Prop :=
  ∃ r, e = .returned (.bool r) ∧ (r = true ↔ S = T) ∧ Tk.But (fun k => k = bw) w w' ∧ ∃ left', Tk.Wy bw lv left' w' ∧ left ≤ left' + S.size ∧ left' ≤ left

/-- The four boxes that same's closure is made over: the way's pointer, the levels, what is handed on. -/
structure Tk.Sb (bw L : Nat) (b1 b2 b3 : Nat) (w : World) : Prop where
  h1 : w.heap[b1]? = some (.cells #[.pointer (some ⟨bw, 0, none⟩)] 101 (0, 0))
  h2 : w.heap[b2]? = some (.cells #[.int .i64 L] 3 (0, 0))
  h3 : w.heap[b3]? = some (.cells #[.func (.func 37) #[] #[]] 44 (0, 0))
theorem Tk.Sb.keep {bw L b1 b2 b3 : Nat} {w w' : World} (h : Tk.Sb bw L b1 b2 b3 w) (k1 : w'.heap[b1]? = w.heap[b1]?) (k2 : w'.heap[b2]? = w.heap[b2]?) (k3 : w'.heap[b3]? = w.heap[b3]?) : Tk.Sb bw L b1 b2 b3 w' := ⟨k1.trans h.h1, k2.trans h.h2, k3.trans h.h3⟩
theorem Tk.Sb.c1 {bw L b1 b2 b3 : Nat} {w : World} (h : Tk.Sb bw L b1 b2 b3 w) : w.cell? ⟨b1, 0, none⟩ = some (.pointer (some ⟨bw, 0, none⟩)) := by have := h.h1; simp [World.cell?, this]
theorem Tk.Sb.c2 {bw L b1 b2 b3 : Nat} {w : World} (h : Tk.Sb bw L b1 b2 b3 w) : w.cell? ⟨b2, 0, none⟩ = some (.int .i64 L) := by have := h.h2; simp [World.cell?, this]
theorem Tk.Sb.c3 {bw L b1 b2 b3 : Nat} {w : World} (h : Tk.Sb bw L b1 b2 b3 w) : w.cell? ⟨b3, 0, none⟩ = some (.func (.func 37) #[] #[]) := by have := h.h3; simp [World.cell?, this]
theorem Tk.Sb.lt {bw L b1 b2 b3 : Nat} {w : World} (h : Tk.Sb bw L b1 b2 b3 w) : b1 < w.heap.size ∧ b2 < w.heap.size ∧ b3 < w.heap.size :=
  ⟨(Array.getElem?_eq_some_iff.1 h.h1).1, (Array.getElem?_eq_some_iff.1 h.h2).1, (Array.getElem?_eq_some_iff.1 h.h3).1⟩

set_option maxRecDepth 20000 in
set_option maxHeartbeats 8000000 in
/-- The closure, as soon as same is known one level down. -/
theorem Tryd.same1_any (bw lv L b1 b2 b3 : Nat) (S T : Tm) (u v : Value) (left : Nat) (W : World) (hb : Tk.Sb bw (L + 1) b1 b2 b3 W) (hL : L ≤ 1000)
    (hs : ∀ W', Below W.heap.size W W' → Calls Tryd.prog 58 #[.pointer (some ⟨bw, 0, none⟩), .agg #[.int .i64 S.op, .int .i64 S.num, u], .agg #[.int .i64 T.op, .int .i64 T.num, v], .int .i64 L, .func (.func 37) #[] #[]] W' (Tk.SameEnd S T lv left bw W')) (_hbw : bw < W.heap.size)
    (hu : ∃ a n c, u = .slice a n c) (hv : ∃ a n c, v = .slice a n c) :
    Calls Tryd.prog 70 #[.agg #[.int .i64 S.op, .int .i64 S.num, u], .agg #[.int .i64 T.op, .int .i64 T.num, v], .pointer (some ⟨b1, 0, none⟩), .pointer (some ⟨b2, 0, none⟩), .pointer (some ⟨b3, 0, none⟩)] W (Tk.SameEnd S T lv left bw W) := by
  obtain ⟨a, n, c, rfl⟩ := hu
  obtain ⟨a', n', c', rfl⟩ := hv
  obtain ⟨x0, hx0⟩ : ∃ z, S.op = z := ⟨_, rfl⟩
  obtain ⟨x1, hx1⟩ : ∃ z, S.num = z := ⟨_, rfl⟩
  obtain ⟨y0, hy0⟩ : ∃ z, T.op = z := ⟨_, rfl⟩
  obtain ⟨y1, hy1⟩ : ∃ z, T.num = z := ⟨_, rfl⟩
  rw [hx0, hx1, hy0, hy1]
  rw [hx0, hx1, hy0, hy1] at hs
  have k1 := hb.c1
  have k2 := hb.c2
  have k3 := hb.c3
  obtain ⟨z1, z2, z3⟩ := hb.lt
  have A0 : Below W.heap.size W ((W.alloc (.cells #[.int .i64 x0, .int .i64 x1, .slice a n c] 24)).alloc (.cells #[.int .i64 y0, .int .i64 y1, .slice a' n' c'] 24)) := ((Below.refl _ W).alloc (Nat.le_refl _) _).alloc (by simp) _
  have H1 : Hid _ := hs _ A0
  have HA : Hid _ := A0
  have e1 : ((L + 1 : Nat) : Int) - 1 = L := by omega
  clear hs A0 hb hx0 hx1 hy0 hy1
  go_enter Tryd.func70, Tryd.ntmps70
  go_wp2_with fail
  refine Calls.mono H1.out ?_
  rintro e W2 ⟨r, rfl, hr, hbt, hl⟩
  have HR : Hid ((r = true ↔ S = T) ∧ Tk.But (fun k => k = bw) W W2 ∧ ∃ left', Tk.Wy bw lv left' W2 ∧ left ≤ left' + S.size ∧ left' ≤ left) := ⟨hr, (Tk.But.of_below HA.out).trans hbt, hl⟩
  clear hr hbt hl H1
  go_wp2
  go_ret
  exact ⟨r, rfl, HR.out⟩

end Go.Proofs
