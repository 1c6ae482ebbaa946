/-
  Holding two blocks against one another (nest.Way's same, at blocks): EqualFunc and same's closure.
-/
import Derived.Test.YtimmgchapcbgfaaDoorBlLinks
namespace Go.Proofs
open Go.RowKit Go.Shelf

set_option maxRecDepth 20000 in
set_option maxHeartbeats 8000000 in
theorem Tryd.bequalFunc_any {g : Nat} {lb : Array Value} (eg : ∀ args w, (callFunc g args).run Tryd.prog w = .ok (.enter g args) w) (S T : Bl) (a b : Option Addr) (ca cb B d d' : Nat) (la lb' : Value) (w : World) (Inv : Nat → World → Prop)
    (hS : Bl.Lies w B (d + 1) (.slice a S.ks.length ca) la S) (hT : Bl.Lies w B (d' + 1) (.slice b T.ks.length cb) lb' T) (hI0 : Inv 0 w) (hk : ∀ j W, Inv j W → ∀ i, i < B → W.heap[i]? = w.heap[i]?) (hal : ∀ j W o, Inv j W → Inv j (W.alloc o)) (hdr : ∀ j W, Inv j W → Inv j W.drew) (hsm : S.ks.length ≤ 2147483647)
    (hc : ∀ j (hx : j < S.ks.length) (hy : j < T.ks.length) (W : World) (u lu v lv : Value), Inv j W → Bl.Lies w B d u lu S.ks[j] → Bl.Lies w B d' v lv T.ks[j] → Calls Tryd.prog g (#[.agg #[.int .i64 S.ks[j].kind, .int .i64 S.ks[j].node, .int .i64 S.ks[j].arg, u, lu], .agg #[.int .i64 T.ks[j].kind, .int .i64 T.ks[j].node, .int .i64 T.ks[j].arg, v, lv]] ++ lb) W fun e w' => ∃ r, e = .returned (.bool r) ∧ (r = true ↔ S.ks[j] = T.ks[j]) ∧ Inv (j + 1) w') :
    Calls Tryd.prog 39 #[.slice a S.ks.length ca, .slice b T.ks.length cb, .func (.func g) #[] lb] w fun e w' => ∃ r, e = .returned (.bool r) ∧ (r = true ↔ S.ks = T.ks) ∧ ∃ j, Inv j w' := by
  obtain ⟨n, hn⟩ : ∃ n, S.ks.length = n := ⟨_, rfl⟩
  obtain ⟨m, hm⟩ : ∃ n, T.ks.length = n := ⟨_, rfl⟩
  have HX : Hid (Bl.Lies w B (d + 1) (.slice a n ca) la S ∧ Bl.Lies w B (d' + 1) (.slice b m cb) lb' T ∧ S.ks.length = n ∧ T.ks.length = m ∧ Inv 0 w) := ⟨by rw [← hn]; exact hS, by rw [← hm]; exact hT, hn, hm, hI0⟩
  have HK : Hid ((∀ j W, Inv j W → ∀ i, i < B → W.heap[i]? = w.heap[i]?) ∧ (∀ j W o, Inv j W → Inv j (W.alloc o)) ∧ (∀ j W, Inv j W → Inv j W.drew)) := ⟨hk, hal, hdr⟩
  have HC : Hid _ := hc
  rw [hn] at hsm
  rw [hn, hm]
  clear hS hT hI0 hk hal hdr hc hn hm
  by_cases hnm : n = m
  · subst hnm
    go_enter Tryd.func39, Tryd.ntmps39
    go_wp2
    go_loopg [17] n (fun gk i wr => ∃ j : Nat, gk + j = n ∧ i = .int .i64 j ∧ Hid (Inv j wr ∧ S.ks.take j = T.ks.take j))
    case atStart => exact ⟨0, by omega, rfl, HX.out.2.2.2.2, by simp⟩
    case round =>
      obtain ⟨j, hj, rfl, HJ⟩ := hrel
      by_cases hjn : j < n
      · have hd : decide ((j : Int) < n) = true := decide_eq_true (by omega)
        have hjn' : (j : Int) < n := by omega
        have hx : j < S.ks.length := by rw [HX.out.2.2.1]; exact hjn
        have hy : j < T.ks.length := by rw [HX.out.2.2.2.1]; exact hjn
        obtain ⟨g1, off1, u1, l1, rfl, hg1, p0, p1, p2, p3, p4, p5⟩ := HX.out.1.kid j hx
        obtain ⟨g2, off2, u2, l2, rfl, hg2, q0, q1, q2, q3, q4, q5⟩ := HX.out.2.1.kid j hy
        have hcl := fun W h => HC.out j hx hy W u1 l1 u2 l2 h p5 q5
        obtain ⟨x, hxe⟩ : ∃ x, S.ks[j] = x := ⟨_, rfl⟩
        obtain ⟨y, hye⟩ : ∃ x, T.ks[j] = x := ⟨_, rfl⟩
        rw [hxe] at p0 p1 p2 p5
        rw [hye] at q0 q1 q2 q5
        simp only [hxe, hye] at hcl
        obtain ⟨au, cu, rfl⟩ := p5.shape
        obtain ⟨av, cv, rfl⟩ := q5.shape
        obtain ⟨bu, du, rfl⟩ := p5.links.shape
        obtain ⟨bv, dv, rfl⟩ := q5.links.shape
        obtain ⟨mx, hmx⟩ : ∃ n, x.ls.length = n := ⟨_, rfl⟩
        obtain ⟨my, hmy⟩ : ∃ n, y.ls.length = n := ⟨_, rfl⟩
        obtain ⟨nx, hnx⟩ : ∃ n, x.ks.length = n := ⟨_, rfl⟩
        obtain ⟨ny, hny⟩ : ∃ n, y.ks.length = n := ⟨_, rfl⟩
        obtain ⟨x0, hx0⟩ : ∃ z, x.kind = z := ⟨_, rfl⟩
        obtain ⟨x1, hx1⟩ : ∃ z, x.node = z := ⟨_, rfl⟩
        obtain ⟨x2, hx2⟩ : ∃ z, x.arg = z := ⟨_, rfl⟩
        obtain ⟨y0, hy0⟩ : ∃ z, y.kind = z := ⟨_, rfl⟩
        obtain ⟨y1, hy1⟩ : ∃ z, y.node = z := ⟨_, rfl⟩
        obtain ⟨y2, hy2⟩ : ∃ z, y.arg = z := ⟨_, rfl⟩
        rw [hnx] at p3
        rw [hny] at q3
        rw [hmx] at p4
        rw [hmy] at q4
        rw [hx2] at p2
        rw [hy2] at q2
        rw [hx0] at p0
        rw [hx1] at p1
        rw [hy0] at q0
        rw [hy1] at q1
        rw [hnx, hny, hmx, hmy, hx0, hx1, hx2, hy0, hy1, hy2] at hcl
        have hkb := HK.out.1 j wr HJ.out.1
        have hc1 : ∀ p, wr.cell? ⟨g1, p, none⟩ = w.cell? ⟨g1, p, none⟩ := fun p => World.cell?_of_block (w := w) (hkb g1 hg1)
        have hc2 : ∀ p, wr.cell? ⟨g2, p, none⟩ = w.cell? ⟨g2, p, none⟩ := fun p => World.cell?_of_block (w := w) (hkb g2 hg2)
        have a0 : wr.cell? ⟨g1, off1 + j * 5, none⟩ = some (.int .i64 x0) := by rw [hc1]; exact p0
        have a1 : wr.cell? ⟨g1, off1 + j * 5 + 1, none⟩ = some (.int .i64 x1) := by rw [hc1]; exact p1
        have a2 : wr.cell? ⟨g1, off1 + j * 5 + 2, none⟩ = some (.int .i64 x2) := by rw [hc1]; exact p2
        have a3 : wr.cell? ⟨g1, off1 + j * 5 + 3, none⟩ = some (.slice au nx cu) := by rw [hc1]; exact p3
        have a4 : wr.cell? ⟨g1, off1 + j * 5 + 4, none⟩ = some (.slice bu mx du) := by rw [hc1]; exact p4
        have b0 : wr.cell? ⟨g2, off2 + j * 5, none⟩ = some (.int .i64 y0) := by rw [hc2]; exact q0
        have b1 : wr.cell? ⟨g2, off2 + j * 5 + 1, none⟩ = some (.int .i64 y1) := by rw [hc2]; exact q1
        have b2 : wr.cell? ⟨g2, off2 + j * 5 + 2, none⟩ = some (.int .i64 y2) := by rw [hc2]; exact q2
        have b3 : wr.cell? ⟨g2, off2 + j * 5 + 3, none⟩ = some (.slice av ny cv) := by rw [hc2]; exact q3
        have b4 : wr.cell? ⟨g2, off2 + j * 5 + 4, none⟩ = some (.slice bv my dv) := by rw [hc2]; exact q4
        have z1 : g1 < wr.heap.size := by
          rcases Nat.lt_or_ge g1 wr.heap.size with h | h
          · exact h
          · simp [World.cell?, h] at a0
        have z2 : g2 < wr.heap.size := by
          rcases Nat.lt_or_ge g2 wr.heap.size with h | h
          · exact h
          · simp [World.cell?, h] at b0
        have hcall := hcl ((wr.alloc (.cells #[.int .i64 x0, .int .i64 x1, .int .i64 x2, .slice au nx cu, .slice bu mx du] 25)).alloc (.cells #[.int .i64 y0, .int .i64 y1, .int .i64 y2, .slice av ny cv, .slice bv my dv] 25)) (HK.out.2.1 _ _ _ (HK.out.2.1 _ _ _ HJ.out.1))
        have HCL : Hid _ := hcall
        have HXY : Hid (S.ks[j] = x ∧ T.ks[j] = y) := ⟨hxe, hye⟩
        have hu := Tryd.underlying25
        clear hcl hcall p0 p1 p2 p3 p4 p5 q0 q1 q2 q3 q4 q5 hc1 hc2 hxe hye hnx hny hmx hmy hx0 hx1 hx2 hy0 hy1 hy2 hkb
        go_wp2_with fail
        refine Calls.mono HCL.out ?_
        rintro e W3 ⟨r, rfl, hr, hI3⟩
        clear HCL a0 a1 a2 a3 a4 b0 b1 b2 b3 b4
        cases r
        · go_wp2
          go_ret
          refine ⟨false, rfl, ⟨fun h => by simp at h, fun h => ?_⟩, j + 1, hI3⟩
          have hxy : x = y := by
            rw [← HXY.out.1, ← HXY.out.2]
            simp only [h]
          have := hr.2 hxy
          simp at this
        · have HN : Hid (Inv (j + 1) W3 ∧ S.ks.take (j + 1) = T.ks.take (j + 1)) := by
            refine ⟨hI3, ?_⟩
            rw [Bl.take_snoc _ _ hx, Bl.take_snoc _ _ hy, HJ.out.2, HXY.out.1, HXY.out.2, hr.1 rfl]
          clear hr hI3
          go_wp2
          go_roundg (gk - 1)
          case measure => omega
          case rel => exact ⟨j + 1, by omega, by go_num, HN.out⟩
      · have hd : decide ((j : Int) < n) = false := decide_eq_false (by omega)
        go_wp2
        go_ret
        refine ⟨true, rfl, ⟨fun _ => ?_, fun _ => rfl⟩, j, HJ.out.1⟩
        have h := HJ.out.2
        rwa [List.take_of_length_le (by rw [HX.out.2.2.1]; omega), List.take_of_length_le (by rw [HX.out.2.2.2.1]; omega)] at h
  · have hd : ((n : Int) == (m : Int)) = false := by simp; omega
    go_enter Tryd.func39, Tryd.ntmps39
    go_wp2
    go_ret
    refine ⟨false, rfl, ⟨fun h => by simp at h, fun h => ?_⟩, 0, HX.out.2.2.2.2⟩
    have := congrArg List.length h
    rw [HX.out.2.2.1, HX.out.2.2.2.1] at this
    exact absurd this hnm

/-- What same comes to. -/
def Bk.SameEnd (S T : Bl) (lv left bw : Nat) (w : World) (e : Ending) (w' : World) : Prop :=
  ∃ r, e = .returned (.bool r) ∧ (r = true ↔ S = T) ∧ Tk.But (fun k => k = bw) w w' ∧ ∃ left', Bk.Wy bw lv left' w' ∧ left ≤ left' + S.size ∧ left' ≤ left

/-- The four boxes that same's closure is made over: the way's pointer, the levels, what is handed on. -/
structure Bk.Sb (bw L : Nat) (b1 b2 b3 : Nat) (w : World) : Prop where
  h1 : w.heap[b1]? = some (.cells #[.pointer (some ⟨bw, 0, none⟩)] 75 (0, 0))
  h2 : w.heap[b2]? = some (.cells #[.int .i64 L] 3 (0, 0))
  h3 : w.heap[b3]? = some (.cells #[.func (.func 22) #[] #[]] 44 (0, 0))
theorem Bk.Sb.keep {bw L b1 b2 b3 : Nat} {w w' : World} (h : Bk.Sb bw L b1 b2 b3 w) (k1 : w'.heap[b1]? = w.heap[b1]?) (k2 : w'.heap[b2]? = w.heap[b2]?) (k3 : w'.heap[b3]? = w.heap[b3]?) : Bk.Sb bw L b1 b2 b3 w' := ⟨k1.trans h.h1, k2.trans h.h2, k3.trans h.h3⟩
theorem Bk.Sb.c1 {bw L b1 b2 b3 : Nat} {w : World} (h : Bk.Sb bw L b1 b2 b3 w) : w.cell? ⟨b1, 0, none⟩ = some (.pointer (some ⟨bw, 0, none⟩)) := by have := h.h1; simp [World.cell?, this]
theorem Bk.Sb.c2 {bw L b1 b2 b3 : Nat} {w : World} (h : Bk.Sb bw L b1 b2 b3 w) : w.cell? ⟨b2, 0, none⟩ = some (.int .i64 L) := by have := h.h2; simp [World.cell?, this]
theorem Bk.Sb.c3 {bw L b1 b2 b3 : Nat} {w : World} (h : Bk.Sb bw L b1 b2 b3 w) : w.cell? ⟨b3, 0, none⟩ = some (.func (.func 22) #[] #[]) := by have := h.h3; simp [World.cell?, this]
theorem Bk.Sb.lt {bw L b1 b2 b3 : Nat} {w : World} (h : Bk.Sb bw L b1 b2 b3 w) : b1 < w.heap.size ∧ b2 < w.heap.size ∧ b3 < w.heap.size :=
  ⟨(Array.getElem?_eq_some_iff.1 h.h1).1, (Array.getElem?_eq_some_iff.1 h.h2).1, (Array.getElem?_eq_some_iff.1 h.h3).1⟩

set_option maxRecDepth 20000 in
set_option maxHeartbeats 8000000 in
/-- The closure, as soon as same is known one level down. -/
theorem Tryd.bsame1_any (bw lv L b1 b2 b3 : Nat) (S T : Bl) (u lu v lv' : Value) (left : Nat) (W : World) (hb : Bk.Sb bw (L + 1) b1 b2 b3 W) (hL : L ≤ 1000)
    (hs : ∀ W', Below W.heap.size W W' → Calls Tryd.prog 31 #[.pointer (some ⟨bw, 0, none⟩), .agg #[.int .i64 S.kind, .int .i64 S.node, .int .i64 S.arg, u, lu], .agg #[.int .i64 T.kind, .int .i64 T.node, .int .i64 T.arg, v, lv'], .int .i64 L, .func (.func 22) #[] #[]] W' (Bk.SameEnd S T lv left bw W')) (_hbw : bw < W.heap.size)
    (hu : ∃ a n c, u = .slice a n c) (hv : ∃ a n c, v = .slice a n c) (hu' : ∃ a n c, lu = .slice a n c) (hv' : ∃ a n c, lv' = .slice a n c) :
    Calls Tryd.prog 40 #[.agg #[.int .i64 S.kind, .int .i64 S.node, .int .i64 S.arg, u, lu], .agg #[.int .i64 T.kind, .int .i64 T.node, .int .i64 T.arg, v, lv'], .pointer (some ⟨b1, 0, none⟩), .pointer (some ⟨b2, 0, none⟩), .pointer (some ⟨b3, 0, none⟩)] W (Bk.SameEnd S T lv left bw W) := by
  obtain ⟨a, n, c, rfl⟩ := hu
  obtain ⟨a', n', c', rfl⟩ := hv
  obtain ⟨p, i, f, rfl⟩ := hu'
  obtain ⟨p', i', f', rfl⟩ := hv'
  obtain ⟨x0, hx0⟩ : ∃ z, S.kind = z := ⟨_, rfl⟩
  obtain ⟨x1, hx1⟩ : ∃ z, S.node = z := ⟨_, rfl⟩
  obtain ⟨x2, hx2⟩ : ∃ z, S.arg = z := ⟨_, rfl⟩
  obtain ⟨y0, hy0⟩ : ∃ z, T.kind = z := ⟨_, rfl⟩
  obtain ⟨y1, hy1⟩ : ∃ z, T.node = z := ⟨_, rfl⟩
  obtain ⟨y2, hy2⟩ : ∃ z, T.arg = z := ⟨_, rfl⟩
  rw [hx0, hx1, hx2, hy0, hy1, hy2]
  rw [hx0, hx1, hx2, hy0, hy1, hy2] at hs
  have k1 := hb.c1
  have k2 := hb.c2
  have k3 := hb.c3
  obtain ⟨z1, z2, z3⟩ := hb.lt
  have A0 : Below W.heap.size W ((W.alloc (.cells #[.int .i64 x0, .int .i64 x1, .int .i64 x2, .slice a n c, .slice p i f] 25)).alloc (.cells #[.int .i64 y0, .int .i64 y1, .int .i64 y2, .slice a' n' c', .slice p' i' f'] 25)) := ((Below.refl _ W).alloc (Nat.le_refl _) _).alloc (by simp) _
  have H1 : Hid _ := hs _ A0
  have HA : Hid _ := A0
  have e1 : ((L + 1 : Nat) : Int) - 1 = L := by omega
  clear hs A0 hb hx0 hx1 hx2 hy0 hy1 hy2
  go_enter Tryd.func40, Tryd.ntmps40
  go_wp2_with fail
  refine Calls.mono H1.out ?_
  rintro e W2 ⟨r, rfl, hr, hbt, hl⟩
  have HR : Hid ((r = true ↔ S = T) ∧ Tk.But (fun k => k = bw) W W2 ∧ ∃ left', Bk.Wy bw lv left' W2 ∧ left ≤ left' + S.size ∧ left' ≤ left) := ⟨hr, (Tk.But.of_below HA.out).trans hbt, hl⟩
  clear hr hbt hl H1
  go_wp2
  go_ret
  exact ⟨r, rfl, HR.out⟩

end Go.Proofs
