/-
  Holding two blocks against one another (nest.Way's same, at blocks): EqualFunc and same's closure. · same, at blocks. · nest.Same at blocks, and block.Same.
-/
import Derived.Test.YtemccpfgkbhahaaGreatDoorBlLinks
namespace Go.Proofs
open Go.RowKit Go.Shelf

set_option maxRecDepth 20000 in
set_option maxHeartbeats 8000000 in
theorem Tryz.bequalFunc_any {g : Nat} {lb : Array Value} (eg : ∀ args w, (callFunc g args).run Tryz.prog w = .ok (.enter g args) w) (S T : Bl) (a b : Option Addr) (ca cb B d d' : Nat) (la lb' : Value) (w : World) (Inv : Nat → World → Prop)
    (hS : Bl.Lies w B (d + 1) (.slice a S.ks.length ca) la S) (hT : Bl.Lies w B (d' + 1) (.slice b T.ks.length cb) lb' T) (hI0 : Inv 0 w) (hk : ∀ j W, Inv j W → ∀ i, i < B → W.heap[i]? = w.heap[i]?) (hal : ∀ j W o, Inv j W → Inv j (W.alloc o)) (hdr : ∀ j W, Inv j W → Inv j W.drew) (hsm : S.ks.length ≤ 2147483647)
    (hc : ∀ j (hx : j < S.ks.length) (hy : j < T.ks.length) (W : World) (u lu v lv : Value), Inv j W → Bl.Lies w B d u lu S.ks[j] → Bl.Lies w B d' v lv T.ks[j] → Calls Tryz.prog g (#[.agg #[.int .i64 S.ks[j].kind, .int .i64 S.ks[j].node, .int .i64 S.ks[j].arg, u, lu], .agg #[.int .i64 T.ks[j].kind, .int .i64 T.ks[j].node, .int .i64 T.ks[j].arg, v, lv]] ++ lb) W fun e w' => ∃ r, e = .returned (.bool r) ∧ (r = true ↔ S.ks[j] = T.ks[j]) ∧ Inv (j + 1) w') :
    Calls Tryz.prog 56 #[.slice a S.ks.length ca, .slice b T.ks.length cb, .func (.func g) #[] lb] w fun e w' => ∃ r, e = .returned (.bool r) ∧ (r = true ↔ S.ks = T.ks) ∧ ∃ j, Inv j w' := by
  obtain ⟨n, hn⟩ : ∃ n, S.ks.length = n := ⟨_, rfl⟩
  obtain ⟨m, hm⟩ : ∃ n, T.ks.length = n := ⟨_, rfl⟩
  have HX : Hid (Bl.Lies w B (d + 1) (.slice a n ca) la S ∧ Bl.Lies w B (d' + 1) (.slice b m cb) lb' T ∧ S.ks.length = n ∧ T.ks.length = m ∧ Inv 0 w) := ⟨by rw [← hn]; exact hS, by rw [← hm]; exact hT, hn, hm, hI0⟩
  have HK : Hid ((∀ j W, Inv j W → ∀ i, i < B → W.heap[i]? = w.heap[i]?) ∧ (∀ j W o, Inv j W → Inv j (W.alloc o)) ∧ (∀ j W, Inv j W → Inv j W.drew)) := ⟨hk, hal, hdr⟩
  have HC : Hid _ := hc
  rw [hn] at hsm
  rw [hn, hm]
  clear hS hT hI0 hk hal hdr hc hn hm
  by_cases hnm : n = m
  · subst hnm
    go_enter Tryz.func56, Tryz.ntmps56
    go_wp2
    go_loopg [17] n (fun gk i wr => ∃ j : Nat, gk + j = n ∧ i = .int .i64 j ∧ Hid (Inv j wr ∧ S.ks.take j = T.ks.take j))
    case atStart => exact ⟨0, by omega, rfl, HX.out.2.2.2.2, by simp⟩
    case round =>
      obtain ⟨j, hj, rfl, HJ⟩ := hrel
      by_cases hjn : j < n
      · have hd : decide ((j : Int) < n) = true := decide_eq_true (by omega)
        have hjn' : (j : Int) < n := by omega
        have hx : j < S.ks.length := by rw [HX.out.2.2.1]; exact hjn
        have hy : j < T.ks.length := by rw [HX.out.2.2.2.1]; exact hjn
        obtain ⟨g1, off1, u1, l1, rfl, hg1, p0, p1, p2, p3, p4, p5⟩ := HX.out.1.kid j hx
        obtain ⟨g2, off2, u2, l2, rfl, hg2, q0, q1, q2, q3, q4, q5⟩ := HX.out.2.1.kid j hy
        have hcl := fun W h => HC.out j hx hy W u1 l1 u2 l2 h p5 q5
        obtain ⟨x, hxe⟩ : ∃ x, S.ks[j] = x := ⟨_, rfl⟩
        obtain ⟨y, hye⟩ : ∃ x, T.ks[j] = x := ⟨_, rfl⟩
        rw [hxe] at p0 p1 p2 p5
        rw [hye] at q0 q1 q2 q5
        simp only [hxe, hye] at hcl
        obtain ⟨au, cu, rfl⟩ := p5.shape
        obtain ⟨av, cv, rfl⟩ := q5.shape
        obtain ⟨bu, du, rfl⟩ := p5.links.shape
        obtain ⟨bv, dv, rfl⟩ := q5.links.shape
        obtain ⟨mx, hmx⟩ : ∃ n, x.ls.length = n := ⟨_, rfl⟩
        obtain ⟨my, hmy⟩ : ∃ n, y.ls.length = n := ⟨_, rfl⟩
        obtain ⟨nx, hnx⟩ : ∃ n, x.ks.length = n := ⟨_, rfl⟩
        obtain ⟨ny, hny⟩ : ∃ n, y.ks.length = n := ⟨_, rfl⟩
        obtain ⟨x0, hx0⟩ : ∃ z, x.kind = z := ⟨_, rfl⟩
        obtain ⟨x1, hx1⟩ : ∃ z, x.node = z := ⟨_, rfl⟩
        obtain ⟨x2, hx2⟩ : ∃ z, x.arg = z := ⟨_, rfl⟩
        obtain ⟨y0, hy0⟩ : ∃ z, y.kind = z := ⟨_, rfl⟩
        obtain ⟨y1, hy1⟩ : ∃ z, y.node = z := ⟨_, rfl⟩
        obtain ⟨y2, hy2⟩ : ∃ z, y.arg = z := ⟨_, rfl⟩
        rw [hnx] at p3
        rw [hny] at q3
        rw [hmx] at p4
        rw [hmy] at q4
        rw [hx2] at p2
        rw [hy2] at q2
        rw [hx0] at p0
        rw [hx1] at p1
        rw [hy0] at q0
        rw [hy1] at q1
        rw [hnx, hny, hmx, hmy, hx0, hx1, hx2, hy0, hy1, hy2] at hcl
        have hkb := HK.out.1 j wr HJ.out.1
        have hc1 : ∀ p, wr.cell? ⟨g1, p, none⟩ = w.cell? ⟨g1, p, none⟩ := fun p => World.cell?_of_block (w := w) (hkb g1 hg1)
        have hc2 : ∀ p, wr.cell? ⟨g2, p, none⟩ = w.cell? ⟨g2, p, none⟩ := fun p => World.cell?_of_block (w := w) (hkb g2 hg2)
        have a0 : wr.cell? ⟨g1, off1 + j * 5, none⟩ = some (.int .i64 x0) := by rw [hc1]; exact p0
        have a1 : wr.cell? ⟨g1, off1 + j * 5 + 1, none⟩ = some (.int .i64 x1) := by rw [hc1]; exact p1
        have a2 : wr.cell? ⟨g1, off1 + j * 5 + 2, none⟩ = some (.int .i64 x2) := by rw [hc1]; exact p2
        have a3 : wr.cell? ⟨g1, off1 + j * 5 + 3, none⟩ = some (.slice au nx cu) := by rw [hc1]; exact p3
        have a4 : wr.cell? ⟨g1, off1 + j * 5 + 4, none⟩ = some (.slice bu mx du) := by rw [hc1]; exact p4
        have b0 : wr.cell? ⟨g2, off2 + j * 5, none⟩ = some (.int .i64 y0) := by rw [hc2]; exact q0
        have b1 : wr.cell? ⟨g2, off2 + j * 5 + 1, none⟩ = some (.int .i64 y1) := by rw [hc2]; exact q1
        have b2 : wr.cell? ⟨g2, off2 + j * 5 + 2, none⟩ = some (.int .i64 y2) := by rw [hc2]; exact q2
        have b3 : wr.cell? ⟨g2, off2 + j * 5 + 3, none⟩ = some (.slice av ny cv) := by rw [hc2]; exact q3
        have b4 : wr.cell? ⟨g2, off2 + j * 5 + 4, none⟩ = some (.slice bv my dv) := by rw [hc2]; exact q4
        have z1 : g1 < wr.heap.size := by
          rcases Nat.lt_or_ge g1 wr.heap.size with h | h
          · exact h
          · simp [World.cell?, h] at a0
        have z2 : g2 < wr.heap.size := by
          rcases Nat.lt_or_ge g2 wr.heap.size with h | h
          · exact h
          · simp [World.cell?, h] at b0
        have hcall := hcl ((wr.alloc (.cells #[.int .i64 x0, .int .i64 x1, .int .i64 x2, .slice au nx cu, .slice bu mx du] 29)).alloc (.cells #[.int .i64 y0, .int .i64 y1, .int .i64 y2, .slice av ny cv, .slice bv my dv] 29)) (HK.out.2.1 _ _ _ (HK.out.2.1 _ _ _ HJ.out.1))
        have HCL : Hid _ := hcall
        have HXY : Hid (S.ks[j] = x ∧ T.ks[j] = y) := ⟨hxe, hye⟩
        have hu := Tryz.underlying29
        clear hcl hcall p0 p1 p2 p3 p4 p5 q0 q1 q2 q3 q4 q5 hc1 hc2 hxe hye hnx hny hmx hmy hx0 hx1 hx2 hy0 hy1 hy2 hkb
        go_wp2_with fail
        refine Calls.mono HCL.out ?_
        rintro e W3 ⟨r, rfl, hr, hI3⟩
        clear HCL a0 a1 a2 a3 a4 b0 b1 b2 b3 b4
        cases r
        · go_wp2
          go_ret
          refine ⟨false, rfl, ⟨fun h => by simp at h, fun h => ?_⟩, j + 1, hI3⟩
          have hxy : x = y := by
            rw [← HXY.out.1, ← HXY.out.2]
            simp only [h]
          have := hr.2 hxy
          simp at this
        · have HN : Hid (Inv (j + 1) W3 ∧ S.ks.take (j + 1) = T.ks.take (j + 1)) := by
            refine ⟨hI3, ?_⟩
            rw [Bl.take_snoc _ _ hx, Bl.take_snoc _ _ hy, HJ.out.2, HXY.out.1, HXY.out.2, hr.1 rfl]
          clear hr hI3
          go_wp2
          go_roundg (gk - 1)
          case measure => omega
          case rel => exact ⟨j + 1, by omega, by go_num, HN.out⟩
      · have hd : decide ((j : Int) < n) = false := decide_eq_false (by omega)
        go_wp2
        go_ret
        refine ⟨true, rfl, ⟨fun _ => ?_, fun _ => rfl⟩, j, HJ.out.1⟩
        have h := HJ.out.2
        rwa [List.take_of_length_le (by rw [HX.out.2.2.1]; omega), List.take_of_length_le (by rw [HX.out.2.2.2.1]; omega)] at h
  · have hd : ((n : Int) == (m : Int)) = false := by simp; omega
    go_enter Tryz.func56, Tryz.ntmps56
    go_wp2
    go_ret
    refine ⟨false, rfl, ⟨fun h => by simp at h, fun h => ?_⟩, 0, HX.out.2.2.2.2⟩
    have := congrArg List.length h
    rw [HX.out.2.2.1, HX.out.2.2.2.1] at this
    exact absurd this hnm

/-- What same comes to. -/
def Bk.SameEnd (S T : Bl) (lv left bw : Nat) (w : World) (e : Ending) (w' : World) : Prop :=
  ∃ r, e = .returned (.bool r) ∧ (r = true ↔ S = T) ∧ Tk.But (fun k => k = bw) w w' ∧ ∃ left', Bk.Wy bw lv left' w' ∧ left ≤ left' + S.size ∧ left' ≤ left

/-- The four boxes that same's closure is made over: the way's pointer, the levels, what is handed on. -/
structure Bk.Sb (bw L : Nat) (b1 b2 b3 : Nat) (w : World) : Prop where
  h1 : w.heap[b1]? = some (.cells #[.pointer (some ⟨bw, 0, none⟩)] 102 (0, 0))
  h2 : w.heap[b2]? = some (.cells #[.int .i64 L] 3 (0, 0))
  h3 : w.heap[b3]? = some (.cells #[.func (.func 24) #[] #[]] 40 (0, 0))
theorem Bk.Sb.keep {bw L b1 b2 b3 : Nat} {w w' : World} (h : Bk.Sb bw L b1 b2 b3 w) (k1 : w'.heap[b1]? = w.heap[b1]?) (k2 : w'.heap[b2]? = w.heap[b2]?) (k3 : w'.heap[b3]? = w.heap[b3]?) : Bk.Sb bw L b1 b2 b3 w' := ⟨k1.trans h.h1, k2.trans h.h2, k3.trans h.h3⟩
theorem Bk.Sb.c1 {bw L b1 b2 b3 : Nat} {w : World} (h : Bk.Sb bw L b1 b2 b3 w) : w.cell? ⟨b1, 0, none⟩ = some (.pointer (some ⟨bw, 0, none⟩)) := by have := h.h1; simp [World.cell?, this]
theorem Bk.Sb.c2 {bw L b1 b2 b3 : Nat} {w : World} (h : Bk.Sb bw L b1 b2 b3 w) : w.cell? ⟨b2, 0, none⟩ = some (.int .i64 L) := by have := h.h2; simp [World.cell?, this]
theorem Bk.Sb.c3 {bw L b1 b2 b3 : Nat} {w : World} (h : Bk.Sb bw L b1 b2 b3 w) : w.cell? ⟨b3, 0, none⟩ = some (.func (.func 24) #[] #[]) := by have := h.h3; simp [World.cell?, this]
theorem Bk.Sb.lt {bw L b1 b2 b3 : Nat} {w : World} (h : Bk.Sb bw L b1 b2 b3 w) : b1 < w.heap.size ∧ b2 < w.heap.size ∧ b3 < w.heap.size :=
  ⟨(Array.getElem?_eq_some_iff.1 h.h1).1, (Array.getElem?_eq_some_iff.1 h.h2).1, (Array.getElem?_eq_some_iff.1 h.h3).1⟩

set_option maxRecDepth 20000 in
set_option maxHeartbeats 8000000 in
/-- The closure, as soon as same is known one level down. -/
theorem Tryz.bsame1_any (bw lv L b1 b2 b3 : Nat) (S T : Bl) (u lu v lv' : Value) (left : Nat) (W : World) (hb : Bk.Sb bw (L + 1) b1 b2 b3 W) (hL : L ≤ 1000)
    (hs : ∀ W', Below W.heap.size W W' → Calls Tryz.prog 42 #[.pointer (some ⟨bw, 0, none⟩), .agg #[.int .i64 S.kind, .int .i64 S.node, .int .i64 S.arg, u, lu], .agg #[.int .i64 T.kind, .int .i64 T.node, .int .i64 T.arg, v, lv'], .int .i64 L, .func (.func 24) #[] #[]] W' (Bk.SameEnd S T lv left bw W')) (_hbw : bw < W.heap.size)
    (hu : ∃ a n c, u = .slice a n c) (hv : ∃ a n c, v = .slice a n c) (hu' : ∃ a n c, lu = .slice a n c) (hv' : ∃ a n c, lv' = .slice a n c) :
    Calls Tryz.prog 57 #[.agg #[.int .i64 S.kind, .int .i64 S.node, .int .i64 S.arg, u, lu], .agg #[.int .i64 T.kind, .int .i64 T.node, .int .i64 T.arg, v, lv'], .pointer (some ⟨b1, 0, none⟩), .pointer (some ⟨b2, 0, none⟩), .pointer (some ⟨b3, 0, none⟩)] W (Bk.SameEnd S T lv left bw W) := by
  obtain ⟨a, n, c, rfl⟩ := hu
  obtain ⟨a', n', c', rfl⟩ := hv
  obtain ⟨p, i, f, rfl⟩ := hu'
  obtain ⟨p', i', f', rfl⟩ := hv'
  obtain ⟨x0, hx0⟩ : ∃ z, S.kind = z := ⟨_, rfl⟩
  obtain ⟨x1, hx1⟩ : ∃ z, S.node = z := ⟨_, rfl⟩
  obtain ⟨x2, hx2⟩ : ∃ z, S.arg = z := ⟨_, rfl⟩
  obtain ⟨y0, hy0⟩ : ∃ z, T.kind = z := ⟨_, rfl⟩
  obtain ⟨y1, hy1⟩ : ∃ z, T.node = z := ⟨_, rfl⟩
  obtain ⟨y2, hy2⟩ : ∃ z, T.arg = z := ⟨_, rfl⟩
  rw [hx0, hx1, hx2, hy0, hy1, hy2]
  rw [hx0, hx1, hx2, hy0, hy1, hy2] at hs
  have k1 := hb.c1
  have k2 := hb.c2
  have k3 := hb.c3
  obtain ⟨z1, z2, z3⟩ := hb.lt
  have A0 : Below W.heap.size W ((W.alloc (.cells #[.int .i64 x0, .int .i64 x1, .int .i64 x2, .slice a n c, .slice p i f] 29)).alloc (.cells #[.int .i64 y0, .int .i64 y1, .int .i64 y2, .slice a' n' c', .slice p' i' f'] 29)) := ((Below.refl _ W).alloc (Nat.le_refl _) _).alloc (by simp) _
  have H1 : Hid _ := hs _ A0
  have HA : Hid _ := A0
  have e1 : ((L + 1 : Nat) : Int) - 1 = L := by omega
  clear hs A0 hb hx0 hx1 hx2 hy0 hy1 hy2
  go_enter Tryz.func57, Tryz.ntmps57
  go_wp2_with fail
  refine Calls.mono H1.out ?_
  rintro e W2 ⟨r, rfl, hr, hbt, hl⟩
  have HR : Hid ((r = true ↔ S = T) ∧ Tk.But (fun k => k = bw) W W2 ∧ ∃ left', Bk.Wy bw lv left' W2 ∧ left ≤ left' + S.size ∧ left' ≤ left) := ⟨hr, (Tk.But.of_below HA.out).trans hbt, hl⟩
  clear hr hbt hl H1
  go_wp2
  go_ret
  exact ⟨r, rfl, HR.out⟩

end Go.Proofs

namespace Go.Proofs
open Go.RowKit Go.Shelf

theorem Bk.alloc5 (w : World) (o1 o2 o3 o4 o5 : Obj) : (((((w.alloc o1).alloc o2).alloc o3).alloc o4).alloc o5).heap[w.heap.size]? = some o1 ∧ (((((w.alloc o1).alloc o2).alloc o3).alloc o4).alloc o5).heap[w.heap.size + 1]? = some o2 ∧
    (((((w.alloc o1).alloc o2).alloc o3).alloc o4).alloc o5).heap[w.heap.size + 2]? = some o3 ∧ (((((w.alloc o1).alloc o2).alloc o3).alloc o4).alloc o5).heap[w.heap.size + 3]? = some o4 ∧ (((((w.alloc o1).alloc o2).alloc o3).alloc o4).alloc o5).heap[w.heap.size + 4]? = some o5 := by
  simp only [World.alloc]
  refine ⟨?_, ?_, ?_, ?_, ?_⟩
  · rw [Array.getElem?_push, if_neg (by simp only [Array.size_push]; omega), Array.getElem?_push, if_neg (by simp only [Array.size_push]; omega), Array.getElem?_push, if_neg (by simp only [Array.size_push]; omega), Array.getElem?_push, if_neg (by simp only [Array.size_push]; omega), Array.getElem?_push, if_pos rfl]
  · rw [Array.getElem?_push, if_neg (by simp only [Array.size_push]; omega), Array.getElem?_push, if_neg (by simp only [Array.size_push]; omega), Array.getElem?_push, if_neg (by simp only [Array.size_push]; omega), Array.getElem?_push, if_pos (by simp only [Array.size_push])]
  · rw [Array.getElem?_push, if_neg (by simp only [Array.size_push]; omega), Array.getElem?_push, if_neg (by simp only [Array.size_push]; omega), Array.getElem?_push, if_pos (by simp only [Array.size_push])]
  · rw [Array.getElem?_push, if_neg (by simp only [Array.size_push]; omega), Array.getElem?_push, if_pos (by simp only [Array.size_push])]
  · rw [Array.getElem?_push, if_pos (by simp only [Array.size_push])]

/-- What the closure needs while EqualFunc goes on. -/
def Bk.SInv (S : Bl) (lv bw L k b1 b2 b3 : Nat) (w : World) (j : Nat) (W : World) : Prop :=
  Tk.But (fun x => x = bw) w W ∧ Bk.Sb bw (L + 1) b1 b2 b3 W ∧ ∃ left, Bk.Wy bw lv left W ∧ k ≤ left + Bl.sizes (S.ks.take j) ∧ left ≤ k
theorem Bl.sizes_take_le (l : List Bl) (j : Nat) : Bl.sizes (l.take j) ≤ Bl.sizes l := Bl.sizes_le l j

set_option maxRecDepth 20000 in
set_option maxHeartbeats 8000000 in
theorem Tryz.bsame_any (lv bw B : Nat) (_hB : 0 < B) (hbw : B ≤ bw) : ∀ (d d' L : Nat) (S T : Bl) (u lu v lv' : Value) (left : Nat) (w : World), Bl.Lies w B d u lu S → Bl.Lies w B d' v lv' T → B ≤ w.heap.size → Bk.Wy bw lv left w → S.size ≤ left → left ≤ 2147483647 → S.depth ≤ L → L ≤ 1000 → S.allP (fun _ _ _ ls => decide (ls.length ≤ 2147483647)) = true →
    Calls Tryz.prog 42 #[.pointer (some ⟨bw, 0, none⟩), .agg #[.int .i64 S.kind, .int .i64 S.node, .int .i64 S.arg, u, lu], .agg #[.int .i64 T.kind, .int .i64 T.node, .int .i64 T.arg, v, lv'], .int .i64 L, .func (.func 24) #[] #[]] w (Bk.SameEnd S T lv left bw w) := by
  intro d
  induction d with
  | zero => intro d' L S T u lu v lv' left w h; exact h.elim
  | succ d ih =>
    intro d' L S T u lu v lv' left w hS hT hBs hW hsz hleft hdp hL hlk
    cases d' with
    | zero => exact hT.elim
    | succ d' =>
    obtain ⟨a, ca, rfl⟩ := hS.shape
    obtain ⟨b, cb, rfl⟩ := hT.shape
    obtain ⟨al, cal, rfl⟩ := hS.links.shape
    obtain ⟨bl, cbl, rfl⟩ := hT.links.shape
    obtain ⟨L, rfl⟩ : ∃ l, L = l + 1 := ⟨L - 1, by have := S.depth_eq; omega⟩
    obtain ⟨k, rfl⟩ : ∃ k, left = k + 1 := ⟨left - 1, by have := S.size_pos; omega⟩
    obtain ⟨x0, hx0⟩ : ∃ z, S.kind = z := ⟨_, rfl⟩
    obtain ⟨x1, hx1⟩ : ∃ z, S.node = z := ⟨_, rfl⟩
    obtain ⟨x2, hx2⟩ : ∃ z, S.arg = z := ⟨_, rfl⟩
    obtain ⟨y0, hy0⟩ : ∃ z, T.kind = z := ⟨_, rfl⟩
    obtain ⟨y1, hy1⟩ : ∃ z, T.node = z := ⟨_, rfl⟩
    obtain ⟨y2, hy2⟩ : ∃ z, T.arg = z := ⟨_, rfl⟩
    obtain ⟨nl, hnl⟩ : ∃ n, S.ls.length = n := ⟨_, rfl⟩
    obtain ⟨ml, hml⟩ : ∃ n, T.ls.length = n := ⟨_, rfl⟩
    obtain ⟨n, hn⟩ : ∃ n, S.ks.length = n := ⟨_, rfl⟩
    obtain ⟨m, hm⟩ : ∃ n, T.ks.length = n := ⟨_, rfl⟩
    rw [hx0, hx1, hx2, hy0, hy1, hy2, hn, hm, hnl, hml]
    obtain ⟨w5, hw5⟩ : ∃ x, ((((w.alloc (.cells #[.pointer (some ⟨bw, 0, none⟩)] 102)).alloc (.cells #[.int .i64 x0, .int .i64 x1, .int .i64 x2, .slice a n ca, .slice al nl cal] 29)).alloc (.cells #[.int .i64 y0, .int .i64 y1, .int .i64 y2, .slice b m cb, .slice bl ml cbl] 29)).alloc (.cells #[.int .i64 ((L : Int) + 1)] 3)).alloc (.cells #[.func (.func 24) #[] #[]] 40) = x := ⟨_, rfl⟩
    have A5 : Below w.heap.size w w5 := by
      rw [← hw5]
      exact (((((Below.refl _ w).alloc (Nat.le_refl _) _).alloc (by simp) _).alloc (by simp; omega) _).alloc (by simp; omega) _).alloc (by simp; omega) _
    have hs5 : w5.heap.size = w.heap.size + 5 := by rw [← hw5]; simp
    have hwl := hW.lt
    have W5 : Bk.Wy bw lv (k + 1) w5 := hW.keep (A5.block bw hwl)
    obtain ⟨r1, r2, r3, r4, r5⟩ := Bk.alloc5 w (.cells #[.pointer (some ⟨bw, 0, none⟩)] 102) (.cells #[.int .i64 x0, .int .i64 x1, .int .i64 x2, .slice a n ca, .slice al nl cal] 29) (.cells #[.int .i64 y0, .int .i64 y1, .int .i64 y2, .slice b m cb, .slice bl ml cbl] 29) (.cells #[.int .i64 ((L : Int) + 1)] 3) (.cells #[.func (.func 24) #[] #[]] 40)
    rw [hw5] at r1 r2 r3 r4 r5
    have S5 : Bk.Sb bw (L + 1) w.heap.size (w.heap.size + 3) (w.heap.size + 4) w5 := ⟨r1, by rw [r4]; simp, r5⟩
    have CF : Hid (∀ W, Tk.But (fun x => x = bw) w5 W → Bk.Sb bw (L + 1) w.heap.size (w.heap.size + 3) (w.heap.size + 4) W ∧ W.cell? ⟨w.heap.size + 1, 0, none⟩ = some (.int .i64 x0) ∧ W.cell? ⟨w.heap.size + 1, 1, none⟩ = some (.int .i64 x1) ∧ W.cell? ⟨w.heap.size + 1, 2, none⟩ = some (.int .i64 x2) ∧ W.cell? ⟨w.heap.size + 1, 3, none⟩ = some (.slice a n ca) ∧ W.cell? ⟨w.heap.size + 1, 4, none⟩ = some (.slice al nl cal) ∧
        W.cell? ⟨w.heap.size + 2, 0, none⟩ = some (.int .i64 y0) ∧ W.cell? ⟨w.heap.size + 2, 1, none⟩ = some (.int .i64 y1) ∧ W.cell? ⟨w.heap.size + 2, 2, none⟩ = some (.int .i64 y2) ∧ W.cell? ⟨w.heap.size + 2, 3, none⟩ = some (.slice b m cb) ∧ W.cell? ⟨w.heap.size + 2, 4, none⟩ = some (.slice bl ml cbl)) := by
      intro W hb
      have e1 := (hb.block (w.heap.size + 1) (by omega) (by omega)).trans r2
      have e2 := (hb.block (w.heap.size + 2) (by omega) (by omega)).trans r3
      exact ⟨S5.keep (hb.block _ (by omega) (by omega)) (hb.block _ (by omega) (by omega)) (hb.block _ (by omega) (by omega)), by simp [World.cell?, e1], by simp [World.cell?, e1], by simp [World.cell?, e1], by simp [World.cell?, e1], by simp [World.cell?, e1], by simp [World.cell?, e2], by simp [World.cell?, e2], by simp [World.cell?, e2], by simp [World.cell?, e2], by simp [World.cell?, e2]⟩
    have HW5 : Hid (((((w.alloc (.cells #[.pointer (some ⟨bw, 0, none⟩)] 102)).alloc (.cells #[.int .i64 x0, .int .i64 x1, .int .i64 x2, .slice a n ca, .slice al nl cal] 29)).alloc (.cells #[.int .i64 y0, .int .i64 y1, .int .i64 y2, .slice b m cb, .slice bl ml cbl] 29)).alloc (.cells #[.int .i64 ((L : Int) + 1)] 3)).alloc (.cells #[.func (.func 24) #[] #[]] 40) = w5) := hw5
    have HX : Hid (Bl.Lies w B (d + 1) (.slice a n ca) (.slice al nl cal) S ∧ Bl.Lies w B (d' + 1) (.slice b m cb) (.slice bl ml cbl) T ∧ S.ks.length = n ∧ T.ks.length = m ∧ Below w.heap.size w w5) := ⟨by rw [← hn, ← hnl]; exact hS, by rw [← hm, ← hml]; exact hT, hn, hm, A5⟩
    have HE0 : Hid (S.kind = x0 ∧ S.node = x1 ∧ S.arg = x2 ∧ T.kind = y0 ∧ T.node = y1 ∧ T.arg = y2 ∧ S.ls.length = nl ∧ T.ls.length = ml ∧ S.ls.length ≤ 2147483647 ∧ Bl.allPs (fun _ _ _ ls => decide (ls.length ≤ 2147483647)) S.ks = true) := by
      have h := hlk
      rw [S.allP_eq, Bool.and_eq_true, decide_eq_true_iff] at h
      exact ⟨hx0, hx1, hx2, hy0, hy1, hy2, hnl, hml, h.1, h.2⟩
    have HN : Hid (B ≤ w.heap.size ∧ S.size ≤ k + 1 ∧ k + 1 ≤ 2147483647 ∧ S.depth ≤ L + 1 ∧ L + 1 ≤ 1000 ∧ bw < w.heap.size ∧ w5.heap.size = w.heap.size + 5) := ⟨hBs, hsz, hleft, hdp, hL, hwl, hs5⟩
    have HI : Hid _ := ih
    have hk2 : k ≤ 2147483647 := by omega
    have hLb : L ≤ 1000 := by omega
    clear ih hS hT hBs hW hsz hleft hdp hL hx0 hx1 hx2 hy0 hy1 hy2 hn hm hnl hml hlk hw5 A5 r1 r2 r3 r4 r5 S5 hs5 hwl
    go_enter Tryz.func42, Tryz.ntmps42
    go_wp2_with fail
    rw [HW5.out]
    refine (Tryz.benter_yes bw lv k L _ W5 hk2).mono ?_
    rintro e W1 ⟨rfl, hw1⟩
    have X1 : Tk.But (fun x => x = bw) w5 W1 := by rw [hw1]; exact (Tk.But.refl _ _).setCell (E := fun x => x = bw) (p := ⟨bw, 2, none⟩) rfl _
    have W1k : Hid (Bk.Wy bw lv k W1) := by show Bk.Wy _ _ _ _; rw [hw1]; exact W5.put k
    obtain ⟨sb, a0, a1, a2, a3, a4, b0, b1, b2, b3, b4⟩ := CF.out W1 X1
    have k3 := sb.c3
    have HX1 : Hid _ := X1
    have XW1 : Tk.But (fun x => x = bw) w W1 := (Tk.But.of_below HX.out.2.2.2.2).trans X1
    have hlb : ∀ i, i < B → ¬ i = bw := fun i hi => by omega
    have h := Tryz.balike_any x0 x1 x2 y0 y1 y2 a b n ca m cb S.ls T.ls al bl cal cbl B W1
      (by rw [HE0.out.2.2.2.2.2.2.1]; exact HX.out.1.links.keep fun i hi => XW1.block i (by have := HN.out; omega) (hlb i hi))
      (by rw [HE0.out.2.2.2.2.2.2.2.1]; exact HX.out.2.1.links.keep fun i hi => XW1.block i (by have := HN.out; omega) (hlb i hi)) (by have := XW1.size; have := HN.out; omega) HE0.out.2.2.2.2.2.2.2.2.1
    rw [HE0.out.2.2.2.2.2.2.1, HE0.out.2.2.2.2.2.2.2.1] at h
    have CA : Hid _ := h
    clear h XW1 hlb
    clear hw1 W5 X1 sb
    go_wp2_with fail
    refine Calls.mono CA.out ?_
    rintro e W2 ⟨⟨r, rfl, hr⟩, hb2⟩
    have HR : Hid (r = true ↔ (x0 = y0 ∧ x1 = y1 ∧ x2 = y2 ∧ S.ls = T.ls)) := hr
    have X2 : Hid (Tk.But (fun x => x = bw) w5 W2) := HX1.out.trans (Tk.But.of_below hb2)
    have W2k : Hid (Bk.Wy bw lv k W2) := W1k.out.keep (hb2.block bw W1k.out.lt)
    have XW : Hid (Tk.But (fun x => x = bw) w W2) := (Tk.But.of_below HX.out.2.2.2.2).trans X2.out
    clear hb2 hr a0 a1 a2 a3 a4 b0 b1 b2 b3 b4 k3 HX1 W1k CA
    cases r
    · go_wp2
      go_ret
      refine ⟨false, rfl, ⟨fun h => by simp at h, fun h => ?_⟩, XW.out, k, W2k.out, ?_, by omega⟩
      · subst h
        have e := HE0.out
        have h2 := HR.out.2 ⟨by rw [← e.1, e.2.2.2.1], by rw [← e.2.1, e.2.2.2.2.1], by rw [← e.2.2.1, e.2.2.2.2.2.1], rfl⟩
        simp at h2
      · have := S.size_pos
        omega
    · have HQ : Hid (x0 = y0 ∧ x1 = y1 ∧ x2 = y2 ∧ S.ls = T.ls) := HR.out.1 rfl
      clear HR
      have CK : Hid (∀ W o n q a l c p i f, Below W2.heap.size W2 W → Calls Tryz.prog 43 #[.agg #[.int .i64 o, .int .i64 n, .int .i64 q, .slice a l c, .slice p i f]] W fun e w' => e = .returned (.slice a l c) ∧ Hid (Below W2.heap.size W2 w')) := fun W o n q a l c p i f hb =>
        (Tryz.bkids_any o n q a l c p i f W).mono fun _ _ h => ⟨h.1, hb.trans (h.2.mono hb.size)⟩
      obtain ⟨CS, hCS⟩ : ∃ CS : World → Prop, CS = fun V => (V.cell? ⟨w.heap.size, 0, none⟩ = some (.pointer (some ⟨bw, 0, none⟩)) ∧ V.cell? ⟨bw, 0, none⟩ = some (.func (.func 43) #[] #[])) ∧ V.cell? ⟨w.heap.size + 1, 0, none⟩ = some (.int .i64 x0) ∧ V.cell? ⟨w.heap.size + 1, 1, none⟩ = some (.int .i64 x1) ∧ V.cell? ⟨w.heap.size + 1, 2, none⟩ = some (.int .i64 x2) ∧ V.cell? ⟨w.heap.size + 1, 3, none⟩ = some (.slice a n ca) ∧ V.cell? ⟨w.heap.size + 1, 4, none⟩ = some (.slice al nl cal) ∧ V.cell? ⟨w.heap.size + 2, 0, none⟩ = some (.int .i64 y0) ∧ V.cell? ⟨w.heap.size + 2, 1, none⟩ = some (.int .i64 y1) ∧ V.cell? ⟨w.heap.size + 2, 2, none⟩ = some (.int .i64 y2) ∧ V.cell? ⟨w.heap.size + 2, 3, none⟩ = some (.slice b m cb) ∧ V.cell? ⟨w.heap.size + 2, 4, none⟩ = some (.slice bl ml cbl) := ⟨_, rfl⟩
      have CE : Hid (∀ W, Below W2.heap.size W2 W → Calls Tryz.prog 56 #[.slice a n ca, .slice b m cb, .func (.func 57) #[] #[.pointer (some ⟨w.heap.size, 0, none⟩), .pointer (some ⟨w.heap.size + 3, 0, none⟩), .pointer (some ⟨w.heap.size + 4, 0, none⟩)]] W fun e w' => ∃ r, e = .returned (.bool r) ∧ Hid ((r = true ↔ S.ks = T.ks) ∧ Tk.But (fun x => x = bw) w w' ∧ (∃ left', Bk.Wy bw lv left' w' ∧ k + 1 ≤ left' + S.size ∧ left' ≤ k + 1) ∧ CS w')) := by
        intro W hb
        have XWW : Tk.But (fun x => x = bw) W2 W := Tk.But.of_below hb
        have hz2 := X2.out.size
        have XW0 := XW.out.trans XWW
        have hlb : ∀ i, i < B → ¬ i = bw := fun i hi => by omega
        have LS : Bl.Lies W B (d + 1) (.slice a S.ks.length ca) (.slice al nl cal) S := by rw [HX.out.2.2.1]; exact HX.out.1.keep fun i hi => XW0.block i (by have := HN.out; omega) (hlb i hi)
        have LT : Bl.Lies W B (d' + 1) (.slice b T.ks.length cb) (.slice bl ml cbl) T := by rw [HX.out.2.2.2.1]; exact HX.out.2.1.keep fun i hi => XW0.block i (by have := HN.out; omega) (hlb i hi)
        have hSb := (CF.out W (X2.out.trans (Tk.But.of_below hb))).1
        have h := Tryz.bequalFunc_any (g := 57) (lb := #[.pointer (some ⟨w.heap.size, 0, none⟩), .pointer (some ⟨w.heap.size + 3, 0, none⟩), .pointer (some ⟨w.heap.size + 4, 0, none⟩)]) (enters_of Tryz.func57 (by kernel_rfl) rfl) S T a b ca cb B d d' _ _ W (Bk.SInv S lv bw L k w.heap.size (w.heap.size + 3) (w.heap.size + 4) W2) LS LT
          ⟨XWW, hSb, k, W2k.out.keep (hb.block bw W2k.out.lt), by omega, Nat.le_refl _⟩
          (fun j V hV i hi => by
            rw [hV.1.block i (by have := HN.out; omega) (hlb i hi)]
            exact (XWW.block i (by have := HN.out; omega) (hlb i hi)).symm)
          (fun j V o hV => by
            obtain ⟨h1, h2, l, h3, h4⟩ := hV
            have hz := h2.lt
            exact ⟨h1.alloc o, h2.keep (Below.heap_alloc _ _ _ hz.1) (Below.heap_alloc _ _ _ hz.2.1) (Below.heap_alloc _ _ _ hz.2.2), l, h3.keep (Below.heap_alloc _ _ _ h3.lt), h4⟩)
          (fun j V hV => by
            obtain ⟨h1, h2, l, h3, h4⟩ := hV
            exact ⟨h1.drewN 1, h2.keep rfl rfl rfl, l, h3.keep rfl, h4⟩)
          (by have h1 := Bl.length_le_sizes S.ks; have h2 := S.size_eq; have := HN.out; omega)
          (fun j hx hy V u lu v lv' hV hu hv => by
            obtain ⟨h1, h2, l, h3, h4, h5⟩ := hV
            have hsx := Bl.sizes_get S.ks j hx
            have hse := S.size_eq
            have hdx := Bl.depths_get S.ks j hx
            have hde := S.depth_eq
            have hbase : ∀ i, i < B → V.heap[i]? = W.heap[i]? := fun i hi => by
              rw [h1.block i (by have := HN.out; omega) (hlb i hi)]
              exact (XWW.block i (by have := HN.out; omega) (hlb i hi)).symm
            have hq := Tryz.bsame1_any bw lv L w.heap.size (w.heap.size + 3) (w.heap.size + 4) S.ks[j] T.ks[j] u lu v lv' l V h2 (by omega)
              (fun V' hb' => HI.out d' L S.ks[j] T.ks[j] u lu v lv' l V' ((hu.keep hbase).keep fun i hi => hb'.block i (by have := h1.size; have := HN.out; omega)) ((hv.keep hbase).keep fun i hi => hb'.block i (by have := h1.size; have := HN.out; omega)) (by have := h1.size; have := hb'.size; have := HN.out; omega)
                (h3.keep (hb'.block bw h3.lt)) (by have := HN.out; omega) (by have := HN.out; omega) (by have := HN.out; omega) hLb (Bl.allPs_get _ S.ks HE0.out.2.2.2.2.2.2.2.2.2 j hx)) h3.lt
              (by obtain ⟨p, q, e⟩ := hu.shape; exact ⟨p, _, q, e⟩) (by obtain ⟨p, q, e⟩ := hv.shape; exact ⟨p, _, q, e⟩) (by obtain ⟨p, q, e⟩ := hu.links.shape; exact ⟨p, _, q, e⟩) (by obtain ⟨p, q, e⟩ := hv.links.shape; exact ⟨p, _, q, e⟩)
            refine hq.mono ?_
            rintro e V' ⟨r, rfl, hr, hbt, l', h6, h7, h8⟩
            have hz := h2.lt
            have hne : bw < w.heap.size := HN.out.2.2.2.2.2.1
            refine ⟨r, rfl, hr, h1.trans hbt, h2.keep (hbt.block _ hz.1 (by omega)) (hbt.block _ hz.2.1 (by omega)) (hbt.block _ hz.2.2 (by omega)), l', h6, ?_, by omega⟩
            rw [Bl.sizes_take _ _ hx]
            omega)
        rw [HX.out.2.2.1, HX.out.2.2.2.1] at h
        refine h.mono ?_
        rintro e V ⟨r, rfl, hr, j, h1, h2, l, h3, h4, h5⟩
        have hcf := CF.out V (X2.out.trans h1)
        refine ⟨r, rfl, hr, XW.out.trans h1, ⟨l, h3, ?_, by omega⟩, by rw [hCS]; exact ⟨⟨hcf.1.c1, h3.c0⟩, hcf.2⟩⟩
        have := Bl.sizes_le S.ks j
        have := S.size_eq
        omega
      have BR : Hid (Below W2.heap.size W2 W2) := Below.refl _ _
      obtain ⟨sb, a0, a1, a2, a3, a4, b0, b1, b2, b3, b4⟩ := CF.out W2 X2.out
      have k1 := sb.c1
      have kw := W2k.out.c0
      have CFB : Hid (∀ W, Below W2.heap.size W2 W → CS W) := fun W hb => by
        rw [hCS]
        have h := CF.out W (X2.out.trans (Tk.But.of_below hb))
        exact ⟨⟨h.1.c1, (W2k.out.keep (hb.block bw W2k.out.lt)).c0⟩, h.2⟩
      have HEQ : Hid (S.ks = T.ks ↔ S = T) := by
        have e := HE0.out
        have hq := HQ.out
        show _ ↔ _
        rw [Bl.eq_iff S T, e.1, e.2.1, e.2.2.1, e.2.2.2.1, e.2.2.2.2.1, e.2.2.2.2.2.1]
        exact ⟨fun h => ⟨hq, h⟩, fun h => h.2⟩
      clear sb HI CF HX HE0 HQ HN HW5 XW X2 W2k
      subst hCS
      go_wp2_with fail
      go_region_held3 (fun V => (V.cell? ⟨w.heap.size, 0, none⟩ = some (.pointer (some ⟨bw, 0, none⟩)) ∧ V.cell? ⟨bw, 0, none⟩ = some (.func (.func 43) #[] #[])) ∧ V.cell? ⟨w.heap.size + 1, 0, none⟩ = some (.int .i64 x0) ∧ V.cell? ⟨w.heap.size + 1, 1, none⟩ = some (.int .i64 x1) ∧ V.cell? ⟨w.heap.size + 1, 2, none⟩ = some (.int .i64 x2) ∧ V.cell? ⟨w.heap.size + 1, 3, none⟩ = some (.slice a n ca) ∧ V.cell? ⟨w.heap.size + 1, 4, none⟩ = some (.slice al nl cal) ∧ V.cell? ⟨w.heap.size + 2, 0, none⟩ = some (.int .i64 y0) ∧ V.cell? ⟨w.heap.size + 2, 1, none⟩ = some (.int .i64 y1) ∧ V.cell? ⟨w.heap.size + 2, 2, none⟩ = some (.int .i64 y2) ∧ V.cell? ⟨w.heap.size + 2, 3, none⟩ = some (.slice b m cb) ∧ V.cell? ⟨w.heap.size + 2, 4, none⟩ = some (.slice bl ml cbl))
        (first | exact H4.out.2.2.2 | exact CFB.out _ B3.out | exact CFB.out _ BR.out.drew | exact CFB.out _ BR.out)
        (first
        | (go_simp; go_at_call 43; refine Calls.mono (CK.out _ _ _ _ _ _ _ _ _ _ ?_) ?_; (first | exact B3.out | exact B3.out.drew | exact Tk.below_drewN B3.out _ | exact BR.out | exact BR.out.drew | exact Tk.below_drewN BR.out _); rintro e W3 ⟨rfl, B3⟩)
        | (go_simp; go_at_call 56; refine Calls.mono (CE.out _ ?_) ?_; (first | exact B3.out | exact B3.out.drew | exact Tk.below_drewN B3.out _); rintro e W4 ⟨r, rfl, H4⟩))
      all_goals
        clear CK CE CFB BR
        go_simp
        go_wp2
        go_ret
        refine ⟨r, rfl, H4.out.1.trans HEQ.out, ?_, H4.out.2.2.1⟩
        first | exact H4.out.2.1 | exact H4.out.2.1.drewN 1

end Go.Proofs

namespace Go.Proofs
open Go.RowKit Go.Shelf

set_option maxRecDepth 20000 in
set_option maxHeartbeats 4000000 in
theorem Tryz.bnestSame_any (d d' B : Nat) (S T : Bl) (u lu v lv : Value) (w : World) (hS : Bl.Lies w B d u lu S) (hT : Bl.Lies w B d' v lv T) (hB : 0 < B) (hBs : B ≤ w.heap.size) (hsz : S.size ≤ 2147483647) (hdp : S.depth ≤ 1000) (hlk : S.allP (fun _ _ _ ls => decide (ls.length ≤ 2147483647)) = true) :
    Calls Tryz.prog 22 #[.agg #[.func (.func 43) #[] #[], .int .i64 1000, .int .i64 2147483647], .agg #[.int .i64 S.kind, .int .i64 S.node, .int .i64 S.arg, u, lu], .agg #[.int .i64 T.kind, .int .i64 T.node, .int .i64 T.arg, v, lv], .func (.func 24) #[] #[]] w fun e w' =>
      (∃ r, e = .returned (.bool r) ∧ (r = true ↔ S = T)) ∧ Below w.heap.size w w' := by
  obtain ⟨a, ca, rfl⟩ := hS.shape
  obtain ⟨b, cb, rfl⟩ := hT.shape
  obtain ⟨al, cal, rfl⟩ := hS.links.shape
  obtain ⟨bl, cbl, rfl⟩ := hT.links.shape
  obtain ⟨x0, hx0⟩ : ∃ z, S.kind = z := ⟨_, rfl⟩
  obtain ⟨x1, hx1⟩ : ∃ z, S.node = z := ⟨_, rfl⟩
  obtain ⟨x2, hx2⟩ : ∃ z, S.arg = z := ⟨_, rfl⟩
  obtain ⟨y0, hy0⟩ : ∃ z, T.kind = z := ⟨_, rfl⟩
  obtain ⟨y1, hy1⟩ : ∃ z, T.node = z := ⟨_, rfl⟩
  obtain ⟨y2, hy2⟩ : ∃ z, T.arg = z := ⟨_, rfl⟩
  obtain ⟨nl, hnl⟩ : ∃ n, S.ls.length = n := ⟨_, rfl⟩
  obtain ⟨ml, hml⟩ : ∃ n, T.ls.length = n := ⟨_, rfl⟩
  obtain ⟨n, hn⟩ : ∃ n, S.ks.length = n := ⟨_, rfl⟩
  obtain ⟨m, hm⟩ : ∃ n, T.ks.length = n := ⟨_, rfl⟩
  rw [hx0, hx1, hx2, hy0, hy1, hy2, hn, hm, hnl, hml]
  rw [hn, hnl] at hS
  rw [hm, hml] at hT
  obtain ⟨w1, hw1⟩ : ∃ x, ((w.alloc (.cells #[.func (.func 43) #[] #[], .int .i64 1000, .int .i64 2147483647] 71)).alloc (.cells #[.int .i64 x0, .int .i64 x1, .int .i64 x2, .slice a n ca, .slice al nl cal] 29)).alloc (.cells #[.int .i64 y0, .int .i64 y1, .int .i64 y2, .slice b m cb, .slice bl ml cbl] 29) = x := ⟨_, rfl⟩
  have A1 : Below w.heap.size w w1 := by rw [← hw1]; exact (((Below.refl _ w).alloc (Nat.le_refl _) _).alloc (by simp) _).alloc (by simp; omega) _
  have hWy : Bk.Wy w.heap.size 1000 2147483647 w1 := by
    rw [← hw1]
    exact Bk.Wy.keep (Bk.Wy.keep (heap_alloc_new w _) (Below.heap_alloc _ _ _ (by simp))) (Below.heap_alloc _ _ _ (by simp; omega))
  have hcall := Tryz.bsame_any 1000 w.heap.size B hB hBs d d' 1000 S T (.slice a n ca) (.slice al nl cal) (.slice b m cb) (.slice bl ml cbl) 2147483647 w1 (hS.below (A1.mono hBs)) (hT.below (A1.mono hBs)) (Nat.le_trans hBs A1.size) hWy hsz (Nat.le_refl _) hdp (Nat.le_refl _) hlk
  rw [hx0, hx1, hx2, hy0, hy1, hy2] at hcall
  have HC : Hid _ := hcall
  have HA : Hid (Below w.heap.size w w1) := A1
  have H1 : Hid (((w.alloc (.cells #[.func (.func 43) #[] #[], .int .i64 1000, .int .i64 2147483647] 71)).alloc (.cells #[.int .i64 x0, .int .i64 x1, .int .i64 x2, .slice a n ca, .slice al nl cal] 29)).alloc (.cells #[.int .i64 y0, .int .i64 y1, .int .i64 y2, .slice b m cb, .slice bl ml cbl] 29) = w1) := hw1
  clear hcall A1 hS hT hx0 hx1 hx2 hy0 hy1 hy2 hn hm hnl hml hlk hw1 hWy
  go_enter Tryz.func22, Tryz.ntmps22
  go_wp2_with fail
  rw [H1.out]
  refine Calls.mono HC.out ?_
  rintro e W1 ⟨r, rfl, hr, hb, -⟩
  have X : Hid ((r = true ↔ S = T) ∧ Below w.heap.size w W1) := ⟨hr, HA.out.trans (hb.below HA.out.size (fun k hk => by omega))⟩
  clear hb hr
  go_wp2
  go_ret
  exact ⟨⟨r, rfl, X.out.1⟩, X.out.2⟩

set_option maxRecDepth 20000 in
set_option maxHeartbeats 4000000 in
theorem Tryz.blockSame_any (d d' : Nat) (S T : Bl) (u lu v lv : Value) (w : World) (hS : Bl.Lies w w.heap.size d u lu S) (hT : Bl.Lies w w.heap.size d' v lv T) (h0 : 0 < w.heap.size) (hsz : S.size ≤ 2147483647) (hdp : S.depth ≤ 1000) (hlk : S.allP (fun _ _ _ ls => decide (ls.length ≤ 2147483647)) = true) :
    Calls Tryz.prog 10 #[.agg #[.int .i64 S.kind, .int .i64 S.node, .int .i64 S.arg, u, lu], .agg #[.int .i64 T.kind, .int .i64 T.node, .int .i64 T.arg, v, lv]] w fun e w' =>
      (∃ r, e = .returned (.bool r) ∧ (r = true ↔ S = T)) ∧ Below w.heap.size w w' := by
  obtain ⟨a, ca, rfl⟩ := hS.shape
  obtain ⟨b, cb, rfl⟩ := hT.shape
  obtain ⟨al, cal, rfl⟩ := hS.links.shape
  obtain ⟨bl, cbl, rfl⟩ := hT.links.shape
  obtain ⟨x0, hx0⟩ : ∃ z, S.kind = z := ⟨_, rfl⟩
  obtain ⟨x1, hx1⟩ : ∃ z, S.node = z := ⟨_, rfl⟩
  obtain ⟨x2, hx2⟩ : ∃ z, S.arg = z := ⟨_, rfl⟩
  obtain ⟨y0, hy0⟩ : ∃ z, T.kind = z := ⟨_, rfl⟩
  obtain ⟨y1, hy1⟩ : ∃ z, T.node = z := ⟨_, rfl⟩
  obtain ⟨y2, hy2⟩ : ∃ z, T.arg = z := ⟨_, rfl⟩
  obtain ⟨nl, hnl⟩ : ∃ n, S.ls.length = n := ⟨_, rfl⟩
  obtain ⟨ml, hml⟩ : ∃ n, T.ls.length = n := ⟨_, rfl⟩
  obtain ⟨n, hn⟩ : ∃ n, S.ks.length = n := ⟨_, rfl⟩
  obtain ⟨m, hm⟩ : ∃ n, T.ks.length = n := ⟨_, rfl⟩
  rw [hx0, hx1, hx2, hy0, hy1, hy2, hn, hm, hnl, hml]
  rw [hn, hnl] at hS
  rw [hm, hml] at hT
  obtain ⟨w1, hw1⟩ : ∃ x, (w.alloc (.cells #[.int .i64 x0, .int .i64 x1, .int .i64 x2, .slice a n ca, .slice al nl cal] 29)).alloc (.cells #[.int .i64 y0, .int .i64 y1, .int .i64 y2, .slice b m cb, .slice bl ml cbl] 29) = x := ⟨_, rfl⟩
  have hs1 : w1.heap.size = w.heap.size + 2 := by rw [← hw1]; simp
  have A1 : Below w.heap.size w w1 := by rw [← hw1]; exact ((Below.refl _ w).alloc (Nat.le_refl _) _).alloc (by simp) _
  have C0 : w1.heap[w.heap.size]? = some (.cells #[.int .i64 x0, .int .i64 x1, .int .i64 x2, .slice a n ca, .slice al nl cal] 29 (0, 0)) := by rw [← hw1, Below.heap_alloc _ _ _ (by simp)]; exact heap_alloc_new w _
  have C1 : w1.heap[w.heap.size + 1]? = some (.cells #[.int .i64 y0, .int .i64 y1, .int .i64 y2, .slice b m cb, .slice bl ml cbl] 29 (0, 0)) := by
    rw [← hw1]
    have := heap_alloc_new (w.alloc (.cells #[.int .i64 x0, .int .i64 x1, .int .i64 x2, .slice a n ca, .slice al nl cal] 29)) (.cells #[.int .i64 y0, .int .i64 y1, .int .i64 y2, .slice b m cb, .slice bl ml cbl] 29)
    simpa using this
  have CF : Hid (∀ W, Below w1.heap.size w1 W → W.cell? ⟨w.heap.size, 0, none⟩ = some (.int .i64 x0) ∧ W.cell? ⟨w.heap.size, 1, none⟩ = some (.int .i64 x1) ∧ W.cell? ⟨w.heap.size, 2, none⟩ = some (.int .i64 x2) ∧ W.cell? ⟨w.heap.size, 3, none⟩ = some (.slice a n ca) ∧ W.cell? ⟨w.heap.size, 4, none⟩ = some (.slice al nl cal) ∧ W.cell? ⟨w.heap.size + 1, 0, none⟩ = some (.int .i64 y0) ∧ W.cell? ⟨w.heap.size + 1, 1, none⟩ = some (.int .i64 y1) ∧ W.cell? ⟨w.heap.size + 1, 2, none⟩ = some (.int .i64 y2) ∧ W.cell? ⟨w.heap.size + 1, 3, none⟩ = some (.slice b m cb) ∧ W.cell? ⟨w.heap.size + 1, 4, none⟩ = some (.slice bl ml cbl)) := fun W hb => by
    have e1 := (hb.block w.heap.size (by omega)).trans C0
    have e2 := (hb.block (w.heap.size + 1) (by omega)).trans C1
    exact ⟨by simp [World.cell?, e1], by simp [World.cell?, e1], by simp [World.cell?, e1], by simp [World.cell?, e1], by simp [World.cell?, e1], by simp [World.cell?, e2], by simp [World.cell?, e2], by simp [World.cell?, e2], by simp [World.cell?, e2], by simp [World.cell?, e2]⟩
  have CW : Hid (∀ W, Below w1.heap.size w1 W → Calls Tryz.prog 23 #[.int .i64 1000, .int .i64 2147483647] W fun e w' => e = .returned (.agg #[.func (.func 43) #[] #[], .int .i64 1000, .int .i64 2147483647]) ∧ Hid (Below w1.heap.size w1 w')) := fun W hb =>
    (Tryz.bway_any 1000 2147483647 W).mono fun _ w' h => ⟨h.1, hb.trans (h.2.mono hb.size)⟩
  have CT : Hid (∀ W, Below w1.heap.size w1 W → Calls Tryz.prog 22 #[.agg #[.func (.func 43) #[] #[], .int .i64 1000, .int .i64 2147483647], .agg #[.int .i64 x0, .int .i64 x1, .int .i64 x2, .slice a n ca, .slice al nl cal], .agg #[.int .i64 y0, .int .i64 y1, .int .i64 y2, .slice b m cb, .slice bl ml cbl], .func (.func 24) #[] #[]] W fun e w' =>
      ∃ r, e = .returned (.bool r) ∧ Hid ((r = true ↔ S = T) ∧ Below w1.heap.size w1 w')) := fun W hb => by
    have h := Tryz.bnestSame_any d d' w.heap.size S T (.slice a n ca) (.slice al nl cal) (.slice b m cb) (.slice bl ml cbl) W ((hS.below A1).below (hb.mono (by omega))) ((hT.below A1).below (hb.mono (by omega))) h0 (by have := hb.size; omega) hsz hdp hlk
    rw [hx0, hx1, hx2, hy0, hy1, hy2] at h
    exact h.mono fun _ w' h => by
      obtain ⟨⟨r, he, hr⟩, hb'⟩ := h
      exact ⟨r, he, hr, hb.trans (hb'.mono hb.size)⟩
  have H1 : Hid ((w.alloc (.cells #[.int .i64 x0, .int .i64 x1, .int .i64 x2, .slice a n ca, .slice al nl cal] 29)).alloc (.cells #[.int .i64 y0, .int .i64 y1, .int .i64 y2, .slice b m cb, .slice bl ml cbl] 29) = w1) := hw1
  have HA : Hid (Below w.heap.size w w1 ∧ w.heap.size ≤ w1.heap.size) := ⟨A1, by omega⟩
  have BR : Hid (Below w1.heap.size w1 w1) := Below.refl _ _
  clear A1 hS hT hx0 hx1 hx2 hy0 hy1 hy2 hn hm hnl hml hlk hw1 C0 C1 hs1
  go_enter Tryz.func10, Tryz.ntmps10
  go_upto_region 1 with fail
  rw [H1.out]
  go_region_held3 (fun W => W.cell? ⟨w.heap.size, 0, none⟩ = some (.int .i64 x0) ∧ W.cell? ⟨w.heap.size, 1, none⟩ = some (.int .i64 x1) ∧ W.cell? ⟨w.heap.size, 2, none⟩ = some (.int .i64 x2) ∧ W.cell? ⟨w.heap.size, 3, none⟩ = some (.slice a n ca) ∧ W.cell? ⟨w.heap.size, 4, none⟩ = some (.slice al nl cal) ∧ W.cell? ⟨w.heap.size + 1, 0, none⟩ = some (.int .i64 y0) ∧ W.cell? ⟨w.heap.size + 1, 1, none⟩ = some (.int .i64 y1) ∧ W.cell? ⟨w.heap.size + 1, 2, none⟩ = some (.int .i64 y2) ∧ W.cell? ⟨w.heap.size + 1, 3, none⟩ = some (.slice b m cb) ∧ W.cell? ⟨w.heap.size + 1, 4, none⟩ = some (.slice bl ml cbl))
    (first | exact CF.out _ H4.out.2 | exact CF.out _ B3.out | exact CF.out _ BR.out.drew | exact CF.out _ BR.out)
    (first
    | (go_simp; go_at_call 23; refine Calls.mono (CW.out _ ?_) ?_; (first | exact BR.out | exact BR.out.drew | exact Tk.below_drewN BR.out _); rintro e W3 ⟨rfl, B3⟩)
    | (go_simp; go_at_call 22; refine Calls.mono (CT.out _ ?_) ?_; (first | exact B3.out | exact B3.out.drew | exact Tk.below_drewN B3.out _); rintro e W4 ⟨r, rfl, H4⟩))
  all_goals
    clear CW CT BR
    go_simp
    go_wp2
    go_ret
    exact ⟨⟨r, rfl, H4.out.1⟩, HA.out.1.trans (H4.out.2.mono HA.out.2)⟩

end Go.Proofs
