import Derived.Test.YtdghjgiakblfmaaGreatDoorRAllTRefChk
import Derived.Deep.RegionHeld3
namespace Go.Proofs
open Go.RowKit Go.Shelf
theorem Tk.alloc5 (w : World) (o1 o2 o3 o4 o5 : Obj) : (((((w.alloc o1).alloc o2).alloc o3).alloc o4).alloc o5).heap[w.heap.size]? = some o1 ∧ (((((w.alloc o1).alloc o2).alloc o3).alloc o4).alloc o5).heap[w.heap.size + 1]? = some o2 ∧
  (((((w.alloc o1).alloc o2).alloc o3).alloc o4).alloc o5).heap[w.heap.size + 2]? = some o3 ∧ (((((w.alloc o1).alloc o2).alloc o3).alloc o4).alloc o5).heap[w.heap.size + 3]? = some o4 ∧ (((((w.alloc o1).alloc o2).alloc o3).alloc o4).alloc o5).heap[w.heap.size + 4]? = some o5 := by
 simp only [World.alloc]
 refine ⟨?_, ?_, ?_, ?_, ?_⟩
 ·rw [Array.getElem?_push, if_neg (by simp only [Array.size_push]; omega), Array.getElem?_push, if_neg (by simp only [Array.size_push]; omega), Array.getElem?_push, if_neg (by simp only [Array.size_push]; omega), Array.getElem?_push, if_neg (by simp only [Array.size_push]; omega), Array.getElem?_push, if_pos rfl]
 ·rw [Array.getElem?_push, if_neg (by simp only [Array.size_push]; omega), Array.getElem?_push, if_neg (by simp only [Array.size_push]; omega), Array.getElem?_push, if_neg (by simp only [Array.size_push]; omega), Array.getElem?_push, if_pos (by simp only [Array.size_push])]
 ·rw [Array.getElem?_push, if_neg (by simp only [Array.size_push]; omega), Array.getElem?_push, if_neg (by simp only [Array.size_push]; omega), Array.getElem?_push, if_pos (by simp only [Array.size_push])]
 ·rw [Array.getElem?_push, if_neg (by simp only [Array.size_push]; omega), Array.getElem?_push, if_pos (by simp only [Array.size_push])]
 ·rw [Array.getElem?_push, if_pos (by simp only [Array.size_push])]
def Tk.SInv (S : Tm) (lv bw L k b1 b2 b3 : Nat) (w : World) (j : Nat) (W : World) : Prop :=
 Tk.But (fun x => x = bw) w W ∧ Tk.Sb bw (L + 1) b1 b2 b3 W ∧ ∃ left, Tk.Wy bw lv left W ∧ k ≤ left + Tm.sizes (S.ks.take j) ∧ left ≤ k
set_option maxRecDepth 20000 in
set_option maxHeartbeats 8000000 in
theorem Tryz.same_any (lv bw B : Nat) (_hB : 0 < B) (hbw : B ≤ bw) : ∀ (d d' L : Nat) (S T : Tm) (u v : Value) (left : Nat) (w : World), Tm.Lies w B d u S → Tm.Lies w B d' v T → B ≤ w.heap.size → Tk.Wy bw lv left w → S.size ≤ left → left ≤ 2147483647 → S.depth ≤ L → L ≤ 1000 →
   Calls Tryz.prog 125 #[.pointer (some ⟨bw, 0, none⟩), .agg #[.int .i64 S.op, .int .i64 S.num, u], .agg #[.int .i64 T.op, .int .i64 T.num, v], .int .i64 L, .func (.func 104) #[] #[]] w (Tk.SameEnd S T lv left bw w) := by
 intro d
 induction d with
 | zero => intro d' L S T u v left w h; exact h.elim
 | succ d ih =>
   intro d' L S T u v left w hS hT hBs hW hsz hleft hdp hL
   cases d' with
   | zero => exact hT.elim
   | succ d' =>
   obtain ⟨a, ca, rfl⟩ := hS.shape
   obtain ⟨b, cb, rfl⟩ := hT.shape
   obtain ⟨L, rfl⟩ : ∃ l, L = l + 1 := ⟨L - 1, by have := S.depth_eq; omega⟩
   obtain ⟨k, rfl⟩ : ∃ k, left = k + 1 := ⟨left - 1, by have := S.size_pos; omega⟩
   obtain ⟨x0, hx0⟩ : ∃ z, S.op = z := ⟨_, rfl⟩
   obtain ⟨x1, hx1⟩ : ∃ z, S.num = z := ⟨_, rfl⟩
   obtain ⟨y0, hy0⟩ : ∃ z, T.op = z := ⟨_, rfl⟩
   obtain ⟨y1, hy1⟩ : ∃ z, T.num = z := ⟨_, rfl⟩
   obtain ⟨n, hn⟩ : ∃ n, S.ks.length = n := ⟨_, rfl⟩
   obtain ⟨m, hm⟩ : ∃ n, T.ks.length = n := ⟨_, rfl⟩
   rw [hx0, hx1, hy0, hy1, hn, hm]
   obtain ⟨w5, hw5⟩ : ∃ x, ((((w.alloc (.cells #[.pointer (some ⟨bw, 0, none⟩)] 187)).alloc (.cells #[.int .i64 x0, .int .i64 x1, .slice a n ca] 24)).alloc (.cells #[.int .i64 y0, .int .i64 y1, .slice b m cb] 24)).alloc (.cells #[.int .i64 ((L : Int) + 1)] 3)).alloc (.cells #[.func (.func 104) #[] #[]] 126) = x := ⟨_, rfl⟩
   have A5 : Below w.heap.size w w5 := by
    rw [← hw5]
    exact (((((Below.refl _ w).alloc (Nat.le_refl _) _).alloc (by simp) _).alloc (by simp; omega) _).alloc (by simp; omega) _).alloc (by simp; omega) _
   have hs5 : w5.heap.size = w.heap.size + 5 := by rw [← hw5]; simp
   have hwl := hW.lt
   have W5 : Tk.Wy bw lv (k + 1) w5 := hW.keep (A5.block bw hwl)
   obtain ⟨r1, r2, r3, r4, r5⟩ := Tk.alloc5 w (.cells #[.pointer (some ⟨bw, 0, none⟩)] 187) (.cells #[.int .i64 x0, .int .i64 x1, .slice a n ca] 24) (.cells #[.int .i64 y0, .int .i64 y1, .slice b m cb] 24) (.cells #[.int .i64 ((L : Int) + 1)] 3) (.cells #[.func (.func 104) #[] #[]] 126)
   rw [hw5] at r1 r2 r3 r4 r5
   have S5 : Tk.Sb bw (L + 1) w.heap.size (w.heap.size + 3) (w.heap.size + 4) w5 := ⟨r1, by rw [r4]; simp, r5⟩
   have CF : Hid (∀ W, Tk.But (fun x => x = bw) w5 W → Tk.Sb bw (L + 1) w.heap.size (w.heap.size + 3) (w.heap.size + 4) W ∧ W.cell? ⟨w.heap.size + 1, 0, none⟩ = some (.int .i64 x0) ∧ W.cell? ⟨w.heap.size + 1, 1, none⟩ = some (.int .i64 x1) ∧ W.cell? ⟨w.heap.size + 1, 2, none⟩ = some (.slice a n ca) ∧
     W.cell? ⟨w.heap.size + 2, 0, none⟩ = some (.int .i64 y0) ∧ W.cell? ⟨w.heap.size + 2, 1, none⟩ = some (.int .i64 y1) ∧ W.cell? ⟨w.heap.size + 2, 2, none⟩ = some (.slice b m cb)) := by
    intro W hb
    have e1 := (hb.block (w.heap.size + 1) (by omega) (by omega)).trans r2
    have e2 := (hb.block (w.heap.size + 2) (by omega) (by omega)).trans r3
    exact ⟨S5.keep (hb.block _ (by omega) (by omega)) (hb.block _ (by omega) (by omega)) (hb.block _ (by omega) (by omega)), by simp [World.cell?, e1], by simp [World.cell?, e1], by simp [World.cell?, e1], by simp [World.cell?, e2], by simp [World.cell?, e2], by simp [World.cell?, e2]⟩
   have HW5 : Hid (((((w.alloc (.cells #[.pointer (some ⟨bw, 0, none⟩)] 187)).alloc (.cells #[.int .i64 x0, .int .i64 x1, .slice a n ca] 24)).alloc (.cells #[.int .i64 y0, .int .i64 y1, .slice b m cb] 24)).alloc (.cells #[.int .i64 ((L : Int) + 1)] 3)).alloc (.cells #[.func (.func 104) #[] #[]] 126) = w5) := hw5
   have HX : Hid (Tm.Lies w B (d + 1) (.slice a n ca) S ∧ Tm.Lies w B (d' + 1) (.slice b m cb) T ∧ S.ks.length = n ∧ T.ks.length = m ∧ S.op = x0 ∧ S.num = x1 ∧ T.op = y0 ∧ T.num = y1 ∧ Below w.heap.size w w5) := ⟨by rw [← hn]; exact hS, by rw [← hm]; exact hT, hn, hm, hx0, hx1, hy0, hy1, A5⟩
   have HN : Hid (B ≤ w.heap.size ∧ S.size ≤ k + 1 ∧ k + 1 ≤ 2147483647 ∧ S.depth ≤ L + 1 ∧ L + 1 ≤ 1000 ∧ bw < w.heap.size ∧ w5.heap.size = w.heap.size + 5) := ⟨hBs, hsz, hleft, hdp, hL, hwl, hs5⟩
   have HI : Hid _ := ih
   have hk2 : k ≤ 2147483647 := by omega
   have hLb : L ≤ 1000 := by omega
   clear ih hS hT hBs hW hsz hleft hdp hL hx0 hx1 hy0 hy1 hn hm hw5 A5 r1 r2 r3 r4 r5 S5 hs5 hwl
   go_enter Tryz.func125, Tryz.ntmps125
   go_wp2_with fail
   rw [HW5.out]
   refine (Tryz.wenter_yes bw lv k L _ W5 hk2).mono ?_
   rintro e W1 ⟨rfl, hw1⟩
   have X1 : Tk.But (fun x => x = bw) w5 W1 := by rw [hw1]; exact (Tk.But.refl _ _).setCell (E := fun x => x = bw) (p := ⟨bw, 2, none⟩) rfl _
   have W1k : Hid (Tk.Wy bw lv k W1) := by show Tk.Wy _ _ _ _; rw [hw1]; exact W5.put k
   obtain ⟨sb, a0, a1, a2, b0, b1, b2⟩ := CF.out W1 X1
   have k3 := sb.c3
   have HX1 : Hid _ := X1
   clear hw1 W5 X1 sb
   go_wp2_with fail
   refine (Tryz.alike_any x0 x1 y0 y1 a b n ca m cb W1).mono ?_
   rintro e W2 ⟨rfl, hb2⟩
   have X2 : Hid (Tk.But (fun x => x = bw) w5 W2) := HX1.out.trans (Tk.But.of_below hb2)
   have W2k : Hid (Tk.Wy bw lv k W2) := W1k.out.keep (hb2.block bw W1k.out.lt)
   have XW : Hid (Tk.But (fun x => x = bw) w W2) := (Tk.But.of_below HX.out.2.2.2.2.2.2.2.2).trans X2.out
   clear hb2 a0 a1 a2 b0 b1 b2 k3 HX1 W1k
   cases hq : (x0 == y0 && x1 == y1)
   ·have HQ : Hid ((x0 == y0 && x1 == y1) = false) := hq
    clear hq
    go_wp2
    go_ret
    refine ⟨false, rfl, ⟨fun h => by simp at h, fun h => ?_⟩, XW.out, k, W2k.out, ?_, by omega⟩
    ·subst h
     have := HQ.out
     have e := HX.out.2.2.2.2
     rw [← e.1, ← e.2.1, e.2.2.1, e.2.2.2.1] at this
     simp at this
    ·have := S.size_pos
     omega
   ·have HQ : Hid ((x0 == y0 && x1 == y1) = true) := hq
    clear hq
    have CK : Hid (∀ W o n a l c, Below W2.heap.size W2 W → Calls Tryz.prog 126 #[.agg #[.int .i64 o, .int .i64 n, .slice a l c]] W fun e w' => e = .returned (.slice a l c) ∧ Hid (Below W2.heap.size W2 w')) := fun W o n a l c hb =>
     (Tryz.kidsOf_any o n a l c W).mono fun _ _ h => ⟨h.1, hb.trans (h.2.mono hb.size)⟩
    obtain ⟨CS, hCS⟩ : ∃ CS : World → Prop, CS = fun V => (V.cell? ⟨w.heap.size, 0, none⟩ = some (.pointer (some ⟨bw, 0, none⟩)) ∧ V.cell? ⟨bw, 0, none⟩ = some (.func (.func 126) #[] #[])) ∧ V.cell? ⟨w.heap.size + 1, 0, none⟩ = some (.int .i64 x0) ∧ V.cell? ⟨w.heap.size + 1, 1, none⟩ = some (.int .i64 x1) ∧ V.cell? ⟨w.heap.size + 1, 2, none⟩ = some (.slice a n ca) ∧ V.cell? ⟨w.heap.size + 2, 0, none⟩ = some (.int .i64 y0) ∧ V.cell? ⟨w.heap.size + 2, 1, none⟩ = some (.int .i64 y1) ∧ V.cell? ⟨w.heap.size + 2, 2, none⟩ = some (.slice b m cb) := ⟨_, rfl⟩
    have CE : Hid (∀ W, Below W2.heap.size W2 W → Calls Tryz.prog 81 #[.slice a n ca, .slice b m cb, .func (.func 148) #[] #[.pointer (some ⟨w.heap.size, 0, none⟩), .pointer (some ⟨w.heap.size + 3, 0, none⟩), .pointer (some ⟨w.heap.size + 4, 0, none⟩)]] W fun e w' => ∃ r, e = .returned (.bool r) ∧ Hid ((r = true ↔ S.ks = T.ks) ∧ Tk.But (fun x => x = bw) w w' ∧ (∃ left', Tk.Wy bw lv left' w' ∧ k + 1 ≤ left' + S.size ∧ left' ≤ k + 1) ∧ CS w')) := by
     intro W hb
     have XWW : Tk.But (fun x => x = bw) W2 W := Tk.But.of_below hb
     have hz2 := X2.out.size
     have XW0 := XW.out.trans XWW
     have hlb : ∀ i, i < B → ¬ i = bw := fun i hi => by omega
     have LS : Tm.Lies W B (d + 1) (.slice a S.ks.length ca) S := by rw [HX.out.2.2.1]; exact HX.out.1.keep fun i hi => XW0.block i (by have := HN.out; omega) (hlb i hi)
     have LT : Tm.Lies W B (d' + 1) (.slice b T.ks.length cb) T := by rw [HX.out.2.2.2.1]; exact HX.out.2.1.keep fun i hi => XW0.block i (by have := HN.out; omega) (hlb i hi)
     have hSb := (CF.out W (X2.out.trans (Tk.But.of_below hb))).1
     have h := Tryz.equalFunc_any (g := 148) (lb := #[.pointer (some ⟨w.heap.size, 0, none⟩), .pointer (some ⟨w.heap.size + 3, 0, none⟩), .pointer (some ⟨w.heap.size + 4, 0, none⟩)]) (enters_of Tryz.func148 (by kernel_rfl) rfl) S T a b ca cb B d d' W (Tk.SInv S lv bw L k w.heap.size (w.heap.size + 3) (w.heap.size + 4) W2) LS LT
      ⟨XWW, hSb, k, W2k.out.keep (hb.block bw W2k.out.lt), by omega, Nat.le_refl _⟩
      (fun j V hV i hi => by
       rw [hV.1.block i (by have := HN.out; omega) (hlb i hi)]
       exact (XWW.block i (by have := HN.out; omega) (hlb i hi)).symm)
      (fun j V o hV => by
       obtain ⟨h1, h2, l, h3, h4⟩ := hV
       have hz := h2.lt
       exact ⟨h1.alloc o, h2.keep (Below.heap_alloc _ _ _ hz.1) (Below.heap_alloc _ _ _ hz.2.1) (Below.heap_alloc _ _ _ hz.2.2), l, h3.keep (Below.heap_alloc _ _ _ h3.lt), h4⟩)
      (fun j V hV => by
       obtain ⟨h1, h2, l, h3, h4⟩ := hV
       exact ⟨h1.drewN 1, h2.keep rfl rfl rfl, l, h3.keep rfl, h4⟩)
      (by have h1 := Tm.length_le_sizes S.ks; have h2 := S.size_eq; have := HN.out; omega)
      (fun j hx hy V u v hV hu hv => by
       obtain ⟨h1, h2, l, h3, h4, h5⟩ := hV
       have hsx := Tm.sizes_get S.ks j hx
       have hse := S.size_eq
       have hdx := Tm.depths_get S.ks j hx
       have hde := S.depth_eq
       have hbase : ∀ i, i < B → V.heap[i]? = W.heap[i]? := fun i hi => by
        rw [h1.block i (by have := HN.out; omega) (hlb i hi)]
        exact (XWW.block i (by have := HN.out; omega) (hlb i hi)).symm
       have hq := Tryz.same1_any bw lv L w.heap.size (w.heap.size + 3) (w.heap.size + 4) S.ks[j] T.ks[j] u v l V h2 (by omega)
        (fun V' hb' => HI.out d' L S.ks[j] T.ks[j] u v l V' ((hu.keep hbase).keep fun i hi => hb'.block i (by have := h1.size; have := HN.out; omega)) ((hv.keep hbase).keep fun i hi => hb'.block i (by have := h1.size; have := HN.out; omega)) (by have := h1.size; have := hb'.size; have := HN.out; omega)
         (h3.keep (hb'.block bw h3.lt)) (by have := HN.out; omega) (by have := HN.out; omega) (by have := HN.out; omega) hLb) h3.lt
        (by obtain ⟨p, q, e⟩ := hu.shape; exact ⟨p, _, q, e⟩) (by obtain ⟨p, q, e⟩ := hv.shape; exact ⟨p, _, q, e⟩)
       refine hq.mono ?_
       rintro e V' ⟨r, rfl, hr, hbt, l', h6, h7, h8⟩
       have hz := h2.lt
       have hne : bw < w.heap.size := HN.out.2.2.2.2.2.1
       refine ⟨r, rfl, hr, h1.trans hbt, h2.keep (hbt.block _ hz.1 (by omega)) (hbt.block _ hz.2.1 (by omega)) (hbt.block _ hz.2.2 (by omega)), l', h6, ?_, by omega⟩
       rw [Tm.sizes_take _ _ hx]
       omega)
     rw [HX.out.2.2.1, HX.out.2.2.2.1] at h
     refine h.mono ?_
     rintro e V ⟨r, rfl, hr, j, h1, h2, l, h3, h4, h5⟩
     have hcf := CF.out V (X2.out.trans h1)
     refine ⟨r, rfl, hr, XW.out.trans h1, ⟨l, h3, ?_, by omega⟩, by rw [hCS]; exact ⟨⟨hcf.1.c1, h3.c0⟩, hcf.2⟩⟩
     have := Tm.sizes_le S.ks j
     have := S.size_eq
     omega
    have BR : Hid (Below W2.heap.size W2 W2) := Below.refl _ _
    obtain ⟨sb, a0, a1, a2, b0, b1, b2⟩ := CF.out W2 X2.out
    have k1 := sb.c1
    have kw := W2k.out.c0
    have CFB : Hid (∀ W, Below W2.heap.size W2 W → CS W) := fun W hb => by
     rw [hCS]
     have h := CF.out W (X2.out.trans (Tk.But.of_below hb))
     exact ⟨⟨h.1.c1, (W2k.out.keep (hb.block bw W2k.out.lt)).c0⟩, h.2⟩
    have HEQ : Hid (S.ks = T.ks ↔ S = T) := by
     have e := HX.out.2.2.2.2
     have hq := HQ.out
     simp only [Bool.and_eq_true, beq_iff_eq] at hq
     show _ ↔ _
     rw [Tm.eq_iff S T, e.1, e.2.1, e.2.2.1, e.2.2.2.1]
     exact ⟨fun h => ⟨hq.1, hq.2, h⟩, fun h => h.2.2⟩
    clear sb HI CF HX HQ HN HW5 XW X2 W2k
    subst hCS
    go_wp2_with fail
    go_region_held3 (fun V => (V.cell? ⟨w.heap.size, 0, none⟩ = some (.pointer (some ⟨bw, 0, none⟩)) ∧ V.cell? ⟨bw, 0, none⟩ = some (.func (.func 126) #[] #[])) ∧ V.cell? ⟨w.heap.size + 1, 0, none⟩ = some (.int .i64 x0) ∧ V.cell? ⟨w.heap.size + 1, 1, none⟩ = some (.int .i64 x1) ∧ V.cell? ⟨w.heap.size + 1, 2, none⟩ = some (.slice a n ca) ∧ V.cell? ⟨w.heap.size + 2, 0, none⟩ = some (.int .i64 y0) ∧ V.cell? ⟨w.heap.size + 2, 1, none⟩ = some (.int .i64 y1) ∧ V.cell? ⟨w.heap.size + 2, 2, none⟩ = some (.slice b m cb))
     (first | exact H4.out.2.2.2 | exact CFB.out _ B3.out | exact CFB.out _ BR.out.drew | exact CFB.out _ BR.out)
     (first
     | (go_simp; go_at_call 126; refine Calls.mono (CK.out _ _ _ _ _ _ ?_) ?_; (first | exact B3.out | exact B3.out.drew | exact Tk.below_drewN B3.out _ | exact BR.out | exact BR.out.drew | exact Tk.below_drewN BR.out _); rintro e W3 ⟨rfl, B3⟩)
     | (go_simp; go_at_call 81; refine Calls.mono (CE.out _ ?_) ?_; (first | exact B3.out | exact B3.out.drew | exact Tk.below_drewN B3.out _); rintro e W4 ⟨r, rfl, H4⟩))
    all_goals
     clear CK CE CFB BR
     go_simp
     go_wp2
     go_ret
     refine ⟨r, rfl, H4.out.1.trans HEQ.out, ?_, H4.out.2.2.1⟩
     first | exact H4.out.2.1 | exact H4.out.2.1.drewN 1
end Go.Proofs
namespace Go.Proofs
open Go.RowKit Go.Shelf
set_option maxRecDepth 20000 in
set_option maxHeartbeats 4000000 in
theorem Tryz.nestSame_any (d d' B : Nat) (S T : Tm) (u v : Value) (w : World) (hS : Tm.Lies w B d u S) (hT : Tm.Lies w B d' v T) (hB : 0 < B) (hBs : B ≤ w.heap.size) (hsz : S.size ≤ 2147483647) (hdp : S.depth ≤ 1000) :
  Calls Tryz.prog 102 #[.agg #[.func (.func 126) #[] #[], .int .i64 1000, .int .i64 2147483647], .agg #[.int .i64 S.op, .int .i64 S.num, u], .agg #[.int .i64 T.op, .int .i64 T.num, v], .func (.func 104) #[] #[]] w fun e w' =>
   (∃ r, e = .returned (.bool r) ∧ (r = true ↔ S = T)) ∧ Below w.heap.size w w' := by
 obtain ⟨a, ca, rfl⟩ := hS.shape
 obtain ⟨b, cb, rfl⟩ := hT.shape
 obtain ⟨x0, hx0⟩ : ∃ z, S.op = z := ⟨_, rfl⟩
 obtain ⟨x1, hx1⟩ : ∃ z, S.num = z := ⟨_, rfl⟩
 obtain ⟨y0, hy0⟩ : ∃ z, T.op = z := ⟨_, rfl⟩
 obtain ⟨y1, hy1⟩ : ∃ z, T.num = z := ⟨_, rfl⟩
 obtain ⟨n, hn⟩ : ∃ n, S.ks.length = n := ⟨_, rfl⟩
 obtain ⟨m, hm⟩ : ∃ n, T.ks.length = n := ⟨_, rfl⟩
 rw [hx0, hx1, hy0, hy1, hn, hm]
 rw [hn] at hS
 rw [hm] at hT
 obtain ⟨w1, hw1⟩ : ∃ x, ((w.alloc (.cells #[.func (.func 126) #[] #[], .int .i64 1000, .int .i64 2147483647] 162)).alloc (.cells #[.int .i64 x0, .int .i64 x1, .slice a n ca] 24)).alloc (.cells #[.int .i64 y0, .int .i64 y1, .slice b m cb] 24) = x := ⟨_, rfl⟩
 have A1 : Below w.heap.size w w1 := by rw [← hw1]; exact (((Below.refl _ w).alloc (Nat.le_refl _) _).alloc (by simp) _).alloc (by simp; omega) _
 have hWy : Tk.Wy w.heap.size 1000 2147483647 w1 := by
  rw [← hw1]
  exact Tk.Wy.keep (Tk.Wy.keep (heap_alloc_new w _) (Below.heap_alloc _ _ _ (by simp))) (Below.heap_alloc _ _ _ (by simp; omega))
 have hcall := Tryz.same_any 1000 w.heap.size B hB hBs d d' 1000 S T (.slice a n ca) (.slice b m cb) 2147483647 w1 (hS.below (A1.mono hBs)) (hT.below (A1.mono hBs)) (Nat.le_trans hBs A1.size) hWy hsz (Nat.le_refl _) hdp (Nat.le_refl _)
 rw [hx0, hx1, hy0, hy1] at hcall
 have HC : Hid _ := hcall
 have HA : Hid (Below w.heap.size w w1) := A1
 have H1 : Hid (((w.alloc (.cells #[.func (.func 126) #[] #[], .int .i64 1000, .int .i64 2147483647] 162)).alloc (.cells #[.int .i64 x0, .int .i64 x1, .slice a n ca] 24)).alloc (.cells #[.int .i64 y0, .int .i64 y1, .slice b m cb] 24) = w1) := hw1
 clear hcall A1 hS hT hx0 hx1 hy0 hy1 hn hm hw1 hWy
 go_enter Tryz.func102, Tryz.ntmps102
 go_wp2_with fail
 rw [H1.out]
 refine Calls.mono HC.out ?_
 rintro e W1 ⟨r, rfl, hr, hb, -⟩
 have X : Hid ((r = true ↔ S = T) ∧ Below w.heap.size w W1) := ⟨hr, HA.out.trans (hb.below HA.out.size (fun k hk => by omega))⟩
 clear hb hr
 go_wp2
 go_ret
 exact ⟨⟨r, rfl, X.out.1⟩, X.out.2⟩
set_option maxRecDepth 20000 in
set_option maxHeartbeats 4000000 in
theorem Tryz.termSame_any (d d' : Nat) (S T : Tm) (u v : Value) (w : World) (hS : Tm.Lies w w.heap.size d u S) (hT : Tm.Lies w w.heap.size d' v T) (h0 : 0 < w.heap.size) (hsz : S.size ≤ 2147483647) (hdp : S.depth ≤ 1000) :
  Calls Tryz.prog 77 #[.agg #[.int .i64 S.op, .int .i64 S.num, u], .agg #[.int .i64 T.op, .int .i64 T.num, v]] w fun e w' =>
   (∃ r, e = .returned (.bool r) ∧ (r = true ↔ S = T)) ∧ Below w.heap.size w w' := by
 obtain ⟨a, ca, rfl⟩ := hS.shape
 obtain ⟨b, cb, rfl⟩ := hT.shape
 obtain ⟨x0, hx0⟩ : ∃ z, S.op = z := ⟨_, rfl⟩
 obtain ⟨x1, hx1⟩ : ∃ z, S.num = z := ⟨_, rfl⟩
 obtain ⟨y0, hy0⟩ : ∃ z, T.op = z := ⟨_, rfl⟩
 obtain ⟨y1, hy1⟩ : ∃ z, T.num = z := ⟨_, rfl⟩
 obtain ⟨n, hn⟩ : ∃ n, S.ks.length = n := ⟨_, rfl⟩
 obtain ⟨m, hm⟩ : ∃ n, T.ks.length = n := ⟨_, rfl⟩
 rw [hx0, hx1, hy0, hy1, hn, hm]
 rw [hn] at hS
 rw [hm] at hT
 obtain ⟨w1, hw1⟩ : ∃ x, (w.alloc (.cells #[.int .i64 x0, .int .i64 x1, .slice a n ca] 24)).alloc (.cells #[.int .i64 y0, .int .i64 y1, .slice b m cb] 24) = x := ⟨_, rfl⟩
 have hs1 : w1.heap.size = w.heap.size + 2 := by rw [← hw1]; simp
 have A1 : Below w.heap.size w w1 := by rw [← hw1]; exact ((Below.refl _ w).alloc (Nat.le_refl _) _).alloc (by simp) _
 have C0 : w1.heap[w.heap.size]? = some (.cells #[.int .i64 x0, .int .i64 x1, .slice a n ca] 24 (0, 0)) := by rw [← hw1, Below.heap_alloc _ _ _ (by simp)]; exact heap_alloc_new w _
 have C1 : w1.heap[w.heap.size + 1]? = some (.cells #[.int .i64 y0, .int .i64 y1, .slice b m cb] 24 (0, 0)) := by
  rw [← hw1]
  have := heap_alloc_new (w.alloc (.cells #[.int .i64 x0, .int .i64 x1, .slice a n ca] 24)) (.cells #[.int .i64 y0, .int .i64 y1, .slice b m cb] 24)
  simpa using this
 have CF : Hid (∀ W, Below w1.heap.size w1 W → W.cell? ⟨w.heap.size, 0, none⟩ = some (.int .i64 x0) ∧ W.cell? ⟨w.heap.size, 1, none⟩ = some (.int .i64 x1) ∧ W.cell? ⟨w.heap.size, 2, none⟩ = some (.slice a n ca) ∧ W.cell? ⟨w.heap.size + 1, 0, none⟩ = some (.int .i64 y0) ∧ W.cell? ⟨w.heap.size + 1, 1, none⟩ = some (.int .i64 y1) ∧ W.cell? ⟨w.heap.size + 1, 2, none⟩ = some (.slice b m cb)) := fun W hb => by
  have e1 := (hb.block w.heap.size (by omega)).trans C0
  have e2 := (hb.block (w.heap.size + 1) (by omega)).trans C1
  exact ⟨by simp [World.cell?, e1], by simp [World.cell?, e1], by simp [World.cell?, e1], by simp [World.cell?, e2], by simp [World.cell?, e2], by simp [World.cell?, e2]⟩
 have CW : Hid (∀ W, Below w1.heap.size w1 W → Calls Tryz.prog 103 #[.int .i64 1000] W fun e w' => e = .returned (.agg #[.func (.func 126) #[] #[], .int .i64 1000, .int .i64 2147483647]) ∧ Hid (Below w1.heap.size w1 w')) := fun W hb =>
  (Tryz.way_any 1000 W).mono fun _ w' h => ⟨h.1, hb.trans (h.2.mono hb.size)⟩
 have CT : Hid (∀ W, Below w1.heap.size w1 W → Calls Tryz.prog 102 #[.agg #[.func (.func 126) #[] #[], .int .i64 1000, .int .i64 2147483647], .agg #[.int .i64 x0, .int .i64 x1, .slice a n ca], .agg #[.int .i64 y0, .int .i64 y1, .slice b m cb], .func (.func 104) #[] #[]] W fun e w' =>
   ∃ r, e = .returned (.bool r) ∧ Hid ((r = true ↔ S = T) ∧ Below w1.heap.size w1 w')) := fun W hb => by
  have h := Tryz.nestSame_any d d' w.heap.size S T (.slice a n ca) (.slice b m cb) W ((hS.below A1).below (hb.mono (by omega))) ((hT.below A1).below (hb.mono (by omega))) h0 (by have := hb.size; omega) hsz hdp
  rw [hx0, hx1, hy0, hy1] at h
  exact h.mono fun _ w' h => by
   obtain ⟨⟨r, he, hr⟩, hb'⟩ := h
   exact ⟨r, he, hr, hb.trans (hb'.mono hb.size)⟩
 have H1 : Hid ((w.alloc (.cells #[.int .i64 x0, .int .i64 x1, .slice a n ca] 24)).alloc (.cells #[.int .i64 y0, .int .i64 y1, .slice b m cb] 24) = w1) := hw1
 have HA : Hid (Below w.heap.size w w1 ∧ w.heap.size ≤ w1.heap.size) := ⟨A1, by omega⟩
 have BR : Hid (Below w1.heap.size w1 w1) := Below.refl _ _
 clear A1 hS hT hx0 hx1 hy0 hy1 hn hm hw1 C0 C1 hs1
 go_enter Tryz.func77, Tryz.ntmps77
 go_upto_region 1 with fail
 rw [H1.out]
 go_region_held3 (fun W => W.cell? ⟨w.heap.size, 0, none⟩ = some (.int .i64 x0) ∧ W.cell? ⟨w.heap.size, 1, none⟩ = some (.int .i64 x1) ∧ W.cell? ⟨w.heap.size, 2, none⟩ = some (.slice a n ca) ∧ W.cell? ⟨w.heap.size + 1, 0, none⟩ = some (.int .i64 y0) ∧ W.cell? ⟨w.heap.size + 1, 1, none⟩ = some (.int .i64 y1) ∧ W.cell? ⟨w.heap.size + 1, 2, none⟩ = some (.slice b m cb))
  (first | exact CF.out _ H4.out.2 | exact CF.out _ B3.out | exact CF.out _ BR.out.drew | exact CF.out _ BR.out)
  (first
  | (go_simp; go_at_call 103; refine Calls.mono (CW.out _ ?_) ?_; (first | exact BR.out | exact BR.out.drew | exact Tk.below_drewN BR.out _); rintro e W3 ⟨rfl, B3⟩)
  | (go_simp; go_at_call 102; refine Calls.mono (CT.out _ ?_) ?_; (first | exact B3.out | exact B3.out.drew | exact Tk.below_drewN B3.out _); rintro e W4 ⟨r, rfl, H4⟩))
 all_goals
  clear CW CT BR
  go_simp
  go_wp2
  go_ret
  exact ⟨⟨r, rfl, H4.out.1⟩, HA.out.1.trans (H4.out.2.mono HA.out.2)⟩
end Go.Proofs
