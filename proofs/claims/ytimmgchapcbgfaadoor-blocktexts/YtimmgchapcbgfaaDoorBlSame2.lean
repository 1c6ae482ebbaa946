/-
  same, at blocks.
-/
import Derived.Test.YtimmgchapcbgfaaDoorBlSame
namespace Go.Proofs
open Go.RowKit Go.Shelf

theorem Bk.alloc5 (w : World) (o1 o2 o3 o4 o5 : Obj) : (((((w.alloc o1).alloc o2).alloc o3).alloc o4).alloc o5).heap[w.heap.size]? = some o1 ∧ (((((w.alloc o1).alloc o2).alloc o3).alloc o4).alloc o5).heap[w.heap.size + 1]? = some o2 ∧
    (((((w.alloc o1).alloc o2).alloc o3).alloc o4).alloc o5).heap[w.heap.size + 2]? = some o3 ∧ (((((w.alloc o1).alloc o2).alloc o3).alloc o4).alloc o5).heap[w.heap.size + 3]? = some o4 ∧ (((((w.alloc o1).alloc o2).alloc o3).alloc o4).alloc o5).heap[w.heap.size + 4]? = some o5 := by
  simp only [World.alloc]
  refine ⟨?_, ?_, ?_, ?_, ?_⟩
  · rw [Array.getElem?_push, if_neg (by simp only [Array.size_push]; omega), Array.getElem?_push, if_neg (by simp only [Array.size_push]; omega), Array.getElem?_push, if_neg (by simp only [Array.size_push]; omega), Array.getElem?_push, if_neg (by simp only [Array.size_push]; omega), Array.getElem?_push, if_pos rfl]
  · rw [Array.getElem?_push, if_neg (by simp only [Array.size_push]; omega), Array.getElem?_push, if_neg (by simp only [Array.size_push]; omega), Array.getElem?_push, if_neg (by simp only [Array.size_push]; omega), Array.getElem?_push, if_pos (by simp only [Array.size_push])]
  · rw [Array.getElem?_push, if_neg (by simp only [Array.size_push]; omega), Array.getElem?_push, if_neg (by simp only [Array.size_push]; omega), Array.getElem?_push, if_pos (by simp only [Array.size_push])]
  · rw [Array.getElem?_push, if_neg (by simp only [Array.size_push]; omega), Array.getElem?_push, if_pos (by simp only [Array.size_push])]
  · rw [Array.getElem?_push, if_pos (by simp only [Array.size_push])]

/-- What the closure needs while EqualFunc goes on. -/
def Bk.SInv (S : Bl) (lv bw L k b1 b2 b3 : Nat) (w : World) (j : Nat) (W : World) : Prop :=
  Tk.But (fun x => x = bw) w W ∧ Bk.Sb bw (L + 1) b1 b2 b3 W ∧ ∃ left, Bk.Wy bw lv left W ∧ k ≤ left + Bl.sizes (S.ks.take j) ∧ left ≤ k
theorem Bl.sizes_take_le (l : List Bl) (j : Nat) : Bl.sizes (l.take j) ≤ Bl.sizes l := Bl.sizes_le l j

set_option maxRecDepth 20000 in
set_option maxHeartbeats 8000000 in
theorem Tryd.bsame_any (lv bw B : Nat) (_hB : 0 < B) (hbw : B ≤ bw) : ∀ (d d' L : Nat) (S T : Bl) (u lu v lv' : Value) (left : Nat) (w : World), Bl.Lies w B d u lu S → Bl.Lies w B d' v lv' T → B ≤ w.heap.size → Bk.Wy bw lv left w → S.size ≤ left → left ≤ 2147483647 → S.depth ≤ L → L ≤ 1000 → S.allP (fun _ _ _ ls => decide (ls.length ≤ 2147483647)) = true →
    Calls Tryd.prog 31 #[.pointer (some ⟨bw, 0, none⟩), .agg #[.int .i64 S.kind, .int .i64 S.node, .int .i64 S.arg, u, lu], .agg #[.int .i64 T.kind, .int .i64 T.node, .int .i64 T.arg, v, lv'], .int .i64 L, .func (.func 22) #[] #[]] w (Bk.SameEnd S T lv left bw w) := by
  intro d
  induction d with
  | zero => intro d' L S T u lu v lv' left w h; exact h.elim
  | succ d ih =>
    intro d' L S T u lu v lv' left w hS hT hBs hW hsz hleft hdp hL hlk
    cases d' with
    | zero => exact hT.elim
    | succ d' =>
    obtain ⟨a, ca, rfl⟩ := hS.shape
    obtain ⟨b, cb, rfl⟩ := hT.shape
    obtain ⟨al, cal, rfl⟩ := hS.links.shape
    obtain ⟨bl, cbl, rfl⟩ := hT.links.shape
    obtain ⟨L, rfl⟩ : ∃ l, L = l + 1 := ⟨L - 1, by have := S.depth_eq; omega⟩
    obtain ⟨k, rfl⟩ : ∃ k, left = k + 1 := ⟨left - 1, by have := S.size_pos; omega⟩
    obtain ⟨x0, hx0⟩ : ∃ z, S.kind = z := ⟨_, rfl⟩
    obtain ⟨x1, hx1⟩ : ∃ z, S.node = z := ⟨_, rfl⟩
    obtain ⟨x2, hx2⟩ : ∃ z, S.arg = z := ⟨_, rfl⟩
    obtain ⟨y0, hy0⟩ : ∃ z, T.kind = z := ⟨_, rfl⟩
    obtain ⟨y1, hy1⟩ : ∃ z, T.node = z := ⟨_, rfl⟩
    obtain ⟨y2, hy2⟩ : ∃ z, T.arg = z := ⟨_, rfl⟩
    obtain ⟨nl, hnl⟩ : ∃ n, S.ls.length = n := ⟨_, rfl⟩
    obtain ⟨ml, hml⟩ : ∃ n, T.ls.length = n := ⟨_, rfl⟩
    obtain ⟨n, hn⟩ : ∃ n, S.ks.length = n := ⟨_, rfl⟩
    obtain ⟨m, hm⟩ : ∃ n, T.ks.length = n := ⟨_, rfl⟩
    rw [hx0, hx1, hx2, hy0, hy1, hy2, hn, hm, hnl, hml]
    obtain ⟨w5, hw5⟩ : ∃ x, ((((w.alloc (.cells #[.pointer (some ⟨bw, 0, none⟩)] 75)).alloc (.cells #[.int .i64 x0, .int .i64 x1, .int .i64 x2, .slice a n ca, .slice al nl cal] 25)).alloc (.cells #[.int .i64 y0, .int .i64 y1, .int .i64 y2, .slice b m cb, .slice bl ml cbl] 25)).alloc (.cells #[.int .i64 ((L : Int) + 1)] 3)).alloc (.cells #[.func (.func 22) #[] #[]] 44) = x := ⟨_, rfl⟩
    have A5 : Below w.heap.size w w5 := by
      rw [← hw5]
      exact (((((Below.refl _ w).alloc (Nat.le_refl _) _).alloc (by simp) _).alloc (by simp; omega) _).alloc (by simp; omega) _).alloc (by simp; omega) _
    have hs5 : w5.heap.size = w.heap.size + 5 := by rw [← hw5]; simp
    have hwl := hW.lt
    have W5 : Bk.Wy bw lv (k + 1) w5 := hW.keep (A5.block bw hwl)
    obtain ⟨r1, r2, r3, r4, r5⟩ := Bk.alloc5 w (.cells #[.pointer (some ⟨bw, 0, none⟩)] 75) (.cells #[.int .i64 x0, .int .i64 x1, .int .i64 x2, .slice a n ca, .slice al nl cal] 25) (.cells #[.int .i64 y0, .int .i64 y1, .int .i64 y2, .slice b m cb, .slice bl ml cbl] 25) (.cells #[.int .i64 ((L : Int) + 1)] 3) (.cells #[.func (.func 22) #[] #[]] 44)
    rw [hw5] at r1 r2 r3 r4 r5
    have S5 : Bk.Sb bw (L + 1) w.heap.size (w.heap.size + 3) (w.heap.size + 4) w5 := ⟨r1, by rw [r4]; simp, r5⟩
    have CF : Hid (∀ W, Tk.But (fun x => x = bw) w5 W → Bk.Sb bw (L + 1) w.heap.size (w.heap.size + 3) (w.heap.size + 4) W ∧ W.cell? ⟨w.heap.size + 1, 0, none⟩ = some (.int .i64 x0) ∧ W.cell? ⟨w.heap.size + 1, 1, none⟩ = some (.int .i64 x1) ∧ W.cell? ⟨w.heap.size + 1, 2, none⟩ = some (.int .i64 x2) ∧ W.cell? ⟨w.heap.size + 1, 3, none⟩ = some (.slice a n ca) ∧ W.cell? ⟨w.heap.size + 1, 4, none⟩ = some (.slice al nl cal) ∧
        W.cell? ⟨w.heap.size + 2, 0, none⟩ = some (.int .i64 y0) ∧ W.cell? ⟨w.heap.size + 2, 1, none⟩ = some (.int .i64 y1) ∧ W.cell? ⟨w.heap.size + 2, 2, none⟩ = some (.int .i64 y2) ∧ W.cell? ⟨w.heap.size + 2, 3, none⟩ = some (.slice b m cb) ∧ W.cell? ⟨w.heap.size + 2, 4, none⟩ = some (.slice bl ml cbl)) := by
      intro W hb
      have e1 := (hb.block (w.heap.size + 1) (by omega) (by omega)).trans r2
      have e2 := (hb.block (w.heap.size + 2) (by omega) (by omega)).trans r3
      exact ⟨S5.keep (hb.block _ (by omega) (by omega)) (hb.block _ (by omega) (by omega)) (hb.block _ (by omega) (by omega)), by simp [World.cell?, e1], by simp [World.cell?, e1], by simp [World.cell?, e1], by simp [World.cell?, e1], by simp [World.cell?, e1], by simp [World.cell?, e2], by simp [World.cell?, e2], by simp [World.cell?, e2], by simp [World.cell?, e2], by simp [World.cell?, e2]⟩
    have HW5 : Hid (((((w.alloc (.cells #[.pointer (some ⟨bw, 0, none⟩)] 75)).alloc (.cells #[.int .i64 x0, .int .i64 x1, .int .i64 x2, .slice a n ca, .slice al nl cal] 25)).alloc (.cells #[.int .i64 y0, .int .i64 y1, .int .i64 y2, .slice b m cb, .slice bl ml cbl] 25)).alloc (.cells #[.int .i64 ((L : Int) + 1)] 3)).alloc (.cells #[.func (.func 22) #[] #[]] 44) = w5) := hw5
    have HX : Hid (Bl.Lies w B (d + 1) (.slice a n ca) (.slice al nl cal) S ∧ Bl.Lies w B (d' + 1) (.slice b m cb) (.slice bl ml cbl) T ∧ S.ks.length = n ∧ T.ks.length = m ∧ Below w.heap.size w w5) := ⟨by rw [← hn, ← hnl]; exact hS, by rw [← hm, ← hml]; exact hT, hn, hm, A5⟩
    have HE0 : Hid (S.kind = x0 ∧ S.node = x1 ∧ S.arg = x2 ∧ T.kind = y0 ∧ T.node = y1 ∧ T.arg = y2 ∧ S.ls.length = nl ∧ T.ls.length = ml ∧ S.ls.length ≤ 2147483647 ∧ Bl.allPs (fun _ _ _ ls => decide (ls.length ≤ 2147483647)) S.ks = true) := by
      have h := hlk
      rw [S.allP_eq, Bool.and_eq_true, decide_eq_true_iff] at h
      exact ⟨hx0, hx1, hx2, hy0, hy1, hy2, hnl, hml, h.1, h.2⟩
    have HN : Hid (B ≤ w.heap.size ∧ S.size ≤ k + 1 ∧ k + 1 ≤ 2147483647 ∧ S.depth ≤ L + 1 ∧ L + 1 ≤ 1000 ∧ bw < w.heap.size ∧ w5.heap.size = w.heap.size + 5) := ⟨hBs, hsz, hleft, hdp, hL, hwl, hs5⟩
    have HI : Hid _ := ih
    have hk2 : k ≤ 2147483647 := by omega
    have hLb : L ≤ 1000 := by omega
    clear ih hS hT hBs hW hsz hleft hdp hL hx0 hx1 hx2 hy0 hy1 hy2 hn hm hnl hml hlk hw5 A5 r1 r2 r3 r4 r5 S5 hs5 hwl
    go_enter Tryd.func31, Tryd.ntmps31
    go_wp2_with fail
    rw [HW5.out]
    refine (Tryd.benter_yes bw lv k L _ W5 hk2).mono ?_
    rintro e W1 ⟨rfl, hw1⟩
    have X1 : Tk.But (fun x => x = bw) w5 W1 := by rw [hw1]; exact (Tk.But.refl _ _).setCell (E := fun x => x = bw) (p := ⟨bw, 2, none⟩) rfl _
    have W1k : Hid (Bk.Wy bw lv k W1) := by show Bk.Wy _ _ _ _; rw [hw1]; exact W5.put k
    obtain ⟨sb, a0, a1, a2, a3, a4, b0, b1, b2, b3, b4⟩ := CF.out W1 X1
    have k3 := sb.c3
    have HX1 : Hid _ := X1
    have XW1 : Tk.But (fun x => x = bw) w W1 := (Tk.But.of_below HX.out.2.2.2.2).trans X1
    have hlb : ∀ i, i < B → ¬ i = bw := fun i hi => by omega
    have h := Tryd.balike_any x0 x1 x2 y0 y1 y2 a b n ca m cb S.ls T.ls al bl cal cbl B W1
      (by rw [HE0.out.2.2.2.2.2.2.1]; exact HX.out.1.links.keep fun i hi => XW1.block i (by have := HN.out; omega) (hlb i hi))
      (by rw [HE0.out.2.2.2.2.2.2.2.1]; exact HX.out.2.1.links.keep fun i hi => XW1.block i (by have := HN.out; omega) (hlb i hi)) (by have := XW1.size; have := HN.out; omega) HE0.out.2.2.2.2.2.2.2.2.1
    rw [HE0.out.2.2.2.2.2.2.1, HE0.out.2.2.2.2.2.2.2.1] at h
    have CA : Hid _ := h
    clear h XW1 hlb
    clear hw1 W5 X1 sb
    go_wp2_with fail
    refine Calls.mono CA.out ?_
    rintro e W2 ⟨⟨r, rfl, hr⟩, hb2⟩
    have HR : Hid (r = true ↔ (x0 = y0 ∧ x1 = y1 ∧ x2 = y2 ∧ S.ls = T.ls)) := hr
    have X2 : Hid (Tk.But (fun x => x = bw) w5 W2) := HX1.out.trans (Tk.But.of_below hb2)
    have W2k : Hid (Bk.Wy bw lv k W2) := W1k.out.keep (hb2.block bw W1k.out.lt)
    have XW : Hid (Tk.But (fun x => x = bw) w W2) := (Tk.But.of_below HX.out.2.2.2.2).trans X2.out
    clear hb2 hr a0 a1 a2 a3 a4 b0 b1 b2 b3 b4 k3 HX1 W1k CA
    cases r
    · go_wp2
      go_ret
      refine ⟨false, rfl, ⟨fun h => by simp at h, fun h => ?_⟩, XW.out, k, W2k.out, ?_, by omega⟩
      · subst h
        have e := HE0.out
        have h2 := HR.out.2 ⟨by rw [← e.1, e.2.2.2.1], by rw [← e.2.1, e.2.2.2.2.1], by rw [← e.2.2.1, e.2.2.2.2.2.1], rfl⟩
        simp at h2
      · have := S.size_pos
        omega
    · have HQ : Hid (x0 = y0 ∧ x1 = y1 ∧ x2 = y2 ∧ S.ls = T.ls) := HR.out.1 rfl
      clear HR
      have CK : Hid (∀ W o n q a l c p i f, Below W2.heap.size W2 W → Calls Tryd.prog 32 #[.agg #[.int .i64 o, .int .i64 n, .int .i64 q, .slice a l c, .slice p i f]] W fun e w' => e = .returned (.slice a l c) ∧ Hid (Below W2.heap.size W2 w')) := fun W o n q a l c p i f hb =>
        (Tryd.bkids_any o n q a l c p i f W).mono fun _ _ h => ⟨h.1, hb.trans (h.2.mono hb.size)⟩
      obtain ⟨CS, hCS⟩ : ∃ CS : World → Prop, CS = fun V => (V.cell? ⟨w.heap.size, 0, none⟩ = some (.pointer (some ⟨bw, 0, none⟩)) ∧ V.cell? ⟨bw, 0, none⟩ = some (.func (.func 32) #[] #[])) ∧ V.cell? ⟨w.heap.size + 1, 0, none⟩ = some (.int .i64 x0) ∧ V.cell? ⟨w.heap.size + 1, 1, none⟩ = some (.int .i64 x1) ∧ V.cell? ⟨w.heap.size + 1, 2, none⟩ = some (.int .i64 x2) ∧ V.cell? ⟨w.heap.size + 1, 3, none⟩ = some (.slice a n ca) ∧ V.cell? ⟨w.heap.size + 1, 4, none⟩ = some (.slice al nl cal) ∧ V.cell? ⟨w.heap.size + 2, 0, none⟩ = some (.int .i64 y0) ∧ V.cell? ⟨w.heap.size + 2, 1, none⟩ = some (.int .i64 y1) ∧ V.cell? ⟨w.heap.size + 2, 2, none⟩ = some (.int .i64 y2) ∧ V.cell? ⟨w.heap.size + 2, 3, none⟩ = some (.slice b m cb) ∧ V.cell? ⟨w.heap.size + 2, 4, none⟩ = some (.slice bl ml cbl) := ⟨_, rfl⟩
      have CE : Hid (∀ W, Below W2.heap.size W2 W → Calls Tryd.prog 39 #[.slice a n ca, .slice b m cb, .func (.func 40) #[] #[.pointer (some ⟨w.heap.size, 0, none⟩), .pointer (some ⟨w.heap.size + 3, 0, none⟩), .pointer (some ⟨w.heap.size + 4, 0, none⟩)]] W fun e w' => ∃ r, e = .returned (.bool r) ∧ Hid ((r = true ↔ S.ks = T.ks) ∧ Tk.But (fun x => x = bw) w w' ∧ (∃ left', Bk.Wy bw lv left' w' ∧ k + 1 ≤ left' + S.size ∧ left' ≤ k + 1) ∧ CS w')) := by
        intro W hb
        have XWW : Tk.But (fun x => x = bw) W2 W := Tk.But.of_below hb
        have hz2 := X2.out.size
        have XW0 := XW.out.trans XWW
        have hlb : ∀ i, i < B → ¬ i = bw := fun i hi => by omega
        have LS : Bl.Lies W B (d + 1) (.slice a S.ks.length ca) (.slice al nl cal) S := by rw [HX.out.2.2.1]; exact HX.out.1.keep fun i hi => XW0.block i (by have := HN.out; omega) (hlb i hi)
        have LT : Bl.Lies W B (d' + 1) (.slice b T.ks.length cb) (.slice bl ml cbl) T := by rw [HX.out.2.2.2.1]; exact HX.out.2.1.keep fun i hi => XW0.block i (by have := HN.out; omega) (hlb i hi)
        have hSb := (CF.out W (X2.out.trans (Tk.But.of_below hb))).1
        have h := Tryd.bequalFunc_any (g := 40) (lb := #[.pointer (some ⟨w.heap.size, 0, none⟩), .pointer (some ⟨w.heap.size + 3, 0, none⟩), .pointer (some ⟨w.heap.size + 4, 0, none⟩)]) (enters_of Tryd.func40 (by kernel_rfl) rfl) S T a b ca cb B d d' _ _ W (Bk.SInv S lv bw L k w.heap.size (w.heap.size + 3) (w.heap.size + 4) W2) LS LT
          ⟨XWW, hSb, k, W2k.out.keep (hb.block bw W2k.out.lt), by omega, Nat.le_refl _⟩
          (fun j V hV i hi => by
            rw [hV.1.block i (by have := HN.out; omega) (hlb i hi)]
            exact (XWW.block i (by have := HN.out; omega) (hlb i hi)).symm)
          (fun j V o hV => by
            obtain ⟨h1, h2, l, h3, h4⟩ := hV
            have hz := h2.lt
            exact ⟨h1.alloc o, h2.keep (Below.heap_alloc _ _ _ hz.1) (Below.heap_alloc _ _ _ hz.2.1) (Below.heap_alloc _ _ _ hz.2.2), l, h3.keep (Below.heap_alloc _ _ _ h3.lt), h4⟩)
          (fun j V hV => by
            obtain ⟨h1, h2, l, h3, h4⟩ := hV
            exact ⟨h1.drewN 1, h2.keep rfl rfl rfl, l, h3.keep rfl, h4⟩)
          (by have h1 := Bl.length_le_sizes S.ks; have h2 := S.size_eq; have := HN.out; omega)
          (fun j hx hy V u lu v lv' hV hu hv => by
            obtain ⟨h1, h2, l, h3, h4, h5⟩ := hV
            have hsx := Bl.sizes_get S.ks j hx
            have hse := S.size_eq
            have hdx := Bl.depths_get S.ks j hx
            have hde := S.depth_eq
            have hbase : ∀ i, i < B → V.heap[i]? = W.heap[i]? := fun i hi => by
              rw [h1.block i (by have := HN.out; omega) (hlb i hi)]
              exact (XWW.block i (by have := HN.out; omega) (hlb i hi)).symm
            have hq := Tryd.bsame1_any bw lv L w.heap.size (w.heap.size + 3) (w.heap.size + 4) S.ks[j] T.ks[j] u lu v lv' l V h2 (by omega)
              (fun V' hb' => HI.out d' L S.ks[j] T.ks[j] u lu v lv' l V' ((hu.keep hbase).keep fun i hi => hb'.block i (by have := h1.size; have := HN.out; omega)) ((hv.keep hbase).keep fun i hi => hb'.block i (by have := h1.size; have := HN.out; omega)) (by have := h1.size; have := hb'.size; have := HN.out; omega)
                (h3.keep (hb'.block bw h3.lt)) (by have := HN.out; omega) (by have := HN.out; omega) (by have := HN.out; omega) hLb (Bl.allPs_get _ S.ks HE0.out.2.2.2.2.2.2.2.2.2 j hx)) h3.lt
              (by obtain ⟨p, q, e⟩ := hu.shape; exact ⟨p, _, q, e⟩) (by obtain ⟨p, q, e⟩ := hv.shape; exact ⟨p, _, q, e⟩) (by obtain ⟨p, q, e⟩ := hu.links.shape; exact ⟨p, _, q, e⟩) (by obtain ⟨p, q, e⟩ := hv.links.shape; exact ⟨p, _, q, e⟩)
            refine hq.mono ?_
            rintro e V' ⟨r, rfl, hr, hbt, l', h6, h7, h8⟩
            have hz := h2.lt
            have hne : bw < w.heap.size := HN.out.2.2.2.2.2.1
            refine ⟨r, rfl, hr, h1.trans hbt, h2.keep (hbt.block _ hz.1 (by omega)) (hbt.block _ hz.2.1 (by omega)) (hbt.block _ hz.2.2 (by omega)), l', h6, ?_, by omega⟩
            rw [Bl.sizes_take _ _ hx]
            omega)
        rw [HX.out.2.2.1, HX.out.2.2.2.1] at h
        refine h.mono ?_
        rintro e V ⟨r, rfl, hr, j, h1, h2, l, h3, h4, h5⟩
        have hcf := CF.out V (X2.out.trans h1)
        refine ⟨r, rfl, hr, XW.out.trans h1, ⟨l, h3, ?_, by omega⟩, by rw [hCS]; exact ⟨⟨hcf.1.c1, h3.c0⟩, hcf.2⟩⟩
        have := Bl.sizes_le S.ks j
        have := S.size_eq
        omega
      have BR : Hid (Below W2.heap.size W2 W2) := Below.refl _ _
      obtain ⟨sb, a0, a1, a2, a3, a4, b0, b1, b2, b3, b4⟩ := CF.out W2 X2.out
      have k1 := sb.c1
      have kw := W2k.out.c0
      have CFB : Hid (∀ W, Below W2.heap.size W2 W → CS W) := fun W hb => by
        rw [hCS]
        have h := CF.out W (X2.out.trans (Tk.But.of_below hb))
        exact ⟨⟨h.1.c1, (W2k.out.keep (hb.block bw W2k.out.lt)).c0⟩, h.2⟩
      have HEQ : Hid (S.ks = T.ks ↔ S = T) := by
        have e := HE0.out
        have hq := HQ.out
        show _ ↔ _
        rw [Bl.eq_iff S T, e.1, e.2.1, e.2.2.1, e.2.2.2.1, e.2.2.2.2.1, e.2.2.2.2.2.1]
        exact ⟨fun h => ⟨hq, h⟩, fun h => h.2⟩
      clear sb HI CF HX HE0 HQ HN HW5 XW X2 W2k
      subst hCS
      go_wp2_with fail
      go_region_held3 (fun V => (V.cell? ⟨w.heap.size, 0, none⟩ = some (.pointer (some ⟨bw, 0, none⟩)) ∧ V.cell? ⟨bw, 0, none⟩ = some (.func (.func 32) #[] #[])) ∧ V.cell? ⟨w.heap.size + 1, 0, none⟩ = some (.int .i64 x0) ∧ V.cell? ⟨w.heap.size + 1, 1, none⟩ = some (.int .i64 x1) ∧ V.cell? ⟨w.heap.size + 1, 2, none⟩ = some (.int .i64 x2) ∧ V.cell? ⟨w.heap.size + 1, 3, none⟩ = some (.slice a n ca) ∧ V.cell? ⟨w.heap.size + 1, 4, none⟩ = some (.slice al nl cal) ∧ V.cell? ⟨w.heap.size + 2, 0, none⟩ = some (.int .i64 y0) ∧ V.cell? ⟨w.heap.size + 2, 1, none⟩ = some (.int .i64 y1) ∧ V.cell? ⟨w.heap.size + 2, 2, none⟩ = some (.int .i64 y2) ∧ V.cell? ⟨w.heap.size + 2, 3, none⟩ = some (.slice b m cb) ∧ V.cell? ⟨w.heap.size + 2, 4, none⟩ = some (.slice bl ml cbl))
        (first | exact H4.out.2.2.2 | exact CFB.out _ B3.out | exact CFB.out _ BR.out.drew | exact CFB.out _ BR.out)
        (first
        | (go_simp; go_at_call 32; refine Calls.mono (CK.out _ _ _ _ _ _ _ _ _ _ ?_) ?_; (first | exact B3.out | exact B3.out.drew | exact Tk.below_drewN B3.out _ | exact BR.out | exact BR.out.drew | exact Tk.below_drewN BR.out _); rintro e W3 ⟨rfl, B3⟩)
        | (go_simp; go_at_call 39; refine Calls.mono (CE.out _ ?_) ?_; (first | exact B3.out | exact B3.out.drew | exact Tk.below_drewN B3.out _); rintro e W4 ⟨r, rfl, H4⟩))
      all_goals
        clear CK CE CFB BR
        go_simp
        go_wp2
        go_ret
        refine ⟨r, rfl, H4.out.1.trans HEQ.out, ?_, H4.out.2.2.1⟩
        first | exact H4.out.2.1 | exact H4.out.2.1.drewN 1

end Go.Proofs
