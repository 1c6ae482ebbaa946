/-
  nest.Same at blocks, and block.Same.
-/
import Derived.Test.YtimmgchapcbgfaaDoorBlSame2
namespace Go.Proofs
open Go.RowKit Go.Shelf

set_option maxRecDepth 20000 in
set_option maxHeartbeats 4000000 in
theorem Tryd.bnestSame_any (d d' B : Nat) (S T : Bl) (u lu v lv : Value) (w : World) (hS : Bl.Lies w B d u lu S) (hT : Bl.Lies w B d' v lv T) (hB : 0 < B) (hBs : B ≤ w.heap.size) (hsz : S.size ≤ 2147483647) (hdp : S.depth ≤ 1000) (hlk : S.allP (fun _ _ _ ls => decide (ls.length ≤ 2147483647)) = true) :
    Calls Tryd.prog 20 #[.agg #[.func (.func 32) #[] #[], .int .i64 1000, .int .i64 2147483647], .agg #[.int .i64 S.kind, .int .i64 S.node, .int .i64 S.arg, u, lu], .agg #[.int .i64 T.kind, .int .i64 T.node, .int .i64 T.arg, v, lv], .func (.func 22) #[] #[]] w fun e w' =>
      (∃ r, e = .returned (.bool r) ∧ (r = true ↔ S = T)) ∧ Below w.heap.size w w' := by
  obtain ⟨a, ca, rfl⟩ := hS.shape
  obtain ⟨b, cb, rfl⟩ := hT.shape
  obtain ⟨al, cal, rfl⟩ := hS.links.shape
  obtain ⟨bl, cbl, rfl⟩ := hT.links.shape
  obtain ⟨x0, hx0⟩ : ∃ z, S.kind = z := ⟨_, rfl⟩
  obtain ⟨x1, hx1⟩ : ∃ z, S.node = z := ⟨_, rfl⟩
  obtain ⟨x2, hx2⟩ : ∃ z, S.arg = z := ⟨_, rfl⟩
  obtain ⟨y0, hy0⟩ : ∃ z, T.kind = z := ⟨_, rfl⟩
  obtain ⟨y1, hy1⟩ : ∃ z, T.node = z := ⟨_, rfl⟩
  obtain ⟨y2, hy2⟩ : ∃ z, T.arg = z := ⟨_, rfl⟩
  obtain ⟨nl, hnl⟩ : ∃ n, S.ls.length = n := ⟨_, rfl⟩
  obtain ⟨ml, hml⟩ : ∃ n, T.ls.length = n := ⟨_, rfl⟩
  obtain ⟨n, hn⟩ : ∃ n, S.ks.length = n := ⟨_, rfl⟩
  obtain ⟨m, hm⟩ : ∃ n, T.ks.length = n := ⟨_, rfl⟩
  rw [hx0, hx1, hx2, hy0, hy1, hy2, hn, hm, hnl, hml]
  rw [hn, hnl] at hS
  rw [hm, hml] at hT
  obtain ⟨w1, hw1⟩ : ∃ x, ((w.alloc (.cells #[.func (.func 32) #[] #[], .int .i64 1000, .int .i64 2147483647] 56)).alloc (.cells #[.int .i64 x0, .int .i64 x1, .int .i64 x2, .slice a n ca, .slice al nl cal] 25)).alloc (.cells #[.int .i64 y0, .int .i64 y1, .int .i64 y2, .slice b m cb, .slice bl ml cbl] 25) = x := ⟨_, rfl⟩
  have A1 : Below w.heap.size w w1 := by rw [← hw1]; exact (((Below.refl _ w).alloc (Nat.le_refl _) _).alloc (by simp) _).alloc (by simp; omega) _
  have hWy : Bk.Wy w.heap.size 1000 2147483647 w1 := by
    rw [← hw1]
    exact Bk.Wy.keep (Bk.Wy.keep (heap_alloc_new w _) (Below.heap_alloc _ _ _ (by simp))) (Below.heap_alloc _ _ _ (by simp; omega))
  have hcall := Tryd.bsame_any 1000 w.heap.size B hB hBs d d' 1000 S T (.slice a n ca) (.slice al nl cal) (.slice b m cb) (.slice bl ml cbl) 2147483647 w1 (hS.below (A1.mono hBs)) (hT.below (A1.mono hBs)) (Nat.le_trans hBs A1.size) hWy hsz (Nat.le_refl _) hdp (Nat.le_refl _) hlk
  rw [hx0, hx1, hx2, hy0, hy1, hy2] at hcall
  have HC : Hid _ := hcall
  have HA : Hid (Below w.heap.size w w1) := A1
  have H1 : Hid (((w.alloc (.cells #[.func (.func 32) #[] #[], .int .i64 1000, .int .i64 2147483647] 56)).alloc (.cells #[.int .i64 x0, .int .i64 x1, .int .i64 x2, .slice a n ca, .slice al nl cal] 25)).alloc (.cells #[.int .i64 y0, .int .i64 y1, .int .i64 y2, .slice b m cb, .slice bl ml cbl] 25) = w1) := hw1
  clear hcall A1 hS hT hx0 hx1 hx2 hy0 hy1 hy2 hn hm hnl hml hlk hw1 hWy
  go_enter Tryd.func20, Tryd.ntmps20
  go_wp2_with fail
  rw [H1.out]
  refine Calls.mono HC.out ?_
  rintro e W1 ⟨r, rfl, hr, hb, -⟩
  have X : Hid ((r = true ↔ S = T) ∧ Below w.heap.size w W1) := ⟨hr, HA.out.trans (hb.below HA.out.size (fun k hk => by omega))⟩
  clear hb hr
  go_wp2
  go_ret
  exact ⟨⟨r, rfl, X.out.1⟩, X.out.2⟩

set_option maxRecDepth 20000 in
set_option maxHeartbeats 4000000 in
theorem Tryd.blockSame_any (d d' : Nat) (S T : Bl) (u lu v lv : Value) (w : World) (hS : Bl.Lies w w.heap.size d u lu S) (hT : Bl.Lies w w.heap.size d' v lv T) (h0 : 0 < w.heap.size) (hsz : S.size ≤ 2147483647) (hdp : S.depth ≤ 1000) (hlk : S.allP (fun _ _ _ ls => decide (ls.length ≤ 2147483647)) = true) :
    Calls Tryd.prog 11 #[.agg #[.int .i64 S.kind, .int .i64 S.node, .int .i64 S.arg, u, lu], .agg #[.int .i64 T.kind, .int .i64 T.node, .int .i64 T.arg, v, lv]] w fun e w' =>
      (∃ r, e = .returned (.bool r) ∧ (r = true ↔ S = T)) ∧ Below w.heap.size w w' := by
  obtain ⟨a, ca, rfl⟩ := hS.shape
  obtain ⟨b, cb, rfl⟩ := hT.shape
  obtain ⟨al, cal, rfl⟩ := hS.links.shape
  obtain ⟨bl, cbl, rfl⟩ := hT.links.shape
  obtain ⟨x0, hx0⟩ : ∃ z, S.kind = z := ⟨_, rfl⟩
  obtain ⟨x1, hx1⟩ : ∃ z, S.node = z := ⟨_, rfl⟩
  obtain ⟨x2, hx2⟩ : ∃ z, S.arg = z := ⟨_, rfl⟩
  obtain ⟨y0, hy0⟩ : ∃ z, T.kind = z := ⟨_, rfl⟩
  obtain ⟨y1, hy1⟩ : ∃ z, T.node = z := ⟨_, rfl⟩
  obtain ⟨y2, hy2⟩ : ∃ z, T.arg = z := ⟨_, rfl⟩
  obtain ⟨nl, hnl⟩ : ∃ n, S.ls.length = n := ⟨_, rfl⟩
  obtain ⟨ml, hml⟩ : ∃ n, T.ls.length = n := ⟨_, rfl⟩
  obtain ⟨n, hn⟩ : ∃ n, S.ks.length = n := ⟨_, rfl⟩
  obtain ⟨m, hm⟩ : ∃ n, T.ks.length = n := ⟨_, rfl⟩
  rw [hx0, hx1, hx2, hy0, hy1, hy2, hn, hm, hnl, hml]
  rw [hn, hnl] at hS
  rw [hm, hml] at hT
  obtain ⟨w1, hw1⟩ : ∃ x, (w.alloc (.cells #[.int .i64 x0, .int .i64 x1, .int .i64 x2, .slice a n ca, .slice al nl cal] 25)).alloc (.cells #[.int .i64 y0, .int .i64 y1, .int .i64 y2, .slice b m cb, .slice bl ml cbl] 25) = x := ⟨_, rfl⟩
  have hs1 : w1.heap.size = w.heap.size + 2 := by rw [← hw1]; simp
  have A1 : Below w.heap.size w w1 := by rw [← hw1]; exact ((Below.refl _ w).alloc (Nat.le_refl _) _).alloc (by simp) _
  have C0 : w1.heap[w.heap.size]? = some (.cells #[.int .i64 x0, .int .i64 x1, .int .i64 x2, .slice a n ca, .slice al nl cal] 25 (0, 0)) := by rw [← hw1, Below.heap_alloc _ _ _ (by simp)]; exact heap_alloc_new w _
  have C1 : w1.heap[w.heap.size + 1]? = some (.cells #[.int .i64 y0, .int .i64 y1, .int .i64 y2, .slice b m cb, .slice bl ml cbl] 25 (0, 0)) := by
    rw [← hw1]
    have := heap_alloc_new (w.alloc (.cells #[.int .i64 x0, .int .i64 x1, .int .i64 x2, .slice a n ca, .slice al nl cal] 25)) (.cells #[.int .i64 y0, .int .i64 y1, .int .i64 y2, .slice b m cb, .slice bl ml cbl] 25)
    simpa using this
  have CF : Hid (∀ W, Below w1.heap.size w1 W → W.cell? ⟨w.heap.size, 0, none⟩ = some (.int .i64 x0) ∧ W.cell? ⟨w.heap.size, 1, none⟩ = some (.int .i64 x1) ∧ W.cell? ⟨w.heap.size, 2, none⟩ = some (.int .i64 x2) ∧ W.cell? ⟨w.heap.size, 3, none⟩ = some (.slice a n ca) ∧ W.cell? ⟨w.heap.size, 4, none⟩ = some (.slice al nl cal) ∧ W.cell? ⟨w.heap.size + 1, 0, none⟩ = some (.int .i64 y0) ∧ W.cell? ⟨w.heap.size + 1, 1, none⟩ = some (.int .i64 y1) ∧ W.cell? ⟨w.heap.size + 1, 2, none⟩ = some (.int .i64 y2) ∧ W.cell? ⟨w.heap.size + 1, 3, none⟩ = some (.slice b m cb) ∧ W.cell? ⟨w.heap.size + 1, 4, none⟩ = some (.slice bl ml cbl)) := fun W hb => by
    have e1 := (hb.block w.heap.size (by omega)).trans C0
    have e2 := (hb.block (w.heap.size + 1) (by omega)).trans C1
    exact ⟨by simp [World.cell?, e1], by simp [World.cell?, e1], by simp [World.cell?, e1], by simp [World.cell?, e1], by simp [World.cell?, e1], by simp [World.cell?, e2], by simp [World.cell?, e2], by simp [World.cell?, e2], by simp [World.cell?, e2], by simp [World.cell?, e2]⟩
  have CW : Hid (∀ W, Below w1.heap.size w1 W → Calls Tryd.prog 21 #[.int .i64 1000, .int .i64 2147483647] W fun e w' => e = .returned (.agg #[.func (.func 32) #[] #[], .int .i64 1000, .int .i64 2147483647]) ∧ Hid (Below w1.heap.size w1 w')) := fun W hb =>
    (Tryd.bway_any 1000 2147483647 W).mono fun _ w' h => ⟨h.1, hb.trans (h.2.mono hb.size)⟩
  have CT : Hid (∀ W, Below w1.heap.size w1 W → Calls Tryd.prog 20 #[.agg #[.func (.func 32) #[] #[], .int .i64 1000, .int .i64 2147483647], .agg #[.int .i64 x0, .int .i64 x1, .int .i64 x2, .slice a n ca, .slice al nl cal], .agg #[.int .i64 y0, .int .i64 y1, .int .i64 y2, .slice b m cb, .slice bl ml cbl], .func (.func 22) #[] #[]] W fun e w' =>
      ∃ r, e = .returned (.bool r) ∧ Hid ((r = true ↔ S = T) ∧ Below w1.heap.size w1 w')) := fun W hb => by
    have h := Tryd.bnestSame_any d d' w.heap.size S T (.slice a n ca) (.slice al nl cal) (.slice b m cb) (.slice bl ml cbl) W ((hS.below A1).below (hb.mono (by omega))) ((hT.below A1).below (hb.mono (by omega))) h0 (by have := hb.size; omega) hsz hdp hlk
    rw [hx0, hx1, hx2, hy0, hy1, hy2] at h
    exact h.mono fun _ w' h => by
      obtain ⟨⟨r, he, hr⟩, hb'⟩ := h
      exact ⟨r, he, hr, hb.trans (hb'.mono hb.size)⟩
  have H1 : Hid ((w.alloc (.cells #[.int .i64 x0, .int .i64 x1, .int .i64 x2, .slice a n ca, .slice al nl cal] 25)).alloc (.cells #[.int .i64 y0, .int .i64 y1, .int .i64 y2, .slice b m cb, .slice bl ml cbl] 25) = w1) := hw1
  have HA : Hid (Below w.heap.size w w1 ∧ w.heap.size ≤ w1.heap.size) := ⟨A1, by omega⟩
  have BR : Hid (Below w1.heap.size w1 w1) := Below.refl _ _
  clear A1 hS hT hx0 hx1 hx2 hy0 hy1 hy2 hn hm hnl hml hlk hw1 C0 C1 hs1
  go_enter Tryd.func11, Tryd.ntmps11
  go_upto_region 1 with fail
  rw [H1.out]
  go_region_held3 (fun W => W.cell? ⟨w.heap.size, 0, none⟩ = some (.int .i64 x0) ∧ W.cell? ⟨w.heap.size, 1, none⟩ = some (.int .i64 x1) ∧ W.cell? ⟨w.heap.size, 2, none⟩ = some (.int .i64 x2) ∧ W.cell? ⟨w.heap.size, 3, none⟩ = some (.slice a n ca) ∧ W.cell? ⟨w.heap.size, 4, none⟩ = some (.slice al nl cal) ∧ W.cell? ⟨w.heap.size + 1, 0, none⟩ = some (.int .i64 y0) ∧ W.cell? ⟨w.heap.size + 1, 1, none⟩ = some (.int .i64 y1) ∧ W.cell? ⟨w.heap.size + 1, 2, none⟩ = some (.int .i64 y2) ∧ W.cell? ⟨w.heap.size + 1, 3, none⟩ = some (.slice b m cb) ∧ W.cell? ⟨w.heap.size + 1, 4, none⟩ = some (.slice bl ml cbl))
    (first | exact CF.out _ H4.out.2 | exact CF.out _ B3.out | exact CF.out _ BR.out.drew | exact CF.out _ BR.out)
    (first
    | (go_simp; go_at_call 21; refine Calls.mono (CW.out _ ?_) ?_; (first | exact BR.out | exact BR.out.drew | exact Tk.below_drewN BR.out _); rintro e W3 ⟨rfl, B3⟩)
    | (go_simp; go_at_call 20; refine Calls.mono (CT.out _ ?_) ?_; (first | exact B3.out | exact B3.out.drew | exact Tk.below_drewN B3.out _); rintro e W4 ⟨r, rfl, H4⟩))
  all_goals
    clear CW CT BR
    go_simp
    go_wp2
    go_ret
    exact ⟨⟨r, rfl, H4.out.1⟩, HA.out.1.trans (H4.out.2.mono HA.out.2)⟩

end Go.Proofs
