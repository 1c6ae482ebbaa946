import Derived.Test.YtdghjgiakblfmaaGreatDoorRDdFinish
namespace Go.Proofs
open Go.RowKit Go.Shelf
def Dd.startR (wb : Bool) (ls kk : List (Int × Int)) : List Int × Int := if wb = true then (Dd.start ls kk, 0) else (Dd.zeros, 4)
set_option maxRecDepth 20000 in
set_option maxHeartbeats 16000000 in
theorem Tryz.deadStart_any (x0 x1 x2 x3 x4 x5 x6 x7 x10 x11 : Value) (ka la : Option Addr) (n kc m lc : Nat) (ls kk : List (Int × Int)) (wb : Bool) (w : World) (hL : Ac.Lks w w.heap.size la ls) (hK : Dd.Kds w w.heap.size ka kk) (hm : ls.length = m) (hn : kk.length = n) (hW : wb = true → Dd.Web ls kk)
   (CW0 : ∀ W, Below w.heap.size w W → Calls Tryz.prog 26 #[.agg #[x0, x1, x2, x3, x4, x5, x6, x7, .slice ka n kc, .slice la m lc, x10, x11]] W fun e w' => e = .returned (.bool wb) ∧ Below W.heap.size W w') :
   Calls Tryz.prog 11 #[.agg #[x0, x1, x2, x3, x4, x5, x6, x7, .slice ka n kc, .slice la m lc, x10, x11]] w fun e w' => e = .returned (Dd.two (Dd.startR wb ls kk)) ∧ Below w.heap.size w w' := by
 obtain ⟨w1, hw1⟩ : ∃ z, (w.alloc (.cells #[x0, x1, x2, x3, x4, x5, x6, x7, .slice ka n kc, .slice la m lc, x10, x11] 32)).alloc (.cells Tryz.zeroCells41 41) = z := ⟨_, rfl⟩
 have h0 : Dd.Bx (w.alloc (.cells #[x0, x1, x2, x3, x4, x5, x6, x7, .slice ka n kc, .slice la m lc, x10, x11] 32)) w.heap.size #[x0, x1, x2, x3, x4, x5, x6, x7, .slice ka n kc, .slice la m lc, x10, x11] := heap_alloc_new w _
 have h1 := Dd.At.new (w.alloc (.cells #[x0, x1, x2, x3, x4, x5, x6, x7, .slice ka n kc, .slice la m lc, x10, x11] 32)) Dd.zeros_length
 rw [show (w.alloc (.cells #[x0, x1, x2, x3, x4, x5, x6, x7, .slice ka n kc, .slice la m lc, x10, x11] 32)).heap.size = w.heap.size + 1 by simp, ← Dd.zero_row, hw1] at h1
 have h2 : Dd.Bx w1 w.heap.size #[x0, x1, x2, x3, x4, x5, x6, x7, .slice ka n kc, .slice la m lc, x10, x11] := by rw [← hw1]; exact h0.keep (Below.heap_alloc _ _ _ h0.lt)
 have B1 : Below w.heap.size w w1 := by rw [← hw1]; exact ((Below.refl _ w).alloc (Nat.le_refl _) _).alloc (by simp) _
 have H1 : Hid _ := hw1
 have CW : Hid _ := CW0 w1 B1
 have HF : Hid (∀ W, Below w1.heap.size w1 W → Dd.Bx W w.heap.size #[x0, x1, x2, x3, x4, x5, x6, x7, .slice ka n kc, .slice la m lc, x10, x11] ∧ Dd.At W (w.heap.size + 1) Dd.zeros ∧ Below w.heap.size w W) := fun W hb => ⟨h2.below hb h2.lt, h1.below hb h1.lt, B1.trans (hb.mono B1.size)⟩
 have HB : Hid (Ac.Lks w w.heap.size la ls ∧ Dd.Kds w w.heap.size ka kk ∧ ls.length = m ∧ kk.length = n) := ⟨hL, hK, hm, hn⟩
 have NA := h2
 unfold Dd.Bx at NA
 have ha := Tryz.underlying32
 have hu := Tryz.underlying41
 have ia : (Tryz.prog.info? 32).map (·.size) = some (#[x0, x1, x2, x3, x4, x5, x6, x7, .slice ka n kc, .slice la m lc, x10, x11] : Array Value).size := Dd.info_act
 have zl : (Tryz.prog.info? 41).map (·.size) = some (Dd.row Dd.zeros).size := Dd.info_row Dd.zeros_length
 have zo := Dd.row_one Dd.zeros
 have HZ : Hid (Tryz.zeroCells41 = Dd.row Dd.zeros) := Dd.zero_row
 clear hL hK hm hn hw1 h0 h1 h2 B1 CW0
 cases wb with
 | false =>
   have HQ : Hid (Dd.startR false ls kk = (Dd.zeros, 4)) := rfl
   clear hW
   go_enter Tryz.func11, Tryz.ntmps11
   go_upto_region 1 with fail
   rw [H1.out]
   go_wp2_with (refine wpList_load_row rfl 32 _ rfl _ rfl 32 _ (0, 0) _ NA ha rfl ia ?_)
   refine Calls.mono CW.out ?_
   rintro e W2 ⟨rfl, hb2⟩
   have NRz := (HF.out W2 hb2).2.1.h
   rw [← HZ.out] at NRz zl zo
   have HX : Hid (Below w.heap.size w W2) := (HF.out W2 hb2).2.2
   clear hb2 CW
   go_wp2_with (refine wpList_store_row rfl 41 _ _ rfl (w.heap.size + 1) Tryz.zeroCells41 rfl rfl 41 _ NRz zl rfl zo ?_)
   refine bodyPost_ret (Dd.results2 Tryz.results11 _ _ (w.heap.size + 1) Tryz.zeroCells41 rfl (run_loadVar_row _ (w.heap.size + 1) 41 41 Tryz.zeroCells41 (0, 0) _ (setRow_heap _ _ _ _ _ _ NRz) hu rfl zl)) rfl ⟨?_, Tk.below_row HX.out (by omega) _⟩
   rw [HQ.out, HZ.out]
   rfl
 | true =>
 have HW : Hid (Dd.Web ls kk) := hW rfl
 obtain ⟨s, hs⟩ : ∃ s, Dd.left ls Dd.zeros (-1) 1 = s := ⟨_, rfl⟩
 have hsl : s.length = 104 := by rw [← hs, Dd.left_length]; exact Dd.zeros_length
 obtain ⟨t, ht⟩ : ∃ t, Dd.settle ls kk s = t := ⟨_, rfl⟩
 have htl : t.length = 104 := by rw [← ht]; exact Dd.settle_length HW.out hsl
 have HQ2 : Hid (Dd.startR true ls kk = (t, 0)) := by
   show (Dd.start ls kk, (0 : Int)) = _
   unfold Dd.start
   rw [hs, ht]
 have CE : Hid (∀ W, Below w.heap.size w W → Calls Tryz.prog 28 #[.agg #[x0, x1, x2, x3, x4, x5, x6, x7, .slice ka n kc, .slice la m lc, x10, x11], .agg Tryz.zeroCells41, .int .i64 (-1), .int .i64 1] W fun e w' => e = .returned (.agg (Dd.row s)) ∧ Below W.heap.size W w') := fun W hb => by
   have h := Tryz.left_any x0 x1 x2 x3 x4 x5 x6 x7 (.slice ka n kc) x10 x11 la m lc ls Dd.zeros (-1) 1 W ((HB.out.1.keep hb.block).wider hb.size) Dd.zeros_length HB.out.2.2.1 (by have := HW.out.l40; have := HB.out.2.2.1; omega)
   rw [hs, ← Dd.zero_row] at h
   exact h
 have CS : Hid (∀ W, Below w.heap.size w W → Calls Tryz.prog 27 #[.agg #[x0, x1, x2, x3, x4, x5, x6, x7, .slice ka n kc, .slice la m lc, x10, x11], .agg (Dd.row s)] W fun e w' => e = .returned (.agg (Dd.row t)) ∧ Below W.heap.size W w') := fun W hb => by
   have h := Tryz.settle_any x0 x1 x2 x3 x4 x5 x6 x7 x10 x11 ka la n kc m lc ls kk s W ((HB.out.1.keep hb.block).wider hb.size) ((HB.out.2.1.keep hb.block).wider hb.size) hsl HB.out.2.2.1 HB.out.2.2.2 HW.out
   rw [ht] at h
   exact h
 have ial : (Tryz.prog.info? 32).map (·.size) = some ([x0, x1, x2, x3, x4, x5, x6, x7, .slice ka n kc, .slice la m lc, x10, x11] : List Value).length := ia
 have it := Dd.info_row htl
 have ot := Dd.row_one t
 have ez : (Dd.row Dd.zeros).size = (Dd.row t).size := by rw [Dd.row_size, Dd.row_size, htl, Dd.zeros_length]
 clear hs hsl ht htl
 go_enter Tryz.func11, Tryz.ntmps11
 go_upto_region 1 with fail
 rw [H1.out]
 go_wp2_with (refine wpList_load_row rfl 32 _ rfl _ rfl 32 _ (0, 0) _ NA ha rfl ia ?_)
 refine Calls.mono CW.out ?_
 rintro e W2 ⟨rfl, hb2⟩
 have HFd : Hid (Dd.Bx W2.drew w.heap.size #[x0, x1, x2, x3, x4, x5, x6, x7, .slice ka n kc, .slice la m lc, x10, x11] ∧ Dd.At W2.drew (w.heap.size + 1) Dd.zeros ∧ Below w.heap.size w W2.drew) := by
   have h := HF.out W2 hb2
   exact ⟨h.1, ⟨h.2.1.h, h.2.1.len⟩, h.2.2.drew⟩
 clear hb2 CW NA
 go_upto_region 3 with fail
 refine wp_region_held_drew (S := (fun V => V.rangeAt w.heap.size 0 [x0, x1, x2, x3, x4, x5, x6, x7, .slice ka n kc, .slice la m lc, x10, x11])) (by kernel_rfl) ?_ (fun hHeld => ?_)
 ·exact Dd.range_bx HFd.out.1
 refine Nt.takeS (v := .agg #[x0, x1, x2, x3, x4, x5, x6, x7, .slice ka n kc, .slice la m lc, x10, x11]) 0 8 rfl rfl (by kernel_rfl) (by kernel_rfl) (by kernel_rfl) (fun _ _ _ h => h) (yieldsIf_load_mid (by rfl) 32 _ rfl w.heap.size 0 rfl [x0, x1, x2, x3, x4, x5, x6, x7, .slice ka n kc, .slice la m lc, x10, x11] _ (fun _ hw => hw) ha rfl ial) hHeld ?_
 simp only [List.set_cons_succ, List.set_cons_zero]
 refine Nt.takeS (v := .agg #[x0, x1, x2, x3, x4, x5, x6, x7, .slice ka n kc, .slice la m lc, x10, x11]) 1 9 rfl rfl (by kernel_rfl) (by kernel_rfl) (by kernel_rfl) (fun _ _ _ h => h) (yieldsIf_load_mid (by rfl) 32 _ rfl w.heap.size 0 rfl [x0, x1, x2, x3, x4, x5, x6, x7, .slice ka n kc, .slice la m lc, x10, x11] _ (fun _ hw => hw) ha rfl ial) hHeld ?_
 simp only [List.set_cons_succ, List.set_cons_zero]
 refine Nt.takeS (v := ?va2) 2 10 rfl rfl (by kernel_rfl) (by kernel_rfl) (by kernel_rfl) (fun _ _ _ h => h) (Or.inl ⟨by rfl, ?ya2⟩) hHeld ?ra2
 case ya2 => (intro w hSw; (try dsimp only at hSw); go_simp; all_goals (with_reducible rfl))
 simp only [List.set_cons_succ, List.set_cons_zero]
 refine wpAnyH_ready (rs := [3]) (by kernel_rfl) (by simp) ?_
 refine AllReadyH.cons rfl (fun K hK => ?_) AllReadyH.nil
 go_simp
 go_at_call 28
 refine Calls.mono (CE.out _ HFd.out.2.2) ?_
 rintro e W5 ⟨rfl, hb5⟩
 have HF5 : Hid (Dd.Bx W5 w.heap.size #[x0, x1, x2, x3, x4, x5, x6, x7, .slice ka n kc, .slice la m lc, x10, x11] ∧ Dd.At W5 (w.heap.size + 1) Dd.zeros ∧ Below w.heap.size w W5) := ⟨HFd.out.1.below hb5 HFd.out.1.lt, HFd.out.2.1.below hb5 HFd.out.2.1.lt, HFd.out.2.2.trans (hb5.mono HFd.out.2.2.size)⟩
 clear hb5
 go_wp2_with fail
 refine hK.out _ _ ?_ (fun hH4 => ?_)
 ·exact Dd.range_bx HF5.out.1
 clear hK K
 first | refine Nt.normS 11 rfl ?_ | skip
 first | (simp only [List.set_cons_succ, List.set_cons_zero]) | (simp only [List.set_cons_zero]) | skip
 refine wpAnyH_ready (rs := [4]) (by kernel_rfl) (by simp) ?_
 refine AllReadyH.cons rfl (fun K hK => ?_) AllReadyH.nil
 go_simp
 go_at_call 27
 refine Calls.mono (CS.out _ HF5.out.2.2) ?_
 rintro e W6 ⟨rfl, hb6⟩
 have HF6 : Hid (Dd.Bx W6 w.heap.size #[x0, x1, x2, x3, x4, x5, x6, x7, .slice ka n kc, .slice la m lc, x10, x11] ∧ Dd.At W6 (w.heap.size + 1) Dd.zeros ∧ Below w.heap.size w W6) := ⟨HF5.out.1.below hb6 HF5.out.1.lt, HF5.out.2.1.below hb6 HF5.out.2.1.lt, HF5.out.2.2.trans (hb6.mono HF5.out.2.2.size)⟩
 clear hb6
 go_wp2_with fail
 refine hK.out _ _ ?_ (fun hH5 => ?_)
 ·exact Dd.range_bx HF6.out.1
 clear hK K
 first | refine Nt.normS 12 rfl ?_ | skip
 first | (simp only [List.set_cons_succ, List.set_cons_zero]) | (simp only [List.set_cons_zero]) | skip
 refine wpAnyH_ready (rs := [5]) (by kernel_rfl) (by simp) ?_
 refine AllReadyH.cons rfl (fun K hK => ?_) AllReadyH.nil
 have NR6 := HF6.out.2.1.h
 refine Dd.step_row rfl 41 _ _ rfl (w.heap.size + 1) (Dd.row t) rfl rfl 41 _ NR6 it ez ot ?_
 refine hK.out _ _ ?_ (fun hH6 => ?_)
 ·exact Dd.range_bx (HF6.out.1.keep (setRow_other _ _ _ _ (by omega)))
 clear hK K
 refine Nt.takeS (v := ?va7) 6 3 rfl rfl (by kernel_rfl) (by kernel_rfl) (by kernel_rfl) (fun _ _ _ h => h) (Or.inl ⟨by rfl, ?ya7⟩) hH6 ?ra7
 case ya7 => (intro w hSw; (try dsimp only at hSw); go_simp; all_goals (with_reducible rfl))
 simp only [List.set_cons_succ, List.set_cons_zero]
 refine wpAnyH_done (by kernel_rfl) ?_ _
 go_wp2_with fail
 have NR6 := HF6.out.2.1.h
 have HX : Hid (Below w.heap.size w W6) := HF6.out.2.2
 refine bodyPost_ret (Dd.results2 Tryz.results11 _ _ (w.heap.size + 1) (Dd.row t) rfl (run_loadVar_row _ (w.heap.size + 1) 41 41 (Dd.row t) (0, 0) _ (setRow_heap _ _ _ _ _ _ NR6) hu rfl it)) rfl ⟨?_, Tk.below_row HX.out (by omega) _⟩
 rw [HQ2.out]
 rfl
end Go.Proofs
namespace Go.Proofs
open Go.RowKit Go.Shelf
set_option maxHeartbeats 1600000 in
theorem Tryz.over1_any (x y : Int) (w : World) : Calls Tryz.prog 36 #[.agg #[.int .i64 x, .int .i64 y]] w fun e w' => e = .returned (.bool (decide (y = -1))) ∧ Below w.heap.size w w' := by
 have B0 : Hid (Below w.heap.size w (w.alloc (.cells #[.int .i64 x, .int .i64 y] 80))) := (Below.refl _ w).alloc (Nat.le_refl _) _
 by_cases h : y = -1
 ·subst h
  go_enter Tryz.func36, Tryz.ntmps36
  go_wp2
  go_ret
  exact ⟨rfl, B0.out⟩
 ·have e : (y == -1) = false := by simpa using h
  have HQ : Hid (decide (y = -1) = false) := decide_eq_false h
  clear h
  go_enter Tryz.func36, Tryz.ntmps36
  go_wp2
  go_ret
  rw [HQ.out]
  exact ⟨rfl, B0.out⟩
theorem Dd.last_none {ls : List (Int × Int)} (h : ∀ j (h : j < ls.length), ls[j].2 ≠ -1) : Dd.lastI ls = -1 := by
 unfold Dd.lastI
 rw [List.findIdx?_eq_none_iff.2]
 intro x hx
 obtain ⟨j, hj, rfl⟩ := List.mem_iff_getElem.1 hx
 exact decide_eq_false (h j hj)
theorem Dd.last_some {ls : List (Int × Int)} {k : Nat} (hk : k < ls.length) (h1 : ls[k].2 = -1) (h : ∀ j (_ : j < k) (h : j < ls.length), ls[j].2 ≠ -1) : Dd.lastI ls = k := by
 unfold Dd.lastI
 rw [(List.findIdx?_eq_some_iff_getElem (i := k)).2 ⟨hk, decide_eq_true h1, fun j hj => by simpa using h j hj (by omega)⟩]
set_option maxRecDepth 20000 in
set_option maxHeartbeats 4000000 in
theorem Tryz.linkIndex_any (la : Option Addr) (m lc : Nat) (ls : List (Int × Int)) (w : World) (hL : Ac.Lks w w.heap.size la ls) (hm : ls.length = m) (h40 : m ≤ 1000) :
  Calls Tryz.prog 35 #[.slice la m lc, .func (.func 36) #[] #[]] w fun e w' => e = .returned (.int .i64 (Dd.lastI ls)) ∧ Below w.heap.size w w' := by
 obtain ⟨R, hR⟩ : ∃ R, Dd.lastI ls = R := ⟨_, rfl⟩
 rw [hR]
 have HR : Hid (Dd.lastI ls = R) := hR
 have HL : Hid (Ac.Lks w w.heap.size la ls ∧ ls.length = m) := ⟨hL, hm⟩
 clear hL hm hR
 go_enter Tryz.func35, Tryz.ntmps35
 go_wp2
 go_loopg [5, 8] m (fun gk _ s8 wr => ∃ k : Nat, gk + k = m ∧ s8 = .int .i64 k ∧ Hid (Below w.heap.size w wr ∧ ∀ j (_ : j < k) (h : j < ls.length), ls[j].2 ≠ -1))
 case atStart => exact ⟨0, by omega, rfl, Below.refl _ w, fun j hj => by omega⟩
 case round =>
  obtain ⟨k, hk, rfl, HB⟩ := hrel
  by_cases hlt : k < m
  ·have hd : decide ((k : Int) < m) = true := decide_eq_true (by omega)
   have hkl : k < ls.length := by rw [HL.out.2]; exact hlt
   obtain ⟨q, off, rfl, hq, d0, d1⟩ := HL.out.1 k hkl
   obtain ⟨x, hx⟩ : ∃ x, ls[k] = x := ⟨_, rfl⟩
   obtain ⟨a, b⟩ := x
   rw [hx] at d0 d1
   have p0 : (0 : Int) ≤ k := by omega
   have p1 : (k : Int) < m := by omega
   have e0 : wr.cell? ⟨q, off + k * 2, none⟩ = some (.int .i64 a) := by rw [HB.out.1.cell (p := ⟨q, off + k * 2, none⟩) hq]; exact d0
   have e1 : wr.cell? ⟨q, off + k * 2 + 1, none⟩ = some (.int .i64 b) := by rw [HB.out.1.cell (p := ⟨q, off + k * 2 + 1, none⟩) hq]; exact d1
   have HX : Hid (ls[k] = (a, b)) := hx
   have HKL : Hid (k < ls.length) := hkl
   have hcall := Tryz.over1_any a b wr
   clear hq d0 d1
   by_cases hb : b = -1
   ·have hq : decide (b = -1) = true := decide_eq_true hb
    rw [hq] at hcall
    have HE : Hid (R = k) := by
     show _ = _
     rw [← HR.out]
     exact Dd.last_some HKL.out (by rw [HX.out]; exact hb) HB.out.2
    clear hq hb
    go_wp2_with (refine hcall.mono ?_; rintro e w1 ⟨rfl, hb1⟩)
    go_ret
    exact ⟨by rw [HE.out]; rfl, HB.out.1.trans (hb1.mono HB.out.1.size)⟩
   ·have hq : decide (b = -1) = false := decide_eq_false hb
    rw [hq] at hcall
    have HE : Hid (∀ j (_ : j < k + 1) (h : j < ls.length), ls[j].2 ≠ -1) := fun j hj hjl => by
     by_cases e : j = k
     ·subst e; rw [HX.out]; exact hb
     ·exact HB.out.2 j (by omega) hjl
    clear hq hb
    go_wp2_with (refine hcall.mono ?_; rintro e w1 ⟨rfl, hb1⟩)
    go_roundg (gk - 1)
    case measure => omega
    case rel => exact ⟨k + 1, by omega, by go_num, HB.out.1.trans (hb1.mono HB.out.1.size), HE.out⟩
  ·have hd : decide ((k : Int) < m) = false := decide_eq_false (by omega)
   have HE : Hid (R = -1) := by
    show _ = _
    rw [← HR.out]
    exact Dd.last_none fun j hj => HB.out.2 j (by rw [HL.out.2] at hj; omega) hj
   go_wp2
   go_ret
   exact ⟨by rw [HE.out]; rfl, HB.out.1⟩
set_option maxRecDepth 20000 in
set_option maxHeartbeats 16000000 in
theorem Tryz.deadOver_any (x0 x1 x2 x3 x4 x5 x6 x7 x10 x11 : Value) (ka la : Option Addr) (n kc m lc : Nat) (ls : List (Int × Int)) (l : List Int) (wb : Bool) (w : World) (hL : Ac.Lks w w.heap.size la ls) (hm : ls.length = m) (hl : l.length = 104) (h40 : wb = true → m ≤ 40 ∧ n ≤ 64) (hlast : wb = true → ∃ i : Nat, Dd.lastI ls = i ∧ i < 40)
  (CW0 : ∀ W, Below w.heap.size w W → Calls Tryz.prog 26 #[.agg #[x0, x1, x2, x3, x4, x5, x6, x7, .slice ka n kc, .slice la m lc, x10, x11]] W fun e w' => e = .returned (.bool wb) ∧ Below W.heap.size W w') :
  Calls Tryz.prog 21 #[.agg #[x0, x1, x2, x3, x4, x5, x6, x7, .slice ka n kc, .slice la m lc, x10, x11], .agg (Dd.row l)] w fun e w' => e = .returned (.bool (Dd.overB wb n ls l)) ∧ Below w.heap.size w w' := by
 obtain ⟨w1, hw1⟩ : ∃ z, (w.alloc (.cells #[x0, x1, x2, x3, x4, x5, x6, x7, .slice ka n kc, .slice la m lc, x10, x11] 32)).alloc (.cells (Dd.row l) 41) = z := ⟨_, rfl⟩
 have F1 := Dd.F2.new w #[x0, x1, x2, x3, x4, x5, x6, x7, .slice ka n kc, .slice la m lc, x10, x11] hl
 rw [hw1] at F1
 have H1 : Hid _ := hw1
 have CC : Hid _ := Tryz.deadCheck_any x0 x1 x2 x3 x4 x5 x6 x7 x10 x11 ka la n kc m lc l wb w1 hl h40 (fun W hb => CW0 W (F1.bel.trans (hb.mono F1.bel.size)))
 obtain ⟨c, hc⟩ : ∃ c, Dd.checkI wb n m l = c := ⟨_, rfl⟩
 obtain ⟨R, hR⟩ : ∃ R, Dd.overB wb n ls l = R := ⟨_, rfl⟩
 rw [hc] at CC
 rw [hR]
 have HR : Hid (R = if c ≠ 0 then false else decide (l.getD (Dd.lastI ls).toNat 0 = 1)) := by
  show _ = _
  rw [← hR, Dd.overB, hm, hc]
 have HC : Hid (Dd.checkI wb n m l = c) := hc
 have HF : Hid (∀ W, Below w1.heap.size w1 W → Dd.F2 w #[x0, x1, x2, x3, x4, x5, x6, x7, .slice ka n kc, .slice la m lc, x10, x11] l W) := fun W hb => F1.below hb
 have H4 : Hid ((wb = true → m ≤ 40 ∧ n ≤ 64) ∧ (wb = true → ∃ i : Nat, Dd.lastI ls = i ∧ i < 40) ∧ Ac.Lks w w.heap.size la ls ∧ ls.length = m) := ⟨h40, hlast, hL, hm⟩
 have NA := F1.bx
 unfold Dd.Bx at NA
 have NS := F1.st.h
 have ha := Tryz.underlying32
 have hu := Tryz.underlying41
 have ia : (Tryz.prog.info? 32).map (·.size) = some (#[x0, x1, x2, x3, x4, x5, x6, x7, .slice ka n kc, .slice la m lc, x10, x11] : Array Value).size := Dd.info_act
 have il := Dd.info_row hl
 clear hw1 F1 hl h40 CW0 hc hR hL hm hlast
 by_cases hc0 : c = 0
 ·have e0 : (c != 0) = false := by simp [hc0]
  have hwb : wb = true := by
   cases wb with
   | true => rfl
   | false => have h := HC.out; rw [hc0] at h; simp [Dd.checkI] at h
  obtain ⟨i, hil, hi40⟩ := H4.out.2.1 hwb
  have CI : Hid (∀ W, Below w.heap.size w W → Calls Tryz.prog 35 #[.slice la m lc, .func (.func 36) #[] #[]] W fun e w' => e = .returned (.int .i64 i) ∧ Below W.heap.size W w') := fun W hb => by
   have h := Tryz.linkIndex_any la m lc ls W ((H4.out.2.2.1.keep hb.block).wider hb.size) H4.out.2.2.2 (by have := (H4.out.1 hwb).1; omega)
   rw [hil] at h
   exact h
  obtain ⟨v, hv⟩ : ∃ v, l.getD i 0 = v := ⟨_, rfl⟩
  have HQ : Hid (R = decide (v = 1)) := by
   have h := HR.out
   rw [if_neg (by omega), hil, show ((i : Int)).toNat = i by omega, hv] at h
   exact h
  have HV : Hid (l.getD i 0 = v ∧ i < 40) := ⟨hv, hi40⟩
  have p0 : (0 : Int) ≤ i := by omega
  have p1 : (i : Int) < 40 := by omega
  clear hc0 hwb HR hil hi40 hv
  go_enter Tryz.func21, Tryz.ntmps21
  go_upto_region 1 with fail
  rw [H1.out]
  go_wp2_with (first
   | refine wpList_load_row rfl 32 _ rfl _ rfl 32 _ (0, 0) _ NA ha rfl ia ?_
   | refine wpList_load_row rfl 41 _ rfl _ rfl 41 (Dd.row l) (0, 0) _ NS hu rfl il ?_)
  refine Calls.mono CC.out ?_
  rintro e W2 ⟨rfl, hb2⟩
  have HF2 : Hid (Dd.F2 w #[x0, x1, x2, x3, x4, x5, x6, x7, .slice ka n kc, .slice la m lc, x10, x11] l W2) := HF.out W2 hb2
  have c9 : W2.cell? ⟨w.heap.size, 9, none⟩ = some (.slice la m lc) := by
   have h := HF2.out.bx
   unfold Dd.Bx at h
   simp [World.cell?, h]
  clear hb2 CC NA NS HF
  go_wp2_with fail
  refine Calls.mono (CI.out _ HF2.out.bel) ?_
  rintro e W3 ⟨rfl, hb3⟩
  have HF3 : Hid (Dd.F2 w #[x0, x1, x2, x3, x4, x5, x6, x7, .slice ka n kc, .slice la m lc, x10, x11] l W3) := HF2.out.below hb3
  have s1 := HF3.out.st.cell i (by have := HV.out.2; omega)
  rw [HV.out.1] at s1
  clear hb3 c9
  by_cases h1 : v = 1
  ·have e1 : (v == 1) = true := by simp [h1]
   have HE : Hid (R = true) := by rw [HQ.out]; exact decide_eq_true h1
   clear h1 HQ
   go_wp2
   go_ret
   exact ⟨by rw [HE.out]; rfl, HF3.out.bel⟩
  ·have e1 : (v == 1) = false := by simpa using h1
   have HE : Hid (R = false) := by rw [HQ.out]; exact decide_eq_false h1
   clear h1 HQ
   go_wp2
   go_ret
   exact ⟨by rw [HE.out]; rfl, HF3.out.bel⟩
 ·have e0 : (c != 0) = true := by simpa using hc0
  have HQ : Hid (R = false) := by
   have h := HR.out
   rw [if_pos hc0] at h
   exact h
  clear hc0
  go_enter Tryz.func21, Tryz.ntmps21
  go_upto_region 1 with fail
  rw [H1.out]
  go_wp2_with (first
   | refine wpList_load_row rfl 32 _ rfl _ rfl 32 _ (0, 0) _ NA ha rfl ia ?_
   | refine wpList_load_row rfl 41 _ rfl _ rfl 41 (Dd.row l) (0, 0) _ NS hu rfl il ?_)
  refine Calls.mono CC.out ?_
  rintro e W2 ⟨rfl, hb2⟩
  have HX : Hid (Below w.heap.size w W2) := (HF.out W2 hb2).bel
  clear hb2 CC NA NS HF
  go_wp2
  go_ret
  exact ⟨by rw [HQ.out]; rfl, HX.out⟩
end Go.Proofs
