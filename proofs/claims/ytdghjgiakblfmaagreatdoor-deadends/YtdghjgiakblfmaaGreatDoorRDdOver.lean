import Derived.Test.YtdghjgiakblfmaaGreatDoorRDdChoose
namespace Go.Proofs
open Go.RowKit Go.Shelf
set_option maxHeartbeats 1600000 in
theorem Tryz.over1_any (x y : Int) (w : World) : Calls Tryz.prog 36 #[.agg #[.int .i64 x, .int .i64 y]] w fun e w' => e = .returned (.bool (decide (y = -1))) ∧ Below w.heap.size w w' := by
 have B0 : Hid (Below w.heap.size w (w.alloc (.cells #[.int .i64 x, .int .i64 y] 80))) := (Below.refl _ w).alloc (Nat.le_refl _) _
 by_cases h : y = -1
 ·subst h
  go_enter Tryz.func36, Tryz.ntmps36
  go_wp2
  go_ret
  exact ⟨rfl, B0.out⟩
 ·have e : (y == -1) = false := by simpa using h
  have HQ : Hid (decide (y = -1) = false) := decide_eq_false h
  clear h
  go_enter Tryz.func36, Tryz.ntmps36
  go_wp2
  go_ret
  rw [HQ.out]
  exact ⟨rfl, B0.out⟩
theorem Dd.last_none {ls : List (Int × Int)} (h : ∀ j (h : j < ls.length), ls[j].2 ≠ -1) : Dd.lastI ls = -1 := by
 unfold Dd.lastI
 rw [List.findIdx?_eq_none_iff.2]
 intro x hx
 obtain ⟨j, hj, rfl⟩ := List.mem_iff_getElem.1 hx
 exact decide_eq_false (h j hj)
theorem Dd.last_some {ls : List (Int × Int)} {k : Nat} (hk : k < ls.length) (h1 : ls[k].2 = -1) (h : ∀ j (_ : j < k) (h : j < ls.length), ls[j].2 ≠ -1) : Dd.lastI ls = k := by
 unfold Dd.lastI
 rw [(List.findIdx?_eq_some_iff_getElem (i := k)).2 ⟨hk, decide_eq_true h1, fun j hj => by simpa using h j hj (by omega)⟩]
set_option maxRecDepth 20000 in
set_option maxHeartbeats 4000000 in
theorem Tryz.linkIndex_any (la : Option Addr) (m lc : Nat) (ls : List (Int × Int)) (w : World) (hL : Ac.Lks w w.heap.size la ls) (hm : ls.length = m) (h40 : m ≤ 1000) :
  Calls Tryz.prog 35 #[.slice la m lc, .func (.func 36) #[] #[]] w fun e w' => e = .returned (.int .i64 (Dd.lastI ls)) ∧ Below w.heap.size w w' := by
 obtain ⟨R, hR⟩ : ∃ R, Dd.lastI ls = R := ⟨_, rfl⟩
 rw [hR]
 have HR : Hid (Dd.lastI ls = R) := hR
 have HL : Hid (Ac.Lks w w.heap.size la ls ∧ ls.length = m) := ⟨hL, hm⟩
 clear hL hm hR
 go_enter Tryz.func35, Tryz.ntmps35
 go_wp2
 go_loopg [5, 8] m (fun gk _ s8 wr => ∃ k : Nat, gk + k = m ∧ s8 = .int .i64 k ∧ Hid (Below w.heap.size w wr ∧ ∀ j (_ : j < k) (h : j < ls.length), ls[j].2 ≠ -1))
 case atStart => exact ⟨0, by omega, rfl, Below.refl _ w, fun j hj => by omega⟩
 case round =>
  obtain ⟨k, hk, rfl, HB⟩ := hrel
  by_cases hlt : k < m
  ·have hd : decide ((k : Int) < m) = true := decide_eq_true (by omega)
   have hkl : k < ls.length := by rw [HL.out.2]; exact hlt
   obtain ⟨q, off, rfl, hq, d0, d1⟩ := HL.out.1 k hkl
   obtain ⟨x, hx⟩ : ∃ x, ls[k] = x := ⟨_, rfl⟩
   obtain ⟨a, b⟩ := x
   rw [hx] at d0 d1
   have p0 : (0 : Int) ≤ k := by omega
   have p1 : (k : Int) < m := by omega
   have e0 : wr.cell? ⟨q, off + k * 2, none⟩ = some (.int .i64 a) := by rw [HB.out.1.cell (p := ⟨q, off + k * 2, none⟩) hq]; exact d0
   have e1 : wr.cell? ⟨q, off + k * 2 + 1, none⟩ = some (.int .i64 b) := by rw [HB.out.1.cell (p := ⟨q, off + k * 2 + 1, none⟩) hq]; exact d1
   have HX : Hid (ls[k] = (a, b)) := hx
   have HKL : Hid (k < ls.length) := hkl
   have hcall := Tryz.over1_any a b wr
   clear hq d0 d1
   by_cases hb : b = -1
   ·have hq : decide (b = -1) = true := decide_eq_true hb
    rw [hq] at hcall
    have HE : Hid (R = k) := by
     show _ = _
     rw [← HR.out]
     exact Dd.last_some HKL.out (by rw [HX.out]; exact hb) HB.out.2
    clear hq hb
    go_wp2_with (refine hcall.mono ?_; rintro e w1 ⟨rfl, hb1⟩)
    go_ret
    exact ⟨by rw [HE.out]; rfl, HB.out.1.trans (hb1.mono HB.out.1.size)⟩
   ·have hq : decide (b = -1) = false := decide_eq_false hb
    rw [hq] at hcall
    have HE : Hid (∀ j (_ : j < k + 1) (h : j < ls.length), ls[j].2 ≠ -1) := fun j hj hjl => by
     by_cases e : j = k
     ·subst e; rw [HX.out]; exact hb
     ·exact HB.out.2 j (by omega) hjl
    clear hq hb
    go_wp2_with (refine hcall.mono ?_; rintro e w1 ⟨rfl, hb1⟩)
    go_roundg (gk - 1)
    case measure => omega
    case rel => exact ⟨k + 1, by omega, by go_num, HB.out.1.trans (hb1.mono HB.out.1.size), HE.out⟩
  ·have hd : decide ((k : Int) < m) = false := decide_eq_false (by omega)
   have HE : Hid (R = -1) := by
    show _ = _
    rw [← HR.out]
    exact Dd.last_none fun j hj => HB.out.2 j (by rw [HL.out.2] at hj; omega) hj
   go_wp2
   go_ret
   exact ⟨by rw [HE.out]; rfl, HB.out.1⟩
set_option maxRecDepth 20000 in
set_option maxHeartbeats 16000000 in
theorem Tryz.deadOver_any (x0 x1 x2 x3 x4 x5 x6 x7 x10 x11 : Value) (ka la : Option Addr) (n kc m lc : Nat) (ls : List (Int × Int)) (l : List Int) (wb : Bool) (w : World) (hL : Ac.Lks w w.heap.size la ls) (hm : ls.length = m) (hl : l.length = 104) (h40 : wb = true → m ≤ 40 ∧ n ≤ 64) (hlast : wb = true → ∃ i : Nat, Dd.lastI ls = i ∧ i < 40)
  (CW0 : ∀ W, Below w.heap.size w W → Calls Tryz.prog 26 #[.agg #[x0, x1, x2, x3, x4, x5, x6, x7, .slice ka n kc, .slice la m lc, x10, x11]] W fun e w' => e = .returned (.bool wb) ∧ Below W.heap.size W w') :
  Calls Tryz.prog 21 #[.agg #[x0, x1, x2, x3, x4, x5, x6, x7, .slice ka n kc, .slice la m lc, x10, x11], .agg (Dd.row l)] w fun e w' => e = .returned (.bool (Dd.overB wb n ls l)) ∧ Below w.heap.size w w' := by
 obtain ⟨w1, hw1⟩ : ∃ z, (w.alloc (.cells #[x0, x1, x2, x3, x4, x5, x6, x7, .slice ka n kc, .slice la m lc, x10, x11] 32)).alloc (.cells (Dd.row l) 41) = z := ⟨_, rfl⟩
 have F1 := Dd.F2.new w #[x0, x1, x2, x3, x4, x5, x6, x7, .slice ka n kc, .slice la m lc, x10, x11] hl
 rw [hw1] at F1
 have H1 : Hid _ := hw1
 have CC : Hid _ := Tryz.deadCheck_any x0 x1 x2 x3 x4 x5 x6 x7 x10 x11 ka la n kc m lc l wb w1 hl h40 (fun W hb => CW0 W (F1.bel.trans (hb.mono F1.bel.size)))
 obtain ⟨c, hc⟩ : ∃ c, Dd.checkI wb n m l = c := ⟨_, rfl⟩
 obtain ⟨R, hR⟩ : ∃ R, Dd.overB wb n ls l = R := ⟨_, rfl⟩
 rw [hc] at CC
 rw [hR]
 have HR : Hid (R = if c ≠ 0 then false else decide (l.getD (Dd.lastI ls).toNat 0 = 1)) := by
  show _ = _
  rw [← hR, Dd.overB, hm, hc]
 have HC : Hid (Dd.checkI wb n m l = c) := hc
 have HF : Hid (∀ W, Below w1.heap.size w1 W → Dd.F2 w #[x0, x1, x2, x3, x4, x5, x6, x7, .slice ka n kc, .slice la m lc, x10, x11] l W) := fun W hb => F1.below hb
 have H4 : Hid ((wb = true → m ≤ 40 ∧ n ≤ 64) ∧ (wb = true → ∃ i : Nat, Dd.lastI ls = i ∧ i < 40) ∧ Ac.Lks w w.heap.size la ls ∧ ls.length = m) := ⟨h40, hlast, hL, hm⟩
 have NA := F1.bx
 unfold Dd.Bx at NA
 have NS := F1.st.h
 have ha := Tryz.underlying32
 have hu := Tryz.underlying41
 have ia : (Tryz.prog.info? 32).map (·.size) = some (#[x0, x1, x2, x3, x4, x5, x6, x7, .slice ka n kc, .slice la m lc, x10, x11] : Array Value).size := Dd.info_act
 have il := Dd.info_row hl
 clear hw1 F1 hl h40 CW0 hc hR hL hm hlast
 by_cases hc0 : c = 0
 ·have e0 : (c != 0) = false := by simp [hc0]
  have hwb : wb = true := by
   cases wb with
   | true => rfl
   | false => have h := HC.out; rw [hc0] at h; simp [Dd.checkI] at h
  obtain ⟨i, hil, hi40⟩ := H4.out.2.1 hwb
  have CI : Hid (∀ W, Below w.heap.size w W → Calls Tryz.prog 35 #[.slice la m lc, .func (.func 36) #[] #[]] W fun e w' => e = .returned (.int .i64 i) ∧ Below W.heap.size W w') := fun W hb => by
   have h := Tryz.linkIndex_any la m lc ls W ((H4.out.2.2.1.keep hb.block).wider hb.size) H4.out.2.2.2 (by have := (H4.out.1 hwb).1; omega)
   rw [hil] at h
   exact h
  obtain ⟨v, hv⟩ : ∃ v, l.getD i 0 = v := ⟨_, rfl⟩
  have HQ : Hid (R = decide (v = 1)) := by
   have h := HR.out
   rw [if_neg (by omega), hil, show ((i : Int)).toNat = i by omega, hv] at h
   exact h
  have HV : Hid (l.getD i 0 = v ∧ i < 40) := ⟨hv, hi40⟩
  have p0 : (0 : Int) ≤ i := by omega
  have p1 : (i : Int) < 40 := by omega
  clear hc0 hwb HR hil hi40 hv
  go_enter Tryz.func21, Tryz.ntmps21
  go_upto_region 1 with fail
  rw [H1.out]
  go_wp2_with (first
   | refine wpList_load_row rfl 32 _ rfl _ rfl 32 _ (0, 0) _ NA ha rfl ia ?_
   | refine wpList_load_row rfl 41 _ rfl _ rfl 41 (Dd.row l) (0, 0) _ NS hu rfl il ?_)
  refine Calls.mono CC.out ?_
  rintro e W2 ⟨rfl, hb2⟩
  have HF2 : Hid (Dd.F2 w #[x0, x1, x2, x3, x4, x5, x6, x7, .slice ka n kc, .slice la m lc, x10, x11] l W2) := HF.out W2 hb2
  have c9 : W2.cell? ⟨w.heap.size, 9, none⟩ = some (.slice la m lc) := by
   have h := HF2.out.bx
   unfold Dd.Bx at h
   simp [World.cell?, h]
  clear hb2 CC NA NS HF
  go_wp2_with fail
  refine Calls.mono (CI.out _ HF2.out.bel) ?_
  rintro e W3 ⟨rfl, hb3⟩
  have HF3 : Hid (Dd.F2 w #[x0, x1, x2, x3, x4, x5, x6, x7, .slice ka n kc, .slice la m lc, x10, x11] l W3) := HF2.out.below hb3
  have s1 := HF3.out.st.cell i (by have := HV.out.2; omega)
  rw [HV.out.1] at s1
  clear hb3 c9
  by_cases h1 : v = 1
  ·have e1 : (v == 1) = true := by simp [h1]
   have HE : Hid (R = true) := by rw [HQ.out]; exact decide_eq_true h1
   clear h1 HQ
   go_wp2
   go_ret
   exact ⟨by rw [HE.out]; rfl, HF3.out.bel⟩
  ·have e1 : (v == 1) = false := by simpa using h1
   have HE : Hid (R = false) := by rw [HQ.out]; exact decide_eq_false h1
   clear h1 HQ
   go_wp2
   go_ret
   exact ⟨by rw [HE.out]; rfl, HF3.out.bel⟩
 ·have e0 : (c != 0) = true := by simpa using hc0
  have HQ : Hid (R = false) := by
   have h := HR.out
   rw [if_pos hc0] at h
   exact h
  clear hc0
  go_enter Tryz.func21, Tryz.ntmps21
  go_upto_region 1 with fail
  rw [H1.out]
  go_wp2_with (first
   | refine wpList_load_row rfl 32 _ rfl _ rfl 32 _ (0, 0) _ NA ha rfl ia ?_
   | refine wpList_load_row rfl 41 _ rfl _ rfl 41 (Dd.row l) (0, 0) _ NS hu rfl il ?_)
  refine Calls.mono CC.out ?_
  rintro e W2 ⟨rfl, hb2⟩
  have HX : Hid (Below w.heap.size w W2) := (HF.out W2 hb2).bel
  clear hb2 CC NA NS HF
  go_wp2
  go_ret
  exact ⟨by rw [HQ.out]; rfl, HX.out⟩
end Go.Proofs
namespace Go.Proofs
open Go.RowKit Go.Shelf
noncomputable def Dd.webB (T : Ac) : Bool := decide (T.kind = 13) && decide (T.checkC = 0)
set_option maxRecDepth 20000 in
set_option maxHeartbeats 4000000 in
theorem Tryz.isWeb_any (d e : Nat) (T : Ac) (V : Ac.Vs) (w : World) (hT : Ac.Lies w w.heap.size e d V T) (h0 : 0 < w.heap.size) (hsz : T.size ≤ 2147483647) (hF : T.All Ac.Fit) (hO : Tk.Ops w) :
  Calls Tryz.prog 26 #[.agg (Ac.row T V)] w fun e w' => e = .returned (.bool (Dd.webB T)) ∧ Below w.heap.size w w' := by
 obtain ⟨R, hR⟩ : ∃ R, Dd.webB T = R := ⟨_, rfl⟩
 rw [hR]
 obtain ⟨k, hk⟩ : ∃ k, T.kind = k := ⟨_, rfl⟩
 obtain ⟨x1, x2, x3, x4, x5, x6, x7, x8, x9, x10, x11, hrow⟩ : ∃ x1 x2 x3 x4 x5 x6 x7 x8 x9 x10 x11, Ac.row T V = #[.int .i64 k, x1, x2, x3, x4, x5, x6, x7, x8, x9, x10, x11] := ⟨_, _, _, _, _, _, _, _, _, _, _, by unfold Ac.row; rw [hk]⟩
 obtain ⟨w1, hw1⟩ : ∃ z, w.alloc (.cells (Ac.row T V) 32) = z := ⟨_, rfl⟩
 have B1 : Below w.heap.size w w1 := by rw [← hw1]; exact (Below.refl _ w).alloc (Nat.le_refl _) _
 have N1 : w1.heap[w.heap.size]? = some (.cells (Ac.row T V) 32 (0, 0)) := by rw [← hw1]; exact heap_alloc_new w _
 have HC0 := Tryz.aCheck_any d e T V w1 ((hT.below B1).wider B1.size) (by have := B1.size; omega) hsz hF (hO.below B1 hO.lt)
 obtain ⟨c, hc⟩ : ∃ c, T.checkC = c := ⟨_, rfl⟩
 rw [hc, hrow] at HC0
 rw [hrow] at hw1 N1 ⊢
 have HC : Hid _ := HC0
 have H1 : Hid _ := hw1
 have HB : Hid (Below w.heap.size w w1) := B1
 have HR : Hid (R = (decide (k = 13) && decide (c = 0))) := by
  show _ = _
  rw [← hR, Dd.webB, hk, hc]
 obtain ⟨c0, c1, c2, c3, c4, c5, c6, c7, c8, c9, c10, c11⟩ : w1.cell? ⟨w.heap.size, 0, none⟩ = some (.int .i64 k) ∧ w1.cell? ⟨w.heap.size, 1, none⟩ = some x1 ∧ w1.cell? ⟨w.heap.size, 2, none⟩ = some x2 ∧ w1.cell? ⟨w.heap.size, 3, none⟩ = some x3 ∧ w1.cell? ⟨w.heap.size, 4, none⟩ = some x4 ∧ w1.cell? ⟨w.heap.size, 5, none⟩ = some x5 ∧ w1.cell? ⟨w.heap.size, 6, none⟩ = some x6 ∧ w1.cell? ⟨w.heap.size, 7, none⟩ = some x7 ∧ w1.cell? ⟨w.heap.size, 8, none⟩ = some x8 ∧ w1.cell? ⟨w.heap.size, 9, none⟩ = some x9 ∧ w1.cell? ⟨w.heap.size, 10, none⟩ = some x10 ∧ w1.cell? ⟨w.heap.size, 11, none⟩ = some x11 := by simp [World.cell?, N1]
 clear hR hk hrow hw1 B1 HC0 hc hT h0 hsz hF hO
 by_cases hk13 : k = 13
 ·have ek : (k == 13) = true := by simp [hk13]
  by_cases hc0 : c = 0
  ·have ec : (c == 0) = true := by simp [hc0]
   have HQ : Hid (R = true) := by rw [HR.out, decide_eq_true hk13, decide_eq_true hc0]; rfl
   clear hk13 hc0 HR
   go_enter Tryz.func26, Tryz.ntmps26
   go_upto_region 1 with fail
   rw [H1.out]
   go_wp2_with fail
   refine Calls.mono HC.out ?_
   rintro e W2 ⟨rfl, hb2⟩
   have HX : Hid (Below w.heap.size w W2) := HB.out.trans (hb2.mono HB.out.size)
   clear hb2 HC N1 c0 c1 c2 c3 c4 c5 c6 c7 c8 c9 c10 c11
   go_wp2
   go_ret
   exact ⟨by rw [HQ.out]; rfl, HX.out⟩
  ·have ec : (c == 0) = false := by simpa using hc0
   have HQ : Hid (R = false) := by rw [HR.out, decide_eq_false hc0, Bool.and_false]; exact rfl
   clear hk13 hc0 HR
   go_enter Tryz.func26, Tryz.ntmps26
   go_upto_region 1 with fail
   rw [H1.out]
   go_wp2_with fail
   refine Calls.mono HC.out ?_
   rintro e W2 ⟨rfl, hb2⟩
   have HX : Hid (Below w.heap.size w W2) := HB.out.trans (hb2.mono HB.out.size)
   clear hb2 HC N1 c0 c1 c2 c3 c4 c5 c6 c7 c8 c9 c10 c11
   go_wp2
   go_ret
   exact ⟨by rw [HQ.out]; rfl, HX.out⟩
 ·have ek : (k == 13) = false := by simpa using hk13
  have HQ : Hid (R = false) := by rw [HR.out, decide_eq_false hk13, Bool.false_and]; exact rfl
  clear hk13 HR HC
  go_enter Tryz.func26, Tryz.ntmps26
  go_upto_region 1 with fail
  rw [H1.out]
  go_wp2
  go_ret
  exact ⟨by rw [HQ.out]; rfl, HB.out⟩
structure Dd.Rw (T : Ac) : Prop where
 right : Dd.Right T
 gate : ∀ k (h : k < T.ks.length), T.ks[k].kind = 12 → T.ks[k].a = 3 → 2 ≤ T.ks[k].cs.length
theorem Dd.rw_of {T : Ac} (h : Dd.webB T = true) : Dd.Rw T := by
 unfold Dd.webB at h
 rw [Bool.and_eq_true, decide_eq_true_iff, decide_eq_true_iff] at h
 obtain ⟨h13, hc⟩ := h
 have hg : (T.go Ac.stepF ()).1 = true := by
  cases hq : (T.go Ac.stepF ()).1 with
  | true => rfl
  | false =>
    unfold Ac.checkC at hc
    split at hc
    ·cases hc
    ·rw [if_pos (.inr (.inr hq))] at hc; cases hc
 have hall := Ac.go_form T () hg
 rw [T.all_eq] at hall
 refine ⟨Dd.right_of ((Ac.formed_13 h13).1 hall.1).2.1, fun k hk h12 h3 => ?_⟩
 have hkid := Ac.alls_get hall.2 k hk
 rw [Ac.all_eq] at hkid
 exact ((Ac.formed_12a h12 h3).1 hkid.1).2.2.1
theorem Dd.last_of {T : Ac} (h : Dd.Right T) : ∃ i : Nat, Dd.lastI T.ls = i ∧ i < 40 := by
 have h1 := h.last
 have l40 := h.web.l40
 have : ∃ x ∈ T.ls, decide (x.2 = -1) = true := by
   have : 0 < T.ls.countP fun l => decide (l.2 = -1) := by omega
   exact List.countP_pos_iff.1 this
 unfold Dd.lastI
 cases hq : T.ls.findIdx? (fun x => decide (x.2 = -1)) with
 | none =>
   obtain ⟨x, hx, hx2⟩ := this
   have := List.findIdx?_eq_none_iff.1 hq x hx
   rw [hx2] at this
   cases this
 | some i => exact ⟨i, rfl, by have := (List.findIdx?_eq_some_iff_getElem.1 hq).1; omega⟩
theorem Dd.kds_of {w : World} {B e d : Nat} {V : Ac.Vs} {T : Ac} (h : Ac.Lies w B e d V T) : ∃ a cap, V.k = .slice a T.ks.length cap ∧ Dd.Kds w B a (Dd.kkOf T) := by
 cases d with
 | zero => exact h.elim
 | succ d =>
   obtain ⟨_, a, cap, hv, hk⟩ := h
   refine ⟨a, cap, hv, fun j hj => ?_⟩
   rw [Dd.kkOf_length] at hj
   obtain ⟨g, off, U, ha, hg, hr, _⟩ := hk j hj
   have h0 := hr 0 (by simp [Ac.row])
   have h2 := hr 2 (by simp [Ac.row])
   refine ⟨g, off, ha, hg, ?_, ?_⟩
   ·rw [Nat.add_zero] at h0; rw [h0]; simp [Ac.row, Dd.kkOf]
   ·rw [h2]; simp [Ac.row, Dd.kkOf]
structure Dd.Ctx (w : World) (xs : Array Value) (wb : Bool) (ls kk : List (Int × Int)) : Prop where
 start : ∀ W, Below w.heap.size w W → Calls Tryz.prog 11 #[.agg xs] W fun e w' => e = .returned (Dd.two (Dd.startR wb ls kk)) ∧ Below W.heap.size W w'
 finish : ∀ W l (kid : Int), Below w.heap.size w W → l.length = 104 → Calls Tryz.prog 17 #[.agg xs, .agg (Dd.row l), .int .i64 kid] W fun e w' => e = .returned (Dd.two (Dd.finR wb ls kk l kid)) ∧ Below W.heap.size W w'
 choose : ∀ W l (kid out : Int), Below w.heap.size w W → l.length = 104 → -9223372036854775808 ≤ out → out ≤ 9223372036854775807 → Calls Tryz.prog 23 #[.agg xs, .agg (Dd.row l), .int .i64 kid, .int .i64 out] W fun e w' => e = .returned (Dd.two (Dd.choR wb ls kk l kid out)) ∧ Below W.heap.size W w'
 running : ∀ W l, Below w.heap.size w W → l.length = 104 → Calls Tryz.prog 14 #[.agg xs, .agg (Dd.row l)] W fun e w' => Nt.Gives (Dd.runL wb kk.length ls.length l) W e w'
 over : ∀ W l, Below w.heap.size w W → l.length = 104 → Calls Tryz.prog 21 #[.agg xs, .agg (Dd.row l)] W fun e w' => e = .returned (.bool (Dd.overB wb kk.length ls l)) ∧ Below W.heap.size W w'
 check : ∀ W l, Below w.heap.size w W → l.length = 104 → Calls Tryz.prog 19 #[.agg xs, .agg (Dd.row l)] W fun e w' => e = .returned (.int .i64 (Dd.checkI wb kk.length ls.length l)) ∧ Below W.heap.size W w'
theorem Dd.ctx (d e : Nat) (T : Ac) (V : Ac.Vs) (w : World) (hT : Ac.Lies w w.heap.size e d V T) (h0 : 0 < w.heap.size) (hsz : T.size ≤ 2147483647) (hF : T.All Ac.Fit) (hO : Tk.Ops w) : Dd.Ctx w (Ac.row T V) (Dd.webB T) T.ls (Dd.kkOf T) := by
 obtain ⟨ka, kc, hvk, hK⟩ := Dd.kds_of hT
 obtain ⟨la, lc, hvl, hL⟩ := hT.own.l
 obtain ⟨x0, x1, x2, x3, x4, x5, x6, x7, x10, x11, hrow⟩ : ∃ x0 x1 x2 x3 x4 x5 x6 x7 x10 x11, Ac.row T V = #[x0, x1, x2, x3, x4, x5, x6, x7, .slice ka T.ks.length kc, .slice la T.ls.length lc, x10, x11] := ⟨_, _, _, _, _, _, _, _, _, _, by unfold Ac.row; rw [hvk, hvl]⟩
 have hn : (Dd.kkOf T).length = T.ks.length := Dd.kkOf_length T
 have CW : ∀ W, Below w.heap.size w W → Calls Tryz.prog 26 #[.agg (Ac.row T V)] W fun e w' => e = .returned (.bool (Dd.webB T)) ∧ Below W.heap.size W w' := fun W hb =>
  Tryz.isWeb_any d e T V W ((hT.below hb).wider hb.size) (by have := hb.size; omega) hsz hF (hO.below hb hO.lt)
 have hW : Dd.webB T = true → Dd.Web T.ls (Dd.kkOf T) := fun h => (Dd.rw_of h).right.web
 have h40 : Dd.webB T = true → T.ls.length ≤ 40 ∧ T.ks.length ≤ 64 := fun h => ⟨(hW h).l40, by rw [← hn]; exact (hW h).k64⟩
 rw [hrow] at CW ⊢
 have LK : ∀ W, Below w.heap.size w W → Ac.Lks W W.heap.size la T.ls ∧ Dd.Kds W W.heap.size ka (Dd.kkOf T) := fun W hb => ⟨(hL.keep hb.block).wider hb.size, (hK.keep hb.block).wider hb.size⟩
 have up : ∀ {W W' : World}, Below w.heap.size w W → Below W.heap.size W W' → Below w.heap.size w W' := fun h h' => h.trans (h'.mono h.size)
 refine ⟨fun W hb => ?_, fun W l kid hb hl => ?_, fun W l kid out hb hl o0 o1 => ?_, fun W l hb hl => ?_, fun W l hb hl => ?_, fun W l hb hl => ?_⟩
 ·exact Tryz.deadStart_any x0 x1 x2 x3 x4 x5 x6 x7 x10 x11 ka la T.ks.length kc T.ls.length lc T.ls (Dd.kkOf T) (Dd.webB T) W (LK W hb).1 (LK W hb).2 rfl hn hW (fun W' hb' => CW W' (up hb hb'))
 ·exact Tryz.deadFinish_any x0 x1 x2 x3 x4 x5 x6 x7 x10 x11 ka la T.ks.length kc T.ls.length lc T.ls (Dd.kkOf T) l kid (Dd.webB T) W (LK W hb).1 (LK W hb).2 hl rfl hn hW (fun W' hb' => CW W' (up hb hb'))
 ·exact Tryz.deadChoose_any x0 x1 x2 x3 x4 x5 x6 x7 x10 x11 ka la T.ks.length kc T.ls.length lc T.ls (Dd.kkOf T) l kid out (Dd.webB T) W (LK W hb).1 (LK W hb).2 hl rfl hn hW o0 o1 (fun W' hb' => CW W' (up hb hb'))
 ·rw [hn]
  exact Tryz.deadRunning_any x0 x1 x2 x3 x4 x5 x6 x7 x10 x11 ka la T.ks.length kc T.ls.length lc l (Dd.webB T) W hl h40 (fun W' hb' => CW W' (up hb hb'))
 ·rw [hn]
  exact Tryz.deadOver_any x0 x1 x2 x3 x4 x5 x6 x7 x10 x11 ka la T.ks.length kc T.ls.length lc T.ls l (Dd.webB T) W (LK W hb).1 rfl hl h40 (fun h => Dd.last_of (Dd.rw_of h).right) (fun W' hb' => CW W' (up hb hb'))
 ·rw [hn]
  exact Tryz.deadCheck_any x0 x1 x2 x3 x4 x5 x6 x7 x10 x11 ka la T.ks.length kc T.ls.length lc l (Dd.webB T) W hl h40 (fun W' hb' => CW W' (up hb hb'))
end Go.Proofs
namespace Go.Proofs
open Go.RowKit
def Tk.Rm (b : Nat) (k : Int) (w : World) : Prop := w.heap[b]? = some (.cells #[.int .i64 k] 36 (0, 0))
theorem Tk.Rm.c0 {b : Nat} {k : Int} {w : World} (h : Tk.Rm b k w) : w.cell? ⟨b, 0, none⟩ = some (.int .i64 k) := by simp only [Tk.Rm] at h; simp [World.cell?, h]
theorem Tk.Rm.f0 {b : Nat} {k : Int} {w : World} (h : Tk.Rm b k w) : w.frozen? ⟨b, 0, none⟩ = false := by simp only [Tk.Rm] at h; simp [World.frozen?, h]
theorem Tk.Rm.lt {b : Nat} {k : Int} {w : World} (h : Tk.Rm b k w) : b < w.heap.size := (Array.getElem?_eq_some_iff.1 h).1
theorem Tk.Rm.put {b : Nat} {k : Int} {w : World} (h : Tk.Rm b k w) (k' : Int) : Tk.Rm b k' (w.setCell ⟨b, 0, none⟩ (.int .i64 k')) := by
 unfold Tk.Rm at *
 simp [World.setCell, Array.getElem?_modify, h]
theorem Tk.Rm.keep {b : Nat} {k : Int} {w w' : World} (h : Tk.Rm b k w) (hk : w'.heap[b]? = w.heap[b]?) : Tk.Rm b k w' := by unfold Tk.Rm; rw [hk]; exact h
def Tk.LargeEnd (T : Tm) (k : Nat) (b : Nat) (w : World) (e : Ending) (w' : World) : Prop :=
 Tk.But (fun i => i = b) w w' ∧ ((e = .returned (.bool false) ∧ T.size ≤ k ∧ Tk.Rm b ((k - T.size : Nat) : Int) w') ∨ e = .returned (.bool true))
set_option maxHeartbeats 4000000 in
theorem Tryz.deep_any : ∀ (d : Nat) (T : Tm) (v : Value) (k b : Nat) (dp : Nat) (B : Nat) (w : World), Tm.Lies w B d v T → B ≤ b → B ≤ w.heap.size → Tk.Rm b k w → k ≤ 1000000 → dp ≤ 1000 →
   Calls Tryz.prog 25 #[.agg #[.int .i64 T.op, .int .i64 T.num, v], .pointer (some ⟨b, 0, none⟩), .int .i64 dp] w fun e w' => Tk.LargeEnd T k b w e w' := by
 intro d
 induction d with
 | zero => intro T v k b dp B w h; exact h.elim
 | succ d ih =>
   intro T v k b dp B w hT hBb hBs hR hk hdp
   obtain ⟨a, cap, rfl⟩ := hT.shape
   obtain ⟨o, ho⟩ : ∃ o, T.op = o := ⟨_, rfl⟩
   obtain ⟨m, hm⟩ : ∃ m, T.num = m := ⟨_, rfl⟩
   obtain ⟨n, hn⟩ : ∃ n, T.ks.length = n := ⟨_, rfl⟩
   rw [ho, hm, hn]
   rw [hn] at hT
   have A0 : Below w.heap.size w (w.alloc (.cells #[.int .i64 o, .int .i64 m, .slice a n cap] 24)) := (Below.refl _ w).alloc (Nat.le_refl _) _
   have R0 : Tk.Rm b k (w.alloc (.cells #[.int .i64 o, .int .i64 m, .slice a n cap] 24)) := hR.keep (A0.block b hR.lt)
   have c0 := R0.c0
   have f0 := R0.f0
   have R1 := R0.put ((k : Int) - 1)
   obtain ⟨w1, hw1⟩ : ∃ w1, (w.alloc (.cells #[.int .i64 o, .int .i64 m, .slice a n cap] 24)).setCell ⟨b, 0, none⟩ (.int .i64 ((k : Int) - 1)) = w1 := ⟨_, rfl⟩
   have X1 : Hid (Tk.But (fun i => i = b) w w1) := by show Tk.But _ _ _; rw [← hw1]; exact (Tk.But.of_below A0).setCell (E := fun i => i = b) (p := ⟨b, 0, none⟩) rfl _
   rw [hw1] at R1
   have g0 := R1.c0
   have hbx : w1.heap[w.heap.size]? = some (.cells #[.int .i64 o, .int .i64 m, .slice a n cap] 24 (0, 0)) := by
    rw [← hw1, Below.heap_setCell _ _ _ _ (by have := hR.lt; show w.heap.size ≠ b; omega)]
    exact heap_alloc_new w _
   have g2 : w1.cell? ⟨w.heap.size, 2, none⟩ = some (.slice a n cap) := by simp [World.cell?, hbx]
   have HW1 : Hid ((w.alloc (.cells #[.int .i64 o, .int .i64 m, .slice a n cap] 24)).setCell ⟨b, 0, none⟩ (.int .i64 ((k : Int) - 1)) = w1) := hw1
   have HT : Hid (Tm.Lies w B (d + 1) (.slice a n cap) T) := hT
   have HI : Hid _ := ih
   have HM : Hid (T.op = o ∧ T.num = m ∧ T.ks.length = n ∧ B ≤ b ∧ B ≤ w.heap.size) := ⟨ho, hm, hn, hBb, hBs⟩
   have HR1 : Hid (Tk.Rm b ((k : Int) - 1) w1) := R1
   have HRl : Hid (b < w.heap.size) := hR.lt
   clear ih hT hR A0 R0 ho hm hn hw1 R1 hbx hBb hBs
   by_cases hbad : (k : Int) - 1 < 0 ∨ 30 < dp ∨ 20 < n
   ·obtain h1 | ⟨h1, h2⟩ | ⟨h1, h2, h3⟩ : decide ((k : Int) - 1 < 0) = true ∨ (decide ((k : Int) - 1 < 0) = false ∧ decide ((30 : Int) < dp) = true) ∨ (decide ((k : Int) - 1 < 0) = false ∧ decide ((30 : Int) < dp) = false ∧ decide ((20 : Int) < n) = true) := by
     simp; omega
    all_goals
     clear hbad
     go_enter Tryz.func25, Tryz.ntmps25
     go_wp2
     go_ret
     exact ⟨by rw [HW1.out]; exact X1.out, .inr rfl⟩
   ·have h1 : decide ((k : Int) - 1 < 0) = false := decide_eq_false (by omega)
    have h2 : decide ((30 : Int) < dp) = false := decide_eq_false (by omega)
    have h3 : decide ((20 : Int) < n) = false := decide_eq_false (by omega)
    have hn100 : n ≤ 100 := by omega
    have hdp' : dp ≤ 100 := by omega
    have HK : Hid (1 ≤ k) := by show 1 ≤ k; omega
    clear hbad
    go_enter Tryz.func25, Tryz.ntmps25
    go_wp2
    rw [HW1.out]
    go_loopg [35] n (fun g i wr => ∃ j : Nat, g + j = n ∧ i = .int .i64 j ∧ Hid (Tk.But (fun i => i = b) w wr ∧ Tm.sizes (T.ks.take j) ≤ k - 1 ∧ Tk.Rm b ((k - 1 - Tm.sizes (T.ks.take j) : Nat) : Int) wr))
    case atStart =>
     refine ⟨0, by omega, rfl, X1.out, by simp [Tm.sizes], ?_⟩
     have := HR1.out
     rw [show (k : Int) - 1 = ((k - 1 : Nat) : Int) by have := HK.out; omega] at this
     simpa [Tm.sizes] using this
    case round =>
     obtain ⟨j, hj, rfl, HJ⟩ := hrel
     by_cases hjn : j < n
     ·have hd : decide ((j : Int) < n) = true := decide_eq_true (by omega)
      have hjk : j < T.ks.length := by rw [HM.out.2.2.1]; exact hjn
      obtain ⟨g, off, u, rfl, hg, q0, q1, q2, q3⟩ := HT.out.kid j hjk
      obtain ⟨x, hx⟩ : ∃ x, T.ks[j] = x := ⟨_, rfl⟩
      rw [hx] at q0 q1 q3
      obtain ⟨au, cu, rfl⟩ := q3.shape
      obtain ⟨nx, hnx⟩ : ∃ n, x.ks.length = n := ⟨_, rfl⟩
      rw [hnx] at q2 q3
      obtain ⟨y0, hy0⟩ : ∃ y, x.op = y := ⟨_, rfl⟩
      obtain ⟨y1, hz1⟩ : ∃ y, x.num = y := ⟨_, rfl⟩
      rw [hy0] at q0
      rw [hz1] at q1
      have hE : ∀ i, i < B → ¬ (i = b) := fun i hi => by have := HM.out; omega
      have hc : ∀ p, wr.cell? ⟨g, p, none⟩ = w.cell? ⟨g, p, none⟩ := fun p => World.cell?_of_block (w := w) (HJ.out.1.block g (by have := HM.out; omega) (hE g hg))
      have hc0 : wr.cell? ⟨g, off + j * 3, none⟩ = some (.int .i64 y0) := by rw [hc]; exact q0
      have hc1 : wr.cell? ⟨g, off + j * 3 + 1, none⟩ = some (.int .i64 y1) := by rw [hc]; exact q1
      have hc2 : wr.cell? ⟨g, off + j * 3 + 2, none⟩ = some (.slice au nx cu) := by rw [hc]; exact q2
      have BA : Hid (Tk.But (fun i => i = b) w (wr.alloc (.cells #[.int .i64 y0, .int .i64 y1, .slice au nx cu] 24))) := HJ.out.1.alloc _
      have hcall := HI.out x (.slice au nx cu) (k - 1 - Tm.sizes (T.ks.take j)) b (dp + 1) B (wr.alloc (.cells #[.int .i64 y0, .int .i64 y1, .slice au nx cu] 24))
       (q3.keep fun i hi => BA.out.block i (by have := HM.out; omega) (hE i hi)) HM.out.2.2.2.1 (by have := HM.out; have := BA.out.size; omega) (HJ.out.2.2.keep (Below.heap_alloc _ _ _ HJ.out.2.2.lt)) (by omega) (by omega)
      rw [hy0, hz1, show ((dp + 1 : Nat) : Int) = (dp : Int) + 1 by omega] at hcall
      have HC : Hid _ := hcall
      have HY : Hid (T.ks[j] = x) := hx
      clear hc q0 q1 q2 q3 hx hy0 hz1 hnx hcall hE g0 g2 c0 f0
      go_wp2_with fail
      refine Calls.mono HC.out ?_
      rintro e W3 ⟨hb3, ⟨rfl, hs3, hr3⟩ | rfl⟩
      ·have B3 : Hid (Tk.But (fun i => i = b) w W3) := BA.out.trans hb3
       have H3 : Hid (x.size ≤ k - 1 - Tm.sizes (T.ks.take j) ∧ Tk.Rm b ((k - 1 - Tm.sizes (T.ks.take j) - x.size : Nat) : Int) W3) := ⟨hs3, hr3⟩
       clear hb3 hs3 hr3 HC
       go_wp2
       go_roundg (gk - 1)
       case measure => omega
       case rel =>
        refine ⟨j + 1, by omega, by go_num, B3.out, ?_, ?_⟩
        ·rw [Tm.sizes_take _ _ hjk, HY.out]; have := H3.out.1; have := HJ.out.2.1; omega
        ·rw [Tm.sizes_take _ _ hjk, HY.out, ← Nat.sub_sub]; exact H3.out.2
      ·have B3 : Hid (Tk.But (fun i => i = b) w W3) := BA.out.trans hb3
       clear hb3 HC
       go_wp2
       go_ret
       exact ⟨B3.out, .inr rfl⟩
     ·have hd : decide ((j : Int) < n) = false := decide_eq_false (by omega)
      have hall : T.ks.take j = T.ks := List.take_of_length_le (by rw [HM.out.2.2.1]; omega)
      have HZ := HJ.out
      rw [hall] at HZ
      have HZ' : Hid _ := HZ
      clear HZ
      go_wp2
      go_ret
      refine ⟨HZ'.out.1, .inl ⟨rfl, ?_, ?_⟩⟩
      ·rw [T.size_eq]; have := HZ'.out.2.1; have := HK.out; omega
      ·rw [T.size_eq, show k - (Tm.sizes T.ks + 1) = k - 1 - Tm.sizes T.ks by omega]; exact HZ'.out.2.2
end Go.Proofs
