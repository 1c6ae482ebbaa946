import Derived.Test.YtdghjgiakblfmaaGreatDoorRDdEq
namespace Go.Proofs
open Go.RowKit Go.Shelf
def Dd.checkI (wb : Bool) (n m : Nat) (l : List Int) : Int := if wb = true then (if Dd.okB n m l = true then 0 else 1) else 4
set_option maxRecDepth 20000 in
set_option maxHeartbeats 8000000 in
theorem Tryz.deadCheck_any (x0 x1 x2 x3 x4 x5 x6 x7 x10 x11 : Value) (ka la : Option Addr) (n kc m lc : Nat) (l : List Int) (wb : Bool) (w : World) (hl : l.length = 104) (h40 : wb = true → m ≤ 40 ∧ n ≤ 64) (CW0 : ∀ W, Below w.heap.size w W → Calls Tryz.prog 26 #[.agg #[x0, x1, x2, x3, x4, x5, x6, x7, .slice ka n kc, .slice la m lc, x10, x11]] W fun e w' => e = .returned (.bool wb) ∧ Below W.heap.size W w') :
   Calls Tryz.prog 19 #[.agg #[x0, x1, x2, x3, x4, x5, x6, x7, .slice ka n kc, .slice la m lc, x10, x11], .agg (Dd.row l)] w fun e w' => e = .returned (.int .i64 (Dd.checkI wb n m l)) ∧ Below w.heap.size w w' := by
 obtain ⟨R, hR⟩ : ∃ R, Dd.checkI wb n m l = R := ⟨_, rfl⟩
 rw [hR]
 obtain ⟨w1, hw1⟩ : ∃ z, (w.alloc (.cells #[x0, x1, x2, x3, x4, x5, x6, x7, .slice ka n kc, .slice la m lc, x10, x11] 32)).alloc (.cells (Dd.row l) 41) = z := ⟨_, rfl⟩
 have h0 : Dd.Bx (w.alloc (.cells #[x0, x1, x2, x3, x4, x5, x6, x7, .slice ka n kc, .slice la m lc, x10, x11] 32)) w.heap.size #[x0, x1, x2, x3, x4, x5, x6, x7, .slice ka n kc, .slice la m lc, x10, x11] := heap_alloc_new w _
 have h1 := Dd.At.new (w.alloc (.cells #[x0, x1, x2, x3, x4, x5, x6, x7, .slice ka n kc, .slice la m lc, x10, x11] 32)) hl
 rw [show (w.alloc (.cells #[x0, x1, x2, x3, x4, x5, x6, x7, .slice ka n kc, .slice la m lc, x10, x11] 32)).heap.size = w.heap.size + 1 by simp, hw1] at h1
 have h2 : Dd.Bx w1 w.heap.size #[x0, x1, x2, x3, x4, x5, x6, x7, .slice ka n kc, .slice la m lc, x10, x11] := by rw [← hw1]; exact h0.keep (Below.heap_alloc _ _ _ h0.lt)
 have B1 : Below w.heap.size w w1 := by rw [← hw1]; exact ((Below.refl _ w).alloc (Nat.le_refl _) _).alloc (by simp) _
 have HB1 : Hid (Below w.heap.size w w1) := B1
 have CW : Hid _ := CW0 w1 B1
 have HF : Hid (∀ W, Below w1.heap.size w1 W → Dd.Bx W w.heap.size #[x0, x1, x2, x3, x4, x5, x6, x7, .slice ka n kc, .slice la m lc, x10, x11] ∧ Dd.At W (w.heap.size + 1) l ∧ Below w.heap.size w W) := fun W hb => ⟨h2.below hb h2.lt, h1.below hb h1.lt, B1.trans (hb.mono B1.size)⟩
 have H1 : Hid _ := hw1
 have NA := h2
 unfold Dd.Bx at NA
 have ha := Tryz.underlying32
 have ia : (Tryz.prog.info? 32).map (·.size) = some (#[x0, x1, x2, x3, x4, x5, x6, x7, .slice ka n kc, .slice la m lc, x10, x11] : Array Value).size := Dd.info_act
 clear hw1 h0 h1 h2 B1 CW0
 cases wb with
 | false =>
   have HR : Hid (R = 4) := hR.symm
   clear hR hl h40
   go_enter Tryz.func19, Tryz.ntmps19
   go_upto_region 1 with fail
   rw [H1.out]
   go_wp2_with (refine wpList_load_row rfl 32 _ rfl _ rfl 32 _ (0, 0) _ NA ha rfl ia ?_)
   refine Calls.mono CW.out ?_
   rintro e W2 ⟨rfl, hb2⟩
   have HB : Hid (Below w.heap.size w W2) := HB1.out.trans (hb2.mono HB1.out.size)
   clear hb2 CW HF NA
   go_wp2
   go_ret
   exact ⟨by rw [HR.out]; rfl, HB.out⟩
 | true =>
 obtain ⟨m40, n64⟩ := h40 rfl
 obtain ⟨r1, hr1⟩ : ∃ z, (Gm.heldB ((l.take 40).take m) 2 && Gm.heldB ((l.take 40).drop m) 0) = z := ⟨_, rfl⟩
 obtain ⟨r2, hr2⟩ : ∃ z, (Gm.heldB ((l.drop 40).take n) 3 && Gm.heldB ((l.drop 40).drop n) 0) = z := ⟨_, rfl⟩
 have HR : Hid (R = if (r1 && r2) = true then 0 else 1) := by
   show _ = _
   rw [← hR, ← hr1, ← hr2]
   rfl
 have e40 : (l.take 40).length = 40 := by simp; omega
 have e64 : (l.drop 40).length = 64 := by simp; omega
 have HA : Hid (∀ W, Dd.At W (w.heap.size + 1) l → Calls Tryz.prog 34 #[.slice (some ⟨w.heap.size + 1, 0, none⟩) 40 40, .int .i64 m, .int .i64 2] W fun e w' => e = .returned (.bool r1) ∧ w' = W) := fun W hA => by
   have h := Tryz.filled_any (w.heap.size + 1) 0 (l.take 40) m 2 W (fun j hj => by
     rw [e40] at hj
     rw [Nat.zero_add, hA.cell j (by omega), List.getElem_take]
     congr 2
     simp [List.getD_eq_getElem?_getD, show j < l.length by omega]) (by omega) (by omega)
   rw [e40, hr1] at h
   exact h
 have HK : Hid (∀ W, Dd.At W (w.heap.size + 1) l → Calls Tryz.prog 34 #[.slice (some ⟨w.heap.size + 1, 40, none⟩) 64 64, .int .i64 n, .int .i64 3] W fun e w' => e = .returned (.bool r2) ∧ w' = W) := fun W hA => by
   have h := Tryz.filled_any (w.heap.size + 1) 40 (l.drop 40) n 3 W (fun j hj => by
     rw [e64] at hj
     rw [hA.cell (40 + j) (by omega), List.getElem_drop]
     congr 2
     simp [List.getD_eq_getElem?_getD, show 40 + j < l.length by omega]) (by omega) (by omega)
   rw [e64, hr2] at h
   exact h
 have q0 : (0 : Int) ≤ m := by omega
 have q1 : (0 : Int) ≤ n := by omega
 clear hR hr1 hr2 e40 e64 hl h40
 go_enter Tryz.func19, Tryz.ntmps19
 go_upto_region 1 with fail
 rw [H1.out]
 go_wp2_with (refine wpList_load_row rfl 32 _ rfl _ rfl 32 _ (0, 0) _ NA ha rfl ia ?_)
 refine Calls.mono CW.out ?_
 rintro e W2 ⟨rfl, hb2⟩
 obtain ⟨h2, h1, HB⟩ := HF.out W2 hb2
 have HB : Hid (Below w.heap.size w W2) := HB
 have hbx : W2.heap[w.heap.size]? = some (.cells #[x0, x1, x2, x3, x4, x5, x6, x7, .slice ka n kc, .slice la m lc, x10, x11] 32 (0, 0)) := h2
 have c8 : W2.cell? ⟨w.heap.size, 8, none⟩ = some (.slice ka n kc) := by simp [World.cell?, hbx]
 have c9 : W2.cell? ⟨w.heap.size, 9, none⟩ = some (.slice la m lc) := by simp [World.cell?, hbx]
 have CA : ∀ nq, Calls Tryz.prog 34 #[.slice (some ⟨w.heap.size + 1, 0, none⟩) 40 40, .int .i64 m, .int .i64 2] (W2.drewN nq) fun e w' => e = .returned (.bool r1) ∧ w' = W2.drewN nq := fun nq => HA.out _ (h1.keep rfl)
 have CK : ∀ nq, Calls Tryz.prog 34 #[.slice (some ⟨w.heap.size + 1, 40, none⟩) 64 64, .int .i64 n, .int .i64 3] (W2.drewN nq) fun e w' => e = .returned (.bool r2) ∧ w' = W2.drewN nq := fun nq => HK.out _ (h1.keep rfl)
 have hst : W2.heap[w.heap.size + 1]? = some (.cells (Dd.row l) 41 (0, 0)) := h1.h
 clear hb2 CW HF NA h2 hbx HA HK h1
 have HCA : Hid _ := CA
 have HCK : Hid _ := CK
 clear CA CK
 have HW2 : Hid (∀ nq, Below w.heap.size w (W2.drewN nq)) := fun nq => HB.out.trans ⟨rfl, rfl, rfl, Nat.le_refl _, fun _ _ => rfl⟩
 cases r1 with
 | false =>
   have HQ : Hid (R = 1) := by rw [HR.out]; rfl
   go_wp2_with fail
   go_quiet (first | (go_at_call 34; with_reducible refine Calls.quiet_of_same (HCA.out _)))
   go_wp2
   go_ret
   exact ⟨by rw [HQ.out]; rfl, HW2.out _⟩
 | true =>
   cases r2 with
   | false =>
     have HQ : Hid (R = 1) := by rw [HR.out]; rfl
     go_wp2_with fail
     go_quiet (first | (go_at_call 34; with_reducible refine Calls.quiet_of_same (HCA.out _)) | (go_at_call 34; with_reducible refine Calls.quiet_of_same (HCK.out _)))
     go_wp2
     go_ret
     exact ⟨by rw [HQ.out]; rfl, HW2.out _⟩
   | true =>
     have HQ : Hid (R = 0) := by rw [HR.out]; rfl
     go_wp2_with fail
     go_quiet (first | (go_at_call 34; with_reducible refine Calls.quiet_of_same (HCA.out _)) | (go_at_call 34; with_reducible refine Calls.quiet_of_same (HCK.out _)))
     go_wp2
     go_ret
     exact ⟨by rw [HQ.out]; rfl, HW2.out _⟩
end Go.Proofs
namespace Go.Proofs
open Go.RowKit Go.Shelf
def Dd.runL (wb : Bool) (n m : Nat) (l : List Int) : List Nat := if Dd.checkI wb n m l ≠ 0 then [] else Dd.running n l
def Dd.lastI (ls : List (Int × Int)) : Int := match ls.findIdx? (fun x => decide (x.2 = -1)) with
 | some i => (i : Int)
 | none => -1
def Dd.overB (wb : Bool) (n : Nat) (ls : List (Int × Int)) (l : List Int) : Bool := if Dd.checkI wb n ls.length l ≠ 0 then false else decide (l.getD (Dd.lastI ls).toNat 0 = 1)
theorem Dd.run_step (_n : Nat) (l : List Int) (k : Nat) : Dd.running (k + 1) l = Dd.running k l ++ if l.getD (40 + k) 0 = 1 then [k] else [] := by
 unfold Dd.running
 rw [List.range_succ, List.filter_append]
 congr 1
 rw [List.filter_cons, List.filter_nil]
 by_cases h : l.getD (40 + k) 0 = 1
 ·rw [if_pos (decide_eq_true h), if_pos h]
 ·rw [if_neg (by simpa using h), if_neg h]
structure Dd.F2 (w : World) (xs : Array Value) (l : List Int) (W : World) : Prop where
 bx : Dd.Bx W w.heap.size xs
 st : Dd.At W (w.heap.size + 1) l
 bel : Below w.heap.size w W
theorem Dd.F2.new (w : World) (xs : Array Value) {l : List Int} (h : l.length = 104) : Dd.F2 w xs l ((w.alloc (.cells xs 32)).alloc (.cells (Dd.row l) 41)) := by
 have h0 : Dd.Bx (w.alloc (.cells xs 32)) w.heap.size xs := heap_alloc_new w _
 have h1 := Dd.At.new (w.alloc (.cells xs 32)) h
 rw [show (w.alloc (.cells xs 32)).heap.size = w.heap.size + 1 by simp] at h1
 exact ⟨h0.keep (Below.heap_alloc _ _ _ h0.lt), h1, ((Below.refl _ w).alloc (Nat.le_refl _) _).alloc (by simp) _⟩
theorem Dd.F2.below {w W W' : World} {xs : Array Value} {l : List Int} (h : Dd.F2 w xs l W) (hb : Below W.heap.size W W') : Dd.F2 w xs l W' :=
 ⟨h.bx.below hb h.bx.lt, h.st.below hb h.st.lt, h.bel.trans (hb.mono h.bel.size)⟩
set_option maxRecDepth 20000 in
set_option maxHeartbeats 16000000 in
theorem Tryz.deadRunning_any (x0 x1 x2 x3 x4 x5 x6 x7 x10 x11 : Value) (ka la : Option Addr) (n kc m lc : Nat) (l : List Int) (wb : Bool) (w : World) (hl : l.length = 104) (h40 : wb = true → m ≤ 40 ∧ n ≤ 64)
  (CW0 : ∀ W, Below w.heap.size w W → Calls Tryz.prog 26 #[.agg #[x0, x1, x2, x3, x4, x5, x6, x7, .slice ka n kc, .slice la m lc, x10, x11]] W fun e w' => e = .returned (.bool wb) ∧ Below W.heap.size W w') :
  Calls Tryz.prog 14 #[.agg #[x0, x1, x2, x3, x4, x5, x6, x7, .slice ka n kc, .slice la m lc, x10, x11], .agg (Dd.row l)] w fun e w' => Nt.Gives (Dd.runL wb n m l) w e w' := by
 obtain ⟨i0, hi, hz0, hz1, hz2⟩ := info_parts Tryz.infoIntR
 obtain ⟨w1, hw1⟩ : ∃ z, (w.alloc (.cells #[x0, x1, x2, x3, x4, x5, x6, x7, .slice ka n kc, .slice la m lc, x10, x11] 32)).alloc (.cells (Dd.row l) 41) = z := ⟨_, rfl⟩
 have F1 := Dd.F2.new w #[x0, x1, x2, x3, x4, x5, x6, x7, .slice ka n kc, .slice la m lc, x10, x11] hl
 rw [hw1] at F1
 have H1 : Hid _ := hw1
 have CC : Hid _ := Tryz.deadCheck_any x0 x1 x2 x3 x4 x5 x6 x7 x10 x11 ka la n kc m lc l wb w1 hl h40 (fun W hb => CW0 W (F1.bel.trans (hb.mono F1.bel.size)))
 obtain ⟨c, hc⟩ : ∃ c, Dd.checkI wb n m l = c := ⟨_, rfl⟩
 obtain ⟨R, hR⟩ : ∃ R, Dd.runL wb n m l = R := ⟨_, rfl⟩
 rw [hc] at CC
 rw [hR]
 have HR : Hid (R = if c ≠ 0 then [] else Dd.running n l) := by
  show _ = _
  rw [← hR, Dd.runL, hc]
 have HC : Hid (Dd.checkI wb n m l = c) := hc
 have HF : Hid (∀ W, Below w1.heap.size w1 W → Dd.F2 w #[x0, x1, x2, x3, x4, x5, x6, x7, .slice ka n kc, .slice la m lc, x10, x11] l W) := fun W hb => F1.below hb
 have H4 : Hid (wb = true → m ≤ 40 ∧ n ≤ 64) := h40
 have NA := F1.bx
 unfold Dd.Bx at NA
 have NS := F1.st.h
 have ha := Tryz.underlying32
 have hu := Tryz.underlying41
 have ia : (Tryz.prog.info? 32).map (·.size) = some (#[x0, x1, x2, x3, x4, x5, x6, x7, .slice ka n kc, .slice la m lc, x10, x11] : Array Value).size := Dd.info_act
 have il := Dd.info_row hl
 clear hw1 F1 hl h40 CW0 hc hR
 by_cases hc0 : c = 0
 ·have e0 : (c != 0) = false := by simp [hc0]
  have hwb : wb = true := by
   cases wb with
   | true => rfl
   | false => have h := HC.out; rw [hc0] at h; simp [Dd.checkI] at h
  have n64 : n ≤ 64 := (H4.out hwb).2
  have HQ : Hid (R = Dd.running n l) := by
   have h := HR.out
   rw [if_neg (by omega)] at h
   exact h
  clear hc0 hwb HR
  go_enter Tryz.func14, Tryz.ntmps14
  go_upto_region 1 with fail
  rw [H1.out]
  go_wp2_with (first
   | refine wpList_load_row rfl 32 _ rfl _ rfl 32 _ (0, 0) _ NA ha rfl ia ?_
   | refine wpList_load_row rfl 41 _ rfl _ rfl 41 (Dd.row l) (0, 0) _ NS hu rfl il ?_)
  refine Calls.mono CC.out ?_
  rintro e W2 ⟨rfl, hb2⟩
  have HF2 : Hid (Dd.F2 w #[x0, x1, x2, x3, x4, x5, x6, x7, .slice ka n kc, .slice la m lc, x10, x11] l W2) := HF.out W2 hb2
  have c8 : W2.cell? ⟨w.heap.size, 8, none⟩ = some (.slice ka n kc) := by
   have h := HF2.out.bx
   unfold Dd.Bx at h
   simp [World.cell?, h]
  clear hb2 CC NA NS HF
  go_wp2
  go_loopg [5, 6, 14] n (fun gk s5 _ s14 wr => ∃ (k r : Nat) (L : List Nat), gk + k = n ∧ s14 = .int .i64 k ∧ r ≤ k ∧ Hid (L = Dd.running k l ∧ L.length = r ∧ Below W2.heap.size W2 wr) ∧ wr.ownsRow W2.heap.size 3 1 s5 r (Rk.nums L))
  case atStart => exact ⟨0, 0, [], by omega, rfl, Nat.le_refl _, ⟨rfl, rfl, Below.refl _ W2⟩, World.ownsRow_nil _ _ _ _⟩
  case round =>
   obtain ⟨k, r, L, hk, rfl, hr, HB, hown⟩ := hrel
   obtain ⟨av, cv, rfl⟩ := Rk.own_shape hown
   clear c8
   by_cases hlt : k < n
   ·have hd : decide ((k : Int) < n) = true := decide_eq_true (by omega)
    obtain ⟨v, hv⟩ : ∃ v, l.getD (40 + k) 0 = v := ⟨_, rfl⟩
    have s1 := (HF2.out.below HB.out.2.2).st.cell (40 + k) (by omega)
    rw [hv] at s1
    have p0 : (0 : Int) ≤ k := by omega
    have p1 : (k : Int) < 64 := by omega
    have HS : Hid (Dd.running (k + 1) l = L ++ if v = 1 then [k] else []) := by
     show _ = _
     rw [Dd.run_step n l k, ← HB.out.1, hv]
    clear hv
    by_cases h1 : v = 1
    ·have e1 : (v == 1) = true := by simp [h1]
     have HN : Hid (Dd.running (k + 1) l = L ++ [k]) := by
      have h := HS.out
      rw [if_pos h1] at h
      exact h
     clear h1 HS
     have hs1 := HB.out.2.2.size
     go_wp2_with (at_builtin; refine wpList_append_own _ rfl _ _ 51 rfl W2.heap.size 3 i0 (.int .i64 0) 1 8 Tryz.underlying51 hi hz0 hz1 hz2 rfl (by decide) _ _ _ rfl (hown.alloc _) ⟨wr.heap.size, 0, none⟩ 1 1 [.int .i64 k] rfl rfl (Rk.one_cell wr k 3) (Rk.one_one k) ?c3 ?c4 ?c5 ?_)
     case c3 => unfold maxLen; omega
     case c4 => omega
     case c5 => simp; omega
     intro v' W3 own2 g2 _
     obtain ⟨a2, c2, rfl⟩ := Rk.own_shape own2
     go_wp2
     go_roundg (gk - 1)
     case measure => omega
     case rel =>
      refine ⟨k + 1, r + 1, L ++ [k], by omega, by go_num, by omega, ⟨HN.out.symm, by simp [HB.out.2.1], Rk.below_grown (HB.out.2.2.alloc hs1 _) (by simp; omega) (hown.alloc _) g2⟩, ?_⟩
      rw [Rk.nums_snoc]; exact own2
    ·have e1 : (v == 1) = false := by simpa using h1
     have HN : Hid (Dd.running (k + 1) l = L) := by
      have h := HS.out
      rw [if_neg h1, List.append_nil] at h
      exact h
     clear h1 HS
     go_wp2
     go_roundg (gk - 1)
     case measure => omega
     case rel => exact ⟨k + 1, r, L, by omega, by go_num, by omega, ⟨HN.out.symm, HB.out.2.1, HB.out.2.2⟩, hown⟩
   ·have hd : decide ((k : Int) < n) = false := decide_eq_false (by omega)
    have HE : Hid (L = R ∧ L.length = r) := by
     obtain rfl : k = n := by omega
     exact ⟨HB.out.1.trans HQ.out.symm, HB.out.2.1⟩
    go_wp2
    go_ret
    rw [← HE.out.1]
    refine ⟨_, rfl, ?_, HF2.out.bel.trans (HB.out.2.2.mono HF2.out.bel.size)⟩
    have h := Nt.own_lower hown HF2.out.bel.size
    rw [← HE.out.2] at h
    rw [← HE.out.2]
    exact h
 ·have e0 : (c != 0) = true := by simpa using hc0
  have HQ : Hid (R = []) := by
   have h := HR.out
   rw [if_pos hc0] at h
   exact h
  clear hc0
  go_enter Tryz.func14, Tryz.ntmps14
  go_upto_region 1 with fail
  rw [H1.out]
  go_wp2_with (first
   | refine wpList_load_row rfl 32 _ rfl _ rfl 32 _ (0, 0) _ NA ha rfl ia ?_
   | refine wpList_load_row rfl 41 _ rfl _ rfl 41 (Dd.row l) (0, 0) _ NS hu rfl il ?_)
  refine Calls.mono CC.out ?_
  rintro e W2 ⟨rfl, hb2⟩
  have HX : Hid (Below w.heap.size w W2) := (HF.out W2 hb2).bel
  clear hb2 CC NA NS HF
  go_wp2
  go_ret
  rw [HQ.out]
  exact ⟨_, rfl, World.ownsRow_nil _ _ _ _, HX.out⟩
end Go.Proofs
