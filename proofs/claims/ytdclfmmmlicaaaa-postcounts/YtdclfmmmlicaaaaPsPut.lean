/-
  The program's Put and Take.
-/
import Derived.Test.YtdclfmmmlicaaaaPsOpen
import Derived.Deep.RegionLaw
import Derived.Deep.RegionHeld3
import Derived.Deep.DeepCutAuto
namespace Go.Proofs
open Go.RowKit Go.Shelf Go.Maps

def Bx.ok (x : Bx) : Prop := (0 ≤ x.1 ∧ x.1 ≤ 3) ∧ (0 ≤ x.2.1 ∧ x.2.1 ≤ 3) ∧ (0 ≤ x.2.2.1 ∧ x.2.2.1 ≤ 3) ∧ (0 ≤ x.2.2.2 ∧ x.2.2.2 ≤ 3)
def Ps.putE (M : Ps.Ofc) (k m : Int) : Int := if Ps.reachE M k m = 0 then (if 3 ≤ (Ps.get M k).at m then 5 else 0) else Ps.reachE M k m
def Ps.putM (M : Ps.Ofc) (k m : Int) : Ps.Ofc := if Ps.putE M k m = 0 then Ps.set M k ((Ps.get M k).put m ((Ps.get M k).at m + 1)) else M
def Ps.takeE (M : Ps.Ofc) (k m : Int) : Int := if Ps.reachE M k m = 0 then (if (Ps.get M k).at m = 0 then 6 else 0) else Ps.reachE M k m
def Ps.takeM (M : Ps.Ofc) (k m : Int) : Ps.Ofc := if Ps.takeE M k m = 0 then Ps.set M k ((Ps.get M k).put m ((Ps.get M k).at m - 1)) else M

theorem Ps.at_op {P : Program} {ops : Array Oper} {o : Oper} {a : Act} {w : World} {K : Act → World → Prop} {Q : Exit → Act → World → Prop} {E : Prop} (x : Op) (_hop : o.op = x)
    (h : if Region.wanted o (yielded ops a.tmps) = true then Oper.wp P o a w K Q else E) : if Region.wanted o (yielded ops a.tmps) = true then Oper.wp P o a w K Q else E := h
theorem Ps.step_map {P : Program} {ops : Array Oper} {o : Oper} {a : Act} {w : World} {K : Act → World → Prop} {Q : Exit → Act → World → Prop} {E : Prop}
    (hg : o.guard = none) (m x v : Operand) (t : TypeId) (hop : o.op = Op.mapUpdate t m x v)
    (k e : TypeId) (L : Keyed P k) (ht : P.underlying t = some (.map k e)) (b n : Nat) (D : DataW Bx)
    (hm : a.eval m = .map (some b)) (hown : w.ownsMap P k Ps.R b n D) (hn : n < maxLen) (key val : Value) (kl : Lit) (hx : a.eval x = key) (hv : a.eval v = val) (hkey : keyOf P k key = some kl)
    (y : Bx) (hval : val = Bx.val y)
    (hK : ∀ w', w'.ownsMap P k Ps.R b (n + 1) (D.put kl (.held y)) → w.grownBy w' (some b) → K (a.put o.dst undef) w') :
    if Region.wanted o (yielded ops a.tmps) = true then Oper.wp P o a w K Q else E := by
  have hw : Region.wanted o (yielded ops a.tmps) = true := by simp [Region.wanted, hg]
  rw [if_pos hw]
  obtain ⟨w', hrun, r1, r2⟩ := hown.update L ht hn hkey (hval ▸ Ps.R_val y)
  unfold Oper.wp
  simp [execOp, hop, hm, hx, hv, hrun, Result.andThen]
  exact hK w' r1 r2
theorem Ps.reach0 {M : Ps.Ofc} {k m : Int} (h : Ps.reachE M k m = 0) : (m = 0 ∨ m = 1 ∨ m = 2 ∨ m = 3) ∧ Ps.has M k = true := by
  unfold Ps.reachE at h
  split at h
  · omega
  · split at h
    · rename_i h1 h2
      exact ⟨by omega, h2⟩
    · omega

set_option maxRecDepth 20000 in
set_option maxHeartbeats 3200000 in
theorem Try.pPut_any (o : Nat) (pm : Option Nat) (M : Ps.Ofc) (k m : Int) (hk : (Lit.int .i64 k).wf = true) (w : World) (h : Ps.At o pm M w) (hb : Bx.ok (Ps.get M k)) (hlen : M.length ≤ 8) :
    Calls Try.prog 17 #[.pointer (some ⟨o, 0, none⟩), .int .i64 k, .int .i64 m] w fun e w' => e = .returned (.int .i64 (Ps.putE M k m)) ∧ Ps.At o pm (Ps.putM M k m) w' ∧ Tk.But (fun x => x = o ∨ pm = some x) w w' := by
  have C1 := Try.pReach_any o pm M k m hk w h
  by_cases h0 : Ps.reachE M k m = 0
  · obtain ⟨hm, hh⟩ := Ps.reach0 h0
    obtain ⟨⟨a, b, c, d⟩, hg⟩ : ∃ x, Ps.get M k = x := ⟨_, rfl⟩
    have eB : Ps.reachB M k m = (a, b, c, d) := by unfold Ps.reachB; rw [if_pos h0, hg]
    rw [eB, h0] at C1
    rw [hg] at hb
    obtain ⟨⟨a0, a1⟩, ⟨b0, b1⟩, ⟨c0, c1⟩, ⟨d0, d1⟩⟩ := hb
    simp only at a0 a1 b0 b1 c0 c1 d0 d1
    cases pm with
    | none =>
      rw [h.2.1 rfl] at hh
      cases hh
    | some B =>
      have hkey : keyOf Try.prog 3 (.int .i64 k) = some (.int .i64 k) := keyOf_int_mk Try.underlying3 hk
      have hn : M.length < maxLen := by unfold maxLen; omega
      have H : Hid (Ps.At o (some B) M w ∧ Ps.has M k = true ∧ Ps.get M k = (a, b, c, d) ∧ Ps.reachE M k m = 0) := ⟨h, hh, hg, h0⟩
      have HC : Hid _ := C1
      clear h hh hg h0 eB C1
      rcases hm with rfl | rfl | rfl | rfl
      · by_cases ht : 3 ≤ a
        · have e1 : Ps.putE M k 0 = 5 := by unfold Ps.putE; rw [if_pos H.out.2.2.2, H.out.2.2.1]; exact if_pos ht
          have e2 : Ps.putM M k 0 = M := by unfold Ps.putM; rw [e1, if_neg (by omega)]
          rw [e1, e2]
          have dd : decide (3 ≤ a) = true := decide_eq_true ht
          clear e1 e2 ht b0 b1 c0 c1 d0 d1
          go_enter Try.func17, Try.ntmps17
          go_wp2_with fail
          refine Calls.mono HC.out ?_
          rintro e W1 ⟨rfl, hB⟩
          have HB : Hid (Below w.heap.size w W1) := hB
          clear hB HC
          simp only [Bx.val]
          go_wp2
          go_ret
          exact ⟨rfl, (H.out.1.below HB.out (Nat.le_refl _)).alloc _, (Tk.But.of_below HB.out).alloc _⟩
        · have e1 : Ps.putE M k 0 = 0 := by unfold Ps.putE; rw [if_pos H.out.2.2.2, H.out.2.2.1]; exact if_neg ht
          have e2 : Ps.putM M k 0 = Ps.set M k ((a + 1), b, c, d) := by unfold Ps.putM; rw [e1, if_pos rfl, H.out.2.2.1]; rfl
          rw [e1, e2]
          have dd : decide (3 ≤ a) = false := decide_eq_false ht
          clear e1 e2 b0 b1 c0 c1 d0 d1
          go_enter Try.func17, Try.ntmps17
          go_wp2_with fail
          refine Calls.mono HC.out ?_
          rintro e W1 ⟨rfl, hB⟩
          have HB : Hid (Below w.heap.size w W1) := hB
          clear hB HC
          simp only [Bx.val]
          have h3 := (H.out.1.below HB.out (Nat.le_refl _)).alloc (.cells #[.int .i64 (a + 1), .int .i64 b, .int .i64 c, .int .i64 d] 53)
          have c3 := h3.cell
          obtain ⟨D, hown, hi⟩ := h3.2.2 B rfl
          have HD : Hid (Ps.At o (some B) M (W1.alloc (.cells #[.int .i64 (a + 1), .int .i64 b, .int .i64 c, .int .i64 d] 53)) ∧ Ps.Is D M) := ⟨h3, hi⟩
          obtain ⟨w1, hrun, hown1, hgrow1⟩ := (World.ownsMap.drew hown).update Ps.law Try.underlying49 hn hkey (Ps.R_val ((a + 1), b, c, d))
          simp only [Bx.val] at hrun
          have HO : Hid (w1.ownsMap Try.prog 3 Ps.R B (M.length + 1) (D.put (.int .i64 k) (.held ((a + 1), b, c, d))) ∧ (W1.alloc (.cells #[.int .i64 (a + 1), .int .i64 b, .int .i64 c, .int .i64 d] 53)).drew.grownBy w1 (some B)) := ⟨hown1, hgrow1⟩
          clear h3 hi hown hown1 hgrow1
          go_upto_region 7 with fail
          go_region_law (fail)
          all_goals
            go_wp2
            go_ret
            obtain ⟨r1, r2⟩ := Ps.At.store (W := (W1.alloc (.cells #[.int .i64 (a + 1), .int .i64 b, .int .i64 c, .int .i64 d] 53)).drew) HD.out.1 HO.out.1 (HD.out.2.put_old k _ H.out.2.1) HO.out.2
            have q1 : Tk.But (fun x => x = o ∨ some B = some x) w (W1.alloc (.cells #[.int .i64 (a + 1), .int .i64 b, .int .i64 c, .int .i64 d] 53)) := (Tk.But.of_below HB.out).alloc _
            exact ⟨rfl, r1, (q1.drewN 1).trans ⟨r2.os, r2.tape, r2.output, r2.size, fun i hi he => r2.block i hi (fun e => he (.inr (by rw [e])))⟩⟩
      · by_cases ht : 3 ≤ b
        · have e1 : Ps.putE M k 1 = 5 := by unfold Ps.putE; rw [if_pos H.out.2.2.2, H.out.2.2.1]; exact if_pos ht
          have e2 : Ps.putM M k 1 = M := by unfold Ps.putM; rw [e1, if_neg (by omega)]
          rw [e1, e2]
          have dd : decide (3 ≤ b) = true := decide_eq_true ht
          clear e1 e2 ht a0 a1 c0 c1 d0 d1
          go_enter Try.func17, Try.ntmps17
          go_wp2_with fail
          refine Calls.mono HC.out ?_
          rintro e W1 ⟨rfl, hB⟩
          have HB : Hid (Below w.heap.size w W1) := hB
          clear hB HC
          simp only [Bx.val]
          go_wp2
          go_ret
          exact ⟨rfl, (H.out.1.below HB.out (Nat.le_refl _)).alloc _, (Tk.But.of_below HB.out).alloc _⟩
        · have e1 : Ps.putE M k 1 = 0 := by unfold Ps.putE; rw [if_pos H.out.2.2.2, H.out.2.2.1]; exact if_neg ht
          have e2 : Ps.putM M k 1 = Ps.set M k (a, (b + 1), c, d) := by unfold Ps.putM; rw [e1, if_pos rfl, H.out.2.2.1]; rfl
          rw [e1, e2]
          have dd : decide (3 ≤ b) = false := decide_eq_false ht
          clear e1 e2 a0 a1 c0 c1 d0 d1
          go_enter Try.func17, Try.ntmps17
          go_wp2_with fail
          refine Calls.mono HC.out ?_
          rintro e W1 ⟨rfl, hB⟩
          have HB : Hid (Below w.heap.size w W1) := hB
          clear hB HC
          simp only [Bx.val]
          have h3 := (H.out.1.below HB.out (Nat.le_refl _)).alloc (.cells #[.int .i64 a, .int .i64 (b + 1), .int .i64 c, .int .i64 d] 53)
          have c3 := h3.cell
          obtain ⟨D, hown, hi⟩ := h3.2.2 B rfl
          have HD : Hid (Ps.At o (some B) M (W1.alloc (.cells #[.int .i64 a, .int .i64 (b + 1), .int .i64 c, .int .i64 d] 53)) ∧ Ps.Is D M) := ⟨h3, hi⟩
          obtain ⟨w1, hrun, hown1, hgrow1⟩ := (World.ownsMap.drew hown).update Ps.law Try.underlying49 hn hkey (Ps.R_val (a, (b + 1), c, d))
          simp only [Bx.val] at hrun
          have HO : Hid (w1.ownsMap Try.prog 3 Ps.R B (M.length + 1) (D.put (.int .i64 k) (.held (a, (b + 1), c, d))) ∧ (W1.alloc (.cells #[.int .i64 a, .int .i64 (b + 1), .int .i64 c, .int .i64 d] 53)).drew.grownBy w1 (some B)) := ⟨hown1, hgrow1⟩
          clear h3 hi hown hown1 hgrow1
          go_upto_region 7 with fail
          go_region_law (fail)
          all_goals
            go_wp2
            go_ret
            obtain ⟨r1, r2⟩ := Ps.At.store (W := (W1.alloc (.cells #[.int .i64 a, .int .i64 (b + 1), .int .i64 c, .int .i64 d] 53)).drew) HD.out.1 HO.out.1 (HD.out.2.put_old k _ H.out.2.1) HO.out.2
            have q1 : Tk.But (fun x => x = o ∨ some B = some x) w (W1.alloc (.cells #[.int .i64 a, .int .i64 (b + 1), .int .i64 c, .int .i64 d] 53)) := (Tk.But.of_below HB.out).alloc _
            exact ⟨rfl, r1, (q1.drewN 1).trans ⟨r2.os, r2.tape, r2.output, r2.size, fun i hi he => r2.block i hi (fun e => he (.inr (by rw [e])))⟩⟩
      · by_cases ht : 3 ≤ c
        · have e1 : Ps.putE M k 2 = 5 := by unfold Ps.putE; rw [if_pos H.out.2.2.2, H.out.2.2.1]; exact if_pos ht
          have e2 : Ps.putM M k 2 = M := by unfold Ps.putM; rw [e1, if_neg (by omega)]
          rw [e1, e2]
          have dd : decide (3 ≤ c) = true := decide_eq_true ht
          clear e1 e2 ht a0 a1 b0 b1 d0 d1
          go_enter Try.func17, Try.ntmps17
          go_wp2_with fail
          refine Calls.mono HC.out ?_
          rintro e W1 ⟨rfl, hB⟩
          have HB : Hid (Below w.heap.size w W1) := hB
          clear hB HC
          simp only [Bx.val]
          go_wp2
          go_ret
          exact ⟨rfl, (H.out.1.below HB.out (Nat.le_refl _)).alloc _, (Tk.But.of_below HB.out).alloc _⟩
        · have e1 : Ps.putE M k 2 = 0 := by unfold Ps.putE; rw [if_pos H.out.2.2.2, H.out.2.2.1]; exact if_neg ht
          have e2 : Ps.putM M k 2 = Ps.set M k (a, b, (c + 1), d) := by unfold Ps.putM; rw [e1, if_pos rfl, H.out.2.2.1]; rfl
          rw [e1, e2]
          have dd : decide (3 ≤ c) = false := decide_eq_false ht
          clear e1 e2 a0 a1 b0 b1 d0 d1
          go_enter Try.func17, Try.ntmps17
          go_wp2_with fail
          refine Calls.mono HC.out ?_
          rintro e W1 ⟨rfl, hB⟩
          have HB : Hid (Below w.heap.size w W1) := hB
          clear hB HC
          simp only [Bx.val]
          have h3 := (H.out.1.below HB.out (Nat.le_refl _)).alloc (.cells #[.int .i64 a, .int .i64 b, .int .i64 (c + 1), .int .i64 d] 53)
          have c3 := h3.cell
          obtain ⟨D, hown, hi⟩ := h3.2.2 B rfl
          have HD : Hid (Ps.At o (some B) M (W1.alloc (.cells #[.int .i64 a, .int .i64 b, .int .i64 (c + 1), .int .i64 d] 53)) ∧ Ps.Is D M) := ⟨h3, hi⟩
          obtain ⟨w1, hrun, hown1, hgrow1⟩ := (World.ownsMap.drew hown).update Ps.law Try.underlying49 hn hkey (Ps.R_val (a, b, (c + 1), d))
          simp only [Bx.val] at hrun
          have HO : Hid (w1.ownsMap Try.prog 3 Ps.R B (M.length + 1) (D.put (.int .i64 k) (.held (a, b, (c + 1), d))) ∧ (W1.alloc (.cells #[.int .i64 a, .int .i64 b, .int .i64 (c + 1), .int .i64 d] 53)).drew.grownBy w1 (some B)) := ⟨hown1, hgrow1⟩
          clear h3 hi hown hown1 hgrow1
          go_upto_region 7 with fail
          go_region_law (fail)
          all_goals
            go_wp2
            go_ret
            obtain ⟨r1, r2⟩ := Ps.At.store (W := (W1.alloc (.cells #[.int .i64 a, .int .i64 b, .int .i64 (c + 1), .int .i64 d] 53)).drew) HD.out.1 HO.out.1 (HD.out.2.put_old k _ H.out.2.1) HO.out.2
            have q1 : Tk.But (fun x => x = o ∨ some B = some x) w (W1.alloc (.cells #[.int .i64 a, .int .i64 b, .int .i64 (c + 1), .int .i64 d] 53)) := (Tk.But.of_below HB.out).alloc _
            exact ⟨rfl, r1, (q1.drewN 1).trans ⟨r2.os, r2.tape, r2.output, r2.size, fun i hi he => r2.block i hi (fun e => he (.inr (by rw [e])))⟩⟩
      · by_cases ht : 3 ≤ d
        · have e1 : Ps.putE M k 3 = 5 := by unfold Ps.putE; rw [if_pos H.out.2.2.2, H.out.2.2.1]; exact if_pos ht
          have e2 : Ps.putM M k 3 = M := by unfold Ps.putM; rw [e1, if_neg (by omega)]
          rw [e1, e2]
          have dd : decide (3 ≤ d) = true := decide_eq_true ht
          clear e1 e2 ht a0 a1 b0 b1 c0 c1
          go_enter Try.func17, Try.ntmps17
          go_wp2_with fail
          refine Calls.mono HC.out ?_
          rintro e W1 ⟨rfl, hB⟩
          have HB : Hid (Below w.heap.size w W1) := hB
          clear hB HC
          simp only [Bx.val]
          go_wp2
          go_ret
          exact ⟨rfl, (H.out.1.below HB.out (Nat.le_refl _)).alloc _, (Tk.But.of_below HB.out).alloc _⟩
        · have e1 : Ps.putE M k 3 = 0 := by unfold Ps.putE; rw [if_pos H.out.2.2.2, H.out.2.2.1]; exact if_neg ht
          have e2 : Ps.putM M k 3 = Ps.set M k (a, b, c, (d + 1)) := by unfold Ps.putM; rw [e1, if_pos rfl, H.out.2.2.1]; rfl
          rw [e1, e2]
          have dd : decide (3 ≤ d) = false := decide_eq_false ht
          clear e1 e2 a0 a1 b0 b1 c0 c1
          go_enter Try.func17, Try.ntmps17
          go_wp2_with fail
          refine Calls.mono HC.out ?_
          rintro e W1 ⟨rfl, hB⟩
          have HB : Hid (Below w.heap.size w W1) := hB
          clear hB HC
          simp only [Bx.val]
          have h3 := (H.out.1.below HB.out (Nat.le_refl _)).alloc (.cells #[.int .i64 a, .int .i64 b, .int .i64 c, .int .i64 (d + 1)] 53)
          have c3 := h3.cell
          obtain ⟨D, hown, hi⟩ := h3.2.2 B rfl
          have HD : Hid (Ps.At o (some B) M (W1.alloc (.cells #[.int .i64 a, .int .i64 b, .int .i64 c, .int .i64 (d + 1)] 53)) ∧ Ps.Is D M) := ⟨h3, hi⟩
          obtain ⟨w1, hrun, hown1, hgrow1⟩ := (World.ownsMap.drew hown).update Ps.law Try.underlying49 hn hkey (Ps.R_val (a, b, c, (d + 1)))
          simp only [Bx.val] at hrun
          have HO : Hid (w1.ownsMap Try.prog 3 Ps.R B (M.length + 1) (D.put (.int .i64 k) (.held (a, b, c, (d + 1)))) ∧ (W1.alloc (.cells #[.int .i64 a, .int .i64 b, .int .i64 c, .int .i64 (d + 1)] 53)).drew.grownBy w1 (some B)) := ⟨hown1, hgrow1⟩
          clear h3 hi hown hown1 hgrow1
          go_upto_region 7 with fail
          go_region_law (fail)
          all_goals
            go_wp2
            go_ret
            obtain ⟨r1, r2⟩ := Ps.At.store (W := (W1.alloc (.cells #[.int .i64 a, .int .i64 b, .int .i64 c, .int .i64 (d + 1)] 53)).drew) HD.out.1 HO.out.1 (HD.out.2.put_old k _ H.out.2.1) HO.out.2
            have q1 : Tk.But (fun x => x = o ∨ some B = some x) w (W1.alloc (.cells #[.int .i64 a, .int .i64 b, .int .i64 c, .int .i64 (d + 1)] 53)) := (Tk.But.of_below HB.out).alloc _
            exact ⟨rfl, r1, (q1.drewN 1).trans ⟨r2.os, r2.tape, r2.output, r2.size, fun i hi he => r2.block i hi (fun e => he (.inr (by rw [e])))⟩⟩
  · have e1 : Ps.putE M k m = Ps.reachE M k m := by unfold Ps.putE; rw [if_neg h0]
    have e2 : Ps.putM M k m = M := by unfold Ps.putM; rw [e1, if_neg h0]
    have eB : Ps.reachB M k m = (0, 0, 0, 0) := by unfold Ps.reachB; rw [if_neg h0]; rfl
    rw [eB] at C1
    rw [e1, e2]
    obtain ⟨x, hx⟩ : ∃ x, Ps.reachE M k m = x := ⟨_, rfl⟩
    rw [hx] at C1 h0 ⊢
    have hd : (x != 0) = true := by simpa using h0
    have H : Hid (Ps.At o pm M w) := h
    have HC : Hid _ := C1
    clear h e1 e2 eB hx h0 C1 hb
    go_enter Try.func17, Try.ntmps17
    go_wp2_with fail
    refine Calls.mono HC.out ?_
    rintro e W1 ⟨rfl, hB⟩
    have HB : Hid (Below w.heap.size w W1) := hB
    clear hB HC
    simp only [Bx.val]
    go_wp2
    go_ret
    exact ⟨rfl, (H.out.below HB.out (Nat.le_refl _)).alloc _, (Tk.But.of_below HB.out).alloc _⟩

set_option maxRecDepth 20000 in
set_option maxHeartbeats 3200000 in
theorem Try.pTake_any (o : Nat) (pm : Option Nat) (M : Ps.Ofc) (k m : Int) (hk : (Lit.int .i64 k).wf = true) (w : World) (h : Ps.At o pm M w) (hb : Bx.ok (Ps.get M k)) (hlen : M.length ≤ 8) :
    Calls Try.prog 18 #[.pointer (some ⟨o, 0, none⟩), .int .i64 k, .int .i64 m] w fun e w' => e = .returned (.int .i64 (Ps.takeE M k m)) ∧ Ps.At o pm (Ps.takeM M k m) w' ∧ Tk.But (fun x => x = o ∨ pm = some x) w w' := by
  have C1 := Try.pReach_any o pm M k m hk w h
  by_cases h0 : Ps.reachE M k m = 0
  · obtain ⟨hm, hh⟩ := Ps.reach0 h0
    obtain ⟨⟨a, b, c, d⟩, hg⟩ : ∃ x, Ps.get M k = x := ⟨_, rfl⟩
    have eB : Ps.reachB M k m = (a, b, c, d) := by unfold Ps.reachB; rw [if_pos h0, hg]
    rw [eB, h0] at C1
    rw [hg] at hb
    obtain ⟨⟨a0, a1⟩, ⟨b0, b1⟩, ⟨c0, c1⟩, ⟨d0, d1⟩⟩ := hb
    simp only at a0 a1 b0 b1 c0 c1 d0 d1
    cases pm with
    | none =>
      rw [h.2.1 rfl] at hh
      cases hh
    | some B =>
      have hkey : keyOf Try.prog 3 (.int .i64 k) = some (.int .i64 k) := keyOf_int_mk Try.underlying3 hk
      have hn : M.length < maxLen := by unfold maxLen; omega
      have H : Hid (Ps.At o (some B) M w ∧ Ps.has M k = true ∧ Ps.get M k = (a, b, c, d) ∧ Ps.reachE M k m = 0) := ⟨h, hh, hg, h0⟩
      have HC : Hid _ := C1
      clear h hh hg h0 eB C1
      rcases hm with rfl | rfl | rfl | rfl
      · by_cases ht : a = 0
        · have e1 : Ps.takeE M k 0 = 6 := by unfold Ps.takeE; rw [if_pos H.out.2.2.2, H.out.2.2.1]; exact if_pos ht
          have e2 : Ps.takeM M k 0 = M := by unfold Ps.takeM; rw [e1, if_neg (by omega)]
          rw [e1, e2]
          have dd : (a == 0) = true := by simpa using ht
          clear e1 e2 ht b0 b1 c0 c1 d0 d1
          go_enter Try.func18, Try.ntmps18
          go_wp2_with fail
          refine Calls.mono HC.out ?_
          rintro e W1 ⟨rfl, hB⟩
          have HB : Hid (Below w.heap.size w W1) := hB
          clear hB HC
          simp only [Bx.val]
          go_wp2
          go_ret
          exact ⟨rfl, (H.out.1.below HB.out (Nat.le_refl _)).alloc _, (Tk.But.of_below HB.out).alloc _⟩
        · have e1 : Ps.takeE M k 0 = 0 := by unfold Ps.takeE; rw [if_pos H.out.2.2.2, H.out.2.2.1]; exact if_neg ht
          have e2 : Ps.takeM M k 0 = Ps.set M k ((a - 1), b, c, d) := by unfold Ps.takeM; rw [e1, if_pos rfl, H.out.2.2.1]; rfl
          rw [e1, e2]
          have dd : (a == 0) = false := by simpa using ht
          clear e1 e2 b0 b1 c0 c1 d0 d1
          go_enter Try.func18, Try.ntmps18
          go_wp2_with fail
          refine Calls.mono HC.out ?_
          rintro e W1 ⟨rfl, hB⟩
          have HB : Hid (Below w.heap.size w W1) := hB
          clear hB HC
          simp only [Bx.val]
          have h3 := (H.out.1.below HB.out (Nat.le_refl _)).alloc (.cells #[.int .i64 (a - 1), .int .i64 b, .int .i64 c, .int .i64 d] 53)
          have c3 := h3.cell
          obtain ⟨D, hown, hi⟩ := h3.2.2 B rfl
          have HD : Hid (Ps.At o (some B) M (W1.alloc (.cells #[.int .i64 (a - 1), .int .i64 b, .int .i64 c, .int .i64 d] 53)) ∧ Ps.Is D M) := ⟨h3, hi⟩
          obtain ⟨w1, hrun, hown1, hgrow1⟩ := (World.ownsMap.drew hown).update Ps.law Try.underlying49 hn hkey (Ps.R_val ((a - 1), b, c, d))
          simp only [Bx.val] at hrun
          have HO : Hid (w1.ownsMap Try.prog 3 Ps.R B (M.length + 1) (D.put (.int .i64 k) (.held ((a - 1), b, c, d))) ∧ (W1.alloc (.cells #[.int .i64 (a - 1), .int .i64 b, .int .i64 c, .int .i64 d] 53)).drew.grownBy w1 (some B)) := ⟨hown1, hgrow1⟩
          clear h3 hi hown hown1 hgrow1
          go_upto_region 7 with fail
          go_region_law (fail)
          all_goals
            go_wp2
            go_ret
            obtain ⟨r1, r2⟩ := Ps.At.store (W := (W1.alloc (.cells #[.int .i64 (a - 1), .int .i64 b, .int .i64 c, .int .i64 d] 53)).drew) HD.out.1 HO.out.1 (HD.out.2.put_old k _ H.out.2.1) HO.out.2
            have q1 : Tk.But (fun x => x = o ∨ some B = some x) w (W1.alloc (.cells #[.int .i64 (a - 1), .int .i64 b, .int .i64 c, .int .i64 d] 53)) := (Tk.But.of_below HB.out).alloc _
            exact ⟨rfl, r1, (q1.drewN 1).trans ⟨r2.os, r2.tape, r2.output, r2.size, fun i hi he => r2.block i hi (fun e => he (.inr (by rw [e])))⟩⟩
      · by_cases ht : b = 0
        · have e1 : Ps.takeE M k 1 = 6 := by unfold Ps.takeE; rw [if_pos H.out.2.2.2, H.out.2.2.1]; exact if_pos ht
          have e2 : Ps.takeM M k 1 = M := by unfold Ps.takeM; rw [e1, if_neg (by omega)]
          rw [e1, e2]
          have dd : (b == 0) = true := by simpa using ht
          clear e1 e2 ht a0 a1 c0 c1 d0 d1
          go_enter Try.func18, Try.ntmps18
          go_wp2_with fail
          refine Calls.mono HC.out ?_
          rintro e W1 ⟨rfl, hB⟩
          have HB : Hid (Below w.heap.size w W1) := hB
          clear hB HC
          simp only [Bx.val]
          go_wp2
          go_ret
          exact ⟨rfl, (H.out.1.below HB.out (Nat.le_refl _)).alloc _, (Tk.But.of_below HB.out).alloc _⟩
        · have e1 : Ps.takeE M k 1 = 0 := by unfold Ps.takeE; rw [if_pos H.out.2.2.2, H.out.2.2.1]; exact if_neg ht
          have e2 : Ps.takeM M k 1 = Ps.set M k (a, (b - 1), c, d) := by unfold Ps.takeM; rw [e1, if_pos rfl, H.out.2.2.1]; rfl
          rw [e1, e2]
          have dd : (b == 0) = false := by simpa using ht
          clear e1 e2 a0 a1 c0 c1 d0 d1
          go_enter Try.func18, Try.ntmps18
          go_wp2_with fail
          refine Calls.mono HC.out ?_
          rintro e W1 ⟨rfl, hB⟩
          have HB : Hid (Below w.heap.size w W1) := hB
          clear hB HC
          simp only [Bx.val]
          have h3 := (H.out.1.below HB.out (Nat.le_refl _)).alloc (.cells #[.int .i64 a, .int .i64 (b - 1), .int .i64 c, .int .i64 d] 53)
          have c3 := h3.cell
          obtain ⟨D, hown, hi⟩ := h3.2.2 B rfl
          have HD : Hid (Ps.At o (some B) M (W1.alloc (.cells #[.int .i64 a, .int .i64 (b - 1), .int .i64 c, .int .i64 d] 53)) ∧ Ps.Is D M) := ⟨h3, hi⟩
          obtain ⟨w1, hrun, hown1, hgrow1⟩ := (World.ownsMap.drew hown).update Ps.law Try.underlying49 hn hkey (Ps.R_val (a, (b - 1), c, d))
          simp only [Bx.val] at hrun
          have HO : Hid (w1.ownsMap Try.prog 3 Ps.R B (M.length + 1) (D.put (.int .i64 k) (.held (a, (b - 1), c, d))) ∧ (W1.alloc (.cells #[.int .i64 a, .int .i64 (b - 1), .int .i64 c, .int .i64 d] 53)).drew.grownBy w1 (some B)) := ⟨hown1, hgrow1⟩
          clear h3 hi hown hown1 hgrow1
          go_upto_region 7 with fail
          go_region_law (fail)
          all_goals
            go_wp2
            go_ret
            obtain ⟨r1, r2⟩ := Ps.At.store (W := (W1.alloc (.cells #[.int .i64 a, .int .i64 (b - 1), .int .i64 c, .int .i64 d] 53)).drew) HD.out.1 HO.out.1 (HD.out.2.put_old k _ H.out.2.1) HO.out.2
            have q1 : Tk.But (fun x => x = o ∨ some B = some x) w (W1.alloc (.cells #[.int .i64 a, .int .i64 (b - 1), .int .i64 c, .int .i64 d] 53)) := (Tk.But.of_below HB.out).alloc _
            exact ⟨rfl, r1, (q1.drewN 1).trans ⟨r2.os, r2.tape, r2.output, r2.size, fun i hi he => r2.block i hi (fun e => he (.inr (by rw [e])))⟩⟩
      · by_cases ht : c = 0
        · have e1 : Ps.takeE M k 2 = 6 := by unfold Ps.takeE; rw [if_pos H.out.2.2.2, H.out.2.2.1]; exact if_pos ht
          have e2 : Ps.takeM M k 2 = M := by unfold Ps.takeM; rw [e1, if_neg (by omega)]
          rw [e1, e2]
          have dd : (c == 0) = true := by simpa using ht
          clear e1 e2 ht a0 a1 b0 b1 d0 d1
          go_enter Try.func18, Try.ntmps18
          go_wp2_with fail
          refine Calls.mono HC.out ?_
          rintro e W1 ⟨rfl, hB⟩
          have HB : Hid (Below w.heap.size w W1) := hB
          clear hB HC
          simp only [Bx.val]
          go_wp2
          go_ret
          exact ⟨rfl, (H.out.1.below HB.out (Nat.le_refl _)).alloc _, (Tk.But.of_below HB.out).alloc _⟩
        · have e1 : Ps.takeE M k 2 = 0 := by unfold Ps.takeE; rw [if_pos H.out.2.2.2, H.out.2.2.1]; exact if_neg ht
          have e2 : Ps.takeM M k 2 = Ps.set M k (a, b, (c - 1), d) := by unfold Ps.takeM; rw [e1, if_pos rfl, H.out.2.2.1]; rfl
          rw [e1, e2]
          have dd : (c == 0) = false := by simpa using ht
          clear e1 e2 a0 a1 b0 b1 d0 d1
          go_enter Try.func18, Try.ntmps18
          go_wp2_with fail
          refine Calls.mono HC.out ?_
          rintro e W1 ⟨rfl, hB⟩
          have HB : Hid (Below w.heap.size w W1) := hB
          clear hB HC
          simp only [Bx.val]
          have h3 := (H.out.1.below HB.out (Nat.le_refl _)).alloc (.cells #[.int .i64 a, .int .i64 b, .int .i64 (c - 1), .int .i64 d] 53)
          have c3 := h3.cell
          obtain ⟨D, hown, hi⟩ := h3.2.2 B rfl
          have HD : Hid (Ps.At o (some B) M (W1.alloc (.cells #[.int .i64 a, .int .i64 b, .int .i64 (c - 1), .int .i64 d] 53)) ∧ Ps.Is D M) := ⟨h3, hi⟩
          obtain ⟨w1, hrun, hown1, hgrow1⟩ := (World.ownsMap.drew hown).update Ps.law Try.underlying49 hn hkey (Ps.R_val (a, b, (c - 1), d))
          simp only [Bx.val] at hrun
          have HO : Hid (w1.ownsMap Try.prog 3 Ps.R B (M.length + 1) (D.put (.int .i64 k) (.held (a, b, (c - 1), d))) ∧ (W1.alloc (.cells #[.int .i64 a, .int .i64 b, .int .i64 (c - 1), .int .i64 d] 53)).drew.grownBy w1 (some B)) := ⟨hown1, hgrow1⟩
          clear h3 hi hown hown1 hgrow1
          go_upto_region 7 with fail
          go_region_law (fail)
          all_goals
            go_wp2
            go_ret
            obtain ⟨r1, r2⟩ := Ps.At.store (W := (W1.alloc (.cells #[.int .i64 a, .int .i64 b, .int .i64 (c - 1), .int .i64 d] 53)).drew) HD.out.1 HO.out.1 (HD.out.2.put_old k _ H.out.2.1) HO.out.2
            have q1 : Tk.But (fun x => x = o ∨ some B = some x) w (W1.alloc (.cells #[.int .i64 a, .int .i64 b, .int .i64 (c - 1), .int .i64 d] 53)) := (Tk.But.of_below HB.out).alloc _
            exact ⟨rfl, r1, (q1.drewN 1).trans ⟨r2.os, r2.tape, r2.output, r2.size, fun i hi he => r2.block i hi (fun e => he (.inr (by rw [e])))⟩⟩
      · by_cases ht : d = 0
        · have e1 : Ps.takeE M k 3 = 6 := by unfold Ps.takeE; rw [if_pos H.out.2.2.2, H.out.2.2.1]; exact if_pos ht
          have e2 : Ps.takeM M k 3 = M := by unfold Ps.takeM; rw [e1, if_neg (by omega)]
          rw [e1, e2]
          have dd : (d == 0) = true := by simpa using ht
          clear e1 e2 ht a0 a1 b0 b1 c0 c1
          go_enter Try.func18, Try.ntmps18
          go_wp2_with fail
          refine Calls.mono HC.out ?_
          rintro e W1 ⟨rfl, hB⟩
          have HB : Hid (Below w.heap.size w W1) := hB
          clear hB HC
          simp only [Bx.val]
          go_wp2
          go_ret
          exact ⟨rfl, (H.out.1.below HB.out (Nat.le_refl _)).alloc _, (Tk.But.of_below HB.out).alloc _⟩
        · have e1 : Ps.takeE M k 3 = 0 := by unfold Ps.takeE; rw [if_pos H.out.2.2.2, H.out.2.2.1]; exact if_neg ht
          have e2 : Ps.takeM M k 3 = Ps.set M k (a, b, c, (d - 1)) := by unfold Ps.takeM; rw [e1, if_pos rfl, H.out.2.2.1]; rfl
          rw [e1, e2]
          have dd : (d == 0) = false := by simpa using ht
          clear e1 e2 a0 a1 b0 b1 c0 c1
          go_enter Try.func18, Try.ntmps18
          go_wp2_with fail
          refine Calls.mono HC.out ?_
          rintro e W1 ⟨rfl, hB⟩
          have HB : Hid (Below w.heap.size w W1) := hB
          clear hB HC
          simp only [Bx.val]
          have h3 := (H.out.1.below HB.out (Nat.le_refl _)).alloc (.cells #[.int .i64 a, .int .i64 b, .int .i64 c, .int .i64 (d - 1)] 53)
          have c3 := h3.cell
          obtain ⟨D, hown, hi⟩ := h3.2.2 B rfl
          have HD : Hid (Ps.At o (some B) M (W1.alloc (.cells #[.int .i64 a, .int .i64 b, .int .i64 c, .int .i64 (d - 1)] 53)) ∧ Ps.Is D M) := ⟨h3, hi⟩
          obtain ⟨w1, hrun, hown1, hgrow1⟩ := (World.ownsMap.drew hown).update Ps.law Try.underlying49 hn hkey (Ps.R_val (a, b, c, (d - 1)))
          simp only [Bx.val] at hrun
          have HO : Hid (w1.ownsMap Try.prog 3 Ps.R B (M.length + 1) (D.put (.int .i64 k) (.held (a, b, c, (d - 1)))) ∧ (W1.alloc (.cells #[.int .i64 a, .int .i64 b, .int .i64 c, .int .i64 (d - 1)] 53)).drew.grownBy w1 (some B)) := ⟨hown1, hgrow1⟩
          clear h3 hi hown hown1 hgrow1
          go_upto_region 7 with fail
          go_region_law (fail)
          all_goals
            go_wp2
            go_ret
            obtain ⟨r1, r2⟩ := Ps.At.store (W := (W1.alloc (.cells #[.int .i64 a, .int .i64 b, .int .i64 c, .int .i64 (d - 1)] 53)).drew) HD.out.1 HO.out.1 (HD.out.2.put_old k _ H.out.2.1) HO.out.2
            have q1 : Tk.But (fun x => x = o ∨ some B = some x) w (W1.alloc (.cells #[.int .i64 a, .int .i64 b, .int .i64 c, .int .i64 (d - 1)] 53)) := (Tk.But.of_below HB.out).alloc _
            exact ⟨rfl, r1, (q1.drewN 1).trans ⟨r2.os, r2.tape, r2.output, r2.size, fun i hi he => r2.block i hi (fun e => he (.inr (by rw [e])))⟩⟩
  · have e1 : Ps.takeE M k m = Ps.reachE M k m := by unfold Ps.takeE; rw [if_neg h0]
    have e2 : Ps.takeM M k m = M := by unfold Ps.takeM; rw [e1, if_neg h0]
    have eB : Ps.reachB M k m = (0, 0, 0, 0) := by unfold Ps.reachB; rw [if_neg h0]; rfl
    rw [eB] at C1
    rw [e1, e2]
    obtain ⟨x, hx⟩ : ∃ x, Ps.reachE M k m = x := ⟨_, rfl⟩
    rw [hx] at C1 h0 ⊢
    have hd : (x != 0) = true := by simpa using h0
    have H : Hid (Ps.At o pm M w) := h
    have HC : Hid _ := C1
    clear h e1 e2 eB hx h0 C1 hb
    go_enter Try.func18, Try.ntmps18
    go_wp2_with fail
    refine Calls.mono HC.out ?_
    rintro e W1 ⟨rfl, hB⟩
    have HB : Hid (Below w.heap.size w W1) := hB
    clear hB HC
    simp only [Bx.val]
    go_wp2
    go_ret
    exact ⟨rfl, (H.out.below HB.out (Nat.le_refl _)).alloc _, (Tk.But.of_below HB.out).alloc _⟩

end Go.Proofs
