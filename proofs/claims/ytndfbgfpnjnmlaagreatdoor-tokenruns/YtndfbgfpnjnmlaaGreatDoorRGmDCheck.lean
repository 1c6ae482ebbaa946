import Derived.Test.YtndfbgfpnjnmlaaGreatDoorRGmDNode
import Derived.Test.YtndfbgfpnjnmlaaGreatDoorRGmCheck
import Derived.Test.YtndfbgfpnjnmlaaGreatDoorRNtRef6
namespace Go.Proofs
open Go.RowKit Go.Shelf
namespace Gm
def atB (fs : List Fl) (l : List Int) (i : Nat) : Bool := decide (0 ≤ l.getD i 0) && decide (l.getD i 0 ≤ if i < fs.length then 3 else 0)
def quB (l : List Int) (i : Nat) : Bool := decide (0 ≤ l.getD (44 + i) 0) && decide (l.getD (44 + i) 0 ≤ 3)
theorem state_at {fs : List Fl} {l : List Int} {i : Nat} (hi : i < 40) (h : atB fs l i = false) : stateB fs l = false := by
 have : ((List.range 40).all fun i => decide (0 ≤ l.getD i 0) && decide (l.getD i 0 ≤ if i < fs.length then 3 else 0)) = false := by
  rw [List.all_eq_false]
  exact ⟨i, List.mem_range.2 hi, by unfold atB at h; exact fun hh => Bool.false_ne_true (h.symm.trans hh)⟩
 unfold stateB
 rw [this]; rfl
theorem state_qu {fs : List Fl} {l : List Int} {i : Nat} (hi : i < 4) (h : quB l i = false) : stateB fs l = false := by
 have : ((List.range 4).all fun i => decide (0 ≤ l.getD (44 + i) 0) && decide (l.getD (44 + i) 0 ≤ 3)) = false := by
  rw [List.all_eq_false]
  exact ⟨i, List.mem_range.2 hi, by unfold quB at h; exact fun hh => Bool.false_ne_true (h.symm.trans hh)⟩
 unfold stateB
 rw [this]; simp
theorem state_of {fs : List Fl} {l : List Int} (h1 : ∀ i, i < 40 → atB fs l i = true) (h2 : ∀ i, i < 4 → quB l i = true) : stateB fs l = (Tk.fitsB (l.getD 40 0) (l.getD 41 0) (l.getD 42 0) (l.getD 43 0) && decide (0 ≤ l.getD 48 0) && decide (l.getD 48 0 ≤ 2)) := by
 have e1 : ((List.range 40).all fun i => decide (0 ≤ l.getD i 0) && decide (l.getD i 0 ≤ if i < fs.length then 3 else 0)) = true := by
  rw [List.all_eq_true]; exact fun i hi => h1 i (List.mem_range.1 hi)
 have e2 : ((List.range 4).all fun i => decide (0 ≤ l.getD (44 + i) 0) && decide (l.getD (44 + i) 0 ≤ 3)) = true := by
  rw [List.all_eq_true]; exact fun i hi => h2 i (List.mem_range.1 hi)
 unfold stateB
 rw [e1, e2]; simp
end Gm
set_option maxRecDepth 20000 in
set_option maxHeartbeats 32000000 in
theorem Tryz.rtCheck_any (an : Option Addr) (n cn : Nat) (af : Option Addr) (m cf : Nat) (l : List Int) (X : World) (d : Nat) (ns : List Nd) (fs : List Fl) (hH : Nt.Has X X.heap.size d an af ns fs) (hn : ns.length = n) (hm : fs.length = m) (hll : l.length = 49) :
    Calls Tryz.prog 10 #[.agg #[.slice an n cn, .slice af m cf], .agg (Gm.ints l).toArray] X fun e w' => e = .returned (.int .i64 (Gm.checkE ns fs l)) ∧ Below X.heap.size X w' := by
  obtain ⟨w1, hw1⟩ : ∃ z, (X.alloc (.cells #[.slice an n cn, .slice af m cf] 25)).alloc (.cells (Gm.ints l).toArray 32) = z := ⟨_, rfl⟩
  have P0 : w1.heap[X.heap.size]? = some (.cells #[.slice an n cn, .slice af m cf] 25 (0, 0)) := by
    rw [← hw1, Below.heap_alloc _ _ _ (by simp)]; exact heap_alloc_new X _
  have P1 : w1.heap[X.heap.size + 1]? = some (.cells (Gm.ints l).toArray 32 (0, 0)) := by
    rw [← hw1]
    have := heap_alloc_new (X.alloc (.cells #[.slice an n cn, .slice af m cf] 25)) (.cells (Gm.ints l).toArray 32)
    simpa using this
  have A1 : Below X.heap.size X w1 := by rw [← hw1]; exact ((Below.refl _ X).alloc (Nat.le_refl _) _).alloc (by simp) _
  have hc : ∀ j, j < 49 → w1.cell? ⟨X.heap.size + 1, j, none⟩ = some (.int .i64 (l.getD j 0)) := fun j hj => by
    simp only [World.cell?, P1]
    rw [Gm.ints_get (by omega)]
    rfl
  have k0 : w1.cell? ⟨X.heap.size, 0, none⟩ = some (.slice an n cn) := by simp [World.cell?, P0]
  have k1 : w1.cell? ⟨X.heap.size, 1, none⟩ = some (.slice af m cf) := by simp [World.cell?, P0]
  have CN : Hid _ := Tryz.rCheck_any an cn af cf d ns fs w1 ((hH.below A1).wider A1.size)
  rw [hn, hm] at CN
  obtain ⟨ru, hru⟩ : ∃ z, Nt.checkN ns fs = z := ⟨_, rfl⟩
  obtain ⟨r, q⟩ := ru
  rw [hru] at CN
  obtain ⟨R, hR⟩ : ∃ z, Gm.checkE ns fs l = z := ⟨_, rfl⟩
  rw [hR]
  have hfd : ∀ W : World, (Instr.field 57 (.agg #[.int .i64 (r : Int), .int .i64 (q : Int)]) 0).run Tryz.prog W = .ok (.int .i64 (r : Int)) W := fun _ => by kernel_rfl
  have HA : Hid (Below X.heap.size X w1) := A1
  have HW1 : Hid _ := hw1
  by_cases hr : r = 0
  · have e0 : ((r : Int) != 0) = false := by simp [hr]
    have HB : Hid ((if Gm.stateB fs l = true then 0 else 1 : Int) = R ∧ fs.length = m ∧ l.length = 49) := by
      refine ⟨?_, hm, hll⟩
      have hce : Gm.checkE ns fs l = if Gm.stateB fs l = true then 0 else 1 := by
        unfold Gm.checkE
        rw [hru, if_neg (show ¬ ((r, q).1 ≠ 0) by simpa using hr)]
      rw [← hR, hce]
    have HCW : Hid (∀ V, Below w1.heap.size w1 V → (∀ j, j < 49 → V.cell? ⟨X.heap.size + 1, j, none⟩ = some (.int .i64 (l.getD j 0))) ∧ V.cell? ⟨X.heap.size, 1, none⟩ = some (.slice af m cf) ∧ Below X.heap.size X V) := fun V hV =>
      ⟨fun j hj => by rw [hV.cell (p := ⟨X.heap.size + 1, j, none⟩) (Gm.blk_lt P1)]; exact hc j hj, by rw [hV.cell (p := ⟨X.heap.size, 1, none⟩) (Gm.blk_lt P0)]; exact k1, A1.trans (hV.mono A1.size)⟩
    have hm40 : m ≤ 40 := by have := (Gm.Rt.of (show (Nt.checkN ns fs).1 = 0 by rw [hru]; exact hr)).f40; omega
    clear hw1 P0 P1 A1 hc hru hR hH hn hm hll hr
    go_enter Tryz.func10, Tryz.ntmps10
    go_upto_region 1 with fail
    rw [HW1.out]
    clear HW1
    go_wp2_with fail
    refine Calls.mono CN.out ?_
    rintro e W1 ⟨rfl, b1⟩
    have HW : Hid (Below w1.heap.size w1 W1) := b1
    clear b1 CN k0 k1
    go_wp2
    go_loopg [5] 40 (fun gk s5 wr => ∃ (j : Nat), s5 = .int .i64 j ∧ gk + j = 40 ∧ wr = W1 ∧ Hid (∀ k, k < j → Gm.atB fs l k = true))
    case atStart => exact ⟨0, rfl, by omega, rfl, fun k hk => by omega⟩
    case round =>
      obtain ⟨j, rfl, hj, rfl, HJ⟩ := hrel
      obtain ⟨hcl, kf, hBX⟩ := HCW.out wr HW.out
      have HBX : Hid (Below X.heap.size X wr) := hBX
      by_cases hlt : j < 40
      · have hd : decide ((j : Int) < 40) = true := decide_eq_true (by omega)
        have cx := hcl j (by omega)
        obtain ⟨x, hx⟩ : ∃ z, l.getD j 0 = z := ⟨_, rfl⟩
        rw [hx] at cx
        have j1 : (j : Int) < 40 := by omega
        have j0 : (0 : Int) ≤ j := by omega
        have HAT : Hid (Gm.atB fs l j = (decide (0 ≤ x) && decide (x ≤ if j < m then 3 else 0))) := by show _ = _; unfold Gm.atB; rw [hx, HB.out.2.1]
        have HBAD : Hid (Gm.atB fs l j = false → 1 = R) := fun h => by
          have h1 := HB.out.1
          rw [Gm.state_at hlt h, if_neg (by simp)] at h1
          exact h1
        clear hcl hx hBX
        by_cases h0 : x < 0
        · have d1 : decide (x < 0) = true := decide_eq_true h0
          have HE : Hid (1 = R) := HBAD.out (by rw [HAT.out, decide_eq_false (show ¬ 0 ≤ x by omega)]; rfl)
          clear h0 HAT HBAD
          go_wp2
          go_ret
          exact ⟨by rw [← HE.out]; rfl, HBX.out⟩
        · have d1 : decide (x < 0) = false := decide_eq_false h0
          by_cases h3 : 3 < x
          · have d2 : decide (3 < x) = true := decide_eq_true h3
            have HE : Hid (1 = R) := HBAD.out (by rw [HAT.out, decide_eq_false (show ¬ (x ≤ if j < m then 3 else 0) by split <;> omega)]; simp)
            clear h0 h3 HAT HBAD
            go_wp2
            go_ret
            exact ⟨by rw [← HE.out]; rfl, HBX.out⟩
          · have d2 : decide (3 < x) = false := decide_eq_false h3
            by_cases hjm : m ≤ j
            · have d3 : decide ((m : Int) ≤ j) = true := decide_eq_true (by omega)
              by_cases hx0 : x = 0
              · have d4 : (x != 0) = false := by simpa using hx0
                have HN : Hid (∀ k, k < j + 1 → Gm.atB fs l k = true) := fun k hk => by
                  by_cases hkj : k = j
                  · rw [hkj, HAT.out, if_neg (by omega)]; simp [hx0]
                  · exact HJ.out k (by omega)
                clear h0 h3 hx0 HAT HBAD HJ
                go_wp2
                go_roundg (gk - 1)
                case measure => omega
                case rel => exact ⟨j + 1, by go_num, by omega, rfl, HN.out⟩
              · have d4 : (x != 0) = true := by simpa using hx0
                have HE : Hid (1 = R) := HBAD.out (by rw [HAT.out, if_neg (by omega), decide_eq_false (show ¬ x ≤ 0 by omega)]; simp)
                clear h0 h3 hx0 HAT HBAD
                go_wp2
                go_ret
                exact ⟨by rw [← HE.out]; rfl, HBX.out⟩
            · have d3 : decide ((m : Int) ≤ j) = false := decide_eq_false (by omega)
              have HN : Hid (∀ k, k < j + 1 → Gm.atB fs l k = true) := fun k hk => by
                by_cases hkj : k = j
                · rw [hkj, HAT.out, if_pos (by omega), decide_eq_true (show 0 ≤ x by omega), decide_eq_true (show x ≤ 3 by omega)]; rfl
                · exact HJ.out k (by omega)
              clear h0 h3 HAT HBAD HJ
              go_wp2
              go_roundg (gk - 1)
              case measure => omega
              case rel => exact ⟨j + 1, by go_num, by omega, rfl, HN.out⟩
      · obtain rfl : j = 40 := by omega
        clear hcl kf hBX
        go_wp2
        go_loopg [6] 4 (fun gk s6 wi => ∃ (j : Nat), s6 = .int .i64 j ∧ gk + j = 4 ∧ wi = wr ∧ Hid (∀ k, k < j → Gm.quB l k = true))
        case atStart => exact ⟨0, rfl, by omega, rfl, fun k hk => by omega⟩
        case round =>
          obtain ⟨j, rfl, hj, hwq, HJ2⟩ := hrel
          subst hwq
          obtain ⟨hcl, kf, hBX⟩ := HCW.out _ HW.out
          by_cases hlt : j < 4
          · have hd : decide ((j : Int) < 4) = true := decide_eq_true (by omega)
            have cx := hcl (44 + j) (by omega)
            obtain ⟨x, hx⟩ : ∃ z, l.getD (44 + j) 0 = z := ⟨_, rfl⟩
            rw [hx] at cx
            have j1 : (j : Int) < 4 := by omega
            have j0 : (0 : Int) ≤ j := by omega
            have HAT : Hid (Gm.quB l j = (decide (0 ≤ x) && decide (x ≤ 3))) := by show _ = _; unfold Gm.quB; rw [hx]
            have HBAD : Hid (Gm.quB l j = false → 1 = R) := fun h => by
              have h1 := HB.out.1
              rw [Gm.state_qu hlt h, if_neg (by simp)] at h1
              exact h1
            clear hcl hx hBX kf
            by_cases h0 : x < 0
            · have d1 : decide (x < 0) = true := decide_eq_true h0
              have HE : Hid (1 = R) := HBAD.out (by rw [HAT.out, decide_eq_false (show ¬ 0 ≤ x by omega)]; rfl)
              clear h0 HAT HBAD
              go_wp2
              go_ret
              exact ⟨by rw [← HE.out]; rfl, HBX.out⟩
            · have d1 : decide (x < 0) = false := decide_eq_false h0
              by_cases h3 : 3 < x
              · have d2 : decide (3 < x) = true := decide_eq_true h3
                have HE : Hid (1 = R) := HBAD.out (by rw [HAT.out, decide_eq_false (show ¬ x ≤ 3 by omega)]; simp)
                clear h0 h3 HAT HBAD
                go_wp2
                go_ret
                exact ⟨by rw [← HE.out]; rfl, HBX.out⟩
              · have d2 : decide (3 < x) = false := decide_eq_false h3
                have HN : Hid (∀ k, k < j + 1 → Gm.quB l k = true) := fun k hk => by
                  by_cases hkj : k = j
                  · rw [hkj, HAT.out, decide_eq_true (show 0 ≤ x by omega), decide_eq_true (show x ≤ 3 by omega)]; rfl
                  · exact HJ2.out k (by omega)
                clear h0 h3 HAT HBAD HJ2
                go_wp2
                go_roundg (gk - 1)
                case measure => omega
                case rel => exact ⟨j + 1, by go_num, by omega, rfl, HN.out⟩
          · obtain rfl : j = 4 := by omega
            obtain ⟨x0, hx0⟩ : ∃ z, l.getD 40 0 = z := ⟨_, rfl⟩
            obtain ⟨x1, hx1⟩ : ∃ z, l.getD 41 0 = z := ⟨_, rfl⟩
            obtain ⟨x2, hx2⟩ : ∃ z, l.getD 42 0 = z := ⟨_, rfl⟩
            obtain ⟨x3, hx3⟩ : ∃ z, l.getD 43 0 = z := ⟨_, rfl⟩
            obtain ⟨md, hmd⟩ : ∃ z, l.getD 48 0 = z := ⟨_, rfl⟩
            have c0 := hcl 40 (by omega)
            have c1 := hcl 41 (by omega)
            have c2 := hcl 42 (by omega)
            have c3 := hcl 43 (by omega)
            rw [hx0] at c0
            rw [hx1] at c1
            rw [hx2] at c2
            rw [hx3] at c3
            have HSO : Hid ((if (Tk.fitsB x0 x1 x2 x3 && decide (0 ≤ md) && decide (md ≤ 2)) = true then 0 else 1 : Int) = R) := by
              have h1 := HB.out.1
              rw [Gm.state_of HJ.out HJ2.out, hx0, hx1, hx2, hx3, hmd] at h1
              exact h1
            have CT := Tryz.refFits_any x0 x1 x2 x3
            obtain ⟨fb, hfb⟩ : ∃ z, Tk.fitsB x0 x1 x2 x3 = z := ⟨_, rfl⟩
            have HCT : Hid (∀ W : World, Calls Tryz.prog 26 #[.agg #[.int .i64 x0, .int .i64 x1, .int .i64 x2, .int .i64 x3]] W fun e w' => e = .returned (.bool fb) ∧ Below W.heap.size W w') := fun W => by have h := CT W; rw [hfb] at h; exact h
            rw [hfb] at HSO
            have HMD : Hid (l.getD 48 0 = md) := hmd
            clear hcl kf hBX hx0 hx1 hx2 hx3 hmd hfb CT HJ HJ2
            go_wp2_with fail
            refine Calls.mono (HCT.out _) ?_
            rintro e W2 ⟨rfl, b2⟩
            have HW2 : Hid (Below w1.heap.size w1 W2) := HW.out.trans (b2.mono HW.out.size)
            obtain ⟨hcl2, kf2, hBX2⟩ := HCW.out W2 HW2.out
            have c48 := hcl2 48 (by omega)
            rw [HMD.out] at c48
            have HBX2 : Hid (Below X.heap.size X W2) := hBX2
            clear b2 hcl2 kf2 hBX2 c0 c1 c2 c3 HCT
            cases fb with
            | false =>
              have HE : Hid (1 = R) := by have h := HSO.out; show 1 = R; simpa using h
              go_wp2
              go_ret
              exact ⟨by rw [← HE.out]; rfl, HBX2.out⟩
            | true =>
              by_cases h0 : md < 0
              · have d1 : decide (md < 0) = true := decide_eq_true h0
                have HE : Hid (1 = R) := by have h := HSO.out; rw [decide_eq_false (show ¬ 0 ≤ md by omega)] at h; show 1 = R; simpa using h
                clear h0 HSO
                go_wp2
                go_ret
                exact ⟨by rw [← HE.out]; rfl, HBX2.out⟩
              · have d1 : decide (md < 0) = false := decide_eq_false h0
                by_cases h2 : 2 < md
                · have d2 : decide (2 < md) = true := decide_eq_true h2
                  have HE : Hid (1 = R) := by have h := HSO.out; rw [decide_eq_false (show ¬ md ≤ 2 by omega)] at h; show 1 = R; simpa using h
                  clear h0 h2 HSO
                  go_wp2
                  go_ret
                  exact ⟨by rw [← HE.out]; rfl, HBX2.out⟩
                · have d2 : decide (2 < md) = false := decide_eq_false h2
                  have HE : Hid (0 = R) := by have h := HSO.out; rw [decide_eq_true (show 0 ≤ md by omega), decide_eq_true (show md ≤ 2 by omega)] at h; show 0 = R; simpa using h
                  clear h0 h2 HSO
                  go_wp2
                  go_ret
                  exact ⟨by rw [← HE.out]; rfl, HBX2.out⟩
  · have e0 : ((r : Int) != 0) = true := by simpa using hr
    have HE : Hid (4 = R) := by
      show _ = R
      rw [← hR]
      unfold Gm.checkE
      rw [hru, if_pos hr]
    clear hw1 P0 P1 A1 hc hru hR hH hn hll hr hm
    go_enter Tryz.func10, Tryz.ntmps10
    go_upto_region 1 with fail
    rw [HW1.out]
    clear HW1
    go_wp2_with fail
    refine Calls.mono CN.out ?_
    rintro e W1 ⟨rfl, b1⟩
    have BX : Hid (Below X.heap.size X W1) := HA.out.trans (b1.mono HA.out.size)
    clear b1 CN k0 k1
    go_wp2
    go_ret
    exact ⟨by rw [← HE.out]; rfl, BX.out⟩
end Go.Proofs
