import Derived.Test.YtndfbgfpnjnmlaaGreatDoorRGmSpan
import Derived.Test.YtndfbgfpnjnmlaaGreatDoorRNtAll
namespace Go.Proofs
open Go.RowKit Go.Shelf
namespace Gm
def okB (fs : List Fl) (l : List Int) : Bool := (heldB ((l.take 40).take fs.length) 3 && heldB ((l.take 40).drop fs.length) 0) && Tk.fitsB (l.getD 40 0) (l.getD 41 0) (l.getD 42 0) (l.getD 43 0) && heldB ((l.drop 44).take 4) 3 && heldB [l.getD 48 0] 2
theorem okB_eq (fs : List Fl) (l : List Int) (hl : l.length = 49) : okB fs l = stateB fs l := by
 have h1 : (heldB ((l.take 40).take fs.length) 3 && heldB ((l.take 40).drop fs.length) 0) = (List.range 40).all fun i => decide (0 ≤ l.getD i 0) && decide (l.getD i 0 ≤ if i < fs.length then 3 else 0) := by
  rw [Bool.eq_iff_iff, heldB_split, List.all_eq_true]
  constructor
  ·intro h i hi
   have hi' := List.mem_range.1 hi
   have := h i (by simp; omega)
   rw [List.getElem_take] at this
   simp only [List.getD_eq_getElem?_getD, List.getElem?_eq_getElem (show i < l.length by omega), Option.getD_some, Bool.and_eq_true, decide_eq_true_eq]
   exact this
  ·intro h j hj
   have hj' : j < 40 := by simp at hj; omega
   have := h j (List.mem_range.2 hj')
   rw [List.getElem_take]
   simp only [List.getD_eq_getElem?_getD, List.getElem?_eq_getElem (show j < l.length by omega), Option.getD_some, Bool.and_eq_true, decide_eq_true_eq] at this
   exact this
 have h2 : heldB ((l.drop 44).take 4) 3 = (List.range 4).all fun i => decide (0 ≤ l.getD (44 + i) 0) && decide (l.getD (44 + i) 0 ≤ 3) := by
  rw [Bool.eq_iff_iff, List.all_eq_true]
  unfold heldB
  rw [List.all_eq_true]
  constructor
  ·intro h i hi
   have hi' := List.mem_range.1 hi
   have := h l[44 + i] (List.mem_take_iff_getElem.2 ⟨i, by simp; omega, by simp⟩)
   simp only [List.getD_eq_getElem?_getD, List.getElem?_eq_getElem (show 44 + i < l.length by omega), Option.getD_some]
   exact this
  ·intro h x hx
   obtain ⟨i, hi, rfl⟩ := List.mem_take_iff_getElem.1 hx
   have hi' : i < 4 := by simp at hi; omega
   have := h i (List.mem_range.2 hi')
   rw [List.getElem_drop]
   simp only [List.getD_eq_getElem?_getD, List.getElem?_eq_getElem (show 44 + i < l.length by omega), Option.getD_some] at this
   exact this
 have h3 : heldB [l.getD 48 0] 2 = (decide (0 ≤ l.getD 48 0) && decide (l.getD 48 0 ≤ 2)) := by simp [heldB]
 unfold okB stateB
 rw [h1, h2, h3]
 generalize ((List.range 40).all fun i => decide (0 ≤ l.getD i 0) && decide (l.getD i 0 ≤ if i < fs.length then 3 else 0)) = a
 generalize Tk.fitsB (l.getD 40 0) (l.getD 41 0) (l.getD 42 0) (l.getD 43 0) = b
 generalize ((List.range 4).all fun i => decide (0 ≤ l.getD (44 + i) 0) && decide (l.getD (44 + i) 0 ≤ 3)) = c
 generalize decide (0 ≤ l.getD 48 0) = d
 generalize decide (l.getD 48 0 ≤ 2) = e
 cases a <;> cases b <;> cases c <;> cases d <;> cases e <;> rfl
end Gm
set_option maxRecDepth 20000 in
set_option maxHeartbeats 32000000 in
theorem Tryz.tCheck_any (an : Option Addr) (n cn : Nat) (af : Option Addr) (m cf : Nat) (l : List Int) (X : World) (d : Nat) (ns : List Nd) (fs : List Fl) (hH : Nt.Has X X.heap.size d an af ns fs) (hn : ns.length = n) (hm : fs.length = m) (hll : l.length = 49) (hO : Tk.Ops X) :
  Calls Tryz.prog 9 #[.agg #[.slice an n cn, .slice af m cf], .agg (Gm.ints l).toArray] X fun e w' => e = .returned (.int .i64 (Gm.checkE ns fs l)) ∧ Below X.heap.size X w' := by
 obtain ⟨w1, hw1⟩ : ∃ z, (X.alloc (.cells #[.slice an n cn, .slice af m cf] 25)).alloc (.cells (Gm.ints l).toArray 29) = z := ⟨_, rfl⟩
 have P0 : w1.heap[X.heap.size]? = some (.cells #[.slice an n cn, .slice af m cf] 25 (0, 0)) := by
  rw [← hw1, Below.heap_alloc _ _ _ (by simp)]; exact heap_alloc_new X _
 have P1 : w1.heap[X.heap.size + 1]? = some (.cells (Gm.ints l).toArray 29 (0, 0)) := by
  rw [← hw1]
  have := heap_alloc_new (X.alloc (.cells #[.slice an n cn, .slice af m cf] 25)) (.cells (Gm.ints l).toArray 29)
  simpa using this
 have A1 : Below X.heap.size X w1 := by rw [← hw1]; exact ((Below.refl _ X).alloc (Nat.le_refl _) _).alloc (by simp) _
 have hc : ∀ j, j < 49 → w1.cell? ⟨X.heap.size + 1, j, none⟩ = some (.int .i64 (l.getD j 0)) := fun j hj => by
  simp only [World.cell?, P1]
  rw [Gm.ints_get (by omega)]
  rfl
 obtain ⟨x0, hx0⟩ : ∃ z, l.getD 40 0 = z := ⟨_, rfl⟩
 obtain ⟨x1, hx1⟩ : ∃ z, l.getD 41 0 = z := ⟨_, rfl⟩
 obtain ⟨x2, hx2⟩ : ∃ z, l.getD 42 0 = z := ⟨_, rfl⟩
 obtain ⟨x3, hx3⟩ : ∃ z, l.getD 43 0 = z := ⟨_, rfl⟩
 obtain ⟨md, hmd⟩ : ∃ z, l.getD 48 0 = z := ⟨_, rfl⟩
 have k0 : w1.cell? ⟨X.heap.size, 0, none⟩ = some (.slice an n cn) := by simp [World.cell?, P0]
 have k1 : w1.cell? ⟨X.heap.size, 1, none⟩ = some (.slice af m cf) := by simp [World.cell?, P0]
 have CN : Hid _ := Tryz.nCheck_any an cn af cf d ns fs w1 ((hH.below A1).wider A1.size) (hO.below A1 hO.lt)
 rw [hn, hm] at CN
 obtain ⟨ru, hru⟩ : ∃ z, Nt.checkN ns fs = z := ⟨_, rfl⟩
 obtain ⟨r, q⟩ := ru
 obtain ⟨R, hR⟩ : ∃ z, Gm.checkE ns fs l = z := ⟨_, rfl⟩
 rw [hR]
 have HR : Hid ((if r ≠ 0 then 4 else if Gm.okB fs l = true then 0 else 1 : Int) = R ∧ Nt.checkN ns fs = (r, q)) := by
  refine ⟨?_, hru⟩
  rw [← hR]
  unfold Gm.checkE
  rw [hru, Gm.okB_eq fs l hll]
 rw [hru] at CN
 by_cases hr : r = 0
 ·subst hr
  have hRt := Gm.Rt.of (show (Nt.checkN ns fs).1 = 0 by rw [hru])
  have hf40 := hRt.f40
  obtain ⟨r1, hr1⟩ : ∃ z, (Gm.heldB ((l.take 40).take fs.length) 3 && Gm.heldB ((l.take 40).drop fs.length) 0) = z := ⟨_, rfl⟩
  obtain ⟨r2, hr2⟩ : ∃ z, Tk.fitsB x0 x1 x2 x3 = z := ⟨_, rfl⟩
  obtain ⟨r3, hr3⟩ : ∃ z, Gm.heldB ((l.drop 44).take 4) 3 = z := ⟨_, rfl⟩
  obtain ⟨r4, hr4⟩ : ∃ z, Gm.heldB [md] 2 = z := ⟨_, rfl⟩
  have HE : Hid ((if (r1 && r2 && r3 && r4) = true then 0 else 1 : Int) = R) := by
    have := HR.out.1
    rw [if_neg (by simp)] at this
    unfold Gm.okB at this
    rw [hr1, hx0, hx1, hx2, hx3, hr2, hr3, hmd, hr4] at this
    exact this
  obtain ⟨w2, hw2⟩ : ∃ z : World, True := ⟨w1, trivial⟩
  clear hw2 w2
  have HCW : Hid (∀ V, Below w1.heap.size w1 V → ∀ o, V.cell? ⟨X.heap.size + 1, o, none⟩ = w1.cell? ⟨X.heap.size + 1, o, none⟩) := fun V hV o => hV.cell (p := ⟨X.heap.size + 1, o, none⟩) (Gm.blk_lt P1)
  have CL : Hid (∀ V, Below w1.heap.size w1 V → Calls Tryz.prog 23 #[.slice (some ⟨X.heap.size + 1, 0, none⟩) 40 40, .int .i64 m, .int .i64 3] V fun e w' => e = .returned (.bool r1) ∧ Hid (Below w1.heap.size w1 w')) := fun V hV => by
    have h := Tryz.filled_any (X.heap.size + 1) 0 (l.take 40) fs.length 3 V (fun j hj => by
      have hj' : j < 40 := by simp at hj; omega
      rw [Nat.zero_add, HCW.out V hV, hc j (by omega), List.getElem_take, List.getD_eq_getElem?_getD, List.getElem?_eq_getElem (by omega)]; rfl) (by simp; omega) (by simp; omega)
    have e40 : (l.take 40).length = 40 := by simp; omega
    rw [e40, hr1, hm] at h
    exact h.mono fun _ _ q => ⟨q.1, by rw [q.2]; exact hV⟩
  have CT : Hid (∀ V, Below w1.heap.size w1 V → Calls Tryz.prog 24 #[.agg #[.int .i64 x0, .int .i64 x1, .int .i64 x2, .int .i64 x3]] V fun e w' => e = .returned (.bool r2) ∧ Hid (Below w1.heap.size w1 w')) := fun V hV => by
    have h := Tryz.fits_any x0 x1 x2 x3 V
    rw [hr2] at h
    exact h.mono fun _ _ q => ⟨q.1, hV.trans (q.2.mono hV.size)⟩
  have CU : Hid (∀ V, Below w1.heap.size w1 V → Calls Tryz.prog 25 #[.int .i64 3, .slice (some ⟨X.heap.size + 1, 44, none⟩) 4 4] V fun e w' => e = .returned (.bool r3) ∧ Hid (Below w1.heap.size w1 w')) := fun V hV => by
    have e4 : ((l.drop 44).take 4).length = 4 := by simp; omega
    have h := Tryz.upto_any (X.heap.size + 1) 44 4 ((l.drop 44).take 4) 3 V (fun j hj => by
      have hj' : j < 4 := by rw [e4] at hj; exact hj
      rw [HCW.out V hV, hc (44 + j) (by omega), List.getElem_take, List.getElem_drop, List.getD_eq_getElem?_getD, List.getElem?_eq_getElem (by omega)]; rfl) (by simp; omega)
    rw [e4, hr3] at h
    exact h.mono fun _ _ q => ⟨q.1, by rw [q.2]; exact hV⟩
  have CV : Hid (∀ V, Below w1.heap.size w1 V → Calls Tryz.prog 25 #[.int .i64 2, .slice (some ⟨V.heap.size, 0, none⟩) 1 1] (V.alloc (.cells #[.int .i64 md] 3)) fun e w' => e = .returned (.bool r4) ∧ Hid (Below w1.heap.size w1 w')) := fun V hV => by
    have h := Tryz.upto_any V.heap.size 0 1 [md] 2 (V.alloc (.cells #[.int .i64 md] 3)) (fun j hj => by
      have hj' : j = 0 := by simpa using hj
      subst hj'
      have hnw := heap_alloc_new V (.cells #[.int .i64 md] 3)
      show (V.alloc (.cells #[.int .i64 md] 3)).cell? ⟨V.heap.size, 0, none⟩ = _
      simp only [World.cell?, hnw]
      rfl) (by simp)
    rw [hr4] at h
    exact h.mono fun _ _ q => ⟨q.1, by rw [q.2]; exact hV.alloc hV.size _⟩
  have CF : Hid (∀ V, Below w1.heap.size w1 V → V.cell? ⟨X.heap.size, 1, none⟩ = some (.slice af m cf) ∧ V.cell? ⟨X.heap.size + 1, 40, none⟩ = some (.int .i64 x0) ∧ V.cell? ⟨X.heap.size + 1, 41, none⟩ = some (.int .i64 x1) ∧ V.cell? ⟨X.heap.size + 1, 42, none⟩ = some (.int .i64 x2) ∧ V.cell? ⟨X.heap.size + 1, 43, none⟩ = some (.int .i64 x3) ∧ V.cell? ⟨X.heap.size + 1, 48, none⟩ = some (.int .i64 md)) := fun V hV => by
    rw [hV.cell (p := ⟨X.heap.size, 1, none⟩) (Gm.blk_lt P0), HCW.out V hV, HCW.out V hV, HCW.out V hV, HCW.out V hV, HCW.out V hV]
    exact ⟨k1, by rw [← hx0]; exact hc 40 (by omega), by rw [← hx1]; exact hc 41 (by omega), by rw [← hx2]; exact hc 42 (by omega), by rw [← hx3]; exact hc 43 (by omega), by rw [← hmd]; exact hc 48 (by omega)⟩
  have HA : Hid (Below X.heap.size X w1) := A1
  have HW1 : Hid _ := hw1
  clear hw1 P0 P1 A1 hc hx0 hx1 hx2 hx3 hmd hru hR HR hRt hr1 hr2 hr3 hr4 HCW hH hn hO hll
  go_enter Tryz.func9, Tryz.ntmps9
  go_upto_region 1 with fail
  rw [HW1.out]
  clear HW1
  go_wp2_with fail
  refine Calls.mono CN.out ?_
  rintro e W1 ⟨rfl, b1⟩
  have BX : Hid (Below X.heap.size X W1) := HA.out.trans (b1.mono HA.out.size)
  have BR : Hid (Below w1.heap.size w1 W1) := b1
  clear b1 CN k0 k1 hf40
  cases r1 with
  | false =>
    go_upto_region 4 with fail
    refine wp_region_held_drew (S := (fun V => V.cell? ⟨X.heap.size, 1, none⟩ = some (.slice af m cf) ∧ V.cell? ⟨X.heap.size + 1, 40, none⟩ = some (.int .i64 x0) ∧ V.cell? ⟨X.heap.size + 1, 41, none⟩ = some (.int .i64 x1) ∧ V.cell? ⟨X.heap.size + 1, 42, none⟩ = some (.int .i64 x2) ∧ V.cell? ⟨X.heap.size + 1, 43, none⟩ = some (.int .i64 x3) ∧ V.cell? ⟨X.heap.size + 1, 48, none⟩ = some (.int .i64 md))) (by kernel_rfl) ?_ (fun hHeld => ?_)
    ·exact CF.out _ BR.out.drew
    refine Nt.takeS (v := ?va0) 0 14 rfl rfl (by kernel_rfl) (by kernel_rfl) (by kernel_rfl) (fun _ _ _ h => h) (Or.inl ⟨by rfl, ?ya0⟩) hHeld ?ra0
    case ya0 => (intro w hSw; (try dsimp only at hSw); go_simp; all_goals (with_reducible rfl))
    simp only [List.set_cons_succ, List.set_cons_zero]
    refine Nt.takeS (v := ?va1) 1 15 rfl rfl (by kernel_rfl) (by kernel_rfl) (by kernel_rfl) (fun _ _ _ h => h) (Or.inl ⟨by rfl, ?ya1⟩) hHeld ?ra1
    case ya1 => (intro w hSw; (try dsimp only at hSw); go_simp; all_goals (with_reducible rfl))
    simp only [List.set_cons_succ, List.set_cons_zero]
    refine Nt.takeS (v := ?va2) 2 16 rfl rfl (by kernel_rfl) (by kernel_rfl) (by kernel_rfl) (fun _ _ _ h => h) (Or.inl ⟨by rfl, ?ya2⟩) hHeld ?ra2
    case ya2 => (intro w hSw; (try dsimp only at hSw); go_simp; all_goals (with_reducible rfl))
    simp only [List.set_cons_succ, List.set_cons_zero]
    refine Nt.takeS (v := ?va3) 3 17 rfl rfl (by kernel_rfl) (by kernel_rfl) (by kernel_rfl) (fun _ _ _ h => h) (Or.inl ⟨by rfl, ?ya3⟩) hHeld ?ra3
    case ya3 => (intro w hSw; (try dsimp only at hSw); go_simp; all_goals (with_reducible rfl))
    simp only [List.set_cons_succ, List.set_cons_zero]
    refine Nt.takeS (v := ?va4) 4 18 rfl rfl (by kernel_rfl) (by kernel_rfl) (by kernel_rfl) (fun _ _ _ h => h) (Or.inl ⟨by rfl, ?ya4⟩) hHeld ?ra4
    case ya4 => (intro w hSw; (try dsimp only at hSw); go_simp; all_goals (with_reducible rfl))
    simp only [List.set_cons_succ, List.set_cons_zero]
    refine wpAnyH_ready (rs := [5]) (by kernel_rfl) (by simp) ?_
    refine AllReadyH.cons rfl (fun K hK => ?_) AllReadyH.nil
    go_simp
    go_at_call 23
    refine Calls.mono (CL.out _ BR.out.drew) ?_
    rintro e W4 ⟨rfl, B4⟩
    go_wp2_with fail
    refine hK.out _ _ ?_ (fun hHeld5 => ?_)
    ·exact CF.out _ B4.out
    clear hK K
    first | refine Nt.normS 19 rfl ?_ | skip
    first | (simp only [List.set_cons_succ, List.set_cons_zero]) | skip
    refine Nt.takeS (v := ?va6) 6 20 rfl rfl (by kernel_rfl) (by kernel_rfl) (by kernel_rfl) (fun _ _ _ h => h) (Or.inl ⟨by rfl, ?ya6⟩) hHeld5 ?ra6
    case ya6 => (intro w hSw; (try dsimp only at hSw); go_simp; all_goals (with_reducible rfl))
    simp only [List.set_cons_succ, List.set_cons_zero]
    refine Nt.takeS (v := ?va7) 7 21 rfl rfl (by kernel_rfl) (by kernel_rfl) (by kernel_rfl) (fun _ _ _ h => h) (Or.inl ⟨by rfl, ?ya7⟩) hHeld5 ?ra7
    case ya7 => (intro w hSw; (try dsimp only at hSw); go_simp; all_goals (with_reducible rfl))
    simp only [List.set_cons_succ, List.set_cons_zero]
    refine Nt.takeS (v := undef) 8 22 rfl rfl (by kernel_rfl) (by kernel_rfl) (by kernel_rfl) (fun _ _ _ h => h) (Or.inr ⟨by rfl, rfl⟩) hHeld5 ?_
    simp only [List.set_cons_succ, List.set_cons_zero]
    refine Nt.takeS (v := undef) 9 23 rfl rfl (by kernel_rfl) (by kernel_rfl) (by kernel_rfl) (fun _ _ _ h => h) (Or.inr ⟨by rfl, rfl⟩) hHeld5 ?_
    simp only [List.set_cons_succ, List.set_cons_zero]
    refine Nt.takeS (v := undef) 10 24 rfl rfl (by kernel_rfl) (by kernel_rfl) (by kernel_rfl) (fun _ _ _ h => h) (Or.inr ⟨by rfl, rfl⟩) hHeld5 ?_
    simp only [List.set_cons_succ, List.set_cons_zero]
    refine Nt.takeS (v := undef) 11 25 rfl rfl (by kernel_rfl) (by kernel_rfl) (by kernel_rfl) (fun _ _ _ h => h) (Or.inr ⟨by rfl, rfl⟩) hHeld5 ?_
    simp only [List.set_cons_succ, List.set_cons_zero]
    refine Nt.takeS (v := ?va12) 12 26 rfl rfl (by kernel_rfl) (by kernel_rfl) (by kernel_rfl) (fun _ _ _ h => h) (Or.inl ⟨by rfl, ?ya12⟩) hHeld5 ?ra12
    case ya12 => (intro w hSw; (try dsimp only at hSw); go_simp; all_goals (with_reducible rfl))
    simp only [List.set_cons_succ, List.set_cons_zero]
    refine Nt.takeS (v := ?va13) 13 27 rfl rfl (by kernel_rfl) (by kernel_rfl) (by kernel_rfl) (fun _ _ _ h => h) (Or.inl ⟨by rfl, ?ya13⟩) hHeld5 ?ra13
    case ya13 => (intro w hSw; (try dsimp only at hSw); go_simp; all_goals (with_reducible rfl))
    simp only [List.set_cons_succ, List.set_cons_zero]
    refine Nt.takeS (v := undef) 14 28 rfl rfl (by kernel_rfl) (by kernel_rfl) (by kernel_rfl) (fun _ _ _ h => h) (Or.inr ⟨by rfl, rfl⟩) hHeld5 ?_
    simp only [List.set_cons_succ, List.set_cons_zero]
    refine Nt.takeS (v := undef) 15 29 rfl rfl (by kernel_rfl) (by kernel_rfl) (by kernel_rfl) (fun _ _ _ h => h) (Or.inr ⟨by rfl, rfl⟩) hHeld5 ?_
    simp only [List.set_cons_succ, List.set_cons_zero]
    refine Nt.takeS (v := undef) 16 30 rfl rfl (by kernel_rfl) (by kernel_rfl) (by kernel_rfl) (fun _ _ _ h => h) (Or.inr ⟨by rfl, rfl⟩) hHeld5 ?_
    simp only [List.set_cons_succ, List.set_cons_zero]
    refine Nt.takeS (v := undef) 17 31 rfl rfl (by kernel_rfl) (by kernel_rfl) (by kernel_rfl) (fun _ _ _ h => h) (Or.inr ⟨by rfl, rfl⟩) hHeld5 ?_
    simp only [List.set_cons_succ, List.set_cons_zero]
    refine Nt.takeS (v := ?va18) 18 32 rfl rfl (by kernel_rfl) (by kernel_rfl) (by kernel_rfl) (fun _ _ _ h => h) (Or.inl ⟨by rfl, ?ya18⟩) hHeld5 ?ra18
    case ya18 => (intro w hSw; (try dsimp only at hSw); go_simp; all_goals (with_reducible rfl))
    simp only [List.set_cons_succ, List.set_cons_zero]
    refine Nt.takeS (v := ?va19) 19 33 rfl rfl (by kernel_rfl) (by kernel_rfl) (by kernel_rfl) (fun _ _ _ h => h) (Or.inl ⟨by rfl, ?ya19⟩) hHeld5 ?ra19
    case ya19 => (intro w hSw; (try dsimp only at hSw); go_simp; all_goals (with_reducible rfl))
    simp only [List.set_cons_succ, List.set_cons_zero]
    refine Nt.takeS (v := undef) 20 34 rfl rfl (by kernel_rfl) (by kernel_rfl) (by kernel_rfl) (fun _ _ _ h => h) (Or.inr ⟨by rfl, rfl⟩) hHeld5 ?_
    simp only [List.set_cons_succ, List.set_cons_zero]
    refine Nt.takeS (v := undef) 21 35 rfl rfl (by kernel_rfl) (by kernel_rfl) (by kernel_rfl) (fun _ _ _ h => h) (Or.inr ⟨by rfl, rfl⟩) hHeld5 ?_
    simp only [List.set_cons_succ, List.set_cons_zero]
    refine Nt.takeS (v := undef) 22 36 rfl rfl (by kernel_rfl) (by kernel_rfl) (by kernel_rfl) (fun _ _ _ h => h) (Or.inr ⟨by rfl, rfl⟩) hHeld5 ?_
    simp only [List.set_cons_succ, List.set_cons_zero]
    refine Nt.takeS (v := undef) 23 37 rfl rfl (by kernel_rfl) (by kernel_rfl) (by kernel_rfl) (fun _ _ _ h => h) (Or.inr ⟨by rfl, rfl⟩) hHeld5 ?_
    simp only [List.set_cons_succ, List.set_cons_zero]
    refine Nt.takeS (v := undef) 24 38 rfl rfl (by kernel_rfl) (by kernel_rfl) (by kernel_rfl) (fun _ _ _ h => h) (Or.inr ⟨by rfl, rfl⟩) hHeld5 ?_
    simp only [List.set_cons_succ, List.set_cons_zero]
    refine Nt.takeS (v := ?va25) 25 39 rfl rfl (by kernel_rfl) (by kernel_rfl) (by kernel_rfl) (fun _ _ _ h => h) (Or.inl ⟨by rfl, ?ya25⟩) hHeld5 ?ra25
    case ya25 => (intro w hSw; (try dsimp only at hSw); go_simp; all_goals (with_reducible rfl))
    simp only [List.set_cons_succ, List.set_cons_zero]
    refine wpAnyH_done (by kernel_rfl) ?_ _
    go_wp2
    go_ret
    exact ⟨by rw [← HE.out]; rfl, HA.out.trans (B4.out.mono HA.out.size)⟩
  | true =>
    cases r2 with
    | false =>
      go_upto_region 4 with fail
      refine wp_region_held_drew (S := (fun V => V.cell? ⟨X.heap.size, 1, none⟩ = some (.slice af m cf) ∧ V.cell? ⟨X.heap.size + 1, 40, none⟩ = some (.int .i64 x0) ∧ V.cell? ⟨X.heap.size + 1, 41, none⟩ = some (.int .i64 x1) ∧ V.cell? ⟨X.heap.size + 1, 42, none⟩ = some (.int .i64 x2) ∧ V.cell? ⟨X.heap.size + 1, 43, none⟩ = some (.int .i64 x3) ∧ V.cell? ⟨X.heap.size + 1, 48, none⟩ = some (.int .i64 md))) (by kernel_rfl) ?_ (fun hHeld => ?_)
      ·exact CF.out _ BR.out.drew
      refine Nt.takeS (v := ?vb0) 0 14 rfl rfl (by kernel_rfl) (by kernel_rfl) (by kernel_rfl) (fun _ _ _ h => h) (Or.inl ⟨by rfl, ?yb0⟩) hHeld ?rb0
      case yb0 => (intro w hSw; (try dsimp only at hSw); go_simp; all_goals (with_reducible rfl))
      simp only [List.set_cons_succ, List.set_cons_zero]
      refine Nt.takeS (v := ?vb1) 1 15 rfl rfl (by kernel_rfl) (by kernel_rfl) (by kernel_rfl) (fun _ _ _ h => h) (Or.inl ⟨by rfl, ?yb1⟩) hHeld ?rb1
      case yb1 => (intro w hSw; (try dsimp only at hSw); go_simp; all_goals (with_reducible rfl))
      simp only [List.set_cons_succ, List.set_cons_zero]
      refine Nt.takeS (v := ?vb2) 2 16 rfl rfl (by kernel_rfl) (by kernel_rfl) (by kernel_rfl) (fun _ _ _ h => h) (Or.inl ⟨by rfl, ?yb2⟩) hHeld ?rb2
      case yb2 => (intro w hSw; (try dsimp only at hSw); go_simp; all_goals (with_reducible rfl))
      simp only [List.set_cons_succ, List.set_cons_zero]
      refine Nt.takeS (v := ?vb3) 3 17 rfl rfl (by kernel_rfl) (by kernel_rfl) (by kernel_rfl) (fun _ _ _ h => h) (Or.inl ⟨by rfl, ?yb3⟩) hHeld ?rb3
      case yb3 => (intro w hSw; (try dsimp only at hSw); go_simp; all_goals (with_reducible rfl))
      simp only [List.set_cons_succ, List.set_cons_zero]
      refine Nt.takeS (v := ?vb4) 4 18 rfl rfl (by kernel_rfl) (by kernel_rfl) (by kernel_rfl) (fun _ _ _ h => h) (Or.inl ⟨by rfl, ?yb4⟩) hHeld ?rb4
      case yb4 => (intro w hSw; (try dsimp only at hSw); go_simp; all_goals (with_reducible rfl))
      simp only [List.set_cons_succ, List.set_cons_zero]
      refine wpAnyH_ready (rs := [5]) (by kernel_rfl) (by simp) ?_
      refine AllReadyH.cons rfl (fun K hK => ?_) AllReadyH.nil
      go_simp
      go_at_call 23
      refine Calls.mono (CL.out _ BR.out.drew) ?_
      rintro e W4 ⟨rfl, B4⟩
      go_wp2_with fail
      refine hK.out _ _ ?_ (fun hHeld5 => ?_)
      ·exact CF.out _ B4.out
      clear hK K
      first | refine Nt.normS 19 rfl ?_ | skip
      first | (simp only [List.set_cons_succ, List.set_cons_zero]) | skip
      refine Nt.takeS (v := ?vb6) 6 20 rfl rfl (by kernel_rfl) (by kernel_rfl) (by kernel_rfl) (fun _ _ _ h => h) (Or.inl ⟨by rfl, ?yb6⟩) hHeld5 ?rb6
      case yb6 => (intro w hSw; (try dsimp only at hSw); go_simp; all_goals (with_reducible rfl))
      simp only [List.set_cons_succ, List.set_cons_zero]
      refine Nt.takeS (v := ?vb7) 7 21 rfl rfl (by kernel_rfl) (by kernel_rfl) (by kernel_rfl) (fun _ _ _ h => h) (Or.inl ⟨by rfl, ?yb7⟩) hHeld5 ?rb7
      case yb7 => (intro w hSw; (try dsimp only at hSw); go_simp; all_goals (with_reducible rfl))
      simp only [List.set_cons_succ, List.set_cons_zero]
      refine Nt.takeS (v := ?vb8) 8 22 rfl rfl (by kernel_rfl) (by kernel_rfl) (by kernel_rfl) (fun _ _ _ h => h) (Or.inl ⟨by rfl, ?yb8⟩) hHeld5 ?rb8
      case yb8 => (intro w hSw; (try dsimp only at hSw); go_simp; all_goals (with_reducible rfl))
      simp only [List.set_cons_succ, List.set_cons_zero]
      refine Nt.takeS (v := ?vb9) 9 23 rfl rfl (by kernel_rfl) (by kernel_rfl) (by kernel_rfl) (fun _ _ _ h => h) (Or.inl ⟨by rfl, ?yb9⟩) hHeld5 ?rb9
      case yb9 => (intro w hSw; (try dsimp only at hSw); go_simp; all_goals (with_reducible rfl))
      simp only [List.set_cons_succ, List.set_cons_zero]
      refine wpAnyH_ready (rs := [10]) (by kernel_rfl) (by simp) ?_
      refine AllReadyH.cons rfl (fun K hK => ?_) AllReadyH.nil
      go_simp
      go_at_call 24
      refine Calls.mono (CT.out _ B4.out) ?_
      rintro e W5 ⟨rfl, B5⟩
      go_wp2_with fail
      refine hK.out _ _ ?_ (fun hHeld10 => ?_)
      ·exact CF.out _ B5.out
      clear hK K
      first | refine Nt.normS 24 rfl ?_ | skip
      first | (simp only [List.set_cons_succ, List.set_cons_zero]) | skip
      refine Nt.takeS (v := ?vb11) 11 25 rfl rfl (by kernel_rfl) (by kernel_rfl) (by kernel_rfl) (fun _ _ _ h => h) (Or.inl ⟨by rfl, ?yb11⟩) hHeld10 ?rb11
      case yb11 => (intro w hSw; (try dsimp only at hSw); go_simp; all_goals (with_reducible rfl))
      simp only [List.set_cons_succ, List.set_cons_zero]
      refine Nt.takeS (v := ?vb12) 12 26 rfl rfl (by kernel_rfl) (by kernel_rfl) (by kernel_rfl) (fun _ _ _ h => h) (Or.inl ⟨by rfl, ?yb12⟩) hHeld10 ?rb12
      case yb12 => (intro w hSw; (try dsimp only at hSw); go_simp; all_goals (with_reducible rfl))
      simp only [List.set_cons_succ, List.set_cons_zero]
      refine Nt.takeS (v := ?vb13) 13 27 rfl rfl (by kernel_rfl) (by kernel_rfl) (by kernel_rfl) (fun _ _ _ h => h) (Or.inl ⟨by rfl, ?yb13⟩) hHeld10 ?rb13
      case yb13 => (intro w hSw; (try dsimp only at hSw); go_simp; all_goals (with_reducible rfl))
      simp only [List.set_cons_succ, List.set_cons_zero]
      refine Nt.takeS (v := undef) 14 28 rfl rfl (by kernel_rfl) (by kernel_rfl) (by kernel_rfl) (fun _ _ _ h => h) (Or.inr ⟨by rfl, rfl⟩) hHeld10 ?_
      simp only [List.set_cons_succ, List.set_cons_zero]
      refine Nt.takeS (v := undef) 15 29 rfl rfl (by kernel_rfl) (by kernel_rfl) (by kernel_rfl) (fun _ _ _ h => h) (Or.inr ⟨by rfl, rfl⟩) hHeld10 ?_
      simp only [List.set_cons_succ, List.set_cons_zero]
      refine Nt.takeS (v := undef) 16 30 rfl rfl (by kernel_rfl) (by kernel_rfl) (by kernel_rfl) (fun _ _ _ h => h) (Or.inr ⟨by rfl, rfl⟩) hHeld10 ?_
      simp only [List.set_cons_succ, List.set_cons_zero]
      refine Nt.takeS (v := undef) 17 31 rfl rfl (by kernel_rfl) (by kernel_rfl) (by kernel_rfl) (fun _ _ _ h => h) (Or.inr ⟨by rfl, rfl⟩) hHeld10 ?_
      simp only [List.set_cons_succ, List.set_cons_zero]
      refine Nt.takeS (v := ?vb18) 18 32 rfl rfl (by kernel_rfl) (by kernel_rfl) (by kernel_rfl) (fun _ _ _ h => h) (Or.inl ⟨by rfl, ?yb18⟩) hHeld10 ?rb18
      case yb18 => (intro w hSw; (try dsimp only at hSw); go_simp; all_goals (with_reducible rfl))
      simp only [List.set_cons_succ, List.set_cons_zero]
      refine Nt.takeS (v := ?vb19) 19 33 rfl rfl (by kernel_rfl) (by kernel_rfl) (by kernel_rfl) (fun _ _ _ h => h) (Or.inl ⟨by rfl, ?yb19⟩) hHeld10 ?rb19
      case yb19 => (intro w hSw; (try dsimp only at hSw); go_simp; all_goals (with_reducible rfl))
      simp only [List.set_cons_succ, List.set_cons_zero]
      refine Nt.takeS (v := undef) 20 34 rfl rfl (by kernel_rfl) (by kernel_rfl) (by kernel_rfl) (fun _ _ _ h => h) (Or.inr ⟨by rfl, rfl⟩) hHeld10 ?_
      simp only [List.set_cons_succ, List.set_cons_zero]
      refine Nt.takeS (v := undef) 21 35 rfl rfl (by kernel_rfl) (by kernel_rfl) (by kernel_rfl) (fun _ _ _ h => h) (Or.inr ⟨by rfl, rfl⟩) hHeld10 ?_
      simp only [List.set_cons_succ, List.set_cons_zero]
      refine Nt.takeS (v := undef) 22 36 rfl rfl (by kernel_rfl) (by kernel_rfl) (by kernel_rfl) (fun _ _ _ h => h) (Or.inr ⟨by rfl, rfl⟩) hHeld10 ?_
      simp only [List.set_cons_succ, List.set_cons_zero]
      refine Nt.takeS (v := undef) 23 37 rfl rfl (by kernel_rfl) (by kernel_rfl) (by kernel_rfl) (fun _ _ _ h => h) (Or.inr ⟨by rfl, rfl⟩) hHeld10 ?_
      simp only [List.set_cons_succ, List.set_cons_zero]
      refine Nt.takeS (v := undef) 24 38 rfl rfl (by kernel_rfl) (by kernel_rfl) (by kernel_rfl) (fun _ _ _ h => h) (Or.inr ⟨by rfl, rfl⟩) hHeld10 ?_
      simp only [List.set_cons_succ, List.set_cons_zero]
      refine Nt.takeS (v := ?vb25) 25 39 rfl rfl (by kernel_rfl) (by kernel_rfl) (by kernel_rfl) (fun _ _ _ h => h) (Or.inl ⟨by rfl, ?yb25⟩) hHeld10 ?rb25
      case yb25 => (intro w hSw; (try dsimp only at hSw); go_simp; all_goals (with_reducible rfl))
      simp only [List.set_cons_succ, List.set_cons_zero]
      refine wpAnyH_done (by kernel_rfl) ?_ _
      go_wp2
      go_ret
      exact ⟨by rw [← HE.out]; rfl, HA.out.trans (B5.out.mono HA.out.size)⟩
    | true =>
      cases r3 with
      | false =>
        go_upto_region 4 with fail
        refine wp_region_held_drew (S := (fun V => V.cell? ⟨X.heap.size, 1, none⟩ = some (.slice af m cf) ∧ V.cell? ⟨X.heap.size + 1, 40, none⟩ = some (.int .i64 x0) ∧ V.cell? ⟨X.heap.size + 1, 41, none⟩ = some (.int .i64 x1) ∧ V.cell? ⟨X.heap.size + 1, 42, none⟩ = some (.int .i64 x2) ∧ V.cell? ⟨X.heap.size + 1, 43, none⟩ = some (.int .i64 x3) ∧ V.cell? ⟨X.heap.size + 1, 48, none⟩ = some (.int .i64 md))) (by kernel_rfl) ?_ (fun hHeld => ?_)
        ·exact CF.out _ BR.out.drew
        refine Nt.takeS (v := ?vc0) 0 14 rfl rfl (by kernel_rfl) (by kernel_rfl) (by kernel_rfl) (fun _ _ _ h => h) (Or.inl ⟨by rfl, ?yc0⟩) hHeld ?rc0
        case yc0 => (intro w hSw; (try dsimp only at hSw); go_simp; all_goals (with_reducible rfl))
        simp only [List.set_cons_succ, List.set_cons_zero]
        refine Nt.takeS (v := ?vc1) 1 15 rfl rfl (by kernel_rfl) (by kernel_rfl) (by kernel_rfl) (fun _ _ _ h => h) (Or.inl ⟨by rfl, ?yc1⟩) hHeld ?rc1
        case yc1 => (intro w hSw; (try dsimp only at hSw); go_simp; all_goals (with_reducible rfl))
        simp only [List.set_cons_succ, List.set_cons_zero]
        refine Nt.takeS (v := ?vc2) 2 16 rfl rfl (by kernel_rfl) (by kernel_rfl) (by kernel_rfl) (fun _ _ _ h => h) (Or.inl ⟨by rfl, ?yc2⟩) hHeld ?rc2
        case yc2 => (intro w hSw; (try dsimp only at hSw); go_simp; all_goals (with_reducible rfl))
        simp only [List.set_cons_succ, List.set_cons_zero]
        refine Nt.takeS (v := ?vc3) 3 17 rfl rfl (by kernel_rfl) (by kernel_rfl) (by kernel_rfl) (fun _ _ _ h => h) (Or.inl ⟨by rfl, ?yc3⟩) hHeld ?rc3
        case yc3 => (intro w hSw; (try dsimp only at hSw); go_simp; all_goals (with_reducible rfl))
        simp only [List.set_cons_succ, List.set_cons_zero]
        refine Nt.takeS (v := ?vc4) 4 18 rfl rfl (by kernel_rfl) (by kernel_rfl) (by kernel_rfl) (fun _ _ _ h => h) (Or.inl ⟨by rfl, ?yc4⟩) hHeld ?rc4
        case yc4 => (intro w hSw; (try dsimp only at hSw); go_simp; all_goals (with_reducible rfl))
        simp only [List.set_cons_succ, List.set_cons_zero]
        refine wpAnyH_ready (rs := [5]) (by kernel_rfl) (by simp) ?_
        refine AllReadyH.cons rfl (fun K hK => ?_) AllReadyH.nil
        go_simp
        go_at_call 23
        refine Calls.mono (CL.out _ BR.out.drew) ?_
        rintro e W4 ⟨rfl, B4⟩
        go_wp2_with fail
        refine hK.out _ _ ?_ (fun hHeld5 => ?_)
        ·exact CF.out _ B4.out
        clear hK K
        first | refine Nt.normS 19 rfl ?_ | skip
        first | (simp only [List.set_cons_succ, List.set_cons_zero]) | skip
        refine Nt.takeS (v := ?vc6) 6 20 rfl rfl (by kernel_rfl) (by kernel_rfl) (by kernel_rfl) (fun _ _ _ h => h) (Or.inl ⟨by rfl, ?yc6⟩) hHeld5 ?rc6
        case yc6 => (intro w hSw; (try dsimp only at hSw); go_simp; all_goals (with_reducible rfl))
        simp only [List.set_cons_succ, List.set_cons_zero]
        refine Nt.takeS (v := ?vc7) 7 21 rfl rfl (by kernel_rfl) (by kernel_rfl) (by kernel_rfl) (fun _ _ _ h => h) (Or.inl ⟨by rfl, ?yc7⟩) hHeld5 ?rc7
        case yc7 => (intro w hSw; (try dsimp only at hSw); go_simp; all_goals (with_reducible rfl))
        simp only [List.set_cons_succ, List.set_cons_zero]
        refine Nt.takeS (v := ?vc8) 8 22 rfl rfl (by kernel_rfl) (by kernel_rfl) (by kernel_rfl) (fun _ _ _ h => h) (Or.inl ⟨by rfl, ?yc8⟩) hHeld5 ?rc8
        case yc8 => (intro w hSw; (try dsimp only at hSw); go_simp; all_goals (with_reducible rfl))
        simp only [List.set_cons_succ, List.set_cons_zero]
        refine Nt.takeS (v := ?vc9) 9 23 rfl rfl (by kernel_rfl) (by kernel_rfl) (by kernel_rfl) (fun _ _ _ h => h) (Or.inl ⟨by rfl, ?yc9⟩) hHeld5 ?rc9
        case yc9 => (intro w hSw; (try dsimp only at hSw); go_simp; all_goals (with_reducible rfl))
        simp only [List.set_cons_succ, List.set_cons_zero]
        refine wpAnyH_ready (rs := [10]) (by kernel_rfl) (by simp) ?_
        refine AllReadyH.cons rfl (fun K hK => ?_) AllReadyH.nil
        go_simp
        go_at_call 24
        refine Calls.mono (CT.out _ B4.out) ?_
        rintro e W5 ⟨rfl, B5⟩
        go_wp2_with fail
        refine hK.out _ _ ?_ (fun hHeld10 => ?_)
        ·exact CF.out _ B5.out
        clear hK K
        first | refine Nt.normS 24 rfl ?_ | skip
        first | (simp only [List.set_cons_succ, List.set_cons_zero]) | skip
        refine Nt.takeS (v := ?vc11) 11 25 rfl rfl (by kernel_rfl) (by kernel_rfl) (by kernel_rfl) (fun _ _ _ h => h) (Or.inl ⟨by rfl, ?yc11⟩) hHeld10 ?rc11
        case yc11 => (intro w hSw; (try dsimp only at hSw); go_simp; all_goals (with_reducible rfl))
        simp only [List.set_cons_succ, List.set_cons_zero]
        refine Nt.takeS (v := ?vc12) 12 26 rfl rfl (by kernel_rfl) (by kernel_rfl) (by kernel_rfl) (fun _ _ _ h => h) (Or.inl ⟨by rfl, ?yc12⟩) hHeld10 ?rc12
        case yc12 => (intro w hSw; (try dsimp only at hSw); go_simp; all_goals (with_reducible rfl))
        simp only [List.set_cons_succ, List.set_cons_zero]
        refine Nt.takeS (v := ?vc13) 13 27 rfl rfl (by kernel_rfl) (by kernel_rfl) (by kernel_rfl) (fun _ _ _ h => h) (Or.inl ⟨by rfl, ?yc13⟩) hHeld10 ?rc13
        case yc13 => (intro w hSw; (try dsimp only at hSw); go_simp; all_goals (with_reducible rfl))
        simp only [List.set_cons_succ, List.set_cons_zero]
        refine Nt.takeS (v := ?vc14) 14 28 rfl rfl (by kernel_rfl) (by kernel_rfl) (by kernel_rfl) (fun _ _ _ h => h) (Or.inl ⟨by rfl, ?yc14⟩) hHeld10 ?rc14
        case yc14 => (intro w hSw; (try dsimp only at hSw); go_simp; all_goals (with_reducible rfl))
        simp only [List.set_cons_succ, List.set_cons_zero]
        refine Nt.takeS (v := ?vc15) 15 29 rfl rfl (by kernel_rfl) (by kernel_rfl) (by kernel_rfl) (fun _ _ _ h => h) (Or.inl ⟨by rfl, ?yc15⟩) hHeld10 ?rc15
        case yc15 => (intro w hSw; (try dsimp only at hSw); go_simp; all_goals (with_reducible rfl))
        simp only [List.set_cons_succ, List.set_cons_zero]
        refine wpAnyH_ready (rs := [16]) (by kernel_rfl) (by simp) ?_
        refine AllReadyH.cons rfl (fun K hK => ?_) AllReadyH.nil
        go_simp
        go_at_call 25
        refine Calls.mono (CU.out _ B5.out) ?_
        rintro e W6 ⟨rfl, B6⟩
        go_wp2_with fail
        refine hK.out _ _ ?_ (fun hHeld16 => ?_)
        ·exact CF.out _ B6.out
        clear hK K
        first | refine Nt.normS 30 rfl ?_ | skip
        first | (simp only [List.set_cons_succ, List.set_cons_zero]) | skip
        refine Nt.takeS (v := ?vc17) 17 31 rfl rfl (by kernel_rfl) (by kernel_rfl) (by kernel_rfl) (fun _ _ _ h => h) (Or.inl ⟨by rfl, ?yc17⟩) hHeld16 ?rc17
        case yc17 => (intro w hSw; (try dsimp only at hSw); go_simp; all_goals (with_reducible rfl))
        simp only [List.set_cons_succ, List.set_cons_zero]
        refine Nt.takeS (v := ?vc18) 18 32 rfl rfl (by kernel_rfl) (by kernel_rfl) (by kernel_rfl) (fun _ _ _ h => h) (Or.inl ⟨by rfl, ?yc18⟩) hHeld16 ?rc18
        case yc18 => (intro w hSw; (try dsimp only at hSw); go_simp; all_goals (with_reducible rfl))
        simp only [List.set_cons_succ, List.set_cons_zero]
        refine Nt.takeS (v := ?vc19) 19 33 rfl rfl (by kernel_rfl) (by kernel_rfl) (by kernel_rfl) (fun _ _ _ h => h) (Or.inl ⟨by rfl, ?yc19⟩) hHeld16 ?rc19
        case yc19 => (intro w hSw; (try dsimp only at hSw); go_simp; all_goals (with_reducible rfl))
        simp only [List.set_cons_succ, List.set_cons_zero]
        refine Nt.takeS (v := undef) 20 34 rfl rfl (by kernel_rfl) (by kernel_rfl) (by kernel_rfl) (fun _ _ _ h => h) (Or.inr ⟨by rfl, rfl⟩) hHeld16 ?_
        simp only [List.set_cons_succ, List.set_cons_zero]
        refine Nt.takeS (v := undef) 21 35 rfl rfl (by kernel_rfl) (by kernel_rfl) (by kernel_rfl) (fun _ _ _ h => h) (Or.inr ⟨by rfl, rfl⟩) hHeld16 ?_
        simp only [List.set_cons_succ, List.set_cons_zero]
        refine Nt.takeS (v := undef) 22 36 rfl rfl (by kernel_rfl) (by kernel_rfl) (by kernel_rfl) (fun _ _ _ h => h) (Or.inr ⟨by rfl, rfl⟩) hHeld16 ?_
        simp only [List.set_cons_succ, List.set_cons_zero]
        refine Nt.takeS (v := undef) 23 37 rfl rfl (by kernel_rfl) (by kernel_rfl) (by kernel_rfl) (fun _ _ _ h => h) (Or.inr ⟨by rfl, rfl⟩) hHeld16 ?_
        simp only [List.set_cons_succ, List.set_cons_zero]
        refine Nt.takeS (v := undef) 24 38 rfl rfl (by kernel_rfl) (by kernel_rfl) (by kernel_rfl) (fun _ _ _ h => h) (Or.inr ⟨by rfl, rfl⟩) hHeld16 ?_
        simp only [List.set_cons_succ, List.set_cons_zero]
        refine Nt.takeS (v := ?vc25) 25 39 rfl rfl (by kernel_rfl) (by kernel_rfl) (by kernel_rfl) (fun _ _ _ h => h) (Or.inl ⟨by rfl, ?yc25⟩) hHeld16 ?rc25
        case yc25 => (intro w hSw; (try dsimp only at hSw); go_simp; all_goals (with_reducible rfl))
        simp only [List.set_cons_succ, List.set_cons_zero]
        refine wpAnyH_done (by kernel_rfl) ?_ _
        go_wp2
        go_ret
        exact ⟨by rw [← HE.out]; rfl, HA.out.trans (B6.out.mono HA.out.size)⟩
      | true =>
        go_upto_region 4 with fail
        refine wp_region_held_drew (S := (fun V => V.cell? ⟨X.heap.size, 1, none⟩ = some (.slice af m cf) ∧ V.cell? ⟨X.heap.size + 1, 40, none⟩ = some (.int .i64 x0) ∧ V.cell? ⟨X.heap.size + 1, 41, none⟩ = some (.int .i64 x1) ∧ V.cell? ⟨X.heap.size + 1, 42, none⟩ = some (.int .i64 x2) ∧ V.cell? ⟨X.heap.size + 1, 43, none⟩ = some (.int .i64 x3) ∧ V.cell? ⟨X.heap.size + 1, 48, none⟩ = some (.int .i64 md))) (by kernel_rfl) ?_ (fun hHeld => ?_)
        ·exact CF.out _ BR.out.drew
        refine Nt.takeS (v := ?vd0) 0 14 rfl rfl (by kernel_rfl) (by kernel_rfl) (by kernel_rfl) (fun _ _ _ h => h) (Or.inl ⟨by rfl, ?yd0⟩) hHeld ?rd0
        case yd0 => (intro w hSw; (try dsimp only at hSw); go_simp; all_goals (with_reducible rfl))
        simp only [List.set_cons_succ, List.set_cons_zero]
        refine Nt.takeS (v := ?vd1) 1 15 rfl rfl (by kernel_rfl) (by kernel_rfl) (by kernel_rfl) (fun _ _ _ h => h) (Or.inl ⟨by rfl, ?yd1⟩) hHeld ?rd1
        case yd1 => (intro w hSw; (try dsimp only at hSw); go_simp; all_goals (with_reducible rfl))
        simp only [List.set_cons_succ, List.set_cons_zero]
        refine Nt.takeS (v := ?vd2) 2 16 rfl rfl (by kernel_rfl) (by kernel_rfl) (by kernel_rfl) (fun _ _ _ h => h) (Or.inl ⟨by rfl, ?yd2⟩) hHeld ?rd2
        case yd2 => (intro w hSw; (try dsimp only at hSw); go_simp; all_goals (with_reducible rfl))
        simp only [List.set_cons_succ, List.set_cons_zero]
        refine Nt.takeS (v := ?vd3) 3 17 rfl rfl (by kernel_rfl) (by kernel_rfl) (by kernel_rfl) (fun _ _ _ h => h) (Or.inl ⟨by rfl, ?yd3⟩) hHeld ?rd3
        case yd3 => (intro w hSw; (try dsimp only at hSw); go_simp; all_goals (with_reducible rfl))
        simp only [List.set_cons_succ, List.set_cons_zero]
        refine Nt.takeS (v := ?vd4) 4 18 rfl rfl (by kernel_rfl) (by kernel_rfl) (by kernel_rfl) (fun _ _ _ h => h) (Or.inl ⟨by rfl, ?yd4⟩) hHeld ?rd4
        case yd4 => (intro w hSw; (try dsimp only at hSw); go_simp; all_goals (with_reducible rfl))
        simp only [List.set_cons_succ, List.set_cons_zero]
        refine wpAnyH_ready (rs := [5]) (by kernel_rfl) (by simp) ?_
        refine AllReadyH.cons rfl (fun K hK => ?_) AllReadyH.nil
        go_simp
        go_at_call 23
        refine Calls.mono (CL.out _ BR.out.drew) ?_
        rintro e W4 ⟨rfl, B4⟩
        go_wp2_with fail
        refine hK.out _ _ ?_ (fun hHeld5 => ?_)
        ·exact CF.out _ B4.out
        clear hK K
        first | refine Nt.normS 19 rfl ?_ | skip
        first | (simp only [List.set_cons_succ, List.set_cons_zero]) | skip
        refine Nt.takeS (v := ?vd6) 6 20 rfl rfl (by kernel_rfl) (by kernel_rfl) (by kernel_rfl) (fun _ _ _ h => h) (Or.inl ⟨by rfl, ?yd6⟩) hHeld5 ?rd6
        case yd6 => (intro w hSw; (try dsimp only at hSw); go_simp; all_goals (with_reducible rfl))
        simp only [List.set_cons_succ, List.set_cons_zero]
        refine Nt.takeS (v := ?vd7) 7 21 rfl rfl (by kernel_rfl) (by kernel_rfl) (by kernel_rfl) (fun _ _ _ h => h) (Or.inl ⟨by rfl, ?yd7⟩) hHeld5 ?rd7
        case yd7 => (intro w hSw; (try dsimp only at hSw); go_simp; all_goals (with_reducible rfl))
        simp only [List.set_cons_succ, List.set_cons_zero]
        refine Nt.takeS (v := ?vd8) 8 22 rfl rfl (by kernel_rfl) (by kernel_rfl) (by kernel_rfl) (fun _ _ _ h => h) (Or.inl ⟨by rfl, ?yd8⟩) hHeld5 ?rd8
        case yd8 => (intro w hSw; (try dsimp only at hSw); go_simp; all_goals (with_reducible rfl))
        simp only [List.set_cons_succ, List.set_cons_zero]
        refine Nt.takeS (v := ?vd9) 9 23 rfl rfl (by kernel_rfl) (by kernel_rfl) (by kernel_rfl) (fun _ _ _ h => h) (Or.inl ⟨by rfl, ?yd9⟩) hHeld5 ?rd9
        case yd9 => (intro w hSw; (try dsimp only at hSw); go_simp; all_goals (with_reducible rfl))
        simp only [List.set_cons_succ, List.set_cons_zero]
        refine wpAnyH_ready (rs := [10]) (by kernel_rfl) (by simp) ?_
        refine AllReadyH.cons rfl (fun K hK => ?_) AllReadyH.nil
        go_simp
        go_at_call 24
        refine Calls.mono (CT.out _ B4.out) ?_
        rintro e W5 ⟨rfl, B5⟩
        go_wp2_with fail
        refine hK.out _ _ ?_ (fun hHeld10 => ?_)
        ·exact CF.out _ B5.out
        clear hK K
        first | refine Nt.normS 24 rfl ?_ | skip
        first | (simp only [List.set_cons_succ, List.set_cons_zero]) | skip
        refine Nt.takeS (v := ?vd11) 11 25 rfl rfl (by kernel_rfl) (by kernel_rfl) (by kernel_rfl) (fun _ _ _ h => h) (Or.inl ⟨by rfl, ?yd11⟩) hHeld10 ?rd11
        case yd11 => (intro w hSw; (try dsimp only at hSw); go_simp; all_goals (with_reducible rfl))
        simp only [List.set_cons_succ, List.set_cons_zero]
        refine Nt.takeS (v := ?vd12) 12 26 rfl rfl (by kernel_rfl) (by kernel_rfl) (by kernel_rfl) (fun _ _ _ h => h) (Or.inl ⟨by rfl, ?yd12⟩) hHeld10 ?rd12
        case yd12 => (intro w hSw; (try dsimp only at hSw); go_simp; all_goals (with_reducible rfl))
        simp only [List.set_cons_succ, List.set_cons_zero]
        refine Nt.takeS (v := ?vd13) 13 27 rfl rfl (by kernel_rfl) (by kernel_rfl) (by kernel_rfl) (fun _ _ _ h => h) (Or.inl ⟨by rfl, ?yd13⟩) hHeld10 ?rd13
        case yd13 => (intro w hSw; (try dsimp only at hSw); go_simp; all_goals (with_reducible rfl))
        simp only [List.set_cons_succ, List.set_cons_zero]
        refine Nt.takeS (v := ?vd14) 14 28 rfl rfl (by kernel_rfl) (by kernel_rfl) (by kernel_rfl) (fun _ _ _ h => h) (Or.inl ⟨by rfl, ?yd14⟩) hHeld10 ?rd14
        case yd14 => (intro w hSw; (try dsimp only at hSw); go_simp; all_goals (with_reducible rfl))
        simp only [List.set_cons_succ, List.set_cons_zero]
        refine Nt.takeS (v := ?vd15) 15 29 rfl rfl (by kernel_rfl) (by kernel_rfl) (by kernel_rfl) (fun _ _ _ h => h) (Or.inl ⟨by rfl, ?yd15⟩) hHeld10 ?rd15
        case yd15 => (intro w hSw; (try dsimp only at hSw); go_simp; all_goals (with_reducible rfl))
        simp only [List.set_cons_succ, List.set_cons_zero]
        refine wpAnyH_ready (rs := [16]) (by kernel_rfl) (by simp) ?_
        refine AllReadyH.cons rfl (fun K hK => ?_) AllReadyH.nil
        go_simp
        go_at_call 25
        refine Calls.mono (CU.out _ B5.out) ?_
        rintro e W6 ⟨rfl, B6⟩
        go_wp2_with fail
        refine hK.out _ _ ?_ (fun hHeld16 => ?_)
        ·exact CF.out _ B6.out
        clear hK K
        first | refine Nt.normS 30 rfl ?_ | skip
        first | (simp only [List.set_cons_succ, List.set_cons_zero]) | skip
        refine Nt.takeS (v := ?vd17) 17 31 rfl rfl (by kernel_rfl) (by kernel_rfl) (by kernel_rfl) (fun _ _ _ h => h) (Or.inl ⟨by rfl, ?yd17⟩) hHeld16 ?rd17
        case yd17 => (intro w hSw; (try dsimp only at hSw); go_simp; all_goals (with_reducible rfl))
        simp only [List.set_cons_succ, List.set_cons_zero]
        refine Nt.takeS (v := ?vd18) 18 32 rfl rfl (by kernel_rfl) (by kernel_rfl) (by kernel_rfl) (fun _ _ _ h => h) (Or.inl ⟨by rfl, ?yd18⟩) hHeld16 ?rd18
        case yd18 => (intro w hSw; (try dsimp only at hSw); go_simp; all_goals (with_reducible rfl))
        simp only [List.set_cons_succ, List.set_cons_zero]
        refine Nt.takeS (v := ?vd19) 19 33 rfl rfl (by kernel_rfl) (by kernel_rfl) (by kernel_rfl) (fun _ _ _ h => h) (Or.inl ⟨by rfl, ?yd19⟩) hHeld16 ?rd19
        case yd19 => (intro w hSw; (try dsimp only at hSw); go_simp; all_goals (with_reducible rfl))
        simp only [List.set_cons_succ, List.set_cons_zero]
        refine Nt.takeS (v := ?vd20) 20 34 rfl rfl (by kernel_rfl) (by kernel_rfl) (by kernel_rfl) (fun _ _ _ h => h) (Or.inl ⟨by rfl, ?yd20⟩) hHeld16 ?rd20
        case yd20 => (intro w hSw; (try dsimp only at hSw); go_simp; all_goals (with_reducible rfl))
        simp only [List.set_cons_succ, List.set_cons_zero]
        refine Nt.takeS (v := ?vd21) 21 35 rfl rfl (by kernel_rfl) (by kernel_rfl) (by kernel_rfl) (fun _ _ _ h => h) (Or.inl ⟨by rfl, ?yd21⟩) hHeld16 ?rd21
        case yd21 => (intro w hSw; (try dsimp only at hSw); go_simp; all_goals (with_reducible rfl))
        simp only [List.set_cons_succ, List.set_cons_zero]
        refine wpAnyH_ready (rs := [22]) (by kernel_rfl) (by simp) ?_
        refine AllReadyH.cons rfl (fun K hK => ?_) AllReadyH.nil
        go_simp
        refine hK.out _ _ ?_ (fun hHeld22 => ?_)
        ·exact CF.out _ (B6.out.alloc B6.out.size _)
        clear hK K
        first | refine Nt.normS 36 rfl ?_ | skip
        first | (simp only [List.set_cons_succ, List.set_cons_zero]) | skip
        refine wpAnyH_ready (rs := [23]) (by kernel_rfl) (by simp) ?_
        refine AllReadyH.cons rfl (fun K hK => ?_) AllReadyH.nil
        go_simp
        go_at_call 25
        refine Calls.mono (CV.out _ B6.out) ?_
        rintro e W7 ⟨rfl, B7⟩
        go_wp2_with fail
        refine hK.out _ _ ?_ (fun hHeld23 => ?_)
        ·exact CF.out _ B7.out
        clear hK K
        first | refine Nt.normS 37 rfl ?_ | skip
        first | (simp only [List.set_cons_succ, List.set_cons_zero]) | skip
        refine Nt.takeS (v := ?vd24) 24 38 rfl rfl (by kernel_rfl) (by kernel_rfl) (by kernel_rfl) (fun _ _ _ h => h) (Or.inl ⟨by rfl, ?yd24⟩) hHeld23 ?rd24
        case yd24 => (intro w hSw; (try dsimp only at hSw); go_simp; all_goals (with_reducible rfl))
        simp only [List.set_cons_succ, List.set_cons_zero]
        refine Nt.takeS (v := ?vd25) 25 39 rfl rfl (by kernel_rfl) (by kernel_rfl) (by kernel_rfl) (fun _ _ _ h => h) (Or.inl ⟨by rfl, ?yd25⟩) hHeld23 ?rd25
        case yd25 => (intro w hSw; (try dsimp only at hSw); go_simp; all_goals (with_reducible rfl))
        simp only [List.set_cons_succ, List.set_cons_zero]
        refine wpAnyH_done (by kernel_rfl) ?_ _
        cases r4 with
        | false =>
          go_wp2
          go_ret
          exact ⟨by rw [← HE.out]; rfl, HA.out.trans (B7.out.mono HA.out.size)⟩
        | true =>
          go_wp2
          go_ret
          exact ⟨by rw [← HE.out]; rfl, HA.out.trans (B7.out.mono HA.out.size)⟩
 ·have e0 : ((r : Int) != 0) = true := by simpa using hr
  have HE : Hid (4 = R) := by
    have := HR.out.1
    rw [if_pos hr] at this
    exact this
  have HA : Hid (Below X.heap.size X w1) := A1
  have HW1 : Hid _ := hw1
  clear hw1 P0 P1 A1 hc hx0 hx1 hx2 hx3 hmd hru hR HR hH hn hO hll hr hm
  go_enter Tryz.func9, Tryz.ntmps9
  go_upto_region 1 with fail
  rw [HW1.out]
  clear HW1
  go_wp2_with fail
  refine Calls.mono CN.out ?_
  rintro e W1 ⟨rfl, b1⟩
  have BX : Hid (Below X.heap.size X W1) := HA.out.trans (b1.mono HA.out.size)
  clear b1 CN k0 k1
  go_wp2
  go_ret
  exact ⟨by rw [← HE.out]; rfl, BX.out⟩
end Go.Proofs
