import Derived.Test.YtmomffminkflnaaGreatDoorRAllNtOne
namespace Go.Proofs
open Go.RowKit Go.Shelf
set_option maxRecDepth 20000 in
set_option maxHeartbeats 16000000 in
theorem Tryz.fm_13 (x1 x2 x3 x4 x5 : Int) (a6 a7 a8 a9 aA aB : Option Addr) (n6 c6 n7 c7 n8 c8 n9 c9 nA cA nB cB : Nat) (w : World) (hb : Bool) (P : Prop) (ob : Bool) (_hn7 : n7 ≤ 1000) (_hn8 : n8 ≤ 1000) (CH0 : ∀ W, Below w.heap.size w W → Calls Tryz.prog 58 #[.agg #[.int .i64 13, .int .i64 x1, .int .i64 x2, .int .i64 x3, .int .i64 x4, .int .i64 x5, .slice a6 n6 c6, .slice a7 n7 c7, .slice a8 n8 c8, .slice a9 n9 c9, .slice aA nA cA, .slice aB nB cB]] W fun e w' => e = .returned (.bool hb) ∧ Below W.heap.size W w') (CA0 : ∀ W, Below w.heap.size w W → Calls Tryz.prog 65 #[.agg #[.int .i64 13, .int .i64 x1, .int .i64 x2, .int .i64 x3, .int .i64 x4, .int .i64 x5, .slice a6 n6 c6, .slice a7 n7 c7, .slice none 0 0, .slice none 0 0, .slice aA nA cA, .slice aB nB cB], .agg #[.int .i64 13, .int .i64 0, .int .i64 0, .int .i64 0, .int .i64 0, .int .i64 0, .slice none 0 0, .slice none 0 0, .slice none 0 0, .slice none 0 0, .slice none 0 0, .slice none 0 0]] W fun e w' => Ak.Told P e ∧ Below W.heap.size W w') (CL0 : ∀ W, Below w.heap.size w W → Calls Tryz.prog 63 #[.agg #[.int .i64 13, .int .i64 x1, .int .i64 x2, .int .i64 x3, .int .i64 x4, .int .i64 x5, .slice a6 n6 c6, .slice a7 n7 c7, .slice a8 n8 c8, .slice a9 n9 c9, .slice aA nA cA, .slice aB nB cB]] W fun e w' => e = .returned (.bool ob) ∧ Below W.heap.size W w') :
   Calls Tryz.prog 48 #[.agg #[.int .i64 13, .int .i64 x1, .int .i64 x2, .int .i64 x3, .int .i64 x4, .int .i64 x5, .slice a6 n6 c6, .slice a7 n7 c7, .slice a8 n8 c8, .slice a9 n9 c9, .slice aA nA cA, .slice aB nB cB]] w fun e w' => Ak.Told (hb = true ∧ ob = true ∧ P ∧ True) e ∧ Below w.heap.size w w' := by
 obtain ⟨Q, hQ⟩ : ∃ Q : Prop, (hb = true ∧ ob = true ∧ P ∧ True) = Q := ⟨_, rfl⟩
 rw [hQ]
 have HQ : Hid (Q ↔ hb = true ∧ ob = true ∧ P ∧ True) := by rw [← hQ]; exact Iff.rfl
 have CH : Hid _ := CH0
 have CA : Hid _ := CA0
 have CL : Hid _ := CL0
 clear CL0
 obtain ⟨w1, hw1⟩ : ∃ x, w.alloc (.cells #[.int .i64 13, .int .i64 x1, .int .i64 x2, .int .i64 x3, .int .i64 x4, .int .i64 x5, .slice a6 n6 c6, .slice a7 n7 c7, .slice a8 n8 c8, .slice a9 n9 c9, .slice aA nA cA, .slice aB nB cB] 32) = x := ⟨_, rfl⟩
 have A1 : Below w.heap.size w w1 := by rw [← hw1]; exact (Below.refl _ w).alloc (Nat.le_refl _) _
 have G1 : w1.heap[w.heap.size]? = some (.cells #[.int .i64 13, .int .i64 x1, .int .i64 x2, .int .i64 x3, .int .i64 x4, .int .i64 x5, .slice a6 n6 c6, .slice a7 n7 c7, .slice a8 n8 c8, .slice a9 n9 c9, .slice aA nA cA, .slice aB nB cB] 32 (0, 0)) := by rw [← hw1]; exact heap_alloc_new w _
 have ca : w1.cell? ⟨w.heap.size, 0, none⟩ = some (.int .i64 13) ∧ w1.cell? ⟨w.heap.size, 1, none⟩ = some (.int .i64 x1) ∧ w1.cell? ⟨w.heap.size, 2, none⟩ = some (.int .i64 x2) ∧ w1.cell? ⟨w.heap.size, 3, none⟩ = some (.int .i64 x3) ∧ w1.cell? ⟨w.heap.size, 4, none⟩ = some (.int .i64 x4) ∧ w1.cell? ⟨w.heap.size, 5, none⟩ = some (.int .i64 x5) ∧ w1.cell? ⟨w.heap.size, 6, none⟩ = some (.slice a6 n6 c6) ∧ w1.cell? ⟨w.heap.size, 7, none⟩ = some (.slice a7 n7 c7) ∧ w1.cell? ⟨w.heap.size, 8, none⟩ = some (.slice a8 n8 c8) ∧ w1.cell? ⟨w.heap.size, 9, none⟩ = some (.slice a9 n9 c9) ∧ w1.cell? ⟨w.heap.size, 10, none⟩ = some (.slice aA nA cA) ∧ w1.cell? ⟨w.heap.size, 11, none⟩ = some (.slice aB nB cB) := by simp [World.cell?, G1]
 obtain ⟨m0, m1, m2, m3, m4, m5, m6, m7, m8, m9, m10, m11⟩ := ca
 have H1 : Hid (w.alloc (.cells #[.int .i64 13, .int .i64 x1, .int .i64 x2, .int .i64 x3, .int .i64 x4, .int .i64 x5, .slice a6 n6 c6, .slice a7 n7 c7, .slice a8 n8 c8, .slice a9 n9 c9, .slice aA nA cA, .slice aB nB cB] 32) = w1) := hw1
 have HA : Hid (Below w.heap.size w w1 ∧ w1.heap[w.heap.size]? = some (.cells #[.int .i64 13, .int .i64 x1, .int .i64 x2, .int .i64 x3, .int .i64 x4, .int .i64 x5, .slice a6 n6 c6, .slice a7 n7 c7, .slice a8 n8 c8, .slice a9 n9 c9, .slice aA nA cA, .slice aB nB cB] 32 (0, 0))) := ⟨A1, G1⟩
 clear hw1 A1 G1 CH0 CA0 hQ
 go_enter Tryz.func48, Tryz.ntmps48
 go_upto_region 1 with fail
 rw [H1.out]
 go_wp2_with fail
 refine Calls.mono (CH.out _ HA.out.1) ?_
 rintro e W2 ⟨rfl, hb2⟩
 clear H1 CH m0 m1 m2 m3 m4 m5 m6 m7 m8 m9 m10 m11
 go_upto_region 3 with fail
 obtain ⟨W3, hW3⟩ : ∃ z, W2.alloc (.cells #[.bool hb] 4) = z := ⟨_, rfl⟩
 have hx2 : W2.heap[w.heap.size]? = some (.cells #[.int .i64 13, .int .i64 x1, .int .i64 x2, .int .i64 x3, .int .i64 x4, .int .i64 x5, .slice a6 n6 c6, .slice a7 n7 c7, .slice a8 n8 c8, .slice a9 n9 c9, .slice aA nA cA, .slice aB nB cB] 32 (0, 0)) := (hb2.block _ (Array.getElem?_eq_some_iff.1 HA.out.2).1).trans HA.out.2
 have hl2 := (Array.getElem?_eq_some_iff.1 hx2).1
 have FW3 : Hid (Ak.Fm w w.heap.size W2.heap.size #[.int .i64 13, .int .i64 x1, .int .i64 x2, .int .i64 x3, .int .i64 x4, .int .i64 x5, .slice a6 n6 c6, .slice a7 n7 c7, .slice a8 n8 c8, .slice a9 n9 c9, .slice aA nA cA, .slice aB nB cB] hb W3) := by
   have b3 : Below W2.heap.size W2 W3 := by rw [← hW3]; exact (Below.refl _ W2).alloc (Nat.le_refl _) _
   have b2 : Below w.heap.size w W2 := HA.out.1.trans (hb2.mono HA.out.1.size)
   exact ⟨(b3.block _ hl2).trans hx2, by rw [← hW3]; exact heap_alloc_new W2 _, by omega, Nat.le_refl _, b2.size, b2.trans (b3.mono b2.size)⟩
 rw [hW3]
 obtain ⟨rb, hrb⟩ : ∃ z, W2.heap.size = z := ⟨_, rfl⟩
 rw [hrb] at FW3 ⊢
 clear hW3 hx2 hl2 hb2 hrb HA
 have k0 : W3.cell? ⟨w.heap.size, 0, none⟩ = some (.int .i64 13) := by simp [World.cell?, FW3.out.box]
 have CN : Hid _ := Tryz.hasNode_any 13 W3
 go_wp2_with fail
 refine Calls.mono CN.out ?_
 rintro e W4 ⟨rfl, hw4⟩
 obtain rfl := hw4.symm
 clear CN
 have ehn : Ac.hasNodeB 13 = false := rfl
 rw [ehn]
 clear ehn
 cases hb with
 | false =>
   have HN : Hid (¬ Q) := fun h => by have := (HQ.out.1 h).1; cases this
   have kr := FW3.out.cr
   have fr := FW3.out.fr
   go_upto_region 41 with fail
   obtain ⟨W11, hW11⟩ : ∃ z, W3.setCell ⟨rb, 0, none⟩ (.bool false) = z := ⟨_, rfl⟩
   rw [hW11]
   have FW11 : Hid (Ak.Fm w w.heap.size rb #[.int .i64 13, .int .i64 x1, .int .i64 x2, .int .i64 x3, .int .i64 x4, .int .i64 x5, .slice a6 n6 c6, .slice a7 n7 c7, .slice a8 n8 c8, .slice a9 n9 c9, .slice aA nA cA, .slice aB nB cB] false W11) := by rw [← hW11]; exact FW3.out.setR false
   clear hW11 kr fr 
   have kz8 : W11.cell? ⟨w.heap.size, 8, none⟩ = some (.slice a8 n8 c8) := by simp [World.cell?, FW11.out.box]
   have fz8 := FW11.out.fx 8
   have kz9 : W11.cell? ⟨w.heap.size, 9, none⟩ = some (.slice a9 n9 c9) := by simp [World.cell?, FW11.out.box]
   have fz9 := FW11.out.fx 9
   go_upto_region 46 with fail
   obtain ⟨W12, hW12⟩ : ∃ z, ((W11.setCell ⟨w.heap.size, 8, none⟩ (.slice none 0 0)).setCell ⟨w.heap.size, 9, none⟩ (.slice none 0 0)) = z := ⟨_, rfl⟩
   rw [hW12]
   have FW12 : Hid (Ak.Fm w w.heap.size rb #[.int .i64 13, .int .i64 x1, .int .i64 x2, .int .i64 x3, .int .i64 x4, .int .i64 x5, .slice a6 n6 c6, .slice a7 n7 c7, .slice none 0 0, .slice none 0 0, .slice aA nA cA, .slice aB nB cB] false W12) := by rw [← hW12]; exact ((FW11.out.setX 8 (.slice none 0 0)).setX 9 (.slice none 0 0))
   clear hW12 kz8 fz8 kz9 fz9
   have kr := FW12.out.cr
   go_wp2
   go_ret
   exact ⟨Ak.Told.no HN.out, FW12.out.bel⟩
 | true =>
 cases ob with
 | false =>
   have HN : Hid (¬ Q) := fun h => by have := (HQ.out.1 h).2.1; cases this
   have kr := FW3.out.cr
   have k0 : W3.cell? ⟨w.heap.size, 0, none⟩ = some (.int .i64 13) := by simp [World.cell?, FW3.out.box]
   have k1 : W3.cell? ⟨w.heap.size, 1, none⟩ = some (.int .i64 x1) := by simp [World.cell?, FW3.out.box]
   have k2 : W3.cell? ⟨w.heap.size, 2, none⟩ = some (.int .i64 x2) := by simp [World.cell?, FW3.out.box]
   have k3 : W3.cell? ⟨w.heap.size, 3, none⟩ = some (.int .i64 x3) := by simp [World.cell?, FW3.out.box]
   have k4 : W3.cell? ⟨w.heap.size, 4, none⟩ = some (.int .i64 x4) := by simp [World.cell?, FW3.out.box]
   have k5 : W3.cell? ⟨w.heap.size, 5, none⟩ = some (.int .i64 x5) := by simp [World.cell?, FW3.out.box]
   have k6 : W3.cell? ⟨w.heap.size, 6, none⟩ = some (.slice a6 n6 c6) := by simp [World.cell?, FW3.out.box]
   have k7 : W3.cell? ⟨w.heap.size, 7, none⟩ = some (.slice a7 n7 c7) := by simp [World.cell?, FW3.out.box]
   have k8 : W3.cell? ⟨w.heap.size, 8, none⟩ = some (.slice a8 n8 c8) := by simp [World.cell?, FW3.out.box]
   have k9 : W3.cell? ⟨w.heap.size, 9, none⟩ = some (.slice a9 n9 c9) := by simp [World.cell?, FW3.out.box]
   have k10 : W3.cell? ⟨w.heap.size, 10, none⟩ = some (.slice aA nA cA) := by simp [World.cell?, FW3.out.box]
   have k11 : W3.cell? ⟨w.heap.size, 11, none⟩ = some (.slice aB nB cB) := by simp [World.cell?, FW3.out.box]
   go_wp2_with fail
   refine Calls.mono (CL.out _ FW3.out.bel) ?_
   rintro e W13 ⟨rfl, hbe⟩
   have FW13 : Hid (Ak.Fm w w.heap.size rb #[.int .i64 13, .int .i64 x1, .int .i64 x2, .int .i64 x3, .int .i64 x4, .int .i64 x5, .slice a6 n6 c6, .slice a7 n7 c7, .slice a8 n8 c8, .slice a9 n9 c9, .slice aA nA cA, .slice aB nB cB] true W13) := FW3.out.below hbe
   clear hbe kr k0 k1 k2 k3 k4 k5 k6 k7 k8 k9 k10 k11
   have kr := FW13.out.cr
   have fr := FW13.out.fr
   go_upto_region 41 with fail
   obtain ⟨W14, hW14⟩ : ∃ z, W13.setCell ⟨rb, 0, none⟩ (.bool false) = z := ⟨_, rfl⟩
   rw [hW14]
   have FW14 : Hid (Ak.Fm w w.heap.size rb #[.int .i64 13, .int .i64 x1, .int .i64 x2, .int .i64 x3, .int .i64 x4, .int .i64 x5, .slice a6 n6 c6, .slice a7 n7 c7, .slice a8 n8 c8, .slice a9 n9 c9, .slice aA nA cA, .slice aB nB cB] false W14) := by rw [← hW14]; exact FW13.out.setR false
   clear hW14 kr fr
   have kz8 : W14.cell? ⟨w.heap.size, 8, none⟩ = some (.slice a8 n8 c8) := by simp [World.cell?, FW14.out.box]
   have fz8 := FW14.out.fx 8
   have kz9 : W14.cell? ⟨w.heap.size, 9, none⟩ = some (.slice a9 n9 c9) := by simp [World.cell?, FW14.out.box]
   have fz9 := FW14.out.fx 9
   go_upto_region 46 with fail
   obtain ⟨W15, hW15⟩ : ∃ z, ((W14.setCell ⟨w.heap.size, 8, none⟩ (.slice none 0 0)).setCell ⟨w.heap.size, 9, none⟩ (.slice none 0 0)) = z := ⟨_, rfl⟩
   rw [hW15]
   have FW15 : Hid (Ak.Fm w w.heap.size rb #[.int .i64 13, .int .i64 x1, .int .i64 x2, .int .i64 x3, .int .i64 x4, .int .i64 x5, .slice a6 n6 c6, .slice a7 n7 c7, .slice none 0 0, .slice none 0 0, .slice aA nA cA, .slice aB nB cB] false W15) := by rw [← hW15]; exact ((FW14.out.setX 8 (.slice none 0 0)).setX 9 (.slice none 0 0))
   clear hW15 kz8 fz8 kz9 fz9
   have kr := FW15.out.cr
   go_wp2
   go_ret
   exact ⟨Ak.Told.no HN.out, FW15.out.bel⟩
 | true =>
 have kr := FW3.out.cr
 have k0 : W3.cell? ⟨w.heap.size, 0, none⟩ = some (.int .i64 13) := by simp [World.cell?, FW3.out.box]
 have k1 : W3.cell? ⟨w.heap.size, 1, none⟩ = some (.int .i64 x1) := by simp [World.cell?, FW3.out.box]
 have k2 : W3.cell? ⟨w.heap.size, 2, none⟩ = some (.int .i64 x2) := by simp [World.cell?, FW3.out.box]
 have k3 : W3.cell? ⟨w.heap.size, 3, none⟩ = some (.int .i64 x3) := by simp [World.cell?, FW3.out.box]
 have k4 : W3.cell? ⟨w.heap.size, 4, none⟩ = some (.int .i64 x4) := by simp [World.cell?, FW3.out.box]
 have k5 : W3.cell? ⟨w.heap.size, 5, none⟩ = some (.int .i64 x5) := by simp [World.cell?, FW3.out.box]
 have k6 : W3.cell? ⟨w.heap.size, 6, none⟩ = some (.slice a6 n6 c6) := by simp [World.cell?, FW3.out.box]
 have k7 : W3.cell? ⟨w.heap.size, 7, none⟩ = some (.slice a7 n7 c7) := by simp [World.cell?, FW3.out.box]
 have k8 : W3.cell? ⟨w.heap.size, 8, none⟩ = some (.slice a8 n8 c8) := by simp [World.cell?, FW3.out.box]
 have k9 : W3.cell? ⟨w.heap.size, 9, none⟩ = some (.slice a9 n9 c9) := by simp [World.cell?, FW3.out.box]
 have k10 : W3.cell? ⟨w.heap.size, 10, none⟩ = some (.slice aA nA cA) := by simp [World.cell?, FW3.out.box]
 have k11 : W3.cell? ⟨w.heap.size, 11, none⟩ = some (.slice aB nB cB) := by simp [World.cell?, FW3.out.box]
 go_wp2_with fail
 refine Calls.mono (CL.out _ FW3.out.bel) ?_
 rintro e W16 ⟨rfl, hbe⟩
 have FW16 : Hid (Ak.Fm w w.heap.size rb #[.int .i64 13, .int .i64 x1, .int .i64 x2, .int .i64 x3, .int .i64 x4, .int .i64 x5, .slice a6 n6 c6, .slice a7 n7 c7, .slice a8 n8 c8, .slice a9 n9 c9, .slice aA nA cA, .slice aB nB cB] true W16) := FW3.out.below hbe
 clear hbe kr k0 k1 k2 k3 k4 k5 k6 k7 k8 k9 k10 k11
 have kr := FW16.out.cr
 have fr := FW16.out.fr
 go_upto_region 41 with fail
 obtain ⟨W17, hW17⟩ : ∃ z, W16.setCell ⟨rb, 0, none⟩ (.bool true) = z := ⟨_, rfl⟩
 rw [hW17]
 have FW17 : Hid (Ak.Fm w w.heap.size rb #[.int .i64 13, .int .i64 x1, .int .i64 x2, .int .i64 x3, .int .i64 x4, .int .i64 x5, .slice a6 n6 c6, .slice a7 n7 c7, .slice a8 n8 c8, .slice a9 n9 c9, .slice aA nA cA, .slice aB nB cB] true W17) := by rw [← hW17]; exact FW16.out.setR true
 clear hW17 kr fr
 have kz8 : W17.cell? ⟨w.heap.size, 8, none⟩ = some (.slice a8 n8 c8) := by simp [World.cell?, FW17.out.box]
 have fz8 := FW17.out.fx 8
 have kz9 : W17.cell? ⟨w.heap.size, 9, none⟩ = some (.slice a9 n9 c9) := by simp [World.cell?, FW17.out.box]
 have fz9 := FW17.out.fx 9
 go_upto_region 46 with fail
 obtain ⟨W18, hW18⟩ : ∃ z, ((W17.setCell ⟨w.heap.size, 8, none⟩ (.slice none 0 0)).setCell ⟨w.heap.size, 9, none⟩ (.slice none 0 0)) = z := ⟨_, rfl⟩
 rw [hW18]
 have FW18 : Hid (Ak.Fm w w.heap.size rb #[.int .i64 13, .int .i64 x1, .int .i64 x2, .int .i64 x3, .int .i64 x4, .int .i64 x5, .slice a6 n6 c6, .slice a7 n7 c7, .slice none 0 0, .slice none 0 0, .slice aA nA cA, .slice aB nB cB] true W18) := by rw [← hW18]; exact ((FW17.out.setX 8 (.slice none 0 0)).setX 9 (.slice none 0 0))
 clear hW18 kz8 fz8 kz9 fz9
 have kr := FW18.out.cr
 have k0 : W18.cell? ⟨w.heap.size, 0, none⟩ = some (.int .i64 13) := by simp [World.cell?, FW18.out.box]
 have k1 : W18.cell? ⟨w.heap.size, 1, none⟩ = some (.int .i64 x1) := by simp [World.cell?, FW18.out.box]
 have k2 : W18.cell? ⟨w.heap.size, 2, none⟩ = some (.int .i64 x2) := by simp [World.cell?, FW18.out.box]
 have k3 : W18.cell? ⟨w.heap.size, 3, none⟩ = some (.int .i64 x3) := by simp [World.cell?, FW18.out.box]
 have k4 : W18.cell? ⟨w.heap.size, 4, none⟩ = some (.int .i64 x4) := by simp [World.cell?, FW18.out.box]
 have k5 : W18.cell? ⟨w.heap.size, 5, none⟩ = some (.int .i64 x5) := by simp [World.cell?, FW18.out.box]
 have k6 : W18.cell? ⟨w.heap.size, 6, none⟩ = some (.slice a6 n6 c6) := by simp [World.cell?, FW18.out.box]
 have k7 : W18.cell? ⟨w.heap.size, 7, none⟩ = some (.slice a7 n7 c7) := by simp [World.cell?, FW18.out.box]
 have k8 : W18.cell? ⟨w.heap.size, 8, none⟩ = some (.slice none 0 0) := by simp [World.cell?, FW18.out.box]
 have k9 : W18.cell? ⟨w.heap.size, 9, none⟩ = some (.slice none 0 0) := by simp [World.cell?, FW18.out.box]
 have k10 : W18.cell? ⟨w.heap.size, 10, none⟩ = some (.slice aA nA cA) := by simp [World.cell?, FW18.out.box]
 have k11 : W18.cell? ⟨w.heap.size, 11, none⟩ = some (.slice aB nB cB) := by simp [World.cell?, FW18.out.box]
 go_wp2_with fail
 clear kr k0 k1 k2 k3 k4 k5 k6 k7 k8 k9 k10 k11
 refine Calls.mono (CA.out _ FW18.out.bel) ?_
 rintro e W19 ⟨⟨r, rfl, hr⟩, hbe⟩
 have FW19 : Hid (Ak.Fm w w.heap.size rb #[.int .i64 13, .int .i64 x1, .int .i64 x2, .int .i64 x3, .int .i64 x4, .int .i64 x5, .slice a6 n6 c6, .slice a7 n7 c7, .slice none 0 0, .slice none 0 0, .slice aA nA cA, .slice aB nB cB] true W19 ∧ (r = true ↔ P)) := ⟨FW18.out.below hbe, hr⟩
 clear hbe hr
 cases r with
 | false =>
   have HN : Hid (¬ Q) := fun h => by have := FW19.out.2.2 (HQ.out.1 h).2.2.1; simp at this
   go_wp2
   go_ret
   exact ⟨Ak.Told.no HN.out, FW19.out.1.bel⟩
 | true =>
 have HP : Hid P := FW19.out.2.1 (by first | rfl | trivial)
 have k8 : W19.cell? ⟨w.heap.size, 8, none⟩ = some (.slice none 0 0) := by simp [World.cell?, FW19.out.1.box]
 go_wp2
 go_ret
 exact ⟨Ak.Told.yes (HQ.out.2 ⟨(by first | rfl | trivial), (by first | rfl | trivial), HP.out, trivial⟩), FW19.out.1.bel⟩
set_option maxRecDepth 20000 in
set_option maxHeartbeats 16000000 in
theorem Tryz.fm_14 (x1 x2 x3 x4 x5 : Int) (a6 a7 a8 a9 aA aB : Option Addr) (n6 c6 n7 c7 n8 c8 n9 c9 nA cA nB cB : Nat) (w : World) (hb : Bool) (P : Prop) (ru rv : Nat) (_hn7 : n7 ≤ 1000) (_hn8 : n8 ≤ 1000) (CH0 : ∀ W, Below w.heap.size w W → Calls Tryz.prog 58 #[.agg #[.int .i64 14, .int .i64 x1, .int .i64 x2, .int .i64 x3, .int .i64 x4, .int .i64 x5, .slice a6 n6 c6, .slice a7 n7 c7, .slice a8 n8 c8, .slice a9 n9 c9, .slice aA nA cA, .slice aB nB cB]] W fun e w' => e = .returned (.bool hb) ∧ Below W.heap.size W w') (CA0 : ∀ W, Below w.heap.size w W → Calls Tryz.prog 65 #[.agg #[.int .i64 14, .int .i64 x1, .int .i64 x2, .int .i64 x3, .int .i64 x4, .int .i64 x5, .slice a6 n6 c6, .slice a7 n7 c7, .slice a8 n8 c8, .slice a9 n9 c9, .slice none 0 0, .slice none 0 0], .agg #[.int .i64 14, .int .i64 0, .int .i64 0, .int .i64 0, .int .i64 0, .int .i64 0, .slice none 0 0, .slice none 0 0, .slice none 0 0, .slice none 0 0, .slice none 0 0, .slice none 0 0]] W fun e w' => Ak.Told P e ∧ Below W.heap.size W w') (CR0 : ∀ W, Below w.heap.size w W → Calls Tryz.prog 64 #[.agg #[.slice aA nA cA, .slice aB nB cB]] W fun e w' => e = .returned (.tuple #[.int .i64 (ru : Int), .int .i64 (rv : Int)]) ∧ Below W.heap.size W w') :
    Calls Tryz.prog 48 #[.agg #[.int .i64 14, .int .i64 x1, .int .i64 x2, .int .i64 x3, .int .i64 x4, .int .i64 x5, .slice a6 n6 c6, .slice a7 n7 c7, .slice a8 n8 c8, .slice a9 n9 c9, .slice aA nA cA, .slice aB nB cB]] w fun e w' => Ak.Told (hb = true ∧ ru = 0 ∧ P ∧ n8 = 0) e ∧ Below w.heap.size w w' := by
  obtain ⟨Q, hQ⟩ : ∃ Q : Prop, (hb = true ∧ ru = 0 ∧ P ∧ n8 = 0) = Q := ⟨_, rfl⟩
  rw [hQ]
  have HQ : Hid (Q ↔ hb = true ∧ ru = 0 ∧ P ∧ n8 = 0) := by rw [← hQ]; exact Iff.rfl
  have CH : Hid _ := CH0
  have CA : Hid _ := CA0
  have CR : Hid _ := CR0
  clear CR0
  obtain ⟨w1, hw1⟩ : ∃ x, w.alloc (.cells #[.int .i64 14, .int .i64 x1, .int .i64 x2, .int .i64 x3, .int .i64 x4, .int .i64 x5, .slice a6 n6 c6, .slice a7 n7 c7, .slice a8 n8 c8, .slice a9 n9 c9, .slice aA nA cA, .slice aB nB cB] 32) = x := ⟨_, rfl⟩
  have A1 : Below w.heap.size w w1 := by rw [← hw1]; exact (Below.refl _ w).alloc (Nat.le_refl _) _
  have G1 : w1.heap[w.heap.size]? = some (.cells #[.int .i64 14, .int .i64 x1, .int .i64 x2, .int .i64 x3, .int .i64 x4, .int .i64 x5, .slice a6 n6 c6, .slice a7 n7 c7, .slice a8 n8 c8, .slice a9 n9 c9, .slice aA nA cA, .slice aB nB cB] 32 (0, 0)) := by rw [← hw1]; exact heap_alloc_new w _
  have ca : w1.cell? ⟨w.heap.size, 0, none⟩ = some (.int .i64 14) ∧ w1.cell? ⟨w.heap.size, 1, none⟩ = some (.int .i64 x1) ∧ w1.cell? ⟨w.heap.size, 2, none⟩ = some (.int .i64 x2) ∧ w1.cell? ⟨w.heap.size, 3, none⟩ = some (.int .i64 x3) ∧ w1.cell? ⟨w.heap.size, 4, none⟩ = some (.int .i64 x4) ∧ w1.cell? ⟨w.heap.size, 5, none⟩ = some (.int .i64 x5) ∧ w1.cell? ⟨w.heap.size, 6, none⟩ = some (.slice a6 n6 c6) ∧ w1.cell? ⟨w.heap.size, 7, none⟩ = some (.slice a7 n7 c7) ∧ w1.cell? ⟨w.heap.size, 8, none⟩ = some (.slice a8 n8 c8) ∧ w1.cell? ⟨w.heap.size, 9, none⟩ = some (.slice a9 n9 c9) ∧ w1.cell? ⟨w.heap.size, 10, none⟩ = some (.slice aA nA cA) ∧ w1.cell? ⟨w.heap.size, 11, none⟩ = some (.slice aB nB cB) := by simp [World.cell?, G1]
  obtain ⟨m0, m1, m2, m3, m4, m5, m6, m7, m8, m9, m10, m11⟩ := ca
  have H1 : Hid (w.alloc (.cells #[.int .i64 14, .int .i64 x1, .int .i64 x2, .int .i64 x3, .int .i64 x4, .int .i64 x5, .slice a6 n6 c6, .slice a7 n7 c7, .slice a8 n8 c8, .slice a9 n9 c9, .slice aA nA cA, .slice aB nB cB] 32) = w1) := hw1
  have HA : Hid (Below w.heap.size w w1 ∧ w1.heap[w.heap.size]? = some (.cells #[.int .i64 14, .int .i64 x1, .int .i64 x2, .int .i64 x3, .int .i64 x4, .int .i64 x5, .slice a6 n6 c6, .slice a7 n7 c7, .slice a8 n8 c8, .slice a9 n9 c9, .slice aA nA cA, .slice aB nB cB] 32 (0, 0))) := ⟨A1, G1⟩
  clear hw1 A1 G1 CH0 CA0 hQ
  go_enter Tryz.func48, Tryz.ntmps48
  go_upto_region 1 with fail
  rw [H1.out]
  go_wp2_with fail
  refine Calls.mono (CH.out _ HA.out.1) ?_
  rintro e W2 ⟨rfl, hb2⟩
  clear H1 CH m0 m1 m2 m3 m4 m5 m6 m7 m8 m9 m10 m11
  go_upto_region 3 with fail
  obtain ⟨W3, hW3⟩ : ∃ z, W2.alloc (.cells #[.bool hb] 4) = z := ⟨_, rfl⟩
  have hx2 : W2.heap[w.heap.size]? = some (.cells #[.int .i64 14, .int .i64 x1, .int .i64 x2, .int .i64 x3, .int .i64 x4, .int .i64 x5, .slice a6 n6 c6, .slice a7 n7 c7, .slice a8 n8 c8, .slice a9 n9 c9, .slice aA nA cA, .slice aB nB cB] 32 (0, 0)) := (hb2.block _ (Array.getElem?_eq_some_iff.1 HA.out.2).1).trans HA.out.2
  have hl2 := (Array.getElem?_eq_some_iff.1 hx2).1
  have FW3 : Hid (Ak.Fm w w.heap.size W2.heap.size #[.int .i64 14, .int .i64 x1, .int .i64 x2, .int .i64 x3, .int .i64 x4, .int .i64 x5, .slice a6 n6 c6, .slice a7 n7 c7, .slice a8 n8 c8, .slice a9 n9 c9, .slice aA nA cA, .slice aB nB cB] hb W3) := by
    have b3 : Below W2.heap.size W2 W3 := by rw [← hW3]; exact (Below.refl _ W2).alloc (Nat.le_refl _) _
    have b2 : Below w.heap.size w W2 := HA.out.1.trans (hb2.mono HA.out.1.size)
    exact ⟨(b3.block _ hl2).trans hx2, by rw [← hW3]; exact heap_alloc_new W2 _, by omega, Nat.le_refl _, b2.size, b2.trans (b3.mono b2.size)⟩
  rw [hW3]
  obtain ⟨rb, hrb⟩ : ∃ z, W2.heap.size = z := ⟨_, rfl⟩
  rw [hrb] at FW3 ⊢
  clear hW3 hx2 hl2 hb2 hrb HA
  have k0 : W3.cell? ⟨w.heap.size, 0, none⟩ = some (.int .i64 14) := by simp [World.cell?, FW3.out.box]
  have CN : Hid _ := Tryz.hasNode_any 14 W3
  go_wp2_with fail
  refine Calls.mono CN.out ?_
  rintro e W4 ⟨rfl, hw4⟩
  obtain rfl := hw4.symm
  clear CN
  have ehn : Ac.hasNodeB 14 = false := rfl
  rw [ehn]
  clear ehn
  cases hb with
  | false =>
    have HN : Hid (¬ Q) := fun h => by have := (HQ.out.1 h).1; cases this
    have kA : W3.cell? ⟨w.heap.size, 10, none⟩ = some (.slice aA nA cA) := by simp [World.cell?, FW3.out.box]
    have kB : W3.cell? ⟨w.heap.size, 11, none⟩ = some (.slice aB nB cB) := by simp [World.cell?, FW3.out.box]
    go_wp2_with fail
    refine Calls.mono (CR.out _ FW3.out.bel) ?_
    rintro e W11 ⟨rfl, hbe⟩
    have FW11 : Hid (Ak.Fm w w.heap.size rb #[.int .i64 14, .int .i64 x1, .int .i64 x2, .int .i64 x3, .int .i64 x4, .int .i64 x5, .slice a6 n6 c6, .slice a7 n7 c7, .slice a8 n8 c8, .slice a9 n9 c9, .slice aA nA cA, .slice aB nB cB] false W11) := FW3.out.below hbe
    clear hbe kA kB
    have kr := FW11.out.cr
    have fr := FW11.out.fr
    go_upto_region 44 with fail
    obtain ⟨W12, hW12⟩ : ∃ z, W11.setCell ⟨rb, 0, none⟩ (.bool false) = z := ⟨_, rfl⟩
    rw [hW12]
    have FW12 : Hid (Ak.Fm w w.heap.size rb #[.int .i64 14, .int .i64 x1, .int .i64 x2, .int .i64 x3, .int .i64 x4, .int .i64 x5, .slice a6 n6 c6, .slice a7 n7 c7, .slice a8 n8 c8, .slice a9 n9 c9, .slice aA nA cA, .slice aB nB cB] false W12) := by rw [← hW12]; exact FW11.out.setR false
    clear hW12 kr fr 
    have kz10 : W12.cell? ⟨w.heap.size, 10, none⟩ = some (.slice aA nA cA) := by simp [World.cell?, FW12.out.box]
    have fz10 := FW12.out.fx 10
    have kz11 : W12.cell? ⟨w.heap.size, 11, none⟩ = some (.slice aB nB cB) := by simp [World.cell?, FW12.out.box]
    have fz11 := FW12.out.fx 11
    go_upto_region 46 with fail
    obtain ⟨W13, hW13⟩ : ∃ z, ((W12.setCell ⟨w.heap.size, 10, none⟩ (.slice none 0 0)).setCell ⟨w.heap.size, 11, none⟩ (.slice none 0 0)) = z := ⟨_, rfl⟩
    rw [hW13]
    have FW13 : Hid (Ak.Fm w w.heap.size rb #[.int .i64 14, .int .i64 x1, .int .i64 x2, .int .i64 x3, .int .i64 x4, .int .i64 x5, .slice a6 n6 c6, .slice a7 n7 c7, .slice a8 n8 c8, .slice a9 n9 c9, .slice none 0 0, .slice none 0 0] false W13) := by rw [← hW13]; exact ((FW12.out.setX 10 (.slice none 0 0)).setX 11 (.slice none 0 0))
    clear hW13 kz10 fz10 kz11 fz11
    have kr := FW13.out.cr
    go_wp2
    go_ret
    exact ⟨Ak.Told.no HN.out, FW13.out.bel⟩
  | true =>
  have kA : W3.cell? ⟨w.heap.size, 10, none⟩ = some (.slice aA nA cA) := by simp [World.cell?, FW3.out.box]
  have kB : W3.cell? ⟨w.heap.size, 11, none⟩ = some (.slice aB nB cB) := by simp [World.cell?, FW3.out.box]
  go_wp2_with fail
  refine Calls.mono (CR.out _ FW3.out.bel) ?_
  rintro e W14 ⟨rfl, hbe⟩
  have FW14 : Hid (Ak.Fm w w.heap.size rb #[.int .i64 14, .int .i64 x1, .int .i64 x2, .int .i64 x3, .int .i64 x4, .int .i64 x5, .slice a6 n6 c6, .slice a7 n7 c7, .slice a8 n8 c8, .slice a9 n9 c9, .slice aA nA cA, .slice aB nB cB] true W14) := FW3.out.below hbe
  clear hbe kA kB
  by_cases q1 : ru = 0
  · have dq : ((ru : Int) == 0) = true := by simp; omega
    have Q1 : Hid (ru = 0) := q1
    have kr := FW14.out.cr
    have fr := FW14.out.fr
    go_upto_region 44 with fail
    obtain ⟨W15, hW15⟩ : ∃ z, W14.setCell ⟨rb, 0, none⟩ (.bool true) = z := ⟨_, rfl⟩
    rw [hW15]
    have FW15 : Hid (Ak.Fm w w.heap.size rb #[.int .i64 14, .int .i64 x1, .int .i64 x2, .int .i64 x3, .int .i64 x4, .int .i64 x5, .slice a6 n6 c6, .slice a7 n7 c7, .slice a8 n8 c8, .slice a9 n9 c9, .slice aA nA cA, .slice aB nB cB] true W15) := by rw [← hW15]; exact FW14.out.setR true
    clear hW15 kr fr 
    have kz10 : W15.cell? ⟨w.heap.size, 10, none⟩ = some (.slice aA nA cA) := by simp [World.cell?, FW15.out.box]
    have fz10 := FW15.out.fx 10
    have kz11 : W15.cell? ⟨w.heap.size, 11, none⟩ = some (.slice aB nB cB) := by simp [World.cell?, FW15.out.box]
    have fz11 := FW15.out.fx 11
    go_upto_region 46 with fail
    obtain ⟨W16, hW16⟩ : ∃ z, ((W15.setCell ⟨w.heap.size, 10, none⟩ (.slice none 0 0)).setCell ⟨w.heap.size, 11, none⟩ (.slice none 0 0)) = z := ⟨_, rfl⟩
    rw [hW16]
    have FW16 : Hid (Ak.Fm w w.heap.size rb #[.int .i64 14, .int .i64 x1, .int .i64 x2, .int .i64 x3, .int .i64 x4, .int .i64 x5, .slice a6 n6 c6, .slice a7 n7 c7, .slice a8 n8 c8, .slice a9 n9 c9, .slice none 0 0, .slice none 0 0] true W16) := by rw [← hW16]; exact ((FW15.out.setX 10 (.slice none 0 0)).setX 11 (.slice none 0 0))
    clear hW16 kz10 fz10 kz11 fz11
    have kr := FW16.out.cr
    have k0 : W16.cell? ⟨w.heap.size, 0, none⟩ = some (.int .i64 14) := by simp [World.cell?, FW16.out.box]
    have k1 : W16.cell? ⟨w.heap.size, 1, none⟩ = some (.int .i64 x1) := by simp [World.cell?, FW16.out.box]
    have k2 : W16.cell? ⟨w.heap.size, 2, none⟩ = some (.int .i64 x2) := by simp [World.cell?, FW16.out.box]
    have k3 : W16.cell? ⟨w.heap.size, 3, none⟩ = some (.int .i64 x3) := by simp [World.cell?, FW16.out.box]
    have k4 : W16.cell? ⟨w.heap.size, 4, none⟩ = some (.int .i64 x4) := by simp [World.cell?, FW16.out.box]
    have k5 : W16.cell? ⟨w.heap.size, 5, none⟩ = some (.int .i64 x5) := by simp [World.cell?, FW16.out.box]
    have k6 : W16.cell? ⟨w.heap.size, 6, none⟩ = some (.slice a6 n6 c6) := by simp [World.cell?, FW16.out.box]
    have k7 : W16.cell? ⟨w.heap.size, 7, none⟩ = some (.slice a7 n7 c7) := by simp [World.cell?, FW16.out.box]
    have k8 : W16.cell? ⟨w.heap.size, 8, none⟩ = some (.slice a8 n8 c8) := by simp [World.cell?, FW16.out.box]
    have k9 : W16.cell? ⟨w.heap.size, 9, none⟩ = some (.slice a9 n9 c9) := by simp [World.cell?, FW16.out.box]
    have k10 : W16.cell? ⟨w.heap.size, 10, none⟩ = some (.slice none 0 0) := by simp [World.cell?, FW16.out.box]
    have k11 : W16.cell? ⟨w.heap.size, 11, none⟩ = some (.slice none 0 0) := by simp [World.cell?, FW16.out.box]
    go_wp2_with fail
    clear kr k0 k1 k2 k3 k4 k5 k6 k7 k8 k9 k10 k11
    refine Calls.mono (CA.out _ FW16.out.bel) ?_
    rintro e W17 ⟨⟨r, rfl, hr⟩, hbe⟩
    have FW17 : Hid (Ak.Fm w w.heap.size rb #[.int .i64 14, .int .i64 x1, .int .i64 x2, .int .i64 x3, .int .i64 x4, .int .i64 x5, .slice a6 n6 c6, .slice a7 n7 c7, .slice a8 n8 c8, .slice a9 n9 c9, .slice none 0 0, .slice none 0 0] true W17 ∧ (r = true ↔ P)) := ⟨FW16.out.below hbe, hr⟩
    clear hbe hr
    cases r with
    | false =>
      have HN : Hid (¬ Q) := fun h => by have := FW17.out.2.2 (HQ.out.1 h).2.2.1; simp at this
      go_wp2
      go_ret
      exact ⟨Ak.Told.no HN.out, FW17.out.1.bel⟩
    | true =>
    have HP : Hid P := FW17.out.2.1 (by first | rfl | trivial)
    have k8 : W17.cell? ⟨w.heap.size, 8, none⟩ = some (.slice a8 n8 c8) := by simp [World.cell?, FW17.out.1.box]
    by_cases qz : n8 = 0
    · have dz : ((n8 : Int) == 0) = true := by simp; omega
      have HZ : Hid (n8 = 0) := qz
      clear qz
      go_wp2
      go_ret
      exact ⟨Ak.Told.yes (HQ.out.2 ⟨(by first | rfl | trivial), Q1.out, HP.out, HZ.out⟩), FW17.out.1.bel⟩
    · have dz : ((n8 : Int) == 0) = false := by simp; omega
      have HN : Hid (¬ Q) := fun h => qz (HQ.out.1 h).2.2.2
      clear qz
      go_wp2
      go_ret
      exact ⟨Ak.Told.no HN.out, FW17.out.1.bel⟩
  · have dq : ((ru : Int) == 0) = false := by simp; omega
    have HN : Hid (¬ Q) := fun h => q1 (HQ.out.1 h).2.1
    have kr := FW14.out.cr
    have fr := FW14.out.fr
    go_upto_region 44 with fail
    obtain ⟨W18, hW18⟩ : ∃ z, W14.setCell ⟨rb, 0, none⟩ (.bool false) = z := ⟨_, rfl⟩
    rw [hW18]
    have FW18 : Hid (Ak.Fm w w.heap.size rb #[.int .i64 14, .int .i64 x1, .int .i64 x2, .int .i64 x3, .int .i64 x4, .int .i64 x5, .slice a6 n6 c6, .slice a7 n7 c7, .slice a8 n8 c8, .slice a9 n9 c9, .slice aA nA cA, .slice aB nB cB] false W18) := by rw [← hW18]; exact FW14.out.setR false
    clear hW18 kr fr 
    have kz10 : W18.cell? ⟨w.heap.size, 10, none⟩ = some (.slice aA nA cA) := by simp [World.cell?, FW18.out.box]
    have fz10 := FW18.out.fx 10
    have kz11 : W18.cell? ⟨w.heap.size, 11, none⟩ = some (.slice aB nB cB) := by simp [World.cell?, FW18.out.box]
    have fz11 := FW18.out.fx 11
    go_upto_region 46 with fail
    obtain ⟨W19, hW19⟩ : ∃ z, ((W18.setCell ⟨w.heap.size, 10, none⟩ (.slice none 0 0)).setCell ⟨w.heap.size, 11, none⟩ (.slice none 0 0)) = z := ⟨_, rfl⟩
    rw [hW19]
    have FW19 : Hid (Ak.Fm w w.heap.size rb #[.int .i64 14, .int .i64 x1, .int .i64 x2, .int .i64 x3, .int .i64 x4, .int .i64 x5, .slice a6 n6 c6, .slice a7 n7 c7, .slice a8 n8 c8, .slice a9 n9 c9, .slice none 0 0, .slice none 0 0] false W19) := by rw [← hW19]; exact ((FW18.out.setX 10 (.slice none 0 0)).setX 11 (.slice none 0 0))
    clear hW19 kz10 fz10 kz11 fz11
    have kr := FW19.out.cr
    go_wp2
    go_ret
    exact ⟨Ak.Told.no HN.out, FW19.out.bel⟩
end Go.Proofs
namespace Go.Proofs
open Go.RowKit Go.Shelf
set_option maxRecDepth 20000 in
set_option maxHeartbeats 16000000 in
theorem Tryz.fm_12b (x1 x2 x3 x4 x5 : Int) (a6 a7 a8 a9 aA aB : Option Addr) (n6 c6 n7 c7 n8 c8 n9 c9 nA cA nB cB : Nat) (w : World) (hb : Bool) (P : Prop) (_hn7 : n7 ≤ 1000) (_hn8 : n8 ≤ 1000) (CH0 : ∀ W, Below w.heap.size w W → Calls Tryz.prog 58 #[.agg #[.int .i64 12, .int .i64 x1, .int .i64 x2, .int .i64 x3, .int .i64 x4, .int .i64 x5, .slice a6 n6 c6, .slice a7 n7 c7, .slice a8 n8 c8, .slice a9 n9 c9, .slice aA nA cA, .slice aB nB cB]] W fun e w' => e = .returned (.bool hb) ∧ Below W.heap.size W w') (CA0 : ∀ W, Below w.heap.size w W → Calls Tryz.prog 65 #[.agg #[.int .i64 12, .int .i64 0, .int .i64 0, .int .i64 x3, .int .i64 x4, .int .i64 x5, .slice a6 n6 c6, .slice a7 n7 c7, .slice a8 n8 c8, .slice a9 n9 c9, .slice aA nA cA, .slice aB nB cB], .agg #[.int .i64 12, .int .i64 0, .int .i64 0, .int .i64 0, .int .i64 0, .int .i64 0, .slice none 0 0, .slice none 0 0, .slice none 0 0, .slice none 0 0, .slice none 0 0, .slice none 0 0]] W fun e w' => Ak.Told P e ∧ Below W.heap.size W w') (ha : ¬ x2 = 3) :
    Calls Tryz.prog 48 #[.agg #[.int .i64 12, .int .i64 x1, .int .i64 x2, .int .i64 x3, .int .i64 x4, .int .i64 x5, .slice a6 n6 c6, .slice a7 n7 c7, .slice a8 n8 c8, .slice a9 n9 c9, .slice aA nA cA, .slice aB nB cB]] w fun e w' => Ak.Told (hb = true ∧ (0 ≤ x1 ∧ x1 < 24) ∧ 1 ≤ x2 ∧ (0 ≤ x2 ∧ x2 < 5) ∧ P ∧ n8 = 0) e ∧ Below w.heap.size w w' := by
  obtain ⟨Q, hQ⟩ : ∃ Q : Prop, (hb = true ∧ (0 ≤ x1 ∧ x1 < 24) ∧ 1 ≤ x2 ∧ (0 ≤ x2 ∧ x2 < 5) ∧ P ∧ n8 = 0) = Q := ⟨_, rfl⟩
  rw [hQ]
  have HQ : Hid (Q ↔ hb = true ∧ (0 ≤ x1 ∧ x1 < 24) ∧ 1 ≤ x2 ∧ (0 ≤ x2 ∧ x2 < 5) ∧ P ∧ n8 = 0) := by rw [← hQ]; exact Iff.rfl
  have CH : Hid _ := CH0
  have CA : Hid _ := CA0
  have da : (x2 == 3) = false := by simpa using ha
  clear ha
  obtain ⟨w1, hw1⟩ : ∃ x, w.alloc (.cells #[.int .i64 12, .int .i64 x1, .int .i64 x2, .int .i64 x3, .int .i64 x4, .int .i64 x5, .slice a6 n6 c6, .slice a7 n7 c7, .slice a8 n8 c8, .slice a9 n9 c9, .slice aA nA cA, .slice aB nB cB] 32) = x := ⟨_, rfl⟩
  have A1 : Below w.heap.size w w1 := by rw [← hw1]; exact (Below.refl _ w).alloc (Nat.le_refl _) _
  have G1 : w1.heap[w.heap.size]? = some (.cells #[.int .i64 12, .int .i64 x1, .int .i64 x2, .int .i64 x3, .int .i64 x4, .int .i64 x5, .slice a6 n6 c6, .slice a7 n7 c7, .slice a8 n8 c8, .slice a9 n9 c9, .slice aA nA cA, .slice aB nB cB] 32 (0, 0)) := by rw [← hw1]; exact heap_alloc_new w _
  have ca : w1.cell? ⟨w.heap.size, 0, none⟩ = some (.int .i64 12) ∧ w1.cell? ⟨w.heap.size, 1, none⟩ = some (.int .i64 x1) ∧ w1.cell? ⟨w.heap.size, 2, none⟩ = some (.int .i64 x2) ∧ w1.cell? ⟨w.heap.size, 3, none⟩ = some (.int .i64 x3) ∧ w1.cell? ⟨w.heap.size, 4, none⟩ = some (.int .i64 x4) ∧ w1.cell? ⟨w.heap.size, 5, none⟩ = some (.int .i64 x5) ∧ w1.cell? ⟨w.heap.size, 6, none⟩ = some (.slice a6 n6 c6) ∧ w1.cell? ⟨w.heap.size, 7, none⟩ = some (.slice a7 n7 c7) ∧ w1.cell? ⟨w.heap.size, 8, none⟩ = some (.slice a8 n8 c8) ∧ w1.cell? ⟨w.heap.size, 9, none⟩ = some (.slice a9 n9 c9) ∧ w1.cell? ⟨w.heap.size, 10, none⟩ = some (.slice aA nA cA) ∧ w1.cell? ⟨w.heap.size, 11, none⟩ = some (.slice aB nB cB) := by simp [World.cell?, G1]
  obtain ⟨m0, m1, m2, m3, m4, m5, m6, m7, m8, m9, m10, m11⟩ := ca
  have H1 : Hid (w.alloc (.cells #[.int .i64 12, .int .i64 x1, .int .i64 x2, .int .i64 x3, .int .i64 x4, .int .i64 x5, .slice a6 n6 c6, .slice a7 n7 c7, .slice a8 n8 c8, .slice a9 n9 c9, .slice aA nA cA, .slice aB nB cB] 32) = w1) := hw1
  have HA : Hid (Below w.heap.size w w1 ∧ w1.heap[w.heap.size]? = some (.cells #[.int .i64 12, .int .i64 x1, .int .i64 x2, .int .i64 x3, .int .i64 x4, .int .i64 x5, .slice a6 n6 c6, .slice a7 n7 c7, .slice a8 n8 c8, .slice a9 n9 c9, .slice aA nA cA, .slice aB nB cB] 32 (0, 0))) := ⟨A1, G1⟩
  clear hw1 A1 G1 CH0 CA0 hQ
  go_enter Tryz.func48, Tryz.ntmps48
  go_upto_region 1 with fail
  rw [H1.out]
  go_wp2_with fail
  refine Calls.mono (CH.out _ HA.out.1) ?_
  rintro e W2 ⟨rfl, hb2⟩
  clear H1 CH m0 m1 m2 m3 m4 m5 m6 m7 m8 m9 m10 m11
  go_upto_region 3 with fail
  obtain ⟨W3, hW3⟩ : ∃ z, W2.alloc (.cells #[.bool hb] 4) = z := ⟨_, rfl⟩
  have hx2 : W2.heap[w.heap.size]? = some (.cells #[.int .i64 12, .int .i64 x1, .int .i64 x2, .int .i64 x3, .int .i64 x4, .int .i64 x5, .slice a6 n6 c6, .slice a7 n7 c7, .slice a8 n8 c8, .slice a9 n9 c9, .slice aA nA cA, .slice aB nB cB] 32 (0, 0)) := (hb2.block _ (Array.getElem?_eq_some_iff.1 HA.out.2).1).trans HA.out.2
  have hl2 := (Array.getElem?_eq_some_iff.1 hx2).1
  have FW3 : Hid (Ak.Fm w w.heap.size W2.heap.size #[.int .i64 12, .int .i64 x1, .int .i64 x2, .int .i64 x3, .int .i64 x4, .int .i64 x5, .slice a6 n6 c6, .slice a7 n7 c7, .slice a8 n8 c8, .slice a9 n9 c9, .slice aA nA cA, .slice aB nB cB] hb W3) := by
    have b3 : Below W2.heap.size W2 W3 := by rw [← hW3]; exact (Below.refl _ W2).alloc (Nat.le_refl _) _
    have b2 : Below w.heap.size w W2 := HA.out.1.trans (hb2.mono HA.out.1.size)
    exact ⟨(b3.block _ hl2).trans hx2, by rw [← hW3]; exact heap_alloc_new W2 _, by omega, Nat.le_refl _, b2.size, b2.trans (b3.mono b2.size)⟩
  rw [hW3]
  obtain ⟨rb, hrb⟩ : ∃ z, W2.heap.size = z := ⟨_, rfl⟩
  rw [hrb] at FW3 ⊢
  clear hW3 hx2 hl2 hb2 hrb HA
  have k0 : W3.cell? ⟨w.heap.size, 0, none⟩ = some (.int .i64 12) := by simp [World.cell?, FW3.out.box]
  have CN : Hid _ := Tryz.hasNode_any 12 W3
  go_wp2_with fail
  refine Calls.mono CN.out ?_
  rintro e W4 ⟨rfl, hw4⟩
  obtain rfl := hw4.symm
  clear CN
  have ehn : Ac.hasNodeB 12 = true := rfl
  rw [ehn]
  clear ehn
  cases hb with
  | false =>
    have HN : Hid (¬ Q) := fun h => by have := (HQ.out.1 h).1; cases this
    have kx : W3.cell? ⟨w.heap.size, 1, none⟩ = some (.int .i64 x1) := by simp [World.cell?, FW3.out.box]
    go_wp2_with fail
    refine Calls.mono (Tryz.atake_any w.heap.size 1 rb x1 24 false W3 kx (FW3.out.fx 1) FW3.out.cr FW3.out.fr FW3.out.ne) ?_
    rintro e W11 ⟨rfl, hw2⟩
    have eb : (false && (decide (0 ≤ x1) && decide (x1 < 24))) = false := rfl
    have FW11 : Hid (Ak.Fm w w.heap.size rb #[.int .i64 12, .int .i64 0, .int .i64 x2, .int .i64 x3, .int .i64 x4, .int .i64 x5, .slice a6 n6 c6, .slice a7 n7 c7, .slice a8 n8 c8, .slice a9 n9 c9, .slice aA nA cA, .slice aB nB cB] false W11) := by show Ak.Fm _ _ _ _ _ _; rw [hw2, eb]; exact (FW3.out.setR false).setX 1 (.int .i64 0)
    clear hw2 eb kx
    have kk : W11.cell? ⟨w.heap.size, 0, none⟩ = some (.int .i64 12) := by simp [World.cell?, FW11.out.box]
    have kk2 : W11.cell? ⟨w.heap.size, 2, none⟩ = some (.int .i64 x2) := by simp [World.cell?, FW11.out.box]
    have kr := FW11.out.cr
    have fr := FW11.out.fr
    go_upto_region 39 with fail
    obtain ⟨W12, hW12⟩ : ∃ z, W11.setCell ⟨rb, 0, none⟩ (.bool false) = z := ⟨_, rfl⟩
    rw [hW12]
    have FW12 : Hid (Ak.Fm w w.heap.size rb #[.int .i64 12, .int .i64 0, .int .i64 x2, .int .i64 x3, .int .i64 x4, .int .i64 x5, .slice a6 n6 c6, .slice a7 n7 c7, .slice a8 n8 c8, .slice a9 n9 c9, .slice aA nA cA, .slice aB nB cB] false W12) := by rw [← hW12]; exact FW11.out.setR false
    clear hW12 kr fr 
    have kx : W12.cell? ⟨w.heap.size, 2, none⟩ = some (.int .i64 x2) := by simp [World.cell?, FW12.out.box]
    go_wp2_with fail
    refine Calls.mono (Tryz.atake_any w.heap.size 2 rb x2 5 false W12 kx (FW12.out.fx 2) FW12.out.cr FW12.out.fr FW12.out.ne) ?_
    rintro e W13 ⟨rfl, hw2⟩
    have eb : (false && (decide (0 ≤ x2) && decide (x2 < 5))) = false := rfl
    have FW13 : Hid (Ak.Fm w w.heap.size rb #[.int .i64 12, .int .i64 0, .int .i64 0, .int .i64 x3, .int .i64 x4, .int .i64 x5, .slice a6 n6 c6, .slice a7 n7 c7, .slice a8 n8 c8, .slice a9 n9 c9, .slice aA nA cA, .slice aB nB cB] false W13) := by show Ak.Fm _ _ _ _ _ _; rw [hw2, eb]; exact (FW12.out.setR false).setX 2 (.int .i64 0)
    clear hw2 eb kx
    have kr := FW13.out.cr
    go_wp2
    go_ret
    exact ⟨Ak.Told.no HN.out, FW13.out.bel⟩
  | true =>
  by_cases q0 : 0 ≤ x1 ∧ x1 < 24
  · have Q0 : Hid (0 ≤ x1 ∧ x1 < 24) := q0
    have kx : W3.cell? ⟨w.heap.size, 1, none⟩ = some (.int .i64 x1) := by simp [World.cell?, FW3.out.box]
    go_wp2_with fail
    refine Calls.mono (Tryz.atake_any w.heap.size 1 rb x1 24 true W3 kx (FW3.out.fx 1) FW3.out.cr FW3.out.fr FW3.out.ne) ?_
    rintro e W14 ⟨rfl, hw2⟩
    have eb : (true && (decide (0 ≤ x1) && decide (x1 < 24))) = true := by rw [decide_eq_true q0.1, decide_eq_true q0.2]; rfl
    have FW14 : Hid (Ak.Fm w w.heap.size rb #[.int .i64 12, .int .i64 0, .int .i64 x2, .int .i64 x3, .int .i64 x4, .int .i64 x5, .slice a6 n6 c6, .slice a7 n7 c7, .slice a8 n8 c8, .slice a9 n9 c9, .slice aA nA cA, .slice aB nB cB] true W14) := by show Ak.Fm _ _ _ _ _ _; rw [hw2, eb]; exact (FW3.out.setR true).setX 1 (.int .i64 0)
    clear hw2 eb kx
    have kk : W14.cell? ⟨w.heap.size, 0, none⟩ = some (.int .i64 12) := by simp [World.cell?, FW14.out.box]
    have kk2 : W14.cell? ⟨w.heap.size, 2, none⟩ = some (.int .i64 x2) := by simp [World.cell?, FW14.out.box]
    by_cases q1 : 1 ≤ x2
    · have dq : decide ((1 : Int) ≤ x2) = true := decide_eq_true (by omega)
      have Q1 : Hid (1 ≤ x2) := q1
      have kr := FW14.out.cr
      have fr := FW14.out.fr
      have k2 : W14.cell? ⟨w.heap.size, 2, none⟩ = some (.int .i64 x2) := by simp [World.cell?, FW14.out.box]
      go_upto_region 39 with fail
      obtain ⟨W15, hW15⟩ : ∃ z, W14.setCell ⟨rb, 0, none⟩ (.bool true) = z := ⟨_, rfl⟩
      rw [hW15]
      have FW15 : Hid (Ak.Fm w w.heap.size rb #[.int .i64 12, .int .i64 0, .int .i64 x2, .int .i64 x3, .int .i64 x4, .int .i64 x5, .slice a6 n6 c6, .slice a7 n7 c7, .slice a8 n8 c8, .slice a9 n9 c9, .slice aA nA cA, .slice aB nB cB] true W15) := by rw [← hW15]; exact FW14.out.setR true
      clear hW15 kr fr k2
      by_cases q2 : 0 ≤ x2 ∧ x2 < 5
      · have Q2 : Hid (0 ≤ x2 ∧ x2 < 5) := q2
        have kx : W15.cell? ⟨w.heap.size, 2, none⟩ = some (.int .i64 x2) := by simp [World.cell?, FW15.out.box]
        go_wp2_with fail
        refine Calls.mono (Tryz.atake_any w.heap.size 2 rb x2 5 true W15 kx (FW15.out.fx 2) FW15.out.cr FW15.out.fr FW15.out.ne) ?_
        rintro e W16 ⟨rfl, hw2⟩
        have eb : (true && (decide (0 ≤ x2) && decide (x2 < 5))) = true := by rw [decide_eq_true q2.1, decide_eq_true q2.2]; rfl
        have FW16 : Hid (Ak.Fm w w.heap.size rb #[.int .i64 12, .int .i64 0, .int .i64 0, .int .i64 x3, .int .i64 x4, .int .i64 x5, .slice a6 n6 c6, .slice a7 n7 c7, .slice a8 n8 c8, .slice a9 n9 c9, .slice aA nA cA, .slice aB nB cB] true W16) := by show Ak.Fm _ _ _ _ _ _; rw [hw2, eb]; exact (FW15.out.setR true).setX 2 (.int .i64 0)
        clear hw2 eb kx
        have kr := FW16.out.cr
        have k0 : W16.cell? ⟨w.heap.size, 0, none⟩ = some (.int .i64 12) := by simp [World.cell?, FW16.out.box]
        have k1 : W16.cell? ⟨w.heap.size, 1, none⟩ = some (.int .i64 0) := by simp [World.cell?, FW16.out.box]
        have k2 : W16.cell? ⟨w.heap.size, 2, none⟩ = some (.int .i64 0) := by simp [World.cell?, FW16.out.box]
        have k3 : W16.cell? ⟨w.heap.size, 3, none⟩ = some (.int .i64 x3) := by simp [World.cell?, FW16.out.box]
        have k4 : W16.cell? ⟨w.heap.size, 4, none⟩ = some (.int .i64 x4) := by simp [World.cell?, FW16.out.box]
        have k5 : W16.cell? ⟨w.heap.size, 5, none⟩ = some (.int .i64 x5) := by simp [World.cell?, FW16.out.box]
        have k6 : W16.cell? ⟨w.heap.size, 6, none⟩ = some (.slice a6 n6 c6) := by simp [World.cell?, FW16.out.box]
        have k7 : W16.cell? ⟨w.heap.size, 7, none⟩ = some (.slice a7 n7 c7) := by simp [World.cell?, FW16.out.box]
        have k8 : W16.cell? ⟨w.heap.size, 8, none⟩ = some (.slice a8 n8 c8) := by simp [World.cell?, FW16.out.box]
        have k9 : W16.cell? ⟨w.heap.size, 9, none⟩ = some (.slice a9 n9 c9) := by simp [World.cell?, FW16.out.box]
        have k10 : W16.cell? ⟨w.heap.size, 10, none⟩ = some (.slice aA nA cA) := by simp [World.cell?, FW16.out.box]
        have k11 : W16.cell? ⟨w.heap.size, 11, none⟩ = some (.slice aB nB cB) := by simp [World.cell?, FW16.out.box]
        go_wp2_with fail
        clear kr k0 k1 k2 k3 k4 k5 k6 k7 k8 k9 k10 k11
        refine Calls.mono (CA.out _ FW16.out.bel) ?_
        rintro e W17 ⟨⟨r, rfl, hr⟩, hbe⟩
        have FW17 : Hid (Ak.Fm w w.heap.size rb #[.int .i64 12, .int .i64 0, .int .i64 0, .int .i64 x3, .int .i64 x4, .int .i64 x5, .slice a6 n6 c6, .slice a7 n7 c7, .slice a8 n8 c8, .slice a9 n9 c9, .slice aA nA cA, .slice aB nB cB] true W17 ∧ (r = true ↔ P)) := ⟨FW16.out.below hbe, hr⟩
        clear hbe hr
        cases r with
        | false =>
          have HN : Hid (¬ Q) := fun h => by have := FW17.out.2.2 (HQ.out.1 h).2.2.2.2.1; simp at this
          go_wp2
          go_ret
          exact ⟨Ak.Told.no HN.out, FW17.out.1.bel⟩
        | true =>
        have HP : Hid P := FW17.out.2.1 (by first | rfl | trivial)
        have k8 : W17.cell? ⟨w.heap.size, 8, none⟩ = some (.slice a8 n8 c8) := by simp [World.cell?, FW17.out.1.box]
        by_cases qz : n8 = 0
        · have dz : ((n8 : Int) == 0) = true := by simp; omega
          have HZ : Hid (n8 = 0) := qz
          clear qz
          go_wp2
          go_ret
          exact ⟨Ak.Told.yes (HQ.out.2 ⟨(by first | rfl | trivial), Q0.out, Q1.out, Q2.out, HP.out, HZ.out⟩), FW17.out.1.bel⟩
        · have dz : ((n8 : Int) == 0) = false := by simp; omega
          have HN : Hid (¬ Q) := fun h => qz (HQ.out.1 h).2.2.2.2.2
          clear qz
          go_wp2
          go_ret
          exact ⟨Ak.Told.no HN.out, FW17.out.1.bel⟩
      · have HN : Hid (¬ Q) := fun h => q2 (HQ.out.1 h).2.2.2.1
        have kx : W15.cell? ⟨w.heap.size, 2, none⟩ = some (.int .i64 x2) := by simp [World.cell?, FW15.out.box]
        go_wp2_with fail
        refine Calls.mono (Tryz.atake_any w.heap.size 2 rb x2 5 true W15 kx (FW15.out.fx 2) FW15.out.cr FW15.out.fr FW15.out.ne) ?_
        rintro e W18 ⟨rfl, hw2⟩
        have eb : (true && (decide (0 ≤ x2) && decide (x2 < 5))) = false := by rw [Bool.true_and, Bool.and_eq_false_iff]; simp only [decide_eq_false_iff_not]; omega
        have FW18 : Hid (Ak.Fm w w.heap.size rb #[.int .i64 12, .int .i64 0, .int .i64 0, .int .i64 x3, .int .i64 x4, .int .i64 x5, .slice a6 n6 c6, .slice a7 n7 c7, .slice a8 n8 c8, .slice a9 n9 c9, .slice aA nA cA, .slice aB nB cB] false W18) := by show Ak.Fm _ _ _ _ _ _; rw [hw2, eb]; exact (FW15.out.setR false).setX 2 (.int .i64 0)
        clear hw2 eb kx
        have kr := FW18.out.cr
        go_wp2
        go_ret
        exact ⟨Ak.Told.no HN.out, FW18.out.bel⟩
    · have dq : decide ((1 : Int) ≤ x2) = false := decide_eq_false (by omega)
      have HN : Hid (¬ Q) := fun h => q1 (HQ.out.1 h).2.2.1
      have kr := FW14.out.cr
      have fr := FW14.out.fr
      have k2 : W14.cell? ⟨w.heap.size, 2, none⟩ = some (.int .i64 x2) := by simp [World.cell?, FW14.out.box]
      go_upto_region 39 with fail
      obtain ⟨W19, hW19⟩ : ∃ z, W14.setCell ⟨rb, 0, none⟩ (.bool false) = z := ⟨_, rfl⟩
      rw [hW19]
      have FW19 : Hid (Ak.Fm w w.heap.size rb #[.int .i64 12, .int .i64 0, .int .i64 x2, .int .i64 x3, .int .i64 x4, .int .i64 x5, .slice a6 n6 c6, .slice a7 n7 c7, .slice a8 n8 c8, .slice a9 n9 c9, .slice aA nA cA, .slice aB nB cB] false W19) := by rw [← hW19]; exact FW14.out.setR false
      clear hW19 kr fr k2
      have kx : W19.cell? ⟨w.heap.size, 2, none⟩ = some (.int .i64 x2) := by simp [World.cell?, FW19.out.box]
      go_wp2_with fail
      refine Calls.mono (Tryz.atake_any w.heap.size 2 rb x2 5 false W19 kx (FW19.out.fx 2) FW19.out.cr FW19.out.fr FW19.out.ne) ?_
      rintro e W20 ⟨rfl, hw2⟩
      have eb : (false && (decide (0 ≤ x2) && decide (x2 < 5))) = false := rfl
      have FW20 : Hid (Ak.Fm w w.heap.size rb #[.int .i64 12, .int .i64 0, .int .i64 0, .int .i64 x3, .int .i64 x4, .int .i64 x5, .slice a6 n6 c6, .slice a7 n7 c7, .slice a8 n8 c8, .slice a9 n9 c9, .slice aA nA cA, .slice aB nB cB] false W20) := by show Ak.Fm _ _ _ _ _ _; rw [hw2, eb]; exact (FW19.out.setR false).setX 2 (.int .i64 0)
      clear hw2 eb kx
      have kr := FW20.out.cr
      go_wp2
      go_ret
      exact ⟨Ak.Told.no HN.out, FW20.out.bel⟩
  · have HN : Hid (¬ Q) := fun h => q0 (HQ.out.1 h).2.1
    have kx : W3.cell? ⟨w.heap.size, 1, none⟩ = some (.int .i64 x1) := by simp [World.cell?, FW3.out.box]
    go_wp2_with fail
    refine Calls.mono (Tryz.atake_any w.heap.size 1 rb x1 24 true W3 kx (FW3.out.fx 1) FW3.out.cr FW3.out.fr FW3.out.ne) ?_
    rintro e W21 ⟨rfl, hw2⟩
    have eb : (true && (decide (0 ≤ x1) && decide (x1 < 24))) = false := by rw [Bool.true_and, Bool.and_eq_false_iff]; simp only [decide_eq_false_iff_not]; omega
    have FW21 : Hid (Ak.Fm w w.heap.size rb #[.int .i64 12, .int .i64 0, .int .i64 x2, .int .i64 x3, .int .i64 x4, .int .i64 x5, .slice a6 n6 c6, .slice a7 n7 c7, .slice a8 n8 c8, .slice a9 n9 c9, .slice aA nA cA, .slice aB nB cB] false W21) := by show Ak.Fm _ _ _ _ _ _; rw [hw2, eb]; exact (FW3.out.setR false).setX 1 (.int .i64 0)
    clear hw2 eb kx
    have kk : W21.cell? ⟨w.heap.size, 0, none⟩ = some (.int .i64 12) := by simp [World.cell?, FW21.out.box]
    have kk2 : W21.cell? ⟨w.heap.size, 2, none⟩ = some (.int .i64 x2) := by simp [World.cell?, FW21.out.box]
    have kr := FW21.out.cr
    have fr := FW21.out.fr
    go_upto_region 39 with fail
    obtain ⟨W22, hW22⟩ : ∃ z, W21.setCell ⟨rb, 0, none⟩ (.bool false) = z := ⟨_, rfl⟩
    rw [hW22]
    have FW22 : Hid (Ak.Fm w w.heap.size rb #[.int .i64 12, .int .i64 0, .int .i64 x2, .int .i64 x3, .int .i64 x4, .int .i64 x5, .slice a6 n6 c6, .slice a7 n7 c7, .slice a8 n8 c8, .slice a9 n9 c9, .slice aA nA cA, .slice aB nB cB] false W22) := by rw [← hW22]; exact FW21.out.setR false
    clear hW22 kr fr 
    have kx : W22.cell? ⟨w.heap.size, 2, none⟩ = some (.int .i64 x2) := by simp [World.cell?, FW22.out.box]
    go_wp2_with fail
    refine Calls.mono (Tryz.atake_any w.heap.size 2 rb x2 5 false W22 kx (FW22.out.fx 2) FW22.out.cr FW22.out.fr FW22.out.ne) ?_
    rintro e W23 ⟨rfl, hw2⟩
    have eb : (false && (decide (0 ≤ x2) && decide (x2 < 5))) = false := rfl
    have FW23 : Hid (Ak.Fm w w.heap.size rb #[.int .i64 12, .int .i64 0, .int .i64 0, .int .i64 x3, .int .i64 x4, .int .i64 x5, .slice a6 n6 c6, .slice a7 n7 c7, .slice a8 n8 c8, .slice a9 n9 c9, .slice aA nA cA, .slice aB nB cB] false W23) := by show Ak.Fm _ _ _ _ _ _; rw [hw2, eb]; exact (FW22.out.setR false).setX 2 (.int .i64 0)
    clear hw2 eb kx
    have kr := FW23.out.cr
    go_wp2
    go_ret
    exact ⟨Ak.Told.no HN.out, FW23.out.bel⟩
end Go.Proofs
