import Derived.Test.YtmomffminkflnaaGreatDoorRAllNtOne
namespace Go.Proofs
open Go.RowKit Go.Shelf
set_option maxRecDepth 20000 in
set_option maxHeartbeats 16000000 in
theorem Tryz.fm_6 (x1 x2 x3 x4 x5 : Int) (a6 a7 a8 a9 aA aB : Option Addr) (n6 c6 n7 c7 n8 c8 n9 c9 nA cA nB cB : Nat) (w : World) (hb : Bool) (P : Prop) (_hn7 : n7 ≤ 1000) (hn8 : n8 ≤ 1000) (CH0 : ∀ W, Below w.heap.size w W → Calls Tryz.prog 58 #[.agg #[.int .i64 6, .int .i64 x1, .int .i64 x2, .int .i64 x3, .int .i64 x4, .int .i64 x5, .slice a6 n6 c6, .slice a7 n7 c7, .slice a8 n8 c8, .slice a9 n9 c9, .slice aA nA cA, .slice aB nB cB]] W fun e w' => e = .returned (.bool hb) ∧ Below W.heap.size W w') (CA0 : ∀ W, Below w.heap.size w W → Calls Tryz.prog 65 #[.agg #[.int .i64 6, .int .i64 x1, .int .i64 x2, .int .i64 x3, .int .i64 x4, .int .i64 x5, .slice a6 n6 c6, .slice a7 n7 c7, .slice none 0 0, .slice a9 n9 c9, .slice aA nA cA, .slice aB nB cB], .agg #[.int .i64 6, .int .i64 0, .int .i64 0, .int .i64 0, .int .i64 0, .int .i64 0, .slice none 0 0, .slice none 0 0, .slice none 0 0, .slice none 0 0, .slice none 0 0, .slice none 0 0]] W fun e w' => Ak.Told P e ∧ Below W.heap.size W w') :
    Calls Tryz.prog 48 #[.agg #[.int .i64 6, .int .i64 x1, .int .i64 x2, .int .i64 x3, .int .i64 x4, .int .i64 x5, .slice a6 n6 c6, .slice a7 n7 c7, .slice a8 n8 c8, .slice a9 n9 c9, .slice aA nA cA, .slice aB nB cB]] w fun e w' => Ak.Told (hb = true ∧ 2 ≤ n8 ∧ P ∧ True) e ∧ Below w.heap.size w w' := by
  obtain ⟨Q, hQ⟩ : ∃ Q : Prop, (hb = true ∧ 2 ≤ n8 ∧ P ∧ True) = Q := ⟨_, rfl⟩
  rw [hQ]
  have HQ : Hid (Q ↔ hb = true ∧ 2 ≤ n8 ∧ P ∧ True) := by rw [← hQ]; exact Iff.rfl
  have CH : Hid _ := CH0
  have CA : Hid _ := CA0
  obtain ⟨w1, hw1⟩ : ∃ x, w.alloc (.cells #[.int .i64 6, .int .i64 x1, .int .i64 x2, .int .i64 x3, .int .i64 x4, .int .i64 x5, .slice a6 n6 c6, .slice a7 n7 c7, .slice a8 n8 c8, .slice a9 n9 c9, .slice aA nA cA, .slice aB nB cB] 32) = x := ⟨_, rfl⟩
  have A1 : Below w.heap.size w w1 := by rw [← hw1]; exact (Below.refl _ w).alloc (Nat.le_refl _) _
  have G1 : w1.heap[w.heap.size]? = some (.cells #[.int .i64 6, .int .i64 x1, .int .i64 x2, .int .i64 x3, .int .i64 x4, .int .i64 x5, .slice a6 n6 c6, .slice a7 n7 c7, .slice a8 n8 c8, .slice a9 n9 c9, .slice aA nA cA, .slice aB nB cB] 32 (0, 0)) := by rw [← hw1]; exact heap_alloc_new w _
  have ca : w1.cell? ⟨w.heap.size, 0, none⟩ = some (.int .i64 6) ∧ w1.cell? ⟨w.heap.size, 1, none⟩ = some (.int .i64 x1) ∧ w1.cell? ⟨w.heap.size, 2, none⟩ = some (.int .i64 x2) ∧ w1.cell? ⟨w.heap.size, 3, none⟩ = some (.int .i64 x3) ∧ w1.cell? ⟨w.heap.size, 4, none⟩ = some (.int .i64 x4) ∧ w1.cell? ⟨w.heap.size, 5, none⟩ = some (.int .i64 x5) ∧ w1.cell? ⟨w.heap.size, 6, none⟩ = some (.slice a6 n6 c6) ∧ w1.cell? ⟨w.heap.size, 7, none⟩ = some (.slice a7 n7 c7) ∧ w1.cell? ⟨w.heap.size, 8, none⟩ = some (.slice a8 n8 c8) ∧ w1.cell? ⟨w.heap.size, 9, none⟩ = some (.slice a9 n9 c9) ∧ w1.cell? ⟨w.heap.size, 10, none⟩ = some (.slice aA nA cA) ∧ w1.cell? ⟨w.heap.size, 11, none⟩ = some (.slice aB nB cB) := by simp [World.cell?, G1]
  obtain ⟨m0, m1, m2, m3, m4, m5, m6, m7, m8, m9, m10, m11⟩ := ca
  have H1 : Hid (w.alloc (.cells #[.int .i64 6, .int .i64 x1, .int .i64 x2, .int .i64 x3, .int .i64 x4, .int .i64 x5, .slice a6 n6 c6, .slice a7 n7 c7, .slice a8 n8 c8, .slice a9 n9 c9, .slice aA nA cA, .slice aB nB cB] 32) = w1) := hw1
  have HA : Hid (Below w.heap.size w w1 ∧ w1.heap[w.heap.size]? = some (.cells #[.int .i64 6, .int .i64 x1, .int .i64 x2, .int .i64 x3, .int .i64 x4, .int .i64 x5, .slice a6 n6 c6, .slice a7 n7 c7, .slice a8 n8 c8, .slice a9 n9 c9, .slice aA nA cA, .slice aB nB cB] 32 (0, 0))) := ⟨A1, G1⟩
  clear hw1 A1 G1 CH0 CA0 hQ
  go_enter Tryz.func48, Tryz.ntmps48
  go_upto_region 1 with fail
  rw [H1.out]
  go_wp2_with fail
  refine Calls.mono (CH.out _ HA.out.1) ?_
  rintro e W2 ⟨rfl, hb2⟩
  clear H1 CH m0 m1 m2 m3 m4 m5 m6 m7 m8 m9 m10 m11
  go_upto_region 3 with fail
  obtain ⟨W3, hW3⟩ : ∃ z, W2.alloc (.cells #[.bool hb] 4) = z := ⟨_, rfl⟩
  have hx2 : W2.heap[w.heap.size]? = some (.cells #[.int .i64 6, .int .i64 x1, .int .i64 x2, .int .i64 x3, .int .i64 x4, .int .i64 x5, .slice a6 n6 c6, .slice a7 n7 c7, .slice a8 n8 c8, .slice a9 n9 c9, .slice aA nA cA, .slice aB nB cB] 32 (0, 0)) := (hb2.block _ (Array.getElem?_eq_some_iff.1 HA.out.2).1).trans HA.out.2
  have hl2 := (Array.getElem?_eq_some_iff.1 hx2).1
  have FW3 : Hid (Ak.Fm w w.heap.size W2.heap.size #[.int .i64 6, .int .i64 x1, .int .i64 x2, .int .i64 x3, .int .i64 x4, .int .i64 x5, .slice a6 n6 c6, .slice a7 n7 c7, .slice a8 n8 c8, .slice a9 n9 c9, .slice aA nA cA, .slice aB nB cB] hb W3) := by
    have b3 : Below W2.heap.size W2 W3 := by rw [← hW3]; exact (Below.refl _ W2).alloc (Nat.le_refl _) _
    have b2 : Below w.heap.size w W2 := HA.out.1.trans (hb2.mono HA.out.1.size)
    exact ⟨(b3.block _ hl2).trans hx2, by rw [← hW3]; exact heap_alloc_new W2 _, by omega, Nat.le_refl _, b2.size, b2.trans (b3.mono b2.size)⟩
  rw [hW3]
  obtain ⟨rb, hrb⟩ : ∃ z, W2.heap.size = z := ⟨_, rfl⟩
  rw [hrb] at FW3 ⊢
  clear hW3 hx2 hl2 hb2 hrb HA
  have k0 : W3.cell? ⟨w.heap.size, 0, none⟩ = some (.int .i64 6) := by simp [World.cell?, FW3.out.box]
  have CN : Hid _ := Tryz.hasNode_any 6 W3
  go_wp2_with fail
  refine Calls.mono CN.out ?_
  rintro e W4 ⟨rfl, hw4⟩
  obtain rfl := hw4.symm
  clear CN
  have ehn : Ac.hasNodeB 6 = false := rfl
  rw [ehn]
  clear ehn
  cases hb with
  | false =>
    have HN : Hid (¬ Q) := fun h => by have := (HQ.out.1 h).1; cases this
    have kr := FW3.out.cr
    have fr := FW3.out.fr
    go_upto_region 33 with fail
    obtain ⟨W11, hW11⟩ : ∃ z, W3.setCell ⟨rb, 0, none⟩ (.bool false) = z := ⟨_, rfl⟩
    rw [hW11]
    have FW11 : Hid (Ak.Fm w w.heap.size rb #[.int .i64 6, .int .i64 x1, .int .i64 x2, .int .i64 x3, .int .i64 x4, .int .i64 x5, .slice a6 n6 c6, .slice a7 n7 c7, .slice a8 n8 c8, .slice a9 n9 c9, .slice aA nA cA, .slice aB nB cB] false W11) := by rw [← hW11]; exact FW3.out.setR false
    clear hW11 kr fr 
    have kz8 : W11.cell? ⟨w.heap.size, 8, none⟩ = some (.slice a8 n8 c8) := by simp [World.cell?, FW11.out.box]
    have fz8 := FW11.out.fx 8
    go_upto_region 46 with fail
    obtain ⟨W12, hW12⟩ : ∃ z, (W11.setCell ⟨w.heap.size, 8, none⟩ (.slice none 0 0)) = z := ⟨_, rfl⟩
    rw [hW12]
    have FW12 : Hid (Ak.Fm w w.heap.size rb #[.int .i64 6, .int .i64 x1, .int .i64 x2, .int .i64 x3, .int .i64 x4, .int .i64 x5, .slice a6 n6 c6, .slice a7 n7 c7, .slice none 0 0, .slice a9 n9 c9, .slice aA nA cA, .slice aB nB cB] false W12) := by rw [← hW12]; exact (FW11.out.setX 8 (.slice none 0 0))
    clear hW12 kz8 fz8
    have kr := FW12.out.cr
    go_wp2
    go_ret
    exact ⟨Ak.Told.no HN.out, FW12.out.bel⟩
  | true =>
  by_cases q0 : 2 ≤ n8
  · have dq : decide ((2 : Int) ≤ n8) = true := decide_eq_true (by omega)
    have dq2 : (2 : Int) ≤ n8 := by omega
    have Q0 : Hid (2 ≤ n8) := q0
    have kr := FW3.out.cr
    have fr := FW3.out.fr
    have k8 : W3.cell? ⟨w.heap.size, 8, none⟩ = some (.slice a8 n8 c8) := by simp [World.cell?, FW3.out.box]
    go_upto_region 33 with fail
    obtain ⟨W13, hW13⟩ : ∃ z, W3.setCell ⟨rb, 0, none⟩ (.bool true) = z := ⟨_, rfl⟩
    rw [hW13]
    have FW13 : Hid (Ak.Fm w w.heap.size rb #[.int .i64 6, .int .i64 x1, .int .i64 x2, .int .i64 x3, .int .i64 x4, .int .i64 x5, .slice a6 n6 c6, .slice a7 n7 c7, .slice a8 n8 c8, .slice a9 n9 c9, .slice aA nA cA, .slice aB nB cB] true W13) := by rw [← hW13]; exact FW3.out.setR true
    clear hW13 kr fr k8
    have kz8 : W13.cell? ⟨w.heap.size, 8, none⟩ = some (.slice a8 n8 c8) := by simp [World.cell?, FW13.out.box]
    have fz8 := FW13.out.fx 8
    go_upto_region 46 with fail
    obtain ⟨W14, hW14⟩ : ∃ z, (W13.setCell ⟨w.heap.size, 8, none⟩ (.slice none 0 0)) = z := ⟨_, rfl⟩
    rw [hW14]
    have FW14 : Hid (Ak.Fm w w.heap.size rb #[.int .i64 6, .int .i64 x1, .int .i64 x2, .int .i64 x3, .int .i64 x4, .int .i64 x5, .slice a6 n6 c6, .slice a7 n7 c7, .slice none 0 0, .slice a9 n9 c9, .slice aA nA cA, .slice aB nB cB] true W14) := by rw [← hW14]; exact (FW13.out.setX 8 (.slice none 0 0))
    clear hW14 kz8 fz8
    have kr := FW14.out.cr
    have k0 : W14.cell? ⟨w.heap.size, 0, none⟩ = some (.int .i64 6) := by simp [World.cell?, FW14.out.box]
    have k1 : W14.cell? ⟨w.heap.size, 1, none⟩ = some (.int .i64 x1) := by simp [World.cell?, FW14.out.box]
    have k2 : W14.cell? ⟨w.heap.size, 2, none⟩ = some (.int .i64 x2) := by simp [World.cell?, FW14.out.box]
    have k3 : W14.cell? ⟨w.heap.size, 3, none⟩ = some (.int .i64 x3) := by simp [World.cell?, FW14.out.box]
    have k4 : W14.cell? ⟨w.heap.size, 4, none⟩ = some (.int .i64 x4) := by simp [World.cell?, FW14.out.box]
    have k5 : W14.cell? ⟨w.heap.size, 5, none⟩ = some (.int .i64 x5) := by simp [World.cell?, FW14.out.box]
    have k6 : W14.cell? ⟨w.heap.size, 6, none⟩ = some (.slice a6 n6 c6) := by simp [World.cell?, FW14.out.box]
    have k7 : W14.cell? ⟨w.heap.size, 7, none⟩ = some (.slice a7 n7 c7) := by simp [World.cell?, FW14.out.box]
    have k8 : W14.cell? ⟨w.heap.size, 8, none⟩ = some (.slice none 0 0) := by simp [World.cell?, FW14.out.box]
    have k9 : W14.cell? ⟨w.heap.size, 9, none⟩ = some (.slice a9 n9 c9) := by simp [World.cell?, FW14.out.box]
    have k10 : W14.cell? ⟨w.heap.size, 10, none⟩ = some (.slice aA nA cA) := by simp [World.cell?, FW14.out.box]
    have k11 : W14.cell? ⟨w.heap.size, 11, none⟩ = some (.slice aB nB cB) := by simp [World.cell?, FW14.out.box]
    go_wp2_with fail
    clear kr k0 k1 k2 k3 k4 k5 k6 k7 k8 k9 k10 k11
    refine Calls.mono (CA.out _ FW14.out.bel) ?_
    rintro e W15 ⟨⟨r, rfl, hr⟩, hbe⟩
    have FW15 : Hid (Ak.Fm w w.heap.size rb #[.int .i64 6, .int .i64 x1, .int .i64 x2, .int .i64 x3, .int .i64 x4, .int .i64 x5, .slice a6 n6 c6, .slice a7 n7 c7, .slice none 0 0, .slice a9 n9 c9, .slice aA nA cA, .slice aB nB cB] true W15 ∧ (r = true ↔ P)) := ⟨FW14.out.below hbe, hr⟩
    clear hbe hr
    cases r with
    | false =>
      have HN : Hid (¬ Q) := fun h => by have := FW15.out.2.2 (HQ.out.1 h).2.2.1; simp at this
      go_wp2
      go_ret
      exact ⟨Ak.Told.no HN.out, FW15.out.1.bel⟩
    | true =>
    have HP : Hid P := FW15.out.2.1 (by first | rfl | trivial)
    have k8 : W15.cell? ⟨w.heap.size, 8, none⟩ = some (.slice none 0 0) := by simp [World.cell?, FW15.out.1.box]
    go_wp2
    go_ret
    exact ⟨Ak.Told.yes (HQ.out.2 ⟨(by first | rfl | trivial), Q0.out, HP.out, trivial⟩), FW15.out.1.bel⟩
  · have dq : decide ((2 : Int) ≤ n8) = false := decide_eq_false (by omega)
    have dq2 : ¬ (2 : Int) ≤ n8 := by omega
    have HN : Hid (¬ Q) := fun h => q0 (HQ.out.1 h).2.1
    have kr := FW3.out.cr
    have fr := FW3.out.fr
    have k8 : W3.cell? ⟨w.heap.size, 8, none⟩ = some (.slice a8 n8 c8) := by simp [World.cell?, FW3.out.box]
    go_upto_region 33 with fail
    obtain ⟨W16, hW16⟩ : ∃ z, W3.setCell ⟨rb, 0, none⟩ (.bool false) = z := ⟨_, rfl⟩
    rw [hW16]
    have FW16 : Hid (Ak.Fm w w.heap.size rb #[.int .i64 6, .int .i64 x1, .int .i64 x2, .int .i64 x3, .int .i64 x4, .int .i64 x5, .slice a6 n6 c6, .slice a7 n7 c7, .slice a8 n8 c8, .slice a9 n9 c9, .slice aA nA cA, .slice aB nB cB] false W16) := by rw [← hW16]; exact FW3.out.setR false
    clear hW16 kr fr k8
    have kz8 : W16.cell? ⟨w.heap.size, 8, none⟩ = some (.slice a8 n8 c8) := by simp [World.cell?, FW16.out.box]
    have fz8 := FW16.out.fx 8
    go_upto_region 46 with fail
    obtain ⟨W17, hW17⟩ : ∃ z, (W16.setCell ⟨w.heap.size, 8, none⟩ (.slice none 0 0)) = z := ⟨_, rfl⟩
    rw [hW17]
    have FW17 : Hid (Ak.Fm w w.heap.size rb #[.int .i64 6, .int .i64 x1, .int .i64 x2, .int .i64 x3, .int .i64 x4, .int .i64 x5, .slice a6 n6 c6, .slice a7 n7 c7, .slice none 0 0, .slice a9 n9 c9, .slice aA nA cA, .slice aB nB cB] false W17) := by rw [← hW17]; exact (FW16.out.setX 8 (.slice none 0 0))
    clear hW17 kz8 fz8
    have kr := FW17.out.cr
    go_wp2
    go_ret
    exact ⟨Ak.Told.no HN.out, FW17.out.bel⟩
set_option maxRecDepth 20000 in
set_option maxHeartbeats 16000000 in
theorem Tryz.fm_7 (x1 x2 x3 x4 x5 : Int) (a6 a7 a8 a9 aA aB : Option Addr) (n6 c6 n7 c7 n8 c8 n9 c9 nA cA nB cB : Nat) (w : World) (hb : Bool) (P : Prop) (_hn7 : n7 ≤ 1000) (hn8 : n8 ≤ 1000) (CH0 : ∀ W, Below w.heap.size w W → Calls Tryz.prog 58 #[.agg #[.int .i64 7, .int .i64 x1, .int .i64 x2, .int .i64 x3, .int .i64 x4, .int .i64 x5, .slice a6 n6 c6, .slice a7 n7 c7, .slice a8 n8 c8, .slice a9 n9 c9, .slice aA nA cA, .slice aB nB cB]] W fun e w' => e = .returned (.bool hb) ∧ Below W.heap.size W w') (CA0 : ∀ W, Below w.heap.size w W → Calls Tryz.prog 65 #[.agg #[.int .i64 7, .int .i64 x1, .int .i64 x2, .int .i64 x3, .int .i64 x4, .int .i64 x5, .slice a6 n6 c6, .slice a7 n7 c7, .slice none 0 0, .slice a9 n9 c9, .slice aA nA cA, .slice aB nB cB], .agg #[.int .i64 7, .int .i64 0, .int .i64 0, .int .i64 0, .int .i64 0, .int .i64 0, .slice none 0 0, .slice none 0 0, .slice none 0 0, .slice none 0 0, .slice none 0 0, .slice none 0 0]] W fun e w' => Ak.Told P e ∧ Below W.heap.size W w') :
    Calls Tryz.prog 48 #[.agg #[.int .i64 7, .int .i64 x1, .int .i64 x2, .int .i64 x3, .int .i64 x4, .int .i64 x5, .slice a6 n6 c6, .slice a7 n7 c7, .slice a8 n8 c8, .slice a9 n9 c9, .slice aA nA cA, .slice aB nB cB]] w fun e w' => Ak.Told (hb = true ∧ 2 ≤ n8 ∧ P ∧ True) e ∧ Below w.heap.size w w' := by
  obtain ⟨Q, hQ⟩ : ∃ Q : Prop, (hb = true ∧ 2 ≤ n8 ∧ P ∧ True) = Q := ⟨_, rfl⟩
  rw [hQ]
  have HQ : Hid (Q ↔ hb = true ∧ 2 ≤ n8 ∧ P ∧ True) := by rw [← hQ]; exact Iff.rfl
  have CH : Hid _ := CH0
  have CA : Hid _ := CA0
  obtain ⟨w1, hw1⟩ : ∃ x, w.alloc (.cells #[.int .i64 7, .int .i64 x1, .int .i64 x2, .int .i64 x3, .int .i64 x4, .int .i64 x5, .slice a6 n6 c6, .slice a7 n7 c7, .slice a8 n8 c8, .slice a9 n9 c9, .slice aA nA cA, .slice aB nB cB] 32) = x := ⟨_, rfl⟩
  have A1 : Below w.heap.size w w1 := by rw [← hw1]; exact (Below.refl _ w).alloc (Nat.le_refl _) _
  have G1 : w1.heap[w.heap.size]? = some (.cells #[.int .i64 7, .int .i64 x1, .int .i64 x2, .int .i64 x3, .int .i64 x4, .int .i64 x5, .slice a6 n6 c6, .slice a7 n7 c7, .slice a8 n8 c8, .slice a9 n9 c9, .slice aA nA cA, .slice aB nB cB] 32 (0, 0)) := by rw [← hw1]; exact heap_alloc_new w _
  have ca : w1.cell? ⟨w.heap.size, 0, none⟩ = some (.int .i64 7) ∧ w1.cell? ⟨w.heap.size, 1, none⟩ = some (.int .i64 x1) ∧ w1.cell? ⟨w.heap.size, 2, none⟩ = some (.int .i64 x2) ∧ w1.cell? ⟨w.heap.size, 3, none⟩ = some (.int .i64 x3) ∧ w1.cell? ⟨w.heap.size, 4, none⟩ = some (.int .i64 x4) ∧ w1.cell? ⟨w.heap.size, 5, none⟩ = some (.int .i64 x5) ∧ w1.cell? ⟨w.heap.size, 6, none⟩ = some (.slice a6 n6 c6) ∧ w1.cell? ⟨w.heap.size, 7, none⟩ = some (.slice a7 n7 c7) ∧ w1.cell? ⟨w.heap.size, 8, none⟩ = some (.slice a8 n8 c8) ∧ w1.cell? ⟨w.heap.size, 9, none⟩ = some (.slice a9 n9 c9) ∧ w1.cell? ⟨w.heap.size, 10, none⟩ = some (.slice aA nA cA) ∧ w1.cell? ⟨w.heap.size, 11, none⟩ = some (.slice aB nB cB) := by simp [World.cell?, G1]
  obtain ⟨m0, m1, m2, m3, m4, m5, m6, m7, m8, m9, m10, m11⟩ := ca
  have H1 : Hid (w.alloc (.cells #[.int .i64 7, .int .i64 x1, .int .i64 x2, .int .i64 x3, .int .i64 x4, .int .i64 x5, .slice a6 n6 c6, .slice a7 n7 c7, .slice a8 n8 c8, .slice a9 n9 c9, .slice aA nA cA, .slice aB nB cB] 32) = w1) := hw1
  have HA : Hid (Below w.heap.size w w1 ∧ w1.heap[w.heap.size]? = some (.cells #[.int .i64 7, .int .i64 x1, .int .i64 x2, .int .i64 x3, .int .i64 x4, .int .i64 x5, .slice a6 n6 c6, .slice a7 n7 c7, .slice a8 n8 c8, .slice a9 n9 c9, .slice aA nA cA, .slice aB nB cB] 32 (0, 0))) := ⟨A1, G1⟩
  clear hw1 A1 G1 CH0 CA0 hQ
  go_enter Tryz.func48, Tryz.ntmps48
  go_upto_region 1 with fail
  rw [H1.out]
  go_wp2_with fail
  refine Calls.mono (CH.out _ HA.out.1) ?_
  rintro e W2 ⟨rfl, hb2⟩
  clear H1 CH m0 m1 m2 m3 m4 m5 m6 m7 m8 m9 m10 m11
  go_upto_region 3 with fail
  obtain ⟨W3, hW3⟩ : ∃ z, W2.alloc (.cells #[.bool hb] 4) = z := ⟨_, rfl⟩
  have hx2 : W2.heap[w.heap.size]? = some (.cells #[.int .i64 7, .int .i64 x1, .int .i64 x2, .int .i64 x3, .int .i64 x4, .int .i64 x5, .slice a6 n6 c6, .slice a7 n7 c7, .slice a8 n8 c8, .slice a9 n9 c9, .slice aA nA cA, .slice aB nB cB] 32 (0, 0)) := (hb2.block _ (Array.getElem?_eq_some_iff.1 HA.out.2).1).trans HA.out.2
  have hl2 := (Array.getElem?_eq_some_iff.1 hx2).1
  have FW3 : Hid (Ak.Fm w w.heap.size W2.heap.size #[.int .i64 7, .int .i64 x1, .int .i64 x2, .int .i64 x3, .int .i64 x4, .int .i64 x5, .slice a6 n6 c6, .slice a7 n7 c7, .slice a8 n8 c8, .slice a9 n9 c9, .slice aA nA cA, .slice aB nB cB] hb W3) := by
    have b3 : Below W2.heap.size W2 W3 := by rw [← hW3]; exact (Below.refl _ W2).alloc (Nat.le_refl _) _
    have b2 : Below w.heap.size w W2 := HA.out.1.trans (hb2.mono HA.out.1.size)
    exact ⟨(b3.block _ hl2).trans hx2, by rw [← hW3]; exact heap_alloc_new W2 _, by omega, Nat.le_refl _, b2.size, b2.trans (b3.mono b2.size)⟩
  rw [hW3]
  obtain ⟨rb, hrb⟩ : ∃ z, W2.heap.size = z := ⟨_, rfl⟩
  rw [hrb] at FW3 ⊢
  clear hW3 hx2 hl2 hb2 hrb HA
  have k0 : W3.cell? ⟨w.heap.size, 0, none⟩ = some (.int .i64 7) := by simp [World.cell?, FW3.out.box]
  have CN : Hid _ := Tryz.hasNode_any 7 W3
  go_wp2_with fail
  refine Calls.mono CN.out ?_
  rintro e W4 ⟨rfl, hw4⟩
  obtain rfl := hw4.symm
  clear CN
  have ehn : Ac.hasNodeB 7 = false := rfl
  rw [ehn]
  clear ehn
  cases hb with
  | false =>
    have HN : Hid (¬ Q) := fun h => by have := (HQ.out.1 h).1; cases this
    have kr := FW3.out.cr
    have fr := FW3.out.fr
    go_upto_region 33 with fail
    obtain ⟨W11, hW11⟩ : ∃ z, W3.setCell ⟨rb, 0, none⟩ (.bool false) = z := ⟨_, rfl⟩
    rw [hW11]
    have FW11 : Hid (Ak.Fm w w.heap.size rb #[.int .i64 7, .int .i64 x1, .int .i64 x2, .int .i64 x3, .int .i64 x4, .int .i64 x5, .slice a6 n6 c6, .slice a7 n7 c7, .slice a8 n8 c8, .slice a9 n9 c9, .slice aA nA cA, .slice aB nB cB] false W11) := by rw [← hW11]; exact FW3.out.setR false
    clear hW11 kr fr 
    have kz8 : W11.cell? ⟨w.heap.size, 8, none⟩ = some (.slice a8 n8 c8) := by simp [World.cell?, FW11.out.box]
    have fz8 := FW11.out.fx 8
    go_upto_region 46 with fail
    obtain ⟨W12, hW12⟩ : ∃ z, (W11.setCell ⟨w.heap.size, 8, none⟩ (.slice none 0 0)) = z := ⟨_, rfl⟩
    rw [hW12]
    have FW12 : Hid (Ak.Fm w w.heap.size rb #[.int .i64 7, .int .i64 x1, .int .i64 x2, .int .i64 x3, .int .i64 x4, .int .i64 x5, .slice a6 n6 c6, .slice a7 n7 c7, .slice none 0 0, .slice a9 n9 c9, .slice aA nA cA, .slice aB nB cB] false W12) := by rw [← hW12]; exact (FW11.out.setX 8 (.slice none 0 0))
    clear hW12 kz8 fz8
    have kr := FW12.out.cr
    go_wp2
    go_ret
    exact ⟨Ak.Told.no HN.out, FW12.out.bel⟩
  | true =>
  by_cases q0 : 2 ≤ n8
  · have dq : decide ((2 : Int) ≤ n8) = true := decide_eq_true (by omega)
    have dq2 : (2 : Int) ≤ n8 := by omega
    have Q0 : Hid (2 ≤ n8) := q0
    have kr := FW3.out.cr
    have fr := FW3.out.fr
    have k8 : W3.cell? ⟨w.heap.size, 8, none⟩ = some (.slice a8 n8 c8) := by simp [World.cell?, FW3.out.box]
    go_upto_region 33 with fail
    obtain ⟨W13, hW13⟩ : ∃ z, W3.setCell ⟨rb, 0, none⟩ (.bool true) = z := ⟨_, rfl⟩
    rw [hW13]
    have FW13 : Hid (Ak.Fm w w.heap.size rb #[.int .i64 7, .int .i64 x1, .int .i64 x2, .int .i64 x3, .int .i64 x4, .int .i64 x5, .slice a6 n6 c6, .slice a7 n7 c7, .slice a8 n8 c8, .slice a9 n9 c9, .slice aA nA cA, .slice aB nB cB] true W13) := by rw [← hW13]; exact FW3.out.setR true
    clear hW13 kr fr k8
    have kz8 : W13.cell? ⟨w.heap.size, 8, none⟩ = some (.slice a8 n8 c8) := by simp [World.cell?, FW13.out.box]
    have fz8 := FW13.out.fx 8
    go_upto_region 46 with fail
    obtain ⟨W14, hW14⟩ : ∃ z, (W13.setCell ⟨w.heap.size, 8, none⟩ (.slice none 0 0)) = z := ⟨_, rfl⟩
    rw [hW14]
    have FW14 : Hid (Ak.Fm w w.heap.size rb #[.int .i64 7, .int .i64 x1, .int .i64 x2, .int .i64 x3, .int .i64 x4, .int .i64 x5, .slice a6 n6 c6, .slice a7 n7 c7, .slice none 0 0, .slice a9 n9 c9, .slice aA nA cA, .slice aB nB cB] true W14) := by rw [← hW14]; exact (FW13.out.setX 8 (.slice none 0 0))
    clear hW14 kz8 fz8
    have kr := FW14.out.cr
    have k0 : W14.cell? ⟨w.heap.size, 0, none⟩ = some (.int .i64 7) := by simp [World.cell?, FW14.out.box]
    have k1 : W14.cell? ⟨w.heap.size, 1, none⟩ = some (.int .i64 x1) := by simp [World.cell?, FW14.out.box]
    have k2 : W14.cell? ⟨w.heap.size, 2, none⟩ = some (.int .i64 x2) := by simp [World.cell?, FW14.out.box]
    have k3 : W14.cell? ⟨w.heap.size, 3, none⟩ = some (.int .i64 x3) := by simp [World.cell?, FW14.out.box]
    have k4 : W14.cell? ⟨w.heap.size, 4, none⟩ = some (.int .i64 x4) := by simp [World.cell?, FW14.out.box]
    have k5 : W14.cell? ⟨w.heap.size, 5, none⟩ = some (.int .i64 x5) := by simp [World.cell?, FW14.out.box]
    have k6 : W14.cell? ⟨w.heap.size, 6, none⟩ = some (.slice a6 n6 c6) := by simp [World.cell?, FW14.out.box]
    have k7 : W14.cell? ⟨w.heap.size, 7, none⟩ = some (.slice a7 n7 c7) := by simp [World.cell?, FW14.out.box]
    have k8 : W14.cell? ⟨w.heap.size, 8, none⟩ = some (.slice none 0 0) := by simp [World.cell?, FW14.out.box]
    have k9 : W14.cell? ⟨w.heap.size, 9, none⟩ = some (.slice a9 n9 c9) := by simp [World.cell?, FW14.out.box]
    have k10 : W14.cell? ⟨w.heap.size, 10, none⟩ = some (.slice aA nA cA) := by simp [World.cell?, FW14.out.box]
    have k11 : W14.cell? ⟨w.heap.size, 11, none⟩ = some (.slice aB nB cB) := by simp [World.cell?, FW14.out.box]
    go_wp2_with fail
    clear kr k0 k1 k2 k3 k4 k5 k6 k7 k8 k9 k10 k11
    refine Calls.mono (CA.out _ FW14.out.bel) ?_
    rintro e W15 ⟨⟨r, rfl, hr⟩, hbe⟩
    have FW15 : Hid (Ak.Fm w w.heap.size rb #[.int .i64 7, .int .i64 x1, .int .i64 x2, .int .i64 x3, .int .i64 x4, .int .i64 x5, .slice a6 n6 c6, .slice a7 n7 c7, .slice none 0 0, .slice a9 n9 c9, .slice aA nA cA, .slice aB nB cB] true W15 ∧ (r = true ↔ P)) := ⟨FW14.out.below hbe, hr⟩
    clear hbe hr
    cases r with
    | false =>
      have HN : Hid (¬ Q) := fun h => by have := FW15.out.2.2 (HQ.out.1 h).2.2.1; simp at this
      go_wp2
      go_ret
      exact ⟨Ak.Told.no HN.out, FW15.out.1.bel⟩
    | true =>
    have HP : Hid P := FW15.out.2.1 (by first | rfl | trivial)
    have k8 : W15.cell? ⟨w.heap.size, 8, none⟩ = some (.slice none 0 0) := by simp [World.cell?, FW15.out.1.box]
    go_wp2
    go_ret
    exact ⟨Ak.Told.yes (HQ.out.2 ⟨(by first | rfl | trivial), Q0.out, HP.out, trivial⟩), FW15.out.1.bel⟩
  · have dq : decide ((2 : Int) ≤ n8) = false := decide_eq_false (by omega)
    have dq2 : ¬ (2 : Int) ≤ n8 := by omega
    have HN : Hid (¬ Q) := fun h => q0 (HQ.out.1 h).2.1
    have kr := FW3.out.cr
    have fr := FW3.out.fr
    have k8 : W3.cell? ⟨w.heap.size, 8, none⟩ = some (.slice a8 n8 c8) := by simp [World.cell?, FW3.out.box]
    go_upto_region 33 with fail
    obtain ⟨W16, hW16⟩ : ∃ z, W3.setCell ⟨rb, 0, none⟩ (.bool false) = z := ⟨_, rfl⟩
    rw [hW16]
    have FW16 : Hid (Ak.Fm w w.heap.size rb #[.int .i64 7, .int .i64 x1, .int .i64 x2, .int .i64 x3, .int .i64 x4, .int .i64 x5, .slice a6 n6 c6, .slice a7 n7 c7, .slice a8 n8 c8, .slice a9 n9 c9, .slice aA nA cA, .slice aB nB cB] false W16) := by rw [← hW16]; exact FW3.out.setR false
    clear hW16 kr fr k8
    have kz8 : W16.cell? ⟨w.heap.size, 8, none⟩ = some (.slice a8 n8 c8) := by simp [World.cell?, FW16.out.box]
    have fz8 := FW16.out.fx 8
    go_upto_region 46 with fail
    obtain ⟨W17, hW17⟩ : ∃ z, (W16.setCell ⟨w.heap.size, 8, none⟩ (.slice none 0 0)) = z := ⟨_, rfl⟩
    rw [hW17]
    have FW17 : Hid (Ak.Fm w w.heap.size rb #[.int .i64 7, .int .i64 x1, .int .i64 x2, .int .i64 x3, .int .i64 x4, .int .i64 x5, .slice a6 n6 c6, .slice a7 n7 c7, .slice none 0 0, .slice a9 n9 c9, .slice aA nA cA, .slice aB nB cB] false W17) := by rw [← hW17]; exact (FW16.out.setX 8 (.slice none 0 0))
    clear hW17 kz8 fz8
    have kr := FW17.out.cr
    go_wp2
    go_ret
    exact ⟨Ak.Told.no HN.out, FW17.out.bel⟩
set_option maxRecDepth 20000 in
set_option maxHeartbeats 16000000 in
theorem Tryz.fm_9 (x1 x2 x3 x4 x5 : Int) (a6 a7 a8 a9 aA aB : Option Addr) (n6 c6 n7 c7 n8 c8 n9 c9 nA cA nB cB : Nat) (w : World) (hb : Bool) (P : Prop) (_hn7 : n7 ≤ 1000) (hn8 : n8 ≤ 1000) (CH0 : ∀ W, Below w.heap.size w W → Calls Tryz.prog 58 #[.agg #[.int .i64 9, .int .i64 x1, .int .i64 x2, .int .i64 x3, .int .i64 x4, .int .i64 x5, .slice a6 n6 c6, .slice a7 n7 c7, .slice a8 n8 c8, .slice a9 n9 c9, .slice aA nA cA, .slice aB nB cB]] W fun e w' => e = .returned (.bool hb) ∧ Below W.heap.size W w') (CA0 : ∀ W, Below w.heap.size w W → Calls Tryz.prog 65 #[.agg #[.int .i64 9, .int .i64 0, .int .i64 x2, .int .i64 x3, .int .i64 x4, .int .i64 x5, .slice a6 n6 c6, .slice a7 n7 c7, .slice none 0 0, .slice a9 n9 c9, .slice aA nA cA, .slice aB nB cB], .agg #[.int .i64 9, .int .i64 0, .int .i64 0, .int .i64 0, .int .i64 0, .int .i64 0, .slice none 0 0, .slice none 0 0, .slice none 0 0, .slice none 0 0, .slice none 0 0, .slice none 0 0]] W fun e w' => Ak.Told P e ∧ Below W.heap.size W w') :
    Calls Tryz.prog 48 #[.agg #[.int .i64 9, .int .i64 x1, .int .i64 x2, .int .i64 x3, .int .i64 x4, .int .i64 x5, .slice a6 n6 c6, .slice a7 n7 c7, .slice a8 n8 c8, .slice a9 n9 c9, .slice aA nA cA, .slice aB nB cB]] w fun e w' => Ak.Told (hb = true ∧ (0 ≤ x1 ∧ x1 < 24) ∧ 2 ≤ n8 ∧ P ∧ True) e ∧ Below w.heap.size w w' := by
  obtain ⟨Q, hQ⟩ : ∃ Q : Prop, (hb = true ∧ (0 ≤ x1 ∧ x1 < 24) ∧ 2 ≤ n8 ∧ P ∧ True) = Q := ⟨_, rfl⟩
  rw [hQ]
  have HQ : Hid (Q ↔ hb = true ∧ (0 ≤ x1 ∧ x1 < 24) ∧ 2 ≤ n8 ∧ P ∧ True) := by rw [← hQ]; exact Iff.rfl
  have CH : Hid _ := CH0
  have CA : Hid _ := CA0
  obtain ⟨w1, hw1⟩ : ∃ x, w.alloc (.cells #[.int .i64 9, .int .i64 x1, .int .i64 x2, .int .i64 x3, .int .i64 x4, .int .i64 x5, .slice a6 n6 c6, .slice a7 n7 c7, .slice a8 n8 c8, .slice a9 n9 c9, .slice aA nA cA, .slice aB nB cB] 32) = x := ⟨_, rfl⟩
  have A1 : Below w.heap.size w w1 := by rw [← hw1]; exact (Below.refl _ w).alloc (Nat.le_refl _) _
  have G1 : w1.heap[w.heap.size]? = some (.cells #[.int .i64 9, .int .i64 x1, .int .i64 x2, .int .i64 x3, .int .i64 x4, .int .i64 x5, .slice a6 n6 c6, .slice a7 n7 c7, .slice a8 n8 c8, .slice a9 n9 c9, .slice aA nA cA, .slice aB nB cB] 32 (0, 0)) := by rw [← hw1]; exact heap_alloc_new w _
  have ca : w1.cell? ⟨w.heap.size, 0, none⟩ = some (.int .i64 9) ∧ w1.cell? ⟨w.heap.size, 1, none⟩ = some (.int .i64 x1) ∧ w1.cell? ⟨w.heap.size, 2, none⟩ = some (.int .i64 x2) ∧ w1.cell? ⟨w.heap.size, 3, none⟩ = some (.int .i64 x3) ∧ w1.cell? ⟨w.heap.size, 4, none⟩ = some (.int .i64 x4) ∧ w1.cell? ⟨w.heap.size, 5, none⟩ = some (.int .i64 x5) ∧ w1.cell? ⟨w.heap.size, 6, none⟩ = some (.slice a6 n6 c6) ∧ w1.cell? ⟨w.heap.size, 7, none⟩ = some (.slice a7 n7 c7) ∧ w1.cell? ⟨w.heap.size, 8, none⟩ = some (.slice a8 n8 c8) ∧ w1.cell? ⟨w.heap.size, 9, none⟩ = some (.slice a9 n9 c9) ∧ w1.cell? ⟨w.heap.size, 10, none⟩ = some (.slice aA nA cA) ∧ w1.cell? ⟨w.heap.size, 11, none⟩ = some (.slice aB nB cB) := by simp [World.cell?, G1]
  obtain ⟨m0, m1, m2, m3, m4, m5, m6, m7, m8, m9, m10, m11⟩ := ca
  have H1 : Hid (w.alloc (.cells #[.int .i64 9, .int .i64 x1, .int .i64 x2, .int .i64 x3, .int .i64 x4, .int .i64 x5, .slice a6 n6 c6, .slice a7 n7 c7, .slice a8 n8 c8, .slice a9 n9 c9, .slice aA nA cA, .slice aB nB cB] 32) = w1) := hw1
  have HA : Hid (Below w.heap.size w w1 ∧ w1.heap[w.heap.size]? = some (.cells #[.int .i64 9, .int .i64 x1, .int .i64 x2, .int .i64 x3, .int .i64 x4, .int .i64 x5, .slice a6 n6 c6, .slice a7 n7 c7, .slice a8 n8 c8, .slice a9 n9 c9, .slice aA nA cA, .slice aB nB cB] 32 (0, 0))) := ⟨A1, G1⟩
  clear hw1 A1 G1 CH0 CA0 hQ
  go_enter Tryz.func48, Tryz.ntmps48
  go_upto_region 1 with fail
  rw [H1.out]
  go_wp2_with fail
  refine Calls.mono (CH.out _ HA.out.1) ?_
  rintro e W2 ⟨rfl, hb2⟩
  clear H1 CH m0 m1 m2 m3 m4 m5 m6 m7 m8 m9 m10 m11
  go_upto_region 3 with fail
  obtain ⟨W3, hW3⟩ : ∃ z, W2.alloc (.cells #[.bool hb] 4) = z := ⟨_, rfl⟩
  have hx2 : W2.heap[w.heap.size]? = some (.cells #[.int .i64 9, .int .i64 x1, .int .i64 x2, .int .i64 x3, .int .i64 x4, .int .i64 x5, .slice a6 n6 c6, .slice a7 n7 c7, .slice a8 n8 c8, .slice a9 n9 c9, .slice aA nA cA, .slice aB nB cB] 32 (0, 0)) := (hb2.block _ (Array.getElem?_eq_some_iff.1 HA.out.2).1).trans HA.out.2
  have hl2 := (Array.getElem?_eq_some_iff.1 hx2).1
  have FW3 : Hid (Ak.Fm w w.heap.size W2.heap.size #[.int .i64 9, .int .i64 x1, .int .i64 x2, .int .i64 x3, .int .i64 x4, .int .i64 x5, .slice a6 n6 c6, .slice a7 n7 c7, .slice a8 n8 c8, .slice a9 n9 c9, .slice aA nA cA, .slice aB nB cB] hb W3) := by
    have b3 : Below W2.heap.size W2 W3 := by rw [← hW3]; exact (Below.refl _ W2).alloc (Nat.le_refl _) _
    have b2 : Below w.heap.size w W2 := HA.out.1.trans (hb2.mono HA.out.1.size)
    exact ⟨(b3.block _ hl2).trans hx2, by rw [← hW3]; exact heap_alloc_new W2 _, by omega, Nat.le_refl _, b2.size, b2.trans (b3.mono b2.size)⟩
  rw [hW3]
  obtain ⟨rb, hrb⟩ : ∃ z, W2.heap.size = z := ⟨_, rfl⟩
  rw [hrb] at FW3 ⊢
  clear hW3 hx2 hl2 hb2 hrb HA
  have k0 : W3.cell? ⟨w.heap.size, 0, none⟩ = some (.int .i64 9) := by simp [World.cell?, FW3.out.box]
  have CN : Hid _ := Tryz.hasNode_any 9 W3
  go_wp2_with fail
  refine Calls.mono CN.out ?_
  rintro e W4 ⟨rfl, hw4⟩
  obtain rfl := hw4.symm
  clear CN
  have ehn : Ac.hasNodeB 9 = true := rfl
  rw [ehn]
  clear ehn
  cases hb with
  | false =>
    have HN : Hid (¬ Q) := fun h => by have := (HQ.out.1 h).1; cases this
    have kx : W3.cell? ⟨w.heap.size, 1, none⟩ = some (.int .i64 x1) := by simp [World.cell?, FW3.out.box]
    go_wp2_with fail
    refine Calls.mono (Tryz.atake_any w.heap.size 1 rb x1 24 false W3 kx (FW3.out.fx 1) FW3.out.cr FW3.out.fr FW3.out.ne) ?_
    rintro e W11 ⟨rfl, hw2⟩
    have eb : (false && (decide (0 ≤ x1) && decide (x1 < 24))) = false := rfl
    have FW11 : Hid (Ak.Fm w w.heap.size rb #[.int .i64 9, .int .i64 0, .int .i64 x2, .int .i64 x3, .int .i64 x4, .int .i64 x5, .slice a6 n6 c6, .slice a7 n7 c7, .slice a8 n8 c8, .slice a9 n9 c9, .slice aA nA cA, .slice aB nB cB] false W11) := by show Ak.Fm _ _ _ _ _ _; rw [hw2, eb]; exact (FW3.out.setR false).setX 1 (.int .i64 0)
    clear hw2 eb kx
    have kk : W11.cell? ⟨w.heap.size, 0, none⟩ = some (.int .i64 9) := by simp [World.cell?, FW11.out.box]
    have kr := FW11.out.cr
    have fr := FW11.out.fr
    go_upto_region 33 with fail
    obtain ⟨W12, hW12⟩ : ∃ z, W11.setCell ⟨rb, 0, none⟩ (.bool false) = z := ⟨_, rfl⟩
    rw [hW12]
    have FW12 : Hid (Ak.Fm w w.heap.size rb #[.int .i64 9, .int .i64 0, .int .i64 x2, .int .i64 x3, .int .i64 x4, .int .i64 x5, .slice a6 n6 c6, .slice a7 n7 c7, .slice a8 n8 c8, .slice a9 n9 c9, .slice aA nA cA, .slice aB nB cB] false W12) := by rw [← hW12]; exact FW11.out.setR false
    clear hW12 kr fr 
    have kz8 : W12.cell? ⟨w.heap.size, 8, none⟩ = some (.slice a8 n8 c8) := by simp [World.cell?, FW12.out.box]
    have fz8 := FW12.out.fx 8
    go_upto_region 46 with fail
    obtain ⟨W13, hW13⟩ : ∃ z, (W12.setCell ⟨w.heap.size, 8, none⟩ (.slice none 0 0)) = z := ⟨_, rfl⟩
    rw [hW13]
    have FW13 : Hid (Ak.Fm w w.heap.size rb #[.int .i64 9, .int .i64 0, .int .i64 x2, .int .i64 x3, .int .i64 x4, .int .i64 x5, .slice a6 n6 c6, .slice a7 n7 c7, .slice none 0 0, .slice a9 n9 c9, .slice aA nA cA, .slice aB nB cB] false W13) := by rw [← hW13]; exact (FW12.out.setX 8 (.slice none 0 0))
    clear hW13 kz8 fz8
    have kr := FW13.out.cr
    go_wp2
    go_ret
    exact ⟨Ak.Told.no HN.out, FW13.out.bel⟩
  | true =>
  by_cases q0 : 0 ≤ x1 ∧ x1 < 24
  · have Q0 : Hid (0 ≤ x1 ∧ x1 < 24) := q0
    have kx : W3.cell? ⟨w.heap.size, 1, none⟩ = some (.int .i64 x1) := by simp [World.cell?, FW3.out.box]
    go_wp2_with fail
    refine Calls.mono (Tryz.atake_any w.heap.size 1 rb x1 24 true W3 kx (FW3.out.fx 1) FW3.out.cr FW3.out.fr FW3.out.ne) ?_
    rintro e W14 ⟨rfl, hw2⟩
    have eb : (true && (decide (0 ≤ x1) && decide (x1 < 24))) = true := by rw [decide_eq_true q0.1, decide_eq_true q0.2]; rfl
    have FW14 : Hid (Ak.Fm w w.heap.size rb #[.int .i64 9, .int .i64 0, .int .i64 x2, .int .i64 x3, .int .i64 x4, .int .i64 x5, .slice a6 n6 c6, .slice a7 n7 c7, .slice a8 n8 c8, .slice a9 n9 c9, .slice aA nA cA, .slice aB nB cB] true W14) := by show Ak.Fm _ _ _ _ _ _; rw [hw2, eb]; exact (FW3.out.setR true).setX 1 (.int .i64 0)
    clear hw2 eb kx
    have kk : W14.cell? ⟨w.heap.size, 0, none⟩ = some (.int .i64 9) := by simp [World.cell?, FW14.out.box]
    by_cases q1 : 2 ≤ n8
    · have dq : decide ((2 : Int) ≤ n8) = true := decide_eq_true (by omega)
      have dq2 : (2 : Int) ≤ n8 := by omega
      have Q1 : Hid (2 ≤ n8) := q1
      have kr := FW14.out.cr
      have fr := FW14.out.fr
      have k8 : W14.cell? ⟨w.heap.size, 8, none⟩ = some (.slice a8 n8 c8) := by simp [World.cell?, FW14.out.box]
      go_upto_region 33 with fail
      obtain ⟨W15, hW15⟩ : ∃ z, W14.setCell ⟨rb, 0, none⟩ (.bool true) = z := ⟨_, rfl⟩
      rw [hW15]
      have FW15 : Hid (Ak.Fm w w.heap.size rb #[.int .i64 9, .int .i64 0, .int .i64 x2, .int .i64 x3, .int .i64 x4, .int .i64 x5, .slice a6 n6 c6, .slice a7 n7 c7, .slice a8 n8 c8, .slice a9 n9 c9, .slice aA nA cA, .slice aB nB cB] true W15) := by rw [← hW15]; exact FW14.out.setR true
      clear hW15 kr fr k8
      have kz8 : W15.cell? ⟨w.heap.size, 8, none⟩ = some (.slice a8 n8 c8) := by simp [World.cell?, FW15.out.box]
      have fz8 := FW15.out.fx 8
      go_upto_region 46 with fail
      obtain ⟨W16, hW16⟩ : ∃ z, (W15.setCell ⟨w.heap.size, 8, none⟩ (.slice none 0 0)) = z := ⟨_, rfl⟩
      rw [hW16]
      have FW16 : Hid (Ak.Fm w w.heap.size rb #[.int .i64 9, .int .i64 0, .int .i64 x2, .int .i64 x3, .int .i64 x4, .int .i64 x5, .slice a6 n6 c6, .slice a7 n7 c7, .slice none 0 0, .slice a9 n9 c9, .slice aA nA cA, .slice aB nB cB] true W16) := by rw [← hW16]; exact (FW15.out.setX 8 (.slice none 0 0))
      clear hW16 kz8 fz8
      have kr := FW16.out.cr
      have k0 : W16.cell? ⟨w.heap.size, 0, none⟩ = some (.int .i64 9) := by simp [World.cell?, FW16.out.box]
      have k1 : W16.cell? ⟨w.heap.size, 1, none⟩ = some (.int .i64 0) := by simp [World.cell?, FW16.out.box]
      have k2 : W16.cell? ⟨w.heap.size, 2, none⟩ = some (.int .i64 x2) := by simp [World.cell?, FW16.out.box]
      have k3 : W16.cell? ⟨w.heap.size, 3, none⟩ = some (.int .i64 x3) := by simp [World.cell?, FW16.out.box]
      have k4 : W16.cell? ⟨w.heap.size, 4, none⟩ = some (.int .i64 x4) := by simp [World.cell?, FW16.out.box]
      have k5 : W16.cell? ⟨w.heap.size, 5, none⟩ = some (.int .i64 x5) := by simp [World.cell?, FW16.out.box]
      have k6 : W16.cell? ⟨w.heap.size, 6, none⟩ = some (.slice a6 n6 c6) := by simp [World.cell?, FW16.out.box]
      have k7 : W16.cell? ⟨w.heap.size, 7, none⟩ = some (.slice a7 n7 c7) := by simp [World.cell?, FW16.out.box]
      have k8 : W16.cell? ⟨w.heap.size, 8, none⟩ = some (.slice none 0 0) := by simp [World.cell?, FW16.out.box]
      have k9 : W16.cell? ⟨w.heap.size, 9, none⟩ = some (.slice a9 n9 c9) := by simp [World.cell?, FW16.out.box]
      have k10 : W16.cell? ⟨w.heap.size, 10, none⟩ = some (.slice aA nA cA) := by simp [World.cell?, FW16.out.box]
      have k11 : W16.cell? ⟨w.heap.size, 11, none⟩ = some (.slice aB nB cB) := by simp [World.cell?, FW16.out.box]
      go_wp2_with fail
      clear kr k0 k1 k2 k3 k4 k5 k6 k7 k8 k9 k10 k11
      refine Calls.mono (CA.out _ FW16.out.bel) ?_
      rintro e W17 ⟨⟨r, rfl, hr⟩, hbe⟩
      have FW17 : Hid (Ak.Fm w w.heap.size rb #[.int .i64 9, .int .i64 0, .int .i64 x2, .int .i64 x3, .int .i64 x4, .int .i64 x5, .slice a6 n6 c6, .slice a7 n7 c7, .slice none 0 0, .slice a9 n9 c9, .slice aA nA cA, .slice aB nB cB] true W17 ∧ (r = true ↔ P)) := ⟨FW16.out.below hbe, hr⟩
      clear hbe hr
      cases r with
      | false =>
        have HN : Hid (¬ Q) := fun h => by have := FW17.out.2.2 (HQ.out.1 h).2.2.2.1; simp at this
        go_wp2
        go_ret
        exact ⟨Ak.Told.no HN.out, FW17.out.1.bel⟩
      | true =>
      have HP : Hid P := FW17.out.2.1 (by first | rfl | trivial)
      have k8 : W17.cell? ⟨w.heap.size, 8, none⟩ = some (.slice none 0 0) := by simp [World.cell?, FW17.out.1.box]
      go_wp2
      go_ret
      exact ⟨Ak.Told.yes (HQ.out.2 ⟨(by first | rfl | trivial), Q0.out, Q1.out, HP.out, trivial⟩), FW17.out.1.bel⟩
    · have dq : decide ((2 : Int) ≤ n8) = false := decide_eq_false (by omega)
      have dq2 : ¬ (2 : Int) ≤ n8 := by omega
      have HN : Hid (¬ Q) := fun h => q1 (HQ.out.1 h).2.2.1
      have kr := FW14.out.cr
      have fr := FW14.out.fr
      have k8 : W14.cell? ⟨w.heap.size, 8, none⟩ = some (.slice a8 n8 c8) := by simp [World.cell?, FW14.out.box]
      go_upto_region 33 with fail
      obtain ⟨W18, hW18⟩ : ∃ z, W14.setCell ⟨rb, 0, none⟩ (.bool false) = z := ⟨_, rfl⟩
      rw [hW18]
      have FW18 : Hid (Ak.Fm w w.heap.size rb #[.int .i64 9, .int .i64 0, .int .i64 x2, .int .i64 x3, .int .i64 x4, .int .i64 x5, .slice a6 n6 c6, .slice a7 n7 c7, .slice a8 n8 c8, .slice a9 n9 c9, .slice aA nA cA, .slice aB nB cB] false W18) := by rw [← hW18]; exact FW14.out.setR false
      clear hW18 kr fr k8
      have kz8 : W18.cell? ⟨w.heap.size, 8, none⟩ = some (.slice a8 n8 c8) := by simp [World.cell?, FW18.out.box]
      have fz8 := FW18.out.fx 8
      go_upto_region 46 with fail
      obtain ⟨W19, hW19⟩ : ∃ z, (W18.setCell ⟨w.heap.size, 8, none⟩ (.slice none 0 0)) = z := ⟨_, rfl⟩
      rw [hW19]
      have FW19 : Hid (Ak.Fm w w.heap.size rb #[.int .i64 9, .int .i64 0, .int .i64 x2, .int .i64 x3, .int .i64 x4, .int .i64 x5, .slice a6 n6 c6, .slice a7 n7 c7, .slice none 0 0, .slice a9 n9 c9, .slice aA nA cA, .slice aB nB cB] false W19) := by rw [← hW19]; exact (FW18.out.setX 8 (.slice none 0 0))
      clear hW19 kz8 fz8
      have kr := FW19.out.cr
      go_wp2
      go_ret
      exact ⟨Ak.Told.no HN.out, FW19.out.bel⟩
  · have HN : Hid (¬ Q) := fun h => q0 (HQ.out.1 h).2.1
    have kx : W3.cell? ⟨w.heap.size, 1, none⟩ = some (.int .i64 x1) := by simp [World.cell?, FW3.out.box]
    go_wp2_with fail
    refine Calls.mono (Tryz.atake_any w.heap.size 1 rb x1 24 true W3 kx (FW3.out.fx 1) FW3.out.cr FW3.out.fr FW3.out.ne) ?_
    rintro e W20 ⟨rfl, hw2⟩
    have eb : (true && (decide (0 ≤ x1) && decide (x1 < 24))) = false := by rw [Bool.true_and, Bool.and_eq_false_iff]; simp only [decide_eq_false_iff_not]; omega
    have FW20 : Hid (Ak.Fm w w.heap.size rb #[.int .i64 9, .int .i64 0, .int .i64 x2, .int .i64 x3, .int .i64 x4, .int .i64 x5, .slice a6 n6 c6, .slice a7 n7 c7, .slice a8 n8 c8, .slice a9 n9 c9, .slice aA nA cA, .slice aB nB cB] false W20) := by show Ak.Fm _ _ _ _ _ _; rw [hw2, eb]; exact (FW3.out.setR false).setX 1 (.int .i64 0)
    clear hw2 eb kx
    have kk : W20.cell? ⟨w.heap.size, 0, none⟩ = some (.int .i64 9) := by simp [World.cell?, FW20.out.box]
    have kr := FW20.out.cr
    have fr := FW20.out.fr
    go_upto_region 33 with fail
    obtain ⟨W21, hW21⟩ : ∃ z, W20.setCell ⟨rb, 0, none⟩ (.bool false) = z := ⟨_, rfl⟩
    rw [hW21]
    have FW21 : Hid (Ak.Fm w w.heap.size rb #[.int .i64 9, .int .i64 0, .int .i64 x2, .int .i64 x3, .int .i64 x4, .int .i64 x5, .slice a6 n6 c6, .slice a7 n7 c7, .slice a8 n8 c8, .slice a9 n9 c9, .slice aA nA cA, .slice aB nB cB] false W21) := by rw [← hW21]; exact FW20.out.setR false
    clear hW21 kr fr 
    have kz8 : W21.cell? ⟨w.heap.size, 8, none⟩ = some (.slice a8 n8 c8) := by simp [World.cell?, FW21.out.box]
    have fz8 := FW21.out.fx 8
    go_upto_region 46 with fail
    obtain ⟨W22, hW22⟩ : ∃ z, (W21.setCell ⟨w.heap.size, 8, none⟩ (.slice none 0 0)) = z := ⟨_, rfl⟩
    rw [hW22]
    have FW22 : Hid (Ak.Fm w w.heap.size rb #[.int .i64 9, .int .i64 0, .int .i64 x2, .int .i64 x3, .int .i64 x4, .int .i64 x5, .slice a6 n6 c6, .slice a7 n7 c7, .slice none 0 0, .slice a9 n9 c9, .slice aA nA cA, .slice aB nB cB] false W22) := by rw [← hW22]; exact (FW21.out.setX 8 (.slice none 0 0))
    clear hW22 kz8 fz8
    have kr := FW22.out.cr
    go_wp2
    go_ret
    exact ⟨Ak.Told.no HN.out, FW22.out.bel⟩
end Go.Proofs
