import Derived.Test.YtmomffminkflnaaGreatDoorRAllNtOne
namespace Go.Proofs
open Go.RowKit Go.Shelf
set_option maxRecDepth 20000 in
set_option maxHeartbeats 16000000 in
theorem Tryz.fm_11 (x1 x2 x3 x4 x5 : Int) (a6 a7 a8 a9 aA aB : Option Addr) (n6 c6 n7 c7 n8 c8 n9 c9 nA cA nB cB : Nat) (w : World) (hb : Bool) (P : Prop) (ob : Bool) (_hn7 : n7 ≤ 1000) (hn8 : n8 ≤ 1000) (CH0 : ∀ W, Below w.heap.size w W → Calls Tryz.prog 58 #[.agg #[.int .i64 11, .int .i64 x1, .int .i64 x2, .int .i64 x3, .int .i64 x4, .int .i64 x5, .slice a6 n6 c6, .slice a7 n7 c7, .slice a8 n8 c8, .slice a9 n9 c9, .slice aA nA cA, .slice aB nB cB]] W fun e w' => e = .returned (.bool hb) ∧ Below W.heap.size W w') (CA0 : ∀ W, Below w.heap.size w W → Calls Tryz.prog 65 #[.agg #[.int .i64 11, .int .i64 0, .int .i64 0, .int .i64 0, .int .i64 x4, .int .i64 x5, .slice a6 n6 c6, .slice none 0 0, .slice none 0 0, .slice a9 n9 c9, .slice aA nA cA, .slice aB nB cB], .agg #[.int .i64 11, .int .i64 0, .int .i64 0, .int .i64 0, .int .i64 0, .int .i64 0, .slice none 0 0, .slice none 0 0, .slice none 0 0, .slice none 0 0, .slice none 0 0, .slice none 0 0]] W fun e w' => Ak.Told P e ∧ Below W.heap.size W w') (CC0 : ∀ W, Below w.heap.size w W → Calls Tryz.prog 62 #[.slice a7 n7 c7, .int .i64 x2] W fun e w' => e = .returned (.bool ob) ∧ Below W.heap.size W w') :
    Calls Tryz.prog 48 #[.agg #[.int .i64 11, .int .i64 x1, .int .i64 x2, .int .i64 x3, .int .i64 x4, .int .i64 x5, .slice a6 n6 c6, .slice a7 n7 c7, .slice a8 n8 c8, .slice a9 n9 c9, .slice aA nA cA, .slice aB nB cB]] w fun e w' => Ak.Told (hb = true ∧ (0 ≤ x1 ∧ x1 < 24) ∧ n8 = 2 ∧ (0 ≤ x3 ∧ x3 < (n7 : Int)) ∧ n7 = n8 ∧ ob = true ∧ (0 ≤ x2 ∧ x2 < (n7 : Int)) ∧ 2 ≤ n8 ∧ P ∧ True) e ∧ Below w.heap.size w w' := by
  obtain ⟨Q, hQ⟩ : ∃ Q : Prop, (hb = true ∧ (0 ≤ x1 ∧ x1 < 24) ∧ n8 = 2 ∧ (0 ≤ x3 ∧ x3 < (n7 : Int)) ∧ n7 = n8 ∧ ob = true ∧ (0 ≤ x2 ∧ x2 < (n7 : Int)) ∧ 2 ≤ n8 ∧ P ∧ True) = Q := ⟨_, rfl⟩
  rw [hQ]
  have HQ : Hid (Q ↔ hb = true ∧ (0 ≤ x1 ∧ x1 < 24) ∧ n8 = 2 ∧ (0 ≤ x3 ∧ x3 < (n7 : Int)) ∧ n7 = n8 ∧ ob = true ∧ (0 ≤ x2 ∧ x2 < (n7 : Int)) ∧ 2 ≤ n8 ∧ P ∧ True) := by rw [← hQ]; exact Iff.rfl
  have CH : Hid _ := CH0
  have CA : Hid _ := CA0
  have CC : Hid _ := CC0
  clear CC0
  obtain ⟨w1, hw1⟩ : ∃ x, w.alloc (.cells #[.int .i64 11, .int .i64 x1, .int .i64 x2, .int .i64 x3, .int .i64 x4, .int .i64 x5, .slice a6 n6 c6, .slice a7 n7 c7, .slice a8 n8 c8, .slice a9 n9 c9, .slice aA nA cA, .slice aB nB cB] 32) = x := ⟨_, rfl⟩
  have A1 : Below w.heap.size w w1 := by rw [← hw1]; exact (Below.refl _ w).alloc (Nat.le_refl _) _
  have G1 : w1.heap[w.heap.size]? = some (.cells #[.int .i64 11, .int .i64 x1, .int .i64 x2, .int .i64 x3, .int .i64 x4, .int .i64 x5, .slice a6 n6 c6, .slice a7 n7 c7, .slice a8 n8 c8, .slice a9 n9 c9, .slice aA nA cA, .slice aB nB cB] 32 (0, 0)) := by rw [← hw1]; exact heap_alloc_new w _
  have ca : w1.cell? ⟨w.heap.size, 0, none⟩ = some (.int .i64 11) ∧ w1.cell? ⟨w.heap.size, 1, none⟩ = some (.int .i64 x1) ∧ w1.cell? ⟨w.heap.size, 2, none⟩ = some (.int .i64 x2) ∧ w1.cell? ⟨w.heap.size, 3, none⟩ = some (.int .i64 x3) ∧ w1.cell? ⟨w.heap.size, 4, none⟩ = some (.int .i64 x4) ∧ w1.cell? ⟨w.heap.size, 5, none⟩ = some (.int .i64 x5) ∧ w1.cell? ⟨w.heap.size, 6, none⟩ = some (.slice a6 n6 c6) ∧ w1.cell? ⟨w.heap.size, 7, none⟩ = some (.slice a7 n7 c7) ∧ w1.cell? ⟨w.heap.size, 8, none⟩ = some (.slice a8 n8 c8) ∧ w1.cell? ⟨w.heap.size, 9, none⟩ = some (.slice a9 n9 c9) ∧ w1.cell? ⟨w.heap.size, 10, none⟩ = some (.slice aA nA cA) ∧ w1.cell? ⟨w.heap.size, 11, none⟩ = some (.slice aB nB cB) := by simp [World.cell?, G1]
  obtain ⟨m0, m1, m2, m3, m4, m5, m6, m7, m8, m9, m10, m11⟩ := ca
  have H1 : Hid (w.alloc (.cells #[.int .i64 11, .int .i64 x1, .int .i64 x2, .int .i64 x3, .int .i64 x4, .int .i64 x5, .slice a6 n6 c6, .slice a7 n7 c7, .slice a8 n8 c8, .slice a9 n9 c9, .slice aA nA cA, .slice aB nB cB] 32) = w1) := hw1
  have HA : Hid (Below w.heap.size w w1 ∧ w1.heap[w.heap.size]? = some (.cells #[.int .i64 11, .int .i64 x1, .int .i64 x2, .int .i64 x3, .int .i64 x4, .int .i64 x5, .slice a6 n6 c6, .slice a7 n7 c7, .slice a8 n8 c8, .slice a9 n9 c9, .slice aA nA cA, .slice aB nB cB] 32 (0, 0))) := ⟨A1, G1⟩
  clear hw1 A1 G1 CH0 CA0 hQ
  go_enter Tryz.func48, Tryz.ntmps48
  go_upto_region 1 with fail
  rw [H1.out]
  go_wp2_with fail
  refine Calls.mono (CH.out _ HA.out.1) ?_
  rintro e W2 ⟨rfl, hb2⟩
  clear H1 CH m0 m1 m2 m3 m4 m5 m6 m7 m8 m9 m10 m11
  go_upto_region 3 with fail
  obtain ⟨W3, hW3⟩ : ∃ z, W2.alloc (.cells #[.bool hb] 4) = z := ⟨_, rfl⟩
  have hx2 : W2.heap[w.heap.size]? = some (.cells #[.int .i64 11, .int .i64 x1, .int .i64 x2, .int .i64 x3, .int .i64 x4, .int .i64 x5, .slice a6 n6 c6, .slice a7 n7 c7, .slice a8 n8 c8, .slice a9 n9 c9, .slice aA nA cA, .slice aB nB cB] 32 (0, 0)) := (hb2.block _ (Array.getElem?_eq_some_iff.1 HA.out.2).1).trans HA.out.2
  have hl2 := (Array.getElem?_eq_some_iff.1 hx2).1
  have FW3 : Hid (Ak.Fm w w.heap.size W2.heap.size #[.int .i64 11, .int .i64 x1, .int .i64 x2, .int .i64 x3, .int .i64 x4, .int .i64 x5, .slice a6 n6 c6, .slice a7 n7 c7, .slice a8 n8 c8, .slice a9 n9 c9, .slice aA nA cA, .slice aB nB cB] hb W3) := by
    have b3 : Below W2.heap.size W2 W3 := by rw [← hW3]; exact (Below.refl _ W2).alloc (Nat.le_refl _) _
    have b2 : Below w.heap.size w W2 := HA.out.1.trans (hb2.mono HA.out.1.size)
    exact ⟨(b3.block _ hl2).trans hx2, by rw [← hW3]; exact heap_alloc_new W2 _, by omega, Nat.le_refl _, b2.size, b2.trans (b3.mono b2.size)⟩
  rw [hW3]
  obtain ⟨rb, hrb⟩ : ∃ z, W2.heap.size = z := ⟨_, rfl⟩
  rw [hrb] at FW3 ⊢
  clear hW3 hx2 hl2 hb2 hrb HA
  have k0 : W3.cell? ⟨w.heap.size, 0, none⟩ = some (.int .i64 11) := by simp [World.cell?, FW3.out.box]
  have CN : Hid _ := Tryz.hasNode_any 11 W3
  go_wp2_with fail
  refine Calls.mono CN.out ?_
  rintro e W4 ⟨rfl, hw4⟩
  obtain rfl := hw4.symm
  clear CN
  have ehn : Ac.hasNodeB 11 = true := rfl
  rw [ehn]
  clear ehn
  cases hb with
  | false =>
    have HN : Hid (¬ Q) := fun h => by have := (HQ.out.1 h).1; cases this
    have kx : W3.cell? ⟨w.heap.size, 1, none⟩ = some (.int .i64 x1) := by simp [World.cell?, FW3.out.box]
    go_wp2_with fail
    refine Calls.mono (Tryz.atake_any w.heap.size 1 rb x1 24 false W3 kx (FW3.out.fx 1) FW3.out.cr FW3.out.fr FW3.out.ne) ?_
    rintro e W11 ⟨rfl, hw2⟩
    have eb : (false && (decide (0 ≤ x1) && decide (x1 < 24))) = false := rfl
    have FW11 : Hid (Ak.Fm w w.heap.size rb #[.int .i64 11, .int .i64 0, .int .i64 x2, .int .i64 x3, .int .i64 x4, .int .i64 x5, .slice a6 n6 c6, .slice a7 n7 c7, .slice a8 n8 c8, .slice a9 n9 c9, .slice aA nA cA, .slice aB nB cB] false W11) := by show Ak.Fm _ _ _ _ _ _; rw [hw2, eb]; exact (FW3.out.setR false).setX 1 (.int .i64 0)
    clear hw2 eb kx
    have kk : W11.cell? ⟨w.heap.size, 0, none⟩ = some (.int .i64 11) := by simp [World.cell?, FW11.out.box]
    have kr := FW11.out.cr
    have fr := FW11.out.fr
    go_upto_region 28 with fail
    obtain ⟨W12, hW12⟩ : ∃ z, W11.setCell ⟨rb, 0, none⟩ (.bool false) = z := ⟨_, rfl⟩
    rw [hW12]
    have FW12 : Hid (Ak.Fm w w.heap.size rb #[.int .i64 11, .int .i64 0, .int .i64 x2, .int .i64 x3, .int .i64 x4, .int .i64 x5, .slice a6 n6 c6, .slice a7 n7 c7, .slice a8 n8 c8, .slice a9 n9 c9, .slice aA nA cA, .slice aB nB cB] false W12) := by rw [← hW12]; exact FW11.out.setR false
    clear hW12 kr fr 
    have kx : W12.cell? ⟨w.heap.size, 3, none⟩ = some (.int .i64 x3) := by simp [World.cell?, FW12.out.box]
    have k7 : W12.cell? ⟨w.heap.size, 7, none⟩ = some (.slice a7 n7 c7) := by simp [World.cell?, FW12.out.box]
    go_wp2_with fail
    refine Calls.mono (Tryz.atake_any w.heap.size 3 rb x3 (n7 : Int) false W12 kx (FW12.out.fx 3) FW12.out.cr FW12.out.fr FW12.out.ne) ?_
    rintro e W13 ⟨rfl, hw2⟩
    have eb : (false && (decide (0 ≤ x3) && decide (x3 < (n7 : Int)))) = false := rfl
    have FW13 : Hid (Ak.Fm w w.heap.size rb #[.int .i64 11, .int .i64 0, .int .i64 x2, .int .i64 0, .int .i64 x4, .int .i64 x5, .slice a6 n6 c6, .slice a7 n7 c7, .slice a8 n8 c8, .slice a9 n9 c9, .slice aA nA cA, .slice aB nB cB] false W13) := by show Ak.Fm _ _ _ _ _ _; rw [hw2, eb]; exact (FW12.out.setR false).setX 3 (.int .i64 0)
    clear hw2 eb kx k7
    have kr := FW13.out.cr
    have fr := FW13.out.fr
    go_upto_region 30 with fail
    obtain ⟨W14, hW14⟩ : ∃ z, W13.setCell ⟨rb, 0, none⟩ (.bool false) = z := ⟨_, rfl⟩
    rw [hW14]
    have FW14 : Hid (Ak.Fm w w.heap.size rb #[.int .i64 11, .int .i64 0, .int .i64 x2, .int .i64 0, .int .i64 x4, .int .i64 x5, .slice a6 n6 c6, .slice a7 n7 c7, .slice a8 n8 c8, .slice a9 n9 c9, .slice aA nA cA, .slice aB nB cB] false W14) := by rw [← hW14]; exact FW13.out.setR false
    clear hW14 kr fr 
    have kx : W14.cell? ⟨w.heap.size, 2, none⟩ = some (.int .i64 x2) := by simp [World.cell?, FW14.out.box]
    have k7 : W14.cell? ⟨w.heap.size, 7, none⟩ = some (.slice a7 n7 c7) := by simp [World.cell?, FW14.out.box]
    go_wp2_with fail
    refine Calls.mono (Tryz.atake_any w.heap.size 2 rb x2 (n7 : Int) false W14 kx (FW14.out.fx 2) FW14.out.cr FW14.out.fr FW14.out.ne) ?_
    rintro e W15 ⟨rfl, hw2⟩
    have eb : (false && (decide (0 ≤ x2) && decide (x2 < (n7 : Int)))) = false := rfl
    have FW15 : Hid (Ak.Fm w w.heap.size rb #[.int .i64 11, .int .i64 0, .int .i64 0, .int .i64 0, .int .i64 x4, .int .i64 x5, .slice a6 n6 c6, .slice a7 n7 c7, .slice a8 n8 c8, .slice a9 n9 c9, .slice aA nA cA, .slice aB nB cB] false W15) := by show Ak.Fm _ _ _ _ _ _; rw [hw2, eb]; exact (FW14.out.setR false).setX 2 (.int .i64 0)
    clear hw2 eb kx k7
    have kz7 : W15.cell? ⟨w.heap.size, 7, none⟩ = some (.slice a7 n7 c7) := by simp [World.cell?, FW15.out.box]
    have fz7 := FW15.out.fx 7
    go_upto_region 32 with fail
    obtain ⟨W16, hW16⟩ : ∃ z, (W15.setCell ⟨w.heap.size, 7, none⟩ (.slice none 0 0)) = z := ⟨_, rfl⟩
    rw [hW16]
    have FW16 : Hid (Ak.Fm w w.heap.size rb #[.int .i64 11, .int .i64 0, .int .i64 0, .int .i64 0, .int .i64 x4, .int .i64 x5, .slice a6 n6 c6, .slice none 0 0, .slice a8 n8 c8, .slice a9 n9 c9, .slice aA nA cA, .slice aB nB cB] false W16) := by rw [← hW16]; exact (FW15.out.setX 7 (.slice none 0 0))
    clear hW16 kz7 fz7
    have kr := FW16.out.cr
    have fr := FW16.out.fr
    go_upto_region 33 with fail
    obtain ⟨W17, hW17⟩ : ∃ z, W16.setCell ⟨rb, 0, none⟩ (.bool false) = z := ⟨_, rfl⟩
    rw [hW17]
    have FW17 : Hid (Ak.Fm w w.heap.size rb #[.int .i64 11, .int .i64 0, .int .i64 0, .int .i64 0, .int .i64 x4, .int .i64 x5, .slice a6 n6 c6, .slice none 0 0, .slice a8 n8 c8, .slice a9 n9 c9, .slice aA nA cA, .slice aB nB cB] false W17) := by rw [← hW17]; exact FW16.out.setR false
    clear hW17 kr fr 
    have kz8 : W17.cell? ⟨w.heap.size, 8, none⟩ = some (.slice a8 n8 c8) := by simp [World.cell?, FW17.out.box]
    have fz8 := FW17.out.fx 8
    go_upto_region 46 with fail
    obtain ⟨W18, hW18⟩ : ∃ z, (W17.setCell ⟨w.heap.size, 8, none⟩ (.slice none 0 0)) = z := ⟨_, rfl⟩
    rw [hW18]
    have FW18 : Hid (Ak.Fm w w.heap.size rb #[.int .i64 11, .int .i64 0, .int .i64 0, .int .i64 0, .int .i64 x4, .int .i64 x5, .slice a6 n6 c6, .slice none 0 0, .slice none 0 0, .slice a9 n9 c9, .slice aA nA cA, .slice aB nB cB] false W18) := by rw [← hW18]; exact (FW17.out.setX 8 (.slice none 0 0))
    clear hW18 kz8 fz8
    have kr := FW18.out.cr
    go_wp2
    go_ret
    exact ⟨Ak.Told.no HN.out, FW18.out.bel⟩
  | true =>
  by_cases q0 : 0 ≤ x1 ∧ x1 < 24
  · have Q0 : Hid (0 ≤ x1 ∧ x1 < 24) := q0
    have kx : W3.cell? ⟨w.heap.size, 1, none⟩ = some (.int .i64 x1) := by simp [World.cell?, FW3.out.box]
    go_wp2_with fail
    refine Calls.mono (Tryz.atake_any w.heap.size 1 rb x1 24 true W3 kx (FW3.out.fx 1) FW3.out.cr FW3.out.fr FW3.out.ne) ?_
    rintro e W19 ⟨rfl, hw2⟩
    have eb : (true && (decide (0 ≤ x1) && decide (x1 < 24))) = true := by rw [decide_eq_true q0.1, decide_eq_true q0.2]; rfl
    have FW19 : Hid (Ak.Fm w w.heap.size rb #[.int .i64 11, .int .i64 0, .int .i64 x2, .int .i64 x3, .int .i64 x4, .int .i64 x5, .slice a6 n6 c6, .slice a7 n7 c7, .slice a8 n8 c8, .slice a9 n9 c9, .slice aA nA cA, .slice aB nB cB] true W19) := by show Ak.Fm _ _ _ _ _ _; rw [hw2, eb]; exact (FW3.out.setR true).setX 1 (.int .i64 0)
    clear hw2 eb kx
    have kk : W19.cell? ⟨w.heap.size, 0, none⟩ = some (.int .i64 11) := by simp [World.cell?, FW19.out.box]
    by_cases q1 : n8 = 2
    · have dq : ((n8 : Int) == 2) = true := by simp; omega
      have Q1 : Hid (n8 = 2) := q1
      clear q1
      have kr := FW19.out.cr
      have fr := FW19.out.fr
      have k8 : W19.cell? ⟨w.heap.size, 8, none⟩ = some (.slice a8 n8 c8) := by simp [World.cell?, FW19.out.box]
      go_upto_region 28 with fail
      obtain ⟨W20, hW20⟩ : ∃ z, W19.setCell ⟨rb, 0, none⟩ (.bool true) = z := ⟨_, rfl⟩
      rw [hW20]
      have FW20 : Hid (Ak.Fm w w.heap.size rb #[.int .i64 11, .int .i64 0, .int .i64 x2, .int .i64 x3, .int .i64 x4, .int .i64 x5, .slice a6 n6 c6, .slice a7 n7 c7, .slice a8 n8 c8, .slice a9 n9 c9, .slice aA nA cA, .slice aB nB cB] true W20) := by rw [← hW20]; exact FW19.out.setR true
      clear hW20 kr fr k8
      by_cases q2 : 0 ≤ x3 ∧ x3 < (n7 : Int)
      · have Q2 : Hid (0 ≤ x3 ∧ x3 < (n7 : Int)) := q2
        have kx : W20.cell? ⟨w.heap.size, 3, none⟩ = some (.int .i64 x3) := by simp [World.cell?, FW20.out.box]
        have k7 : W20.cell? ⟨w.heap.size, 7, none⟩ = some (.slice a7 n7 c7) := by simp [World.cell?, FW20.out.box]
        go_wp2_with fail
        refine Calls.mono (Tryz.atake_any w.heap.size 3 rb x3 (n7 : Int) true W20 kx (FW20.out.fx 3) FW20.out.cr FW20.out.fr FW20.out.ne) ?_
        rintro e W21 ⟨rfl, hw2⟩
        have eb : (true && (decide (0 ≤ x3) && decide (x3 < (n7 : Int)))) = true := by rw [decide_eq_true q2.1, decide_eq_true q2.2]; rfl
        have FW21 : Hid (Ak.Fm w w.heap.size rb #[.int .i64 11, .int .i64 0, .int .i64 x2, .int .i64 0, .int .i64 x4, .int .i64 x5, .slice a6 n6 c6, .slice a7 n7 c7, .slice a8 n8 c8, .slice a9 n9 c9, .slice aA nA cA, .slice aB nB cB] true W21) := by show Ak.Fm _ _ _ _ _ _; rw [hw2, eb]; exact (FW20.out.setR true).setX 3 (.int .i64 0)
        clear hw2 eb kx k7
        by_cases q3 : ¬ n7 = n8
        · have dq : ((n7 : Int) == (n8 : Int)) = false := by simp; omega
          have HN : Hid (¬ Q) := fun h => q3 (HQ.out.1 h).2.2.2.2.1
          clear q3
          have kr := FW21.out.cr
          have fr := FW21.out.fr
          have k7 : W21.cell? ⟨w.heap.size, 7, none⟩ = some (.slice a7 n7 c7) := by simp [World.cell?, FW21.out.box]
          have k8 : W21.cell? ⟨w.heap.size, 8, none⟩ = some (.slice a8 n8 c8) := by simp [World.cell?, FW21.out.box]
          go_upto_region 30 with fail
          obtain ⟨W22, hW22⟩ : ∃ z, W21.setCell ⟨rb, 0, none⟩ (.bool false) = z := ⟨_, rfl⟩
          rw [hW22]
          have FW22 : Hid (Ak.Fm w w.heap.size rb #[.int .i64 11, .int .i64 0, .int .i64 x2, .int .i64 0, .int .i64 x4, .int .i64 x5, .slice a6 n6 c6, .slice a7 n7 c7, .slice a8 n8 c8, .slice a9 n9 c9, .slice aA nA cA, .slice aB nB cB] false W22) := by rw [← hW22]; exact FW21.out.setR false
          clear hW22 kr fr k7 k8
          have kx : W22.cell? ⟨w.heap.size, 2, none⟩ = some (.int .i64 x2) := by simp [World.cell?, FW22.out.box]
          have k7 : W22.cell? ⟨w.heap.size, 7, none⟩ = some (.slice a7 n7 c7) := by simp [World.cell?, FW22.out.box]
          go_wp2_with fail
          refine Calls.mono (Tryz.atake_any w.heap.size 2 rb x2 (n7 : Int) false W22 kx (FW22.out.fx 2) FW22.out.cr FW22.out.fr FW22.out.ne) ?_
          rintro e W23 ⟨rfl, hw2⟩
          have eb : (false && (decide (0 ≤ x2) && decide (x2 < (n7 : Int)))) = false := rfl
          have FW23 : Hid (Ak.Fm w w.heap.size rb #[.int .i64 11, .int .i64 0, .int .i64 0, .int .i64 0, .int .i64 x4, .int .i64 x5, .slice a6 n6 c6, .slice a7 n7 c7, .slice a8 n8 c8, .slice a9 n9 c9, .slice aA nA cA, .slice aB nB cB] false W23) := by show Ak.Fm _ _ _ _ _ _; rw [hw2, eb]; exact (FW22.out.setR false).setX 2 (.int .i64 0)
          clear hw2 eb kx k7
          have kz7 : W23.cell? ⟨w.heap.size, 7, none⟩ = some (.slice a7 n7 c7) := by simp [World.cell?, FW23.out.box]
          have fz7 := FW23.out.fx 7
          go_upto_region 32 with fail
          obtain ⟨W24, hW24⟩ : ∃ z, (W23.setCell ⟨w.heap.size, 7, none⟩ (.slice none 0 0)) = z := ⟨_, rfl⟩
          rw [hW24]
          have FW24 : Hid (Ak.Fm w w.heap.size rb #[.int .i64 11, .int .i64 0, .int .i64 0, .int .i64 0, .int .i64 x4, .int .i64 x5, .slice a6 n6 c6, .slice none 0 0, .slice a8 n8 c8, .slice a9 n9 c9, .slice aA nA cA, .slice aB nB cB] false W24) := by rw [← hW24]; exact (FW23.out.setX 7 (.slice none 0 0))
          clear hW24 kz7 fz7
          have kr := FW24.out.cr
          have fr := FW24.out.fr
          go_upto_region 33 with fail
          obtain ⟨W25, hW25⟩ : ∃ z, W24.setCell ⟨rb, 0, none⟩ (.bool false) = z := ⟨_, rfl⟩
          rw [hW25]
          have FW25 : Hid (Ak.Fm w w.heap.size rb #[.int .i64 11, .int .i64 0, .int .i64 0, .int .i64 0, .int .i64 x4, .int .i64 x5, .slice a6 n6 c6, .slice none 0 0, .slice a8 n8 c8, .slice a9 n9 c9, .slice aA nA cA, .slice aB nB cB] false W25) := by rw [← hW25]; exact FW24.out.setR false
          clear hW25 kr fr 
          have kz8 : W25.cell? ⟨w.heap.size, 8, none⟩ = some (.slice a8 n8 c8) := by simp [World.cell?, FW25.out.box]
          have fz8 := FW25.out.fx 8
          go_upto_region 46 with fail
          obtain ⟨W26, hW26⟩ : ∃ z, (W25.setCell ⟨w.heap.size, 8, none⟩ (.slice none 0 0)) = z := ⟨_, rfl⟩
          rw [hW26]
          have FW26 : Hid (Ak.Fm w w.heap.size rb #[.int .i64 11, .int .i64 0, .int .i64 0, .int .i64 0, .int .i64 x4, .int .i64 x5, .slice a6 n6 c6, .slice none 0 0, .slice none 0 0, .slice a9 n9 c9, .slice aA nA cA, .slice aB nB cB] false W26) := by rw [← hW26]; exact (FW25.out.setX 8 (.slice none 0 0))
          clear hW26 kz8 fz8
          have kr := FW26.out.cr
          go_wp2
          go_ret
          exact ⟨Ak.Told.no HN.out, FW26.out.bel⟩
        replace q3 := Decidable.not_not.1 q3
        have Q3 : Hid (n7 = n8) := q3
        have dq : ((n7 : Int) == (n8 : Int)) = true := by simp; omega
        clear q3
        cases ob with
        | false =>
          have HN : Hid (¬ Q) := fun h => by have := (HQ.out.1 h).2.2.2.2.2.1; cases this
          have kr := FW21.out.cr
          have k2 : W21.cell? ⟨w.heap.size, 2, none⟩ = some (.int .i64 x2) := by simp [World.cell?, FW21.out.box]
          have k7 : W21.cell? ⟨w.heap.size, 7, none⟩ = some (.slice a7 n7 c7) := by simp [World.cell?, FW21.out.box]
          have k8 : W21.cell? ⟨w.heap.size, 8, none⟩ = some (.slice a8 n8 c8) := by simp [World.cell?, FW21.out.box]
          go_wp2_with fail
          refine Calls.mono (CC.out _ FW21.out.bel) ?_
          rintro e W27 ⟨rfl, hbe⟩
          have FW27 : Hid (Ak.Fm w w.heap.size rb #[.int .i64 11, .int .i64 0, .int .i64 x2, .int .i64 0, .int .i64 x4, .int .i64 x5, .slice a6 n6 c6, .slice a7 n7 c7, .slice a8 n8 c8, .slice a9 n9 c9, .slice aA nA cA, .slice aB nB cB] true W27) := FW21.out.below hbe
          clear hbe kr k2 k7 k8
          have kr := FW27.out.cr
          have fr := FW27.out.fr
          go_upto_region 30 with fail
          obtain ⟨W28, hW28⟩ : ∃ z, W27.setCell ⟨rb, 0, none⟩ (.bool false) = z := ⟨_, rfl⟩
          rw [hW28]
          have FW28 : Hid (Ak.Fm w w.heap.size rb #[.int .i64 11, .int .i64 0, .int .i64 x2, .int .i64 0, .int .i64 x4, .int .i64 x5, .slice a6 n6 c6, .slice a7 n7 c7, .slice a8 n8 c8, .slice a9 n9 c9, .slice aA nA cA, .slice aB nB cB] false W28) := by rw [← hW28]; exact FW27.out.setR false
          clear hW28 kr fr
          have kx : W28.cell? ⟨w.heap.size, 2, none⟩ = some (.int .i64 x2) := by simp [World.cell?, FW28.out.box]
          have k7 : W28.cell? ⟨w.heap.size, 7, none⟩ = some (.slice a7 n7 c7) := by simp [World.cell?, FW28.out.box]
          go_wp2_with fail
          refine Calls.mono (Tryz.atake_any w.heap.size 2 rb x2 (n7 : Int) false W28 kx (FW28.out.fx 2) FW28.out.cr FW28.out.fr FW28.out.ne) ?_
          rintro e W29 ⟨rfl, hw2⟩
          have eb : (false && (decide (0 ≤ x2) && decide (x2 < (n7 : Int)))) = false := rfl
          have FW29 : Hid (Ak.Fm w w.heap.size rb #[.int .i64 11, .int .i64 0, .int .i64 0, .int .i64 0, .int .i64 x4, .int .i64 x5, .slice a6 n6 c6, .slice a7 n7 c7, .slice a8 n8 c8, .slice a9 n9 c9, .slice aA nA cA, .slice aB nB cB] false W29) := by show Ak.Fm _ _ _ _ _ _; rw [hw2, eb]; exact (FW28.out.setR false).setX 2 (.int .i64 0)
          clear hw2 eb kx k7
          have kz7 : W29.cell? ⟨w.heap.size, 7, none⟩ = some (.slice a7 n7 c7) := by simp [World.cell?, FW29.out.box]
          have fz7 := FW29.out.fx 7
          go_upto_region 32 with fail
          obtain ⟨W30, hW30⟩ : ∃ z, (W29.setCell ⟨w.heap.size, 7, none⟩ (.slice none 0 0)) = z := ⟨_, rfl⟩
          rw [hW30]
          have FW30 : Hid (Ak.Fm w w.heap.size rb #[.int .i64 11, .int .i64 0, .int .i64 0, .int .i64 0, .int .i64 x4, .int .i64 x5, .slice a6 n6 c6, .slice none 0 0, .slice a8 n8 c8, .slice a9 n9 c9, .slice aA nA cA, .slice aB nB cB] false W30) := by rw [← hW30]; exact (FW29.out.setX 7 (.slice none 0 0))
          clear hW30 kz7 fz7
          have kr := FW30.out.cr
          have fr := FW30.out.fr
          go_upto_region 33 with fail
          obtain ⟨W31, hW31⟩ : ∃ z, W30.setCell ⟨rb, 0, none⟩ (.bool false) = z := ⟨_, rfl⟩
          rw [hW31]
          have FW31 : Hid (Ak.Fm w w.heap.size rb #[.int .i64 11, .int .i64 0, .int .i64 0, .int .i64 0, .int .i64 x4, .int .i64 x5, .slice a6 n6 c6, .slice none 0 0, .slice a8 n8 c8, .slice a9 n9 c9, .slice aA nA cA, .slice aB nB cB] false W31) := by rw [← hW31]; exact FW30.out.setR false
          clear hW31 kr fr 
          have kz8 : W31.cell? ⟨w.heap.size, 8, none⟩ = some (.slice a8 n8 c8) := by simp [World.cell?, FW31.out.box]
          have fz8 := FW31.out.fx 8
          go_upto_region 46 with fail
          obtain ⟨W32, hW32⟩ : ∃ z, (W31.setCell ⟨w.heap.size, 8, none⟩ (.slice none 0 0)) = z := ⟨_, rfl⟩
          rw [hW32]
          have FW32 : Hid (Ak.Fm w w.heap.size rb #[.int .i64 11, .int .i64 0, .int .i64 0, .int .i64 0, .int .i64 x4, .int .i64 x5, .slice a6 n6 c6, .slice none 0 0, .slice none 0 0, .slice a9 n9 c9, .slice aA nA cA, .slice aB nB cB] false W32) := by rw [← hW32]; exact (FW31.out.setX 8 (.slice none 0 0))
          clear hW32 kz8 fz8
          have kr := FW32.out.cr
          go_wp2
          go_ret
          exact ⟨Ak.Told.no HN.out, FW32.out.bel⟩
        | true =>
        have kr := FW21.out.cr
        have k2 : W21.cell? ⟨w.heap.size, 2, none⟩ = some (.int .i64 x2) := by simp [World.cell?, FW21.out.box]
        have k7 : W21.cell? ⟨w.heap.size, 7, none⟩ = some (.slice a7 n7 c7) := by simp [World.cell?, FW21.out.box]
        have k8 : W21.cell? ⟨w.heap.size, 8, none⟩ = some (.slice a8 n8 c8) := by simp [World.cell?, FW21.out.box]
        go_wp2_with fail
        refine Calls.mono (CC.out _ FW21.out.bel) ?_
        rintro e W33 ⟨rfl, hbe⟩
        have FW33 : Hid (Ak.Fm w w.heap.size rb #[.int .i64 11, .int .i64 0, .int .i64 x2, .int .i64 0, .int .i64 x4, .int .i64 x5, .slice a6 n6 c6, .slice a7 n7 c7, .slice a8 n8 c8, .slice a9 n9 c9, .slice aA nA cA, .slice aB nB cB] true W33) := FW21.out.below hbe
        clear hbe kr k2 k7 k8
        have kr := FW33.out.cr
        have fr := FW33.out.fr
        go_upto_region 30 with fail
        obtain ⟨W34, hW34⟩ : ∃ z, W33.setCell ⟨rb, 0, none⟩ (.bool true) = z := ⟨_, rfl⟩
        rw [hW34]
        have FW34 : Hid (Ak.Fm w w.heap.size rb #[.int .i64 11, .int .i64 0, .int .i64 x2, .int .i64 0, .int .i64 x4, .int .i64 x5, .slice a6 n6 c6, .slice a7 n7 c7, .slice a8 n8 c8, .slice a9 n9 c9, .slice aA nA cA, .slice aB nB cB] true W34) := by rw [← hW34]; exact FW33.out.setR true
        clear hW34 kr fr
        by_cases q4 : 0 ≤ x2 ∧ x2 < (n7 : Int)
        · have Q4 : Hid (0 ≤ x2 ∧ x2 < (n7 : Int)) := q4
          have kx : W34.cell? ⟨w.heap.size, 2, none⟩ = some (.int .i64 x2) := by simp [World.cell?, FW34.out.box]
          have k7 : W34.cell? ⟨w.heap.size, 7, none⟩ = some (.slice a7 n7 c7) := by simp [World.cell?, FW34.out.box]
          go_wp2_with fail
          refine Calls.mono (Tryz.atake_any w.heap.size 2 rb x2 (n7 : Int) true W34 kx (FW34.out.fx 2) FW34.out.cr FW34.out.fr FW34.out.ne) ?_
          rintro e W35 ⟨rfl, hw2⟩
          have eb : (true && (decide (0 ≤ x2) && decide (x2 < (n7 : Int)))) = true := by rw [decide_eq_true q4.1, decide_eq_true q4.2]; rfl
          have FW35 : Hid (Ak.Fm w w.heap.size rb #[.int .i64 11, .int .i64 0, .int .i64 0, .int .i64 0, .int .i64 x4, .int .i64 x5, .slice a6 n6 c6, .slice a7 n7 c7, .slice a8 n8 c8, .slice a9 n9 c9, .slice aA nA cA, .slice aB nB cB] true W35) := by show Ak.Fm _ _ _ _ _ _; rw [hw2, eb]; exact (FW34.out.setR true).setX 2 (.int .i64 0)
          clear hw2 eb kx k7
          have kz7 : W35.cell? ⟨w.heap.size, 7, none⟩ = some (.slice a7 n7 c7) := by simp [World.cell?, FW35.out.box]
          have fz7 := FW35.out.fx 7
          go_upto_region 32 with fail
          obtain ⟨W36, hW36⟩ : ∃ z, (W35.setCell ⟨w.heap.size, 7, none⟩ (.slice none 0 0)) = z := ⟨_, rfl⟩
          rw [hW36]
          have FW36 : Hid (Ak.Fm w w.heap.size rb #[.int .i64 11, .int .i64 0, .int .i64 0, .int .i64 0, .int .i64 x4, .int .i64 x5, .slice a6 n6 c6, .slice none 0 0, .slice a8 n8 c8, .slice a9 n9 c9, .slice aA nA cA, .slice aB nB cB] true W36) := by rw [← hW36]; exact (FW35.out.setX 7 (.slice none 0 0))
          clear hW36 kz7 fz7
          by_cases q6 : 2 ≤ n8
          · have dq : decide ((2 : Int) ≤ n8) = true := decide_eq_true (by omega)
            have dq2 : (2 : Int) ≤ n8 := by omega
            have Q6 : Hid (2 ≤ n8) := q6
            have kr := FW36.out.cr
            have fr := FW36.out.fr
            have k8 : W36.cell? ⟨w.heap.size, 8, none⟩ = some (.slice a8 n8 c8) := by simp [World.cell?, FW36.out.box]
            go_upto_region 33 with fail
            obtain ⟨W37, hW37⟩ : ∃ z, W36.setCell ⟨rb, 0, none⟩ (.bool true) = z := ⟨_, rfl⟩
            rw [hW37]
            have FW37 : Hid (Ak.Fm w w.heap.size rb #[.int .i64 11, .int .i64 0, .int .i64 0, .int .i64 0, .int .i64 x4, .int .i64 x5, .slice a6 n6 c6, .slice none 0 0, .slice a8 n8 c8, .slice a9 n9 c9, .slice aA nA cA, .slice aB nB cB] true W37) := by rw [← hW37]; exact FW36.out.setR true
            clear hW37 kr fr k8
            have kz8 : W37.cell? ⟨w.heap.size, 8, none⟩ = some (.slice a8 n8 c8) := by simp [World.cell?, FW37.out.box]
            have fz8 := FW37.out.fx 8
            go_upto_region 46 with fail
            obtain ⟨W38, hW38⟩ : ∃ z, (W37.setCell ⟨w.heap.size, 8, none⟩ (.slice none 0 0)) = z := ⟨_, rfl⟩
            rw [hW38]
            have FW38 : Hid (Ak.Fm w w.heap.size rb #[.int .i64 11, .int .i64 0, .int .i64 0, .int .i64 0, .int .i64 x4, .int .i64 x5, .slice a6 n6 c6, .slice none 0 0, .slice none 0 0, .slice a9 n9 c9, .slice aA nA cA, .slice aB nB cB] true W38) := by rw [← hW38]; exact (FW37.out.setX 8 (.slice none 0 0))
            clear hW38 kz8 fz8
            have kr := FW38.out.cr
            have k0 : W38.cell? ⟨w.heap.size, 0, none⟩ = some (.int .i64 11) := by simp [World.cell?, FW38.out.box]
            have k1 : W38.cell? ⟨w.heap.size, 1, none⟩ = some (.int .i64 0) := by simp [World.cell?, FW38.out.box]
            have k2 : W38.cell? ⟨w.heap.size, 2, none⟩ = some (.int .i64 0) := by simp [World.cell?, FW38.out.box]
            have k3 : W38.cell? ⟨w.heap.size, 3, none⟩ = some (.int .i64 0) := by simp [World.cell?, FW38.out.box]
            have k4 : W38.cell? ⟨w.heap.size, 4, none⟩ = some (.int .i64 x4) := by simp [World.cell?, FW38.out.box]
            have k5 : W38.cell? ⟨w.heap.size, 5, none⟩ = some (.int .i64 x5) := by simp [World.cell?, FW38.out.box]
            have k6 : W38.cell? ⟨w.heap.size, 6, none⟩ = some (.slice a6 n6 c6) := by simp [World.cell?, FW38.out.box]
            have k7 : W38.cell? ⟨w.heap.size, 7, none⟩ = some (.slice none 0 0) := by simp [World.cell?, FW38.out.box]
            have k8 : W38.cell? ⟨w.heap.size, 8, none⟩ = some (.slice none 0 0) := by simp [World.cell?, FW38.out.box]
            have k9 : W38.cell? ⟨w.heap.size, 9, none⟩ = some (.slice a9 n9 c9) := by simp [World.cell?, FW38.out.box]
            have k10 : W38.cell? ⟨w.heap.size, 10, none⟩ = some (.slice aA nA cA) := by simp [World.cell?, FW38.out.box]
            have k11 : W38.cell? ⟨w.heap.size, 11, none⟩ = some (.slice aB nB cB) := by simp [World.cell?, FW38.out.box]
            go_wp2_with fail
            clear kr k0 k1 k2 k3 k4 k5 k6 k7 k8 k9 k10 k11
            refine Calls.mono (CA.out _ FW38.out.bel) ?_
            rintro e W39 ⟨⟨r, rfl, hr⟩, hbe⟩
            have FW39 : Hid (Ak.Fm w w.heap.size rb #[.int .i64 11, .int .i64 0, .int .i64 0, .int .i64 0, .int .i64 x4, .int .i64 x5, .slice a6 n6 c6, .slice none 0 0, .slice none 0 0, .slice a9 n9 c9, .slice aA nA cA, .slice aB nB cB] true W39 ∧ (r = true ↔ P)) := ⟨FW38.out.below hbe, hr⟩
            clear hbe hr
            cases r with
            | false =>
              have HN : Hid (¬ Q) := fun h => by have := FW39.out.2.2 (HQ.out.1 h).2.2.2.2.2.2.2.2.1; simp at this
              go_wp2
              go_ret
              exact ⟨Ak.Told.no HN.out, FW39.out.1.bel⟩
            | true =>
            have HP : Hid P := FW39.out.2.1 (by first | rfl | trivial)
            have k8 : W39.cell? ⟨w.heap.size, 8, none⟩ = some (.slice none 0 0) := by simp [World.cell?, FW39.out.1.box]
            go_wp2
            go_ret
            exact ⟨Ak.Told.yes (HQ.out.2 ⟨(by first | rfl | trivial), Q0.out, Q1.out, Q2.out, Q3.out, (by first | rfl | trivial), Q4.out, Q6.out, HP.out, trivial⟩), FW39.out.1.bel⟩
          · have dq : decide ((2 : Int) ≤ n8) = false := decide_eq_false (by omega)
            have dq2 : ¬ (2 : Int) ≤ n8 := by omega
            have HN : Hid (¬ Q) := fun h => q6 (HQ.out.1 h).2.2.2.2.2.2.2.1
            have kr := FW36.out.cr
            have fr := FW36.out.fr
            have k8 : W36.cell? ⟨w.heap.size, 8, none⟩ = some (.slice a8 n8 c8) := by simp [World.cell?, FW36.out.box]
            go_upto_region 33 with fail
            obtain ⟨W40, hW40⟩ : ∃ z, W36.setCell ⟨rb, 0, none⟩ (.bool false) = z := ⟨_, rfl⟩
            rw [hW40]
            have FW40 : Hid (Ak.Fm w w.heap.size rb #[.int .i64 11, .int .i64 0, .int .i64 0, .int .i64 0, .int .i64 x4, .int .i64 x5, .slice a6 n6 c6, .slice none 0 0, .slice a8 n8 c8, .slice a9 n9 c9, .slice aA nA cA, .slice aB nB cB] false W40) := by rw [← hW40]; exact FW36.out.setR false
            clear hW40 kr fr k8
            have kz8 : W40.cell? ⟨w.heap.size, 8, none⟩ = some (.slice a8 n8 c8) := by simp [World.cell?, FW40.out.box]
            have fz8 := FW40.out.fx 8
            go_upto_region 46 with fail
            obtain ⟨W41, hW41⟩ : ∃ z, (W40.setCell ⟨w.heap.size, 8, none⟩ (.slice none 0 0)) = z := ⟨_, rfl⟩
            rw [hW41]
            have FW41 : Hid (Ak.Fm w w.heap.size rb #[.int .i64 11, .int .i64 0, .int .i64 0, .int .i64 0, .int .i64 x4, .int .i64 x5, .slice a6 n6 c6, .slice none 0 0, .slice none 0 0, .slice a9 n9 c9, .slice aA nA cA, .slice aB nB cB] false W41) := by rw [← hW41]; exact (FW40.out.setX 8 (.slice none 0 0))
            clear hW41 kz8 fz8
            have kr := FW41.out.cr
            go_wp2
            go_ret
            exact ⟨Ak.Told.no HN.out, FW41.out.bel⟩
        · have HN : Hid (¬ Q) := fun h => q4 (HQ.out.1 h).2.2.2.2.2.2.1
          have kx : W34.cell? ⟨w.heap.size, 2, none⟩ = some (.int .i64 x2) := by simp [World.cell?, FW34.out.box]
          have k7 : W34.cell? ⟨w.heap.size, 7, none⟩ = some (.slice a7 n7 c7) := by simp [World.cell?, FW34.out.box]
          go_wp2_with fail
          refine Calls.mono (Tryz.atake_any w.heap.size 2 rb x2 (n7 : Int) true W34 kx (FW34.out.fx 2) FW34.out.cr FW34.out.fr FW34.out.ne) ?_
          rintro e W42 ⟨rfl, hw2⟩
          have eb : (true && (decide (0 ≤ x2) && decide (x2 < (n7 : Int)))) = false := by rw [Bool.true_and, Bool.and_eq_false_iff]; simp only [decide_eq_false_iff_not]; omega
          have FW42 : Hid (Ak.Fm w w.heap.size rb #[.int .i64 11, .int .i64 0, .int .i64 0, .int .i64 0, .int .i64 x4, .int .i64 x5, .slice a6 n6 c6, .slice a7 n7 c7, .slice a8 n8 c8, .slice a9 n9 c9, .slice aA nA cA, .slice aB nB cB] false W42) := by show Ak.Fm _ _ _ _ _ _; rw [hw2, eb]; exact (FW34.out.setR false).setX 2 (.int .i64 0)
          clear hw2 eb kx k7
          have kz7 : W42.cell? ⟨w.heap.size, 7, none⟩ = some (.slice a7 n7 c7) := by simp [World.cell?, FW42.out.box]
          have fz7 := FW42.out.fx 7
          go_upto_region 32 with fail
          obtain ⟨W43, hW43⟩ : ∃ z, (W42.setCell ⟨w.heap.size, 7, none⟩ (.slice none 0 0)) = z := ⟨_, rfl⟩
          rw [hW43]
          have FW43 : Hid (Ak.Fm w w.heap.size rb #[.int .i64 11, .int .i64 0, .int .i64 0, .int .i64 0, .int .i64 x4, .int .i64 x5, .slice a6 n6 c6, .slice none 0 0, .slice a8 n8 c8, .slice a9 n9 c9, .slice aA nA cA, .slice aB nB cB] false W43) := by rw [← hW43]; exact (FW42.out.setX 7 (.slice none 0 0))
          clear hW43 kz7 fz7
          have kr := FW43.out.cr
          have fr := FW43.out.fr
          go_upto_region 33 with fail
          obtain ⟨W44, hW44⟩ : ∃ z, W43.setCell ⟨rb, 0, none⟩ (.bool false) = z := ⟨_, rfl⟩
          rw [hW44]
          have FW44 : Hid (Ak.Fm w w.heap.size rb #[.int .i64 11, .int .i64 0, .int .i64 0, .int .i64 0, .int .i64 x4, .int .i64 x5, .slice a6 n6 c6, .slice none 0 0, .slice a8 n8 c8, .slice a9 n9 c9, .slice aA nA cA, .slice aB nB cB] false W44) := by rw [← hW44]; exact FW43.out.setR false
          clear hW44 kr fr 
          have kz8 : W44.cell? ⟨w.heap.size, 8, none⟩ = some (.slice a8 n8 c8) := by simp [World.cell?, FW44.out.box]
          have fz8 := FW44.out.fx 8
          go_upto_region 46 with fail
          obtain ⟨W45, hW45⟩ : ∃ z, (W44.setCell ⟨w.heap.size, 8, none⟩ (.slice none 0 0)) = z := ⟨_, rfl⟩
          rw [hW45]
          have FW45 : Hid (Ak.Fm w w.heap.size rb #[.int .i64 11, .int .i64 0, .int .i64 0, .int .i64 0, .int .i64 x4, .int .i64 x5, .slice a6 n6 c6, .slice none 0 0, .slice none 0 0, .slice a9 n9 c9, .slice aA nA cA, .slice aB nB cB] false W45) := by rw [← hW45]; exact (FW44.out.setX 8 (.slice none 0 0))
          clear hW45 kz8 fz8
          have kr := FW45.out.cr
          go_wp2
          go_ret
          exact ⟨Ak.Told.no HN.out, FW45.out.bel⟩
      · have HN : Hid (¬ Q) := fun h => q2 (HQ.out.1 h).2.2.2.1
        have kx : W20.cell? ⟨w.heap.size, 3, none⟩ = some (.int .i64 x3) := by simp [World.cell?, FW20.out.box]
        have k7 : W20.cell? ⟨w.heap.size, 7, none⟩ = some (.slice a7 n7 c7) := by simp [World.cell?, FW20.out.box]
        go_wp2_with fail
        refine Calls.mono (Tryz.atake_any w.heap.size 3 rb x3 (n7 : Int) true W20 kx (FW20.out.fx 3) FW20.out.cr FW20.out.fr FW20.out.ne) ?_
        rintro e W46 ⟨rfl, hw2⟩
        have eb : (true && (decide (0 ≤ x3) && decide (x3 < (n7 : Int)))) = false := by rw [Bool.true_and, Bool.and_eq_false_iff]; simp only [decide_eq_false_iff_not]; omega
        have FW46 : Hid (Ak.Fm w w.heap.size rb #[.int .i64 11, .int .i64 0, .int .i64 x2, .int .i64 0, .int .i64 x4, .int .i64 x5, .slice a6 n6 c6, .slice a7 n7 c7, .slice a8 n8 c8, .slice a9 n9 c9, .slice aA nA cA, .slice aB nB cB] false W46) := by show Ak.Fm _ _ _ _ _ _; rw [hw2, eb]; exact (FW20.out.setR false).setX 3 (.int .i64 0)
        clear hw2 eb kx k7
        have kr := FW46.out.cr
        have fr := FW46.out.fr
        go_upto_region 30 with fail
        obtain ⟨W47, hW47⟩ : ∃ z, W46.setCell ⟨rb, 0, none⟩ (.bool false) = z := ⟨_, rfl⟩
        rw [hW47]
        have FW47 : Hid (Ak.Fm w w.heap.size rb #[.int .i64 11, .int .i64 0, .int .i64 x2, .int .i64 0, .int .i64 x4, .int .i64 x5, .slice a6 n6 c6, .slice a7 n7 c7, .slice a8 n8 c8, .slice a9 n9 c9, .slice aA nA cA, .slice aB nB cB] false W47) := by rw [← hW47]; exact FW46.out.setR false
        clear hW47 kr fr 
        have kx : W47.cell? ⟨w.heap.size, 2, none⟩ = some (.int .i64 x2) := by simp [World.cell?, FW47.out.box]
        have k7 : W47.cell? ⟨w.heap.size, 7, none⟩ = some (.slice a7 n7 c7) := by simp [World.cell?, FW47.out.box]
        go_wp2_with fail
        refine Calls.mono (Tryz.atake_any w.heap.size 2 rb x2 (n7 : Int) false W47 kx (FW47.out.fx 2) FW47.out.cr FW47.out.fr FW47.out.ne) ?_
        rintro e W48 ⟨rfl, hw2⟩
        have eb : (false && (decide (0 ≤ x2) && decide (x2 < (n7 : Int)))) = false := rfl
        have FW48 : Hid (Ak.Fm w w.heap.size rb #[.int .i64 11, .int .i64 0, .int .i64 0, .int .i64 0, .int .i64 x4, .int .i64 x5, .slice a6 n6 c6, .slice a7 n7 c7, .slice a8 n8 c8, .slice a9 n9 c9, .slice aA nA cA, .slice aB nB cB] false W48) := by show Ak.Fm _ _ _ _ _ _; rw [hw2, eb]; exact (FW47.out.setR false).setX 2 (.int .i64 0)
        clear hw2 eb kx k7
        have kz7 : W48.cell? ⟨w.heap.size, 7, none⟩ = some (.slice a7 n7 c7) := by simp [World.cell?, FW48.out.box]
        have fz7 := FW48.out.fx 7
        go_upto_region 32 with fail
        obtain ⟨W49, hW49⟩ : ∃ z, (W48.setCell ⟨w.heap.size, 7, none⟩ (.slice none 0 0)) = z := ⟨_, rfl⟩
        rw [hW49]
        have FW49 : Hid (Ak.Fm w w.heap.size rb #[.int .i64 11, .int .i64 0, .int .i64 0, .int .i64 0, .int .i64 x4, .int .i64 x5, .slice a6 n6 c6, .slice none 0 0, .slice a8 n8 c8, .slice a9 n9 c9, .slice aA nA cA, .slice aB nB cB] false W49) := by rw [← hW49]; exact (FW48.out.setX 7 (.slice none 0 0))
        clear hW49 kz7 fz7
        have kr := FW49.out.cr
        have fr := FW49.out.fr
        go_upto_region 33 with fail
        obtain ⟨W50, hW50⟩ : ∃ z, W49.setCell ⟨rb, 0, none⟩ (.bool false) = z := ⟨_, rfl⟩
        rw [hW50]
        have FW50 : Hid (Ak.Fm w w.heap.size rb #[.int .i64 11, .int .i64 0, .int .i64 0, .int .i64 0, .int .i64 x4, .int .i64 x5, .slice a6 n6 c6, .slice none 0 0, .slice a8 n8 c8, .slice a9 n9 c9, .slice aA nA cA, .slice aB nB cB] false W50) := by rw [← hW50]; exact FW49.out.setR false
        clear hW50 kr fr 
        have kz8 : W50.cell? ⟨w.heap.size, 8, none⟩ = some (.slice a8 n8 c8) := by simp [World.cell?, FW50.out.box]
        have fz8 := FW50.out.fx 8
        go_upto_region 46 with fail
        obtain ⟨W51, hW51⟩ : ∃ z, (W50.setCell ⟨w.heap.size, 8, none⟩ (.slice none 0 0)) = z := ⟨_, rfl⟩
        rw [hW51]
        have FW51 : Hid (Ak.Fm w w.heap.size rb #[.int .i64 11, .int .i64 0, .int .i64 0, .int .i64 0, .int .i64 x4, .int .i64 x5, .slice a6 n6 c6, .slice none 0 0, .slice none 0 0, .slice a9 n9 c9, .slice aA nA cA, .slice aB nB cB] false W51) := by rw [← hW51]; exact (FW50.out.setX 8 (.slice none 0 0))
        clear hW51 kz8 fz8
        have kr := FW51.out.cr
        go_wp2
        go_ret
        exact ⟨Ak.Told.no HN.out, FW51.out.bel⟩
    · have dq : ((n8 : Int) == 2) = false := by simp; omega
      have HN : Hid (¬ Q) := fun h => q1 (HQ.out.1 h).2.2.1
      clear q1
      have kr := FW19.out.cr
      have fr := FW19.out.fr
      have k8 : W19.cell? ⟨w.heap.size, 8, none⟩ = some (.slice a8 n8 c8) := by simp [World.cell?, FW19.out.box]
      go_upto_region 28 with fail
      obtain ⟨W52, hW52⟩ : ∃ z, W19.setCell ⟨rb, 0, none⟩ (.bool false) = z := ⟨_, rfl⟩
      rw [hW52]
      have FW52 : Hid (Ak.Fm w w.heap.size rb #[.int .i64 11, .int .i64 0, .int .i64 x2, .int .i64 x3, .int .i64 x4, .int .i64 x5, .slice a6 n6 c6, .slice a7 n7 c7, .slice a8 n8 c8, .slice a9 n9 c9, .slice aA nA cA, .slice aB nB cB] false W52) := by rw [← hW52]; exact FW19.out.setR false
      clear hW52 kr fr k8
      have kx : W52.cell? ⟨w.heap.size, 3, none⟩ = some (.int .i64 x3) := by simp [World.cell?, FW52.out.box]
      have k7 : W52.cell? ⟨w.heap.size, 7, none⟩ = some (.slice a7 n7 c7) := by simp [World.cell?, FW52.out.box]
      go_wp2_with fail
      refine Calls.mono (Tryz.atake_any w.heap.size 3 rb x3 (n7 : Int) false W52 kx (FW52.out.fx 3) FW52.out.cr FW52.out.fr FW52.out.ne) ?_
      rintro e W53 ⟨rfl, hw2⟩
      have eb : (false && (decide (0 ≤ x3) && decide (x3 < (n7 : Int)))) = false := rfl
      have FW53 : Hid (Ak.Fm w w.heap.size rb #[.int .i64 11, .int .i64 0, .int .i64 x2, .int .i64 0, .int .i64 x4, .int .i64 x5, .slice a6 n6 c6, .slice a7 n7 c7, .slice a8 n8 c8, .slice a9 n9 c9, .slice aA nA cA, .slice aB nB cB] false W53) := by show Ak.Fm _ _ _ _ _ _; rw [hw2, eb]; exact (FW52.out.setR false).setX 3 (.int .i64 0)
      clear hw2 eb kx k7
      have kr := FW53.out.cr
      have fr := FW53.out.fr
      go_upto_region 30 with fail
      obtain ⟨W54, hW54⟩ : ∃ z, W53.setCell ⟨rb, 0, none⟩ (.bool false) = z := ⟨_, rfl⟩
      rw [hW54]
      have FW54 : Hid (Ak.Fm w w.heap.size rb #[.int .i64 11, .int .i64 0, .int .i64 x2, .int .i64 0, .int .i64 x4, .int .i64 x5, .slice a6 n6 c6, .slice a7 n7 c7, .slice a8 n8 c8, .slice a9 n9 c9, .slice aA nA cA, .slice aB nB cB] false W54) := by rw [← hW54]; exact FW53.out.setR false
      clear hW54 kr fr 
      have kx : W54.cell? ⟨w.heap.size, 2, none⟩ = some (.int .i64 x2) := by simp [World.cell?, FW54.out.box]
      have k7 : W54.cell? ⟨w.heap.size, 7, none⟩ = some (.slice a7 n7 c7) := by simp [World.cell?, FW54.out.box]
      go_wp2_with fail
      refine Calls.mono (Tryz.atake_any w.heap.size 2 rb x2 (n7 : Int) false W54 kx (FW54.out.fx 2) FW54.out.cr FW54.out.fr FW54.out.ne) ?_
      rintro e W55 ⟨rfl, hw2⟩
      have eb : (false && (decide (0 ≤ x2) && decide (x2 < (n7 : Int)))) = false := rfl
      have FW55 : Hid (Ak.Fm w w.heap.size rb #[.int .i64 11, .int .i64 0, .int .i64 0, .int .i64 0, .int .i64 x4, .int .i64 x5, .slice a6 n6 c6, .slice a7 n7 c7, .slice a8 n8 c8, .slice a9 n9 c9, .slice aA nA cA, .slice aB nB cB] false W55) := by show Ak.Fm _ _ _ _ _ _; rw [hw2, eb]; exact (FW54.out.setR false).setX 2 (.int .i64 0)
      clear hw2 eb kx k7
      have kz7 : W55.cell? ⟨w.heap.size, 7, none⟩ = some (.slice a7 n7 c7) := by simp [World.cell?, FW55.out.box]
      have fz7 := FW55.out.fx 7
      go_upto_region 32 with fail
      obtain ⟨W56, hW56⟩ : ∃ z, (W55.setCell ⟨w.heap.size, 7, none⟩ (.slice none 0 0)) = z := ⟨_, rfl⟩
      rw [hW56]
      have FW56 : Hid (Ak.Fm w w.heap.size rb #[.int .i64 11, .int .i64 0, .int .i64 0, .int .i64 0, .int .i64 x4, .int .i64 x5, .slice a6 n6 c6, .slice none 0 0, .slice a8 n8 c8, .slice a9 n9 c9, .slice aA nA cA, .slice aB nB cB] false W56) := by rw [← hW56]; exact (FW55.out.setX 7 (.slice none 0 0))
      clear hW56 kz7 fz7
      have kr := FW56.out.cr
      have fr := FW56.out.fr
      go_upto_region 33 with fail
      obtain ⟨W57, hW57⟩ : ∃ z, W56.setCell ⟨rb, 0, none⟩ (.bool false) = z := ⟨_, rfl⟩
      rw [hW57]
      have FW57 : Hid (Ak.Fm w w.heap.size rb #[.int .i64 11, .int .i64 0, .int .i64 0, .int .i64 0, .int .i64 x4, .int .i64 x5, .slice a6 n6 c6, .slice none 0 0, .slice a8 n8 c8, .slice a9 n9 c9, .slice aA nA cA, .slice aB nB cB] false W57) := by rw [← hW57]; exact FW56.out.setR false
      clear hW57 kr fr 
      have kz8 : W57.cell? ⟨w.heap.size, 8, none⟩ = some (.slice a8 n8 c8) := by simp [World.cell?, FW57.out.box]
      have fz8 := FW57.out.fx 8
      go_upto_region 46 with fail
      obtain ⟨W58, hW58⟩ : ∃ z, (W57.setCell ⟨w.heap.size, 8, none⟩ (.slice none 0 0)) = z := ⟨_, rfl⟩
      rw [hW58]
      have FW58 : Hid (Ak.Fm w w.heap.size rb #[.int .i64 11, .int .i64 0, .int .i64 0, .int .i64 0, .int .i64 x4, .int .i64 x5, .slice a6 n6 c6, .slice none 0 0, .slice none 0 0, .slice a9 n9 c9, .slice aA nA cA, .slice aB nB cB] false W58) := by rw [← hW58]; exact (FW57.out.setX 8 (.slice none 0 0))
      clear hW58 kz8 fz8
      have kr := FW58.out.cr
      go_wp2
      go_ret
      exact ⟨Ak.Told.no HN.out, FW58.out.bel⟩
  · have HN : Hid (¬ Q) := fun h => q0 (HQ.out.1 h).2.1
    have kx : W3.cell? ⟨w.heap.size, 1, none⟩ = some (.int .i64 x1) := by simp [World.cell?, FW3.out.box]
    go_wp2_with fail
    refine Calls.mono (Tryz.atake_any w.heap.size 1 rb x1 24 true W3 kx (FW3.out.fx 1) FW3.out.cr FW3.out.fr FW3.out.ne) ?_
    rintro e W59 ⟨rfl, hw2⟩
    have eb : (true && (decide (0 ≤ x1) && decide (x1 < 24))) = false := by rw [Bool.true_and, Bool.and_eq_false_iff]; simp only [decide_eq_false_iff_not]; omega
    have FW59 : Hid (Ak.Fm w w.heap.size rb #[.int .i64 11, .int .i64 0, .int .i64 x2, .int .i64 x3, .int .i64 x4, .int .i64 x5, .slice a6 n6 c6, .slice a7 n7 c7, .slice a8 n8 c8, .slice a9 n9 c9, .slice aA nA cA, .slice aB nB cB] false W59) := by show Ak.Fm _ _ _ _ _ _; rw [hw2, eb]; exact (FW3.out.setR false).setX 1 (.int .i64 0)
    clear hw2 eb kx
    have kk : W59.cell? ⟨w.heap.size, 0, none⟩ = some (.int .i64 11) := by simp [World.cell?, FW59.out.box]
    have kr := FW59.out.cr
    have fr := FW59.out.fr
    go_upto_region 28 with fail
    obtain ⟨W60, hW60⟩ : ∃ z, W59.setCell ⟨rb, 0, none⟩ (.bool false) = z := ⟨_, rfl⟩
    rw [hW60]
    have FW60 : Hid (Ak.Fm w w.heap.size rb #[.int .i64 11, .int .i64 0, .int .i64 x2, .int .i64 x3, .int .i64 x4, .int .i64 x5, .slice a6 n6 c6, .slice a7 n7 c7, .slice a8 n8 c8, .slice a9 n9 c9, .slice aA nA cA, .slice aB nB cB] false W60) := by rw [← hW60]; exact FW59.out.setR false
    clear hW60 kr fr 
    have kx : W60.cell? ⟨w.heap.size, 3, none⟩ = some (.int .i64 x3) := by simp [World.cell?, FW60.out.box]
    have k7 : W60.cell? ⟨w.heap.size, 7, none⟩ = some (.slice a7 n7 c7) := by simp [World.cell?, FW60.out.box]
    go_wp2_with fail
    refine Calls.mono (Tryz.atake_any w.heap.size 3 rb x3 (n7 : Int) false W60 kx (FW60.out.fx 3) FW60.out.cr FW60.out.fr FW60.out.ne) ?_
    rintro e W61 ⟨rfl, hw2⟩
    have eb : (false && (decide (0 ≤ x3) && decide (x3 < (n7 : Int)))) = false := rfl
    have FW61 : Hid (Ak.Fm w w.heap.size rb #[.int .i64 11, .int .i64 0, .int .i64 x2, .int .i64 0, .int .i64 x4, .int .i64 x5, .slice a6 n6 c6, .slice a7 n7 c7, .slice a8 n8 c8, .slice a9 n9 c9, .slice aA nA cA, .slice aB nB cB] false W61) := by show Ak.Fm _ _ _ _ _ _; rw [hw2, eb]; exact (FW60.out.setR false).setX 3 (.int .i64 0)
    clear hw2 eb kx k7
    have kr := FW61.out.cr
    have fr := FW61.out.fr
    go_upto_region 30 with fail
    obtain ⟨W62, hW62⟩ : ∃ z, W61.setCell ⟨rb, 0, none⟩ (.bool false) = z := ⟨_, rfl⟩
    rw [hW62]
    have FW62 : Hid (Ak.Fm w w.heap.size rb #[.int .i64 11, .int .i64 0, .int .i64 x2, .int .i64 0, .int .i64 x4, .int .i64 x5, .slice a6 n6 c6, .slice a7 n7 c7, .slice a8 n8 c8, .slice a9 n9 c9, .slice aA nA cA, .slice aB nB cB] false W62) := by rw [← hW62]; exact FW61.out.setR false
    clear hW62 kr fr 
    have kx : W62.cell? ⟨w.heap.size, 2, none⟩ = some (.int .i64 x2) := by simp [World.cell?, FW62.out.box]
    have k7 : W62.cell? ⟨w.heap.size, 7, none⟩ = some (.slice a7 n7 c7) := by simp [World.cell?, FW62.out.box]
    go_wp2_with fail
    refine Calls.mono (Tryz.atake_any w.heap.size 2 rb x2 (n7 : Int) false W62 kx (FW62.out.fx 2) FW62.out.cr FW62.out.fr FW62.out.ne) ?_
    rintro e W63 ⟨rfl, hw2⟩
    have eb : (false && (decide (0 ≤ x2) && decide (x2 < (n7 : Int)))) = false := rfl
    have FW63 : Hid (Ak.Fm w w.heap.size rb #[.int .i64 11, .int .i64 0, .int .i64 0, .int .i64 0, .int .i64 x4, .int .i64 x5, .slice a6 n6 c6, .slice a7 n7 c7, .slice a8 n8 c8, .slice a9 n9 c9, .slice aA nA cA, .slice aB nB cB] false W63) := by show Ak.Fm _ _ _ _ _ _; rw [hw2, eb]; exact (FW62.out.setR false).setX 2 (.int .i64 0)
    clear hw2 eb kx k7
    have kz7 : W63.cell? ⟨w.heap.size, 7, none⟩ = some (.slice a7 n7 c7) := by simp [World.cell?, FW63.out.box]
    have fz7 := FW63.out.fx 7
    go_upto_region 32 with fail
    obtain ⟨W64, hW64⟩ : ∃ z, (W63.setCell ⟨w.heap.size, 7, none⟩ (.slice none 0 0)) = z := ⟨_, rfl⟩
    rw [hW64]
    have FW64 : Hid (Ak.Fm w w.heap.size rb #[.int .i64 11, .int .i64 0, .int .i64 0, .int .i64 0, .int .i64 x4, .int .i64 x5, .slice a6 n6 c6, .slice none 0 0, .slice a8 n8 c8, .slice a9 n9 c9, .slice aA nA cA, .slice aB nB cB] false W64) := by rw [← hW64]; exact (FW63.out.setX 7 (.slice none 0 0))
    clear hW64 kz7 fz7
    have kr := FW64.out.cr
    have fr := FW64.out.fr
    go_upto_region 33 with fail
    obtain ⟨W65, hW65⟩ : ∃ z, W64.setCell ⟨rb, 0, none⟩ (.bool false) = z := ⟨_, rfl⟩
    rw [hW65]
    have FW65 : Hid (Ak.Fm w w.heap.size rb #[.int .i64 11, .int .i64 0, .int .i64 0, .int .i64 0, .int .i64 x4, .int .i64 x5, .slice a6 n6 c6, .slice none 0 0, .slice a8 n8 c8, .slice a9 n9 c9, .slice aA nA cA, .slice aB nB cB] false W65) := by rw [← hW65]; exact FW64.out.setR false
    clear hW65 kr fr 
    have kz8 : W65.cell? ⟨w.heap.size, 8, none⟩ = some (.slice a8 n8 c8) := by simp [World.cell?, FW65.out.box]
    have fz8 := FW65.out.fx 8
    go_upto_region 46 with fail
    obtain ⟨W66, hW66⟩ : ∃ z, (W65.setCell ⟨w.heap.size, 8, none⟩ (.slice none 0 0)) = z := ⟨_, rfl⟩
    rw [hW66]
    have FW66 : Hid (Ak.Fm w w.heap.size rb #[.int .i64 11, .int .i64 0, .int .i64 0, .int .i64 0, .int .i64 x4, .int .i64 x5, .slice a6 n6 c6, .slice none 0 0, .slice none 0 0, .slice a9 n9 c9, .slice aA nA cA, .slice aB nB cB] false W66) := by rw [← hW66]; exact (FW65.out.setX 8 (.slice none 0 0))
    clear hW66 kz8 fz8
    have kr := FW66.out.cr
    go_wp2
    go_ret
    exact ⟨Ak.Told.no HN.out, FW66.out.bel⟩
end Go.Proofs
