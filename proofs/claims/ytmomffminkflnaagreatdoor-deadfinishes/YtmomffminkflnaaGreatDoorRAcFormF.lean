import Derived.Test.YtmomffminkflnaaGreatDoorRAllNtOne
namespace Go.Proofs
open Go.RowKit Go.Shelf
set_option maxRecDepth 20000 in
set_option maxHeartbeats 16000000 in
theorem Tryz.fm_12a (x1 x3 x4 x5 : Int) (a6 a7 a8 a9 aA aB : Option Addr) (n6 c6 n7 c7 n8 c8 n9 c9 nA cA nB cB : Nat) (w : World) (hb : Bool) (P : Prop) (ob : Bool) (hn7 : n7 ≤ 1000) (_hn8 : n8 ≤ 1000) (CH0 : ∀ W, Below w.heap.size w W → Calls Tryz.prog 58 #[.agg #[.int .i64 12, .int .i64 x1, .int .i64 3, .int .i64 x3, .int .i64 x4, .int .i64 x5, .slice a6 n6 c6, .slice a7 n7 c7, .slice a8 n8 c8, .slice a9 n9 c9, .slice aA nA cA, .slice aB nB cB]] W fun e w' => e = .returned (.bool hb) ∧ Below W.heap.size W w') (CA0 : ∀ W, Below w.heap.size w W → Calls Tryz.prog 65 #[.agg #[.int .i64 12, .int .i64 0, .int .i64 0, .int .i64 0, .int .i64 x4, .int .i64 x5, .slice a6 n6 c6, .slice none 0 0, .slice a8 n8 c8, .slice a9 n9 c9, .slice aA nA cA, .slice aB nB cB], .agg #[.int .i64 12, .int .i64 0, .int .i64 0, .int .i64 0, .int .i64 0, .int .i64 0, .slice none 0 0, .slice none 0 0, .slice none 0 0, .slice none 0 0, .slice none 0 0, .slice none 0 0]] W fun e w' => Ak.Told P e ∧ Below W.heap.size W w') (CC0 : ∀ W, Below w.heap.size w W → Calls Tryz.prog 62 #[.slice a7 n7 c7, .int .i64 x3] W fun e w' => e = .returned (.bool ob) ∧ Below W.heap.size W w') :
    Calls Tryz.prog 48 #[.agg #[.int .i64 12, .int .i64 x1, .int .i64 3, .int .i64 x3, .int .i64 x4, .int .i64 x5, .slice a6 n6 c6, .slice a7 n7 c7, .slice a8 n8 c8, .slice a9 n9 c9, .slice aA nA cA, .slice aB nB cB]] w fun e w' => Ak.Told (hb = true ∧ (0 ≤ x1 ∧ x1 < 24) ∧ 2 ≤ n7 ∧ ob = true ∧ (0 ≤ x3 ∧ x3 < (n7 : Int)) ∧ True ∧ True ∧ P ∧ n8 = 0) e ∧ Below w.heap.size w w' := by
  obtain ⟨Q, hQ⟩ : ∃ Q : Prop, (hb = true ∧ (0 ≤ x1 ∧ x1 < 24) ∧ 2 ≤ n7 ∧ ob = true ∧ (0 ≤ x3 ∧ x3 < (n7 : Int)) ∧ True ∧ True ∧ P ∧ n8 = 0) = Q := ⟨_, rfl⟩
  rw [hQ]
  have HQ : Hid (Q ↔ hb = true ∧ (0 ≤ x1 ∧ x1 < 24) ∧ 2 ≤ n7 ∧ ob = true ∧ (0 ≤ x3 ∧ x3 < (n7 : Int)) ∧ True ∧ True ∧ P ∧ n8 = 0) := by rw [← hQ]; exact Iff.rfl
  have CH : Hid _ := CH0
  have CA : Hid _ := CA0
  have CC : Hid _ := CC0
  clear CC0
  obtain ⟨w1, hw1⟩ : ∃ x, w.alloc (.cells #[.int .i64 12, .int .i64 x1, .int .i64 3, .int .i64 x3, .int .i64 x4, .int .i64 x5, .slice a6 n6 c6, .slice a7 n7 c7, .slice a8 n8 c8, .slice a9 n9 c9, .slice aA nA cA, .slice aB nB cB] 32) = x := ⟨_, rfl⟩
  have A1 : Below w.heap.size w w1 := by rw [← hw1]; exact (Below.refl _ w).alloc (Nat.le_refl _) _
  have G1 : w1.heap[w.heap.size]? = some (.cells #[.int .i64 12, .int .i64 x1, .int .i64 3, .int .i64 x3, .int .i64 x4, .int .i64 x5, .slice a6 n6 c6, .slice a7 n7 c7, .slice a8 n8 c8, .slice a9 n9 c9, .slice aA nA cA, .slice aB nB cB] 32 (0, 0)) := by rw [← hw1]; exact heap_alloc_new w _
  have ca : w1.cell? ⟨w.heap.size, 0, none⟩ = some (.int .i64 12) ∧ w1.cell? ⟨w.heap.size, 1, none⟩ = some (.int .i64 x1) ∧ w1.cell? ⟨w.heap.size, 2, none⟩ = some (.int .i64 3) ∧ w1.cell? ⟨w.heap.size, 3, none⟩ = some (.int .i64 x3) ∧ w1.cell? ⟨w.heap.size, 4, none⟩ = some (.int .i64 x4) ∧ w1.cell? ⟨w.heap.size, 5, none⟩ = some (.int .i64 x5) ∧ w1.cell? ⟨w.heap.size, 6, none⟩ = some (.slice a6 n6 c6) ∧ w1.cell? ⟨w.heap.size, 7, none⟩ = some (.slice a7 n7 c7) ∧ w1.cell? ⟨w.heap.size, 8, none⟩ = some (.slice a8 n8 c8) ∧ w1.cell? ⟨w.heap.size, 9, none⟩ = some (.slice a9 n9 c9) ∧ w1.cell? ⟨w.heap.size, 10, none⟩ = some (.slice aA nA cA) ∧ w1.cell? ⟨w.heap.size, 11, none⟩ = some (.slice aB nB cB) := by simp [World.cell?, G1]
  obtain ⟨m0, m1, m2, m3, m4, m5, m6, m7, m8, m9, m10, m11⟩ := ca
  have H1 : Hid (w.alloc (.cells #[.int .i64 12, .int .i64 x1, .int .i64 3, .int .i64 x3, .int .i64 x4, .int .i64 x5, .slice a6 n6 c6, .slice a7 n7 c7, .slice a8 n8 c8, .slice a9 n9 c9, .slice aA nA cA, .slice aB nB cB] 32) = w1) := hw1
  have HA : Hid (Below w.heap.size w w1 ∧ w1.heap[w.heap.size]? = some (.cells #[.int .i64 12, .int .i64 x1, .int .i64 3, .int .i64 x3, .int .i64 x4, .int .i64 x5, .slice a6 n6 c6, .slice a7 n7 c7, .slice a8 n8 c8, .slice a9 n9 c9, .slice aA nA cA, .slice aB nB cB] 32 (0, 0))) := ⟨A1, G1⟩
  clear hw1 A1 G1 CH0 CA0 hQ
  go_enter Tryz.func48, Tryz.ntmps48
  go_upto_region 1 with fail
  rw [H1.out]
  go_wp2_with fail
  refine Calls.mono (CH.out _ HA.out.1) ?_
  rintro e W2 ⟨rfl, hb2⟩
  clear H1 CH m0 m1 m2 m3 m4 m5 m6 m7 m8 m9 m10 m11
  go_upto_region 3 with fail
  obtain ⟨W3, hW3⟩ : ∃ z, W2.alloc (.cells #[.bool hb] 4) = z := ⟨_, rfl⟩
  have hx2 : W2.heap[w.heap.size]? = some (.cells #[.int .i64 12, .int .i64 x1, .int .i64 3, .int .i64 x3, .int .i64 x4, .int .i64 x5, .slice a6 n6 c6, .slice a7 n7 c7, .slice a8 n8 c8, .slice a9 n9 c9, .slice aA nA cA, .slice aB nB cB] 32 (0, 0)) := (hb2.block _ (Array.getElem?_eq_some_iff.1 HA.out.2).1).trans HA.out.2
  have hl2 := (Array.getElem?_eq_some_iff.1 hx2).1
  have FW3 : Hid (Ak.Fm w w.heap.size W2.heap.size #[.int .i64 12, .int .i64 x1, .int .i64 3, .int .i64 x3, .int .i64 x4, .int .i64 x5, .slice a6 n6 c6, .slice a7 n7 c7, .slice a8 n8 c8, .slice a9 n9 c9, .slice aA nA cA, .slice aB nB cB] hb W3) := by
    have b3 : Below W2.heap.size W2 W3 := by rw [← hW3]; exact (Below.refl _ W2).alloc (Nat.le_refl _) _
    have b2 : Below w.heap.size w W2 := HA.out.1.trans (hb2.mono HA.out.1.size)
    exact ⟨(b3.block _ hl2).trans hx2, by rw [← hW3]; exact heap_alloc_new W2 _, by omega, Nat.le_refl _, b2.size, b2.trans (b3.mono b2.size)⟩
  rw [hW3]
  obtain ⟨rb, hrb⟩ : ∃ z, W2.heap.size = z := ⟨_, rfl⟩
  rw [hrb] at FW3 ⊢
  clear hW3 hx2 hl2 hb2 hrb HA
  have k0 : W3.cell? ⟨w.heap.size, 0, none⟩ = some (.int .i64 12) := by simp [World.cell?, FW3.out.box]
  have CN : Hid _ := Tryz.hasNode_any 12 W3
  go_wp2_with fail
  refine Calls.mono CN.out ?_
  rintro e W4 ⟨rfl, hw4⟩
  obtain rfl := hw4.symm
  clear CN
  have ehn : Ac.hasNodeB 12 = true := rfl
  rw [ehn]
  clear ehn
  cases hb with
  | false =>
    have HN : Hid (¬ Q) := fun h => by have := (HQ.out.1 h).1; cases this
    have kx : W3.cell? ⟨w.heap.size, 1, none⟩ = some (.int .i64 x1) := by simp [World.cell?, FW3.out.box]
    go_wp2_with fail
    refine Calls.mono (Tryz.atake_any w.heap.size 1 rb x1 24 false W3 kx (FW3.out.fx 1) FW3.out.cr FW3.out.fr FW3.out.ne) ?_
    rintro e W11 ⟨rfl, hw2⟩
    have eb : (false && (decide (0 ≤ x1) && decide (x1 < 24))) = false := rfl
    have FW11 : Hid (Ak.Fm w w.heap.size rb #[.int .i64 12, .int .i64 0, .int .i64 3, .int .i64 x3, .int .i64 x4, .int .i64 x5, .slice a6 n6 c6, .slice a7 n7 c7, .slice a8 n8 c8, .slice a9 n9 c9, .slice aA nA cA, .slice aB nB cB] false W11) := by show Ak.Fm _ _ _ _ _ _; rw [hw2, eb]; exact (FW3.out.setR false).setX 1 (.int .i64 0)
    clear hw2 eb kx
    have kk : W11.cell? ⟨w.heap.size, 0, none⟩ = some (.int .i64 12) := by simp [World.cell?, FW11.out.box]
    have kk2 : W11.cell? ⟨w.heap.size, 2, none⟩ = some (.int .i64 3) := by simp [World.cell?, FW11.out.box]
    have kr := FW11.out.cr
    have fr := FW11.out.fr
    go_upto_region 36 with fail
    obtain ⟨W12, hW12⟩ : ∃ z, W11.setCell ⟨rb, 0, none⟩ (.bool false) = z := ⟨_, rfl⟩
    rw [hW12]
    have FW12 : Hid (Ak.Fm w w.heap.size rb #[.int .i64 12, .int .i64 0, .int .i64 3, .int .i64 x3, .int .i64 x4, .int .i64 x5, .slice a6 n6 c6, .slice a7 n7 c7, .slice a8 n8 c8, .slice a9 n9 c9, .slice aA nA cA, .slice aB nB cB] false W12) := by rw [← hW12]; exact FW11.out.setR false
    clear hW12 kr fr 
    have kx : W12.cell? ⟨w.heap.size, 3, none⟩ = some (.int .i64 x3) := by simp [World.cell?, FW12.out.box]
    have k7 : W12.cell? ⟨w.heap.size, 7, none⟩ = some (.slice a7 n7 c7) := by simp [World.cell?, FW12.out.box]
    go_wp2_with fail
    refine Calls.mono (Tryz.atake_any w.heap.size 3 rb x3 (n7 : Int) false W12 kx (FW12.out.fx 3) FW12.out.cr FW12.out.fr FW12.out.ne) ?_
    rintro e W13 ⟨rfl, hw2⟩
    have eb : (false && (decide (0 ≤ x3) && decide (x3 < (n7 : Int)))) = false := rfl
    have FW13 : Hid (Ak.Fm w w.heap.size rb #[.int .i64 12, .int .i64 0, .int .i64 3, .int .i64 0, .int .i64 x4, .int .i64 x5, .slice a6 n6 c6, .slice a7 n7 c7, .slice a8 n8 c8, .slice a9 n9 c9, .slice aA nA cA, .slice aB nB cB] false W13) := by show Ak.Fm _ _ _ _ _ _; rw [hw2, eb]; exact (FW12.out.setR false).setX 3 (.int .i64 0)
    clear hw2 eb kx k7
    have kz7 : W13.cell? ⟨w.heap.size, 7, none⟩ = some (.slice a7 n7 c7) := by simp [World.cell?, FW13.out.box]
    have fz7 := FW13.out.fx 7
    go_upto_region 38 with fail
    obtain ⟨W14, hW14⟩ : ∃ z, (W13.setCell ⟨w.heap.size, 7, none⟩ (.slice none 0 0)) = z := ⟨_, rfl⟩
    rw [hW14]
    have FW14 : Hid (Ak.Fm w w.heap.size rb #[.int .i64 12, .int .i64 0, .int .i64 3, .int .i64 0, .int .i64 x4, .int .i64 x5, .slice a6 n6 c6, .slice none 0 0, .slice a8 n8 c8, .slice a9 n9 c9, .slice aA nA cA, .slice aB nB cB] false W14) := by rw [← hW14]; exact (FW13.out.setX 7 (.slice none 0 0))
    clear hW14 kz7 fz7
    have kr := FW14.out.cr
    have fr := FW14.out.fr
    go_upto_region 39 with fail
    obtain ⟨W15, hW15⟩ : ∃ z, W14.setCell ⟨rb, 0, none⟩ (.bool false) = z := ⟨_, rfl⟩
    rw [hW15]
    have FW15 : Hid (Ak.Fm w w.heap.size rb #[.int .i64 12, .int .i64 0, .int .i64 3, .int .i64 0, .int .i64 x4, .int .i64 x5, .slice a6 n6 c6, .slice none 0 0, .slice a8 n8 c8, .slice a9 n9 c9, .slice aA nA cA, .slice aB nB cB] false W15) := by rw [← hW15]; exact FW14.out.setR false
    clear hW15 kr fr 
    have kx : W15.cell? ⟨w.heap.size, 2, none⟩ = some (.int .i64 3) := by simp [World.cell?, FW15.out.box]
    go_wp2_with fail
    refine Calls.mono (Tryz.atake_any w.heap.size 2 rb 3 5 false W15 kx (FW15.out.fx 2) FW15.out.cr FW15.out.fr FW15.out.ne) ?_
    rintro e W16 ⟨rfl, hw2⟩
    have eb : (false && (decide (0 ≤ (3 : Int)) && decide ((3 : Int) < 5))) = false := rfl
    have FW16 : Hid (Ak.Fm w w.heap.size rb #[.int .i64 12, .int .i64 0, .int .i64 0, .int .i64 0, .int .i64 x4, .int .i64 x5, .slice a6 n6 c6, .slice none 0 0, .slice a8 n8 c8, .slice a9 n9 c9, .slice aA nA cA, .slice aB nB cB] false W16) := by show Ak.Fm _ _ _ _ _ _; rw [hw2, eb]; exact (FW15.out.setR false).setX 2 (.int .i64 0)
    clear hw2 eb kx
    have kr := FW16.out.cr
    go_wp2
    go_ret
    exact ⟨Ak.Told.no HN.out, FW16.out.bel⟩
  | true =>
  by_cases q0 : 0 ≤ x1 ∧ x1 < 24
  · have Q0 : Hid (0 ≤ x1 ∧ x1 < 24) := q0
    have kx : W3.cell? ⟨w.heap.size, 1, none⟩ = some (.int .i64 x1) := by simp [World.cell?, FW3.out.box]
    go_wp2_with fail
    refine Calls.mono (Tryz.atake_any w.heap.size 1 rb x1 24 true W3 kx (FW3.out.fx 1) FW3.out.cr FW3.out.fr FW3.out.ne) ?_
    rintro e W17 ⟨rfl, hw2⟩
    have eb : (true && (decide (0 ≤ x1) && decide (x1 < 24))) = true := by rw [decide_eq_true q0.1, decide_eq_true q0.2]; rfl
    have FW17 : Hid (Ak.Fm w w.heap.size rb #[.int .i64 12, .int .i64 0, .int .i64 3, .int .i64 x3, .int .i64 x4, .int .i64 x5, .slice a6 n6 c6, .slice a7 n7 c7, .slice a8 n8 c8, .slice a9 n9 c9, .slice aA nA cA, .slice aB nB cB] true W17) := by show Ak.Fm _ _ _ _ _ _; rw [hw2, eb]; exact (FW3.out.setR true).setX 1 (.int .i64 0)
    clear hw2 eb kx
    have kk : W17.cell? ⟨w.heap.size, 0, none⟩ = some (.int .i64 12) := by simp [World.cell?, FW17.out.box]
    have kk2 : W17.cell? ⟨w.heap.size, 2, none⟩ = some (.int .i64 3) := by simp [World.cell?, FW17.out.box]
    by_cases q1 : ¬ 2 ≤ n7
    · have dq : decide ((2 : Int) ≤ n7) = false := decide_eq_false (by omega)
      have dq2 : ¬ (2 : Int) ≤ n7 := by omega
      have HN : Hid (¬ Q) := fun h => q1 (HQ.out.1 h).2.2.1
      clear q1
      have kr := FW17.out.cr
      have fr := FW17.out.fr
      have k7 : W17.cell? ⟨w.heap.size, 7, none⟩ = some (.slice a7 n7 c7) := by simp [World.cell?, FW17.out.box]
      go_upto_region 36 with fail
      obtain ⟨W18, hW18⟩ : ∃ z, W17.setCell ⟨rb, 0, none⟩ (.bool false) = z := ⟨_, rfl⟩
      rw [hW18]
      have FW18 : Hid (Ak.Fm w w.heap.size rb #[.int .i64 12, .int .i64 0, .int .i64 3, .int .i64 x3, .int .i64 x4, .int .i64 x5, .slice a6 n6 c6, .slice a7 n7 c7, .slice a8 n8 c8, .slice a9 n9 c9, .slice aA nA cA, .slice aB nB cB] false W18) := by rw [← hW18]; exact FW17.out.setR false
      clear hW18 kr fr k7
      have kx : W18.cell? ⟨w.heap.size, 3, none⟩ = some (.int .i64 x3) := by simp [World.cell?, FW18.out.box]
      have k7 : W18.cell? ⟨w.heap.size, 7, none⟩ = some (.slice a7 n7 c7) := by simp [World.cell?, FW18.out.box]
      go_wp2_with fail
      refine Calls.mono (Tryz.atake_any w.heap.size 3 rb x3 (n7 : Int) false W18 kx (FW18.out.fx 3) FW18.out.cr FW18.out.fr FW18.out.ne) ?_
      rintro e W19 ⟨rfl, hw2⟩
      have eb : (false && (decide (0 ≤ x3) && decide (x3 < (n7 : Int)))) = false := rfl
      have FW19 : Hid (Ak.Fm w w.heap.size rb #[.int .i64 12, .int .i64 0, .int .i64 3, .int .i64 0, .int .i64 x4, .int .i64 x5, .slice a6 n6 c6, .slice a7 n7 c7, .slice a8 n8 c8, .slice a9 n9 c9, .slice aA nA cA, .slice aB nB cB] false W19) := by show Ak.Fm _ _ _ _ _ _; rw [hw2, eb]; exact (FW18.out.setR false).setX 3 (.int .i64 0)
      clear hw2 eb kx k7
      have kz7 : W19.cell? ⟨w.heap.size, 7, none⟩ = some (.slice a7 n7 c7) := by simp [World.cell?, FW19.out.box]
      have fz7 := FW19.out.fx 7
      go_upto_region 38 with fail
      obtain ⟨W20, hW20⟩ : ∃ z, (W19.setCell ⟨w.heap.size, 7, none⟩ (.slice none 0 0)) = z := ⟨_, rfl⟩
      rw [hW20]
      have FW20 : Hid (Ak.Fm w w.heap.size rb #[.int .i64 12, .int .i64 0, .int .i64 3, .int .i64 0, .int .i64 x4, .int .i64 x5, .slice a6 n6 c6, .slice none 0 0, .slice a8 n8 c8, .slice a9 n9 c9, .slice aA nA cA, .slice aB nB cB] false W20) := by rw [← hW20]; exact (FW19.out.setX 7 (.slice none 0 0))
      clear hW20 kz7 fz7
      have kr := FW20.out.cr
      have fr := FW20.out.fr
      go_upto_region 39 with fail
      obtain ⟨W21, hW21⟩ : ∃ z, W20.setCell ⟨rb, 0, none⟩ (.bool false) = z := ⟨_, rfl⟩
      rw [hW21]
      have FW21 : Hid (Ak.Fm w w.heap.size rb #[.int .i64 12, .int .i64 0, .int .i64 3, .int .i64 0, .int .i64 x4, .int .i64 x5, .slice a6 n6 c6, .slice none 0 0, .slice a8 n8 c8, .slice a9 n9 c9, .slice aA nA cA, .slice aB nB cB] false W21) := by rw [← hW21]; exact FW20.out.setR false
      clear hW21 kr fr 
      have kx : W21.cell? ⟨w.heap.size, 2, none⟩ = some (.int .i64 3) := by simp [World.cell?, FW21.out.box]
      go_wp2_with fail
      refine Calls.mono (Tryz.atake_any w.heap.size 2 rb 3 5 false W21 kx (FW21.out.fx 2) FW21.out.cr FW21.out.fr FW21.out.ne) ?_
      rintro e W22 ⟨rfl, hw2⟩
      have eb : (false && (decide (0 ≤ (3 : Int)) && decide ((3 : Int) < 5))) = false := rfl
      have FW22 : Hid (Ak.Fm w w.heap.size rb #[.int .i64 12, .int .i64 0, .int .i64 0, .int .i64 0, .int .i64 x4, .int .i64 x5, .slice a6 n6 c6, .slice none 0 0, .slice a8 n8 c8, .slice a9 n9 c9, .slice aA nA cA, .slice aB nB cB] false W22) := by show Ak.Fm _ _ _ _ _ _; rw [hw2, eb]; exact (FW21.out.setR false).setX 2 (.int .i64 0)
      clear hw2 eb kx
      have kr := FW22.out.cr
      go_wp2
      go_ret
      exact ⟨Ak.Told.no HN.out, FW22.out.bel⟩
    replace q1 := Decidable.not_not.1 q1
    have Q1 : Hid (2 ≤ n7) := q1
    have dq : decide ((2 : Int) ≤ n7) = true := decide_eq_true (by omega)
    have dq2 : (2 : Int) ≤ n7 := by omega
    clear q1
    cases ob with
    | false =>
      have HN : Hid (¬ Q) := fun h => by have := (HQ.out.1 h).2.2.2.1; cases this
      have kr := FW17.out.cr
      have k3 : W17.cell? ⟨w.heap.size, 3, none⟩ = some (.int .i64 x3) := by simp [World.cell?, FW17.out.box]
      have k7 : W17.cell? ⟨w.heap.size, 7, none⟩ = some (.slice a7 n7 c7) := by simp [World.cell?, FW17.out.box]
      go_wp2_with fail
      refine Calls.mono (CC.out _ FW17.out.bel) ?_
      rintro e W23 ⟨rfl, hbe⟩
      have FW23 : Hid (Ak.Fm w w.heap.size rb #[.int .i64 12, .int .i64 0, .int .i64 3, .int .i64 x3, .int .i64 x4, .int .i64 x5, .slice a6 n6 c6, .slice a7 n7 c7, .slice a8 n8 c8, .slice a9 n9 c9, .slice aA nA cA, .slice aB nB cB] true W23) := FW17.out.below hbe
      clear hbe kr k3 k7
      have kr := FW23.out.cr
      have fr := FW23.out.fr
      go_upto_region 36 with fail
      obtain ⟨W24, hW24⟩ : ∃ z, W23.setCell ⟨rb, 0, none⟩ (.bool false) = z := ⟨_, rfl⟩
      rw [hW24]
      have FW24 : Hid (Ak.Fm w w.heap.size rb #[.int .i64 12, .int .i64 0, .int .i64 3, .int .i64 x3, .int .i64 x4, .int .i64 x5, .slice a6 n6 c6, .slice a7 n7 c7, .slice a8 n8 c8, .slice a9 n9 c9, .slice aA nA cA, .slice aB nB cB] false W24) := by rw [← hW24]; exact FW23.out.setR false
      clear hW24 kr fr
      have kx : W24.cell? ⟨w.heap.size, 3, none⟩ = some (.int .i64 x3) := by simp [World.cell?, FW24.out.box]
      have k7 : W24.cell? ⟨w.heap.size, 7, none⟩ = some (.slice a7 n7 c7) := by simp [World.cell?, FW24.out.box]
      go_wp2_with fail
      refine Calls.mono (Tryz.atake_any w.heap.size 3 rb x3 (n7 : Int) false W24 kx (FW24.out.fx 3) FW24.out.cr FW24.out.fr FW24.out.ne) ?_
      rintro e W25 ⟨rfl, hw2⟩
      have eb : (false && (decide (0 ≤ x3) && decide (x3 < (n7 : Int)))) = false := rfl
      have FW25 : Hid (Ak.Fm w w.heap.size rb #[.int .i64 12, .int .i64 0, .int .i64 3, .int .i64 0, .int .i64 x4, .int .i64 x5, .slice a6 n6 c6, .slice a7 n7 c7, .slice a8 n8 c8, .slice a9 n9 c9, .slice aA nA cA, .slice aB nB cB] false W25) := by show Ak.Fm _ _ _ _ _ _; rw [hw2, eb]; exact (FW24.out.setR false).setX 3 (.int .i64 0)
      clear hw2 eb kx k7
      have kz7 : W25.cell? ⟨w.heap.size, 7, none⟩ = some (.slice a7 n7 c7) := by simp [World.cell?, FW25.out.box]
      have fz7 := FW25.out.fx 7
      go_upto_region 38 with fail
      obtain ⟨W26, hW26⟩ : ∃ z, (W25.setCell ⟨w.heap.size, 7, none⟩ (.slice none 0 0)) = z := ⟨_, rfl⟩
      rw [hW26]
      have FW26 : Hid (Ak.Fm w w.heap.size rb #[.int .i64 12, .int .i64 0, .int .i64 3, .int .i64 0, .int .i64 x4, .int .i64 x5, .slice a6 n6 c6, .slice none 0 0, .slice a8 n8 c8, .slice a9 n9 c9, .slice aA nA cA, .slice aB nB cB] false W26) := by rw [← hW26]; exact (FW25.out.setX 7 (.slice none 0 0))
      clear hW26 kz7 fz7
      have kr := FW26.out.cr
      have fr := FW26.out.fr
      go_upto_region 39 with fail
      obtain ⟨W27, hW27⟩ : ∃ z, W26.setCell ⟨rb, 0, none⟩ (.bool false) = z := ⟨_, rfl⟩
      rw [hW27]
      have FW27 : Hid (Ak.Fm w w.heap.size rb #[.int .i64 12, .int .i64 0, .int .i64 3, .int .i64 0, .int .i64 x4, .int .i64 x5, .slice a6 n6 c6, .slice none 0 0, .slice a8 n8 c8, .slice a9 n9 c9, .slice aA nA cA, .slice aB nB cB] false W27) := by rw [← hW27]; exact FW26.out.setR false
      clear hW27 kr fr 
      have kx : W27.cell? ⟨w.heap.size, 2, none⟩ = some (.int .i64 3) := by simp [World.cell?, FW27.out.box]
      go_wp2_with fail
      refine Calls.mono (Tryz.atake_any w.heap.size 2 rb 3 5 false W27 kx (FW27.out.fx 2) FW27.out.cr FW27.out.fr FW27.out.ne) ?_
      rintro e W28 ⟨rfl, hw2⟩
      have eb : (false && (decide (0 ≤ (3 : Int)) && decide ((3 : Int) < 5))) = false := rfl
      have FW28 : Hid (Ak.Fm w w.heap.size rb #[.int .i64 12, .int .i64 0, .int .i64 0, .int .i64 0, .int .i64 x4, .int .i64 x5, .slice a6 n6 c6, .slice none 0 0, .slice a8 n8 c8, .slice a9 n9 c9, .slice aA nA cA, .slice aB nB cB] false W28) := by show Ak.Fm _ _ _ _ _ _; rw [hw2, eb]; exact (FW27.out.setR false).setX 2 (.int .i64 0)
      clear hw2 eb kx
      have kr := FW28.out.cr
      go_wp2
      go_ret
      exact ⟨Ak.Told.no HN.out, FW28.out.bel⟩
    | true =>
    have kr := FW17.out.cr
    have k3 : W17.cell? ⟨w.heap.size, 3, none⟩ = some (.int .i64 x3) := by simp [World.cell?, FW17.out.box]
    have k7 : W17.cell? ⟨w.heap.size, 7, none⟩ = some (.slice a7 n7 c7) := by simp [World.cell?, FW17.out.box]
    go_wp2_with fail
    refine Calls.mono (CC.out _ FW17.out.bel) ?_
    rintro e W29 ⟨rfl, hbe⟩
    have FW29 : Hid (Ak.Fm w w.heap.size rb #[.int .i64 12, .int .i64 0, .int .i64 3, .int .i64 x3, .int .i64 x4, .int .i64 x5, .slice a6 n6 c6, .slice a7 n7 c7, .slice a8 n8 c8, .slice a9 n9 c9, .slice aA nA cA, .slice aB nB cB] true W29) := FW17.out.below hbe
    clear hbe kr k3 k7
    have kr := FW29.out.cr
    have fr := FW29.out.fr
    go_upto_region 36 with fail
    obtain ⟨W30, hW30⟩ : ∃ z, W29.setCell ⟨rb, 0, none⟩ (.bool true) = z := ⟨_, rfl⟩
    rw [hW30]
    have FW30 : Hid (Ak.Fm w w.heap.size rb #[.int .i64 12, .int .i64 0, .int .i64 3, .int .i64 x3, .int .i64 x4, .int .i64 x5, .slice a6 n6 c6, .slice a7 n7 c7, .slice a8 n8 c8, .slice a9 n9 c9, .slice aA nA cA, .slice aB nB cB] true W30) := by rw [← hW30]; exact FW29.out.setR true
    clear hW30 kr fr
    by_cases q2 : 0 ≤ x3 ∧ x3 < (n7 : Int)
    · have Q2 : Hid (0 ≤ x3 ∧ x3 < (n7 : Int)) := q2
      have kx : W30.cell? ⟨w.heap.size, 3, none⟩ = some (.int .i64 x3) := by simp [World.cell?, FW30.out.box]
      have k7 : W30.cell? ⟨w.heap.size, 7, none⟩ = some (.slice a7 n7 c7) := by simp [World.cell?, FW30.out.box]
      go_wp2_with fail
      refine Calls.mono (Tryz.atake_any w.heap.size 3 rb x3 (n7 : Int) true W30 kx (FW30.out.fx 3) FW30.out.cr FW30.out.fr FW30.out.ne) ?_
      rintro e W31 ⟨rfl, hw2⟩
      have eb : (true && (decide (0 ≤ x3) && decide (x3 < (n7 : Int)))) = true := by rw [decide_eq_true q2.1, decide_eq_true q2.2]; rfl
      have FW31 : Hid (Ak.Fm w w.heap.size rb #[.int .i64 12, .int .i64 0, .int .i64 3, .int .i64 0, .int .i64 x4, .int .i64 x5, .slice a6 n6 c6, .slice a7 n7 c7, .slice a8 n8 c8, .slice a9 n9 c9, .slice aA nA cA, .slice aB nB cB] true W31) := by show Ak.Fm _ _ _ _ _ _; rw [hw2, eb]; exact (FW30.out.setR true).setX 3 (.int .i64 0)
      clear hw2 eb kx k7
      have kz7 : W31.cell? ⟨w.heap.size, 7, none⟩ = some (.slice a7 n7 c7) := by simp [World.cell?, FW31.out.box]
      have fz7 := FW31.out.fx 7
      go_upto_region 38 with fail
      obtain ⟨W32, hW32⟩ : ∃ z, (W31.setCell ⟨w.heap.size, 7, none⟩ (.slice none 0 0)) = z := ⟨_, rfl⟩
      rw [hW32]
      have FW32 : Hid (Ak.Fm w w.heap.size rb #[.int .i64 12, .int .i64 0, .int .i64 3, .int .i64 0, .int .i64 x4, .int .i64 x5, .slice a6 n6 c6, .slice none 0 0, .slice a8 n8 c8, .slice a9 n9 c9, .slice aA nA cA, .slice aB nB cB] true W32) := by rw [← hW32]; exact (FW31.out.setX 7 (.slice none 0 0))
      clear hW32 kz7 fz7
      have kr := FW32.out.cr
      have fr := FW32.out.fr
      have k2 : W32.cell? ⟨w.heap.size, 2, none⟩ = some (.int .i64 3) := by simp [World.cell?, FW32.out.box]
      go_upto_region 39 with fail
      obtain ⟨W33, hW33⟩ : ∃ z, W32.setCell ⟨rb, 0, none⟩ (.bool true) = z := ⟨_, rfl⟩
      rw [hW33]
      have FW33 : Hid (Ak.Fm w w.heap.size rb #[.int .i64 12, .int .i64 0, .int .i64 3, .int .i64 0, .int .i64 x4, .int .i64 x5, .slice a6 n6 c6, .slice none 0 0, .slice a8 n8 c8, .slice a9 n9 c9, .slice aA nA cA, .slice aB nB cB] true W33) := by rw [← hW33]; exact FW32.out.setR true
      clear hW33 kr fr k2
      have kx : W33.cell? ⟨w.heap.size, 2, none⟩ = some (.int .i64 3) := by simp [World.cell?, FW33.out.box]
      go_wp2_with fail
      refine Calls.mono (Tryz.atake_any w.heap.size 2 rb 3 5 true W33 kx (FW33.out.fx 2) FW33.out.cr FW33.out.fr FW33.out.ne) ?_
      rintro e W34 ⟨rfl, hw2⟩
      have eb : (true && (decide (0 ≤ (3 : Int)) && decide ((3 : Int) < 5))) = true := by decide
      have FW34 : Hid (Ak.Fm w w.heap.size rb #[.int .i64 12, .int .i64 0, .int .i64 0, .int .i64 0, .int .i64 x4, .int .i64 x5, .slice a6 n6 c6, .slice none 0 0, .slice a8 n8 c8, .slice a9 n9 c9, .slice aA nA cA, .slice aB nB cB] true W34) := by show Ak.Fm _ _ _ _ _ _; rw [hw2, eb]; exact (FW33.out.setR true).setX 2 (.int .i64 0)
      clear hw2 eb kx
      have kr := FW34.out.cr
      have k0 : W34.cell? ⟨w.heap.size, 0, none⟩ = some (.int .i64 12) := by simp [World.cell?, FW34.out.box]
      have k1 : W34.cell? ⟨w.heap.size, 1, none⟩ = some (.int .i64 0) := by simp [World.cell?, FW34.out.box]
      have k2 : W34.cell? ⟨w.heap.size, 2, none⟩ = some (.int .i64 0) := by simp [World.cell?, FW34.out.box]
      have k3 : W34.cell? ⟨w.heap.size, 3, none⟩ = some (.int .i64 0) := by simp [World.cell?, FW34.out.box]
      have k4 : W34.cell? ⟨w.heap.size, 4, none⟩ = some (.int .i64 x4) := by simp [World.cell?, FW34.out.box]
      have k5 : W34.cell? ⟨w.heap.size, 5, none⟩ = some (.int .i64 x5) := by simp [World.cell?, FW34.out.box]
      have k6 : W34.cell? ⟨w.heap.size, 6, none⟩ = some (.slice a6 n6 c6) := by simp [World.cell?, FW34.out.box]
      have k7 : W34.cell? ⟨w.heap.size, 7, none⟩ = some (.slice none 0 0) := by simp [World.cell?, FW34.out.box]
      have k8 : W34.cell? ⟨w.heap.size, 8, none⟩ = some (.slice a8 n8 c8) := by simp [World.cell?, FW34.out.box]
      have k9 : W34.cell? ⟨w.heap.size, 9, none⟩ = some (.slice a9 n9 c9) := by simp [World.cell?, FW34.out.box]
      have k10 : W34.cell? ⟨w.heap.size, 10, none⟩ = some (.slice aA nA cA) := by simp [World.cell?, FW34.out.box]
      have k11 : W34.cell? ⟨w.heap.size, 11, none⟩ = some (.slice aB nB cB) := by simp [World.cell?, FW34.out.box]
      go_wp2_with fail
      clear kr k0 k1 k2 k3 k4 k5 k6 k7 k8 k9 k10 k11
      refine Calls.mono (CA.out _ FW34.out.bel) ?_
      rintro e W35 ⟨⟨r, rfl, hr⟩, hbe⟩
      have FW35 : Hid (Ak.Fm w w.heap.size rb #[.int .i64 12, .int .i64 0, .int .i64 0, .int .i64 0, .int .i64 x4, .int .i64 x5, .slice a6 n6 c6, .slice none 0 0, .slice a8 n8 c8, .slice a9 n9 c9, .slice aA nA cA, .slice aB nB cB] true W35 ∧ (r = true ↔ P)) := ⟨FW34.out.below hbe, hr⟩
      clear hbe hr
      cases r with
      | false =>
        have HN : Hid (¬ Q) := fun h => by have := FW35.out.2.2 (HQ.out.1 h).2.2.2.2.2.2.2.1; simp at this
        go_wp2
        go_ret
        exact ⟨Ak.Told.no HN.out, FW35.out.1.bel⟩
      | true =>
      have HP : Hid P := FW35.out.2.1 (by first | rfl | trivial)
      have k8 : W35.cell? ⟨w.heap.size, 8, none⟩ = some (.slice a8 n8 c8) := by simp [World.cell?, FW35.out.1.box]
      by_cases qz : n8 = 0
      · have dz : ((n8 : Int) == 0) = true := by simp; omega
        have HZ : Hid (n8 = 0) := qz
        clear qz
        go_wp2
        go_ret
        exact ⟨Ak.Told.yes (HQ.out.2 ⟨(by first | rfl | trivial), Q0.out, Q1.out, (by first | rfl | trivial), Q2.out, trivial, trivial, HP.out, HZ.out⟩), FW35.out.1.bel⟩
      · have dz : ((n8 : Int) == 0) = false := by simp; omega
        have HN : Hid (¬ Q) := fun h => qz (HQ.out.1 h).2.2.2.2.2.2.2.2
        clear qz
        go_wp2
        go_ret
        exact ⟨Ak.Told.no HN.out, FW35.out.1.bel⟩
    · have HN : Hid (¬ Q) := fun h => q2 (HQ.out.1 h).2.2.2.2.1
      have kx : W30.cell? ⟨w.heap.size, 3, none⟩ = some (.int .i64 x3) := by simp [World.cell?, FW30.out.box]
      have k7 : W30.cell? ⟨w.heap.size, 7, none⟩ = some (.slice a7 n7 c7) := by simp [World.cell?, FW30.out.box]
      go_wp2_with fail
      refine Calls.mono (Tryz.atake_any w.heap.size 3 rb x3 (n7 : Int) true W30 kx (FW30.out.fx 3) FW30.out.cr FW30.out.fr FW30.out.ne) ?_
      rintro e W36 ⟨rfl, hw2⟩
      have eb : (true && (decide (0 ≤ x3) && decide (x3 < (n7 : Int)))) = false := by rw [Bool.true_and, Bool.and_eq_false_iff]; simp only [decide_eq_false_iff_not]; omega
      have FW36 : Hid (Ak.Fm w w.heap.size rb #[.int .i64 12, .int .i64 0, .int .i64 3, .int .i64 0, .int .i64 x4, .int .i64 x5, .slice a6 n6 c6, .slice a7 n7 c7, .slice a8 n8 c8, .slice a9 n9 c9, .slice aA nA cA, .slice aB nB cB] false W36) := by show Ak.Fm _ _ _ _ _ _; rw [hw2, eb]; exact (FW30.out.setR false).setX 3 (.int .i64 0)
      clear hw2 eb kx k7
      have kz7 : W36.cell? ⟨w.heap.size, 7, none⟩ = some (.slice a7 n7 c7) := by simp [World.cell?, FW36.out.box]
      have fz7 := FW36.out.fx 7
      go_upto_region 38 with fail
      obtain ⟨W37, hW37⟩ : ∃ z, (W36.setCell ⟨w.heap.size, 7, none⟩ (.slice none 0 0)) = z := ⟨_, rfl⟩
      rw [hW37]
      have FW37 : Hid (Ak.Fm w w.heap.size rb #[.int .i64 12, .int .i64 0, .int .i64 3, .int .i64 0, .int .i64 x4, .int .i64 x5, .slice a6 n6 c6, .slice none 0 0, .slice a8 n8 c8, .slice a9 n9 c9, .slice aA nA cA, .slice aB nB cB] false W37) := by rw [← hW37]; exact (FW36.out.setX 7 (.slice none 0 0))
      clear hW37 kz7 fz7
      have kr := FW37.out.cr
      have fr := FW37.out.fr
      go_upto_region 39 with fail
      obtain ⟨W38, hW38⟩ : ∃ z, W37.setCell ⟨rb, 0, none⟩ (.bool false) = z := ⟨_, rfl⟩
      rw [hW38]
      have FW38 : Hid (Ak.Fm w w.heap.size rb #[.int .i64 12, .int .i64 0, .int .i64 3, .int .i64 0, .int .i64 x4, .int .i64 x5, .slice a6 n6 c6, .slice none 0 0, .slice a8 n8 c8, .slice a9 n9 c9, .slice aA nA cA, .slice aB nB cB] false W38) := by rw [← hW38]; exact FW37.out.setR false
      clear hW38 kr fr 
      have kx : W38.cell? ⟨w.heap.size, 2, none⟩ = some (.int .i64 3) := by simp [World.cell?, FW38.out.box]
      go_wp2_with fail
      refine Calls.mono (Tryz.atake_any w.heap.size 2 rb 3 5 false W38 kx (FW38.out.fx 2) FW38.out.cr FW38.out.fr FW38.out.ne) ?_
      rintro e W39 ⟨rfl, hw2⟩
      have eb : (false && (decide (0 ≤ (3 : Int)) && decide ((3 : Int) < 5))) = false := rfl
      have FW39 : Hid (Ak.Fm w w.heap.size rb #[.int .i64 12, .int .i64 0, .int .i64 0, .int .i64 0, .int .i64 x4, .int .i64 x5, .slice a6 n6 c6, .slice none 0 0, .slice a8 n8 c8, .slice a9 n9 c9, .slice aA nA cA, .slice aB nB cB] false W39) := by show Ak.Fm _ _ _ _ _ _; rw [hw2, eb]; exact (FW38.out.setR false).setX 2 (.int .i64 0)
      clear hw2 eb kx
      have kr := FW39.out.cr
      go_wp2
      go_ret
      exact ⟨Ak.Told.no HN.out, FW39.out.bel⟩
  · have HN : Hid (¬ Q) := fun h => q0 (HQ.out.1 h).2.1
    have kx : W3.cell? ⟨w.heap.size, 1, none⟩ = some (.int .i64 x1) := by simp [World.cell?, FW3.out.box]
    go_wp2_with fail
    refine Calls.mono (Tryz.atake_any w.heap.size 1 rb x1 24 true W3 kx (FW3.out.fx 1) FW3.out.cr FW3.out.fr FW3.out.ne) ?_
    rintro e W40 ⟨rfl, hw2⟩
    have eb : (true && (decide (0 ≤ x1) && decide (x1 < 24))) = false := by rw [Bool.true_and, Bool.and_eq_false_iff]; simp only [decide_eq_false_iff_not]; omega
    have FW40 : Hid (Ak.Fm w w.heap.size rb #[.int .i64 12, .int .i64 0, .int .i64 3, .int .i64 x3, .int .i64 x4, .int .i64 x5, .slice a6 n6 c6, .slice a7 n7 c7, .slice a8 n8 c8, .slice a9 n9 c9, .slice aA nA cA, .slice aB nB cB] false W40) := by show Ak.Fm _ _ _ _ _ _; rw [hw2, eb]; exact (FW3.out.setR false).setX 1 (.int .i64 0)
    clear hw2 eb kx
    have kk : W40.cell? ⟨w.heap.size, 0, none⟩ = some (.int .i64 12) := by simp [World.cell?, FW40.out.box]
    have kk2 : W40.cell? ⟨w.heap.size, 2, none⟩ = some (.int .i64 3) := by simp [World.cell?, FW40.out.box]
    have kr := FW40.out.cr
    have fr := FW40.out.fr
    go_upto_region 36 with fail
    obtain ⟨W41, hW41⟩ : ∃ z, W40.setCell ⟨rb, 0, none⟩ (.bool false) = z := ⟨_, rfl⟩
    rw [hW41]
    have FW41 : Hid (Ak.Fm w w.heap.size rb #[.int .i64 12, .int .i64 0, .int .i64 3, .int .i64 x3, .int .i64 x4, .int .i64 x5, .slice a6 n6 c6, .slice a7 n7 c7, .slice a8 n8 c8, .slice a9 n9 c9, .slice aA nA cA, .slice aB nB cB] false W41) := by rw [← hW41]; exact FW40.out.setR false
    clear hW41 kr fr 
    have kx : W41.cell? ⟨w.heap.size, 3, none⟩ = some (.int .i64 x3) := by simp [World.cell?, FW41.out.box]
    have k7 : W41.cell? ⟨w.heap.size, 7, none⟩ = some (.slice a7 n7 c7) := by simp [World.cell?, FW41.out.box]
    go_wp2_with fail
    refine Calls.mono (Tryz.atake_any w.heap.size 3 rb x3 (n7 : Int) false W41 kx (FW41.out.fx 3) FW41.out.cr FW41.out.fr FW41.out.ne) ?_
    rintro e W42 ⟨rfl, hw2⟩
    have eb : (false && (decide (0 ≤ x3) && decide (x3 < (n7 : Int)))) = false := rfl
    have FW42 : Hid (Ak.Fm w w.heap.size rb #[.int .i64 12, .int .i64 0, .int .i64 3, .int .i64 0, .int .i64 x4, .int .i64 x5, .slice a6 n6 c6, .slice a7 n7 c7, .slice a8 n8 c8, .slice a9 n9 c9, .slice aA nA cA, .slice aB nB cB] false W42) := by show Ak.Fm _ _ _ _ _ _; rw [hw2, eb]; exact (FW41.out.setR false).setX 3 (.int .i64 0)
    clear hw2 eb kx k7
    have kz7 : W42.cell? ⟨w.heap.size, 7, none⟩ = some (.slice a7 n7 c7) := by simp [World.cell?, FW42.out.box]
    have fz7 := FW42.out.fx 7
    go_upto_region 38 with fail
    obtain ⟨W43, hW43⟩ : ∃ z, (W42.setCell ⟨w.heap.size, 7, none⟩ (.slice none 0 0)) = z := ⟨_, rfl⟩
    rw [hW43]
    have FW43 : Hid (Ak.Fm w w.heap.size rb #[.int .i64 12, .int .i64 0, .int .i64 3, .int .i64 0, .int .i64 x4, .int .i64 x5, .slice a6 n6 c6, .slice none 0 0, .slice a8 n8 c8, .slice a9 n9 c9, .slice aA nA cA, .slice aB nB cB] false W43) := by rw [← hW43]; exact (FW42.out.setX 7 (.slice none 0 0))
    clear hW43 kz7 fz7
    have kr := FW43.out.cr
    have fr := FW43.out.fr
    go_upto_region 39 with fail
    obtain ⟨W44, hW44⟩ : ∃ z, W43.setCell ⟨rb, 0, none⟩ (.bool false) = z := ⟨_, rfl⟩
    rw [hW44]
    have FW44 : Hid (Ak.Fm w w.heap.size rb #[.int .i64 12, .int .i64 0, .int .i64 3, .int .i64 0, .int .i64 x4, .int .i64 x5, .slice a6 n6 c6, .slice none 0 0, .slice a8 n8 c8, .slice a9 n9 c9, .slice aA nA cA, .slice aB nB cB] false W44) := by rw [← hW44]; exact FW43.out.setR false
    clear hW44 kr fr 
    have kx : W44.cell? ⟨w.heap.size, 2, none⟩ = some (.int .i64 3) := by simp [World.cell?, FW44.out.box]
    go_wp2_with fail
    refine Calls.mono (Tryz.atake_any w.heap.size 2 rb 3 5 false W44 kx (FW44.out.fx 2) FW44.out.cr FW44.out.fr FW44.out.ne) ?_
    rintro e W45 ⟨rfl, hw2⟩
    have eb : (false && (decide (0 ≤ (3 : Int)) && decide ((3 : Int) < 5))) = false := rfl
    have FW45 : Hid (Ak.Fm w w.heap.size rb #[.int .i64 12, .int .i64 0, .int .i64 0, .int .i64 0, .int .i64 x4, .int .i64 x5, .slice a6 n6 c6, .slice none 0 0, .slice a8 n8 c8, .slice a9 n9 c9, .slice aA nA cA, .slice aB nB cB] false W45) := by show Ak.Fm _ _ _ _ _ _; rw [hw2, eb]; exact (FW44.out.setR false).setX 2 (.int .i64 0)
    clear hw2 eb kx
    have kr := FW45.out.cr
    go_wp2
    go_ret
    exact ⟨Ak.Told.no HN.out, FW45.out.bel⟩
end Go.Proofs
