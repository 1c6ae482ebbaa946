import Derived.Test.YtmomffminkflnaaGreatDoorRAllNtOne
namespace Go.Proofs
open Go.RowKit Go.Shelf
set_option maxRecDepth 20000 in
set_option maxHeartbeats 16000000 in
theorem Tryz.fm_1 (x1 x2 x3 x4 x5 : Int) (a6 a7 a8 a9 aA aB : Option Addr) (n6 c6 n7 c7 n8 c8 n9 c9 nA cA nB cB : Nat) (w : World) (hb : Bool) (P : Prop) (_hn7 : n7 ≤ 1000) (_hn8 : n8 ≤ 1000) (CH0 : ∀ W, Below w.heap.size w W → Calls Tryz.prog 58 #[.agg #[.int .i64 1, .int .i64 x1, .int .i64 x2, .int .i64 x3, .int .i64 x4, .int .i64 x5, .slice a6 n6 c6, .slice a7 n7 c7, .slice a8 n8 c8, .slice a9 n9 c9, .slice aA nA cA, .slice aB nB cB]] W fun e w' => e = .returned (.bool hb) ∧ Below W.heap.size W w') (CA0 : ∀ W, Below w.heap.size w W → Calls Tryz.prog 65 #[.agg #[.int .i64 1, .int .i64 x1, .int .i64 x2, .int .i64 x3, .int .i64 x4, .int .i64 x5, .slice a6 n6 c6, .slice a7 n7 c7, .slice a8 n8 c8, .slice a9 n9 c9, .slice aA nA cA, .slice aB nB cB], .agg #[.int .i64 1, .int .i64 0, .int .i64 0, .int .i64 0, .int .i64 0, .int .i64 0, .slice none 0 0, .slice none 0 0, .slice none 0 0, .slice none 0 0, .slice none 0 0, .slice none 0 0]] W fun e w' => Ak.Told P e ∧ Below W.heap.size W w') :
    Calls Tryz.prog 48 #[.agg #[.int .i64 1, .int .i64 x1, .int .i64 x2, .int .i64 x3, .int .i64 x4, .int .i64 x5, .slice a6 n6 c6, .slice a7 n7 c7, .slice a8 n8 c8, .slice a9 n9 c9, .slice aA nA cA, .slice aB nB cB]] w fun e w' => Ak.Told (hb = true ∧ P ∧ n8 = 0) e ∧ Below w.heap.size w w' := by
  obtain ⟨Q, hQ⟩ : ∃ Q : Prop, (hb = true ∧ P ∧ n8 = 0) = Q := ⟨_, rfl⟩
  rw [hQ]
  have HQ : Hid (Q ↔ hb = true ∧ P ∧ n8 = 0) := by rw [← hQ]; exact Iff.rfl
  have CH : Hid _ := CH0
  have CA : Hid _ := CA0
  obtain ⟨w1, hw1⟩ : ∃ x, w.alloc (.cells #[.int .i64 1, .int .i64 x1, .int .i64 x2, .int .i64 x3, .int .i64 x4, .int .i64 x5, .slice a6 n6 c6, .slice a7 n7 c7, .slice a8 n8 c8, .slice a9 n9 c9, .slice aA nA cA, .slice aB nB cB] 32) = x := ⟨_, rfl⟩
  have A1 : Below w.heap.size w w1 := by rw [← hw1]; exact (Below.refl _ w).alloc (Nat.le_refl _) _
  have G1 : w1.heap[w.heap.size]? = some (.cells #[.int .i64 1, .int .i64 x1, .int .i64 x2, .int .i64 x3, .int .i64 x4, .int .i64 x5, .slice a6 n6 c6, .slice a7 n7 c7, .slice a8 n8 c8, .slice a9 n9 c9, .slice aA nA cA, .slice aB nB cB] 32 (0, 0)) := by rw [← hw1]; exact heap_alloc_new w _
  have ca : w1.cell? ⟨w.heap.size, 0, none⟩ = some (.int .i64 1) ∧ w1.cell? ⟨w.heap.size, 1, none⟩ = some (.int .i64 x1) ∧ w1.cell? ⟨w.heap.size, 2, none⟩ = some (.int .i64 x2) ∧ w1.cell? ⟨w.heap.size, 3, none⟩ = some (.int .i64 x3) ∧ w1.cell? ⟨w.heap.size, 4, none⟩ = some (.int .i64 x4) ∧ w1.cell? ⟨w.heap.size, 5, none⟩ = some (.int .i64 x5) ∧ w1.cell? ⟨w.heap.size, 6, none⟩ = some (.slice a6 n6 c6) ∧ w1.cell? ⟨w.heap.size, 7, none⟩ = some (.slice a7 n7 c7) ∧ w1.cell? ⟨w.heap.size, 8, none⟩ = some (.slice a8 n8 c8) ∧ w1.cell? ⟨w.heap.size, 9, none⟩ = some (.slice a9 n9 c9) ∧ w1.cell? ⟨w.heap.size, 10, none⟩ = some (.slice aA nA cA) ∧ w1.cell? ⟨w.heap.size, 11, none⟩ = some (.slice aB nB cB) := by simp [World.cell?, G1]
  obtain ⟨m0, m1, m2, m3, m4, m5, m6, m7, m8, m9, m10, m11⟩ := ca
  have H1 : Hid (w.alloc (.cells #[.int .i64 1, .int .i64 x1, .int .i64 x2, .int .i64 x3, .int .i64 x4, .int .i64 x5, .slice a6 n6 c6, .slice a7 n7 c7, .slice a8 n8 c8, .slice a9 n9 c9, .slice aA nA cA, .slice aB nB cB] 32) = w1) := hw1
  have HA : Hid (Below w.heap.size w w1 ∧ w1.heap[w.heap.size]? = some (.cells #[.int .i64 1, .int .i64 x1, .int .i64 x2, .int .i64 x3, .int .i64 x4, .int .i64 x5, .slice a6 n6 c6, .slice a7 n7 c7, .slice a8 n8 c8, .slice a9 n9 c9, .slice aA nA cA, .slice aB nB cB] 32 (0, 0))) := ⟨A1, G1⟩
  clear hw1 A1 G1 CH0 CA0 hQ
  go_enter Tryz.func48, Tryz.ntmps48
  go_upto_region 1 with fail
  rw [H1.out]
  go_wp2_with fail
  refine Calls.mono (CH.out _ HA.out.1) ?_
  rintro e W2 ⟨rfl, hb2⟩
  clear H1 CH m0 m1 m2 m3 m4 m5 m6 m7 m8 m9 m10 m11
  go_upto_region 3 with fail
  obtain ⟨W3, hW3⟩ : ∃ z, W2.alloc (.cells #[.bool hb] 4) = z := ⟨_, rfl⟩
  have hx2 : W2.heap[w.heap.size]? = some (.cells #[.int .i64 1, .int .i64 x1, .int .i64 x2, .int .i64 x3, .int .i64 x4, .int .i64 x5, .slice a6 n6 c6, .slice a7 n7 c7, .slice a8 n8 c8, .slice a9 n9 c9, .slice aA nA cA, .slice aB nB cB] 32 (0, 0)) := (hb2.block _ (Array.getElem?_eq_some_iff.1 HA.out.2).1).trans HA.out.2
  have hl2 := (Array.getElem?_eq_some_iff.1 hx2).1
  have FW3 : Hid (Ak.Fm w w.heap.size W2.heap.size #[.int .i64 1, .int .i64 x1, .int .i64 x2, .int .i64 x3, .int .i64 x4, .int .i64 x5, .slice a6 n6 c6, .slice a7 n7 c7, .slice a8 n8 c8, .slice a9 n9 c9, .slice aA nA cA, .slice aB nB cB] hb W3) := by
    have b3 : Below W2.heap.size W2 W3 := by rw [← hW3]; exact (Below.refl _ W2).alloc (Nat.le_refl _) _
    have b2 : Below w.heap.size w W2 := HA.out.1.trans (hb2.mono HA.out.1.size)
    exact ⟨(b3.block _ hl2).trans hx2, by rw [← hW3]; exact heap_alloc_new W2 _, by omega, Nat.le_refl _, b2.size, b2.trans (b3.mono b2.size)⟩
  rw [hW3]
  obtain ⟨rb, hrb⟩ : ∃ z, W2.heap.size = z := ⟨_, rfl⟩
  rw [hrb] at FW3 ⊢
  clear hW3 hx2 hl2 hb2 hrb HA
  have k0 : W3.cell? ⟨w.heap.size, 0, none⟩ = some (.int .i64 1) := by simp [World.cell?, FW3.out.box]
  have CN : Hid _ := Tryz.hasNode_any 1 W3
  go_wp2_with fail
  refine Calls.mono CN.out ?_
  rintro e W4 ⟨rfl, hw4⟩
  obtain rfl := hw4.symm
  clear CN
  have ehn : Ac.hasNodeB 1 = false := rfl
  rw [ehn]
  clear ehn
  cases hb with
  | false =>
    have HN : Hid (¬ Q) := fun h => by have := (HQ.out.1 h).1; cases this
    have kr := FW3.out.cr
    go_wp2
    go_ret
    exact ⟨Ak.Told.no HN.out, FW3.out.bel⟩
  | true =>
  have kr := FW3.out.cr
  have k0 : W3.cell? ⟨w.heap.size, 0, none⟩ = some (.int .i64 1) := by simp [World.cell?, FW3.out.box]
  have k1 : W3.cell? ⟨w.heap.size, 1, none⟩ = some (.int .i64 x1) := by simp [World.cell?, FW3.out.box]
  have k2 : W3.cell? ⟨w.heap.size, 2, none⟩ = some (.int .i64 x2) := by simp [World.cell?, FW3.out.box]
  have k3 : W3.cell? ⟨w.heap.size, 3, none⟩ = some (.int .i64 x3) := by simp [World.cell?, FW3.out.box]
  have k4 : W3.cell? ⟨w.heap.size, 4, none⟩ = some (.int .i64 x4) := by simp [World.cell?, FW3.out.box]
  have k5 : W3.cell? ⟨w.heap.size, 5, none⟩ = some (.int .i64 x5) := by simp [World.cell?, FW3.out.box]
  have k6 : W3.cell? ⟨w.heap.size, 6, none⟩ = some (.slice a6 n6 c6) := by simp [World.cell?, FW3.out.box]
  have k7 : W3.cell? ⟨w.heap.size, 7, none⟩ = some (.slice a7 n7 c7) := by simp [World.cell?, FW3.out.box]
  have k8 : W3.cell? ⟨w.heap.size, 8, none⟩ = some (.slice a8 n8 c8) := by simp [World.cell?, FW3.out.box]
  have k9 : W3.cell? ⟨w.heap.size, 9, none⟩ = some (.slice a9 n9 c9) := by simp [World.cell?, FW3.out.box]
  have k10 : W3.cell? ⟨w.heap.size, 10, none⟩ = some (.slice aA nA cA) := by simp [World.cell?, FW3.out.box]
  have k11 : W3.cell? ⟨w.heap.size, 11, none⟩ = some (.slice aB nB cB) := by simp [World.cell?, FW3.out.box]
  go_wp2_with fail
  clear kr k0 k1 k2 k3 k4 k5 k6 k7 k8 k9 k10 k11
  refine Calls.mono (CA.out _ FW3.out.bel) ?_
  rintro e W11 ⟨⟨r, rfl, hr⟩, hbe⟩
  have FW11 : Hid (Ak.Fm w w.heap.size rb #[.int .i64 1, .int .i64 x1, .int .i64 x2, .int .i64 x3, .int .i64 x4, .int .i64 x5, .slice a6 n6 c6, .slice a7 n7 c7, .slice a8 n8 c8, .slice a9 n9 c9, .slice aA nA cA, .slice aB nB cB] true W11 ∧ (r = true ↔ P)) := ⟨FW3.out.below hbe, hr⟩
  clear hbe hr
  cases r with
  | false =>
    have HN : Hid (¬ Q) := fun h => by have := FW11.out.2.2 (HQ.out.1 h).2.1; simp at this
    go_wp2
    go_ret
    exact ⟨Ak.Told.no HN.out, FW11.out.1.bel⟩
  | true =>
  have HP : Hid P := FW11.out.2.1 (by first | rfl | trivial)
  have k8 : W11.cell? ⟨w.heap.size, 8, none⟩ = some (.slice a8 n8 c8) := by simp [World.cell?, FW11.out.1.box]
  by_cases qz : n8 = 0
  · have dz : ((n8 : Int) == 0) = true := by simp; omega
    have HZ : Hid (n8 = 0) := qz
    clear qz
    go_wp2
    go_ret
    exact ⟨Ak.Told.yes (HQ.out.2 ⟨(by first | rfl | trivial), HP.out, HZ.out⟩), FW11.out.1.bel⟩
  · have dz : ((n8 : Int) == 0) = false := by simp; omega
    have HN : Hid (¬ Q) := fun h => qz (HQ.out.1 h).2.2
    clear qz
    go_wp2
    go_ret
    exact ⟨Ak.Told.no HN.out, FW11.out.1.bel⟩
set_option maxRecDepth 20000 in
set_option maxHeartbeats 16000000 in
theorem Tryz.fm_5 (x1 x2 x3 x4 x5 : Int) (a6 a7 a8 a9 aA aB : Option Addr) (n6 c6 n7 c7 n8 c8 n9 c9 nA cA nB cB : Nat) (w : World) (hb : Bool) (P : Prop) (_hn7 : n7 ≤ 1000) (_hn8 : n8 ≤ 1000) (CH0 : ∀ W, Below w.heap.size w W → Calls Tryz.prog 58 #[.agg #[.int .i64 5, .int .i64 x1, .int .i64 x2, .int .i64 x3, .int .i64 x4, .int .i64 x5, .slice a6 n6 c6, .slice a7 n7 c7, .slice a8 n8 c8, .slice a9 n9 c9, .slice aA nA cA, .slice aB nB cB]] W fun e w' => e = .returned (.bool hb) ∧ Below W.heap.size W w') (CA0 : ∀ W, Below w.heap.size w W → Calls Tryz.prog 65 #[.agg #[.int .i64 5, .int .i64 0, .int .i64 x2, .int .i64 x3, .int .i64 x4, .int .i64 x5, .slice a6 n6 c6, .slice a7 n7 c7, .slice a8 n8 c8, .slice a9 n9 c9, .slice aA nA cA, .slice aB nB cB], .agg #[.int .i64 5, .int .i64 0, .int .i64 0, .int .i64 0, .int .i64 0, .int .i64 0, .slice none 0 0, .slice none 0 0, .slice none 0 0, .slice none 0 0, .slice none 0 0, .slice none 0 0]] W fun e w' => Ak.Told P e ∧ Below W.heap.size W w') :
    Calls Tryz.prog 48 #[.agg #[.int .i64 5, .int .i64 x1, .int .i64 x2, .int .i64 x3, .int .i64 x4, .int .i64 x5, .slice a6 n6 c6, .slice a7 n7 c7, .slice a8 n8 c8, .slice a9 n9 c9, .slice aA nA cA, .slice aB nB cB]] w fun e w' => Ak.Told (hb = true ∧ (0 ≤ x1 ∧ x1 < 24) ∧ P ∧ n8 = 0) e ∧ Below w.heap.size w w' := by
  obtain ⟨Q, hQ⟩ : ∃ Q : Prop, (hb = true ∧ (0 ≤ x1 ∧ x1 < 24) ∧ P ∧ n8 = 0) = Q := ⟨_, rfl⟩
  rw [hQ]
  have HQ : Hid (Q ↔ hb = true ∧ (0 ≤ x1 ∧ x1 < 24) ∧ P ∧ n8 = 0) := by rw [← hQ]; exact Iff.rfl
  have CH : Hid _ := CH0
  have CA : Hid _ := CA0
  obtain ⟨w1, hw1⟩ : ∃ x, w.alloc (.cells #[.int .i64 5, .int .i64 x1, .int .i64 x2, .int .i64 x3, .int .i64 x4, .int .i64 x5, .slice a6 n6 c6, .slice a7 n7 c7, .slice a8 n8 c8, .slice a9 n9 c9, .slice aA nA cA, .slice aB nB cB] 32) = x := ⟨_, rfl⟩
  have A1 : Below w.heap.size w w1 := by rw [← hw1]; exact (Below.refl _ w).alloc (Nat.le_refl _) _
  have G1 : w1.heap[w.heap.size]? = some (.cells #[.int .i64 5, .int .i64 x1, .int .i64 x2, .int .i64 x3, .int .i64 x4, .int .i64 x5, .slice a6 n6 c6, .slice a7 n7 c7, .slice a8 n8 c8, .slice a9 n9 c9, .slice aA nA cA, .slice aB nB cB] 32 (0, 0)) := by rw [← hw1]; exact heap_alloc_new w _
  have ca : w1.cell? ⟨w.heap.size, 0, none⟩ = some (.int .i64 5) ∧ w1.cell? ⟨w.heap.size, 1, none⟩ = some (.int .i64 x1) ∧ w1.cell? ⟨w.heap.size, 2, none⟩ = some (.int .i64 x2) ∧ w1.cell? ⟨w.heap.size, 3, none⟩ = some (.int .i64 x3) ∧ w1.cell? ⟨w.heap.size, 4, none⟩ = some (.int .i64 x4) ∧ w1.cell? ⟨w.heap.size, 5, none⟩ = some (.int .i64 x5) ∧ w1.cell? ⟨w.heap.size, 6, none⟩ = some (.slice a6 n6 c6) ∧ w1.cell? ⟨w.heap.size, 7, none⟩ = some (.slice a7 n7 c7) ∧ w1.cell? ⟨w.heap.size, 8, none⟩ = some (.slice a8 n8 c8) ∧ w1.cell? ⟨w.heap.size, 9, none⟩ = some (.slice a9 n9 c9) ∧ w1.cell? ⟨w.heap.size, 10, none⟩ = some (.slice aA nA cA) ∧ w1.cell? ⟨w.heap.size, 11, none⟩ = some (.slice aB nB cB) := by simp [World.cell?, G1]
  obtain ⟨m0, m1, m2, m3, m4, m5, m6, m7, m8, m9, m10, m11⟩ := ca
  have H1 : Hid (w.alloc (.cells #[.int .i64 5, .int .i64 x1, .int .i64 x2, .int .i64 x3, .int .i64 x4, .int .i64 x5, .slice a6 n6 c6, .slice a7 n7 c7, .slice a8 n8 c8, .slice a9 n9 c9, .slice aA nA cA, .slice aB nB cB] 32) = w1) := hw1
  have HA : Hid (Below w.heap.size w w1 ∧ w1.heap[w.heap.size]? = some (.cells #[.int .i64 5, .int .i64 x1, .int .i64 x2, .int .i64 x3, .int .i64 x4, .int .i64 x5, .slice a6 n6 c6, .slice a7 n7 c7, .slice a8 n8 c8, .slice a9 n9 c9, .slice aA nA cA, .slice aB nB cB] 32 (0, 0))) := ⟨A1, G1⟩
  clear hw1 A1 G1 CH0 CA0 hQ
  go_enter Tryz.func48, Tryz.ntmps48
  go_upto_region 1 with fail
  rw [H1.out]
  go_wp2_with fail
  refine Calls.mono (CH.out _ HA.out.1) ?_
  rintro e W2 ⟨rfl, hb2⟩
  clear H1 CH m0 m1 m2 m3 m4 m5 m6 m7 m8 m9 m10 m11
  go_upto_region 3 with fail
  obtain ⟨W3, hW3⟩ : ∃ z, W2.alloc (.cells #[.bool hb] 4) = z := ⟨_, rfl⟩
  have hx2 : W2.heap[w.heap.size]? = some (.cells #[.int .i64 5, .int .i64 x1, .int .i64 x2, .int .i64 x3, .int .i64 x4, .int .i64 x5, .slice a6 n6 c6, .slice a7 n7 c7, .slice a8 n8 c8, .slice a9 n9 c9, .slice aA nA cA, .slice aB nB cB] 32 (0, 0)) := (hb2.block _ (Array.getElem?_eq_some_iff.1 HA.out.2).1).trans HA.out.2
  have hl2 := (Array.getElem?_eq_some_iff.1 hx2).1
  have FW3 : Hid (Ak.Fm w w.heap.size W2.heap.size #[.int .i64 5, .int .i64 x1, .int .i64 x2, .int .i64 x3, .int .i64 x4, .int .i64 x5, .slice a6 n6 c6, .slice a7 n7 c7, .slice a8 n8 c8, .slice a9 n9 c9, .slice aA nA cA, .slice aB nB cB] hb W3) := by
    have b3 : Below W2.heap.size W2 W3 := by rw [← hW3]; exact (Below.refl _ W2).alloc (Nat.le_refl _) _
    have b2 : Below w.heap.size w W2 := HA.out.1.trans (hb2.mono HA.out.1.size)
    exact ⟨(b3.block _ hl2).trans hx2, by rw [← hW3]; exact heap_alloc_new W2 _, by omega, Nat.le_refl _, b2.size, b2.trans (b3.mono b2.size)⟩
  rw [hW3]
  obtain ⟨rb, hrb⟩ : ∃ z, W2.heap.size = z := ⟨_, rfl⟩
  rw [hrb] at FW3 ⊢
  clear hW3 hx2 hl2 hb2 hrb HA
  have k0 : W3.cell? ⟨w.heap.size, 0, none⟩ = some (.int .i64 5) := by simp [World.cell?, FW3.out.box]
  have CN : Hid _ := Tryz.hasNode_any 5 W3
  go_wp2_with fail
  refine Calls.mono CN.out ?_
  rintro e W4 ⟨rfl, hw4⟩
  obtain rfl := hw4.symm
  clear CN
  have ehn : Ac.hasNodeB 5 = true := rfl
  rw [ehn]
  clear ehn
  cases hb with
  | false =>
    have HN : Hid (¬ Q) := fun h => by have := (HQ.out.1 h).1; cases this
    have kx : W3.cell? ⟨w.heap.size, 1, none⟩ = some (.int .i64 x1) := by simp [World.cell?, FW3.out.box]
    go_wp2_with fail
    refine Calls.mono (Tryz.atake_any w.heap.size 1 rb x1 24 false W3 kx (FW3.out.fx 1) FW3.out.cr FW3.out.fr FW3.out.ne) ?_
    rintro e W11 ⟨rfl, hw2⟩
    have eb : (false && (decide (0 ≤ x1) && decide (x1 < 24))) = false := rfl
    have FW11 : Hid (Ak.Fm w w.heap.size rb #[.int .i64 5, .int .i64 0, .int .i64 x2, .int .i64 x3, .int .i64 x4, .int .i64 x5, .slice a6 n6 c6, .slice a7 n7 c7, .slice a8 n8 c8, .slice a9 n9 c9, .slice aA nA cA, .slice aB nB cB] false W11) := by show Ak.Fm _ _ _ _ _ _; rw [hw2, eb]; exact (FW3.out.setR false).setX 1 (.int .i64 0)
    clear hw2 eb kx
    have kk : W11.cell? ⟨w.heap.size, 0, none⟩ = some (.int .i64 5) := by simp [World.cell?, FW11.out.box]
    have kr := FW11.out.cr
    go_wp2
    go_ret
    exact ⟨Ak.Told.no HN.out, FW11.out.bel⟩
  | true =>
  by_cases q0 : 0 ≤ x1 ∧ x1 < 24
  · have Q0 : Hid (0 ≤ x1 ∧ x1 < 24) := q0
    have kx : W3.cell? ⟨w.heap.size, 1, none⟩ = some (.int .i64 x1) := by simp [World.cell?, FW3.out.box]
    go_wp2_with fail
    refine Calls.mono (Tryz.atake_any w.heap.size 1 rb x1 24 true W3 kx (FW3.out.fx 1) FW3.out.cr FW3.out.fr FW3.out.ne) ?_
    rintro e W12 ⟨rfl, hw2⟩
    have eb : (true && (decide (0 ≤ x1) && decide (x1 < 24))) = true := by rw [decide_eq_true q0.1, decide_eq_true q0.2]; rfl
    have FW12 : Hid (Ak.Fm w w.heap.size rb #[.int .i64 5, .int .i64 0, .int .i64 x2, .int .i64 x3, .int .i64 x4, .int .i64 x5, .slice a6 n6 c6, .slice a7 n7 c7, .slice a8 n8 c8, .slice a9 n9 c9, .slice aA nA cA, .slice aB nB cB] true W12) := by show Ak.Fm _ _ _ _ _ _; rw [hw2, eb]; exact (FW3.out.setR true).setX 1 (.int .i64 0)
    clear hw2 eb kx
    have kk : W12.cell? ⟨w.heap.size, 0, none⟩ = some (.int .i64 5) := by simp [World.cell?, FW12.out.box]
    have kr := FW12.out.cr
    have k0 : W12.cell? ⟨w.heap.size, 0, none⟩ = some (.int .i64 5) := by simp [World.cell?, FW12.out.box]
    have k1 : W12.cell? ⟨w.heap.size, 1, none⟩ = some (.int .i64 0) := by simp [World.cell?, FW12.out.box]
    have k2 : W12.cell? ⟨w.heap.size, 2, none⟩ = some (.int .i64 x2) := by simp [World.cell?, FW12.out.box]
    have k3 : W12.cell? ⟨w.heap.size, 3, none⟩ = some (.int .i64 x3) := by simp [World.cell?, FW12.out.box]
    have k4 : W12.cell? ⟨w.heap.size, 4, none⟩ = some (.int .i64 x4) := by simp [World.cell?, FW12.out.box]
    have k5 : W12.cell? ⟨w.heap.size, 5, none⟩ = some (.int .i64 x5) := by simp [World.cell?, FW12.out.box]
    have k6 : W12.cell? ⟨w.heap.size, 6, none⟩ = some (.slice a6 n6 c6) := by simp [World.cell?, FW12.out.box]
    have k7 : W12.cell? ⟨w.heap.size, 7, none⟩ = some (.slice a7 n7 c7) := by simp [World.cell?, FW12.out.box]
    have k8 : W12.cell? ⟨w.heap.size, 8, none⟩ = some (.slice a8 n8 c8) := by simp [World.cell?, FW12.out.box]
    have k9 : W12.cell? ⟨w.heap.size, 9, none⟩ = some (.slice a9 n9 c9) := by simp [World.cell?, FW12.out.box]
    have k10 : W12.cell? ⟨w.heap.size, 10, none⟩ = some (.slice aA nA cA) := by simp [World.cell?, FW12.out.box]
    have k11 : W12.cell? ⟨w.heap.size, 11, none⟩ = some (.slice aB nB cB) := by simp [World.cell?, FW12.out.box]
    go_wp2_with fail
    clear kr k0 k1 k2 k3 k4 k5 k6 k7 k8 k9 k10 k11
    refine Calls.mono (CA.out _ FW12.out.bel) ?_
    rintro e W13 ⟨⟨r, rfl, hr⟩, hbe⟩
    have FW13 : Hid (Ak.Fm w w.heap.size rb #[.int .i64 5, .int .i64 0, .int .i64 x2, .int .i64 x3, .int .i64 x4, .int .i64 x5, .slice a6 n6 c6, .slice a7 n7 c7, .slice a8 n8 c8, .slice a9 n9 c9, .slice aA nA cA, .slice aB nB cB] true W13 ∧ (r = true ↔ P)) := ⟨FW12.out.below hbe, hr⟩
    clear hbe hr
    cases r with
    | false =>
      have HN : Hid (¬ Q) := fun h => by have := FW13.out.2.2 (HQ.out.1 h).2.2.1; simp at this
      go_wp2
      go_ret
      exact ⟨Ak.Told.no HN.out, FW13.out.1.bel⟩
    | true =>
    have HP : Hid P := FW13.out.2.1 (by first | rfl | trivial)
    have k8 : W13.cell? ⟨w.heap.size, 8, none⟩ = some (.slice a8 n8 c8) := by simp [World.cell?, FW13.out.1.box]
    by_cases qz : n8 = 0
    · have dz : ((n8 : Int) == 0) = true := by simp; omega
      have HZ : Hid (n8 = 0) := qz
      clear qz
      go_wp2
      go_ret
      exact ⟨Ak.Told.yes (HQ.out.2 ⟨(by first | rfl | trivial), Q0.out, HP.out, HZ.out⟩), FW13.out.1.bel⟩
    · have dz : ((n8 : Int) == 0) = false := by simp; omega
      have HN : Hid (¬ Q) := fun h => qz (HQ.out.1 h).2.2.2
      clear qz
      go_wp2
      go_ret
      exact ⟨Ak.Told.no HN.out, FW13.out.1.bel⟩
  · have HN : Hid (¬ Q) := fun h => q0 (HQ.out.1 h).2.1
    have kx : W3.cell? ⟨w.heap.size, 1, none⟩ = some (.int .i64 x1) := by simp [World.cell?, FW3.out.box]
    go_wp2_with fail
    refine Calls.mono (Tryz.atake_any w.heap.size 1 rb x1 24 true W3 kx (FW3.out.fx 1) FW3.out.cr FW3.out.fr FW3.out.ne) ?_
    rintro e W14 ⟨rfl, hw2⟩
    have eb : (true && (decide (0 ≤ x1) && decide (x1 < 24))) = false := by rw [Bool.true_and, Bool.and_eq_false_iff]; simp only [decide_eq_false_iff_not]; omega
    have FW14 : Hid (Ak.Fm w w.heap.size rb #[.int .i64 5, .int .i64 0, .int .i64 x2, .int .i64 x3, .int .i64 x4, .int .i64 x5, .slice a6 n6 c6, .slice a7 n7 c7, .slice a8 n8 c8, .slice a9 n9 c9, .slice aA nA cA, .slice aB nB cB] false W14) := by show Ak.Fm _ _ _ _ _ _; rw [hw2, eb]; exact (FW3.out.setR false).setX 1 (.int .i64 0)
    clear hw2 eb kx
    have kk : W14.cell? ⟨w.heap.size, 0, none⟩ = some (.int .i64 5) := by simp [World.cell?, FW14.out.box]
    have kr := FW14.out.cr
    go_wp2
    go_ret
    exact ⟨Ak.Told.no HN.out, FW14.out.bel⟩
set_option maxRecDepth 20000 in
set_option maxHeartbeats 16000000 in
theorem Tryz.fm_2 (x1 x2 x3 x4 x5 : Int) (a6 a7 a8 a9 aA aB : Option Addr) (n6 c6 n7 c7 n8 c8 n9 c9 nA cA nB cB : Nat) (w : World) (hb : Bool) (P : Prop) (_hn7 : n7 ≤ 1000) (_hn8 : n8 ≤ 1000) (CH0 : ∀ W, Below w.heap.size w W → Calls Tryz.prog 58 #[.agg #[.int .i64 2, .int .i64 x1, .int .i64 x2, .int .i64 x3, .int .i64 x4, .int .i64 x5, .slice a6 n6 c6, .slice a7 n7 c7, .slice a8 n8 c8, .slice a9 n9 c9, .slice aA nA cA, .slice aB nB cB]] W fun e w' => e = .returned (.bool hb) ∧ Below W.heap.size W w') (CA0 : ∀ W, Below w.heap.size w W → Calls Tryz.prog 65 #[.agg #[.int .i64 2, .int .i64 0, .int .i64 0, .int .i64 x3, .int .i64 x4, .int .i64 x5, .slice a6 n6 c6, .slice a7 n7 c7, .slice a8 n8 c8, .slice a9 n9 c9, .slice aA nA cA, .slice aB nB cB], .agg #[.int .i64 2, .int .i64 0, .int .i64 0, .int .i64 0, .int .i64 0, .int .i64 0, .slice none 0 0, .slice none 0 0, .slice none 0 0, .slice none 0 0, .slice none 0 0, .slice none 0 0]] W fun e w' => Ak.Told P e ∧ Below W.heap.size W w') :
    Calls Tryz.prog 48 #[.agg #[.int .i64 2, .int .i64 x1, .int .i64 x2, .int .i64 x3, .int .i64 x4, .int .i64 x5, .slice a6 n6 c6, .slice a7 n7 c7, .slice a8 n8 c8, .slice a9 n9 c9, .slice aA nA cA, .slice aB nB cB]] w fun e w' => Ak.Told (hb = true ∧ (0 ≤ x1 ∧ x1 < 24) ∧ (0 ≤ x2 ∧ x2 < 4) ∧ P ∧ n8 = 0) e ∧ Below w.heap.size w w' := by
  obtain ⟨Q, hQ⟩ : ∃ Q : Prop, (hb = true ∧ (0 ≤ x1 ∧ x1 < 24) ∧ (0 ≤ x2 ∧ x2 < 4) ∧ P ∧ n8 = 0) = Q := ⟨_, rfl⟩
  rw [hQ]
  have HQ : Hid (Q ↔ hb = true ∧ (0 ≤ x1 ∧ x1 < 24) ∧ (0 ≤ x2 ∧ x2 < 4) ∧ P ∧ n8 = 0) := by rw [← hQ]; exact Iff.rfl
  have CH : Hid _ := CH0
  have CA : Hid _ := CA0
  obtain ⟨w1, hw1⟩ : ∃ x, w.alloc (.cells #[.int .i64 2, .int .i64 x1, .int .i64 x2, .int .i64 x3, .int .i64 x4, .int .i64 x5, .slice a6 n6 c6, .slice a7 n7 c7, .slice a8 n8 c8, .slice a9 n9 c9, .slice aA nA cA, .slice aB nB cB] 32) = x := ⟨_, rfl⟩
  have A1 : Below w.heap.size w w1 := by rw [← hw1]; exact (Below.refl _ w).alloc (Nat.le_refl _) _
  have G1 : w1.heap[w.heap.size]? = some (.cells #[.int .i64 2, .int .i64 x1, .int .i64 x2, .int .i64 x3, .int .i64 x4, .int .i64 x5, .slice a6 n6 c6, .slice a7 n7 c7, .slice a8 n8 c8, .slice a9 n9 c9, .slice aA nA cA, .slice aB nB cB] 32 (0, 0)) := by rw [← hw1]; exact heap_alloc_new w _
  have ca : w1.cell? ⟨w.heap.size, 0, none⟩ = some (.int .i64 2) ∧ w1.cell? ⟨w.heap.size, 1, none⟩ = some (.int .i64 x1) ∧ w1.cell? ⟨w.heap.size, 2, none⟩ = some (.int .i64 x2) ∧ w1.cell? ⟨w.heap.size, 3, none⟩ = some (.int .i64 x3) ∧ w1.cell? ⟨w.heap.size, 4, none⟩ = some (.int .i64 x4) ∧ w1.cell? ⟨w.heap.size, 5, none⟩ = some (.int .i64 x5) ∧ w1.cell? ⟨w.heap.size, 6, none⟩ = some (.slice a6 n6 c6) ∧ w1.cell? ⟨w.heap.size, 7, none⟩ = some (.slice a7 n7 c7) ∧ w1.cell? ⟨w.heap.size, 8, none⟩ = some (.slice a8 n8 c8) ∧ w1.cell? ⟨w.heap.size, 9, none⟩ = some (.slice a9 n9 c9) ∧ w1.cell? ⟨w.heap.size, 10, none⟩ = some (.slice aA nA cA) ∧ w1.cell? ⟨w.heap.size, 11, none⟩ = some (.slice aB nB cB) := by simp [World.cell?, G1]
  obtain ⟨m0, m1, m2, m3, m4, m5, m6, m7, m8, m9, m10, m11⟩ := ca
  have H1 : Hid (w.alloc (.cells #[.int .i64 2, .int .i64 x1, .int .i64 x2, .int .i64 x3, .int .i64 x4, .int .i64 x5, .slice a6 n6 c6, .slice a7 n7 c7, .slice a8 n8 c8, .slice a9 n9 c9, .slice aA nA cA, .slice aB nB cB] 32) = w1) := hw1
  have HA : Hid (Below w.heap.size w w1 ∧ w1.heap[w.heap.size]? = some (.cells #[.int .i64 2, .int .i64 x1, .int .i64 x2, .int .i64 x3, .int .i64 x4, .int .i64 x5, .slice a6 n6 c6, .slice a7 n7 c7, .slice a8 n8 c8, .slice a9 n9 c9, .slice aA nA cA, .slice aB nB cB] 32 (0, 0))) := ⟨A1, G1⟩
  clear hw1 A1 G1 CH0 CA0 hQ
  go_enter Tryz.func48, Tryz.ntmps48
  go_upto_region 1 with fail
  rw [H1.out]
  go_wp2_with fail
  refine Calls.mono (CH.out _ HA.out.1) ?_
  rintro e W2 ⟨rfl, hb2⟩
  clear H1 CH m0 m1 m2 m3 m4 m5 m6 m7 m8 m9 m10 m11
  go_upto_region 3 with fail
  obtain ⟨W3, hW3⟩ : ∃ z, W2.alloc (.cells #[.bool hb] 4) = z := ⟨_, rfl⟩
  have hx2 : W2.heap[w.heap.size]? = some (.cells #[.int .i64 2, .int .i64 x1, .int .i64 x2, .int .i64 x3, .int .i64 x4, .int .i64 x5, .slice a6 n6 c6, .slice a7 n7 c7, .slice a8 n8 c8, .slice a9 n9 c9, .slice aA nA cA, .slice aB nB cB] 32 (0, 0)) := (hb2.block _ (Array.getElem?_eq_some_iff.1 HA.out.2).1).trans HA.out.2
  have hl2 := (Array.getElem?_eq_some_iff.1 hx2).1
  have FW3 : Hid (Ak.Fm w w.heap.size W2.heap.size #[.int .i64 2, .int .i64 x1, .int .i64 x2, .int .i64 x3, .int .i64 x4, .int .i64 x5, .slice a6 n6 c6, .slice a7 n7 c7, .slice a8 n8 c8, .slice a9 n9 c9, .slice aA nA cA, .slice aB nB cB] hb W3) := by
    have b3 : Below W2.heap.size W2 W3 := by rw [← hW3]; exact (Below.refl _ W2).alloc (Nat.le_refl _) _
    have b2 : Below w.heap.size w W2 := HA.out.1.trans (hb2.mono HA.out.1.size)
    exact ⟨(b3.block _ hl2).trans hx2, by rw [← hW3]; exact heap_alloc_new W2 _, by omega, Nat.le_refl _, b2.size, b2.trans (b3.mono b2.size)⟩
  rw [hW3]
  obtain ⟨rb, hrb⟩ : ∃ z, W2.heap.size = z := ⟨_, rfl⟩
  rw [hrb] at FW3 ⊢
  clear hW3 hx2 hl2 hb2 hrb HA
  have k0 : W3.cell? ⟨w.heap.size, 0, none⟩ = some (.int .i64 2) := by simp [World.cell?, FW3.out.box]
  have CN : Hid _ := Tryz.hasNode_any 2 W3
  go_wp2_with fail
  refine Calls.mono CN.out ?_
  rintro e W4 ⟨rfl, hw4⟩
  obtain rfl := hw4.symm
  clear CN
  have ehn : Ac.hasNodeB 2 = true := rfl
  rw [ehn]
  clear ehn
  cases hb with
  | false =>
    have HN : Hid (¬ Q) := fun h => by have := (HQ.out.1 h).1; cases this
    have kx : W3.cell? ⟨w.heap.size, 1, none⟩ = some (.int .i64 x1) := by simp [World.cell?, FW3.out.box]
    go_wp2_with fail
    refine Calls.mono (Tryz.atake_any w.heap.size 1 rb x1 24 false W3 kx (FW3.out.fx 1) FW3.out.cr FW3.out.fr FW3.out.ne) ?_
    rintro e W11 ⟨rfl, hw2⟩
    have eb : (false && (decide (0 ≤ x1) && decide (x1 < 24))) = false := rfl
    have FW11 : Hid (Ak.Fm w w.heap.size rb #[.int .i64 2, .int .i64 0, .int .i64 x2, .int .i64 x3, .int .i64 x4, .int .i64 x5, .slice a6 n6 c6, .slice a7 n7 c7, .slice a8 n8 c8, .slice a9 n9 c9, .slice aA nA cA, .slice aB nB cB] false W11) := by show Ak.Fm _ _ _ _ _ _; rw [hw2, eb]; exact (FW3.out.setR false).setX 1 (.int .i64 0)
    clear hw2 eb kx
    have kk : W11.cell? ⟨w.heap.size, 0, none⟩ = some (.int .i64 2) := by simp [World.cell?, FW11.out.box]
    have kx : W11.cell? ⟨w.heap.size, 2, none⟩ = some (.int .i64 x2) := by simp [World.cell?, FW11.out.box]
    go_wp2_with fail
    refine Calls.mono (Tryz.atake_any w.heap.size 2 rb x2 4 false W11 kx (FW11.out.fx 2) FW11.out.cr FW11.out.fr FW11.out.ne) ?_
    rintro e W12 ⟨rfl, hw2⟩
    have eb : (false && (decide (0 ≤ x2) && decide (x2 < 4))) = false := rfl
    have FW12 : Hid (Ak.Fm w w.heap.size rb #[.int .i64 2, .int .i64 0, .int .i64 0, .int .i64 x3, .int .i64 x4, .int .i64 x5, .slice a6 n6 c6, .slice a7 n7 c7, .slice a8 n8 c8, .slice a9 n9 c9, .slice aA nA cA, .slice aB nB cB] false W12) := by show Ak.Fm _ _ _ _ _ _; rw [hw2, eb]; exact (FW11.out.setR false).setX 2 (.int .i64 0)
    clear hw2 eb kx
    have kr := FW12.out.cr
    go_wp2
    go_ret
    exact ⟨Ak.Told.no HN.out, FW12.out.bel⟩
  | true =>
  by_cases q0 : 0 ≤ x1 ∧ x1 < 24
  · have Q0 : Hid (0 ≤ x1 ∧ x1 < 24) := q0
    have kx : W3.cell? ⟨w.heap.size, 1, none⟩ = some (.int .i64 x1) := by simp [World.cell?, FW3.out.box]
    go_wp2_with fail
    refine Calls.mono (Tryz.atake_any w.heap.size 1 rb x1 24 true W3 kx (FW3.out.fx 1) FW3.out.cr FW3.out.fr FW3.out.ne) ?_
    rintro e W13 ⟨rfl, hw2⟩
    have eb : (true && (decide (0 ≤ x1) && decide (x1 < 24))) = true := by rw [decide_eq_true q0.1, decide_eq_true q0.2]; rfl
    have FW13 : Hid (Ak.Fm w w.heap.size rb #[.int .i64 2, .int .i64 0, .int .i64 x2, .int .i64 x3, .int .i64 x4, .int .i64 x5, .slice a6 n6 c6, .slice a7 n7 c7, .slice a8 n8 c8, .slice a9 n9 c9, .slice aA nA cA, .slice aB nB cB] true W13) := by show Ak.Fm _ _ _ _ _ _; rw [hw2, eb]; exact (FW3.out.setR true).setX 1 (.int .i64 0)
    clear hw2 eb kx
    have kk : W13.cell? ⟨w.heap.size, 0, none⟩ = some (.int .i64 2) := by simp [World.cell?, FW13.out.box]
    by_cases q1 : 0 ≤ x2 ∧ x2 < 4
    · have Q1 : Hid (0 ≤ x2 ∧ x2 < 4) := q1
      have kx : W13.cell? ⟨w.heap.size, 2, none⟩ = some (.int .i64 x2) := by simp [World.cell?, FW13.out.box]
      go_wp2_with fail
      refine Calls.mono (Tryz.atake_any w.heap.size 2 rb x2 4 true W13 kx (FW13.out.fx 2) FW13.out.cr FW13.out.fr FW13.out.ne) ?_
      rintro e W14 ⟨rfl, hw2⟩
      have eb : (true && (decide (0 ≤ x2) && decide (x2 < 4))) = true := by rw [decide_eq_true q1.1, decide_eq_true q1.2]; rfl
      have FW14 : Hid (Ak.Fm w w.heap.size rb #[.int .i64 2, .int .i64 0, .int .i64 0, .int .i64 x3, .int .i64 x4, .int .i64 x5, .slice a6 n6 c6, .slice a7 n7 c7, .slice a8 n8 c8, .slice a9 n9 c9, .slice aA nA cA, .slice aB nB cB] true W14) := by show Ak.Fm _ _ _ _ _ _; rw [hw2, eb]; exact (FW13.out.setR true).setX 2 (.int .i64 0)
      clear hw2 eb kx
      have kr := FW14.out.cr
      have k0 : W14.cell? ⟨w.heap.size, 0, none⟩ = some (.int .i64 2) := by simp [World.cell?, FW14.out.box]
      have k1 : W14.cell? ⟨w.heap.size, 1, none⟩ = some (.int .i64 0) := by simp [World.cell?, FW14.out.box]
      have k2 : W14.cell? ⟨w.heap.size, 2, none⟩ = some (.int .i64 0) := by simp [World.cell?, FW14.out.box]
      have k3 : W14.cell? ⟨w.heap.size, 3, none⟩ = some (.int .i64 x3) := by simp [World.cell?, FW14.out.box]
      have k4 : W14.cell? ⟨w.heap.size, 4, none⟩ = some (.int .i64 x4) := by simp [World.cell?, FW14.out.box]
      have k5 : W14.cell? ⟨w.heap.size, 5, none⟩ = some (.int .i64 x5) := by simp [World.cell?, FW14.out.box]
      have k6 : W14.cell? ⟨w.heap.size, 6, none⟩ = some (.slice a6 n6 c6) := by simp [World.cell?, FW14.out.box]
      have k7 : W14.cell? ⟨w.heap.size, 7, none⟩ = some (.slice a7 n7 c7) := by simp [World.cell?, FW14.out.box]
      have k8 : W14.cell? ⟨w.heap.size, 8, none⟩ = some (.slice a8 n8 c8) := by simp [World.cell?, FW14.out.box]
      have k9 : W14.cell? ⟨w.heap.size, 9, none⟩ = some (.slice a9 n9 c9) := by simp [World.cell?, FW14.out.box]
      have k10 : W14.cell? ⟨w.heap.size, 10, none⟩ = some (.slice aA nA cA) := by simp [World.cell?, FW14.out.box]
      have k11 : W14.cell? ⟨w.heap.size, 11, none⟩ = some (.slice aB nB cB) := by simp [World.cell?, FW14.out.box]
      go_wp2_with fail
      clear kr k0 k1 k2 k3 k4 k5 k6 k7 k8 k9 k10 k11
      refine Calls.mono (CA.out _ FW14.out.bel) ?_
      rintro e W15 ⟨⟨r, rfl, hr⟩, hbe⟩
      have FW15 : Hid (Ak.Fm w w.heap.size rb #[.int .i64 2, .int .i64 0, .int .i64 0, .int .i64 x3, .int .i64 x4, .int .i64 x5, .slice a6 n6 c6, .slice a7 n7 c7, .slice a8 n8 c8, .slice a9 n9 c9, .slice aA nA cA, .slice aB nB cB] true W15 ∧ (r = true ↔ P)) := ⟨FW14.out.below hbe, hr⟩
      clear hbe hr
      cases r with
      | false =>
        have HN : Hid (¬ Q) := fun h => by have := FW15.out.2.2 (HQ.out.1 h).2.2.2.1; simp at this
        go_wp2
        go_ret
        exact ⟨Ak.Told.no HN.out, FW15.out.1.bel⟩
      | true =>
      have HP : Hid P := FW15.out.2.1 (by first | rfl | trivial)
      have k8 : W15.cell? ⟨w.heap.size, 8, none⟩ = some (.slice a8 n8 c8) := by simp [World.cell?, FW15.out.1.box]
      by_cases qz : n8 = 0
      · have dz : ((n8 : Int) == 0) = true := by simp; omega
        have HZ : Hid (n8 = 0) := qz
        clear qz
        go_wp2
        go_ret
        exact ⟨Ak.Told.yes (HQ.out.2 ⟨(by first | rfl | trivial), Q0.out, Q1.out, HP.out, HZ.out⟩), FW15.out.1.bel⟩
      · have dz : ((n8 : Int) == 0) = false := by simp; omega
        have HN : Hid (¬ Q) := fun h => qz (HQ.out.1 h).2.2.2.2
        clear qz
        go_wp2
        go_ret
        exact ⟨Ak.Told.no HN.out, FW15.out.1.bel⟩
    · have HN : Hid (¬ Q) := fun h => q1 (HQ.out.1 h).2.2.1
      have kx : W13.cell? ⟨w.heap.size, 2, none⟩ = some (.int .i64 x2) := by simp [World.cell?, FW13.out.box]
      go_wp2_with fail
      refine Calls.mono (Tryz.atake_any w.heap.size 2 rb x2 4 true W13 kx (FW13.out.fx 2) FW13.out.cr FW13.out.fr FW13.out.ne) ?_
      rintro e W16 ⟨rfl, hw2⟩
      have eb : (true && (decide (0 ≤ x2) && decide (x2 < 4))) = false := by rw [Bool.true_and, Bool.and_eq_false_iff]; simp only [decide_eq_false_iff_not]; omega
      have FW16 : Hid (Ak.Fm w w.heap.size rb #[.int .i64 2, .int .i64 0, .int .i64 0, .int .i64 x3, .int .i64 x4, .int .i64 x5, .slice a6 n6 c6, .slice a7 n7 c7, .slice a8 n8 c8, .slice a9 n9 c9, .slice aA nA cA, .slice aB nB cB] false W16) := by show Ak.Fm _ _ _ _ _ _; rw [hw2, eb]; exact (FW13.out.setR false).setX 2 (.int .i64 0)
      clear hw2 eb kx
      have kr := FW16.out.cr
      go_wp2
      go_ret
      exact ⟨Ak.Told.no HN.out, FW16.out.bel⟩
  · have HN : Hid (¬ Q) := fun h => q0 (HQ.out.1 h).2.1
    have kx : W3.cell? ⟨w.heap.size, 1, none⟩ = some (.int .i64 x1) := by simp [World.cell?, FW3.out.box]
    go_wp2_with fail
    refine Calls.mono (Tryz.atake_any w.heap.size 1 rb x1 24 true W3 kx (FW3.out.fx 1) FW3.out.cr FW3.out.fr FW3.out.ne) ?_
    rintro e W17 ⟨rfl, hw2⟩
    have eb : (true && (decide (0 ≤ x1) && decide (x1 < 24))) = false := by rw [Bool.true_and, Bool.and_eq_false_iff]; simp only [decide_eq_false_iff_not]; omega
    have FW17 : Hid (Ak.Fm w w.heap.size rb #[.int .i64 2, .int .i64 0, .int .i64 x2, .int .i64 x3, .int .i64 x4, .int .i64 x5, .slice a6 n6 c6, .slice a7 n7 c7, .slice a8 n8 c8, .slice a9 n9 c9, .slice aA nA cA, .slice aB nB cB] false W17) := by show Ak.Fm _ _ _ _ _ _; rw [hw2, eb]; exact (FW3.out.setR false).setX 1 (.int .i64 0)
    clear hw2 eb kx
    have kk : W17.cell? ⟨w.heap.size, 0, none⟩ = some (.int .i64 2) := by simp [World.cell?, FW17.out.box]
    have kx : W17.cell? ⟨w.heap.size, 2, none⟩ = some (.int .i64 x2) := by simp [World.cell?, FW17.out.box]
    go_wp2_with fail
    refine Calls.mono (Tryz.atake_any w.heap.size 2 rb x2 4 false W17 kx (FW17.out.fx 2) FW17.out.cr FW17.out.fr FW17.out.ne) ?_
    rintro e W18 ⟨rfl, hw2⟩
    have eb : (false && (decide (0 ≤ x2) && decide (x2 < 4))) = false := rfl
    have FW18 : Hid (Ak.Fm w w.heap.size rb #[.int .i64 2, .int .i64 0, .int .i64 0, .int .i64 x3, .int .i64 x4, .int .i64 x5, .slice a6 n6 c6, .slice a7 n7 c7, .slice a8 n8 c8, .slice a9 n9 c9, .slice aA nA cA, .slice aB nB cB] false W18) := by show Ak.Fm _ _ _ _ _ _; rw [hw2, eb]; exact (FW17.out.setR false).setX 2 (.int .i64 0)
    clear hw2 eb kx
    have kr := FW18.out.cr
    go_wp2
    go_ret
    exact ⟨Ak.Told.no HN.out, FW18.out.bel⟩
set_option maxRecDepth 20000 in
set_option maxHeartbeats 16000000 in
theorem Tryz.fm_4 (x1 x2 x3 x4 x5 : Int) (a6 a7 a8 a9 aA aB : Option Addr) (n6 c6 n7 c7 n8 c8 n9 c9 nA cA nB cB : Nat) (w : World) (hb : Bool) (P : Prop) (_hn7 : n7 ≤ 1000) (_hn8 : n8 ≤ 1000) (CH0 : ∀ W, Below w.heap.size w W → Calls Tryz.prog 58 #[.agg #[.int .i64 4, .int .i64 x1, .int .i64 x2, .int .i64 x3, .int .i64 x4, .int .i64 x5, .slice a6 n6 c6, .slice a7 n7 c7, .slice a8 n8 c8, .slice a9 n9 c9, .slice aA nA cA, .slice aB nB cB]] W fun e w' => e = .returned (.bool hb) ∧ Below W.heap.size W w') (CA0 : ∀ W, Below w.heap.size w W → Calls Tryz.prog 65 #[.agg #[.int .i64 4, .int .i64 0, .int .i64 0, .int .i64 x3, .int .i64 x4, .int .i64 x5, .slice a6 n6 c6, .slice a7 n7 c7, .slice a8 n8 c8, .slice a9 n9 c9, .slice aA nA cA, .slice aB nB cB], .agg #[.int .i64 4, .int .i64 0, .int .i64 0, .int .i64 0, .int .i64 0, .int .i64 0, .slice none 0 0, .slice none 0 0, .slice none 0 0, .slice none 0 0, .slice none 0 0, .slice none 0 0]] W fun e w' => Ak.Told P e ∧ Below W.heap.size W w') :
    Calls Tryz.prog 48 #[.agg #[.int .i64 4, .int .i64 x1, .int .i64 x2, .int .i64 x3, .int .i64 x4, .int .i64 x5, .slice a6 n6 c6, .slice a7 n7 c7, .slice a8 n8 c8, .slice a9 n9 c9, .slice aA nA cA, .slice aB nB cB]] w fun e w' => Ak.Told (hb = true ∧ (0 ≤ x1 ∧ x1 < 24) ∧ (0 ≤ x2 ∧ x2 < 4) ∧ P ∧ n8 = 0) e ∧ Below w.heap.size w w' := by
  obtain ⟨Q, hQ⟩ : ∃ Q : Prop, (hb = true ∧ (0 ≤ x1 ∧ x1 < 24) ∧ (0 ≤ x2 ∧ x2 < 4) ∧ P ∧ n8 = 0) = Q := ⟨_, rfl⟩
  rw [hQ]
  have HQ : Hid (Q ↔ hb = true ∧ (0 ≤ x1 ∧ x1 < 24) ∧ (0 ≤ x2 ∧ x2 < 4) ∧ P ∧ n8 = 0) := by rw [← hQ]; exact Iff.rfl
  have CH : Hid _ := CH0
  have CA : Hid _ := CA0
  obtain ⟨w1, hw1⟩ : ∃ x, w.alloc (.cells #[.int .i64 4, .int .i64 x1, .int .i64 x2, .int .i64 x3, .int .i64 x4, .int .i64 x5, .slice a6 n6 c6, .slice a7 n7 c7, .slice a8 n8 c8, .slice a9 n9 c9, .slice aA nA cA, .slice aB nB cB] 32) = x := ⟨_, rfl⟩
  have A1 : Below w.heap.size w w1 := by rw [← hw1]; exact (Below.refl _ w).alloc (Nat.le_refl _) _
  have G1 : w1.heap[w.heap.size]? = some (.cells #[.int .i64 4, .int .i64 x1, .int .i64 x2, .int .i64 x3, .int .i64 x4, .int .i64 x5, .slice a6 n6 c6, .slice a7 n7 c7, .slice a8 n8 c8, .slice a9 n9 c9, .slice aA nA cA, .slice aB nB cB] 32 (0, 0)) := by rw [← hw1]; exact heap_alloc_new w _
  have ca : w1.cell? ⟨w.heap.size, 0, none⟩ = some (.int .i64 4) ∧ w1.cell? ⟨w.heap.size, 1, none⟩ = some (.int .i64 x1) ∧ w1.cell? ⟨w.heap.size, 2, none⟩ = some (.int .i64 x2) ∧ w1.cell? ⟨w.heap.size, 3, none⟩ = some (.int .i64 x3) ∧ w1.cell? ⟨w.heap.size, 4, none⟩ = some (.int .i64 x4) ∧ w1.cell? ⟨w.heap.size, 5, none⟩ = some (.int .i64 x5) ∧ w1.cell? ⟨w.heap.size, 6, none⟩ = some (.slice a6 n6 c6) ∧ w1.cell? ⟨w.heap.size, 7, none⟩ = some (.slice a7 n7 c7) ∧ w1.cell? ⟨w.heap.size, 8, none⟩ = some (.slice a8 n8 c8) ∧ w1.cell? ⟨w.heap.size, 9, none⟩ = some (.slice a9 n9 c9) ∧ w1.cell? ⟨w.heap.size, 10, none⟩ = some (.slice aA nA cA) ∧ w1.cell? ⟨w.heap.size, 11, none⟩ = some (.slice aB nB cB) := by simp [World.cell?, G1]
  obtain ⟨m0, m1, m2, m3, m4, m5, m6, m7, m8, m9, m10, m11⟩ := ca
  have H1 : Hid (w.alloc (.cells #[.int .i64 4, .int .i64 x1, .int .i64 x2, .int .i64 x3, .int .i64 x4, .int .i64 x5, .slice a6 n6 c6, .slice a7 n7 c7, .slice a8 n8 c8, .slice a9 n9 c9, .slice aA nA cA, .slice aB nB cB] 32) = w1) := hw1
  have HA : Hid (Below w.heap.size w w1 ∧ w1.heap[w.heap.size]? = some (.cells #[.int .i64 4, .int .i64 x1, .int .i64 x2, .int .i64 x3, .int .i64 x4, .int .i64 x5, .slice a6 n6 c6, .slice a7 n7 c7, .slice a8 n8 c8, .slice a9 n9 c9, .slice aA nA cA, .slice aB nB cB] 32 (0, 0))) := ⟨A1, G1⟩
  clear hw1 A1 G1 CH0 CA0 hQ
  go_enter Tryz.func48, Tryz.ntmps48
  go_upto_region 1 with fail
  rw [H1.out]
  go_wp2_with fail
  refine Calls.mono (CH.out _ HA.out.1) ?_
  rintro e W2 ⟨rfl, hb2⟩
  clear H1 CH m0 m1 m2 m3 m4 m5 m6 m7 m8 m9 m10 m11
  go_upto_region 3 with fail
  obtain ⟨W3, hW3⟩ : ∃ z, W2.alloc (.cells #[.bool hb] 4) = z := ⟨_, rfl⟩
  have hx2 : W2.heap[w.heap.size]? = some (.cells #[.int .i64 4, .int .i64 x1, .int .i64 x2, .int .i64 x3, .int .i64 x4, .int .i64 x5, .slice a6 n6 c6, .slice a7 n7 c7, .slice a8 n8 c8, .slice a9 n9 c9, .slice aA nA cA, .slice aB nB cB] 32 (0, 0)) := (hb2.block _ (Array.getElem?_eq_some_iff.1 HA.out.2).1).trans HA.out.2
  have hl2 := (Array.getElem?_eq_some_iff.1 hx2).1
  have FW3 : Hid (Ak.Fm w w.heap.size W2.heap.size #[.int .i64 4, .int .i64 x1, .int .i64 x2, .int .i64 x3, .int .i64 x4, .int .i64 x5, .slice a6 n6 c6, .slice a7 n7 c7, .slice a8 n8 c8, .slice a9 n9 c9, .slice aA nA cA, .slice aB nB cB] hb W3) := by
    have b3 : Below W2.heap.size W2 W3 := by rw [← hW3]; exact (Below.refl _ W2).alloc (Nat.le_refl _) _
    have b2 : Below w.heap.size w W2 := HA.out.1.trans (hb2.mono HA.out.1.size)
    exact ⟨(b3.block _ hl2).trans hx2, by rw [← hW3]; exact heap_alloc_new W2 _, by omega, Nat.le_refl _, b2.size, b2.trans (b3.mono b2.size)⟩
  rw [hW3]
  obtain ⟨rb, hrb⟩ : ∃ z, W2.heap.size = z := ⟨_, rfl⟩
  rw [hrb] at FW3 ⊢
  clear hW3 hx2 hl2 hb2 hrb HA
  have k0 : W3.cell? ⟨w.heap.size, 0, none⟩ = some (.int .i64 4) := by simp [World.cell?, FW3.out.box]
  have CN : Hid _ := Tryz.hasNode_any 4 W3
  go_wp2_with fail
  refine Calls.mono CN.out ?_
  rintro e W4 ⟨rfl, hw4⟩
  obtain rfl := hw4.symm
  clear CN
  have ehn : Ac.hasNodeB 4 = true := rfl
  rw [ehn]
  clear ehn
  cases hb with
  | false =>
    have HN : Hid (¬ Q) := fun h => by have := (HQ.out.1 h).1; cases this
    have kx : W3.cell? ⟨w.heap.size, 1, none⟩ = some (.int .i64 x1) := by simp [World.cell?, FW3.out.box]
    go_wp2_with fail
    refine Calls.mono (Tryz.atake_any w.heap.size 1 rb x1 24 false W3 kx (FW3.out.fx 1) FW3.out.cr FW3.out.fr FW3.out.ne) ?_
    rintro e W11 ⟨rfl, hw2⟩
    have eb : (false && (decide (0 ≤ x1) && decide (x1 < 24))) = false := rfl
    have FW11 : Hid (Ak.Fm w w.heap.size rb #[.int .i64 4, .int .i64 0, .int .i64 x2, .int .i64 x3, .int .i64 x4, .int .i64 x5, .slice a6 n6 c6, .slice a7 n7 c7, .slice a8 n8 c8, .slice a9 n9 c9, .slice aA nA cA, .slice aB nB cB] false W11) := by show Ak.Fm _ _ _ _ _ _; rw [hw2, eb]; exact (FW3.out.setR false).setX 1 (.int .i64 0)
    clear hw2 eb kx
    have kk : W11.cell? ⟨w.heap.size, 0, none⟩ = some (.int .i64 4) := by simp [World.cell?, FW11.out.box]
    have kx : W11.cell? ⟨w.heap.size, 2, none⟩ = some (.int .i64 x2) := by simp [World.cell?, FW11.out.box]
    go_wp2_with fail
    refine Calls.mono (Tryz.atake_any w.heap.size 2 rb x2 4 false W11 kx (FW11.out.fx 2) FW11.out.cr FW11.out.fr FW11.out.ne) ?_
    rintro e W12 ⟨rfl, hw2⟩
    have eb : (false && (decide (0 ≤ x2) && decide (x2 < 4))) = false := rfl
    have FW12 : Hid (Ak.Fm w w.heap.size rb #[.int .i64 4, .int .i64 0, .int .i64 0, .int .i64 x3, .int .i64 x4, .int .i64 x5, .slice a6 n6 c6, .slice a7 n7 c7, .slice a8 n8 c8, .slice a9 n9 c9, .slice aA nA cA, .slice aB nB cB] false W12) := by show Ak.Fm _ _ _ _ _ _; rw [hw2, eb]; exact (FW11.out.setR false).setX 2 (.int .i64 0)
    clear hw2 eb kx
    have kr := FW12.out.cr
    go_wp2
    go_ret
    exact ⟨Ak.Told.no HN.out, FW12.out.bel⟩
  | true =>
  by_cases q0 : 0 ≤ x1 ∧ x1 < 24
  · have Q0 : Hid (0 ≤ x1 ∧ x1 < 24) := q0
    have kx : W3.cell? ⟨w.heap.size, 1, none⟩ = some (.int .i64 x1) := by simp [World.cell?, FW3.out.box]
    go_wp2_with fail
    refine Calls.mono (Tryz.atake_any w.heap.size 1 rb x1 24 true W3 kx (FW3.out.fx 1) FW3.out.cr FW3.out.fr FW3.out.ne) ?_
    rintro e W13 ⟨rfl, hw2⟩
    have eb : (true && (decide (0 ≤ x1) && decide (x1 < 24))) = true := by rw [decide_eq_true q0.1, decide_eq_true q0.2]; rfl
    have FW13 : Hid (Ak.Fm w w.heap.size rb #[.int .i64 4, .int .i64 0, .int .i64 x2, .int .i64 x3, .int .i64 x4, .int .i64 x5, .slice a6 n6 c6, .slice a7 n7 c7, .slice a8 n8 c8, .slice a9 n9 c9, .slice aA nA cA, .slice aB nB cB] true W13) := by show Ak.Fm _ _ _ _ _ _; rw [hw2, eb]; exact (FW3.out.setR true).setX 1 (.int .i64 0)
    clear hw2 eb kx
    have kk : W13.cell? ⟨w.heap.size, 0, none⟩ = some (.int .i64 4) := by simp [World.cell?, FW13.out.box]
    by_cases q1 : 0 ≤ x2 ∧ x2 < 4
    · have Q1 : Hid (0 ≤ x2 ∧ x2 < 4) := q1
      have kx : W13.cell? ⟨w.heap.size, 2, none⟩ = some (.int .i64 x2) := by simp [World.cell?, FW13.out.box]
      go_wp2_with fail
      refine Calls.mono (Tryz.atake_any w.heap.size 2 rb x2 4 true W13 kx (FW13.out.fx 2) FW13.out.cr FW13.out.fr FW13.out.ne) ?_
      rintro e W14 ⟨rfl, hw2⟩
      have eb : (true && (decide (0 ≤ x2) && decide (x2 < 4))) = true := by rw [decide_eq_true q1.1, decide_eq_true q1.2]; rfl
      have FW14 : Hid (Ak.Fm w w.heap.size rb #[.int .i64 4, .int .i64 0, .int .i64 0, .int .i64 x3, .int .i64 x4, .int .i64 x5, .slice a6 n6 c6, .slice a7 n7 c7, .slice a8 n8 c8, .slice a9 n9 c9, .slice aA nA cA, .slice aB nB cB] true W14) := by show Ak.Fm _ _ _ _ _ _; rw [hw2, eb]; exact (FW13.out.setR true).setX 2 (.int .i64 0)
      clear hw2 eb kx
      have kr := FW14.out.cr
      have k0 : W14.cell? ⟨w.heap.size, 0, none⟩ = some (.int .i64 4) := by simp [World.cell?, FW14.out.box]
      have k1 : W14.cell? ⟨w.heap.size, 1, none⟩ = some (.int .i64 0) := by simp [World.cell?, FW14.out.box]
      have k2 : W14.cell? ⟨w.heap.size, 2, none⟩ = some (.int .i64 0) := by simp [World.cell?, FW14.out.box]
      have k3 : W14.cell? ⟨w.heap.size, 3, none⟩ = some (.int .i64 x3) := by simp [World.cell?, FW14.out.box]
      have k4 : W14.cell? ⟨w.heap.size, 4, none⟩ = some (.int .i64 x4) := by simp [World.cell?, FW14.out.box]
      have k5 : W14.cell? ⟨w.heap.size, 5, none⟩ = some (.int .i64 x5) := by simp [World.cell?, FW14.out.box]
      have k6 : W14.cell? ⟨w.heap.size, 6, none⟩ = some (.slice a6 n6 c6) := by simp [World.cell?, FW14.out.box]
      have k7 : W14.cell? ⟨w.heap.size, 7, none⟩ = some (.slice a7 n7 c7) := by simp [World.cell?, FW14.out.box]
      have k8 : W14.cell? ⟨w.heap.size, 8, none⟩ = some (.slice a8 n8 c8) := by simp [World.cell?, FW14.out.box]
      have k9 : W14.cell? ⟨w.heap.size, 9, none⟩ = some (.slice a9 n9 c9) := by simp [World.cell?, FW14.out.box]
      have k10 : W14.cell? ⟨w.heap.size, 10, none⟩ = some (.slice aA nA cA) := by simp [World.cell?, FW14.out.box]
      have k11 : W14.cell? ⟨w.heap.size, 11, none⟩ = some (.slice aB nB cB) := by simp [World.cell?, FW14.out.box]
      go_wp2_with fail
      clear kr k0 k1 k2 k3 k4 k5 k6 k7 k8 k9 k10 k11
      refine Calls.mono (CA.out _ FW14.out.bel) ?_
      rintro e W15 ⟨⟨r, rfl, hr⟩, hbe⟩
      have FW15 : Hid (Ak.Fm w w.heap.size rb #[.int .i64 4, .int .i64 0, .int .i64 0, .int .i64 x3, .int .i64 x4, .int .i64 x5, .slice a6 n6 c6, .slice a7 n7 c7, .slice a8 n8 c8, .slice a9 n9 c9, .slice aA nA cA, .slice aB nB cB] true W15 ∧ (r = true ↔ P)) := ⟨FW14.out.below hbe, hr⟩
      clear hbe hr
      cases r with
      | false =>
        have HN : Hid (¬ Q) := fun h => by have := FW15.out.2.2 (HQ.out.1 h).2.2.2.1; simp at this
        go_wp2
        go_ret
        exact ⟨Ak.Told.no HN.out, FW15.out.1.bel⟩
      | true =>
      have HP : Hid P := FW15.out.2.1 (by first | rfl | trivial)
      have k8 : W15.cell? ⟨w.heap.size, 8, none⟩ = some (.slice a8 n8 c8) := by simp [World.cell?, FW15.out.1.box]
      by_cases qz : n8 = 0
      · have dz : ((n8 : Int) == 0) = true := by simp; omega
        have HZ : Hid (n8 = 0) := qz
        clear qz
        go_wp2
        go_ret
        exact ⟨Ak.Told.yes (HQ.out.2 ⟨(by first | rfl | trivial), Q0.out, Q1.out, HP.out, HZ.out⟩), FW15.out.1.bel⟩
      · have dz : ((n8 : Int) == 0) = false := by simp; omega
        have HN : Hid (¬ Q) := fun h => qz (HQ.out.1 h).2.2.2.2
        clear qz
        go_wp2
        go_ret
        exact ⟨Ak.Told.no HN.out, FW15.out.1.bel⟩
    · have HN : Hid (¬ Q) := fun h => q1 (HQ.out.1 h).2.2.1
      have kx : W13.cell? ⟨w.heap.size, 2, none⟩ = some (.int .i64 x2) := by simp [World.cell?, FW13.out.box]
      go_wp2_with fail
      refine Calls.mono (Tryz.atake_any w.heap.size 2 rb x2 4 true W13 kx (FW13.out.fx 2) FW13.out.cr FW13.out.fr FW13.out.ne) ?_
      rintro e W16 ⟨rfl, hw2⟩
      have eb : (true && (decide (0 ≤ x2) && decide (x2 < 4))) = false := by rw [Bool.true_and, Bool.and_eq_false_iff]; simp only [decide_eq_false_iff_not]; omega
      have FW16 : Hid (Ak.Fm w w.heap.size rb #[.int .i64 4, .int .i64 0, .int .i64 0, .int .i64 x3, .int .i64 x4, .int .i64 x5, .slice a6 n6 c6, .slice a7 n7 c7, .slice a8 n8 c8, .slice a9 n9 c9, .slice aA nA cA, .slice aB nB cB] false W16) := by show Ak.Fm _ _ _ _ _ _; rw [hw2, eb]; exact (FW13.out.setR false).setX 2 (.int .i64 0)
      clear hw2 eb kx
      have kr := FW16.out.cr
      go_wp2
      go_ret
      exact ⟨Ak.Told.no HN.out, FW16.out.bel⟩
  · have HN : Hid (¬ Q) := fun h => q0 (HQ.out.1 h).2.1
    have kx : W3.cell? ⟨w.heap.size, 1, none⟩ = some (.int .i64 x1) := by simp [World.cell?, FW3.out.box]
    go_wp2_with fail
    refine Calls.mono (Tryz.atake_any w.heap.size 1 rb x1 24 true W3 kx (FW3.out.fx 1) FW3.out.cr FW3.out.fr FW3.out.ne) ?_
    rintro e W17 ⟨rfl, hw2⟩
    have eb : (true && (decide (0 ≤ x1) && decide (x1 < 24))) = false := by rw [Bool.true_and, Bool.and_eq_false_iff]; simp only [decide_eq_false_iff_not]; omega
    have FW17 : Hid (Ak.Fm w w.heap.size rb #[.int .i64 4, .int .i64 0, .int .i64 x2, .int .i64 x3, .int .i64 x4, .int .i64 x5, .slice a6 n6 c6, .slice a7 n7 c7, .slice a8 n8 c8, .slice a9 n9 c9, .slice aA nA cA, .slice aB nB cB] false W17) := by show Ak.Fm _ _ _ _ _ _; rw [hw2, eb]; exact (FW3.out.setR false).setX 1 (.int .i64 0)
    clear hw2 eb kx
    have kk : W17.cell? ⟨w.heap.size, 0, none⟩ = some (.int .i64 4) := by simp [World.cell?, FW17.out.box]
    have kx : W17.cell? ⟨w.heap.size, 2, none⟩ = some (.int .i64 x2) := by simp [World.cell?, FW17.out.box]
    go_wp2_with fail
    refine Calls.mono (Tryz.atake_any w.heap.size 2 rb x2 4 false W17 kx (FW17.out.fx 2) FW17.out.cr FW17.out.fr FW17.out.ne) ?_
    rintro e W18 ⟨rfl, hw2⟩
    have eb : (false && (decide (0 ≤ x2) && decide (x2 < 4))) = false := rfl
    have FW18 : Hid (Ak.Fm w w.heap.size rb #[.int .i64 4, .int .i64 0, .int .i64 0, .int .i64 x3, .int .i64 x4, .int .i64 x5, .slice a6 n6 c6, .slice a7 n7 c7, .slice a8 n8 c8, .slice a9 n9 c9, .slice aA nA cA, .slice aB nB cB] false W18) := by show Ak.Fm _ _ _ _ _ _; rw [hw2, eb]; exact (FW17.out.setR false).setX 2 (.int .i64 0)
    clear hw2 eb kx
    have kr := FW18.out.cr
    go_wp2
    go_ret
    exact ⟨Ak.Told.no HN.out, FW18.out.bel⟩
end Go.Proofs
