import Derived.Test.YtdghjgiakblfmaaGreatDoorRAcLists
namespace Go.Proofs
open Go.RowKit Go.Shelf
set_option maxRecDepth 20000 in
set_option maxHeartbeats 8000000 in
theorem Tryz.aalike_any (e e' B : Nat) (S T : Ac) (U V : Ac.Vs) (w : World) (hS : Ac.Own w B e U S) (hT : Ac.Own w B e' V T) (hB : B ≤ w.heap.size) (h0 : 0 < w.heap.size) (hF : S.Fit) :
    Calls Tryz.prog 65 #[.agg (Ac.row S U), .agg (Ac.row T V)] w fun e w' => Ak.Told (Ac.Same1 S T) e ∧ Below w.heap.size w w' := by
  have HP : Hid (Ac.Same1 S T ↔ S.kind = T.kind ∧ S.node = T.node ∧ S.a = T.a ∧ S.b = T.b ∧ S.t = T.t ∧ S.cs = T.cs ∧ S.ls = T.ls ∧ S.ns = T.ns ∧ S.fs = T.fs) := Iff.rfl
  obtain ⟨x6a, x6c, ex6⟩ := hS.t.shape
  obtain ⟨x7a, x7c, ex7, hx7⟩ := hS.c
  obtain ⟨x9a, x9c, ex9, hx9⟩ := hS.l
  obtain ⟨xAa, xAc, exA, hxA⟩ := hS.n
  obtain ⟨xBa, xBc, exB, hxB⟩ := hS.f
  obtain ⟨y6a, y6c, ey6⟩ := hT.t.shape
  obtain ⟨y7a, y7c, ey7, hy7⟩ := hT.c
  obtain ⟨y9a, y9c, ey9, hy9⟩ := hT.l
  obtain ⟨yAa, yAc, eyA, hyA⟩ := hT.n
  obtain ⟨yBa, yBc, eyB, hyB⟩ := hT.f
  obtain ⟨x8, ex8⟩ : ∃ z, U.k = z := ⟨_, rfl⟩
  obtain ⟨y8, ey8⟩ : ∃ z, V.k = z := ⟨_, rfl⟩
  have hx6 := hS.t
  have hy6 := hT.t
  rw [ex6] at hx6
  rw [ey6] at hy6
  have CT : ∀ W, Below w.heap.size w W → Calls Tryz.prog 77 #[.agg #[.int .i64 S.t.op, .int .i64 S.t.num, .slice x6a S.t.ks.length x6c], .agg #[.int .i64 T.t.op, .int .i64 T.t.num, .slice y6a T.t.ks.length y6c]] W fun e w' => Ak.Told (S.t = T.t) e ∧ Below W.heap.size W w' := fun W hb =>
    (Tryz.termSame_any e e' S.t T.t _ _ W ((hx6.below (hb.mono hB)).wider (Nat.le_trans hB hb.size)) ((hy6.below (hb.mono hB)).wider (Nat.le_trans hB hb.size)) (by have := hb.size; omega) hF.t.1 hF.t.2).mono fun _ _ h => ⟨h.1, h.2⟩
  have CC : ∀ W, Below w.heap.size w W → Calls Tryz.prog 81 #[.slice x7a S.cs.length x7c, .slice y7a T.cs.length y7c, .func (.func 77) #[] #[]] W fun e w' => Ak.Told (S.cs = T.cs) e ∧ Below W.heap.size W w' := fun W hb =>
    (Tryz.condsEq_any e e' B S.cs T.cs x7a y7a x7c y7c W (hx7.keep (hb.mono hB).block) (hy7.keep (hb.mono hB).block) (Nat.le_trans hB hb.size) (by have := hb.size; omega) hF.c (by have := hF.cl; omega)).mono fun _ _ h => ⟨h.1, h.2⟩
  have CL : ∀ W, Below w.heap.size w W → Calls Tryz.prog 82 #[.slice x9a S.ls.length x9c, .slice y9a T.ls.length y9c] W fun e w' => Ak.Told (S.ls = T.ls) e ∧ Below W.heap.size W w' := fun W hb =>
    (Tryz.alinksEq_any S.ls T.ls x9a y9a x9c y9c B W (hx9.keep (hb.mono hB).block) (hy9.keep (hb.mono hB).block) (Nat.le_trans hB hb.size) (by have := hF.ll; omega)).mono fun _ _ h => ⟨h.1, h.2⟩
  have CN : ∀ W, Below w.heap.size w W → Calls Tryz.prog 83 #[.slice xAa S.ns.length xAc, .slice yAa T.ns.length yAc, .func (.func 84) #[] #[]] W fun e w' => Ak.Told (S.ns = T.ns) e ∧ Below W.heap.size W w' := fun W hb =>
    (Tryz.nodesEq_any e e' B S.ns T.ns xAa yAa xAc yAc W (Ac.nds_keep hxA (hb.mono hB).block) (Ac.nds_keep hyA (hb.mono hB).block) (Nat.le_trans hB hb.size) (by have := hb.size; omega) hF.n (by have := hF.nl; omega)).mono fun _ _ h => ⟨h.1, h.2⟩
  have CF : ∀ W, Below w.heap.size w W → Calls Tryz.prog 85 #[.slice xBa S.fs.length xBc, .slice yBa T.fs.length yBc, .func (.func 86) #[] #[]] W fun e w' => Ak.Told (S.fs = T.fs) e ∧ Below W.heap.size W w' := fun W hb =>
    (Tryz.flowsEq_any e e' B S.fs T.fs xBa yBa xBc yBc W (Ac.fls_keep hxB (hb.mono hB).block) (Ac.fls_keep hyB (hb.mono hB).block) (Nat.le_trans hB hb.size) (by have := hb.size; omega) hF.f (by have := hF.fl; omega)).mono fun _ _ h => ⟨h.1, h.2⟩
  unfold Ac.row
  rw [ex6, ex7, ex8, ex9, exA, exB, ey6, ey7, ey8, ey9, eyA, eyB]
  obtain ⟨x0, hx_0⟩ : ∃ z, S.kind = z := ⟨_, rfl⟩
  obtain ⟨y0, hy_0⟩ : ∃ z, T.kind = z := ⟨_, rfl⟩
  rw [hx_0, hy_0] at HP ⊢
  obtain ⟨x1, hx_1⟩ : ∃ z, S.node = z := ⟨_, rfl⟩
  obtain ⟨y1, hy_1⟩ : ∃ z, T.node = z := ⟨_, rfl⟩
  rw [hx_1, hy_1] at HP ⊢
  obtain ⟨x2, hx_2⟩ : ∃ z, S.a = z := ⟨_, rfl⟩
  obtain ⟨y2, hy_2⟩ : ∃ z, T.a = z := ⟨_, rfl⟩
  rw [hx_2, hy_2] at HP ⊢
  obtain ⟨x3, hx_3⟩ : ∃ z, S.b = z := ⟨_, rfl⟩
  obtain ⟨y3, hy_3⟩ : ∃ z, T.b = z := ⟨_, rfl⟩
  rw [hx_3, hy_3] at HP ⊢
  obtain ⟨x4, hx_4⟩ : ∃ z, S.t.op = z := ⟨_, rfl⟩
  obtain ⟨x5, hx_5⟩ : ∃ z, S.t.num = z := ⟨_, rfl⟩
  obtain ⟨x6n, hx_6⟩ : ∃ z, S.t.ks.length = z := ⟨_, rfl⟩
  rw [hx_4, hx_5, hx_6] at CT ⊢
  obtain ⟨x7n, hx_7⟩ : ∃ z, S.cs.length = z := ⟨_, rfl⟩
  rw [hx_7] at CC ⊢
  obtain ⟨x9n, hx_9⟩ : ∃ z, S.ls.length = z := ⟨_, rfl⟩
  rw [hx_9] at CL ⊢
  obtain ⟨xAn, hx_A⟩ : ∃ z, S.ns.length = z := ⟨_, rfl⟩
  rw [hx_A] at CN ⊢
  obtain ⟨xBn, hx_B⟩ : ∃ z, S.fs.length = z := ⟨_, rfl⟩
  rw [hx_B] at CF ⊢
  obtain ⟨y4, hy_4⟩ : ∃ z, T.t.op = z := ⟨_, rfl⟩
  obtain ⟨y5, hy_5⟩ : ∃ z, T.t.num = z := ⟨_, rfl⟩
  obtain ⟨y6n, hy_6⟩ : ∃ z, T.t.ks.length = z := ⟨_, rfl⟩
  rw [hy_4, hy_5, hy_6] at CT ⊢
  obtain ⟨y7n, hy_7⟩ : ∃ z, T.cs.length = z := ⟨_, rfl⟩
  rw [hy_7] at CC ⊢
  obtain ⟨y9n, hy_9⟩ : ∃ z, T.ls.length = z := ⟨_, rfl⟩
  rw [hy_9] at CL ⊢
  obtain ⟨yAn, hy_A⟩ : ∃ z, T.ns.length = z := ⟨_, rfl⟩
  rw [hy_A] at CN ⊢
  obtain ⟨yBn, hy_B⟩ : ∃ z, T.fs.length = z := ⟨_, rfl⟩
  rw [hy_B] at CF ⊢
  have A2 : Below w.heap.size w ((w.alloc (.cells #[.int .i64 x0, .int .i64 x1, .int .i64 x2, .int .i64 x3, .int .i64 x4, .int .i64 x5, .slice x6a x6n x6c, .slice x7a x7n x7c, x8, .slice x9a x9n x9c, .slice xAa xAn xAc, .slice xBa xBn xBc] 32)).alloc (.cells #[.int .i64 y0, .int .i64 y1, .int .i64 y2, .int .i64 y3, .int .i64 y4, .int .i64 y5, .slice y6a y6n y6c, .slice y7a y7n y7c, y8, .slice y9a y9n y9c, .slice yAa yAn yAc, .slice yBa yBn yBc] 32)) := ((Below.refl _ w).alloc (Nat.le_refl _) _).alloc (by simp) _
  have G2 : ((w.alloc (.cells #[.int .i64 x0, .int .i64 x1, .int .i64 x2, .int .i64 x3, .int .i64 x4, .int .i64 x5, .slice x6a x6n x6c, .slice x7a x7n x7c, x8, .slice x9a x9n x9c, .slice xAa xAn xAc, .slice xBa xBn xBc] 32)).alloc (.cells #[.int .i64 y0, .int .i64 y1, .int .i64 y2, .int .i64 y3, .int .i64 y4, .int .i64 y5, .slice y6a y6n y6c, .slice y7a y7n y7c, y8, .slice y9a y9n y9c, .slice yAa yAn yAc, .slice yBa yBn yBc] 32)).heap[w.heap.size + 1]? = some (.cells #[.int .i64 y0, .int .i64 y1, .int .i64 y2, .int .i64 y3, .int .i64 y4, .int .i64 y5, .slice y6a y6n y6c, .slice y7a y7n y7c, y8, .slice y9a y9n y9c, .slice yAa yAn yAc, .slice yBa yBn yBc] 32 (0, 0)) := by
    have := heap_alloc_new (w.alloc (.cells #[.int .i64 x0, .int .i64 x1, .int .i64 x2, .int .i64 x3, .int .i64 x4, .int .i64 x5, .slice x6a x6n x6c, .slice x7a x7n x7c, x8, .slice x9a x9n x9c, .slice xAa xAn xAc, .slice xBa xBn xBc] 32)) (.cells #[.int .i64 y0, .int .i64 y1, .int .i64 y2, .int .i64 y3, .int .i64 y4, .int .i64 y5, .slice y6a y6n y6c, .slice y7a y7n y7c, y8, .slice y9a y9n y9c, .slice yAa yAn yAc, .slice yBa yBn yBc] 32)
    simpa using this
  have G1 : ((w.alloc (.cells #[.int .i64 x0, .int .i64 x1, .int .i64 x2, .int .i64 x3, .int .i64 x4, .int .i64 x5, .slice x6a x6n x6c, .slice x7a x7n x7c, x8, .slice x9a x9n x9c, .slice xAa xAn xAc, .slice xBa xBn xBc] 32)).alloc (.cells #[.int .i64 y0, .int .i64 y1, .int .i64 y2, .int .i64 y3, .int .i64 y4, .int .i64 y5, .slice y6a y6n y6c, .slice y7a y7n y7c, y8, .slice y9a y9n y9c, .slice yAa yAn yAc, .slice yBa yBn yBc] 32)).heap[w.heap.size]? = some (.cells #[.int .i64 x0, .int .i64 x1, .int .i64 x2, .int .i64 x3, .int .i64 x4, .int .i64 x5, .slice x6a x6n x6c, .slice x7a x7n x7c, x8, .slice x9a x9n x9c, .slice xAa xAn xAc, .slice xBa xBn xBc] 32 (0, 0)) := by
    rw [Below.heap_alloc _ _ _ (by simp)]
    exact heap_alloc_new _ _
  obtain ⟨w2, hw2⟩ : ∃ z, ((w.alloc (.cells #[.int .i64 x0, .int .i64 x1, .int .i64 x2, .int .i64 x3, .int .i64 x4, .int .i64 x5, .slice x6a x6n x6c, .slice x7a x7n x7c, x8, .slice x9a x9n x9c, .slice xAa xAn xAc, .slice xBa xBn xBc] 32)).alloc (.cells #[.int .i64 y0, .int .i64 y1, .int .i64 y2, .int .i64 y3, .int .i64 y4, .int .i64 y5, .slice y6a y6n y6c, .slice y7a y7n y7c, y8, .slice y9a y9n y9c, .slice yAa yAn yAc, .slice yBa yBn yBc] 32)) = z := ⟨_, rfl⟩
  rw [hw2] at A2 G1 G2
  have HW : Hid (((w.alloc (.cells #[.int .i64 x0, .int .i64 x1, .int .i64 x2, .int .i64 x3, .int .i64 x4, .int .i64 x5, .slice x6a x6n x6c, .slice x7a x7n x7c, x8, .slice x9a x9n x9c, .slice xAa xAn xAc, .slice xBa xBn xBc] 32)).alloc (.cells #[.int .i64 y0, .int .i64 y1, .int .i64 y2, .int .i64 y3, .int .i64 y4, .int .i64 y5, .slice y6a y6n y6c, .slice y7a y7n y7c, y8, .slice y9a y9n y9c, .slice yAa yAn yAc, .slice yBa yBn yBc] 32)) = w2) := hw2
  have cAll : ∀ W, Below w2.heap.size w2 W → W.cell? ⟨w.heap.size, 0, none⟩ = some (.int .i64 x0) ∧ W.cell? ⟨w.heap.size, 1, none⟩ = some (.int .i64 x1) ∧ W.cell? ⟨w.heap.size, 2, none⟩ = some (.int .i64 x2) ∧ W.cell? ⟨w.heap.size, 3, none⟩ = some (.int .i64 x3) ∧ W.cell? ⟨w.heap.size, 4, none⟩ = some (.int .i64 x4) ∧ W.cell? ⟨w.heap.size, 5, none⟩ = some (.int .i64 x5) ∧ W.cell? ⟨w.heap.size, 6, none⟩ = some (.slice x6a x6n x6c) ∧ W.cell? ⟨w.heap.size, 7, none⟩ = some (.slice x7a x7n x7c) ∧ W.cell? ⟨w.heap.size, 9, none⟩ = some (.slice x9a x9n x9c) ∧ W.cell? ⟨w.heap.size, 10, none⟩ = some (.slice xAa xAn xAc) ∧ W.cell? ⟨w.heap.size, 11, none⟩ = some (.slice xBa xBn xBc) ∧ W.cell? ⟨w.heap.size + 1, 0, none⟩ = some (.int .i64 y0) ∧ W.cell? ⟨w.heap.size + 1, 1, none⟩ = some (.int .i64 y1) ∧ W.cell? ⟨w.heap.size + 1, 2, none⟩ = some (.int .i64 y2) ∧ W.cell? ⟨w.heap.size + 1, 3, none⟩ = some (.int .i64 y3) ∧ W.cell? ⟨w.heap.size + 1, 4, none⟩ = some (.int .i64 y4) ∧ W.cell? ⟨w.heap.size + 1, 5, none⟩ = some (.int .i64 y5) ∧ W.cell? ⟨w.heap.size + 1, 6, none⟩ = some (.slice y6a y6n y6c) ∧ W.cell? ⟨w.heap.size + 1, 7, none⟩ = some (.slice y7a y7n y7c) ∧ W.cell? ⟨w.heap.size + 1, 9, none⟩ = some (.slice y9a y9n y9c) ∧ W.cell? ⟨w.heap.size + 1, 10, none⟩ = some (.slice yAa yAn yAc) ∧ W.cell? ⟨w.heap.size + 1, 11, none⟩ = some (.slice yBa yBn yBc) := fun W hb => by
    have g1 := (hb.block _ (Array.getElem?_eq_some_iff.1 G1).1).trans G1
    have g2 := (hb.block _ (Array.getElem?_eq_some_iff.1 G2).1).trans G2
    simp [World.cell?, g1, g2]
  have HCT : Hid _ := CT
  have HCC : Hid _ := CC
  have HCL : Hid _ := CL
  have HCN : Hid _ := CN
  have HCF : Hid _ := CF
  have HA : Hid (Below w.heap.size w w2) := A2
  have HCA : Hid _ := cAll
  have HBB : Hid (∀ W, Below w2.heap.size w2 W → Below w.heap.size w W) := fun W hb => A2.trans (hb.mono A2.size)
  obtain ⟨a0, a1, a2, a3, a4, a5, a6, a7, a8, a9, a10, b0, b1, b2, b3, b4, b5, b6, b7, b8, b9, b10⟩ := cAll w2 (Below.refl _ _)
  rw [← hw2] at a0 a1 a2 a3 a4 a5 a6 a7 a8 a9 a10 b0 b1 b2 b3 b4 b5 b6 b7 b8 b9 b10
  clear CT CC CL CN CF A2 G1 G2 cAll hw2 hS hT hF ex6 ey6 ex7 ey7 ex8 ey8 ex9 ey9 exA eyA exB eyB hx6 hy6 hx7 hy7 hx9 hy9 hxA hyA hxB hyB hx_0 hy_0 hx_1 hy_1 hx_2 hy_2 hx_3 hy_3 hx_4 hy_4 hx_5 hy_5 hx_6 hy_6 hx_7 hy_7 hx_9 hy_9 hx_A hy_A hx_B hy_B hB h0
  by_cases q0 : ¬ x0 = y0
  · have d0 : (x0 == y0) = false := by simpa using q0
    have HN : Hid (¬ Ac.Same1 S T) := fun h => q0 (HP.out.1 h).1
    clear q0
    go_enter Tryz.func65, Tryz.ntmps65
    go_wp2
    go_ret
    exact ⟨Ak.Told.no HN.out, by first | exact HA.out | (rw [HW.out]; exact HA.out)⟩
  replace q0 := Decidable.not_not.1 q0
  have d0 : (x0 == y0) = true := by simpa using q0
  have Q0 : Hid (x0 = y0) := q0
  clear q0
  by_cases q1 : ¬ x1 = y1
  · have d1 : (x1 == y1) = false := by simpa using q1
    have HN : Hid (¬ Ac.Same1 S T) := fun h => q1 (HP.out.1 h).2.1
    clear q1
    go_enter Tryz.func65, Tryz.ntmps65
    go_wp2
    go_ret
    exact ⟨Ak.Told.no HN.out, by first | exact HA.out | (rw [HW.out]; exact HA.out)⟩
  replace q1 := Decidable.not_not.1 q1
  have d1 : (x1 == y1) = true := by simpa using q1
  have Q1 : Hid (x1 = y1) := q1
  clear q1
  by_cases q2 : ¬ x2 = y2
  · have d2 : (x2 == y2) = false := by simpa using q2
    have HN : Hid (¬ Ac.Same1 S T) := fun h => q2 (HP.out.1 h).2.2.1
    clear q2
    go_enter Tryz.func65, Tryz.ntmps65
    go_wp2
    go_ret
    exact ⟨Ak.Told.no HN.out, by first | exact HA.out | (rw [HW.out]; exact HA.out)⟩
  replace q2 := Decidable.not_not.1 q2
  have d2 : (x2 == y2) = true := by simpa using q2
  have Q2 : Hid (x2 = y2) := q2
  clear q2
  by_cases q3 : ¬ x3 = y3
  · have d3 : (x3 == y3) = false := by simpa using q3
    have HN : Hid (¬ Ac.Same1 S T) := fun h => q3 (HP.out.1 h).2.2.2.1
    clear q3
    go_enter Tryz.func65, Tryz.ntmps65
    go_wp2
    go_ret
    exact ⟨Ak.Told.no HN.out, by first | exact HA.out | (rw [HW.out]; exact HA.out)⟩
  replace q3 := Decidable.not_not.1 q3
  have d3 : (x3 == y3) = true := by simpa using q3
  have Q3 : Hid (x3 = y3) := q3
  clear q3
  go_enter Tryz.func65, Tryz.ntmps65
  go_wp2_with fail
  rw [HW.out]
  have B00 : Hid (Below w2.heap.size w2 w2) := Below.refl _ _
  clear a0 a1 a2 a3 a4 a5 a6 a7 a8 a9 a10 b0 b1 b2 b3 b4 b5 b6 b7 b8 b9 b10
  refine Calls.mono (HCT.out _ (HBB.out _ B00.out)) ?_
  rintro e X0 ⟨⟨r0, rfl, hr0⟩, hb0⟩
  have B0 : Hid (Below w2.heap.size w2 X0) := B00.out.trans (hb0.mono B00.out.size)
  have R0 : Hid (r0 = true ↔ S.t = T.t) := hr0
  clear hr0 hb0
  cases r0 with
  | false =>
    go_wp2
    go_ret
    refine ⟨Ak.Told.no fun h => ?_, HBB.out _ B0.out⟩
    have := R0.out.2 (HP.out.1 h).2.2.2.2.1
    simp at this
  | true =>
  replace R0 : Hid (S.t = T.t) := R0.out.1 (by first | rfl | trivial)
  obtain ⟨a0, a1, a2, a3, a4, a5, a6, a7, a8, a9, a10, b0, b1, b2, b3, b4, b5, b6, b7, b8, b9, b10⟩ := HCA.out X0 B0.out
  clear a0 a1 a2 a3 a4 a5 a6 a8 a9 a10 b0 b1 b2 b3 b4 b5 b6 b8 b9 b10
  go_wp2_with fail
  clear a7 b7
  refine Calls.mono (HCC.out _ (HBB.out _ B0.out)) ?_
  rintro e X1 ⟨⟨r1, rfl, hr1⟩, hb1⟩
  have B1 : Hid (Below w2.heap.size w2 X1) := B0.out.trans (hb1.mono B0.out.size)
  have R1 : Hid (r1 = true ↔ S.cs = T.cs) := hr1
  clear hr1 hb1
  cases r1 with
  | false =>
    go_wp2
    go_ret
    refine ⟨Ak.Told.no fun h => ?_, HBB.out _ B1.out⟩
    have := R1.out.2 (HP.out.1 h).2.2.2.2.2.1
    simp at this
  | true =>
  replace R1 : Hid (S.cs = T.cs) := R1.out.1 (by first | rfl | trivial)
  obtain ⟨a0, a1, a2, a3, a4, a5, a6, a7, a8, a9, a10, b0, b1, b2, b3, b4, b5, b6, b7, b8, b9, b10⟩ := HCA.out X1 B1.out
  clear a0 a1 a2 a3 a4 a5 a6 a7 a9 a10 b0 b1 b2 b3 b4 b5 b6 b7 b9 b10
  go_wp2_with fail
  clear a8 b8
  refine Calls.mono (HCL.out _ (HBB.out _ B1.out)) ?_
  rintro e X2 ⟨⟨r2, rfl, hr2⟩, hb2⟩
  have B2 : Hid (Below w2.heap.size w2 X2) := B1.out.trans (hb2.mono B1.out.size)
  have R2 : Hid (r2 = true ↔ S.ls = T.ls) := hr2
  clear hr2 hb2
  cases r2 with
  | false =>
    go_wp2
    go_ret
    refine ⟨Ak.Told.no fun h => ?_, HBB.out _ B2.out⟩
    have := R2.out.2 (HP.out.1 h).2.2.2.2.2.2.1
    simp at this
  | true =>
  replace R2 : Hid (S.ls = T.ls) := R2.out.1 (by first | rfl | trivial)
  obtain ⟨a0, a1, a2, a3, a4, a5, a6, a7, a8, a9, a10, b0, b1, b2, b3, b4, b5, b6, b7, b8, b9, b10⟩ := HCA.out X2 B2.out
  clear a0 a1 a2 a3 a4 a5 a6 a7 a8 a10 b0 b1 b2 b3 b4 b5 b6 b7 b8 b10
  go_wp2_with fail
  clear a9 b9
  refine Calls.mono (HCN.out _ (HBB.out _ B2.out)) ?_
  rintro e X3 ⟨⟨r3, rfl, hr3⟩, hb3⟩
  have B3 : Hid (Below w2.heap.size w2 X3) := B2.out.trans (hb3.mono B2.out.size)
  have R3 : Hid (r3 = true ↔ S.ns = T.ns) := hr3
  clear hr3 hb3
  cases r3 with
  | false =>
    go_wp2
    go_ret
    refine ⟨Ak.Told.no fun h => ?_, HBB.out _ B3.out⟩
    have := R3.out.2 (HP.out.1 h).2.2.2.2.2.2.2.1
    simp at this
  | true =>
  replace R3 : Hid (S.ns = T.ns) := R3.out.1 (by first | rfl | trivial)
  obtain ⟨a0, a1, a2, a3, a4, a5, a6, a7, a8, a9, a10, b0, b1, b2, b3, b4, b5, b6, b7, b8, b9, b10⟩ := HCA.out X3 B3.out
  clear a0 a1 a2 a3 a4 a5 a6 a7 a8 a9 b0 b1 b2 b3 b4 b5 b6 b7 b8 b9
  go_wp2_with fail
  clear a10 b10
  refine Calls.mono (HCF.out _ (HBB.out _ B3.out)) ?_
  rintro e X4 ⟨⟨r4, rfl, hr4⟩, hb4⟩
  have B4 : Hid (Below w2.heap.size w2 X4) := B3.out.trans (hb4.mono B3.out.size)
  have R4 : Hid (r4 = true ↔ S.fs = T.fs) := hr4
  clear hr4 hb4
  go_wp2
  go_ret
  refine ⟨Ak.Told.iff (R4.out.trans ⟨fun h => HP.out.2 ⟨Q0.out, Q1.out, Q2.out, Q3.out, R0.out, R1.out, R2.out, R3.out, h⟩, fun h => (HP.out.1 h).2.2.2.2.2.2.2.2⟩), HBB.out _ B4.out⟩
end Go.Proofs
namespace Go.Proofs
def Rk.freeB (es : List (Nat × Nat)) (tk : List Bool) (i : Nat) : Bool := !(es.any fun e => decide (e.2 = i) && !(tk[e.1]?.getD false))
def Rk.nextB (es : List (Nat × Nat)) (tk : List Bool) (i : Nat) : Bool := !(tk[i]?.getD false) && Rk.freeB es tk i
def Rk.go (n : Nat) (es : List (Nat × Nat)) : Nat → List Bool → List Nat → List Nat
 | 0, _, o => o
 | k + 1, tk, o => match (List.range n).find? (Rk.nextB es tk) with
   | none => o
   | some i => Rk.go n es k (tk.set i true) (o ++ [i])
def Rk.order (n : Nat) (es : List (Nat × Nat)) : List Nat := Rk.go n es n (List.replicate n false) []
structure Rk.Took (n : Nat) (es : List (Nat × Nat)) (tk : List Bool) (o : List Nat) : Prop where
 len : tk.length = n
 mem : ∀ i, Rk.on tk i ↔ i ∈ o
 nodup : o.Nodup
 lt : ∀ i, i ∈ o → i < n
 ahead : ∀ e, e ∈ es → ∀ j : Nat, o[j]? = some e.2 → ∃ k : Nat, k < j ∧ o[k]? = some e.1
 left : Rk.left tk + o.length = n
end Go.Proofs
namespace Go.Proofs
open Go.RowKit Go.Shelf
def Rq.Bits (w : World) (g : Nat) (bs : List Bool) : Prop := w.heap[g]? = some (.cells (bs.map Value.bool).toArray 4 (0, 0))
theorem Rq.Bits.lt {w : World} {g : Nat} {bs : List Bool} (h : Rq.Bits w g bs) : g < w.heap.size := (Array.getElem?_eq_some_iff.1 h).1
theorem Rq.Bits.cell {w : World} {g : Nat} {bs : List Bool} (h : Rq.Bits w g bs) (j : Nat) (b : Bool) (hj : bs[j]? = some b) : w.cell? ⟨g, j, none⟩ = some (.bool b) := by
 unfold Rq.Bits at h
 simp [World.cell?, h, hj]
theorem Rq.Bits.frozen {w : World} {g : Nat} {bs : List Bool} (h : Rq.Bits w g bs) (j : Nat) : w.frozen? ⟨g, j, none⟩ = false := by
 unfold Rq.Bits at h
 simp [World.frozen?, h]
theorem Rq.Bits.put {w : World} {g : Nat} {bs : List Bool} (h : Rq.Bits w g bs) (j : Nat) (b : Bool) : Rq.Bits (w.setCell ⟨g, j, none⟩ (.bool b)) g (bs.set j b) := by
 unfold Rq.Bits at *
 simp [World.setCell, Array.getElem?_modify, h]
theorem Rq.Bits.keep {w w' : World} {g : Nat} {bs : List Bool} (h : Rq.Bits w g bs) (hk : w'.heap[g]? = w.heap[g]?) : Rq.Bits w' g bs := by unfold Rq.Bits; rw [hk]; exact h
theorem Rq.Bits.below {w w' : World} {g B : Nat} {bs : List Bool} (h : Rq.Bits w g bs) (hb : Below B w w') (hg : g < B) : Rq.Bits w' g bs := h.keep (hb.block g hg)
def Rk.Eds (w : World) (B : Nat) (a : Option Addr) (es : List (Int × Int)) : Prop :=
 ∀ j (h : j < es.length), ∃ g off, a = some ⟨g, off, none⟩ ∧ g < B ∧ w.cell? ⟨g, off + j * 2, none⟩ = some (.int .i64 es[j].1) ∧ w.cell? ⟨g, off + j * 2 + 1, none⟩ = some (.int .i64 es[j].2)
theorem Rk.Eds.below {w w' : World} {B : Nat} {a : Option Addr} {es : List (Int × Int)} (h : Rk.Eds w B a es) (hb : Below B w w') : Rk.Eds w' B a es := fun j hj => by
 obtain ⟨g, off, h1, h2, h3, h4⟩ := h j hj
 exact ⟨g, off, h1, h2, by rw [hb.cell (p := ⟨g, off + j * 2, none⟩) h2]; exact h3, by rw [hb.cell (p := ⟨g, off + j * 2 + 1, none⟩) h2]; exact h4⟩
theorem Rk.Eds.wider {w : World} {B B' : Nat} {a : Option Addr} {es : List (Int × Int)} (h : Rk.Eds w B a es) (hB : B ≤ B') : Rk.Eds w B' a es := fun j hj => by
 obtain ⟨g, off, h1, h2, h3⟩ := h j hj
 exact ⟨g, off, h1, by omega, h3⟩
def Rk.up (es : List (Nat × Nat)) : List (Int × Int) := es.map fun e => ((e.1 : Int), (e.2 : Int))
theorem Rk.up_length (es : List (Nat × Nat)) : (Rk.up es).length = es.length := by simp [Rk.up]
theorem Rk.up_get (es : List (Nat × Nat)) (j : Nat) (h : j < (Rk.up es).length) : (Rk.up es)[j] = (((es[j]'(by simpa [Rk.up] using h)).1 : Int), ((es[j]'(by simpa [Rk.up] using h)).2 : Int)) := by simp [Rk.up]
def Rk.Pred (g : Nat) (lb : Array Value) (p : Int × Int → Bool) (es : List (Int × Int)) (w : World) : Prop :=
 ∀ (W : World) (x y : Int), (x, y) ∈ es → Below w.heap.size w W → Calls Tryz.prog g (#[.agg #[.int .i64 x, .int .i64 y]] ++ lb) W fun e w' => e = .returned (.bool (p (x, y))) ∧ Below w.heap.size w w'
set_option maxHeartbeats 2000000 in
theorem Tryz.index_any (p : Int × Int → Bool) (g : Nat) (lb : Array Value) (eg : ∀ args w, (callFunc g args).run Tryz.prog w = .ok (.enter g args) w) (a : Option Addr) (c : Nat) (es : List (Int × Int)) (w : World)
  (hp : Rk.Pred g lb p es w) (hE : Rk.Eds w w.heap.size a es) (hn : es.length ≤ 1000000000000000) :
  Calls Tryz.prog 149 #[.slice a es.length c, .func (.func g) #[] lb] w fun e w' => (∃ k : Int, e = .returned (.int .i64 k) ∧ decide (0 ≤ k) = es.any p) ∧ Below w.heap.size w w' := by
 obtain ⟨n, hnn⟩ : ∃ n, es.length = n := ⟨_, rfl⟩
 rw [hnn] at hn ⊢
 have HP : Hid (Rk.Pred g lb p es w) := hp
 have HE : Hid (Rk.Eds w w.heap.size a es ∧ es.length = n) := ⟨hE, hnn⟩
 clear hp hE hnn
 go_enter Tryz.func149, Tryz.ntmps149
 go_wp2
 go_loopg [5, 8] n (fun gk _ s8 wr => ∃ k : Nat, gk + k = n ∧ s8 = .int .i64 k ∧ Hid (Below w.heap.size w wr ∧ (es.take k).any p = false))
 case atStart => exact ⟨0, by omega, rfl, Below.refl _ w, by simp⟩
 case round =>
  obtain ⟨k, hk, rfl, HB⟩ := hrel
  by_cases hlt : k < n
  ·have hd : decide ((k : Int) < n) = true := decide_eq_true (by omega)
   have hkl : k < es.length := by rw [HE.out.2]; exact hlt
   obtain ⟨q, off, rfl, hq, h0, h1⟩ := HE.out.1 k hkl
   obtain ⟨x, hx⟩ : ∃ x, es[k] = x := ⟨_, rfl⟩
   obtain ⟨x0, x1⟩ := x
   rw [hx] at h0 h1
   have hc0 : wr.cell? ⟨q, off + k * 2, none⟩ = some (.int .i64 x0) := by rw [HB.out.1.cell (p := ⟨q, off + k * 2, none⟩) hq]; exact h0
   have hc1 : wr.cell? ⟨q, off + k * 2 + 1, none⟩ = some (.int .i64 x1) := by rw [HB.out.1.cell (p := ⟨q, off + k * 2 + 1, none⟩) hq]; exact h1
   have HX : Hid (es[k] = (x0, x1)) := hx
   have hcall := HP.out wr x0 x1 (by rw [← hx]; exact List.getElem_mem hkl) HB.out.1
   clear h0 h1 hx hq
   have hu := Tryz.underlying128
   cases hq : p (x0, x1) with
   | true =>
     rw [hq] at hcall
     have HQ : Hid (p (x0, x1) = true) := hq
     clear hq
     go_wp2_with (go_at_fn g; refine hcall.mono ?_; rintro e w' ⟨rfl, hb'⟩)
     go_ret
     refine ⟨⟨k, rfl, ?_⟩, hb'⟩
     rw [decide_eq_true (by omega)]
     exact (List.any_eq_true.2 ⟨es[k], List.getElem_mem hkl, by rw [HX.out]; exact HQ.out⟩).symm
   | false =>
     rw [hq] at hcall
     have HQ : Hid (p (x0, x1) = false) := hq
     clear hq
     go_wp2_with (go_at_fn g; refine hcall.mono ?_; rintro e w' ⟨rfl, hb'⟩)
     go_roundg (gk - 1)
     case measure => omega
     case rel =>
      refine ⟨k + 1, by omega, by go_num, hb', ?_⟩
      rw [Tm.take_snoc _ _ hkl, List.any_append, HB.out.2, HX.out]
      simp [HQ.out]
  ·have hd : decide ((k : Int) < n) = false := decide_eq_false (by omega)
   go_wp2
   go_ret
   refine ⟨⟨-1, rfl, ?_⟩, HB.out.1⟩
   have := HB.out.2
   rw [List.take_of_length_le (by rw [HE.out.2]; omega)] at this
   rw [this]
   rfl
set_option maxHeartbeats 2000000 in
theorem Tryz.contains_any (p : Int × Int → Bool) (g : Nat) (lb : Array Value) (eg : ∀ args w, (callFunc g args).run Tryz.prog w = .ok (.enter g args) w) (a : Option Addr) (c : Nat) (es : List (Int × Int)) (w : World)
  (hp : Rk.Pred g lb p es w) (hE : Rk.Eds w w.heap.size a es) (hn : es.length ≤ 1000000000000000) :
  Calls Tryz.prog 127 #[.slice a es.length c, .func (.func g) #[] lb] w fun e w' => e = .returned (.bool (es.any p)) ∧ Below w.heap.size w w' := by
 have HC : Hid _ := Tryz.index_any p g lb eg a c es w hp hE hn
 obtain ⟨q, hq⟩ : ∃ q, es.any p = q := ⟨_, rfl⟩
 rw [hq] at HC ⊢
 clear hp hE hq
 go_enter Tryz.func127, Tryz.ntmps127
 go_wp2_with fail
 refine Calls.mono HC.out ?_
 rintro e W1 ⟨⟨k, rfl, hk⟩, hb⟩
 have HB : Hid (Below w.heap.size w W1) := hb
 have HK : Hid (decide (0 ≤ k) = q) := hk
 clear hb hk HC
 go_wp2
 go_ret
 exact ⟨Tk.ret_bool HK.out, HB.out⟩
set_option maxHeartbeats 2000000 in
theorem Tryz.within_any (n i : Int) (w : World) : Calls Tryz.prog 129 #[.int .i64 n, .int .i64 i] w fun e w' => e = .returned (.bool (decide (0 ≤ i) && decide (i < n))) ∧ w' = w := by
 cases h1 : decide (0 ≤ i) <;> cases h2 : decide (i < n)
 all_goals
  go_enter Tryz.func129, Tryz.ntmps129
  go_wp2
  go_ret
  exact ⟨rfl, rfl⟩
end Go.Proofs
namespace Go.Proofs
open Go.RowKit Go.Shelf
def Rk.inB (n i : Int) : Bool := decide (0 ≤ i) && decide (i < n)
def Rk.outB (n : Int) (x : Int × Int) : Bool := !Rk.inB n x.1 || !Rk.inB n x.2
def Rk.chk (n : Int) (es : List (Int × Int)) : Int := if n < 0 ∨ 64 < n then 1 else if 256 < es.length then 2 else if es.any (Rk.outB n) = true then 4 else 0
theorem Rk.enters_check : ∀ args w, (callFunc 128 args).run Tryz.prog w = .ok (.enter 128 args) w := enters_of Tryz.func128 (by kernel_rfl) rfl
set_option maxHeartbeats 2000000 in
theorem Rk.check_pred (n : Int) (b : Nat) (es : List (Int × Int)) (w : World) (hb : b < w.heap.size) (hc : w.cell? ⟨b, 0, none⟩ = some (.int .i64 n)) : Rk.Pred 128 #[.pointer (some ⟨b, 0, none⟩)] (Rk.outB n) es w := by
 intro W x y _ hW
 show Calls Tryz.prog 128 #[.agg #[.int .i64 x, .int .i64 y], .pointer (some ⟨b, 0, none⟩)] W _
 have B0 : Hid (Below w.heap.size w W) := hW
 have c0 : W.cell? ⟨b, 0, none⟩ = some (.int .i64 n) := (hW.cell (p := ⟨b, 0, none⟩) hb).trans hc
 have HS : w.heap.size ≤ W.heap.size := hW.size
 have hbW : b < W.heap.size := Nat.lt_of_lt_of_le hb hW.size
 clear hc hW
 have HX : Hid (Rk.outB n (x, y) = (!Rk.inB n x || !Rk.inB n y)) := rfl
 cases hx : Rk.inB n x
 ·have h1 : (decide (0 ≤ x) && decide (x < n)) = false := hx
  rw [HX.out, hx]
  clear hx HX
  go_enter Tryz.func128, Tryz.ntmps128
  go_wp2_with fail
  refine (Tryz.within_any n x _).mono ?_
  rintro e W1 ⟨rfl, rfl⟩
  rw [h1]
  go_wp2
  go_ret
  exact ⟨rfl, B0.out.alloc HS _⟩
 ·have h1 : (decide (0 ≤ x) && decide (x < n)) = true := hx
  have HY : Hid (Rk.inB n y = (decide (0 ≤ y) && decide (y < n))) := rfl
  rw [HX.out, hx, HY.out]
  clear hx HX HY
  obtain ⟨q, hq⟩ : ∃ q, (decide (0 ≤ y) && decide (y < n)) = q := ⟨_, rfl⟩
  rw [hq]
  have HQ : Hid _ := hq
  clear hq
  go_enter Tryz.func128, Tryz.ntmps128
  go_wp2_with fail
  refine (Tryz.within_any n x _).mono ?_
  rintro e W1 ⟨rfl, rfl⟩
  rw [h1]
  go_wp2_with fail
  refine (Tryz.within_any n y _).mono ?_
  rintro e W1 ⟨rfl, rfl⟩
  rw [HQ.out]
  go_wp2
  go_ret
  exact ⟨by simp, B0.out.alloc HS _⟩
set_option maxHeartbeats 2000000 in
theorem Tryz.rkCheck_any (n : Int) (a : Option Addr) (c : Nat) (es : List (Int × Int)) (w : World) (hE : Rk.Eds w w.heap.size a es) (hn : es.length ≤ 1000000000000000) :
  Calls Tryz.prog 105 #[.int .i64 n, .slice a es.length c] w fun e w' => e = .returned (.int .i64 (Rk.chk n es)) ∧ Below w.heap.size w w' := by
 have B0 : Hid (Below w.heap.size w (w.alloc (.cells #[.int .i64 n] 3))) := (Below.refl _ w).alloc (Nat.le_refl _) _
 have HC : Hid _ := Tryz.contains_any (Rk.outB n) 128 #[.pointer (some ⟨w.heap.size, 0, none⟩)] Rk.enters_check a c es (w.alloc (.cells #[.int .i64 n] 3)) (Rk.check_pred n w.heap.size es _ (by simp) (by simp)) ((hE.below B0.out).wider (by simp)) hn
 obtain ⟨q, hq⟩ : ∃ q, es.any (Rk.outB n) = q := ⟨_, rfl⟩
 obtain ⟨m, hm⟩ : ∃ m, es.length = m := ⟨_, rfl⟩
 have HR : Hid (Rk.chk n es = if n < 0 ∨ 64 < n then 1 else if 256 < m then 2 else if q = true then 4 else 0) := by show Rk.chk n es = _; unfold Rk.chk; rw [hq, hm]
 rw [HR.out]
 rw [hq] at HC
 rw [hm] at HC hn ⊢
 clear hE hq hm HR
 by_cases h1 : n < 0
 ·have d1 : decide (n < 0) = true := decide_eq_true h1
  rw [if_pos (.inl h1)]
  clear h1
  go_enter Tryz.func105, Tryz.ntmps105
  go_wp2
  go_ret
  exact ⟨rfl, B0.out⟩
 ·have d1 : decide (n < 0) = false := decide_eq_false h1
  by_cases h2 : 64 < n
  ·have d2 : decide (64 < n) = true := decide_eq_true h2
   rw [if_pos (.inr h2)]
   clear h1 h2
   go_enter Tryz.func105, Tryz.ntmps105
   go_wp2
   go_ret
   exact ⟨rfl, B0.out⟩
  ·have d2 : decide (64 < n) = false := decide_eq_false h2
   rw [if_neg (by omega)]
   clear h1 h2
   by_cases h3 : 256 < m
   ·have d3 : decide ((256 : Int) < m) = true := decide_eq_true (by omega)
    rw [if_pos h3]
    clear h3
    go_enter Tryz.func105, Tryz.ntmps105
    go_wp2
    go_ret
    exact ⟨rfl, B0.out⟩
   ·have d3 : decide ((256 : Int) < m) = false := decide_eq_false (by omega)
    rw [if_neg h3]
    clear h3
    go_enter Tryz.func105, Tryz.ntmps105
    go_wp2_with fail
    refine Calls.mono HC.out ?_
    rintro e W1 ⟨rfl, hb⟩
    have B1 : Hid (Below w.heap.size w W1) := B0.out.trans (hb.mono (by simp))
    clear hb HC
    cases q
    ·go_wp2
     go_ret
     exact ⟨rfl, B1.out⟩
    ·go_wp2
     go_ret
     exact ⟨rfl, B1.out⟩
end Go.Proofs
