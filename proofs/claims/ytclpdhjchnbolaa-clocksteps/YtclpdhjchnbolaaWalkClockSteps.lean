/-
  The walk of ClockSteps.
-/
import Derived.Test.YtclpdhjchnbolaaCsDoes
import Derived.Test.YtclpdhjchnbolaaCkArg
import Derived.Deep.DeepCutAuto
namespace Go.Proofs.Ytclpdhjchnbolaa.ClockSteps
open Go.RowKit Go.Shelf

theorem dues_take {now : Int} {M : List Ck.Al} {j : Nat} (hj : j < M.length) : Cs.dues now (M.take (j + 1)) = Cs.dues now (M.take j) + if M[j].2 ≤ now then 1 else 0 := by
  rw [List.take_succ_eq_append_getElem hj, Cs.dues_snoc]
theorem least_snoc {now : Int} {M : List Ck.Al} {j : Nat} {nx : Int} (h : Cs.Least now M j nx) (hj : j < M.length) (hn : nx < 0 ∨ Ck.left now M[j].2 < nx) : Cs.Least now M (j + 1) (Ck.left now M[j].2) := by
  refine .inr ⟨by omega, by unfold Ck.left; omega, ⟨j, hj, rfl⟩, fun i hi hij => ?_⟩
  rcases Nat.lt_or_ge i j with h1 | h1
  · rcases h with ⟨h0, _⟩ | ⟨_, h2, _, h3⟩
    · omega
    · have := h3 i hi h1
      omega
  · have : i = j := by omega
    subst this
    exact Int.le_refl _
theorem least_keep {now : Int} {M : List Ck.Al} {j : Nat} {nx : Int} (h : Cs.Least now M j nx) (hj : j < M.length) (h0 : 0 ≤ nx) (hn : nx ≤ Ck.left now M[j].2) : Cs.Least now M (j + 1) nx := by
  rcases h with ⟨_, h1⟩ | ⟨h1, h2, h3, h4⟩
  · omega
  · refine .inr ⟨by omega, h2, h3, fun i hi hij => ?_⟩
    rcases Nat.lt_or_ge i j with h5 | h5
    · exact h4 i hi h5
    · have : i = j := by omega
      subst this
      exact hn

theorem now_at {B c q : Nat} {now : Int} {M : List Ck.Al} {W5 : World} (h : Cs.Two B c q now M W5) (W : World) (e1 : W.heap = W5.heap) (e2 : W.os = W5.os) (e3 : W.tape = W5.tape) (e4 : W.output = W5.output) : Calls Try.prog 11 #[.pointer (some ⟨c, 0, none⟩)] W fun e w' => e = .returned (.int .i64 now) ∧ w'.cell? ⟨q, 0, none⟩ = some (.int .i64 now) ∧ Below W5.heap.size W5 w' := by
  have b0 : Below W5.heap.size W5 W := ⟨e2, e3, e4, by rw [e1]; exact Nat.le_refl _, fun k _ => by rw [e1]⟩
  refine Calls.mono (Try.cNow_any c now W (h.below b0).cc) fun e w' ⟨h1, h2⟩ => ?_
  rw [h2]
  exact ⟨h1, (h.below b0).cd, b0⟩

set_option maxRecDepth 20000 in
set_option maxHeartbeats 16000000 in
theorem walk (a : Option Addr) (cp : Nat) (l : List Ck.Stp) (id : Int) (w : World) (hS : Ck.Sts w w.heap.size a l) : Calls Try.prog 3 #[.slice a l.length cp, .int .i64 id] w fun e w' => e = .returned (.bool true) ∧ Below w.heap.size w w' := by
  have CN : Hid _ := Try.cNew_any w
  obtain ⟨c, hc⟩ : ∃ c, w.heap.size = c := ⟨_, rfl⟩
  rw [hc] at CN hS
  have HC : Hid (w.heap.size = c) := hc
  have C2 : Hid (∀ W : World, Calls Try.prog 9 #[] W fun e w' => e = .returned (.bool true) ∧ Below W.heap.size W w') := Try.two_any
  obtain ⟨N, hN⟩ : ∃ n, l.length = n := ⟨_, rfl⟩
  have HL : Hid (Ck.Sts w c a l ∧ l.length = N) := ⟨hS, hN⟩
  rw [hN]
  have HF : Hid (∀ (W1 W2 : World), Below c w W1 → Below W1.heap.size W1 W2 → Below w.heap.size w W2) := fun W1 W2 h1 h2 => by rw [hc]; exact h1.trans (h2.mono (hc ▸ h1.size))
  by_cases hr : 150 < N
  · have d0 : decide (150 < (N : Int)) = true := decide_eq_true (by omega)
    have d0' : decide (150 < N) = true := decide_eq_true hr
    clear hr hN hS hc
    go_enter Try.func3, Try.ntmps3
    go_wp2_with fail
    refine Calls.mono CN.out ?_
    rintro e W1 ⟨rfl, hb1, -⟩
    have HB1 : Hid (Below c w W1) := hb1
    clear hb1
    go_wp2_with fail
    refine Calls.mono (C2.out _) ?_
    rintro e W3 ⟨rfl, hb3⟩
    go_wp2
    go_ret
    exact ⟨rfl, HF.out _ _ HB1.out hb3⟩
  have d0 : decide (150 < (N : Int)) = false := decide_eq_false (by omega)
  have d0' : decide (150 < N) = false := decide_eq_false hr
  have hN150 : N ≤ 150 := by omega
  clear hr hN hS hc
  go_enter Try.func3, Try.ntmps3
  go_wp2_with fail
  refine Calls.mono CN.out ?_
  rintro e W1 ⟨rfl, hb1, h1⟩
  obtain ⟨q, hq⟩ : ∃ d, W1.heap.size = d := ⟨_, rfl⟩
  obtain ⟨W2, hW2⟩ : ∃ x, W1.alloc (.cells #[.int .i64 0, .slice none 0 0] 29) = x := ⟨_, rfl⟩
  have P2 : Hid (Below c w W2 ∧ Cs.Two c c q 0 [] W2) := by
    have hcq : c ≤ q := by have := hb1.size; have := HC.out; omega
    have b2 : Below W1.heap.size W1 W2 := by rw [← hW2]; exact (Below.refl _ W1).alloc (Nat.le_refl _) _
    refine ⟨hb1.trans (b2.mono (by omega)), List.Pairwise.nil, Ck.Ok.nil, .slice none 0 0, .slice none 0 0, ?_, hcq, ?_, rfl, .inl ⟨rfl, rfl⟩⟩
    · have e : Ck.sort [] = [] := by simp [Ck.sort]
      rw [e]
      exact h1.below b2 (Nat.le_refl _)
    · rw [← hW2, ← hq]
      exact heap_alloc_new _ _
  have HW2 : Hid (W1.alloc (.cells #[.int .i64 0, .slice none 0 0] 29) = W2) := hW2
  clear hW2 hb1 h1 CN
  go_upto_region 5 with fail
  rw [HW2.out]
  clear HW2 hq
  go_wp2
  go_loopg [37] N (fun gk s37 wr => ∃ k : Nat, gk + k = N ∧ s37 = .int .i64 k ∧ Hid (Below c w wr ∧ ∃ now M, Cs.Two c c q now M wr))
  case atStart => exact ⟨0, by omega, rfl, ⟨P2.out.1, 0, [], P2.out.2⟩⟩
  case round =>
    obtain ⟨k, hk, rfl, HB⟩ := hrel
    clear P2
    by_cases hlt : k < N
    · have dl : decide ((k : Int) < N) = true := decide_eq_true (by omega)
      have hkl : k < l.length := by rw [HL.out.2]; exact hlt
      obtain ⟨g, off, rfl, hg, x0, x1, x2, -⟩ := HL.out.1 k hkl
      rw [← HB.out.1.cell (p := ⟨g, off + k * 3, none⟩) hg] at x0
      rw [← HB.out.1.cell (p := ⟨g, off + k * 3 + 1, none⟩) hg] at x1
      rw [← HB.out.1.cell (p := ⟨g, off + k * 3 + 2, none⟩) hg] at x2
      obtain ⟨⟨s0, s1, s2⟩, hse⟩ : ∃ s, l[k] = s := ⟨_, rfl⟩
      rw [hse] at x0 x1 x2
      simp only at x0 x1 x2
      have hk0 : (0 : Int) ≤ k := by omega
      have hlt' : (k : Int) < N := by omega
      have HK : Hid ((wr.alloc (.cells #[.int .i64 0, .int .i64 0, .int .i64 0] 31)).heap[wr.heap.size]? = some (.cells #[.int .i64 0, .int .i64 0, .int .i64 0] 31 (0, 0))) := heap_alloc_new wr _
      obtain ⟨V0, hV0⟩ : ∃ z, (wr.alloc (.cells #[.int .i64 0, .int .i64 0, .int .i64 0] 31)).setRow wr.heap.size #[.int .i64 s0, .int .i64 s1, .int .i64 s2] = z := ⟨_, rfl⟩
      have HV0 : Hid _ := hV0
      have GV : V0.heap[wr.heap.size]? = some (.cells #[.int .i64 s0, .int .i64 s1, .int .i64 s2] 31 (0, 0)) := by show _ = _; rw [← hV0]; exact setRow_heap _ _ _ _ _ _ HK.out
      have BV : Below wr.heap.size wr V0 := by
        rw [← hV0]
        exact ((Below.refl _ wr).alloc (Nat.le_refl _) _).trans ⟨rfl, rfl, rfl, by simp [World.setRow], fun k hk => setRow_other _ _ _ _ (by omega)⟩
      obtain ⟨now0, M0, hT0⟩ := HB.out.2
      have hcw : c ≤ wr.heap.size := by have := HB.out.1.size; have := HC.out; omega
      have H0 : Hid (Below c w V0 ∧ Cs.Two c c q now0 M0 V0) := ⟨HB.out.1.trans (BV.mono hcw), hT0.below BV⟩
      have v0 : V0.cell? ⟨wr.heap.size, 0, none⟩ = some (.int .i64 s0) := by simp [World.cell?, GV]
      have v1 : V0.cell? ⟨wr.heap.size, 1, none⟩ = some (.int .i64 s1) := by simp [World.cell?, GV]
      have v2 : V0.cell? ⟨wr.heap.size, 2, none⟩ = some (.int .i64 s2) := by simp [World.cell?, GV]
      have CD : Hid (∀ W : World, W.heap = V0.heap → W.os = V0.os → W.tape = V0.tape → W.output = V0.output → Calls Try.prog 10 #[.pointer (some ⟨c, 0, none⟩), .pointer (some ⟨q, 0, none⟩), .agg #[.int .i64 s0, .int .i64 s1, .int .i64 s2]] W fun e w' => e = .returned (.bool true) ∧ Below c w w' ∧ ∃ now M, Cs.Two c c q now M w') := fun W e1 e2 e3 e4 => by
        have b0 : Below V0.heap.size V0 W := ⟨e2, e3, e4, by rw [e1]; exact Nat.le_refl _, fun k _ => by rw [e1]⟩
        refine Calls.mono (Try.does_any s0 s1 s2 W (H0.out.2.below b0)) fun e w' ⟨h1, h2, h3⟩ => ⟨h1, ?_, h3⟩
        exact (H0.out.1.trans (b0.mono H0.out.2.low)).trans h2
      clear hV0 GV BV hse hT0 H0
      go_upto_region 8 with (refine wpList_store_row rfl 31 _ _ rfl wr.heap.size #[.int .i64 s0, .int .i64 s1, .int .i64 s2] rfl rfl 31 _ HK.out (by kernel_rfl) rfl (by kernel_rfl) ?_)
      rw [HV0.out]
      clear HK HV0 x0 x1 x2
      go_region_law (first
        | (go_simp; go_at_call 10; refine Calls.mono (CD.out _ rfl rfl rfl rfl) ?_; rintro e W5 ⟨rfl, hb5, now, M, hT5⟩; have c05 := (Cs.Two.cd hT5); have D5 : Hid (Below c w W5 ∧ Cs.Two c c q now M W5) := ⟨hb5, hT5⟩; clear hb5 hT5)
        | (go_simp; go_at_call 11; refine Calls.mono (now_at D5.out.2 _ rfl rfl rfl rfl) ?_; rintro e W6 ⟨rfl, c06, hb6⟩; have D6 : Hid (Below W5.heap.size W5 W6) := hb6; clear hb6)
        | fail)
      all_goals
        have e05 : (now != now) = false := by simp
        have hT6 := D5.out.2.below D6.out
        have hcw6 : c ≤ W5.heap.size := D5.out.2.low
        have hb6 : Below c w W6 := D5.out.1.trans (D6.out.mono hcw6)
        obtain ⟨hap, hok, v6, u6, ha6, hd6⟩ := hT6
        have A6 : Hid (Below c w W6 ∧ Ck.At c c v6 now (Ck.sort M) W6 ∧ Cd.At c q u6 now M W6 ∧ Cs.apart M ∧ Ck.Ok now M ∧ Ck.Ok now (Ck.sort M)) := ⟨hb6, ha6, hd6, hap, hok, Cs.ok_sort hok⟩
        have CL : Hid _ := Try.cLeft_any id W6 ha6 (Cs.ok_sort hok)
        clear hb6 hap hok ha6 hd6 CD v0 v1 v2 c05 c06 D5 D6 hcw6
        go_simp
        go_wp2_with fail
        refine Calls.mono CL.out ?_
        rintro e W7 ⟨⟨n7, b7, rfl, hl7⟩, hb7⟩
        have CA : Hid _ := Try.rAt_any id W7 (A6.out.2.2.1.below hb7 (Nat.le_refl _)) A6.out.2.2.2.2.1.len
        have B7 : Hid (Below W6.heap.size W6 W7 ∧ Ck.Lft now (Ck.sort M) id n7 b7) := ⟨hb7, hl7⟩
        clear hb7 hl7 CL e05
        go_wp2_with fail
        refine Calls.mono CA.out ?_
        rintro e W8 ⟨⟨r8, rfl, hx8⟩, hb8⟩
        have hL := Cs.left_same A6.out.2.2.2.1 B7.out.2 hx8
        have B8 : Hid (Below W6.heap.size W6 W8) := B7.out.1.trans (hb8.mono B7.out.1.size)
        clear hb8 hx8 CA B7
        have HFIN : Hid (∀ W, Below W6.heap.size W6 W → Calls Try.prog 15 #[.pointer (some ⟨c, 0, none⟩)] W fun e w' => ∃ u, e = .returned u ∧ w'.ownsRow W.heap.size 3 1 u (Ck.due now (Ck.sort M)).length ((Ck.due now (Ck.sort M)).map Ck.z) ∧ Below W6.heap.size W6 w') := fun W hb =>
          (Try.cDue_any W (A6.out.2.1.below hb (Nat.le_refl _)) A6.out.2.2.2.2.2).mono fun e w' ⟨u, h1, h2, h3⟩ => ⟨u, h1, h2, hb.trans (h3.mono hb.size)⟩
        go_upto_region 12 with fail
        go_cut [85] from 64 to 86 (fun s85 wc => s85 = .bool false ∧ Hid (Below W6.heap.size W6 wc))
        case first =>
          rcases hL with ⟨rfl, rfl, rfl⟩ | ⟨rfl, i, hi, rfl, hn7⟩
          · go_wp2
            go_meet
            exact ⟨rfl, B8.out⟩
          · have CR : Hid _ := Try.rLeft_any i hi W8 (A6.out.2.2.1.below B8.out (Nat.le_refl _)) A6.out.2.2.2.2.1
            have di : decide ((0 : Int) ≤ i) = true := decide_eq_true (by omega)
            rw [← hn7] at CR
            have ez : (n7 != n7) = false := by simp
            clear hn7
            go_wp2_with fail
            refine Calls.mono CR.out ?_
            rintro e W9 ⟨rfl, hb9⟩
            have B9 : Hid (Below W6.heap.size W6 W9) := B8.out.trans (hb9.mono B8.out.size)
            clear hb9
            go_wp2
            go_meet
            exact ⟨rfl, B9.out⟩
        case rest =>
          rename World => wc
          obtain ⟨rfl, BC⟩ := hcut
          clear hL B8
          go_wp2_with fail
          refine Calls.mono (HFIN.out _ BC.out) ?_
          rintro e W9 ⟨uD, rfl, hown, hb9⟩
          obtain ⟨D, hD⟩ : ∃ D, Ck.due now (Ck.sort M) = D := ⟨_, rfl⟩
          rw [hD] at hown
          obtain ⟨nd, hnd⟩ : ∃ n, D.length = n := ⟨_, rfl⟩
          rw [hnd] at hown
          obtain ⟨da, dc, rfl⟩ := Ck.own_shape hown
          have hd9 := A6.out.2.2.1.below hb9 (Nat.le_refl _)
          obtain ⟨m, hm⟩ : ∃ n, M.length = n := ⟨_, rfl⟩
          obtain ⟨ra, rc, hu6⟩ := hd9.shape
          rw [hm] at hu6
          subst hu6
          have hq1 := hd9.c1
          have H9 : Hid (Below W6.heap.size W6 W9 ∧ Cd.At c q (.slice ra m rc) now M W9 ∧ Ck.Nums W9 W9.heap.size da D ∧ Ck.due now (Ck.sort M) = D ∧ D.length = nd ∧ M.length = m) := ⟨hb9, hd9, Ck.nums_of_own hown, hD, hnd, hm⟩
          have hm64 : m ≤ 64 := by have := A6.out.2.2.2.2.1.len; omega
          have hnd64 : nd ≤ 64 := by have h1 := Cs.dues_due now M; have h2 := Cs.dues_le now M; rw [hD] at h1; omega
          clear hb9 hown hD hnd hm hd9 HFIN BC
          obtain ⟨g1, hg1⟩ : ∃ x, gk = x := ⟨_, rfl⟩
          rw [hg1] at hk
          go_wp2
          go_loopg [13, 14, 93] m (fun gj s13 s14 s93 wi => ∃ (j ct : Nat) (nx : Int), gj + j = m ∧ s93 = .int .i64 j ∧ s13 = .int .i64 ct ∧ s14 = .int .i64 nx ∧ ct ≤ j ∧ Hid (ct = Cs.dues now (M.take j) ∧ Cs.Least now M j nx ∧ Below W9.heap.size W9 wi))
          case atStart => exact ⟨0, 0, -1, by omega, rfl, rfl, rfl, Nat.le_refl _, rfl, .inl ⟨rfl, rfl⟩, Below.refl _ _⟩
          case round =>
            obtain ⟨j, ct, nx, hj, rfl, rfl, rfl, hct, HJ⟩ := hrel
            by_cases hjm : j < m
            · have dj : decide ((j : Int) < m) = true := decide_eq_true (by omega)
              have hjl : j < M.length := by rw [H9.out.2.2.2.2.2]; exact hjm
              have hdj := H9.out.2.1.below HJ.out.2.2 (Nat.le_refl _)
              obtain ⟨g', cap', hv', hg', hcap', y1, y2, -⟩ := hdj.nth hjl
              rw [H9.out.2.2.2.2.2] at hv'
              simp only [Value.slice.injEq, true_and] at hv'
              obtain ⟨rfl, rfl⟩ := hv'
              obtain ⟨⟨x, tm⟩, hxe⟩ : ∃ s, M[j] = s := ⟨_, rfl⟩
              rw [hxe] at y1 y2
              simp only at y1 y2
              have HX : Hid (M[j] = (x, tm)) := hxe
              have hj0 : (0 : Int) ≤ j := by omega
              have hjm' : (j : Int) < m := by omega
              have HK : Hid ((wr.alloc (.cells #[.int .i64 0, .int .i64 0] 40)).heap[wr.heap.size]? = some (.cells #[.int .i64 0, .int .i64 0] 40 (0, 0))) := heap_alloc_new wr _
              obtain ⟨V1, hV1⟩ : ∃ z, (wr.alloc (.cells #[.int .i64 0, .int .i64 0] 40)).setRow wr.heap.size #[.int .i64 x, .int .i64 tm] = z := ⟨_, rfl⟩
              have HV1 : Hid _ := hV1
              have GV : V1.heap[wr.heap.size]? = some (.cells #[.int .i64 x, .int .i64 tm] 40 (0, 0)) := by show _ = _; rw [← hV1]; exact setRow_heap _ _ _ _ _ _ HK.out
              have BV : Below wr.heap.size wr V1 := by
                rw [← hV1]
                exact ((Below.refl _ wr).alloc (Nat.le_refl _) _).trans ⟨rfl, rfl, rfl, by simp [World.setRow], fun k hk => setRow_other _ _ _ _ (by omega)⟩
              have hbx : wr.heap.size < V1.heap.size := (Array.getElem?_eq_some_iff.1 GV).1
              have CF : Hid (∀ W, Below V1.heap.size V1 W → W.cell? ⟨wr.heap.size, 0, none⟩ = some (.int .i64 x) ∧ W.cell? ⟨wr.heap.size, 1, none⟩ = some (.int .i64 tm) ∧ W.cell? ⟨q, 0, none⟩ = some (.int .i64 now) ∧ Cd.At c q (.slice (some ⟨g', 0, none⟩) m rc) now M W ∧ Below W9.heap.size W9 W) := fun W hb => by
                have e1 := (hb.block wr.heap.size hbx).trans GV
                have b9 : Below W9.heap.size W9 W := HJ.out.2.2.trans ((BV.trans (hb.mono BV.size)).mono HJ.out.2.2.size)
                have hdW := H9.out.2.1.below b9 (Nat.le_refl _)
                exact ⟨by simp [World.cell?, e1], by simp [World.cell?, e1], hdW.c0, hdW, b9⟩
              obtain ⟨z0, z1, zq, -, -⟩ := CF.out V1 (Below.refl _ _)
              clear hV1 GV BV hbx hdj hxe hg' hcap'
              go_upto_region 20 with (refine wpList_store_row rfl 40 _ _ rfl wr.heap.size #[.int .i64 x, .int .i64 tm] rfl rfl 40 _ HK.out (by kernel_rfl) rfl (by kernel_rfl) ?_)
              rw [HV1.out]
              obtain ⟨bx, hbx⟩ : ∃ z, wr.heap.size = z := ⟨_, rfl⟩
              rw [hbx] at z0 z1 CF ⊢
              clear HK HV1 y1 y2 hbx
              go_quiet (fail)
              obtain ⟨Y, hY⟩ : ∃ z, V1.drewN nq = z := ⟨_, rfl⟩
              have BY : Hid (Below V1.heap.size V1 Y) := by rw [← hY]; exact ⟨rfl, rfl, rfl, Nat.le_refl _, fun _ _ => rfl⟩
              rw [hY]
              clear hY z0 z1 zq
              go_upto_if 104 with fail
              go_cut [13] from 104 to 123 (fun s13 wc => ∃ c2 : Nat, s13 = .int .i64 c2 ∧ c2 ≤ j + 1 ∧ Hid (c2 = Cs.dues now (M.take (j + 1)) ∧ Below V1.heap.size V1 wc))
              case first =>
                have hds := dues_take (now := now) hjl
                rw [HX.out, ← HJ.out.1] at hds
                by_cases htm : tm ≤ now
                · have dt : decide (tm ≤ now) = true := decide_eq_true htm
                  have hda := Cs.due_at A6.out.2.2.2.1 (List.getElem_mem hjl) (by rw [HX.out]; exact htm)
                  rw [H9.out.2.2.2.1, HX.out] at hda
                  have CK : Hid _ := Try.rRank_any j hjl Y (CF.out Y BY.out).2.2.2.1 A6.out.2.2.2.2.1.len
                  rw [HX.out] at CK
                  obtain ⟨rk, hrk⟩ : ∃ n, Ck.rank M (x, tm) = n := ⟨_, rfl⟩
                  rw [hrk] at CK hda
                  obtain ⟨hrd, hdx⟩ := List.getElem?_eq_some_iff.1 hda
                  obtain ⟨gd, od, rfl, hgd, hcd⟩ := H9.out.2.2.1 rk hrd
                  rw [hdx] at hcd
                  simp only at hcd
                  rw [H9.out.2.2.2.2.1] at hrd
                  have HE : Hid (Cs.dues now (M.take (j + 1)) = ct + 1) := by show _ = _; rw [hds, if_pos htm]
                  have dr : decide ((nd : Int) ≤ rk) = false := decide_eq_false (by omega)
                  have hr0 : (0 : Int) ≤ rk := by omega
                  have hrd' : (rk : Int) < nd := by omega
                  have exx : (x != x) = false := by simp
                  have hwc : IntKind.i64.wrap ((ct : Int) + 1) = ((ct + 1 : Nat) : Int) := by rw [Go.IntWalk.i64_in _ (by omega)]; omega
                  have CDU : Hid (∀ W, Below V1.heap.size V1 W → W.cell? ⟨gd, od + rk, none⟩ = some (.int .i64 x)) := fun W hb => by
                    rw [(CF.out W hb).2.2.2.2.cell (p := ⟨gd, od + rk, none⟩) hgd]
                    exact hcd
                  clear hds hda hrk hdx hgd hcd
                  go_wp2_with fail
                  refine Calls.mono CK.out ?_
                  rintro e W10 ⟨rfl, hb10⟩
                  have B10 : Hid (Below V1.heap.size V1 W10) := BY.out.trans (hb10.mono BY.out.size)
                  have k1 := CDU.out W10 B10.out
                  have k2 := (CF.out W10 B10.out).1
                  clear hb10 CK
                  go_upto_region 22 with fail
                  go_quiet (fail)
                  go_wp2
                  go_meet
                  exact ⟨ct + 1, by first | rfl | (congr 1), by omega, HE.out.symm, Tk.below_drewN B10.out _⟩
                · have dt : decide (tm ≤ now) = false := decide_eq_false htm
                  have HE : Hid (Cs.dues now (M.take (j + 1)) = ct) := by show _ = _; rw [hds, if_neg htm]; rfl
                  have htm' : now < tm := by omega
                  clear hds
                  go_wp2
                  go_meet
                  exact ⟨ct, rfl, by omega, HE.out.symm, BY.out⟩
              case rest =>
                rename World => wc
                obtain ⟨c2, rfl, hc2, HC2⟩ := hcut
                have hz := CF.out wc HC2.out.2
                have CR : Hid _ := Try.rLeft_any j hjl wc hz.2.2.2.1 A6.out.2.2.2.2.1
                obtain ⟨lf, hlf⟩ : ∃ z, Ck.left now M[j].2 = z := ⟨_, rfl⟩
                rw [hlf] at CR
                have HLF : Hid (Ck.left now M[j].2 = lf ∧ Below W9.heap.size W9 wc ∧ 0 ≤ lf) := ⟨hlf, hz.2.2.2.2, by rw [← hlf]; unfold Ck.left; omega⟩
                have CR2 : Hid (∀ W, Below wc.heap.size wc W → Calls Try.prog 14 #[.pointer (some ⟨q, 0, none⟩), .int .i64 j] W fun e w' => e = .returned (.int .i64 lf) ∧ Below wc.heap.size wc w') := fun W hb =>
                  (Try.rLeft_any j hjl W (hz.2.2.2.1.below hb (Nat.le_refl _)) A6.out.2.2.2.2.1).mono fun e w' ⟨h1, h2⟩ => ⟨by rw [h1, hlf], hb.trans (h2.mono hb.size)⟩
                clear hlf hz CF BY
                by_cases hnx : nx < 0
                · have dn : decide (nx < 0) = true := decide_eq_true hnx
                  have HL2 : Hid (Cs.Least now M (j + 1) lf) := by rw [← HLF.out.1]; exact least_snoc HJ.out.2.1 hjl (.inl hnx)
                  clear hnx CR
                  go_wp2_with fail
                  refine Calls.mono (CR2.out _ (Below.refl _ _)) ?_
                  rintro e W11 ⟨rfl, hb11⟩
                  go_wp2
                  go_roundg (gk - 1)
                  case measure => omega
                  case rel => exact ⟨j + 1, c2, lf, by omega, by go_num, rfl, rfl, hc2, HC2.out.1, HL2.out, HLF.out.2.1.trans (hb11.mono HLF.out.2.1.size)⟩
                · have dn : decide (nx < 0) = false := decide_eq_false hnx
                  by_cases hlt2 : lf < nx
                  · have dl2 : decide (lf < nx) = true := decide_eq_true hlt2
                    have HL2 : Hid (Cs.Least now M (j + 1) lf) := by rw [← HLF.out.1]; exact least_snoc HJ.out.2.1 hjl (.inr (by rw [HLF.out.1]; exact hlt2))
                    clear hnx hlt2 CR
                    go_wp2_with fail
                    refine Calls.mono (CR2.out _ (Below.refl _ _)) ?_
                    rintro e W11 ⟨rfl, hb11⟩
                    have B11 : Hid (Below wc.heap.size wc W11) := hb11
                    clear hb11
                    go_wp2_with fail
                    refine Calls.mono (CR2.out _ B11.out) ?_
                    rintro e W12 ⟨rfl, hb12⟩
                    go_wp2
                    go_roundg (gk - 1)
                    case measure => omega
                    case rel => exact ⟨j + 1, c2, lf, by omega, by go_num, rfl, rfl, hc2, HC2.out.1, HL2.out, HLF.out.2.1.trans (hb12.mono HLF.out.2.1.size)⟩
                  · have dl2 : decide (lf < nx) = false := decide_eq_false hlt2
                    have HL2 : Hid (Cs.Least now M (j + 1) nx) := least_keep HJ.out.2.1 hjl (by omega) (by rw [HLF.out.1]; omega)
                    clear hnx hlt2 CR
                    go_wp2_with fail
                    refine Calls.mono (CR2.out _ (Below.refl _ _)) ?_
                    rintro e W11 ⟨rfl, hb11⟩
                    go_wp2
                    go_roundg (gk - 1)
                    case measure => omega
                    case rel => exact ⟨j + 1, c2, nx, by omega, by go_num, rfl, rfl, hc2, HC2.out.1, HL2.out, HLF.out.2.1.trans (hb11.mono HLF.out.2.1.size)⟩
            · have dj : decide ((j : Int) < m) = false := decide_eq_false (by omega)
              have hjm2 : j = m := by omega
              have hjM : M.take j = M := List.take_of_length_le (by rw [H9.out.2.2.2.2.2]; omega)
              have hct2 : ct = nd := by
                have h1 := HJ.out.1
                rw [hjM, Cs.dues_due, H9.out.2.2.2.1] at h1
                rw [h1, H9.out.2.2.2.2.1]
              have hle := HJ.out.2.1
              have hln := Cs.least_next A6.out.2.2.2.1 (by rw [H9.out.2.2.2.2.2, ← hjm2]; exact hle)
              have b6 : Below W6.heap.size W6 wr := H9.out.1.trans (HJ.out.2.2.mono H9.out.1.size)
              have CX : Hid _ := Try.cNext_any wr (A6.out.2.1.below b6 (Nat.le_refl _)) A6.out.2.2.2.2.2
              have HFN : Hid (∀ W, Below wr.heap.size wr W → Below c w W ∧ ∃ now M, Cs.Two c c q now M W) := fun W hb => by
                have bW : Below W6.heap.size W6 W := b6.trans (hb.mono b6.size)
                have hl6 : c ≤ W6.heap.size := by have := A6.out.2.1.low; have := A6.out.2.1.lt; omega
                exact ⟨A6.out.1.trans (bW.mono hl6), now, M, A6.out.2.2.2.1, A6.out.2.2.2.2.1, _, _, A6.out.2.1.below bW (Nat.le_refl _), A6.out.2.2.1.below bW (Nat.le_refl _)⟩
              have een : ((nd : Int) != (nd : Int)) = false := by simp
              subst hct2
              clear hjm2 hjM hle b6 hct
              go_wp2_with fail
              refine Calls.mono CX.out ?_
              rintro e W13 ⟨⟨n13, b13, rfl, hx13⟩, hb13⟩
              have B13 : Hid (Below wr.heap.size wr W13) := hb13
              clear hb13 CX
              rcases hx13 with ⟨rfl, rfl, hnil⟩ | ⟨rfl, hp, hn13⟩
              · rcases hln with ⟨_, rfl⟩ | ⟨hp, _, _⟩
                · clear hnil
                  go_wp2
                  go_roundg (g1 - 1)
                  case measure => omega
                  case rel => exact ⟨k + 1, by omega, by go_num, HFN.out _ B13.out⟩
                · rw [hnil] at hp
                  exact absurd hp (Nat.lt_irrefl _)
              · rcases hln with ⟨hnil, _⟩ | ⟨_, hnx0, hnx⟩
                · rw [hnil] at hp
                  simp [Ck.sort] at hp
                · have en : n13 = nx := by rw [hn13, hnx]
                  subst en
                  have dnx : decide ((0 : Int) ≤ n13) = true := decide_eq_true hnx0
                  have enn : (n13 != n13) = false := by simp
                  clear hp hn13 hnx hnx0
                  go_wp2
                  go_roundg (g1 - 1)
                  case measure => omega
                  case rel => exact ⟨k + 1, by omega, by go_num, HFN.out _ B13.out⟩
    · have dl : decide ((k : Int) < N) = false := decide_eq_false (by omega)
      go_wp2_with fail
      refine Calls.mono (C2.out _) ?_
      rintro e W3 ⟨rfl, hb3⟩
      go_wp2
      go_ret
      exact ⟨rfl, HF.out _ _ HB.out.1 hb3⟩

end Go.Proofs.Ytclpdhjchnbolaa.ClockSteps
