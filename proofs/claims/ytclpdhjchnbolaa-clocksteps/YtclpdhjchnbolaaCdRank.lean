/-
  The document's Rank.
-/
import Derived.Test.YtclpdhjchnbolaaCdSet
import Derived.Test.YtclpdhjchnbolaaNtTake
namespace Go.Proofs
open Go.RowKit Go.Shelf Go.Sort

/-- How many are ahead of one. -/
def Ck.rank (M : List Ck.Al) (a : Ck.Al) : Nat := (M.filter fun b => Ck.lt b a).length
theorem Ck.rank_snoc (M : List Ck.Al) (b a : Ck.Al) : Ck.rank (M ++ [b]) a = Ck.rank M a + if Ck.lt b a = true then 1 else 0 := by
  unfold Ck.rank
  rw [List.filter_append, List.length_append]
  congr 1
  cases h : Ck.lt b a <;> simp [h]
theorem Ck.rank_le (M : List Ck.Al) (a : Ck.Al) : Ck.rank M a ≤ M.length := List.length_filter_le _ _

set_option maxRecDepth 20000 in
set_option maxHeartbeats 4000000 in
theorem Try.rRank_any {B q : Nat} {v : Value} {now : Int} {M : List Ck.Al} (i : Nat) (hi : i < M.length) (w : World) (h : Cd.At B q v now M w) (h64 : M.length ≤ 64) : Calls Try.prog 16 #[.pointer (some ⟨q, 0, none⟩), .int .i64 i] w fun e w' => e = .returned (.int .i64 (Ck.rank M M[i])) ∧ Below w.heap.size w w' := by
  have c1 := h.c1
  obtain ⟨g, cap, hv, hg, hcap, a1, a2, _⟩ := h.nth hi
  obtain ⟨n, hn⟩ : ∃ n, M.length = n := ⟨_, rfl⟩
  rw [hn] at hv h64
  subst hv
  obtain ⟨⟨xi, ti⟩, hxi⟩ : ∃ x, M[i] = x := ⟨_, rfl⟩
  rw [hxi] at a1 a2 ⊢
  simp only at a1 a2
  have hi0 : (0 : Int) ≤ i := by omega
  have hin : (i : Int) < n := by omega
  have hlt0 := h.lt
  have H : Hid (Cd.At B q (.slice (some ⟨g, 0, none⟩) n cap) now M w ∧ M.length = n ∧ g < w.heap.size ∧ q < w.heap.size ∧ w.cell? ⟨g, i * 2, none⟩ = some (.int .i64 xi) ∧ w.cell? ⟨g, i * 2 + 1, none⟩ = some (.int .i64 ti)) := ⟨h, hn, hg, hlt0, a1, a2⟩
  clear h hn hcap a1 a2 hxi hi hg hlt0
  go_enter Try.func16, Try.ntmps16
  go_wp2
  go_loopg [5, 7, 13] n (fun gk s5 _ s13 wr => ∃ k r : Nat, gk + k = n ∧ s13 = .int .i64 k ∧ s5 = .int .i64 r ∧ r ≤ k ∧ Hid (Ck.rank (M.take k) (xi, ti) = r ∧ Below w.heap.size w wr))
  case atStart => exact ⟨0, 0, by omega, rfl, rfl, Nat.le_refl _, ⟨rfl, Below.refl _ w⟩⟩
  case round =>
    obtain ⟨k, r, hk, rfl, rfl, hrk, HB⟩ := hrel
    by_cases hlt : k < n
    · have hd : decide ((k : Int) < n) = true := decide_eq_true (by omega)
      have hkl : k < M.length := by rw [H.out.2.1]; exact hlt
      have h1 := H.out.1.below HB.out.2 (Nat.le_refl _)
      obtain ⟨g', cap', hv, hg, hcap, k1, k2, _⟩ := h1.nth hkl
      rw [H.out.2.1] at hv
      simp only [Value.slice.injEq, true_and, Option.some.injEq, Addr.mk.injEq, and_true] at hv
      obtain ⟨rfl, rfl⟩ := hv
      obtain ⟨⟨x, t⟩, hx⟩ : ∃ x, M[k] = x := ⟨_, rfl⟩
      rw [hx] at k1 k2
      simp only at k1 k2
      have HF : Hid (Ck.rank (M.take (k + 1)) (xi, ti) = r + if Ck.lt (x, t) (xi, ti) = true then 1 else 0) := by
        show _ = _
        rw [List.take_succ_eq_append_getElem hkl, hx, Ck.rank_snoc, HB.out.1]
      have HK : Hid ((wr.alloc (.cells #[.int .i64 0, .int .i64 0] 40)).heap[wr.heap.size]? = some (.cells #[.int .i64 0, .int .i64 0] 40 (0, 0))) := heap_alloc_new wr _
      obtain ⟨V0, hV0⟩ : ∃ z, (wr.alloc (.cells #[.int .i64 0, .int .i64 0] 40)).setRow wr.heap.size #[.int .i64 x, .int .i64 t] = z := ⟨_, rfl⟩
      have HV0 : Hid _ := hV0
      have GV : V0.heap[wr.heap.size]? = some (.cells #[.int .i64 x, .int .i64 t] 40 (0, 0)) := by show _ = _; rw [← hV0]; exact setRow_heap _ _ _ _ _ _ HK.out
      have bv : Below w.heap.size w V0 := by
        have : Below wr.heap.size wr V0 := by
          rw [← hV0]
          exact ((Below.refl _ wr).alloc (Nat.le_refl _) _).trans ⟨rfl, rfl, rfl, by simp [World.setRow], fun k hk => setRow_other _ _ _ _ (by omega)⟩
        exact HB.out.2.trans (this.mono HB.out.2.size)
      have BV : Hid (Below w.heap.size w V0) := bv
      have v0 : V0.cell? ⟨wr.heap.size, 0, none⟩ = some (.int .i64 x) := by simp [World.cell?, GV]
      have v1 : V0.cell? ⟨wr.heap.size, 1, none⟩ = some (.int .i64 t) := by simp [World.cell?, GV]
      have w0 : V0.cell? ⟨g, i * 2, none⟩ = some (.int .i64 xi) := (bv.cell (p := ⟨g, i * 2, none⟩) H.out.2.2.1).trans H.out.2.2.2.2.1
      have w1 : V0.cell? ⟨g, i * 2 + 1, none⟩ = some (.int .i64 ti) := (bv.cell (p := ⟨g, i * 2 + 1, none⟩) H.out.2.2.1).trans H.out.2.2.2.2.2
      have wq : V0.cell? ⟨q, 1, none⟩ = some (.slice (some ⟨g, 0, none⟩) n cap) := (H.out.1.below bv (Nat.le_refl _)).c1
      have hk0 : (0 : Int) ≤ k := by omega
      have hlt' : (k : Int) < n := by omega
      have hwr : IntKind.i64.wrap ((r : Int) + 1) = (r : Int) + 1 := Go.IntWalk.i64_in _ (by omega)
      clear h1 hx hV0 hcap hg GV bv
      by_cases h1 : t < ti
      · have f1 : decide (t < ti) = true := decide_eq_true h1
        have HG : Hid (Ck.rank (M.take (k + 1)) (xi, ti) = r + 1) := by show _ = _; rw [HF.out, if_pos (by simp [Ck.lt]; omega)]
        clear h1 HF
        go_upto_region 5 with (refine wpList_store_row rfl 40 _ _ rfl wr.heap.size #[.int .i64 x, .int .i64 t] rfl rfl 40 _ HK.out (by kernel_rfl) rfl (by kernel_rfl) ?_)
        rw [HV0.out]
        refine wp_region_held_drew (S := fun W : World => W.cell? ⟨wr.heap.size, 0, none⟩ = some (.int .i64 x) ∧ W.cell? ⟨wr.heap.size, 1, none⟩ = some (.int .i64 t) ∧ W.cell? ⟨g, i * 2, none⟩ = some (.int .i64 xi) ∧ W.cell? ⟨g, i * 2 + 1, none⟩ = some (.int .i64 ti) ∧ W.cell? ⟨q, 1, none⟩ = some (.slice (some ⟨g, 0, none⟩) n cap)) (by kernel_rfl) ?_ (fun hHeld => ?_)
        · exact ⟨v0, v1, w0, w1, wq⟩
        refine Nt.takeS (v := ?va0) 0 17 rfl rfl (by kernel_rfl) (by kernel_rfl) (by kernel_rfl) (fun _ _ _ h => h) (Or.inl ⟨by rfl, ?ya0⟩) hHeld ?ra0
        case ya0 => (intro w hSw; (try dsimp only at hSw); go_simp; all_goals (with_reducible rfl))
        simp only [List.set_cons_succ, List.set_cons_zero]
        refine Nt.takeS (v := ?va1) 1 18 rfl rfl (by kernel_rfl) (by kernel_rfl) (by kernel_rfl) (fun _ _ _ h => h) (Or.inl ⟨by rfl, ?ya1⟩) hHeld ?ra1
        case ya1 => (intro w hSw; (try dsimp only at hSw); go_simp; all_goals (with_reducible rfl))
        simp only [List.set_cons_succ, List.set_cons_zero]
        refine Nt.takeS (v := ?va2) 2 19 rfl rfl (by kernel_rfl) (by kernel_rfl) (by kernel_rfl) (fun _ _ _ h => h) (Or.inl ⟨by rfl, ?ya2⟩) hHeld ?ra2
        case ya2 => (intro w hSw; (try dsimp only at hSw); go_simp; all_goals (with_reducible rfl))
        simp only [List.set_cons_succ, List.set_cons_zero]
        refine Nt.takeS (v := ?va3) 3 20 rfl rfl (by kernel_rfl) (by kernel_rfl) (by kernel_rfl) (fun _ _ _ h => h) (Or.inl ⟨by rfl, ?ya3⟩) hHeld ?ra3
        case ya3 => (intro w hSw; (try dsimp only at hSw); go_simp; all_goals (with_reducible rfl))
        simp only [List.set_cons_succ, List.set_cons_zero]
        refine Nt.takeS (v := ?va4) 4 21 rfl rfl (by kernel_rfl) (by kernel_rfl) (by kernel_rfl) (fun _ _ _ h => h) (Or.inl ⟨by rfl, ?ya4⟩) hHeld ?ra4
        case ya4 => (intro w hSw; (try dsimp only at hSw); go_simp; all_goals (with_reducible rfl))
        simp only [List.set_cons_succ, List.set_cons_zero]
        refine Nt.takeS (v := ?va5) 5 22 rfl rfl (by kernel_rfl) (by kernel_rfl) (by kernel_rfl) (fun _ _ _ h => h) (Or.inl ⟨by rfl, ?ya5⟩) hHeld ?ra5
        case ya5 => (intro w hSw; (try dsimp only at hSw); go_simp; all_goals (with_reducible rfl))
        simp only [List.set_cons_succ, List.set_cons_zero]
        refine Nt.takeS (v := ?va6) 6 23 rfl rfl (by kernel_rfl) (by kernel_rfl) (by kernel_rfl) (fun _ _ _ h => h) (Or.inl ⟨by rfl, ?ya6⟩) hHeld ?ra6
        case ya6 => (intro w hSw; (try dsimp only at hSw); go_simp; all_goals (with_reducible rfl))
        simp only [List.set_cons_succ, List.set_cons_zero]
        refine Nt.takeS (v := ?va7) 7 24 rfl rfl (by kernel_rfl) (by kernel_rfl) (by kernel_rfl) (fun _ _ _ h => h) (Or.inl ⟨by rfl, ?ya7⟩) hHeld ?ra7
        case ya7 => (intro w hSw; (try dsimp only at hSw); go_simp; all_goals (with_reducible rfl))
        simp only [List.set_cons_succ, List.set_cons_zero]
        refine Nt.takeS (v := ?va8) 8 25 rfl rfl (by kernel_rfl) (by kernel_rfl) (by kernel_rfl) (fun _ _ _ h => h) (Or.inl ⟨by rfl, ?ya8⟩) hHeld ?ra8
        case ya8 => (intro w hSw; (try dsimp only at hSw); go_simp; all_goals (with_reducible rfl))
        simp only [List.set_cons_succ, List.set_cons_zero]
        refine Nt.takeS (v := ?va9) 9 26 rfl rfl (by kernel_rfl) (by kernel_rfl) (by kernel_rfl) (fun _ _ _ h => h) (Or.inl ⟨by rfl, ?ya9⟩) hHeld ?ra9
        case ya9 => (intro w hSw; (try dsimp only at hSw); go_simp; all_goals (with_reducible rfl))
        simp only [List.set_cons_succ, List.set_cons_zero]
        refine Nt.takeS (v := ?va10) 10 27 rfl rfl (by kernel_rfl) (by kernel_rfl) (by kernel_rfl) (fun _ _ _ h => h) (Or.inl ⟨by rfl, ?ya10⟩) hHeld ?ra10
        case ya10 => (intro w hSw; (try dsimp only at hSw); go_simp; all_goals (with_reducible rfl))
        simp only [List.set_cons_succ, List.set_cons_zero]
        refine Nt.takeS (v := ?va11) 11 28 rfl rfl (by kernel_rfl) (by kernel_rfl) (by kernel_rfl) (fun _ _ _ h => h) (Or.inl ⟨by rfl, ?ya11⟩) hHeld ?ra11
        case ya11 => (intro w hSw; (try dsimp only at hSw); go_simp; all_goals (with_reducible rfl))
        simp only [List.set_cons_succ, List.set_cons_zero]
        refine Nt.takeS (v := undef) 12 29 rfl rfl (by kernel_rfl) (by kernel_rfl) (by kernel_rfl) (fun _ _ _ h => h) (Or.inr ⟨by rfl, rfl⟩) hHeld ?_
        simp only [List.set_cons_succ, List.set_cons_zero]
        refine Nt.takeS (v := undef) 13 30 rfl rfl (by kernel_rfl) (by kernel_rfl) (by kernel_rfl) (fun _ _ _ h => h) (Or.inr ⟨by rfl, rfl⟩) hHeld ?_
        simp only [List.set_cons_succ, List.set_cons_zero]
        refine Nt.takeS (v := undef) 14 31 rfl rfl (by kernel_rfl) (by kernel_rfl) (by kernel_rfl) (fun _ _ _ h => h) (Or.inr ⟨by rfl, rfl⟩) hHeld ?_
        simp only [List.set_cons_succ, List.set_cons_zero]
        refine Nt.takeS (v := undef) 15 32 rfl rfl (by kernel_rfl) (by kernel_rfl) (by kernel_rfl) (fun _ _ _ h => h) (Or.inr ⟨by rfl, rfl⟩) hHeld ?_
        simp only [List.set_cons_succ, List.set_cons_zero]
        refine Nt.takeS (v := undef) 16 33 rfl rfl (by kernel_rfl) (by kernel_rfl) (by kernel_rfl) (fun _ _ _ h => h) (Or.inr ⟨by rfl, rfl⟩) hHeld ?_
        simp only [List.set_cons_succ, List.set_cons_zero]
        refine Nt.takeS (v := undef) 17 34 rfl rfl (by kernel_rfl) (by kernel_rfl) (by kernel_rfl) (fun _ _ _ h => h) (Or.inr ⟨by rfl, rfl⟩) hHeld ?_
        simp only [List.set_cons_succ, List.set_cons_zero]
        refine Nt.takeS (v := undef) 18 35 rfl rfl (by kernel_rfl) (by kernel_rfl) (by kernel_rfl) (fun _ _ _ h => h) (Or.inr ⟨by rfl, rfl⟩) hHeld ?_
        simp only [List.set_cons_succ, List.set_cons_zero]
        refine Nt.takeS (v := undef) 19 36 rfl rfl (by kernel_rfl) (by kernel_rfl) (by kernel_rfl) (fun _ _ _ h => h) (Or.inr ⟨by rfl, rfl⟩) hHeld ?_
        simp only [List.set_cons_succ, List.set_cons_zero]
        refine Nt.takeS (v := undef) 20 37 rfl rfl (by kernel_rfl) (by kernel_rfl) (by kernel_rfl) (fun _ _ _ h => h) (Or.inr ⟨by rfl, rfl⟩) hHeld ?_
        simp only [List.set_cons_succ, List.set_cons_zero]
        refine Nt.takeS (v := undef) 21 38 rfl rfl (by kernel_rfl) (by kernel_rfl) (by kernel_rfl) (fun _ _ _ h => h) (Or.inr ⟨by rfl, rfl⟩) hHeld ?_
        simp only [List.set_cons_succ, List.set_cons_zero]
        refine Nt.takeS (v := undef) 22 39 rfl rfl (by kernel_rfl) (by kernel_rfl) (by kernel_rfl) (fun _ _ _ h => h) (Or.inr ⟨by rfl, rfl⟩) hHeld ?_
        simp only [List.set_cons_succ, List.set_cons_zero]
        refine Nt.takeS (v := undef) 23 40 rfl rfl (by kernel_rfl) (by kernel_rfl) (by kernel_rfl) (fun _ _ _ h => h) (Or.inr ⟨by rfl, rfl⟩) hHeld ?_
        simp only [List.set_cons_succ, List.set_cons_zero]
        refine Nt.takeS (v := undef) 24 41 rfl rfl (by kernel_rfl) (by kernel_rfl) (by kernel_rfl) (fun _ _ _ h => h) (Or.inr ⟨by rfl, rfl⟩) hHeld ?_
        simp only [List.set_cons_succ, List.set_cons_zero]
        refine Nt.takeS (v := undef) 25 42 rfl rfl (by kernel_rfl) (by kernel_rfl) (by kernel_rfl) (fun _ _ _ h => h) (Or.inr ⟨by rfl, rfl⟩) hHeld ?_
        simp only [List.set_cons_succ, List.set_cons_zero]
        refine Nt.takeS (v := undef) 26 43 rfl rfl (by kernel_rfl) (by kernel_rfl) (by kernel_rfl) (fun _ _ _ h => h) (Or.inr ⟨by rfl, rfl⟩) hHeld ?_
        simp only [List.set_cons_succ, List.set_cons_zero]
        refine Nt.takeS (v := undef) 27 44 rfl rfl (by kernel_rfl) (by kernel_rfl) (by kernel_rfl) (fun _ _ _ h => h) (Or.inr ⟨by rfl, rfl⟩) hHeld ?_
        simp only [List.set_cons_succ, List.set_cons_zero]
        refine Nt.takeS (v := undef) 28 45 rfl rfl (by kernel_rfl) (by kernel_rfl) (by kernel_rfl) (fun _ _ _ h => h) (Or.inr ⟨by rfl, rfl⟩) hHeld ?_
        simp only [List.set_cons_succ, List.set_cons_zero]
        refine Nt.takeS (v := undef) 29 46 rfl rfl (by kernel_rfl) (by kernel_rfl) (by kernel_rfl) (fun _ _ _ h => h) (Or.inr ⟨by rfl, rfl⟩) hHeld ?_
        simp only [List.set_cons_succ, List.set_cons_zero]
        refine Nt.takeS (v := undef) 30 47 rfl rfl (by kernel_rfl) (by kernel_rfl) (by kernel_rfl) (fun _ _ _ h => h) (Or.inr ⟨by rfl, rfl⟩) hHeld ?_
        simp only [List.set_cons_succ, List.set_cons_zero]
        refine Nt.takeS (v := undef) 31 48 rfl rfl (by kernel_rfl) (by kernel_rfl) (by kernel_rfl) (fun _ _ _ h => h) (Or.inr ⟨by rfl, rfl⟩) hHeld ?_
        simp only [List.set_cons_succ, List.set_cons_zero]
        refine Nt.takeS (v := undef) 32 49 rfl rfl (by kernel_rfl) (by kernel_rfl) (by kernel_rfl) (fun _ _ _ h => h) (Or.inr ⟨by rfl, rfl⟩) hHeld ?_
        simp only [List.set_cons_succ, List.set_cons_zero]
        refine Nt.takeS (v := undef) 33 50 rfl rfl (by kernel_rfl) (by kernel_rfl) (by kernel_rfl) (fun _ _ _ h => h) (Or.inr ⟨by rfl, rfl⟩) hHeld ?_
        simp only [List.set_cons_succ, List.set_cons_zero]
        refine Nt.takeS (v := undef) 34 51 rfl rfl (by kernel_rfl) (by kernel_rfl) (by kernel_rfl) (fun _ _ _ h => h) (Or.inr ⟨by rfl, rfl⟩) hHeld ?_
        simp only [List.set_cons_succ, List.set_cons_zero]
        refine Nt.takeS (v := undef) 35 52 rfl rfl (by kernel_rfl) (by kernel_rfl) (by kernel_rfl) (fun _ _ _ h => h) (Or.inr ⟨by rfl, rfl⟩) hHeld ?_
        simp only [List.set_cons_succ, List.set_cons_zero]
        refine Nt.takeS (v := ?va36) 36 53 rfl rfl (by kernel_rfl) (by kernel_rfl) (by kernel_rfl) (fun _ _ _ h => h) (Or.inl ⟨by rfl, ?ya36⟩) hHeld ?ra36
        case ya36 => (intro w hSw; (try dsimp only at hSw); go_simp; all_goals (with_reducible rfl))
        simp only [List.set_cons_succ, List.set_cons_zero]
        refine wpAnyH_done (by kernel_rfl) ?_ _
        all_goals
          go_wp2
          go_roundg (gk - 1)
          case measure => omega
          case rel => exact ⟨k + 1, r + 1, by omega, by go_num, by go_num, by omega, ⟨HG.out, by first | exact Tk.below_drewN BV.out _ | exact BV.out.drew⟩⟩
      · have f1 : decide (t < ti) = false := decide_eq_false h1
        by_cases h2 : t = ti
        · have f2 : (t == ti) = true := by simp [h2]
          by_cases h3 : x < xi
          · have f3 : decide (x < xi) = true := decide_eq_true h3
            have HG : Hid (Ck.rank (M.take (k + 1)) (xi, ti) = r + 1) := by show _ = _; rw [HF.out, if_pos (by simp [Ck.lt]; omega)]
            clear h1 h2 h3 HF
            go_upto_region 5 with (refine wpList_store_row rfl 40 _ _ rfl wr.heap.size #[.int .i64 x, .int .i64 t] rfl rfl 40 _ HK.out (by kernel_rfl) rfl (by kernel_rfl) ?_)
            rw [HV0.out]
            go_quiet (fail)
            all_goals
              go_wp2
              go_roundg (gk - 1)
              case measure => omega
              case rel => exact ⟨k + 1, r + 1, by omega, by go_num, by go_num, by omega, ⟨HG.out, by first | exact Tk.below_drewN BV.out _ | exact BV.out.drew⟩⟩
          · have f3 : decide (x < xi) = false := decide_eq_false h3
            have HG : Hid (Ck.rank (M.take (k + 1)) (xi, ti) = r) := by show _ = _; rw [HF.out, if_neg (by simp [Ck.lt]; omega), Nat.add_zero]
            clear h1 h2 h3 HF
            go_upto_region 5 with (refine wpList_store_row rfl 40 _ _ rfl wr.heap.size #[.int .i64 x, .int .i64 t] rfl rfl 40 _ HK.out (by kernel_rfl) rfl (by kernel_rfl) ?_)
            rw [HV0.out]
            go_quiet (fail)
            all_goals
              go_wp2
              go_roundg (gk - 1)
              case measure => omega
              case rel => exact ⟨k + 1, r, by omega, by go_num, rfl, by omega, ⟨HG.out, by first | exact Tk.below_drewN BV.out _ | exact BV.out.drew⟩⟩
        · have f2 : (t == ti) = false := by simp [h2]
          have HG : Hid (Ck.rank (M.take (k + 1)) (xi, ti) = r) := by show _ = _; rw [HF.out, if_neg (by simp [Ck.lt]; omega), Nat.add_zero]
          clear h1 h2 HF
          go_upto_region 5 with (refine wpList_store_row rfl 40 _ _ rfl wr.heap.size #[.int .i64 x, .int .i64 t] rfl rfl 40 _ HK.out (by kernel_rfl) rfl (by kernel_rfl) ?_)
          rw [HV0.out]
          refine wp_region_held_drew (S := fun W : World => W.cell? ⟨wr.heap.size, 0, none⟩ = some (.int .i64 x) ∧ W.cell? ⟨wr.heap.size, 1, none⟩ = some (.int .i64 t) ∧ W.cell? ⟨g, i * 2, none⟩ = some (.int .i64 xi) ∧ W.cell? ⟨g, i * 2 + 1, none⟩ = some (.int .i64 ti) ∧ W.cell? ⟨q, 1, none⟩ = some (.slice (some ⟨g, 0, none⟩) n cap)) (by kernel_rfl) ?_ (fun hHeld => ?_)
          · exact ⟨v0, v1, w0, w1, wq⟩
          refine Nt.takeS (v := ?vb0) 0 17 rfl rfl (by kernel_rfl) (by kernel_rfl) (by kernel_rfl) (fun _ _ _ h => h) (Or.inl ⟨by rfl, ?yb0⟩) hHeld ?rb0
          case yb0 => (intro w hSw; (try dsimp only at hSw); go_simp; all_goals (with_reducible rfl))
          simp only [List.set_cons_succ, List.set_cons_zero]
          refine Nt.takeS (v := ?vb1) 1 18 rfl rfl (by kernel_rfl) (by kernel_rfl) (by kernel_rfl) (fun _ _ _ h => h) (Or.inl ⟨by rfl, ?yb1⟩) hHeld ?rb1
          case yb1 => (intro w hSw; (try dsimp only at hSw); go_simp; all_goals (with_reducible rfl))
          simp only [List.set_cons_succ, List.set_cons_zero]
          refine Nt.takeS (v := ?vb2) 2 19 rfl rfl (by kernel_rfl) (by kernel_rfl) (by kernel_rfl) (fun _ _ _ h => h) (Or.inl ⟨by rfl, ?yb2⟩) hHeld ?rb2
          case yb2 => (intro w hSw; (try dsimp only at hSw); go_simp; all_goals (with_reducible rfl))
          simp only [List.set_cons_succ, List.set_cons_zero]
          refine Nt.takeS (v := ?vb3) 3 20 rfl rfl (by kernel_rfl) (by kernel_rfl) (by kernel_rfl) (fun _ _ _ h => h) (Or.inl ⟨by rfl, ?yb3⟩) hHeld ?rb3
          case yb3 => (intro w hSw; (try dsimp only at hSw); go_simp; all_goals (with_reducible rfl))
          simp only [List.set_cons_succ, List.set_cons_zero]
          refine Nt.takeS (v := ?vb4) 4 21 rfl rfl (by kernel_rfl) (by kernel_rfl) (by kernel_rfl) (fun _ _ _ h => h) (Or.inl ⟨by rfl, ?yb4⟩) hHeld ?rb4
          case yb4 => (intro w hSw; (try dsimp only at hSw); go_simp; all_goals (with_reducible rfl))
          simp only [List.set_cons_succ, List.set_cons_zero]
          refine Nt.takeS (v := ?vb5) 5 22 rfl rfl (by kernel_rfl) (by kernel_rfl) (by kernel_rfl) (fun _ _ _ h => h) (Or.inl ⟨by rfl, ?yb5⟩) hHeld ?rb5
          case yb5 => (intro w hSw; (try dsimp only at hSw); go_simp; all_goals (with_reducible rfl))
          simp only [List.set_cons_succ, List.set_cons_zero]
          refine Nt.takeS (v := ?vb6) 6 23 rfl rfl (by kernel_rfl) (by kernel_rfl) (by kernel_rfl) (fun _ _ _ h => h) (Or.inl ⟨by rfl, ?yb6⟩) hHeld ?rb6
          case yb6 => (intro w hSw; (try dsimp only at hSw); go_simp; all_goals (with_reducible rfl))
          simp only [List.set_cons_succ, List.set_cons_zero]
          refine Nt.takeS (v := ?vb7) 7 24 rfl rfl (by kernel_rfl) (by kernel_rfl) (by kernel_rfl) (fun _ _ _ h => h) (Or.inl ⟨by rfl, ?yb7⟩) hHeld ?rb7
          case yb7 => (intro w hSw; (try dsimp only at hSw); go_simp; all_goals (with_reducible rfl))
          simp only [List.set_cons_succ, List.set_cons_zero]
          refine Nt.takeS (v := ?vb8) 8 25 rfl rfl (by kernel_rfl) (by kernel_rfl) (by kernel_rfl) (fun _ _ _ h => h) (Or.inl ⟨by rfl, ?yb8⟩) hHeld ?rb8
          case yb8 => (intro w hSw; (try dsimp only at hSw); go_simp; all_goals (with_reducible rfl))
          simp only [List.set_cons_succ, List.set_cons_zero]
          refine Nt.takeS (v := ?vb9) 9 26 rfl rfl (by kernel_rfl) (by kernel_rfl) (by kernel_rfl) (fun _ _ _ h => h) (Or.inl ⟨by rfl, ?yb9⟩) hHeld ?rb9
          case yb9 => (intro w hSw; (try dsimp only at hSw); go_simp; all_goals (with_reducible rfl))
          simp only [List.set_cons_succ, List.set_cons_zero]
          refine Nt.takeS (v := ?vb10) 10 27 rfl rfl (by kernel_rfl) (by kernel_rfl) (by kernel_rfl) (fun _ _ _ h => h) (Or.inl ⟨by rfl, ?yb10⟩) hHeld ?rb10
          case yb10 => (intro w hSw; (try dsimp only at hSw); go_simp; all_goals (with_reducible rfl))
          simp only [List.set_cons_succ, List.set_cons_zero]
          refine Nt.takeS (v := ?vb11) 11 28 rfl rfl (by kernel_rfl) (by kernel_rfl) (by kernel_rfl) (fun _ _ _ h => h) (Or.inl ⟨by rfl, ?yb11⟩) hHeld ?rb11
          case yb11 => (intro w hSw; (try dsimp only at hSw); go_simp; all_goals (with_reducible rfl))
          simp only [List.set_cons_succ, List.set_cons_zero]
          refine Nt.takeS (v := ?vb12) 12 29 rfl rfl (by kernel_rfl) (by kernel_rfl) (by kernel_rfl) (fun _ _ _ h => h) (Or.inl ⟨by rfl, ?yb12⟩) hHeld ?rb12
          case yb12 => (intro w hSw; (try dsimp only at hSw); go_simp; all_goals (with_reducible rfl))
          simp only [List.set_cons_succ, List.set_cons_zero]
          refine Nt.takeS (v := ?vb13) 13 30 rfl rfl (by kernel_rfl) (by kernel_rfl) (by kernel_rfl) (fun _ _ _ h => h) (Or.inl ⟨by rfl, ?yb13⟩) hHeld ?rb13
          case yb13 => (intro w hSw; (try dsimp only at hSw); go_simp; all_goals (with_reducible rfl))
          simp only [List.set_cons_succ, List.set_cons_zero]
          refine Nt.takeS (v := ?vb14) 14 31 rfl rfl (by kernel_rfl) (by kernel_rfl) (by kernel_rfl) (fun _ _ _ h => h) (Or.inl ⟨by rfl, ?yb14⟩) hHeld ?rb14
          case yb14 => (intro w hSw; (try dsimp only at hSw); go_simp; all_goals (with_reducible rfl))
          simp only [List.set_cons_succ, List.set_cons_zero]
          refine Nt.takeS (v := ?vb15) 15 32 rfl rfl (by kernel_rfl) (by kernel_rfl) (by kernel_rfl) (fun _ _ _ h => h) (Or.inl ⟨by rfl, ?yb15⟩) hHeld ?rb15
          case yb15 => (intro w hSw; (try dsimp only at hSw); go_simp; all_goals (with_reducible rfl))
          simp only [List.set_cons_succ, List.set_cons_zero]
          refine Nt.takeS (v := ?vb16) 16 33 rfl rfl (by kernel_rfl) (by kernel_rfl) (by kernel_rfl) (fun _ _ _ h => h) (Or.inl ⟨by rfl, ?yb16⟩) hHeld ?rb16
          case yb16 => (intro w hSw; (try dsimp only at hSw); go_simp; all_goals (with_reducible rfl))
          simp only [List.set_cons_succ, List.set_cons_zero]
          refine Nt.takeS (v := ?vb17) 17 34 rfl rfl (by kernel_rfl) (by kernel_rfl) (by kernel_rfl) (fun _ _ _ h => h) (Or.inl ⟨by rfl, ?yb17⟩) hHeld ?rb17
          case yb17 => (intro w hSw; (try dsimp only at hSw); go_simp; all_goals (with_reducible rfl))
          simp only [List.set_cons_succ, List.set_cons_zero]
          refine Nt.takeS (v := ?vb18) 18 35 rfl rfl (by kernel_rfl) (by kernel_rfl) (by kernel_rfl) (fun _ _ _ h => h) (Or.inl ⟨by rfl, ?yb18⟩) hHeld ?rb18
          case yb18 => (intro w hSw; (try dsimp only at hSw); go_simp; all_goals (with_reducible rfl))
          simp only [List.set_cons_succ, List.set_cons_zero]
          refine Nt.takeS (v := ?vb19) 19 36 rfl rfl (by kernel_rfl) (by kernel_rfl) (by kernel_rfl) (fun _ _ _ h => h) (Or.inl ⟨by rfl, ?yb19⟩) hHeld ?rb19
          case yb19 => (intro w hSw; (try dsimp only at hSw); go_simp; all_goals (with_reducible rfl))
          simp only [List.set_cons_succ, List.set_cons_zero]
          refine Nt.takeS (v := ?vb20) 20 37 rfl rfl (by kernel_rfl) (by kernel_rfl) (by kernel_rfl) (fun _ _ _ h => h) (Or.inl ⟨by rfl, ?yb20⟩) hHeld ?rb20
          case yb20 => (intro w hSw; (try dsimp only at hSw); go_simp; all_goals (with_reducible rfl))
          simp only [List.set_cons_succ, List.set_cons_zero]
          refine Nt.takeS (v := ?vb21) 21 38 rfl rfl (by kernel_rfl) (by kernel_rfl) (by kernel_rfl) (fun _ _ _ h => h) (Or.inl ⟨by rfl, ?yb21⟩) hHeld ?rb21
          case yb21 => (intro w hSw; (try dsimp only at hSw); go_simp; all_goals (with_reducible rfl))
          simp only [List.set_cons_succ, List.set_cons_zero]
          refine Nt.takeS (v := ?vb22) 22 39 rfl rfl (by kernel_rfl) (by kernel_rfl) (by kernel_rfl) (fun _ _ _ h => h) (Or.inl ⟨by rfl, ?yb22⟩) hHeld ?rb22
          case yb22 => (intro w hSw; (try dsimp only at hSw); go_simp; all_goals (with_reducible rfl))
          simp only [List.set_cons_succ, List.set_cons_zero]
          refine Nt.takeS (v := ?vb23) 23 40 rfl rfl (by kernel_rfl) (by kernel_rfl) (by kernel_rfl) (fun _ _ _ h => h) (Or.inl ⟨by rfl, ?yb23⟩) hHeld ?rb23
          case yb23 => (intro w hSw; (try dsimp only at hSw); go_simp; all_goals (with_reducible rfl))
          simp only [List.set_cons_succ, List.set_cons_zero]
          refine Nt.takeS (v := undef) 24 41 rfl rfl (by kernel_rfl) (by kernel_rfl) (by kernel_rfl) (fun _ _ _ h => h) (Or.inr ⟨by rfl, rfl⟩) hHeld ?_
          simp only [List.set_cons_succ, List.set_cons_zero]
          refine Nt.takeS (v := undef) 25 42 rfl rfl (by kernel_rfl) (by kernel_rfl) (by kernel_rfl) (fun _ _ _ h => h) (Or.inr ⟨by rfl, rfl⟩) hHeld ?_
          simp only [List.set_cons_succ, List.set_cons_zero]
          refine Nt.takeS (v := undef) 26 43 rfl rfl (by kernel_rfl) (by kernel_rfl) (by kernel_rfl) (fun _ _ _ h => h) (Or.inr ⟨by rfl, rfl⟩) hHeld ?_
          simp only [List.set_cons_succ, List.set_cons_zero]
          refine Nt.takeS (v := undef) 27 44 rfl rfl (by kernel_rfl) (by kernel_rfl) (by kernel_rfl) (fun _ _ _ h => h) (Or.inr ⟨by rfl, rfl⟩) hHeld ?_
          simp only [List.set_cons_succ, List.set_cons_zero]
          refine Nt.takeS (v := undef) 28 45 rfl rfl (by kernel_rfl) (by kernel_rfl) (by kernel_rfl) (fun _ _ _ h => h) (Or.inr ⟨by rfl, rfl⟩) hHeld ?_
          simp only [List.set_cons_succ, List.set_cons_zero]
          refine Nt.takeS (v := undef) 29 46 rfl rfl (by kernel_rfl) (by kernel_rfl) (by kernel_rfl) (fun _ _ _ h => h) (Or.inr ⟨by rfl, rfl⟩) hHeld ?_
          simp only [List.set_cons_succ, List.set_cons_zero]
          refine Nt.takeS (v := undef) 30 47 rfl rfl (by kernel_rfl) (by kernel_rfl) (by kernel_rfl) (fun _ _ _ h => h) (Or.inr ⟨by rfl, rfl⟩) hHeld ?_
          simp only [List.set_cons_succ, List.set_cons_zero]
          refine Nt.takeS (v := undef) 31 48 rfl rfl (by kernel_rfl) (by kernel_rfl) (by kernel_rfl) (fun _ _ _ h => h) (Or.inr ⟨by rfl, rfl⟩) hHeld ?_
          simp only [List.set_cons_succ, List.set_cons_zero]
          refine Nt.takeS (v := undef) 32 49 rfl rfl (by kernel_rfl) (by kernel_rfl) (by kernel_rfl) (fun _ _ _ h => h) (Or.inr ⟨by rfl, rfl⟩) hHeld ?_
          simp only [List.set_cons_succ, List.set_cons_zero]
          refine Nt.takeS (v := undef) 33 50 rfl rfl (by kernel_rfl) (by kernel_rfl) (by kernel_rfl) (fun _ _ _ h => h) (Or.inr ⟨by rfl, rfl⟩) hHeld ?_
          simp only [List.set_cons_succ, List.set_cons_zero]
          refine Nt.takeS (v := undef) 34 51 rfl rfl (by kernel_rfl) (by kernel_rfl) (by kernel_rfl) (fun _ _ _ h => h) (Or.inr ⟨by rfl, rfl⟩) hHeld ?_
          simp only [List.set_cons_succ, List.set_cons_zero]
          refine Nt.takeS (v := ?vb35) 35 52 rfl rfl (by kernel_rfl) (by kernel_rfl) (by kernel_rfl) (fun _ _ _ h => h) (Or.inl ⟨by rfl, ?yb35⟩) hHeld ?rb35
          case yb35 => (intro w hSw; (try dsimp only at hSw); go_simp; all_goals (with_reducible rfl))
          simp only [List.set_cons_succ, List.set_cons_zero]
          refine Nt.takeS (v := ?vb36) 36 53 rfl rfl (by kernel_rfl) (by kernel_rfl) (by kernel_rfl) (fun _ _ _ h => h) (Or.inl ⟨by rfl, ?yb36⟩) hHeld ?rb36
          case yb36 => (intro w hSw; (try dsimp only at hSw); go_simp; all_goals (with_reducible rfl))
          simp only [List.set_cons_succ, List.set_cons_zero]
          refine wpAnyH_done (by kernel_rfl) ?_ _
          all_goals
            go_wp2
            go_roundg (gk - 1)
            case measure => omega
            case rel => exact ⟨k + 1, r, by omega, by go_num, rfl, by omega, ⟨HG.out, by first | exact Tk.below_drewN BV.out _ | exact BV.out.drew⟩⟩
    · have hd : decide ((k : Int) < n) = false := decide_eq_false (by omega)
      have HD : Hid (Ck.rank M (xi, ti) = r) := by
        show _ = _
        rw [← HB.out.1, List.take_of_length_le (by have := H.out.2.1; omega)]
      go_wp2
      go_ret
      rw [HD.out]
      exact ⟨rfl, HB.out.2⟩

end Go.Proofs
