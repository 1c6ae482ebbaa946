import Derived.Test.YtmomffminkflnaaGreatDoorRAcLawRef
import Derived.Test.YtmomffminkflnaaGreatDoorRows
import Derived.ProofKit
import Derived.OpenShut
import Derived.Carry
import Derived.SizedLaws
namespace Go.Proofs.YtmomffminkflnaaGreatDoor.DeadStarts
open Go.RowKit
set_option maxRecDepth 100000 in
set_option maxHeartbeats 32000000 in
theorem walk (T : Ac) (V : Ac.Vs) (e dd : Nat) (w : World) (hT : Ac.Lies w w.heap.size e dd V T) (hO : Tk.Ops w) :
    Calls Tryz.prog 3 #[.agg (Ac.row T V)] w fun e w' => e = .returned (.bool true) ∧ Below w.heap.size w w' := by
  have h0 : 0 < w.heap.size := by have := hO.lt; omega
  obtain ⟨ka, kc, hvk, hKd⟩ := Dd.kds_of hT
  obtain ⟨la, lc, hvl, hLk⟩ := hT.own.l
  obtain ⟨n, hn⟩ : ∃ n, T.ks.length = n := ⟨_, rfl⟩
  obtain ⟨m, hm⟩ : ∃ n, T.ls.length = n := ⟨_, rfl⟩
  obtain ⟨xs, hxs⟩ : ∃ xs, Ac.row T V = xs := ⟨_, rfl⟩
  have hsz : xs.size = 12 := by rw [← hxs]; rfl
  have x8 : xs[8]? = some (.slice ka n kc) := by rw [← hxs, ← hn, ← hvk]; rfl
  have x9 : xs[9]? = some (.slice la m lc) := by rw [← hxs, ← hm, ← hvl]; rfl
  obtain ⟨w1, hw1⟩ : ∃ z, w.alloc (.cells xs 32) = z := ⟨_, rfl⟩
  have B1 : Below w.heap.size w w1 := by rw [← hw1]; exact (Below.refl _ w).alloc (Nat.le_refl _) _
  have N1 : w1.heap[w.heap.size]? = some (.cells xs 32 (0, 0)) := by rw [← hw1]; exact heap_alloc_new w _
  have hlt1 := (Array.getElem?_eq_some_iff.1 N1).1
  obtain ⟨w2, hw2⟩ : ∃ z, w1.alloc (.cells #[.int .i64 600] 36) = z := ⟨_, rfl⟩
  have B2 : Below w1.heap.size w1 w2 := by rw [← hw2]; exact (Below.refl _ w1).alloc (Nat.le_refl _) _
  have R2 : Tk.Rm w1.heap.size ((600 : Nat) : Int) w2 := by rw [← hw2]; exact heap_alloc_new w1 _
  have B02 : Below w.heap.size w w2 := B1.trans (B2.mono B1.size)
  have CL0 := Tryz.alarge_any e dd T V 600 w1.heap.size 1 w.heap.size w2 (hT.keep B02.block) (by omega) B02.size R2 (by omega) (by omega)
  rw [hxs] at CL0
  have CL : Hid _ := CL0
  have HX : Hid (∀ W, Below w1.heap.size w1 W → W.heap[w.heap.size]? = some (.cells xs 32 (0, 0)) ∧ Below w.heap.size w W ∧ W.rangeAt w.heap.size 0 xs.toList ∧ W.cell? ⟨w.heap.size, 8, none⟩ = some (.slice ka n kc) ∧ W.cell? ⟨w.heap.size, 9, none⟩ = some (.slice la m lc)) := fun W hb => by
    have h := (hb.block _ hlt1).trans N1
    refine ⟨h, B1.trans (hb.mono B1.size), fun j v hv => ?_, ?_, ?_⟩
    · rw [Nat.zero_add]
      simp only [World.cell?, h]
      simpa using hv
    · simp [World.cell?, h, x8]
    · simp [World.cell?, h, x9]
  have H1 : Hid (w.alloc (.cells xs 32) = w1) := hw1
  have H2 : Hid (w1.alloc (.cells #[.int .i64 600] 36) = w2) := hw2
  have HS : Hid (∀ W, Below w.heap.size w W → Calls Tryz.prog 10 #[] W fun e w' => e = .returned (.bool true) ∧ Below W.heap.size W w') := fun W hb => Tryz.skips_any W (hO.below hb hO.lt)
  have HT : Hid (Ac.Lies w w.heap.size e dd V T ∧ Tk.Ops w ∧ Ac.row T V = xs ∧ T.ks.length = n ∧ T.ls.length = m ∧ Dd.Kds w w.heap.size ka (Dd.kkOf T) ∧ 0 < w.heap.size ∧ V.k = .slice ka n kc) := ⟨hT, hO, hxs, hn, hm, hKd, h0, by rw [← hn]; exact hvk⟩
  have HBW : Hid (Below w1.heap.size w1 w2 ∧ w.heap.size < w1.heap.size) := ⟨B2, hlt1⟩
  have ha := Tryz.underlying32
  have hu := Tryz.underlying41
  have ia : (Tryz.prog.info? 32).map (·.size) = some xs.size := by rw [hsz]; exact Dd.info_act
  have ial : (Tryz.prog.info? 32).map (·.size) = some xs.toList.length := by rw [ia]; simp
  rw [hxs]
  clear hT hO hKd hLk hvk hvl hn hm hxs hsz x8 x9 hw1 hw2 B1 B2 R2 B02 CL0 hlt1 h0
  go_enter Tryz.func3, Tryz.ntmps3
  go_upto_region 1 with fail
  rw [H1.out]
  go_wp2_with (refine wpList_load_row rfl 32 _ rfl _ rfl 32 _ (0, 0) _ N1 ha rfl ia ?_)
  rw [H2.out]
  refine Calls.mono CL.out ?_
  rintro e' W3 ⟨hb3, ⟨rfl, hsm, k3, hk3, -⟩ | rfl⟩
  rotate_left
  · have HB3 : Hid (Below w.heap.size w W3) := (HX.out W3 (HBW.out.1.trans (hb3.below HBW.out.1.size (by intro i hi; show ¬ i = w1.heap.size; omega)))).2.1
    clear hb3 CL N1
    go_wp2_with fail
    refine Calls.mono (HS.out W3 HB3.out) ?_
    rintro e' W4 ⟨rfl, hb4⟩
    have HB4 : Hid (Below w.heap.size w W4) := HB3.out.trans (hb4.mono HB3.out.size)
    clear hb4
    go_wp2
    go_ret
    exact ⟨rfl, HB4.out⟩
  have HB3 : Hid (Below w1.heap.size w1 W3) := HBW.out.1.trans (hb3.below HBW.out.1.size (by intro i hi; show ¬ i = w1.heap.size; omega))
  have HSM : Hid (T.All Dd.Small ∧ T.size ≤ 600) := ⟨hsm, by omega⟩
  clear hb3 CL N1 hsm hk3
  have CX : Hid (Dd.Ctx w xs (Dd.webB T) T.ls (Dd.kkOf T)) := by
    have h := Dd.ctx dd e T V w HT.out.1 HT.out.2.2.2.2.2.2.1 (by have := HSM.out.2; omega) (Ac.all_mono (fun _ h => Dd.fit_of h) T HSM.out.1) HT.out.2.1
    rw [HT.out.2.2.1] at h
    exact h
  obtain ⟨wb, hwb⟩ : ∃ b, Dd.webB T = b := ⟨_, rfl⟩
  rw [hwb] at CX
  obtain ⟨nx3, -, -, -, -⟩ := HX.out W3 HB3.out
  have C1 : Hid (Calls Tryz.prog 11 #[.agg xs] W3 fun e w' => e = .returned (.tuple #[.agg (Dd.row (Dd.startR wb T.ls (Dd.kkOf T)).1), .int .i64 (Dd.startR wb T.ls (Dd.kkOf T)).2]) ∧ Below W3.heap.size W3 w') := CX.out.start W3 (HX.out W3 HB3.out).2.1
  obtain ⟨s0, hs0⟩ : ∃ s, (Dd.startR wb T.ls (Dd.kkOf T)).1 = s := ⟨_, rfl⟩
  obtain ⟨e0, he0⟩ : ∃ s, (Dd.startR wb T.ls (Dd.kkOf T)).2 = s := ⟨_, rfl⟩
  rw [hs0, he0] at C1
  have HW : Hid (Dd.webB T = wb ∧ (Dd.startR wb T.ls (Dd.kkOf T)).1 = s0 ∧ (Dd.startR wb T.ls (Dd.kkOf T)).2 = e0) := ⟨hwb, hs0, he0⟩
  have hs0l : s0.length = 104 := by
    rw [← hs0]
    cases hq : wb with
    | false => exact Dd.zeros_length
    | true =>
      rw [hq] at hwb
      exact (Dd.start_inv (Dd.rw_of hwb).right.web).1.len
  have HS0 : Hid (s0.length = 104) := hs0l
  have i0 := Dd.info_row hs0l
  have o0 := Dd.row_one s0
  have z0 : (Tryz.zeroCells41).size = (Dd.row s0).size := by rw [Dd.zero_row, Dd.row_size, Dd.row_size, hs0l, Dd.zeros_length]
  have RFC : Hid (∀ W, Below w.heap.size w W → Calls Tryz.prog 12 #[.agg xs] W fun e' w' => ∃ ys, e' = .returned (.agg ys) ∧ (Tryz.prog.info? 48).map (·.size) = some ys.size ∧ ys.size = 12 ∧ ys.all (·.oneCell') = true ∧ Dd.RCtx w' ys wb T.ls (Dd.kkOf T) ∧ Below W.heap.size W w') := fun W hb => by
    have h := Dd.ref_ctx HT.out.1 HSM.out.2 HSM.out.1 W hb
    rw [HT.out.2.2.1, hwb] at h
    exact h
  clear hwb hs0 he0 hs0l
  go_upto_region 3 with fail
  go_wp2_with (refine wpList_load_row rfl 32 _ rfl _ rfl 32 _ (0, 0) _ nx3 ha rfl ia ?_)
  refine Calls.mono C1.out ?_
  rintro e' W4 ⟨rfl, hb4⟩
  have NZ4 : (W4.alloc (.cells Tryz.zeroCells41 41)).heap[W4.heap.size]? = some (.cells Tryz.zeroCells41 41 (0, 0)) := heap_alloc_new W4 _
  obtain ⟨W5, hW5⟩ : ∃ z, (W4.alloc (.cells Tryz.zeroCells41 41)).setRow W4.heap.size (Dd.row s0) = z := ⟨_, rfl⟩
  have A5 : Dd.At W5 W4.heap.size s0 := by rw [← hW5]; exact ⟨setRow_heap _ _ _ _ _ _ NZ4, HS0.out⟩
  have B5 : Below W4.heap.size W4 W5 := by rw [← hW5]; exact Tk.below_row ((Below.refl _ W4).alloc (Nat.le_refl _) _) (Nat.le_refl _) _
  have hb14 : Below w1.heap.size w1 W4 := HB3.out.trans (hb4.mono HB3.out.size)
  obtain ⟨p, hp⟩ : ∃ p, W4.heap.size = p := ⟨_, rfl⟩
  have HP : Hid (W4.heap.size = p) := hp
  have HB5 : Hid (Below w1.heap.size w1 W5 ∧ Dd.At W5 p s0) := ⟨hb14.trans (B5.mono hb14.size), by rw [← hp]; exact A5⟩
  have HW5 : Hid _ := hW5
  clear hb4 hb14 hW5 A5 B5 hp C1 nx3
  go_upto_region 4 with (refine wpList_store_row rfl 41 _ _ rfl W4.heap.size (Dd.row s0) rfl rfl 41 _ NZ4 i0 z0 o0 ?_)
  rw [HW5.out, HP.out]
  clear HW5 NZ4 HP i0 o0 z0
  obtain ⟨nx5, hb05, -, -, -⟩ := HX.out W5 HB5.out.1
  have CRF := RFC.out W5 hb05
  have HRF : Hid _ := CRF
  clear hb05 CRF RFC
  go_wp2_with (refine wpList_load_row rfl 32 _ rfl _ rfl 32 _ (0, 0) _ nx5 ha rfl ia ?_)
  refine Calls.mono HRF.out ?_
  rintro e' W6 ⟨ys, rfl, yi, y12, y1, yc, hb6⟩
  have NZ6 : (W6.alloc (.cells #[.int .i64 0, .int .i64 0, .int .i64 0, .int .i64 0, .int .i64 0, .int .i64 0, .slice none 0 0, .slice none 0 0, .slice none 0 0, .slice none 0 0, .slice none 0 0, .slice none 0 0] 48)).heap[W6.heap.size]? = some (.cells #[.int .i64 0, .int .i64 0, .int .i64 0, .int .i64 0, .int .i64 0, .int .i64 0, .slice none 0 0, .slice none 0 0, .slice none 0 0, .slice none 0 0, .slice none 0 0, .slice none 0 0] 48 (0, 0)) := heap_alloc_new W6 _
  obtain ⟨W7, hW7⟩ : ∃ z, (W6.alloc (.cells #[.int .i64 0, .int .i64 0, .int .i64 0, .int .i64 0, .int .i64 0, .int .i64 0, .slice none 0 0, .slice none 0 0, .slice none 0 0, .slice none 0 0, .slice none 0 0, .slice none 0 0] 48)).setRow W6.heap.size ys = z := ⟨_, rfl⟩
  have A7 : W7.heap[W6.heap.size]? = some (.cells ys 48 (0, 0)) := by rw [← hW7]; exact setRow_heap _ _ _ _ _ _ NZ6
  have B7 : Below W6.heap.size W6 W7 := by rw [← hW7]; exact Tk.below_row ((Below.refl _ W6).alloc (Nat.le_refl _) _) (Nat.le_refl _) _
  have B57 : Below W5.heap.size W5 W7 := hb6.trans (B7.mono hb6.size)
  obtain ⟨q, hq⟩ : ∃ p, W6.heap.size = p := ⟨_, rfl⟩
  have HQ : Hid (W6.heap.size = q) := hq
  have HZ : Hid (∀ W, Below W7.heap.size W7 W → Below w1.heap.size w1 W ∧ Dd.At W p s0 ∧ W.heap[q]? = some (.cells ys 48 (0, 0)) ∧ W.rangeAt q 0 ys.toList ∧ Below W6.heap.size W6 W ∧ Below w.heap.size w W) := fun W hb => by
    have h1 : Below w1.heap.size w1 W7 := HB5.out.1.trans (B57.mono HB5.out.1.size)
    have h2 : W.heap[q]? = some (.cells ys 48 (0, 0)) := by rw [← hq]; exact (hb.block _ (Array.getElem?_eq_some_iff.1 A7).1).trans A7
    have h3 : Below w1.heap.size w1 W := h1.trans (hb.mono h1.size)
    exact ⟨h3, (HB5.out.2.below B57 HB5.out.2.lt).below hb (HB5.out.2.below B57 HB5.out.2.lt).lt, h2, fun j v hv => by
      rw [Nat.zero_add]
      simp only [World.cell?, h2]
      simpa using hv, B7.trans (hb.mono B7.size), (HX.out W h3).2.1⟩
  have HW7 : Hid _ := hW7
  have YC : Hid (Dd.RCtx W6 ys wb T.ls (Dd.kkOf T)) := yc
  have zy : (#[.int .i64 0, .int .i64 0, .int .i64 0, .int .i64 0, .int .i64 0, .int .i64 0, .slice none 0 0, .slice none 0 0, .slice none 0 0, .slice none 0 0, .slice none 0 0, .slice none 0 0] : Array Value).size = ys.size := by rw [y12]; rfl
  have hr := Tryz.underlying48
  have yil : (Tryz.prog.info? 48).map (·.size) = some ys.toList.length := by rw [yi]; simp
  clear hb6 hW7 A7 B7 B57 hq nx5 HRF yc
  go_upto_region 5 with (refine wpList_store_row rfl 48 _ _ rfl W6.heap.size ys rfl rfl 48 _ NZ6 yi zy y1 ?_)
  rw [HW7.out, HQ.out]
  clear HW7 NZ6 HQ zy
  have ny7 := (HZ.out W7 (Below.refl _ _)).2.2.1
  have CRI : Hid _ := YC.out.right W7 (HZ.out W7 (Below.refl _ _)).2.2.2.2.1
  go_wp2_with (refine wpList_load_row rfl 48 _ rfl _ rfl 48 _ (0, 0) _ ny7 hr rfl yi ?_)
  refine Calls.mono CRI.out ?_
  rintro e' W8 ⟨rfl, hb8⟩
  have HB8 : Hid (Below W7.heap.size W7 W8) := hb8
  clear hb8 ny7 CRI
  have NS8 := Dd.range_st (HZ.out W8 HB8.out).2.1
  have NX8 := (HX.out W8 (HZ.out W8 HB8.out).1).2.2.1
  have js := Dd.ints_len HS0.out
  cases wb with
  | false =>
    obtain rfl : e0 = 4 := HW.out.2.2.symm
    have hs : s0 = Dd.zeros := HW.out.2.1.symm
    have hqe : ∀ W : World, (Op.equalIn 10000 41 (.agg (Dd.ints s0).toArray) (.agg Tryz.zeroCells41)).run Tryz.prog W = .ok true W := fun W => by
      rw [Dd.zero_row, Dd.st_eqi s0 Dd.zeros HS0.out Dd.zeros_length W, hs, decide_eq_true rfl]
    have CRU : Hid (Calls Tryz.prog 14 #[.agg xs, .agg (Dd.row s0)] W8 fun e w' => Nt.Gives [] W8 e w') := CX.out.running W8 s0 (HZ.out W8 HB8.out).2.2.2.2.2 HS0.out
    clear hs
    go_upto_region 6 with fail
    go_wp2_with (first
      | refine Dd.load_want (by rfl) 41 _ rfl p 0 rfl (Dd.ints s0) _ NS8 hu rfl js ?_
      | refine Dd.load_want (by rfl) 32 _ rfl w.heap.size 0 rfl xs.toList _ NX8 ha rfl ial ?_
      | fail)
    refine Calls.mono CRU.out ?_
    rintro e' W9 ⟨v9, rfl, how9, hb9⟩
    obtain ⟨ra, rc, rfl⟩ := Rk.own_shape how9
    have HB9 : Hid (Below W7.heap.size W7 W9) := HB8.out.trans (hb9.mono HB8.out.size)
    clear how9 hb9 CRU NS8 NX8
    go_wp2_with fail
    refine Calls.mono (HS.out W9 (HZ.out W9 HB9.out).2.2.2.2.2) ?_
    rintro e' WA ⟨rfl, hbA⟩
    have HBA : Hid (Below W7.heap.size W7 WA) := HB9.out.trans (hbA.mono HB9.out.size)
    clear hbA
    go_wp2
    go_ret
    exact ⟨rfl, (HZ.out WA HBA.out).2.2.2.2.2⟩
  | true =>
    obtain rfl : e0 = 0 := HW.out.2.2.symm
    have hs : Dd.start T.ls (Dd.kkOf T) = s0 := HW.out.2.1
    have hqe : ∀ W : World, (Op.equalIn 10000 53 (.agg (Dd.row s0)) (.agg (Dd.row s0))).run Tryz.prog W = .ok true W := fun W => by
      rw [Dd.rst_eq s0 s0 HS0.out HS0.out W, decide_eq_true rfl]
    have CST : Hid (∀ W, Below W7.heap.size W7 W → Calls Tryz.prog 16 #[.agg ys] W fun e w' => e = .returned (.agg (Dd.row s0)) ∧ Below W.heap.size W w') := fun W hb => by
      have h := YC.out.start rfl W (HZ.out W hb).2.2.2.2.1
      rw [hs] at h
      exact h
    have CSA : Hid (∀ W, Calls Tryz.prog 15 #[.agg (Dd.row s0)] W fun e w' => e = .returned (.agg (Dd.row s0)) ∧ Below W.heap.size W w') := fun W => Tryz.lawState_any s0 W HS0.out
    have HSS : Hid (∀ W, Below W7.heap.size W7 W → (W.rangeAt p 0 (Dd.ints s0) ∧ W.rangeAt q 0 ys.toList)) := fun W hb => ⟨Dd.range_st (HZ.out W hb).2.1, (HZ.out W hb).2.2.2.1⟩
    have HD8 : Hid (Below W7.heap.size W7 W8.drew) := HB8.out.drew
    clear hs NS8 NX8
    go_upto_region 7 with fail
    refine wp_region_held_drew (S := (fun V => V.rangeAt p 0 (Dd.ints s0) ∧ V.rangeAt q 0 ys.toList)) (by kernel_rfl) ?_ (fun hHeld => ?_)
    · exact HSS.out _ HD8.out
    refine Nt.takeS (v := ?va0) 0 38 rfl rfl (by kernel_rfl) (by kernel_rfl) (by kernel_rfl) (fun _ _ _ h => h) (Or.inl ⟨by rfl, ?ya0⟩) hHeld ?ra0
    case ya0 => (intro w hSw; (try dsimp only at hSw); go_simp; all_goals (with_reducible rfl))
    simp only [List.set_cons_succ, List.set_cons_zero]
    refine Nt.takeS (v := ?va1) 1 39 rfl rfl (by kernel_rfl) (by kernel_rfl) (by kernel_rfl) (fun _ _ _ h => h) (Or.inl ⟨by rfl, ?ya1⟩) hHeld ?ra1
    case ya1 => (intro w hSw; (try dsimp only at hSw); go_simp; all_goals (with_reducible rfl))
    simp only [List.set_cons_succ, List.set_cons_zero]
    refine Nt.takeS (v := ?va2) 2 40 rfl rfl (by kernel_rfl) (by kernel_rfl) (by kernel_rfl) (fun _ _ _ h => h) (Or.inl ⟨by rfl, ?ya2⟩) hHeld ?ra2
    case ya2 => (intro w hSw; (try dsimp only at hSw); go_simp; all_goals (with_reducible rfl))
    simp only [List.set_cons_succ, List.set_cons_zero]
    refine Nt.takeS (v := .agg (Dd.row s0)) 3 41 rfl rfl (by kernel_rfl) (by kernel_rfl) (by kernel_rfl) (fun _ _ _ h => h) (yieldsIf_load_mid (by rfl) 41 _ rfl p 0 rfl (Dd.ints s0) _ (fun _ hw => hw.1) hu rfl js) hHeld ?_
    simp only [List.set_cons_succ, List.set_cons_zero]
    refine Nt.takeS (v := .agg ys) 5 43 rfl rfl (by kernel_rfl) (by kernel_rfl) (by kernel_rfl) (fun _ _ _ h => h) (yieldsIf_load_mid (by rfl) 48 _ rfl q 0 rfl ys.toList _ (fun _ hw => hw.2) hr rfl yil) hHeld ?_
    simp only [List.set_cons_succ, List.set_cons_zero]
    refine wpAnyH_ready (rs := [4]) (by kernel_rfl) (by simp) ?_
    refine AllReadyH.cons rfl (fun K hK => ?_) AllReadyH.nil
    go_simp
    go_at_call 15
    refine Calls.mono (CSA.out _) ?_
    rintro e' WA ⟨rfl, hbA⟩
    have HBA : Hid (Below W7.heap.size W7 WA) := HD8.out.trans (hbA.mono HD8.out.size)
    clear hbA
    go_wp2_with fail
    refine hK.out _ _ ?_ (fun hT4 => ?_)
    · exact HSS.out _ HBA.out
    clear hK K
    first | refine Nt.normS 42 rfl ?_ | skip
    first | (simp only [List.set_cons_succ, List.set_cons_zero]) | skip
    refine wpAnyH_ready (rs := [6]) (by kernel_rfl) (by simp) ?_
    refine AllReadyH.cons rfl (fun K hK => ?_) AllReadyH.nil
    go_simp
    go_at_call 16
    refine Calls.mono (CST.out _ HBA.out) ?_
    rintro e' WB ⟨rfl, hbB⟩
    have HBB : Hid (Below W7.heap.size W7 WB) := HBA.out.trans (hbB.mono HBA.out.size)
    clear hbB
    go_wp2_with fail
    refine hK.out _ _ ?_ (fun hT6 => ?_)
    · exact HSS.out _ HBB.out
    clear hK K
    first | refine Nt.normS 44 rfl ?_ | skip
    first | (simp only [List.set_cons_succ, List.set_cons_zero]) | skip
    refine Nt.takeS (v := ?vb7) 7 45 rfl rfl (by kernel_rfl) (by kernel_rfl) (by kernel_rfl) (fun _ _ _ h => h) (Or.inl ⟨by rfl, ?yb7⟩) hT6 ?rb7
    case yb7 => (intro w hSw; (try dsimp only at hSw); go_simp; all_goals (with_reducible rfl))
    simp only [List.set_cons_succ, List.set_cons_zero]
    refine Nt.takeS (v := ?vb8) 8 46 rfl rfl (by kernel_rfl) (by kernel_rfl) (by kernel_rfl) (fun _ _ _ h => h) (Or.inl ⟨by rfl, ?yb8⟩) hT6 ?rb8
    case yb8 => (intro w hSw; (try dsimp only at hSw); go_simp; all_goals (with_reducible rfl))
    simp only [List.set_cons_succ, List.set_cons_zero]
    refine Nt.takeS (v := ?vb9) 9 47 rfl rfl (by kernel_rfl) (by kernel_rfl) (by kernel_rfl) (fun _ _ _ h => h) (Or.inl ⟨by rfl, ?yb9⟩) hT6 ?rb9
    case yb9 => (intro w hSw; (try dsimp only at hSw); go_simp; all_goals (with_reducible rfl))
    simp only [List.set_cons_succ, List.set_cons_zero]
    refine wpAnyH_ready (rs := [10]) (by kernel_rfl) (by simp) ?_
    refine AllReadyH.cons rfl (fun K hK => ?_) AllReadyH.nil
    go_simp
    go_at_call 10
    refine Calls.mono (HS.out _ (HZ.out _ HBB.out).2.2.2.2.2) ?_
    rintro e' WC ⟨rfl, hbC⟩
    have HBC : Hid (Below W7.heap.size W7 WC) := HBB.out.trans (hbC.mono HBB.out.size)
    clear hbC
    go_wp2_with fail
    refine hK.out _ _ ?_ (fun hT10 => ?_)
    · exact HSS.out _ HBC.out
    clear hK K
    first | refine Nt.normS 48 rfl ?_ | skip
    first | (simp only [List.set_cons_succ, List.set_cons_zero]) | skip
    refine Nt.takeS (v := ?vc11) 11 49 rfl rfl (by kernel_rfl) (by kernel_rfl) (by kernel_rfl) (fun _ _ _ h => h) (Or.inl ⟨by rfl, ?yc11⟩) hT10 ?rc11
    case yc11 => (intro w hSw; (try dsimp only at hSw); go_simp; all_goals (with_reducible rfl))
    simp only [List.set_cons_succ, List.set_cons_zero]
    refine Nt.takeS (v := ?vc12) 12 2 rfl rfl (by kernel_rfl) (by kernel_rfl) (by kernel_rfl) (fun _ _ _ h => h) (Or.inl ⟨by rfl, ?yc12⟩) hT10 ?rc12
    case yc12 => (intro w hSw; (try dsimp only at hSw); go_simp; all_goals (with_reducible rfl))
    simp only [List.set_cons_succ, List.set_cons_zero]
    refine wpAnyH_done (by kernel_rfl) ?_ _
    go_wp2_with fail
    go_ret
    exact ⟨rfl, (HZ.out WC HBC.out).2.2.2.2.2⟩
end Go.Proofs.YtmomffminkflnaaGreatDoor.DeadStarts
namespace Go.Proofs.YtmomffminkflnaaGreatDoor
open Go.ChangeShapes Go.WideShapes Go.ChangeAt Go.RowKit
theorem gOps : Tryz.prog.globalNamed "treenail/term.operators" = some 0 := by kernel_rfl
theorem gOpsType : (Tryz.prog.globals[0]?).map (·.type) = some 158 := by kernel_rfl
theorem cellsOps : Tryz.prog.cellsOf 158 = 75 := by kernel_rfl
theorem cellsOp : Tryz.prog.cellsOf 157 = 5 := by kernel_rfl
theorem cellsInt' : Tryz.prog.cellsOf 3 = 1 := by kernel_rfl
theorem cellsString' : Tryz.prog.cellsOf 9 = 1 := by kernel_rfl
theorem list5' {α : Type} {l : List α} (h : l.length = 5) : ∃ a b c d e, l = [a, b, c, d, e] := by
 match l, h with
 | [a, b, c, d, e], _ => exact ⟨a, b, c, d, e, rfl⟩
theorem op_one {H : Type} {enc : TypeId × Value → H} {W : World} {base : Nat} {sp : Nat → Bool} {held : Bool} {fuel : Nat} {cs : List Value} {x : DataW H × List MemPlace} {t : List UInt8} {n1 n2 n3 n4 : Int}
  (h : DataW.trod enc Tryz.prog W base sp held fuel 157 cs = some x) (hx : x.1 = .agg [.lit (.string t), .lit (.int .i64 n1), .lit (.int .i64 n2), .lit (.int .i64 n3), .lit (.int .i64 n4)]) :
  cs = [.string ⟨t.toArray⟩, .int .i64 n1, .int .i64 n2, .int .i64 n3, .int .i64 n4] := by
 obtain ⟨ys, n, _, hx', hl, hy, hf⟩ := DataW.trod_struct Tryz.underlying157 h
 rw [cellsOp] at hl
 have hy : ys.length = 5 := hy
 obtain ⟨c0, c1, c2, c3, c4, rfl⟩ := list5' hl
 obtain ⟨y0, y1, y2, y3, y4, rfl⟩ := list5' hy
 have g0 : DataW.trod enc Tryz.prog W base sp held n 9 (([c0, c1, c2, c3, c4].drop 0).take (Tryz.prog.cellsOf 9)) = [y0, y1, y2, y3, y4][0]? := hf 0 _ rfl
 have g1 : DataW.trod enc Tryz.prog W base sp held n 3 (([c0, c1, c2, c3, c4].drop 1).take (Tryz.prog.cellsOf 3)) = [y0, y1, y2, y3, y4][1]? := hf 1 _ rfl
 have g2 : DataW.trod enc Tryz.prog W base sp held n 3 (([c0, c1, c2, c3, c4].drop 2).take (Tryz.prog.cellsOf 3)) = [y0, y1, y2, y3, y4][2]? := hf 2 _ rfl
 have g3 : DataW.trod enc Tryz.prog W base sp held n 3 (([c0, c1, c2, c3, c4].drop 3).take (Tryz.prog.cellsOf 3)) = [y0, y1, y2, y3, y4][3]? := hf 3 _ rfl
 have g4 : DataW.trod enc Tryz.prog W base sp held n 3 (([c0, c1, c2, c3, c4].drop 4).take (Tryz.prog.cellsOf 3)) = [y0, y1, y2, y3, y4][4]? := hf 4 _ rfl
 rw [cellsString'] at g0
 rw [cellsInt'] at g1 g2 g3 g4
 obtain ⟨s, e0, d0, _⟩ := DataW.trod_string Tryz.underlying9 g0
 obtain ⟨m1, e1, d1, _⟩ := DataW.trod_int Tryz.underlying3 g1
 obtain ⟨m2, e2, d2, _⟩ := DataW.trod_int Tryz.underlying3 g2
 obtain ⟨m3, e3, d3, _⟩ := DataW.trod_int Tryz.underlying3 g3
 obtain ⟨m4, e4, d4, _⟩ := DataW.trod_int Tryz.underlying3 g4
 obtain rfl : c0 = .string s := (List.cons.inj e0).1
 obtain rfl : c1 = .int .i64 m1 := (List.cons.inj e1).1
 obtain rfl : c2 = .int .i64 m2 := (List.cons.inj e2).1
 obtain rfl : c3 = .int .i64 m3 := (List.cons.inj e3).1
 obtain rfl : c4 = .int .i64 m4 := (List.cons.inj e4).1
 rw [hx'] at hx
 rw [d0, d1, d2, d3, d4] at hx
 simp only [List.map_cons, List.map_nil, DataW.agg.injEq, List.cons.injEq, DataW.lit.injEq, Lit.int.injEq, Lit.string.injEq, and_true, true_and] at hx
 obtain ⟨rfl, rfl, rfl, rfl, rfl⟩ := hx
 rfl
theorem ops_of_laid {W : World} (h : laidMet Tryz.prog [("treenail/term.operators", Rows.laid_treenail_term_operators)] W) : Tk.Ops W := by
 obtain ⟨ps, ⟨g', t', cs, fuel, p, q, hg', ht', hvar, hd, _, _⟩, _⟩ := h
 obtain rfl := Option.some.inj (gOps.symm.trans hg')
 obtain rfl := Option.some.inj (gOpsType.symm.trans ht')
 obtain ⟨xs, m, rfl, hx, hl, hxl, hf⟩ := DataW.trod_array Tryz.underlying158 hd
 rw [cellsOps] at hl
 simp only [cellsOp] at hf
 have hx1 := congrArg Prod.fst hx
 have hlen : xs.length = 15 := hxl
 simp only [Rows.laid_treenail_term_operators, DataW.agg.injEq] at hx1
 have row : ∀ (i : Nat) (t : List UInt8) (n1 n2 n3 n4 : Int), i < 15 → (xs.map (·.1))[i]? = some (.agg [.lit (.string t), .lit (.int .i64 n1), .lit (.int .i64 n2), .lit (.int .i64 n3), .lit (.int .i64 n4)]) →
   (cs.toList.drop (i * 5)).take 5 = [.string ⟨t.toArray⟩, .int .i64 n1, .int .i64 n2, .int .i64 n3, .int .i64 n4] := by
  intro i t n1 n2 n3 n4 hi hL
  obtain ⟨x, hxi⟩ : ∃ x, xs[i]? = some x := ⟨xs[i]'(by omega), List.getElem?_eq_getElem (by omega)⟩
  rw [List.getElem?_map, hxi] at hL
  exact op_one (x := x) ((hf i hi).trans hxi) (by simpa using hL)
 have step : ∀ n, cs.toList.drop n = (cs.toList.drop n).take 5 ++ cs.toList.drop (n + 5) := fun n => by
  have := (List.take_append_drop 5 (cs.toList.drop n)).symm
  rw [List.drop_drop] at this
  exact this
 have r0 := row 0 [] 0 0 0 0 (by decide) (by rw [← hx1]; rfl)
 have r1 := row 1 [] 0 0 1099511627776 1 (by decide) (by rw [← hx1]; rfl)
 have r2 := row 2 [36] 0 0 3 1 (by decide) (by rw [← hx1]; rfl)
 have r3 := row 3 [110, 101, 103] 1 1 0 1 (by decide) (by rw [← hx1]; rfl)
 have r4 := row 4 [110, 111, 116] 1 2 0 2 (by decide) (by rw [← hx1]; rfl)
 have r5 := row 5 [97, 100, 100] 2 1 0 1 (by decide) (by rw [← hx1]; rfl)
 have r6 := row 6 [115, 117, 98] 2 1 0 1 (by decide) (by rw [← hx1]; rfl)
 have r7 := row 7 [109, 117, 108] 2 1 0 1 (by decide) (by rw [← hx1]; rfl)
 have r8 := row 8 [100, 105, 118] 2 1 0 1 (by decide) (by rw [← hx1]; rfl)
 have r9 := row 9 [109, 111, 100] 2 1 0 1 (by decide) (by rw [← hx1]; rfl)
 have r10 := row 10 [101, 113] 2 1 0 2 (by decide) (by rw [← hx1]; rfl)
 have r11 := row 11 [108, 116] 2 1 0 2 (by decide) (by rw [← hx1]; rfl)
 have r12 := row 12 [108, 101] 2 1 0 2 (by decide) (by rw [← hx1]; rfl)
 have r13 := row 13 [97, 110, 100] 2 2 0 2 (by decide) (by rw [← hx1]; rfl)
 have r14 := row 14 [111, 114] 2 2 0 2 (by decide) (by rw [← hx1]; rfl)
 have hca : cs = Tk.opVals := by
  apply Array.toList_inj.1
  have h0 : cs.toList = cs.toList.drop 0 := rfl
  have h75 : cs.toList.drop 75 = [] := List.drop_eq_nil_iff.2 (by omega)
  rw [h0, step 0, step 5, step 10, step 15, step 20, step 25, step 30, step 35, step 40, step 45, step 50, step 55, step 60, step 65, step 70, h75]
  have q0 : (cs.toList.drop 0).take 5 = _ := r0
  have q1 : (cs.toList.drop 5).take 5 = _ := r1
  have q2 : (cs.toList.drop 10).take 5 = _ := r2
  have q3 : (cs.toList.drop 15).take 5 = _ := r3
  have q4 : (cs.toList.drop 20).take 5 = _ := r4
  have q5 : (cs.toList.drop 25).take 5 = _ := r5
  have q6 : (cs.toList.drop 30).take 5 = _ := r6
  have q7 : (cs.toList.drop 35).take 5 = _ := r7
  have q8 : (cs.toList.drop 40).take 5 = _ := r8
  have q9 : (cs.toList.drop 45).take 5 = _ := r9
  have q10 : (cs.toList.drop 50).take 5 = _ := r10
  have q11 : (cs.toList.drop 55).take 5 = _ := r11
  have q12 : (cs.toList.drop 60).take 5 = _ := r12
  have q13 : (cs.toList.drop 65).take 5 = _ := r13
  have q14 : (cs.toList.drop 70).take 5 = _ := r14
  rw [q0, q1, q2, q3, q4, q5, q6, q7, q8, q9, q10, q11, q12, q13, q14]
  rfl
 subst hca
 simp only [World.var?, gOps, Option.bind_some] at hvar
 split at hvar
 ·rename_i cs' t fz hh
  obtain rfl := Option.some.inj hvar
  exact ⟨t, fz, hh⟩
 ·cases hvar
end Go.Proofs.YtmomffminkflnaaGreatDoor
namespace Go.Proofs
open Go.RowKit Go.ChangeShapes Go.WideShapes Go.Deep
instance : Inhabited Tm := ⟨.mk 0 0 []⟩
theorem Tm.Lies.more {w : World} {B : Nat} : ∀ {d : Nat} {v : Value} {T : Tm}, Tm.Lies w B d v T → Tm.Lies w B (d + 1) v T
 | 0, _, _, h => h.elim
 | d + 1, v, T, h => by
   obtain ⟨a, cap, hv, h⟩ := h
   refine ⟨a, cap, hv, h.elim .inl fun ⟨g, off, ha, hg, hr⟩ => .inr ⟨g, off, ha, hg, fun j hj => ?_⟩⟩
   obtain ⟨u, h0, h1, h2, h3⟩ := hr j hj
   exact ⟨u, h0, h1, h2, Tm.Lies.more h3⟩
theorem Tk.cellsTerm : Tryz.prog.cellsOf 24 = 3 := by kernel_rfl
theorem Tk.cellsInt1 : Tryz.prog.cellsOf 3 = 1 := by kernel_rfl
theorem Tk.cellsTerms : Tryz.prog.cellsOf 22 = 1 := by kernel_rfl
theorem Tk.list3 {α : Type} {l : List α} (h : l.length = 3) : ∃ a b c, l = [a, b, c] := by
 match l, h with
 | [a, b, c], _ => exact ⟨a, b, c, rfl⟩
theorem Tk.cell_lt {w : World} {a : Addr} {v : Value} (h : w.cell? a = some v) : a.block < w.heap.size := by
 rcases Nat.lt_or_ge a.block w.heap.size with h1 | h1
 ·exact h1
 ·unfold World.cell? at h
  simp [h1] at h
theorem Tm.open_term {H : Type} {enc : TypeId × Value → H} {w : World} {spare : Nat → Bool} {held : Bool} : ∀ (fuel : Nat) (cs : List Value) (x : DataW H × List MemPlace), DataW.trod enc Tryz.prog w 0 spare held fuel 24 cs = some x →
   ∃ (T : Tm) (v : Value), cs = [.int .i64 T.op, .int .i64 T.num, v] ∧ Tm.Lies w w.heap.size fuel v T := by
 intro fuel
 induction fuel using Nat.strongRecOn with
 | _ fuel ih =>
   intro cs x h
   obtain ⟨ys, n, rfl, hx, hl, hy, hf⟩ := DataW.trod_struct Tryz.underlying24 h
   rw [Tk.cellsTerm] at hl
   have hy : ys.length = 3 := hy
   obtain ⟨c0, c1, c2, rfl⟩ := Tk.list3 hl
   obtain ⟨y0, y1, y2, rfl⟩ := Tk.list3 hy
   have g0 : DataW.trod enc Tryz.prog w 0 spare held n 3 (([c0, c1, c2].drop 0).take (Tryz.prog.cellsOf 3)) = [y0, y1, y2][0]? := hf 0 _ rfl
   have g1 : DataW.trod enc Tryz.prog w 0 spare held n 3 (([c0, c1, c2].drop 1).take (Tryz.prog.cellsOf 3)) = [y0, y1, y2][1]? := hf 1 _ rfl
   have g2 : DataW.trod enc Tryz.prog w 0 spare held n 22 (([c0, c1, c2].drop 2).take (Tryz.prog.cellsOf 22)) = [y0, y1, y2][2]? := hf 2 _ rfl
   rw [Tk.cellsInt1] at g0 g1
   rw [Tk.cellsTerms] at g2
   obtain ⟨o, e0, _⟩ := DataW.trod_int Tryz.underlying3 g0
   obtain ⟨m, e1, _⟩ := DataW.trod_int Tryz.underlying3 g1
   obtain rfl : c0 = .int .i64 o := (List.cons.inj e0).1
   obtain rfl : c1 = .int .i64 m := (List.cons.inj e1).1
   rcases DataW.trod_slice Tryz.underlying22 g2 with ⟨e2, _⟩ | ⟨a, len, cap, elems, rest, n', hn', e2, _, _, hlc, _, hlen, hel, _, _⟩
   ·obtain rfl : c2 = .slice none 0 0 := (List.cons.inj e2).1
    exact ⟨.mk o m [], .slice none 0 0, rfl, none, 0, rfl, .inl rfl⟩
   ·obtain rfl : c2 = .slice (some a) len cap := (List.cons.inj e2).1
    subst hn'
    have each : ∀ i, i < len → ∃ q : Tm, ∃ u, w.cell? (a.add (i * 3)) = some (.int .i64 q.op) ∧ w.cell? ((a.add (i * 3)).add 1) = some (.int .i64 q.num) ∧ w.cell? ((a.add (i * 3)).add 2) = some u ∧ Tm.Lies w w.heap.size n' u q := by
     intro i hi
     have h1 := hel i hi
     rw [Tk.cellsTerm, List.getElem?_eq_getElem (by omega)] at h1
     obtain ⟨cs', h2, h3⟩ := Option.bind_eq_some_iff.1 h1
     obtain ⟨q, u, rfl, hq⟩ := ih n' (by omega) cs' _ h3
     obtain ⟨_, hl3, hc⟩ := World.cells?_some h2
     exact ⟨q, u, by simpa [Addr.add] using hc 0 (by simp), by simpa using hc 1 (by simp), by simpa using hc 2 (by simp), hq⟩
    obtain ⟨q, hq⟩ := choose_lt each
    have hlen' : ((List.range len).map q).length = len := by simp
    have hget : ∀ j (h : j < ((List.range len).map q).length), ((List.range len).map q)[j] = q j := fun j h => by simp
    refine ⟨.mk o m ((List.range len).map q), .slice (some a) len cap, rfl, some a, cap, by rw [show (Tm.mk o m ((List.range len).map q)).ks = (List.range len).map q from rfl, hlen'], ?_⟩
    by_cases hz : len = 0
    ·subst hz; exact .inl rfl
    ·obtain ⟨g, off, spot⟩ := a
     obtain ⟨_, h0, _⟩ := hq 0 (by omega)
     have hspot : spot = none := by simpa [Addr.add] using World.cell?_spot h0
     subst hspot
     have hg : g < w.heap.size := by
      have := Tk.cell_lt h0
      simpa [Addr.add] using this
     refine .inr ⟨g, off, rfl, hg, fun j hj => ?_⟩
     have hj' : j < ((List.range len).map q).length := hj
     show ∃ u, w.cell? ⟨g, off + j * 3, none⟩ = some (.int .i64 (((List.range len).map q)[j]'hj').op) ∧ w.cell? ⟨g, off + j * 3 + 1, none⟩ = some (.int .i64 (((List.range len).map q)[j]'hj').num) ∧ w.cell? ⟨g, off + j * 3 + 2, none⟩ = some u ∧ Tm.Lies w w.heap.size (n' + 1) u (((List.range len).map q)[j]'hj')
     rw [hget j hj']
     rw [hlen'] at hj'
     obtain ⟨u, p0, p1, p2, p3⟩ := hq j hj'
     have ea : ∀ (c k : Nat), ((⟨g, off, none⟩ : Addr).add c).add k = ⟨g, off + c + k, none⟩ := fun c k => by rw [Go.WideShapes.add_plain, Go.WideShapes.add_plain]
     rw [Go.WideShapes.add_plain] at p0
     rw [ea] at p1 p2
     exact ⟨u, p0, p1, p2, p3.more⟩
end Go.Proofs
namespace Go.Proofs
open Go.RowKit Go.ChangeShapes Go.WideShapes
theorem Fk.laidOut : laidOutB Tryz.prog = true := by kernel_rfl
theorem Fk.trodAll_below' {H : Type} {enc : TypeId × Value → H} {P : Program} (hl : laidOutB P = true) {W W' : World} (hb : Below W.heap.size W W') : ∀ {ts : List TypeId} {vs : List Value} {ds : List (DataW H)} {ps : List MemPlace},
   (ts.all fun t => P.readableRec t && decide (t < P.types.size)) = true → DataW.TrodAll enc P W 0 (fun _ => true) true ts vs ds ps → (∀ x ∈ ps, x.block < W.heap.size) →
   DataW.TrodAll enc P W' 0 (fun b => decide (b < W.heap.size)) true ts vs ds ps
 | [], [], [], _, _, h, _ => h
 | t :: _, _ :: _, _ :: _, _, hT, ⟨p, q, h1, h2, e⟩, hs => by
   simp only [List.all_cons, Bool.and_eq_true, decide_eq_true_eq] at hT
   exact ⟨p, q, Below.trod hl hT.1.1 hT.1.2 h1 hb (fun x hx => hs x (by rw [e]; exact List.mem_append_left _ hx)),
    Fk.trodAll_below' hl hb hT.2 h2 (fun x hx => hs x (by rw [e]; exact List.mem_append_right _ hx)), e⟩
theorem Fk.trodAll_below {H : Type} {enc : TypeId × Value → H} {W W' : World} (hb : Below W.heap.size W W') {ts : List TypeId} {vs : List Value} {ds : List (DataW H)} {ps : List MemPlace}
 (hT : (ts.all fun t => Tryz.prog.readableRec t && decide (t < Tryz.prog.types.size)) = true) (h : DataW.TrodAll enc Tryz.prog W 0 (fun _ => true) true ts vs ds ps) (hs : ∀ x ∈ ps, x.block < W.heap.size) :
 DataW.TrodAll enc Tryz.prog W' 0 (fun b => decide (b < W.heap.size)) true ts vs ds ps := Fk.trodAll_below' Fk.laidOut hb hT h hs
end Go.Proofs
namespace Go.Proofs
open Go.RowKit Go.ChangeShapes Go.WideShapes Go.Deep
theorem Tm.Lies.up {w : World} {B : Nat} {d e : Nat} {v : Value} {T : Tm} (h : Tm.Lies w B d v T) (he : d ≤ e) : Tm.Lies w B e v T := by
 induction he with
 | refl => exact h
 | step _ ih => exact ih.more
theorem Nt.cellsNode : Tryz.prog.cellsOf 76 = 5 := by kernel_rfl
theorem Nt.cellsFlow : Tryz.prog.cellsOf 78 = 6 := by kernel_rfl
theorem Nt.cellsNet : Tryz.prog.cellsOf 30 = 2 := by kernel_rfl
theorem Nt.cellsBool : Tryz.prog.cellsOf 4 = 1 := by kernel_rfl
theorem Nt.cellsNodes : Tryz.prog.cellsOf 27 = 1 := by kernel_rfl
theorem Nt.cellsFlows : Tryz.prog.cellsOf 28 = 1 := by kernel_rfl
theorem Nt.list2 {α : Type} {l : List α} (h : l.length = 2) : ∃ a b, l = [a, b] := by
 match l, h with
 | [a, b], _ => exact ⟨a, b, rfl⟩
theorem Nt.list4 {α : Type} {l : List α} (h : l.length = 4) : ∃ a b c d, l = [a, b, c, d] := by
 match l, h with
 | [a, b, c, d], _ => exact ⟨a, b, c, d, rfl⟩
theorem Nt.list5 {α : Type} {l : List α} (h : l.length = 5) : ∃ a b c d e, l = [a, b, c, d, e] := by
 match l, h with
 | [a, b, c, d, e], _ => exact ⟨a, b, c, d, e, rfl⟩
theorem Nt.list6 {α : Type} {l : List α} (h : l.length = 6) : ∃ a b c d e f, l = [a, b, c, d, e, f] := by
 match l, h with
 | [a, b, c, d, e, f], _ => exact ⟨a, b, c, d, e, f, rfl⟩
section
variable {H : Type} {enc : TypeId × Value → H} {w : World} {spare : Nat → Bool} {held : Bool}
theorem Nt.open_node (fuel : Nat) (cs : List Value) (x : DataW H × List MemPlace) (h : DataW.trod enc Tryz.prog w 0 spare held fuel 76 cs = some x) :
  ∃ (X : Nd) (v : Value), cs = [.int .i64 X.kind, .int .i64 X.a, .int .i64 X.t.op, .int .i64 X.t.num, v] ∧ Tm.Lies w w.heap.size fuel v X.t := by
 obtain ⟨ys, n, rfl, hx, hl, hy, hf⟩ := DataW.trod_struct Tryz.underlying76 h
 rw [Nt.cellsNode] at hl
 have hy : ys.length = 3 := hy
 obtain ⟨c0, c1, c2, c3, c4, rfl⟩ := Nt.list5 hl
 obtain ⟨y0, y1, y2, rfl⟩ := Tk.list3 hy
 have g0 : DataW.trod enc Tryz.prog w 0 spare held n 3 (([c0, c1, c2, c3, c4].drop 0).take (Tryz.prog.cellsOf 3)) = [y0, y1, y2][0]? := hf 0 _ rfl
 have g1 : DataW.trod enc Tryz.prog w 0 spare held n 3 (([c0, c1, c2, c3, c4].drop 1).take (Tryz.prog.cellsOf 3)) = [y0, y1, y2][1]? := hf 1 _ rfl
 have g2 : DataW.trod enc Tryz.prog w 0 spare held n 24 (([c0, c1, c2, c3, c4].drop 2).take (Tryz.prog.cellsOf 24)) = [y0, y1, y2][2]? := hf 2 _ rfl
 rw [Tk.cellsInt1] at g0 g1
 rw [Tk.cellsTerm] at g2
 obtain ⟨o, e0, _⟩ := DataW.trod_int Tryz.underlying3 g0
 obtain ⟨m, e1, _⟩ := DataW.trod_int Tryz.underlying3 g1
 obtain rfl : c0 = .int .i64 o := (List.cons.inj e0).1
 obtain rfl : c1 = .int .i64 m := (List.cons.inj e1).1
 obtain ⟨T, v, hcs, hT⟩ := Tm.open_term n _ _ g2
 have h3 : [c2, c3, c4] = [.int .i64 T.op, .int .i64 T.num, v] := hcs
 simp only [List.cons.injEq, and_true] at h3
 obtain ⟨rfl, rfl, rfl⟩ := h3
 exact ⟨⟨o, m, T⟩, c4, rfl, hT.up (by omega)⟩
theorem Nt.open_flow (fuel : Nat) (cs : List Value) (x : DataW H × List MemPlace) (h : DataW.trod enc Tryz.prog w 0 spare held fuel 78 cs = some x) :
  ∃ (X : Fl) (v : Value), cs = [.int .i64 X.fr, .int .i64 X.to, .bool X.els, .int .i64 X.c.op, .int .i64 X.c.num, v] ∧ Tm.Lies w w.heap.size fuel v X.c := by
 obtain ⟨ys, n, rfl, hx, hl, hy, hf⟩ := DataW.trod_struct Tryz.underlying78 h
 rw [Nt.cellsFlow] at hl
 have hy : ys.length = 4 := hy
 obtain ⟨c0, c1, c2, c3, c4, c5, rfl⟩ := Nt.list6 hl
 obtain ⟨y0, y1, y2, y3, rfl⟩ := Nt.list4 hy
 have g0 : DataW.trod enc Tryz.prog w 0 spare held n 3 (([c0, c1, c2, c3, c4, c5].drop 0).take (Tryz.prog.cellsOf 3)) = [y0, y1, y2, y3][0]? := hf 0 _ rfl
 have g1 : DataW.trod enc Tryz.prog w 0 spare held n 3 (([c0, c1, c2, c3, c4, c5].drop 1).take (Tryz.prog.cellsOf 3)) = [y0, y1, y2, y3][1]? := hf 1 _ rfl
 have g2 : DataW.trod enc Tryz.prog w 0 spare held n 4 (([c0, c1, c2, c3, c4, c5].drop 2).take (Tryz.prog.cellsOf 4)) = [y0, y1, y2, y3][2]? := hf 2 _ rfl
 have g3 : DataW.trod enc Tryz.prog w 0 spare held n 24 (([c0, c1, c2, c3, c4, c5].drop 3).take (Tryz.prog.cellsOf 24)) = [y0, y1, y2, y3][3]? := hf 3 _ rfl
 rw [Tk.cellsInt1] at g0 g1
 rw [Nt.cellsBool] at g2
 rw [Tk.cellsTerm] at g3
 obtain ⟨o, e0, _⟩ := DataW.trod_int Tryz.underlying3 g0
 obtain ⟨m, e1, _⟩ := DataW.trod_int Tryz.underlying3 g1
 obtain ⟨b, e2, _⟩ := DataW.trod_bool Tryz.underlying4 g2
 obtain rfl : c0 = .int .i64 o := (List.cons.inj e0).1
 obtain rfl : c1 = .int .i64 m := (List.cons.inj e1).1
 obtain rfl : c2 = .bool b := (List.cons.inj e2).1
 obtain ⟨T, v, hcs, hT⟩ := Tm.open_term n _ _ g3
 have h3 : [c3, c4, c5] = [.int .i64 T.op, .int .i64 T.num, v] := hcs
 simp only [List.cons.injEq, and_true] at h3
 obtain ⟨rfl, rfl, rfl⟩ := h3
 exact ⟨⟨o, m, b, T⟩, c5, rfl, hT.up (by omega)⟩
theorem Nt.open_nodes (fuel : Nat) (c : Value) (x : DataW H × List MemPlace) (h : DataW.trod enc Tryz.prog w 0 spare held fuel 27 [c] = some x) : ∃ a cap ns, c = .slice a (ns : List Nd).length cap ∧ Nt.Nds w w.heap.size fuel a ns := by
 rcases DataW.trod_slice Tryz.underlying27 h with ⟨e2, _⟩ | ⟨a, len, cap, elems, rest, n', hn', e2, _, _, hlc, _, hlen, hel, _, _⟩
 ·obtain rfl : c = .slice none 0 0 := (List.cons.inj e2).1
  exact ⟨none, 0, [], rfl, fun j hj => by simp at hj⟩
 ·obtain rfl : c = .slice (some a) len cap := (List.cons.inj e2).1
  subst hn'
  have each : ∀ i, i < len → ∃ q : Nd, ∃ u, w.cell? (a.add (i * 5)) = some (.int .i64 q.kind) ∧ w.cell? ((a.add (i * 5)).add 1) = some (.int .i64 q.a) ∧ w.cell? ((a.add (i * 5)).add 2) = some (.int .i64 q.t.op) ∧ w.cell? ((a.add (i * 5)).add 3) = some (.int .i64 q.t.num) ∧ w.cell? ((a.add (i * 5)).add 4) = some u ∧ Tm.Lies w w.heap.size n' u q.t := by
   intro i hi
   have h1 := hel i hi
   rw [Nt.cellsNode, List.getElem?_eq_getElem (by omega)] at h1
   obtain ⟨cs', h2, h3⟩ := Option.bind_eq_some_iff.1 h1
   obtain ⟨q, u, rfl, hq⟩ := Nt.open_node n' cs' _ h3
   obtain ⟨_, hl3, hc⟩ := World.cells?_some h2
   exact ⟨q, u, by simpa [Addr.add] using hc 0 (by simp), by simpa using hc 1 (by simp), by simpa using hc 2 (by simp), by simpa using hc 3 (by simp), by simpa using hc 4 (by simp), hq⟩
  by_cases hz : len = 0
  ·subst hz
   exact ⟨some a, cap, [], rfl, fun j hj => by simp at hj⟩
  ·haveI : Inhabited Nd := ⟨⟨0, 0, .mk 0 0 []⟩⟩
   obtain ⟨q, hq⟩ := choose_lt each
   have hlen' : ((List.range len).map q).length = len := by simp
   refine ⟨some a, cap, (List.range len).map q, by rw [hlen'], fun j hj => ?_⟩
   obtain ⟨g, off, spot⟩ := a
   obtain ⟨_, h0, _⟩ := hq 0 (by omega)
   have hspot : spot = none := by simpa [Addr.add] using World.cell?_spot h0
   subst hspot
   have hg : g < w.heap.size := by
    have := Tk.cell_lt h0
    simpa [Addr.add] using this
   have hget : ((List.range len).map q)[j] = q j := by simp
   rw [hget]
   rw [hlen'] at hj
   obtain ⟨u, p0, p1, p2, p3, p4, p5⟩ := hq j hj
   have ea : ∀ (c k : Nat), ((⟨g, off, none⟩ : Addr).add c).add k = ⟨g, off + c + k, none⟩ := fun c k => by rw [Go.WideShapes.add_plain, Go.WideShapes.add_plain]
   rw [Go.WideShapes.add_plain] at p0
   rw [ea] at p1 p2 p3 p4
   exact ⟨g, off, u, rfl, hg, p0, p1, p2, p3, p4, p5.up (by omega)⟩
theorem Nt.open_flows (fuel : Nat) (c : Value) (x : DataW H × List MemPlace) (h : DataW.trod enc Tryz.prog w 0 spare held fuel 28 [c] = some x) : ∃ a cap fs, c = .slice a (fs : List Fl).length cap ∧ Nt.Fls w w.heap.size fuel a fs := by
 rcases DataW.trod_slice Tryz.underlying28 h with ⟨e2, _⟩ | ⟨a, len, cap, elems, rest, n', hn', e2, _, _, hlc, _, hlen, hel, _, _⟩
 ·obtain rfl : c = .slice none 0 0 := (List.cons.inj e2).1
  exact ⟨none, 0, [], rfl, fun j hj => by simp at hj⟩
 ·obtain rfl : c = .slice (some a) len cap := (List.cons.inj e2).1
  subst hn'
  have each : ∀ i, i < len → ∃ q : Fl, ∃ u, w.cell? (a.add (i * 6)) = some (.int .i64 q.fr) ∧ w.cell? ((a.add (i * 6)).add 1) = some (.int .i64 q.to) ∧ w.cell? ((a.add (i * 6)).add 2) = some (.bool q.els) ∧ w.cell? ((a.add (i * 6)).add 3) = some (.int .i64 q.c.op) ∧ w.cell? ((a.add (i * 6)).add 4) = some (.int .i64 q.c.num) ∧ w.cell? ((a.add (i * 6)).add 5) = some u ∧ Tm.Lies w w.heap.size n' u q.c := by
   intro i hi
   have h1 := hel i hi
   rw [Nt.cellsFlow, List.getElem?_eq_getElem (by omega)] at h1
   obtain ⟨cs', h2, h3⟩ := Option.bind_eq_some_iff.1 h1
   obtain ⟨q, u, rfl, hq⟩ := Nt.open_flow n' cs' _ h3
   obtain ⟨_, hl3, hc⟩ := World.cells?_some h2
   exact ⟨q, u, by simpa [Addr.add] using hc 0 (by simp), by simpa using hc 1 (by simp), by simpa using hc 2 (by simp), by simpa using hc 3 (by simp), by simpa using hc 4 (by simp), by simpa using hc 5 (by simp), hq⟩
  by_cases hz : len = 0
  ·subst hz
   exact ⟨some a, cap, [], rfl, fun j hj => by simp at hj⟩
  ·haveI : Inhabited Fl := ⟨⟨0, 0, false, .mk 0 0 []⟩⟩
   obtain ⟨q, hq⟩ := choose_lt each
   have hlen' : ((List.range len).map q).length = len := by simp
   refine ⟨some a, cap, (List.range len).map q, by rw [hlen'], fun j hj => ?_⟩
   obtain ⟨g, off, spot⟩ := a
   obtain ⟨_, h0, _⟩ := hq 0 (by omega)
   have hspot : spot = none := by simpa [Addr.add] using World.cell?_spot h0
   subst hspot
   have hg : g < w.heap.size := by
    have := Tk.cell_lt h0
    simpa [Addr.add] using this
   have hget : ((List.range len).map q)[j] = q j := by simp
   rw [hget]
   rw [hlen'] at hj
   obtain ⟨u, p0, p1, p2, p3, p4, p5, p6⟩ := hq j hj
   have ea : ∀ (c k : Nat), ((⟨g, off, none⟩ : Addr).add c).add k = ⟨g, off + c + k, none⟩ := fun c k => by rw [Go.WideShapes.add_plain, Go.WideShapes.add_plain]
   rw [Go.WideShapes.add_plain] at p0
   rw [ea] at p1 p2 p3 p4 p5
   exact ⟨g, off, u, rfl, hg, p0, p1, p2, p3, p4, p5, p6.up (by omega)⟩
end
end Go.Proofs
namespace Go.Proofs
open Go.RowKit Go.ChangeShapes Go.WideShapes Go.Deep
instance : Inhabited Ac := ⟨.mk 0 0 0 0 (.mk 0 0 []) [] [] [] [] []⟩
instance : Inhabited Ac.Vs := ⟨⟨.bool false, .bool false, .bool false, .bool false, .bool false, .bool false⟩⟩
theorem Ak.cellsAct : Tryz.prog.cellsOf 32 = 12 := by kernel_rfl
theorem Ak.cellsActs : Tryz.prog.cellsOf 25 = 1 := by kernel_rfl
theorem Ak.cellsLink : Tryz.prog.cellsOf 80 = 2 := by kernel_rfl
theorem Ak.cellsLinks : Tryz.prog.cellsOf 26 = 1 := by kernel_rfl
theorem Ak.list9 {α : Type} {l : List α} (h : l.length = 9) : ∃ a b c d e f g h i, l = [a, b, c, d, e, f, g, h, i] := by
 match l, h with
 | [a, b, c, d, e, f, g, h, i], _ => exact ⟨a, b, c, d, e, f, g, h, i, rfl⟩
theorem Ak.list12 {α : Type} {l : List α} (h : l.length = 12) : ∃ a b c d e f g h i j k m, l = [a, b, c, d, e, f, g, h, i, j, k, m] := by
 match l, h with
 | [a, b, c, d, e, f, g, h, i, j, k, m], _ => exact ⟨a, b, c, d, e, f, g, h, i, j, k, m, rfl⟩
theorem Ac.Lies.more {w : World} {B e : Nat} : ∀ {d : Nat} {V : Ac.Vs} {T : Ac}, Ac.Lies w B e d V T → Ac.Lies w B e (d + 1) V T
 | 0, _, _, h => h.elim
 | d + 1, V, T, h => by
   obtain ⟨ho, a, cap, hv, h⟩ := h
   refine ⟨ho, a, cap, hv, fun j hj => ?_⟩
   obtain ⟨g, off, U, ha, hg, hr, h1⟩ := h j hj
   exact ⟨g, off, U, ha, hg, hr, h1.more⟩
theorem Ac.Lies.up {w : World} {B e d d' : Nat} {V : Ac.Vs} {T : Ac} (h : Ac.Lies w B e d V T) (hd : d ≤ d') : Ac.Lies w B e d' V T := by
 induction hd with
 | refl => exact h
 | step _ ih => exact ih.more
section
variable {H : Type} {enc : TypeId × Value → H} {w : World} {spare : Nat → Bool} {held : Bool}
theorem Ak.ea (g off c k : Nat) : ((⟨g, off, none⟩ : Addr).add c).add k = ⟨g, off + c + k, none⟩ := by rw [Go.WideShapes.add_plain, Go.WideShapes.add_plain]
theorem Ak.open_conds (fuel : Nat) (c : Value) (x : DataW H × List MemPlace) (h : DataW.trod enc Tryz.prog w 0 spare held fuel 22 [c] = some x) : ∃ a cap cs, c = .slice a (cs : List Tm).length cap ∧ Ac.Tms w w.heap.size fuel a cs := by
 rcases DataW.trod_slice Tryz.underlying22 h with ⟨e2, _⟩ | ⟨a, len, cap, elems, rest, n', hn', e2, _, _, hlc, _, hlen, hel, _, _⟩
 ·obtain rfl : c = .slice none 0 0 := (List.cons.inj e2).1
  exact ⟨none, 0, [], rfl, fun j hj => by simp at hj⟩
 ·obtain rfl : c = .slice (some a) len cap := (List.cons.inj e2).1
  subst hn'
  have each : ∀ i, i < len → ∃ q : Tm, ∃ u, w.cell? (a.add (i * 3)) = some (.int .i64 q.op) ∧ w.cell? ((a.add (i * 3)).add 1) = some (.int .i64 q.num) ∧ w.cell? ((a.add (i * 3)).add 2) = some u ∧ Tm.Lies w w.heap.size n' u q := by
   intro i hi
   have h1 := hel i hi
   rw [Tk.cellsTerm, List.getElem?_eq_getElem (by omega)] at h1
   obtain ⟨cs', h2, h3⟩ := Option.bind_eq_some_iff.1 h1
   obtain ⟨q, u, rfl, hq⟩ := Tm.open_term n' cs' _ h3
   obtain ⟨_, hl3, hc⟩ := World.cells?_some h2
   exact ⟨q, u, by simpa [Addr.add] using hc 0 (by simp), by simpa using hc 1 (by simp), by simpa using hc 2 (by simp), hq⟩
  by_cases hz : len = 0
  ·subst hz
   exact ⟨some a, cap, [], rfl, fun j hj => by simp at hj⟩
  ·obtain ⟨q, hq⟩ := choose_lt each
   have hlen' : ((List.range len).map q).length = len := by simp
   refine ⟨some a, cap, (List.range len).map q, by rw [hlen'], fun j hj => ?_⟩
   obtain ⟨g, off, spot⟩ := a
   obtain ⟨_, h0, _⟩ := hq 0 (by omega)
   have hspot : spot = none := by simpa [Addr.add] using World.cell?_spot h0
   subst hspot
   have hg : g < w.heap.size := by
    have := Tk.cell_lt h0
    simpa [Addr.add] using this
   have hget : ((List.range len).map q)[j] = q j := by simp
   rw [hget]
   rw [hlen'] at hj
   obtain ⟨u, p0, p1, p2, p3⟩ := hq j hj
   rw [Go.WideShapes.add_plain] at p0
   rw [Ak.ea] at p1 p2
   exact ⟨g, off, u, rfl, hg, p0, p1, p2, p3.up (by omega)⟩
theorem Ak.open_links (fuel : Nat) (c : Value) (x : DataW H × List MemPlace) (h : DataW.trod enc Tryz.prog w 0 spare held fuel 26 [c] = some x) : ∃ a cap ls, c = .slice a (ls : List (Int × Int)).length cap ∧ Ac.Lks w w.heap.size a ls := by
 rcases DataW.trod_slice Tryz.underlying26 h with ⟨e2, _⟩ | ⟨a, len, cap, elems, rest, n', hn', e2, _, _, hlc, _, hlen, hel, _, _⟩
 ·obtain rfl : c = .slice none 0 0 := (List.cons.inj e2).1
  exact ⟨none, 0, [], rfl, fun j hj => by simp at hj⟩
 ·obtain rfl : c = .slice (some a) len cap := (List.cons.inj e2).1
  subst hn'
  have each : ∀ i, i < len → ∃ q : Int × Int, w.cell? (a.add (i * 2)) = some (.int .i64 q.1) ∧ w.cell? ((a.add (i * 2)).add 1) = some (.int .i64 q.2) := by
   intro i hi
   have h1 := hel i hi
   rw [Ak.cellsLink, List.getElem?_eq_getElem (by omega)] at h1
   obtain ⟨cs', h2, h3⟩ := Option.bind_eq_some_iff.1 h1
   obtain ⟨ys, n, rfl, hx, hl, hy, hf⟩ := DataW.trod_struct Tryz.underlying80 h3
   rw [Ak.cellsLink] at hl
   have hy : ys.length = 2 := hy
   obtain ⟨c0, c1, rfl⟩ := Nt.list2 hl
   obtain ⟨y0, y1, rfl⟩ := Nt.list2 hy
   have g0 : DataW.trod enc Tryz.prog w 0 spare held n 3 (([c0, c1].drop 0).take (Tryz.prog.cellsOf 3)) = [y0, y1][0]? := hf 0 _ rfl
   have g1 : DataW.trod enc Tryz.prog w 0 spare held n 3 (([c0, c1].drop 1).take (Tryz.prog.cellsOf 3)) = [y0, y1][1]? := hf 1 _ rfl
   rw [Tk.cellsInt1] at g0 g1
   obtain ⟨o, e0, _⟩ := DataW.trod_int Tryz.underlying3 g0
   obtain ⟨m, e1, _⟩ := DataW.trod_int Tryz.underlying3 g1
   obtain rfl : c0 = .int .i64 o := (List.cons.inj e0).1
   obtain rfl : c1 = .int .i64 m := (List.cons.inj e1).1
   obtain ⟨_, hl3, hc⟩ := World.cells?_some h2
   exact ⟨(o, m), by simpa [Addr.add] using hc 0 (by simp), by simpa using hc 1 (by simp)⟩
  by_cases hz : len = 0
  ·subst hz
   exact ⟨some a, cap, [], rfl, fun j hj => by simp at hj⟩
  ·obtain ⟨q, hq⟩ := choose_lt each
   have hlen' : ((List.range len).map q).length = len := by simp
   refine ⟨some a, cap, (List.range len).map q, by rw [hlen'], fun j hj => ?_⟩
   obtain ⟨g, off, spot⟩ := a
   obtain ⟨h0, _⟩ := hq 0 (by omega)
   have hspot : spot = none := by simpa [Addr.add] using World.cell?_spot h0
   subst hspot
   have hg : g < w.heap.size := by
    have := Tk.cell_lt h0
    simpa [Addr.add] using this
   have hget : ((List.range len).map q)[j] = q j := by simp
   rw [hget]
   rw [hlen'] at hj
   obtain ⟨p0, p1⟩ := hq j hj
   rw [Go.WideShapes.add_plain] at p0
   rw [Ak.ea] at p1
   exact ⟨g, off, rfl, hg, p0, p1⟩
theorem Ac.open_cells : ∀ (fuel : Nat) (cs : List Value) (x : DataW H × List MemPlace), DataW.trod enc Tryz.prog w 0 spare held fuel 32 cs = some x →
   ∃ (T : Ac) (V : Ac.Vs), cs = (Ac.row T V).toList ∧ ∀ e, fuel ≤ e → Ac.Lies w w.heap.size e fuel V T := by
 intro fuel
 induction fuel using Nat.strongRecOn with
 | _ fuel ih =>
   intro cs x h
   obtain ⟨ys, n, rfl, hx, hl, hy, hf⟩ := DataW.trod_struct Tryz.underlying32 h
   rw [Ak.cellsAct] at hl
   have hy : ys.length = 9 := hy
   obtain ⟨c0, c1, c2, c3, c4, c5, c6, c7, c8, c9, c10, c11, hcs⟩ := Ak.list12 hl
   obtain ⟨y0, y1, y2, y3, y4, y5, y6, y7, y8, hys⟩ := Ak.list9 hy
   subst hcs
   subst hys
   have g0 : DataW.trod enc Tryz.prog w 0 spare held n 3 (([c0, c1, c2, c3, c4, c5, c6, c7, c8, c9, c10, c11].drop 0).take (Tryz.prog.cellsOf 3)) = some y0 := hf 0 _ rfl
   have g1 : DataW.trod enc Tryz.prog w 0 spare held n 3 (([c0, c1, c2, c3, c4, c5, c6, c7, c8, c9, c10, c11].drop 1).take (Tryz.prog.cellsOf 3)) = some y1 := hf 1 _ rfl
   have g2 : DataW.trod enc Tryz.prog w 0 spare held n 3 (([c0, c1, c2, c3, c4, c5, c6, c7, c8, c9, c10, c11].drop 2).take (Tryz.prog.cellsOf 3)) = some y2 := hf 2 _ rfl
   have g3 : DataW.trod enc Tryz.prog w 0 spare held n 3 (([c0, c1, c2, c3, c4, c5, c6, c7, c8, c9, c10, c11].drop 3).take (Tryz.prog.cellsOf 3)) = some y3 := hf 3 _ rfl
   have g4 : DataW.trod enc Tryz.prog w 0 spare held n 24 (([c0, c1, c2, c3, c4, c5, c6, c7, c8, c9, c10, c11].drop 4).take (Tryz.prog.cellsOf 24)) = some y4 := hf 4 _ rfl
   have g5 : DataW.trod enc Tryz.prog w 0 spare held n 22 (([c0, c1, c2, c3, c4, c5, c6, c7, c8, c9, c10, c11].drop 7).take (Tryz.prog.cellsOf 22)) = some y5 := hf 5 _ rfl
   have g6 : DataW.trod enc Tryz.prog w 0 spare held n 25 (([c0, c1, c2, c3, c4, c5, c6, c7, c8, c9, c10, c11].drop 8).take (Tryz.prog.cellsOf 25)) = some y6 := hf 6 _ rfl
   have g7 : DataW.trod enc Tryz.prog w 0 spare held n 26 (([c0, c1, c2, c3, c4, c5, c6, c7, c8, c9, c10, c11].drop 9).take (Tryz.prog.cellsOf 26)) = some y7 := hf 7 _ rfl
   have g8 : DataW.trod enc Tryz.prog w 0 spare held n 30 (([c0, c1, c2, c3, c4, c5, c6, c7, c8, c9, c10, c11].drop 10).take (Tryz.prog.cellsOf 30)) = some y8 := hf 8 _ rfl
   rw [Tk.cellsInt1] at g0 g1 g2 g3
   rw [Tk.cellsTerm] at g4
   rw [Tk.cellsTerms] at g5
   rw [Ak.cellsActs] at g6
   rw [Ak.cellsLinks] at g7
   rw [Nt.cellsNet] at g8
   obtain ⟨k0, e0, _⟩ := DataW.trod_int Tryz.underlying3 g0
   obtain ⟨k1, e1, _⟩ := DataW.trod_int Tryz.underlying3 g1
   obtain ⟨k2, e2, _⟩ := DataW.trod_int Tryz.underlying3 g2
   obtain ⟨k3, e3, _⟩ := DataW.trod_int Tryz.underlying3 g3
   obtain rfl : c0 = .int .i64 k0 := (List.cons.inj e0).1
   obtain rfl : c1 = .int .i64 k1 := (List.cons.inj e1).1
   obtain rfl : c2 = .int .i64 k2 := (List.cons.inj e2).1
   obtain rfl : c3 = .int .i64 k3 := (List.cons.inj e3).1
   obtain ⟨S, v, hS, hSl⟩ := Tm.open_term n _ _ g4
   have h4 : [c4, c5, c6] = [.int .i64 S.op, .int .i64 S.num, v] := hS
   simp only [List.cons.injEq, and_true] at h4
   obtain ⟨rfl, rfl, rfl⟩ := h4
   obtain ⟨ca, cc, cs, rfl, hcs⟩ := Ak.open_conds n c7 _ g5
   obtain ⟨la, lc, ls, rfl, hls⟩ := Ak.open_links n c9 _ g7
   obtain ⟨zs, n2, rfl, hx2, hl2, hy2, hf2⟩ := DataW.trod_struct Tryz.underlying30 g8
   have hy2 : zs.length = 2 := hy2
   obtain ⟨z0, z1, rfl⟩ := Nt.list2 hy2
   have m0 : DataW.trod enc Tryz.prog w 0 spare held n2 27 (([c10, c11].drop 0).take (Tryz.prog.cellsOf 27)) = some z0 := hf2 0 _ rfl
   have m1 : DataW.trod enc Tryz.prog w 0 spare held n2 28 (([c10, c11].drop 1).take (Tryz.prog.cellsOf 28)) = some z1 := hf2 1 _ rfl
   rw [Nt.cellsNodes] at m0
   rw [Nt.cellsFlows] at m1
   obtain ⟨an, cn, ns, rfl, hN⟩ := Nt.open_nodes n2 c10 _ m0
   obtain ⟨af, cf, fs, rfl, hF⟩ := Nt.open_flows n2 c11 _ m1
   have hN' : ∀ e, n2 ≤ e → Nt.Nds w w.heap.size e an ns := fun e he j hj => by
    obtain ⟨g, off, u, p1, p2, p3, p4, p5, p6, p7, p8⟩ := hN j hj
    exact ⟨g, off, u, p1, p2, p3, p4, p5, p6, p7, p8.up he⟩
   have hF' : ∀ e, n2 ≤ e → Nt.Fls w w.heap.size e af fs := fun e he j hj => by
    obtain ⟨g, off, u, p1, p2, p3, p4, p5, p6, p7, p8, p9⟩ := hF j hj
    exact ⟨g, off, u, p1, p2, p3, p4, p5, p6, p7, p8, p9.up he⟩
   have hcs' : ∀ e, n2 + 1 ≤ e → Ac.Tms w w.heap.size e ca cs := fun e he j hj => by
    obtain ⟨g, off, u, p1, p2, p3, p4, p5, p6⟩ := hcs j hj
    exact ⟨g, off, u, p1, p2, p3, p4, p5, p6.up he⟩
   have own : ∀ (ks : List Ac) (vk : Value) e, n2 + 1 + 1 ≤ e → Ac.Own w w.heap.size e ⟨c6, .slice ca cs.length cc, vk, .slice la ls.length lc, .slice an ns.length cn, .slice af fs.length cf⟩ (.mk k0 k1 k2 k3 S cs ks ls ns fs) := fun ks vk e he =>
    ⟨hSl.up (by omega), ⟨_, _, rfl, hcs' e (by omega)⟩, ⟨_, _, rfl, hls⟩, ⟨_, _, rfl, hN' e (by omega)⟩, ⟨_, _, rfl, hF' e (by omega)⟩⟩
   rcases DataW.trod_slice Tryz.underlying25 g6 with ⟨e6, _⟩ | ⟨a, len, cap, elems, rest, n', hn', e6, _, _, hlc, _, hlen, hel, _, _⟩
   ·obtain rfl : c8 = .slice none 0 0 := (List.cons.inj e6).1
    exact ⟨.mk k0 k1 k2 k3 S cs [] ls ns fs, ⟨c6, .slice ca cs.length cc, .slice none 0 0, .slice la ls.length lc, .slice an ns.length cn, .slice af fs.length cf⟩, rfl, fun e he => ⟨own [] _ e he, none, 0, rfl, fun j hj => absurd hj (Nat.not_lt_zero j)⟩⟩
   ·obtain rfl : c8 = .slice (some a) len cap := (List.cons.inj e6).1
    obtain rfl : n2 = n' := by omega
    have each : ∀ i, i < len → ∃ q : Ac, ∃ U : Ac.Vs, (∀ k (hk : k < (Ac.row q U).size), w.cell? ((a.add (i * 12)).add k) = some (Ac.row q U)[k]) ∧ ∀ e, n2 ≤ e → Ac.Lies w w.heap.size e n2 U q := by
     intro i hi
     have h1 := hel i hi
     rw [Ak.cellsAct, List.getElem?_eq_getElem (by omega)] at h1
     obtain ⟨cs', h2, h3⟩ := Option.bind_eq_some_iff.1 h1
     obtain ⟨q, U, rfl, hq⟩ := ih n2 (by omega) cs' _ h3
     obtain ⟨_, hl3, hc⟩ := World.cells?_some h2
     refine ⟨q, U, fun k hk => ?_, hq⟩
     have := hc k (by simpa [Ac.row] using hk)
     rw [this]
     simp
    obtain ⟨q, hq⟩ := choose_lt each
    obtain ⟨U, hU⟩ := choose_lt hq
    have hlen' : ((List.range len).map q).length = len := by simp
    refine ⟨.mk k0 k1 k2 k3 S cs ((List.range len).map q) ls ns fs, ⟨c6, .slice ca cs.length cc, .slice (some a) len cap, .slice la ls.length lc, .slice an ns.length cn, .slice af fs.length cf⟩, rfl, fun e he => ⟨own _ _ e he, some a, cap, by rw [show (Ac.mk k0 k1 k2 k3 S cs ((List.range len).map q) ls ns fs).ks = (List.range len).map q from rfl, hlen'], fun j hj => ?_⟩⟩
    have hj' : j < ((List.range len).map q).length := hj
    have hjl : j < len := by rw [hlen'] at hj'; exact hj'
    obtain ⟨g, off, spot⟩ := a
    have h0 := (hU 0 (by omega)).1 0 (by simp [Ac.row])
    have hspot : spot = none := by simpa [Addr.add] using World.cell?_spot h0
    subst hspot
    have hg : g < w.heap.size := by
     have := Tk.cell_lt h0
     simpa [Addr.add] using this
    have hget : (Ac.mk k0 k1 k2 k3 S cs ((List.range len).map q) ls ns fs).ks[j]'hj = q j := by
     show ((List.range len).map q)[j] = q j
     simp
    refine ⟨g, off, U j, rfl, hg, ?_, ?_⟩
    ·rw [hget]
     intro k hk
     have := (hU j hjl).1 k hk
     rw [Ak.ea] at this
     exact this
    ·rw [hget]
     exact ((hU j hjl).2 e (by omega)).up (by omega)
end
set_option maxRecDepth 20000 in
theorem Ac.open_act {H : Type} {enc : TypeId × Value → H} {w : World} {spare : Nat → Bool} {held : Bool} {r : Go.Reach} {b0 : Nat} {v : Value} {d : DataW H} {ps : List MemPlace} (hval : Value.okWide Tryz.prog w r b0 32 v) (h : DataW.Trod enc Tryz.prog w 0 spare held 32 v d ps) :
  ∃ (T : Ac) (V : Ac.Vs) (e dd : Nat), v = .agg (Ac.row T V) ∧ Ac.Lies w w.heap.size e dd V T := by
 obtain ⟨cs, rfl, _⟩ := okWide_struct Tryz.underlying32 hval
 obtain ⟨fuel, hf0⟩ := h
 obtain ⟨T, V, hcs, hL⟩ := Ac.open_cells fuel _ _ hf0
 refine ⟨T, V, fuel, fuel, ?_, hL fuel (Nat.le_refl _)⟩
 have : cs.toList = (Ac.row T V).toList := hcs
 congr 1
 exact Array.ext' this
def Dd.Nums (w : World) (B : Nat) (a : Option Addr) (l : List Int) : Prop := ∀ j (h : j < l.length), ∃ g off, a = some ⟨g, off, none⟩ ∧ g < B ∧ w.cell? ⟨g, off + j, none⟩ = some (.int .i64 l[j])
section
variable {H : Type} {enc : TypeId × Value → H} {w : World} {spare : Nat → Bool} {held : Bool}
end
end Go.Proofs
