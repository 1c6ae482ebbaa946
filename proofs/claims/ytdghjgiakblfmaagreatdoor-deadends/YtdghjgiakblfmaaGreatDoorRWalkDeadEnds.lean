import Derived.Test.YtdghjgiakblfmaaGreatDoorRDdIdx
import Derived.Test.YtdghjgiakblfmaaGreatDoorRDdSkips
import Derived.Test.YtdghjgiakblfmaaGreatDoorRDdArg
namespace Go.Proofs.YtdghjgiakblfmaaGreatDoor.DeadEnds
open Go.RowKit
set_option maxRecDepth 100000 in
set_option maxHeartbeats 32000000 in
theorem walk (T : Ac) (V : Ac.Vs) (e dd : Nat) (pa : Option Addr) (pc : Nat) (ps : List Int) (w : World) (hT : Ac.Lies w w.heap.size e dd V T) (hP : Dd.Nums w w.heap.size pa ps) (hO : Tk.Ops w) :
    Calls Tryz.prog 7 #[.agg (Ac.row T V), .slice pa ps.length pc] w fun e w' => e = .returned (.bool true) ∧ Below w.heap.size w w' := by
  have h0 : 0 < w.heap.size := by have := hO.lt; omega
  obtain ⟨ka, kc, hvk, hKd⟩ := Dd.kds_of hT
  obtain ⟨la, lc, hvl, hLk⟩ := hT.own.l
  obtain ⟨n, hn⟩ : ∃ n, T.ks.length = n := ⟨_, rfl⟩
  obtain ⟨m, hm⟩ : ∃ n, T.ls.length = n := ⟨_, rfl⟩
  obtain ⟨pn, hpn⟩ : ∃ n, ps.length = n := ⟨_, rfl⟩
  obtain ⟨xs, hxs⟩ : ∃ xs, Ac.row T V = xs := ⟨_, rfl⟩
  have hsz : xs.size = 12 := by rw [← hxs]; rfl
  have x8 : xs[8]? = some (.slice ka n kc) := by rw [← hxs, ← hn, ← hvk]; rfl
  have x9 : xs[9]? = some (.slice la m lc) := by rw [← hxs, ← hm, ← hvl]; rfl
  obtain ⟨w1, hw1⟩ : ∃ z, w.alloc (.cells xs 32) = z := ⟨_, rfl⟩
  have B1 : Below w.heap.size w w1 := by rw [← hw1]; exact (Below.refl _ w).alloc (Nat.le_refl _) _
  have N1 : w1.heap[w.heap.size]? = some (.cells xs 32 (0, 0)) := by rw [← hw1]; exact heap_alloc_new w _
  have hlt1 := (Array.getElem?_eq_some_iff.1 N1).1
  obtain ⟨w2, hw2⟩ : ∃ z, w1.alloc (.cells #[.int .i64 600] 36) = z := ⟨_, rfl⟩
  have B2 : Below w1.heap.size w1 w2 := by rw [← hw2]; exact (Below.refl _ w1).alloc (Nat.le_refl _) _
  have R2 : Tk.Rm w1.heap.size ((600 : Nat) : Int) w2 := by rw [← hw2]; exact heap_alloc_new w1 _
  have B02 : Below w.heap.size w w2 := B1.trans (B2.mono B1.size)
  have CL0 := Tryz.alarge_any e dd T V 600 w1.heap.size 1 w.heap.size w2 (hT.keep B02.block) (by omega) B02.size R2 (by omega) (by omega)
  rw [hxs] at CL0
  have CL : Hid _ := CL0
  have HX : Hid (∀ W, Below w1.heap.size w1 W → W.heap[w.heap.size]? = some (.cells xs 32 (0, 0)) ∧ Below w.heap.size w W ∧ W.rangeAt w.heap.size 0 xs.toList ∧ W.cell? ⟨w.heap.size, 8, none⟩ = some (.slice ka n kc) ∧ W.cell? ⟨w.heap.size, 9, none⟩ = some (.slice la m lc)) := fun W hb => by
    have h := (hb.block _ hlt1).trans N1
    refine ⟨h, B1.trans (hb.mono B1.size), fun j v hv => ?_, ?_, ?_⟩
    · rw [Nat.zero_add]
      simp only [World.cell?, h]
      simpa using hv
    · simp [World.cell?, h, x8]
    · simp [World.cell?, h, x9]
  have H1 : Hid (w.alloc (.cells xs 32) = w1) := hw1
  have H2 : Hid (w1.alloc (.cells #[.int .i64 600] 36) = w2) := hw2
  have HS : Hid (∀ W, Below w.heap.size w W → Calls Tryz.prog 10 #[] W fun e w' => e = .returned (.bool true) ∧ Below W.heap.size W w') := fun W hb => Tryz.skips_any W (hO.below hb hO.lt)
  have HT : Hid (Ac.Lies w w.heap.size e dd V T ∧ Tk.Ops w ∧ Ac.row T V = xs ∧ T.ks.length = n ∧ T.ls.length = m ∧ Dd.Kds w w.heap.size ka (Dd.kkOf T) ∧ 0 < w.heap.size ∧ V.k = .slice ka n kc) := ⟨hT, hO, hxs, hn, hm, hKd, h0, by rw [← hn]; exact hvk⟩
  have HPI : Hid (Dd.Nums w w.heap.size pa ps ∧ ps.length = pn) := ⟨hP, hpn⟩
  have HBB : Hid (Below w1.heap.size w1 w2 ∧ w.heap.size < w1.heap.size) := ⟨B2, hlt1⟩
  have ha := Tryz.underlying32
  have hu := Tryz.underlying41
  have ia : (Tryz.prog.info? 32).map (·.size) = some xs.size := by rw [hsz]; exact Dd.info_act
  have ial : (Tryz.prog.info? 32).map (·.size) = some xs.toList.length := by rw [ia]; simp
  rw [hpn]
  rw [hxs]
  clear hT hP hO hKd hLk hvk hvl hn hm hpn hxs hsz x8 x9 hw1 hw2 B1 B2 R2 B02 CL0 hlt1 h0
  go_enter Tryz.func7, Tryz.ntmps7
  go_upto_region 1 with fail
  rw [H1.out]
  go_wp2_with (refine wpList_load_row rfl 32 _ rfl _ rfl 32 _ (0, 0) _ N1 ha rfl ia ?_)
  rw [H2.out]
  refine Calls.mono CL.out ?_
  rintro e' W3 ⟨hb3, ⟨rfl, hsm, k3, hk3, -⟩ | rfl⟩
  rotate_left
  · have HB3 : Hid (Below w.heap.size w W3) := (HX.out W3 (HBB.out.1.trans (hb3.below HBB.out.1.size (by intro i hi; show ¬ i = w1.heap.size; omega)))).2.1
    clear hb3 CL N1
    go_wp2_with fail
    refine Calls.mono (HS.out W3 HB3.out) ?_
    rintro e' W4 ⟨rfl, hb4⟩
    have HB4 : Hid (Below w.heap.size w W4) := HB3.out.trans (hb4.mono HB3.out.size)
    clear hb4
    go_wp2
    go_ret
    exact ⟨rfl, HB4.out⟩
  have HB3 : Hid (Below w1.heap.size w1 W3) := HBB.out.1.trans (hb3.below HBB.out.1.size (by intro i hi; show ¬ i = w1.heap.size; omega))
  have HSM : Hid (T.All Dd.Small ∧ T.size ≤ 600) := ⟨hsm, by omega⟩
  clear hb3 CL N1 hsm hk3
  by_cases hp60 : 60 < pn
  · have dp : decide ((60 : Int) < pn) = true := decide_eq_true (by omega)
    have dp' : decide (60 < pn) = true := decide_eq_true hp60
    go_wp2_with fail
    refine Calls.mono (HS.out W3 (HX.out W3 HB3.out).2.1) ?_
    rintro e' W4 ⟨rfl, hb4⟩
    have HB4 : Hid (Below w.heap.size w W4) := (HX.out W3 HB3.out).2.1.trans (hb4.mono (HX.out W3 HB3.out).2.1.size)
    clear hb4
    go_wp2
    go_ret
    exact ⟨rfl, HB4.out⟩
  have dp : decide ((60 : Int) < pn) = false := decide_eq_false (by omega)
  have dp' : decide (60 < pn) = false := decide_eq_false hp60
  have CX : Hid (Dd.Ctx w xs (Dd.webB T) T.ls (Dd.kkOf T)) := by
    have h := Dd.ctx dd e T V w HT.out.1 HT.out.2.2.2.2.2.2.1 (by have := HSM.out.2; omega) (Ac.all_mono (fun _ h => Dd.fit_of h) T HSM.out.1) HT.out.2.1
    rw [HT.out.2.2.1] at h
    exact h
  obtain ⟨wb, hwb⟩ : ∃ b, Dd.webB T = b := ⟨_, rfl⟩
  rw [hwb] at CX
  obtain ⟨nx3, -, -, -, -⟩ := HX.out W3 HB3.out
  have C1 : Hid (Calls Tryz.prog 11 #[.agg xs] W3 fun e w' => e = .returned (.tuple #[.agg (Dd.row (Dd.startR wb T.ls (Dd.kkOf T)).1), .int .i64 (Dd.startR wb T.ls (Dd.kkOf T)).2]) ∧ Below W3.heap.size W3 w') := CX.out.start W3 (HX.out W3 HB3.out).2.1
  obtain ⟨s0, hs0⟩ : ∃ s, (Dd.startR wb T.ls (Dd.kkOf T)).1 = s := ⟨_, rfl⟩
  obtain ⟨e0, he0⟩ : ∃ s, (Dd.startR wb T.ls (Dd.kkOf T)).2 = s := ⟨_, rfl⟩
  rw [hs0, he0] at C1
  have HW : Hid (Dd.webB T = wb ∧ (Dd.startR wb T.ls (Dd.kkOf T)).1 = s0 ∧ (Dd.startR wb T.ls (Dd.kkOf T)).2 = e0) := ⟨hwb, hs0, he0⟩
  have hs0l : s0.length = 104 := by
    rw [← hs0]
    cases hq : wb with
    | false => exact Dd.zeros_length
    | true =>
      rw [hq] at hwb
      exact (Dd.start_inv (Dd.rw_of hwb).right.web).1.len
  have HS0 : Hid (s0.length = 104) := hs0l
  have i0 := Dd.info_row hs0l
  have o0 := Dd.row_one s0
  have z0 : (Tryz.zeroCells41).size = (Dd.row s0).size := by rw [Dd.zero_row, Dd.row_size, Dd.row_size, hs0l, Dd.zeros_length]
  clear hwb hs0 he0 hs0l hp60
  go_upto_region 3 with fail
  go_wp2_with (refine wpList_load_row rfl 32 _ rfl _ rfl 32 _ (0, 0) _ nx3 ha rfl ia ?_)
  refine Calls.mono C1.out ?_
  rintro e' W4 ⟨rfl, hb4⟩
  have NZ4 : (W4.alloc (.cells Tryz.zeroCells41 41)).heap[W4.heap.size]? = some (.cells Tryz.zeroCells41 41 (0, 0)) := heap_alloc_new W4 _
  obtain ⟨W5, hW5⟩ : ∃ z, (W4.alloc (.cells Tryz.zeroCells41 41)).setRow W4.heap.size (Dd.row s0) = z := ⟨_, rfl⟩
  have A5 : Dd.At W5 W4.heap.size s0 := by rw [← hW5]; exact ⟨setRow_heap _ _ _ _ _ _ NZ4, HS0.out⟩
  have B5 : Below W4.heap.size W4 W5 := by rw [← hW5]; exact Tk.below_row ((Below.refl _ W4).alloc (Nat.le_refl _) _) (Nat.le_refl _) _
  have hb14 : Below w1.heap.size w1 W4 := HB3.out.trans (hb4.mono HB3.out.size)
  obtain ⟨p, hp⟩ : ∃ p, W4.heap.size = p := ⟨_, rfl⟩
  have HP : Hid (W4.heap.size = p) := hp
  have HB5 : Hid (Below w1.heap.size w1 W5 ∧ Dd.At W5 p s0 ∧ w1.heap.size ≤ p) := ⟨hb14.trans (B5.mono hb14.size), by rw [← hp]; exact A5, by have := hb14.size; omega⟩
  have HW5 : Hid _ := hW5
  clear hb4 hb14 hW5 A5 B5 hp C1 nx3
  go_upto_region 4 with (refine wpList_store_row rfl 41 _ _ rfl W4.heap.size (Dd.row s0) rfl rfl 41 _ NZ4 i0 z0 o0 ?_)
  rw [HW5.out, HP.out]
  clear HW5 NZ4 HP i0 o0 z0
  cases wb with
  | false =>
    obtain rfl : e0 = 4 := HW.out.2.2.symm
    go_wp2_with fail
    refine Calls.mono (HS.out W5 (HX.out W5 HB5.out.1).2.1) ?_
    rintro e' W6 ⟨rfl, hb6⟩
    have HB6 : Hid (Below w.heap.size w W6) := (HX.out W5 HB5.out.1).2.1.trans (hb6.mono (HX.out W5 HB5.out.1).2.1.size)
    clear hb6
    go_wp2
    go_ret
    exact ⟨rfl, HB6.out⟩
  | true =>
  obtain rfl : e0 = 0 := HW.out.2.2.symm
  have HRW : Hid (Dd.Rw T) := Dd.rw_of HW.out.1
  have HKL : Hid ((Dd.kkOf T).length = n) := by rw [Dd.kkOf_length]; exact HT.out.2.2.2.1
  have n64 : n ≤ 64 := by have := HRW.out.right.web.k64; have := HKL.out; omega
  have m40 : m ≤ 40 := by have := HRW.out.right.web.l40; have := HT.out.2.2.2.2.1; omega
  have HI0 : Hid (Dd.Inv T.ls (Dd.kkOf T) s0 ∧ Dd.Calm T.ls (Dd.kkOf T) s0 ∧ Dd.cnt n s0 ≤ n) := by
    have h := Dd.start_inv HRW.out.right.web
    have hs : Dd.start T.ls (Dd.kkOf T) = s0 := HW.out.2.1
    rw [hs] at h
    exact ⟨h.1, h.2, Dd.cnt_le _ _⟩
  go_upto_region 6 with fail
  go_wp2_with fail
  go_loopg [7] (n + 1) (fun gk s7 wr => ∃ (q : Nat) (s : List Int), gk + q = n + 1 ∧ s7 = .int .i64 q ∧ Hid (Dd.Inv T.ls (Dd.kkOf T) s ∧ Dd.Calm T.ls (Dd.kkOf T) s ∧ Dd.cnt n s + q ≤ n ∧ Dd.At wr p s ∧ Below w1.heap.size w1 wr))
  case atStart => exact ⟨0, s0, by omega, rfl, HI0.out.1, HI0.out.2.1, HI0.out.2.2, HB5.out.2.1, HB5.out.1⟩
  case round =>
    obtain ⟨q, s, hq, rfl, HJ⟩ := hrel
    obtain ⟨g1, hg1⟩ : ∃ x, gk = x := ⟨_, rfl⟩
    obtain ⟨W6, hW6⟩ : ∃ x, wr = x := ⟨_, rfl⟩
    rw [hg1] at hq
    rw [hW6] at HJ
    rw [hW6]
    by_cases hlt : q < n + 1
    rotate_left
    · exfalso
      have := HJ.out.2.2.1
      omega
    have hd : decide ((q : Int) < (n : Int) + 1) = true := decide_eq_true (by omega)
    obtain ⟨nx6, hbw6, -, c8, c9⟩ := HX.out W6 HJ.out.2.2.2.2
    have NS6 := HJ.out.2.2.2.1.h
    have is6 := Dd.info_row HJ.out.1.len
    obtain ⟨L, hL⟩ : ∃ L, Dd.running n s = L := ⟨_, rfl⟩
    obtain ⟨r, hr⟩ : ∃ r, L.length = r := ⟨_, rfl⟩
    have CR : Hid (Calls Tryz.prog 14 #[.agg xs, .agg (Dd.row s)] W6 fun e w' => Nt.Gives L W6 e w') := by
      have h := CX.out.running W6 s hbw6 HJ.out.1.len
      rw [Dd.run_run HRW.out.right.web HJ.out.1, HKL.out, hL] at h
      exact h
    have HLR : Hid (Dd.running n s = L ∧ L.length = r) := ⟨hL, hr⟩
    have HQ : Hid (g1 + q = n + 1) := hq
    clear hL hr hbw6 hq
    go_wp2_with (first
      | refine wpList_load_row rfl 32 _ rfl _ rfl 32 _ (0, 0) _ nx6 ha rfl ia ?_
      | refine wpList_load_row rfl 41 _ rfl _ rfl 41 (Dd.row s) (0, 0) _ NS6 hu rfl is6 ?_)
    refine Calls.mono CR.out ?_
    rintro e' W7 ⟨v7, rfl, how7, hb7⟩
    rw [HLR.out.2] at how7
    obtain ⟨ra, rc, rfl⟩ := Rk.own_shape how7
    have HB7 : Hid (Dd.At W7 p s ∧ Below w1.heap.size w1 W7) := ⟨HJ.out.2.2.2.1.below hb7 HJ.out.2.2.2.1.lt, HJ.out.2.2.2.2.trans (hb7.mono HJ.out.2.2.2.2.size)⟩
    have HOW : Hid (W7.ownsRow W6.heap.size 3 1 (.slice ra r rc) L.length (Rk.nums L)) := by show World.ownsRow _ _ _ _ _ _ _; rw [HLR.out.2]; exact how7
    obtain ⟨nx7, -, rx7, c8', c9'⟩ := HX.out W7 HB7.out.2
    clear nx6 NS6 is6 CR how7 hb7 c8 c9
    by_cases hr0 : r = 0
    · have e0 : ((r : Int) == 0) = true := by simp [hr0]
      have e0' : (r == 0) = true := by simp [hr0]
      have HE : Hid ((∀ k, k < (Dd.kkOf T).length → 2 ≤ s.getD (40 + k) 0) ∧ ∀ i, i < T.ls.length → s.getD i 0 ≠ 0) := by
        obtain ⟨rk, hf⟩ := HRW.out.right.free
        refine HJ.out.1.ends HRW.out.right.web hf HJ.out.2.1 fun k hk h1 => ?_
        have hmem : k ∈ Dd.running n s := Dd.running_mem.2 ⟨by rw [← HKL.out]; exact hk, h1⟩
        rw [HLR.out.1, List.length_eq_zero_iff.1 (HLR.out.2.trans hr0)] at hmem
        cases hmem
      clear rx7 nx7
      subst hr0
      go_wp2_with fail
      go_loopg [161] n (fun gk s161 wr => ∃ j : Nat, gk + j = n ∧ s161 = .int .i64 j ∧ Hid (Dd.At wr p s ∧ Below w1.heap.size w1 wr))
      case atStart => exact ⟨0, by omega, rfl, HB7.out.1, HB7.out.2⟩
      case round =>
        obtain ⟨j, hj, rfl, HL⟩ := hrel
        clear c8' c9'
        by_cases hlt2 : j < n
        · have hd2 : decide ((j : Int) < n) = true := decide_eq_true (by omega)
          obtain ⟨v, hv⟩ : ∃ v, s.getD (40 + j) 0 = v := ⟨_, rfl⟩
          have k1 := HL.out.1.cell (40 + j) (by omega)
          rw [hv] at k1
          have d1 : decide (v < 2) = false := decide_eq_false (by have := HE.out.1 j (by rw [HKL.out]; exact hlt2); omega)
          have j0 : (0 : Int) ≤ j := by omega
          have j1 : (j : Int) < 64 := by omega
          clear hv
          go_wp2
          go_roundg (gk - 1)
          case measure => omega
          case rel => exact ⟨j + 1, by omega, by go_num, HL.out⟩
        · have hd2 : decide ((j : Int) < n) = false := decide_eq_false (by omega)
          obtain ⟨-, -, -, -, c9''⟩ := HX.out wr HL.out.2
          go_wp2
          go_loopg [173] m (fun gk s173 wr => ∃ j : Nat, gk + j = m ∧ s173 = .int .i64 j ∧ Hid (Dd.At wr p s ∧ Below w1.heap.size w1 wr))
          case atStart => exact ⟨0, by omega, rfl, HL.out.1, HL.out.2⟩
          case round =>
            obtain ⟨j3, hj3, rfl, HM⟩ := hrel
            clear c9''
            by_cases hlt3 : j3 < m
            · have hd3 : decide ((j3 : Int) < m) = true := decide_eq_true (by omega)
              obtain ⟨v, hv⟩ : ∃ v, s.getD j3 0 = v := ⟨_, rfl⟩
              have k1 := HM.out.1.cell j3 (by omega)
              rw [hv] at k1
              have d1 : (v == 0) = false := by have := HE.out.2 j3 (by rw [HT.out.2.2.2.2.1]; exact hlt3); rw [hv] at this; simpa using this
              have j0 : (0 : Int) ≤ j3 := by omega
              have j1 : (j3 : Int) < 40 := by omega
              clear hv
              go_wp2
              go_roundg (gk - 1)
              case measure => omega
              case rel => exact ⟨j3 + 1, by omega, by go_num, HM.out⟩
            · have hd3 : decide ((j3 : Int) < m) = false := decide_eq_false (by omega)
              have HB8 : Hid (Below w.heap.size w wr) := (HX.out wr HM.out.2).2.1
              go_wp2_with fail
              refine Calls.mono (HS.out _ HB8.out) ?_
              rintro e' W9 ⟨rfl, hb9⟩
              have HB9 : Hid (Below w.heap.size w W9) := HB8.out.trans (hb9.mono HB8.out.size)
              clear hb9
              go_wp2
              go_ret
              exact ⟨rfl, HB9.out⟩
    have e0 : ((r : Int) == 0) = false := by simpa using hr0
    have e0' : (r == 0) = false := by simpa using hr0
    have hr1 : 0 < r := by omega
    go_upto_region 12 with fail
    go_cut [62] from 37 to 157 (fun s62 wx => ∃ b : Bool, s62 = .bool b ∧ Hid (b = true → ∃ hq : q < ps.length, 0 ≤ ps[q]) ∧ wx = W7)
    case first =>
      by_cases hqp : q < pn
      · have dq : decide ((q : Int) < pn) = true := decide_eq_true (by omega)
        have dq' : decide (q < pn) = true := decide_eq_true hqp
        have hql : q < ps.length := by rw [HPI.out.2]; exact hqp
        obtain ⟨g, off, rfl, hg, z0⟩ := HPI.out.1 q hql
        obtain ⟨x, hx⟩ : ∃ x, ps[q] = x := ⟨_, rfl⟩
        rw [hx] at z0
        have z1 : W7.cell? ⟨g, off + q, none⟩ = some (.int .i64 x) := by rw [(HX.out W7 HB7.out.2).2.1.cell (p := ⟨g, off + q, none⟩) hg]; exact z0
        have q0 : (0 : Int) ≤ q := by omega
        have q1 : (q : Int) < pn := by omega
        by_cases hx0 : 0 ≤ x
        · have dx : decide (0 ≤ x) = true := decide_eq_true hx0
          have HY : Hid (∃ hq : q < ps.length, 0 ≤ ps[q]) := ⟨hql, by rw [hx]; exact hx0⟩
          clear hx z0 hx0 hql hg
          go_wp2_with fail
          go_meet
          exact ⟨true, rfl, fun _ => HY.out, rfl⟩
        · have dx : decide (0 ≤ x) = false := decide_eq_false hx0
          clear hx z0 hx0 hql hg
          go_wp2_with fail
          go_meet
          exact ⟨false, rfl, (fun h => by cases h), rfl⟩
      · have dq : decide ((q : Int) < pn) = false := decide_eq_false (by omega)
        have dq' : decide (q < pn) = false := decide_eq_false hqp
        go_wp2_with fail
        go_meet
        exact ⟨false, rfl, (fun h => by cases h), rfl⟩
    case rest =>
      rename World => WC
      obtain ⟨b62, rfl, HB62, hwc⟩ := hcut
      obtain rfl := hwc
      go_upto_if 62 with fail
      go_cut [9] from 37 to 157 (fun s9 wx => ∃ P : Nat, s9 = .int .i64 P ∧ wx = WC)
      case first =>
        cases b62 with
        | false =>
          go_wp2_with fail
          go_meet
          exact ⟨q, rfl, rfl⟩
        | true =>
          obtain ⟨hql, hx0⟩ := HB62.out rfl
          obtain ⟨g, off, rfl, hg, z0⟩ := HPI.out.1 q hql
          obtain ⟨x, hx⟩ : ∃ x, ps[q] = x := ⟨_, rfl⟩
          rw [hx] at z0 hx0
          obtain ⟨P, rfl⟩ : ∃ P : Nat, x = P := ⟨x.toNat, by omega⟩
          have z1 : WC.cell? ⟨g, off + q, none⟩ = some (.int .i64 P) := by rw [(HX.out WC HB7.out.2).2.1.cell (p := ⟨g, off + q, none⟩) hg]; exact z0
          have q0 : (0 : Int) ≤ q := by omega
          have q1 : (q : Int) < pn := by have := HPI.out.2; omega
          clear hx z0 hx0 hql hg
          go_wp2_with fail
          go_meet
          exact ⟨P, rfl, rfl⟩
      case rest =>
        rename World => WD
        obtain ⟨P, rfl, hwd⟩ := hcut
        obtain rfl := hwd
        have hPr : P % r < r := Nat.mod_lt _ hr1
        have hPL : P % r < L.length := by rw [HLR.out.2]; exact hPr
        obtain ⟨g7, off7, rfl, hg7, z7⟩ := Dd.own_at HOW.out (P % r) hPL
        obtain ⟨i, hi⟩ : ∃ i, L[P % r] = i := ⟨_, rfl⟩
        rw [hi] at z7
        have HI : Hid (i < n ∧ s.getD (40 + i) 0 = 1) := by
          refine Dd.running_mem.1 ?_
          rw [HLR.out.1, ← hi]
          exact List.getElem_mem _
        obtain ⟨k, hk⟩ : ∃ k, P % r = k := ⟨_, rfl⟩
        have hmod : Int.tmod (P : Int) (r : Int) = (k : Int) := by rw [← hk]; rfl
        rw [hk] at hPr z7
        have k0 : (0 : Int) ≤ k := by omega
        have k1 : (k : Int) < r := by omega
        have hrne : ¬ (r : Int) = 0 := by omega
        clear hPL hi hg7 hk
        have hik : i < (Dd.kkOf T).length := by rw [HKL.out]; exact HI.out.1
        obtain ⟨gk7, ok7, rfl, hgk, y0, y2⟩ := HT.out.2.2.2.2.2.1 i hik
        have hil : i < T.ks.length := by rw [HT.out.2.2.2.1]; exact HI.out.1
        obtain ⟨X, hX⟩ : ∃ X, T.ks[i] = X := ⟨_, rfl⟩
        have hkX : (Dd.kkOf T)[i] = (X.kind, X.a) := by rw [← hX]; simp [Dd.kkOf]
        rw [hkX] at y0 y2
        obtain ⟨K, hK⟩ : ∃ K, X.kind = K := ⟨_, rfl⟩
        have hgate : Dd.gateB (Dd.kkOf T) i = decide (K = 12) := by rw [Dd.gateB_kk T i hil, hX, hK]
        rw [hK] at y0
        have HKK : Hid (Dd.gateB (Dd.kkOf T) i = decide (K = 12) ∧ X.kind = K ∧ i < (Dd.kkOf T).length ∧ gk7 < w.heap.size ∧ w.cell? ⟨gk7, ok7 + i * 12, none⟩ = some (.int .i64 K)) := ⟨hgate, hK, hik, hgk, y0⟩
        have HXX : Hid (∃ h : i < T.ks.length, T.ks[i] = X) := ⟨hil, hX⟩
        have i0 : (0 : Int) ≤ i := by omega
        have i1 : (i : Int) < n := by have := HI.out.1; omega
        obtain ⟨t1, ht1⟩ : ∃ t, (Dd.finR true T.ls (Dd.kkOf T) s i).1 = t := ⟨_, rfl⟩
        obtain ⟨f1, hf1⟩ : ∃ t, (Dd.finR true T.ls (Dd.kkOf T) s i).2 = t := ⟨_, rfl⟩
        have HFN : Hid (if K = 12 then t1 = Dd.zeros ∧ f1 = 6 else Dd.After T.ls (Dd.kkOf T) s i t1 ∧ f1 = 0) := by
          have h := Dd.fin_run HRW.out.right.web HJ.out.1 hik HI.out.2
          rw [hgate] at h
          by_cases hK12 : K = 12
          · rw [if_pos (decide_eq_true hK12)] at h
            rw [h] at ht1 hf1
            show if _ then _ else _
            rw [if_pos hK12]
            exact ⟨ht1.symm, hf1.symm⟩
          · rw [if_neg (by simpa using hK12)] at h
            rw [h] at ht1 hf1
            show if _ then _ else _
            rw [if_neg hK12, ← ht1, ← hf1]
            exact ⟨Dd.After.finish HRW.out.right.web HJ.out.1 hik HI.out.2, rfl⟩
        have ht1l : t1.length = 104 := by
          have h := HFN.out
          split at h
          · rw [h.1]; exact Dd.zeros_length
          · exact h.1.inv.len
        have CF : Hid (Calls Tryz.prog 17 #[.agg xs, .agg (Dd.row s), .int .i64 i] WD fun e w' => e = .returned (.tuple #[.agg (Dd.row t1), .int .i64 f1]) ∧ Below WD.heap.size WD w') := by
          have h := CX.out.finish WD s i (HX.out WD HB7.out.2).2.1 HJ.out.1.len
          unfold Dd.two at h
          rw [ht1, hf1] at h
          exact h
        have NS7 := HB7.out.1.h
        have is7 := Dd.info_row HJ.out.1.len
        have it1 := Dd.info_row ht1l
        have ot1 := Dd.row_one t1
        have zt1 : (Tryz.zeroCells41).size = (Dd.row t1).size := by rw [Dd.zero_row, Dd.row_size, Dd.row_size, ht1l, Dd.zeros_length]
        have HT1 : Hid (t1.length = 104) := ht1l
        clear hkX hX hK hgate hik hil hgk y0 y2 ht1 hf1 ht1l
        go_upto_region 15 with fail
        go_wp2_with (first
          | refine wpList_load_row rfl 32 _ rfl _ rfl 32 _ (0, 0) _ nx7 ha rfl ia ?_
          | refine wpList_load_row rfl 41 _ rfl _ rfl 41 (Dd.row s) (0, 0) _ NS7 hu rfl is7 ?_)
        refine Calls.mono CF.out ?_
        rintro e' W8 ⟨rfl, hb8⟩
        have NZ8 : (W8.alloc (.cells Tryz.zeroCells41 41)).heap[W8.heap.size]? = some (.cells Tryz.zeroCells41 41 (0, 0)) := heap_alloc_new W8 _
        obtain ⟨W9, hW9⟩ : ∃ z, (W8.alloc (.cells Tryz.zeroCells41 41)).setRow W8.heap.size (Dd.row t1) = z := ⟨_, rfl⟩
        have A9 : Dd.At W9 W8.heap.size t1 := by rw [← hW9]; exact ⟨setRow_heap _ _ _ _ _ _ NZ8, HT1.out⟩
        have B9 : Below W8.heap.size W8 W9 := by rw [← hW9]; exact Tk.below_row ((Below.refl _ W8).alloc (Nat.le_refl _) _) (Nat.le_refl _) _
        have B79 : Below WD.heap.size WD W9 := hb8.trans (B9.mono hb8.size)
        obtain ⟨u, hu8⟩ : ∃ u, W8.heap.size = u := ⟨_, rfl⟩
        have HU8 : Hid (W8.heap.size = u) := hu8
        have HB9 : Hid (Below w1.heap.size w1 W9 ∧ Dd.At W9 p s ∧ Dd.At W9 u t1 ∧ p ≠ u ∧ w1.heap.size ≤ p ∧ w1.heap.size ≤ u) := by
          have h1 := HB7.out.1.lt
          have h2 := hb8.size
          have h3 := HB7.out.2.size
          have h4 := HB5.out.2.2
          exact ⟨HB7.out.2.trans (B79.mono HB7.out.2.size), HB7.out.1.below B79 HB7.out.1.lt, by rw [← hu8]; exact A9, by omega, h4, by omega⟩
        have HW9 : Hid _ := hW9
        clear hb8 hW9 A9 B9 B79 hu8 nx7 NS7 CF rx7 c8' c9' z7 HOW
        go_upto_region 16 with (refine wpList_store_row rfl 41 _ _ rfl W8.heap.size (Dd.row t1) rfl rfl 41 _ NZ8 it1 zt1 ot1 ?_)
        rw [HW9.out, HU8.out]
        clear HW9 NZ8 HU8 it1 zt1 ot1
        obtain ⟨nx9, hbw9, rx9, d8, d9⟩ := HX.out W9 HB9.out.1
        have yk : W9.cell? ⟨gk7, ok7 + i * 12, none⟩ = some (.int .i64 K) := by rw [hbw9.cell (p := ⟨gk7, ok7 + i * 12, none⟩) HKK.out.2.2.2.1]; exact HKK.out.2.2.2.2
        clear nx9 hbw9 rx9 d9
        go_cut [87] from 37 to 157 (fun s87 wx => ∃ b : Bool, s87 = .bool b ∧ Hid (b = decide (K = 12)) ∧ wx = W9)
        case first =>
          by_cases hK12 : K = 12
          · have eK : (K == 12) = true := by simp [hK12]
            have HY : Hid (true = decide (K = 12)) := (decide_eq_true hK12).symm
            clear hK12
            go_wp2_with fail
            go_meet
            exact ⟨true, rfl, HY.out, rfl⟩
          · have eK : (K == 12) = false := by simpa using hK12
            have HY : Hid (false = decide (K = 12)) := (decide_eq_false hK12).symm
            clear hK12
            go_wp2_with fail
            go_meet
            exact ⟨false, rfl, HY.out, rfl⟩
        case rest =>
          rename World => WE
          obtain ⟨b87, rfl, HB87, hwe⟩ := hcut
          obtain rfl := hwe
          go_upto_if 87 with fail
          go_cut [12] from 37 to 157 (fun s12 wx => ∃ t : List Int, s12 = .int .i64 0 ∧ Hid (Dd.After T.ls (Dd.kkOf T) s i t ∧ Dd.At wx u t ∧ Dd.At wx p s ∧ Below w1.heap.size w1 wx))
          case first =>
            cases b87 with
            | false =>
              have hK12 : ¬ K = 12 := of_decide_eq_false HB87.out.symm
              have HAF : Hid (Dd.After T.ls (Dd.kkOf T) s i t1 ∧ f1 = 0) := by
                have h := HFN.out
                rw [if_neg hK12] at h
                exact h
              clear hK12 HFN
              obtain rfl : f1 = 0 := HAF.out.2
              go_wp2_with fail
              go_meet
              exact ⟨t1, rfl, HAF.out.1, HB9.out.2.2.1, HB9.out.2.1, HB9.out.1⟩
            | true =>
              have hK12 : K = 12 := of_decide_eq_true HB87.out.symm
              have hgt : Dd.gateB (Dd.kkOf T) i = true := by rw [HKK.out.1]; exact decide_eq_true hK12
              obtain ⟨hil, hX⟩ := HXX.out
              have hA3 : X.a = 3 := by
                have h := HJ.out.1.gt i HI.out.2
                by_cases q : X.a = 3
                · exact q
                · exact absurd ⟨hgt, by rw [Dd.doesI_kk T i hil, hX]; exact q⟩ h
              obtain ⟨cn, hcn⟩ : ∃ c, X.cs.length = c := ⟨_, rfl⟩
              have hcn2 : 2 ≤ cn := by
                have h := HRW.out.gate i hil (by rw [hX]; exact HKK.out.2.1.trans hK12) (by rw [hX]; exact hA3)
                rw [hX, hcn] at h
                exact h
              have hcnt : (T.ls.countP fun x => decide (x.1 = (i : Int))) = cn := by
                have h := HRW.out.right.outs i hil (by rw [hX]; exact HKK.out.2.1.trans hK12) (by rw [hX]; exact hA3)
                rw [hX, hcn] at h
                exact h
              have hcn40 : cn ≤ 40 := by
                have h := List.countP_le_length (p := fun x : Int × Int => decide (x.1 = (i : Int))) (l := T.ls)
                have := HT.out.2.2.2.2.1
                omega
              obtain ⟨o, ho⟩ : ∃ o, P % cn = o := ⟨_, rfl⟩
              have hol : o < cn := by rw [← ho]; exact Nat.mod_lt _ (by omega)
              obtain ⟨c, hc1, hc2⟩ := Dd.cho_run HRW.out.right.web HJ.out.1 HKK.out.2.2.1 HI.out.2 hgt (o := o) (by rw [hcnt]; exact hol)
              obtain ⟨t2, ht2⟩ : ∃ t, Dd.chose T.ls (Dd.kkOf T) s i c = t := ⟨_, rfl⟩
              have haf := Dd.After.choose HRW.out.right.web HJ.out.1 HKK.out.2.2.1 HI.out.2 hgt hc1
              rw [ht2] at haf hc2
              have HT2 : Hid (Dd.After T.ls (Dd.kkOf T) s i t2 ∧ t2.length = 104) := ⟨haf, haf.inv.len⟩
              have CC : Hid (∀ W, Below w1.heap.size w1 W → Calls Tryz.prog 23 #[.agg xs, .agg (Dd.row s), .int .i64 i, .int .i64 o] W fun e w' => e = .returned (.tuple #[.agg (Dd.row t2), .int .i64 0]) ∧ Below W.heap.size W w') := fun W hb => by
                have h := CX.out.choose W s i o (HX.out W hb).2.1 HJ.out.1.len (by omega) (by omega)
                rw [hc2] at h
                exact h
              have hkd : ∃ ca cc, w.cell? ⟨gk7, ok7 + i * 12 + 7, none⟩ = some (.slice ca cn cc) := by
                have hl := HT.out.1
                cases dd with
                | zero => exact hl.elim
                | succ dd =>
                  obtain ⟨g', off', U, h1, h2, h3, h4⟩ := hl.kid HT.out.2.2.2.2.2.2.2 i hil
                  obtain ⟨rfl, rfl⟩ : gk7 = g' ∧ ok7 = off' := by simpa using h1
                  obtain ⟨ca, cc, hvc, _⟩ := h4.own.c
                  rw [hX, hcn] at hvc
                  have h7 := h3 7 (by simp [Ac.row])
                  rw [h7]
                  exact ⟨ca, cc, by rw [← hvc]; simp [Ac.row]⟩
              obtain ⟨ca, cc, hkc⟩ := hkd
              have HSS : Hid (∀ W, (Below w1.heap.size w1 W ∧ Dd.At W p s) → (W.rangeAt w.heap.size 0 xs.toList ∧ W.rangeAt p 0 (Dd.ints s) ∧ W.cell? ⟨w.heap.size, 8, none⟩ = some (.slice (some ⟨gk7, ok7, none⟩) n kc) ∧ W.cell? ⟨gk7, ok7 + i * 12 + 7, none⟩ = some (.slice ca cn cc))) := fun W h => by
                have hx := HX.out W h.1
                exact ⟨hx.2.2.1, Dd.range_st h.2, hx.2.2.2.1, by rw [hx.2.1.cell (p := ⟨gk7, ok7 + i * 12 + 7, none⟩) HKK.out.2.2.2.1]; exact hkc⟩
              have jl : (Tryz.prog.info? 41).map (·.size) = some (Dd.ints s).length := Dd.ints_len HJ.out.1.len
              have it2 := Dd.info_row haf.inv.len
              have ot2 := Dd.row_one t2
              have ez2 : (Dd.row t1).size = (Dd.row t2).size := by rw [Dd.row_size, Dd.row_size, haf.inv.len, HT1.out]
              have hmod2 : Int.tmod (P : Int) (cn : Int) = (o : Int) := by rw [← ho]; rfl
              have hcne : ¬ cn = 0 := by omega
              have HD9 : Hid (Below w1.heap.size w1 WE.drew ∧ Dd.At WE.drew p s ∧ Dd.At WE.drew u t1) := ⟨HB9.out.1.drew, ⟨HB9.out.2.1.h, HB9.out.2.1.len⟩, ⟨HB9.out.2.2.1.h, HB9.out.2.2.1.len⟩⟩
              clear hK12 hgt hX hA3 hcn hcnt ho hol hc1 hc2 ht2 haf hkc HFN
              go_upto_region 17 with fail
              refine wp_region_held_drew (S := (fun V => V.rangeAt w.heap.size 0 xs.toList ∧ V.rangeAt p 0 (Dd.ints s) ∧ V.cell? ⟨w.heap.size, 8, none⟩ = some (.slice (some ⟨gk7, ok7, none⟩) n kc) ∧ V.cell? ⟨gk7, ok7 + i * 12 + 7, none⟩ = some (.slice ca cn cc))) (by kernel_rfl) ?_ (fun hHeld => ?_)
              · exact HSS.out _ ⟨HD9.out.1, HD9.out.2.1⟩
              refine Nt.takeS (v := .agg xs) 0 89 rfl rfl (by kernel_rfl) (by kernel_rfl) (by kernel_rfl) (fun _ _ _ h => h) (yieldsIf_load_mid (by rfl) 32 _ rfl w.heap.size 0 rfl xs.toList _ (fun _ hw => hw.1) ha rfl ial) hHeld ?_
              simp only [List.set_cons_succ, List.set_cons_zero]
              refine Nt.takeS (v := .agg (Dd.row s)) 1 90 rfl rfl (by kernel_rfl) (by kernel_rfl) (by kernel_rfl) (fun _ _ _ h => h) (yieldsIf_load_mid (by rfl) 41 _ rfl p 0 rfl (Dd.ints s) _ (fun _ hw => hw.2.1) hu rfl jl) hHeld ?_
              simp only [List.set_cons_succ, List.set_cons_zero]
              refine Nt.takeS (v := ?vb2) 2 91 rfl rfl (by kernel_rfl) (by kernel_rfl) (by kernel_rfl) (fun _ _ _ h => h) (Or.inl ⟨by rfl, ?yb2⟩) hHeld ?rb2
              case yb2 => (intro w hSw; (try dsimp only at hSw); go_simp; all_goals (with_reducible rfl))
              simp only [List.set_cons_succ, List.set_cons_zero]
              refine Nt.takeS (v := ?vb3) 3 92 rfl rfl (by kernel_rfl) (by kernel_rfl) (by kernel_rfl) (fun _ _ _ h => h) (Or.inl ⟨by rfl, ?yb3⟩) hHeld ?rb3
              case yb3 => (intro w hSw; (try dsimp only at hSw); go_simp; all_goals (with_reducible rfl))
              simp only [List.set_cons_succ, List.set_cons_zero]
              refine Nt.takeS (v := ?vb4) 4 93 rfl rfl (by kernel_rfl) (by kernel_rfl) (by kernel_rfl) (fun _ _ _ h => h) (Or.inl ⟨by rfl, ?yb4⟩) hHeld ?rb4
              case yb4 => (intro w hSw; (try dsimp only at hSw); go_simp; all_goals (with_reducible rfl))
              simp only [List.set_cons_succ, List.set_cons_zero]
              refine Nt.takeS (v := ?vb5) 5 94 rfl rfl (by kernel_rfl) (by kernel_rfl) (by kernel_rfl) (fun _ _ _ h => h) (Or.inl ⟨by rfl, ?yb5⟩) hHeld ?rb5
              case yb5 => (intro w hSw; (try dsimp only at hSw); go_simp; all_goals (with_reducible rfl))
              simp only [List.set_cons_succ, List.set_cons_zero]
              refine Nt.takeS (v := ?vb6) 6 95 rfl rfl (by kernel_rfl) (by kernel_rfl) (by kernel_rfl) (fun _ _ _ h => h) (Or.inl ⟨by rfl, ?yb6⟩) hHeld ?rb6
              case yb6 => (intro w hSw; (try dsimp only at hSw); go_simp; all_goals (with_reducible rfl))
              simp only [List.set_cons_succ, List.set_cons_zero]
              refine Nt.takeS (v := ?vb7) 7 96 rfl rfl (by kernel_rfl) (by kernel_rfl) (by kernel_rfl) (fun _ _ _ h => h) (Or.inl ⟨by rfl, ?yb7⟩) hHeld ?rb7
              case yb7 => (intro w hSw; (try dsimp only at hSw); go_simp; all_goals (with_reducible rfl))
              simp only [List.set_cons_succ, List.set_cons_zero]
              refine Nt.takeS (v := ?vb8) 8 97 rfl rfl (by kernel_rfl) (by kernel_rfl) (by kernel_rfl) (fun _ _ _ h => h) (Or.inl ⟨by rfl, ?yb8⟩) hHeld ?rb8
              case yb8 => (intro w hSw; (try dsimp only at hSw); go_simp; all_goals (with_reducible rfl))
              simp only [List.set_cons_succ, List.set_cons_zero]
              refine Nt.takeS (v := ?vb9) 9 98 rfl rfl (by kernel_rfl) (by kernel_rfl) (by kernel_rfl) (fun _ _ _ h => h) (Or.inl ⟨by rfl, ?yb9⟩) hHeld ?rb9
              case yb9 => (intro w hSw; (try dsimp only at hSw); go_simp; all_goals (with_reducible rfl))
              simp only [List.set_cons_succ, List.set_cons_zero]
              refine Nt.takeS (v := ?vb10) 10 99 rfl rfl (by kernel_rfl) (by kernel_rfl) (by kernel_rfl) (fun _ _ _ h => h) (Or.inl ⟨by rfl, ?yb10⟩) hHeld ?rb10
              case yb10 => (intro w hSw; (try dsimp only at hSw); go_simp; all_goals (with_reducible rfl))
              simp only [List.set_cons_succ, List.set_cons_zero]
              refine Nt.takeS (v := ?vb11) 11 100 rfl rfl (by kernel_rfl) (by kernel_rfl) (by kernel_rfl) (fun _ _ _ h => h) (Or.inl ⟨by rfl, ?yb11⟩) hHeld ?rb11
              case yb11 => (intro w hSw; (try dsimp only at hSw); go_simp; all_goals (with_reducible rfl))
              simp only [List.set_cons_succ, List.set_cons_zero]
              refine wpAnyH_ready (rs := [12]) (by kernel_rfl) (by simp) ?_
              refine AllReadyH.cons rfl (fun K hK => ?_) AllReadyH.nil
              go_simp
              go_at_call 23
              refine Calls.mono (CC.out _ HD9.out.1) ?_
              rintro e' WA ⟨rfl, hbA⟩
              have HDA : Hid (Below w1.heap.size w1 WA ∧ Dd.At WA p s ∧ Dd.At WA u t1) := ⟨HD9.out.1.trans (hbA.mono HD9.out.1.size), HD9.out.2.1.below hbA HD9.out.2.1.lt, HD9.out.2.2.below hbA HD9.out.2.2.lt⟩
              clear hbA
              go_wp2_with fail
              refine hK.out _ _ ?_ (fun hH12 => ?_)
              · exact HSS.out _ ⟨HDA.out.1, HDA.out.2.1⟩
              clear hK K
              first | refine Nt.normS 101 rfl ?_ | skip
              first | (simp only [List.set_cons_succ, List.set_cons_zero]) | skip
              refine Nt.takeS (v := ?vc13) 13 88 rfl rfl (by kernel_rfl) (by kernel_rfl) (by kernel_rfl) (fun _ _ _ h => h) (Or.inl ⟨by rfl, ?yc13⟩) hH12 ?rc13
              case yc13 => (intro w hSw; (try dsimp only at hSw); go_simp; all_goals (with_reducible rfl))
              simp only [List.set_cons_succ, List.set_cons_zero]
              refine Nt.takeS (v := ?vc14) 14 102 rfl rfl (by kernel_rfl) (by kernel_rfl) (by kernel_rfl) (fun _ _ _ h => h) (Or.inl ⟨by rfl, ?yc14⟩) hH12 ?rc14
              case yc14 => (intro w hSw; (try dsimp only at hSw); go_simp; all_goals (with_reducible rfl))
              simp only [List.set_cons_succ, List.set_cons_zero]
              refine Nt.takeS (v := ?vc15) 15 103 rfl rfl (by kernel_rfl) (by kernel_rfl) (by kernel_rfl) (fun _ _ _ h => h) (Or.inl ⟨by rfl, ?yc15⟩) hH12 ?rc15
              case yc15 => (intro w hSw; (try dsimp only at hSw); go_simp; all_goals (with_reducible rfl))
              simp only [List.set_cons_succ, List.set_cons_zero]
              refine wpAnyH_ready (rs := [16]) (by kernel_rfl) (by simp) ?_
              refine AllReadyH.cons rfl (fun K hK => ?_) AllReadyH.nil
              have NRA := HDA.out.2.2.h
              refine Dd.step_row rfl 41 _ _ rfl u (Dd.row t2) rfl rfl 41 _ NRA it2 ez2 ot2 ?_
              refine hK.out _ _ ?_ (fun hH16 => ?_)
              · exact HSS.out _ ⟨Tk.below_row HDA.out.1 HB9.out.2.2.2.2.2 _, HDA.out.2.1.keep (setRow_other _ _ _ _ HB9.out.2.2.2.1)⟩
              clear hK K
              refine Nt.takeS (v := ?vc17) 17 12 rfl rfl (by kernel_rfl) (by kernel_rfl) (by kernel_rfl) (fun _ _ _ h => h) (Or.inl ⟨by rfl, ?yc17⟩) hH16 ?rc17
              case yc17 => (intro w hSw; (try dsimp only at hSw); go_simp; all_goals (with_reducible rfl))
              simp only [List.set_cons_succ, List.set_cons_zero]
              refine wpAnyH_done (by kernel_rfl) ?_ _
              go_wp2_with fail
              have HDF : Hid (Dd.At (WA.setRow u (Dd.row t2)) u t2 ∧ Dd.At (WA.setRow u (Dd.row t2)) p s ∧ Below w1.heap.size w1 (WA.setRow u (Dd.row t2))) := ⟨HDA.out.2.2.setRow HT2.out.2, HDA.out.2.1.keep (setRow_other _ _ _ _ HB9.out.2.2.2.1), Tk.below_row HDA.out.1 HB9.out.2.2.2.2.2 _⟩
              go_meet
              exact ⟨t2, rfl, HT2.out.1, HDF.out.1, HDF.out.2.1, HDF.out.2.2⟩
          case rest =>
            rename World => WF
            obtain ⟨t, rfl, HAT⟩ := hcut
            have NL := Dd.range_lks HAT.out.2.2.1
            have ul := Tryz.underlying38
            have il40 : (Tryz.prog.info? 38).map (·.size) = some (Dd.lks s).length := by rw [Dd.lks_len HJ.out.1.len]; exact Dd.info40
            go_wp2_with (refine wpList_load_mid rfl 38 _ rfl p 0 rfl (Dd.lks s) _ NL ul rfl il40 ?_)
            clear NL
            go_loopg [108] 40 (fun gk s108 wr => ∃ j : Nat, gk + j = 40 ∧ s108 = .int .i64 j ∧ Hid (Dd.At wr u t ∧ Dd.At wr p s ∧ Below w1.heap.size w1 wr))
            case atStart => exact ⟨0, by omega, rfl, HAT.out.2⟩
            case round =>
              obtain ⟨j, hj, rfl, HL⟩ := hrel
              by_cases hlt2 : j < 40
              · have hd2 : decide ((j : Int) < 40) = true := decide_eq_true (by omega)
                obtain ⟨y, hy⟩ : ∃ y, s.getD j 0 = y := ⟨_, rfl⟩
                have I0 : ∀ W : World, (Instr.index 38 (.agg (Dd.lks s).toArray) (.int .i64 j)).run Tryz.prog W = .ok (.int .i64 y) W := Dd.index40 _ j y hlt2 (by rw [← hy]; exact Dd.lks_get HJ.out.1.len j hlt2)
                have j0 : (0 : Int) ≤ j := by omega
                have j1 : (j : Int) < 40 := by omega
                by_cases hy0 : y = 0
                · have e1 : (y != 0) = false := by simp [hy0]
                  clear hy hy0
                  go_wp2
                  go_roundg (gk - 1)
                  case measure => omega
                  case rel => exact ⟨j + 1, by omega, by go_num, HL.out⟩
                · have e1 : (y != 0) = true := by simpa using hy0
                  have k1 := HL.out.1.cell j (by omega)
                  rw [HAT.out.1.l j hlt2 (by rw [hy]; exact hy0), hy] at k1
                  have e2 : (y != y) = false := by simp
                  clear hy hy0
                  go_wp2
                  go_roundg (gk - 1)
                  case measure => omega
                  case rel => exact ⟨j + 1, by omega, by go_num, HL.out⟩
              · have hd2 : decide ((j : Int) < 40) = false := decide_eq_false (by omega)
                have NK := Dd.range_kds HL.out.2.1
                have uk := Tryz.underlying39
                have il64 : (Tryz.prog.info? 39).map (·.size) = some (Dd.kds s).length := by rw [Dd.kds_len HJ.out.1.len]; exact Dd.info64
                go_wp2_with (refine wpList_load_mid rfl 39 _ rfl p 40 rfl (Dd.kds s) _ NK uk rfl il64 ?_)
                clear NK
                go_loopg [125] 64 (fun gk s125 wr => ∃ j : Nat, gk + j = 64 ∧ s125 = .int .i64 j ∧ Hid (Dd.At wr u t ∧ Dd.At wr p s ∧ Below w1.heap.size w1 wr))
                case atStart => exact ⟨0, by omega, rfl, HL.out⟩
                case round =>
                  obtain ⟨j3, hj3, rfl, HM⟩ := hrel
                  by_cases hlt3 : j3 < 64
                  · have hd3 : decide ((j3 : Int) < 64) = true := decide_eq_true (by omega)
                    obtain ⟨y, hy⟩ : ∃ y, s.getD (40 + j3) 0 = y := ⟨_, rfl⟩
                    have I0 : ∀ W : World, (Instr.index 39 (.agg (Dd.kds s).toArray) (.int .i64 j3)).run Tryz.prog W = .ok (.int .i64 y) W := Dd.index64 _ j3 y hlt3 (by rw [← hy]; exact Dd.kds_get HJ.out.1.len j3 hlt3)
                    have j0 : (0 : Int) ≤ j3 := by omega
                    have j1 : (j3 : Int) < 64 := by omega
                    by_cases hy2 : 2 ≤ y
                    · have e1 : decide (2 ≤ y) = true := decide_eq_true hy2
                      have hne : j3 ≠ i := by rintro rfl; have := HI.out.2; omega
                      have k1 := HM.out.1.cell (40 + j3) (by omega)
                      rw [HAT.out.1.k j3 hlt3 hne (by omega), hy] at k1
                      have e2 : (y != y) = false := by simp
                      have e3 : (y == 1) = false := by simp; omega
                      clear hy hne
                      go_wp2
                      go_roundg (gk - 1)
                      case measure => omega
                      case rel => exact ⟨j3 + 1, by omega, by go_num, HM.out⟩
                    · have e1 : decide (2 ≤ y) = false := decide_eq_false hy2
                      by_cases hy1 : y = 1
                      · subst hy1
                        by_cases hji : j3 = i
                        · subst hji
                          have k1 := HM.out.1.cell (40 + j3) (by omega)
                          rw [HAT.out.1.self] at k1
                          clear hy
                          go_wp2
                          go_roundg (gk - 1)
                          case measure => omega
                          case rel => exact ⟨j3 + 1, by omega, by go_num, HM.out⟩
                        · have k1 := HM.out.1.cell (40 + j3) (by omega)
                          rw [HAT.out.1.k j3 hlt3 hji (by omega), hy] at k1
                          clear hy
                          go_wp2
                          go_roundg (gk - 1)
                          case measure => omega
                          case rel => exact ⟨j3 + 1, by omega, by go_num, HM.out⟩
                      · have e3 : (y == 1) = false := by simpa using hy1
                        clear hy
                        go_wp2
                        go_roundg (gk - 1)
                        case measure => omega
                        case rel => exact ⟨j3 + 1, by omega, by go_num, HM.out⟩
                  · have hd3 : decide ((j3 : Int) < 64) = false := decide_eq_false (by omega)
                    have NU := HM.out.1.h
                    have NP := HM.out.2.1.h
                    have it := Dd.info_row HAT.out.1.inv.len
                    have ot := Dd.row_one t
                    have ez : (Dd.row s).size = (Dd.row t).size := by rw [Dd.row_size, Dd.row_size, HAT.out.1.inv.len, HJ.out.1.len]
                    have HN : Hid (Dd.Inv T.ls (Dd.kkOf T) t ∧ Dd.Calm T.ls (Dd.kkOf T) t ∧ Dd.cnt n t + (q + 1) ≤ n ∧ Dd.At (wr.setRow p (Dd.row t)) p t ∧ Below w1.heap.size w1 (wr.setRow p (Dd.row t))) := by
                      have h1 := HAT.out.1.cnt HRW.out.right.web HKK.out.2.2.1 HI.out.2
                      rw [HKL.out] at h1
                      have h2 := HJ.out.2.2.1
                      exact ⟨HAT.out.1.inv, HAT.out.1.calm, by omega, HM.out.2.1.setRow HAT.out.1.inv.len, Tk.below_row HM.out.2.2 HB9.out.2.2.2.2.1 _⟩
                    go_wp2_with (first
                      | refine wpList_load_row rfl 41 _ rfl _ rfl 41 (Dd.row t) (0, 0) _ NU hu rfl it ?_
                      | refine wpList_store_row rfl 41 _ _ rfl p (Dd.row t) rfl rfl 41 _ NP it ez ot ?_)
                    go_roundg (g1 - 1)
                    case measure => have := HQ.out; omega
                    case rel => exact ⟨q + 1, t, by have := HQ.out; omega, by go_num, HN.out⟩
end Go.Proofs.YtdghjgiakblfmaaGreatDoor.DeadEnds
