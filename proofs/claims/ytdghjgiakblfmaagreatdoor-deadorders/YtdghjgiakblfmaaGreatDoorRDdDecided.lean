import Derived.Test.YtdghjgiakblfmaaGreatDoorRDdEnded
namespace Go.Proofs
open Go.RowKit Go.Shelf
def Dd.Kds (w : World) (B : Nat) (a : Option Addr) (kk : List (Int × Int)) : Prop := ∀ j (h : j < kk.length), ∃ g off, a = some ⟨g, off, none⟩ ∧ g < B ∧ w.cell? ⟨g, off + j * 12, none⟩ = some (.int .i64 kk[j].1) ∧ w.cell? ⟨g, off + j * 12 + 2, none⟩ = some (.int .i64 kk[j].2)
theorem Dd.Kds.keep {w w' : World} {B : Nat} {a : Option Addr} {kk : List (Int × Int)} (h : Dd.Kds w B a kk) (hk : ∀ k, k < B → w'.heap[k]? = w.heap[k]?) : Dd.Kds w' B a kk := fun j hj => by
 obtain ⟨g, off, h1, h2, c0, c1⟩ := h j hj
 have hc : ∀ o, w'.cell? ⟨g, o, none⟩ = w.cell? ⟨g, o, none⟩ := fun o => World.cell?_of_block (w := w) (hk g h2)
 exact ⟨g, off, h1, h2, by rw [hc]; exact c0, by rw [hc]; exact c1⟩
theorem Dd.Kds.wider {w : World} {B B' : Nat} {a : Option Addr} {kk : List (Int × Int)} (h : Dd.Kds w B a kk) (hB : B ≤ B') : Dd.Kds w B' a kk := fun j hj => by
 obtain ⟨g, off, h1, h2, c0, c1⟩ := h j hj
 exact ⟨g, off, h1, by omega, c0, c1⟩
theorem Dd.scan_step {ls : List (Int × Int)} {s : List Int} {kid : Int} {j : Nat} {a b : Bool} (h : Dd.scan ls s kid j = some (a, b)) {x y : Int} (hx : ls[j]? = some (x, y)) : Dd.scan ls s kid (j + 1) = if y = kid then (if s.getD j 0 = 0 then none else some (a && decide (s.getD j 0 = 1), b || decide (s.getD j 0 = 1))) else some (a, b) := by
 rw [Dd.scan, h, hx]
 by_cases e : y = kid
 ·subst e; simp
 ·have : ¬ some y = some kid := fun h => e (Option.some.inj h)
  simp [e]
theorem Dd.decided_open {ls kk : List (Int × Int)} {s : List Int} {kid : Nat} {j : Nat} (h : Dd.scan ls s kid j = none) (hj : j ≤ ls.length) : Dd.decided ls kk s kid = s := by
 unfold Dd.decided
 rw [Dd.scan_none h hj]
 split <;> rfl
set_option maxRecDepth 20000 in
set_option maxHeartbeats 16000000 in
theorem Tryz.decided_any (x0 x1 x2 x3 x4 x5 x6 x7 x10 x11 : Value) (ka la : Option Addr) (n kc m lc : Nat) (ls kk : List (Int × Int)) (l : List Int) (kid : Nat) (w : World) (hL : Ac.Lks w w.heap.size la ls) (hK : Dd.Kds w w.heap.size ka kk) (hl : l.length = 104) (hm : ls.length = m) (h40 : m ≤ 40) (hn : kk.length = n) (h64 : n ≤ 64) (hk : kid < n) :
    Calls Tryz.prog 39 #[.agg #[x0, x1, x2, x3, x4, x5, x6, x7, .slice ka n kc, .slice la m lc, x10, x11], .agg (Dd.row l), .int .i64 kid] w fun e w' => e = .returned (.agg (Dd.row (Dd.decided ls kk l kid))) ∧ Below w.heap.size w w' := by
  obtain ⟨R, hR⟩ : ∃ R, Dd.decided ls kk l kid = R := ⟨_, rfl⟩
  have hRl : R.length = 104 := by rw [← hR, Dd.decided_length]; exact hl
  rw [hR]
  obtain ⟨w1, hw1⟩ : ∃ z, (((w.alloc (.cells #[x0, x1, x2, x3, x4, x5, x6, x7, .slice ka n kc, .slice la m lc, x10, x11] 32)).alloc (.cells (Dd.row l) 41)).alloc (.cells Tryz.zeroCells41 41)) = z := ⟨_, rfl⟩
  have F1 := Dd.Fr.new w #[x0, x1, x2, x3, x4, x5, x6, x7, .slice ka n kc, .slice la m lc, x10, x11] hl
  rw [hw1] at F1
  have H1 : Hid _ := hw1
  obtain ⟨v, hv⟩ : ∃ v, l.getD (40 + kid) 0 = v := ⟨_, rfl⟩
  have s1 := F1.st.cell (40 + kid) (by omega)
  rw [hv] at s1
  have k0 : (0 : Int) ≤ kid := by omega
  have k1 : (kid : Int) < 64 := by omega
  have kn : (kid : Int) < n := by omega
  have HB : Hid (Ac.Lks w w.heap.size la ls ∧ Dd.Kds w w.heap.size ka kk ∧ l.length = 104 ∧ ls.length = m ∧ kk.length = n ∧ kid < n ∧ n ≤ 64 ∧ l.getD (40 + kid) 0 = v) := ⟨hL, hK, hl, hm, hn, hk, h64, hv⟩
  have HR : Hid (Dd.decided ls kk l kid = R ∧ R.length = 104) := ⟨hR, hRl⟩
  have hu := Tryz.underlying41
  have ha := Tryz.underlying32
  have il := Dd.info_row hl
  have ol := Dd.row_one l
  have ia : (Tryz.prog.info? 32).map (·.size) = some (#[x0, x1, x2, x3, x4, x5, x6, x7, .slice ka n kc, .slice la m lc, x10, x11] : Array Value).size := Dd.info_act
  have ez : (Dd.row Dd.zeros).size = (Dd.row l).size := by rw [Dd.row_size, Dd.row_size, hl, Dd.zeros_length]
  have HF1 : Hid (Dd.Fr w #[x0, x1, x2, x3, x4, x5, x6, x7, .slice ka n kc, .slice la m lc, x10, x11] l Dd.zeros w1) := F1
  have HE : Hid (∀ (W : World) (h : Int), Below w.heap.size w W → Calls Tryz.prog 33 #[.agg #[x0, x1, x2, x3, x4, x5, x6, x7, .slice ka n kc, .slice la m lc, x10, x11], .agg (Dd.row l), .int .i64 kid, .int .i64 h] W fun e w' => e = .returned (.agg (Dd.row (Dd.ended ls l kid h))) ∧ Below W.heap.size W w') := fun W h hb =>
    Tryz.ended_any x0 x1 x2 x3 x4 x5 x6 x7 (.slice ka n kc) x10 x11 la m lc ls l kid h W ((hL.keep hb.block).wider hb.size) hl hm h40 (by omega)
  clear hL hK hl hm hn hR hRl hw1 hk
  by_cases hv0 : v = 0
  · have e0 : (v != 0) = false := by simp [hv0]
    have c9 := HF1.out.cs.2.2.2.2.2.2.2.2.2.1
    have HV : Hid (v = 0) := hv0
    clear hv0 F1
    go_enter Tryz.func39, Tryz.ntmps39
    go_upto_region 1 with fail
    rw [H1.out]
    go_wp2
    go_loopg [7, 8, 9, 22] m (fun gk s7 s8 _ s22 wr => ∃ (j : Nat) (a b : Bool), gk + j = m ∧ s22 = .int .i64 j ∧ s7 = .bool a ∧ s8 = .bool b ∧ Hid (Dd.scan ls l kid j = some (a, b) ∧ Dd.Fr w #[x0, x1, x2, x3, x4, x5, x6, x7, .slice ka n kc, .slice la m lc, x10, x11] l Dd.zeros wr))
    case atStart => exact ⟨0, true, false, by omega, rfl, rfl, rfl, rfl, HF1.out⟩
    case round =>
      obtain ⟨j, a, b, hj, rfl, rfl, rfl, HJ⟩ := hrel
      clear c9 s1
      by_cases hlt : j < m
      · have hd : decide ((j : Int) < m) = true := decide_eq_true (by omega)
        have hjl : j < ls.length := by rw [HB.out.2.2.2.1]; exact hlt
        obtain ⟨q, off, rfl, hq, d0, d1⟩ := HB.out.1 j hjl
        obtain ⟨x, hx⟩ : ∃ x, ls[j] = x := ⟨_, rfl⟩
        obtain ⟨x, y⟩ := x
        rw [hx] at d0 d1
        have j0 : (0 : Int) ≤ j := by omega
        have j1 : (j : Int) < m := by omega
        have j2 : (j : Int) < 40 := by omega
        have d2 : wr.cell? ⟨q, off + j * 2, none⟩ = some (.int .i64 x) := by rw [HJ.out.2.bel.cell (p := ⟨q, off + j * 2, none⟩) hq]; exact d0
        have d3 : wr.cell? ⟨q, off + j * 2 + 1, none⟩ = some (.int .i64 y) := by rw [HJ.out.2.bel.cell (p := ⟨q, off + j * 2 + 1, none⟩) hq]; exact d1
        obtain ⟨w2, hw2⟩ : ∃ z, wr.alloc (.cells #[.int .i64 x, .int .i64 y] 80) = z := ⟨_, rfl⟩
        have B2 : Below wr.heap.size wr w2 := by rw [← hw2]; exact (Below.refl _ wr).alloc (Nat.le_refl _) _
        have HF2 : Hid (Dd.Fr w #[x0, x1, x2, x3, x4, x5, x6, x7, .slice ka n kc, .slice (some ⟨q, off, none⟩) m lc, x10, x11] l Dd.zeros w2) := HJ.out.2.below B2
        have N2 : w2.heap[wr.heap.size]? = some (.cells #[.int .i64 x, .int .i64 y] 80 (0, 0)) := by rw [← hw2]; exact heap_alloc_new wr _
        have p1 : w2.cell? ⟨wr.heap.size, 1, none⟩ = some (.int .i64 y) := by simp [World.cell?, N2]
        obtain ⟨z, hz⟩ : ∃ z, l.getD j 0 = z := ⟨_, rfl⟩
        have s2 := HF2.out.st.cell j (by omega)
        rw [hz] at s2
        have HS : Hid (Dd.scan ls l kid (j + 1) = if y = kid then (if z = 0 then none else some (a && decide (z = 1), b || decide (z = 1))) else some (a, b)) := by
          have := Dd.scan_step HJ.out.1 (show ls[j]? = some (x, y) by rw [List.getElem?_eq_getElem hjl, hx])
          rw [hz] at this
          exact this
        have HW2 : Hid _ := hw2
        have HJL : Hid (j < ls.length) := hjl
        clear d0 d1 hx hq hw2 B2 N2 HJ hz hjl
        by_cases hy : y = kid
        · have e1 : (y != (kid : Int)) = false := by simp [hy]
          by_cases hz0 : z = 0
          · have e2 : (z == 0) = true := by simp [hz0]
            have HQ : Hid (l = R) := by
              have h1 := HS.out
              rw [if_pos hy, if_pos hz0] at h1
              show _ = _
              rw [← HR.out.1]
              exact (Dd.decided_open h1 (by have := HJL.out; omega)).symm
            clear hy hz0
            go_upto_region 7 with fail
            rw [HW2.out]
            have NS := HF2.out.st.h
            have NR := HF2.out.rs.h
            have HX : Hid (Below w.heap.size w _) := HF2.out.bel
            go_wp2_with (first
              | refine wpList_load_row rfl 41 _ rfl _ rfl 41 (Dd.row l) (0, 0) _ NS hu rfl il ?_
              | refine wpList_store_row rfl 41 _ _ rfl (w.heap.size + 1 + 1) (Dd.row l) rfl rfl 41 _ NR il ez ol ?_)
            exact bodyPost_ret (v := .agg (Dd.row l)) (results_cell_row Tryz.results39 _ _ (w.heap.size + 1 + 1) 41 (Dd.row l) (0, 0) _ rfl (setRow_heap _ _ _ _ _ _ NR) hu rfl il) rfl ⟨by rw [HQ.out], Tk.below_row HX.out (by omega) _⟩
          · have e2 : (z == 0) = false := by simpa using hz0
            have HN : Hid (Dd.scan ls l kid (j + 1) = some (a && decide (z = 1), b || decide (z = 1))) := by
              have h1 := HS.out
              rw [if_pos hy, if_neg hz0] at h1
              exact h1
            clear hy hz0
            by_cases hz1 : z = 1
            · have e3 : (z == 1) = true := by simp [hz1]
              have HN2 : Hid (Dd.scan ls l kid (j + 1) = some (a, true)) := by
                have h1 := HN.out
                rw [decide_eq_true hz1, Bool.and_true, Bool.or_true] at h1
                exact h1
              clear hz1 HN HS
              cases a <;> cases b
              all_goals
                go_upto_region 7 with fail
                rw [HW2.out]
                go_wp2
                go_roundg (gk - 1)
                case measure => omega
                case rel => exact ⟨j + 1, _, true, by omega, by go_num, rfl, rfl, HN2.out, HF2.out⟩
            · have e3 : (z == 1) = false := by simpa using hz1
              have HN2 : Hid (Dd.scan ls l kid (j + 1) = some (false, b)) := by
                have h1 := HN.out
                rw [decide_eq_false hz1, Bool.and_false, Bool.or_false] at h1
                exact h1
              clear hz1 HN HS
              cases a <;> cases b
              all_goals
                go_upto_region 7 with fail
                rw [HW2.out]
                go_wp2
                go_roundg (gk - 1)
                case measure => omega
                case rel => exact ⟨j + 1, false, _, by omega, by go_num, rfl, rfl, HN2.out, HF2.out⟩
        · have e1 : (y != (kid : Int)) = true := by simpa using hy
          have HN2 : Hid (Dd.scan ls l kid (j + 1) = some (a, b)) := by
            have h1 := HS.out
            rw [if_neg hy] at h1
            exact h1
          clear hy HS
          go_upto_region 7 with fail
          rw [HW2.out]
          go_wp2
          go_roundg (gk - 1)
          case measure => omega
          case rel => exact ⟨j + 1, a, b, by omega, by go_num, rfl, rfl, HN2.out, HF2.out⟩
      · have hd : decide ((j : Int) < m) = false := decide_eq_false (by omega)
        obtain rfl : j = m := by omega
        obtain ⟨g, off, rfl, hg, q0, q2⟩ := HB.out.2.1 kid (by rw [HB.out.2.2.2.2.1]; exact HB.out.2.2.2.2.2.1)
        have hkl : kid < kk.length := by rw [HB.out.2.2.2.2.1]; exact HB.out.2.2.2.2.2.1
        obtain ⟨x, hx⟩ : ∃ x, kk[kid]'hkl = x := ⟨_, rfl⟩
        obtain ⟨K, A⟩ := x
        rw [hx] at q0 q2
        have r0 : wr.cell? ⟨g, off + kid * 12, none⟩ = some (.int .i64 K) := by rw [HJ.out.2.bel.cell (p := ⟨g, off + kid * 12, none⟩) hg]; exact q0
        have r2 : wr.cell? ⟨g, off + kid * 12 + 2, none⟩ = some (.int .i64 A) := by rw [HJ.out.2.bel.cell (p := ⟨g, off + kid * 12 + 2, none⟩) hg]; exact q2
        have c8 := HJ.out.2.cs.2.2.2.2.2.2.2.2.1
        have HG : Hid (Dd.decided ls kk l kid = if b = false ∨ (K = 12 ∧ A = 2 ∧ a = false) then Dd.ended ls l kid 3 else if K = 12 ∧ A ≠ 3 then Dd.ended ls l kid 2 else l.set (40 + kid) 1) := by
          have hgt : Dd.gateB kk kid = decide (K = 12) := by unfold Dd.gateB; rw [List.getElem?_eq_getElem hkl, hx]; rfl
          have hdo : Dd.doesI kk kid = A := by unfold Dd.doesI; rw [List.getElem?_eq_getElem hkl, hx]; rfl
          have hD : Dd.Dies kk kid (a, b) ↔ (b = false ∨ (K = 12 ∧ A = 2 ∧ a = false)) := by
            unfold Dd.Dies
            rw [hgt, hdo, decide_eq_true_iff]
          have hA : Dd.Auto kk kid ↔ (K = 12 ∧ A ≠ 3) := by
            unfold Dd.Auto
            rw [hgt, hdo, decide_eq_true_iff]
          show _ = _
          unfold Dd.decided
          have hsc := HJ.out.1
          rw [← HB.out.2.2.2.1] at hsc
          rw [if_pos (by rw [HB.out.2.2.2.2.2.2.2, HV.out]), hsc]
          dsimp only
          by_cases dd : Dd.Dies kk kid (a, b)
          · rw [if_pos dd, if_pos (hD.1 dd)]
          · rw [if_neg dd, if_neg (fun h => dd (hD.2 h))]
            by_cases aa : Dd.Auto kk kid
            · rw [if_pos aa, if_pos (hA.1 aa)]
            · rw [if_neg aa, if_neg (fun h => aa (hA.2 h))]
        have HF : Hid (Dd.Fr w #[x0, x1, x2, x3, x4, x5, x6, x7, .slice (some ⟨g, off, none⟩) n kc, .slice la j lc, x10, x11] l Dd.zeros wr) := HJ.out.2
        clear hkl hx q0 q2 hg HJ
        cases b with
        | false =>
          have HQ : Hid (Dd.ended ls l kid 3 = R) := by
            have h1 := HG.out
            rw [HR.out.1] at h1
            show _ = _
            rw [h1]
            simp []
          by_cases hK : K = 12
          · have eK : (K == 12) = true := by simp [hK]
            clear HG hK
            go_wp2_with fail
            go_quiet (fail)
            obtain ⟨Y, hY⟩ : ∃ z, wr.drewN nq = z := ⟨_, rfl⟩
            have BY : Below wr.heap.size wr Y := by rw [← hY]; exact ⟨rfl, rfl, rfl, Nat.le_refl _, fun _ _ => rfl⟩
            rw [hY]
            have HFY : Hid (Dd.Fr w #[x0, x1, x2, x3, x4, x5, x6, x7, .slice (some ⟨g, off, none⟩) n kc, .slice la j lc, x10, x11] l Dd.zeros Y) := HF.out.below BY
            clear BY hY HF r0 r2 c8
            have NA := HFY.out.bx
            unfold Dd.Bx at NA
            have NS := HFY.out.st.h
            have HC : Hid _ := HE.out _ 3 HFY.out.bel
            go_wp2_with (first
              | refine wpList_load_row rfl 32 _ rfl _ rfl 32 _ (0, 0) _ NA ha rfl ia ?_
              | refine wpList_load_row rfl 41 _ rfl _ rfl 41 (Dd.row l) (0, 0) _ NS hu rfl il ?_)
            refine Calls.mono HC.out ?_
            rintro e W3 ⟨rfl, hb3⟩
            have F3 := HFY.out.below hb3
            have htR : Dd.ended ls l kid 3 = R := HQ.out
            rw [htR]
            have NR3 := F3.rs.h
            have e1 := Dd.info_row HR.out.2
            have e2 : (Dd.row Dd.zeros).size = (Dd.row R).size := by rw [Dd.row_size, Dd.row_size, HR.out.2, Dd.zeros_length]
            have e3 := Dd.row_one R
            have HX : Hid (Below w.heap.size w W3) := F3.bel
            clear htR F3 hb3 HC NA NS
            go_wp2_with (refine wpList_store_row rfl 41 _ _ rfl (w.heap.size + 1 + 1) (Dd.row R) rfl rfl 41 _ NR3 e1 e2 e3 ?_)
            exact bodyPost_ret (v := .agg (Dd.row R)) (results_cell_row Tryz.results39 _ _ (w.heap.size + 1 + 1) 41 (Dd.row R) (0, 0) _ rfl (setRow_heap _ _ _ _ _ _ NR3) hu rfl e1) rfl ⟨rfl, Tk.below_row HX.out (by omega) _⟩
          · have eK : (K == 12) = false := by simpa using hK
            clear HG hK
            go_wp2_with fail
            go_quiet (fail)
            obtain ⟨Y, hY⟩ : ∃ z, wr.drewN nq = z := ⟨_, rfl⟩
            have BY : Below wr.heap.size wr Y := by rw [← hY]; exact ⟨rfl, rfl, rfl, Nat.le_refl _, fun _ _ => rfl⟩
            rw [hY]
            have HFY : Hid (Dd.Fr w #[x0, x1, x2, x3, x4, x5, x6, x7, .slice (some ⟨g, off, none⟩) n kc, .slice la j lc, x10, x11] l Dd.zeros Y) := HF.out.below BY
            clear BY hY HF r0 r2 c8
            have NA := HFY.out.bx
            unfold Dd.Bx at NA
            have NS := HFY.out.st.h
            have HC : Hid _ := HE.out _ 3 HFY.out.bel
            go_wp2_with (first
              | refine wpList_load_row rfl 32 _ rfl _ rfl 32 _ (0, 0) _ NA ha rfl ia ?_
              | refine wpList_load_row rfl 41 _ rfl _ rfl 41 (Dd.row l) (0, 0) _ NS hu rfl il ?_)
            refine Calls.mono HC.out ?_
            rintro e W3 ⟨rfl, hb3⟩
            have F3 := HFY.out.below hb3
            have htR : Dd.ended ls l kid 3 = R := HQ.out
            rw [htR]
            have NR3 := F3.rs.h
            have e1 := Dd.info_row HR.out.2
            have e2 : (Dd.row Dd.zeros).size = (Dd.row R).size := by rw [Dd.row_size, Dd.row_size, HR.out.2, Dd.zeros_length]
            have e3 := Dd.row_one R
            have HX : Hid (Below w.heap.size w W3) := F3.bel
            clear htR F3 hb3 HC NA NS
            go_wp2_with (refine wpList_store_row rfl 41 _ _ rfl (w.heap.size + 1 + 1) (Dd.row R) rfl rfl 41 _ NR3 e1 e2 e3 ?_)
            exact bodyPost_ret (v := .agg (Dd.row R)) (results_cell_row Tryz.results39 _ _ (w.heap.size + 1 + 1) 41 (Dd.row R) (0, 0) _ rfl (setRow_heap _ _ _ _ _ _ NR3) hu rfl e1) rfl ⟨rfl, Tk.below_row HX.out (by omega) _⟩
        | true =>
          by_cases hK : K = 12
          · have eK : (K == 12) = true := by simp [hK]
            by_cases h2 : A = 2
            · have f2 : (A == 2) = true := by simp [h2]
              have f3 : (A != 3) = true := by simp [h2]
              cases a with
              | false =>
                have HQ : Hid (Dd.ended ls l kid 3 = R) := by
                  have h1 := HG.out
                  rw [HR.out.1] at h1
                  show _ = _
                  rw [h1]
                  simp [hK, h2]
                clear HG hK h2
                go_wp2_with fail
                go_quiet (fail)
                obtain ⟨Y, hY⟩ : ∃ z, wr.drewN nq = z := ⟨_, rfl⟩
                have BY : Below wr.heap.size wr Y := by rw [← hY]; exact ⟨rfl, rfl, rfl, Nat.le_refl _, fun _ _ => rfl⟩
                rw [hY]
                have HFY : Hid (Dd.Fr w #[x0, x1, x2, x3, x4, x5, x6, x7, .slice (some ⟨g, off, none⟩) n kc, .slice la j lc, x10, x11] l Dd.zeros Y) := HF.out.below BY
                clear BY hY HF r0 r2 c8
                have NA := HFY.out.bx
                unfold Dd.Bx at NA
                have NS := HFY.out.st.h
                have HC : Hid _ := HE.out _ 3 HFY.out.bel
                go_wp2_with (first
                  | refine wpList_load_row rfl 32 _ rfl _ rfl 32 _ (0, 0) _ NA ha rfl ia ?_
                  | refine wpList_load_row rfl 41 _ rfl _ rfl 41 (Dd.row l) (0, 0) _ NS hu rfl il ?_)
                refine Calls.mono HC.out ?_
                rintro e W3 ⟨rfl, hb3⟩
                have F3 := HFY.out.below hb3
                have htR : Dd.ended ls l kid 3 = R := HQ.out
                rw [htR]
                have NR3 := F3.rs.h
                have e1 := Dd.info_row HR.out.2
                have e2 : (Dd.row Dd.zeros).size = (Dd.row R).size := by rw [Dd.row_size, Dd.row_size, HR.out.2, Dd.zeros_length]
                have e3 := Dd.row_one R
                have HX : Hid (Below w.heap.size w W3) := F3.bel
                clear htR F3 hb3 HC NA NS
                go_wp2_with (refine wpList_store_row rfl 41 _ _ rfl (w.heap.size + 1 + 1) (Dd.row R) rfl rfl 41 _ NR3 e1 e2 e3 ?_)
                exact bodyPost_ret (v := .agg (Dd.row R)) (results_cell_row Tryz.results39 _ _ (w.heap.size + 1 + 1) 41 (Dd.row R) (0, 0) _ rfl (setRow_heap _ _ _ _ _ _ NR3) hu rfl e1) rfl ⟨rfl, Tk.below_row HX.out (by omega) _⟩
              | true =>
                have HQ : Hid (Dd.ended ls l kid 2 = R) := by
                  have h1 := HG.out
                  rw [HR.out.1] at h1
                  show _ = _
                  rw [h1]
                  simp [hK, h2]
                clear HG hK h2
                go_wp2_with fail
                go_quiet (fail)
                obtain ⟨Y, hY⟩ : ∃ z, wr.drewN nq = z := ⟨_, rfl⟩
                have BY : Below wr.heap.size wr Y := by rw [← hY]; exact ⟨rfl, rfl, rfl, Nat.le_refl _, fun _ _ => rfl⟩
                rw [hY]
                have HFY : Hid (Dd.Fr w #[x0, x1, x2, x3, x4, x5, x6, x7, .slice (some ⟨g, off, none⟩) n kc, .slice la j lc, x10, x11] l Dd.zeros Y) := HF.out.below BY
                clear BY hY HF r0 r2 c8
                have NA := HFY.out.bx
                unfold Dd.Bx at NA
                have NS := HFY.out.st.h
                have HC : Hid _ := HE.out _ 2 HFY.out.bel
                go_wp2_with (first
                  | refine wpList_load_row rfl 32 _ rfl _ rfl 32 _ (0, 0) _ NA ha rfl ia ?_
                  | refine wpList_load_row rfl 41 _ rfl _ rfl 41 (Dd.row l) (0, 0) _ NS hu rfl il ?_)
                refine Calls.mono HC.out ?_
                rintro e W3 ⟨rfl, hb3⟩
                have F3 := HFY.out.below hb3
                have htR : Dd.ended ls l kid 2 = R := HQ.out
                rw [htR]
                have NR3 := F3.rs.h
                have e1 := Dd.info_row HR.out.2
                have e2 : (Dd.row Dd.zeros).size = (Dd.row R).size := by rw [Dd.row_size, Dd.row_size, HR.out.2, Dd.zeros_length]
                have e3 := Dd.row_one R
                have HX : Hid (Below w.heap.size w W3) := F3.bel
                clear htR F3 hb3 HC NA NS
                go_wp2_with (refine wpList_store_row rfl 41 _ _ rfl (w.heap.size + 1 + 1) (Dd.row R) rfl rfl 41 _ NR3 e1 e2 e3 ?_)
                exact bodyPost_ret (v := .agg (Dd.row R)) (results_cell_row Tryz.results39 _ _ (w.heap.size + 1 + 1) 41 (Dd.row R) (0, 0) _ rfl (setRow_heap _ _ _ _ _ _ NR3) hu rfl e1) rfl ⟨rfl, Tk.below_row HX.out (by omega) _⟩
            · have f2 : (A == 2) = false := by simpa using h2
              by_cases h3 : A = 3
              · have f3 : (A != 3) = false := by simp [h3]
                have HQ : Hid (l.set (40 + kid) 1 = R) := by
                  have h1 := HG.out
                  rw [HR.out.1] at h1
                  show _ = _
                  rw [h1]
                  simp [hK, h3]
                clear HG hK h2 h3
                go_wp2_with fail
                go_quiet (fail)
                obtain ⟨Y, hY⟩ : ∃ z, wr.drewN nq = z := ⟨_, rfl⟩
                have BY : Below wr.heap.size wr Y := by rw [← hY]; exact ⟨rfl, rfl, rfl, Nat.le_refl _, fun _ _ => rfl⟩
                rw [hY]
                have HFY : Hid (Dd.Fr w #[x0, x1, x2, x3, x4, x5, x6, x7, .slice (some ⟨g, off, none⟩) n kc, .slice la j lc, x10, x11] l Dd.zeros Y) := HF.out.below BY
                clear BY hY HF r0 r2 c8
                have f5 := HFY.out.st.frozen (40 + kid)
                have s5 := HFY.out.st.cell (40 + kid) (by have := HB.out.2.2.2.2.2.1; omega)
                have F5 := HFY.out.put (40 + kid) 1
                have htR : l.set (40 + kid) 1 = R := HQ.out
                rw [htR] at F5
                have NS5 := F5.st.h
                have NR5 := F5.rs.h
                have e1 := Dd.info_row HR.out.2
                have e2 : (Dd.row Dd.zeros).size = (Dd.row R).size := by rw [Dd.row_size, Dd.row_size, HR.out.2, Dd.zeros_length]
                have e3 := Dd.row_one R
                have HX : Hid (Below w.heap.size w _) := F5.bel
                clear htR F5
                go_wp2_with (first
                  | refine wpList_load_row rfl 41 _ rfl _ rfl 41 (Dd.row R) (0, 0) _ NS5 hu rfl e1 ?_
                  | refine wpList_store_row rfl 41 _ _ rfl (w.heap.size + 1 + 1) (Dd.row R) rfl rfl 41 _ NR5 e1 e2 e3 ?_)
                exact bodyPost_ret (v := .agg (Dd.row R)) (results_cell_row Tryz.results39 _ _ (w.heap.size + 1 + 1) 41 (Dd.row R) (0, 0) _ rfl (setRow_heap _ _ _ _ _ _ NR5) hu rfl e1) rfl ⟨rfl, Tk.below_row HX.out (by omega) _⟩
              · have f3 : (A != 3) = true := by simpa using h3
                have HQ : Hid (Dd.ended ls l kid 2 = R) := by
                  have h1 := HG.out
                  rw [HR.out.1] at h1
                  show _ = _
                  rw [h1]
                  simp [hK, h2, h3]
                clear HG hK h2 h3
                go_wp2_with fail
                go_quiet (fail)
                obtain ⟨Y, hY⟩ : ∃ z, wr.drewN nq = z := ⟨_, rfl⟩
                have BY : Below wr.heap.size wr Y := by rw [← hY]; exact ⟨rfl, rfl, rfl, Nat.le_refl _, fun _ _ => rfl⟩
                rw [hY]
                have HFY : Hid (Dd.Fr w #[x0, x1, x2, x3, x4, x5, x6, x7, .slice (some ⟨g, off, none⟩) n kc, .slice la j lc, x10, x11] l Dd.zeros Y) := HF.out.below BY
                clear BY hY HF r0 r2 c8
                have NA := HFY.out.bx
                unfold Dd.Bx at NA
                have NS := HFY.out.st.h
                have HC : Hid _ := HE.out _ 2 HFY.out.bel
                go_wp2_with (first
                  | refine wpList_load_row rfl 32 _ rfl _ rfl 32 _ (0, 0) _ NA ha rfl ia ?_
                  | refine wpList_load_row rfl 41 _ rfl _ rfl 41 (Dd.row l) (0, 0) _ NS hu rfl il ?_)
                refine Calls.mono HC.out ?_
                rintro e W3 ⟨rfl, hb3⟩
                have F3 := HFY.out.below hb3
                have htR : Dd.ended ls l kid 2 = R := HQ.out
                rw [htR]
                have NR3 := F3.rs.h
                have e1 := Dd.info_row HR.out.2
                have e2 : (Dd.row Dd.zeros).size = (Dd.row R).size := by rw [Dd.row_size, Dd.row_size, HR.out.2, Dd.zeros_length]
                have e3 := Dd.row_one R
                have HX : Hid (Below w.heap.size w W3) := F3.bel
                clear htR F3 hb3 HC NA NS
                go_wp2_with (refine wpList_store_row rfl 41 _ _ rfl (w.heap.size + 1 + 1) (Dd.row R) rfl rfl 41 _ NR3 e1 e2 e3 ?_)
                exact bodyPost_ret (v := .agg (Dd.row R)) (results_cell_row Tryz.results39 _ _ (w.heap.size + 1 + 1) 41 (Dd.row R) (0, 0) _ rfl (setRow_heap _ _ _ _ _ _ NR3) hu rfl e1) rfl ⟨rfl, Tk.below_row HX.out (by omega) _⟩
          · have eK : (K == 12) = false := by simpa using hK
            have HQ : Hid (l.set (40 + kid) 1 = R) := by
              have h1 := HG.out
              rw [HR.out.1] at h1
              show _ = _
              rw [h1]
              simp [hK]
            clear HG hK
            go_wp2_with fail
            go_quiet (fail)
            obtain ⟨Y, hY⟩ : ∃ z, wr.drewN nq = z := ⟨_, rfl⟩
            have BY : Below wr.heap.size wr Y := by rw [← hY]; exact ⟨rfl, rfl, rfl, Nat.le_refl _, fun _ _ => rfl⟩
            rw [hY]
            have HFY : Hid (Dd.Fr w #[x0, x1, x2, x3, x4, x5, x6, x7, .slice (some ⟨g, off, none⟩) n kc, .slice la j lc, x10, x11] l Dd.zeros Y) := HF.out.below BY
            clear BY hY HF r0 r2 c8
            have f5 := HFY.out.st.frozen (40 + kid)
            have s5 := HFY.out.st.cell (40 + kid) (by have := HB.out.2.2.2.2.2.1; omega)
            have F5 := HFY.out.put (40 + kid) 1
            have htR : l.set (40 + kid) 1 = R := HQ.out
            rw [htR] at F5
            have NS5 := F5.st.h
            have NR5 := F5.rs.h
            have e1 := Dd.info_row HR.out.2
            have e2 : (Dd.row Dd.zeros).size = (Dd.row R).size := by rw [Dd.row_size, Dd.row_size, HR.out.2, Dd.zeros_length]
            have e3 := Dd.row_one R
            have HX : Hid (Below w.heap.size w _) := F5.bel
            clear htR F5
            go_wp2_with (first
              | refine wpList_load_row rfl 41 _ rfl _ rfl 41 (Dd.row R) (0, 0) _ NS5 hu rfl e1 ?_
              | refine wpList_store_row rfl 41 _ _ rfl (w.heap.size + 1 + 1) (Dd.row R) rfl rfl 41 _ NR5 e1 e2 e3 ?_)
            exact bodyPost_ret (v := .agg (Dd.row R)) (results_cell_row Tryz.results39 _ _ (w.heap.size + 1 + 1) 41 (Dd.row R) (0, 0) _ rfl (setRow_heap _ _ _ _ _ _ NR5) hu rfl e1) rfl ⟨rfl, Tk.below_row HX.out (by omega) _⟩
  · have e0 : (v != 0) = true := by simpa using hv0
    have HQ : Hid (l = R) := by
      show _ = _
      rw [← HR.out.1]
      unfold Dd.decided
      rw [if_neg (by rw [HB.out.2.2.2.2.2.2.2]; exact hv0)]
    clear hv0 F1
    go_enter Tryz.func39, Tryz.ntmps39
    go_upto_region 1 with fail
    rw [H1.out]
    have NS := HF1.out.st.h
    have NR := HF1.out.rs.h
    have HX : Hid (Below w.heap.size w _) := HF1.out.bel
    go_wp2_with (first
      | refine wpList_load_row rfl 41 _ rfl _ rfl 41 (Dd.row l) (0, 0) _ NS hu rfl il ?_
      | refine wpList_store_row rfl 41 _ _ rfl (w.heap.size + 1 + 1) (Dd.row l) rfl rfl 41 _ NR il ez ol ?_)
    exact bodyPost_ret (v := .agg (Dd.row l)) (results_cell_row Tryz.results39 _ _ (w.heap.size + 1 + 1) 41 (Dd.row l) (0, 0) _ rfl (setRow_heap _ _ _ _ _ _ NR) hu rfl il) rfl ⟨by rw [HQ.out], Tk.below_row HX.out (by omega) _⟩
end Go.Proofs
