import Derived.Test.YtdghjgiakblfmaaGreatDoorRDdDocM
namespace Go.Proofs
open Go.RowKit Go.Shelf
theorem Dd.info_act : (Tryz.prog.info? 32).map (·.size) = some 12 := by kernel_rfl
set_option maxRecDepth 20000 in
set_option maxHeartbeats 8000000 in
theorem Tryz.ended_any (x0 x1 x2 x3 x4 x5 x6 x7 x8 x10 x11 : Value) (la : Option Addr) (m lc : Nat) (ls : List (Int × Int)) (l : List Int) (kid : Nat) (how : Int) (w : World) (hL : Ac.Lks w w.heap.size la ls) (hl : l.length = 104) (hm : ls.length = m) (h40 : m ≤ 40) (hk : kid < 64) :
  Calls Tryz.prog 33 #[.agg #[x0, x1, x2, x3, x4, x5, x6, x7, x8, .slice la m lc, x10, x11], .agg (Dd.row l), .int .i64 kid, .int .i64 how] w fun e w' => e = .returned (.agg (Dd.row (Dd.ended ls l kid how))) ∧ Below w.heap.size w w' := by
 obtain ⟨R, hR⟩ : ∃ R, Dd.ended ls l kid how = R := ⟨_, rfl⟩
 have hRl : R.length = 104 := by rw [← hR, Dd.ended_length]; exact hl
 rw [hR]
 obtain ⟨w1, hw1⟩ : ∃ z, (((w.alloc (.cells #[x0, x1, x2, x3, x4, x5, x6, x7, x8, .slice la m lc, x10, x11] 32)).alloc (.cells (Dd.row l) 41)).alloc (.cells Tryz.zeroCells41 41)) = z := ⟨_, rfl⟩
 have F1 := Dd.Fr.new w #[x0, x1, x2, x3, x4, x5, x6, x7, x8, .slice la m lc, x10, x11] hl
 rw [hw1] at F1
 have H1 : Hid _ := hw1
 have f1 := F1.st.frozen (40 + kid)
 have s1 := F1.st.cell (40 + kid) (by omega)
 obtain ⟨w2, hw2⟩ : ∃ z, w1.setCell ⟨w.heap.size + 1, 40 + kid, none⟩ (.int .i64 how) = z := ⟨_, rfl⟩
 have F2 := F1.put (40 + kid) how
 rw [hw2] at F2
 obtain ⟨s, hs⟩ : ∃ s, l.set (40 + kid) how = s := ⟨_, rfl⟩
 rw [hs] at F2
 have hsl : s.length = 104 := by rw [← hs, List.length_set]; exact hl
 have NA := F2.bx
 unfold Dd.Bx at NA
 have NS := F2.st.h
 have NR := F2.rs.h
 have HC : Hid (∀ h : Int, Calls Tryz.prog 28 #[.agg #[x0, x1, x2, x3, x4, x5, x6, x7, x8, .slice la m lc, x10, x11], .agg (Dd.row s), .int .i64 kid, .int .i64 h] w2 fun e w' => e = .returned (.agg (Dd.row (Dd.left ls s kid h))) ∧ Below w2.heap.size w2 w') := fun h => by
  refine Tryz.left_any x0 x1 x2 x3 x4 x5 x6 x7 x8 x10 x11 la m lc ls s kid h w2 ?_ hsl hm h40
  exact (hL.keep F2.bel.block).wider F2.bel.size
 have HF2 : Hid (Dd.Fr w #[x0, x1, x2, x3, x4, x5, x6, x7, x8, .slice la m lc, x10, x11] s Dd.zeros w2) := F2
 have HR : Hid (Dd.left ls s kid (if how = 2 then 1 else 2) = R ∧ R.length = 104) := ⟨by rw [← hR, Dd.ended, hs], hRl⟩
 have HW2 : Hid _ := hw2
 have ha := Tryz.underlying32
 have hu := Tryz.underlying41
 have ia : (Tryz.prog.info? 32).map (·.size) = some (#[x0, x1, x2, x3, x4, x5, x6, x7, x8, .slice la m lc, x10, x11] : Array Value).size := Dd.info_act
 have is := Dd.info_row hsl
 have k0 : (0 : Int) ≤ kid := by omega
 have k1 : (kid : Int) < 64 := by omega
 clear hL hl hm h40 hk hR hRl hw1 F1 hw2 F2 hs hsl
 by_cases hh : how = 2
 ·have he : (how == 2) = true := by simpa using hh
  have HR2 : Hid (Dd.left ls s kid 1 = R ∧ R.length = 104) := by
   have := HR.out
   rw [if_pos hh] at this
   exact this
  clear HR hh
  go_enter Tryz.func33, Tryz.ntmps33
  go_upto_region 1 with fail
  rw [H1.out]
  go_upto_region 2 with fail
  rw [HW2.out]
  go_wp2_with (first
   | refine wpList_load_row rfl 32 _ rfl _ rfl 32 _ (0, 0) _ NA ha rfl ia ?_
   | refine wpList_load_row rfl 41 _ rfl _ rfl 41 (Dd.row s) (0, 0) _ NS hu rfl is ?_)
  refine Calls.mono (HC.out 1) ?_
  rintro e W3 ⟨rfl, hb3⟩
  have F3 := HF2.out.below hb3
  obtain ⟨t, ht⟩ : ∃ t, Dd.left ls s kid 1 = t := ⟨_, rfl⟩
  obtain ⟨htR, htl⟩ := HR2.out
  rw [ht] at htR
  subst htR
  rw [ht]
  have NR3 := F3.rs.h
  have e1 := Dd.info_row htl
  have e2 : (Dd.row Dd.zeros).size = (Dd.row t).size := by rw [Dd.row_size, Dd.row_size, htl, Dd.zeros_length]
  have e3 := Dd.row_one t
  have HX : Hid (Below w.heap.size w W3) := F3.bel
  clear ht htl F3 hb3 HC HF2 HR2 NA NS NR ia is
  go_wp2_with (refine wpList_store_row rfl 41 _ _ rfl (w.heap.size + 1 + 1) (Dd.row t) rfl rfl 41 _ NR3 e1 e2 e3 ?_)
  exact bodyPost_ret (v := .agg (Dd.row t)) (results_cell_row Tryz.results33 _ _ (w.heap.size + 1 + 1) 41 (Dd.row t) (0, 0) _ rfl (setRow_heap _ _ _ _ _ _ NR3) hu rfl e1) rfl ⟨rfl, Tk.below_row HX.out (by omega) _⟩
 ·have he : (how == 2) = false := by simpa using hh
  have HR2 : Hid (Dd.left ls s kid 2 = R ∧ R.length = 104) := by
   have := HR.out
   rw [if_neg hh] at this
   exact this
  clear HR hh
  go_enter Tryz.func33, Tryz.ntmps33
  go_upto_region 1 with fail
  rw [H1.out]
  go_upto_region 2 with fail
  rw [HW2.out]
  go_wp2_with (first
   | refine wpList_load_row rfl 32 _ rfl _ rfl 32 _ (0, 0) _ NA ha rfl ia ?_
   | refine wpList_load_row rfl 41 _ rfl _ rfl 41 (Dd.row s) (0, 0) _ NS hu rfl is ?_)
  refine Calls.mono (HC.out 2) ?_
  rintro e W3 ⟨rfl, hb3⟩
  have F3 := HF2.out.below hb3
  obtain ⟨t, ht⟩ : ∃ t, Dd.left ls s kid 2 = t := ⟨_, rfl⟩
  obtain ⟨htR, htl⟩ := HR2.out
  rw [ht] at htR
  subst htR
  rw [ht]
  have NR3 := F3.rs.h
  have e1 := Dd.info_row htl
  have e2 : (Dd.row Dd.zeros).size = (Dd.row t).size := by rw [Dd.row_size, Dd.row_size, htl, Dd.zeros_length]
  have e3 := Dd.row_one t
  have HX : Hid (Below w.heap.size w W3) := F3.bel
  clear ht htl F3 hb3 HC HF2 HR2 NA NS NR ia is
  go_wp2_with (refine wpList_store_row rfl 41 _ _ rfl (w.heap.size + 1 + 1) (Dd.row t) rfl rfl 41 _ NR3 e1 e2 e3 ?_)
  exact bodyPost_ret (v := .agg (Dd.row t)) (results_cell_row Tryz.results33 _ _ (w.heap.size + 1 + 1) 41 (Dd.row t) (0, 0) _ rfl (setRow_heap _ _ _ _ _ _ NR3) hu rfl e1) rfl ⟨rfl, Tk.below_row HX.out (by omega) _⟩
end Go.Proofs
namespace Go.Proofs
open Go.RowKit
def Tk.Rm (b : Nat) (k : Int) (w : World) : Prop := w.heap[b]? = some (.cells #[.int .i64 k] 36 (0, 0))
theorem Tk.Rm.c0 {b : Nat} {k : Int} {w : World} (h : Tk.Rm b k w) : w.cell? ⟨b, 0, none⟩ = some (.int .i64 k) := by simp only [Tk.Rm] at h; simp [World.cell?, h]
theorem Tk.Rm.f0 {b : Nat} {k : Int} {w : World} (h : Tk.Rm b k w) : w.frozen? ⟨b, 0, none⟩ = false := by simp only [Tk.Rm] at h; simp [World.frozen?, h]
theorem Tk.Rm.lt {b : Nat} {k : Int} {w : World} (h : Tk.Rm b k w) : b < w.heap.size := (Array.getElem?_eq_some_iff.1 h).1
theorem Tk.Rm.put {b : Nat} {k : Int} {w : World} (h : Tk.Rm b k w) (k' : Int) : Tk.Rm b k' (w.setCell ⟨b, 0, none⟩ (.int .i64 k')) := by
 unfold Tk.Rm at *
 simp [World.setCell, Array.getElem?_modify, h]
theorem Tk.Rm.keep {b : Nat} {k : Int} {w w' : World} (h : Tk.Rm b k w) (hk : w'.heap[b]? = w.heap[b]?) : Tk.Rm b k w' := by unfold Tk.Rm; rw [hk]; exact h
def Tk.LargeEnd (T : Tm) (k : Nat) (b : Nat) (w : World) (e : Ending) (w' : World) : Prop :=
 Tk.But (fun i => i = b) w w' ∧ ((e = .returned (.bool false) ∧ T.size ≤ k ∧ Tk.Rm b ((k - T.size : Nat) : Int) w') ∨ e = .returned (.bool true))
set_option maxHeartbeats 4000000 in
theorem Tryz.deep_any : ∀ (d : Nat) (T : Tm) (v : Value) (k b : Nat) (dp : Nat) (B : Nat) (w : World), Tm.Lies w B d v T → B ≤ b → B ≤ w.heap.size → Tk.Rm b k w → k ≤ 1000000 → dp ≤ 1000 →
   Calls Tryz.prog 25 #[.agg #[.int .i64 T.op, .int .i64 T.num, v], .pointer (some ⟨b, 0, none⟩), .int .i64 dp] w fun e w' => Tk.LargeEnd T k b w e w' := by
 intro d
 induction d with
 | zero => intro T v k b dp B w h; exact h.elim
 | succ d ih =>
   intro T v k b dp B w hT hBb hBs hR hk hdp
   obtain ⟨a, cap, rfl⟩ := hT.shape
   obtain ⟨o, ho⟩ : ∃ o, T.op = o := ⟨_, rfl⟩
   obtain ⟨m, hm⟩ : ∃ m, T.num = m := ⟨_, rfl⟩
   obtain ⟨n, hn⟩ : ∃ n, T.ks.length = n := ⟨_, rfl⟩
   rw [ho, hm, hn]
   rw [hn] at hT
   have A0 : Below w.heap.size w (w.alloc (.cells #[.int .i64 o, .int .i64 m, .slice a n cap] 24)) := (Below.refl _ w).alloc (Nat.le_refl _) _
   have R0 : Tk.Rm b k (w.alloc (.cells #[.int .i64 o, .int .i64 m, .slice a n cap] 24)) := hR.keep (A0.block b hR.lt)
   have c0 := R0.c0
   have f0 := R0.f0
   have R1 := R0.put ((k : Int) - 1)
   obtain ⟨w1, hw1⟩ : ∃ w1, (w.alloc (.cells #[.int .i64 o, .int .i64 m, .slice a n cap] 24)).setCell ⟨b, 0, none⟩ (.int .i64 ((k : Int) - 1)) = w1 := ⟨_, rfl⟩
   have X1 : Hid (Tk.But (fun i => i = b) w w1) := by show Tk.But _ _ _; rw [← hw1]; exact (Tk.But.of_below A0).setCell (E := fun i => i = b) (p := ⟨b, 0, none⟩) rfl _
   rw [hw1] at R1
   have g0 := R1.c0
   have hbx : w1.heap[w.heap.size]? = some (.cells #[.int .i64 o, .int .i64 m, .slice a n cap] 24 (0, 0)) := by
    rw [← hw1, Below.heap_setCell _ _ _ _ (by have := hR.lt; show w.heap.size ≠ b; omega)]
    exact heap_alloc_new w _
   have g2 : w1.cell? ⟨w.heap.size, 2, none⟩ = some (.slice a n cap) := by simp [World.cell?, hbx]
   have HW1 : Hid ((w.alloc (.cells #[.int .i64 o, .int .i64 m, .slice a n cap] 24)).setCell ⟨b, 0, none⟩ (.int .i64 ((k : Int) - 1)) = w1) := hw1
   have HT : Hid (Tm.Lies w B (d + 1) (.slice a n cap) T) := hT
   have HI : Hid _ := ih
   have HM : Hid (T.op = o ∧ T.num = m ∧ T.ks.length = n ∧ B ≤ b ∧ B ≤ w.heap.size) := ⟨ho, hm, hn, hBb, hBs⟩
   have HR1 : Hid (Tk.Rm b ((k : Int) - 1) w1) := R1
   have HRl : Hid (b < w.heap.size) := hR.lt
   clear ih hT hR A0 R0 ho hm hn hw1 R1 hbx hBb hBs
   by_cases hbad : (k : Int) - 1 < 0 ∨ 30 < dp ∨ 20 < n
   ·obtain h1 | ⟨h1, h2⟩ | ⟨h1, h2, h3⟩ : decide ((k : Int) - 1 < 0) = true ∨ (decide ((k : Int) - 1 < 0) = false ∧ decide ((30 : Int) < dp) = true) ∨ (decide ((k : Int) - 1 < 0) = false ∧ decide ((30 : Int) < dp) = false ∧ decide ((20 : Int) < n) = true) := by
     simp; omega
    all_goals
     clear hbad
     go_enter Tryz.func25, Tryz.ntmps25
     go_wp2
     go_ret
     exact ⟨by rw [HW1.out]; exact X1.out, .inr rfl⟩
   ·have h1 : decide ((k : Int) - 1 < 0) = false := decide_eq_false (by omega)
    have h2 : decide ((30 : Int) < dp) = false := decide_eq_false (by omega)
    have h3 : decide ((20 : Int) < n) = false := decide_eq_false (by omega)
    have hn100 : n ≤ 100 := by omega
    have hdp' : dp ≤ 100 := by omega
    have HK : Hid (1 ≤ k) := by show 1 ≤ k; omega
    clear hbad
    go_enter Tryz.func25, Tryz.ntmps25
    go_wp2
    rw [HW1.out]
    go_loopg [35] n (fun g i wr => ∃ j : Nat, g + j = n ∧ i = .int .i64 j ∧ Hid (Tk.But (fun i => i = b) w wr ∧ Tm.sizes (T.ks.take j) ≤ k - 1 ∧ Tk.Rm b ((k - 1 - Tm.sizes (T.ks.take j) : Nat) : Int) wr))
    case atStart =>
     refine ⟨0, by omega, rfl, X1.out, by simp [Tm.sizes], ?_⟩
     have := HR1.out
     rw [show (k : Int) - 1 = ((k - 1 : Nat) : Int) by have := HK.out; omega] at this
     simpa [Tm.sizes] using this
    case round =>
     obtain ⟨j, hj, rfl, HJ⟩ := hrel
     by_cases hjn : j < n
     ·have hd : decide ((j : Int) < n) = true := decide_eq_true (by omega)
      have hjk : j < T.ks.length := by rw [HM.out.2.2.1]; exact hjn
      obtain ⟨g, off, u, rfl, hg, q0, q1, q2, q3⟩ := HT.out.kid j hjk
      obtain ⟨x, hx⟩ : ∃ x, T.ks[j] = x := ⟨_, rfl⟩
      rw [hx] at q0 q1 q3
      obtain ⟨au, cu, rfl⟩ := q3.shape
      obtain ⟨nx, hnx⟩ : ∃ n, x.ks.length = n := ⟨_, rfl⟩
      rw [hnx] at q2 q3
      obtain ⟨y0, hy0⟩ : ∃ y, x.op = y := ⟨_, rfl⟩
      obtain ⟨y1, hz1⟩ : ∃ y, x.num = y := ⟨_, rfl⟩
      rw [hy0] at q0
      rw [hz1] at q1
      have hE : ∀ i, i < B → ¬ (i = b) := fun i hi => by have := HM.out; omega
      have hc : ∀ p, wr.cell? ⟨g, p, none⟩ = w.cell? ⟨g, p, none⟩ := fun p => World.cell?_of_block (w := w) (HJ.out.1.block g (by have := HM.out; omega) (hE g hg))
      have hc0 : wr.cell? ⟨g, off + j * 3, none⟩ = some (.int .i64 y0) := by rw [hc]; exact q0
      have hc1 : wr.cell? ⟨g, off + j * 3 + 1, none⟩ = some (.int .i64 y1) := by rw [hc]; exact q1
      have hc2 : wr.cell? ⟨g, off + j * 3 + 2, none⟩ = some (.slice au nx cu) := by rw [hc]; exact q2
      have BA : Hid (Tk.But (fun i => i = b) w (wr.alloc (.cells #[.int .i64 y0, .int .i64 y1, .slice au nx cu] 24))) := HJ.out.1.alloc _
      have hcall := HI.out x (.slice au nx cu) (k - 1 - Tm.sizes (T.ks.take j)) b (dp + 1) B (wr.alloc (.cells #[.int .i64 y0, .int .i64 y1, .slice au nx cu] 24))
       (q3.keep fun i hi => BA.out.block i (by have := HM.out; omega) (hE i hi)) HM.out.2.2.2.1 (by have := HM.out; have := BA.out.size; omega) (HJ.out.2.2.keep (Below.heap_alloc _ _ _ HJ.out.2.2.lt)) (by omega) (by omega)
      rw [hy0, hz1, show ((dp + 1 : Nat) : Int) = (dp : Int) + 1 by omega] at hcall
      have HC : Hid _ := hcall
      have HY : Hid (T.ks[j] = x) := hx
      clear hc q0 q1 q2 q3 hx hy0 hz1 hnx hcall hE g0 g2 c0 f0
      go_wp2_with fail
      refine Calls.mono HC.out ?_
      rintro e W3 ⟨hb3, ⟨rfl, hs3, hr3⟩ | rfl⟩
      ·have B3 : Hid (Tk.But (fun i => i = b) w W3) := BA.out.trans hb3
       have H3 : Hid (x.size ≤ k - 1 - Tm.sizes (T.ks.take j) ∧ Tk.Rm b ((k - 1 - Tm.sizes (T.ks.take j) - x.size : Nat) : Int) W3) := ⟨hs3, hr3⟩
       clear hb3 hs3 hr3 HC
       go_wp2
       go_roundg (gk - 1)
       case measure => omega
       case rel =>
        refine ⟨j + 1, by omega, by go_num, B3.out, ?_, ?_⟩
        ·rw [Tm.sizes_take _ _ hjk, HY.out]; have := H3.out.1; have := HJ.out.2.1; omega
        ·rw [Tm.sizes_take _ _ hjk, HY.out, ← Nat.sub_sub]; exact H3.out.2
      ·have B3 : Hid (Tk.But (fun i => i = b) w W3) := BA.out.trans hb3
       clear hb3 HC
       go_wp2
       go_ret
       exact ⟨B3.out, .inr rfl⟩
     ·have hd : decide ((j : Int) < n) = false := decide_eq_false (by omega)
      have hall : T.ks.take j = T.ks := List.take_of_length_le (by rw [HM.out.2.2.1]; omega)
      have HZ := HJ.out
      rw [hall] at HZ
      have HZ' : Hid _ := HZ
      clear HZ
      go_wp2
      go_ret
      refine ⟨HZ'.out.1, .inl ⟨rfl, ?_, ?_⟩⟩
      ·rw [T.size_eq]; have := HZ'.out.2.1; have := HK.out; omega
      ·rw [T.size_eq, show k - (Tm.sizes T.ks + 1) = k - 1 - Tm.sizes T.ks by omega]; exact HZ'.out.2.2
end Go.Proofs
