import Derived.Test.YtndfbgfpnjnmlaaGreatDoorRNtIns
namespace Go.Proofs
open Go.RowKit
def Tk.Rm (b : Nat) (k : Int) (w : World) : Prop := w.heap[b]? = some (.cells #[.int .i64 k] 65 (0, 0))
theorem Tk.Rm.c0 {b : Nat} {k : Int} {w : World} (h : Tk.Rm b k w) : w.cell? ⟨b, 0, none⟩ = some (.int .i64 k) := by simp only [Tk.Rm] at h; simp [World.cell?, h]
theorem Tk.Rm.f0 {b : Nat} {k : Int} {w : World} (h : Tk.Rm b k w) : w.frozen? ⟨b, 0, none⟩ = false := by simp only [Tk.Rm] at h; simp [World.frozen?, h]
theorem Tk.Rm.lt {b : Nat} {k : Int} {w : World} (h : Tk.Rm b k w) : b < w.heap.size := (Array.getElem?_eq_some_iff.1 h).1
theorem Tk.Rm.put {b : Nat} {k : Int} {w : World} (h : Tk.Rm b k w) (k' : Int) : Tk.Rm b k' (w.setCell ⟨b, 0, none⟩ (.int .i64 k')) := by
 unfold Tk.Rm at *
 simp [World.setCell, Array.getElem?_modify, h]
theorem Tk.Rm.keep {b : Nat} {k : Int} {w w' : World} (h : Tk.Rm b k w) (hk : w'.heap[b]? = w.heap[b]?) : Tk.Rm b k w' := by unfold Tk.Rm; rw [hk]; exact h
def Tk.LargeEnd (T : Tm) (k : Nat) (b : Nat) (w : World) (e : Ending) (w' : World) : Prop :=
 Tk.But (fun i => i = b) w w' ∧ ((e = .returned (.bool false) ∧ T.size ≤ k ∧ Tk.Rm b ((k - T.size : Nat) : Int) w') ∨ e = .returned (.bool true))
set_option maxHeartbeats 4000000 in
theorem Tryz.deep_any : ∀ (d : Nat) (T : Tm) (v : Value) (k b : Nat) (dp : Nat) (B : Nat) (w : World), Tm.Lies w B d v T → B ≤ b → B ≤ w.heap.size → Tk.Rm b k w → k ≤ 1000000 → dp ≤ 1000 →
   Calls Tryz.prog 21 #[.agg #[.int .i64 T.op, .int .i64 T.num, v], .pointer (some ⟨b, 0, none⟩), .int .i64 dp] w fun e w' => Tk.LargeEnd T k b w e w' := by
 intro d
 induction d with
 | zero => intro T v k b dp B w h; exact h.elim
 | succ d ih =>
   intro T v k b dp B w hT hBb hBs hR hk hdp
   obtain ⟨a, cap, rfl⟩ := hT.shape
   obtain ⟨o, ho⟩ : ∃ o, T.op = o := ⟨_, rfl⟩
   obtain ⟨m, hm⟩ : ∃ m, T.num = m := ⟨_, rfl⟩
   obtain ⟨n, hn⟩ : ∃ n, T.ks.length = n := ⟨_, rfl⟩
   rw [ho, hm, hn]
   rw [hn] at hT
   have A0 : Below w.heap.size w (w.alloc (.cells #[.int .i64 o, .int .i64 m, .slice a n cap] 68)) := (Below.refl _ w).alloc (Nat.le_refl _) _
   have R0 : Tk.Rm b k (w.alloc (.cells #[.int .i64 o, .int .i64 m, .slice a n cap] 68)) := hR.keep (A0.block b hR.lt)
   have c0 := R0.c0
   have f0 := R0.f0
   have R1 := R0.put ((k : Int) - 1)
   obtain ⟨w1, hw1⟩ : ∃ w1, (w.alloc (.cells #[.int .i64 o, .int .i64 m, .slice a n cap] 68)).setCell ⟨b, 0, none⟩ (.int .i64 ((k : Int) - 1)) = w1 := ⟨_, rfl⟩
   have X1 : Hid (Tk.But (fun i => i = b) w w1) := by show Tk.But _ _ _; rw [← hw1]; exact (Tk.But.of_below A0).setCell (E := fun i => i = b) (p := ⟨b, 0, none⟩) rfl _
   rw [hw1] at R1
   have g0 := R1.c0
   have hbx : w1.heap[w.heap.size]? = some (.cells #[.int .i64 o, .int .i64 m, .slice a n cap] 68 (0, 0)) := by
    rw [← hw1, Below.heap_setCell _ _ _ _ (by have := hR.lt; show w.heap.size ≠ b; omega)]
    exact heap_alloc_new w _
   have g2 : w1.cell? ⟨w.heap.size, 2, none⟩ = some (.slice a n cap) := by simp [World.cell?, hbx]
   have HW1 : Hid ((w.alloc (.cells #[.int .i64 o, .int .i64 m, .slice a n cap] 68)).setCell ⟨b, 0, none⟩ (.int .i64 ((k : Int) - 1)) = w1) := hw1
   have HT : Hid (Tm.Lies w B (d + 1) (.slice a n cap) T) := hT
   have HI : Hid _ := ih
   have HM : Hid (T.op = o ∧ T.num = m ∧ T.ks.length = n ∧ B ≤ b ∧ B ≤ w.heap.size) := ⟨ho, hm, hn, hBb, hBs⟩
   have HR1 : Hid (Tk.Rm b ((k : Int) - 1) w1) := R1
   have HRl : Hid (b < w.heap.size) := hR.lt
   clear ih hT hR A0 R0 ho hm hn hw1 R1 hbx hBb hBs
   by_cases hbad : (k : Int) - 1 < 0 ∨ 40 < dp ∨ 50 < n
   ·obtain h1 | ⟨h1, h2⟩ | ⟨h1, h2, h3⟩ : decide ((k : Int) - 1 < 0) = true ∨ (decide ((k : Int) - 1 < 0) = false ∧ decide ((40 : Int) < dp) = true) ∨ (decide ((k : Int) - 1 < 0) = false ∧ decide ((40 : Int) < dp) = false ∧ decide ((50 : Int) < n) = true) := by
     simp; omega
    all_goals
     clear hbad
     go_enter Tryz.func21, Tryz.ntmps21
     go_wp2
     go_ret
     exact ⟨by rw [HW1.out]; exact X1.out, .inr rfl⟩
   ·have h1 : decide ((k : Int) - 1 < 0) = false := decide_eq_false (by omega)
    have h2 : decide ((40 : Int) < dp) = false := decide_eq_false (by omega)
    have h3 : decide ((50 : Int) < n) = false := decide_eq_false (by omega)
    have hn100 : n ≤ 100 := by omega
    have hdp' : dp ≤ 100 := by omega
    have HK : Hid (1 ≤ k) := by show 1 ≤ k; omega
    clear hbad
    go_enter Tryz.func21, Tryz.ntmps21
    go_wp2
    rw [HW1.out]
    go_loopg [35] n (fun g i wr => ∃ j : Nat, g + j = n ∧ i = .int .i64 j ∧ Hid (Tk.But (fun i => i = b) w wr ∧ Tm.sizes (T.ks.take j) ≤ k - 1 ∧ Tk.Rm b ((k - 1 - Tm.sizes (T.ks.take j) : Nat) : Int) wr))
    case atStart =>
     refine ⟨0, by omega, rfl, X1.out, by simp [Tm.sizes], ?_⟩
     have := HR1.out
     rw [show (k : Int) - 1 = ((k - 1 : Nat) : Int) by have := HK.out; omega] at this
     simpa [Tm.sizes] using this
    case round =>
     obtain ⟨j, hj, rfl, HJ⟩ := hrel
     by_cases hjn : j < n
     ·have hd : decide ((j : Int) < n) = true := decide_eq_true (by omega)
      have hjk : j < T.ks.length := by rw [HM.out.2.2.1]; exact hjn
      obtain ⟨g, off, u, rfl, hg, q0, q1, q2, q3⟩ := HT.out.kid j hjk
      obtain ⟨x, hx⟩ : ∃ x, T.ks[j] = x := ⟨_, rfl⟩
      rw [hx] at q0 q1 q3
      obtain ⟨au, cu, rfl⟩ := q3.shape
      obtain ⟨nx, hnx⟩ : ∃ n, x.ks.length = n := ⟨_, rfl⟩
      rw [hnx] at q2 q3
      obtain ⟨y0, hy0⟩ : ∃ y, x.op = y := ⟨_, rfl⟩
      obtain ⟨y1, hz1⟩ : ∃ y, x.num = y := ⟨_, rfl⟩
      rw [hy0] at q0
      rw [hz1] at q1
      have hE : ∀ i, i < B → ¬ (i = b) := fun i hi => by have := HM.out; omega
      have hc : ∀ p, wr.cell? ⟨g, p, none⟩ = w.cell? ⟨g, p, none⟩ := fun p => World.cell?_of_block (w := w) (HJ.out.1.block g (by have := HM.out; omega) (hE g hg))
      have hc0 : wr.cell? ⟨g, off + j * 3, none⟩ = some (.int .i64 y0) := by rw [hc]; exact q0
      have hc1 : wr.cell? ⟨g, off + j * 3 + 1, none⟩ = some (.int .i64 y1) := by rw [hc]; exact q1
      have hc2 : wr.cell? ⟨g, off + j * 3 + 2, none⟩ = some (.slice au nx cu) := by rw [hc]; exact q2
      have BA : Hid (Tk.But (fun i => i = b) w (wr.alloc (.cells #[.int .i64 y0, .int .i64 y1, .slice au nx cu] 68))) := HJ.out.1.alloc _
      have hcall := HI.out x (.slice au nx cu) (k - 1 - Tm.sizes (T.ks.take j)) b (dp + 1) B (wr.alloc (.cells #[.int .i64 y0, .int .i64 y1, .slice au nx cu] 68))
       (q3.keep fun i hi => BA.out.block i (by have := HM.out; omega) (hE i hi)) HM.out.2.2.2.1 (by have := HM.out; have := BA.out.size; omega) (HJ.out.2.2.keep (Below.heap_alloc _ _ _ HJ.out.2.2.lt)) (by omega) (by omega)
      rw [hy0, hz1, show ((dp + 1 : Nat) : Int) = (dp : Int) + 1 by omega] at hcall
      have HC : Hid _ := hcall
      have HY : Hid (T.ks[j] = x) := hx
      clear hc q0 q1 q2 q3 hx hy0 hz1 hnx hcall hE g0 g2 c0 f0
      go_wp2_with fail
      refine Calls.mono HC.out ?_
      rintro e W3 ⟨hb3, ⟨rfl, hs3, hr3⟩ | rfl⟩
      ·have B3 : Hid (Tk.But (fun i => i = b) w W3) := BA.out.trans hb3
       have H3 : Hid (x.size ≤ k - 1 - Tm.sizes (T.ks.take j) ∧ Tk.Rm b ((k - 1 - Tm.sizes (T.ks.take j) - x.size : Nat) : Int) W3) := ⟨hs3, hr3⟩
       clear hb3 hs3 hr3 HC
       go_wp2
       go_roundg (gk - 1)
       case measure => omega
       case rel =>
        refine ⟨j + 1, by omega, by go_num, B3.out, ?_, ?_⟩
        ·rw [Tm.sizes_take _ _ hjk, HY.out]; have := H3.out.1; have := HJ.out.2.1; omega
        ·rw [Tm.sizes_take _ _ hjk, HY.out, ← Nat.sub_sub]; exact H3.out.2
      ·have B3 : Hid (Tk.But (fun i => i = b) w W3) := BA.out.trans hb3
       clear hb3 HC
       go_wp2
       go_ret
       exact ⟨B3.out, .inr rfl⟩
     ·have hd : decide ((j : Int) < n) = false := decide_eq_false (by omega)
      have hall : T.ks.take j = T.ks := List.take_of_length_le (by rw [HM.out.2.2.1]; omega)
      have HZ := HJ.out
      rw [hall] at HZ
      have HZ' : Hid _ := HZ
      clear HZ
      go_wp2
      go_ret
      refine ⟨HZ'.out.1, .inl ⟨rfl, ?_, ?_⟩⟩
      ·rw [T.size_eq]; have := HZ'.out.2.1; have := HK.out; omega
      ·rw [T.size_eq, show k - (Tm.sizes T.ks + 1) = k - 1 - Tm.sizes T.ks by omega]; exact HZ'.out.2.2
end Go.Proofs
namespace Go.Proofs
open Go.RowKit
def Nt.LargeEnd (ns : List Nd) (fs : List Fl) (w : World) (e : Ending) (w' : World) : Prop :=
 Below w.heap.size w w' ∧ (e = .returned (.bool true) ∨ (e = .returned (.bool false) ∧ ns.length ≤ 30 ∧ fs.length ≤ 50 ∧ (∀ x, x ∈ ns → x.t.size ≤ 2000) ∧ ∀ x, x ∈ fs → x.c.size ≤ 2000))
set_option maxRecDepth 20000 in
set_option maxHeartbeats 8000000 in
theorem Tryz.nlarge_any (an : Option Addr) (cn : Nat) (af : Option Addr) (cf d : Nat) (ns : List Nd) (fs : List Fl) (w : World) (hN : Nt.Nds w w.heap.size d an ns) (hF : Nt.Fls w w.heap.size d af fs) :
  Calls Tryz.prog 6 #[.agg #[.slice an ns.length cn, .slice af fs.length cf]] w fun e w' => Nt.LargeEnd ns fs w e w' := by
 obtain ⟨n, hnn⟩ : ∃ n, ns.length = n := ⟨_, rfl⟩
 obtain ⟨m, hmm⟩ : ∃ n, fs.length = n := ⟨_, rfl⟩
 rw [hnn, hmm]
 obtain ⟨w0, hw0⟩ : ∃ x, w.alloc (.cells #[.slice an n cn, .slice af m cf] 25) = x := ⟨_, rfl⟩
 have A0 : Below w.heap.size w w0 := by rw [← hw0]; exact (Below.refl _ w).alloc (Nat.le_refl _) _
 by_cases hbig : 30 < n ∨ 50 < m
 ·have HA : Hid (Below w.heap.size w w0) := A0
  have H0 : Hid (w.alloc (.cells #[.slice an n cn, .slice af m cf] 25) = w0) := hw0
  obtain h1 | ⟨h1, h2⟩ : decide ((30 : Int) < n) = true ∨ (decide ((30 : Int) < n) = false ∧ decide ((50 : Int) < m) = true) := by simp; omega
  all_goals
   clear hN hF hnn hmm hw0 A0 hbig
   go_enter Tryz.func6, Tryz.ntmps6
   go_wp2
   go_ret
   rw [H0.out]
   exact ⟨HA.out, .inl rfl⟩
 ·have h1 : decide ((30 : Int) < n) = false := decide_eq_false (by omega)
  have h2 : decide ((50 : Int) < m) = false := decide_eq_false (by omega)
  have hn60 : n ≤ 30 := by omega
  have hm100 : m ≤ 50 := by omega
  obtain ⟨w1, hw1⟩ : ∃ x, w0.alloc (.cells #[.int .i64 2000] 65) = x := ⟨_, rfl⟩
  have hs0 : w0.heap.size = w.heap.size + 1 := by rw [← hw0]; simp
  have A1 : Below w.heap.size w w1 := by rw [← hw1]; exact A0.alloc A0.size _
  have G1 : w1.heap[w.heap.size]? = some (.cells #[.slice an n cn, .slice af m cf] 25 (0, 0)) := by rw [← hw1, Below.heap_alloc _ _ _ (by omega), ← hw0]; exact heap_alloc_new w _
  have R1 : Tk.Rm (w.heap.size + 1) (2000 : Nat) w1 := by
   rw [← hw1, ← hs0]
   exact heap_alloc_new w0 _
  have HH : Hid (Nt.Nds w w.heap.size d an ns ∧ Nt.Fls w w.heap.size d af fs ∧ ns.length = n ∧ fs.length = m) := ⟨hN, hF, hnn, hmm⟩
  have H1 : Hid ((w.alloc (.cells #[.slice an n cn, .slice af m cf] 25)).alloc (.cells #[.int .i64 2000] 65) = w1) := by show _ = _; rw [hw0]; exact hw1
  have HK : Hid (∀ W, Tk.But (fun i => i = w.heap.size + 1) w1 W → Below w.heap.size w W ∧ W.cell? ⟨w.heap.size, 0, none⟩ = some (.slice an n cn) ∧ W.cell? ⟨w.heap.size, 1, none⟩ = some (.slice af m cf)) := fun W hb => by
   have hbl : Below w.heap.size w W := A1.trans (hb.below A1.size (by intro k hk; show ¬ k = w.heap.size + 1; omega))
   have := Nt.box2 ((hb.block _ (Nt.lt_of G1) (by show ¬ w.heap.size = w.heap.size + 1; omega)).trans G1)
   exact ⟨hbl, this.1, this.2⟩
  have HR1 : Hid (Tk.Rm (w.heap.size + 1) (2000 : Nat) w1) := R1
  obtain ⟨p0, p1⟩ := Nt.box2 G1
  clear hN hF hnn hmm hw0 hw1 A0 A1 G1 R1 hbig hs0
  go_enter Tryz.func6, Tryz.ntmps6
  go_wp2
  rw [H1.out]
  go_loopg [23] n (fun gk s23 wr => ∃ (j k : Nat), gk + j = n ∧ s23 = .int .i64 j ∧ Hid (Tk.But (fun i => i = w.heap.size + 1) w1 wr ∧ k ≤ 2000 ∧ Tk.Rm (w.heap.size + 1) ((k : Nat) : Int) wr ∧ ∀ x, x ∈ ns.take j → x.t.size ≤ 2000))
  case atStart => exact ⟨0, 2000, by omega, rfl, Tk.But.refl _ _, Nat.le_refl _, HR1.out, by simp⟩
  case round =>
   obtain ⟨j, k, hj, rfl, HI⟩ := hrel
   obtain ⟨hbl, p2, p3⟩ := HK.out wr HI.out.1
   have HBL : Hid (Below w.heap.size w wr) := hbl
   clear hbl p0 p1 H1
   by_cases hlt : j < n
   ·have hd : decide ((j : Int) < n) = true := decide_eq_true (by omega)
    have hjl : j < ns.length := by rw [HH.out.2.2.1]; exact hlt
    obtain ⟨q, off, u, rfl, hq, c0, c1, c2, c3, c4, hT⟩ := HH.out.1 j hjl
    obtain ⟨x, hx⟩ : ∃ x, ns[j] = x := ⟨_, rfl⟩
    rw [hx] at c0 c1 c2 c3 hT
    obtain ⟨au, cu, rfl⟩ := hT.shape
    obtain ⟨nu, hnu⟩ : ∃ n, x.t.ks.length = n := ⟨_, rfl⟩
    rw [hnu] at c4
    obtain ⟨x0, hx0⟩ : ∃ z, x.kind = z := ⟨_, rfl⟩
    obtain ⟨x1, hx1⟩ : ∃ z, x.a = z := ⟨_, rfl⟩
    obtain ⟨x2, hx2⟩ : ∃ z, x.t.op = z := ⟨_, rfl⟩
    obtain ⟨x3, hx3⟩ : ∃ z, x.t.num = z := ⟨_, rfl⟩
    rw [hx0] at c0
    rw [hx1] at c1
    rw [hx2] at c2
    rw [hx3] at c3
    have hc : ∀ o, wr.cell? ⟨q, o, none⟩ = w.cell? ⟨q, o, none⟩ := fun o => HBL.out.cell (p := ⟨q, o, none⟩) hq
    have d0 := (hc _).trans c0
    have d1 := (hc _).trans c1
    have d2 := (hc _).trans c2
    have d3 := (hc _).trans c3
    have d4 := (hc _).trans c4
    have hu := Tryz.underlying70
    obtain ⟨W0, hW0⟩ : ∃ z, wr.alloc (.cells #[.int .i64 x0, .int .i64 x1, .int .i64 x2, .int .i64 x3, .slice au nu cu] 70) = z := ⟨_, rfl⟩
    have BW0 : Tk.But (fun i => i = w.heap.size + 1) w1 W0 := by rw [← hW0]; exact HI.out.1.alloc _
    have hcall := Tryz.deep_any d x.t (.slice au x.t.ks.length cu) k (w.heap.size + 1) 1 w.heap.size W0 (hT.below (HK.out W0 BW0).1) (by omega) (HK.out W0 BW0).1.size (by rw [← hW0]; exact HI.out.2.2.1.keep (Below.heap_alloc _ _ _ HI.out.2.2.1.lt)) (by have := HI.out.2.1; omega) (by omega)
    rw [hx2, hx3, hnu] at hcall
    have HC : Hid _ := hcall
    have HW0 : Hid (wr.alloc (.cells #[.int .i64 x0, .int .i64 x1, .int .i64 x2, .int .i64 x3, .slice au nu cu] 70) = W0) := hW0
    have HB0 : Hid (Tk.But (fun i => i = w.heap.size + 1) w1 W0) := BW0
    have HX : Hid (ns[j] = x) := hx
    clear hcall hc c0 c1 c2 c3 c4 hT hx hx0 hx1 hx2 hx3 hnu hq hW0 BW0
    go_wp2_with fail
    rw [HW0.out]
    refine Calls.mono HC.out ?_
    rintro e W3 ⟨hb3, ⟨rfl, hs3, hr3⟩ | rfl⟩
    ·have B3 : Hid (Tk.But (fun i => i = w.heap.size + 1) w1 W3) := HB0.out.trans hb3
     have H3 : Hid (x.t.size ≤ k ∧ Tk.Rm (w.heap.size + 1) ((k - x.t.size : Nat) : Int) W3) := ⟨hs3, hr3⟩
     clear hb3 hs3 hr3 HC
     go_wp2
     go_roundg (gk - 1)
     case measure => omega
     case rel =>
      refine ⟨j + 1, k - x.t.size, by omega, by go_num, B3.out, by have := HI.out.2.1; omega, H3.out.2, fun y hy => ?_⟩
      rw [Tm.take_snoc _ _ hjl, List.mem_append] at hy
      rcases hy with hy | hy
      ·exact HI.out.2.2.2 y hy
      ·simp only [List.mem_singleton] at hy
       rw [hy, HX.out]
       have := H3.out.1; have := HI.out.2.1; omega
    ·have B3 : Hid (Below w.heap.size w W3) := (HK.out _ (HB0.out.trans hb3)).1
     clear hb3 HC
     go_wp2
     go_ret
     exact ⟨B3.out, .inl rfl⟩
   ·have hd : decide ((j : Int) < n) = false := decide_eq_false (by omega)
    have HNS : Hid (∀ x, x ∈ ns → x.t.size ≤ 2000) := fun x hx => HI.out.2.2.2 x (by rw [List.take_of_length_le (by rw [HH.out.2.2.1]; omega)]; exact hx)
    go_wp2
    go_loopg [35] m (fun gk s35 wr => ∃ (j k : Nat), gk + j = m ∧ s35 = .int .i64 j ∧ Hid (Tk.But (fun i => i = w.heap.size + 1) w1 wr ∧ k ≤ 2000 ∧ Tk.Rm (w.heap.size + 1) ((k : Nat) : Int) wr ∧ ∀ x, x ∈ fs.take j → x.c.size ≤ 2000))
    case atStart => exact ⟨0, k, by omega, rfl, HI.out.1, HI.out.2.1, HI.out.2.2.1, by simp⟩
    case round =>
     obtain ⟨j2, k2, hj2, rfl, HJ⟩ := hrel
     obtain ⟨hbl, p4, p5⟩ := HK.out wr HJ.out.1
     have HBL2 : Hid (Below w.heap.size w wr) := hbl
     clear hbl p2 p3
     by_cases hlt2 : j2 < m
     ·have hd2 : decide ((j2 : Int) < m) = true := decide_eq_true (by omega)
      have hjl : j2 < fs.length := by rw [HH.out.2.2.2]; exact hlt2
      obtain ⟨q, off, u, rfl, hq, c0, c1, c2, c3, c4, c5, hT⟩ := HH.out.2.1 j2 hjl
      obtain ⟨x, hx⟩ : ∃ x, fs[j2] = x := ⟨_, rfl⟩
      rw [hx] at c0 c1 c2 c3 c4 hT
      obtain ⟨au, cu, rfl⟩ := hT.shape
      obtain ⟨nu, hnu⟩ : ∃ n, x.c.ks.length = n := ⟨_, rfl⟩
      rw [hnu] at c5
      obtain ⟨x0, hx0⟩ : ∃ z, x.fr = z := ⟨_, rfl⟩
      obtain ⟨x1, hx1⟩ : ∃ z, x.to = z := ⟨_, rfl⟩
      obtain ⟨x2, hx2⟩ : ∃ z, x.els = z := ⟨_, rfl⟩
      obtain ⟨x3, hx3⟩ : ∃ z, x.c.op = z := ⟨_, rfl⟩
      obtain ⟨x4, hx4⟩ : ∃ z, x.c.num = z := ⟨_, rfl⟩
      rw [hx0] at c0
      rw [hx1] at c1
      rw [hx2] at c2
      rw [hx3] at c3
      rw [hx4] at c4
      have hc : ∀ o, wr.cell? ⟨q, o, none⟩ = w.cell? ⟨q, o, none⟩ := fun o => HBL2.out.cell (p := ⟨q, o, none⟩) hq
      have d0 := (hc _).trans c0
      have d1 := (hc _).trans c1
      have d2 := (hc _).trans c2
      have d3 := (hc _).trans c3
      have d4 := (hc _).trans c4
      have d5 := (hc _).trans c5
      have hu := Tryz.underlying73
      obtain ⟨W0, hW0⟩ : ∃ z, wr.alloc (.cells #[.int .i64 x0, .int .i64 x1, .bool x2, .int .i64 x3, .int .i64 x4, .slice au nu cu] 73) = z := ⟨_, rfl⟩
      have BW0 : Tk.But (fun i => i = w.heap.size + 1) w1 W0 := by rw [← hW0]; exact HJ.out.1.alloc _
      have hcall := Tryz.deep_any d x.c (.slice au x.c.ks.length cu) k2 (w.heap.size + 1) 1 w.heap.size W0 (hT.below (HK.out W0 BW0).1) (by omega) (HK.out W0 BW0).1.size (by rw [← hW0]; exact HJ.out.2.2.1.keep (Below.heap_alloc _ _ _ HJ.out.2.2.1.lt)) (by have := HJ.out.2.1; omega) (by omega)
      rw [hx3, hx4, hnu] at hcall
      have HC : Hid _ := hcall
      have HW0 : Hid (wr.alloc (.cells #[.int .i64 x0, .int .i64 x1, .bool x2, .int .i64 x3, .int .i64 x4, .slice au nu cu] 73) = W0) := hW0
      have HB0 : Hid (Tk.But (fun i => i = w.heap.size + 1) w1 W0) := BW0
      have HX : Hid (fs[j2] = x) := hx
      clear hcall hc c0 c1 c2 c3 c4 c5 hT hx hx0 hx1 hx2 hx3 hx4 hnu hq hW0 BW0
      go_wp2_with fail
      rw [HW0.out]
      refine Calls.mono HC.out ?_
      rintro e W3 ⟨hb3, ⟨rfl, hs3, hr3⟩ | rfl⟩
      ·have B3 : Hid (Tk.But (fun i => i = w.heap.size + 1) w1 W3) := HB0.out.trans hb3
       have H3 : Hid (x.c.size ≤ k2 ∧ Tk.Rm (w.heap.size + 1) ((k2 - x.c.size : Nat) : Int) W3) := ⟨hs3, hr3⟩
       clear hb3 hs3 hr3 HC
       go_wp2
       go_roundg (gk - 1)
       case measure => omega
       case rel =>
        refine ⟨j2 + 1, k2 - x.c.size, by omega, by go_num, B3.out, by have := HJ.out.2.1; omega, H3.out.2, fun y hy => ?_⟩
        rw [Tm.take_snoc _ _ hjl, List.mem_append] at hy
        rcases hy with hy | hy
        ·exact HJ.out.2.2.2 y hy
        ·simp only [List.mem_singleton] at hy
         rw [hy, HX.out]
         have := H3.out.1; have := HJ.out.2.1; omega
      ·have B3 : Hid (Below w.heap.size w W3) := (HK.out _ (HB0.out.trans hb3)).1
       clear hb3 HC
       go_wp2
       go_ret
       exact ⟨B3.out, .inl rfl⟩
     ·have hd2 : decide ((j2 : Int) < m) = false := decide_eq_false (by omega)
      have HFS : Hid (∀ x, x ∈ fs → x.c.size ≤ 2000) := fun x hx => HJ.out.2.2.2 x (by rw [List.take_of_length_le (by rw [HH.out.2.2.2]; omega)]; exact hx)
      go_wp2
      go_ret
      exact ⟨HBL2.out, .inr ⟨rfl, by rw [HH.out.2.2.1]; exact hn60, by rw [HH.out.2.2.2]; exact hm100, HNS.out, HFS.out⟩⟩
end Go.Proofs
