/-
  The contract of the statements' large: what is not large is small.
-/
import Derived.Test.YtcnhmooogcgglaaDoorTrModel
import Derived.Deep.DeepCutAuto
namespace Go.Proofs
open Go.RowKit
open Go.Proofs.Mk

/-- A room in block b. -/
def Tr.Rm (b : Nat) (k : Int) (w : World) : Prop := w.heap[b]? = some (.cells #[.int .i64 k] 46 (0, 0))
theorem Tr.Rm.c0 {b : Nat} {k : Int} {w : World} (h : Tr.Rm b k w) : w.cell? ⟨b, 0, none⟩ = some (.int .i64 k) := by simp only [Tr.Rm] at h; simp [World.cell?, h]
theorem Tr.Rm.f0 {b : Nat} {k : Int} {w : World} (h : Tr.Rm b k w) : w.frozen? ⟨b, 0, none⟩ = false := by simp only [Tr.Rm] at h; simp [World.frozen?, h]
theorem Tr.Rm.lt {b : Nat} {k : Int} {w : World} (h : Tr.Rm b k w) : b < w.heap.size := (Array.getElem?_eq_some_iff.1 h).1
theorem Tr.Rm.put {b : Nat} {k : Int} {w : World} (h : Tr.Rm b k w) (k' : Int) : Tr.Rm b k' (w.setCell ⟨b, 0, none⟩ (.int .i64 k')) := by
  unfold Tr.Rm at *
  simp [World.setCell, Array.getElem?_modify, h]
theorem Tr.Rm.keep {b : Nat} {k : Int} {w w' : World} (h : Tr.Rm b k w) (hk : w'.heap[b]? = w.heap[b]?) : Tr.Rm b k w' := by unfold Tr.Rm; rw [hk]; exact h

/-- What large comes to. -/
def Tr.LargeEnd (E : El) (k : Nat) (b dp : Nat) (w : World) (e : Ending) (w' : World) : Prop :=
  Tk.But (fun i => i = b) w w' ∧ ((e = .returned (.bool false) ∧ E.weight ≤ k ∧ E.depth + dp ≤ 41 ∧ Tr.Rm b ((k - E.weight : Nat) : Int) w') ∨ e = .returned (.bool true))

set_option maxHeartbeats 8000000 in
set_option maxRecDepth 20000 in
theorem Tryd.large02_any : ∀ (d : Nat) (E : El) (va vk : Value) (k b dp B : Nat) (w : World), El.Lies w (· < B) d va vk E → E.Reach → B ≤ b → B ≤ w.heap.size → Tr.Rm b k w → k ≤ 1000000 → dp ≤ 1000 →
    Calls Tryd.prog 15 #[.agg #[.string E.name, va, vk, .string E.text], .pointer (some ⟨b, 0, none⟩), .int .i64 dp] w fun e w' => Tr.LargeEnd E k b dp w e w' := by
  intro d
  induction d with
  | zero => intro E va vk k b dp B w h; exact h.elim
  | succ d ih =>
    intro E va vk k b dp B w hT hR hBb hBs hRm hk hdp
    obtain ⟨aa, ca, ak, ck, rfl, rfl⟩ := hT.shape
    have hat := hT.attrsP
    obtain ⟨nm, hnm⟩ : ∃ x, E.name = x := ⟨_, rfl⟩
    obtain ⟨tx, htx⟩ : ∃ x, E.text = x := ⟨_, rfl⟩
    obtain ⟨n, hn⟩ : ∃ n, E.kids.length = n := ⟨_, rfl⟩
    obtain ⟨m, hm⟩ : ∃ n, E.attrs.length = n := ⟨_, rfl⟩
    rw [hnm, htx, hn, hm]
    rw [hn, hm] at hT
    rw [hm] at hat
    have hre := hR
    rw [El.reach_eq, hn, htx] at hre
    have htb : tx.size ≤ 140737488355328 := hre.2.1
    have hmb : m ≤ 140737488355328 := by rw [← hm]; exact hre.2.2.1.1
    have hnb : n ≤ 140737488355328 := hre.2.2.2.1
    obtain ⟨w0, hw0⟩ : ∃ x, w.alloc (.cells #[.string nm, .slice aa m ca, .slice ak n ck, .string tx] 42) = x := ⟨_, rfl⟩
    have A0 : Below w.heap.size w w0 := by rw [← hw0]; exact (Below.refl _ w).alloc (Nat.le_refl _) _
    have N0 : w0.heap[w.heap.size]? = some (.cells #[.string nm, .slice aa m ca, .slice ak n ck, .string tx] 42 (0, 0)) := by rw [← hw0]; exact heap_alloc_new w _
    have hRl := hRm.lt
    have hbne : w.heap.size ≠ b := by omega
    have hbne2 : b ≠ w.heap.size := by omega
    have R0 : Tr.Rm b k w0 := hRm.keep (A0.block b hRl)
    have c0 := R0.c0
    have f0 := R0.f0
    have q1 : w0.cell? ⟨w.heap.size, 1, none⟩ = some (.slice aa m ca) := by simp [World.cell?, N0]
    have q2 : w0.cell? ⟨w.heap.size, 2, none⟩ = some (.slice ak n ck) := by simp [World.cell?, N0]
    have q3 : w0.cell? ⟨w.heap.size, 3, none⟩ = some (.string tx) := by simp [World.cell?, N0]
    have R1 := R0.put ((k : Int) - 1 - tx.size)
    obtain ⟨w1, hw1⟩ : ∃ w1, w0.setCell ⟨b, 0, none⟩ (.int .i64 ((k : Int) - 1 - tx.size)) = w1 := ⟨_, rfl⟩
    rw [hw1] at R1
    have X1 : Hid (Tk.But (fun i => i = b) w w1) := by show Tk.But _ _ _; rw [← hw1]; exact (Tk.But.of_below A0).setCell (E := fun i => i = b) (p := ⟨b, 0, none⟩) rfl _
    have N1 : w1.heap[w.heap.size]? = some (.cells #[.string nm, .slice aa m ca, .slice ak n ck, .string tx] 42 (0, 0)) := by
      rw [← hw1, Below.heap_setCell _ _ _ _ (by show w.heap.size ≠ b; omega)]
      exact N0
    have HW0 : Hid _ := hw0
    have HW1 : Hid (w0.setCell ⟨b, 0, none⟩ (.int .i64 ((k : Int) - 1 - tx.size)) = w1) := hw1
    have HT : Hid (El.Lies w (· < B) (d + 1) (.slice aa m ca) (.slice ak n ck) E) := hT
    have HAT : Hid (El.AttrsP w (· < B) (.slice aa m ca) E.attrs) := hat
    have HI : Hid _ := ih
    have HRe : Hid E.Reach := hR
    have HM : Hid (E.kids.length = n ∧ E.attrs.length = m ∧ E.text = tx ∧ B ≤ b ∧ B ≤ w.heap.size) := ⟨hn, hm, htx, hBb, hBs⟩
    have HR1 : Hid (Tr.Rm b ((k : Int) - 1 - tx.size) w1) := R1
    have HN1 : Hid _ := N1
    have HA0 : Hid (Below w.heap.size w w0) := A0
    clear ih hT hR hRm A0 R0 hn hm hnm htx hw0 hw1 R1 hBb hBs hat hre N0 N1
    by_cases hbad : 40 < dp ∨ 100 < n ∨ 100 < m
    · obtain h1 | ⟨h1, h2⟩ | ⟨h1, h2, h3⟩ : decide ((40 : Int) < dp) = true ∨ (decide ((40 : Int) < dp) = false ∧ decide ((100 : Int) < n) = true) ∨ (decide ((40 : Int) < dp) = false ∧ decide ((100 : Int) < n) = false ∧ decide ((100 : Int) < m) = true) := by
        simp; omega
      all_goals
        clear hbad
        go_enter Tryd.func15, Tryd.ntmps15
        go_upto_region 1 with fail
        rw [HW0.out]
        go_wp2
        go_ret
        exact ⟨Tk.But.of_below HA0.out, .inr rfl⟩
    · have h1 : decide ((40 : Int) < dp) = false := decide_eq_false (by omega)
      have h2 : decide ((100 : Int) < n) = false := decide_eq_false (by omega)
      have h3 : decide ((100 : Int) < m) = false := decide_eq_false (by omega)
      have hn100 : n ≤ 100 := by omega
      have hm100 : m ≤ 100 := by omega
      have hdp' : dp ≤ 40 := by omega
      clear hbad
      go_enter Tryd.func15, Tryd.ntmps15
      go_upto_region 1 with fail
      rw [HW0.out]
      go_upto_region 3 with fail
      go_region
      rw [HW1.out]
      have g0 := HR1.out.c0
      clear c0 f0 q1 q2 q3
      by_cases hneg : (k : Int) - 1 - tx.size < 0
      · have h4 : decide ((k : Int) - 1 - tx.size < 0) = true := decide_eq_true hneg
        clear hneg
        go_wp2
        go_ret
        exact ⟨X1.out.drewN 1, .inr rfl⟩
      · have h4 : decide ((k : Int) - 1 - tx.size < 0) = false := decide_eq_false hneg
        have HK : Hid (1 + tx.size ≤ k) := by show _ ≤ _; omega
        have q1 : w1.cell? ⟨w.heap.size, 1, none⟩ = some (.slice aa m ca) := by have := HN1.out; simp [World.cell?, this]
        clear hneg
        go_wp2
        go_loopg [45] m (fun g i wr => ∃ j : Nat, g + j = m ∧ i = .int .i64 j ∧ Hid (Tk.But (fun i => i = b) w wr ∧ El.attrsW (E.attrs.take j) ≤ k - 1 - tx.size ∧ Tr.Rm b ((k - 1 - tx.size - El.attrsW (E.attrs.take j) : Nat) : Int) wr ∧ wr.heap[w.heap.size]? = some (.cells #[.string nm, .slice aa m ca, .slice ak n ck, .string tx] 42 (0, 0))))
        case atStart =>
          refine ⟨0, by omega, rfl, X1.out.drewN 1, by simp [El.attrsW], ?_, HN1.out⟩
          have := HR1.out
          rw [show (k : Int) - 1 - tx.size = ((k - 1 - tx.size : Nat) : Int) by have := HK.out; omega] at this
          exact this
        case round =>
          obtain ⟨j, hj, rfl, HJ⟩ := hrel
          clear q1 g0
          obtain ⟨r, hr⟩ : ∃ r, k - 1 - tx.size - El.attrsW (E.attrs.take j) = r := ⟨_, rfl⟩
          have HRJ : Hid (k - 1 - tx.size - El.attrsW (E.attrs.take j) = r) := hr
          have hrb : r ≤ 1000000 := by omega
          by_cases hjn : j < m
          · have hd : decide ((j : Int) < m) = true := decide_eq_true (by omega)
            have hjk : j < E.attrs.length := by rw [HM.out.2.1]; exact hjn
            obtain ⟨g, off, hav, hg, hc⟩ : ∃ g off, aa = some ⟨g, off, none⟩ ∧ g < B ∧ (w.cell? ⟨g, off + j * 2, none⟩ = some (.string E.attrs[j].1) ∧ w.cell? ⟨g, off + j * 2 + 1, none⟩ = some (.string E.attrs[j].2)) := by
              rcases HAT.out with ⟨a, c, _, h0⟩ | ⟨g, off, cap, hv, _, hg, hr⟩
              · rw [h0] at hjk; simp at hjk
              · obtain ⟨rfl, _, _⟩ := Value.slice.inj hv
                exact ⟨g, off, rfl, hg, hr j hjk⟩
            subst hav
            have hsz : E.attrs[j].1.size ≤ 140737488355328 ∧ E.attrs[j].2.size ≤ 140737488355328 := by have := HRe.out; rw [El.reach_eq] at this; exact this.2.2.1.2 j hjk
            have hst := El.attrsW_take E.attrs j hjk
            obtain ⟨x0, hx0⟩ : ∃ x, E.attrs[j].1 = x := ⟨_, rfl⟩
            obtain ⟨x1, hx1⟩ : ∃ x, E.attrs[j].2 = x := ⟨_, rfl⟩
            rw [hx0, hx1] at hc hsz hst
            have hcb : ∀ o, wr.cell? ⟨g, o, none⟩ = w.cell? ⟨g, o, none⟩ := fun o => World.cell?_of_block (w := w) (HJ.out.1.block g (by have := HM.out; omega) (by show ¬ g = b; have := HM.out; omega))
            have k0 : wr.cell? ⟨g, off + j * 2, none⟩ = some (.string x0) := by rw [hcb]; exact hc.1
            have k1 : wr.cell? ⟨g, off + j * 2 + 1, none⟩ = some (.string x1) := by rw [hcb]; exact hc.2
            obtain ⟨wa, hwa⟩ : ∃ y, wr.alloc (.cells #[.string x0, .string x1] 67) = y := ⟨_, rfl⟩
            have Aa : Below wr.heap.size wr wa := by rw [← hwa]; exact (Below.refl _ wr).alloc (Nat.le_refl _) _
            have hma : wa.heap[wr.heap.size]? = some (.cells #[.string x0, .string x1] 67 (0, 0)) := by rw [← hwa]; exact heap_alloc_new wr _
            have m0 : wa.cell? ⟨wr.heap.size, 0, none⟩ = some (.string x0) := by simp [World.cell?, hma]
            have m1 : wa.cell? ⟨wr.heap.size, 1, none⟩ = some (.string x1) := by simp [World.cell?, hma]
            have RA : Tr.Rm b (r : Int) wa := by have := HJ.out.2.2.1; rw [hr] at this; exact this.keep (Aa.block b this.lt)
            have c0 := RA.c0
            have f0 := RA.f0
            have hbr : b < wr.heap.size := HJ.out.2.2.1.lt
            have hb3 : b ≠ wr.heap.size := by omega
            have hb4 : wr.heap.size ≠ b := by omega
            have HWA : Hid _ := hwa
            have R2 := RA.put ((r : Int) - 1 - x0.size - x1.size)
            obtain ⟨wb, hwb⟩ : ∃ y, wa.setCell ⟨b, 0, none⟩ (.int .i64 ((r : Int) - 1 - x0.size - x1.size)) = y := ⟨_, rfl⟩
            rw [hwb] at R2
            have HWB : Hid (wa.setCell ⟨b, 0, none⟩ (.int .i64 ((r : Int) - 1 - x0.size - x1.size)) = wb) := hwb
            have HB : Hid (Tk.But (fun i => i = b) w wb ∧ wb.heap[w.heap.size]? = some (.cells #[.string nm, .slice (some ⟨g, off, none⟩) m ca, .slice ak n ck, .string tx] 42 (0, 0)) ∧ Tr.Rm b ((r : Int) - 1 - x0.size - x1.size) wb) := by
              refine ⟨?_, ?_, R2⟩
              · rw [← hwb]; exact (HJ.out.1.trans (Tk.But.of_below Aa)).setCell (E := fun i => i = b) (p := ⟨b, 0, none⟩) rfl _
              · rw [← hwb, Below.heap_setCell _ _ _ _ (by show w.heap.size ≠ b; exact hbne), Aa.block _ (Array.getElem?_eq_some_iff.1 HJ.out.2.2.2).1]; exact HJ.out.2.2.2
            have g0 := R2.c0
            have hs0 := hsz.1
            have hs1 := hsz.2
            have HST : Hid (El.attrsW (E.attrs.take (j + 1)) = El.attrsW (E.attrs.take j) + (1 + x0.size + x1.size)) := hst
            have lg : g < wr.heap.size := by have := HM.out; have := HJ.out.1.size; omega
            clear hc hcb hx0 hx1 hr hsz hst hwa hwb Aa hma RA R2
            go_upto_region 9 with fail
            rw [HWA.out]
            go_region
            rw [HWB.out]
            clear c0 f0 m0 m1 k0 k1
            by_cases hneg : (r : Int) - 1 - x0.size - x1.size < 0
            · have h5 : decide ((r : Int) - 1 - x0.size - x1.size < 0) = true := decide_eq_true hneg
              clear hneg
              go_wp2
              go_ret
              exact ⟨HB.out.1.drewN 1, .inr rfl⟩
            · have h5 : decide ((r : Int) - 1 - x0.size - x1.size < 0) = false := decide_eq_false hneg
              have HN : Hid (1 + x0.size + x1.size ≤ r) := by show _ ≤ _; omega
              clear hneg
              go_wp2
              go_roundg (gk - 1)
              case measure => omega
              case rel =>
                refine ⟨j + 1, by omega, by go_num, HB.out.1.drewN 1, ?_, ?_, HB.out.2.1⟩
                · rw [HST.out]; have := HRJ.out; have := HN.out; have := HJ.out.2.1; omega
                · have h6 := HB.out.2.2
                  rw [HST.out, show (k - 1 - tx.size - (El.attrsW (E.attrs.take j) + (1 + x0.size + x1.size)) : Nat) = r - 1 - x0.size - x1.size by have := HRJ.out; omega]
                  rw [show (r : Int) - 1 - x0.size - x1.size = ((r - 1 - x0.size - x1.size : Nat) : Int) by have := HN.out; omega] at h6
                  exact h6
          · have hd : decide ((j : Int) < m) = false := decide_eq_false (by omega)
            have hall : E.attrs.take j = E.attrs := List.take_of_length_le (by rw [HM.out.2.1]; omega)
            have HZ := HJ.out
            have HRJ2 := HRJ.out
            rw [hall] at HZ HRJ2
            rw [HRJ2] at HZ
            have HZ' : Hid (Tk.But (fun i => i = b) w wr ∧ El.attrsW E.attrs + (1 + tx.size) + r = k ∧ Tr.Rm b (r : Int) wr ∧ wr.heap[w.heap.size]? = some (.cells #[.string nm, .slice aa m ca, .slice ak n ck, .string tx] 42 (0, 0))) := ⟨HZ.1, by have := HZ.2.1; have := HK.out; omega, HZ.2.2⟩
            have q2 : wr.cell? ⟨w.heap.size, 2, none⟩ = some (.slice ak n ck) := by have := HZ.2.2.2; simp [World.cell?, this]
            clear HZ hall hr HRJ2 HJ HRJ
            go_wp2
            go_loopg [74] n (fun g i wr => ∃ j : Nat, g + j = n ∧ i = .int .i64 j ∧ Hid (Tk.But (fun i => i = b) w wr ∧ El.weights (E.kids.take j) ≤ r ∧ El.depths (E.kids.take j) + dp ≤ 40 ∧ Tr.Rm b ((r - El.weights (E.kids.take j) : Nat) : Int) wr))
            case atStart => exact ⟨0, by omega, rfl, HZ'.out.1, by simp [El.weights], by simp [El.depths]; omega, by simpa [El.weights] using HZ'.out.2.2.1⟩
            case round =>
              obtain ⟨i, hi, rfl, HJ⟩ := hrel
              clear q2
              by_cases hin : i < n
              · have hd : decide ((i : Int) < n) = true := decide_eq_true (by omega)
                have hik : i < E.kids.length := by rw [HM.out.1]; exact hin
                obtain ⟨g, off, ua, uk, rfl, hg, p0, p1, p2, p3, p4⟩ := HT.out.kid i hik
                obtain ⟨x, hx⟩ : ∃ x, E.kids[i] = x := ⟨_, rfl⟩
                rw [hx] at p0 p3 p4
                obtain ⟨xa, xc, xk, xd, rfl, rfl⟩ := p4.shape
                obtain ⟨xn, hxn⟩ : ∃ n, x.name = n := ⟨_, rfl⟩
                obtain ⟨xt, hxt⟩ : ∃ n, x.text = n := ⟨_, rfl⟩
                obtain ⟨xm, hxm⟩ : ∃ n, x.attrs.length = n := ⟨_, rfl⟩
                obtain ⟨xl, hxl⟩ : ∃ n, x.kids.length = n := ⟨_, rfl⟩
                rw [hxn] at p0
                rw [hxt] at p3
                rw [hxm] at p1 p4
                rw [hxl] at p2 p4
                have hE : ∀ y, y < B → ¬ (y = b) := fun y hy => by have := HM.out; omega
                have hcb : ∀ o, wr.cell? ⟨g, o, none⟩ = w.cell? ⟨g, o, none⟩ := fun o => World.cell?_of_block (w := w) (HJ.out.1.block g (by have := HM.out; omega) (hE g hg))
                have k0 : wr.cell? ⟨g, off + i * 4, none⟩ = some (.string xn) := by rw [hcb]; exact p0
                have k1 : wr.cell? ⟨g, off + i * 4 + 1, none⟩ = some (.slice xa xm xc) := by rw [hcb]; exact p1
                have k2 : wr.cell? ⟨g, off + i * 4 + 2, none⟩ = some (.slice xk xl xd) := by rw [hcb]; exact p2
                have k3 : wr.cell? ⟨g, off + i * 4 + 3, none⟩ = some (.string xt) := by rw [hcb]; exact p3
                obtain ⟨wa, hwa⟩ : ∃ y, wr.alloc (.cells #[.string xn, .slice xa xm xc, .slice xk xl xd, .string xt] 42) = y := ⟨_, rfl⟩
                have hma : wa.heap[wr.heap.size]? = some (.cells #[.string xn, .slice xa xm xc, .slice xk xl xd, .string xt] 42 (0, 0)) := by rw [← hwa]; exact heap_alloc_new wr _
                have BA : Hid (Tk.But (fun i => i = b) w wa) := by show Tk.But _ _ _; rw [← hwa]; exact HJ.out.1.alloc _
                have hcall := HI.out x (.slice xa xm xc) (.slice xk xl xd) (r - El.weights (E.kids.take i)) b (dp + 1) B wa (p4.keep (fun y hy => BA.out.block y (by have := HM.out; omega) (hE y hy)) fun _ h => h) (by rw [← hx]; have := HRe.out; rw [El.reach_eq] at this; exact El.reachs_get _ this.2.2.2.2 i hik)
                  HM.out.2.2.2.1 (by have := HM.out; have := BA.out.size; omega) (HJ.out.2.2.2.keep (by rw [← hwa]; exact Below.heap_alloc _ _ _ HJ.out.2.2.2.lt)) (by omega) (by omega)
                rw [hxn, hxt, show ((dp + 1 : Nat) : Int) = (dp : Int) + 1 by omega] at hcall
                have HC : Hid _ := hcall
                have HX : Hid (E.kids[i] = x) := hx
                have HWA : Hid _ := hwa
                have hu := Tryd.underlying42
                have lg : g < wr.heap.size := by have := HM.out; have := HJ.out.1.size; omega
                clear hcb p0 p1 p2 p3 p4 hx hxn hxt hxm hxl hcall hwa hE
                go_wp2_with (first | (refine wpList_load_row rfl 42 _ rfl _ rfl 42 _ (0, 0) _ hma hu rfl (by kernel_rfl) ?_) | fail)
                rw [HWA.out]
                refine Calls.mono HC.out ?_
                rintro e W3 ⟨hb3, ⟨rfl, hs3, hd3, hr3⟩ | rfl⟩
                · have B3 : Hid (Tk.But (fun i => i = b) w W3) := BA.out.trans hb3
                  have H3 : Hid (x.weight ≤ r - El.weights (E.kids.take i) ∧ x.depth + (dp + 1) ≤ 41 ∧ Tr.Rm b ((r - El.weights (E.kids.take i) - x.weight : Nat) : Int) W3) := ⟨hs3, hd3, hr3⟩
                  clear hb3 hs3 hd3 hr3 HC HWA hma k0 k1 k2 k3
                  go_wp2
                  go_roundg (gk - 1)
                  case measure => omega
                  case rel =>
                    refine ⟨i + 1, by omega, by go_num, B3.out, ?_, ?_, ?_⟩
                    · rw [El.weights_take _ _ hik, HX.out]; have := H3.out.1; have := HJ.out.2.1; omega
                    · rw [El.depths_take _ _ hik, HX.out]; have := H3.out.2.1; have := HJ.out.2.2.1; omega
                    · rw [El.weights_take _ _ hik, HX.out, ← Nat.sub_sub]; exact H3.out.2.2
                · have B3 : Hid (Tk.But (fun i => i = b) w W3) := BA.out.trans hb3
                  clear hb3 HC HWA hma k0 k1 k2 k3
                  go_wp2
                  go_ret
                  exact ⟨B3.out, .inr rfl⟩
              · have hd : decide ((i : Int) < n) = false := decide_eq_false (by omega)
                have hall : E.kids.take i = E.kids := List.take_of_length_le (by rw [HM.out.1]; omega)
                have HZ := HJ.out
                rw [hall] at HZ
                have HZ2 : Hid _ := HZ
                clear HZ hall
                go_wp2
                go_ret
                have h7 := E.weight_eq
                rw [HM.out.2.2.1] at h7
                have h8 := HZ'.out.2.1
                have h9 := HZ2.out
                refine ⟨h9.1, .inl ⟨rfl, by omega, by rw [E.depth_eq]; omega, ?_⟩⟩
                rw [show k - E.weight = r - El.weights E.kids by omega]
                exact h9.2.2.2

end Go.Proofs
