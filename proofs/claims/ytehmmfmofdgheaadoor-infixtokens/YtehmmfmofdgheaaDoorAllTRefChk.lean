/-
  The contracts of the document's Depth and form. · The contract of the document's form. · The contracts of the document's typed, Wrong and Check. · The contracts of the document's Wrong and Check.
-/
import Derived.Test.YtehmmfmofdgheaaDoorAllTChk
namespace Go.Proofs
open Go.RowKit

set_option maxHeartbeats 4000000 in
theorem Tryd.depth_any : ∀ (d : Nat) (T : Tm) (v : Value) (w : World), Tm.Lies w w.heap.size d v T → T.size ≤ 2147483647 →
    Calls Tryd.prog 69 #[.agg #[.int .i64 T.op, .int .i64 T.num, v]] w fun e w' => e = .returned (.int .i64 T.depth) ∧ Below w.heap.size w w' := by
  intro d
  induction d with
  | zero => intro T v w h; exact h.elim
  | succ d ih =>
    intro T v w hT hsz
    obtain ⟨a, cap, rfl⟩ := hT.shape
    obtain ⟨o, ho⟩ : ∃ m, T.op = m := ⟨_, rfl⟩
    obtain ⟨m, hm⟩ : ∃ m, T.num = m := ⟨_, rfl⟩
    obtain ⟨n, hn⟩ : ∃ n, T.ks.length = n := ⟨_, rfl⟩
    have hnb : n ≤ 2147483647 := by have h1 := Tm.length_le_sizes T.ks; have h2 := T.size_eq; omega
    rw [ho, hm, hn]
    rw [hn] at hT
    have HT : Hid (Tm.Lies w w.heap.size (d + 1) (.slice a n cap) T) := hT
    have HM : Hid (T.op = o ∧ T.num = m ∧ T.ks.length = n ∧ T.size ≤ 2147483647) := ⟨ho, hm, hn, hsz⟩
    have HI : Hid _ := ih
    have A0 : Hid (Below w.heap.size w (w.alloc (.cells #[.int .i64 o, .int .i64 m, .slice a n cap] 37))) := (Below.refl _ w).alloc (Nat.le_refl _) _
    clear ih hT ho hm hn hsz
    go_enter Tryd.func69, Tryd.ntmps69
    go_wp2
    go_loopg [3, 10] n (fun g s i wr => ∃ j t : Nat, g + j = n ∧ i = .int .i64 j ∧ s = .int .i64 t ∧ t ≤ 2147483647 ∧ Hid (Below w.heap.size w wr ∧ Tm.depths (T.ks.take j) = t))
    case atStart => exact ⟨0, 0, by omega, rfl, rfl, by omega, A0.out, by simp [Tm.depths]⟩
    case round =>
      obtain ⟨j, t, hj, rfl, rfl, ht, HJ⟩ := hrel
      by_cases hjn : j < n
      · have hd : decide ((j : Int) < n) = true := decide_eq_true (by omega)
        have hjk : j < T.ks.length := by rw [HM.out.2.2.1]; exact hjn
        obtain ⟨g, off, u, rfl, hg, q0, q1, q2, q3⟩ := HT.out.kid j hjk
        have hxs := Tm.sizes_get T.ks j hjk
        obtain ⟨x, hx⟩ : ∃ x, T.ks[j] = x := ⟨_, rfl⟩
        rw [hx] at q0 q1 q3 hxs
        obtain ⟨au, cu, rfl⟩ := q3.shape
        obtain ⟨nx, hnx⟩ : ∃ n, x.ks.length = n := ⟨_, rfl⟩
        rw [hnx] at q2 q3
        obtain ⟨y0, hy0⟩ : ∃ y, x.op = y := ⟨_, rfl⟩
        obtain ⟨y1, hz1⟩ : ∃ y, x.num = y := ⟨_, rfl⟩
        rw [hy0] at q0
        rw [hz1] at q1
        have hc : ∀ p, wr.cell? ⟨g, p, none⟩ = w.cell? ⟨g, p, none⟩ := fun p => HJ.out.1.cell (p := ⟨g, p, none⟩) hg
        have hc0 : wr.cell? ⟨g, off + j * 3, none⟩ = some (.int .i64 y0) := by rw [hc]; exact q0
        have hc1 : wr.cell? ⟨g, off + j * 3 + 1, none⟩ = some (.int .i64 y1) := by rw [hc]; exact q1
        have hc2 : wr.cell? ⟨g, off + j * 3 + 2, none⟩ = some (.slice au nx cu) := by rw [hc]; exact q2
        have BA : Hid (Below w.heap.size w (wr.alloc (.cells #[.int .i64 y0, .int .i64 y1, .slice au nx cu] 37))) := HJ.out.1.alloc HJ.out.1.size _
        have hcall := HI.out x (.slice au nx cu) _ ((q3.below BA.out).wider BA.out.size) (by have := HM.out.2.2.2; have := T.size_eq; omega)
        rw [hy0, hz1] at hcall
        obtain ⟨dx, hdx⟩ : ∃ y, x.depth = y := ⟨_, rfl⟩
        rw [hdx] at hcall
        have hdb : dx ≤ 2147483647 := by rw [← hdx]; exact Nat.le_trans (Tm.depth_le_size x) (by have := HM.out.2.2.2; have := T.size_eq; omega)
        have HC : Hid _ := hcall
        have HY : Hid (T.ks[j] = x ∧ x.depth = dx) := ⟨hx, hdx⟩
        clear hc q0 q1 q2 q3 hx hy0 hz1 hnx hcall hxs hdx
        go_wp2_with fail
        refine Calls.mono HC.out ?_
        rintro e W3 ⟨rfl, b3⟩
        have B3 : Hid (Below w.heap.size w W3) := BA.out.trans (b3.mono BA.out.size)
        clear b3 HC
        by_cases hlt : t < dx
        · have hd2 : decide ((t : Int) < dx) = true := decide_eq_true (by omega)
          go_wp2
          go_roundg (gk - 1)
          case measure => omega
          case rel =>
            refine ⟨j + 1, dx, by omega, by go_num, rfl, hdb, B3.out, ?_⟩
            rw [Tm.depths_take _ _ hjk, HY.out.1, HY.out.2, HJ.out.2]
            omega
        · have hd2 : decide ((t : Int) < dx) = false := decide_eq_false (by omega)
          go_wp2
          go_roundg (gk - 1)
          case measure => omega
          case rel =>
            refine ⟨j + 1, t, by omega, by go_num, rfl, ht, B3.out, ?_⟩
            rw [Tm.depths_take _ _ hjk, HY.out.1, HY.out.2, HJ.out.2]
            omega
      · have hd : decide ((j : Int) < n) = false := decide_eq_false (by omega)
        have hall : T.ks.take j = T.ks := List.take_of_length_le (by rw [HM.out.2.2.1]; omega)
        have HZ : Hid (T.depth = t + 1) := by
          show _ = _
          rw [T.depth_eq, ← hall, HJ.out.2]
        go_wp2
        go_ret
        refine ⟨Tk.ret_int ?_, HJ.out.1⟩
        rw [HZ.out]
        omega

end Go.Proofs

namespace Go.Proofs
open Go.RowKit

theorem Tm.formedB_iff (op n : Int) (len : Nat) : Tm.formedB op n len = true ↔ 1 ≤ op ∧ op ≤ 14 ∧ len = Tm.kidsOf op ∧ 0 ≤ n ∧ n ≤ Tm.mostOf op := by simp [Tm.formedB]

/-- Of a term whose own form is wrong. -/
def Tm.Bad1 (op n : Int) (len : Nat) : Prop := op < 1 ∨ 14 < op ∨ len ≠ Tm.kidsOf op ∨ n < 0

set_option maxHeartbeats 4000000 in
theorem Tryd.form_bad1 (o m : Int) (a : Option Addr) (n cap : Nat) (w : World) (h : Tm.Bad1 o m n) :
    Calls Tryd.prog 70 #[.agg #[.int .i64 o, .int .i64 m, .slice a n cap]] w fun e w' => e = .returned (.bool false) ∧ Below w.heap.size w w' := by
  have A0 : Hid (∀ k, Below w.heap.size w ((w.alloc (.cells #[.int .i64 o, .int .i64 m, .slice a n cap] 37)).drewN k)) := fun k => Tk.below_drewN ((Below.refl _ w).alloc (Nat.le_refl _) _) k
  by_cases h1 : o < 1
  · have d1 : decide (o < 1) = true := decide_eq_true h1
    clear h h1
    go_enter Tryd.func70, Tryd.ntmps70
    go_wp2
    go_quiet (fail)
    go_wp2
    go_ret
    exact ⟨rfl, A0.out _⟩
  · have d1 : decide (o < 1) = false := decide_eq_false h1
    by_cases h2 : 14 < o
    · have d2 : decide (14 < o) = true := decide_eq_true h2
      clear h h1 h2
      go_enter Tryd.func70, Tryd.ntmps70
      go_wp2
      go_quiet (fail)
      go_wp2
      go_ret
      exact ⟨rfl, A0.out _⟩
    · have d2 : decide (14 < o) = false := decide_eq_false h2
      have hk := fun W => Tryd.refKids_any o W
      obtain ⟨kk, hkk⟩ : ∃ k, Tm.kidsOf o = k := ⟨_, rfl⟩
      rw [hkk] at hk
      have HK : Hid _ := hk
      clear hk
      by_cases h3 : n = kk
      · have h4 : m < 0 := by
          rcases h with h | h | h | h
          · exact absurd h h1
          · exact absurd h h2
          · exact absurd (h3.trans hkk.symm) h
          · exact h
        have d4 : decide (m < 0) = true := decide_eq_true h4
        subst h3
        clear h h1 h2 h4 hkk
        go_enter Tryd.func70, Tryd.ntmps70
        go_wp2
        go_quiet ((go_at_call 77; exact Calls.quiet_of_same (HK.out _)))
        go_wp2
        go_ret
        exact ⟨rfl, A0.out _⟩
      · have d3 : ((n : Int) != (kk : Int)) = true := by simp; omega
        clear h h1 h2 h3 hkk
        go_enter Tryd.func70, Tryd.ntmps70
        go_wp2
        go_quiet ((go_at_call 77; exact Calls.quiet_of_same (HK.out _)))
        go_wp2
        go_ret
        exact ⟨rfl, A0.out _⟩

set_option maxHeartbeats 4000000 in
theorem Tryd.form_leaf (o m : Int) (a : Option Addr) (cap : Nat) (w : World) (ho : o = 1 ∨ o = 2) (hm : 0 ≤ m) :
    Calls Tryd.prog 70 #[.agg #[.int .i64 o, .int .i64 m, .slice a 0 cap]] w fun e w' => e = .returned (.bool (decide (m ≤ Tm.mostOf o))) ∧ Below w.heap.size w w' := by
  have A0 : Hid (∀ k, Below w.heap.size w ((w.alloc (.cells #[.int .i64 o, .int .i64 m, .slice a 0 cap] 37)).drewN k)) := fun k => Tk.below_drewN ((Below.refl _ w).alloc (Nat.le_refl _) _) k
  have d4 : decide (m < 0) = false := decide_eq_false (by omega)
  rcases ho with rfl | rfl
  · have hk : ∀ W, Calls Tryd.prog 77 #[.int .i64 1] W fun e w' => e = .returned (.int .i64 (0 : Nat)) ∧ w' = W := fun W => Tryd.refKids_any 1 W
    have HK : Hid _ := hk
    clear hk
    by_cases h : m ≤ 1099511627776
    · have d5 : decide ((1099511627776 : Int) < m) = false := decide_eq_false (by omega)
      have HD : Hid (decide (m ≤ Tm.mostOf 1) = true) := decide_eq_true (by simpa [Tm.mostOf] using h)
      clear h hm
      go_enter Tryd.func70, Tryd.ntmps70
      go_wp2
      go_quiet ((go_at_call 77; exact Calls.quiet_of_same (HK.out _)))
      go_wp2
      refine wp_loop_rounds 1 ?_
      rw [rounds_succ]
      go_wp2
      go_ret
      exact ⟨Tk.ret_bool HD.out.symm, A0.out _⟩
    · have d5 : decide ((1099511627776 : Int) < m) = true := decide_eq_true (by omega)
      have HD : Hid (decide (m ≤ Tm.mostOf 1) = false) := decide_eq_false (by simpa [Tm.mostOf] using h)
      clear h hm
      go_enter Tryd.func70, Tryd.ntmps70
      go_wp2
      go_quiet ((go_at_call 77; exact Calls.quiet_of_same (HK.out _)))
      go_wp2
      go_ret
      exact ⟨Tk.ret_bool HD.out.symm, A0.out _⟩
  · have hk : ∀ W, Calls Tryd.prog 77 #[.int .i64 2] W fun e w' => e = .returned (.int .i64 (0 : Nat)) ∧ w' = W := fun W => Tryd.refKids_any 2 W
    have HK : Hid _ := hk
    clear hk
    by_cases h : m ≤ 3
    · have d5 : decide ((3 : Int) < m) = false := decide_eq_false (by omega)
      have HD : Hid (decide (m ≤ Tm.mostOf 2) = true) := decide_eq_true (by simpa [Tm.mostOf] using h)
      clear h hm
      go_enter Tryd.func70, Tryd.ntmps70
      go_wp2
      go_quiet ((go_at_call 77; exact Calls.quiet_of_same (HK.out _)))
      go_wp2
      refine wp_loop_rounds 1 ?_
      rw [rounds_succ]
      go_wp2
      go_ret
      exact ⟨Tk.ret_bool HD.out.symm, A0.out _⟩
    · have d5 : decide ((3 : Int) < m) = true := decide_eq_true (by omega)
      have HD : Hid (decide (m ≤ Tm.mostOf 2) = false) := decide_eq_false (by simpa [Tm.mostOf] using h)
      clear h hm
      go_enter Tryd.func70, Tryd.ntmps70
      go_wp2
      go_quiet ((go_at_call 77; exact Calls.quiet_of_same (HK.out _)))
      go_wp2
      go_ret
      exact ⟨Tk.ret_bool HD.out.symm, A0.out _⟩

set_option maxHeartbeats 4000000 in
theorem Tryd.form_bad2 (o m : Int) (a : Option Addr) (n cap : Nat) (w : World) (h1 : 2 < o) (h2 : o ≤ 14) (h3 : n = Tm.kidsOf o) (h4 : 0 < m) :
    Calls Tryd.prog 70 #[.agg #[.int .i64 o, .int .i64 m, .slice a n cap]] w fun e w' => e = .returned (.bool false) ∧ Below w.heap.size w w' := by
  have A0 : Hid (∀ k, Below w.heap.size w ((w.alloc (.cells #[.int .i64 o, .int .i64 m, .slice a n cap] 37)).drewN k)) := fun k => Tk.below_drewN ((Below.refl _ w).alloc (Nat.le_refl _) _) k
  have hk := fun W => Tryd.refKids_any o W
  rw [← h3] at hk
  have HK : Hid _ := hk
  have d1 : decide (o < 1) = false := decide_eq_false (by omega)
  have d2 : decide (14 < o) = false := decide_eq_false (by omega)
  have d4 : decide (m < 0) = false := decide_eq_false (by omega)
  have e1 : (o == 1) = false := by simp; omega
  have e2 : (o == 2) = false := by simp; omega
  have d5 : decide (2 < o) = true := decide_eq_true h1
  have e3 : (m != 0) = true := by simp; omega
  clear hk h1 h2 h3 h4
  go_enter Tryd.func70, Tryd.ntmps70
  go_wp2
  go_quiet ((go_at_call 77; exact Calls.quiet_of_same (HK.out _)))
  go_wp2
  go_ret
  exact ⟨rfl, A0.out _⟩

set_option maxHeartbeats 4000000 in
theorem Tryd.form_any : ∀ (d : Nat) (T : Tm) (v : Value) (w : World), Tm.Lies w w.heap.size d v T →
    Calls Tryd.prog 70 #[.agg #[.int .i64 T.op, .int .i64 T.num, v]] w fun e w' => e = .returned (.bool T.allForm) ∧ Below w.heap.size w w' := by
  intro d
  induction d with
  | zero => intro T v w h; exact h.elim
  | succ d ih =>
    intro T v w hT
    obtain ⟨a, cap, rfl⟩ := hT.shape
    by_cases hb : Tm.Bad1 T.op T.num T.ks.length
    · have : T.allForm = false := by
        cases h : T.allForm
        · rfl
        · have := (Tm.formedB_iff _ _ _).1 (Tm.formed_of_all h).1
          rcases hb with h | h | h | h
          · omega
          · omega
          · exact absurd this.2.2.1 h
          · omega
      rw [this]
      exact Tryd.form_bad1 _ _ _ _ _ w hb
    · have g1 : 1 ≤ T.op := by
        rcases Int.lt_or_le T.op 1 with h | h
        · exact absurd (.inl h) hb
        · exact h
      have g2 : T.op ≤ 14 := by
        rcases Int.lt_or_le 14 T.op with h | h
        · exact absurd (.inr (.inl h)) hb
        · exact h
      have g3 : T.ks.length = Tm.kidsOf T.op := by
        rcases Nat.decEq T.ks.length (Tm.kidsOf T.op) with h | h
        · exact absurd (.inr (.inr (.inl h))) hb
        · exact h
      have g4 : 0 ≤ T.num := by
        rcases Int.lt_or_le T.num 0 with h | h
        · exact absurd (.inr (.inr (.inr h))) hb
        · exact h
      by_cases hleaf : T.op = 1 ∨ T.op = 2
      · have hz : T.ks.length = 0 := by rw [g3]; unfold Tm.kidsOf; rw [if_pos (by omega)]
        have hks : T.ks = [] := List.length_eq_zero_iff.1 hz
        have : T.allForm = decide (T.num ≤ Tm.mostOf T.op) := by
          rw [T.allForm_eq, hks, Bool.eq_iff_iff]
          simp only [Tm.allForms, Bool.and_true, Tm.formedB_iff, decide_eq_true_eq]
          rw [hks] at g3
          exact ⟨fun h => h.2.2.2.2, fun h => ⟨g1, g2, g3, g4, h⟩⟩
        rw [this, hz]
        exact Tryd.form_leaf T.op T.num a cap w hleaf g4
      · have hm0 : Tm.mostOf T.op = 0 := by unfold Tm.mostOf; rw [if_neg (by omega), if_neg (by omega)]
        by_cases hn0 : 0 < T.num
        · have : T.allForm = false := by
            cases h : T.allForm
            · rfl
            · have := (Tm.formedB_iff _ _ _).1 (Tm.formed_of_all h).1
              omega
          rw [this]
          exact Tryd.form_bad2 _ _ _ _ _ w (by omega) g2 g3 hn0
        · have hq : T.num = 0 := by omega
          have hfb : T.allForm = Tm.allForms T.ks := by
            rw [T.allForm_eq, (Tm.formedB_iff _ _ _).2 ⟨g1, g2, g3, g4, by omega⟩]; rfl
          rw [hq]
          obtain ⟨o, ho⟩ : ∃ m, T.op = m := ⟨_, rfl⟩
          obtain ⟨n, hn⟩ : ∃ n, T.ks.length = n := ⟨_, rfl⟩
          have hn2 : n ≤ 2 := by rw [← hn, g3]; unfold Tm.kidsOf; (repeat' split) <;> omega
          rw [ho, hn]
          rw [hn] at hT
          have hk := fun W => Tryd.refKids_any T.op W
          rw [← g3, ho, hn] at hk
          have HK : Hid _ := hk
          have d1 : decide (o < 1) = false := decide_eq_false (by omega)
          have d2 : decide (14 < o) = false := decide_eq_false (by omega)
          have e1 : (o == 1) = false := by simp; omega
          have e2 : (o == 2) = false := by simp; omega
          have d5 : decide (2 < o) = true := decide_eq_true (by omega)
          have HT : Hid (Tm.Lies w w.heap.size (d + 1) (.slice a n cap) T) := hT
          have HM : Hid (T.ks.length = n ∧ T.allForm = Tm.allForms T.ks) := ⟨hn, hfb⟩
          have HI : Hid _ := ih
          have A0 : Hid (∀ k, Below w.heap.size w ((w.alloc (.cells #[.int .i64 o, .int .i64 0, .slice a n cap] 37)).drewN k)) := fun k => Tk.below_drewN ((Below.refl _ w).alloc (Nat.le_refl _) _) k
          clear ih hT ho hn hk hb g1 g2 g3 g4 hleaf hm0 hn0 hq hfb
          go_enter Tryd.func70, Tryd.ntmps70
          go_wp2
          go_quiet ((go_at_call 77; exact Calls.quiet_of_same (HK.out _)))
          go_wp2
          go_loopg [58] n (fun g i wr => ∃ j : Nat, g + j = n ∧ i = .int .i64 j ∧ Hid (Below w.heap.size w wr ∧ Tm.allForms (T.ks.take j) = true))
          case atStart => exact ⟨0, by omega, rfl, A0.out _, by simp [Tm.allForms]⟩
          case round =>
            obtain ⟨j, hj, rfl, HJ⟩ := hrel
            by_cases hjn : j < n
            · have hd : decide ((j : Int) < n) = true := decide_eq_true (by omega)
              have hjk : j < T.ks.length := by rw [HM.out.1]; exact hjn
              obtain ⟨g, off, u, rfl, hg, q0, q1, q2, q3⟩ := HT.out.kid j hjk
              obtain ⟨x, hx⟩ : ∃ x, T.ks[j] = x := ⟨_, rfl⟩
              rw [hx] at q0 q1 q3
              obtain ⟨au, cu, rfl⟩ := q3.shape
              obtain ⟨nx, hnx⟩ : ∃ n, x.ks.length = n := ⟨_, rfl⟩
              rw [hnx] at q2 q3
              obtain ⟨y0, hy0⟩ : ∃ y, x.op = y := ⟨_, rfl⟩
              obtain ⟨y1, hz1⟩ : ∃ y, x.num = y := ⟨_, rfl⟩
              rw [hy0] at q0
              rw [hz1] at q1
              have hc : ∀ p, wr.cell? ⟨g, p, none⟩ = w.cell? ⟨g, p, none⟩ := fun p => HJ.out.1.cell (p := ⟨g, p, none⟩) hg
              have hc0 : wr.cell? ⟨g, off + j * 3, none⟩ = some (.int .i64 y0) := by rw [hc]; exact q0
              have hc1 : wr.cell? ⟨g, off + j * 3 + 1, none⟩ = some (.int .i64 y1) := by rw [hc]; exact q1
              have hc2 : wr.cell? ⟨g, off + j * 3 + 2, none⟩ = some (.slice au nx cu) := by rw [hc]; exact q2
              have BA : Hid (Below w.heap.size w (wr.alloc (.cells #[.int .i64 y0, .int .i64 y1, .slice au nx cu] 37))) := HJ.out.1.alloc HJ.out.1.size _
              have hcall := HI.out x (.slice au nx cu) _ ((q3.below BA.out).wider BA.out.size)
              obtain ⟨fx, hfx⟩ : ∃ y, x.allForm = y := ⟨_, rfl⟩
              rw [hy0, hz1, hfx] at hcall
              have HC : Hid _ := hcall
              have HY : Hid (T.ks[j] = x ∧ x.allForm = fx) := ⟨hx, hfx⟩
              clear hc q0 q1 q2 q3 hx hy0 hz1 hnx hcall hfx
              go_wp2_with fail
              refine Calls.mono HC.out ?_
              rintro e W3 ⟨rfl, b3⟩
              have B3 : Hid (Below w.heap.size w W3) := BA.out.trans (b3.mono BA.out.size)
              clear b3 HC
              cases fx
              · go_wp2
                go_ret
                refine ⟨Tk.ret_bool ?_, B3.out⟩
                rw [HM.out.2]
                cases hty : Tm.allForms T.ks
                · rfl
                · have := Tm.allForms_get _ hty j hjk
                  rw [HY.out.1, HY.out.2] at this
                  cases this
              · go_wp2
                go_roundg (gk - 1)
                case measure => omega
                case rel =>
                  refine ⟨j + 1, by omega, by go_num, B3.out, ?_⟩
                  rw [Tm.allForms_take _ _ hjk, HJ.out.2, HY.out.1, HY.out.2]
                  rfl
            · have hd : decide ((j : Int) < n) = false := decide_eq_false (by omega)
              have hall : T.ks.take j = T.ks := List.take_of_length_le (by rw [HM.out.1]; omega)
              go_wp2
              go_ret
              refine ⟨Tk.ret_bool ?_, HJ.out.1⟩
              rw [HM.out.2, ← hall, HJ.out.2]

end Go.Proofs

namespace Go.Proofs
open Go.RowKit

theorem Tm.asked_eq {T : Tm} (h : T.allForm = true) (hk : 0 < T.ks.length) : Tm.askedOf T.op = if decide (T.op = 4 ∨ 13 ≤ T.op) = true then 2 else 1 := by
  have := (Tm.formedB_iff _ _ _).1 (Tm.formed_of_all h).1
  have h3 : ¬ T.op < 3 := by
    intro h3
    have : T.ks.length = 0 := by rw [this.2.2.1]; unfold Tm.kidsOf; rw [if_pos h3]
    omega
  unfold Tm.askedOf
  rw [if_neg h3]
  simp
theorem Tm.is_eq (op : Int) : Tm.isOf op = if decide (op = 4 ∨ 10 ≤ op) = true then 2 else 1 := by
  unfold Tm.isOf
  simp

end Go.Proofs

namespace Go.Proofs
open Go.RowKit

set_option maxHeartbeats 1600000 in
theorem Tryd.refWrong_any (d : Nat) (T : Tm) (v : Value) (w : World) (hT : Tm.Lies w w.heap.size d v T) (hsz : T.size ≤ 2147483647) :
    Calls Tryd.prog 48 #[.agg #[.int .i64 T.op, .int .i64 T.num, v]] w fun e w' => e = .returned (.int .i64 T.wrongR) ∧ Below w.heap.size w w' := by
  obtain ⟨a, cap, rfl⟩ := hT.shape
  obtain ⟨o, ho⟩ : ∃ o, T.op = o := ⟨_, rfl⟩
  obtain ⟨m, hm⟩ : ∃ m, T.num = m := ⟨_, rfl⟩
  obtain ⟨n, hn⟩ : ∃ n, T.ks.length = n := ⟨_, rfl⟩
  rw [ho, hm, hn]
  rw [hn] at hT
  obtain ⟨w0, hw0⟩ : ∃ w0, w.alloc (.cells #[.int .i64 o, .int .i64 m, .slice a n cap] 37) = w0 := ⟨_, rfl⟩
  have A0 : Below w.heap.size w w0 := by rw [← hw0]; exact (Below.refl _ w).alloc (Nat.le_refl _) _
  have C0 : w0.heap[w.heap.size]? = some (.cells #[.int .i64 o, .int .i64 m, .slice a n cap] 37 (0, 0)) := by rw [← hw0]; exact heap_alloc_new w _
  have h1 := Tryd.depth_any d T (.slice a n cap) w0 ((hT.below A0).wider A0.size) hsz
  rw [ho, hm] at h1
  obtain ⟨dp, hdp⟩ : ∃ r, T.depth = r := ⟨_, rfl⟩
  rw [hdp] at h1
  have H1 : Hid _ := h1
  have HT : Hid (Tm.Lies w w.heap.size d (.slice a n cap) T) := hT
  have HM : Hid (T.op = o ∧ T.num = m ∧ T.depth = dp) := ⟨ho, hm, hdp⟩
  have HA : Hid (Below w.heap.size w w0) := A0
  have HC : Hid (w0.heap[w.heap.size]? = some (.cells #[.int .i64 o, .int .i64 m, .slice a n cap] 37 (0, 0))) := C0
  have HW0 : Hid (w.alloc (.cells #[.int .i64 o, .int .i64 m, .slice a n cap] 37) = w0) := hw0
  have hu := Tryd.underlying37
  clear hw0 h1 hT ho hm A0 C0 hn hdp
  go_enter Tryd.func48, Tryd.ntmps48
  go_wp2_with fail
  rw [HW0.out]
  refine Calls.mono H1.out ?_
  rintro e W1 ⟨rfl, b1⟩
  have B1 : Hid (Below w.heap.size w W1) := HA.out.trans (b1.mono HA.out.size)
  have hbx : W1.heap[w.heap.size]? = some (.cells #[.int .i64 o, .int .i64 m, .slice a n cap] 37 (0, 0)) := by
    rw [b1.block _ (Array.getElem?_eq_some_iff.1 HC.out).1]; exact HC.out
  clear b1 H1 HW0
  by_cases h0 : 24 < dp
  · have hd : decide ((24 : Int) < dp) = true := decide_eq_true (by omega)
    have HR : Hid (T.wrongR = 2) := by show _ = _; unfold Tm.wrongR; rw [if_pos (by rw [HM.out.2.2]; exact h0)]
    go_wp2
    go_ret
    exact ⟨by rw [HR.out]; rfl, B1.out⟩
  · have hd : decide ((24 : Int) < dp) = false := decide_eq_false (by omega)
    have h2 := Tryd.form_any d T (.slice a n cap) W1 ((HT.out.below B1.out).wider B1.out.size)
    obtain ⟨fb, hfb⟩ : ∃ f, T.allForm = f := ⟨_, rfl⟩
    rw [HM.out.1, HM.out.2.1, hfb] at h2
    have H2 : Hid _ := h2
    have HR : Hid (T.wrongR = if fb = false then 4 else 0) := by show _ = _; unfold Tm.wrongR; rw [if_neg (by rw [HM.out.2.2]; exact h0), hfb]
    clear h2 hfb
    go_wp2_with (refine wpList_load_row rfl 37 _ rfl _ rfl 37 _ (0, 0) _ hbx hu rfl (by kernel_rfl) ?_)
    go_wp2_with fail
    refine Calls.mono H2.out ?_
    rintro e W2 ⟨rfl, b2⟩
    have B2 : Hid (Below w.heap.size w W2) := B1.out.trans (b2.mono B1.out.size)
    clear b2 hbx H2
    cases fb
    all_goals
      go_wp2
      go_ret
      exact ⟨by rw [HR.out]; rfl, B2.out⟩

end Go.Proofs
