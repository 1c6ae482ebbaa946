import Derived.Test.YtndfbgfpnjnmlaaGreatDoorRAllTChk
namespace Go.Proofs
open Go.RowKit
def Tk.isNum (n : Int) : Bool := decide (-1099511627776 ≤ n ∧ n ≤ 1099511627776)
set_option maxHeartbeats 400000 in
theorem Tryz.isNumber_any (n : Int) (w : World) :
  Calls Tryz.prog 39 #[.int .i64 n] w fun e w' => e = .returned (.bool (Tk.isNum n)) ∧ w' = w := by
 by_cases h1 : (-1099511627776 : Int) ≤ n <;> by_cases h2 : n ≤ 1099511627776
 all_goals
  go_enter Tryz.func39, Tryz.ntmps39
  go_wp2
  go_ret
  exact ⟨Tk.ret_bool (by rw [Bool.eq_iff_iff]; simp [Tk.isNum]; omega), rfl⟩
theorem Tk.isNum_iff {n : Int} : Tk.isNum n = true ↔ -1099511627776 ≤ n ∧ n ≤ 1099511627776 := by simp [Tk.isNum]
set_option maxHeartbeats 400000 in
theorem Tryz.evalSize_any (n : Int) (w : World) (h1 : -9223372036854775807 ≤ n) (h2 : n ≤ 9223372036854775807) :
  Calls Tryz.prog 118 #[.int .i64 n] w fun e w' => e = .returned (.int .i64 n.natAbs) ∧ w' = w := by
 go_enter Tryz.func118, Tryz.ntmps118
 go_wp2
 all_goals
  go_ret
  exact ⟨Tk.ret_int (by omega), rfl⟩
set_option maxHeartbeats 400000 in
theorem Tryz.refSize_any (n : Int) (w : World) (h1 : -9223372036854775807 ≤ n) (h2 : n ≤ 9223372036854775807) :
  Calls Tryz.prog 107 #[.int .i64 n] w fun e w' => e = .returned (.int .i64 n.natAbs) ∧ w' = w := by
 by_cases h : n < 0
 all_goals
  go_enter Tryz.func107, Tryz.ntmps107
  go_wp2
  go_ret
  exact ⟨Tk.ret_int (by omega), rfl⟩
def Tk.fitR (n : Int) : Int × Int := if Tk.isNum n = true then (n, 0) else (0, 40)
def Tk.mulR (a b : Int) : Int × Int := Tk.fitR (a * b)
def Tk.reckR (op a b : Int) : Int × Int := if op = 5 then Tk.fitR (a + b) else if op = 6 then Tk.fitR (a - b) else if op = 7 then Tk.mulR a b else if b = 0 then (0, 41) else if op = 8 then (a.tdiv b, 0) else (a.tmod b, 0)
def Tk.cmpR (op a b : Int) : Bool := if op = 10 then decide (a = b) else if op = 11 then decide (a < b) else decide (a ≤ b)
set_option maxHeartbeats 400000 in
theorem Tryz.fit_any (n : Int) (w : World) :
  Calls Tryz.prog 111 #[.int .i64 n] w fun e w' => e = .returned (.tuple #[.int .i64 (Tk.fitR n).1, .int .i64 (Tk.fitR n).2]) ∧ w' = w := by
 go_enter Tryz.func111, Tryz.ntmps111
 go_wp2_with fail
 refine (Tryz.isNumber_any n _).mono ?_
 rintro e W1 ⟨rfl, rfl⟩
 cases hb : Tk.isNum n
 all_goals
  go_wp2
  go_ret2
  exact ⟨by simp [Tk.fitR, hb], rfl⟩
theorem Tk.mul_fits {a b : Int} (ha : a ≠ 0) : (b.natAbs : Int) ≤ (1099511627776 : Int).tdiv a.natAbs ↔ Tk.isNum (a * b) = true := by
 have hp : 0 < (a.natAbs : Int) := by omega
 rw [Tk.isNum_iff, Int.tdiv_eq_ediv_of_nonneg (by omega), Int.le_ediv_iff_mul_le hp]
 have e : (b.natAbs : Int) * a.natAbs = ((a * b).natAbs : Int) := by rw [Int.natAbs_mul, Nat.mul_comm]; simp
 rw [e]
 omega
set_option maxHeartbeats 800000 in
theorem Tryz.product_any (a b : Int) (w : World) (ha1 : -1099511627776 ≤ a) (ha2 : a ≤ 1099511627776) (hb1 : -1099511627776 ≤ b) (hb2 : b ≤ 1099511627776) :
  Calls Tryz.prog 112 #[.int .i64 a, .int .i64 b] w fun e w' => e = .returned (.tuple #[.int .i64 (Tk.mulR a b).1, .int .i64 (Tk.mulR a b).2]) ∧ w' = w := by
 by_cases h0 : a = 0
 ·subst h0
  go_enter Tryz.func112, Tryz.ntmps112
  go_wp2
  go_ret2
  exact ⟨by simp [Tk.mulR, Tk.fitR, Tk.isNum], rfl⟩
 ·have hn : (a == 0) = false := by simpa using h0
  have hn2 : decide (a = 0) = false := by simpa using h0
  go_enter Tryz.func112, Tryz.ntmps112
  go_wp2_with fail
  refine (Tryz.evalSize_any b _ (by omega) (by omega)).mono ?_
  rintro e W1 ⟨rfl, rfl⟩
  go_wp2_with fail
  refine (Tryz.evalSize_any a _ (by omega) (by omega)).mono ?_
  rintro e W2 ⟨rfl, rfl⟩
  obtain ⟨x, hx⟩ : ∃ x : Nat, a.natAbs = x := ⟨_, rfl⟩
  obtain ⟨y, hy⟩ : ∃ y : Nat, b.natAbs = y := ⟨_, rfl⟩
  have hx0 : ¬ x = 0 := by omega
  have hne : (a != 0) = true := by simpa using h0
  have HX : Hid ((y : Int) ≤ 1099511627776 / (x : Int) ↔ Tk.isNum (a * b) = true) := by
   have := Tk.mul_fits (b := b) h0
   rw [hx, hy, Int.tdiv_eq_ediv_of_nonneg (by omega)] at this
   exact this
  rw [hx, hy]
  clear hx hy hn hn2 h0
  by_cases hc : (y : Int) ≤ 1099511627776 / (x : Int)
  ·have hd : decide ((1099511627776 : Int) / x < y) = false := decide_eq_false (by omega)
   have HN := HX.out.1 hc
   have hm : wrap64 (a * b) = a * b := by
    have := Tk.isNum_iff.1 HN
    exact IntWalk.wrap64_in _ (by omega)
   have HM : Hid (Tk.isNum (a * b) = true) := HN
   have Hm : Hid (wrap64 (a * b) = a * b) := hm
   clear HN hm
   go_wp2
   go_ret2
   exact ⟨Tk.ret_ii (by simp [Tk.mulR, Tk.fitR, HM.out, Hm.out]) (by simp [Tk.mulR, Tk.fitR, HM.out]), rfl⟩
  ·have hd : decide ((1099511627776 : Int) / x < y) = true := decide_eq_true (by omega)
   have HM : Hid (Tk.isNum (a * b) = false) := by
    cases h : Tk.isNum (a * b)
    ·rfl
    ·exact absurd (HX.out.2 h) hc
   go_wp2
   go_ret2
   exact ⟨Tk.ret_ii (by simp [Tk.mulR, Tk.fitR, HM.out]) (by simp [Tk.mulR, Tk.fitR, HM.out]), rfl⟩
theorem Tk.tdiv_le (a b : Int) : (a.tdiv b).natAbs ≤ a.natAbs := by rw [Int.natAbs_tdiv]; exact Nat.div_le_self _ _
set_option maxHeartbeats 800000 in
theorem Tryz.reckon_any (op a b : Int) (w : World) (ha1 : -1099511627776 ≤ a) (ha2 : a ≤ 1099511627776) (hb1 : -1099511627776 ≤ b) (hb2 : b ≤ 1099511627776) :
  Calls Tryz.prog 105 #[.int .i64 op, .int .i64 a, .int .i64 b] w fun e w' => e = .returned (.tuple #[.int .i64 (Tk.reckR op a b).1, .int .i64 (Tk.reckR op a b).2]) ∧ w' = w := by
 by_cases h5 : op = 5
 ·subst h5
  go_enter Tryz.func105, Tryz.ntmps105
  go_wp2_with fail
  refine (Tryz.fit_any _ _).mono ?_
  rintro e W1 ⟨rfl, rfl⟩
  go_wp2
  go_ret2
  exact ⟨rfl, rfl⟩
 ·have e5 : (op == 5) = false := by simpa using h5
  by_cases h6 : op = 6
  ·subst h6
   go_enter Tryz.func105, Tryz.ntmps105
   go_wp2_with fail
   refine (Tryz.fit_any _ _).mono ?_
   rintro e W1 ⟨rfl, rfl⟩
   go_wp2
   go_ret2
   exact ⟨rfl, rfl⟩
  ·have e6 : (op == 6) = false := by simpa using h6
   by_cases h7 : op = 7
   ·subst h7
    go_enter Tryz.func105, Tryz.ntmps105
    go_wp2_with fail
    refine (Tryz.product_any _ _ _ ha1 ha2 hb1 hb2).mono ?_
    rintro e W1 ⟨rfl, rfl⟩
    go_wp2
    go_ret2
    exact ⟨rfl, rfl⟩
   ·have e7 : (op == 7) = false := by simpa using h7
    have HR : Hid (Tk.reckR op a b = if b = 0 then (0, 41) else if op = 8 then (a.tdiv b, 0) else (a.tmod b, 0)) := by simp [Hid, Tk.reckR, h5, h6, h7]
    clear h5 h6 h7
    by_cases hb : b = 0
    ·subst hb
     go_enter Tryz.func105, Tryz.ntmps105
     go_wp2
     go_ret2
     exact ⟨by rw [HR.out]; simp, rfl⟩
    ·have eb : (b == 0) = false := by simpa using hb
     have HB : Hid (¬ b = 0) := hb
     by_cases h8 : op = 8
     ·subst h8
      go_enter Tryz.func105, Tryz.ntmps105
      go_wp2
      go_ret2
      exact ⟨Tk.ret_ii (by rw [HR.out, if_neg HB.out, IntWalk.wrap64_in _ (by have := Tk.tdiv_le a b; omega)]; simp) (by rw [HR.out, if_neg HB.out]; simp), rfl⟩
     ·have e8 : (op == 8) = false := by simpa using h8
      go_enter Tryz.func105, Tryz.ntmps105
      have H8 : Hid (¬ op = 8) := h8
      clear h8
      go_wp2
      go_ret2
      exact ⟨Tk.ret_ii (by rw [HR.out, if_neg HB.out, if_neg H8.out]) (by rw [HR.out, if_neg HB.out, if_neg H8.out]), rfl⟩
set_option maxHeartbeats 800000 in
theorem Tryz.compare_any (op a b : Int) (w : World) :
  Calls Tryz.prog 113 #[.int .i64 op, .int .i64 a, .int .i64 b] w fun e w' => e = .returned (.bool (Tk.cmpR op a b)) ∧ w' = w := by
 by_cases h5 : op = 10
 ·subst h5
  go_enter Tryz.func113, Tryz.ntmps113
  go_wp2
  go_ret
  exact ⟨Tk.ret_bool (by rw [Bool.eq_iff_iff]; simp [Tk.cmpR]), rfl⟩
 ·have e5 : (op == 10) = false := by simpa using h5
  by_cases h6 : op = 11
  ·subst h6
   go_enter Tryz.func113, Tryz.ntmps113
   go_wp2
   go_ret
   exact ⟨Tk.ret_bool (by simp [Tk.cmpR]), rfl⟩
  ·have e6 : (op == 11) = false := by simpa using h6
   have HR : Hid (Tk.cmpR op a b = decide (a ≤ b)) := by simp [Hid, Tk.cmpR, h5, h6]
   clear h5 h6
   go_enter Tryz.func113, Tryz.ntmps113
   go_wp2
   go_ret
   exact ⟨Tk.ret_bool HR.out.symm, rfl⟩
theorem Tk.mod_eq (a b : Int) (ha1 : -1099511627776 ≤ a) (ha2 : a ≤ 1099511627776) : wrap64 (a - wrap64 (wrap64 (a.tdiv b) * b)) = a.tmod b := by
 have h1 := Tk.tdiv_le a b
 have h2 := Int.tmod_def a b
 have h3 : (a.tmod b).natAbs ≤ a.natAbs := by rw [Int.natAbs_tmod]; exact Nat.mod_le _ _
 rw [IntWalk.wrap64_in (a.tdiv b) (by omega), Int.mul_comm]
 rw [IntWalk.wrap64_in (b * a.tdiv b) (by omega), IntWalk.wrap64_in _ (by omega), h2]
def Tk.sumR (op a b : Int) : Int × Bool × Int := if 10 ≤ op then (0, Tk.cmpR op a b, 0) else ((Tk.reckR op a b).1, false, (Tk.reckR op a b).2)
theorem Tk.ret_val {a b : Int} {c : Bool} {r : Int × Bool × Int} (h1 : a = r.1) (h2 : c = r.2.1) (h3 : b = r.2.2) : Ending.returned (.agg #[.int .i64 a, .bool c, .int .i64 b]) = .returned (.agg #[.int .i64 r.1, .bool r.2.1, .int .i64 r.2.2]) := by rw [h1, h2, h3]
set_option maxHeartbeats 1600000 in
theorem Tryz.sum_cmp (op a b : Int) (w : World) (ho : op = 10 ∨ op = 11 ∨ op = 12) :
  Calls Tryz.prog 100 #[.int .i64 op, .int .i64 a, .int .i64 b] w fun e w' => e = .returned (.agg #[.int .i64 (Tk.sumR op a b).1, .bool (Tk.sumR op a b).2.1, .int .i64 (Tk.sumR op a b).2.2]) ∧ Below w.heap.size w w' := by
 rcases ho with rfl | rfl | rfl
 ·rcases Int.lt_trichotomy a b with h | h | h
  ·have h1 : (a == b) = false := by simp; omega
   have h2 : decide (a < b) = true := by simp; omega
   have H : Hid (decide (a = b) = false) := by simp [Hid]; omega
   clear h
   go_enter Tryz.func100, Tryz.ntmps100
   go_wp2
   refine bodyPost_ret (v := .agg #[.int .i64 0, .bool false, .int .i64 0]) (by simp [results, Tryz.results100, go_sem]) rfl ⟨Tk.ret_val (rfl) (by simp only [Tk.sumR, Tk.cmpR]; simp [H.out]) (rfl), (Below.refl _ w).alloc (Nat.le_refl _) _⟩
  ·have h1 : (a == b) = true := by simp; omega
   have h2 : decide (a < b) = false := by simp; omega
   have H : Hid (decide (a = b) = true) := by simp [Hid]; omega
   clear h
   go_enter Tryz.func100, Tryz.ntmps100
   go_wp2
   refine bodyPost_ret (v := .agg #[.int .i64 0, .bool true, .int .i64 0]) (by simp [results, Tryz.results100, go_sem]) rfl ⟨Tk.ret_val (rfl) (by simp only [Tk.sumR, Tk.cmpR]; simp [H.out]) (rfl), (Below.refl _ w).alloc (Nat.le_refl _) _⟩
  ·have h1 : (a == b) = false := by simp; omega
   have h2 : decide (a < b) = false := by simp; omega
   have H : Hid (decide (a = b) = false) := by simp [Hid]; omega
   clear h
   go_enter Tryz.func100, Tryz.ntmps100
   go_wp2
   refine bodyPost_ret (v := .agg #[.int .i64 0, .bool false, .int .i64 0]) (by simp [results, Tryz.results100, go_sem]) rfl ⟨Tk.ret_val (rfl) (by simp only [Tk.sumR, Tk.cmpR]; simp [H.out]) (rfl), (Below.refl _ w).alloc (Nat.le_refl _) _⟩
 ·rcases Int.lt_trichotomy a b with h | h | h
  ·have h1 : (a == b) = false := by simp; omega
   have h2 : decide (a < b) = true := by simp; omega
   have H : Hid (decide (a < b) = true) := by simp [Hid]; omega
   clear h
   go_enter Tryz.func100, Tryz.ntmps100
   go_wp2
   refine bodyPost_ret (v := .agg #[.int .i64 0, .bool true, .int .i64 0]) (by simp [results, Tryz.results100, go_sem]) rfl ⟨Tk.ret_val (rfl) (by simp only [Tk.sumR, Tk.cmpR]; simp [H.out]) (rfl), (Below.refl _ w).alloc (Nat.le_refl _) _⟩
  ·have h1 : (a == b) = true := by simp; omega
   have h2 : decide (a < b) = false := by simp; omega
   have H : Hid (decide (a < b) = false) := by simp [Hid]; omega
   clear h
   go_enter Tryz.func100, Tryz.ntmps100
   go_wp2
   refine bodyPost_ret (v := .agg #[.int .i64 0, .bool false, .int .i64 0]) (by simp [results, Tryz.results100, go_sem]) rfl ⟨Tk.ret_val (rfl) (by simp only [Tk.sumR, Tk.cmpR]; simp [H.out]) (rfl), (Below.refl _ w).alloc (Nat.le_refl _) _⟩
  ·have h1 : (a == b) = false := by simp; omega
   have h2 : decide (a < b) = false := by simp; omega
   have H : Hid (decide (a < b) = false) := by simp [Hid]; omega
   clear h
   go_enter Tryz.func100, Tryz.ntmps100
   go_wp2
   refine bodyPost_ret (v := .agg #[.int .i64 0, .bool false, .int .i64 0]) (by simp [results, Tryz.results100, go_sem]) rfl ⟨Tk.ret_val (rfl) (by simp only [Tk.sumR, Tk.cmpR]; simp [H.out]) (rfl), (Below.refl _ w).alloc (Nat.le_refl _) _⟩
 ·rcases Int.lt_trichotomy a b with h | h | h
  ·have h1 : (a == b) = false := by simp; omega
   have h2 : decide (a < b) = true := by simp; omega
   have H : Hid (decide (a ≤ b) = true) := by simp [Hid]; omega
   clear h
   go_enter Tryz.func100, Tryz.ntmps100
   go_wp2
   refine bodyPost_ret (v := .agg #[.int .i64 0, .bool true, .int .i64 0]) (by simp [results, Tryz.results100, go_sem]) rfl ⟨Tk.ret_val (rfl) (by simp only [Tk.sumR, Tk.cmpR]; simp [H.out]) (rfl), (Below.refl _ w).alloc (Nat.le_refl _) _⟩
  ·have h1 : (a == b) = true := by simp; omega
   have h2 : decide (a < b) = false := by simp; omega
   have H : Hid (decide (a ≤ b) = true) := by simp [Hid]; omega
   clear h
   go_enter Tryz.func100, Tryz.ntmps100
   go_wp2
   refine bodyPost_ret (v := .agg #[.int .i64 0, .bool true, .int .i64 0]) (by simp [results, Tryz.results100, go_sem]) rfl ⟨Tk.ret_val (rfl) (by simp only [Tk.sumR, Tk.cmpR]; simp [H.out]) (rfl), (Below.refl _ w).alloc (Nat.le_refl _) _⟩
  ·have h1 : (a == b) = false := by simp; omega
   have h2 : decide (a < b) = false := by simp; omega
   have H : Hid (decide (a ≤ b) = false) := by simp [Hid]; omega
   clear h
   go_enter Tryz.func100, Tryz.ntmps100
   go_wp2
   refine bodyPost_ret (v := .agg #[.int .i64 0, .bool false, .int .i64 0]) (by simp [results, Tryz.results100, go_sem]) rfl ⟨Tk.ret_val (rfl) (by simp only [Tk.sumR, Tk.cmpR]; simp [H.out]) (rfl), (Below.refl _ w).alloc (Nat.le_refl _) _⟩
set_option maxHeartbeats 1600000 in
theorem Tryz.sum_div (op a b : Int) (w : World) (ho : op = 8 ∨ op = 9) (ha1 : -1099511627776 ≤ a) (ha2 : a ≤ 1099511627776) (hb1 : -1099511627776 ≤ b) (hb2 : b ≤ 1099511627776) :
  Calls Tryz.prog 100 #[.int .i64 op, .int .i64 a, .int .i64 b] w fun e w' => e = .returned (.agg #[.int .i64 (Tk.sumR op a b).1, .bool (Tk.sumR op a b).2.1, .int .i64 (Tk.sumR op a b).2.2]) ∧ Below w.heap.size w w' := by
 by_cases hb : b = 0
 ·subst hb
  rcases ho with rfl | rfl
  all_goals
   go_enter Tryz.func100, Tryz.ntmps100
   go_wp2
   refine bodyPost_ret (v := .agg #[.int .i64 0, .bool false, .int .i64 41]) (by simp [results, Tryz.results100, go_sem]) rfl ⟨Tk.ret_val (by simp [Tk.sumR, Tk.reckR]) (by simp [Tk.sumR]) (by simp [Tk.sumR, Tk.reckR]), (Below.refl _ w).alloc (Nat.le_refl _) _⟩
 ·have HB : Hid (¬ b = 0) := hb
  have HD : Hid ((a.tdiv b).natAbs ≤ a.natAbs) := Tk.tdiv_le a b
  rcases ho with rfl | rfl
  ·go_enter Tryz.func100, Tryz.ntmps100
   go_wp2
   refine bodyPost_ret (v := .agg #[.int .i64 (wrap64 (a.tdiv b)), .bool false, .int .i64 0]) (by simp [results, Tryz.results100, go_sem]) rfl ⟨Tk.ret_val (by rw [IntWalk.wrap64_in _ (by have := HD.out; omega)]; simp [Tk.sumR, Tk.reckR, HB.out]) (by simp [Tk.sumR]) (by simp [Tk.sumR, Tk.reckR, HB.out]), (Below.refl _ w).alloc (Nat.le_refl _) _⟩
  ·go_enter Tryz.func100, Tryz.ntmps100
   go_wp2
   refine bodyPost_ret (v := .agg #[.int .i64 (wrap64 (a - wrap64 (wrap64 (a.tdiv b) * b))), .bool false, .int .i64 0]) (by simp [results, Tryz.results100, go_sem]) rfl ⟨Tk.ret_val (by rw [Tk.mod_eq a b (by omega) (by omega)]; simp [Tk.sumR, Tk.reckR, HB.out]) (by simp [Tk.sumR]) (by simp [Tk.sumR, Tk.reckR, HB.out]), (Below.refl _ w).alloc (Nat.le_refl _) _⟩
set_option maxHeartbeats 1600000 in
theorem Tryz.sum_mul (a b : Int) (w : World) (ha1 : -1099511627776 ≤ a) (ha2 : a ≤ 1099511627776) (hb1 : -1099511627776 ≤ b) (hb2 : b ≤ 1099511627776) :
  Calls Tryz.prog 100 #[.int .i64 7, .int .i64 a, .int .i64 b] w fun e w' => e = .returned (.agg #[.int .i64 (Tk.sumR 7 a b).1, .bool (Tk.sumR 7 a b).2.1, .int .i64 (Tk.sumR 7 a b).2.2]) ∧ Below w.heap.size w w' := by
 by_cases hb : b = 0
 ·subst hb
  go_enter Tryz.func100, Tryz.ntmps100
  go_wp2
  refine bodyPost_ret (v := .agg #[.int .i64 0, .bool false, .int .i64 0]) (by simp [results, Tryz.results100, go_sem]) rfl ⟨Tk.ret_val (by simp [Tk.sumR, Tk.reckR, Tk.mulR, Tk.fitR, Tk.isNum]) (by simp [Tk.sumR]) (by simp [Tk.sumR, Tk.reckR, Tk.mulR, Tk.fitR, Tk.isNum]), (Below.refl _ w).alloc (Nat.le_refl _) _⟩
 ·have hne : (b != 0) = true := by simpa using hb
  have HX : Hid ((a.natAbs : Int) ≤ 1099511627776 / (b.natAbs : Int) ↔ Tk.isNum (a * b) = true) := by
   have := Tk.mul_fits (a := b) (b := a) hb
   rw [Int.tdiv_eq_ediv_of_nonneg (by omega), Int.mul_comm] at this
   exact this
  have HB : Hid (¬ b = 0) := hb
  clear hb
  go_enter Tryz.func100, Tryz.ntmps100
  go_wp2_with fail
  refine (Tryz.refSize_any a _ (by omega) (by omega)).mono ?_
  rintro e W1 ⟨rfl, rfl⟩
  go_wp2_with fail
  refine (Tryz.refSize_any b _ (by omega) (by omega)).mono ?_
  rintro e W2 ⟨rfl, rfl⟩
  obtain ⟨x, hx⟩ : ∃ x : Nat, a.natAbs = x := ⟨_, rfl⟩
  obtain ⟨y, hy⟩ : ∃ y : Nat, b.natAbs = y := ⟨_, rfl⟩
  have hy0 : ¬ y = 0 := by have := HB.out; omega
  rw [hx, hy] at HX
  rw [hx, hy]
  clear hx hy
  by_cases hc : (x : Int) ≤ 1099511627776 / (y : Int)
  ·have hd : decide ((1099511627776 : Int) / y < x) = false := decide_eq_false (by omega)
   have HM : Hid (Tk.isNum (a * b) = true) := HX.out.1 hc
   have Hm : Hid (wrap64 (a * b) = a * b) := by
    have := Tk.isNum_iff.1 HM.out
    exact IntWalk.wrap64_in _ (by omega)
   go_wp2
   refine bodyPost_ret (v := .agg #[.int .i64 (wrap64 (a * b)), .bool false, .int .i64 0]) (by simp [results, Tryz.results100, go_sem]) rfl ⟨Tk.ret_val (by simp [Tk.sumR, Tk.reckR, Tk.mulR, Tk.fitR, HM.out, Hm.out]) (by simp [Tk.sumR]) (by simp [Tk.sumR, Tk.reckR, Tk.mulR, Tk.fitR, HM.out]), (Below.refl _ w).alloc (Nat.le_refl _) _⟩
  ·have hd : decide ((1099511627776 : Int) / y < x) = true := decide_eq_true (by omega)
   have HM : Hid (Tk.isNum (a * b) = false) := by
    cases h : Tk.isNum (a * b)
    ·rfl
    ·exact absurd (HX.out.2 h) hc
   go_wp2
   refine bodyPost_ret (v := .agg #[.int .i64 0, .bool false, .int .i64 40]) (by simp [results, Tryz.results100, go_sem]) rfl ⟨Tk.ret_val (by simp [Tk.sumR, Tk.reckR, Tk.mulR, Tk.fitR, HM.out]) (by simp [Tk.sumR]) (by simp [Tk.sumR, Tk.reckR, Tk.mulR, Tk.fitR, HM.out]), (Below.refl _ w).alloc (Nat.le_refl _) _⟩
set_option maxHeartbeats 1600000 in
theorem Tryz.sum_add (a b : Int) (w : World) (ha1 : -1099511627776 ≤ a) (ha2 : a ≤ 1099511627776) (hb1 : -1099511627776 ≤ b) (hb2 : b ≤ 1099511627776) :
  Calls Tryz.prog 100 #[.int .i64 5, .int .i64 a, .int .i64 b] w fun e w' => e = .returned (.agg #[.int .i64 (Tk.sumR 5 a b).1, .bool (Tk.sumR 5 a b).2.1, .int .i64 (Tk.sumR 5 a b).2.2]) ∧ Below w.heap.size w w' := by
 go_enter Tryz.func100, Tryz.ntmps100
 go_wp2_with fail
 refine (Tryz.refSize_any _ _ (by omega) (by omega)).mono ?_
 rintro e W1 ⟨rfl, rfl⟩
 cases hm : Tk.isNum (a + b)
 ·have hd : decide ((1099511627776 : Int) < (((a + b).natAbs : Nat) : Int)) = true := by
   refine decide_eq_true ?_
   have : ¬ (-1099511627776 ≤ a + b ∧ a + b ≤ 1099511627776) := fun h => by rw [Tk.isNum_iff.2 h] at hm; cases hm
   omega
  have HM : Hid (Tk.isNum (a + b) = false) := hm
  clear hm
  go_wp2
  refine bodyPost_ret (v := .agg #[.int .i64 0, .bool false, .int .i64 40]) (by simp [results, Tryz.results100, go_sem]) rfl ⟨Tk.ret_val (by simp [Tk.sumR, Tk.reckR, Tk.fitR, HM.out]) (by simp [Tk.sumR]) (by simp [Tk.sumR, Tk.reckR, Tk.fitR, HM.out]), (Below.refl _ w).alloc (Nat.le_refl _) _⟩
 ·have hd : decide ((1099511627776 : Int) < (((a + b).natAbs : Nat) : Int)) = false := by
   refine decide_eq_false ?_
   have := Tk.isNum_iff.1 hm
   omega
  have HM : Hid (Tk.isNum (a + b) = true) := hm
  clear hm
  go_wp2
  refine bodyPost_ret (v := .agg #[.int .i64 (a + b), .bool false, .int .i64 0]) (by simp [results, Tryz.results100, go_sem]) rfl ⟨Tk.ret_val (by simp [Tk.sumR, Tk.reckR, Tk.fitR, HM.out]) (by simp [Tk.sumR]) (by simp [Tk.sumR, Tk.reckR, Tk.fitR, HM.out]), (Below.refl _ w).alloc (Nat.le_refl _) _⟩
set_option maxHeartbeats 1600000 in
theorem Tryz.sum_sub (a b : Int) (w : World) (ha1 : -1099511627776 ≤ a) (ha2 : a ≤ 1099511627776) (hb1 : -1099511627776 ≤ b) (hb2 : b ≤ 1099511627776) :
  Calls Tryz.prog 100 #[.int .i64 6, .int .i64 a, .int .i64 b] w fun e w' => e = .returned (.agg #[.int .i64 (Tk.sumR 6 a b).1, .bool (Tk.sumR 6 a b).2.1, .int .i64 (Tk.sumR 6 a b).2.2]) ∧ Below w.heap.size w w' := by
 go_enter Tryz.func100, Tryz.ntmps100
 go_wp2_with fail
 refine (Tryz.refSize_any _ _ (by omega) (by omega)).mono ?_
 rintro e W1 ⟨rfl, rfl⟩
 cases hm : Tk.isNum (a - b)
 ·have hd : decide ((1099511627776 : Int) < (((a - b).natAbs : Nat) : Int)) = true := by
   refine decide_eq_true ?_
   have : ¬ (-1099511627776 ≤ a - b ∧ a - b ≤ 1099511627776) := fun h => by rw [Tk.isNum_iff.2 h] at hm; cases hm
   omega
  have HM : Hid (Tk.isNum (a - b) = false) := hm
  clear hm
  go_wp2
  refine bodyPost_ret (v := .agg #[.int .i64 0, .bool false, .int .i64 40]) (by simp [results, Tryz.results100, go_sem]) rfl ⟨Tk.ret_val (by simp [Tk.sumR, Tk.reckR, Tk.fitR, HM.out]) (by simp [Tk.sumR]) (by simp [Tk.sumR, Tk.reckR, Tk.fitR, HM.out]), (Below.refl _ w).alloc (Nat.le_refl _) _⟩
 ·have hd : decide ((1099511627776 : Int) < (((a - b).natAbs : Nat) : Int)) = false := by
   refine decide_eq_false ?_
   have := Tk.isNum_iff.1 hm
   omega
  have HM : Hid (Tk.isNum (a - b) = true) := hm
  clear hm
  go_wp2
  refine bodyPost_ret (v := .agg #[.int .i64 (a - b), .bool false, .int .i64 0]) (by simp [results, Tryz.results100, go_sem]) rfl ⟨Tk.ret_val (by simp [Tk.sumR, Tk.reckR, Tk.fitR, HM.out]) (by simp [Tk.sumR]) (by simp [Tk.sumR, Tk.reckR, Tk.fitR, HM.out]), (Below.refl _ w).alloc (Nat.le_refl _) _⟩
theorem Tryz.sum_any (op a b : Int) (w : World) (ho : 5 ≤ op ∧ op ≤ 12) (ha1 : -1099511627776 ≤ a) (ha2 : a ≤ 1099511627776) (hb1 : -1099511627776 ≤ b) (hb2 : b ≤ 1099511627776) :
  Calls Tryz.prog 100 #[.int .i64 op, .int .i64 a, .int .i64 b] w fun e w' => e = .returned (.agg #[.int .i64 (Tk.sumR op a b).1, .bool (Tk.sumR op a b).2.1, .int .i64 (Tk.sumR op a b).2.2]) ∧ Below w.heap.size w w' := by
 obtain h | h | h | h | h : op = 5 ∨ op = 6 ∨ op = 7 ∨ (op = 8 ∨ op = 9) ∨ (op = 10 ∨ op = 11 ∨ op = 12) := by omega
 ·subst h; exact Tryz.sum_add a b w ha1 ha2 hb1 hb2
 ·subst h; exact Tryz.sum_sub a b w ha1 ha2 hb1 hb2
 ·subst h; exact Tryz.sum_mul a b w ha1 ha2 hb1 hb2
 ·exact Tryz.sum_div op a b w h ha1 ha2 hb1 hb2
 ·exact Tryz.sum_cmp op a b w h
end Go.Proofs
namespace Go.Proofs
open Go.RowKit
def Tk.fitsB (x0 x1 x2 x3 : Int) : Bool := Tk.isNum x0 && Tk.isNum x1 && Tk.isNum x2 && Tk.isNum x3
set_option maxHeartbeats 1600000 in
theorem Tryz.fits_any (x0 x1 x2 x3 : Int) (w : World) :
  Calls Tryz.prog 24 #[.agg #[.int .i64 x0, .int .i64 x1, .int .i64 x2, .int .i64 x3]] w fun e w' => e = .returned (.bool (Tk.fitsB x0 x1 x2 x3)) ∧ Below w.heap.size w w' := by
 have i0 : ∀ w, (Instr.index 27 (.agg #[.int .i64 x0, .int .i64 x1, .int .i64 x2, .int .i64 x3]) (.int .i64 0)).run Tryz.prog w = .ok (.int .i64 x0) w := fun _ => by kernel_rfl
 have i1 : ∀ w, (Instr.index 27 (.agg #[.int .i64 x0, .int .i64 x1, .int .i64 x2, .int .i64 x3]) (.int .i64 1)).run Tryz.prog w = .ok (.int .i64 x1) w := fun _ => by kernel_rfl
 have i2 : ∀ w, (Instr.index 27 (.agg #[.int .i64 x0, .int .i64 x1, .int .i64 x2, .int .i64 x3]) (.int .i64 2)).run Tryz.prog w = .ok (.int .i64 x2) w := fun _ => by kernel_rfl
 have i3 : ∀ w, (Instr.index 27 (.agg #[.int .i64 x0, .int .i64 x1, .int .i64 x2, .int .i64 x3]) (.int .i64 3)).run Tryz.prog w = .ok (.int .i64 x3) w := fun _ => by kernel_rfl
 have B0 : Hid (Below w.heap.size w (w.alloc (.cells #[.int .i64 x0, .int .i64 x1, .int .i64 x2, .int .i64 x3] 27))) := (Below.refl _ w).alloc (Nat.le_refl _) _
 go_enter Tryz.func24, Tryz.ntmps24
 go_wp2
 refine wp_loop_rounds 5 ?_
 rw [rounds_succ]
 go_wp2_with fail
 refine (Tryz.isNumber_any x0 _).mono ?_
 rintro e W ⟨rfl, rfl⟩
 cases h0 : Tk.isNum x0
 ·go_wp2
  go_ret
  exact ⟨Tk.ret_bool (by simp [Tk.fitsB, h0]), B0.out⟩
 ·have H0 : Hid (Tk.isNum x0 = true) := h0
  clear h0
  go_wp2
  rw [rounds_succ]
  go_wp2_with fail
  refine (Tryz.isNumber_any x1 _).mono ?_
  rintro e W ⟨rfl, rfl⟩
  cases h1 : Tk.isNum x1
  ·go_wp2
   go_ret
   exact ⟨Tk.ret_bool (by simp [Tk.fitsB, h1]), B0.out⟩
  ·have H1 : Hid (Tk.isNum x1 = true) := h1
   clear h1
   go_wp2
   rw [rounds_succ]
   go_wp2_with fail
   refine (Tryz.isNumber_any x2 _).mono ?_
   rintro e W ⟨rfl, rfl⟩
   cases h2 : Tk.isNum x2
   ·go_wp2
    go_ret
    exact ⟨Tk.ret_bool (by simp [Tk.fitsB, h2]), B0.out⟩
   ·have H2 : Hid (Tk.isNum x2 = true) := h2
    clear h2
    go_wp2
    rw [rounds_succ]
    go_wp2_with fail
    refine (Tryz.isNumber_any x3 _).mono ?_
    rintro e W ⟨rfl, rfl⟩
    cases h3 : Tk.isNum x3
    ·go_wp2
     go_ret
     exact ⟨Tk.ret_bool (by simp [Tk.fitsB, h3]), B0.out⟩
    ·have H3 : Hid (Tk.isNum x3 = true) := h3
     clear h3
     go_wp2
     rw [rounds_succ]
     go_wp2
     go_ret
     exact ⟨Tk.ret_bool (by simp [Tk.fitsB, H0.out, H1.out, H2.out, H3.out]), B0.out⟩
set_option maxHeartbeats 1600000 in
theorem Tryz.refFits_any (x0 x1 x2 x3 : Int) (w : World) :
  Calls Tryz.prog 26 #[.agg #[.int .i64 x0, .int .i64 x1, .int .i64 x2, .int .i64 x3]] w fun e w' => e = .returned (.bool (Tk.fitsB x0 x1 x2 x3)) ∧ Below w.heap.size w w' := by
 have B0 : Hid (Below w.heap.size w (w.alloc (.cells #[.int .i64 x0, .int .i64 x1, .int .i64 x2, .int .i64 x3] 27))) := (Below.refl _ w).alloc (Nat.le_refl _) _
 go_enter Tryz.func26, Tryz.ntmps26
 go_wp2
 refine wp_loop_rounds 5 ?_
 rw [rounds_succ]
 cases h0 : Tk.isNum x0
 ·obtain ha | ⟨hb, ha⟩ : decide (x0 < -1099511627776) = true ∨ (decide (x0 < -1099511627776) = false ∧ decide (1099511627776 < x0) = true) := by simp [Tk.isNum] at h0 ⊢; omega
  all_goals
   go_wp2
   go_ret
   exact ⟨Tk.ret_bool (by simp [Tk.fitsB, h0]), B0.out⟩
 ·have p0 : decide (x0 < -1099511627776) = false := by simp [Tk.isNum] at h0 ⊢; omega
  have q0 : decide (1099511627776 < x0) = false := by simp [Tk.isNum] at h0 ⊢; omega
  have H0 : Hid (Tk.isNum x0 = true) := h0
  clear h0
  go_wp2
  rw [rounds_succ]
  cases h1 : Tk.isNum x1
  ·obtain ha | ⟨hb, ha⟩ : decide (x1 < -1099511627776) = true ∨ (decide (x1 < -1099511627776) = false ∧ decide (1099511627776 < x1) = true) := by simp [Tk.isNum] at h1 ⊢; omega
   all_goals
    go_wp2
    go_ret
    exact ⟨Tk.ret_bool (by simp [Tk.fitsB, h1]), B0.out⟩
  ·have p1 : decide (x1 < -1099511627776) = false := by simp [Tk.isNum] at h1 ⊢; omega
   have q1 : decide (1099511627776 < x1) = false := by simp [Tk.isNum] at h1 ⊢; omega
   have H1 : Hid (Tk.isNum x1 = true) := h1
   clear h1
   go_wp2
   rw [rounds_succ]
   cases h2 : Tk.isNum x2
   ·obtain ha | ⟨hb, ha⟩ : decide (x2 < -1099511627776) = true ∨ (decide (x2 < -1099511627776) = false ∧ decide (1099511627776 < x2) = true) := by simp [Tk.isNum] at h2 ⊢; omega
    all_goals
     go_wp2
     go_ret
     exact ⟨Tk.ret_bool (by simp [Tk.fitsB, h2]), B0.out⟩
   ·have p2 : decide (x2 < -1099511627776) = false := by simp [Tk.isNum] at h2 ⊢; omega
    have q2 : decide (1099511627776 < x2) = false := by simp [Tk.isNum] at h2 ⊢; omega
    have H2 : Hid (Tk.isNum x2 = true) := h2
    clear h2
    go_wp2
    rw [rounds_succ]
    cases h3 : Tk.isNum x3
    ·obtain ha | ⟨hb, ha⟩ : decide (x3 < -1099511627776) = true ∨ (decide (x3 < -1099511627776) = false ∧ decide (1099511627776 < x3) = true) := by simp [Tk.isNum] at h3 ⊢; omega
     all_goals
      go_wp2
      go_ret
      exact ⟨Tk.ret_bool (by simp [Tk.fitsB, h3]), B0.out⟩
    ·have p3 : decide (x3 < -1099511627776) = false := by simp [Tk.isNum] at h3 ⊢; omega
     have q3 : decide (1099511627776 < x3) = false := by simp [Tk.isNum] at h3 ⊢; omega
     have H3 : Hid (Tk.isNum x3 = true) := h3
     clear h3
     go_wp2
     rw [rounds_succ]
     go_wp2
     go_ret
     exact ⟨Tk.ret_bool (by simp [Tk.fitsB, H0.out, H1.out, H2.out, H3.out]), B0.out⟩
end Go.Proofs
