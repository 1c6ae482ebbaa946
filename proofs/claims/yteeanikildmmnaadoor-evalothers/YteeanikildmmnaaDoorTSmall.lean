/-
  The contracts of the small functions of package eval and of the document's answer: numbers, tests, values of variables.
-/
import Derived.Test.YteeanikildmmnaaDoorTOps
namespace Go.Proofs
open Go.RowKit

def Tk.isNum (n : Int) : Bool := decide (-1099511627776 ≤ n ∧ n ≤ 1099511627776)

set_option maxHeartbeats 400000 in
theorem Tryd.isNumber_any (n : Int) (w : World) :
    Calls Tryd.prog 25 #[.int .i64 n] w fun e w' => e = .returned (.bool (Tk.isNum n)) ∧ w' = w := by
  by_cases h1 : (-1099511627776 : Int) ≤ n <;> by_cases h2 : n ≤ 1099511627776
  all_goals
    go_enter Tryd.func25, Tryd.ntmps25
    go_wp2
    go_ret
    exact ⟨Tk.ret_bool (by rw [Bool.eq_iff_iff]; simp [Tk.isNum]; omega), rfl⟩

theorem Tk.isNum_iff {n : Int} : Tk.isNum n = true ↔ -1099511627776 ≤ n ∧ n ≤ 1099511627776 := by simp [Tk.isNum]

set_option maxHeartbeats 400000 in
theorem Tryd.evalSize_any (n : Int) (w : World) (h1 : -9223372036854775807 ≤ n) (h2 : n ≤ 9223372036854775807) :
    Calls Tryd.prog 46 #[.int .i64 n] w fun e w' => e = .returned (.int .i64 n.natAbs) ∧ w' = w := by
  go_enter Tryd.func46, Tryd.ntmps46
  go_wp2
  all_goals
    go_ret
    exact ⟨Tk.ret_int (by omega), rfl⟩

set_option maxHeartbeats 400000 in
theorem Tryd.refSize_any (n : Int) (w : World) (h1 : -9223372036854775807 ≤ n) (h2 : n ≤ 9223372036854775807) :
    Calls Tryd.prog 40 #[.int .i64 n] w fun e w' => e = .returned (.int .i64 n.natAbs) ∧ w' = w := by
  by_cases h : n < 0
  all_goals
    go_enter Tryd.func40, Tryd.ntmps40
    go_wp2
    go_ret
    exact ⟨Tk.ret_int (by omega), rfl⟩

/-- fit's answer. -/
def Tk.fitR (n : Int) : Int × Int := if Tk.isNum n = true then (n, 0) else (0, 40)
/-- product's. -/
def Tk.mulR (a b : Int) : Int × Int := Tk.fitR (a * b)
/-- reckon's. -/
def Tk.reckR (op a b : Int) : Int × Int := if op = 5 then Tk.fitR (a + b) else if op = 6 then Tk.fitR (a - b) else if op = 7 then Tk.mulR a b else if b = 0 then (0, 41) else if op = 8 then (a.tdiv b, 0) else (a.tmod b, 0)
/-- compare's. -/
def Tk.cmpR (op a b : Int) : Bool := if op = 10 then decide (a = b) else if op = 11 then decide (a < b) else decide (a ≤ b)

set_option maxHeartbeats 400000 in
theorem Tryd.fit_any (n : Int) (w : World) :
    Calls Tryd.prog 38 #[.int .i64 n] w fun e w' => e = .returned (.tuple #[.int .i64 (Tk.fitR n).1, .int .i64 (Tk.fitR n).2]) ∧ w' = w := by
  go_enter Tryd.func38, Tryd.ntmps38
  go_wp2_with fail
  refine (Tryd.isNumber_any n _).mono ?_
  rintro e W1 ⟨rfl, rfl⟩
  cases hb : Tk.isNum n
  all_goals
    go_wp2
    go_ret2
    exact ⟨by simp [Tk.fitR, hb], rfl⟩

theorem Tk.mul_fits {a b : Int} (ha : a ≠ 0) : (b.natAbs : Int) ≤ (1099511627776 : Int).tdiv a.natAbs ↔ Tk.isNum (a * b) = true := by
  have hp : 0 < (a.natAbs : Int) := by omega
  rw [Tk.isNum_iff, Int.tdiv_eq_ediv_of_nonneg (by omega), Int.le_ediv_iff_mul_le hp]
  have e : (b.natAbs : Int) * a.natAbs = ((a * b).natAbs : Int) := by rw [Int.natAbs_mul, Nat.mul_comm]; simp
  rw [e]
  omega

set_option maxHeartbeats 800000 in
theorem Tryd.product_any (a b : Int) (w : World) (ha1 : -1099511627776 ≤ a) (ha2 : a ≤ 1099511627776) (hb1 : -1099511627776 ≤ b) (hb2 : b ≤ 1099511627776) :
    Calls Tryd.prog 39 #[.int .i64 a, .int .i64 b] w fun e w' => e = .returned (.tuple #[.int .i64 (Tk.mulR a b).1, .int .i64 (Tk.mulR a b).2]) ∧ w' = w := by
  by_cases h0 : a = 0
  · subst h0
    go_enter Tryd.func39, Tryd.ntmps39
    go_wp2
    go_ret2
    exact ⟨by simp [Tk.mulR, Tk.fitR, Tk.isNum], rfl⟩
  · have hn : (a == 0) = false := by simpa using h0
    have hn2 : decide (a = 0) = false := by simpa using h0
    go_enter Tryd.func39, Tryd.ntmps39
    go_wp2_with fail
    refine (Tryd.evalSize_any b _ (by omega) (by omega)).mono ?_
    rintro e W1 ⟨rfl, rfl⟩
    go_wp2_with fail
    refine (Tryd.evalSize_any a _ (by omega) (by omega)).mono ?_
    rintro e W2 ⟨rfl, rfl⟩
    obtain ⟨x, hx⟩ : ∃ x : Nat, a.natAbs = x := ⟨_, rfl⟩
    obtain ⟨y, hy⟩ : ∃ y : Nat, b.natAbs = y := ⟨_, rfl⟩
    have hx0 : ¬ x = 0 := by omega
    have hne : (a != 0) = true := by simpa using h0
    have HX : Hid ((y : Int) ≤ 1099511627776 / (x : Int) ↔ Tk.isNum (a * b) = true) := by
      have := Tk.mul_fits (b := b) h0
      rw [hx, hy, Int.tdiv_eq_ediv_of_nonneg (by omega)] at this
      exact this
    rw [hx, hy]
    clear hx hy hn hn2 h0
    by_cases hc : (y : Int) ≤ 1099511627776 / (x : Int)
    · have hd : decide ((1099511627776 : Int) / x < y) = false := decide_eq_false (by omega)
      have HN := HX.out.1 hc
      have hm : wrap64 (a * b) = a * b := by
        have := Tk.isNum_iff.1 HN
        exact IntWalk.wrap64_in _ (by omega)
      have HM : Hid (Tk.isNum (a * b) = true) := HN
      have Hm : Hid (wrap64 (a * b) = a * b) := hm
      clear HN hm
      go_wp2
      go_ret2
      exact ⟨Tk.ret_ii (by simp [Tk.mulR, Tk.fitR, HM.out, Hm.out]) (by simp [Tk.mulR, Tk.fitR, HM.out]), rfl⟩
    · have hd : decide ((1099511627776 : Int) / x < y) = true := decide_eq_true (by omega)
      have HM : Hid (Tk.isNum (a * b) = false) := by
        cases h : Tk.isNum (a * b)
        · rfl
        · exact absurd (HX.out.2 h) hc
      go_wp2
      go_ret2
      exact ⟨Tk.ret_ii (by simp [Tk.mulR, Tk.fitR, HM.out]) (by simp [Tk.mulR, Tk.fitR, HM.out]), rfl⟩

theorem Tk.tdiv_le (a b : Int) : (a.tdiv b).natAbs ≤ a.natAbs := by rw [Int.natAbs_tdiv]; exact Nat.div_le_self _ _

set_option maxHeartbeats 800000 in
theorem Tryd.reckon_any (op a b : Int) (w : World) (ha1 : -1099511627776 ≤ a) (ha2 : a ≤ 1099511627776) (hb1 : -1099511627776 ≤ b) (hb2 : b ≤ 1099511627776) :
    Calls Tryd.prog 31 #[.int .i64 op, .int .i64 a, .int .i64 b] w fun e w' => e = .returned (.tuple #[.int .i64 (Tk.reckR op a b).1, .int .i64 (Tk.reckR op a b).2]) ∧ w' = w := by
  by_cases h5 : op = 5
  · subst h5
    go_enter Tryd.func31, Tryd.ntmps31
    go_wp2_with fail
    refine (Tryd.fit_any _ _).mono ?_
    rintro e W1 ⟨rfl, rfl⟩
    go_wp2
    go_ret2
    exact ⟨rfl, rfl⟩
  · have e5 : (op == 5) = false := by simpa using h5
    by_cases h6 : op = 6
    · subst h6
      go_enter Tryd.func31, Tryd.ntmps31
      go_wp2_with fail
      refine (Tryd.fit_any _ _).mono ?_
      rintro e W1 ⟨rfl, rfl⟩
      go_wp2
      go_ret2
      exact ⟨rfl, rfl⟩
    · have e6 : (op == 6) = false := by simpa using h6
      by_cases h7 : op = 7
      · subst h7
        go_enter Tryd.func31, Tryd.ntmps31
        go_wp2_with fail
        refine (Tryd.product_any _ _ _ ha1 ha2 hb1 hb2).mono ?_
        rintro e W1 ⟨rfl, rfl⟩
        go_wp2
        go_ret2
        exact ⟨rfl, rfl⟩
      · have e7 : (op == 7) = false := by simpa using h7
        have HR : Hid (Tk.reckR op a b = if b = 0 then (0, 41) else if op = 8 then (a.tdiv b, 0) else (a.tmod b, 0)) := by simp [Hid, Tk.reckR, h5, h6, h7]
        clear h5 h6 h7
        by_cases hb : b = 0
        · subst hb
          go_enter Tryd.func31, Tryd.ntmps31
          go_wp2
          go_ret2
          exact ⟨by rw [HR.out]; simp, rfl⟩
        · have eb : (b == 0) = false := by simpa using hb
          have HB : Hid (¬ b = 0) := hb
          by_cases h8 : op = 8
          · subst h8
            go_enter Tryd.func31, Tryd.ntmps31
            go_wp2
            go_ret2
            exact ⟨Tk.ret_ii (by rw [HR.out, if_neg HB.out, IntWalk.wrap64_in _ (by have := Tk.tdiv_le a b; omega)]; simp) (by rw [HR.out, if_neg HB.out]; simp), rfl⟩
          · have e8 : (op == 8) = false := by simpa using h8
            go_enter Tryd.func31, Tryd.ntmps31
            have H8 : Hid (¬ op = 8) := h8
            clear h8
            go_wp2
            go_ret2
            exact ⟨Tk.ret_ii (by rw [HR.out, if_neg HB.out, if_neg H8.out]) (by rw [HR.out, if_neg HB.out, if_neg H8.out]), rfl⟩

set_option maxHeartbeats 800000 in
theorem Tryd.compare_any (op a b : Int) (w : World) :
    Calls Tryd.prog 33 #[.int .i64 op, .int .i64 a, .int .i64 b] w fun e w' => e = .returned (.bool (Tk.cmpR op a b)) ∧ w' = w := by
  by_cases h5 : op = 10
  · subst h5
    go_enter Tryd.func33, Tryd.ntmps33
    go_wp2
    go_ret
    exact ⟨Tk.ret_bool (by rw [Bool.eq_iff_iff]; simp [Tk.cmpR]), rfl⟩
  · have e5 : (op == 10) = false := by simpa using h5
    by_cases h6 : op = 11
    · subst h6
      go_enter Tryd.func33, Tryd.ntmps33
      go_wp2
      go_ret
      exact ⟨Tk.ret_bool (by simp [Tk.cmpR]), rfl⟩
    · have e6 : (op == 11) = false := by simpa using h6
      have HR : Hid (Tk.cmpR op a b = decide (a ≤ b)) := by simp [Hid, Tk.cmpR, h5, h6]
      clear h5 h6
      go_enter Tryd.func33, Tryd.ntmps33
      go_wp2
      go_ret
      exact ⟨Tk.ret_bool HR.out.symm, rfl⟩

theorem Tk.mod_eq (a b : Int) (ha1 : -1099511627776 ≤ a) (ha2 : a ≤ 1099511627776) : wrap64 (a - wrap64 (wrap64 (a.tdiv b) * b)) = a.tmod b := by
  have h1 := Tk.tdiv_le a b
  have h2 := Int.tmod_def a b
  have h3 : (a.tmod b).natAbs ≤ a.natAbs := by rw [Int.natAbs_tmod]; exact Nat.mod_le _ _
  rw [IntWalk.wrap64_in (a.tdiv b) (by omega), Int.mul_comm]
  rw [IntWalk.wrap64_in (b * a.tdiv b) (by omega), IntWalk.wrap64_in _ (by omega), h2]

/-- sum's answer, of operators from 5 to 12. -/
def Tk.sumR (op a b : Int) : Int × Bool × Int := if 10 ≤ op then (0, Tk.cmpR op a b, 0) else ((Tk.reckR op a b).1, false, (Tk.reckR op a b).2)

theorem Tk.ret_val {a b : Int} {c : Bool} {r : Int × Bool × Int} (h1 : a = r.1) (h2 : c = r.2.1) (h3 : b = r.2.2) : Ending.returned (.agg #[.int .i64 a, .bool c, .int .i64 b]) = .returned (.agg #[.int .i64 r.1, .bool r.2.1, .int .i64 r.2.2]) := by rw [h1, h2, h3]

set_option maxHeartbeats 1600000 in
theorem Tryd.sum_cmp (op a b : Int) (w : World) (ho : op = 10 ∨ op = 11 ∨ op = 12) :
    Calls Tryd.prog 32 #[.int .i64 op, .int .i64 a, .int .i64 b] w fun e w' => e = .returned (.agg #[.int .i64 (Tk.sumR op a b).1, .bool (Tk.sumR op a b).2.1, .int .i64 (Tk.sumR op a b).2.2]) ∧ Below w.heap.size w w' := by
  rcases ho with rfl | rfl | rfl
  · rcases Int.lt_trichotomy a b with h | h | h
    · have h1 : (a == b) = false := by simp; omega
      have h2 : decide (a < b) = true := by simp; omega
      have H : Hid (decide (a = b) = false) := by simp [Hid]; omega
      clear h
      go_enter Tryd.func32, Tryd.ntmps32
      go_wp2
      refine bodyPost_ret (v := .agg #[.int .i64 0, .bool false, .int .i64 0]) (by simp [results, Tryd.results32, go_sem]) rfl ⟨Tk.ret_val (rfl) (by simp only [Tk.sumR, Tk.cmpR]; simp [H.out]) (rfl), (Below.refl _ w).alloc (Nat.le_refl _) _⟩
    · have h1 : (a == b) = true := by simp; omega
      have h2 : decide (a < b) = false := by simp; omega
      have H : Hid (decide (a = b) = true) := by simp [Hid]; omega
      clear h
      go_enter Tryd.func32, Tryd.ntmps32
      go_wp2
      refine bodyPost_ret (v := .agg #[.int .i64 0, .bool true, .int .i64 0]) (by simp [results, Tryd.results32, go_sem]) rfl ⟨Tk.ret_val (rfl) (by simp only [Tk.sumR, Tk.cmpR]; simp [H.out]) (rfl), (Below.refl _ w).alloc (Nat.le_refl _) _⟩
    · have h1 : (a == b) = false := by simp; omega
      have h2 : decide (a < b) = false := by simp; omega
      have H : Hid (decide (a = b) = false) := by simp [Hid]; omega
      clear h
      go_enter Tryd.func32, Tryd.ntmps32
      go_wp2
      refine bodyPost_ret (v := .agg #[.int .i64 0, .bool false, .int .i64 0]) (by simp [results, Tryd.results32, go_sem]) rfl ⟨Tk.ret_val (rfl) (by simp only [Tk.sumR, Tk.cmpR]; simp [H.out]) (rfl), (Below.refl _ w).alloc (Nat.le_refl _) _⟩
  · rcases Int.lt_trichotomy a b with h | h | h
    · have h1 : (a == b) = false := by simp; omega
      have h2 : decide (a < b) = true := by simp; omega
      have H : Hid (decide (a < b) = true) := by simp [Hid]; omega
      clear h
      go_enter Tryd.func32, Tryd.ntmps32
      go_wp2
      refine bodyPost_ret (v := .agg #[.int .i64 0, .bool true, .int .i64 0]) (by simp [results, Tryd.results32, go_sem]) rfl ⟨Tk.ret_val (rfl) (by simp only [Tk.sumR, Tk.cmpR]; simp [H.out]) (rfl), (Below.refl _ w).alloc (Nat.le_refl _) _⟩
    · have h1 : (a == b) = true := by simp; omega
      have h2 : decide (a < b) = false := by simp; omega
      have H : Hid (decide (a < b) = false) := by simp [Hid]; omega
      clear h
      go_enter Tryd.func32, Tryd.ntmps32
      go_wp2
      refine bodyPost_ret (v := .agg #[.int .i64 0, .bool false, .int .i64 0]) (by simp [results, Tryd.results32, go_sem]) rfl ⟨Tk.ret_val (rfl) (by simp only [Tk.sumR, Tk.cmpR]; simp [H.out]) (rfl), (Below.refl _ w).alloc (Nat.le_refl _) _⟩
    · have h1 : (a == b) = false := by simp; omega
      have h2 : decide (a < b) = false := by simp; omega
      have H : Hid (decide (a < b) = false) := by simp [Hid]; omega
      clear h
      go_enter Tryd.func32, Tryd.ntmps32
      go_wp2
      refine bodyPost_ret (v := .agg #[.int .i64 0, .bool false, .int .i64 0]) (by simp [results, Tryd.results32, go_sem]) rfl ⟨Tk.ret_val (rfl) (by simp only [Tk.sumR, Tk.cmpR]; simp [H.out]) (rfl), (Below.refl _ w).alloc (Nat.le_refl _) _⟩
  · rcases Int.lt_trichotomy a b with h | h | h
    · have h1 : (a == b) = false := by simp; omega
      have h2 : decide (a < b) = true := by simp; omega
      have H : Hid (decide (a ≤ b) = true) := by simp [Hid]; omega
      clear h
      go_enter Tryd.func32, Tryd.ntmps32
      go_wp2
      refine bodyPost_ret (v := .agg #[.int .i64 0, .bool true, .int .i64 0]) (by simp [results, Tryd.results32, go_sem]) rfl ⟨Tk.ret_val (rfl) (by simp only [Tk.sumR, Tk.cmpR]; simp [H.out]) (rfl), (Below.refl _ w).alloc (Nat.le_refl _) _⟩
    · have h1 : (a == b) = true := by simp; omega
      have h2 : decide (a < b) = false := by simp; omega
      have H : Hid (decide (a ≤ b) = true) := by simp [Hid]; omega
      clear h
      go_enter Tryd.func32, Tryd.ntmps32
      go_wp2
      refine bodyPost_ret (v := .agg #[.int .i64 0, .bool true, .int .i64 0]) (by simp [results, Tryd.results32, go_sem]) rfl ⟨Tk.ret_val (rfl) (by simp only [Tk.sumR, Tk.cmpR]; simp [H.out]) (rfl), (Below.refl _ w).alloc (Nat.le_refl _) _⟩
    · have h1 : (a == b) = false := by simp; omega
      have h2 : decide (a < b) = false := by simp; omega
      have H : Hid (decide (a ≤ b) = false) := by simp [Hid]; omega
      clear h
      go_enter Tryd.func32, Tryd.ntmps32
      go_wp2
      refine bodyPost_ret (v := .agg #[.int .i64 0, .bool false, .int .i64 0]) (by simp [results, Tryd.results32, go_sem]) rfl ⟨Tk.ret_val (rfl) (by simp only [Tk.sumR, Tk.cmpR]; simp [H.out]) (rfl), (Below.refl _ w).alloc (Nat.le_refl _) _⟩

set_option maxHeartbeats 1600000 in
theorem Tryd.sum_div (op a b : Int) (w : World) (ho : op = 8 ∨ op = 9) (ha1 : -1099511627776 ≤ a) (ha2 : a ≤ 1099511627776) (hb1 : -1099511627776 ≤ b) (hb2 : b ≤ 1099511627776) :
    Calls Tryd.prog 32 #[.int .i64 op, .int .i64 a, .int .i64 b] w fun e w' => e = .returned (.agg #[.int .i64 (Tk.sumR op a b).1, .bool (Tk.sumR op a b).2.1, .int .i64 (Tk.sumR op a b).2.2]) ∧ Below w.heap.size w w' := by
  by_cases hb : b = 0
  · subst hb
    rcases ho with rfl | rfl
    all_goals
      go_enter Tryd.func32, Tryd.ntmps32
      go_wp2
      refine bodyPost_ret (v := .agg #[.int .i64 0, .bool false, .int .i64 41]) (by simp [results, Tryd.results32, go_sem]) rfl ⟨Tk.ret_val (by simp [Tk.sumR, Tk.reckR]) (by simp [Tk.sumR]) (by simp [Tk.sumR, Tk.reckR]), (Below.refl _ w).alloc (Nat.le_refl _) _⟩
  · have HB : Hid (¬ b = 0) := hb
    have HD : Hid ((a.tdiv b).natAbs ≤ a.natAbs) := Tk.tdiv_le a b
    rcases ho with rfl | rfl
    · go_enter Tryd.func32, Tryd.ntmps32
      go_wp2
      refine bodyPost_ret (v := .agg #[.int .i64 (wrap64 (a.tdiv b)), .bool false, .int .i64 0]) (by simp [results, Tryd.results32, go_sem]) rfl ⟨Tk.ret_val (by rw [IntWalk.wrap64_in _ (by have := HD.out; omega)]; simp [Tk.sumR, Tk.reckR, HB.out]) (by simp [Tk.sumR]) (by simp [Tk.sumR, Tk.reckR, HB.out]), (Below.refl _ w).alloc (Nat.le_refl _) _⟩
    · go_enter Tryd.func32, Tryd.ntmps32
      go_wp2
      refine bodyPost_ret (v := .agg #[.int .i64 (wrap64 (a - wrap64 (wrap64 (a.tdiv b) * b))), .bool false, .int .i64 0]) (by simp [results, Tryd.results32, go_sem]) rfl ⟨Tk.ret_val (by rw [Tk.mod_eq a b (by omega) (by omega)]; simp [Tk.sumR, Tk.reckR, HB.out]) (by simp [Tk.sumR]) (by simp [Tk.sumR, Tk.reckR, HB.out]), (Below.refl _ w).alloc (Nat.le_refl _) _⟩

set_option maxHeartbeats 1600000 in
theorem Tryd.sum_mul (a b : Int) (w : World) (ha1 : -1099511627776 ≤ a) (ha2 : a ≤ 1099511627776) (hb1 : -1099511627776 ≤ b) (hb2 : b ≤ 1099511627776) :
    Calls Tryd.prog 32 #[.int .i64 7, .int .i64 a, .int .i64 b] w fun e w' => e = .returned (.agg #[.int .i64 (Tk.sumR 7 a b).1, .bool (Tk.sumR 7 a b).2.1, .int .i64 (Tk.sumR 7 a b).2.2]) ∧ Below w.heap.size w w' := by
  by_cases hb : b = 0
  · subst hb
    go_enter Tryd.func32, Tryd.ntmps32
    go_wp2
    refine bodyPost_ret (v := .agg #[.int .i64 0, .bool false, .int .i64 0]) (by simp [results, Tryd.results32, go_sem]) rfl ⟨Tk.ret_val (by simp [Tk.sumR, Tk.reckR, Tk.mulR, Tk.fitR, Tk.isNum]) (by simp [Tk.sumR]) (by simp [Tk.sumR, Tk.reckR, Tk.mulR, Tk.fitR, Tk.isNum]), (Below.refl _ w).alloc (Nat.le_refl _) _⟩
  · have hne : (b != 0) = true := by simpa using hb
    have HX : Hid ((a.natAbs : Int) ≤ 1099511627776 / (b.natAbs : Int) ↔ Tk.isNum (a * b) = true) := by
      have := Tk.mul_fits (a := b) (b := a) hb
      rw [Int.tdiv_eq_ediv_of_nonneg (by omega), Int.mul_comm] at this
      exact this
    have HB : Hid (¬ b = 0) := hb
    clear hb
    go_enter Tryd.func32, Tryd.ntmps32
    go_wp2_with fail
    refine (Tryd.refSize_any a _ (by omega) (by omega)).mono ?_
    rintro e W1 ⟨rfl, rfl⟩
    go_wp2_with fail
    refine (Tryd.refSize_any b _ (by omega) (by omega)).mono ?_
    rintro e W2 ⟨rfl, rfl⟩
    obtain ⟨x, hx⟩ : ∃ x : Nat, a.natAbs = x := ⟨_, rfl⟩
    obtain ⟨y, hy⟩ : ∃ y : Nat, b.natAbs = y := ⟨_, rfl⟩
    have hy0 : ¬ y = 0 := by have := HB.out; omega
    rw [hx, hy] at HX
    rw [hx, hy]
    clear hx hy
    by_cases hc : (x : Int) ≤ 1099511627776 / (y : Int)
    · have hd : decide ((1099511627776 : Int) / y < x) = false := decide_eq_false (by omega)
      have HM : Hid (Tk.isNum (a * b) = true) := HX.out.1 hc
      have Hm : Hid (wrap64 (a * b) = a * b) := by
        have := Tk.isNum_iff.1 HM.out
        exact IntWalk.wrap64_in _ (by omega)
      go_wp2
      refine bodyPost_ret (v := .agg #[.int .i64 (wrap64 (a * b)), .bool false, .int .i64 0]) (by simp [results, Tryd.results32, go_sem]) rfl ⟨Tk.ret_val (by simp [Tk.sumR, Tk.reckR, Tk.mulR, Tk.fitR, HM.out, Hm.out]) (by simp [Tk.sumR]) (by simp [Tk.sumR, Tk.reckR, Tk.mulR, Tk.fitR, HM.out]), (Below.refl _ w).alloc (Nat.le_refl _) _⟩
    · have hd : decide ((1099511627776 : Int) / y < x) = true := decide_eq_true (by omega)
      have HM : Hid (Tk.isNum (a * b) = false) := by
        cases h : Tk.isNum (a * b)
        · rfl
        · exact absurd (HX.out.2 h) hc
      go_wp2
      refine bodyPost_ret (v := .agg #[.int .i64 0, .bool false, .int .i64 40]) (by simp [results, Tryd.results32, go_sem]) rfl ⟨Tk.ret_val (by simp [Tk.sumR, Tk.reckR, Tk.mulR, Tk.fitR, HM.out]) (by simp [Tk.sumR]) (by simp [Tk.sumR, Tk.reckR, Tk.mulR, Tk.fitR, HM.out]), (Below.refl _ w).alloc (Nat.le_refl _) _⟩

set_option maxHeartbeats 1600000 in
theorem Tryd.sum_add (a b : Int) (w : World) (ha1 : -1099511627776 ≤ a) (ha2 : a ≤ 1099511627776) (hb1 : -1099511627776 ≤ b) (hb2 : b ≤ 1099511627776) :
    Calls Tryd.prog 32 #[.int .i64 5, .int .i64 a, .int .i64 b] w fun e w' => e = .returned (.agg #[.int .i64 (Tk.sumR 5 a b).1, .bool (Tk.sumR 5 a b).2.1, .int .i64 (Tk.sumR 5 a b).2.2]) ∧ Below w.heap.size w w' := by
  go_enter Tryd.func32, Tryd.ntmps32
  go_wp2_with fail
  refine (Tryd.refSize_any _ _ (by omega) (by omega)).mono ?_
  rintro e W1 ⟨rfl, rfl⟩
  cases hm : Tk.isNum (a + b)
  · have hd : decide ((1099511627776 : Int) < (((a + b).natAbs : Nat) : Int)) = true := by
      refine decide_eq_true ?_
      have : ¬ (-1099511627776 ≤ a + b ∧ a + b ≤ 1099511627776) := fun h => by rw [Tk.isNum_iff.2 h] at hm; cases hm
      omega
    have HM : Hid (Tk.isNum (a + b) = false) := hm
    clear hm
    go_wp2
    refine bodyPost_ret (v := .agg #[.int .i64 0, .bool false, .int .i64 40]) (by simp [results, Tryd.results32, go_sem]) rfl ⟨Tk.ret_val (by simp [Tk.sumR, Tk.reckR, Tk.fitR, HM.out]) (by simp [Tk.sumR]) (by simp [Tk.sumR, Tk.reckR, Tk.fitR, HM.out]), (Below.refl _ w).alloc (Nat.le_refl _) _⟩
  · have hd : decide ((1099511627776 : Int) < (((a + b).natAbs : Nat) : Int)) = false := by
      refine decide_eq_false ?_
      have := Tk.isNum_iff.1 hm
      omega
    have HM : Hid (Tk.isNum (a + b) = true) := hm
    clear hm
    go_wp2
    refine bodyPost_ret (v := .agg #[.int .i64 (a + b), .bool false, .int .i64 0]) (by simp [results, Tryd.results32, go_sem]) rfl ⟨Tk.ret_val (by simp [Tk.sumR, Tk.reckR, Tk.fitR, HM.out]) (by simp [Tk.sumR]) (by simp [Tk.sumR, Tk.reckR, Tk.fitR, HM.out]), (Below.refl _ w).alloc (Nat.le_refl _) _⟩

set_option maxHeartbeats 1600000 in
theorem Tryd.sum_sub (a b : Int) (w : World) (ha1 : -1099511627776 ≤ a) (ha2 : a ≤ 1099511627776) (hb1 : -1099511627776 ≤ b) (hb2 : b ≤ 1099511627776) :
    Calls Tryd.prog 32 #[.int .i64 6, .int .i64 a, .int .i64 b] w fun e w' => e = .returned (.agg #[.int .i64 (Tk.sumR 6 a b).1, .bool (Tk.sumR 6 a b).2.1, .int .i64 (Tk.sumR 6 a b).2.2]) ∧ Below w.heap.size w w' := by
  go_enter Tryd.func32, Tryd.ntmps32
  go_wp2_with fail
  refine (Tryd.refSize_any _ _ (by omega) (by omega)).mono ?_
  rintro e W1 ⟨rfl, rfl⟩
  cases hm : Tk.isNum (a - b)
  · have hd : decide ((1099511627776 : Int) < (((a - b).natAbs : Nat) : Int)) = true := by
      refine decide_eq_true ?_
      have : ¬ (-1099511627776 ≤ a - b ∧ a - b ≤ 1099511627776) := fun h => by rw [Tk.isNum_iff.2 h] at hm; cases hm
      omega
    have HM : Hid (Tk.isNum (a - b) = false) := hm
    clear hm
    go_wp2
    refine bodyPost_ret (v := .agg #[.int .i64 0, .bool false, .int .i64 40]) (by simp [results, Tryd.results32, go_sem]) rfl ⟨Tk.ret_val (by simp [Tk.sumR, Tk.reckR, Tk.fitR, HM.out]) (by simp [Tk.sumR]) (by simp [Tk.sumR, Tk.reckR, Tk.fitR, HM.out]), (Below.refl _ w).alloc (Nat.le_refl _) _⟩
  · have hd : decide ((1099511627776 : Int) < (((a - b).natAbs : Nat) : Int)) = false := by
      refine decide_eq_false ?_
      have := Tk.isNum_iff.1 hm
      omega
    have HM : Hid (Tk.isNum (a - b) = true) := hm
    clear hm
    go_wp2
    refine bodyPost_ret (v := .agg #[.int .i64 (a - b), .bool false, .int .i64 0]) (by simp [results, Tryd.results32, go_sem]) rfl ⟨Tk.ret_val (by simp [Tk.sumR, Tk.reckR, Tk.fitR, HM.out]) (by simp [Tk.sumR]) (by simp [Tk.sumR, Tk.reckR, Tk.fitR, HM.out]), (Below.refl _ w).alloc (Nat.le_refl _) _⟩

theorem Tryd.sum_any (op a b : Int) (w : World) (ho : 5 ≤ op ∧ op ≤ 12) (ha1 : -1099511627776 ≤ a) (ha2 : a ≤ 1099511627776) (hb1 : -1099511627776 ≤ b) (hb2 : b ≤ 1099511627776) :
    Calls Tryd.prog 32 #[.int .i64 op, .int .i64 a, .int .i64 b] w fun e w' => e = .returned (.agg #[.int .i64 (Tk.sumR op a b).1, .bool (Tk.sumR op a b).2.1, .int .i64 (Tk.sumR op a b).2.2]) ∧ Below w.heap.size w w' := by
  obtain h | h | h | h | h : op = 5 ∨ op = 6 ∨ op = 7 ∨ (op = 8 ∨ op = 9) ∨ (op = 10 ∨ op = 11 ∨ op = 12) := by omega
  · subst h; exact Tryd.sum_add a b w ha1 ha2 hb1 hb2
  · subst h; exact Tryd.sum_sub a b w ha1 ha2 hb1 hb2
  · subst h; exact Tryd.sum_mul a b w ha1 ha2 hb1 hb2
  · exact Tryd.sum_div op a b w h ha1 ha2 hb1 hb2
  · exact Tryd.sum_cmp op a b w h

end Go.Proofs
