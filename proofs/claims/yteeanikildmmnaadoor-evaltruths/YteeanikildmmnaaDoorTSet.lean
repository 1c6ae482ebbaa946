/-
  The contracts of Set, of the program and of the document's answer.
-/
import Derived.Test.YteeanikildmmnaaDoorTVars
namespace Go.Proofs
open Go.RowKit

/-- Set's error. -/
def Tk.setE (v n : Int) : Int := if 0 ≤ v ∧ v ≤ 3 ∧ Tk.isNum n = true then 0 else 1
/-- The value of variable k behind Set. -/
def Tk.setY (k x v n : Int) : Int := if Tk.setE v n = 0 then (if v = k then n else x) else 0

theorem Tk.setE_bad {v n : Int} (h : v < 0 ∨ 3 < v ∨ Tk.isNum n = false) : Tk.setE v n = 1 := by
  unfold Tk.setE
  split
  · rename_i hc
    rcases h with h | h | h
    · omega
    · omega
    · rw [h] at hc; simp at hc
  · rfl
theorem Tk.setE_ok {v n : Int} (h1 : 0 ≤ v) (h2 : v ≤ 3) (h3 : Tk.isNum n = true) : Tk.setE v n = 0 := by
  unfold Tk.setE
  rw [if_pos ⟨h1, h2, h3⟩]
theorem Tk.ret_set {a b c d e x0 x1 x2 x3 v n : Int} (h0 : a = Tk.setY 0 x0 v n) (h1 : b = Tk.setY 1 x1 v n) (h2 : c = Tk.setY 2 x2 v n) (h3 : d = Tk.setY 3 x3 v n) (he : e = Tk.setE v n) :
    Ending.returned (.tuple #[.agg #[.int .i64 a, .int .i64 b, .int .i64 c, .int .i64 d], .int .i64 e]) = .returned (.tuple #[.agg #[.int .i64 (Tk.setY 0 x0 v n), .int .i64 (Tk.setY 1 x1 v n), .int .i64 (Tk.setY 2 x2 v n), .int .i64 (Tk.setY 3 x3 v n)], .int .i64 (Tk.setE v n)]) := by rw [h0, h1, h2, h3, he]

set_option maxHeartbeats 1600000 in
theorem Tryd.set_any (x0 x1 x2 x3 v n : Int) (w : World) :
    Calls Tryd.prog 14 #[.agg #[.int .i64 x0, .int .i64 x1, .int .i64 x2, .int .i64 x3], .int .i64 v, .int .i64 n] w fun e w' => e = .returned (.tuple #[.agg #[.int .i64 (Tk.setY 0 x0 v n), .int .i64 (Tk.setY 1 x1 v n), .int .i64 (Tk.setY 2 x2 v n), .int .i64 (Tk.setY 3 x3 v n)], .int .i64 (Tk.setE v n)]) ∧ Below w.heap.size w w' := by
  by_cases h1 : v < 0
  · have HE : Hid (Tk.setE v n = 1) := Tk.setE_bad (.inl h1)
    have d1 : decide (v < 0) = true := decide_eq_true h1
    clear h1
    go_enter Tryd.func14, Tryd.ntmps14
    go_wp2
    refine bodyPost_ret (v := .tuple #[.agg #[.int .i64 0, .int .i64 0, .int .i64 0, .int .i64 0], .int .i64 1]) (by simp [results, Tryd.results14, go_sem]) rfl ⟨Tk.ret_set (by simp [Tk.setY, HE.out]) (by simp [Tk.setY, HE.out]) (by simp [Tk.setY, HE.out]) (by simp [Tk.setY, HE.out]) (by rw [HE.out]), (((Below.refl _ w).alloc (Nat.le_refl _) _).alloc (by simp) _)⟩
  · have d1 : decide (v < 0) = false := decide_eq_false h1
    by_cases h2 : 3 < v
    · have HE : Hid (Tk.setE v n = 1) := Tk.setE_bad (.inr (.inl h2))
      have d2 : decide ((4 : Int) ≤ v) = true := decide_eq_true (by omega)
      have d3 : decide ((3 : Int) < v) = true := decide_eq_true h2
      clear h1 h2
      go_enter Tryd.func14, Tryd.ntmps14
      go_wp2
      refine bodyPost_ret (v := .tuple #[.agg #[.int .i64 0, .int .i64 0, .int .i64 0, .int .i64 0], .int .i64 1]) (by simp [results, Tryd.results14, go_sem]) rfl ⟨Tk.ret_set (by simp [Tk.setY, HE.out]) (by simp [Tk.setY, HE.out]) (by simp [Tk.setY, HE.out]) (by simp [Tk.setY, HE.out]) (by rw [HE.out]), (((Below.refl _ w).alloc (Nat.le_refl _) _).alloc (by simp) _)⟩
    · cases h3 : Tk.isNum n
      · have HE : Hid (Tk.setE v n = 1) := Tk.setE_bad (.inr (.inr h3))
        have d2 : decide ((4 : Int) ≤ v) = false := decide_eq_false (by omega)
        have d3 : decide ((3 : Int) < v) = false := decide_eq_false h2
        clear h1 h2
        go_enter Tryd.func14, Tryd.ntmps14
        go_wp2_with fail
        refine (Tryd.isNumber_any n _).mono ?_
        rintro e W ⟨rfl, rfl⟩
        rw [h3]
        clear h3
        go_wp2
        refine bodyPost_ret (v := .tuple #[.agg #[.int .i64 0, .int .i64 0, .int .i64 0, .int .i64 0], .int .i64 1]) (by simp [results, Tryd.results14, go_sem]) rfl ⟨Tk.ret_set (by simp [Tk.setY, HE.out]) (by simp [Tk.setY, HE.out]) (by simp [Tk.setY, HE.out]) (by simp [Tk.setY, HE.out]) (by rw [HE.out]), (((Below.refl _ w).alloc (Nat.le_refl _) _).alloc (by simp) _)⟩
      · have HE : Hid (Tk.setE v n = 0) := Tk.setE_ok (by omega) (by omega) h3
        obtain rfl | rfl | rfl | rfl : v = 0 ∨ v = 1 ∨ v = 2 ∨ v = 3 := by omega
        · go_enter Tryd.func14, Tryd.ntmps14
          go_wp2_with fail
          refine (Tryd.isNumber_any n _).mono ?_
          rintro e W ⟨rfl, rfl⟩
          rw [h3]
          clear h3
          go_wp2
          refine bodyPost_ret (v := .tuple #[.agg #[.int .i64 n, .int .i64 x1, .int .i64 x2, .int .i64 x3], .int .i64 0]) (by simp [results, Tryd.results14, go_sem]) rfl ⟨Tk.ret_set (by simp [Tk.setY, HE.out]) (by simp [Tk.setY, HE.out]) (by simp [Tk.setY, HE.out]) (by simp [Tk.setY, HE.out]) (by rw [HE.out]), (((Below.refl _ w).alloc (Nat.le_refl _) _).alloc (by simp) _)⟩
        · go_enter Tryd.func14, Tryd.ntmps14
          go_wp2_with fail
          refine (Tryd.isNumber_any n _).mono ?_
          rintro e W ⟨rfl, rfl⟩
          rw [h3]
          clear h3
          go_wp2
          refine bodyPost_ret (v := .tuple #[.agg #[.int .i64 x0, .int .i64 n, .int .i64 x2, .int .i64 x3], .int .i64 0]) (by simp [results, Tryd.results14, go_sem]) rfl ⟨Tk.ret_set (by simp [Tk.setY, HE.out]) (by simp [Tk.setY, HE.out]) (by simp [Tk.setY, HE.out]) (by simp [Tk.setY, HE.out]) (by rw [HE.out]), (((Below.refl _ w).alloc (Nat.le_refl _) _).alloc (by simp) _)⟩
        · go_enter Tryd.func14, Tryd.ntmps14
          go_wp2_with fail
          refine (Tryd.isNumber_any n _).mono ?_
          rintro e W ⟨rfl, rfl⟩
          rw [h3]
          clear h3
          go_wp2
          refine bodyPost_ret (v := .tuple #[.agg #[.int .i64 x0, .int .i64 x1, .int .i64 n, .int .i64 x3], .int .i64 0]) (by simp [results, Tryd.results14, go_sem]) rfl ⟨Tk.ret_set (by simp [Tk.setY, HE.out]) (by simp [Tk.setY, HE.out]) (by simp [Tk.setY, HE.out]) (by simp [Tk.setY, HE.out]) (by rw [HE.out]), (((Below.refl _ w).alloc (Nat.le_refl _) _).alloc (by simp) _)⟩
        · go_enter Tryd.func14, Tryd.ntmps14
          go_wp2_with fail
          refine (Tryd.isNumber_any n _).mono ?_
          rintro e W ⟨rfl, rfl⟩
          rw [h3]
          clear h3
          go_wp2
          refine bodyPost_ret (v := .tuple #[.agg #[.int .i64 x0, .int .i64 x1, .int .i64 x2, .int .i64 n], .int .i64 0]) (by simp [results, Tryd.results14, go_sem]) rfl ⟨Tk.ret_set (by simp [Tk.setY, HE.out]) (by simp [Tk.setY, HE.out]) (by simp [Tk.setY, HE.out]) (by simp [Tk.setY, HE.out]) (by rw [HE.out]), (((Below.refl _ w).alloc (Nat.le_refl _) _).alloc (by simp) _)⟩

end Go.Proofs
