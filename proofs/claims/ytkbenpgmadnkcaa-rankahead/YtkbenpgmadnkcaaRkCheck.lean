/-
  The contract of rank.Check.
-/
import Derived.Test.YtkbenpgmadnkcaaRkMem
namespace Go.Proofs
open Go.RowKit Go.Shelf

/-- Is it one of n things? -/
def Rk.inB (n i : Int) : Bool := decide (0 ≤ i) && decide (i < n)
/-- Has an edge an end that is none? -/
def Rk.outB (n : Int) (x : Int × Int) : Bool := !Rk.inB n x.1 || !Rk.inB n x.2
/-- Check's answer. -/
def Rk.chk (n : Int) (es : List (Int × Int)) : Int := if n < 0 ∨ 64 < n then 1 else if 256 < es.length then 2 else if es.any (Rk.outB n) = true then 4 else 0

theorem Rk.enters_check : ∀ args w, (callFunc 29 args).run Try.prog w = .ok (.enter 29 args) w := enters_of Try.func29 (by kernel_rfl) rfl

set_option maxHeartbeats 2000000 in
theorem Rk.check_pred (n : Int) (b : Nat) (es : List (Int × Int)) (w : World) (hb : b < w.heap.size) (hc : w.cell? ⟨b, 0, none⟩ = some (.int .i64 n)) : Rk.Pred 29 #[.pointer (some ⟨b, 0, none⟩)] (Rk.outB n) es w := by
  intro W x y _ hW
  show Calls Try.prog 29 #[.agg #[.int .i64 x, .int .i64 y], .pointer (some ⟨b, 0, none⟩)] W _
  have B0 : Hid (Below w.heap.size w W) := hW
  have c0 : W.cell? ⟨b, 0, none⟩ = some (.int .i64 n) := (hW.cell (p := ⟨b, 0, none⟩) hb).trans hc
  have HS : w.heap.size ≤ W.heap.size := hW.size
  have hbW : b < W.heap.size := Nat.lt_of_lt_of_le hb hW.size
  clear hc hW
  have HX : Hid (Rk.outB n (x, y) = (!Rk.inB n x || !Rk.inB n y)) := rfl
  cases hx : Rk.inB n x
  · have h1 : (decide (0 ≤ x) && decide (x < n)) = false := hx
    rw [HX.out, hx]
    clear hx HX
    go_enter Try.func29, Try.ntmps29
    go_wp2_with fail
    refine (Try.within_any n x _).mono ?_
    rintro e W1 ⟨rfl, rfl⟩
    rw [h1]
    go_wp2
    go_ret
    exact ⟨rfl, B0.out.alloc HS _⟩
  · have h1 : (decide (0 ≤ x) && decide (x < n)) = true := hx
    have HY : Hid (Rk.inB n y = (decide (0 ≤ y) && decide (y < n))) := rfl
    rw [HX.out, hx, HY.out]
    clear hx HX HY
    obtain ⟨q, hq⟩ : ∃ q, (decide (0 ≤ y) && decide (y < n)) = q := ⟨_, rfl⟩
    rw [hq]
    have HQ : Hid _ := hq
    clear hq
    go_enter Try.func29, Try.ntmps29
    go_wp2_with fail
    refine (Try.within_any n x _).mono ?_
    rintro e W1 ⟨rfl, rfl⟩
    rw [h1]
    go_wp2_with fail
    refine (Try.within_any n y _).mono ?_
    rintro e W1 ⟨rfl, rfl⟩
    rw [HQ.out]
    go_wp2
    go_ret
    exact ⟨by simp, B0.out.alloc HS _⟩

set_option maxHeartbeats 2000000 in
theorem Try.check_any (n : Int) (a : Option Addr) (c : Nat) (es : List (Int × Int)) (w : World) (hE : Rk.Eds w w.heap.size a es) (hn : es.length ≤ 1000000000000000) :
    Calls Try.prog 15 #[.int .i64 n, .slice a es.length c] w fun e w' => e = .returned (.int .i64 (Rk.chk n es)) ∧ Below w.heap.size w w' := by
  have B0 : Hid (Below w.heap.size w (w.alloc (.cells #[.int .i64 n] 3))) := (Below.refl _ w).alloc (Nat.le_refl _) _
  have HC : Hid _ := Try.contains_any (Rk.outB n) 29 #[.pointer (some ⟨w.heap.size, 0, none⟩)] Rk.enters_check a c es (w.alloc (.cells #[.int .i64 n] 3)) (Rk.check_pred n w.heap.size es _ (by simp) (by simp)) ((hE.below B0.out).wider (by simp)) hn
  obtain ⟨q, hq⟩ : ∃ q, es.any (Rk.outB n) = q := ⟨_, rfl⟩
  obtain ⟨m, hm⟩ : ∃ m, es.length = m := ⟨_, rfl⟩
  have HR : Hid (Rk.chk n es = if n < 0 ∨ 64 < n then 1 else if 256 < m then 2 else if q = true then 4 else 0) := by show Rk.chk n es = _; unfold Rk.chk; rw [hq, hm]
  rw [HR.out]
  rw [hq] at HC
  rw [hm] at HC hn ⊢
  clear hE hq hm HR
  by_cases h1 : n < 0
  · have d1 : decide (n < 0) = true := decide_eq_true h1
    rw [if_pos (.inl h1)]
    clear h1
    go_enter Try.func15, Try.ntmps15
    go_wp2
    go_ret
    exact ⟨rfl, B0.out⟩
  · have d1 : decide (n < 0) = false := decide_eq_false h1
    by_cases h2 : 64 < n
    · have d2 : decide (64 < n) = true := decide_eq_true h2
      rw [if_pos (.inr h2)]
      clear h1 h2
      go_enter Try.func15, Try.ntmps15
      go_wp2
      go_ret
      exact ⟨rfl, B0.out⟩
    · have d2 : decide (64 < n) = false := decide_eq_false h2
      rw [if_neg (by omega)]
      clear h1 h2
      by_cases h3 : 256 < m
      · have d3 : decide ((256 : Int) < m) = true := decide_eq_true (by omega)
        rw [if_pos h3]
        clear h3
        go_enter Try.func15, Try.ntmps15
        go_wp2
        go_ret
        exact ⟨rfl, B0.out⟩
      · have d3 : decide ((256 : Int) < m) = false := decide_eq_false (by omega)
        rw [if_neg h3]
        clear h3
        go_enter Try.func15, Try.ntmps15
        go_wp2_with fail
        refine Calls.mono HC.out ?_
        rintro e W1 ⟨rfl, hb⟩
        have B1 : Hid (Below w.heap.size w W1) := B0.out.trans (hb.mono (by simp))
        clear hb HC
        cases q
        · go_wp2
          go_ret
          exact ⟨rfl, B1.out⟩
        · go_wp2
          go_ret
          exact ⟨rfl, B1.out⟩

end Go.Proofs
