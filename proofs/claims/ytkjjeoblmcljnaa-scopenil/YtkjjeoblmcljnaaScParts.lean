/-
  parts where there are none; Leave at the example's scopes.
-/
import Derived.Test.YtkjjeoblmcljnaaScOps
namespace Go.Proofs
open Go.RowKit Go.Shelf Go.Sort

def Sc.sel (a b c : Int) (k : Nat) : Int := if k = 0 then a else if k = 1 then b else c
theorem Sc.At.sel {r gp gs cp : Nat} {vd : Value} {a b c : Int} {D : List Int} {w : World} (h : Sc.At r gp gs cp vd a b c D w) (k : Nat) (hk : k < 3) : w.cell? ⟨gs, k, none⟩ = some (.int .i64 (Sc.sel a b c k)) := by
  obtain rfl | rfl | rfl : k = 0 ∨ k = 1 ∨ k = 2 := by omega
  · exact h.st.1
  · exact h.st.2.1
  · exact h.st.2.2.1

set_option maxRecDepth 20000 in
theorem Try.parts_none {r gp gs cp : Nat} {vd : Value} {a b c : Int} {D : List Int} (st : Int) (i b1 b2 : Nat) (hi : i < 3) (f : Value) (w : World) (h : Sc.At r gp gs cp vd a b c D w) (q1 : w.cell? ⟨b1, 0, none⟩ = some (.pointer (some ⟨r, 0, none⟩))) (q2 : w.cell? ⟨b2, 0, none⟩ = some (.int .i64 i)) (l1 : b1 < w.heap.size) (l2 : b2 < w.heap.size)
    (hno : ∀ k, k < 3 → Sc.sel a b c k = st → Sc.par k ≠ (i : Int)) :
    Calls Try.prog 29 #[.pointer (some ⟨r, 0, none⟩), .int .i64 st, .func (.func 39) #[] #[.pointer (some ⟨b1, 0, none⟩), .pointer (some ⟨b2, 0, none⟩)], f] w fun e w' => e = .returned (.slice none 0 0) ∧ Below w.heap.size w w' := by
  have c1 := h.c0.2.1
  have H : Hid (Sc.At r gp gs cp vd a b c D w ∧ w.cell? ⟨b1, 0, none⟩ = some (.pointer (some ⟨r, 0, none⟩)) ∧ w.cell? ⟨b2, 0, none⟩ = some (.int .i64 i) ∧ ∀ k, k < 3 → Sc.sel a b c k = st → Sc.par k ≠ (i : Int)) := ⟨h, q1, q2, hno⟩
  clear h q1 q2 hno
  go_enter Try.func29, Try.ntmps29
  go_wp2
  go_loopg [9, 17] 3 (fun gk s9 s wr => ∃ k : Nat, gk + k = 3 ∧ s9 = .slice none 0 0 ∧ s = .int .i64 k ∧ Hid (Below w.heap.size w wr))
  case atStart => exact ⟨0, by omega, rfl, rfl, Below.refl _ _⟩
  case round =>
    obtain ⟨k, hk, rfl, rfl, HB⟩ := hrel
    by_cases hlt : k < 3
    · have hd : decide ((k : Int) < 3) = true := decide_eq_true (by omega)
      have hd' : decide (k < 3) = true := decide_eq_true hlt
      have k1 : (k : Int) < 3 := by omega
      have k2 : (0 : Int) ≤ k := by omega
      have At := H.out.1.below HB.out
      have sk := At.sel k hlt
      obtain ⟨x, hx⟩ : ∃ x, Sc.sel a b c k = x := ⟨_, rfl⟩
      rw [hx] at sk
      by_cases hs : x = st
      · have e1 : (x == st) = true := by simpa using hs
        have C := Try.isOf1_any k i b1 b2 hlt hi wr At ((HB.out.cell (p := ⟨b1, 0, none⟩) l1).trans H.out.2.1) ((HB.out.cell (p := ⟨b2, 0, none⟩) l2).trans H.out.2.2.1)
        rw [decide_eq_false (H.out.2.2.2 k hlt (hx.trans hs))] at C
        have HC : Hid _ := C
        clear At C hx hs
        go_wp2_with fail
        refine Calls.mono HC.out ?_
        rintro e W ⟨rfl, hb⟩
        have HB2 : Hid (Below w.heap.size w W) := HB.out.trans (hb.mono HB.out.size)
        clear hb HC
        go_wp2
        go_roundg (gk - 1)
        case measure => omega
        case rel => exact ⟨k + 1, by omega, rfl, by go_num, HB2.out⟩
      · have e1 : (x == st) = false := by simpa using hs
        clear At hx hs
        go_wp2
        go_roundg (gk - 1)
        case measure => omega
        case rel => exact ⟨k + 1, by omega, rfl, by go_num, HB.out⟩
    · have hd : decide ((k : Int) < 3) = false := decide_eq_false (by omega)
      have hd' : decide (k < 3) = false := decide_eq_false hlt
      go_wp2_with fail
      refine Calls.mono (Try.sort_none f wr) ?_
      rintro e W ⟨rfl, hW⟩
      obtain rfl := hW.symm
      go_wp2
      go_ret
      exact ⟨rfl, HB.out⟩

end Go.Proofs
