/-
  The document's plain of kinds without kids.
-/
import Derived.Test.YtimmgchapcbgfaaDoorBlRefNum
namespace Go.Proofs
open Go.RowKit

theorem Bl.low_of {k n r : Int} {ls : List (Int × Int × Int)} (h : Bl.okB k n r ls = true) : ∀ x, x ∈ ls → -1 ≤ x.1 ∧ -1 ≤ x.2.1 ∧ -1 ≤ x.2.2 := by
  intro x hx
  simp only [Bl.okB, Bl.writB, Bool.and_eq_true, decide_eq_true_eq, Bool.not_eq_true'] at h
  have h1 := h.1.2
  have h2 : Bl.lowL x = false := by
    cases e : Bl.lowL x with
    | false => rfl
    | true => rw [List.any_eq_true.2 ⟨x, hx, e⟩] at h1; cases h1
  simp only [Bl.lowL, decide_eq_false_iff_not] at h2
  omega

set_option maxRecDepth 20000 in
set_option maxHeartbeats 8000000 in
theorem Tryd.refBPlain_flat (T : Bl) (v lv : Value) (a : Option Addr) (c : Nat) (al : Option Addr) (cl : Nat) (w : World) (hv : v = .slice a T.ks.length c) (hlv : lv = .slice al T.ls.length cl) (hF : T.allP Bl.okB = true)
    (hk : T.kind = 1 ∨ T.kind = 10 ∨ T.kind = 2 ∨ T.kind = 8) :
    Calls Tryd.prog 18 #[.agg #[.int .i64 T.kind, .int .i64 T.node, .int .i64 T.arg, v, lv]] w fun e w' => e = .returned (.string ⟨T.textL.toArray⟩) ∧ Below w.heap.size w w' := by
  subst hv
  subst hlv
  rw [Bl.allP_eq, Bool.and_eq_true] at hF
  obtain ⟨ok1, ok2, ok3, ok4⟩ := Bl.okB_iff hF.1
  have htx := T.textL_eq
  obtain ⟨k, hkk⟩ : ∃ z, T.kind = z := ⟨_, rfl⟩
  obtain ⟨nn, hnn⟩ : ∃ z, T.node = z := ⟨_, rfl⟩
  obtain ⟨rr, hrr⟩ : ∃ z, T.arg = z := ⟨_, rfl⟩
  obtain ⟨n, hn⟩ : ∃ n, T.ks.length = n := ⟨_, rfl⟩
  obtain ⟨nl, hnl⟩ : ∃ n, T.ls.length = n := ⟨_, rfl⟩
  rw [hkk] at hk
  rw [hnn] at ok2
  rw [hkk, hnn, hrr] at htx
  rw [hkk, hnn, hrr, hn, hnl]
  have A0 : Hid (Below w.heap.size w (w.alloc (.cells #[.int .i64 k, .int .i64 nn, .int .i64 rr, .slice a n c, .slice al nl cl] 34))) := (Below.refl _ w).alloc (Nat.le_refl _) _
  have HC : Hid _ := Tryd.refNum_any nn (by omega) ok2.2 (w.alloc (.cells #[.int .i64 k, .int .i64 nn, .int .i64 rr, .slice a n c, .slice al nl cl] 34))
  have hil := Lib.itoa_length_le nn (by omega) ok2.2
  obtain ⟨dl, hdl⟩ : ∃ z, Lib.itoa nn = z := ⟨_, rfl⟩
  rw [hdl] at htx HC hil
  have hdz : (⟨dl.toArray⟩ : ByteArray).size ≤ 21 := by simpa [ByteArray.size] using hil
  obtain ⟨R, hR⟩ : ∃ z, T.textL = z := ⟨_, rfl⟩
  rw [hR]
  rw [hR] at htx
  clear hF ok1 ok2 ok3 ok4 hkk hnn hrr hn hnl hdl hR
  rcases hk with rfl | rfl | rfl | rfl
  · have HX : Hid (R = [45]) := htx
    clear htx HC
    go_enter Tryd.func18, Tryd.ntmps18
    go_wp2
    go_ret
    exact ⟨by rw [HX.out]; rfl, A0.out⟩
  · have HX : Hid (R = [42]) := htx
    clear htx HC
    go_enter Tryd.func18, Tryd.ntmps18
    go_wp2
    go_ret
    exact ⟨by rw [HX.out]; rfl, A0.out⟩
  · have HX : Hid (R = dl) := htx
    clear htx
    go_enter Tryd.func18, Tryd.ntmps18
    go_wp2_with fail
    refine Calls.mono HC.out ?_
    rintro e W1 ⟨rfl, hb⟩
    have HB : Hid (Below w.heap.size w W1) := A0.out.trans (hb.mono A0.out.size)
    clear HC hb
    go_wp2
    go_ret
    exact ⟨by rw [HX.out]; rfl, HB.out⟩
  · have HX : Hid (R = 103 :: dl) := htx
    clear htx
    go_enter Tryd.func18, Tryd.ntmps18
    go_wp2_with fail
    refine Calls.mono HC.out ?_
    rintro e W1 ⟨rfl, hb⟩
    have HB : Hid (Below w.heap.size w W1) := A0.out.trans (hb.mono A0.out.size)
    clear HC hb
    go_wp2
    go_ret
    exact ⟨by rw [HX.out]; rfl, HB.out⟩

end Go.Proofs
