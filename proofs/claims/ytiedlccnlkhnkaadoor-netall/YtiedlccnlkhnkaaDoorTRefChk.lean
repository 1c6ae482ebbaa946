/-
  The contracts of the document's Wrong and Check.
-/
import Derived.Test.YtiedlccnlkhnkaaDoorTRefTyped
namespace Go.Proofs
open Go.RowKit

set_option maxHeartbeats 1600000 in
theorem Tryd.refWrong_any (d : Nat) (T : Tm) (v : Value) (w : World) (hT : Tm.Lies w w.heap.size d v T) (hsz : T.size ≤ 2147483647) :
    Calls Tryd.prog 84 #[.agg #[.int .i64 T.op, .int .i64 T.num, v]] w fun e w' => e = .returned (.int .i64 T.wrongR) ∧ Below w.heap.size w w' := by
  obtain ⟨a, cap, rfl⟩ := hT.shape
  obtain ⟨o, ho⟩ : ∃ o, T.op = o := ⟨_, rfl⟩
  obtain ⟨m, hm⟩ : ∃ m, T.num = m := ⟨_, rfl⟩
  obtain ⟨n, hn⟩ : ∃ n, T.ks.length = n := ⟨_, rfl⟩
  rw [ho, hm, hn]
  rw [hn] at hT
  obtain ⟨w0, hw0⟩ : ∃ w0, w.alloc (.cells #[.int .i64 o, .int .i64 m, .slice a n cap] 32) = w0 := ⟨_, rfl⟩
  have A0 : Below w.heap.size w w0 := by rw [← hw0]; exact (Below.refl _ w).alloc (Nat.le_refl _) _
  have C0 : w0.heap[w.heap.size]? = some (.cells #[.int .i64 o, .int .i64 m, .slice a n cap] 32 (0, 0)) := by rw [← hw0]; exact heap_alloc_new w _
  have h1 := Tryd.depth_any d T (.slice a n cap) w0 ((hT.below A0).wider A0.size) hsz
  rw [ho, hm] at h1
  obtain ⟨dp, hdp⟩ : ∃ r, T.depth = r := ⟨_, rfl⟩
  rw [hdp] at h1
  have H1 : Hid _ := h1
  have HT : Hid (Tm.Lies w w.heap.size d (.slice a n cap) T) := hT
  have HM : Hid (T.op = o ∧ T.num = m ∧ T.depth = dp) := ⟨ho, hm, hdp⟩
  have HA : Hid (Below w.heap.size w w0) := A0
  have HC : Hid (w0.heap[w.heap.size]? = some (.cells #[.int .i64 o, .int .i64 m, .slice a n cap] 32 (0, 0))) := C0
  have HW0 : Hid (w.alloc (.cells #[.int .i64 o, .int .i64 m, .slice a n cap] 32) = w0) := hw0
  have hu := Tryd.underlying32
  clear hw0 h1 hT ho hm A0 C0 hn hdp
  go_enter Tryd.func84, Tryd.ntmps84
  go_wp2_with fail
  rw [HW0.out]
  refine Calls.mono H1.out ?_
  rintro e W1 ⟨rfl, b1⟩
  have B1 : Hid (Below w.heap.size w W1) := HA.out.trans (b1.mono HA.out.size)
  have hbx : W1.heap[w.heap.size]? = some (.cells #[.int .i64 o, .int .i64 m, .slice a n cap] 32 (0, 0)) := by
    rw [b1.block _ (Array.getElem?_eq_some_iff.1 HC.out).1]; exact HC.out
  clear b1 H1 HW0
  by_cases h0 : 24 < dp
  · have hd : decide ((24 : Int) < dp) = true := decide_eq_true (by omega)
    have HR : Hid (T.wrongR = 2) := by show _ = _; unfold Tm.wrongR; rw [if_pos (by rw [HM.out.2.2]; exact h0)]
    go_wp2
    go_ret
    exact ⟨by rw [HR.out]; rfl, B1.out⟩
  · have hd : decide ((24 : Int) < dp) = false := decide_eq_false (by omega)
    have h2 := Tryd.form_any d T (.slice a n cap) W1 ((HT.out.below B1.out).wider B1.out.size)
    obtain ⟨fb, hfb⟩ : ∃ f, T.allForm = f := ⟨_, rfl⟩
    rw [HM.out.1, HM.out.2.1, hfb] at h2
    have H2 : Hid _ := h2
    have HR : Hid (T.wrongR = if fb = false then 4 else 0) := by show _ = _; unfold Tm.wrongR; rw [if_neg (by rw [HM.out.2.2]; exact h0), hfb]
    clear h2 hfb
    go_wp2_with (refine wpList_load_row rfl 32 _ rfl _ rfl 32 _ (0, 0) _ hbx hu rfl (by kernel_rfl) ?_)
    go_wp2_with fail
    refine Calls.mono H2.out ?_
    rintro e W2 ⟨rfl, b2⟩
    have B2 : Hid (Below w.heap.size w W2) := B1.out.trans (b2.mono B1.out.size)
    clear b2 hbx H2
    cases fb
    all_goals
      go_wp2
      go_ret
      exact ⟨by rw [HR.out]; rfl, B2.out⟩

set_option maxHeartbeats 1600000 in
theorem Tryd.refCheck_any (d : Nat) (T : Tm) (v : Value) (w : World) (hT : Tm.Lies w w.heap.size d v T) (hsz : T.size ≤ 2147483647) :
    Calls Tryd.prog 80 #[.agg #[.int .i64 T.op, .int .i64 T.num, v]] w fun e w' => e = .returned (.tuple #[.int .i64 T.checkR.1, .int .i64 T.checkR.2]) ∧ Below w.heap.size w w' := by
  obtain ⟨a, cap, rfl⟩ := hT.shape
  obtain ⟨o, ho⟩ : ∃ o, T.op = o := ⟨_, rfl⟩
  obtain ⟨m, hm⟩ : ∃ m, T.num = m := ⟨_, rfl⟩
  obtain ⟨n, hn⟩ : ∃ n, T.ks.length = n := ⟨_, rfl⟩
  rw [ho, hm, hn]
  rw [hn] at hT
  obtain ⟨w0, hw0⟩ : ∃ w0, w.alloc (.cells #[.int .i64 o, .int .i64 m, .slice a n cap] 32) = w0 := ⟨_, rfl⟩
  have A0 : Below w.heap.size w w0 := by rw [← hw0]; exact (Below.refl _ w).alloc (Nat.le_refl _) _
  have C0 : w0.heap[w.heap.size]? = some (.cells #[.int .i64 o, .int .i64 m, .slice a n cap] 32 (0, 0)) := by rw [← hw0]; exact heap_alloc_new w _
  have h1 := Tryd.refWrong_any d T (.slice a n cap) w0 ((hT.below A0).wider A0.size) hsz
  rw [ho, hm] at h1
  obtain ⟨r, hr⟩ : ∃ r, T.wrongR = r := ⟨_, rfl⟩
  rw [hr] at h1
  have H1 : Hid _ := h1
  have HT : Hid (Tm.Lies w w.heap.size d (.slice a n cap) T) := hT
  have HM : Hid (T.op = o ∧ T.num = m ∧ T.wrongR = r) := ⟨ho, hm, hr⟩
  have HA : Hid (Below w.heap.size w w0) := A0
  have HC : Hid (w0.heap[w.heap.size]? = some (.cells #[.int .i64 o, .int .i64 m, .slice a n cap] 32 (0, 0))) := C0
  have HW0 : Hid (w.alloc (.cells #[.int .i64 o, .int .i64 m, .slice a n cap] 32) = w0) := hw0
  have hu := Tryd.underlying32
  clear hw0 h1 hT ho hm hr A0 C0 hn
  go_enter Tryd.func80, Tryd.ntmps80
  go_wp2_with fail
  rw [HW0.out]
  refine Calls.mono H1.out ?_
  rintro e W1 ⟨rfl, b1⟩
  have B1 : Hid (Below w.heap.size w W1) := HA.out.trans (b1.mono HA.out.size)
  have hbx : W1.heap[w.heap.size]? = some (.cells #[.int .i64 o, .int .i64 m, .slice a n cap] 32 (0, 0)) := by
    rw [b1.block _ (Array.getElem?_eq_some_iff.1 HC.out).1]; exact HC.out
  clear b1 H1 HW0
  by_cases h0 : r = 0
  · subst h0
    have h2 := Tryd.refTyped_any d T (.slice a n cap) W1 ((HT.out.below B1.out).wider B1.out.size) (Tm.wrong_zero HM.out.2.2).2
    obtain ⟨tb, htb⟩ : ∃ t, T.typedB = t := ⟨_, rfl⟩
    rw [HM.out.1, HM.out.2.1, htb] at h2
    have HR := Tm.checkR_right HM.out.2.2
    obtain ⟨kb, hkb⟩ : ∃ b, decide (o = 4 ∨ 10 ≤ o) = b := ⟨_, rfl⟩
    rw [htb, Tm.is_eq, HM.out.1, hkb] at HR
    have htr := fun W => Tryd.refTruth_any o W
    rw [hkb] at htr
    have HTR : Hid _ := htr
    have H2 : Hid _ := h2
    have HR' : Hid (T.checkR = if tb = false then (0, 30) else (if kb = true then 2 else 1, 0)) := HR
    clear h2 HR htb htr hkb
    go_wp2_with (refine wpList_load_row rfl 32 _ rfl _ rfl 32 _ (0, 0) _ hbx hu rfl (by kernel_rfl) ?_)
    go_wp2_with fail
    refine Calls.mono H2.out ?_
    rintro e W2 ⟨rfl, b2⟩
    have B2 : Hid (Below w.heap.size w W2) := B1.out.trans (b2.mono B1.out.size)
    have hc0 : W2.cell? ⟨w.heap.size, 0, none⟩ = some (.int .i64 o) := by
      have : W2.heap[w.heap.size]? = _ := (b2.block _ (Array.getElem?_eq_some_iff.1 hbx).1).trans hbx
      simp [World.cell?, this]
    clear b2 hbx H2
    cases tb
    · go_wp2
      go_ret2
      exact ⟨by rw [HR'.out]; rfl, B2.out⟩
    · go_wp2_with fail
      refine Calls.mono (HTR.out _) ?_
      rintro e W3 ⟨rfl, rfl⟩
      cases kb
      all_goals
        go_wp2
        go_ret2
        exact ⟨by rw [HR'.out]; rfl, B2.out⟩
  · have hne : (r != 0) = true := by simpa using h0
    have HR : Hid (T.checkR = (0, r)) := by
      have := Tm.checkR_wrong (T := T) (by rw [HM.out.2.2]; exact h0)
      rw [HM.out.2.2] at this
      exact this
    clear h0
    go_wp2
    go_ret2
    exact ⟨by rw [HR.out]; rfl, B1.out⟩

end Go.Proofs
