/-
  The contract of term.Check.
-/
import Derived.Test.YtiedlccnlkhnkaaDoorTTyped
namespace Go.Proofs
open Go.RowKit

theorem Tm.checkR_wrong {T : Tm} (h : T.wrongR ≠ 0) : T.checkR = (0, T.wrongR) := by
  unfold Tm.wrongR at h ⊢
  unfold Tm.checkR
  split
  · rfl
  · split
    · rfl
    · rename_i h1 h2
      rw [if_neg h1, if_neg h2] at h
      exact absurd rfl h
theorem Tm.wrong_zero {T : Tm} (h : T.wrongR = 0) : ¬ 24 < T.depth ∧ T.allForm = true := by
  unfold Tm.wrongR at h
  split at h
  · cases h
  · split at h
    · cases h
    · rename_i h1 h2
      exact ⟨h1, by simpa using h2⟩
theorem Tm.checkR_right {T : Tm} (h : T.wrongR = 0) : T.checkR = if T.typedB = false then (0, 30) else (Tm.isOf T.op, 0) := by
  obtain ⟨h1, h2⟩ := Tm.wrong_zero h
  unfold Tm.checkR
  rw [if_neg h1, h2]
  rfl

set_option maxHeartbeats 1600000 in
theorem Tryd.check_any (d : Nat) (T : Tm) (v : Value) (w : World) (hT : Tm.Lies w w.heap.size d v T) (hO : Tk.Ops w) (hsz : T.size ≤ 2147483647) :
    Calls Tryd.prog 83 #[.agg #[.int .i64 T.op, .int .i64 T.num, v]] w fun e w' => e = .returned (.tuple #[.int .i64 T.checkR.1, .int .i64 T.checkR.2]) ∧ Below w.heap.size w w' := by
  obtain ⟨a, cap, rfl⟩ := hT.shape
  obtain ⟨o, ho⟩ : ∃ o, T.op = o := ⟨_, rfl⟩
  obtain ⟨m, hm⟩ : ∃ m, T.num = m := ⟨_, rfl⟩
  obtain ⟨n, hn⟩ : ∃ n, T.ks.length = n := ⟨_, rfl⟩
  rw [ho, hm, hn]
  rw [hn] at hT
  obtain ⟨w0, hw0⟩ : ∃ w0, w.alloc (.cells #[.int .i64 o, .int .i64 m, .slice a n cap] 32) = w0 := ⟨_, rfl⟩
  have A0 : Below w.heap.size w w0 := by rw [← hw0]; exact (Below.refl _ w).alloc (Nat.le_refl _) _
  have C0 : w0.heap[w.heap.size]? = some (.cells #[.int .i64 o, .int .i64 m, .slice a n cap] 32 (0, 0)) := by rw [← hw0]; exact heap_alloc_new w _
  have h1 := Tryd.checkForm_any d T (.slice a n cap) w0 ((hT.below A0).wider A0.size) (hO.below A0 hO.lt) hsz
  rw [ho, hm] at h1
  obtain ⟨r, hr⟩ : ∃ r, T.wrongR = r := ⟨_, rfl⟩
  rw [hr] at h1
  have H1 : Hid _ := h1
  have HT : Hid (Tm.Lies w w.heap.size d (.slice a n cap) T) := hT
  have HO : Hid (Tk.Ops w) := hO
  have HM : Hid (T.op = o ∧ T.num = m ∧ T.wrongR = r) := ⟨ho, hm, hr⟩
  have HA : Hid (Below w.heap.size w w0) := A0
  have HC : Hid (w0.heap[w.heap.size]? = some (.cells #[.int .i64 o, .int .i64 m, .slice a n cap] 32 (0, 0))) := C0
  have HW0 : Hid (w.alloc (.cells #[.int .i64 o, .int .i64 m, .slice a n cap] 32) = w0) := hw0
  have hu := Tryd.underlying32
  clear hw0 h1 hT hO ho hm hr A0 C0 hn
  go_enter Tryd.func83, Tryd.ntmps83
  go_wp2_with fail
  rw [HW0.out]
  refine Calls.mono H1.out ?_
  rintro e W1 ⟨rfl, b1⟩
  have B1 : Hid (Below w.heap.size w W1) := HA.out.trans (b1.mono HA.out.size)
  have hbx : W1.heap[w.heap.size]? = some (.cells #[.int .i64 o, .int .i64 m, .slice a n cap] 32 (0, 0)) := by
    rw [b1.block _ (Array.getElem?_eq_some_iff.1 HC.out).1]; exact HC.out
  clear b1 H1 HW0
  by_cases h0 : r = 0
  · subst h0
    obtain ⟨o', ho', o1, o2⟩ := Tm.op_range (Tm.wrong_zero HM.out.2.2).2
    obtain rfl : o = o' := HM.out.1.symm.trans ho'
    have h2 := Tryd.typed_any d T (.slice a n cap) W1 ((HT.out.below B1.out).wider B1.out.size) (Tm.wrong_zero HM.out.2.2).2 (HO.out.below B1.out HO.out.lt)
    rw [HM.out.1, HM.out.2.1] at h2
    obtain ⟨tb, htb⟩ : ∃ t, T.typedB = t := ⟨_, rfl⟩
    rw [htb] at h2
    have HR := Tm.checkR_right HM.out.2.2
    rw [htb, HM.out.1] at HR
    have H2 : Hid _ := h2
    have HR' : Hid (T.checkR = if tb = false then (0, 30) else (Tm.isOf o', 0)) := HR
    clear h2 HR htb ho'
    go_wp2_with (refine wpList_load_row rfl 32 _ rfl _ rfl 32 _ (0, 0) _ hbx hu rfl (by kernel_rfl) ?_)
    go_wp2_with fail
    refine Calls.mono H2.out ?_
    rintro e W2 ⟨rfl, b2⟩
    have B2 : Hid (Below w.heap.size w W2) := B1.out.trans (b2.mono B1.out.size)
    have hc0 : W2.cell? ⟨w.heap.size, 0, none⟩ = some (.int .i64 o') := by
      have : W2.heap[w.heap.size]? = _ := (b2.block _ (Array.getElem?_eq_some_iff.1 hbx).1).trans hbx
      simp [World.cell?, this]
    have O2 : Tk.Ops W2 := HO.out.below B2.out HO.out.lt
    obtain ⟨_, _, _, _, _, k4⟩ := O2.cells o' o1 o2
    obtain ⟨ii, hi⟩ : ∃ i, Tm.isOf o' = i := ⟨_, rfl⟩
    rw [hi] at k4
    rw [hi] at HR'
    have ix : (o' : Int) < 15 := by omega
    clear b2 hbx H2 O2 hi
    cases tb
    · go_wp2
      go_ret2
      exact ⟨by rw [HR'.out]; rfl, B2.out⟩
    · go_wp2
      go_ret2
      exact ⟨by rw [HR'.out]; rfl, B2.out⟩
  · have e0 : (r == 0) = false := by simpa using h0
    have hne : (r != 0) = true := by simpa using h0
    have HR : Hid (T.checkR = (0, r)) := by
      have := Tm.checkR_wrong (T := T) (by rw [HM.out.2.2]; exact h0)
      rw [HM.out.2.2] at this
      exact this
    clear h0
    go_wp2
    go_ret2
    exact ⟨by rw [HR.out]; rfl, B1.out⟩

end Go.Proofs
