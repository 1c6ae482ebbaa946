/-
  The contracts of eval's check and Number.
-/
import Derived.Test.YtkalkkgfilkiiaaGreatDoorAllTmVal
import Derived.Test.YtkalkkgfilkiiaaGreatDoorAllTChk
import Derived.Test.YtkalkkgfilkiiaaGreatDoorAllTSmall
import Derived.Test.YtkalkkgfilkiiaaGreatDoorAllTTruth
namespace Go.Proofs
open Go.RowKit

/-- check's answer. -/
def Tm.askR (T : Tm) (t : Int) (fits : Bool) : Int := if T.checkR.2 ≠ 0 then T.checkR.2 else if T.checkR.1 ≠ t then 30 else if fits = false then 1 else 0

set_option maxHeartbeats 4000000 in
theorem Tryz.ask_any (d : Nat) (T : Tm) (v : Value) (t : Int) (x0 x1 x2 x3 : Int) (w : World) (hT : Tm.Lies w w.heap.size d v T) (hO : Tk.Ops w) (hsz : T.size ≤ 2147483647) :
    Calls Tryz.prog 97 #[.agg #[.int .i64 T.op, .int .i64 T.num, v], .int .i64 t, .agg #[.int .i64 x0, .int .i64 x1, .int .i64 x2, .int .i64 x3]] w fun e w' => e = .returned (.int .i64 (T.askR t (Tk.fitsB x0 x1 x2 x3))) ∧ Below w.heap.size w w' := by
  obtain ⟨a, cap, rfl⟩ := hT.shape
  obtain ⟨o, ho⟩ : ∃ o, T.op = o := ⟨_, rfl⟩
  obtain ⟨m, hm⟩ : ∃ m, T.num = m := ⟨_, rfl⟩
  obtain ⟨n, hn⟩ : ∃ n, T.ks.length = n := ⟨_, rfl⟩
  rw [ho, hm, hn]
  rw [hn] at hT
  obtain ⟨w0, hw0⟩ : ∃ w0, (w.alloc (.cells #[.int .i64 o, .int .i64 m, .slice a n cap] 68)).alloc (.cells #[.int .i64 x0, .int .i64 x1, .int .i64 x2, .int .i64 x3] 27) = w0 := ⟨_, rfl⟩
  have A0 : Below w.heap.size w w0 := by rw [← hw0]; exact ((Below.refl _ w).alloc (Nat.le_refl _) _).alloc (by simp) _
  have C1 : w0.heap[w.heap.size + 1]? = some (.cells #[.int .i64 x0, .int .i64 x1, .int .i64 x2, .int .i64 x3] 27 (0, 0)) := by
    rw [← hw0]
    have := heap_alloc_new (w.alloc (.cells #[.int .i64 o, .int .i64 m, .slice a n cap] 68)) (.cells #[.int .i64 x0, .int .i64 x1, .int .i64 x2, .int .i64 x3] 27)
    simpa using this
  have h1 := Tryz.check_any d T (.slice a n cap) w0 ((hT.below A0).wider A0.size) (hO.below A0 hO.lt) hsz
  rw [ho, hm] at h1
  have HR : Hid (∀ f, T.askR t f = if T.checkR.2 ≠ 0 then T.checkR.2 else if T.checkR.1 ≠ t then 30 else if f = false then 1 else 0) := fun f => rfl
  obtain ⟨q, hq⟩ : ∃ q, T.checkR = q := ⟨_, rfl⟩
  rw [hq] at h1 HR
  obtain ⟨c1, c2⟩ := q
  have H1 : Hid _ := h1
  have HA : Hid (Below w.heap.size w w0) := A0
  have HC1 : Hid _ := C1
  have HW0 : Hid ((w.alloc (.cells #[.int .i64 o, .int .i64 m, .slice a n cap] 68)).alloc (.cells #[.int .i64 x0, .int .i64 x1, .int .i64 x2, .int .i64 x3] 27) = w0) := hw0
  have hu := Tryz.underlying27
  clear hw0 h1 hT hO ho hm A0 C1 hn hq
  go_enter Tryz.func97, Tryz.ntmps97
  go_wp2_with fail
  rw [HW0.out]
  refine Calls.mono H1.out ?_
  rintro e W1 ⟨rfl, b1⟩
  have B1 : Hid (Below w.heap.size w W1) := HA.out.trans (b1.mono HA.out.size)
  have hbx : W1.heap[w.heap.size + 1]? = some (.cells #[.int .i64 x0, .int .i64 x1, .int .i64 x2, .int .i64 x3] 27 (0, 0)) := by
    rw [b1.block _ (Array.getElem?_eq_some_iff.1 HC1.out).1]; exact HC1.out
  clear b1 H1 HW0
  by_cases h2 : c2 = 0
  · subst h2
    by_cases h3 : c1 = t
    · subst h3
      have e1 := hbx
      go_wp2_with (refine wpList_load_row rfl 27 _ rfl _ rfl 27 _ (0, 0) _ hbx hu rfl (by kernel_rfl) ?_)
      go_wp2_with fail
      refine Calls.mono (Tryz.fits_any x0 x1 x2 x3 _) ?_
      rintro e W2 ⟨rfl, b2⟩
      have B2 : Hid (Below w.heap.size w W2) := B1.out.trans (b2.mono B1.out.size)
      clear b2 hbx e1
      obtain ⟨fb, hfb⟩ : ∃ f, Tk.fitsB x0 x1 x2 x3 = f := ⟨_, rfl⟩
      have HX : Hid (T.askR c1 (Tk.fitsB x0 x1 x2 x3) = if fb = false then 1 else 0) := by show _ = _; rw [HR.out, hfb]; simp
      rw [hfb]
      clear HR hfb
      cases fb
      all_goals
        go_wp2
        go_ret
        exact ⟨by rw [HX.out]; rfl, B2.out⟩
    · have hne : (c1 != t) = true := by simpa using h3
      have HX : Hid (T.askR t (Tk.fitsB x0 x1 x2 x3) = 30) := by show _ = _; rw [HR.out]; simp [h3]
      clear h3 HR
      go_wp2
      go_ret
      exact ⟨by rw [HX.out]; rfl, B1.out⟩
  · have hne : (c2 != 0) = true := by simpa using h2
    have HX : Hid (T.askR t (Tk.fitsB x0 x1 x2 x3) = c2) := by show _ = _; rw [HR.out]; simp [h2]
    clear h2 HR
    go_wp2
    go_ret
    exact ⟨by rw [HX.out]; rfl, B1.out⟩

theorem Tm.ask_zero {T : Tm} {t : Int} {f : Bool} (h : T.askR t f = 0) : T.checkR = (t, 0) ∧ f = true := by
  unfold Tm.askR at h
  split at h
  · contradiction
  · rename_i h1
    split at h
    · cases h
    · rename_i h2
      split at h
      · cases h
      · rename_i h3
        have h1' : T.checkR.2 = 0 := by simpa using h1
        have h2' : T.checkR.1 = t := by simpa using h2
        exact ⟨Prod.ext h2' h1', by simpa using h3⟩
theorem Tm.check_ok {T : Tm} {t : Int} (h : T.checkR = (t, 0)) : ¬ 24 < T.depth ∧ T.allForm = true ∧ T.typedB = true ∧ Tm.isOf T.op = t := by
  unfold Tm.checkR at h
  split at h
  · simp at h
  · split at h
    · simp at h
    · split at h
      · simp at h
      · rename_i h1 h2 h3
        exact ⟨h1, by simpa using h2, by simpa using h3, by simpa using h⟩

/-- Number's answer. -/
def Tm.numR (T : Tm) (x0 x1 x2 x3 : Int) : Int × Int := if T.askR 1 (Tk.fitsB x0 x1 x2 x3) ≠ 0 then (0, T.askR 1 (Tk.fitsB x0 x1 x2 x3)) else ((T.val (Tk.vget x0 x1 x2 x3)).1, (T.val (Tk.vget x0 x1 x2 x3)).2.2)

set_option maxHeartbeats 4000000 in
theorem Tryz.numberW_any (d : Nat) (T : Tm) (v : Value) (x0 x1 x2 x3 : Int) (w : World) (hT : Tm.Lies w w.heap.size d v T) (hO : Tk.Ops w) (hsz : T.size ≤ 2147483647) :
    Calls Tryz.prog 83 #[.agg #[.int .i64 T.op, .int .i64 T.num, v], .agg #[.int .i64 x0, .int .i64 x1, .int .i64 x2, .int .i64 x3]] w fun e w' => e = .returned (.tuple #[.int .i64 (T.numR x0 x1 x2 x3).1, .int .i64 (T.numR x0 x1 x2 x3).2]) ∧ Below w.heap.size w w' := by
  obtain ⟨a, cap, rfl⟩ := hT.shape
  obtain ⟨o, ho⟩ : ∃ o, T.op = o := ⟨_, rfl⟩
  obtain ⟨m, hm⟩ : ∃ m, T.num = m := ⟨_, rfl⟩
  obtain ⟨n, hn⟩ : ∃ n, T.ks.length = n := ⟨_, rfl⟩
  rw [ho, hm, hn]
  rw [hn] at hT
  obtain ⟨w0, hw0⟩ : ∃ w0, (w.alloc (.cells #[.int .i64 o, .int .i64 m, .slice a n cap] 68)).alloc (.cells #[.int .i64 x0, .int .i64 x1, .int .i64 x2, .int .i64 x3] 27) = w0 := ⟨_, rfl⟩
  have A0 : Below w.heap.size w w0 := by rw [← hw0]; exact ((Below.refl _ w).alloc (Nat.le_refl _) _).alloc (by simp) _
  have C0 : w0.heap[w.heap.size]? = some (.cells #[.int .i64 o, .int .i64 m, .slice a n cap] 68 (0, 0)) := by rw [← hw0, Below.heap_alloc _ _ _ (by simp)]; exact heap_alloc_new w _
  have C1 : w0.heap[w.heap.size + 1]? = some (.cells #[.int .i64 x0, .int .i64 x1, .int .i64 x2, .int .i64 x3] 27 (0, 0)) := by
    rw [← hw0]
    have := heap_alloc_new (w.alloc (.cells #[.int .i64 o, .int .i64 m, .slice a n cap] 68)) (.cells #[.int .i64 x0, .int .i64 x1, .int .i64 x2, .int .i64 x3] 27)
    simpa using this
  have h1 := Tryz.ask_any d T (.slice a n cap) 1 x0 x1 x2 x3 w0 ((hT.below A0).wider A0.size) (hO.below A0 hO.lt) hsz
  have HR : Hid (T.numR x0 x1 x2 x3 = if T.askR 1 (Tk.fitsB x0 x1 x2 x3) ≠ 0 then (0, T.askR 1 (Tk.fitsB x0 x1 x2 x3)) else ((T.val (Tk.vget x0 x1 x2 x3)).1, (T.val (Tk.vget x0 x1 x2 x3)).2.2)) := rfl
  obtain ⟨r, hr⟩ : ∃ r, T.askR 1 (Tk.fitsB x0 x1 x2 x3) = r := ⟨_, rfl⟩
  rw [ho, hm, hr] at h1
  rw [hr] at HR
  have H1 : Hid _ := h1
  have HA : Hid (Below w.heap.size w w0) := A0
  have HC0 : Hid _ := C0
  have HC1 : Hid _ := C1
  have HM : Hid (T.op = o ∧ T.num = m ∧ T.askR 1 (Tk.fitsB x0 x1 x2 x3) = r) := ⟨ho, hm, hr⟩
  have HT : Hid (Tm.Lies w w.heap.size d (.slice a n cap) T) := hT
  have HW0 : Hid ((w.alloc (.cells #[.int .i64 o, .int .i64 m, .slice a n cap] 68)).alloc (.cells #[.int .i64 x0, .int .i64 x1, .int .i64 x2, .int .i64 x3] 27) = w0) := hw0
  have hu := Tryz.underlying27
  have hu2 := Tryz.underlying68
  clear hw0 h1 hT hO ho hm A0 C0 C1 hn hr
  go_enter Tryz.func83, Tryz.ntmps83
  go_wp2_with fail
  rw [HW0.out]
  refine Calls.mono H1.out ?_
  rintro e W1 ⟨rfl, b1⟩
  have B1 : Hid (Below w.heap.size w W1) := HA.out.trans (b1.mono HA.out.size)
  have hbx : W1.heap[w.heap.size + 1]? = some (.cells #[.int .i64 x0, .int .i64 x1, .int .i64 x2, .int .i64 x3] 27 (0, 0)) := by
    rw [b1.block _ (Array.getElem?_eq_some_iff.1 HC1.out).1]; exact HC1.out
  have hby : W1.heap[w.heap.size]? = some (.cells #[.int .i64 o, .int .i64 m, .slice a n cap] 68 (0, 0)) := by
    rw [b1.block _ (Array.getElem?_eq_some_iff.1 HC0.out).1]; exact HC0.out
  clear b1 H1 HW0
  by_cases h2 : r = 0
  · subst h2
    obtain ⟨hc, hf⟩ := Tm.ask_zero HM.out.2.2
    obtain ⟨_, p2, p3, p4⟩ := Tm.check_ok hc
    have h3 := Tryz.number_any x0 x1 x2 x3 hf d T (.slice a n cap) W1 ((HT.out.below B1.out).wider B1.out.size) p2 p3 p4
    rw [HM.out.1, HM.out.2.1] at h3
    have H3 : Hid _ := h3
    have HX : Hid (T.numR x0 x1 x2 x3 = ((T.val (Tk.vget x0 x1 x2 x3)).1, (T.val (Tk.vget x0 x1 x2 x3)).2.2)) := by have := HR.out; show _ = _; simpa using this
    clear h3 hc hf p2 p3 p4 HR
    go_wp2_with (first | (refine wpList_load_row rfl 68 _ rfl _ rfl 68 _ (0, 0) _ hby hu2 rfl (by kernel_rfl) ?_) | (refine wpList_load_row rfl 27 _ rfl _ rfl 27 _ (0, 0) _ hbx hu rfl (by kernel_rfl) ?_))
    go_wp2_with fail
    refine Calls.mono H3.out ?_
    rintro e W2 ⟨rfl, b2⟩
    have B2 : Hid (Below w.heap.size w W2) := B1.out.trans (b2.mono B1.out.size)
    clear b2 hbx hby H3
    go_wp2
    go_ret2
    exact ⟨by rw [HX.out]; rfl, B2.out⟩
  · have hne : (r != 0) = true := by simpa using h2
    have HX : Hid (T.numR x0 x1 x2 x3 = (0, r)) := by have := HR.out; show _ = _; simpa [h2] using this
    clear h2 HR
    go_wp2
    go_ret2
    exact ⟨by rw [HX.out]; rfl, B1.out⟩

end Go.Proofs

namespace Go.Proofs
open Go.RowKit

/-- Truth's answer. -/
def Tm.truR (T : Tm) (x0 x1 x2 x3 : Int) : Bool × Int := if T.askR 2 (Tk.fitsB x0 x1 x2 x3) ≠ 0 then (false, T.askR 2 (Tk.fitsB x0 x1 x2 x3)) else ((T.val (Tk.vget x0 x1 x2 x3)).2.1, (T.val (Tk.vget x0 x1 x2 x3)).2.2)

set_option maxHeartbeats 4000000 in
theorem Tryz.truthW_any (d : Nat) (T : Tm) (v : Value) (x0 x1 x2 x3 : Int) (w : World) (hT : Tm.Lies w w.heap.size d v T) (hO : Tk.Ops w) (hsz : T.size ≤ 2147483647) :
    Calls Tryz.prog 99 #[.agg #[.int .i64 T.op, .int .i64 T.num, v], .agg #[.int .i64 x0, .int .i64 x1, .int .i64 x2, .int .i64 x3]] w fun e w' => e = .returned (.tuple #[.bool (T.truR x0 x1 x2 x3).1, .int .i64 (T.truR x0 x1 x2 x3).2]) ∧ Below w.heap.size w w' := by
  obtain ⟨a, cap, rfl⟩ := hT.shape
  obtain ⟨o, ho⟩ : ∃ o, T.op = o := ⟨_, rfl⟩
  obtain ⟨m, hm⟩ : ∃ m, T.num = m := ⟨_, rfl⟩
  obtain ⟨n, hn⟩ : ∃ n, T.ks.length = n := ⟨_, rfl⟩
  rw [ho, hm, hn]
  rw [hn] at hT
  obtain ⟨w0, hw0⟩ : ∃ w0, (w.alloc (.cells #[.int .i64 o, .int .i64 m, .slice a n cap] 68)).alloc (.cells #[.int .i64 x0, .int .i64 x1, .int .i64 x2, .int .i64 x3] 27) = w0 := ⟨_, rfl⟩
  have A0 : Below w.heap.size w w0 := by rw [← hw0]; exact ((Below.refl _ w).alloc (Nat.le_refl _) _).alloc (by simp) _
  have C0 : w0.heap[w.heap.size]? = some (.cells #[.int .i64 o, .int .i64 m, .slice a n cap] 68 (0, 0)) := by rw [← hw0, Below.heap_alloc _ _ _ (by simp)]; exact heap_alloc_new w _
  have C1 : w0.heap[w.heap.size + 1]? = some (.cells #[.int .i64 x0, .int .i64 x1, .int .i64 x2, .int .i64 x3] 27 (0, 0)) := by
    rw [← hw0]
    have := heap_alloc_new (w.alloc (.cells #[.int .i64 o, .int .i64 m, .slice a n cap] 68)) (.cells #[.int .i64 x0, .int .i64 x1, .int .i64 x2, .int .i64 x3] 27)
    simpa using this
  have h1 := Tryz.ask_any d T (.slice a n cap) 2 x0 x1 x2 x3 w0 ((hT.below A0).wider A0.size) (hO.below A0 hO.lt) hsz
  have HR : Hid (T.truR x0 x1 x2 x3 = if T.askR 2 (Tk.fitsB x0 x1 x2 x3) ≠ 0 then (false, T.askR 2 (Tk.fitsB x0 x1 x2 x3)) else ((T.val (Tk.vget x0 x1 x2 x3)).2.1, (T.val (Tk.vget x0 x1 x2 x3)).2.2)) := rfl
  obtain ⟨r, hr⟩ : ∃ r, T.askR 2 (Tk.fitsB x0 x1 x2 x3) = r := ⟨_, rfl⟩
  rw [ho, hm, hr] at h1
  rw [hr] at HR
  have H1 : Hid _ := h1
  have HA : Hid (Below w.heap.size w w0) := A0
  have HC0 : Hid _ := C0
  have HC1 : Hid _ := C1
  have HM : Hid (T.op = o ∧ T.num = m ∧ T.askR 2 (Tk.fitsB x0 x1 x2 x3) = r) := ⟨ho, hm, hr⟩
  have HT : Hid (Tm.Lies w w.heap.size d (.slice a n cap) T) := hT
  have HW0 : Hid ((w.alloc (.cells #[.int .i64 o, .int .i64 m, .slice a n cap] 68)).alloc (.cells #[.int .i64 x0, .int .i64 x1, .int .i64 x2, .int .i64 x3] 27) = w0) := hw0
  have hu := Tryz.underlying27
  have hu2 := Tryz.underlying68
  clear hw0 h1 hT hO ho hm A0 C0 C1 hn hr
  go_enter Tryz.func99, Tryz.ntmps99
  go_wp2_with fail
  rw [HW0.out]
  refine Calls.mono H1.out ?_
  rintro e W1 ⟨rfl, b1⟩
  have B1 : Hid (Below w.heap.size w W1) := HA.out.trans (b1.mono HA.out.size)
  have hbx : W1.heap[w.heap.size + 1]? = some (.cells #[.int .i64 x0, .int .i64 x1, .int .i64 x2, .int .i64 x3] 27 (0, 0)) := by
    rw [b1.block _ (Array.getElem?_eq_some_iff.1 HC1.out).1]; exact HC1.out
  have hby : W1.heap[w.heap.size]? = some (.cells #[.int .i64 o, .int .i64 m, .slice a n cap] 68 (0, 0)) := by
    rw [b1.block _ (Array.getElem?_eq_some_iff.1 HC0.out).1]; exact HC0.out
  clear b1 H1 HW0
  by_cases h2 : r = 0
  · subst h2
    obtain ⟨hc, hf⟩ := Tm.ask_zero HM.out.2.2
    obtain ⟨_, p2, p3, p4⟩ := Tm.check_ok hc
    have h3 := Tryz.truth_any x0 x1 x2 x3 hf d T (.slice a n cap) W1 ((HT.out.below B1.out).wider B1.out.size) p2 p3 p4
    rw [HM.out.1, HM.out.2.1] at h3
    have H3 : Hid _ := h3
    have HX : Hid (T.truR x0 x1 x2 x3 = ((T.val (Tk.vget x0 x1 x2 x3)).2.1, (T.val (Tk.vget x0 x1 x2 x3)).2.2)) := by have := HR.out; show _ = _; simpa using this
    clear h3 hc hf p2 p3 p4 HR
    go_wp2_with (first | (refine wpList_load_row rfl 68 _ rfl _ rfl 68 _ (0, 0) _ hby hu2 rfl (by kernel_rfl) ?_) | (refine wpList_load_row rfl 27 _ rfl _ rfl 27 _ (0, 0) _ hbx hu rfl (by kernel_rfl) ?_))
    go_wp2_with fail
    refine Calls.mono H3.out ?_
    rintro e W2 ⟨rfl, b2⟩
    have B2 : Hid (Below w.heap.size w W2) := B1.out.trans (b2.mono B1.out.size)
    clear b2 hbx hby H3
    go_wp2
    go_ret2
    exact ⟨by rw [HX.out]; rfl, B2.out⟩
  · have hne : (r != 0) = true := by simpa using h2
    have HX : Hid (T.truR x0 x1 x2 x3 = (false, r)) := by have := HR.out; show _ = _; simpa [h2] using this
    clear h2 HR
    go_wp2
    go_ret2
    exact ⟨by rw [HX.out]; rfl, B1.out⟩

end Go.Proofs
