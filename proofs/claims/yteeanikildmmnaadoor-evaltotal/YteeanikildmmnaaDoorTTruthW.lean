/-
  The contract of eval.Truth.
-/
import Derived.Test.YteeanikildmmnaaDoorTTruthAll
import Derived.Test.YteeanikildmmnaaDoorTNumberW
namespace Go.Proofs
open Go.RowKit

/-- Truth's answer. -/
def Tm.truR (T : Tm) (x0 x1 x2 x3 : Int) : Bool × Int := if T.askR 2 (Tk.fitsB x0 x1 x2 x3) ≠ 0 then (false, T.askR 2 (Tk.fitsB x0 x1 x2 x3)) else ((T.val (Tk.vget x0 x1 x2 x3)).2.1, (T.val (Tk.vget x0 x1 x2 x3)).2.2)

set_option maxHeartbeats 4000000 in
theorem Tryd.truthW_any (d : Nat) (T : Tm) (v : Value) (x0 x1 x2 x3 : Int) (w : World) (hT : Tm.Lies w w.heap.size d v T) (hO : Tk.Ops w) (hsz : T.size ≤ 2147483647) :
    Calls Tryd.prog 12 #[.agg #[.int .i64 T.op, .int .i64 T.num, v], .agg #[.int .i64 x0, .int .i64 x1, .int .i64 x2, .int .i64 x3]] w fun e w' => e = .returned (.tuple #[.bool (T.truR x0 x1 x2 x3).1, .int .i64 (T.truR x0 x1 x2 x3).2]) ∧ Below w.heap.size w w' := by
  obtain ⟨a, cap, rfl⟩ := hT.shape
  obtain ⟨o, ho⟩ : ∃ o, T.op = o := ⟨_, rfl⟩
  obtain ⟨m, hm⟩ : ∃ m, T.num = m := ⟨_, rfl⟩
  obtain ⟨n, hn⟩ : ∃ n, T.ks.length = n := ⟨_, rfl⟩
  rw [ho, hm, hn]
  rw [hn] at hT
  obtain ⟨w0, hw0⟩ : ∃ w0, (w.alloc (.cells #[.int .i64 o, .int .i64 m, .slice a n cap] 24)).alloc (.cells #[.int .i64 x0, .int .i64 x1, .int .i64 x2, .int .i64 x3] 25) = w0 := ⟨_, rfl⟩
  have A0 : Below w.heap.size w w0 := by rw [← hw0]; exact ((Below.refl _ w).alloc (Nat.le_refl _) _).alloc (by simp) _
  have C0 : w0.heap[w.heap.size]? = some (.cells #[.int .i64 o, .int .i64 m, .slice a n cap] 24 (0, 0)) := by rw [← hw0, Below.heap_alloc _ _ _ (by simp)]; exact heap_alloc_new w _
  have C1 : w0.heap[w.heap.size + 1]? = some (.cells #[.int .i64 x0, .int .i64 x1, .int .i64 x2, .int .i64 x3] 25 (0, 0)) := by
    rw [← hw0]
    have := heap_alloc_new (w.alloc (.cells #[.int .i64 o, .int .i64 m, .slice a n cap] 24)) (.cells #[.int .i64 x0, .int .i64 x1, .int .i64 x2, .int .i64 x3] 25)
    simpa using this
  have h1 := Tryd.ask_any d T (.slice a n cap) 2 x0 x1 x2 x3 w0 ((hT.below A0).wider A0.size) (hO.below A0 hO.lt) hsz
  have HR : Hid (T.truR x0 x1 x2 x3 = if T.askR 2 (Tk.fitsB x0 x1 x2 x3) ≠ 0 then (false, T.askR 2 (Tk.fitsB x0 x1 x2 x3)) else ((T.val (Tk.vget x0 x1 x2 x3)).2.1, (T.val (Tk.vget x0 x1 x2 x3)).2.2)) := rfl
  obtain ⟨r, hr⟩ : ∃ r, T.askR 2 (Tk.fitsB x0 x1 x2 x3) = r := ⟨_, rfl⟩
  rw [ho, hm, hr] at h1
  rw [hr] at HR
  have H1 : Hid _ := h1
  have HA : Hid (Below w.heap.size w w0) := A0
  have HC0 : Hid _ := C0
  have HC1 : Hid _ := C1
  have HM : Hid (T.op = o ∧ T.num = m ∧ T.askR 2 (Tk.fitsB x0 x1 x2 x3) = r) := ⟨ho, hm, hr⟩
  have HT : Hid (Tm.Lies w w.heap.size d (.slice a n cap) T) := hT
  have HW0 : Hid ((w.alloc (.cells #[.int .i64 o, .int .i64 m, .slice a n cap] 24)).alloc (.cells #[.int .i64 x0, .int .i64 x1, .int .i64 x2, .int .i64 x3] 25) = w0) := hw0
  have hu := Tryd.underlying25
  have hu2 := Tryd.underlying24
  clear hw0 h1 hT hO ho hm A0 C0 C1 hn hr
  go_enter Tryd.func12, Tryd.ntmps12
  go_wp2_with fail
  rw [HW0.out]
  refine Calls.mono H1.out ?_
  rintro e W1 ⟨rfl, b1⟩
  have B1 : Hid (Below w.heap.size w W1) := HA.out.trans (b1.mono HA.out.size)
  have hbx : W1.heap[w.heap.size + 1]? = some (.cells #[.int .i64 x0, .int .i64 x1, .int .i64 x2, .int .i64 x3] 25 (0, 0)) := by
    rw [b1.block _ (Array.getElem?_eq_some_iff.1 HC1.out).1]; exact HC1.out
  have hby : W1.heap[w.heap.size]? = some (.cells #[.int .i64 o, .int .i64 m, .slice a n cap] 24 (0, 0)) := by
    rw [b1.block _ (Array.getElem?_eq_some_iff.1 HC0.out).1]; exact HC0.out
  clear b1 H1 HW0
  by_cases h2 : r = 0
  · subst h2
    obtain ⟨hc, hf⟩ := Tm.ask_zero HM.out.2.2
    obtain ⟨_, p2, p3, p4⟩ := Tm.check_ok hc
    have h3 := Tryd.truth_any x0 x1 x2 x3 hf d T (.slice a n cap) W1 ((HT.out.below B1.out).wider B1.out.size) p2 p3 p4
    rw [HM.out.1, HM.out.2.1] at h3
    have H3 : Hid _ := h3
    have HX : Hid (T.truR x0 x1 x2 x3 = ((T.val (Tk.vget x0 x1 x2 x3)).2.1, (T.val (Tk.vget x0 x1 x2 x3)).2.2)) := by have := HR.out; show _ = _; simpa using this
    clear h3 hc hf p2 p3 p4 HR
    go_wp2_with (first | (refine wpList_load_row rfl 24 _ rfl _ rfl 24 _ (0, 0) _ hby hu2 rfl (by kernel_rfl) ?_) | (refine wpList_load_row rfl 25 _ rfl _ rfl 25 _ (0, 0) _ hbx hu rfl (by kernel_rfl) ?_))
    go_wp2_with fail
    refine Calls.mono H3.out ?_
    rintro e W2 ⟨rfl, b2⟩
    have B2 : Hid (Below w.heap.size w W2) := B1.out.trans (b2.mono B1.out.size)
    clear b2 hbx hby H3
    go_wp2
    go_ret2
    exact ⟨by rw [HX.out]; rfl, B2.out⟩
  · have hne : (r != 0) = true := by simpa using h2
    have HX : Hid (T.truR x0 x1 x2 x3 = (false, r)) := by have := HR.out; show _ = _; simpa [h2] using this
    clear h2 HR
    go_wp2
    go_ret2
    exact ⟨by rw [HX.out]; rfl, B1.out⟩

end Go.Proofs
