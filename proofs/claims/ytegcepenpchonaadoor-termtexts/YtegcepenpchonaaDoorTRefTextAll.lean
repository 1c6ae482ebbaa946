/-
  The contract of the document's Text.
-/
import Derived.Test.YtegcepenpchonaaDoorTRefText
import Derived.Test.YtegcepenpchonaaDoorTRefChk
import Derived.Test.YtegcepenpchonaaDoorTText
namespace Go.Proofs
open Go.RowKit

set_option maxHeartbeats 4000000 in
set_option maxRecDepth 20000 in
theorem Tryd.refText_any (d : Nat) (T : Tm) (v : Value) (w : World) (hT : Tm.Lies w w.heap.size d v T) (hsz : T.size ≤ 1000000) :
    Calls Tryd.prog 13 #[.agg #[.int .i64 T.op, .int .i64 T.num, v]] w fun e w' => e = .returned (.tuple #[.string ⟨T.textR.1.toArray⟩, .int .i64 T.textR.2]) ∧ Below w.heap.size w w' := by
  obtain ⟨a, cap, rfl⟩ := hT.shape
  obtain ⟨o, ho⟩ : ∃ o, T.op = o := ⟨_, rfl⟩
  obtain ⟨m, hm⟩ : ∃ m, T.num = m := ⟨_, rfl⟩
  obtain ⟨n, hn⟩ : ∃ n, T.ks.length = n := ⟨_, rfl⟩
  rw [ho, hm, hn]
  rw [hn] at hT
  obtain ⟨w0, hw0⟩ : ∃ w0, w.alloc (.cells #[.int .i64 o, .int .i64 m, .slice a n cap] 24) = w0 := ⟨_, rfl⟩
  have A0 : Below w.heap.size w w0 := by rw [← hw0]; exact (Below.refl _ w).alloc (Nat.le_refl _) _
  have C0 : w0.heap[w.heap.size]? = some (.cells #[.int .i64 o, .int .i64 m, .slice a n cap] 24 (0, 0)) := by rw [← hw0]; exact heap_alloc_new w _
  have h1 := Tryd.refWrong_any d T (.slice a n cap) w0 ((hT.below A0).wider A0.size) (by omega)
  rw [ho, hm] at h1
  obtain ⟨r, hr⟩ : ∃ r, T.wrongR = r := ⟨_, rfl⟩
  rw [hr] at h1
  have H1 : Hid _ := h1
  have HT : Hid (Tm.Lies w w.heap.size d (.slice a n cap) T) := hT
  have HM : Hid (T.op = o ∧ T.num = m ∧ T.wrongR = r ∧ T.size ≤ 1000000) := ⟨ho, hm, hr, hsz⟩
  have HA : Hid (Below w.heap.size w w0) := A0
  have HC : Hid (w0.heap[w.heap.size]? = some (.cells #[.int .i64 o, .int .i64 m, .slice a n cap] 24 (0, 0))) := C0
  have HW0 : Hid (w.alloc (.cells #[.int .i64 o, .int .i64 m, .slice a n cap] 24) = w0) := hw0
  have hu := Tryd.underlying24
  clear hw0 h1 hT ho hm hr A0 C0 hn hsz
  go_enter Tryd.func13, Tryd.ntmps13
  go_wp2_with fail
  rw [HW0.out]
  refine Calls.mono H1.out ?_
  rintro e W1 ⟨rfl, b1⟩
  have B1 : Hid (Below w.heap.size w W1) := HA.out.trans (b1.mono HA.out.size)
  have hbx : W1.heap[w.heap.size]? = some (.cells #[.int .i64 o, .int .i64 m, .slice a n cap] 24 (0, 0)) := by
    rw [b1.block _ (Array.getElem?_eq_some_iff.1 HC.out).1]; exact HC.out
  clear b1 H1 HW0
  by_cases h0 : r = 0
  · subst h0
    have hw := Tm.wrong_zero HM.out.2.2.1
    have hlen := Tm.txt_len T hw.2
    have hsz := HM.out.2.2.2
    have h2 := Tryd.refPlain_any d T (.slice a n cap) W1 ((HT.out.below B1.out).wider B1.out.size) hw.2 (by omega)
    rw [HM.out.1, HM.out.2.1] at h2
    obtain ⟨tl, htl⟩ : ∃ l, T.txt = l := ⟨_, rfl⟩
    rw [htl] at h2 hlen
    have HR : Hid (T.textR = if 20000 < tl.length then ([], 5) else (tl, 0)) := by show _ = _; unfold Tm.textR; rw [HM.out.2.2.1, htl]; simp
    obtain ⟨ts, hts⟩ : ∃ s : ByteArray, s = ⟨tl.toArray⟩ := ⟨_, rfl⟩
    have hs : ts.size = tl.length := by rw [hts]; simp [ByteArray.size]
    rw [← hts] at h2
    have H2 : Hid _ := h2
    have HTS : Hid (ts = ⟨tl.toArray⟩) := hts
    have hle : ts.size ≤ 30000000 := by omega
    have HS : Hid (ts.size = tl.length) := hs
    clear h2 hw htl hlen hts hs hsz
    go_wp2_with (refine wpList_load_row rfl 24 _ rfl _ rfl 24 _ (0, 0) _ hbx hu rfl (by kernel_rfl) ?_)
    go_wp2_with fail
    refine Calls.mono H2.out ?_
    rintro e W2 ⟨rfl, b2⟩
    have B2 : Hid (Below w.heap.size w W2) := B1.out.trans (b2.mono B1.out.size)
    clear hbx H2 b2
    by_cases hlong : 20000 < ts.size
    · have HX : Hid (T.textR = ([], 5)) := by
        show _ = _
        have := HS.out
        rw [HR.out, if_pos (by omega)]
      go_wp2
      go_ret2
      exact ⟨by rw [HX.out]; rfl, B2.out⟩
    · have HX : Hid (T.textR = (tl, 0)) := by
        show _ = _
        have := HS.out
        rw [HR.out, if_neg (by omega)]
      go_wp2
      go_ret2
      exact ⟨by rw [HX.out, HTS.out]; rfl, B2.out⟩
  · have hne : (r != 0) = true := by simpa using h0
    have HX : Hid (T.textR = ([], r)) := by show _ = _; unfold Tm.textR; rw [HM.out.2.2.1, if_pos h0]
    clear h0 hbx
    go_wp2
    go_ret2
    exact ⟨by rw [HX.out]; rfl, B1.out⟩

end Go.Proofs
