/-
  The walk of TermTexts: each term's text, or why it has none.
-/
import Derived.Test.YtegcepenpchonaaDoorTLess
import Derived.Test.YtegcepenpchonaaDoorTLarge3
import Derived.Test.YtegcepenpchonaaDoorTRefTextAll
namespace Go.Proofs.YtegcepenpchonaaDoor.TermTexts
open Go.RowKit

set_option maxHeartbeats 8000000 in
theorem walk (d : Nat) (T : Tm) (v : Value) (w : World) (hT : Tm.Lies w w.heap.size d v T) (hO : Tk.Ops w) (hTB : Lib.TabBelow Tryd.prog w.heap.size w "internal/strconv.uint64pow10" .u64 Lib.pow10Tab) :
    Calls Tryd.prog 4 #[.agg #[.int .i64 T.op, .int .i64 T.num, v]] w fun e w' => e = .returned (.bool true) ∧ Below w.heap.size w w' := by
  obtain ⟨a, cap, rfl⟩ := hT.shape
  obtain ⟨o, ho⟩ : ∃ o, T.op = o := ⟨_, rfl⟩
  obtain ⟨m, hm⟩ : ∃ m, T.num = m := ⟨_, rfl⟩
  obtain ⟨n, hn⟩ : ∃ n, T.ks.length = n := ⟨_, rfl⟩
  rw [ho, hm, hn]
  rw [hn] at hT
  obtain ⟨w0, hw0⟩ : ∃ w0, (w.alloc (.cells #[.int .i64 o, .int .i64 m, .slice a n cap] 24)).alloc (.cells #[.int .i64 3000] 28) = w0 := ⟨_, rfl⟩
  have A0 : Below w.heap.size w w0 := by rw [← hw0]; exact ((Below.refl _ w).alloc (Nat.le_refl _) _).alloc (by simp) _
  have C0 : w0.heap[w.heap.size]? = some (.cells #[.int .i64 o, .int .i64 m, .slice a n cap] 24 (0, 0)) := by rw [← hw0, Below.heap_alloc _ _ _ (by simp)]; exact heap_alloc_new w _
  have R0 : Tk.Rm (w.heap.size + 1) (3000 : Nat) w0 := by
    rw [← hw0]
    have := heap_alloc_new (w.alloc (.cells #[.int .i64 o, .int .i64 m, .slice a n cap] 24)) (.cells #[.int .i64 3000] 28)
    simpa [Tk.Rm] using this
  have h1 := Tryd.large_any d T (.slice a n cap) 3000 (w.heap.size + 1) 1 w.heap.size w0 (hT.below A0) (by omega) A0.size R0 (by omega) (by omega)
  rw [ho, hm] at h1
  have H1 : Hid _ := h1
  have HT : Hid (Tm.Lies w w.heap.size d (.slice a n cap) T) := hT
  have HM : Hid (T.op = o ∧ T.num = m) := ⟨ho, hm⟩
  have HO : Hid (Tk.Ops w) := hO
  have HA : Hid (Below w.heap.size w w0) := A0
  have HTB : Hid (∀ W, Below w.heap.size w W → Lib.TabIs Tryd.prog W "internal/strconv.uint64pow10" .u64 Lib.pow10Tab) := hTB
  have HC0 : Hid _ := C0
  have HW0 : Hid ((w.alloc (.cells #[.int .i64 o, .int .i64 m, .slice a n cap] 24)).alloc (.cells #[.int .i64 3000] 28) = w0) := hw0
  have hu2 := Tryd.underlying24
  have HH : Hid (∀ W, Below w.heap.size w W → Calls Tryd.prog 9 #[] W fun e w' => e = .returned (.bool true) ∧ Below w.heap.size w w') := fun W hW => (Tryd.less_any W (HO.out.below hW HO.out.lt) (Lib.tabBelow_of_tabIs (hTB W hW))).mono fun e w' ⟨he, hb⟩ => ⟨he, hW.trans (hb.mono hW.size)⟩
  clear hw0 h1 hT hO ho hm A0 C0 hn R0 hTB
  go_enter Tryd.func4, Tryd.ntmps4
  go_wp2_with fail
  rw [HW0.out]
  refine Calls.mono H1.out ?_
  rintro e W1 ⟨b1, hcase⟩
  have S1 := b1.size
  have B1 : Hid (Below w.heap.size w W1) := HA.out.trans (b1.below HA.out.size (by intro k hk; show ¬ k = w.heap.size + 1; omega))
  have hby : W1.heap[w.heap.size]? = some (.cells #[.int .i64 o, .int .i64 m, .slice a n cap] 24 (0, 0)) := by
    rw [b1.block _ (Array.getElem?_eq_some_iff.1 HC0.out).1 (by show ¬ w.heap.size = w.heap.size + 1; omega)]; exact HC0.out
  rcases hcase with ⟨rfl, hsz, -⟩ | rfl
  rotate_left
  · clear b1 S1 H1 HW0 hby
    go_wp2_with fail
    refine Calls.mono (HH.out _ B1.out) ?_
    rintro e W2 ⟨rfl, b2⟩
    have B2 : Hid (Below w.heap.size w W2) := b2
    clear b2
    go_wp2
    go_ret
    exact ⟨rfl, B2.out⟩
  have HSZ : Hid (T.size ≤ 1000000) := by show _ ≤ _; omega
  have HT1 : Hid (∀ W, Below w.heap.size w W → Tm.Lies W W.heap.size d (.slice a n cap) T) := fun W hW => (HT.out.below hW).wider hW.size
  have HY : Hid (W1.heap[w.heap.size]? = some (.cells #[.int .i64 o, .int .i64 m, .slice a n cap] 24 (0, 0))) := hby
  clear b1 S1 H1 HW0 hsz HT HA HC0
  have h2 := Tryd.text_any d T (.slice a n cap) W1 (HT1.out W1 B1.out) (HO.out.below B1.out HO.out.lt) (HTB.out W1 B1.out) HSZ.out
  have h3 := fun W hW => Tryd.refText_any d T (.slice a n cap) W (HT1.out W hW) HSZ.out
  obtain ⟨q, hq⟩ : ∃ q, T.textR = q := ⟨_, rfl⟩
  rw [HM.out.1, HM.out.2, hq] at h2 h3
  obtain ⟨tx, er⟩ := q
  obtain ⟨ts, hts⟩ : ∃ s : ByteArray, s = ⟨tx.toArray⟩ := ⟨_, rfl⟩
  simp only [← hts] at h2 h3
  have he : (ts.toList == ts.toList) = true := by simp
  have H2 : Hid _ := h2
  have H3 : Hid _ := h3
  clear h2 h3 hq hts
  go_wp2_with (refine wpList_load_row rfl 24 _ rfl _ rfl 24 _ (0, 0) _ hby hu2 rfl (by kernel_rfl) ?_)
  go_wp2_with fail
  refine Calls.mono H2.out ?_
  rintro e W2 ⟨rfl, b2⟩
  have B2 : Hid (Below w.heap.size w W2) := B1.out.trans (b2.mono B1.out.size)
  have hby2 : W2.heap[w.heap.size]? = some (.cells #[.int .i64 o, .int .i64 m, .slice a n cap] 24 (0, 0)) := by
    rw [b2.block _ (Array.getElem?_eq_some_iff.1 HY.out).1]; exact HY.out
  clear b2 H2 hby
  go_wp2_with (refine wpList_load_row rfl 24 _ rfl _ rfl 24 _ (0, 0) _ hby2 hu2 rfl (by kernel_rfl) ?_)
  go_wp2_with fail
  refine Calls.mono (H3.out _ B2.out) ?_
  rintro e W3 ⟨rfl, b3⟩
  have B3 : Hid (Below w.heap.size w W3) := B2.out.trans (b3.mono B2.out.size)
  clear b3 H3 hby2
  go_wp2_with fail
  refine Calls.mono (HH.out _ B3.out) ?_
  rintro e W9 ⟨rfl, b9⟩
  have B9 : Hid (Below w.heap.size w W9) := b9
  clear b9
  go_wp2
  go_ret
  exact ⟨rfl, B9.out⟩

end Go.Proofs.YtegcepenpchonaaDoor.TermTexts
