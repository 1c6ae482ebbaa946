/-
  The contract of term.Text.
-/
import Derived.Test.YtehmmfmofdgheaaDoorTWriteAll
import Derived.Test.YtehmmfmofdgheaaDoorAllTChk
import Derived.Laws.IdiomStrings
namespace Go.Proofs
open Go.RowKit

namespace Tm
theorem num_of_form {T : Tm} (h : T.allForm = true) : 0 ≤ T.num ∧ T.num ≤ 1099511627776 := by
  have := (formed_of_all h).1
  simp only [formedB, decide_eq_true_eq] at this
  refine ⟨this.2.2.2.1, ?_⟩
  have h5 := this.2.2.2.2
  unfold mostOf at h5
  split at h5
  · exact h5
  · split at h5 <;> omega
mutual
theorem txt_len : ∀ T : Tm, T.allForm = true → T.txt.length + 1 ≤ 30 * T.size
  | mk op n ks, h => by
    have hn := num_of_form h
    simp only [allForm, Bool.and_eq_true] at h
    have h2 := txts_len ks h.2
    have h3 := opText_le op
    have h4 := Lib.itoa_length_le n (by have := hn.1; simp only [num] at this; omega) (by have := hn.2; simp only [num] at this; omega)
    simp only [txt, size]
    split
    · rw [List.length_append]; omega
    · simp only [List.length_cons, List.length_append, List.length_nil]; omega
theorem txts_len : ∀ l : List Tm, allForms l = true → (txts l).length ≤ 30 * sizes l
  | [], _ => by simp [txts]
  | k :: r, h => by
    simp only [allForms, Bool.and_eq_true] at h
    have h1 := txt_len k h.1
    have h2 := txts_len r h.2
    simp only [txts, sizes, List.length_cons, List.length_append]
    omega
end
theorem txt_pos (T : Tm) (h : T.allForm = true) : 1 ≤ T.txt.length := by
  rw [T.txt_eq]
  split
  · rw [List.length_append]
    have : 1 ≤ (Lib.itoa T.num).length := by
      unfold Lib.itoa
      rw [if_neg (by have := (num_of_form h).1; omega)]
      unfold Lib.decDigits
      split <;> simp
    omega
  · simp

/-- Text's answer. -/
def textR (T : Tm) : List UInt8 × Int := if T.wrongR ≠ 0 then ([], T.wrongR) else if 20000 < T.txt.length then ([], 5) else (T.txt, 0)
end Tm

set_option maxHeartbeats 4000000 in
theorem Tryd.text_any (d : Nat) (T : Tm) (v : Value) (w : World) (hT : Tm.Lies w w.heap.size d v T) (hO : Tk.Ops w) (hTab : Lib.TabIs Tryd.prog w "internal/strconv.uint64pow10" .u64 Lib.pow10Tab) (hsz : T.size ≤ 1000000) :
    Calls Tryd.prog 26 #[.agg #[.int .i64 T.op, .int .i64 T.num, v]] w fun e w' => e = .returned (.tuple #[.string ⟨T.textR.1.toArray⟩, .int .i64 T.textR.2]) ∧ Below w.heap.size w w' := by
  obtain ⟨a, cap, rfl⟩ := hT.shape
  obtain ⟨o, ho⟩ : ∃ o, T.op = o := ⟨_, rfl⟩
  obtain ⟨m, hm⟩ : ∃ m, T.num = m := ⟨_, rfl⟩
  obtain ⟨n, hn⟩ : ∃ n, T.ks.length = n := ⟨_, rfl⟩
  rw [ho, hm, hn]
  rw [hn] at hT
  obtain ⟨w0, hw0⟩ : ∃ w0, w.alloc (.cells #[.int .i64 o, .int .i64 m, .slice a n cap] 37) = w0 := ⟨_, rfl⟩
  have A0 : Below w.heap.size w w0 := by rw [← hw0]; exact (Below.refl _ w).alloc (Nat.le_refl _) _
  have C0 : w0.heap[w.heap.size]? = some (.cells #[.int .i64 o, .int .i64 m, .slice a n cap] 37 (0, 0)) := by rw [← hw0]; exact heap_alloc_new w _
  have h1 := Tryd.checkForm_any d T (.slice a n cap) w0 ((hT.below A0).wider A0.size) (hO.below A0 hO.lt) (by omega)
  rw [ho, hm] at h1
  obtain ⟨r, hr⟩ : ∃ r, T.wrongR = r := ⟨_, rfl⟩
  rw [hr] at h1
  have H1 : Hid _ := h1
  have HT : Hid (Tm.Lies w w.heap.size d (.slice a n cap) T) := hT
  have HM : Hid (T.op = o ∧ T.num = m ∧ T.wrongR = r ∧ T.size ≤ 1000000) := ⟨ho, hm, hr, hsz⟩
  have HA : Hid (Below w.heap.size w w0) := A0
  have HC : Hid (w0.heap[w.heap.size]? = some (.cells #[.int .i64 o, .int .i64 m, .slice a n cap] 37 (0, 0))) := C0
  have HO : Hid (Tk.Ops w) := hO
  have HTB : Hid (Lib.TabBelow Tryd.prog w.heap.size w "internal/strconv.uint64pow10" .u64 Lib.pow10Tab) := Lib.tabBelow_of_tabIs hTab
  have HW0 : Hid (w.alloc (.cells #[.int .i64 o, .int .i64 m, .slice a n cap] 37) = w0) := hw0
  have hu := Tryd.underlying37
  clear hw0 h1 hT ho hm hr A0 C0 hn hO hTab hsz
  go_enter Tryd.func26, Tryd.ntmps26
  go_wp2_with fail
  rw [HW0.out]
  refine Calls.mono H1.out ?_
  rintro e W1 ⟨rfl, b1⟩
  have B1 : Hid (Below w.heap.size w W1) := HA.out.trans (b1.mono HA.out.size)
  have hbx : W1.heap[w.heap.size]? = some (.cells #[.int .i64 o, .int .i64 m, .slice a n cap] 37 (0, 0)) := by
    rw [b1.block _ (Array.getElem?_eq_some_iff.1 HC.out).1]; exact HC.out
  clear b1 H1 HW0
  by_cases h0 : r = 0
  · subst h0
    have hw := Tm.wrong_zero HM.out.2.2.1
    have hlen := Tm.txt_len T hw.2
    have hpos := Tm.txt_pos T hw.2
    have h2 := Tryd.write_any d T (.slice a n cap) w.heap.size [] (.slice none 0 0) W1 (HT.out.below B1.out) hw.2 B1.out.size (HO.out.below B1.out HO.out.lt) HO.out.lt (HTB.out.on B1.out) (World.ownsRow_nil _ _ _ _) (by have := HM.out.2.2.2; simp only [List.length_nil]; omega)
    rw [HM.out.1, HM.out.2.1] at h2
    obtain ⟨tl, htl⟩ : ∃ l, T.txt = l := ⟨_, rfl⟩
    rw [htl] at h2 hpos hlen
    have HR : Hid (T.textR = if 20000 < tl.length then ([], 5) else (tl, 0)) := by show _ = _; unfold Tm.textR; rw [HM.out.2.2.1, htl]; simp
    have HLE : Hid (tl.length ≤ 30000000) := by show _ ≤ _; have := HM.out.2.2.2; omega
    have H2 : Hid _ := h2
    have HP : Hid (1 ≤ tl.length) := hpos
    clear h2 hw htl hlen hpos
    go_wp2_with (refine wpList_load_row rfl 37 _ rfl _ rfl 37 _ (0, 0) _ hbx hu rfl (by kernel_rfl) ?_)
    go_wp2_with fail
    refine Calls.mono H2.out ?_
    rintro e W2 ⟨v2, bs, rfl, p2, b2, k1, k2⟩
    have B2 : Hid (Below w.heap.size w W2) := B1.out.trans b2
    obtain ⟨l2, hl2⟩ : ∃ l, bs.length = l := ⟨_, rfl⟩
    obtain ⟨ca, cc, rfl⟩ := Tk.own_shape p2
    simp only [List.nil_append, List.length_nil, Nat.zero_add] at k1 k2
    have hl3 : l2 ≤ 30000000 := by have := HLE.out; omega
    rw [hl2] at p2
    rw [hl2]
    by_cases hlong : 20000 < l2
    · have hd : decide ((20000 : Int) < l2) = true := decide_eq_true (by omega)
      have HX : Hid (T.textR = ([], 5)) := by
        show _ = _
        rw [HR.out, if_pos]
        omega
      clear hbx H2 p2 b2 k1 k2 hl2
      go_wp2
      go_ret2
      exact ⟨by rw [HX.out]; rfl, B2.out⟩
    · have hd : decide ((20000 : Int) < l2) = false := decide_eq_false (by omega)
      obtain rfl : bs = tl := by
        rcases k1 with k1 | k1
        · exact k1
        · omega
      have HX : Hid (T.textR = (bs, 0)) := by
        show _ = _
        rw [HR.out, if_neg]
        omega
      have hl2' : 1 ≤ l2 := by have := HP.out; omega
      rcases p2.2 with ⟨_, hz⟩ | ⟨g, cap2, cur, hv, _⟩
      · omega
      · simp only [Value.slice.injEq] at hv
        obtain ⟨rfl, -, rfl⟩ := hv
        subst hl2
        have hcv := run_convert_bytes_back (P := Tryd.prog) W2 71 9 5 ⟨g, 0, none⟩ cc bs Tryd.underlying71 Tryd.underlying5 Tryd.underlying9 (fun j hj => p2.cells (g := g) rfl j _ (by simp [Lib.byteCells, hj]))
        clear hbx H2 p2 b2 k1 k2
        go_wp2
        go_ret2
        exact ⟨by rw [HX.out]; rfl, B2.out⟩
  · have hne : (r != 0) = true := by simpa using h0
    have HX : Hid (T.textR = ([], r)) := by show _ = _; unfold Tm.textR; rw [HM.out.2.2.1, if_pos h0]
    clear h0 hbx
    go_wp2
    go_ret2
    exact ⟨by rw [HX.out]; rfl, B1.out⟩

end Go.Proofs
