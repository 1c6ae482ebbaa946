/-
  The walk of TreeWrites: the text of an element is the document's, and so is the answer of Check.
-/
import Derived.Test.YtcnhmooogcgglaaDoorTrKids
import Derived.Test.YtcnhmooogcgglaaDoorTrLarge
import Derived.Test.YtcnhmooogcgglaaDoorTrLawRef2
import Derived.Test.YtcnhmooogcgglaaDoorTrRefWr
namespace Go.Proofs.YtcnhmooogcgglaaDoor.TreeWrites
open Go.RowKit
open Go.Proofs.Mk

set_option maxHeartbeats 16000000 in
set_option maxRecDepth 20000 in
theorem walk (d : Nat) (E : El) (va vk : Value) (w : World) (hT : El.Lies w (· < w.heap.size) d va vk E) (hR : E.Reach) (hE : Mk.Esc w) :
    Calls Tryd.prog 4 #[.agg #[.string E.name, va, vk, .string E.text]] w fun e w' => e = .returned (.bool true) ∧ Below w.heap.size w w' := by
  obtain ⟨aa, ca, ak, ck, rfl, rfl⟩ := hT.shape
  obtain ⟨w0, hw0⟩ : ∃ x, (w.alloc (.cells #[.string E.name, .slice aa E.attrs.length ca, .slice ak E.kids.length ck, .string E.text] 42)).alloc (.cells #[.int .i64 30000] 46) = x := ⟨_, rfl⟩
  have A0 : Below w.heap.size w w0 := by rw [← hw0]; exact ((Below.refl _ w).alloc (Nat.le_refl _) _).alloc (by simp) _
  have C0 : w0.heap[w.heap.size]? = some (.cells #[.string E.name, .slice aa E.attrs.length ca, .slice ak E.kids.length ck, .string E.text] 42 (0, 0)) := by rw [← hw0, Below.heap_alloc _ _ _ (by simp)]; exact heap_alloc_new w _
  have R0 : Tr.Rm (w.heap.size + 1) (30000 : Nat) w0 := by
    rw [← hw0]
    have := heap_alloc_new (w.alloc (.cells #[.string E.name, .slice aa E.attrs.length ca, .slice ak E.kids.length ck, .string E.text] 42)) (.cells #[.int .i64 30000] 46)
    simpa [Tr.Rm] using this
  have h1 := Tryd.large02_any d E _ _ 30000 (w.heap.size + 1) 1 w.heap.size w0 (hT.below A0) hR (by omega) A0.size R0 (by omega) (by omega)
  have h0 := Tr.esc_pos hE
  have HK : Hid (∀ W, Below w.heap.size w W → Calls Tryd.prog 16 #[] W fun e w' => e = .returned (.bool true) ∧ Below w.heap.size w w') := fun W hW => (Tryd.kids_any W (Tr.esc_below hE hW h0)).mono fun e w' ⟨he, hb⟩ => ⟨he, hW.trans (hb.mono hW.size)⟩
  have HL : Hid (∀ W, Below w.heap.size w W → El.Lies W (· < W.heap.size) d (.slice aa E.attrs.length ca) (.slice ak E.kids.length ck) E) := fun W hW => hT.keep (fun k hk => hW.block k hk) fun k hk => Nat.lt_of_lt_of_le hk hW.size
  have HES : Hid (Mk.Esc w) := hE
  have HRF : Hid (∀ W, Below w.heap.size w W → E.weight ≤ 100000 → Calls Tryd.prog 19 #[.agg #[.string E.name, .slice aa E.attrs.length ca, .slice ak E.kids.length ck, .string E.text]] W fun e w' => Below W.heap.size W w' ∧ ∃ a c a' c' d', e = .returned (.agg #[.string E.name, .slice a E.attrs.length c, .slice a' E.kids.length c', .string E.text]) ∧ El.Lies w' (fun k => W.heap.size ≤ k ∧ k < w'.heap.size) d' (.slice a E.attrs.length c) (.slice a' E.kids.length c') E) := fun W hW hw => Tr.refC d E _ _ W (HL.out W hW) hw
  obtain ⟨nm, hnm⟩ : ∃ x, E.name = x := ⟨_, rfl⟩
  obtain ⟨tx, htx⟩ : ∃ x, E.text = x := ⟨_, rfl⟩
  obtain ⟨n, hn⟩ : ∃ n, E.kids.length = n := ⟨_, rfl⟩
  obtain ⟨m, hm⟩ : ∃ n, E.attrs.length = n := ⟨_, rfl⟩
  rw [hnm, htx, hn, hm] at h1 HRF C0 hw0
  rw [hn, hm] at HL
  rw [hnm, htx, hn, hm]
  have H1 : Hid _ := h1
  have HA : Hid (Below w.heap.size w w0) := A0
  have HD : Hid (E.name = nm ∧ E.text = tx ∧ E.kids.length = n ∧ E.attrs.length = m) := ⟨hnm, htx, hn, hm⟩
  have HW0 : Hid _ := hw0
  have HC0 : Hid _ := C0
  have hu := Tryd.underlying42
  have hu2 := Tryd.underlying52
  clear hT hE A0 R0 h1 hnm htx hn hm hw0
  go_enter Tryd.func4, Tryd.ntmps4
  obtain ⟨wx, hwx⟩ : ∃ x, w.alloc (.cells #[.string nm, .slice aa m ca, .slice ak n ck, .string tx] 42) = x := ⟨_, rfl⟩
  have CX : wx.heap[w.heap.size]? = some (.cells #[.string nm, .slice aa m ca, .slice ak n ck, .string tx] 42 (0, 0)) := by rw [← hwx]; exact heap_alloc_new w _
  have HX : Hid _ := hwx
  have HX0 : Hid (wx.alloc (.cells #[.int .i64 30000] 46) = w0) := by show _ = _; rw [← hwx]; exact HW0.out
  have SX : wx.heap.size = w.heap.size + 1 := by rw [← hwx]; simp
  clear hwx C0
  go_upto_region 1 with fail
  rw [HX.out]
  go_wp2_with (first | (refine wpList_load_row rfl 42 _ rfl _ rfl 42 _ (0, 0) _ CX hu rfl (by kernel_rfl) ?_) | fail)
  rw [HX0.out]
  refine Calls.mono H1.out ?_
  rintro e W1 ⟨b1, hcase⟩
  have B1 : Hid (Below w.heap.size w W1) := HA.out.trans (b1.below HA.out.size (by intro k hk; show ¬ k = w.heap.size + 1; omega))
  have C1 : W1.heap[w.heap.size]? = some (.cells #[.string nm, .slice aa m ca, .slice ak n ck, .string tx] 42 (0, 0)) := by
    rw [b1.block _ (Array.getElem?_eq_some_iff.1 HC0.out).1 (by show ¬ w.heap.size = w.heap.size + 1; omega)]; exact HC0.out
  rcases hcase with ⟨rfl, hsz, hdp, -⟩ | rfl
  rotate_left
  · clear b1 H1 HW0 C1 CX HX HX0 SX
    go_wp2_with fail
    refine Calls.mono (HK.out _ B1.out) ?_
    rintro e W2 ⟨rfl, b2⟩
    have B2 : Hid (Below w.heap.size w W2) := b2
    clear b2
    go_wp2
    go_ret
    exact ⟨rfl, B2.out⟩
  have HSZ : Hid (E.weight ≤ 30000) := hsz
  have HRE : Hid E.Reach := hR
  obtain ⟨s, hs⟩ : ∃ x, E.writeR.1 = x := ⟨_, rfl⟩
  obtain ⟨z, hz⟩ : ∃ x, E.writeR.2 = x := ⟨_, rfl⟩
  have B1' := B1.out
  have HLE : Hid (∀ W, Below W1.heap.size W1 W → Below w.heap.size w W) := fun W hW => B1'.trans (hW.mono B1'.size)
  have HEW : Hid (∀ W, Below W1.heap.size W1 W → Mk.Esc W) := fun W hW => Tr.esc_below HES.out (HLE.out W hW) h0
  have CF : Hid (∀ W, Below W1.heap.size W1 W → (W.cell? ⟨w.heap.size, 0, none⟩ = some (.string nm) ∧ W.cell? ⟨w.heap.size, 1, none⟩ = some (.slice aa m ca) ∧ W.cell? ⟨w.heap.size, 2, none⟩ = some (.slice ak n ck) ∧ W.cell? ⟨w.heap.size, 3, none⟩ = some (.string tx))) := fun W hW => by
    have e1 := (hW.block _ (Array.getElem?_eq_some_iff.1 C1).1).trans C1
    exact (Tr.row4 e1).1
  have K1 : Hid (∀ W, Below W1.heap.size W1 W → Calls Tryd.prog 17 #[.agg #[.string nm, .slice aa m ca, .slice ak n ck, .string tx]] W fun e w' => e = .returned (.tuple #[.string s, .int .i64 z]) ∧ Below W1.heap.size W1 w') := fun W hW => by
    have := Tryd.Write_any d E _ _ W (HL.out W (HLE.out W hW)) HRE.out (by have := HSZ.out; omega) (HEW.out W hW)
    rw [HD.out.1, HD.out.2.1, hs, hz] at this
    exact this.mono fun e w' ⟨he, hb⟩ => ⟨he, hW.trans (hb.mono hW.size)⟩
  have K2 : Hid (∀ W, Below W1.heap.size W1 W → Calls Tryd.prog 20 #[.agg #[.string nm, .slice aa m ca, .slice ak n ck, .string tx]] W fun e w' => e = .returned (.int .i64 z) ∧ Below W1.heap.size W1 w') := fun W hW => by
    have := Tryd.Check_any d E _ _ W (HL.out W (HLE.out W hW)) HRE.out (by have := HSZ.out; omega) (HEW.out W hW)
    rw [HD.out.1, HD.out.2.1, hz] at this
    exact this.mono fun e w' ⟨he, hb⟩ => ⟨he, hW.trans (hb.mono hW.size)⟩
  have K3 : Hid (∀ d2 a2 c2 a3 c3 W, Below W1.heap.size W1 W → El.Lies W (· < W.heap.size) d2 (.slice a2 m c2) (.slice a3 n c3) E → Calls Tryd.prog 18 #[.agg #[.string nm, .slice a2 m c2, .slice a3 n c3, .string tx]] W fun e w' => e = .returned (.tuple #[.string s, .int .i64 z]) ∧ Below W1.heap.size W1 w') := fun d2 a2 c2 a3 c3 W hW hl => by
    have := Tryd.rWrite_any d2 E _ _ W hl HRE.out (by have := HSZ.out; omega)
    rw [HD.out.1, HD.out.2.1, hs, hz] at this
    exact this.mono fun e w' ⟨he, hb⟩ => ⟨he, hW.trans (hb.mono hW.size)⟩
  have K5 : Hid (∀ W, Below W1.heap.size W1 W → Calls Tryd.prog 16 #[] W fun e w' => e = .returned (.bool true) ∧ Below W1.heap.size W1 w') := fun W hW => (Tryd.kids_any W (HEW.out W hW)).mono fun e w' ⟨he, hb⟩ => ⟨he, hW.trans (hb.mono hW.size)⟩
  have hsq : (s.toList == s.toList) = true := beq_self_eq_true _
  clear b1 H1 HW0 CX HX HX0 SX hsz hdp hs hz hR
  go_wp2_with (first | (refine wpList_load_row rfl 42 _ rfl _ rfl 42 _ (0, 0) _ C1 hu rfl (by kernel_rfl) ?_) | fail)
  refine Calls.mono (K1.out _ (Below.refl _ _)) ?_
  rintro e W2 ⟨rfl, b2⟩
  have C2 : W2.heap[w.heap.size]? = some (.cells #[.string nm, .slice aa m ca, .slice ak n ck, .string tx] 42 (0, 0)) := (b2.block _ (Array.getElem?_eq_some_iff.1 C1).1).trans C1
  have B2 : Hid (Below W1.heap.size W1 W2) := b2
  clear b2 C1
  go_wp2_with (first | (refine wpList_load_row rfl 42 _ rfl _ rfl 42 _ (0, 0) _ C2 hu rfl (by kernel_rfl) ?_) | fail)
  refine Calls.mono (HRF.out _ (HLE.out _ B2.out) (by have := HSZ.out; omega)) ?_
  rintro e W3 ⟨b3, a2, c2, a3, c3, d2, rfl, l2⟩
  have B3 : Hid (Below W1.heap.size W1 W3) := B2.out.trans (b3.mono B2.out.size)
  have L3 : Hid (El.Lies W3 (· < W3.heap.size) d2 (.slice a2 m c2) (.slice a3 n c3) E) := l2.keep (fun k _ => rfl) fun k hk => hk.2
  clear b3 C2 l2
  go_wp2_with fail
  refine Calls.mono (K3.out _ _ _ _ _ _ B3.out L3.out) ?_
  rintro e W4 ⟨rfl, b4⟩
  have B4 : Hid (Below W1.heap.size W1 W4) := b4
  obtain ⟨f0, f1, f2, f3⟩ := CF.out W4 b4
  clear b4 L3
  go_wp2_with fail
  refine Calls.mono (K2.out _ B4.out) ?_
  rintro e W5 ⟨rfl, b5⟩
  have B5 : Hid (Below W1.heap.size W1 W5) := b5
  clear b5 f0 f1 f2 f3
  go_wp2_with fail
  refine Calls.mono (K5.out _ B5.out) ?_
  rintro e W6 ⟨rfl, b6⟩
  have BE : Hid (Below w.heap.size w W6) := HLE.out W6 b6
  clear b6
  go_wp2
  go_ret
  exact ⟨rfl, BE.out⟩

end Go.Proofs.YtcnhmooogcgglaaDoor.TreeWrites
