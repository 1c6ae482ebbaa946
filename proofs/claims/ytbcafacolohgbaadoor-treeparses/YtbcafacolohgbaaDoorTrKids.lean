/-
  The contract of the statements' example: it holds.
-/
import Derived.Test.YtbcafacolohgbaaDoorAllTrTake
import Derived.Test.YtbcafacolohgbaaDoorAllTrCount
namespace Go.Proofs
open Go.RowKit
open Go.Proofs.Mk

theorem Tr.parse1 : El.parseL ⟨#[60, 97, 62, 60, 98, 47, 62, 120, 60, 47, 97, 62]⟩ = (none, 7, 4) := by kernel_rfl
theorem Tr.parse2 : El.parseL ⟨#[60, 97, 62, 60, 47, 97, 62]⟩ = (some (.mk ⟨#[97]⟩ [] [] ⟨#[]⟩), 0, 0) := by kernel_rfl
theorem Tr.write2 : El.writeR (.mk ⟨#[97]⟩ [] [] ⟨#[]⟩) = (⟨#[60, 97, 47, 62]⟩, 0) := by kernel_rfl

set_option maxHeartbeats 8000000 in
set_option maxRecDepth 20000 in
theorem Tryd.kids_any (w : World) (hE : Mk.Esc w) : Calls Tryd.prog 9 #[] w fun e w' => e = .returned (.bool true) ∧ Below w.heap.size w w' := by
  have HE : Hid (Mk.Esc w) := hE
  have h0 := Tr.esc_pos hE
  clear hE
  go_enter Tryd.func9, Tryd.ntmps9
  go_wp2_with fail
  refine (Tryd.parse_any ⟨#[60, 97, 62, 60, 98, 47, 62, 120, 60, 47, 97, 62]⟩ _ HE.out (by decide)).mono ?_
  rintro e W1 ⟨b1, h1⟩
  unfold Tr.ParseEnd at h1
  rw [Tr.parse1] at h1
  obtain rfl := h1
  obtain ⟨W2, hW2⟩ : ∃ x, W1.alloc (.cells #[.string ⟨#[]⟩, .slice none 0 0, .slice none 0 0, .string ⟨#[]⟩] 25) = x := ⟨_, rfl⟩
  have B2 : Hid (Below w.heap.size w W2) := by show Below _ _ _; rw [← hW2]; exact b1.alloc b1.size _
  have HW2 : Hid _ := hW2
  clear b1 hW2
  go_wp2_with fail
  rw [HW2.out]
  refine (Tryd.parse_any ⟨#[60, 97, 62, 60, 47, 97, 62]⟩ _ (Tr.esc_below HE.out B2.out h0) (by decide)).mono ?_
  rintro e W3 ⟨b3, h3⟩
  unfold Tr.ParseEnd at h3
  rw [Tr.parse2] at h3
  obtain ⟨va, vk, d, rfl, hl⟩ := h3
  obtain ⟨aa, ca, ak, ck, rfl, rfl⟩ := hl.shape
  have B3 : Hid (Below w.heap.size w W3) := B2.out.trans (b3.mono B2.out.size)
  obtain ⟨E, hEq⟩ : ∃ E : El, E = .mk ⟨#[97]⟩ [] [] ⟨#[]⟩ := ⟨_, rfl⟩
  rw [← hEq] at hl
  have e1 : E.name = ⟨#[97]⟩ ∧ E.text = ⟨#[]⟩ ∧ E.attrs.length = 0 ∧ E.kids.length = 0 := by rw [hEq]; exact ⟨rfl, rfl, rfl, rfl⟩
  rw [e1.2.2.1, e1.2.2.2] at hl
  have e2 : E.Reach ∧ E.weight ≤ 100000 ∧ E.depth ≤ 1000 ∧ E.count = 1 := by
    rw [hEq]
    refine ⟨⟨by decide, by decide, ⟨by decide, fun j hj => by simp at hj⟩, by decide, trivial⟩, by decide, by decide, rfl⟩
  have e3 : E.writeR = (⟨#[60, 97, 47, 62]⟩, 0) := by rw [hEq]; exact Tr.write2
  obtain ⟨W4, hW4⟩ : ∃ x, W3.alloc (.cells #[.string ⟨#[97]⟩, .slice aa 0 ca, .slice ak 0 ck, .string ⟨#[]⟩] 25) = x := ⟨_, rfl⟩
  have A4 : Below W3.heap.size W3 W4 := by rw [← hW4]; exact (Below.refl _ W3).alloc (Nat.le_refl _) _
  have B4 : Hid (Below w.heap.size w W4) := B3.out.trans (A4.mono B3.out.size)
  have N4 : W4.heap[W3.heap.size]? = some (.cells #[.string ⟨#[97]⟩, .slice aa 0 ca, .slice ak 0 ck, .string ⟨#[]⟩] 25 (0, 0)) := by rw [← hW4]; exact heap_alloc_new W3 _
  have HL : Hid (∀ W, Below W4.heap.size W4 W → El.Lies W (· < W.heap.size) d (.slice aa 0 ca) (.slice ak 0 ck) E) := fun W hb => hl.keep (fun k hk => (hb.block k (Nat.lt_of_lt_of_le hk A4.size)).trans (A4.block k hk)) fun k hk => Nat.lt_of_lt_of_le hk (Nat.le_trans A4.size hb.size)
  have C1 : Hid (∀ W, Below W4.heap.size W4 W → Calls Tryd.prog 10 #[.agg #[.string ⟨#[97]⟩, .slice aa 0 ca, .slice ak 0 ck, .string ⟨#[]⟩]] W fun e w' => e = .returned (.tuple #[.string ⟨#[60, 97, 47, 62]⟩, .int .i64 0]) ∧ Below W.heap.size W w') := fun W hb => by
    have := Tryd.Write_any d E (.slice aa 0 ca) (.slice ak 0 ck) W (HL.out W hb) e2.1 e2.2.1 (Tr.esc_below (Tr.esc_below HE.out B4.out h0) hb (Nat.lt_of_lt_of_le h0 B4.out.size))
    rw [e1.1, e1.2.1, e3] at this
    exact this
  have C2 : Hid (∀ W, Below W4.heap.size W4 W → Calls Tryd.prog 18 #[.agg #[.string ⟨#[97]⟩, .slice aa 0 ca, .slice ak 0 ck, .string ⟨#[]⟩]] W fun e w' => e = .returned (.int .i64 1) ∧ Below W.heap.size W w') := fun W hb => by
    have := Tryd.Count_any d E (.slice aa 0 ca) (.slice ak 0 ck) W (HL.out W hb) e2.2.2.1 (by rw [e2.2.2.2]; decide)
    rw [e1.1, e1.2.1, e2.2.2.2] at this
    exact this
  have HW4 : Hid _ := hW4
  have hu := Tryd.underlying25
  clear b3 hl hEq e1 e2 e3 hW4 A4
  simp only [El.name, El.attrs, El.kids, El.text, List.length_nil]
  go_upto_region 3 with fail
  rw [HW4.out]
  go_wp2_with (first | (refine wpList_load_row rfl 25 _ rfl _ rfl 25 _ (0, 0) _ N4 hu rfl (by kernel_rfl) ?_) | fail)
  refine Calls.mono (C1.out _ (Below.refl _ _)) ?_
  rintro e W5 ⟨rfl, b5⟩
  have B5 : Hid (Below W4.heap.size W4 W5) := b5
  have N5 := (b5.block _ (Array.getElem?_eq_some_iff.1 N4).1).trans N4
  obtain ⟨⟨n0, n1, n2, n3⟩, _⟩ := Tr.row4 N5
  clear b5 N4 N5
  go_wp2_with fail
  refine Calls.mono (C2.out _ B5.out) ?_
  rintro e W6 ⟨rfl, b6⟩
  have B6 : Hid (Below w.heap.size w W6) := (B4.out.trans (B5.out.mono B4.out.size)).trans (b6.mono (Nat.le_trans B4.out.size B5.out.size))
  clear b6
  go_wp2
  go_ret
  exact ⟨rfl, B6.out⟩

end Go.Proofs
