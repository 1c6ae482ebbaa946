/-
  The contract of the document's Write.
-/
import Derived.Test.YtcnhmooogcgglaaDoorTrRefText
namespace Go.Proofs
open Go.RowKit
open Go.Proofs.Mk

set_option maxHeartbeats 8000000 in
set_option maxRecDepth 20000 in
theorem Tryd.rWrite_any (d : Nat) (E : El) (va vk : Value) (w : World) (hT : El.Lies w (· < w.heap.size) d va vk E) (hR : E.Reach) (hw : E.weight ≤ 100000) :
    Calls Tryd.prog 18 #[.agg #[.string E.name, va, vk, .string E.text]] w fun e w' => e = .returned (.tuple #[.string E.writeR.1, .int .i64 E.writeR.2]) ∧ Below w.heap.size w w' := by
  have hcn : E.count ≤ 1000000 := by have := El.count_le_weight E; omega
  obtain ⟨w0, hw0⟩ : ∃ x, w.alloc (.cells #[.string E.name, va, vk, .string E.text] 52) = x := ⟨_, rfl⟩
  have A0 : Below w.heap.size w w0 := by rw [← hw0]; exact (Below.refl _ w).alloc (Nat.le_refl _) _
  have N0 : w0.heap[w.heap.size]? = some (.cells #[.string E.name, va, vk, .string E.text] 52 (0, 0)) := by rw [← hw0]; exact heap_alloc_new w _
  have HL : ∀ W, Below w.heap.size w W → El.Lies W (· < W.heap.size) d va vk E := fun W hW => hT.keep (fun k hk => hW.block k hk) fun k hk => Nat.lt_of_lt_of_le hk hW.size
  have h1 := fun W hW => Tryd.rdepth_any d E va vk W (HL W hW) hcn
  have h2 := fun W hW => Tryd.rwide_any d E va vk W (HL W hW) hcn
  have h3 := fun W hW => Tryd.rform_any d E va vk W (HL W hW) hR hw
  have h4 := fun (hf : E.formB = true) W hW => Tryd.r2text_any d E va vk W (HL W hW) hR hw hf
  have hdl : E.depth ≤ 1000000 := by have := El.depth_le_count E; omega
  have htl := El.textL_le E
  obtain ⟨r, hr⟩ : ∃ x, E.writeR = x := ⟨_, rfl⟩
  obtain ⟨dp, hdp⟩ : ∃ x, E.depth = x := ⟨_, rfl⟩
  obtain ⟨wd, hwd⟩ : ∃ x, E.wideB = x := ⟨_, rfl⟩
  obtain ⟨fo, hfo⟩ : ∃ x, E.formB = x := ⟨_, rfl⟩
  obtain ⟨ts, hts⟩ : ∃ s : ByteArray, (⟨E.textL.toArray⟩ : ByteArray) = s := ⟨_, rfl⟩
  have hrr : r = if 24 < dp ∨ wd = true then (⟨#[]⟩, 2) else if fo = false then (⟨#[]⟩, 4) else if 20000 < ts.size then (⟨#[]⟩, 5) else (ts, 0) := by
    rw [← hr, ← hdp, ← hwd, ← hfo, ← hts]
    rfl
  have htb : fo = true → ts.size ≤ 6000000 := fun h => by
    rw [← hts]
    have := htl (by rw [hfo]; exact h)
    simp only [ByteArray.size, List.size_toArray]
    omega
  rw [hdp] at h1 hdl
  rw [hwd] at h2
  rw [hfo] at h3 h4
  rw [hts] at h4
  rw [hr]
  obtain ⟨nm, hnm⟩ : ∃ x, E.name = x := ⟨_, rfl⟩
  obtain ⟨tx, htx⟩ : ∃ x, E.text = x := ⟨_, rfl⟩
  obtain ⟨aa, ca, ak, ck, rfl, rfl⟩ := hT.shape
  rw [hnm, htx] at h1 h2 h3 h4 hw0 N0
  rw [hnm, htx]
  have H1 : Hid _ := h1
  have H2 : Hid _ := h2
  have H3 : Hid _ := h3
  have H4 : Hid _ := h4
  have HA : Hid (Below w.heap.size w w0) := A0
  have HW0 : Hid _ := hw0
  have HRR : Hid _ := hrr
  have HTB : Hid _ := htb
  have hu := Tryd.underlying52
  clear h1 h2 h3 h4 hr hT hR hw hw0 A0 hnm htx hcn hdp hwd hfo hts hrr htb htl HL
  go_enter Tryd.func18, Tryd.ntmps18
  go_upto_region 1 with fail
  rw [HW0.out]
  go_wp2_with (first | (refine wpList_load_row rfl 52 _ rfl _ rfl 52 _ (0, 0) _ N0 hu rfl (by kernel_rfl) ?_) | fail)
  refine Calls.mono (H1.out _ HA.out) ?_
  rintro e W1 ⟨rfl, b1⟩
  have B1 : Hid (Below w.heap.size w W1) := HA.out.trans (b1.mono HA.out.size)
  have N1 := (b1.block _ (Array.getElem?_eq_some_iff.1 N0).1).trans N0
  have HN1 : Hid _ := N1
  clear b1 H1 N0
  by_cases h24 : 24 < dp
  · have hd : decide ((24 : Int) < dp) = true := decide_eq_true (by omega)
    have HF : Hid (r = (⟨#[]⟩, 2)) := by show _ = _; rw [HRR.out, if_pos (.inl h24)]
    clear h24 N1
    go_wp2
    go_ret2
    exact ⟨by rw [HF.out]; rfl, B1.out⟩
  · have hd : decide ((24 : Int) < dp) = false := decide_eq_false (by omega)
    obtain ⟨n0, n1, n2, n3⟩ : W1.cell? ⟨w.heap.size, 0, none⟩ = some (.string nm) ∧ W1.cell? ⟨w.heap.size, 1, none⟩ = some (.slice aa E.attrs.length ca) ∧ W1.cell? ⟨w.heap.size, 2, none⟩ = some (.slice ak E.kids.length ck) ∧ W1.cell? ⟨w.heap.size, 3, none⟩ = some (.string tx) := by simp [World.cell?, N1]
    clear N1
    go_wp2_with fail
    refine Calls.mono (H2.out _ B1.out) ?_
    rintro e W2 ⟨rfl, b2⟩
    have B2 : Hid (Below w.heap.size w W2) := B1.out.trans (b2.mono B1.out.size)
    have N2 := (b2.block _ (Array.getElem?_eq_some_iff.1 HN1.out).1).trans HN1.out
    clear b2 H2 n0 n1 n2 n3
    cases wd
    rotate_left
    · have HF : Hid (r = (⟨#[]⟩, 2)) := by show _ = _; rw [HRR.out, if_pos (.inr rfl)]
      clear N2 h24
      go_wp2
      go_ret2
      exact ⟨by rw [HF.out]; rfl, B2.out⟩
    · have HR2 : Hid (r = if fo = false then (⟨#[]⟩, 4) else if 20000 < ts.size then (⟨#[]⟩, 5) else (ts, 0)) := by show _ = _; rw [HRR.out, if_neg (by rintro (h | h); exact h24 h; cases h)]
      clear h24
      go_wp2_with (first | (refine wpList_load_row rfl 52 _ rfl _ rfl 52 _ (0, 0) _ N2 hu rfl (by kernel_rfl) ?_) | fail)
      refine Calls.mono (H3.out _ B2.out) ?_
      rintro e W3 ⟨rfl, b3⟩
      have B3 : Hid (Below w.heap.size w W3) := B2.out.trans (b3.mono B2.out.size)
      have N3 := (b3.block _ (Array.getElem?_eq_some_iff.1 N2).1).trans N2
      clear b3 H3 N2
      cases fo
      · have HF : Hid (r = (⟨#[]⟩, 4)) := by show _ = _; rw [HR2.out]; rfl
        clear N3
        go_wp2
        go_ret2
        exact ⟨by rw [HF.out]; rfl, B3.out⟩
      · have htb := HTB.out (by simp)
        go_wp2_with (first | (refine wpList_load_row rfl 52 _ rfl _ rfl 52 _ (0, 0) _ N3 hu rfl (by kernel_rfl) ?_) | fail)
        refine Calls.mono (H4.out (by simp) _ B3.out) ?_
        rintro e W4 ⟨rfl, b4⟩
        have B4 : Hid (Below w.heap.size w W4) := B3.out.trans (b4.mono B3.out.size)
        clear b4 H4 N3
        by_cases hbig : 20000 < ts.size
        · have hd2 : decide ((20000 : Int) < ts.size) = true := decide_eq_true (by omega)
          have HF : Hid (r = (⟨#[]⟩, 5)) := by show _ = _; rw [HR2.out, if_neg (by decide), if_pos hbig]
          clear hbig
          go_wp2
          go_ret2
          exact ⟨by rw [HF.out]; rfl, B4.out⟩
        · have hd2 : decide ((20000 : Int) < ts.size) = false := decide_eq_false (by omega)
          have HF : Hid (r = (ts, 0)) := by show _ = _; rw [HR2.out, if_neg (by decide), if_neg hbig]
          clear hbig
          go_wp2
          go_ret2
          exact ⟨by rw [HF.out]; rfl, B4.out⟩

end Go.Proofs
