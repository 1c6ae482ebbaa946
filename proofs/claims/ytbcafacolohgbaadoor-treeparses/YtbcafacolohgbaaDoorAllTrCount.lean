import Derived.Test.YtbcafacolohgbaaDoorTrMeas
import Derived.Test.YtbcafacolohgbaaDoorTrWrite
/-
  The contracts of tree's count, Count, Depth, Get, Write and Check.
-/
namespace Go.Proofs
open Go.RowKit
open Go.Proofs.Mk

set_option maxHeartbeats 4000000 in
set_option maxRecDepth 20000 in
theorem Tryd.count_any : ∀ (d : Nat) (E : El) (va vk : Value) (w : World), El.Lies w (· < w.heap.size) d va vk E → ∀ L M : Nat, L ≤ 1000 → E.depth ≤ L → E.count ≤ M → M ≤ 2147483647 →
    Calls Tryd.prog 36 #[vk, .int .i64 L, .int .i64 M] w fun e w' => e = .returned (.int .i64 E.count) ∧ Below w.heap.size w w' := by
  intro d
  induction d with
  | zero => intro E va vk w hT; exact hT.elim
  | succ d ih =>
    intro E va vk w hT L M hL hdp hcb hM
    obtain ⟨aa, ca, ak, ck, rfl, rfl⟩ := hT.shape
    obtain ⟨n, hn⟩ : ∃ n, E.kids.length = n := ⟨_, rfl⟩
    rw [hn]
    rw [hn] at hT
    have HT : Hid (El.Lies w (· < w.heap.size) (d + 1) (.slice aa E.attrs.length ca) (.slice ak n ck) E) := hT
    have HI : Hid _ := ih
    have HD : Hid (E.kids.length = n) := hn
    obtain ⟨c, hc0⟩ : ∃ c, E.count = c := ⟨_, rfl⟩
    rw [hc0]
    have HC : Hid (E.count = c ∧ E.count ≤ M ∧ E.depth ≤ L) := ⟨hc0, hcb, hdp⟩
    have hnb : n ≤ 2147483647 := by have h1 := El.length_le_counts E.kids; have h2 := E.count_eq; omega
    have hL1 : 1 ≤ L := by have := E.depth_pos; omega
    clear ih hT hn hc0 hcb hdp
    by_cases hone : L = 1
    · subst hone
      have HF : Hid ((1 : Int) = c) := by
        show _ = _
        have h1 := HC.out.2.2
        rw [E.depth_eq] at h1
        have h2 : E.kids = [] := by
          cases hk : E.kids with
          | nil => rfl
          | cons a r => rw [hk] at h1; simp only [El.depths] at h1; have := a.depth_pos; omega
        rw [← HC.out.1, E.count_eq, h2]
        rfl
      go_enter Tryd.func36, Tryd.ntmps36
      go_wp2
      go_ret
      exact ⟨by rw [← HF.out]; rfl, Below.refl _ _⟩
    · have hl0 : ((L : Int) == 1) = false := beq_eq_false_iff_ne.2 (by omega)
      clear hone
      go_enter Tryd.func36, Tryd.ntmps36
      go_wp2
      go_loopg [7, 14] n (fun g u i wr => ∃ (j cj : Nat), g + j = n ∧ i = .int .i64 j ∧ u = .int .i64 cj ∧ cj ≤ 2147483647 ∧ Hid (Below w.heap.size w wr ∧ El.counts (E.kids.take j) + 1 = cj))
      case atStart => exact ⟨0, 1, by omega, rfl, rfl, by omega, Below.refl _ _, rfl⟩
      case round =>
        obtain ⟨j, cj, hj, rfl, rfl, hcjb, HJ⟩ := hrel
        by_cases hjn : j < n
        · have hd : decide ((j : Int) < n) = true := decide_eq_true (by omega)
          have hjk : j < E.kids.length := by rw [HD.out]; exact hjn
          obtain ⟨g, off, ua, uk, rfl, hg, p0, p1, p2, p3, p4⟩ := HT.out.kid j hjk
          obtain ⟨x, hx⟩ : ∃ x, E.kids[j] = x := ⟨_, rfl⟩
          rw [hx] at p4
          obtain ⟨xa, xc, xk, xd, rfl, rfl⟩ := p4.shape
          obtain ⟨xl, hxl⟩ : ∃ n, x.kids.length = n := ⟨_, rfl⟩
          rw [hxl] at p2 p4
          have hc : ∀ o, wr.cell? ⟨g, o, none⟩ = w.cell? ⟨g, o, none⟩ := fun o => World.cell?_of_block (w := w) (HJ.out.1.block g hg)
          have k2 : wr.cell? ⟨g, off + j * 4 + 2, none⟩ = some (.slice xk xl xd) := by rw [hc]; exact p2
          have hs : El.counts (E.kids.take j) + x.count ≤ El.counts E.kids := by have := El.counts_get E.kids j hjk; rw [hx] at this; exact this
          have h2 := E.count_eq
          have h3 := HC.out
          have h4 := HJ.out.2
          have h5 := x.count_pos
          have hcall := HI.out x (.slice xa x.attrs.length xc) (.slice xk xl xd) wr (p4.keep (fun k hk => HJ.out.1.block k hk) fun k hk => Nat.lt_of_lt_of_le hk HJ.out.1.size) (L - 1) (M - cj) (by omega) (by have h1 := El.depths_get E.kids j hjk; rw [hx] at h1; have h2 := E.depth_eq; omega) (by omega) (by omega)
          rw [show ((L - 1 : Nat) : Int) = (L : Int) - 1 by omega, show ((M - cj : Nat) : Int) = (M : Int) - cj by omega] at hcall
          obtain ⟨xw, hxw⟩ : ∃ c, x.count = c := ⟨_, rfl⟩
          rw [hxw] at hcall
          have HS : Hid (El.counts (E.kids.take (j + 1)) + 1 = cj + xw) := by show _ = _; rw [El.counts_take _ _ hjk, hx, hxw]; omega
          have hsb : cj + xw ≤ 2147483647 := by omega
          have hne : ((cj : Int) == M) = false := beq_eq_false_iff_ne.2 (by omega)
          have HCL : Hid _ := hcall
          have lg : g < wr.heap.size := Nat.lt_of_lt_of_le hg HJ.out.1.size
          have hML : (M : Int) - cj ≤ 2147483647 := by omega
          have hM0 : (0 : Int) ≤ (M : Int) - cj := by omega
          clear hc p0 p1 p2 p3 p4 hx hxl hcall hs h2 h3 h4 h5 hxw
          go_wp2_with fail
          refine Calls.mono HCL.out ?_
          rintro e W3 ⟨rfl, b3⟩
          have B3 : Hid (Below w.heap.size w W3) := HJ.out.1.trans (b3.mono HJ.out.1.size)
          clear b3 HCL k2
          go_wp2
          go_roundg (gk - 1)
          case measure => omega
          case rel => exact ⟨j + 1, cj + xw, by omega, by go_num, by go_num, hsb, B3.out, HS.out⟩
        · have hd : decide ((j : Int) < n) = false := decide_eq_false (by omega)
          have hall : E.kids.take j = E.kids := List.take_of_length_le (by rw [HD.out]; omega)
          have HF : Hid (cj = c) := by show _ = _; rw [← HC.out.1, E.count_eq, ← HJ.out.2, hall]
          clear hall
          go_wp2
          go_ret
          exact ⟨by rw [HF.out]; rfl, HJ.out.1⟩

set_option maxHeartbeats 4000000 in
theorem Tryd.Count_any (d : Nat) (E : El) (va vk : Value) (w : World) (hT : El.Lies w (· < w.heap.size) d va vk E) (hd : E.depth ≤ 1000) (hc : E.count ≤ 1000000) :
    Calls Tryd.prog 18 #[.agg #[.string E.name, va, vk, .string E.text]] w fun e w' => e = .returned (.int .i64 E.count) ∧ Below w.heap.size w w' := by
  have A0 : Below w.heap.size w (w.alloc (.cells #[.string E.name, va, vk, .string E.text] 25)) := (Below.refl _ w).alloc (Nat.le_refl _) _
  have hcall := Tryd.count_any d E va vk (w.alloc (.cells #[.string E.name, va, vk, .string E.text] 25)) (hT.keep (fun k hk => A0.block k hk) fun k hk => Nat.lt_of_lt_of_le hk A0.size) 1000 2147483647 (by omega) hd (by omega) (by omega)
  have HC : Hid _ := hcall
  have HA : Hid _ := A0
  obtain ⟨c, hc0⟩ : ∃ c, E.count = c := ⟨_, rfl⟩
  rw [hc0] at HC
  rw [hc0]
  obtain ⟨aa, ca, ak, ck, rfl, rfl⟩ := hT.shape
  clear hcall A0 hT hc hd hc0
  go_enter Tryd.func18, Tryd.ntmps18
  go_wp2_with fail
  refine Calls.mono HC.out ?_
  rintro e W1 ⟨rfl, b1⟩
  have B1 : Hid (Below w.heap.size w W1) := HA.out.trans (b1.mono HA.out.size)
  clear b1 HC
  go_wp2
  go_ret
  exact ⟨rfl, B1.out⟩

set_option maxHeartbeats 4000000 in
theorem Tryd.Depth_any (d : Nat) (E : El) (va vk : Value) (w : World) (hT : El.Lies w (· < w.heap.size) d va vk E) (hd : E.depth ≤ 1000) (hc : E.count ≤ 1000000) :
    Calls Tryd.prog 20 #[.agg #[.string E.name, va, vk, .string E.text]] w fun e w' => e = .returned (.int .i64 E.depth) ∧ Below w.heap.size w w' := by
  have A0 : Below w.heap.size w (w.alloc (.cells #[.string E.name, va, vk, .string E.text] 25)) := (Below.refl _ w).alloc (Nat.le_refl _) _
  have hcall := Tryd.depth_any d E va vk (w.alloc (.cells #[.string E.name, va, vk, .string E.text] 25)) (hT.keep (fun k hk => A0.block k hk) fun k hk => Nat.lt_of_lt_of_le hk A0.size) 1000 (by omega) hd hc
  have HC : Hid _ := hcall
  have HA : Hid _ := A0
  have hm := heap_alloc_new w (.cells #[.string E.name, va, vk, .string E.text] 25)
  obtain ⟨c, hc0⟩ : ∃ c, E.depth = c := ⟨_, rfl⟩
  rw [hc0] at HC
  rw [hc0]
  obtain ⟨aa, ca, ak, ck, rfl, rfl⟩ := hT.shape
  have hu := Tryd.underlying25
  clear hcall A0 hT hc hd hc0
  go_enter Tryd.func20, Tryd.ntmps20
  go_wp2_with (first | (refine wpList_load_row rfl 25 _ rfl _ rfl 25 _ (0, 0) _ hm hu rfl (by kernel_rfl) ?_) | fail)
  refine Calls.mono HC.out ?_
  rintro e W1 ⟨rfl, b1⟩
  have B1 : Hid (Below w.heap.size w W1) := HA.out.trans (b1.mono HA.out.size)
  clear b1 HC
  go_wp2
  go_ret
  exact ⟨rfl, B1.out⟩

end Go.Proofs

/-
  The contracts of tree.Write, tree.Check and tree.Get.
-/
namespace Go.Proofs
open Go.RowKit
open Go.Proofs.Mk

theorem El.textL_ne (E : El) : E.textL ≠ [] := by
  rw [El.textL_eq]
  split <;> simp

set_option maxHeartbeats 8000000 in
set_option maxRecDepth 20000 in
theorem Tryd.Write_any (d : Nat) (E : El) (va vk : Value) (w : World) (hT : El.Lies w (· < w.heap.size) d va vk E) (hR : E.Reach) (hw : E.weight ≤ 100000) (hE : Mk.Esc w) :
    Calls Tryd.prog 10 #[.agg #[.string E.name, va, vk, .string E.text]] w fun e w' => e = .returned (.tuple #[.string E.writeR.1, .int .i64 E.writeR.2]) ∧ Below w.heap.size w w' := by
  have hcn : E.count ≤ 1000000 := by have := El.count_le_weight E; omega
  obtain ⟨w0, hw0⟩ : ∃ x, w.alloc (.cells #[.string E.name, va, vk, .string E.text] 25) = x := ⟨_, rfl⟩
  have A0 : Below w.heap.size w w0 := by rw [← hw0]; exact (Below.refl _ w).alloc (Nat.le_refl _) _
  have N0 : w0.heap[w.heap.size]? = some (.cells #[.string E.name, va, vk, .string E.text] 25 (0, 0)) := by rw [← hw0]; exact heap_alloc_new w _
  have h1 := Tryd.tooLarge_any d E va vk w0 (hT.keep (fun k hk => A0.block k hk) fun k hk => Nat.lt_of_lt_of_le hk A0.size) 24 (by omega) hcn
  have h2 : ∀ W, Below w.heap.size w W → Calls Tryd.prog 24 #[.pointer (some ⟨W.heap.size, 0, none⟩), .agg #[.string E.name, va, vk, .string E.text]] (W.alloc (.cells #[.pointer none, .slice none 0 0] 65)) fun e w' => Tr.ElemEnd W.heap.size W.heap.size [] E.formB E.textL (W.alloc (.cells #[.pointer none, .slice none 0 0] 65)) e w' := fun W hb => by
    have A1 : Below W.heap.size W (W.alloc (.cells #[.pointer none, .slice none 0 0] 65)) := (Below.refl _ W).alloc (Nat.le_refl _) _
    refine Tr.elemC d W.heap.size W.heap.size E va vk [] [] _ (hT.keep (fun k hk => (A1.block k (Nat.lt_of_lt_of_le hk hb.size)).trans (hb.block k hk)) fun k hk => Nat.lt_of_lt_of_le hk hb.size) hR hw A1.size (Tr.esc_below (Tr.esc_below hE hb (Tr.esc_pos hE)) A1 (Nat.lt_of_lt_of_le (Tr.esc_pos hE) hb.size)) (Nat.lt_of_lt_of_le (Tr.esc_pos hE) hb.size) ?_ (.inl rfl) (by simp)
    exact .inl ⟨Nat.le_refl _, _, heap_alloc_new W _, World.ownsRowF_nil _ _ _ _, by simp [Value.ownBlock]⟩
  obtain ⟨tl, htl⟩ : ∃ x, (decide (24 < E.depth) || E.wideB) = x := ⟨_, rfl⟩
  obtain ⟨r, hr⟩ : ∃ x, E.writeR = x := ⟨_, rfl⟩
  rw [htl] at h1
  rw [hr]
  have H1 : Hid _ := h1
  have H2 : Hid _ := h2
  have HA : Hid (Below w.heap.size w w0) := A0
  have HTL : Hid ((decide (24 < E.depth) || E.wideB) = tl ∧ E.writeR = r) := ⟨htl, hr⟩
  have HW0 : Hid _ := hw0
  obtain ⟨nm, hnm⟩ : ∃ x, E.name = x := ⟨_, rfl⟩
  obtain ⟨tx, htx⟩ : ∃ x, E.text = x := ⟨_, rfl⟩
  obtain ⟨aa, ca, ak, ck, rfl, rfl⟩ := hT.shape
  rw [hnm, htx] at H1 H2 HW0 N0
  rw [hnm, htx]
  have hu := Tryd.underlying25
  have HN : Hid _ := N0
  clear h1 h2 htl hr hT hR hw hE hw0 A0 hnm htx hcn
  go_enter Tryd.func10, Tryd.ntmps10
  go_upto_region 1 with fail
  rw [HW0.out]
  go_wp2_with (first | (refine wpList_load_row rfl 25 _ rfl _ rfl 25 _ (0, 0) _ N0 hu rfl (by kernel_rfl) ?_) | fail)
  refine Calls.mono H1.out ?_
  rintro e W1 ⟨rfl, b1⟩
  have B1 : Hid (Below w.heap.size w W1) := HA.out.trans (b1.mono HA.out.size)
  have N1 := (b1.block _ (Array.getElem?_eq_some_iff.1 N0).1).trans N0
  clear b1 H1 N0
  cases tl
  rotate_left
  · have HF : Hid (r = (⟨#[]⟩, 2)) := by
      show _ = _
      rw [← HTL.out.2]
      unfold El.writeR
      rw [if_pos (by have := HTL.out.1; simpa using this)]
    clear N1
    go_wp2
    go_ret2
    exact ⟨by rw [HF.out]; rfl, B1.out⟩
  · have hok : Hid (E.writeR = if E.formB = false then (⟨#[]⟩, 4) else if 20000 < E.textL.length then (⟨#[]⟩, 5) else (⟨E.textL.toArray⟩, 0)) := by
      show _ = _
      unfold El.writeR
      rw [if_neg (by have := HTL.out.1; simpa using this)]
    obtain ⟨W2, hW2⟩ : ∃ x, W1.alloc (.cells #[.pointer none, .slice none 0 0] 65) = x := ⟨_, rfl⟩
    have A2 : Below W1.heap.size W1 W2 := by rw [← hW2]; exact (Below.refl _ W1).alloc (Nat.le_refl _) _
    have B2 : Hid (Below w.heap.size w W2) := B1.out.trans (A2.mono B1.out.size)
    have N2 := (A2.block _ (Array.getElem?_eq_some_iff.1 N1).1).trans N1
    have HW2 : Hid _ := hW2
    have hcall := H2.out W1 B1.out
    rw [hW2] at hcall
    have HC : Hid _ := hcall
    have hz1 := B1.out.size
    clear hW2 A2 hcall H2 N1
    go_upto_region 4 with fail
    rw [HW2.out]
    go_wp2_with (first | (refine wpList_load_row rfl 25 _ rfl _ rfl 25 _ (0, 0) _ N2 hu rfl (by kernel_rfl) ?_) | fail)
    refine Calls.mono HC.out ?_
    rintro e W3 ⟨b3, _, h3⟩
    have B3 : Hid (Below w.heap.size w W3) := B2.out.trans (b3.mono hz1)
    rcases h3 with ⟨hf, rfl, l, hw3, hm3, _⟩ | ⟨hf, rfl⟩
    · have H3 : Hid (E.formB = true ∧ Tr.Wr W1.heap.size W1.heap.size l W3 ∧ Tr.Meant l E.textL) := ⟨hf, hw3, hm3⟩
      clear b3 HC N2 HW2 hf hw3 hm3
      cases hfl : decide ((20000 : Int) < l.length)
      · have hle : ¬ 20000 < l.length := by have := of_decide_eq_false hfl; omega
        have hlt : l = E.textL := H3.out.2.2.resolve_right fun h => hle h.1
        have hne : l ≠ [] := by rw [hlt]; exact El.textL_ne E
        have HF : Hid (r = (⟨l.toArray⟩, 0)) := by
          show _ = _
          rw [← HTL.out.2, hok.out, if_neg (by rw [H3.out.1]; decide), if_neg (by rw [← hlt]; exact hle), hlt]
        have HNE : Hid (l ≠ []) := hne
        clear hlt hne hle
        go_wp2_with fail
        refine (Tryd.wfull W1.heap.size W1.heap.size l false _ (by exact H3.out.2.1) hfl).mono ?_
        rintro e W4 ⟨rfl, rfl⟩
        go_wp2_with fail
        refine (Tryd.wtext W1.heap.size W1.heap.size l _ (by exact H3.out.2.1) HNE.out).mono ?_
        rintro e W5 ⟨rfl, b5⟩
        have B5 : Hid (Below w.heap.size w W5) := B3.out.trans (b5.mono hz1)
        clear b5
        go_wp2
        go_ret2
        exact ⟨by rw [HF.out]; rfl, B5.out⟩
      · have hle : 20000 < l.length := by have := of_decide_eq_true hfl; omega
        have HF : Hid (r = (⟨#[]⟩, 5)) := by
          show _ = _
          rw [← HTL.out.2, hok.out, if_neg (by rw [H3.out.1]; decide), if_pos (by rcases H3.out.2.2 with h | h; rw [← h]; exact hle; exact h.2)]
        clear hle
        go_wp2_with fail
        refine (Tryd.wfull W1.heap.size W1.heap.size l true _ (by exact H3.out.2.1) hfl).mono ?_
        rintro e W4 ⟨rfl, rfl⟩
        clear hfl
        go_wp2
        go_ret2
        exact ⟨by rw [HF.out]; rfl, B3.out⟩
    · have HF : Hid (r = (⟨#[]⟩, 4)) := by
        show _ = _
        rw [← HTL.out.2, hok.out, if_pos hf]
      clear b3 HC N2 HW2 hf
      go_wp2
      go_ret2
      exact ⟨by rw [HF.out]; rfl, B3.out⟩

set_option maxHeartbeats 4000000 in
theorem Tryd.Check_any (d : Nat) (E : El) (va vk : Value) (w : World) (hT : El.Lies w (· < w.heap.size) d va vk E) (hR : E.Reach) (hw : E.weight ≤ 100000) (hE : Mk.Esc w) :
    Calls Tryd.prog 13 #[.agg #[.string E.name, va, vk, .string E.text]] w fun e w' => e = .returned (.int .i64 E.writeR.2) ∧ Below w.heap.size w w' := by
  obtain ⟨w0, hw0⟩ : ∃ x, w.alloc (.cells #[.string E.name, va, vk, .string E.text] 25) = x := ⟨_, rfl⟩
  have A0 : Below w.heap.size w w0 := by rw [← hw0]; exact (Below.refl _ w).alloc (Nat.le_refl _) _
  have N0 : w0.heap[w.heap.size]? = some (.cells #[.string E.name, va, vk, .string E.text] 25 (0, 0)) := by rw [← hw0]; exact heap_alloc_new w _
  have h1 := Tryd.Write_any d E va vk w0 (hT.keep (fun k hk => A0.block k hk) fun k hk => Nat.lt_of_lt_of_le hk A0.size) hR hw (Tr.esc_below hE A0 (Tr.esc_pos hE))
  obtain ⟨r, hr⟩ : ∃ x, E.writeR = x := ⟨_, rfl⟩
  rw [hr] at h1
  rw [hr]
  have H1 : Hid _ := h1
  have HA : Hid (Below w.heap.size w w0) := A0
  have HW0 : Hid _ := hw0
  obtain ⟨nm, hnm⟩ : ∃ x, E.name = x := ⟨_, rfl⟩
  obtain ⟨tx, htx⟩ : ∃ x, E.text = x := ⟨_, rfl⟩
  obtain ⟨aa, ca, ak, ck, rfl, rfl⟩ := hT.shape
  rw [hnm, htx] at H1 HW0 N0
  rw [hnm, htx]
  have hu := Tryd.underlying25
  clear h1 hr hT hR hw hE hw0 A0 hnm htx
  go_enter Tryd.func13, Tryd.ntmps13
  go_upto_region 1 with fail
  rw [HW0.out]
  go_wp2_with (first | (refine wpList_load_row rfl 25 _ rfl _ rfl 25 _ (0, 0) _ N0 hu rfl (by kernel_rfl) ?_) | fail)
  refine Calls.mono H1.out ?_
  rintro e W1 ⟨rfl, b1⟩
  have B1 : Hid (Below w.heap.size w W1) := HA.out.trans (b1.mono HA.out.size)
  clear b1 H1 N0
  go_wp2
  go_ret
  exact ⟨rfl, B1.out⟩

/-- The first attribute of a name. -/
def Tr.getL : List (ByteArray × ByteArray) → ByteArray → Option ByteArray
  | [], _ => none
  | a :: r, nm => if a.1 = nm then some a.2 else Tr.getL r nm
theorem Tr.getL_at : ∀ (xs : List (ByteArray × ByteArray)) (nm : ByteArray) (k : Nat) (h : k < xs.length), (∀ j (hj : j < xs.length), j < k → xs[j].1 ≠ nm) → xs[k].1 = nm → Tr.getL xs nm = some xs[k].2
  | [], _, k, h, _, _ => by simp at h
  | a :: r, nm, 0, h, _, he => by simp only [List.getElem_cons_zero] at he ⊢; simp [Tr.getL, he]
  | a :: r, nm, k + 1, h, hn, he => by
    have h0 : a.1 ≠ nm := hn 0 (by simp) (by omega)
    simp only [List.getElem_cons_succ] at he ⊢
    rw [Tr.getL, if_neg h0]
    exact Tr.getL_at r nm k (by simpa using h) (fun j hj hk => hn (j + 1) (by simpa using hj) (by omega)) he
theorem Tr.getL_none : ∀ (xs : List (ByteArray × ByteArray)) (nm : ByteArray), (∀ j (hj : j < xs.length), xs[j].1 ≠ nm) → Tr.getL xs nm = none
  | [], _, _ => rfl
  | a :: r, nm, hn => by
    have h0 : a.1 ≠ nm := hn 0 (by simp)
    rw [Tr.getL, if_neg h0]
    exact Tr.getL_none r nm fun j hj => hn (j + 1) (by simpa using hj)
def Tr.getV : Option ByteArray → Value
  | none => .tuple #[.string ⟨#[]⟩, .bool false]
  | some v => .tuple #[.string v, .bool true]

set_option maxHeartbeats 4000000 in
theorem Tryd.Get_any (nm tx : ByteArray) (va vk : Value) (xs : List (ByteArray × ByteArray)) (name : ByteArray) (w : World) (hA : Mk.AttrsAt w va xs) (hl : xs.length ≤ 1000000) (ak : Option Addr) (n ck : Nat) (hvk : vk = .slice ak n ck) :
    Calls Tryd.prog 17 #[.agg #[.string nm, va, vk, .string tx], .string name] w fun e w' => e = .returned (Tr.getV (Tr.getL xs name)) ∧ Below w.heap.size w w' := by
  obtain ⟨aa, ca, rfl⟩ := hA.shape
  subst hvk
  obtain ⟨o, ho⟩ : ∃ o, Tr.getL xs name = o := ⟨_, rfl⟩
  rw [ho]
  have HO : Hid (Tr.getL xs name = o) := ho
  obtain ⟨m, hm⟩ : ∃ m, xs.length = m := ⟨_, rfl⟩
  rw [hm]
  rw [hm] at hA hl
  have HM : Hid (xs.length = m) := hm
  have HA : Hid (Mk.AttrsAt w (.slice aa m ca) xs) := hA
  obtain ⟨w0, hw0⟩ : ∃ x, w.alloc (.cells #[.string nm, .slice aa m ca, .slice ak n ck, .string tx] 25) = x := ⟨_, rfl⟩
  have A0 : Hid (Below w.heap.size w w0) := by show Below _ _ _; rw [← hw0]; exact (Below.refl _ w).alloc (Nat.le_refl _) _
  have N0 : w0.heap[w.heap.size]? = some (.cells #[.string nm, .slice aa m ca, .slice ak n ck, .string tx] 25 (0, 0)) := by rw [← hw0]; exact heap_alloc_new w _
  have q1 : w0.cell? ⟨w.heap.size, 1, none⟩ = some (.slice aa m ca) := by simp [World.cell?, N0]
  have HW0 : Hid _ := hw0
  clear ho hm hA hw0 N0
  go_enter Tryd.func17, Tryd.ntmps17
  go_upto_region 1 with fail
  rw [HW0.out]
  go_wp2
  go_loopg [11] m (fun g i wr => ∃ j : Nat, g + j = m ∧ i = .int .i64 j ∧ Hid (Below w.heap.size w wr ∧ ∀ k (hk : k < xs.length), k < j → xs[k].1 ≠ name))
  case atStart => exact ⟨0, by omega, rfl, A0.out, fun k _ h => by omega⟩
  case round =>
    obtain ⟨j, hj, rfl, HJ⟩ := hrel
    clear q1
    by_cases hjn : j < m
    · have hd : decide ((j : Int) < m) = true := decide_eq_true (by omega)
      have hjk : j < xs.length := by rw [HM.out]; exact hjn
      obtain ⟨g, off, hav, hg, hc⟩ : ∃ g off, aa = some ⟨g, off, none⟩ ∧ g < w.heap.size ∧ (w.cell? ⟨g, off + j * 2, none⟩ = some (.string xs[j].1) ∧ w.cell? ⟨g, off + j * 2 + 1, none⟩ = some (.string xs[j].2)) := by
        rcases HA.out with ⟨a, c, _, h0⟩ | ⟨g, off, cap, hv, _, hg, hr⟩
        · rw [h0] at hjk; simp at hjk
        · obtain ⟨rfl, _, _⟩ := Value.slice.inj hv
          exact ⟨g, off, rfl, hg, hr j hjk⟩
      subst hav
      obtain ⟨x0, hx0⟩ : ∃ x, xs[j].1 = x := ⟨_, rfl⟩
      obtain ⟨x1, hx1⟩ : ∃ x, xs[j].2 = x := ⟨_, rfl⟩
      rw [hx0, hx1] at hc
      have k0 : wr.cell? ⟨g, off + j * 2, none⟩ = some (.string x0) := by rw [World.cell?_of_block (w := w) (HJ.out.1.block g hg)]; exact hc.1
      have k1 : wr.cell? ⟨g, off + j * 2 + 1, none⟩ = some (.string x1) := by rw [World.cell?_of_block (w := w) (HJ.out.1.block g hg)]; exact hc.2
      have HX : Hid (xs[j].1 = x0 ∧ xs[j].2 = x1) := ⟨hx0, hx1⟩
      have BA : Hid (Below w.heap.size w (wr.alloc (.cells #[.string x0, .string x1] 54))) := HJ.out.1.alloc HJ.out.1.size _
      have lg : g < wr.heap.size := Nat.lt_of_lt_of_le hg HJ.out.1.size
      clear hc hx0 hx1
      by_cases he : x0 = name
      · have ht := Mk.beq_of_eq he
        have HF : Hid (some x1 = o) := by show _ = _; rw [← HO.out, Tr.getL_at xs name j hjk HJ.out.2 (by rw [HX.out.1]; exact he), HX.out.2]
        clear he
        go_wp2
        go_ret2
        exact ⟨by rw [← HF.out]; rfl, BA.out⟩
      · have ht := Mk.beq_of_ne he
        have HE : Hid (x0 ≠ name) := he
        clear he
        go_wp2
        go_roundg (gk - 1)
        case measure => omega
        case rel => exact ⟨j + 1, by omega, by go_num, BA.out, fun k hk h => by
          by_cases e : k = j
          · subst e; rw [HX.out.1]; exact HE.out
          · exact HJ.out.2 k hk (by omega)⟩
    · have hd : decide ((j : Int) < m) = false := decide_eq_false (by omega)
      have HF : Hid (none = o) := by show _ = _; rw [← HO.out, Tr.getL_none xs name fun k hk => HJ.out.2 k hk (by have := HM.out; omega)]
      go_wp2
      go_ret2
      exact ⟨by rw [← HF.out]; rfl, HJ.out.1⟩

end Go.Proofs
