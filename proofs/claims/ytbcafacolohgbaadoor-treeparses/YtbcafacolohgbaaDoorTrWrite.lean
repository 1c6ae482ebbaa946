/-
  The contracts of the writer's elem, of tooLarge, tree.Write and tree.Check.
-/
import Derived.Test.YtbcafacolohgbaaDoorTrInside
namespace Go.Proofs
open Go.RowKit
open Go.Proofs.Mk

theorem Tr.form_split (E : El) : E.formB = (decide (E.headW.2 = 0) && Tr.restForm E) := by
  rw [El.formB_eq]
  unfold El.ownForm Tr.restForm
  simp only [Bool.and_assoc]
theorem Tr.text_split (E : El) (h : ¬ (E.kids = [] ∧ E.text.data.toList = [])) : E.textL = Tr.restText E := by
  rw [El.textL_eq, if_neg h]
  rfl

set_option maxHeartbeats 8000000 in
set_option maxRecDepth 20000 in
theorem Tr.elemC : ∀ d : Nat, Tr.ElemC d := by
  intro d
  induction d with
  | zero => intro B b E va vk l t w hT; exact hT.elim
  | succ d ih =>
    intro B b E va vk l t w hT hR hw hB hE h0 hW hM hl
    have hin := fun W (hb : Below w.heap.size w W) (hh : E.headW.2 = 0) => Tryd.winside d ih B b E va vk l t W (hT.keep (fun k hk => hb.block k (Nat.lt_of_lt_of_le hk hB)) fun _ h => h) hR hw (Nat.le_trans hB hb.size) (Tr.esc_below hE hb (Nat.lt_of_lt_of_le h0 hB)) h0 (hW.kept hb) hM hl hh
    have hat : Mk.AttrsAt w va E.attrs := hT.attrsP.at fun k hk => Nat.lt_of_lt_of_le hk hB
    obtain ⟨aa, ca, ak, ck, rfl, rfl⟩ := hT.shape
    have hwr := fun W (hb : Below w.heap.size w W) => Tryd.write_any 1 0 E.name ⟨#[]⟩ aa ca E.attrs W (Tr.esc_below hE hb (Nat.lt_of_lt_of_le h0 hB)) (hat.below hb) (by rw [El.reach_eq] at hR; unfold maxLen; omega)
      (fun j hj => by have h1 := El.attrsW_get E.attrs j hj; have h2 := E.weight_eq; omega) (by decide)
    have hsp := Tr.form_split E
    have hcs := Tr.head_cases E
    have htr := Tr.trim_head E
    change ∀ W, Below w.heap.size w W → Calls Tryd.prog 38 #[.agg #[.int .i64 1, .int .i64 0, .string E.name, .slice aa E.attrs.length ca, .string ⟨#[]⟩]] W fun e w' => e = .returned (.tuple #[.string E.headW.1, .int .i64 E.headW.2]) ∧ Below W.heap.size W w' at hwr
    obtain ⟨nm, hnm⟩ : ∃ x, E.name = x := ⟨_, rfl⟩
    obtain ⟨tx, htx⟩ : ∃ x, E.text = x := ⟨_, rfl⟩
    obtain ⟨hd, hhw⟩ : ∃ x, E.headW.1 = x := ⟨_, rfl⟩
    obtain ⟨he, hhe⟩ : ∃ x, E.headW.2 = x := ⟨_, rfl⟩
    obtain ⟨n, hn⟩ : ∃ n, E.kids.length = n := ⟨_, rfl⟩
    obtain ⟨m, hm⟩ : ∃ n, E.attrs.length = n := ⟨_, rfl⟩
    have HSP : Hid (E.formB = (decide (he = 0) && Tr.restForm E)) := by rw [hhe] at hsp; exact hsp
    have hmw : E.weight ≤ 100000 := hw
    have HCS : Hid ((he = 0 ∧ hd.size ≤ 700000 ∧ nm.size ≤ 24) ∨ he = 4) := by
      have h2 := E.weight_eq
      rcases hcs with ⟨a, _, b, c⟩ | ⟨a, _⟩
      · left; rw [hhe] at a; rw [hnm] at b; rw [hhw] at c; exact ⟨a, by omega, b⟩
      · right; rw [← hhe]; exact a
    have HTR : Hid (he = 0 → Lib.trimSuffix hd.data.toList [62] = hd.data.toList.dropLast) := by rw [hhw, hhe] at htr; exact htr
    rw [hnm, hhw, hhe, hm] at hwr
    rw [hnm, htx, hhw, hhe, hn, hm] at hin
    rw [hnm, htx, hn, hm]
    have HWR : Hid _ := hwr
    have HIN : Hid _ := hin
    have HD : Hid (E.name = nm ∧ E.text = tx ∧ E.headW.1 = hd ∧ E.kids.length = n ∧ B ≤ w.heap.size ∧ E.headW.2 = he) := ⟨hnm, htx, hhw, hn, hB, hhe⟩
    obtain ⟨w0, hw0⟩ : ∃ x, w.alloc (.cells #[.string nm, .slice aa m ca, .slice ak n ck, .string tx] 25) = x := ⟨_, rfl⟩
    have A0 : Hid (Below w.heap.size w w0) := by show Below _ _ _; rw [← hw0]; exact (Below.refl _ w).alloc (Nat.le_refl _) _
    have N0 : Hid (w0.heap[w.heap.size]? = some (.cells #[.string nm, .slice aa m ca, .slice ak n ck, .string tx] 25 (0, 0))) := by show _ = _; rw [← hw0]; exact heap_alloc_new w _
    have q0 : w0.cell? ⟨w.heap.size, 0, none⟩ = some (.string nm) := by have := N0.out; simp [World.cell?, this]
    have q1 : w0.cell? ⟨w.heap.size, 1, none⟩ = some (.slice aa m ca) := by have := N0.out; simp [World.cell?, this]
    have HW0 : Hid (w.alloc (.cells #[.string nm, .slice aa m ca, .slice ak n ck, .string tx] 25) = w0) := hw0
    have HWr : Hid (Tr.Wr B b l w) := hW
    have HM : Hid (Tr.Meant l t) := hM
    have hbw : b < w.heap.size := by rcases hW with h | h <;> exact h.lt
    have hu := Tryd.underlying25
    obtain ⟨fb, hfb⟩ : ∃ x, E.formB = x := ⟨_, rfl⟩
    obtain ⟨X, hX⟩ : ∃ x, E.textL = x := ⟨_, rfl⟩
    have HF : Hid (E.formB = fb ∧ E.textL = X) := ⟨hfb, hX⟩
    rw [hfb, hX]
    clear ih hT hR hw hE hW hM hin hwr hsp hcs htr hat hnm htx hhw hhe hn hm hw0 hmw hfb hX
    go_enter Tryd.func24, Tryd.ntmps24
    go_upto_region 1 with fail
    rw [HW0.out]
    go_wp2_with fail
    refine Calls.mono (HWR.out _ A0.out) ?_
    rintro e W1 ⟨rfl, b1⟩
    have B1 : Hid (Below w.heap.size w W1) := A0.out.trans (b1.mono A0.out.size)
    have N1 : Hid (W1.heap[w.heap.size]? = some (.cells #[.string nm, .slice aa m ca, .slice ak n ck, .string tx] 25 (0, 0))) := (b1.block _ (Array.getElem?_eq_some_iff.1 N0.out).1).trans N0.out
    have q2 : W1.cell? ⟨w.heap.size, 2, none⟩ = some (.slice ak n ck) := by have := N1.out; simp [World.cell?, this]
    have q3 : W1.cell? ⟨w.heap.size, 3, none⟩ = some (.string tx) := by have := N1.out; simp [World.cell?, this]
    clear b1 q0 q1
    rcases HCS.out with ⟨hz, hs1, hs2⟩ | hz
    rotate_left
    · have hff : Hid (fb = false) := by show _ = _; rw [← HF.out.1, HSP.out, hz]; rfl
      subst hz
      go_wp2
      go_ret
      exact ⟨B1.out.mono HD.out.2.2.2.2.1, Tr.others_of B1.out, .inr ⟨hff.out, rfl⟩⟩
    · subst hz
      by_cases hleaf : n = 0 ∧ tx.data.toList = []
      · obtain ⟨rfl, hte⟩ := hleaf
        have t2 : tx.toList.isEmpty = true := by rw [Lib.toList_data, hte]; rfl
        have hk0 : E.kids = [] := List.length_eq_zero_iff.1 HD.out.2.2.2.1
        have hff : Hid (fb = true ∧ X = hd.data.toList.dropLast ++ [47, 62]) := by
          have h := HD.out
          refine ⟨?_, ?_⟩
          · rw [← HF.out.1, HSP.out]
            unfold Tr.restForm
            rw [h.2.1, hte, hk0]
            rfl
          · rw [← HF.out.2, El.textL_eq, if_pos ⟨hk0, by rw [h.2.1]; exact hte⟩, h.2.2.1]
        have htrim := HTR.out rfl
        obtain ⟨ts, hts⟩ : ∃ s : ByteArray, (⟨(Lib.trimSuffix hd.data.toList [62]).toArray⟩ : ByteArray) = s := ⟨_, rfl⟩
        have HTS : Hid (ts.data.toList = hd.data.toList.dropLast) := by show _ = _; rw [← hts, ← htrim]
        have htl : ts.size ≤ 700000 := by
          have h1 := Mk.size_list ts
          rw [HTS.out, List.length_dropLast, Mk.size_list] at h1
          omega
        have HTRM : Hid (∀ W, Calls Tryd.prog 40 #[.string hd, .string ⟨#[62]⟩] W fun e w' => e = .returned (.string ts) ∧ w' = W) := fun W => by rw [← hts]; exact Tryd.trim_any hd ⟨#[62]⟩ W (by omega)
        obtain ⟨W2, hW2⟩ : ∃ x, W1.alloc (.cells #[.string ts, .string ⟨#[47, 62]⟩] 9) = x := ⟨_, rfl⟩
        have B2 : Hid (Below w.heap.size w W2) := by show Below _ _ _; rw [← hW2]; exact B1.out.alloc B1.out.size _
        have HP2 : Hid (W2.heap[W1.heap.size]? = some (.cells ([ts, ⟨#[47, 62]⟩].map fun p => Value.string p).toArray 9 (0, 0))) := by show _ = _; rw [← hW2]; exact heap_alloc_new W1 _
        have hz1 := B1.out.size
        have hcall := Tryd.wput B b W1.heap.size 1000000 [ts, ⟨#[47, 62]⟩] l W2 (HWr.out.kept B2.out) (by have := B2.out.size; omega) (by omega) (by omega) (by intro p hp; simp at hp; rcases hp with rfl | rfl; omega; decide) (by simp) (by omega) HP2.out
        have HCALL : Hid _ := hcall
        have HW2 : Hid _ := hW2
        clear hW2 hcall hts htrim hk0 hte
        go_wp2_with fail
        refine Calls.mono (HTRM.out _) ?_
        rintro e W1' ⟨rfl, rfl⟩
        go_wp2_with fail
        rw [HW2.out]
        refine Calls.mono HCALL.out ?_
        rintro e W3 ⟨rfl, h3, b3, o3⟩
        have H3 : Hid (Tr.Wr B b (Tr.putAll l ([ts, ⟨#[47, 62]⟩].map (·.data.toList))) W3 ∧ Below B w W3 ∧ Lib.OthersKept 5 (some b) w W3) := ⟨h3, (B2.out.mono hB).trans b3, (Tr.others_of B2.out).trans o3⟩
        clear h3 b3 o3 HCALL HW2
        go_wp2
        go_ret
        refine ⟨H3.out.2.1, H3.out.2.2, .inl ⟨hff.out.1, rfl, _, H3.out.1, ?_, ?_⟩⟩
        · rw [hff.out.2]
          have := Tr.Meant.putAll ([ts, ⟨#[47, 62]⟩].map (·.data.toList)) HM.out
          simpa [HTS.out] using this
        · refine Tr.putAll_le (M := 1000000) _ _ hl fun p hp => ?_
          simp only [List.map_cons, List.map_nil, List.mem_cons, List.not_mem_nil, or_false] at hp
          rcases hp with rfl | rfl
          · rw [Mk.size_list]; omega
          · decide
      · have hff : Hid (fb = Tr.restForm E ∧ X = Tr.restText E) := by
          refine ⟨?_, ?_⟩
          · rw [← HF.out.1, HSP.out]; rfl
          · rw [← HF.out.2]; exact Tr.text_split E fun h => hleaf ⟨by rw [← HD.out.2.2.2.1, h.1]; rfl, by rw [← HD.out.2.1]; exact h.2⟩
        have tst : (((n : Int) == 0) = false) ∨ (((n : Int) == 0) = true ∧ tx.toList.isEmpty = false) := by
          by_cases hz : n = 0
          · right
            refine ⟨beq_iff_eq.2 (by omega), ?_⟩
            rw [Lib.toList_data]
            have : tx.data.toList ≠ [] := fun h => hleaf ⟨hz, h⟩
            simpa using this
          · left; exact beq_eq_false_iff_ne.2 (by omega)
        have hcall := HIN.out W1 B1.out rfl
        have HCALL : Hid _ := hcall
        have hn1 := N1.out
        clear hleaf hcall
        rcases tst with t1 | ⟨t1, t2⟩
        all_goals
          go_wp2_with (first | (refine wpList_load_row rfl 25 _ rfl _ rfl 25 _ (0, 0) _ hn1 hu rfl (by kernel_rfl) ?_) | fail)
          refine Calls.mono HCALL.out ?_
          rintro e W3 ⟨b3, o3, h3⟩
          have H3 : Hid (Below B w W3 ∧ Lib.OthersKept 5 (some b) w W3) := ⟨(B1.out.mono hB).trans b3, (Tr.others_of B1.out).trans o3⟩
          rcases h3 with ⟨hok, rfl, l5, w5, m5, ll5⟩ | ⟨hok, rfl⟩
          · have H5 : Hid (Tr.restForm E = true ∧ Tr.Wr B b l5 W3 ∧ Tr.Meant l5 (t ++ Tr.restText E) ∧ l5.length ≤ 1020000) := ⟨hok, w5, m5, ll5⟩
            clear b3 o3 hok w5 m5 ll5 HCALL
            go_wp2
            go_ret
            exact ⟨H3.out.1, H3.out.2, .inl ⟨by rw [hff.out.1]; exact H5.out.1, rfl, l5, H5.out.2.1, by rw [hff.out.2]; exact H5.out.2.2.1, H5.out.2.2.2⟩⟩
          · have H5 : Hid (Tr.restForm E = false) := hok
            clear b3 o3 hok HCALL
            go_wp2
            go_ret
            exact ⟨H3.out.1, H3.out.2, .inr ⟨by rw [hff.out.1]; exact H5.out, rfl⟩⟩

end Go.Proofs
