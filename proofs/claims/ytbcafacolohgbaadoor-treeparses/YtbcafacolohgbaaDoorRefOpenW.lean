/-
  The walk of the document's open.
-/
import Derived.Test.YtbcafacolohgbaaDoorRefOpen
namespace Go.Proofs
open Go.RowKit
open Go.Proofs.Mk

set_option maxRecDepth 100000 in
set_option maxHeartbeats 8000000 in
theorem Tryd.refopen_any (s : ByteArray) (k : Nat) (nm : List UInt8) (w : World) (hnm : Mk.nameOf (s.data.toList.drop (k + 1)) = nm) (hk : k < s.size) (hs : s.size ≤ 20000) :
    Calls Tryd.prog 52 #[.string s, .int .i64 k] w fun e w' => Below w.heap.size w w' ∧ Mk.RefOpenEnd w s k nm e w' := by
  have hl : k + 1 + nm.length ≤ s.size := by
    have := tw_le (p := bofName) (s.data.toList.drop (k + 1))
    rw [List.length_drop, Mk.size_list] at this
    rw [← hnm]
    unfold Mk.nameOf
    omega
  have HNA : Hid (Mk.nameAt (s.data.toList.drop (k + 1)) = if nameL nm = true then some (nm, nm.length) else none) := by
    show _ = _
    unfold Mk.nameAt
    rw [hnm]
  clear hnm
  go_enter Tryd.func52, Tryd.ntmps52
  go_wp2_with fail
  refine (Tryd.refname_any s (k + 1) _ (by omega) hs).mono ?_
  rw [HNA.out]
  cases hn : nameL nm
  · rintro e W1 ⟨rfl, b1⟩
    have hR : Hid (∀ o, (W1.alloc o).heap[w.heap.size]? = some (.cells Mk.openZ 110 (0, 0))) := by
      intro o
      have z := b1.size
      rw [Lib.alloc_old _ _ _ (by simp at z; omega), b1.block _ (by simp)]
      exact heap_alloc_new w _
    have B1 : Below w.heap.size w W1 := ((Below.refl _ w).alloc (Nat.le_refl _) _).trans (b1.mono (by simp))
    simp only [Bool.false_eq_true, if_false, Mk.gotV]
    clear b1
    go_wp2_with (first | (refine wpList_store_row rfl 110 _ _ rfl w.heap.size _ rfl rfl 110 Mk.openZ (by exact (hR.out _)) (by kernel_rfl) rfl (by kernel_rfl) ?_))
    refine bodyPost_ret (v := .agg Mk.openBad) (results_cell_row Tryd.results52 _ _ w.heap.size 110 Mk.openBad (0, 0) _ rfl (setRow_heap _ _ _ _ _ _ (hR.out _)) Tryd.underlying110 rfl (by kernel_rfl)) rfl ⟨Mk.below_setRow (B1.alloc B1.size _) (Nat.le_refl _) _, ?_⟩
    unfold Mk.RefOpenEnd
    rw [if_pos hn]
  · rintro e W1 ⟨rfl, b1⟩
    simp only [if_true, Mk.gotV]
    have z1 : w.heap.size + 1 ≤ W1.heap.size := by have := b1.size; simpa using this
    have B1 : Below w.heap.size w W1 := ((Below.refl _ w).alloc (Nat.le_refl _) _).trans (b1.mono (by simp))
    have hR : Hid (W1.heap[w.heap.size]? = some (.cells Mk.openZ 110 (0, 0))) := by
      show _ = _
      rw [b1.block _ (by simp)]
      exact heap_alloc_new w _
    clear b1
    have hneg : decide ((k : Int) + 1 + nm.length < 0) = false := decide_eq_false (by omega)
    obtain ⟨i0, hi, hz0, hz1, hz2⟩ := info_parts Tryd.infoRAttr
    go_wp2
    go_loopg [7] (s.size - (k + 1 + nm.length)) (fun g i wr => ∃ (p : Nat) (xs : List (ByteArray × ByteArray)) (va : Value), k + 1 + nm.length ≤ p ∧ g + p = s.size ∧ i = .int .i64 p ∧ Mk.OS w (W1.heap.size + 1) k nm va xs wr ∧ Mk.unlikeB xs = true ∧ xs.length ≤ p ∧ (Mk.attrsL (s.data.toList.drop (k + 1 + nm.length)) = match Mk.attrsL (s.data.toList.drop p) with | none => none | some (r, d) => some (xs ++ r, (p - (k + 1 + nm.length)) + d)))
    case atStart =>
      refine ⟨k + 1 + nm.length, [], .slice none 0 0, Nat.le_refl _, by omega, by go_num, ⟨by omega, ?_, ?_, World.ownsRow_nil _ _ _ _, (B1.alloc B1.size _).alloc (by simp; omega) _⟩, by decide, by simp, ?_⟩
      · rw [Lib.alloc_old _ _ _ (by simp; omega), Lib.alloc_old _ _ _ (by omega)]
        exact hR.out
      · have := heap_alloc_new (W1.alloc (.cells #[.int .i64 ((k : Int) + 1 + nm.length), .string ⟨nm.toArray⟩] 107)) (.cells #[.int .i64 1, .int .i64 k, .string ⟨nm.toArray⟩, .slice none 0 0, .string ⟨#[]⟩] 86)
        simpa using this
      · cases Mk.attrsL (s.data.toList.drop (k + 1 + nm.length)) <;> simp
    case round =>
      obtain ⟨p, xs, va, hkp, hg, rfl, hos, hun, hxp, hrec⟩ := hrel
      have HOS : Hid (Mk.OS w (W1.heap.size + 1) k nm va xs wr) := hos
      have HC : Hid (Mk.attrsL (s.data.toList.drop (k + 1 + nm.length)) = match Mk.attrsL (s.data.toList.drop p) with | none => none | some (r, d) => some (xs ++ r, (p - (k + 1 + nm.length)) + d)) := hrec
      have hsz : W1.heap.size + 1 < wr.heap.size := hos.size
      obtain ⟨av, cv, hva⟩ := Mk.own_shape hos.own
      subst hva
      have HU : Hid (Mk.unlikeB xs = true) := hun
      clear hos hrec hun
      cases hpre : Lib.hasPrefix (s.data.toList.drop p) [32]
      · have HT : Hid (Mk.attrsL (s.data.toList.drop (k + 1 + nm.length)) = some (xs, p - (k + 1 + nm.length))) := by
          show _ = _
          rw [HC.out, Mk.attrsL_end hpre]; simp
        have HPQ : Hid (k + 1 + nm.length + (p - (k + 1 + nm.length)) = p) := show _ = _ by omega
        have hmk := HOS.out.mark
        have HMK : Hid (wr.heap[W1.heap.size + 1]? = some (.cells #[.int .i64 1, .int .i64 k, .string ⟨nm.toArray⟩, .slice av xs.length cv, .string ⟨#[]⟩] 86 (0, 0))) := hmk
        clear hmk
        have hu34 := Tryd.underlying86
        cases hp1 : Lib.hasPrefix (s.data.toList.drop p) [47, 62]
        · cases hp2 : Lib.hasPrefix (s.data.toList.drop p) [62]
          · go_wp2_with fail
            refine (Tryd.at_any _ _ p false _ (by omega) hs (by decide) hpre).mono ?_
            rintro e w' ⟨rfl, rfl⟩
            go_wp2_with fail
            refine (Tryd.at_any _ _ p false _ (by omega) hs (by decide) hp1).mono ?_
            rintro e w' ⟨rfl, rfl⟩
            go_wp2_with fail
            refine (Tryd.at_any _ _ p false _ (by omega) hs (by decide) hp2).mono ?_
            rintro e w' ⟨rfl, rfl⟩
            go_wp2_with (first | (refine wpList_store_row rfl 110 _ _ rfl w.heap.size _ rfl rfl 110 Mk.openZ (by exact HOS.out.res) (by kernel_rfl) rfl (by kernel_rfl) ?_))
            refine bodyPost_ret (v := .agg Mk.openBad) (results_cell_row Tryd.results52 _ _ w.heap.size 110 Mk.openBad (0, 0) _ rfl (setRow_heap _ _ _ _ _ _ HOS.out.res) Tryd.underlying110 rfl (by kernel_rfl)) rfl ⟨Mk.below_setRow HOS.out.below (Nat.le_refl _) _, ?_⟩
            unfold Mk.RefOpenEnd
            rw [if_neg (by rw [hn]; simp), HT.out]
            simp only
            rw [if_neg (by rw [HU.out]; simp), HPQ.out, if_neg (by rw [hp1]; simp), if_neg (by rw [hp2]; simp)]
            trivial
          · go_wp2_with fail
            refine (Tryd.at_any _ _ p false _ (by omega) hs (by decide) hpre).mono ?_
            rintro e w' ⟨rfl, rfl⟩
            go_wp2_with fail
            refine (Tryd.at_any _ _ p false _ (by omega) hs (by decide) hp1).mono ?_
            rintro e w' ⟨rfl, rfl⟩
            go_wp2_with fail
            refine (Tryd.at_any _ _ p true _ (by omega) hs (by decide) hp2).mono ?_
            rintro e w' ⟨rfl, rfl⟩
            go_wp2_with (first | (refine wpList_load_row rfl 86 _ rfl _ rfl 86 _ (0, 0) _ HMK.out hu34 rfl (by kernel_rfl) ?_) | (refine wpList_store_row rfl 110 _ _ rfl w.heap.size _ rfl rfl 110 Mk.openZ (by exact HOS.out.res) (by kernel_rfl) rfl (by kernel_rfl) ?_))
            refine bodyPost_ret (v := .agg #[.int .i64 1, .int .i64 k, .string ⟨nm.toArray⟩, .slice av xs.length cv, .string ⟨#[]⟩, .int .i64 ((p : Int) + 1), .bool false]) (results_cell_row Tryd.results52 _ _ w.heap.size 110 #[.int .i64 1, .int .i64 k, .string ⟨nm.toArray⟩, .slice av xs.length cv, .string ⟨#[]⟩, .int .i64 ((p : Int) + 1), .bool false] (0, 0) _ rfl (setRow_heap _ _ _ _ _ _ HOS.out.res) Tryd.underlying110 rfl (by kernel_rfl)) rfl ⟨Mk.below_setRow HOS.out.below (Nat.le_refl _) _, ?_⟩
            unfold Mk.RefOpenEnd
            rw [if_neg (by rw [hn]; simp), HT.out]
            simp only
            rw [if_neg (by rw [HU.out]; simp), HPQ.out, if_neg (by rw [hp1]; simp), if_pos hp2]
            exact ⟨_, rfl, Mk.own_base (Mk.own_setRow HOS.out.own (by omega) _) (by omega)⟩
        · go_wp2_with fail
          refine (Tryd.at_any _ _ p false _ (by omega) hs (by decide) hpre).mono ?_
          rintro e w' ⟨rfl, rfl⟩
          go_wp2_with fail
          refine (Tryd.at_any _ _ p true _ (by omega) hs (by decide) hp1).mono ?_
          rintro e w' ⟨rfl, rfl⟩
          go_wp2_with (first | (refine wpList_load_row rfl 86 _ rfl _ rfl 86 _ (0, 0) _ HMK.out hu34 rfl (by kernel_rfl) ?_) | (refine wpList_store_row rfl 110 _ _ rfl w.heap.size _ rfl rfl 110 Mk.openZ (by exact HOS.out.res) (by kernel_rfl) rfl (by kernel_rfl) ?_))
          refine bodyPost_ret (v := .agg #[.int .i64 1, .int .i64 k, .string ⟨nm.toArray⟩, .slice av xs.length cv, .string ⟨#[]⟩, .int .i64 ((p : Int) + 2), .bool true]) (results_cell_row Tryd.results52 _ _ w.heap.size 110 #[.int .i64 1, .int .i64 k, .string ⟨nm.toArray⟩, .slice av xs.length cv, .string ⟨#[]⟩, .int .i64 ((p : Int) + 2), .bool true] (0, 0) _ rfl (setRow_heap _ _ _ _ _ _ HOS.out.res) Tryd.underlying110 rfl (by kernel_rfl)) rfl ⟨Mk.below_setRow HOS.out.below (Nat.le_refl _) _, ?_⟩
          unfold Mk.RefOpenEnd
          rw [if_neg (by rw [hn]; simp), HT.out]
          simp only
          rw [if_neg (by rw [HU.out]; simp), HPQ.out, if_pos hp1]
          exact ⟨_, rfl, Mk.own_base (Mk.own_setRow HOS.out.own (by omega) _) (by omega)⟩
      · have hl1 : p + 1 ≤ s.size := Mk.drop_pre_bound hpre (by simp)
        obtain ⟨an, han⟩ : ∃ an, Mk.nameOf (s.data.toList.drop (p + 1)) = an := ⟨_, rfl⟩
        have hl2 : p + 1 + an.length ≤ s.size := by
          have := tw_le (p := bofName) (s.data.toList.drop (p + 1))
          rw [List.length_drop, Mk.size_list] at this
          rw [← han]
          unfold Mk.nameOf
          omega
        have HQ : Hid (Mk.attr1 (s.data.toList.drop p) = _) := Mk.attr1_eq (s.data.toList) p an han
        have HNB : Hid (Mk.nameAt (s.data.toList.drop (p + 1)) = if nameL an = true then some (an, an.length) else none) := by
          show _ = _
          unfold Mk.nameAt
          rw [han]
        clear han
        go_wp2_with fail
        refine (Tryd.at_any _ _ p true _ (by omega) hs (by decide) hpre).mono ?_
        rintro e w' ⟨rfl, rfl⟩
        go_wp2_with fail
        refine (Tryd.refname_any s (p + 1) _ hl1 hs).mono ?_
        rw [HNB.out]
        cases hna : nameL an
        · have HT : Hid (Mk.attrsL (s.data.toList.drop (k + 1 + nm.length)) = none) := by
            show _ = _
            rw [HC.out, Mk.attrsL_bad hpre (by rw [HQ.out, if_pos hna])]
          rintro e W3 ⟨rfl, b3⟩
          have O3 : Hid (Mk.OS w (W1.heap.size + 1) k nm (.slice av xs.length cv) xs W3) := HOS.out.step b3
          simp only [Bool.false_eq_true, if_false, Mk.gotV]
          clear b3
          go_wp2_with (first | (refine wpList_store_row rfl 110 _ _ rfl w.heap.size _ rfl rfl 110 Mk.openZ (by exact (O3.out.alloc _).res) (by kernel_rfl) rfl (by kernel_rfl) ?_))
          refine bodyPost_ret (v := .agg Mk.openBad) (results_cell_row Tryd.results52 _ _ w.heap.size 110 Mk.openBad (0, 0) _ rfl (setRow_heap _ _ _ _ _ _ (O3.out.alloc _).res) Tryd.underlying110 rfl (by kernel_rfl)) rfl ⟨Mk.below_setRow (O3.out.alloc _).below (Nat.le_refl _) _, ?_⟩
          unfold Mk.RefOpenEnd
          rw [if_neg (by rw [hn]; simp), HT.out]
        · rintro e W3 ⟨rfl, b3⟩
          have O3 : Hid (Mk.OS w (W1.heap.size + 1) k nm (.slice av xs.length cv) xs W3) := HOS.out.step b3
          have z3 : W1.heap.size + 1 < W3.heap.size := O3.out.size
          simp only [if_true, Mk.gotV]
          clear b3
          have hneg2 : decide ((p : Int) + 1 + an.length < 0) = false := decide_eq_false (by omega)
          cases hp2 : Lib.hasPrefix (s.data.toList.drop (p + 1 + an.length)) [61, 34]
          · have HT : Hid (Mk.attrsL (s.data.toList.drop (k + 1 + nm.length)) = none) := by
              show _ = _
              rw [HC.out, Mk.attrsL_bad hpre (by rw [HQ.out, if_neg (by rw [hna]; simp), if_pos hp2])]
            go_wp2_with fail
            refine (Tryd.at_any s _ (p + 1 + an.length) false _ hl2 hs (by decide) hp2).mono ?_
            rintro e w' ⟨rfl, rfl⟩
            go_wp2_with (first | (refine wpList_store_row rfl 110 _ _ rfl w.heap.size _ rfl rfl 110 Mk.openZ (by exact (O3.out.alloc _).res) (by kernel_rfl) rfl (by kernel_rfl) ?_))
            refine bodyPost_ret (v := .agg Mk.openBad) (results_cell_row Tryd.results52 _ _ w.heap.size 110 Mk.openBad (0, 0) _ rfl (setRow_heap _ _ _ _ _ _ (O3.out.alloc _).res) Tryd.underlying110 rfl (by kernel_rfl)) rfl ⟨Mk.below_setRow (O3.out.alloc _).below (Nat.le_refl _) _, ?_⟩
            unfold Mk.RefOpenEnd
            rw [if_neg (by rw [hn]; simp), HT.out]
          · have hl3 : p + 1 + an.length + 2 ≤ s.size := Mk.drop_pre_bound hp2 (by simp)
            go_wp2_with fail
            refine (Tryd.at_any s _ (p + 1 + an.length) true _ hl2 hs (by decide) hp2).mono ?_
            rintro e w' ⟨rfl, rfl⟩
            go_wp2_with fail
            refine (Tryd.reftext_any s (p + 1 + an.length + 2) 34 _ hl3 hs).mono ?_
            cases ht : Mk.textL 34 (s.data.toList.drop (p + 1 + an.length + 2)) with
            | none =>
              have HT : Hid (Mk.attrsL (s.data.toList.drop (k + 1 + nm.length)) = none) := by
                show _ = _
                rw [HC.out, Mk.attrsL_bad hpre (by rw [HQ.out, if_neg (by rw [hna]; simp), if_neg (by rw [hp2]; simp), ht])]
              rintro e W4 ⟨rfl, b4⟩
              have O4 : Hid (Mk.OS w (W1.heap.size + 1) k nm (.slice av xs.length cv) xs W4) := (O3.out.alloc _).step b4
              simp only [Mk.gotV]
              clear b4
              go_wp2_with (first | (refine wpList_store_row rfl 110 _ _ rfl w.heap.size _ rfl rfl 110 Mk.openZ (by exact (O4.out.alloc _).res) (by kernel_rfl) rfl (by kernel_rfl) ?_))
              refine bodyPost_ret (v := .agg Mk.openBad) (results_cell_row Tryd.results52 _ _ w.heap.size 110 Mk.openBad (0, 0) _ rfl (setRow_heap _ _ _ _ _ _ (O4.out.alloc _).res) Tryd.underlying110 rfl (by kernel_rfl)) rfl ⟨Mk.below_setRow (O4.out.alloc _).below (Nat.le_refl _) _, ?_⟩
              unfold Mk.RefOpenEnd
              rw [if_neg (by rw [hn]; simp), HT.out]
            | some q =>
              obtain ⟨vl, m⟩ := q
              have hthen := Mk.text_then ht (by rw [Mk.size_list]; exact hl3)
              rw [Mk.size_list] at hthen
              have hl4 : p + 1 + an.length + 2 + m ≤ s.size := by
                have := Mk.textL_le ht
                rw [List.length_drop, Mk.size_list] at this
                omega
              rintro e W4 ⟨rfl, b4⟩
              have O4 : Hid (Mk.OS w (W1.heap.size + 1) k nm (.slice av xs.length cv) xs W4) := (O3.out.alloc _).step b4
              simp only [Mk.gotV]
              have z4 : W3.heap.size + 1 ≤ W4.heap.size := by have := b4.size; simpa using this
              have hg4 : W4.heap[W3.heap.size]? = some (.cells #[.int .i64 ((p : Int) + 1 + an.length), .string ⟨an.toArray⟩] 107 (0, 0)) := by
                rw [b4.block _ (by simp)]
                exact heap_alloc_new W3 _
              have c8 : W4.cell? ⟨W3.heap.size, 1, none⟩ = some (.string ⟨an.toArray⟩) := by simp [World.cell?, hg4]
              have lt8 : W3.heap.size < W4.heap.size := by omega
              have ltb : W1.heap.size + 1 < W4.heap.size := by omega
              have cb : W4.cell? ⟨W1.heap.size + 1, 3, none⟩ = some (.slice av xs.length cv) := by
                have := O4.out.mark
                simp [World.cell?, this]
              have HG4 : Hid (W4.heap[W3.heap.size]? = some (.cells #[.int .i64 ((p : Int) + 1 + an.length), .string ⟨an.toArray⟩] 107 (0, 0))) := hg4
              clear b4 hg4
              have hneg3 : decide ((p : Int) + 1 + an.length + 2 + m < 0) = false := decide_eq_false (by omega)
              by_cases hlt : p + 1 + an.length + 2 + m < s.size
              · have hge : decide ((s.size : Int) ≤ (p : Int) + 1 + an.length + 2 + m) = false := decide_eq_false (by omega)
                have hp5 : Lib.hasPrefix (s.data.toList.drop (p + 1 + an.length + 2 + m)) [34] = true := by rw [hthen]; simpa using hlt
                have HA : Hid (Mk.attr1 (s.data.toList.drop p) = some ((⟨an.toArray⟩, ⟨vl.toArray⟩), 1 + an.length + 2 + m + 1)) := by
                  show _ = _
                  rw [HQ.out, if_neg (by rw [hna]; simp), if_neg (by rw [hp2]; simp), ht]
                  simp only
                  rw [if_neg (by rw [hp5]; simp)]
                clear hthen hp5
                have HST : Hid (Mk.attrsL (s.data.toList.drop (k + 1 + nm.length)) = match Mk.attrsL (s.data.toList.drop (p + 1 + an.length + 2 + m + 1)) with | none => none | some (r, d) => some ((xs ++ [(⟨an.toArray⟩, ⟨vl.toArray⟩)]) ++ r, (p + 1 + an.length + 2 + m + 1 - (k + 1 + nm.length)) + d)) := by
                  show _ = _
                  rw [HC.out, Mk.attrsL_step hpre HA.out, List.drop_drop]
                  rw [show p + (1 + an.length + 2 + m + 1) = p + 1 + an.length + 2 + m + 1 by omega]
                  cases Mk.attrsL (s.data.toList.drop (p + 1 + an.length + 2 + m + 1)) with
                  | none => rfl
                  | some q =>
                    obtain ⟨r, d⟩ := q
                    simp
                    omega
                go_wp2_with fail
                refine (Tryd.has_any _ xs ⟨an.toArray⟩ _ (by exact Mk.attrsAt_own (O4.out.alloc _).own) (by omega)).mono ?_
                rintro e W5 ⟨rfl, b5⟩
                have O5 : Hid (Mk.OS w (W1.heap.size + 1) k nm (.slice av xs.length cv) xs W5) := (O4.out.alloc _).step b5
                have z5 : W4.heap.size + 1 ≤ W5.heap.size := by have := b5.size; simpa using this
                cases hh : Mk.hasB xs ⟨an.toArray⟩
                · by_cases h64 : 64 ≤ xs.length
                  · have h64d : decide ((64 : Int) ≤ xs.length) = true := decide_eq_true (by omega)
                    have HD : Hid (Mk.hasB xs ⟨an.toArray⟩ = true ∨ 64 ≤ xs.length) := .inr h64
                    have HT : Hid (Mk.attrsL (s.data.toList.drop (k + 1 + nm.length)) = none ∨ ∃ r d, Mk.attrsL (s.data.toList.drop (k + 1 + nm.length)) = some (xs ++ (⟨an.toArray⟩, ⟨vl.toArray⟩) :: r, d)) := by
                      rw [HST.out]
                      cases Mk.attrsL (s.data.toList.drop (p + 1 + an.length + 2 + m + 1)) with
                      | none => exact .inl rfl
                      | some q => exact .inr ⟨q.1, (p + 1 + an.length + 2 + m + 1 - (k + 1 + nm.length)) + q.2, by simp⟩
                    have cb5 : W5.cell? ⟨W1.heap.size + 1, 3, none⟩ = some (.slice av xs.length cv) := by
                      have := O5.out.mark
                      simp [World.cell?, this]
                    clear b5
                    go_wp2_with (first | (refine wpList_store_row rfl 110 _ _ rfl w.heap.size _ rfl rfl 110 Mk.openZ (by exact O5.out.res) (by kernel_rfl) rfl (by kernel_rfl) ?_))
                    refine bodyPost_ret (v := .agg Mk.openBad) (results_cell_row Tryd.results52 _ _ w.heap.size 110 Mk.openBad (0, 0) _ rfl (setRow_heap _ _ _ _ _ _ O5.out.res) Tryd.underlying110 rfl (by kernel_rfl)) rfl ⟨Mk.below_setRow O5.out.below (Nat.le_refl _) _, ?_⟩
                    unfold Mk.RefOpenEnd
                    rw [if_neg (by rw [hn]; simp)]
                    rcases HT.out with h0 | ⟨r, d, h0⟩
                    · rw [h0]
                    · rw [h0]
                      simp only
                      rw [if_pos (Mk.unlike_more HD.out)]
                      trivial
                  · have h64d : decide ((64 : Int) ≤ xs.length) = false := decide_eq_false (by omega)
                    have hmk5 := O5.out.mark
                    have HMK : Hid (W5.heap[W1.heap.size + 1]? = some (.cells #[.int .i64 1, .int .i64 k, .string ⟨nm.toArray⟩, .slice av xs.length cv, .string ⟨#[]⟩] 86 (0, 0))) := hmk5
                    have cb5 : W5.cell? ⟨W1.heap.size + 1, 3, none⟩ = some (.slice av xs.length cv) := by simp [World.cell?, hmk5]
                    have fb5 : W5.frozen? ⟨W1.heap.size + 1, 3, none⟩ = false := by simp [World.frozen?, hmk5]
                    have ltb5 : W1.heap.size + 1 < W5.heap.size := by omega
                    have c85 : W5.cell? ⟨W3.heap.size, 1, none⟩ = some (.string ⟨an.toArray⟩) := by
                      rw [b5.cell (p := ⟨W3.heap.size, 1, none⟩) (by simp; omega), World.cell?_of_block (w := W4) (Lib.alloc_old _ _ _ (by omega))]
                      exact c8
                    have c90 : W5.cell? ⟨W4.heap.size, 0, none⟩ = some (.int .i64 ((p : Int) + 1 + an.length + 2 + m)) := by
                      rw [b5.cell (p := ⟨W4.heap.size, 0, none⟩) (by simp)]
                      simp
                    have c91 : W5.cell? ⟨W4.heap.size, 1, none⟩ = some (.string ⟨vl.toArray⟩) := by
                      rw [b5.cell (p := ⟨W4.heap.size, 1, none⟩) (by simp)]
                      simp
                    have hg9 : W5.heap[W4.heap.size]? = some (.cells #[.int .i64 ((p : Int) + 1 + an.length + 2 + m), .string ⟨vl.toArray⟩] 107 (0, 0)) := by
                      rw [b5.block _ (by simp)]
                      exact heap_alloc_new W4 _
                    have HG9 : Hid (W5.heap[W4.heap.size]? = some (.cells #[.int .i64 ((p : Int) + 1 + an.length + 2 + m), .string ⟨vl.toArray⟩] 107 (0, 0))) := hg9
                    clear hg9
                    have lt85 : W3.heap.size < W5.heap.size := by omega
                    have lt95 : W4.heap.size < W5.heap.size := by omega
                    have own5 := O5.out.own
                    have HU2 : Hid (Mk.unlikeB (xs ++ [(⟨an.toArray⟩, ⟨vl.toArray⟩)]) = true) := Mk.unlike_one HU.out hh (by omega)
                    clear b5 hmk5 cb c8
                    go_wp2_with (at_builtin; refine wpList_append_own _ rfl _ _ 36 rfl (W1.heap.size + 1 + 1) 69 i0 _ 2 32 Tryd.underlying36 hi hz0 hz1 hz2 rfl (by decide) _ _ _ rfl (own5.alloc _) ⟨W5.heap.size, 0, none⟩ 1 1 [.string ⟨an.toArray⟩, .string ⟨vl.toArray⟩] rfl rfl ?c1 ?c2 ?c3 ?c4 ?c5 ?_)
                    case c1 =>
                      intro j u hj
                      match j, hj with
                      | 0, hj => simp at hj; subst hj; simp [Addr.add]
                      | 1, hj => simp at hj; subst hj; simp [Addr.add]
                    case c2 => intro u hu; simp at hu; rcases hu with rfl | rfl <;> rfl
                    case c3 => unfold maxLen; omega
                    case c4 => omega
                    case c5 => simp; omega
                    intro v6 W6 O6 g6 _
                    obtain ⟨a6, c6, rfl⟩ := Mk.own_shape O6
                    have hrow := own5.lt
                    have z6 := g6.size
                    have ltb6 : W1.heap.size + 1 < W6.heap.size := by simp at z6; omega
                    have hmk6 : W6.heap[W1.heap.size + 1]? = some (.cells #[.int .i64 1, .int .i64 k, .string ⟨nm.toArray⟩, .slice av xs.length cv, .string ⟨#[]⟩] 86 (0, 0)) := by
                      rw [g6.block _ (by simp; omega) (by intro e; have := (hrow _ e.symm).1; omega), Lib.alloc_old _ _ _ (by omega)]
                      exact HMK.out
                    have hrs6 : W6.heap[w.heap.size]? = some (.cells Mk.openZ 110 (0, 0)) := by
                      have hlt5 := O5.out.lt
                      rw [g6.block _ (by simp; omega) (by intro e; have := (hrow _ e.symm).1; omega), Lib.alloc_old _ _ _ (by omega)]
                      exact O5.out.res
                    have B6 : Below w.heap.size w W6 := by
                      have hlt5 := O5.out.lt
                      exact ((O5.out.alloc _).below).trans ⟨g6.os, g6.tape, g6.output, g6.size, fun j hj => g6.block j (by simp; omega) (by intro e; have := (hrow _ e.symm).1; omega)⟩
                    have c66 : W6.cell? ⟨W1.heap.size + 1, 3, none⟩ = some (.slice av xs.length cv) := by simp [World.cell?, hmk6]
                    have f66 : W6.frozen? ⟨W1.heap.size + 1, 3, none⟩ = false := by simp [World.frozen?, hmk6]
                    have c96 : W6.cell? ⟨W4.heap.size, 0, none⟩ = some (.int .i64 ((p : Int) + 1 + an.length + 2 + m)) := by
                      rw [World.cell?_of_block (w := W5) (a := ⟨W4.heap.size, 0, none⟩) ((g6.block _ (by simp; omega) (Mk.row_ne own5 HG9.out (by decide))).trans (Lib.alloc_old _ _ _ (by omega)))]
                      exact c90
                    have HM6 : Hid (W6.heap[W1.heap.size + 1]? = some (.cells #[.int .i64 1, .int .i64 k, .string ⟨nm.toArray⟩, .slice av xs.length cv, .string ⟨#[]⟩] 86 (0, 0))) := hmk6
                    have HS6 : Hid (W6.heap[w.heap.size]? = some (.cells Mk.openZ 110 (0, 0))) := hrs6
                    have HO6 : Hid (W6.ownsRow (W1.heap.size + 1 + 1) 69 2 (.slice a6 (xs.length + 1) c6) (xs.length + 1) (Mk.attrCells xs ++ [.string ⟨an.toArray⟩, .string ⟨vl.toArray⟩])) := O6
                    clear hmk6 hrs6 O6 own5 hrow g6
                    go_wp2
                    go_roundg (gk - (an.length + m + 4))
                    case measure => omega
                    case rel =>
                      refine ⟨p + 1 + an.length + 2 + m + 1, xs ++ [(⟨an.toArray⟩, ⟨vl.toArray⟩)], .slice a6 (xs.length + 1) c6, by omega, by omega, by go_num, ⟨by omega, ?_, ?_, ?_, B6.setCell (by show _ ≤ W1.heap.size + 1; omega) _⟩, HU2.out, by simp; omega, HST.out⟩
                      · rw [Below.heap_setCell _ _ _ _ (by show _ ≠ W1.heap.size + 1; omega)]
                        exact HS6.out
                      · simp [World.setCell, Array.getElem?_modify, HM6.out]
                      · rw [Mk.attrCells_append, List.length_append]
                        exact ownsRow_setCell_below HO6.out (by show W1.heap.size + 1 < _; omega) _
                · have HD : Hid (Mk.hasB xs ⟨an.toArray⟩ = true ∨ 64 ≤ xs.length) := .inl hh
                  have HT : Hid (Mk.attrsL (s.data.toList.drop (k + 1 + nm.length)) = none ∨ ∃ r d, Mk.attrsL (s.data.toList.drop (k + 1 + nm.length)) = some (xs ++ (⟨an.toArray⟩, ⟨vl.toArray⟩) :: r, d)) := by
                    rw [HST.out]
                    cases Mk.attrsL (s.data.toList.drop (p + 1 + an.length + 2 + m + 1)) with
                    | none => exact .inl rfl
                    | some q => exact .inr ⟨q.1, (p + 1 + an.length + 2 + m + 1 - (k + 1 + nm.length)) + q.2, by simp⟩
                  clear b5
                  go_wp2_with (first | (refine wpList_store_row rfl 110 _ _ rfl w.heap.size _ rfl rfl 110 Mk.openZ (by exact O5.out.res) (by kernel_rfl) rfl (by kernel_rfl) ?_))
                  refine bodyPost_ret (v := .agg Mk.openBad) (results_cell_row Tryd.results52 _ _ w.heap.size 110 Mk.openBad (0, 0) _ rfl (setRow_heap _ _ _ _ _ _ O5.out.res) Tryd.underlying110 rfl (by kernel_rfl)) rfl ⟨Mk.below_setRow O5.out.below (Nat.le_refl _) _, ?_⟩
                  unfold Mk.RefOpenEnd
                  rw [if_neg (by rw [hn]; simp)]
                  rcases HT.out with h0 | ⟨r, d, h0⟩
                  · rw [h0]
                  · rw [h0]
                    simp only
                    rw [if_pos (Mk.unlike_more HD.out)]
                    trivial
              · have hge : decide ((s.size : Int) ≤ (p : Int) + 1 + an.length + 2 + m) = true := decide_eq_true (by omega)
                have hp5 : Lib.hasPrefix (s.data.toList.drop (p + 1 + an.length + 2 + m)) [34] = false := by rw [hthen]; simpa using hlt
                have HT : Hid (Mk.attrsL (s.data.toList.drop (k + 1 + nm.length)) = none) := by
                  show _ = _
                  rw [HC.out, Mk.attrsL_bad hpre (by rw [HQ.out, if_neg (by rw [hna]; simp), if_neg (by rw [hp2]; simp), ht]; simp only; rw [if_pos hp5])]
                clear hthen
                go_wp2_with (first | (refine wpList_store_row rfl 110 _ _ rfl w.heap.size _ rfl rfl 110 Mk.openZ (by exact (O4.out.alloc _).res) (by kernel_rfl) rfl (by kernel_rfl) ?_))
                refine bodyPost_ret (v := .agg Mk.openBad) (results_cell_row Tryd.results52 _ _ w.heap.size 110 Mk.openBad (0, 0) _ rfl (setRow_heap _ _ _ _ _ _ (O4.out.alloc _).res) Tryd.underlying110 rfl (by kernel_rfl)) rfl ⟨Mk.below_setRow (O4.out.alloc _).below (Nat.le_refl _) _, ?_⟩
                unfold Mk.RefOpenEnd
                rw [if_neg (by rw [hn]; simp), HT.out]

end Go.Proofs
