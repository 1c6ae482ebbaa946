/-
  The contract of the document's Write at opening marks, and at any mark.
-/
import Derived.Test.YtcnhmooogcgglaaDoorRefWrite
namespace Go.Proofs
open Go.RowKit
open Go.Proofs.Mk

theorem Tryd.has_take (g off cap k : Nat) (xs : List (ByteArray × ByteArray)) (nm : ByteArray) (w : World) (hk : k ≤ xs.length) (hcap : xs.length ≤ cap) (hg : g < w.heap.size) (hlen : xs.length ≤ 64)
    (hr : ∀ j (h : j < xs.length), w.cell? ⟨g, off + j * 2, none⟩ = some (.string xs[j].1) ∧ w.cell? ⟨g, off + j * 2 + 1, none⟩ = some (.string xs[j].2)) :
    Calls Tryd.prog 82 #[.slice (some ⟨g, off, none⟩) k cap, .string nm] w fun e w' => e = .returned (.bool (Mk.hasB (xs.take k) nm)) ∧ Below w.heap.size w w' := by
  have hl : (xs.take k).length = k := by rw [List.length_take]; omega
  have h := Tryd.has_some g off cap (xs.take k) nm w (by omega) hg (by omega) (fun j hj => by
    rw [List.getElem_take]
    exact hr j (by omega))
  rw [hl] at h
  exact h

theorem Mk.hasB_of_apart {xs : List (ByteArray × ByteArray)} {k : Nat} (hk : k < xs.length) (h : Mk.hasB (xs.take k) xs[k].1 = true) : Mk.unlikeB xs = false := by
  simp only [Mk.hasB, List.any_eq_true, decide_eq_true_eq] at h
  obtain ⟨y, hy, he⟩ := h
  obtain ⟨j, hj, rfl⟩ := List.getElem_of_mem hy
  have hj' : j < k := by rw [List.length_take] at hj; omega
  rw [List.getElem_take] at he
  simp only [Mk.unlikeB, Bool.and_eq_false_iff, decide_eq_false_iff_not]
  exact .inr (Mk.not_nodup hk hj' he.symm)
theorem Mk.apart_snoc {xs : List (ByteArray × ByteArray)} {k : Nat} (hk : k < xs.length) (h : Mk.hasB (xs.take k) xs[k].1 = false) (ha : Mk.Apart xs k) : Mk.Apart xs (k + 1) := by
  intro i j hi hik hj
  by_cases e : i = k
  · subst e
    intro he
    rw [Mk.hasB_true (k := j) (by rw [List.length_take]; omega) (by rw [List.getElem_take]; exact he.symm)] at h
    cases h
  · exact ha i j hi (by omega) hj

set_option maxHeartbeats 4000000 in
theorem Tryd.refWrite_open (at_ : Int) (nm tx : ByteArray) (a : Option Addr) (c : Nat) (xs : List (ByteArray × ByteArray)) (w : World) (hA : Mk.AttrsAt w (.slice a xs.length c) xs) (hs : nm.size ≤ maxLen)
    (hv : ∀ j (h : j < xs.length), xs[j].1.size ≤ 1000000 ∧ xs[j].2.size ≤ 1000000) :
    Calls Tryd.prog 60 #[.agg #[.int .i64 1, .int .i64 at_, .string nm, .slice a xs.length c, .string tx]] w fun e w' =>
      e = .returned (.tuple #[.string (Mk.wOpen nm tx xs).1, .int .i64 (Mk.wOpen nm tx xs).2]) ∧ Below w.heap.size w w' := by
  obtain ⟨r, hr⟩ : ∃ r, Mk.wOpen nm tx xs = r := ⟨_, rfl⟩
  have HR : Hid (Mk.wOpen nm tx xs = r) := hr
  rw [hr]
  clear hr
  have B0 : Below w.heap.size w (w.alloc (.cells #[.int .i64 1, .int .i64 at_, .string nm, .slice a xs.length c, .string tx] 34)) := (Below.refl _ w).alloc (Nat.le_refl _) _
  have HN := Tryd.refName_any nm (w.alloc (.cells #[.int .i64 1, .int .i64 at_, .string nm, .slice a xs.length c, .string tx] 34)) hs
  have HV : Hid (∀ j (h : j < xs.length), xs[j].1.size ≤ 1000000 ∧ xs[j].2.size ≤ 1000000) := hv
  have HA : Hid (Mk.AttrsAt w (.slice a xs.length c) xs) := hA
  clear hv hA
  cases hn : nameL nm.data.toList
  · have HQ : Hid (r = (⟨#[]⟩, 4)) := by show _ = _; rw [← HR.out, Mk.wOpen, if_neg (by rw [hn]; simp)]
    go_enter Tryd.func60, Tryd.ntmps60
    go_wp2_with fail
    refine HN.mono ?_
    rintro e W1 ⟨rfl, rfl⟩
    go_wp2
    go_ret2
    exact ⟨by rw [HQ.out]; rfl, B0⟩
  · have hnm : nm.size ≤ 24 := ((nameL_iff _).1 hn).1.2
    by_cases ht : tx = ⟨#[]⟩
    · have hb : tx.toList.isEmpty = true := Mk.empty_yes ht
      have HT : Hid (tx = ⟨#[]⟩) := ht
      clear ht
      by_cases h64 : xs.length ≤ 64
      · have hd64 : decide ((64 : Int) < xs.length) = false := decide_eq_false (by omega)
        go_enter Tryd.func60, Tryd.ntmps60
        go_wp2_with fail
        refine HN.mono ?_
        rintro e W1 ⟨rfl, rfl⟩
        clear HN
        go_wp2
        go_loopg [4, 78] xs.length (fun n o i wr => ∃ (k : Nat) (acc : ByteArray), n + k = xs.length ∧ i = .int .i64 k ∧ o = .string acc ∧ Hid (acc.data.toList = Mk.openW nm (xs.take k)) ∧ Below (w.heap.size + 1) (w.alloc (.cells #[.int .i64 1, .int .i64 at_, .string nm, .slice a xs.length c, .string tx] 34)) wr ∧ Hid ((xs.take k).all Mk.okA = true) ∧ Hid (Mk.Apart xs k) ∧ acc.size ≤ 25 + k * 7000100)
        case atStart =>
          refine ⟨0, ⟨#[60]⟩ ++ nm, by omega, rfl, rfl, ?_, Below.refl _ _, ?_, ?_, ?_⟩
          · show _ = _
            simp [Mk.openW, Mk.attrsW, ByteArray.data_append]
          · show _ = _
            simp
          · intro i j hi hk
            omega
          · rw [Mk.size_append]
            have : (⟨#[60]⟩ : ByteArray).size = 1 := rfl
            omega
        case round =>
          obtain ⟨k, acc, hk, rfl, rfl, HC, hb0, HO, HP, hacc⟩ := hrel
          have hbw : Below w.heap.size w wr := B0.trans (hb0.mono (by omega))
          have hz : w.heap.size < wr.heap.size := by have := hb0.size; simp at this; omega
          have c3 : wr.cell? ⟨w.heap.size, 3, none⟩ = some (.slice a xs.length c) := by
            rw [hb0.cell (p := ⟨w.heap.size, 3, none⟩) (by simp)]
            simp
          by_cases hkl : k < xs.length
          · have hd : decide ((k : Int) < xs.length) = true := decide_eq_true (by omega)
            obtain ⟨x1, hx1⟩ : ∃ x, xs[k].1 = x := ⟨_, rfl⟩
            obtain ⟨x2, hx2⟩ : ∃ x, xs[k].2 = x := ⟨_, rfl⟩
            obtain ⟨hs1, hs2⟩ := HV.out k hkl
            rw [hx1] at hs1
            rw [hx2] at hs2
            have HX1 : Hid (xs[k].1 = x1) := hx1
            have HX2 : Hid (xs[k].2 = x2) := hx2
            obtain ⟨g, off, rfl, hg, hcap, hq, HF⟩ : ∃ g off, a = some ⟨g, off, none⟩ ∧ g < w.heap.size ∧ xs.length ≤ c ∧ (w.cell? ⟨g, off + k * 2, none⟩ = some (.string x1) ∧ w.cell? ⟨g, off + k * 2 + 1, none⟩ = some (.string x2)) ∧ Hid (∀ j (h : j < xs.length), w.cell? ⟨g, off + j * 2, none⟩ = some (.string xs[j].1) ∧ w.cell? ⟨g, off + j * 2 + 1, none⟩ = some (.string xs[j].2)) := by
              rcases HA.out with ⟨_, _, _, h2⟩ | ⟨g, off, cap, hv, hcap, hg, hr⟩
              · rw [h2] at hkl; simp at hkl
              · have := hr k hkl
                rw [hx1, hx2] at this
                exact ⟨g, off, (Value.slice.inj hv).1, hg, by rw [(Value.slice.inj hv).2.2]; exact hcap, this, hr⟩
            have hc0 : wr.cell? ⟨g, off + k * 2, none⟩ = some (.string x1) := by rw [hbw.cell (p := ⟨g, off + k * 2, none⟩) hg]; exact hq.1
            have hc1 : wr.cell? ⟨g, off + k * 2 + 1, none⟩ = some (.string x2) := by rw [hbw.cell (p := ⟨g, off + k * 2 + 1, none⟩) hg]; exact hq.2
            clear hq hx1 hx2
            have hca : (wr.alloc (.cells #[.string x1, .string x2] 72)).cell? ⟨wr.heap.size, 0, none⟩ = some (.string x1) := by simp
            have bA : Below w.heap.size w (wr.alloc (.cells #[.string x1, .string x2] 72)) := hbw.alloc hbw.size _
            have bA0 : Below (w.heap.size + 1) (w.alloc (.cells #[.int .i64 1, .int .i64 at_, .string nm, .slice (some ⟨g, off, none⟩) xs.length c, .string tx] 34)) (wr.alloc (.cells #[.string x1, .string x2] 72)) := hb0.alloc (by omega) _
            have HF2 : Hid (∀ j (h : j < xs.length), (wr.alloc (.cells #[.string x1, .string x2] 72)).cell? ⟨g, off + j * 2, none⟩ = some (.string xs[j].1) ∧ (wr.alloc (.cells #[.string x1, .string x2] 72)).cell? ⟨g, off + j * 2 + 1, none⟩ = some (.string xs[j].2)) := by
              intro j h
              rw [bA.cell (p := ⟨g, off + j * 2, none⟩) hg, bA.cell (p := ⟨g, off + j * 2 + 1, none⟩) hg]
              exact HF.out j h
            clear HF
            go_wp2_with fail
            refine (Tryd.refEscape_any x2 _ (by omega)).mono ?_
            rintro e W4 ⟨he, rfl⟩
            cases hp : x2.data.toList.all bplain
            · rw [show Mk.escText x2.data.toList = [] by simp [Mk.escText, hp], show Mk.escErr x2.data.toList = 4 by simp [Mk.escErr, hp]] at he
              subst he
              have HQ : Hid (r = (⟨#[]⟩, 4)) := by
                show _ = _
                have := Mk.okA_no hkl (by simp [Mk.okA, HX2.out, hp])
                rw [← HR.out, Mk.wOpen, if_neg (by rw [this]; simp)]
              go_wp2
              go_quiet (fail)
              go_wp2
              go_ret2
              exact ⟨by rw [HQ.out]; rfl, Mk.below_drewN bA nq⟩
            · have hl6 := Mk.escF_len x2.data.toList
              have hl6' : (Mk.escF x2.data.toList).length ≤ 6000000 := by
                have : x2.data.toList.length = x2.size := rfl
                omega
              obtain ⟨vv, hvv⟩ : ∃ vv : ByteArray, vv = ⟨(Mk.escF x2.data.toList).toArray⟩ := ⟨_, rfl⟩
              have hvs : vv.size ≤ 6000000 := by rw [hvv]; exact hl6'
              have HVV : Hid (vv.data.toList = Mk.escF x2.data.toList) := by show _ = _; rw [hvv]
              rw [show Mk.escText x2.data.toList = Mk.escF x2.data.toList by simp [Mk.escText, hp], show Mk.escErr x2.data.toList = 0 by simp [Mk.escErr, hp], ← hvv] at he
              subst he
              clear hvv hl6 hl6'
              have hs1' : x1.size ≤ maxLen := by unfold maxLen; omega
              cases hn1 : nameL x1.data.toList
              · have HQ : Hid (r = (⟨#[]⟩, 4)) := by
                  show _ = _
                  have := Mk.okA_no hkl (by simp [Mk.okA, HX1.out, hn1])
                  rw [← HR.out, Mk.wOpen, if_neg (by rw [this]; simp)]
                have HNF : ∀ w, Calls Tryd.prog 81 #[.string x1] w fun e w' => e = .returned (.bool false) ∧ w' = w := fun w => by
                  have := Tryd.refName_any x1 w hs1'
                  rw [hn1] at this
                  exact this
                go_wp2
                go_quiet ((go_at_call 81; exact Calls.quiet_of_same (HNF _)))
                go_wp2
                go_ret2
                exact ⟨by rw [HQ.out]; rfl, Mk.below_drewN bA nq⟩
              · have hn24 : x1.size ≤ 24 := ((nameL_iff _).1 hn1).1.2
                obtain ⟨hh, hhe⟩ : ∃ b, Mk.hasB (xs.take k) x1 = b := ⟨_, rfl⟩
                have HH : Hid (Mk.hasB (xs.take k) x1 = hh) := hhe
                clear hhe
                have hkc : k ≤ c := by omega
                have bD : Below w.heap.size w (wr.alloc (.cells #[.string x1, .string x2] 72)).drew := bA.drew
                have bD0 := bA0.drew
                have zD : w.heap.size + 1 ≤ (wr.alloc (.cells #[.string x1, .string x2] 72)).drew.heap.size := by have := bD0.size; simpa using this
                go_wp2
                go_region_with (first | (go_at_call 81; refine (Tryd.refName_any x1 _ hs1').mono ?_; rintro e w' ⟨rfl, rfl⟩) | (go_at_call 82; refine (Tryd.has_take g off c k xs x1 _ (by omega) hcap (by exact Nat.lt_of_lt_of_le hg bA.size) h64 (by exact HF2.out)).mono ?_; rw [HH.out]; rintro e W5 ⟨rfl, b5⟩))
                all_goals
                  have hca5 : W5.cell? ⟨wr.heap.size, 0, none⟩ = some (.string x1) := by
                    rw [b5.cell (p := ⟨wr.heap.size, 0, none⟩) (by show wr.heap.size < (wr.alloc _).heap.size; simp)]
                    exact hca
                  have h5 : wr.heap.size < W5.heap.size := Nat.lt_of_lt_of_le (by show wr.heap.size < (wr.alloc _).heap.size; simp) b5.size
                  clear hca
                  cases hh
                  · have HS : Hid (Mk.openW nm (xs.take (k + 1)) = Mk.openW nm (xs.take k) ++ Mk.attrW (x1, x2)) := by
                      show _ = _
                      rw [Mk.openW_snoc nm xs k hkl, ← HX1.out, ← HX2.out]
                    have HO2 : Hid ((xs.take (k + 1)).all Mk.okA = true) := Mk.okA_snoc hkl HO.out (by simp [Mk.okA, HX1.out, HX2.out, hp, hn1])
                    have HP2 : Hid (Mk.Apart xs (k + 1)) := Mk.apart_snoc hkl (by rw [HX1.out]; exact HH.out) HP.out
                    clear HX1 HX2 HO HP HV HA hs1 hs2 HF2
                    go_wp2
                    go_roundg (gk - 1)
                    case measure => omega
                    case rel =>
                      refine ⟨k + 1, acc ++ ⟨#[32]⟩ ++ x1 ++ ⟨#[61, 34]⟩ ++ vv ++ ⟨#[34]⟩, by omega, by go_num, rfl, ?_, bD0.trans (b5.mono zD), HO2, HP2, ?_⟩
                      · show _ = _
                        rw [HS.out, ← HC.out]
                        simp [Mk.attrW, ByteArray.data_append, HVV.out]
                      · simp only [Mk.size_append]
                        have e1 : (⟨#[32]⟩ : ByteArray).size = 1 := rfl
                        have e2 : (⟨#[61, 34]⟩ : ByteArray).size = 2 := rfl
                        have e3 : (⟨#[34]⟩ : ByteArray).size = 1 := rfl
                        omega
                  · have HQ : Hid (r = (⟨#[]⟩, 4)) := by
                      show _ = _
                      have := Mk.hasB_of_apart hkl (by rw [HX1.out]; exact HH.out)
                      rw [← HR.out, Mk.wOpen, if_neg (by rw [this]; simp)]
                    go_wp2
                    go_ret2
                    exact ⟨by rw [HQ.out]; rfl, bD.trans (b5.mono (by omega))⟩
          · have hd : decide ((k : Int) < xs.length) = false := decide_eq_false (by omega)
            have htk : xs.take k = xs := List.take_of_length_le (by omega)
            have HQ : Hid (r = (acc ++ ⟨#[62]⟩, 0)) := by
              show _ = _
              have h4 := HO.out
              have h5 := HC.out
              rw [htk] at h4 h5
              have hu : Mk.unlikeB xs = true := by
                simp only [Mk.unlikeB, Bool.and_eq_true, decide_eq_true_eq]
                exact ⟨h64, Mk.nodup_of_apart xs (fun i j hi _ hj => HP.out i j hi (by omega) hj)⟩
              rw [← HR.out, Mk.wOpen, if_pos ⟨hn, HT.out, hu, h4⟩, ← h5]
              refine congrArg (·, 0) (Mk.str_ext ?_)
              simp [Lib.toList_data, ByteArray.data_append]
            clear htk HO HP HC
            go_wp2
            go_ret2
            exact ⟨by rw [HQ.out]; rfl, hbw⟩
      · have hd64 : decide ((64 : Int) < xs.length) = true := decide_eq_true (by omega)
        have HQ : Hid (r = (⟨#[]⟩, 4)) := by
          show _ = _
          rw [← HR.out, Mk.wOpen, if_neg (by intro h; have := h.2.2.1; simp [Mk.unlikeB, h64] at this)]
        go_enter Tryd.func60, Tryd.ntmps60
        go_wp2_with fail
        refine HN.mono ?_
        rintro e W1 ⟨rfl, rfl⟩
        go_wp2
        go_ret2
        exact ⟨by rw [HQ.out]; rfl, B0⟩
    · have HQ : Hid (r = (⟨#[]⟩, 4)) := by show _ = _; rw [← HR.out, Mk.wOpen, if_neg (by intro h; exact ht h.2.1)]
      have hb : tx.toList.isEmpty = false := Mk.empty_no ht
      clear ht
      go_enter Tryd.func60, Tryd.ntmps60
      go_wp2_with fail
      refine HN.mono ?_
      rintro e W1 ⟨rfl, rfl⟩
      go_wp2
      go_ret2
      exact ⟨by rw [HQ.out]; rfl, B0⟩

end Go.Proofs
