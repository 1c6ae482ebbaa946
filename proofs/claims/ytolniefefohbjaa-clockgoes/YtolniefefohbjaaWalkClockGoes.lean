/-
  The walk of ClockGoes.
-/
import Derived.Test.YtolniefefohbjaaCkTwo
namespace Go.Proofs.Ytolniefefohbjaa.ClockGoes
open Go.RowKit Go.Shelf

theorem set1 {after : Int} (h0 : 0 ≤ after) (h1 : after ≤ 1099511627776) : Ck.setE 0 [] 1 after = 0 ∧ Ck.setL 0 [] 1 after = [(1, after)] := by
  have t1 : Ck.time after = true := Ck.time_iff.2 ⟨h0, h1⟩
  have e : Ck.setE 0 [] 1 after = 0 := by
    unfold Ck.setE
    rw [if_neg (by rw [t1]; simp), if_neg (by simp [Ck.has]), if_neg (by simp), if_neg (by rw [Int.zero_add, t1]; decide)]
  refine ⟨e, ?_⟩
  unfold Ck.setL
  rw [if_pos e, Int.zero_add]
  exact Ck.sort_eq (List.Perm.refl _) (by simp)

set_option maxRecDepth 20000 in
set_option maxHeartbeats 4000000 in
theorem walk (after : Int) (a : Option Addr) (cp : Nat) (l : List Int) (w : World) (hl : Ck.Nums w w.heap.size a l) : Calls Try.prog 5 #[.int .i64 after, .slice a l.length cp] w fun e w' => e = .returned (.bool true) ∧ Below w.heap.size w w' := by
  have CN : Hid _ := Try.cNew_any w
  obtain ⟨c, hc⟩ : ∃ c, w.heap.size = c := ⟨_, rfl⟩
  rw [hc] at CN hl
  have HC : Hid (w.heap.size = c) := hc
  have C2 : Hid (∀ W : World, Calls Try.prog 9 #[] W fun e w' => e = .returned (.bool true) ∧ Below W.heap.size W w') := Try.two_any
  obtain ⟨n, hn⟩ : ∃ n, l.length = n := ⟨_, rfl⟩
  have HL : Hid (Ck.Nums w c a l ∧ l.length = n) := ⟨hl, hn⟩
  rw [hn]
  have HF : Hid (∀ (W1 W2 : World), Below c w W1 → Below W1.heap.size W1 W2 → Below w.heap.size w W2) := fun W1 W2 h1 h2 => by rw [hc]; exact h1.trans (h2.mono (hc ▸ h1.size))
  by_cases hr : 100 < n ∨ after < 0 ∨ 1099511627776 < after
  · clear hn hl hc
    by_cases h1 : 100 < n
    · have d0 : decide (100 < (n : Int)) = true := decide_eq_true (by omega)
      have d0' : decide (100 < n) = true := decide_eq_true h1
      clear hr h1
      go_enter Try.func5, Try.ntmps5
      go_wp2_with fail
      refine Calls.mono CN.out ?_
      rintro e W1 ⟨rfl, hb1, -⟩
      go_wp2_with fail
      refine Calls.mono (C2.out _) ?_
      rintro e W2 ⟨rfl, hb2⟩
      go_wp2
      go_ret
      exact ⟨rfl, HF.out _ _ hb1 hb2⟩
    · have d0 : decide (100 < (n : Int)) = false := decide_eq_false (by omega)
      have d0' : decide (100 < n) = false := decide_eq_false h1
      by_cases h2 : after < 0
      · have d1 : decide (after < 0) = true := decide_eq_true h2
        clear hr h1 h2
        go_enter Try.func5, Try.ntmps5
        go_wp2_with fail
        refine Calls.mono CN.out ?_
        rintro e W1 ⟨rfl, hb1, -⟩
        go_wp2_with fail
        refine Calls.mono (C2.out _) ?_
        rintro e W2 ⟨rfl, hb2⟩
        go_wp2
        go_ret
        exact ⟨rfl, HF.out _ _ hb1 hb2⟩
      · have d1 : decide (after < 0) = false := decide_eq_false h2
        have d2 : decide (1099511627776 < after) = true := decide_eq_true (by omega)
        clear hr h1 h2
        go_enter Try.func5, Try.ntmps5
        go_wp2_with fail
        refine Calls.mono CN.out ?_
        rintro e W1 ⟨rfl, hb1, -⟩
        go_wp2_with fail
        refine Calls.mono (C2.out _) ?_
        rintro e W2 ⟨rfl, hb2⟩
        go_wp2
        go_ret
        exact ⟨rfl, HF.out _ _ hb1 hb2⟩
  have d0 : decide (100 < (n : Int)) = false := decide_eq_false (by omega)
  have d0' : decide (100 < n) = false := decide_eq_false (by omega)
  have d1 : decide (after < 0) = false := decide_eq_false (by omega)
  have d2 : decide (1099511627776 < after) = false := decide_eq_false (by omega)
  have HR : Hid (0 ≤ after ∧ after ≤ 1099511627776) := by constructor <;> omega
  have hn100 : n ≤ 100 := by omega
  clear hr hn hl hc
  go_enter Try.func5, Try.ntmps5
  go_wp2_with fail
  refine Calls.mono CN.out ?_
  rintro e W1 ⟨rfl, hb1, h1⟩
  have CS := Try.cSet_any 1 after W1 h1 Ck.Ok.nil
  rw [(set1 HR.out.1 HR.out.2).1, (set1 HR.out.1 HR.out.2).2] at CS
  have HS : Hid _ := CS
  have H1 : Hid (Below c w W1 ∧ Ck.At c c (.slice none 0 0) 0 [] W1) := ⟨hb1, h1⟩
  clear hb1 h1 CN CS
  go_wp2_with fail
  refine Calls.mono HS.out ?_
  rintro e W2 ⟨rfl, v, h2, hg2, hb2⟩
  have ok2 : Ck.Ok 0 [(1, after)] := by rw [← (set1 HR.out.1 HR.out.2).2]; exact Ck.Ok.nil.set 1 after
  have H2 : Hid (Ck.Ok 0 [(1, after)] ∧ Below c w W2 ∧ Ck.At c c v 0 [(1, after)] W2) := ⟨ok2, H1.out.1.trans (H1.out.2.belowB hb2), h2⟩
  clear h2 hg2 hb2 ok2 HS H1
  go_wp2
  go_loopg [6, 8, 9, 10, 38] n (fun gk s6 _ _ _ s38 wr => ∃ (k : Nat) (went : Int), gk + k = n ∧ s38 = .int .i64 k ∧ s6 = .int .i64 went ∧ Hid (Ck.Ok went [(1, after)] ∧ Below c w wr ∧ Ck.At c c v went [(1, after)] wr))
  case atStart => exact ⟨0, 0, by omega, rfl, rfl, H2.out⟩
  case round =>
    obtain ⟨k, went, hk, rfl, rfl, HB⟩ := hrel
    by_cases hlt : k < n
    · have dl : decide ((k : Int) < n) = true := decide_eq_true (by omega)
      have hkl : k < l.length := by rw [HL.out.2]; exact hlt
      obtain ⟨g, off, rfl, hg, hx⟩ := HL.out.1 k hkl
      rw [← HB.out.2.1.cell (p := ⟨g, off + k, none⟩) hg] at hx
      obtain ⟨x, hxe⟩ : ∃ x, l[k] = x := ⟨_, rfl⟩
      rw [hxe] at hx
      have hk0 : (0 : Int) ≤ k := by omega
      have hlt' : (k : Int) < n := by omega
      have CT := Try.cTick_any x wr HB.out.2.2 HB.out.1
      obtain ⟨y, hy⟩ : ∃ y, Ck.tickN went x = y := ⟨_, rfl⟩
      obtain ⟨r, hre⟩ : ∃ r, Ck.tickE went x = r := ⟨_, rfl⟩
      have okY : Ck.Ok y [(1, after)] := by rw [← hy]; exact HB.out.1.tick x
      rw [hy, hre] at CT
      have HT : Hid _ := CT
      have HY : Hid (Ck.Ok y [(1, after)]) := okY
      have hyy : (if r = 0 then went + x else went) = y := by rw [← hy, ← hre]; rfl
      have hyb := okY.now
      clear CT hy hre okY hxe
      by_cases hr0 : r = 0
      · subst hr0
        rw [if_pos rfl] at hyy
        have hwr : IntKind.i64.wrap (went + x) = went + x := Go.IntWalk.i64_in _ (by omega)
        rw [hyy] at hwr
        have HYY := hyy
        by_cases hge : after ≤ y
        · have f1 : decide (after ≤ y) = true := decide_eq_true hge
          have e1 : Ck.left y after = 0 := by unfold Ck.left; omega
          have e2 : Ck.due y [(1, after)] = [1] := by simp [Ck.due, e1]
          have HE : Hid (Ck.left y after = 0 ∧ Ck.due y [(1, after)] = [1]) := ⟨e1, e2⟩
          clear e1 e2 hge hyb
          go_wp2_with fail
          refine Calls.mono HT.out ?_
          rintro e W3 ⟨rfl, h3, hb3⟩
          have CL : Hid _ := Try.cLeft_any 1 W3 h3 HY.out
          have H3 : Hid (Below c w W3 ∧ Ck.At c c v y [(1, after)] W3) := ⟨HB.out.2.1.trans (HB.out.2.2.belowT hb3), h3⟩
          clear h3 hb3
          go_wp2_with fail
          refine Calls.mono CL.out ?_
          rintro e W4 ⟨⟨z, b, rfl, hz⟩, hb4⟩
          obtain ⟨rfl, rfl⟩ : b = true ∧ z = 0 := by
            rcases hz with ⟨_, _, hno⟩ | ⟨hb, i, hi, _, hz⟩
            · exact absurd rfl (hno (1, after) (by simp))
            · have : i = 0 := by simp at hi; omega
              subst this
              exact ⟨hb, hz.trans HE.out.1⟩
          have h4 := H3.out.2.below hb4 (Nat.le_refl _)
          have CD := Try.cDue_any W4 h4 HY.out
          rw [HE.out.2] at CD
          have HD : Hid _ := CD
          have H4 : Hid (Below c w W4 ∧ Ck.At c c v y [(1, after)] W4) := ⟨H3.out.1.trans (hb4.mono (HC.out ▸ H3.out.1.size)), h4⟩
          clear h4 hb4 CD hz
          go_wp2_with fail
          refine Calls.mono HD.out ?_
          rintro e W5 ⟨u, rfl, own, hb5⟩
          obtain ⟨ua, uc, rfl⟩ := Ck.own_shape own
          have H5 : Hid (Ck.Ok y [(1, after)] ∧ Below c w W5 ∧ Ck.At c c v y [(1, after)] W5) := ⟨HY.out, H4.out.1.trans (hb5.mono (HC.out ▸ H4.out.1.size)), H4.out.2.below hb5 (Nat.le_refl _)⟩
          clear own hb5
          go_wp2
          go_roundg (gk - 1)
          case measure => omega
          case rel => exact ⟨k + 1, y, by omega, by go_num, rfl, H5.out⟩
        · have f1 : decide (after ≤ y) = false := decide_eq_false hge
          have e1 : Ck.left y after = after - y := by unfold Ck.left; omega
          have e2 : Ck.due y [(1, after)] = [] := by
            have : (Ck.left y after == 0) = false := by rw [e1]; simp; omega
            simp [Ck.due, this]
          have HE : Hid (Ck.left y after = after - y ∧ Ck.due y [(1, after)] = []) := ⟨e1, e2⟩
          have hwz : IntKind.i64.wrap (after - y) = after - y := Go.IntWalk.i64_in _ (by have := HR.out; omega)
          obtain ⟨q, hq⟩ : ∃ q, after - y = q := ⟨_, rfl⟩
          have g1 : (q == 0) = false := by simp; omega
          have g2 : decide (0 < q) = true := decide_eq_true (by omega)
          have g3 : 0 < q := by omega
          rw [hq] at hwz
          have HQ := hq
          clear e1 e2 hge hyb
          go_wp2_with fail
          refine Calls.mono HT.out ?_
          rintro e W3 ⟨rfl, h3, hb3⟩
          have CL : Hid _ := Try.cLeft_any 1 W3 h3 HY.out
          have H3 : Hid (Below c w W3 ∧ Ck.At c c v y [(1, after)] W3) := ⟨HB.out.2.1.trans (HB.out.2.2.belowT hb3), h3⟩
          clear h3 hb3
          go_wp2_with fail
          refine Calls.mono CL.out ?_
          rintro e W4 ⟨⟨z, b, rfl, hz⟩, hb4⟩
          obtain ⟨rfl, hzq⟩ : b = true ∧ q = z := by
            rcases hz with ⟨_, _, hno⟩ | ⟨hb, i, hi, _, hz⟩
            · exact absurd rfl (hno (1, after) (by simp))
            · have : i = 0 := by simp at hi; omega
              subst this
              exact ⟨hb, by rw [hz, ← hq]; exact HE.out.1.symm⟩
          obtain rfl := hzq.symm
          have h4 := H3.out.2.below hb4 (Nat.le_refl _)
          have CD := Try.cDue_any W4 h4 HY.out
          rw [HE.out.2] at CD
          have HD : Hid _ := CD
          have H4 : Hid (Below c w W4 ∧ Ck.At c c v y [(1, after)] W4) := ⟨H3.out.1.trans (hb4.mono (HC.out ▸ H3.out.1.size)), h4⟩
          clear h4 hb4 CD hz
          go_wp2_with fail
          refine Calls.mono HD.out ?_
          rintro e W5 ⟨u, rfl, own, hb5⟩
          obtain ⟨ua, uc, rfl⟩ := Ck.own_shape own
          have H5 : Hid (Ck.Ok y [(1, after)] ∧ Below c w W5 ∧ Ck.At c c v y [(1, after)] W5) := ⟨HY.out, H4.out.1.trans (hb5.mono (HC.out ▸ H4.out.1.size)), H4.out.2.below hb5 (Nat.le_refl _)⟩
          clear own hb5
          go_wp2
          go_roundg (gk - 1)
          case measure => omega
          case rel => exact ⟨k + 1, y, by omega, by go_num, rfl, H5.out⟩
      · rw [if_neg hr0] at hyy
        have fr : (r == 0) = false := by simp [hr0]
        obtain rfl := hyy
        clear hr0
        by_cases hge : after ≤ went
        · have f1 : decide (after ≤ went) = true := decide_eq_true hge
          have e1 : Ck.left went after = 0 := by unfold Ck.left; omega
          have e2 : Ck.due went [(1, after)] = [1] := by simp [Ck.due, e1]
          have HE : Hid (Ck.left went after = 0 ∧ Ck.due went [(1, after)] = [1]) := ⟨e1, e2⟩
          clear e1 e2 hge hyb
          go_wp2_with fail
          refine Calls.mono HT.out ?_
          rintro e W3 ⟨rfl, h3, hb3⟩
          have CL : Hid _ := Try.cLeft_any 1 W3 h3 HY.out
          have H3 : Hid (Below c w W3 ∧ Ck.At c c v went [(1, after)] W3) := ⟨HB.out.2.1.trans (HB.out.2.2.belowT hb3), h3⟩
          clear h3 hb3
          go_wp2_with fail
          refine Calls.mono CL.out ?_
          rintro e W4 ⟨⟨z, b, rfl, hz⟩, hb4⟩
          obtain ⟨rfl, rfl⟩ : b = true ∧ z = 0 := by
            rcases hz with ⟨_, _, hno⟩ | ⟨hb, i, hi, _, hz⟩
            · exact absurd rfl (hno (1, after) (by simp))
            · have : i = 0 := by simp at hi; omega
              subst this
              exact ⟨hb, hz.trans HE.out.1⟩
          have h4 := H3.out.2.below hb4 (Nat.le_refl _)
          have CD := Try.cDue_any W4 h4 HY.out
          rw [HE.out.2] at CD
          have HD : Hid _ := CD
          have H4 : Hid (Below c w W4 ∧ Ck.At c c v went [(1, after)] W4) := ⟨H3.out.1.trans (hb4.mono (HC.out ▸ H3.out.1.size)), h4⟩
          clear h4 hb4 CD hz
          go_wp2_with fail
          refine Calls.mono HD.out ?_
          rintro e W5 ⟨u, rfl, own, hb5⟩
          obtain ⟨ua, uc, rfl⟩ := Ck.own_shape own
          have H5 : Hid (Ck.Ok went [(1, after)] ∧ Below c w W5 ∧ Ck.At c c v went [(1, after)] W5) := ⟨HY.out, H4.out.1.trans (hb5.mono (HC.out ▸ H4.out.1.size)), H4.out.2.below hb5 (Nat.le_refl _)⟩
          clear own hb5
          go_wp2
          go_roundg (gk - 1)
          case measure => omega
          case rel => exact ⟨k + 1, went, by omega, by go_num, rfl, H5.out⟩
        · have f1 : decide (after ≤ went) = false := decide_eq_false hge
          have e1 : Ck.left went after = after - went := by unfold Ck.left; omega
          have e2 : Ck.due went [(1, after)] = [] := by
            have : (Ck.left went after == 0) = false := by rw [e1]; simp; omega
            simp [Ck.due, this]
          have HE : Hid (Ck.left went after = after - went ∧ Ck.due went [(1, after)] = []) := ⟨e1, e2⟩
          have hwz : IntKind.i64.wrap (after - went) = after - went := Go.IntWalk.i64_in _ (by have := HR.out; omega)
          obtain ⟨q, hq⟩ : ∃ q, after - went = q := ⟨_, rfl⟩
          have g1 : (q == 0) = false := by simp; omega
          have g2 : decide (0 < q) = true := decide_eq_true (by omega)
          have g3 : 0 < q := by omega
          rw [hq] at hwz
          have HQ := hq
          clear e1 e2 hge hyb
          go_wp2_with fail
          refine Calls.mono HT.out ?_
          rintro e W3 ⟨rfl, h3, hb3⟩
          have CL : Hid _ := Try.cLeft_any 1 W3 h3 HY.out
          have H3 : Hid (Below c w W3 ∧ Ck.At c c v went [(1, after)] W3) := ⟨HB.out.2.1.trans (HB.out.2.2.belowT hb3), h3⟩
          clear h3 hb3
          go_wp2_with fail
          refine Calls.mono CL.out ?_
          rintro e W4 ⟨⟨z, b, rfl, hz⟩, hb4⟩
          obtain ⟨rfl, hzq⟩ : b = true ∧ q = z := by
            rcases hz with ⟨_, _, hno⟩ | ⟨hb, i, hi, _, hz⟩
            · exact absurd rfl (hno (1, after) (by simp))
            · have : i = 0 := by simp at hi; omega
              subst this
              exact ⟨hb, by rw [hz, ← hq]; exact HE.out.1.symm⟩
          obtain rfl := hzq.symm
          have h4 := H3.out.2.below hb4 (Nat.le_refl _)
          have CD := Try.cDue_any W4 h4 HY.out
          rw [HE.out.2] at CD
          have HD : Hid _ := CD
          have H4 : Hid (Below c w W4 ∧ Ck.At c c v went [(1, after)] W4) := ⟨H3.out.1.trans (hb4.mono (HC.out ▸ H3.out.1.size)), h4⟩
          clear h4 hb4 CD hz
          go_wp2_with fail
          refine Calls.mono HD.out ?_
          rintro e W5 ⟨u, rfl, own, hb5⟩
          obtain ⟨ua, uc, rfl⟩ := Ck.own_shape own
          have H5 : Hid (Ck.Ok went [(1, after)] ∧ Below c w W5 ∧ Ck.At c c v went [(1, after)] W5) := ⟨HY.out, H4.out.1.trans (hb5.mono (HC.out ▸ H4.out.1.size)), H4.out.2.below hb5 (Nat.le_refl _)⟩
          clear own hb5
          go_wp2
          go_roundg (gk - 1)
          case measure => omega
          case rel => exact ⟨k + 1, went, by omega, by go_num, rfl, H5.out⟩
    · have dl : decide ((k : Int) < n) = false := decide_eq_false (by omega)
      go_wp2_with fail
      refine Calls.mono (C2.out _) ?_
      rintro e W3 ⟨rfl, hb3⟩
      go_wp2
      go_ret
      exact ⟨rfl, HF.out _ _ HB.out.2.1 hb3⟩

end Go.Proofs.Ytolniefefohbjaa.ClockGoes
