/-
  The contracts of the document's digits, Word, Plain and Text.
-/
import Derived.Test.YtehmmfmofdgheaaDoorTText
import Derived.Test.YtehmmfmofdgheaaDoorAllTRefChk
namespace Go.Proofs
open Go.RowKit

theorem Tk.ba_eq {a : ByteArray} {l : List UInt8} (h : a.data.toList = l) : (⟨l.toArray⟩ : ByteArray) = a := by
  obtain ⟨⟨x⟩⟩ := a
  simp only at h
  subst h
  rfl
theorem Tk.digit_at : ∀ r : Nat, r < 10 → (⟨#[48, 49, 50, 51, 52, 53, 54, 55, 56, 57]⟩ : ByteArray).extract r (r + 1) = ⟨#[UInt8.ofNat (48 + r)]⟩
  | 0, _ => by rfl
  | 1, _ => by rfl
  | 2, _ => by rfl
  | 3, _ => by rfl
  | 4, _ => by rfl
  | 5, _ => by rfl
  | 6, _ => by rfl
  | 7, _ => by rfl
  | 8, _ => by rfl
  | 9, _ => by rfl
  | r + 10, h => by omega
theorem Tk.dec_small {r : Nat} (h : r < 10) : Lib.decDigits r = [UInt8.ofNat (48 + r)] := by rw [Lib.decDigits, dif_pos h]
theorem Tk.dec_big {q r : Nat} (hq : 0 < q) (h : r < 10) : Lib.decDigits (10 * q + r) = Lib.decDigits q ++ [UInt8.ofNat (48 + r)] := by
  rw [Lib.decDigits, dif_neg (by omega), show (10 * q + r) / 10 = q by omega, show (10 * q + r) % 10 = r by omega]
theorem Tk.dec_pos (n : Nat) : 1 ≤ (Lib.decDigits n).length := by
  rw [Lib.decDigits]
  split <;> simp

set_option maxHeartbeats 4000000 in
theorem Tryd.refDigits_any (n : Nat) (hn : n ≤ 1099511627776) (w : World) :
    Calls Tryd.prog 71 #[.int .i64 n] w fun e w' => e = .returned (.string ⟨(Lib.decDigits n).toArray⟩) ∧ w' = w := by
  have hlen : (Lib.decDigits n).length ≤ 21 := by
    have := Lib.itoa_length_le (n : Int) (by omega) (by omega)
    unfold Lib.itoa at this
    rw [if_neg (by omega)] at this
    simpa using this
  have HLEN : Hid ((Lib.decDigits n).length ≤ 21) := hlen
  clear hlen
  go_enter Tryd.func71, Tryd.ntmps71
  go_wp2
  go_loopg [0, 3] n (fun g a s wr => ∃ (k : Nat) (S : ByteArray), g = k ∧ a = .int .i64 k ∧ s = .string S ∧ k ≤ 1099511627776 ∧ S.size ≤ 21 ∧ wr = w ∧ Hid (Lib.decDigits n = Lib.decDigits k ++ S.data.toList))
  case atStart => exact ⟨n, ⟨#[]⟩, rfl, rfl, rfl, hn, by show (0 : Nat) ≤ _; omega, rfl, by show _ = _; simp⟩
  case round =>
    obtain ⟨k, S, rfl, rfl, rfl, hk, hS, rfl, HR⟩ := hrel
    by_cases h9 : 9 < gk
    · have hd : decide ((9 : Int) < gk) = true := decide_eq_true (by omega)
      have HS : Hid (Lib.decDigits n = Lib.decDigits (gk / 10) ++ ((⟨#[48, 49, 50, 51, 52, 53, 54, 55, 56, 57]⟩ : ByteArray).extract (gk % 10) (gk % 10 + 1) ++ S).data.toList) := by
        show _ = _
        rw [Tk.digit_at _ (by omega), HR.out]
        have := Tk.dec_big (q := gk / 10) (r := gk % 10) (by omega) (by omega)
        rw [show 10 * (gk / 10) + gk % 10 = gk by omega] at this
        rw [this, ByteArray.data_append, Array.toList_append]
        simp
      have hs2 : ((⟨#[48, 49, 50, 51, 52, 53, 54, 55, 56, 57]⟩ : ByteArray).extract (gk % 10) (gk % 10 + 1) ++ S).size ≤ 21 := by
        have h1 := congrArg List.length HS.out
        have h2 := HLEN.out
        rw [List.length_append] at h1
        show (((⟨#[48, 49, 50, 51, 52, 53, 54, 55, 56, 57]⟩ : ByteArray).extract (gk % 10) (gk % 10 + 1) ++ S).data.toList).length ≤ 21
        omega
      go_wp2
      go_roundg (gk / 10)
      case measure => omega
      case rel => exact ⟨gk / 10, _, rfl, by go_num, rfl, by omega, hs2, rfl, HS.out⟩
    · have hd : decide ((9 : Int) < gk) = false := decide_eq_false (by omega)
      have HS : Hid ((⟨(Lib.decDigits n).toArray⟩ : ByteArray) = (⟨#[48, 49, 50, 51, 52, 53, 54, 55, 56, 57]⟩ : ByteArray).extract gk (gk + 1) ++ S) := by
        show _ = _
        rw [Tk.digit_at _ (by omega), HR.out, Tk.dec_small (by omega)]
        obtain ⟨⟨l⟩⟩ := S
        rfl
      go_wp2
      go_ret
      exact ⟨by rw [HS.out]; rfl, rfl⟩

set_option maxHeartbeats 4000000 in
theorem Tryd.refWord_any (op : Nat) (h3 : 3 ≤ op) (h14 : op ≤ 14) (w : World) :
    Calls Tryd.prog 72 #[.int .i64 op] w fun e w' => e = .returned (.string ⟨(Tm.opText op).toArray⟩) ∧ Below w.heap.size w w' := by
  obtain rfl | rfl | rfl | rfl | rfl | rfl | rfl | rfl | rfl | rfl | rfl | rfl : op = 3 ∨ op = 4 ∨ op = 5 ∨ op = 6 ∨ op = 7 ∨ op = 8 ∨ op = 9 ∨ op = 10 ∨ op = 11 ∨ op = 12 ∨ op = 13 ∨ op = 14 := by omega
  all_goals
    go_enter Tryd.func72, Tryd.ntmps72
    go_wp2
    go_ret
    exact ⟨rfl, (Below.refl _ w).alloc (Nat.le_refl _) _⟩

theorem Tk.itoa_nat (n : Nat) : Lib.itoa (n : Int) = Lib.decDigits n := by
  unfold Lib.itoa
  rw [if_neg (by omega)]
  simp

set_option maxHeartbeats 8000000 in
theorem Tryd.refPlain_any : ∀ (d : Nat) (T : Tm) (v : Value) (w : World), Tm.Lies w w.heap.size d v T → T.allForm = true → T.txt.length ≤ 1000000000 →
    Calls Tryd.prog 49 #[.agg #[.int .i64 T.op, .int .i64 T.num, v]] w fun e w' => e = .returned (.string ⟨T.txt.toArray⟩) ∧ Below w.heap.size w w' := by
  intro d
  induction d with
  | zero => intro T v w h; exact h.elim
  | succ d ih =>
    intro T v w hT hF hlen
    obtain ⟨a, cap, rfl⟩ := hT.shape
    have hnum := Tm.num_of_form hF
    obtain ⟨hform, hkids⟩ := Tm.formed_of_all hF
    simp only [Tm.formedB, decide_eq_true_eq] at hform
    obtain ⟨f1, f2, f3, f4, f5⟩ := hform
    obtain ⟨o, ho⟩ : ∃ o : Nat, T.op = o := ⟨T.op.toNat, by omega⟩
    obtain ⟨m, hm⟩ : ∃ m : Nat, T.num = m := ⟨T.num.toNat, by omega⟩
    obtain ⟨n, hn⟩ : ∃ n, T.ks.length = n := ⟨_, rfl⟩
    have htx := T.txt_eq
    rw [ho, hm, Tk.itoa_nat] at htx
    rw [ho, hm, hn]
    rw [hn] at hT
    have A0 : Hid (Below w.heap.size w (w.alloc (.cells #[.int .i64 o, .int .i64 m, .slice a n cap] 37))) := (Below.refl _ w).alloc (Nat.le_refl _) _
    have hm2 : m ≤ 1099511627776 := by omega
    have HD : Hid (∀ W, Calls Tryd.prog 71 #[.int .i64 m] W fun e w' => e = .returned (.string ⟨(Lib.decDigits m).toArray⟩) ∧ w' = W) := fun W => Tryd.refDigits_any m hm2 W
    by_cases h1 : o = 1
    · subst h1
      have HX : Hid (T.txt = Lib.decDigits m) := by show _ = _; rw [htx]; simp [Tm.kidsOf, Tm.opText]
      clear htx ih hT hF hlen hnum hkids f1 f2 f3 f4 f5 ho hm hn hm2
      go_enter Tryd.func49, Tryd.ntmps49
      go_wp2_with fail
      refine Calls.mono (HD.out _) ?_
      rintro e W1 ⟨rfl, rfl⟩
      go_wp2
      go_ret
      exact ⟨by rw [HX.out]; rfl, A0.out⟩
    · by_cases h2 : o = 2
      · subst h2
        have HX : Hid (T.txt = 36 :: Lib.decDigits m) := by show _ = _; rw [htx]; simp [Tm.kidsOf, Tm.opText]
        obtain ⟨dl, hdl⟩ : ∃ l, Lib.decDigits m = l := ⟨_, rfl⟩
        have hdlen : (⟨dl.toArray⟩ : ByteArray).size ≤ 1000000000 := by
          have := HX.out
          rw [hdl] at this
          have := congrArg List.length this
          simp only [List.length_cons] at this
          simp [ByteArray.size]
          omega
        have hdl2 : dl.length ≤ 1000000000 := by simpa [ByteArray.size] using hdlen
        rw [hdl] at HD HX
        clear htx ih hT hF hlen hnum hkids f1 f2 f3 f4 f5 ho hm hn hm2 hdl h1
        go_enter Tryd.func49, Tryd.ntmps49
        go_wp2_with fail
        refine Calls.mono (HD.out _) ?_
        rintro e W1 ⟨rfl, rfl⟩
        go_wp2
        go_ret
        exact ⟨by rw [HX.out]; rfl, A0.out⟩
      · have e1 : ((o : Int) == 1) = false := by simp; omega
        have e2 : ((o : Int) == 2) = false := by simp; omega
        have hk0 : ¬ Tm.kidsOf (o : Int) = 0 := by unfold Tm.kidsOf; rw [if_neg (by omega)]; split <;> omega
        rw [if_neg hk0] at htx
        have HW := fun W => Tryd.refWord_any o (by omega) (by omega) W
        obtain ⟨tx, htxo⟩ : ∃ t, Tm.opText o = t := ⟨_, rfl⟩
        have htl : tx.length ≤ 3 := by rw [← htxo]; exact Tm.opText_le _
        rw [htxo] at htx HW
        have HWD : Hid _ := HW
        have HX : Hid (T.txt = 40 :: (tx ++ (Tm.txts T.ks ++ [41])) ∧ T.txt.length ≤ 1000000000) := ⟨htx, hlen⟩
        have HLI : Hid (Tm.Lies w w.heap.size (d + 1) (.slice a n cap) T ∧ T.ks.length = n ∧ Tm.allForms T.ks = true) := ⟨hT, hn, hkids⟩
        have HI : Hid _ := ih
        have hn2 : n ≤ 2 := by
          rw [← hn, f3, ho]
          unfold Tm.kidsOf
          split
          · omega
          · split
            · omega
            · omega
        have K0 : Hid ((w.alloc (.cells #[.int .i64 o, .int .i64 m, .slice a n cap] 37)).heap[w.heap.size]? = some (.cells #[.int .i64 o, .int .i64 m, .slice a n cap] 37 (0, 0))) := heap_alloc_new w _
        have hts : (⟨tx.toArray⟩ : ByteArray).size ≤ 3 := by simpa [ByteArray.size] using htl
        clear htx ih hT hF hlen hnum hkids f1 f2 f3 f4 f5 ho hm hn hm2 HW htxo hk0 h1 h2 HD
        go_enter Tryd.func49, Tryd.ntmps49
        go_wp2_with fail
        refine Calls.mono (HWD.out _) ?_
        rintro e W1 ⟨rfl, b1⟩
        have B1 : Hid (Below w.heap.size w W1) := A0.out.trans (b1.mono A0.out.size)
        have c2 : W1.cell? ⟨w.heap.size, 2, none⟩ = some (.slice a n cap) := by
          have : W1.heap[w.heap.size]? = _ := (b1.block _ (Array.getElem?_eq_some_iff.1 K0.out).1).trans K0.out
          simp [World.cell?, this]
        clear b1 HWD
        go_wp2
        go_loopg [3, 26] n (fun g s i wr => ∃ (j : Nat) (S : ByteArray), g + j = n ∧ i = .int .i64 j ∧ s = .string S ∧ S.size ≤ 1000000000 ∧ Hid (S.data.toList = 40 :: (tx ++ Tm.txts (T.ks.take j)) ∧ Below w.heap.size w wr))
        case atStart => exact ⟨0, _, by omega, rfl, rfl, by simp [ByteArray.size_append]; show 1 + _ ≤ _; omega, by simp [Tm.txts, ByteArray.data_append], B1.out⟩
        case round =>
          obtain ⟨j, S, hj, rfl, rfl, hS, HJ⟩ := hrel
          by_cases hjn : j < n
          · have hd : decide ((j : Int) < n) = true := decide_eq_true (by omega)
            have hjk : j < T.ks.length := by rw [HLI.out.2.1]; exact hjn
            have hxF := Tm.allForms_get T.ks HLI.out.2.2 j hjk
            have htk := Tm.txts_take T.ks j hjk
            have htl2 := Tm.txts_le T.ks (j + 1)
            obtain ⟨g, off, u, rfl, hg, q0, q1, q2, q3⟩ := HLI.out.1.kid j hjk
            obtain ⟨x, hx⟩ : ∃ x, T.ks[j] = x := ⟨_, rfl⟩
            rw [hx] at q0 q1 q3 hxF htk
            obtain ⟨au, cu, rfl⟩ := q3.shape
            obtain ⟨nx, hnx⟩ : ∃ n, x.ks.length = n := ⟨_, rfl⟩
            rw [hnx] at q2 q3
            obtain ⟨y0, hy0⟩ : ∃ y, x.op = y := ⟨_, rfl⟩
            obtain ⟨y1, hz1⟩ : ∃ y, x.num = y := ⟨_, rfl⟩
            rw [hy0] at q0
            rw [hz1] at q1
            have hc : ∀ p, wr.cell? ⟨g, p, none⟩ = w.cell? ⟨g, p, none⟩ := fun p => HJ.out.2.cell (p := ⟨g, p, none⟩) hg
            have hc0 : wr.cell? ⟨g, off + j * 3, none⟩ = some (.int .i64 y0) := by rw [hc]; exact q0
            have hc1 : wr.cell? ⟨g, off + j * 3 + 1, none⟩ = some (.int .i64 y1) := by rw [hc]; exact q1
            have hc2 : wr.cell? ⟨g, off + j * 3 + 2, none⟩ = some (.slice au nx cu) := by rw [hc]; exact q2
            have BA : Hid (Below w.heap.size w (wr.alloc (.cells #[.int .i64 y0, .int .i64 y1, .slice au nx cu] 37))) := HJ.out.2.alloc HJ.out.2.size _
            have HTK : Hid (Tm.txts (T.ks.take (j + 1)) = Tm.txts (T.ks.take j) ++ 32 :: x.txt ∧ (Tm.txts (T.ks.take (j + 1))).length ≤ (Tm.txts T.ks).length) := ⟨htk, htl2⟩
            have hxl : S.size + 1 + x.txt.length ≤ 1000000000 := by
              have e1 := congrArg List.length HJ.out.1
              have e2 := congrArg List.length htk
              have e3 := HX.out
              rw [e3.1] at e3
              have e4 : S.size = S.data.toList.length := rfl
              simp only [List.length_append, List.length_cons, List.length_nil] at e1 e2 e3
              omega
            have hcall := HI.out x (.slice au nx cu) _ ((q3.below BA.out).wider BA.out.size) hxF (by omega)
            rw [hy0, hz1] at hcall
            obtain ⟨xt, hxt⟩ : ∃ l, x.txt = l := ⟨_, rfl⟩
            rw [hxt] at hcall hxl HTK
            have HC : Hid _ := hcall
            have hxs : (⟨xt.toArray⟩ : ByteArray).size = xt.length := by simp [ByteArray.size]
            clear hc q0 q1 q2 q3 hx hy0 hz1 hnx hcall hxF htk htl2 hxt
            go_wp2_with fail
            refine Calls.mono HC.out ?_
            rintro e W3 ⟨rfl, b3⟩
            have B3 : Hid (Below w.heap.size w W3) := BA.out.trans (b3.mono BA.out.size)
            clear b3 HC
            have hs3 : (S ++ ⟨#[32]⟩ ++ ⟨xt.toArray⟩).size ≤ 1000000000 := by
              rw [ByteArray.size_append, ByteArray.size_append, hxs]
              show S.size + 1 + xt.length ≤ _
              omega
            have hxs2 : (⟨xt.toArray⟩ : ByteArray).size ≤ 1000000000 := by omega
            have hxs3 : S.size + 1 + (⟨xt.toArray⟩ : ByteArray).size ≤ 1000000000 := by omega
            clear hxs
            go_wp2
            go_roundg (gk - 1)
            case measure => omega
            case rel =>
              refine ⟨j + 1, S ++ ⟨#[32]⟩ ++ ⟨xt.toArray⟩, by omega, by go_num, rfl, hs3, ?_, B3.out⟩
              rw [ByteArray.data_append, ByteArray.data_append, Array.toList_append, Array.toList_append, HJ.out.1, HTK.out.1]
              simp
          · have hd : decide ((j : Int) < n) = false := decide_eq_false (by omega)
            have hall : T.ks.take j = T.ks := List.take_of_length_le (by rw [HLI.out.2.1]; omega)
            have HZ : Hid ((⟨T.txt.toArray⟩ : ByteArray) = S ++ ⟨#[41]⟩) := by
              refine Tk.ba_eq ?_
              rw [ByteArray.data_append, Array.toList_append, HJ.out.1, hall, HX.out.1]
              simp
            go_wp2
            go_ret
            exact ⟨by rw [HZ.out]; rfl, HJ.out.2⟩

end Go.Proofs
