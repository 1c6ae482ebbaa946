/-
  The document's digits, Plain of a number, and num.
-/
import Derived.Test.YtimmgchapcbgfaaDoorBlText
namespace Go.Proofs
open Go.RowKit

theorem Tk.ba_eq {a : ByteArray} {l : List UInt8} (h : a.data.toList = l) : (⟨l.toArray⟩ : ByteArray) = a := by
  obtain ⟨⟨x⟩⟩ := a
  simp only at h
  subst h
  rfl
theorem Tk.digit_at : ∀ r : Nat, r < 10 → (⟨#[48, 49, 50, 51, 52, 53, 54, 55, 56, 57]⟩ : ByteArray).extract r (r + 1) = ⟨#[UInt8.ofNat (48 + r)]⟩
  | 0, _ => by rfl
  | 1, _ => by rfl
  | 2, _ => by rfl
  | 3, _ => by rfl
  | 4, _ => by rfl
  | 5, _ => by rfl
  | 6, _ => by rfl
  | 7, _ => by rfl
  | 8, _ => by rfl
  | 9, _ => by rfl
  | r + 10, h => by omega
theorem Tk.dec_small {r : Nat} (h : r < 10) : Lib.decDigits r = [UInt8.ofNat (48 + r)] := by rw [Lib.decDigits, dif_pos h]
theorem Tk.dec_big {q r : Nat} (hq : 0 < q) (h : r < 10) : Lib.decDigits (10 * q + r) = Lib.decDigits q ++ [UInt8.ofNat (48 + r)] := by
  rw [Lib.decDigits, dif_neg (by omega), show (10 * q + r) / 10 = q by omega, show (10 * q + r) % 10 = r by omega]
theorem Tk.dec_pos (n : Nat) : 1 ≤ (Lib.decDigits n).length := by
  rw [Lib.decDigits]
  split <;> simp

set_option maxHeartbeats 4000000 in
theorem Tryd.refDigits_any (n : Nat) (hn : n ≤ 9223372036854775807) (w : World) :
    Calls Tryd.prog 42 #[.int .i64 n] w fun e w' => e = .returned (.string ⟨(Lib.decDigits n).toArray⟩) ∧ w' = w := by
  have hlen : (Lib.decDigits n).length ≤ 21 := by
    have := Lib.itoa_length_le (n : Int) (by omega) (by omega)
    unfold Lib.itoa at this
    rw [if_neg (by omega)] at this
    simpa using this
  have HLEN : Hid ((Lib.decDigits n).length ≤ 21) := hlen
  clear hlen
  go_enter Tryd.func42, Tryd.ntmps42
  go_wp2
  go_loopg [0, 3] n (fun g a s wr => ∃ (k : Nat) (S : ByteArray), g = k ∧ a = .int .i64 k ∧ s = .string S ∧ k ≤ 9223372036854775807 ∧ S.size ≤ 21 ∧ wr = w ∧ Hid (Lib.decDigits n = Lib.decDigits k ++ S.data.toList))
  case atStart => exact ⟨n, ⟨#[]⟩, rfl, rfl, rfl, hn, by show (0 : Nat) ≤ _; omega, rfl, by show _ = _; simp⟩
  case round =>
    obtain ⟨k, S, rfl, rfl, rfl, hk, hS, rfl, HR⟩ := hrel
    by_cases h9 : 9 < gk
    · have hd : decide ((9 : Int) < gk) = true := decide_eq_true (by omega)
      have HS : Hid (Lib.decDigits n = Lib.decDigits (gk / 10) ++ ((⟨#[48, 49, 50, 51, 52, 53, 54, 55, 56, 57]⟩ : ByteArray).extract (gk % 10) (gk % 10 + 1) ++ S).data.toList) := by
        show _ = _
        rw [Tk.digit_at _ (by omega), HR.out]
        have := Tk.dec_big (q := gk / 10) (r := gk % 10) (by omega) (by omega)
        rw [show 10 * (gk / 10) + gk % 10 = gk by omega] at this
        rw [this, ByteArray.data_append, Array.toList_append]
        simp
      have hs2 : ((⟨#[48, 49, 50, 51, 52, 53, 54, 55, 56, 57]⟩ : ByteArray).extract (gk % 10) (gk % 10 + 1) ++ S).size ≤ 21 := by
        have h1 := congrArg List.length HS.out
        have h2 := HLEN.out
        rw [List.length_append] at h1
        show (((⟨#[48, 49, 50, 51, 52, 53, 54, 55, 56, 57]⟩ : ByteArray).extract (gk % 10) (gk % 10 + 1) ++ S).data.toList).length ≤ 21
        omega
      go_wp2
      go_roundg (gk / 10)
      case measure => omega
      case rel => exact ⟨gk / 10, _, rfl, by go_num, rfl, by omega, hs2, rfl, HS.out⟩
    · have hd : decide ((9 : Int) < gk) = false := decide_eq_false (by omega)
      have HS : Hid ((⟨(Lib.decDigits n).toArray⟩ : ByteArray) = (⟨#[48, 49, 50, 51, 52, 53, 54, 55, 56, 57]⟩ : ByteArray).extract gk (gk + 1) ++ S) := by
        show _ = _
        rw [Tk.digit_at _ (by omega), HR.out, Tk.dec_small (by omega)]
        obtain ⟨⟨l⟩⟩ := S
        rfl
      go_wp2
      go_ret
      exact ⟨by rw [HS.out]; rfl, rfl⟩

set_option maxRecDepth 20000 in
set_option maxHeartbeats 4000000 in
theorem Tryd.refPlainN_any (n : Nat) (hn : n ≤ 9223372036854775807) (w : World) :
    Calls Tryd.prog 37 #[.agg #[.int .i64 1, .int .i64 n, .slice none 0 0]] w fun e w' => e = .returned (.string ⟨(Lib.itoa n).toArray⟩) ∧ Below w.heap.size w w' := by
  have HE : Hid (Lib.itoa n = Lib.decDigits n) := Lib.itoa_nonneg n
  obtain ⟨l, hl⟩ : ∃ z, Lib.itoa n = z := ⟨_, rfl⟩
  rw [hl]
  rw [hl] at HE
  have B0 : Hid (Below w.heap.size w (w.alloc (.cells #[.int .i64 1, .int .i64 n, .slice none 0 0] 74))) := (Below.refl _ w).alloc (Nat.le_refl _) _
  have HC : Hid _ := Tryd.refDigits_any n hn (w.alloc (.cells #[.int .i64 1, .int .i64 n, .slice none 0 0] 74))
  rw [← HE.out] at HC
  clear hl HE
  go_enter Tryd.func37, Tryd.ntmps37
  go_wp2_with fail
  refine Calls.mono HC.out ?_
  rintro e W1 ⟨rfl, rfl⟩
  clear HC
  go_wp2
  go_ret
  exact ⟨rfl, B0.out⟩

set_option maxRecDepth 20000 in
set_option maxHeartbeats 4000000 in
theorem Tryd.refNum_any (n : Int) (h0 : -1 ≤ n) (h1 : n ≤ 9223372036854775807) (w : World) :
    Calls Tryd.prog 30 #[.int .i64 n] w fun e w' => e = .returned (.string ⟨(Lib.itoa n).toArray⟩) ∧ Below w.heap.size w w' := by
  by_cases hn : n < 0
  · obtain rfl : n = -1 := by omega
    have e1 : Lib.itoa (-1) = [45, 49] := by rw [show (-1 : Int) = -((1 : Nat) : Int) from rfl, Lib.itoa_neg 1 (by omega), Lib.decDigits_one (by omega)]; rfl
    rw [e1]
    clear e1 h0 h1 hn
    have BR : Hid (Below w.heap.size w w) := Below.refl _ _
    go_enter Tryd.func30, Tryd.ntmps30
    go_wp2
    go_ret
    exact ⟨rfl, BR.out⟩
  · obtain ⟨m, rfl⟩ : ∃ m : Nat, n = m := ⟨n.toNat, by omega⟩
    have HC : Hid _ := Tryd.refPlainN_any m (by omega) w
    have hd : decide ((m : Int) < 0) = false := decide_eq_false hn
    obtain ⟨l, hl⟩ : ∃ z, Lib.itoa m = z := ⟨_, rfl⟩
    rw [hl] at HC ⊢
    clear hl h0 h1 hn
    go_enter Tryd.func30, Tryd.ntmps30
    go_wp2_with fail
    refine Calls.mono HC.out ?_
    rintro e W1 ⟨rfl, hb⟩
    have HB : Hid (Below w.heap.size w W1) := hb
    clear HC hb
    go_wp2
    go_ret
    exact ⟨rfl, HB.out⟩

end Go.Proofs
