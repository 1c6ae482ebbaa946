/-
  The contracts of the document's one and text.
-/
import Derived.Test.YtbcafacolohgbaaDoorRefAt
import Derived.Test.YtbcafacolohgbaaDoorEscape
namespace Go.Proofs
open Go.RowKit
open Go.Proofs.Mk

/-- One byte of a text. -/
def Mk.oneAt (l : List UInt8) : Option (List UInt8 × Nat) :=
  if l.head? = some 38 then (if (meantL l).2 = 0 then none else some ([(meantL l).1], (meantL l).2)) else
  match l with
  | [] => none
  | c :: _ => if bplain c = true then some ([c], 1) else none

theorem Mk.cell_new3 (w : World) (o1 o2 : Obj) (c : Value) (t : TypeId) : (((w.alloc o1).alloc o2).alloc (.cells #[c] t)).cell? ⟨w.heap.size + 1 + 1, 0, none⟩ = some c := by
  have h := heap_alloc_new ((w.alloc o1).alloc o2) (.cells #[c] t)
  have hz : ((w.alloc o1).alloc o2).heap.size = w.heap.size + 1 + 1 := by simp
  rw [hz] at h
  simp only [World.cell?, h]
  rfl
/-- A slice of one byte, as a string. -/
theorem Tryd.conv_one (W : World) (b : Nat) (c : UInt8) (h : W.cell? ⟨b, 0, none⟩ = some (.int .u8 c.toNat)) :
    (convert 61 9 (.slice (some ⟨b, 0, none⟩) 1 1)).run Tryd.prog W = .ok (.string ⟨#[c]⟩) W := by
  rw [run_convert_bytes_string W 61 9 5 _ _ _ Tryd.underlying61 Tryd.underlying5 Tryd.underlying9]
  rw [run_bytesToString W ⟨b, 0, none⟩ 1 1 [(c.toNat : Int)]]
  · simp [ByteArray.push]
  · simp [loadCells, h, go_sem]
theorem Tryd.sign_60 (w : World) : Calls Tryd.prog 63 #[.int .u8 60] w fun e w' => e = .returned (.string ⟨#[38, 108, 116, 59]⟩) ∧ w' = w := Tryd.sign_any 60 w
theorem Tryd.sign_62 (w : World) : Calls Tryd.prog 63 #[.int .u8 62] w fun e w' => e = .returned (.string ⟨#[38, 103, 116, 59]⟩) ∧ w' = w := Tryd.sign_any 62 w
theorem Tryd.sign_38 (w : World) : Calls Tryd.prog 63 #[.int .u8 38] w fun e w' => e = .returned (.string ⟨#[38, 97, 109, 112, 59]⟩) ∧ w' = w := Tryd.sign_any 38 w
theorem Tryd.sign_34 (w : World) : Calls Tryd.prog 63 #[.int .u8 34] w fun e w' => e = .returned (.string ⟨#[38, 113, 117, 111, 116, 59]⟩) ∧ w' = w := Tryd.sign_any 34 w

set_option maxRecDepth 100000 in
set_option maxHeartbeats 4000000 in
theorem Tryd.one_esc (s : ByteArray) (k : Nat) (w : World) (hk : k < s.size) (hs : s.size ≤ 20000) (hc : s[k] = 38) :
    Calls Tryd.prog 73 #[.string s, .int .i64 k] w fun e w' => e = .returned (Mk.gotV (Mk.oneAt (s.data.toList.drop k)) k) ∧ Below w.heap.size w w' := by
  have h38 : (s.data.toList.drop k).head? = some 38 := by rw [Mk.head_drop s k hk, hc]
  have HO : Hid (Mk.oneAt (s.data.toList.drop k) = if (meantL (s.data.toList.drop k)).2 = 0 then none else some ([(meantL (s.data.toList.drop k)).1], (meantL (s.data.toList.drop k)).2)) := by
    show _ = _
    unfold Mk.oneAt
    rw [if_pos h38]
  have H38 : Hid ((s.data.toList.drop k).head? = some 38) := h38
  have hcn : ((s[k].toNat : Int) == 38) = true := by rw [hc]; rfl
  clear hc h38
  go_enter Tryd.func73, Tryd.ntmps73
  go_wp2
  go_loopg [13] 4 (fun g i wr => ∃ n : Nat, g + n = 4 ∧ i = .int .i64 n ∧ wr = (w.alloc (.cells #[.int .i64 0, .string ⟨#[]⟩] 107)).alloc (.cells #[.int .u8 60, .int .u8 62, .int .u8 38, .int .u8 34] 5) ∧ (0 < n → Lib.hasPrefix (s.data.toList.drop k) [38, 108, 116, 59] = false) ∧ (1 < n → Lib.hasPrefix (s.data.toList.drop k) [38, 103, 116, 59] = false) ∧ (2 < n → Lib.hasPrefix (s.data.toList.drop k) [38, 97, 109, 112, 59] = false) ∧ (3 < n → Lib.hasPrefix (s.data.toList.drop k) [38, 113, 117, 111, 116, 59] = false))
  case atStart => exact ⟨0, by omega, rfl, rfl, by omega, by omega, by omega, by omega⟩
  case round =>
    obtain ⟨n, hg, rfl, rfl, h0, h1, h2, h3⟩ := hrel
    have hk5 : n = 0 ∨ n = 1 ∨ n = 2 ∨ n = 3 ∨ n = 4 := by omega
    have h38 := H38.out
    rcases hk5 with rfl | rfl | rfl | rfl | rfl
    · cases hpx : Lib.hasPrefix (s.data.toList.drop k) [38, 108, 116, 59]
      · go_wp2_with (first | (go_at_call 63; refine (Tryd.sign_60 _).mono ?_; rintro e w' ⟨rfl, rfl⟩) | (go_at_call 50; refine (Tryd.at_any _ _ _ _ _ (by omega) hs (by decide) hpx).mono ?_; rintro e w' ⟨rfl, rfl⟩))
        go_roundg (gk - 1)
        case measure => omega
        case rel => exact ⟨1, by omega, rfl, rfl, fun _ => hpx, by omega, by omega, by omega⟩
      · have HM : Hid (Mk.gotV (Mk.oneAt (s.data.toList.drop k)) k = .agg #[.int .i64 ((k : Int) + 4), .string ⟨#[60]⟩]) := by
          show _ = _
          have hm : meantL (s.data.toList.drop k) = (60, 4) := by simp [meantL, h38, hpx]
          rw [HO.out, hm]
          rfl
        go_wp2_with (first | (go_at_call 63; refine (Tryd.sign_60 _).mono ?_; rintro e w' ⟨rfl, rfl⟩) | (go_at_call 50; refine (Tryd.at_any _ _ _ _ _ (by omega) hs (by decide) hpx).mono ?_; rintro e w' ⟨rfl, rfl⟩))
        have hcv : (convert 61 9 (.slice (some ⟨w.heap.size + 1 + 1, 0, none⟩) 1 1)).run Tryd.prog ((((w.alloc (.cells #[.int .i64 0, .string ⟨#[]⟩] 107)).alloc (.cells #[.int .u8 60, .int .u8 62, .int .u8 38, .int .u8 34] 5)).alloc (.cells #[.int .u8 60] 5)).drew) = .ok (.string ⟨#[60]⟩) ((((w.alloc (.cells #[.int .i64 0, .string ⟨#[]⟩] 107)).alloc (.cells #[.int .u8 60, .int .u8 62, .int .u8 38, .int .u8 34] 5)).alloc (.cells #[.int .u8 60] 5)).drew) := Tryd.conv_one _ _ 60 (Mk.cell_new3 _ _ _ _ _)
        have hwk : IntKind.i64.wrap ((k : Int) + 4) = (k : Int) + 4 := by rw [IntKind.wrap_i64]; omega
        clear h0 h1 h2 h3 hg h38
        go_region_with (go_at_call 63; refine (Tryd.sign_60 _).mono ?_; rintro e w' ⟨rfl, rfl⟩)
        all_goals go_wp2
        all_goals exact bodyPost_ret (v := .agg #[.int .i64 ((k : Int) + 4), .string ⟨#[60]⟩]) (by simp [results, Tryd.results73, go_sem]) rfl ⟨by rw [HM.out], ((((Below.refl _ _).alloc (Nat.le_refl _) _).alloc (by simp) _).alloc (by simp; omega) _).drew⟩
    · cases hpx : Lib.hasPrefix (s.data.toList.drop k) [38, 103, 116, 59]
      · go_wp2_with (first | (go_at_call 63; refine (Tryd.sign_62 _).mono ?_; rintro e w' ⟨rfl, rfl⟩) | (go_at_call 50; refine (Tryd.at_any _ _ _ _ _ (by omega) hs (by decide) hpx).mono ?_; rintro e w' ⟨rfl, rfl⟩))
        go_roundg (gk - 1)
        case measure => omega
        case rel => exact ⟨2, by omega, rfl, rfl, fun _ => h0 (by omega), fun _ => hpx, by omega, by omega⟩
      · have HM : Hid (Mk.gotV (Mk.oneAt (s.data.toList.drop k)) k = .agg #[.int .i64 ((k : Int) + 4), .string ⟨#[62]⟩]) := by
          show _ = _
          have hm : meantL (s.data.toList.drop k) = (62, 4) := by simp [meantL, h38, h0 (by omega), hpx]
          rw [HO.out, hm]
          rfl
        go_wp2_with (first | (go_at_call 63; refine (Tryd.sign_62 _).mono ?_; rintro e w' ⟨rfl, rfl⟩) | (go_at_call 50; refine (Tryd.at_any _ _ _ _ _ (by omega) hs (by decide) hpx).mono ?_; rintro e w' ⟨rfl, rfl⟩))
        have hcv : (convert 61 9 (.slice (some ⟨w.heap.size + 1 + 1, 0, none⟩) 1 1)).run Tryd.prog ((((w.alloc (.cells #[.int .i64 0, .string ⟨#[]⟩] 107)).alloc (.cells #[.int .u8 60, .int .u8 62, .int .u8 38, .int .u8 34] 5)).alloc (.cells #[.int .u8 62] 5)).drew) = .ok (.string ⟨#[62]⟩) ((((w.alloc (.cells #[.int .i64 0, .string ⟨#[]⟩] 107)).alloc (.cells #[.int .u8 60, .int .u8 62, .int .u8 38, .int .u8 34] 5)).alloc (.cells #[.int .u8 62] 5)).drew) := Tryd.conv_one _ _ 62 (Mk.cell_new3 _ _ _ _ _)
        have hwk : IntKind.i64.wrap ((k : Int) + 4) = (k : Int) + 4 := by rw [IntKind.wrap_i64]; omega
        clear h0 h1 h2 h3 hg h38
        go_region_with (go_at_call 63; refine (Tryd.sign_62 _).mono ?_; rintro e w' ⟨rfl, rfl⟩)
        all_goals go_wp2
        all_goals exact bodyPost_ret (v := .agg #[.int .i64 ((k : Int) + 4), .string ⟨#[62]⟩]) (by simp [results, Tryd.results73, go_sem]) rfl ⟨by rw [HM.out], ((((Below.refl _ _).alloc (Nat.le_refl _) _).alloc (by simp) _).alloc (by simp; omega) _).drew⟩
    · cases hpx : Lib.hasPrefix (s.data.toList.drop k) [38, 97, 109, 112, 59]
      · go_wp2_with (first | (go_at_call 63; refine (Tryd.sign_38 _).mono ?_; rintro e w' ⟨rfl, rfl⟩) | (go_at_call 50; refine (Tryd.at_any _ _ _ _ _ (by omega) hs (by decide) hpx).mono ?_; rintro e w' ⟨rfl, rfl⟩))
        go_roundg (gk - 1)
        case measure => omega
        case rel => exact ⟨3, by omega, rfl, rfl, fun _ => h0 (by omega), fun _ => h1 (by omega), fun _ => hpx, by omega⟩
      · have HM : Hid (Mk.gotV (Mk.oneAt (s.data.toList.drop k)) k = .agg #[.int .i64 ((k : Int) + 5), .string ⟨#[38]⟩]) := by
          show _ = _
          have hm : meantL (s.data.toList.drop k) = (38, 5) := by simp [meantL, h38, h0 (by omega), h1 (by omega), hpx]
          rw [HO.out, hm]
          rfl
        go_wp2_with (first | (go_at_call 63; refine (Tryd.sign_38 _).mono ?_; rintro e w' ⟨rfl, rfl⟩) | (go_at_call 50; refine (Tryd.at_any _ _ _ _ _ (by omega) hs (by decide) hpx).mono ?_; rintro e w' ⟨rfl, rfl⟩))
        have hcv : (convert 61 9 (.slice (some ⟨w.heap.size + 1 + 1, 0, none⟩) 1 1)).run Tryd.prog ((((w.alloc (.cells #[.int .i64 0, .string ⟨#[]⟩] 107)).alloc (.cells #[.int .u8 60, .int .u8 62, .int .u8 38, .int .u8 34] 5)).alloc (.cells #[.int .u8 38] 5)).drew) = .ok (.string ⟨#[38]⟩) ((((w.alloc (.cells #[.int .i64 0, .string ⟨#[]⟩] 107)).alloc (.cells #[.int .u8 60, .int .u8 62, .int .u8 38, .int .u8 34] 5)).alloc (.cells #[.int .u8 38] 5)).drew) := Tryd.conv_one _ _ 38 (Mk.cell_new3 _ _ _ _ _)
        have hwk : IntKind.i64.wrap ((k : Int) + 5) = (k : Int) + 5 := by rw [IntKind.wrap_i64]; omega
        clear h0 h1 h2 h3 hg h38
        go_region_with (go_at_call 63; refine (Tryd.sign_38 _).mono ?_; rintro e w' ⟨rfl, rfl⟩)
        all_goals go_wp2
        all_goals exact bodyPost_ret (v := .agg #[.int .i64 ((k : Int) + 5), .string ⟨#[38]⟩]) (by simp [results, Tryd.results73, go_sem]) rfl ⟨by rw [HM.out], ((((Below.refl _ _).alloc (Nat.le_refl _) _).alloc (by simp) _).alloc (by simp; omega) _).drew⟩
    · cases hpx : Lib.hasPrefix (s.data.toList.drop k) [38, 113, 117, 111, 116, 59]
      · go_wp2_with (first | (go_at_call 63; refine (Tryd.sign_34 _).mono ?_; rintro e w' ⟨rfl, rfl⟩) | (go_at_call 50; refine (Tryd.at_any _ _ _ _ _ (by omega) hs (by decide) hpx).mono ?_; rintro e w' ⟨rfl, rfl⟩))
        go_roundg (gk - 1)
        case measure => omega
        case rel => exact ⟨4, by omega, rfl, rfl, fun _ => h0 (by omega), fun _ => h1 (by omega), fun _ => h2 (by omega), fun _ => hpx⟩
      · have HM : Hid (Mk.gotV (Mk.oneAt (s.data.toList.drop k)) k = .agg #[.int .i64 ((k : Int) + 6), .string ⟨#[34]⟩]) := by
          show _ = _
          have hm : meantL (s.data.toList.drop k) = (34, 6) := by simp [meantL, h38, h0 (by omega), h1 (by omega), h2 (by omega), hpx]
          rw [HO.out, hm]
          rfl
        go_wp2_with (first | (go_at_call 63; refine (Tryd.sign_34 _).mono ?_; rintro e w' ⟨rfl, rfl⟩) | (go_at_call 50; refine (Tryd.at_any _ _ _ _ _ (by omega) hs (by decide) hpx).mono ?_; rintro e w' ⟨rfl, rfl⟩))
        have hcv : (convert 61 9 (.slice (some ⟨w.heap.size + 1 + 1, 0, none⟩) 1 1)).run Tryd.prog ((((w.alloc (.cells #[.int .i64 0, .string ⟨#[]⟩] 107)).alloc (.cells #[.int .u8 60, .int .u8 62, .int .u8 38, .int .u8 34] 5)).alloc (.cells #[.int .u8 34] 5)).drew) = .ok (.string ⟨#[34]⟩) ((((w.alloc (.cells #[.int .i64 0, .string ⟨#[]⟩] 107)).alloc (.cells #[.int .u8 60, .int .u8 62, .int .u8 38, .int .u8 34] 5)).alloc (.cells #[.int .u8 34] 5)).drew) := Tryd.conv_one _ _ 34 (Mk.cell_new3 _ _ _ _ _)
        have hwk : IntKind.i64.wrap ((k : Int) + 6) = (k : Int) + 6 := by rw [IntKind.wrap_i64]; omega
        clear h0 h1 h2 h3 hg h38
        go_region_with (go_at_call 63; refine (Tryd.sign_34 _).mono ?_; rintro e w' ⟨rfl, rfl⟩)
        all_goals go_wp2
        all_goals exact bodyPost_ret (v := .agg #[.int .i64 ((k : Int) + 6), .string ⟨#[34]⟩]) (by simp [results, Tryd.results73, go_sem]) rfl ⟨by rw [HM.out], ((((Below.refl _ _).alloc (Nat.le_refl _) _).alloc (by simp) _).alloc (by simp; omega) _).drew⟩
    · have HM : Hid (Mk.gotV (Mk.oneAt (s.data.toList.drop k)) k = .agg #[.int .i64 (-1), .string ⟨#[]⟩]) := by
        show _ = _
        have hm : meantL (s.data.toList.drop k) = (0, 0) := by simp [meantL, h38, h0 (by omega), h1 (by omega), h2 (by omega), h3 (by omega)]
        rw [HO.out, hm]
        rfl
      go_wp2
      exact bodyPost_ret (v := .agg #[.int .i64 (-1), .string ⟨#[]⟩]) (by simp [results, Tryd.results73, go_sem]) rfl ⟨by rw [HM.out], ((Below.refl _ _).alloc (Nat.le_refl _) _).alloc (by simp) _⟩

set_option maxHeartbeats 2000000 in
theorem Tryd.one_any (s : ByteArray) (k : Nat) (w : World) (hk : k < s.size) (hs : s.size ≤ 20000) :
    Calls Tryd.prog 73 #[.string s, .int .i64 k] w fun e w' => e = .returned (Mk.gotV (Mk.oneAt (s.data.toList.drop k)) k) ∧ Below w.heap.size w w' := by
  by_cases hc : s[k] = 38
  · exact Tryd.one_esc s k w hk hs hc
  · have hne : (s.data.toList.drop k).head? ≠ some 38 := by rw [Mk.head_drop s k hk]; simpa using hc
    obtain ⟨r, hr⟩ : ∃ r, s.data.toList.drop k = s[k] :: r := ⟨_, List.drop_eq_getElem_cons hk⟩
    have HO : Hid (Mk.oneAt (s.data.toList.drop k) = if bplain s[k] = true then some ([s[k]], 1) else none) := by
      show _ = _
      unfold Mk.oneAt
      rw [if_neg hne, hr]
    have hcn : ((s[k].toNat : Int) == 38) = false := beq_eq_false_iff_ne.2 (fun e => hc (by
      apply UInt8.toNat_inj.1
      have : s[k].toNat = 38 := by omega
      rw [this]; rfl))
    clear hne hr hc
    cases hb : plainB (s[k].toNat : Int)
    · have HM : Hid (Mk.gotV (Mk.oneAt (s.data.toList.drop k)) k = .agg #[.int .i64 (-1), .string ⟨#[]⟩]) := by
        show _ = _
        rw [HO.out, if_neg (by simp [bplain, hb])]
        rfl
      go_enter Tryd.func73, Tryd.ntmps73
      go_wp2_with (go_at_call 62; refine (Tryd.refPlain_any _ _).mono ?_; rintro e w' ⟨rfl, rfl⟩)
      exact bodyPost_ret (v := .agg #[.int .i64 (-1), .string ⟨#[]⟩]) (by simp [results, Tryd.results73, go_sem]) rfl ⟨by rw [HM.out], (Below.refl _ _).alloc (Nat.le_refl _) _⟩
    · have HM : Hid (Mk.gotV (Mk.oneAt (s.data.toList.drop k)) k = .agg #[.int .i64 ((k : Int) + 1), .string (s.extract k (k + 1))]) := by
        show _ = _
        rw [HO.out, if_pos (by simpa [bplain] using hb), Mk.get_one s k hk]
        rfl
      go_enter Tryd.func73, Tryd.ntmps73
      go_wp2_with (go_at_call 62; refine (Tryd.refPlain_any _ _).mono ?_; rintro e w' ⟨rfl, rfl⟩)
      exact bodyPost_ret (v := .agg #[.int .i64 ((k : Int) + 1), .string (s.extract k (k + 1))]) (by simp [results, Tryd.results73, go_sem]) rfl ⟨by rw [HM.out], (Below.refl _ _).alloc (Nat.le_refl _) _⟩

/-- One byte, and what is meant by it. -/
theorem Mk.one_meant (l : List UInt8) (c : UInt8) (h : l.head? = some c) (h60 : c ≠ 60) : Mk.oneAt l = if (meantL l).2 = 0 then none else some ([(meantL l).1], (meantL l).2) := by
  cases l with
  | nil => cases h
  | cons a r =>
    simp only [List.head?_cons, Option.some.injEq] at h
    subst h
    unfold Mk.oneAt
    by_cases h38 : (a :: r).head? = some 38
    · rw [if_pos h38]
    · rw [if_neg h38]
      unfold meantL
      rw [if_neg h38]
      simp only [h60, false_or]
      cases hb : bplain a <;> simp

end Go.Proofs
