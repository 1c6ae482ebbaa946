/-
  The table of escapes, and the contracts of meant and written.
-/
import Derived.Test.YtbcafacolohgbaaDoorRName
namespace Go.Proofs
open Go.RowKit
open Go.Proofs.Mk

/-- What the table's cells hold. -/
def Mk.escVals : Array Value := #[.int .i32 60, .string ⟨#[38, 108, 116, 59]⟩, .int .i32 62, .string ⟨#[38, 103, 116, 59]⟩, .int .i32 38, .string ⟨#[38, 97, 109, 112, 59]⟩, .int .i32 34, .string ⟨#[38, 113, 117, 111, 116, 59]⟩]

/-- The table lies in block 0 as its initialiser lays it. -/
def Mk.Esc (w : World) : Prop := ∃ t fz, w.heap[0]? = some (.cells Mk.escVals t fz)

theorem Mk.Esc.kept {w w' : World} {r : Option Nat} (h : Mk.Esc w) (hg : w.grownBy w' r) (hr : some 0 ≠ r) : Mk.Esc w' := by
  obtain ⟨t, fz, h⟩ := h
  exact ⟨t, fz, by rw [hg.block 0 (Array.getElem?_eq_some_iff.1 h).1 hr]; exact h⟩

theorem Mk.encode_small (r : Int) (h0 : 0 ≤ r) (h1 : r < 128) : Utf8.encode r = ⟨#[UInt8.ofNat r.toNat]⟩ := by
  have hv : Utf8.valid r = true := by simp [Utf8.valid]; omega
  have hlt : r.toNat < 128 := by omega
  simp [Utf8.encode, hv, hlt]

theorem Mk.wrL_plain (r : Int) (h0 : r ≠ 60) (h1 : r ≠ 62) (h2 : r ≠ 38) (h3 : r ≠ 34) : wrL r = [UInt8.ofNat r.toNat] := by
  simp [wrL, signL, h0, h1, h2, h3]

set_option maxHeartbeats 1000000 in
theorem Tryd.written_any (r : Int) (w : World) (h : Mk.Esc w) (hp : plainB r = true) :
    Calls Tryd.prog 79 #[.int .i32 r] w fun e w' => e = .returned (.string ⟨(wrL r).toArray⟩) ∧ Below w.heap.size w w' := by
  obtain ⟨t, fz, hE⟩ := h
  have hu := Tryd.underlying145
  go_enter Tryd.func79, Tryd.ntmps79
  go_wp2_with (refine wpList_load_row rfl 145 _ rfl 0 rfl t Mk.escVals fz _ hE hu rfl (by kernel_rfl) ?_)
  have i0 : ∀ w : World, (Instr.index 145 (.agg Mk.escVals) (.int .i64 0)).run Tryd.prog w = .ok (.agg #[.int .i32 60, .string ⟨#[38, 108, 116, 59]⟩]) w := fun _ => by kernel_rfl
  have i1 : ∀ w : World, (Instr.index 145 (.agg Mk.escVals) (.int .i64 1)).run Tryd.prog w = .ok (.agg #[.int .i32 62, .string ⟨#[38, 103, 116, 59]⟩]) w := fun _ => by kernel_rfl
  have i2 : ∀ w : World, (Instr.index 145 (.agg Mk.escVals) (.int .i64 2)).run Tryd.prog w = .ok (.agg #[.int .i32 38, .string ⟨#[38, 97, 109, 112, 59]⟩]) w := fun _ => by kernel_rfl
  have i3 : ∀ w : World, (Instr.index 145 (.agg Mk.escVals) (.int .i64 3)).run Tryd.prog w = .ok (.agg #[.int .i32 34, .string ⟨#[38, 113, 117, 111, 116, 59]⟩]) w := fun _ => by kernel_rfl
  go_loopg [6] 4 (fun g i wr => ∃ k : Nat, g + k = 4 ∧ i = .int .i64 k ∧ Below w.heap.size w wr ∧ (0 < k → r ≠ 60) ∧ (1 < k → r ≠ 62) ∧ (2 < k → r ≠ 38) ∧ (3 < k → r ≠ 34))
  case atStart => exact ⟨0, by omega, rfl, Below.refl _ _, by omega, by omega, by omega, by omega⟩
  case round =>
    obtain ⟨k, hg, rfl, hbw, h0, h1, h2, h3⟩ := hrel
    have hk5 : k = 0 ∨ k = 1 ∨ k = 2 ∨ k = 3 ∨ k = 4 := by omega
    rcases hk5 with rfl | rfl | rfl | rfl | rfl
    · by_cases hr : r = 60
      · subst hr
        go_wp2
        go_ret
        exact ⟨rfl, hbw.alloc hbw.size _⟩
      · have hr' : ((60 : Int) == r) = false := beq_eq_false_iff_ne.2 (Ne.symm hr)
        go_wp2
        go_roundg (gk - 1)
        case measure => omega
        case rel => exact ⟨1, by omega, rfl, hbw.alloc hbw.size _, by omega, by omega, by omega, by omega⟩
    · by_cases hr : r = 62
      · subst hr
        go_wp2
        go_ret
        exact ⟨rfl, hbw.alloc hbw.size _⟩
      · have hr' : ((62 : Int) == r) = false := beq_eq_false_iff_ne.2 (Ne.symm hr)
        go_wp2
        go_roundg (gk - 1)
        case measure => omega
        case rel => exact ⟨2, by omega, rfl, hbw.alloc hbw.size _, by omega, by omega, by omega, by omega⟩
    · by_cases hr : r = 38
      · subst hr
        go_wp2
        go_ret
        exact ⟨rfl, hbw.alloc hbw.size _⟩
      · have hr' : ((38 : Int) == r) = false := beq_eq_false_iff_ne.2 (Ne.symm hr)
        go_wp2
        go_roundg (gk - 1)
        case measure => omega
        case rel => exact ⟨3, by omega, rfl, hbw.alloc hbw.size _, by omega, by omega, by omega, by omega⟩
    · by_cases hr : r = 34
      · subst hr
        go_wp2
        go_ret
        exact ⟨rfl, hbw.alloc hbw.size _⟩
      · have hr' : ((34 : Int) == r) = false := beq_eq_false_iff_ne.2 (Ne.symm hr)
        go_wp2
        go_roundg (gk - 1)
        case measure => omega
        case rel => exact ⟨4, by omega, rfl, hbw.alloc hbw.size _, by omega, by omega, by omega, by omega⟩
    · have HE : Hid (Utf8.encode r = ⟨(wrL r).toArray⟩) := by
        show _ = _
        simp only [plainB, decide_eq_true_eq] at hp
        rw [Mk.encode_small r (by omega) (by omega), Mk.wrL_plain r (h0 (by omega)) (h1 (by omega)) (h2 (by omega)) (h3 (by omega))]
      go_wp2
      go_ret
      exact ⟨by rw [HE.out]; rfl, hbw⟩

/-- The escapes, in the table's order. -/
def Mk.meantL (l : List UInt8) : UInt8 × Nat :=
  if l.head? = some 38 then
    if Lib.hasPrefix l [38, 108, 116, 59] then (60, 4) else if Lib.hasPrefix l [38, 103, 116, 59] then (62, 4) else if Lib.hasPrefix l [38, 97, 109, 112, 59] then (38, 5) else if Lib.hasPrefix l [38, 113, 117, 111, 116, 59] then (34, 6) else (0, 0)
  else match l with
    | [] => (0, 0)
    | c :: _ => if c = 60 ∨ bplain c = false then (0, 0) else (c, 1)

theorem Mk.head_of (t : ByteArray) (h : 0 < t.size) : t.data.toList.head? = some t[0] := by
  obtain ⟨⟨l⟩⟩ := t
  cases l with
  | nil => simp [ByteArray.size] at h
  | cons c r => rfl

set_option maxHeartbeats 2000000 in
theorem Tryd.meant_esc (t : ByteArray) (w : World) (h : Mk.Esc w) (_hs : t.size ≤ 20000) (h0 : 0 < t.size) (hc : t[0] = 38) :
    Calls Tryd.prog 83 #[.string t] w fun e w' => e = .returned (.tuple #[.int .u8 (Mk.meantL t.data.toList).1.toNat, .int .i64 (Mk.meantL t.data.toList).2]) ∧ Below w.heap.size w w' := by
  obtain ⟨ty, fz, hE⟩ := h
  have hu := Tryd.underlying145
  have h38 : t.data.toList.head? = some 38 := by rw [Mk.head_of t h0, hc]
  have H38 : Hid (t.data.toList.head? = some 38) := h38
  have hcn : ((t[0].toNat : Int) == 38) = true := by rw [hc]; rfl
  clear hc h38
  have i0 : ∀ w : World, (Instr.index 145 (.agg Mk.escVals) (.int .i64 0)).run Tryd.prog w = .ok (.agg #[.int .i32 60, .string ⟨#[38, 108, 116, 59]⟩]) w := fun _ => by kernel_rfl
  have i1 : ∀ w : World, (Instr.index 145 (.agg Mk.escVals) (.int .i64 1)).run Tryd.prog w = .ok (.agg #[.int .i32 62, .string ⟨#[38, 103, 116, 59]⟩]) w := fun _ => by kernel_rfl
  have i2 : ∀ w : World, (Instr.index 145 (.agg Mk.escVals) (.int .i64 2)).run Tryd.prog w = .ok (.agg #[.int .i32 38, .string ⟨#[38, 97, 109, 112, 59]⟩]) w := fun _ => by kernel_rfl
  have i3 : ∀ w : World, (Instr.index 145 (.agg Mk.escVals) (.int .i64 3)).run Tryd.prog w = .ok (.agg #[.int .i32 34, .string ⟨#[38, 113, 117, 111, 116, 59]⟩]) w := fun _ => by kernel_rfl
  go_enter Tryd.func83, Tryd.ntmps83
  go_wp2_with (refine wpList_load_row rfl 145 _ rfl 0 rfl ty Mk.escVals fz _ hE hu rfl (by kernel_rfl) ?_)
  go_loopg [10] 4 (fun g i wr => ∃ k : Nat, g + k = 4 ∧ i = .int .i64 k ∧ Below w.heap.size w wr ∧ (0 < k → Lib.hasPrefix t.data.toList [38, 108, 116, 59] = false) ∧ (1 < k → Lib.hasPrefix t.data.toList [38, 103, 116, 59] = false) ∧ (2 < k → Lib.hasPrefix t.data.toList [38, 97, 109, 112, 59] = false) ∧ (3 < k → Lib.hasPrefix t.data.toList [38, 113, 117, 111, 116, 59] = false))
  case atStart => exact ⟨0, by omega, rfl, Below.refl _ _, by omega, by omega, by omega, by omega⟩
  case round =>
    obtain ⟨k, hg, rfl, hbw, h0, h1, h2, h3⟩ := hrel
    have hk5 : k = 0 ∨ k = 1 ∨ k = 2 ∨ k = 3 ∨ k = 4 := by omega
    have h38 := H38.out
    rcases hk5 with rfl | rfl | rfl | rfl | rfl
    · cases hpx : Lib.hasPrefix t.data.toList [38, 108, 116, 59]
      · go_wp2_with (go_at_call 80; refine (Tryd.strings_HasPrefix _ _ _).mono ?_; rintro e w' ⟨rfl, rfl⟩)
        go_roundg (gk - 1)
        case measure => omega
        case rel => exact ⟨1, by omega, rfl, hbw.alloc hbw.size _, fun _ => hpx, by omega, by omega, by omega⟩
      · have HM : Hid (meantL t.data.toList = (60, 4)) := by
          show _ = _
          simp [meantL, h38, hpx]
        go_wp2_with (go_at_call 80; refine (Tryd.strings_HasPrefix _ _ _).mono ?_; rintro e w' ⟨rfl, rfl⟩)
        go_quiet (fail)
        go_wp2
        go_ret2
        exact ⟨by rw [HM.out]; rfl, below_drewN (hbw.alloc hbw.size _) _⟩
    · cases hpx : Lib.hasPrefix t.data.toList [38, 103, 116, 59]
      · go_wp2_with (go_at_call 80; refine (Tryd.strings_HasPrefix _ _ _).mono ?_; rintro e w' ⟨rfl, rfl⟩)
        go_roundg (gk - 1)
        case measure => omega
        case rel => exact ⟨2, by omega, rfl, hbw.alloc hbw.size _, fun _ => h0 (by omega), fun _ => hpx, by omega, by omega⟩
      · have HM : Hid (meantL t.data.toList = (62, 4)) := by
          show _ = _
          simp [meantL, h38, h0 (by omega), hpx]
        go_wp2_with (go_at_call 80; refine (Tryd.strings_HasPrefix _ _ _).mono ?_; rintro e w' ⟨rfl, rfl⟩)
        go_quiet (fail)
        go_wp2
        go_ret2
        exact ⟨by rw [HM.out]; rfl, below_drewN (hbw.alloc hbw.size _) _⟩
    · cases hpx : Lib.hasPrefix t.data.toList [38, 97, 109, 112, 59]
      · go_wp2_with (go_at_call 80; refine (Tryd.strings_HasPrefix _ _ _).mono ?_; rintro e w' ⟨rfl, rfl⟩)
        go_roundg (gk - 1)
        case measure => omega
        case rel => exact ⟨3, by omega, rfl, hbw.alloc hbw.size _, fun _ => h0 (by omega), fun _ => h1 (by omega), fun _ => hpx, by omega⟩
      · have HM : Hid (meantL t.data.toList = (38, 5)) := by
          show _ = _
          simp [meantL, h38, h0 (by omega), h1 (by omega), hpx]
        go_wp2_with (go_at_call 80; refine (Tryd.strings_HasPrefix _ _ _).mono ?_; rintro e w' ⟨rfl, rfl⟩)
        go_quiet (fail)
        go_wp2
        go_ret2
        exact ⟨by rw [HM.out]; rfl, below_drewN (hbw.alloc hbw.size _) _⟩
    · cases hpx : Lib.hasPrefix t.data.toList [38, 113, 117, 111, 116, 59]
      · go_wp2_with (go_at_call 80; refine (Tryd.strings_HasPrefix _ _ _).mono ?_; rintro e w' ⟨rfl, rfl⟩)
        go_roundg (gk - 1)
        case measure => omega
        case rel => exact ⟨4, by omega, rfl, hbw.alloc hbw.size _, fun _ => h0 (by omega), fun _ => h1 (by omega), fun _ => h2 (by omega), fun _ => hpx⟩
      · have HM : Hid (meantL t.data.toList = (34, 6)) := by
          show _ = _
          simp [meantL, h38, h0 (by omega), h1 (by omega), h2 (by omega), hpx]
        go_wp2_with (go_at_call 80; refine (Tryd.strings_HasPrefix _ _ _).mono ?_; rintro e w' ⟨rfl, rfl⟩)
        go_quiet (fail)
        go_wp2
        go_ret2
        exact ⟨by rw [HM.out]; rfl, below_drewN (hbw.alloc hbw.size _) _⟩
    · have HM : Hid (meantL t.data.toList = (0, 0)) := by
        show _ = _
        simp [meantL, h38, h0 (by omega), h1 (by omega), h2 (by omega), h3 (by omega)]
      go_wp2
      go_ret2
      exact ⟨by rw [HM.out]; rfl, hbw⟩

set_option maxHeartbeats 2000000 in
theorem Tryd.meant_not (t : ByteArray) (w : World) (_hs : t.size ≤ 20000) (h0 : 0 < t.size) (hc : t[0] ≠ 38) :
    Calls Tryd.prog 83 #[.string t] w fun e w' => e = .returned (.tuple #[.int .u8 (Mk.meantL t.data.toList).1.toNat, .int .i64 (Mk.meantL t.data.toList).2]) ∧ Below w.heap.size w w' := by
  have hne : t.data.toList.head? ≠ some 38 := by rw [Mk.head_of t h0]; simpa using hc
  obtain ⟨r, hr⟩ : ∃ r, t.data.toList = t[0] :: r := by
    have := Mk.head_of t h0
    cases hl : t.data.toList with
    | nil => rw [hl] at this; cases this
    | cons c r => rw [hl] at this; exact ⟨r, by rw [Option.some.inj this]⟩
  have HM : Hid (meantL t.data.toList = if t[0] = 60 ∨ bplain t[0] = false then ((0, 0) : UInt8 × Nat) else (t[0], 1)) := by
    show _ = _
    unfold meantL
    rw [if_neg hne, hr]
  have hcn : ((t[0].toNat : Int) == 38) = false := beq_eq_false_iff_ne.2 (fun e => hc (by
    apply UInt8.toNat_inj.1
    have : t[0].toNat = 38 := by omega
    rw [this]; rfl))
  have hw := Mk.wrap32_byte t[0]
  clear hne hr hc
  by_cases h60 : t[0] = 60
  · have h60' : ((t[0].toNat : Int) == 60) = true := by rw [h60]; rfl
    have HV : Hid (meantL t.data.toList = (0, 0)) := by rw [HM.out, if_pos (.inl h60)]; rfl
    clear h60
    go_enter Tryd.func83, Tryd.ntmps83
    go_wp2
    go_ret2
    exact ⟨by rw [HV.out]; rfl, Below.refl _ _⟩
  · have h60' : ((t[0].toNat : Int) == 60) = false := beq_eq_false_iff_ne.2 (fun e => h60 (by
      apply UInt8.toNat_inj.1
      have : t[0].toNat = 60 := by omega
      rw [this]; rfl))
    cases hb : plainB (t[0].toNat : Int)
    · have HV : Hid (meantL t.data.toList = (0, 0)) := by rw [HM.out, if_pos (.inr hb)]; rfl
      clear h60
      go_enter Tryd.func83, Tryd.ntmps83
      go_wp2_with (go_at_call 78; refine (Tryd.plain_any _ _).mono ?_; rintro e w' ⟨rfl, rfl⟩)
      go_ret2
      exact ⟨by rw [HV.out]; rfl, Below.refl _ _⟩
    · have HV : Hid (meantL t.data.toList = (t[0], 1)) := by
        rw [HM.out, if_neg (by rintro (e | e); exact h60 e; simp [bplain, hb] at e)]; rfl
      clear h60
      go_enter Tryd.func83, Tryd.ntmps83
      go_wp2_with (go_at_call 78; refine (Tryd.plain_any _ _).mono ?_; rintro e w' ⟨rfl, rfl⟩)
      go_ret2
      exact ⟨by rw [HV.out]; rfl, Below.refl _ _⟩

theorem Tryd.meant_any (t : ByteArray) (w : World) (h : Mk.Esc w) (hs : t.size ≤ 20000) (h0 : 0 < t.size) :
    Calls Tryd.prog 83 #[.string t] w fun e w' => e = .returned (.tuple #[.int .u8 (Mk.meantL t.data.toList).1.toNat, .int .i64 (Mk.meantL t.data.toList).2]) ∧ Below w.heap.size w w' := by
  by_cases hc : t[0] = 38
  · exact Tryd.meant_esc t w h hs h0 hc
  · exact Tryd.meant_not t w hs h0 hc

end Go.Proofs
