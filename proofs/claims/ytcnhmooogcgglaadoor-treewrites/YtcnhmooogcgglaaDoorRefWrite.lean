/-
  The contract of the document's Write: any mark's bytes, or why it has none.
-/
import Derived.Test.YtcnhmooogcgglaaDoorWMark
import Derived.Test.YtcnhmooogcgglaaDoorRefHas
namespace Go.Proofs
open Go.RowKit
open Go.Proofs.Mk

set_option maxHeartbeats 4000000 in
theorem Tryd.refWrite_text (at_ : Int) (nm tx : ByteArray) (a : Option Addr) (n c : Nat) (w : World) (hs : tx.size ≤ 1000000000) :
    Calls Tryd.prog 60 #[.agg #[.int .i64 3, .int .i64 at_, .string nm, .slice a n c, .string tx]] w fun e w' =>
      e = .returned (.tuple #[.string (Mk.wText nm tx n).1, .int .i64 (Mk.wText nm tx n).2]) ∧ Below w.heap.size w w' := by
  obtain ⟨r, hr⟩ : ∃ r, Mk.wText nm tx n = r := ⟨_, rfl⟩
  have HR : Hid (Mk.wText nm tx n = r) := hr
  rw [hr]
  clear hr
  have B0 : Below w.heap.size w (w.alloc (.cells #[.int .i64 3, .int .i64 at_, .string nm, .slice a n c, .string tx] 34)) := (Below.refl _ w).alloc (Nat.le_refl _) _
  by_cases hm : nm = ⟨#[]⟩
  · have hb2 : nm.toList.isEmpty = true := Mk.empty_yes hm
    by_cases h0 : n = 0
    · subst h0
      by_cases ht : tx = ⟨#[]⟩
      · have HV : Hid (r = (⟨#[]⟩, 4)) := by show _ = _; rw [← HR.out, Mk.wText, if_pos (.inl ht)]
        have hb : tx.toList.isEmpty = true := Mk.empty_yes ht
        clear ht hm
        go_enter Tryd.func60, Tryd.ntmps60
        go_wp2
        go_ret2
        exact ⟨by rw [HV.out]; rfl, B0⟩
      · have hb : tx.toList.isEmpty = false := Mk.empty_no ht
        have HV : Hid (r = (⟨(Mk.escText tx.data.toList).toArray⟩, Mk.escErr tx.data.toList)) := by show _ = _; rw [← HR.out, Mk.wText, if_neg (by intro h; exact h.elim ht (fun h => h.elim (fun h => h hm) (fun h => h rfl)))]
        clear ht hm
        go_enter Tryd.func60, Tryd.ntmps60
        go_wp2_with fail
        refine (Tryd.refEscape_any tx _ hs).mono ?_
        rintro e W1 ⟨rfl, rfl⟩
        go_wp2
        go_ret2
        exact ⟨by rw [HV.out]; rfl, B0⟩
    · have HV : Hid (r = (⟨#[]⟩, 4)) := by show _ = _; rw [← HR.out, Mk.wText, if_pos (.inr (.inr h0))]
      obtain ⟨n, rfl⟩ : ∃ k, n = k + 1 := ⟨n - 1, by omega⟩
      have hd : (((n + 1 : Nat) : Int) == 0) = false := beq_eq_false_iff_ne.2 (by omega)
      clear h0 hm
      go_enter Tryd.func60, Tryd.ntmps60
      go_wp2
      go_ret2
      exact ⟨by rw [HV.out]; rfl, B0⟩
  · have HV : Hid (r = (⟨#[]⟩, 4)) := by show _ = _; rw [← HR.out, Mk.wText, if_pos (.inr (.inl hm))]
    have hb2 : nm.toList.isEmpty = false := Mk.empty_no hm
    clear hm
    go_enter Tryd.func60, Tryd.ntmps60
    go_wp2
    go_ret2
    exact ⟨by rw [HV.out]; rfl, B0⟩

set_option maxHeartbeats 4000000 in
theorem Tryd.refWrite_close (at_ : Int) (nm tx : ByteArray) (a : Option Addr) (n c : Nat) (w : World) (hs : nm.size ≤ maxLen) :
    Calls Tryd.prog 60 #[.agg #[.int .i64 2, .int .i64 at_, .string nm, .slice a n c, .string tx]] w fun e w' =>
      e = .returned (.tuple #[.string (Mk.wClose nm tx n).1, .int .i64 (Mk.wClose nm tx n).2]) ∧ Below w.heap.size w w' := by
  obtain ⟨r, hr⟩ : ∃ r, Mk.wClose nm tx n = r := ⟨_, rfl⟩
  have HR : Hid (Mk.wClose nm tx n = r) := hr
  rw [hr]
  clear hr
  have B0 : Below w.heap.size w (w.alloc (.cells #[.int .i64 2, .int .i64 at_, .string nm, .slice a n c, .string tx] 34)) := (Below.refl _ w).alloc (Nat.le_refl _) _
  have HN := Tryd.refName_any nm (w.alloc (.cells #[.int .i64 2, .int .i64 at_, .string nm, .slice a n c, .string tx] 34)) hs
  cases hn : nameL nm.data.toList
  · have HV : Hid (r = (⟨#[]⟩, 4)) := by show _ = _; rw [← HR.out, Mk.wClose, if_neg (by rw [hn]; simp)]
    go_enter Tryd.func60, Tryd.ntmps60
    go_wp2_with fail
    refine HN.mono ?_
    rintro e W1 ⟨rfl, rfl⟩
    go_wp2
    go_ret2
    exact ⟨by rw [HV.out]; rfl, B0⟩
  · have hnm : nm.size ≤ 24 := ((nameL_iff _).1 hn).1.2
    by_cases ht : tx = ⟨#[]⟩
    · have hb : tx.toList.isEmpty = true := Mk.empty_yes ht
      by_cases h0 : n = 0
      · have HV : Hid (r = (⟨#[60, 47]⟩ ++ nm ++ ⟨#[62]⟩, 0)) := by show _ = _; rw [← HR.out, Mk.wClose, if_pos ⟨hn, ht, h0⟩]
        subst h0
        clear ht
        go_enter Tryd.func60, Tryd.ntmps60
        go_wp2_with fail
        refine HN.mono ?_
        rintro e W1 ⟨rfl, rfl⟩
        go_wp2
        go_ret2
        exact ⟨by rw [HV.out]; rfl, B0⟩
      · have HV : Hid (r = (⟨#[]⟩, 4)) := by show _ = _; rw [← HR.out, Mk.wClose, if_neg (by intro h; exact h0 h.2.2)]
        obtain ⟨n, rfl⟩ : ∃ k, n = k + 1 := ⟨n - 1, by omega⟩
        have hd : (((n + 1 : Nat) : Int) == 0) = false := beq_eq_false_iff_ne.2 (by omega)
        clear ht h0
        go_enter Tryd.func60, Tryd.ntmps60
        go_wp2_with fail
        refine HN.mono ?_
        rintro e W1 ⟨rfl, rfl⟩
        go_wp2
        go_ret2
        exact ⟨by rw [HV.out]; rfl, B0⟩
    · have HV : Hid (r = (⟨#[]⟩, 4)) := by show _ = _; rw [← HR.out, Mk.wClose, if_neg (by intro h; exact ht h.2.1)]
      have hb : tx.toList.isEmpty = false := Mk.empty_no ht
      clear ht
      go_enter Tryd.func60, Tryd.ntmps60
      go_wp2_with fail
      refine HN.mono ?_
      rintro e W1 ⟨rfl, rfl⟩
      go_wp2
      go_ret2
      exact ⟨by rw [HV.out]; rfl, B0⟩

set_option maxHeartbeats 4000000 in
theorem Tryd.refWrite_arg (kd at_ : Int) (nm tx : ByteArray) (a : Option Addr) (n c : Nat) (w : World) (h : kd < 1 ∨ 3 < kd) :
    Calls Tryd.prog 60 #[.agg #[.int .i64 kd, .int .i64 at_, .string nm, .slice a n c, .string tx]] w fun e w' =>
      e = .returned (.tuple #[.string ⟨#[]⟩, .int .i64 1]) ∧ Below w.heap.size w w' := by
  have B0 : Below w.heap.size w (w.alloc (.cells #[.int .i64 kd, .int .i64 at_, .string nm, .slice a n c, .string tx] 34)) := (Below.refl _ w).alloc (Nat.le_refl _) _
  by_cases h1 : kd < 1
  · have d1 : decide (kd < 1) = true := decide_eq_true h1
    clear h h1
    go_enter Tryd.func60, Tryd.ntmps60
    go_wp2
    go_ret2
    exact ⟨rfl, B0⟩
  · have d1 : decide (kd < 1) = false := decide_eq_false h1
    have d3 : decide (3 < kd) = true := decide_eq_true (by omega)
    clear h h1
    go_enter Tryd.func60, Tryd.ntmps60
    go_wp2
    go_ret2
    exact ⟨rfl, B0⟩

end Go.Proofs
