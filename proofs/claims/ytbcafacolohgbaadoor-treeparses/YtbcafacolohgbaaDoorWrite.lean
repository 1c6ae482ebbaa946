/-
  The contracts of writeClose and writeText: a mark's bytes, or that it has none.
-/
import Derived.Test.YtbcafacolohgbaaDoorEscape
namespace Go.Proofs
open Go.RowKit
open Go.Proofs.Mk

/-- The number of attributes that a slice's value tells. -/
theorem Mk.AttrsAt.shape {w : World} {v : Value} {xs : List (ByteArray × ByteArray)} (h : Mk.AttrsAt w v xs) : ∃ a c, v = .slice a xs.length c := by
  rcases h with ⟨a, c, rfl, rfl⟩ | ⟨g, off, cap, rfl, _⟩
  · exact ⟨a, c, rfl⟩
  · exact ⟨_, _, rfl⟩

/-- A closing mark's bytes and its error's number. -/
def Mk.wClose (nm tx : ByteArray) (n : Nat) : ByteArray × Int :=
  if nameL nm.data.toList = true ∧ tx = ⟨#[]⟩ ∧ n = 0 then (⟨#[60, 47]⟩ ++ nm ++ ⟨#[62]⟩, 0) else (⟨#[]⟩, 4)
/-- A text's. -/
def Mk.wText (nm tx : ByteArray) (n : Nat) : ByteArray × Int :=
  if tx = ⟨#[]⟩ ∨ nm ≠ ⟨#[]⟩ ∨ n ≠ 0 then (⟨#[]⟩, 4) else (⟨(Mk.escText tx.data.toList).toArray⟩, Mk.escErr tx.data.toList)

theorem Mk.empty_yes {t : ByteArray} (h : t = ⟨#[]⟩) : t.toList.isEmpty = true := by
  have : t.toList = [] := by rw [h, Lib.toList_data]
  rw [this]; rfl
theorem Mk.empty_no {t : ByteArray} (h : t ≠ ⟨#[]⟩) : t.toList.isEmpty = false := by
  cases he : t.toList.isEmpty
  · rfl
  · exact absurd (Mk.str_ext ((List.isEmpty_iff.1 he).trans (by rw [Lib.toList_data]))) h

/-- A mark in a block of its own. -/
def Mk.Box (b : Nat) (kd at_ : Int) (nm : ByteArray) (va : Value) (tx : ByteArray) (w : World) : Prop :=
  w.heap[b]? = some (.cells #[.int .i64 kd, .int .i64 at_, .string nm, va, .string tx] 78)
theorem Mk.Box.lt {b : Nat} {kd at_ : Int} {nm tx : ByteArray} {va : Value} {w : World} (h : Mk.Box b kd at_ nm va tx w) : b < w.heap.size := (Array.getElem?_eq_some_iff.1 h).1
theorem Mk.Box.new (kd at_ : Int) (nm tx : ByteArray) (va : Value) (w : World) : Mk.Box w.heap.size kd at_ nm va tx (w.alloc (.cells #[.int .i64 kd, .int .i64 at_, .string nm, va, .string tx] 78)) := heap_alloc_new w _
theorem Mk.Box.kept {b B : Nat} {kd at_ : Int} {nm tx : ByteArray} {va : Value} {w w' : World} (h : Mk.Box b kd at_ nm va tx w) (hb : Below B w w') (hB : b < B) : Mk.Box b kd at_ nm va tx w' := by
  unfold Mk.Box; rw [hb.block b hB]; exact h
theorem Mk.Box.cells {b : Nat} {kd at_ : Int} {nm tx : ByteArray} {va : Value} {w : World} (h : Mk.Box b kd at_ nm va tx w) :
    w.cell? ⟨b, 0, none⟩ = some (.int .i64 kd) ∧ w.cell? ⟨b, 2, none⟩ = some (.string nm) ∧ w.cell? ⟨b, 3, none⟩ = some va ∧ w.cell? ⟨b, 4, none⟩ = some (.string tx) := by
  unfold Mk.Box at h
  refine ⟨?_, ?_, ?_, ?_⟩ <;> simp [World.cell?, h]

set_option maxHeartbeats 2000000 in
theorem Tryd.writeClose_any (kd at_ : Int) (nm tx : ByteArray) (a : Option Addr) (n c : Nat) (w : World) (hs : nm.size ≤ maxLen) :
    Calls Tryd.prog 55 #[.agg #[.int .i64 kd, .int .i64 at_, .string nm, .slice a n c, .string tx]] w fun e w' =>
      e = .returned (.tuple #[.string (Mk.wClose nm tx n).1, .int .i64 (Mk.wClose nm tx n).2]) ∧ Below w.heap.size w w' := by
  obtain ⟨r, hr⟩ : ∃ r, Mk.wClose nm tx n = r := ⟨_, rfl⟩
  have HR : Hid (Mk.wClose nm tx n = r) := hr
  rw [hr]
  clear hr
  have B0 : Below w.heap.size w (w.alloc (.cells #[.int .i64 kd, .int .i64 at_, .string nm, .slice a n c, .string tx] 78)) := (Below.refl _ w).alloc (Nat.le_refl _) _
  have X0 := Mk.Box.new kd at_ nm tx (.slice a n c) w
  go_enter Tryd.func55, Tryd.ntmps55
  go_wp2_with fail
  refine (Tryd.name_any nm _ hs).mono ?_
  rintro e W1 ⟨rfl, b1⟩
  have X1 := X0.kept b1 (by simp)
  have B1 := B0.trans (b1.mono (by simp))
  have hz := X1.lt
  obtain ⟨-, c2, c3, c4⟩ := X1.cells
  clear X0 X1 B0 b1
  cases hn : nameL nm.data.toList
  · have HV : Hid (r = (⟨#[]⟩, 4)) := by show _ = _; rw [← HR.out, Mk.wClose, if_neg (by rw [hn]; simp)]
    go_wp2
    go_ret2
    exact ⟨by rw [HV.out]; rfl, B1⟩
  · have hnm : nm.size ≤ 24 := ((nameL_iff _).1 hn).1.2
    by_cases ht : tx = ⟨#[]⟩
    · have hb : tx.toList.isEmpty = true := Mk.empty_yes ht
      by_cases h0 : n = 0
      · have HV : Hid (r = (⟨#[60, 47]⟩ ++ nm ++ ⟨#[62]⟩, 0)) := by show _ = _; rw [← HR.out, Mk.wClose, if_pos ⟨hn, ht, h0⟩]
        have hd : decide (0 < n) = false := decide_eq_false (by omega)
        clear ht h0
        go_wp2
        go_ret2
        exact ⟨by rw [HV.out]; rfl, B1⟩
      · have HV : Hid (r = (⟨#[]⟩, 4)) := by show _ = _; rw [← HR.out, Mk.wClose, if_neg (by intro h; exact h0 h.2.2)]
        have hd : decide (0 < n) = true := decide_eq_true (by omega)
        clear ht h0
        go_wp2
        go_ret2
        exact ⟨by rw [HV.out]; rfl, B1⟩
    · have HV : Hid (r = (⟨#[]⟩, 4)) := by show _ = _; rw [← HR.out, Mk.wClose, if_neg (by intro h; exact ht h.2.1)]
      have hb : tx.toList.isEmpty = false := Mk.empty_no ht
      clear ht
      go_wp2
      go_ret2
      exact ⟨by rw [HV.out]; rfl, B1⟩

set_option maxHeartbeats 2000000 in
theorem Tryd.writeText_any (kd at_ : Int) (nm tx : ByteArray) (a : Option Addr) (n c : Nat) (w : World) (hE : Mk.Esc w) (hs : tx.size ≤ 1000000000) :
    Calls Tryd.prog 56 #[.agg #[.int .i64 kd, .int .i64 at_, .string nm, .slice a n c, .string tx]] w fun e w' =>
      e = .returned (.tuple #[.string (Mk.wText nm tx n).1, .int .i64 (Mk.wText nm tx n).2]) ∧ Below w.heap.size w w' := by
  obtain ⟨r, hr⟩ : ∃ r, Mk.wText nm tx n = r := ⟨_, rfl⟩
  have HR : Hid (Mk.wText nm tx n = r) := hr
  rw [hr]
  clear hr
  have B0 : Below w.heap.size w (w.alloc (.cells #[.int .i64 kd, .int .i64 at_, .string nm, .slice a n c, .string tx] 78)) := (Below.refl _ w).alloc (Nat.le_refl _) _
  have HE : Hid (Mk.Esc (w.alloc (.cells #[.int .i64 kd, .int .i64 at_, .string nm, .slice a n c, .string tx] 78))) := hE.kept (World.grownBy_alloc w _ none) (by simp)
  clear hE
  by_cases ht : tx = ⟨#[]⟩
  · have HV : Hid (r = (⟨#[]⟩, 4)) := by show _ = _; rw [← HR.out, Mk.wText, if_pos (.inl ht)]
    have hb : tx.toList.isEmpty = true := Mk.empty_yes ht
    clear ht
    go_enter Tryd.func56, Tryd.ntmps56
    go_wp2
    go_ret2
    exact ⟨by rw [HV.out]; rfl, B0⟩
  · have hb : tx.toList.isEmpty = false := Mk.empty_no ht
    by_cases hm : nm = ⟨#[]⟩
    · have hb2 : nm.toList.isEmpty = true := Mk.empty_yes hm
      by_cases h0 : n = 0
      · have HV : Hid (r = (⟨(Mk.escText tx.data.toList).toArray⟩, Mk.escErr tx.data.toList)) := by show _ = _; rw [← HR.out, Mk.wText, if_neg (by intro h; exact h.elim ht (fun h => h.elim (fun h => h hm) (fun h => h h0)))]
        have hd : decide (0 < n) = false := decide_eq_false (by omega)
        clear ht hm h0
        go_enter Tryd.func56, Tryd.ntmps56
        go_wp2_with fail
        refine (Tryd.escape_any tx _ (by exact HE.out) hs).mono ?_
        rintro e W1 ⟨rfl, b1⟩
        go_wp2
        go_ret2
        exact ⟨by rw [HV.out]; rfl, B0.trans (b1.mono (by simp))⟩
      · have HV : Hid (r = (⟨#[]⟩, 4)) := by show _ = _; rw [← HR.out, Mk.wText, if_pos (.inr (.inr h0))]
        have hd : decide (0 < n) = true := decide_eq_true (by omega)
        clear ht hm h0
        go_enter Tryd.func56, Tryd.ntmps56
        go_wp2
        go_ret2
        exact ⟨by rw [HV.out]; rfl, B0⟩
    · have HV : Hid (r = (⟨#[]⟩, 4)) := by show _ = _; rw [← HR.out, Mk.wText, if_pos (.inr (.inl hm))]
      have hb2 : nm.toList.isEmpty = false := Mk.empty_no hm
      clear ht hm
      go_enter Tryd.func56, Tryd.ntmps56
      go_wp2
      go_ret2
      exact ⟨by rw [HV.out]; rfl, B0⟩

end Go.Proofs
