/-
  The contract of the document's Write at any mark, and of the law's large: more than 100 attributes, more than 2000 bytes of text, or more than 3000 bytes of attributes.
-/
import Derived.Test.YtcnhmooogcgglaaDoorRefWriteO
namespace Go.Proofs
open Go.RowKit
open Go.Proofs.Mk

theorem Tryd.refWrite_any (kd at_ : Int) (nm tx : ByteArray) (a : Option Addr) (c : Nat) (xs : List (ByteArray × ByteArray)) (w : World) (hA : Mk.AttrsAt w (.slice a xs.length c) xs) (hs : nm.size ≤ maxLen)
    (hv : ∀ j (h : j < xs.length), xs[j].1.size ≤ 1000000 ∧ xs[j].2.size ≤ 1000000) (ht : tx.size ≤ 1000000000) :
    Calls Tryd.prog 60 #[.agg #[.int .i64 kd, .int .i64 at_, .string nm, .slice a xs.length c, .string tx]] w fun e w' =>
      e = .returned (.tuple #[.string (Mk.wMark kd nm tx xs).1, .int .i64 (Mk.wMark kd nm tx xs).2]) ∧ Below w.heap.size w w' := by
  by_cases h1 : kd = 1
  · subst h1
    rw [show Mk.wMark 1 nm tx xs = Mk.wOpen nm tx xs by rw [Mk.wMark, if_pos rfl]]
    exact Tryd.refWrite_open at_ nm tx a c xs w hA hs hv
  · by_cases h2 : kd = 2
    · subst h2
      rw [show Mk.wMark 2 nm tx xs = Mk.wClose nm tx xs.length by rw [Mk.wMark, if_neg (by decide), if_pos rfl]]
      exact Tryd.refWrite_close at_ nm tx a _ c w hs
    · by_cases h3 : kd = 3
      · subst h3
        rw [show Mk.wMark 3 nm tx xs = Mk.wText nm tx xs.length by rw [Mk.wMark, if_neg (by decide), if_neg (by decide), if_pos rfl]]
        exact Tryd.refWrite_text at_ nm tx a _ c w ht
      · rw [show Mk.wMark kd nm tx xs = (⟨#[]⟩, 1) by rw [Mk.wMark, if_neg h1, if_neg h2, if_neg h3]]
        exact Tryd.refWrite_arg kd at_ nm tx a _ c w (by omega)

/-- The bytes of attributes. -/
def Mk.bytesOf (xs : List (ByteArray × ByteArray)) : Nat := (xs.map fun x => x.2.size + x.1.size).sum
theorem Mk.bytesOf_snoc (xs : List (ByteArray × ByteArray)) (k : Nat) (h : k < xs.length) : Mk.bytesOf (xs.take (k + 1)) = Mk.bytesOf (xs.take k) + (xs[k].2.size + xs[k].1.size) := by
  rw [List.take_succ_eq_append_getElem h]
  simp only [Mk.bytesOf, List.map_append, List.map_cons, List.map_nil, List.sum_append, List.sum_cons, List.sum_nil, Nat.add_zero]

/-- large: its answer is true, or the mark is no more than this. -/
def Mk.Small (tx : ByteArray) (xs : List (ByteArray × ByteArray)) : Prop := xs.length ≤ 100 ∧ tx.size ≤ 2000 ∧ ∀ j (h : j < xs.length), xs[j].1.size ≤ 3000 ∧ xs[j].2.size ≤ 3000

set_option maxHeartbeats 4000000 in
theorem Tryd.large_any (kd at_ : Int) (nm tx : ByteArray) (a : Option Addr) (c : Nat) (xs : List (ByteArray × ByteArray)) (w : World) (hA : Mk.AttrsAt w (.slice a xs.length c) xs) (hl : xs.length ≤ 140737488355328) (ht : tx.size ≤ 140737488355328)
    (hv : ∀ j (h : j < xs.length), xs[j].1.size ≤ 140737488355328 ∧ xs[j].2.size ≤ 140737488355328) :
    Calls Tryd.prog 10 #[.agg #[.int .i64 kd, .int .i64 at_, .string nm, .slice a xs.length c, .string tx]] w fun e w' =>
      (∃ b : Bool, e = .returned (.bool b) ∧ (b = false → Mk.Small tx xs)) ∧ Below w.heap.size w w' := by
  have B0 : Below w.heap.size w (w.alloc (.cells #[.int .i64 kd, .int .i64 at_, .string nm, .slice a xs.length c, .string tx] 27)) := (Below.refl _ w).alloc (Nat.le_refl _) _
  have HV : Hid (∀ j (h : j < xs.length), xs[j].1.size ≤ 140737488355328 ∧ xs[j].2.size ≤ 140737488355328) := hv
  have HA : Hid (Mk.AttrsAt w (.slice a xs.length c) xs) := hA
  clear hv hA
  by_cases h1 : xs.length ≤ 100
  · have d1 : decide ((100 : Int) < xs.length) = false := decide_eq_false (by omega)
    by_cases h2 : tx.size ≤ 2000
    · have d2 : decide ((2000 : Int) < tx.size) = false := decide_eq_false (by omega)
      go_enter Tryd.func10, Tryd.ntmps10
      go_wp2
      go_loopg [3, 19] xs.length (fun n s i wr => ∃ (k t : Nat), n + k = xs.length ∧ i = .int .i64 k ∧ s = .int .i64 t ∧ t ≤ 3000 ∧ Below w.heap.size w wr ∧ Hid (∀ j (h : j < xs.length), j < k → xs[j].1.size ≤ 3000 ∧ xs[j].2.size ≤ 3000))
      case atStart => exact ⟨0, 0, by omega, rfl, rfl, by omega, B0, fun j h hk => by omega⟩
      case round =>
        obtain ⟨k, t, hk, rfl, rfl, ht3, hbw, HS⟩ := hrel
        by_cases hkl : k < xs.length
        · have hd : decide ((k : Int) < xs.length) = true := decide_eq_true (by omega)
          obtain ⟨x1, hx1⟩ : ∃ x, xs[k].1 = x := ⟨_, rfl⟩
          obtain ⟨x2, hx2⟩ : ∃ x, xs[k].2 = x := ⟨_, rfl⟩
          obtain ⟨hs1, hs2⟩ := HV.out k hkl
          rw [hx1] at hs1
          rw [hx2] at hs2
          have HX1 : Hid (xs[k].1 = x1) := hx1
          have HX2 : Hid (xs[k].2 = x2) := hx2
          obtain ⟨g, off, rfl, hg, hq⟩ : ∃ g off, a = some ⟨g, off, none⟩ ∧ g < w.heap.size ∧ w.cell? ⟨g, off + k * 2, none⟩ = some (.string x1) ∧ w.cell? ⟨g, off + k * 2 + 1, none⟩ = some (.string x2) := by
            rcases HA.out with ⟨_, _, _, h2⟩ | ⟨g, off, cap, hv, _, hg, hr⟩
            · rw [h2] at hkl; simp at hkl
            · have := hr k hkl
              rw [hx1, hx2] at this
              exact ⟨g, off, (Value.slice.inj hv).1, hg, this⟩
          have hc0 : wr.cell? ⟨g, off + k * 2, none⟩ = some (.string x1) := by rw [hbw.cell (p := ⟨g, off + k * 2, none⟩) hg]; exact hq.1
          have hc1 : wr.cell? ⟨g, off + k * 2 + 1, none⟩ = some (.string x2) := by rw [hbw.cell (p := ⟨g, off + k * 2 + 1, none⟩) hg]; exact hq.2
          clear hq hx1 hx2
          have bA : Below w.heap.size w (wr.alloc (.cells #[.string x1, .string x2] 67)) := hbw.alloc hbw.size _
          by_cases h3 : t + x2.size + x1.size ≤ 3000
          · have d3 : decide ((3000 : Int) < (t : Int) + x2.size + x1.size) = false := decide_eq_false (by omega)
            go_wp2
            go_roundg (gk - 1)
            case measure => omega
            case rel =>
              refine ⟨k + 1, t + x2.size + x1.size, by omega, by go_num, by go_num, h3, bA, ?_⟩
              intro j h hj
              by_cases e : j = k
              · subst e
                rw [HX1.out, HX2.out]
                omega
              · exact HS.out j h (by omega)
          · have d3 : decide ((3000 : Int) < (t : Int) + x2.size + x1.size) = true := decide_eq_true (by omega)
            go_wp2
            go_ret
            exact ⟨⟨true, rfl, by intro h; cases h⟩, bA⟩
        · have hd : decide ((k : Int) < xs.length) = false := decide_eq_false (by omega)
          go_wp2
          go_ret
          exact ⟨⟨false, rfl, fun _ => ⟨h1, h2, fun j h => HS.out j h (by omega)⟩⟩, hbw⟩
    · have d2 : decide ((2000 : Int) < tx.size) = true := decide_eq_true (by omega)
      go_enter Tryd.func10, Tryd.ntmps10
      go_wp2
      go_ret
      exact ⟨⟨true, rfl, by intro h; cases h⟩, B0⟩
  · have d1 : decide ((100 : Int) < xs.length) = true := decide_eq_true (by omega)
    go_enter Tryd.func10, Tryd.ntmps10
    go_wp2
    go_ret
    exact ⟨⟨true, rfl, by intro h; cases h⟩, B0⟩

end Go.Proofs
