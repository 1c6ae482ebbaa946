/-
  The contracts of mark.Name and of the document's Name: both tell of every text whether it is a name.
-/
import Derived.Test.YtjijfbcmhjcfaaaDoorSmall
import Derived.BigCall
namespace Go.Proofs
open Go.RowKit
open Go.Proofs.Mk

set_option maxHeartbeats 400000 in
theorem Tryd.refName_any (s : ByteArray) (w : World) (hs : s.size ≤ maxLen) :
    Calls Tryd.prog 81 #[.string s] w fun e w' => e = .returned (.bool (nameL s.data.toList)) ∧ w' = w := by
  unfold maxLen at hs
  have hlen : s.data.toList.length = s.size := rfl
  by_cases h1 : s.size < 1
  · have hn := nameL_short (l := s.data.toList) (by omega)
    have HN : Hid (nameL s.data.toList = false) := hn
    clear hn hlen
    have h1' : decide ((s.size : Int) < 1) = true := by simp; omega
    go_enter Tryd.func81, Tryd.ntmps81
    go_wp2
    go_ret
    exact ⟨by rw [HN.out]; rfl, rfl⟩
  · by_cases h2 : 24 < s.size
    · have hn := nameL_long (l := s.data.toList) (by omega)
      have HN : Hid (nameL s.data.toList = false) := hn
      clear hn hlen
      go_enter Tryd.func81, Tryd.ntmps81
      go_wp2
      go_ret
      exact ⟨by rw [HN.out]; rfl, rfl⟩
    · have HL : Hid (s.data.toList.length = s.size) := hlen
      clear hlen
      go_enter Tryd.func81, Tryd.ntmps81
      go_wp2
      go_loop [3] (fun i => ∃ k : Nat, k ≤ s.size ∧ i = .int .i64 k ∧ ∀ j (h : j < s.size), j < k → inNameB s[j].toNat (j == 0) = true) (fun i => s.size - (intOf i).toNat)
      case atStart => exact ⟨0, Nat.zero_le _, rfl, fun j h hj => by omega⟩
      case round =>
        obtain ⟨k, hk, rfl, hall⟩ := hrel
        have HA : Hid (∀ j (h : j < s.size), j < k → inNameB s[j].toNat (j == 0) = true) := hall
        clear hall
        by_cases hlt : k < s.size
        · cases hb : inNameB s[k].toNat (k == 0)
          · have HN : Hid (nameL s.data.toList = false) := nameL_false (j := k) (by have := HL.out; omega) hb
            have hk0 : ((k : Int) == 0) = (k == 0) := by cases k <;> simp <;> omega
            go_wp2_with (go_at_call 89; refine (Tryd.inName_any _ _ _).mono ?_; rintro e w' ⟨rfl, rfl⟩)
            go_ret
            exact ⟨by rw [HN.out]; rfl, rfl⟩
          · have hk0 : ((k : Int) == 0) = (k == 0) := by cases k <;> simp <;> omega
            have HB : Hid (inNameB s[k].toNat (k == 0) = true) := hb
            go_wp2_with (go_at_call 89; refine (Tryd.inName_any _ _ _).mono ?_; rintro e w' ⟨rfl, rfl⟩)
            go_round
            case rel =>
              refine ⟨k + 1, by omega, by go_num, fun j h hj => ?_⟩
              by_cases e : j = k
              · subst e; exact HB.out
              · exact HA.out j h (by omega)
            case measure => simp [intOf]; omega
        · have HN : Hid (nameL s.data.toList = true) := (nameL_iff _).2 ⟨by have := HL.out; omega, fun j hj => HA.out j hj (by have := HL.out; omega)⟩
          go_wp2
          go_ret
          exact ⟨by rw [HN.out]; rfl, rfl⟩

/-- A byte from 128 on is no rune of a name. -/
theorem Mk.high_no (s : ByteArray) (pos : Nat) (h : pos < s.size) (ha : ¬ (s[pos]'h).toNat < 128) : ofNameB (Utf8.decode s pos).1 = false := by
  have := (decode_high s pos h (by omega)).1
  simp only [ofNameB, decide_eq_false_iff_not]
  omega
theorem Mk.high_no' (c : UInt8) (ha : ¬ c.toNat < 128) (f : Bool) : inNameB c.toNat f = false := by
  have h1 : letterB c.toNat = false := by simp only [letterB, decide_eq_false_iff_not]; omega
  have h2 : ofNameB c.toNat = false := by simp only [ofNameB, decide_eq_false_iff_not]; omega
  cases f <;> simp [inNameB, h1, h2]

set_option maxHeartbeats 1000000 in
theorem Tryd.name_any (s : ByteArray) (w : World) (hs : s.size ≤ maxLen) :
    Calls Tryd.prog 48 #[.string s] w fun e w' => e = .returned (.bool (nameL s.data.toList)) ∧ Below w.heap.size w w' := by
  unfold maxLen at hs
  have hlen : s.data.toList.length = s.size := rfl
  by_cases h1 : s.size = 0
  · have HN : Hid (nameL s.data.toList = false) := nameL_short (l := s.data.toList) (by omega)
    clear hlen
    have h1' : ((s.size : Int) == 0) = true := beq_iff_eq.2 (by omega)
    go_enter Tryd.func48, Tryd.ntmps48
    go_wp2
    go_ret
    exact ⟨by rw [HN.out]; rfl, Below.refl _ _⟩
  · have h1' : ((s.size : Int) == 0) = false := beq_eq_false_iff_ne.2 (by omega)
    by_cases h2 : 24 < s.size
    · have HN : Hid (nameL s.data.toList = false) := nameL_long (l := s.data.toList) (by omega)
      clear hlen
      go_enter Tryd.func48, Tryd.ntmps48
      go_wp2
      go_ret
      exact ⟨by rw [HN.out]; rfl, Below.refl _ _⟩
    · have HL : Hid (s.data.toList.length = s.size) := hlen
      clear hlen
      go_enter Tryd.func48, Tryd.ntmps48
      go_wp2
      go_loopw [3, 4] (fun i r wr => ∃ pos : Nat, wr.heap[w.heap.size]? = some (.stringIter s pos) ∧ Below w.heap.size w wr ∧ ∀ j (h : j < s.size), j < pos → inNameB s[j].toNat (j == 0) = true) (fun _ _ wr => s.size - wr.iterPos w.heap.size)
      case atStart =>
        refine ⟨0, ?_, (Below.refl _ w).alloc (Nat.le_refl _) _, fun j h hj => by omega⟩
        have := World.iter_heap w s 0
        simpa using this
      case round =>
        obtain ⟨pos, hit, hbw, hall⟩ := hrel
        have HA : Hid (∀ j (h : j < s.size), j < pos → inNameB s[j].toNat (j == 0) = true) := hall
        clear hall
        by_cases hlt : pos < s.size
        · by_cases ha : (s[pos]'hlt).toNat < 128
          · have hnx : ∀ ty, (Instr.next (.pointer (some ⟨w.heap.size, 0, none⟩)) true ty).run Tryd.prog wr = _ := fun ty => Lib.run_next_ascii_at wr w.heap.size s pos ty hit hlt ha
            have hit2 := Lib.iterAt_heap wr w.heap.size s pos (pos + 1) hit
            have hbw2 := Lib.below_iterAt hbw (k := w.heap.size) (by omega) s (pos + 1)
            have HB : Hid (inNameB s[pos].toNat (pos == 0) = ((!(pos == 0) || letterB s[pos].toNat) && ofNameB s[pos].toNat)) := by
              show _ = _
              unfold inNameB
              have := @letter_ofName s[pos].toNat
              cases h1 : letterB s[pos].toNat <;> cases h2 : ofNameB s[pos].toNat <;> cases h3 : (pos == 0) <;> simp_all
            have hk0 : ((pos : Int) == 0) = (pos == 0) := by cases pos <;> simp <;> omega
            cases hof : ofNameB s[pos].toNat <;> cases hlt' : letterB s[pos].toNat <;> cases h0 : (pos == 0)
            all_goals
              go_wp2_with (first | (go_at_call 70; refine (Tryd.ofName_any _ _).mono ?_; rintro e w' ⟨rfl, rfl⟩) | (go_at_call 71; refine (Tryd.letter_any _ _).mono ?_; rintro e w' ⟨rfl, rfl⟩))
            all_goals first
              | (go_ret
                 have HN : Hid (nameL s.data.toList = false) := nameL_false (j := pos) (by have := HL.out; omega) (by rw [show s.data.toList[pos] = s[pos] from rfl, HB.out]; simp [hof, hlt', h0])
                 exact ⟨by rw [HN.out]; rfl, hbw2⟩)
              | (go_roundw
                 case rel =>
                   refine ⟨pos + 1, hit2, hbw2, fun j h hj => ?_⟩
                   by_cases e : j = pos
                   · subst e; rw [HB.out]; simp [hof, hlt', h0]
                   · exact HA.out j h (by omega)
                 case measure =>
                   simp only [World.iterPos, hit2, hit]
                   omega)
          · have hnx : ∀ ty, (Instr.next (.pointer (some ⟨w.heap.size, 0, none⟩)) true ty).run Tryd.prog wr = _ := fun ty => Lib.run_next_any_at wr w.heap.size s pos ty hit hlt
            have hbw2 := Lib.below_iterAt hbw (k := w.heap.size) (by omega) s (pos + (Utf8.decode s pos).2)
            have hof := Mk.high_no s pos hlt ha
            have HN : Hid (nameL s.data.toList = false) := nameL_false (j := pos) (by have := HL.out; omega) (Mk.high_no' _ ha _)
            go_wp2_with (first | (go_at_call 70; refine (Tryd.ofName_any _ _).mono ?_; rintro e w' ⟨rfl, rfl⟩) | (go_at_call 71; refine (Tryd.letter_any _ _).mono ?_; rintro e w' ⟨rfl, rfl⟩))
            go_ret
            exact ⟨by rw [HN.out]; rfl, hbw2⟩
        · have hnx : ∀ ty, (Instr.next (.pointer (some ⟨w.heap.size, 0, none⟩)) true ty).run Tryd.prog wr = _ := fun ty => Lib.run_next_end_at wr w.heap.size s pos ty hit hlt
          have HN : Hid (nameL s.data.toList = true) := (nameL_iff _).2 ⟨by have := HL.out; omega, fun j hj => HA.out j hj (by have := HL.out; omega)⟩
          go_wp2
          go_ret
          exact ⟨by rw [HN.out]; rfl, hbw⟩

end Go.Proofs
