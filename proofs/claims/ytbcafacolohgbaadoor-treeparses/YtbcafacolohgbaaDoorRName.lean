/-
  The contract of the reader's name.
-/
import Derived.Test.YtbcafacolohgbaaDoorAllShelf
import Derived.Deep.LoopGhost
import Derived.Outline
namespace Go.Proofs
open Go.RowKit
open Go.Proofs.Mk

/-- The name at the front of a text: as long as it goes. -/
def Mk.nameOf (l : List UInt8) : List UInt8 := l.takeWhile bofName

theorem Mk.wrap32_byte (c : UInt8) : wrap32 (c.toNat : Int) = c.toNat := by
  have := c.toNat_lt
  simp only [wrap32]
  omega
theorem Mk.extract_le (s : ByteArray) (a c : Nat) : (s.extract a c).size ≤ s.size := by
  rw [Lib.extract_eq]
  show (((s.data.toList.drop a).take (c - a)).toArray).size ≤ s.data.size
  simp
  omega
theorem Mk.size_list (s : ByteArray) : s.data.toList.length = s.size := rfl
theorem Mk.get_list (s : ByteArray) (j : Nat) (h : j < s.size) : s.data.toList[j]'h = s[j] := rfl

set_option maxHeartbeats 1000000 in
theorem Tryd.rname_any (b : Nat) (s : ByteArray) (k : Nat) (w : World) (h : Rd b s k w) (hk : k ≤ s.size) (hs : s.size ≤ 20000) :
    Calls Tryd.prog 81 #[.pointer (some ⟨b, 0, none⟩)] w fun e w' => e = .returned (.tuple #[.string ⟨(Mk.nameOf (s.data.toList.drop k)).toArray⟩, .bool (nameL (Mk.nameOf (s.data.toList.drop k)))]) ∧ w.grownBy w' (some b) ∧ Rd b s (k + (Mk.nameOf (s.data.toList.drop k)).length) w' := by
  obtain ⟨n, hn⟩ : ∃ n, (Mk.nameOf (s.data.toList.drop k)).length = n := ⟨_, rfl⟩
  have HN : Hid ((Mk.nameOf (s.data.toList.drop k)).length = n) := hn
  have hkn : k + n ≤ s.size := by
    have := tw_le (p := bofName) (s.data.toList.drop k)
    rw [List.length_drop, Mk.size_list] at this
    simp only [Mk.nameOf] at hn
    omega
  have HI : Hid (∀ p, k ≤ p → p < k + n → ∃ hl : p < s.size, ofNameB (s[p]'hl).toNat = true) := by
    intro p hp1 hp2
    obtain ⟨j, rfl⟩ : ∃ j, p = k + j := ⟨p - k, by omega⟩
    obtain ⟨h1, h2⟩ := tw_in (p := bofName) (s.data.toList.drop k) j (by simp only [Mk.nameOf] at hn; omega)
    refine ⟨by rw [List.length_drop, Mk.size_list] at h1; omega, ?_⟩
    rw [List.getElem_drop] at h2
    exact h2
  have HO : Hid (∀ p, p = k + n → ∀ hl : p < s.size, ofNameB (s[p]'hl).toNat = false) := by
    intro p hp hl
    subst hp
    have h2 := tw_out (p := bofName) (s.data.toList.drop k) (by simp only [Mk.nameOf] at hn; rw [List.length_drop, Mk.size_list]; omega)
    rw [List.getElem_drop] at h2
    simp only [Mk.nameOf] at hn
    subst hn
    exact h2
  have HX : Hid (s.extract k (k + n) = ⟨(Mk.nameOf (s.data.toList.drop k)).toArray⟩) := by
    show _ = _
    rw [Lib.extract_eq, Nat.add_sub_cancel_left, ← hn]
    simp only [Mk.nameOf, tw_take]
  rw [hn]
  clear hn
  have hc1 := h.c1
  have HH : Hid (Rd b s k w) := h
  clear h
  go_enter Tryd.func81, Tryd.ntmps81
  go_wp2
  go_loopg [] n (fun g wr => ∃ p : Nat, k ≤ p ∧ g + p = k + n ∧ Rd b s p wr ∧ w.grownBy wr (some b))
  case atStart => exact ⟨k, Nat.le_refl _, by omega, HH.out, Mk.grown_refl _ _⟩
  case round =>
    obtain ⟨p, hkp, hg, hrd, hgr⟩ := hrel
    have hlt := hrd.lt
    have hc0 := hrd.c0
    have hc1 := hrd.c1
    have hf1 := hrd.f1
    have HR : Hid (Rd b s p wr) := hrd
    clear hrd
    by_cases hjn : p < k + n
    · obtain ⟨hl, ho⟩ := HI.out p hkp hjn
      have hd : decide ((p : Int) < s.size) = true := decide_eq_true (by omega)
      have hw := Mk.wrap32_byte s[p]
      go_wp2
      go_quiet ((go_at_call 85; exact Calls.quiet_of_same (Tryd.ofName_any _ _)))
      go_wp2
      go_roundg (gk - 1)
      case measure => omega
      case rel =>
        refine ⟨p + 1, by omega, by omega, ?_, Mk.grown_setCell (Mk.grown_drewN hgr _) _ _ _⟩
        have := Mk.Rd.put (w := wr.drewN nq) HR.out (p + 1)
        simpa using this
    · have HP : Hid (p = k + n) := show p = k + n by omega
      have HX' : Hid (s.extract k p = ⟨(Mk.nameOf (s.data.toList.drop k)).toArray⟩) := by rw [HP.out]; exact HX.out
      have hps : p ≤ s.size := by omega
      by_cases hl : p < s.size
      · have ho := HO.out p HP.out hl
        have hd : decide ((p : Int) < s.size) = true := decide_eq_true (by omega)
        have hw := Mk.wrap32_byte s[p]
        go_wp2
        go_quiet ((go_at_call 85; exact Calls.quiet_of_same (Tryd.ofName_any _ _)))
        go_wp2
        go_quiet (fail)
        go_wp2_with fail
        have hbd : (s.extract k p).size ≤ maxLen := by have := Mk.extract_le s k p; unfold maxLen; omega
        rw [HX'.out] at hbd ⊢
        refine (Tryd.name_any _ _ hbd).mono ?_
        rintro e w1 ⟨rfl, hb1⟩
        go_wp2
        go_ret2
        refine ⟨?_, Mk.grown_trans (Mk.grown_drewN hgr _) (Mk.grown_of_below hb1 _), ?_⟩
        · rfl
        · have hq := HP.out
          rw [← hq]
          exact Mk.Rd.kept (w := wr.drewN _) HR.out hb1
      · have hd : decide ((p : Int) < s.size) = false := decide_eq_false (by omega)
        go_wp2
        go_quiet (fail)
        go_wp2
        go_quiet (fail)
        go_wp2_with fail
        have hbd : (s.extract k p).size ≤ maxLen := by have := Mk.extract_le s k p; unfold maxLen; omega
        rw [HX'.out] at hbd ⊢
        refine (Tryd.name_any _ _ hbd).mono ?_
        rintro e w1 ⟨rfl, hb1⟩
        go_wp2
        go_ret2
        refine ⟨?_, Mk.grown_trans (Mk.grown_drewN hgr _) (Mk.grown_of_below hb1 _), ?_⟩
        · rfl
        · have hq := HP.out
          rw [← hq]
          exact Mk.Rd.kept (w := wr.drewN _) HR.out hb1

end Go.Proofs
