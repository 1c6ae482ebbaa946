/-
  The contract of the reader's skip.
-/
import Derived.Test.YtjijfbcmhjcfaaaDoorFrame
import Derived.BigQuiet
import Derived.Deep.QuietTactic
namespace Go.Proofs
open Go.RowKit
open Go.Proofs.Mk

theorem Mk.take_rest (s : ByteArray) (k : Nat) : List.take (s.size - k) (List.drop k s.data.toList) = s.data.toList.drop k :=
  List.take_of_length_le (by rw [List.length_drop]; exact Nat.le_refl _)

set_option maxHeartbeats 1000000 in
theorem Tryd.skip_yes (b : Nat) (s word : ByteArray) (k : Nat) (w : World) (h : Rd b s k w) (hk : k ≤ s.size) (hs : s.size ≤ 20000) (hw : word.size ≤ 20000)
    (hp : Lib.hasPrefix (s.data.toList.drop k) word.data.toList = true) :
    Calls Tryd.prog 52 #[.pointer (some ⟨b, 0, none⟩), .string word] w fun e w' => e = .returned (.bool true) ∧ w.grownBy w' (some b) ∧ Rd b s (k + word.size) w' := by
  have hlt := h.lt
  have hc0 := h.c0
  have hc1 := h.c1
  have hf1 := h.f1
  have HH : Hid (Rd b s k w) := h
  rw [← Mk.take_rest] at hp
  clear h
  go_enter Tryd.func52, Tryd.ntmps52
  go_wp2
  go_quiet ((go_at_call 75; exact Calls.quiet_of_same (Tryd.strings_HasPrefix _ _ _)))
  go_wp2
  go_ret
  refine ⟨rfl, Mk.grown_setCell (Mk.grown_drewN (Mk.grown_refl _ _) _) _ _ _, ?_⟩
  have := Mk.Rd.put (w := w.drewN nq) HH.out (k + word.size)
  simpa using this

set_option maxHeartbeats 1000000 in
theorem Tryd.skip_no (b : Nat) (s word : ByteArray) (k : Nat) (w : World) (h : Rd b s k w) (hk : k ≤ s.size) (_hs : s.size ≤ 20000) (_hw : word.size ≤ 20000)
    (hp : Lib.hasPrefix (s.data.toList.drop k) word.data.toList = false) :
    Calls Tryd.prog 52 #[.pointer (some ⟨b, 0, none⟩), .string word] w fun e w' => e = .returned (.bool false) ∧ w.grownBy w' (some b) ∧ Rd b s k w' := by
  have hlt := h.lt
  have hc0 := h.c0
  have hc1 := h.c1
  have hf1 := h.f1
  have HH : Hid (Rd b s k w) := h
  rw [← Mk.take_rest] at hp
  clear h
  go_enter Tryd.func52, Tryd.ntmps52
  go_wp2
  go_quiet ((go_at_call 75; exact Calls.quiet_of_same (Tryd.strings_HasPrefix _ _ _)))
  go_wp2
  go_ret
  exact ⟨rfl, Mk.grown_drewN (Mk.grown_refl _ _) _, HH.out⟩

/-- Both. -/
theorem Tryd.skip_any (b : Nat) (s word : ByteArray) (k : Nat) (w : World) (h : Rd b s k w) (hk : k ≤ s.size) (hs : s.size ≤ 20000) (hw : word.size ≤ 20000) (p : Bool)
    (hp : Lib.hasPrefix (s.data.toList.drop k) word.data.toList = p) :
    Calls Tryd.prog 52 #[.pointer (some ⟨b, 0, none⟩), .string word] w fun e w' => e = .returned (.bool p) ∧ w.grownBy w' (some b) ∧ Rd b s (if p then k + word.size else k) w' := by
  cases p
  · exact Tryd.skip_no b s word k w h hk hs hw hp
  · exact Tryd.skip_yes b s word k w h hk hs hw hp

end Go.Proofs
