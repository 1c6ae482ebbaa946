/-
  The contracts of the small functions of package mark and of the document's answer: bytes, names' bytes.
-/
import Derived.Test.YtjijfbcmhjcfaaaDoorShelf
import Derived.Test.YtjijfbcmhjcfaaaDoorPlain
import Derived.WalkKit
import Derived.WalkLawsBesides
import Derived.WalkSpells
namespace Go.Proofs
open Go.RowKit
open Go.Proofs.Mk

theorem Mk.ret_bool {a b : Bool} (h : a = b) : Ending.returned (.bool a) = .returned (.bool b) := by rw [h]

set_option maxHeartbeats 400000 in
theorem Tryd.plain_any (r : Int) (w : World) :
    Calls Tryd.prog 73 #[.int .i32 r] w fun e w' => e = .returned (.bool (plainB r)) ∧ w' = w := by
  by_cases h1 : 32 ≤ r <;> by_cases h2 : r ≤ 126
  all_goals
    go_enter Tryd.func73, Tryd.ntmps73
    go_wp2
    go_ret
    exact ⟨Mk.ret_bool (by rw [Bool.eq_iff_iff]; simp [plainB]; omega), rfl⟩

set_option maxHeartbeats 400000 in
theorem Tryd.letter_any (r : Int) (w : World) :
    Calls Tryd.prog 71 #[.int .i32 r] w fun e w' => e = .returned (.bool (letterB r)) ∧ w' = w := by
  by_cases h1 : 97 ≤ r <;> by_cases h2 : r ≤ 122
  all_goals
    go_enter Tryd.func71, Tryd.ntmps71
    go_wp2
    go_ret
    exact ⟨Mk.ret_bool (by rw [Bool.eq_iff_iff]; simp [letterB]; omega), rfl⟩

set_option maxHeartbeats 400000 in
theorem Tryd.ofName_any (r : Int) (w : World) :
    Calls Tryd.prog 70 #[.int .i32 r] w fun e w' => e = .returned (.bool (ofNameB r)) ∧ w' = w := by
  by_cases h1 : 97 ≤ r <;> by_cases h2 : r ≤ 122 <;> by_cases h3 : 48 ≤ r <;> by_cases h4 : r ≤ 57
  all_goals first
    | (exfalso; omega)
    | (go_enter Tryd.func70, Tryd.ntmps70
       go_wp2
       go_ret
       exact ⟨Mk.ret_bool (by rw [Bool.eq_iff_iff]; simp [ofNameB]; omega), rfl⟩)

set_option maxHeartbeats 400000 in
theorem Tryd.refPlain_any (c : Int) (w : World) :
    Calls Tryd.prog 83 #[.int .u8 c] w fun e w' => e = .returned (.bool (plainB c)) ∧ w' = w := by
  by_cases h0 : c = 10
  · subst h0
    go_enter Tryd.func83, Tryd.ntmps83
    go_wp2
    go_ret
    exact ⟨rfl, rfl⟩
  · by_cases h1 : 31 < c <;> by_cases h2 : c < 127
    all_goals
      have h0' : (c == 10) = false := by simpa using h0
      go_enter Tryd.func83, Tryd.ntmps83
      go_wp2
      go_ret
      exact ⟨Mk.ret_bool (by rw [Bool.eq_iff_iff]; simp [plainB]; omega), rfl⟩

set_option maxHeartbeats 400000 in
theorem Tryd.inName_any (c : Int) (first : Bool) (w : World) :
    Calls Tryd.prog 89 #[.int .u8 c, .bool first] w fun e w' => e = .returned (.bool (Mk.inNameB c first)) ∧ w' = w := by
  by_cases h5 : c = 45
  · subst h5
    cases first
    all_goals
      go_enter Tryd.func89, Tryd.ntmps89
      go_wp2
      go_ret
      exact ⟨rfl, rfl⟩
  · have h5' : (c == 45) = false := by simpa using h5
    by_cases h1 : 97 ≤ c <;> by_cases h2 : c ≤ 122 <;> by_cases h3 : 48 ≤ c <;> by_cases h4 : c ≤ 57 <;> cases first
    all_goals first
      | (exfalso; omega)
      | (go_enter Tryd.func89, Tryd.ntmps89
         go_wp2
         go_ret
         exact ⟨Mk.ret_bool (by rw [Bool.eq_iff_iff]; simp [Mk.inNameB, letterB, ofNameB] <;> omega), rfl⟩)

set_option maxHeartbeats 400000 in
theorem Tryd.sign_any (c : Int) (w : World) :
    Calls Tryd.prog 84 #[.int .u8 c] w fun e w' => e = .returned (.string ⟨(Mk.signL c).toArray⟩) ∧ w' = w := by
  go_enter Tryd.func84, Tryd.ntmps84
  go_wp2
  all_goals go_ret
  all_goals simp_all [Mk.signL]

end Go.Proofs
