/-
  The contracts of the document's at and name.
-/
import Derived.Test.YtbcafacolohgbaaDoorRText
import Derived.Test.YtbcafacolohgbaaDoorUnlike
namespace Go.Proofs
open Go.RowKit
open Go.Proofs.Mk

theorem Mk.pre_take (l p : List UInt8) (h : p.length ≤ l.length) : Lib.hasPrefix l p = (l.take p.length == p) := by
  rw [Bool.eq_iff_iff]
  simp only [Lib.hasPrefix, List.isPrefixOf_iff_prefix, beq_iff_eq]
  constructor
  · rintro ⟨t, rfl⟩
    simp
  · intro e
    exact ⟨l.drop p.length, by have := List.take_append_drop p.length l; rw [e] at this; exact this⟩

set_option maxHeartbeats 1000000 in
theorem Tryd.at_any (s x : ByteArray) (k : Nat) (p : Bool) (w : World) (hk : k ≤ s.size) (hs : s.size ≤ 20000) (hx : x.size ≤ 20000) (hp : Lib.hasPrefix (s.data.toList.drop k) x.data.toList = p) :
    Calls Tryd.prog 50 #[.string s, .int .i64 k, .string x] w fun e w' => e = .returned (.bool p) ∧ w' = w := by
  by_cases h : x.size ≤ s.size - k
  · have hd : decide ((x.size : Int) ≤ s.size - k) = true := decide_eq_true (by omega)
    have HP : Hid (((s.extract k (k + x.size)).toList == x.toList) = p) := by
      show _ = _
      rw [Lib.extract_toList, Nat.add_sub_cancel_left, Lib.toList_data, ← hp, Mk.pre_take _ _ (by rw [List.length_drop, Mk.size_list, Mk.size_list]; exact h), Mk.size_list]
    go_enter Tryd.func50, Tryd.ntmps50
    go_wp2
    go_ret
    exact ⟨Mk.ret_bool HP.out, rfl⟩
  · have hd : decide ((x.size : Int) ≤ s.size - k) = false := decide_eq_false (by omega)
    have hf : p = false := by
      rw [← hp]
      cases hc : Lib.hasPrefix (s.data.toList.drop k) x.data.toList
      · rfl
      · have := Mk.hasPrefix_len hc
        rw [List.length_drop, Mk.size_list, Mk.size_list] at this
        omega
    subst hf
    clear hp
    go_enter Tryd.func50, Tryd.ntmps50
    go_wp2
    go_ret
    exact ⟨rfl, rfl⟩

/-- What was read from a place on: where it ends (-1: it is none), and the text. -/
def Mk.gotV (o : Option (List UInt8 × Nat)) (k : Nat) : Value :=
  match o with
  | none => .agg #[.int .i64 (-1), .string ⟨#[]⟩]
  | some (l, m) => .agg #[.int .i64 ((k + m : Nat) : Int), .string ⟨l.toArray⟩]
/-- The name at a place. -/
def Mk.nameAt (l : List UInt8) : Option (List UInt8 × Nat) := if nameL (nameOf l) = true then some (nameOf l, (nameOf l).length) else none

set_option maxHeartbeats 1000000 in
theorem Tryd.refname_any (s : ByteArray) (k : Nat) (w : World) (hk : k ≤ s.size) (hs : s.size ≤ 20000) :
    Calls Tryd.prog 51 #[.string s, .int .i64 k] w fun e w' => e = .returned (Mk.gotV (Mk.nameAt (s.data.toList.drop k)) k) ∧ Below w.heap.size w w' := by
  obtain ⟨n, hn⟩ : ∃ n, (Mk.nameOf (s.data.toList.drop k)).length = n := ⟨_, rfl⟩
  have HN : Hid ((Mk.nameOf (s.data.toList.drop k)).length = n) := hn
  have hkn : k + n ≤ s.size := by
    have := tw_le (p := bofName) (s.data.toList.drop k)
    rw [List.length_drop, Mk.size_list] at this
    simp only [Mk.nameOf] at hn
    omega
  have HI : Hid (∀ p, k ≤ p → p < k + n → ∃ hl : p < s.size, inNameB (s[p]'hl).toNat false = true) := by
    intro p hp1 hp2
    obtain ⟨j, rfl⟩ : ∃ j, p = k + j := ⟨p - k, by omega⟩
    obtain ⟨h1, h2⟩ := tw_in (p := bofName) (s.data.toList.drop k) j (by simp only [Mk.nameOf] at hn; omega)
    refine ⟨by rw [List.length_drop, Mk.size_list] at h1; omega, ?_⟩
    rw [List.getElem_drop] at h2
    rw [inNameB_pos]
    exact h2
  have HO : Hid (∀ p, p = k + n → ∀ hl : p < s.size, inNameB (s[p]'hl).toNat false = false) := by
    intro p hp hl
    subst hp
    have h2 := tw_out (p := bofName) (s.data.toList.drop k) (by simp only [Mk.nameOf] at hn; rw [List.length_drop, Mk.size_list]; omega)
    rw [List.getElem_drop] at h2
    simp only [Mk.nameOf] at hn
    subst hn
    rw [inNameB_pos]
    exact h2
  have HX : Hid (s.extract k (k + n) = ⟨(Mk.nameOf (s.data.toList.drop k)).toArray⟩) := by
    show _ = _
    rw [Lib.extract_eq, Nat.add_sub_cancel_left, ← hn]
    simp only [Mk.nameOf, tw_take]
  clear hn
  go_enter Tryd.func51, Tryd.ntmps51
  go_wp2
  go_loopg [5] n (fun g i wr => ∃ p : Nat, k ≤ p ∧ g + p = k + n ∧ i = .int .i64 p ∧ wr = w.alloc (.cells #[.int .i64 0, .string ⟨#[]⟩] 107))
  case atStart => exact ⟨k, Nat.le_refl _, by omega, rfl, rfl⟩
  case round =>
    obtain ⟨p, hkp, hg, rfl, rfl⟩ := hrel
    by_cases hjn : p < k + n
    · obtain ⟨hl, ho⟩ := HI.out p hkp hjn
      have hd : decide ((p : Int) < s.size) = true := decide_eq_true (by omega)
      go_wp2_with (go_at_call 72; refine (Tryd.inName_any _ _ _).mono ?_; rintro e w' ⟨rfl, rfl⟩)
      go_roundg (gk - 1)
      case measure => omega
      case rel => exact ⟨p + 1, by omega, by omega, by go_num, rfl⟩
    · have HP : Hid (p = k + n) := show p = k + n by omega
      have HX' : Hid (s.extract k p = ⟨(Mk.nameOf (s.data.toList.drop k)).toArray⟩) := by rw [HP.out]; exact HX.out
      have hps : p ≤ s.size := by omega
      have HV : ∀ c, nameL (Mk.nameOf (s.data.toList.drop k)) = c → Hid (Mk.gotV (Mk.nameAt (s.data.toList.drop k)) k = if c = true then .agg #[.int .i64 (p : Int), .string ⟨(Mk.nameOf (s.data.toList.drop k)).toArray⟩] else .agg #[.int .i64 (-1), .string ⟨#[]⟩]) := by
        intro c hc
        show _ = _
        have hp2 := HP.out
        have hn2 := HN.out
        unfold Mk.nameAt
        rw [hc]
        cases c
        · rfl
        · simp only [if_true, Mk.gotV, hn2, hp2]
      by_cases hl : p < s.size
      · have ho := HO.out p HP.out hl
        have hd : decide ((p : Int) < s.size) = true := decide_eq_true (by omega)
        go_wp2_with (go_at_call 72; refine (Tryd.inName_any _ _ _).mono ?_; rintro e w' ⟨rfl, rfl⟩)
        have hbd : (s.extract k p).size ≤ maxLen := by have := Mk.extract_le s k p; unfold maxLen; omega
        rw [HX'.out] at hbd ⊢
        refine (Tryd.refName_any _ _ hbd).mono ?_
        rintro e w1 ⟨rfl, rfl⟩
        cases hc : nameL (Mk.nameOf (s.data.toList.drop k))
        · have HV' := HV _ hc
          clear HV
          go_wp2
          exact bodyPost_ret (v := .agg #[.int .i64 (-1), .string ⟨#[]⟩]) (by simp [results, Tryd.results51, go_sem]) rfl ⟨by rw [HV'.out]; rfl, (Below.refl _ _).alloc (Nat.le_refl _) _⟩
        · have HV' := HV _ hc
          clear HV
          go_wp2
          exact bodyPost_ret (v := .agg #[.int .i64 (p : Int), .string (s.extract k p)]) (by simp [results, Tryd.results51, go_sem]) rfl ⟨by rw [HV'.out, HX'.out]; rfl, (Below.refl _ _).alloc (Nat.le_refl _) _⟩
      · have hd : decide ((p : Int) < s.size) = false := decide_eq_false (by omega)
        go_wp2_with fail
        have hbd : (s.extract k p).size ≤ maxLen := by have := Mk.extract_le s k p; unfold maxLen; omega
        rw [HX'.out] at hbd ⊢
        refine (Tryd.refName_any _ _ hbd).mono ?_
        rintro e w1 ⟨rfl, rfl⟩
        cases hc : nameL (Mk.nameOf (s.data.toList.drop k))
        · have HV' := HV _ hc
          clear HV
          go_wp2
          exact bodyPost_ret (v := .agg #[.int .i64 (-1), .string ⟨#[]⟩]) (by simp [results, Tryd.results51, go_sem]) rfl ⟨by rw [HV'.out]; rfl, (Below.refl _ _).alloc (Nat.le_refl _) _⟩
        · have HV' := HV _ hc
          clear HV
          go_wp2
          exact bodyPost_ret (v := .agg #[.int .i64 (p : Int), .string (s.extract k p)]) (by simp [results, Tryd.results51, go_sem]) rfl ⟨by rw [HV'.out, HX'.out]; rfl, (Below.refl _ _).alloc (Nat.le_refl _) _⟩

end Go.Proofs
