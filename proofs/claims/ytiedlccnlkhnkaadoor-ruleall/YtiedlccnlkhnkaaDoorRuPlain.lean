/-
  How many rules a right process has, and that each flow is needed by one.
-/
import Derived.Test.YtiedlccnlkhnkaaDoorRuAll
namespace Go.Proofs
open Go.RowKit Go.Shelf

/-- What a process that breaks no rule keeps. -/
theorem Ru.right_keeps {ns : List Nd} {fs : List Fl} (h : (Nt.checkN ns fs).1 = 0) : Nt.wrong1 ns fs = [] ∧ Nt.wrong2 ns fs = [] ∧ Nt.wrong3 ns fs = [] ∧ Nt.wrong4 ns fs = [] := by
  have h : (Nt.broken ns fs).1 = 0 := h
  unfold Nt.broken at h
  split at h
  · simp at h
  · next h1 =>
    split at h
    · simp at h
    · next h2 =>
      split at h
      · simp at h
      · next h3 =>
        split at h
        · simp at h
        · next h4 => exact ⟨by simpa using h1, by simpa using h2, by simpa using h3, by simpa using h4⟩
theorem Ru.join_at {ns : List Nd} {fs : List Fl} (h : Nt.wrong3 ns fs = []) {i : Nat} (hi : i < ns.length) : Nt.joinB (Nt.kindAt ns i) (Nt.insN fs i) (Nt.outsN fs i) (Nt.elsesN fs i) (Nt.othersN ns fs i) = true := by
  unfold Nt.wrong3 at h
  have h1 := (List.append_eq_nil_iff.1 h).1
  rw [List.filter_eq_nil_iff] at h1
  have := h1 i (List.mem_range.2 hi)
  simp only [Bool.not_eq_true, Bool.not_eq_false'] at this
  unfold Nt.jointB at this
  rw [Bool.and_eq_true, Bool.and_eq_true] at this
  exact this.1.1
theorem Ru.kind_at {ns : List Nd} {fs : List Fl} (h : Nt.wrong1 ns fs = []) {i : Nat} (hi : i < ns.length) : 1 ≤ Nt.kindAt ns i ∧ Nt.kindAt ns i ≤ 8 := by
  unfold Nt.wrong1 at h
  split at h
  · simp at h
  · rw [List.filter_eq_nil_iff] at h
    have := h i (List.mem_range.2 hi)
    rw [List.getElem?_eq_getElem hi] at this
    simp only [Option.map_some, Option.getD_some, Bool.not_eq_true, Bool.not_eq_false'] at this
    rw [Nt.kindAt_get ns i hi]
    unfold Nt.oneB at this
    rw [Bool.and_eq_true] at this
    have := of_decide_eq_true this.1
    omega
/-- How many rules the statement wants of a node. -/
def Ru.wantN (ns : List Nd) (fs : List Fl) (i : Nat) : Nat := if Nt.kindAt ns i = 1 then 0 else if Nt.kindAt ns i = 5 ∨ Nt.kindAt ns i = 7 then Nt.insN fs i * Nt.outsN fs i else 1
theorem Ru.join5 {a b el ot : Nat} (h : Nt.joinB 5 a b el ot = true) : (a = 1 ∧ 2 ≤ b) ∨ (2 ≤ a ∧ b = 1) := by
  simp [Nt.joinB] at h
  omega
theorem Ru.join7 {a b el ot : Nat} (h : Nt.joinB 7 a b el ot = true) : a = 1 ∧ 2 ≤ b := by
  simp [Nt.joinB] at h
  omega
theorem Ru.join1 {a b el ot : Nat} (h : Nt.joinB 1 a b el ot = true) : a = 0 := by
  simp [Nt.joinB] at h
  omega
theorem Ru.join2 {a b el ot : Nat} (h : Nt.joinB 2 a b el ot = true) : b = 0 := by
  simp [Nt.joinB] at h
  omega
theorem Ru.right_len {ns : List Nd} {fs : List Fl} (h1 : Nt.wrong1 ns fs = []) (h3 : Nt.wrong3 ns fs = []) {i : Nat} (hi : i < ns.length) : (Ru.rulesP ns fs i).length = Ru.wantN ns fs i := by
  have hk := Ru.kind_at h1 hi
  have hj := Ru.join_at h3 hi
  unfold Ru.rulesP Ru.wantN
  rw [← Nt.insL_len, ← Nt.outsL_len] at hj ⊢
  obtain ⟨k, hkk⟩ : ∃ k, Nt.kindAt ns i = k := ⟨_, rfl⟩
  rw [hkk] at hk hj ⊢
  by_cases e1 : k = 3 ∨ k = 4 ∨ k = 6 ∨ k = 2
  · rw [if_pos e1, if_neg (by omega), if_neg (by omega)]
    rfl
  rw [if_neg e1]
  by_cases e8 : k = 8
  · rw [if_pos e8, if_neg (by omega), if_neg (by omega)]
    rfl
  rw [if_neg e8]
  by_cases e7 : k = 7
  · subst e7
    have := Ru.join7 hj
    rw [if_pos rfl, if_neg (by omega), if_pos (by omega), List.length_map, this.1, Nat.one_mul]
  rw [if_neg e7]
  by_cases e5 : k = 5
  · subst e5
    have := Ru.join5 hj
    rw [if_pos rfl, if_neg (show ¬ (5 : Int) = 1 by omega), if_pos (show (5 : Int) = 5 ∨ (5 : Int) = 7 from .inl rfl)]
    split
    · rw [List.length_map]
      rcases this with h | h
      · rw [h.1, Nat.one_mul]
      · omega
    · rw [List.length_map]
      rcases this with h | h
      · omega
      · rw [h.2, Nat.mul_one]
  rw [if_neg e5, if_pos (by omega)]
  rfl
theorem Ru.mem_ins {fs : List Fl} {k : Nat} (hk : k < fs.length) {i : Int} (h : fs[k].to = i) : k ∈ Nt.insL fs i := by
  unfold Nt.insL
  rw [List.mem_filter]
  refine ⟨List.mem_range.2 hk, ?_⟩
  rw [List.getElem?_eq_getElem hk]
  simp [h]
theorem Ru.mem_outs {fs : List Fl} {k : Nat} (hk : k < fs.length) {i : Int} (h : fs[k].fr = i) : k ∈ Nt.outsL fs i := by
  unfold Nt.outsL
  rw [List.mem_filter]
  refine ⟨List.mem_range.2 hk, ?_⟩
  rw [List.getElem?_eq_getElem hk]
  simp [h]
/-- Each flow is needed by some rule, and leads from no End. -/
theorem Ru.right_need {ns : List Nd} {fs : List Fl} (h1 : Nt.wrong1 ns fs = []) (h2 : Nt.wrong2 ns fs = []) (h3 : Nt.wrong3 ns fs = []) {k : Nat} (hk : k < fs.length) : (∃ r, r ∈ Ru.allP ns fs ∧ (k : Int) ∈ r.ne) ∧ Nt.kindAt ns fs[k].fr.toNat ≠ 2 := by
  obtain ⟨f0, f1, t0, t1, -⟩ := Nt.two_keeps (ns := ns) (fs := fs) (by rw [h2]; rfl) fs[k] (List.getElem_mem hk)
  obtain ⟨t, ht⟩ : ∃ t : Nat, fs[k].to = t := ⟨fs[k].to.toNat, by omega⟩
  obtain ⟨f, hf⟩ : ∃ t : Nat, fs[k].fr = t := ⟨fs[k].fr.toNat, by omega⟩
  have htn : t < ns.length := by omega
  have hfn : f < ns.length := by omega
  constructor
  · have hin := Ru.mem_ins hk ht
    have hkd := Ru.kind_at h1 htn
    have hj := Ru.join_at h3 htn
    rw [← Nt.insL_len, ← Nt.outsL_len] at hj
    have hpos : 0 < (Nt.insL fs t).length := List.length_pos_of_mem hin
    suffices ∃ r, r ∈ Ru.rulesP ns fs t ∧ (k : Int) ∈ r.ne by
      obtain ⟨r, hr, hn⟩ := this
      exact ⟨r, List.mem_flatMap.2 ⟨t, List.mem_range.2 htn, hr⟩, hn⟩
    have hin' : (k : Int) ∈ (Nt.insL fs t).map fun n : Nat => (n : Int) := List.mem_map.2 ⟨k, hin, rfl⟩
    unfold Ru.rulesP
    obtain ⟨c, hc⟩ : ∃ c, Nt.kindAt ns t = c := ⟨_, rfl⟩
    rw [hc] at hkd hj ⊢
    by_cases e1 : c = 3 ∨ c = 4 ∨ c = 6 ∨ c = 2
    · rw [if_pos e1]
      exact ⟨_, List.mem_singleton.2 rfl, hin'⟩
    rw [if_neg e1]
    by_cases e8 : c = 8
    · rw [if_pos e8]
      exact ⟨_, List.mem_singleton.2 rfl, hin'⟩
    rw [if_neg e8]
    by_cases e7 : c = 7
    · subst e7
      have := Ru.join7 hj
      rw [if_pos rfl]
      obtain ⟨x, hx⟩ := List.exists_mem_of_length_pos (show 0 < (Nt.outsL fs t).length by omega)
      exact ⟨_, List.mem_map.2 ⟨x, hx, rfl⟩, hin'⟩
    rw [if_neg e7]
    by_cases e5 : c = 5
    · subst e5
      have := Ru.join5 hj
      rw [if_pos rfl]
      split
      · obtain ⟨x, hx⟩ := List.exists_mem_of_length_pos (show 0 < (Nt.outsL fs t).length by omega)
        exact ⟨_, List.mem_map.2 ⟨x, hx, rfl⟩, hin'⟩
      · exact ⟨_, List.mem_map.2 ⟨k, hin, rfl⟩, by simp [Ru.of]⟩
    obtain rfl : c = 1 := by omega
    have := Ru.join1 hj
    omega
  · rw [hf, Int.toNat_natCast]
    intro hc
    have hj := Ru.join_at h3 hfn
    rw [← Nt.insL_len, ← Nt.outsL_len, hc] at hj
    have := Ru.join2 hj
    have := List.length_pos_of_mem (Ru.mem_outs hk hf)
    omega
theorem Ru.ne_len {ns : List Nd} {fs : List Fl} (r : Ru) (h : r ∈ Ru.allP ns fs) : r.ne.length ≤ fs.length + 1 := by
  obtain ⟨i, -, hr⟩ := List.mem_flatMap.1 h
  have h1 := Ru.ins_len fs i
  unfold Ru.rulesP at hr
  split at hr
  · rw [List.mem_singleton.1 hr]; simp [Ru.of]; omega
  · split at hr
    · rw [List.mem_singleton.1 hr]; simp [Ru.of]; omega
    · split at hr
      · obtain ⟨f, -, rfl⟩ := List.mem_map.1 hr; simp [Ru.of]; omega
      · split at hr
        · split at hr
          · obtain ⟨f, -, rfl⟩ := List.mem_map.1 hr; simp [Ru.of]; omega
          · obtain ⟨f, -, rfl⟩ := List.mem_map.1 hr; simp [Ru.of]
        · simp at hr
theorem Ru.flat_take (ns : List Nd) (fs : List Fl) (k : Nat) : ((List.range (k + 1)).flatMap (Ru.rulesP ns fs)).length = ((List.range k).flatMap (Ru.rulesP ns fs)).length + (Ru.rulesP ns fs k).length := by
  rw [List.range_succ, List.flatMap_append, List.length_append]
  simp

end Go.Proofs
