/-
  The program's alarms are the document's, in their order: what the two tell is the same.
-/
import Derived.Test.YtclpdhjchnbolaaCkDropP
import Derived.Test.YtclpdhjchnbolaaCdRank
import Derived.Test.YtclpdhjchnbolaaCdDrop
namespace Go.Proofs
open Go.RowKit Go.Shelf Go.Sort

/-- No id stands twice. -/
def Cs.apart (M : List Ck.Al) : Prop := M.Pairwise fun a b => a.1 ≠ b.1
theorem Cs.apart_perm {L M : List Ck.Al} (h : Cs.apart M) (hp : L.Perm M) : Cs.apart L := (hp.symm.pairwise_iff (fun {_ _} h => Ne.symm h)).1 h
theorem Cs.apart_eq {M : List Ck.Al} (h : Cs.apart M) {a b : Ck.Al} (ha : a ∈ M) (hb : b ∈ M) (e : a.1 = b.1) : a = b := by
  induction M with
  | nil => cases ha
  | cons x r ih =>
    have h' := List.pairwise_cons.1 h
    rcases List.mem_cons.1 ha with ea | ha1
    · rcases List.mem_cons.1 hb with eb | hb1
      · rw [ea, eb]
      · rw [ea] at e
        exact absurd e (h'.1 b hb1)
    · rcases List.mem_cons.1 hb with eb | hb1
      · rw [eb] at e
        exact absurd e.symm (h'.1 a ha1)
      · exact ih h'.2 ha1 hb1
theorem Cs.has_perm {L M : List Ck.Al} (hp : L.Perm M) (id : Int) : Ck.has L id = Ck.has M id := by
  rw [Bool.eq_iff_iff]
  simp only [Ck.has, List.any_eq_true]
  exact ⟨fun ⟨a, h, e⟩ => ⟨a, hp.mem_iff.1 h, e⟩, fun ⟨a, h, e⟩ => ⟨a, hp.mem_iff.2 h, e⟩⟩
theorem Cs.has_sort (M : List Ck.Al) (id : Int) : Ck.has (Ck.sort M) id = Ck.has M id := Cs.has_perm (Ck.sort_perm M) id
theorem Cs.setE_sort (now : Int) (M : List Ck.Al) (id n : Int) : Ck.setE now (Ck.sort M) id n = Ck.setE now M id n := by
  unfold Ck.setE
  rw [Cs.has_sort, Ck.sort_length]
theorem Cs.setL_sort (now : Int) (M : List Ck.Al) (id n : Int) : Ck.setL now (Ck.sort M) id n = Ck.sort (Cd.setL now M id n) := by
  unfold Ck.setL Cd.setL
  rw [Cs.setE_sort]
  split
  · exact (Ck.sort_eq ((Ck.sort_perm _).trans ((Ck.sort_perm M).symm.append_right _)) (Ck.sort_pair _))
  · rfl
theorem Cs.apart_set {now : Int} {M : List Ck.Al} (h : Cs.apart M) (id n : Int) : Cs.apart (Cd.setL now M id n) := by
  unfold Cd.setL
  split
  · rename_i he
    have hn := (Ck.setE_zero he).2.2.1
    refine List.pairwise_append.2 ⟨h, List.pairwise_singleton _ _, fun a ha b hb => ?_⟩
    simp only [List.mem_singleton] at hb
    subst hb
    intro e
    have : Ck.has M id = true := by
      simp only [Ck.has, List.any_eq_true]
      exact ⟨a, ha, by simpa using e⟩
    rw [hn] at this
    cases this
  · exact h
/-- What Drop leaves is all the others. -/
theorem Cs.drop_filter {M : List Ck.Al} (h : Cs.apart M) {i : Nat} (hi : i < M.length) {id : Int} (e : M[i].1 = id) : M.take i ++ M.drop (i + 1) = M.filter fun a => a.1 != id := by
  induction M generalizing i with
  | nil => simp at hi
  | cons x r ih =>
    have h' := List.pairwise_cons.1 h
    cases i with
    | zero =>
      have ex : x.1 = id := e
      have hk : r.filter (fun a => a.1 != id) = r := List.filter_eq_self.2 fun a ha => by
        have := h'.1 a ha
        simp only [bne_iff_ne, ne_eq]
        intro e2
        exact this (ex.trans e2.symm)
      simp [ex, hk]
    | succ i =>
      have hi' : i < r.length := by simpa using hi
      have ex : x.1 ≠ id := fun e2 => h'.1 r[i] (List.getElem_mem hi') (by
        have e3 : r[i].1 = id := e
        rw [e2, e3])
      have := ih h'.2 hi' (by exact e)
      simp [ex, this]
theorem Cs.dropped {M L' M' : List Ck.Al} (h : Cs.apart M) {id : Int}
    (h1 : (Ck.has (Ck.sort M) id = false ∧ L' = Ck.sort M) ∨ ∃ i : Nat, ∃ h : i < (Ck.sort M).length, (Ck.sort M)[i].1 = id ∧ L' = (Ck.sort M).take i ++ (Ck.sort M).drop (i + 1))
    (h2 : (Ck.has M id = false ∧ M' = M) ∨ ∃ i : Nat, ∃ h : i < M.length, M[i].1 = id ∧ M' = M.take i ++ M.drop (i + 1)) : L' = Ck.sort M' ∧ Cs.apart M' ∧ ∀ a ∈ M', a ∈ M := by
  rcases h2 with ⟨hn, rfl⟩ | ⟨j, hj, ej, rfl⟩
  · rcases h1 with ⟨_, rfl⟩ | ⟨i, hi, ei, rfl⟩
    · exact ⟨rfl, h, fun a ha => ha⟩
    · have := Ck.has_yes hi ei
      rw [Cs.has_sort, hn] at this
      cases this
  · have hy := Ck.has_yes hj ej
    rcases h1 with ⟨hn, _⟩ | ⟨i, hi, ei, rfl⟩
    · rw [Cs.has_sort, hy] at hn
      cases hn
    · rw [Cs.drop_filter h hj ej, Cs.drop_filter (Cs.apart_perm h (Ck.sort_perm M)) hi ei]
      refine ⟨(Ck.sort_eq ((Ck.sort_perm M).filter _) ((Ck.sort_pair M).sublist List.filter_sublist)).symm, h.sublist List.filter_sublist, fun a ha => (List.mem_filter.1 ha).1⟩
/-- The first of them all. -/
theorem Cs.sort_strict {M : List Ck.Al} (h : Cs.apart M) : (Ck.sort M).Pairwise fun a b => Ck.lt a b = true := by
  refine List.Pairwise.imp₂ ?_ (Ck.sort_pair M) (Cs.apart_perm h (Ck.sort_perm M))
  intro a b h1 h2
  simp only [Ck.lt, Bool.not_eq_true', decide_eq_false_iff_not, decide_eq_true_eq] at h1 ⊢
  omega
theorem Cs.rank_perm {L M : List Ck.Al} (hp : L.Perm M) (a : Ck.Al) : Ck.rank L a = Ck.rank M a := (hp.filter _).length_eq
theorem Cs.rank_at {S : List Ck.Al} (h : S.Pairwise fun a b => Ck.lt a b = true) (P : Ck.Al → Bool) (hP : ∀ a b, Ck.lt a b = true → P b = true → P a = true) {a : Ck.Al} (ha : a ∈ S) (hp : P a = true) : (S.filter P)[Ck.rank S a]? = some a := by
  induction S with
  | nil => cases ha
  | cons x r ih =>
    have h' := List.pairwise_cons.1 h
    rcases List.mem_cons.1 ha with rfl | ha'
    · have hr : Ck.rank (a :: r) a = 0 := by
        unfold Ck.rank
        rw [List.length_eq_zero_iff, List.filter_eq_nil_iff]
        intro y hy
        rcases List.mem_cons.1 hy with rfl | hy
        · simp [Ck.lt]
        · have := h'.1 y hy
          simp only [Ck.lt, decide_eq_true_eq] at this ⊢
          omega
      rw [hr, List.filter_cons, if_pos hp]
      rfl
    · have hx := h'.1 a ha'
      have hr : Ck.rank (x :: r) a = Ck.rank r a + 1 := by
        unfold Ck.rank
        rw [List.filter_cons, if_pos hx]
        rfl
      rw [hr, List.filter_cons, if_pos (hP x a hx hp), List.getElem?_cons_succ]
      exact ih h'.2 ha'
/-- Where one that is due stands among those that are. -/
theorem Cs.due_at {now : Int} {M : List Ck.Al} (h : Cs.apart M) {a : Ck.Al} (ha : a ∈ M) (hd : a.2 ≤ now) : (Ck.due now (Ck.sort M))[Ck.rank M a]? = some a.1 := by
  unfold Ck.due
  rw [List.getElem?_map, ← Cs.rank_perm (Ck.sort_perm M) a, Cs.rank_at (Cs.sort_strict h) (fun a => Ck.left now a.2 == 0) ?_ ((Ck.sort_perm M).mem_iff.2 ha) ?_]
  · rfl
  · intro x y hxy hy
    simp only [Ck.lt, decide_eq_true_eq] at hxy
    simp only [Ck.left, beq_iff_eq] at hy ⊢
    omega
  · simp only [Ck.left, beq_iff_eq]
    omega
/-- How many are due. -/
def Cs.dues (now : Int) (M : List Ck.Al) : Nat := (M.filter fun a => decide (a.2 ≤ now)).length
theorem Cs.dues_snoc (now : Int) (M : List Ck.Al) (a : Ck.Al) : Cs.dues now (M ++ [a]) = Cs.dues now M + if a.2 ≤ now then 1 else 0 := by
  unfold Cs.dues
  rw [List.filter_append, List.length_append]
  congr 1
  by_cases h : a.2 ≤ now <;> simp [h]
theorem Cs.dues_due (now : Int) (M : List Ck.Al) : Cs.dues now M = (Ck.due now (Ck.sort M)).length := by
  unfold Cs.dues Ck.due
  rw [List.length_map, ((Ck.sort_perm M).filter _).length_eq]
  congr 2
  funext a
  rw [Bool.eq_iff_iff]
  simp only [Ck.left, beq_iff_eq, decide_eq_true_eq]
  omega
theorem Cs.dues_le (now : Int) (M : List Ck.Al) : Cs.dues now M ≤ M.length := List.length_filter_le _ _
/-- The least that is left, of those that were seen. -/
def Cs.Least (now : Int) (M : List Ck.Al) (k : Nat) (x : Int) : Prop := (k = 0 ∧ x = -1) ∨ (0 < k ∧ 0 ≤ x ∧ (∃ j : Nat, ∃ h : j < M.length, x = Ck.left now M[j].2) ∧ ∀ j (h : j < M.length), j < k → x ≤ Ck.left now M[j].2)
theorem Cs.least_next {now : Int} {M : List Ck.Al} (h : Cs.apart M) {x : Int} (hx : Cs.Least now M M.length x) : (M = [] ∧ x = -1) ∨ ∃ h : 0 < (Ck.sort M).length, 0 ≤ x ∧ x = Ck.left now (Ck.sort M)[0].2 := by
  rcases hx with ⟨h0, rfl⟩ | ⟨hk, hp, ⟨j, hj, rfl⟩, hle⟩
  · exact .inl ⟨List.eq_nil_of_length_eq_zero h0, rfl⟩
  · have hs : 0 < (Ck.sort M).length := by rw [Ck.sort_length]; exact hk
    refine .inr ⟨hs, hp, ?_⟩
    have m0 : (Ck.sort M)[0] ∈ M := (Ck.sort_perm M).mem_iff.1 (List.getElem_mem hs)
    obtain ⟨i, hi, ei⟩ := List.getElem_of_mem m0
    have h1 := hle i hi hi
    rw [ei] at h1
    have mj : M[j] ∈ Ck.sort M := (Ck.sort_perm M).mem_iff.2 (List.getElem_mem hj)
    have h2 : (Ck.sort M)[0].2 ≤ M[j].2 := by
      obtain ⟨q, hq, eq⟩ := List.getElem_of_mem mj
      rw [← eq]
      cases q with
      | zero => exact Int.le_refl _
      | succ q =>
        have := List.pairwise_iff_getElem.1 (Cs.sort_strict h) 0 (q + 1) hs hq (by omega)
        simp only [Ck.lt, decide_eq_true_eq] at this
        omega
    unfold Ck.left at h1 ⊢
    omega
/-- What Left tells, and where the document finds it. -/
theorem Cs.left_same {now : Int} {M : List Ck.Al} (h : Cs.apart M) {id n r : Int} {b : Bool} (h1 : Ck.Lft now (Ck.sort M) id n b) (h2 : Ck.Ix M id r) : (b = false ∧ n = 0 ∧ r = -1) ∨ (b = true ∧ ∃ i : Nat, ∃ h : i < M.length, r = i ∧ n = Ck.left now M[i].2) := by
  rcases h1 with ⟨rfl, rfl, hno⟩ | ⟨rfl, i, hi, ei, rfl⟩
  · rcases h2 with ⟨rfl, _⟩ | ⟨j, hj, rfl, ej⟩
    · exact .inl ⟨rfl, rfl, rfl⟩
    · exact absurd ej (hno _ ((Ck.sort_perm M).mem_iff.2 (List.getElem_mem hj)))
  · have hm : (Ck.sort M)[i] ∈ M := (Ck.sort_perm M).mem_iff.1 (List.getElem_mem hi)
    rcases h2 with ⟨rfl, hno⟩ | ⟨j, hj, rfl, ej⟩
    · exact absurd ei (hno _ hm)
    · refine .inr ⟨rfl, j, hj, rfl, ?_⟩
      rw [Cs.apart_eq h hm (List.getElem_mem hj) (by rw [ei, ej])]

end Go.Proofs
