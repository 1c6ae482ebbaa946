/-
  What BlockApart says of blocks, as plain mathematics: blocks of one process whose text is the same are the same.
-/
import Derived.Test.YtemccpfgkbhahaaGreatDoorAllBlAlt
import Derived.Test.YtemccpfgkbhahaaGreatDoorAllBlStand
import Derived.Test.YtemccpfgkbhahaaGreatDoorBlInj
import Derived.Test.YtemccpfgkbhahaaGreatDoorAllBlSame
import Derived.Test.YtemccpfgkbhahaaGreatDoorAllNtLargeM
namespace Go.Proofs.YtemccpfgkbhahaaGreatDoor.BlockApart
open Go.RowKit

/-- A block as a value. -/
abbrev agg (k n r : Int) (a : Option Addr) (m c : Nat) (la : Option Addr) (ml lc : Nat) : Value := .agg #[.int .i64 k, .int .i64 n, .int .i64 r, .slice a m c, .slice la ml lc]
theorem few {T : Bl} (h : T.allP (fun _ _ _ ls => decide (ls.length ≤ 100)) = true) : T.allP (fun _ _ _ ls => decide (ls.length ≤ 2147483647)) = true ∧ T.room ≤ 6900 * T.size := by
  have key : (∀ T : Bl, T.allP (fun _ _ _ ls => decide (ls.length ≤ 100)) = true → T.allP (fun _ _ _ ls => decide (ls.length ≤ 2147483647)) = true ∧ T.room ≤ 6900 * T.size) := by
    intro T
    exact Bl.rec (motive_1 := fun T => T.allP (fun _ _ _ ls => decide (ls.length ≤ 100)) = true → T.allP (fun _ _ _ ls => decide (ls.length ≤ 2147483647)) = true ∧ T.room ≤ 6900 * T.size)
      (motive_2 := fun l => Bl.allPs (fun _ _ _ ls => decide (ls.length ≤ 100)) l = true → Bl.allPs (fun _ _ _ ls => decide (ls.length ≤ 2147483647)) l = true ∧ Bl.rooms l ≤ 6900 * Bl.sizes l)
      (fun k n a ks ls ih h => by
        rw [Bl.allP, Bool.and_eq_true, decide_eq_true_eq] at h
        have h2 := ih h.2
        rw [Bl.allP, Bool.and_eq_true, decide_eq_true_eq, Bl.room, Bl.size]
        exact ⟨⟨by omega, h2.1⟩, by omega⟩)
      (fun h => by rw [Bl.allPs, Bl.rooms]; exact ⟨rfl, Nat.zero_le _⟩)
      (fun x r ih1 ih2 h => by
        rw [Bl.allPs, Bool.and_eq_true] at h
        have h1 := ih1 h.1
        have h2 := ih2 h.2
        rw [Bl.allPs, Bool.and_eq_true, Bl.rooms, Bl.sizes]
        exact ⟨⟨h1.1, h2.1⟩, by omega⟩) T
  exact key T h

/-- A block that is formed is fine, and can be written. -/
theorem fine_of {ns : List Nd} {fs : List Fl} {T : Bl} (h : T.formedB ns fs = true) : T.fine ∧ Bl.writB T.kind T.node T.arg T.ls = true := by
  have hp := Bl.formed_parts h
  have h0 := h
  unfold Bl.formedB at h
  split at h
  · cases h
  rename_i hc
  have hA : T.arg ≠ 0 → T.kind = 7 := fun e => by
    by_cases h7 : T.kind = 7
    · exact h7
    · exact (hc (.inl ⟨e, h7⟩)).elim
  have hL : T.kind ≠ 9 → T.ls = [] := fun e => by
    by_cases hl : T.ls = []
    · exact hl
    · exact (hc (.inr (.inl ⟨List.length_pos_iff.2 hl, e⟩))).elim
  clear hc
  have lk : T.kind = 9 → ∀ x ∈ T.ls, -1 ≤ x.1 ∧ -1 ≤ x.2.1 ∧ -1 ≤ x.2.2 := fun e => by
    rw [if_neg (by omega), if_neg (by omega), if_pos e, Bool.and_eq_true, Bl.linkedB, Bool.and_eq_true, Bool.and_eq_true, Bool.and_eq_true] at h
    intro x hx
    have := List.all_eq_true.1 h.2.1.1.2 x hx
    simp only [Bl.linkB, Bl.endB, Bool.and_eq_true, decide_eq_true_eq] at this
    omega
  have r7 : T.kind = 7 → 0 ≤ T.arg := fun e => by
    rw [if_neg (by omega), if_neg (by omega), if_neg (by omega), if_neg (by omega), if_neg (by omega), if_neg (by omega), if_neg (by omega), if_neg (by omega), if_pos e, Bool.and_eq_true, decide_eq_true_eq] at h
    omega
  have noks : T.kind = 1 ∨ T.kind = 10 ∨ T.kind = 2 ∨ T.kind = 8 → T.ks = [] := fun e => by
    rw [← List.length_eq_zero_iff]
    by_cases e1 : T.kind = 1 ∨ T.kind = 10
    · rw [if_pos e1, decide_eq_true_eq] at h; exact h.2
    by_cases e2 : T.kind = 2
    · rw [if_neg e1, if_neg (by omega), if_neg (by omega), if_pos e2, Bool.and_eq_true, decide_eq_true_eq] at h; exact h.2
    · rw [if_neg e1, if_neg (by omega), if_neg (by omega), if_neg e2, if_pos (by omega), Bool.and_eq_true, decide_eq_true_eq] at h; exact h.2
  have ha0 : T.kind ≠ 7 → T.arg = 0 := fun e => by
    by_cases h : T.arg = 0
    · exact h
    · exact (e (hA h)).elim
  refine ⟨?_, ?_⟩
  · unfold Bl.fine
    rcases hp with ⟨hk, hn⟩ | ⟨hk, hn, _⟩
    · rcases hk with hk | hk | hk | hk
      · exact .inl ⟨.inl hk, hn, ha0 (by omega), noks (by omega), hL (by omega)⟩
      · exact .inr (.inr (.inl ⟨hk, hn, ha0 (by omega), hL (by omega)⟩))
      · exact .inr (.inr (.inr (.inr (.inr ⟨hk, hn, ha0 (by omega), lk hk⟩))))
      · exact .inl ⟨.inr hk, hn, ha0 (by omega), noks (by omega), hL (by omega)⟩
    · rcases hk with hk | hk | hk | hk | hk | hk
      · exact .inr (.inl ⟨.inl hk, hn, ha0 (by omega), noks (by omega), hL (by omega)⟩)
      · exact .inr (.inr (.inr (.inl ⟨.inl hk, hn, ha0 (by omega), hL (by omega)⟩)))
      · exact .inr (.inr (.inr (.inl ⟨.inr (.inl hk), hn, ha0 (by omega), hL (by omega)⟩)))
      · exact .inr (.inr (.inr (.inl ⟨.inr (.inr hk), hn, ha0 (by omega), hL (by omega)⟩)))
      · exact .inr (.inr (.inr (.inr (.inl ⟨hk, hn, r7 hk, hL (by omega)⟩))))
      · exact .inr (.inl ⟨.inr hk, hn, ha0 (by omega), noks (by omega), hL (by omega)⟩)
  · rw [Bl.writB, Bool.and_eq_true, decide_eq_true_eq]
    have harg : 0 ≤ T.arg := by
      by_cases h7 : T.kind = 7
      · exact r7 h7
      · have := ha0 h7; omega
    refine ⟨by omega, ?_⟩
    by_cases h9 : T.kind = 9
    · rw [Bool.not_eq_true', List.any_eq_false]
      intro x hx
      have := lk h9 x hx
      simp only [Bl.lowL, decide_eq_true_eq]
      omega
    · rw [hL h9]; rfl
theorem all_writ : ∀ T : Bl, T.All (fun x => Bl.writB x.kind x.node x.arg x.ls = true) → T.allP Bl.writB = true := fun T =>
  Bl.rec (motive_1 := fun T => T.All (fun x => Bl.writB x.kind x.node x.arg x.ls = true) → T.allP Bl.writB = true) (motive_2 := fun l => Bl.Alls (fun x => Bl.writB x.kind x.node x.arg x.ls = true) l → Bl.allPs Bl.writB l = true)
    (fun k n a ks ls ih h => by rw [Bl.allP, Bool.and_eq_true]; exact ⟨h.1, ih h.2⟩) (fun _ => by rw [Bl.allPs]) (fun x r i1 i2 h => by rw [Bl.allPs, Bool.and_eq_true]; exact ⟨i1 h.1, i2 h.2⟩) T
/-- What a block is whose error is none, or that a node stands in it twice. -/
theorem right_of {ns : List Nd} {fs : List Fl} {T : Bl} (h : (T.standR ns fs).2 = 0 ∨ (T.standR ns fs).2 = 8) : T.textR = (T.textL, 0) ∧ T.All Bl.fine := by
  unfold Bl.standR at h
  split at h
  · simp at h
  split at h
  · simp at h
  rename_i ht
  split at h
  · simp at h
  rename_i hg
  have hf : T.All fun x => x.formedB ns fs = true := by
    rcases Bl.go_all (fun x => x.formedB ns fs) () T with h | h
    · exact h.2
    · exact (hg (by unfold Bl.step1; rw [h])).elim
  refine ⟨?_, Bl.all_mono (fun x hx => (fine_of hx).1) T hf⟩
  rw [Bl.textR, if_neg ht, if_pos (all_writ T (Bl.all_mono (fun x hx => (fine_of hx).2) T hf))]
/-- Two blocks that are so have the same text just if they are the same. -/
theorem apart {ns : List Nd} {fs : List Fl} {S T : Bl} (hS : (S.standR ns fs).2 = 0 ∨ (S.standR ns fs).2 = 8) (hT : (T.standR ns fs).2 = 0 ∨ (T.standR ns fs).2 = 8) : S.textR.1 = T.textR.1 ↔ S = T := by
  have h1 := right_of hS
  have h2 := right_of hT
  rw [h1.1, h2.1]
  constructor
  · intro h
    have h : S.textL = T.textL := h
    exact (Bl.text_inj S T [] [] h1.2 h2.2 Bl.stop_nil Bl.stop_nil (by rw [List.append_nil, List.append_nil]; exact h)).1
  · intro h; rw [h]

end Go.Proofs.YtemccpfgkbhahaaGreatDoor.BlockApart
