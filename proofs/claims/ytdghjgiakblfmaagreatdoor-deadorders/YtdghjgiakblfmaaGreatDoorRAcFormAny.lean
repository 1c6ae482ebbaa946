import Derived.Test.YtdghjgiakblfmaaGreatDoorRAcFormed
namespace Go.Proofs
open Go.RowKit Go.Shelf
theorem Ac.formed_1 {T : Ac} (hk : T.kind = 1) : T.Formed ↔ T.holdsB = true ∧ Ac.Same1 T.rest (Ac.zeroOf T.kind) ∧ T.ks.length = 0 := by
 refine ⟨fun h => ?_, fun h => .inl ⟨hk, h⟩⟩
 unfold Ac.Formed at h
 rcases h with h | h | h | h | h | h | h | h | h | h | h | h | h | h | h
 ·exact h.2
 ·exact absurd (hk.symm.trans h.1) (by decide)
 ·exact absurd (hk.symm.trans h.1) (by decide)
 ·exact absurd (hk.symm.trans h.1) (by decide)
 ·exact absurd (hk.symm.trans h.1) (by decide)
 ·exact absurd (hk.symm.trans h.1) (by decide)
 ·exact absurd (hk.symm.trans h.1) (by decide)
 ·exact absurd (hk.symm.trans h.1) (by decide)
 ·exact absurd (hk.symm.trans h.1) (by decide)
 ·exact absurd (hk.symm.trans h.1) (by decide)
 ·exact absurd (hk.symm.trans h.1) (by decide)
 ·exact absurd (hk.symm.trans h.1) (by decide)
 ·exact absurd (hk.symm.trans h.1) (by decide)
 ·exact absurd (hk.symm.trans h.1) (by decide)
 ·exact absurd (hk.symm.trans h.1) (by decide)
theorem Ac.formed_5 {T : Ac} (hk : T.kind = 5) : T.Formed ↔ T.holdsB = true ∧ (0 ≤ T.node ∧ T.node < 24) ∧ Ac.Same1 T.rest (Ac.zeroOf T.kind) ∧ T.ks.length = 0 := by
 refine ⟨fun h => ?_, fun h => .inr (.inl ⟨hk, h⟩)⟩
 unfold Ac.Formed at h
 rcases h with h | h | h | h | h | h | h | h | h | h | h | h | h | h | h
 ·exact absurd (hk.symm.trans h.1) (by decide)
 ·exact h.2
 ·exact absurd (hk.symm.trans h.1) (by decide)
 ·exact absurd (hk.symm.trans h.1) (by decide)
 ·exact absurd (hk.symm.trans h.1) (by decide)
 ·exact absurd (hk.symm.trans h.1) (by decide)
 ·exact absurd (hk.symm.trans h.1) (by decide)
 ·exact absurd (hk.symm.trans h.1) (by decide)
 ·exact absurd (hk.symm.trans h.1) (by decide)
 ·exact absurd (hk.symm.trans h.1) (by decide)
 ·exact absurd (hk.symm.trans h.1) (by decide)
 ·exact absurd (hk.symm.trans h.1) (by decide)
 ·exact absurd (hk.symm.trans h.1) (by decide)
 ·exact absurd (hk.symm.trans h.1) (by decide)
 ·exact absurd (hk.symm.trans h.1) (by decide)
theorem Ac.formed_2 {T : Ac} (hk : T.kind = 2) : T.Formed ↔ T.holdsB = true ∧ (0 ≤ T.node ∧ T.node < 24) ∧ (0 ≤ T.a ∧ T.a < 4) ∧ Ac.Same1 T.rest (Ac.zeroOf T.kind) ∧ T.ks.length = 0 := by
 refine ⟨fun h => ?_, fun h => .inr (.inr (.inl ⟨hk, h⟩))⟩
 unfold Ac.Formed at h
 rcases h with h | h | h | h | h | h | h | h | h | h | h | h | h | h | h
 ·exact absurd (hk.symm.trans h.1) (by decide)
 ·exact absurd (hk.symm.trans h.1) (by decide)
 ·exact h.2
 ·exact absurd (hk.symm.trans h.1) (by decide)
 ·exact absurd (hk.symm.trans h.1) (by decide)
 ·exact absurd (hk.symm.trans h.1) (by decide)
 ·exact absurd (hk.symm.trans h.1) (by decide)
 ·exact absurd (hk.symm.trans h.1) (by decide)
 ·exact absurd (hk.symm.trans h.1) (by decide)
 ·exact absurd (hk.symm.trans h.1) (by decide)
 ·exact absurd (hk.symm.trans h.1) (by decide)
 ·exact absurd (hk.symm.trans h.1) (by decide)
 ·exact absurd (hk.symm.trans h.1) (by decide)
 ·exact absurd (hk.symm.trans h.1) (by decide)
 ·exact absurd (hk.symm.trans h.1) (by decide)
theorem Ac.formed_4 {T : Ac} (hk : T.kind = 4) : T.Formed ↔ T.holdsB = true ∧ (0 ≤ T.node ∧ T.node < 24) ∧ (0 ≤ T.a ∧ T.a < 4) ∧ Ac.Same1 T.rest (Ac.zeroOf T.kind) ∧ T.ks.length = 0 := by
 refine ⟨fun h => ?_, fun h => .inr (.inr (.inr (.inl ⟨hk, h⟩)))⟩
 unfold Ac.Formed at h
 rcases h with h | h | h | h | h | h | h | h | h | h | h | h | h | h | h
 ·exact absurd (hk.symm.trans h.1) (by decide)
 ·exact absurd (hk.symm.trans h.1) (by decide)
 ·exact absurd (hk.symm.trans h.1) (by decide)
 ·exact h.2
 ·exact absurd (hk.symm.trans h.1) (by decide)
 ·exact absurd (hk.symm.trans h.1) (by decide)
 ·exact absurd (hk.symm.trans h.1) (by decide)
 ·exact absurd (hk.symm.trans h.1) (by decide)
 ·exact absurd (hk.symm.trans h.1) (by decide)
 ·exact absurd (hk.symm.trans h.1) (by decide)
 ·exact absurd (hk.symm.trans h.1) (by decide)
 ·exact absurd (hk.symm.trans h.1) (by decide)
 ·exact absurd (hk.symm.trans h.1) (by decide)
 ·exact absurd (hk.symm.trans h.1) (by decide)
 ·exact absurd (hk.symm.trans h.1) (by decide)
theorem Ac.formed_3 {T : Ac} (hk : T.kind = 3) : T.Formed ↔ T.holdsB = true ∧ (0 ≤ T.node ∧ T.node < 24) ∧ Nt.ofB T.t 1 = true ∧ (0 ≤ T.a ∧ T.a < 4) ∧ Ac.Same1 T.rest (Ac.zeroOf T.kind) ∧ T.ks.length = 0 := by
 refine ⟨fun h => ?_, fun h => .inr (.inr (.inr (.inr (.inl ⟨hk, h⟩))))⟩
 unfold Ac.Formed at h
 rcases h with h | h | h | h | h | h | h | h | h | h | h | h | h | h | h
 ·exact absurd (hk.symm.trans h.1) (by decide)
 ·exact absurd (hk.symm.trans h.1) (by decide)
 ·exact absurd (hk.symm.trans h.1) (by decide)
 ·exact absurd (hk.symm.trans h.1) (by decide)
 ·exact h.2
 ·exact absurd (hk.symm.trans h.1) (by decide)
 ·exact absurd (hk.symm.trans h.1) (by decide)
 ·exact absurd (hk.symm.trans h.1) (by decide)
 ·exact absurd (hk.symm.trans h.1) (by decide)
 ·exact absurd (hk.symm.trans h.1) (by decide)
 ·exact absurd (hk.symm.trans h.1) (by decide)
 ·exact absurd (hk.symm.trans h.1) (by decide)
 ·exact absurd (hk.symm.trans h.1) (by decide)
 ·exact absurd (hk.symm.trans h.1) (by decide)
 ·exact absurd (hk.symm.trans h.1) (by decide)
theorem Ac.formed_10 {T : Ac} (hk : T.kind = 10) : T.Formed ↔ T.holdsB = true ∧ (0 ≤ T.node ∧ T.node < 24) ∧ T.ks.length = 1 ∧ (0 ≤ T.a ∧ T.a < 5) ∧ Ac.Same1 T.rest (Ac.zeroOf T.kind) ∧ True := by
 refine ⟨fun h => ?_, fun h => .inr (.inr (.inr (.inr (.inr (.inl ⟨hk, h⟩)))))⟩
 unfold Ac.Formed at h
 rcases h with h | h | h | h | h | h | h | h | h | h | h | h | h | h | h
 ·exact absurd (hk.symm.trans h.1) (by decide)
 ·exact absurd (hk.symm.trans h.1) (by decide)
 ·exact absurd (hk.symm.trans h.1) (by decide)
 ·exact absurd (hk.symm.trans h.1) (by decide)
 ·exact absurd (hk.symm.trans h.1) (by decide)
 ·exact h.2
 ·exact absurd (hk.symm.trans h.1) (by decide)
 ·exact absurd (hk.symm.trans h.1) (by decide)
 ·exact absurd (hk.symm.trans h.1) (by decide)
 ·exact absurd (hk.symm.trans h.1) (by decide)
 ·exact absurd (hk.symm.trans h.1) (by decide)
 ·exact absurd (hk.symm.trans h.1) (by decide)
 ·exact absurd (hk.symm.trans h.1) (by decide)
 ·exact absurd (hk.symm.trans h.1) (by decide)
 ·exact absurd (hk.symm.trans h.1) (by decide)
theorem Ac.formed_11 {T : Ac} (hk : T.kind = 11) : T.Formed ↔ T.holdsB = true ∧ (0 ≤ T.node ∧ T.node < 24) ∧ T.ks.length = 2 ∧ (0 ≤ T.b ∧ T.b < (T.cs.length : Int)) ∧ T.cs.length = T.ks.length ∧ Ac.choiceB T.cs T.a = true ∧ (0 ≤ T.a ∧ T.a < (T.cs.length : Int)) ∧ 2 ≤ T.ks.length ∧ Ac.Same1 T.rest (Ac.zeroOf T.kind) ∧ True := by
 refine ⟨fun h => ?_, fun h => .inr (.inr (.inr (.inr (.inr (.inr (.inl ⟨hk, h⟩))))))⟩
 unfold Ac.Formed at h
 rcases h with h | h | h | h | h | h | h | h | h | h | h | h | h | h | h
 ·exact absurd (hk.symm.trans h.1) (by decide)
 ·exact absurd (hk.symm.trans h.1) (by decide)
 ·exact absurd (hk.symm.trans h.1) (by decide)
 ·exact absurd (hk.symm.trans h.1) (by decide)
 ·exact absurd (hk.symm.trans h.1) (by decide)
 ·exact absurd (hk.symm.trans h.1) (by decide)
 ·exact h.2
 ·exact absurd (hk.symm.trans h.1) (by decide)
 ·exact absurd (hk.symm.trans h.1) (by decide)
 ·exact absurd (hk.symm.trans h.1) (by decide)
 ·exact absurd (hk.symm.trans h.1) (by decide)
 ·exact absurd (hk.symm.trans h.1) (by decide)
 ·exact absurd (hk.symm.trans h.1) (by decide)
 ·exact absurd (hk.symm.trans h.1) (by decide)
 ·exact absurd (hk.symm.trans h.1) (by decide)
theorem Ac.formed_8 {T : Ac} (hk : T.kind = 8) : T.Formed ↔ T.holdsB = true ∧ (0 ≤ T.node ∧ T.node < 24) ∧ T.cs.length = T.ks.length ∧ Ac.choiceB T.cs T.a = true ∧ (0 ≤ T.a ∧ T.a < (T.cs.length : Int)) ∧ 2 ≤ T.ks.length ∧ Ac.Same1 T.rest (Ac.zeroOf T.kind) ∧ True := by
 refine ⟨fun h => ?_, fun h => .inr (.inr (.inr (.inr (.inr (.inr (.inr (.inl ⟨hk, h⟩)))))))⟩
 unfold Ac.Formed at h
 rcases h with h | h | h | h | h | h | h | h | h | h | h | h | h | h | h
 ·exact absurd (hk.symm.trans h.1) (by decide)
 ·exact absurd (hk.symm.trans h.1) (by decide)
 ·exact absurd (hk.symm.trans h.1) (by decide)
 ·exact absurd (hk.symm.trans h.1) (by decide)
 ·exact absurd (hk.symm.trans h.1) (by decide)
 ·exact absurd (hk.symm.trans h.1) (by decide)
 ·exact absurd (hk.symm.trans h.1) (by decide)
 ·exact h.2
 ·exact absurd (hk.symm.trans h.1) (by decide)
 ·exact absurd (hk.symm.trans h.1) (by decide)
 ·exact absurd (hk.symm.trans h.1) (by decide)
 ·exact absurd (hk.symm.trans h.1) (by decide)
 ·exact absurd (hk.symm.trans h.1) (by decide)
 ·exact absurd (hk.symm.trans h.1) (by decide)
 ·exact absurd (hk.symm.trans h.1) (by decide)
theorem Ac.formed_9 {T : Ac} (hk : T.kind = 9) : T.Formed ↔ T.holdsB = true ∧ (0 ≤ T.node ∧ T.node < 24) ∧ 2 ≤ T.ks.length ∧ Ac.Same1 T.rest (Ac.zeroOf T.kind) ∧ True := by
 refine ⟨fun h => ?_, fun h => .inr (.inr (.inr (.inr (.inr (.inr (.inr (.inr (.inl ⟨hk, h⟩))))))))⟩
 unfold Ac.Formed at h
 rcases h with h | h | h | h | h | h | h | h | h | h | h | h | h | h | h
 ·exact absurd (hk.symm.trans h.1) (by decide)
 ·exact absurd (hk.symm.trans h.1) (by decide)
 ·exact absurd (hk.symm.trans h.1) (by decide)
 ·exact absurd (hk.symm.trans h.1) (by decide)
 ·exact absurd (hk.symm.trans h.1) (by decide)
 ·exact absurd (hk.symm.trans h.1) (by decide)
 ·exact absurd (hk.symm.trans h.1) (by decide)
 ·exact absurd (hk.symm.trans h.1) (by decide)
 ·exact h.2
 ·exact absurd (hk.symm.trans h.1) (by decide)
 ·exact absurd (hk.symm.trans h.1) (by decide)
 ·exact absurd (hk.symm.trans h.1) (by decide)
 ·exact absurd (hk.symm.trans h.1) (by decide)
 ·exact absurd (hk.symm.trans h.1) (by decide)
 ·exact absurd (hk.symm.trans h.1) (by decide)
theorem Ac.formed_6 {T : Ac} (hk : T.kind = 6) : T.Formed ↔ T.holdsB = true ∧ 2 ≤ T.ks.length ∧ Ac.Same1 T.rest (Ac.zeroOf T.kind) ∧ True := by
 refine ⟨fun h => ?_, fun h => .inr (.inr (.inr (.inr (.inr (.inr (.inr (.inr (.inr (.inl ⟨hk, h⟩)))))))))⟩
 unfold Ac.Formed at h
 rcases h with h | h | h | h | h | h | h | h | h | h | h | h | h | h | h
 ·exact absurd (hk.symm.trans h.1) (by decide)
 ·exact absurd (hk.symm.trans h.1) (by decide)
 ·exact absurd (hk.symm.trans h.1) (by decide)
 ·exact absurd (hk.symm.trans h.1) (by decide)
 ·exact absurd (hk.symm.trans h.1) (by decide)
 ·exact absurd (hk.symm.trans h.1) (by decide)
 ·exact absurd (hk.symm.trans h.1) (by decide)
 ·exact absurd (hk.symm.trans h.1) (by decide)
 ·exact absurd (hk.symm.trans h.1) (by decide)
 ·exact h.2
 ·exact absurd (hk.symm.trans h.1) (by decide)
 ·exact absurd (hk.symm.trans h.1) (by decide)
 ·exact absurd (hk.symm.trans h.1) (by decide)
 ·exact absurd (hk.symm.trans h.1) (by decide)
 ·exact absurd (hk.symm.trans h.1) (by decide)
theorem Ac.formed_7 {T : Ac} (hk : T.kind = 7) : T.Formed ↔ T.holdsB = true ∧ 2 ≤ T.ks.length ∧ Ac.Same1 T.rest (Ac.zeroOf T.kind) ∧ True := by
 refine ⟨fun h => ?_, fun h => .inr (.inr (.inr (.inr (.inr (.inr (.inr (.inr (.inr (.inr (.inl ⟨hk, h⟩))))))))))⟩
 unfold Ac.Formed at h
 rcases h with h | h | h | h | h | h | h | h | h | h | h | h | h | h | h
 ·exact absurd (hk.symm.trans h.1) (by decide)
 ·exact absurd (hk.symm.trans h.1) (by decide)
 ·exact absurd (hk.symm.trans h.1) (by decide)
 ·exact absurd (hk.symm.trans h.1) (by decide)
 ·exact absurd (hk.symm.trans h.1) (by decide)
 ·exact absurd (hk.symm.trans h.1) (by decide)
 ·exact absurd (hk.symm.trans h.1) (by decide)
 ·exact absurd (hk.symm.trans h.1) (by decide)
 ·exact absurd (hk.symm.trans h.1) (by decide)
 ·exact absurd (hk.symm.trans h.1) (by decide)
 ·exact h.2
 ·exact absurd (hk.symm.trans h.1) (by decide)
 ·exact absurd (hk.symm.trans h.1) (by decide)
 ·exact absurd (hk.symm.trans h.1) (by decide)
 ·exact absurd (hk.symm.trans h.1) (by decide)
theorem Ac.formed_12a {T : Ac} (hk : T.kind = 12) (ha : T.a = 3) : T.Formed ↔ T.holdsB = true ∧ (0 ≤ T.node ∧ T.node < 24) ∧ 2 ≤ T.cs.length ∧ Ac.choiceB T.cs T.b = true ∧ (0 ≤ T.b ∧ T.b < (T.cs.length : Int)) ∧ True ∧ True ∧ Ac.Same1 T.rest (Ac.zeroOf T.kind) ∧ T.ks.length = 0 := by
 refine ⟨fun h => ?_, fun h => .inr (.inr (.inr (.inr (.inr (.inr (.inr (.inr (.inr (.inr (.inr (.inl ⟨hk, ha, h⟩)))))))))))⟩
 unfold Ac.Formed at h
 rcases h with h | h | h | h | h | h | h | h | h | h | h | h | h | h | h
 ·exact absurd (hk.symm.trans h.1) (by decide)
 ·exact absurd (hk.symm.trans h.1) (by decide)
 ·exact absurd (hk.symm.trans h.1) (by decide)
 ·exact absurd (hk.symm.trans h.1) (by decide)
 ·exact absurd (hk.symm.trans h.1) (by decide)
 ·exact absurd (hk.symm.trans h.1) (by decide)
 ·exact absurd (hk.symm.trans h.1) (by decide)
 ·exact absurd (hk.symm.trans h.1) (by decide)
 ·exact absurd (hk.symm.trans h.1) (by decide)
 ·exact absurd (hk.symm.trans h.1) (by decide)
 ·exact absurd (hk.symm.trans h.1) (by decide)
 ·exact h.2.2
 ·exact absurd ha h.2.1
 ·exact absurd (hk.symm.trans h.1) (by decide)
 ·exact absurd (hk.symm.trans h.1) (by decide)
theorem Ac.formed_12b {T : Ac} (hk : T.kind = 12) (ha : ¬ T.a = 3) : T.Formed ↔ T.holdsB = true ∧ (0 ≤ T.node ∧ T.node < 24) ∧ 1 ≤ T.a ∧ (0 ≤ T.a ∧ T.a < 5) ∧ Ac.Same1 T.rest (Ac.zeroOf T.kind) ∧ T.ks.length = 0 := by
 refine ⟨fun h => ?_, fun h => .inr (.inr (.inr (.inr (.inr (.inr (.inr (.inr (.inr (.inr (.inr (.inr (.inl ⟨hk, ha, h⟩))))))))))))⟩
 unfold Ac.Formed at h
 rcases h with h | h | h | h | h | h | h | h | h | h | h | h | h | h | h
 ·exact absurd (hk.symm.trans h.1) (by decide)
 ·exact absurd (hk.symm.trans h.1) (by decide)
 ·exact absurd (hk.symm.trans h.1) (by decide)
 ·exact absurd (hk.symm.trans h.1) (by decide)
 ·exact absurd (hk.symm.trans h.1) (by decide)
 ·exact absurd (hk.symm.trans h.1) (by decide)
 ·exact absurd (hk.symm.trans h.1) (by decide)
 ·exact absurd (hk.symm.trans h.1) (by decide)
 ·exact absurd (hk.symm.trans h.1) (by decide)
 ·exact absurd (hk.symm.trans h.1) (by decide)
 ·exact absurd (hk.symm.trans h.1) (by decide)
 ·exact absurd h.2.1 ha
 ·exact h.2.2
 ·exact absurd (hk.symm.trans h.1) (by decide)
 ·exact absurd (hk.symm.trans h.1) (by decide)
theorem Ac.formed_13 {T : Ac} (hk : T.kind = 13) : T.Formed ↔ T.holdsB = true ∧ T.linkedB = true ∧ Ac.Same1 T.rest (Ac.zeroOf T.kind) ∧ True := by
 refine ⟨fun h => ?_, fun h => .inr (.inr (.inr (.inr (.inr (.inr (.inr (.inr (.inr (.inr (.inr (.inr (.inr (.inl ⟨hk, h⟩)))))))))))))⟩
 unfold Ac.Formed at h
 rcases h with h | h | h | h | h | h | h | h | h | h | h | h | h | h | h
 ·exact absurd (hk.symm.trans h.1) (by decide)
 ·exact absurd (hk.symm.trans h.1) (by decide)
 ·exact absurd (hk.symm.trans h.1) (by decide)
 ·exact absurd (hk.symm.trans h.1) (by decide)
 ·exact absurd (hk.symm.trans h.1) (by decide)
 ·exact absurd (hk.symm.trans h.1) (by decide)
 ·exact absurd (hk.symm.trans h.1) (by decide)
 ·exact absurd (hk.symm.trans h.1) (by decide)
 ·exact absurd (hk.symm.trans h.1) (by decide)
 ·exact absurd (hk.symm.trans h.1) (by decide)
 ·exact absurd (hk.symm.trans h.1) (by decide)
 ·exact absurd (hk.symm.trans h.1) (by decide)
 ·exact absurd (hk.symm.trans h.1) (by decide)
 ·exact h.2
 ·exact absurd (hk.symm.trans h.1) (by decide)
theorem Ac.formed_14 {T : Ac} (hk : T.kind = 14) : T.Formed ↔ T.holdsB = true ∧ (Nt.checkN T.ns T.fs).1 = 0 ∧ Ac.Same1 T.rest (Ac.zeroOf T.kind) ∧ T.ks.length = 0 := by
 refine ⟨fun h => ?_, fun h => .inr (.inr (.inr (.inr (.inr (.inr (.inr (.inr (.inr (.inr (.inr (.inr (.inr (.inr (⟨hk, h⟩))))))))))))))⟩
 unfold Ac.Formed at h
 rcases h with h | h | h | h | h | h | h | h | h | h | h | h | h | h | h
 ·exact absurd (hk.symm.trans h.1) (by decide)
 ·exact absurd (hk.symm.trans h.1) (by decide)
 ·exact absurd (hk.symm.trans h.1) (by decide)
 ·exact absurd (hk.symm.trans h.1) (by decide)
 ·exact absurd (hk.symm.trans h.1) (by decide)
 ·exact absurd (hk.symm.trans h.1) (by decide)
 ·exact absurd (hk.symm.trans h.1) (by decide)
 ·exact absurd (hk.symm.trans h.1) (by decide)
 ·exact absurd (hk.symm.trans h.1) (by decide)
 ·exact absurd (hk.symm.trans h.1) (by decide)
 ·exact absurd (hk.symm.trans h.1) (by decide)
 ·exact absurd (hk.symm.trans h.1) (by decide)
 ·exact absurd (hk.symm.trans h.1) (by decide)
 ·exact absurd (hk.symm.trans h.1) (by decide)
 ·exact h.2
set_option maxRecDepth 20000 in
set_option maxHeartbeats 4000000 in
theorem Tryz.fm_0 (k : Int) (x1 x2 x3 x4 x5 x6 x7 x8 x9 x10 x11 : Value) (w : World) (hb : Bool) (hk : k < 1 ∨ 14 < k) (CH0 : ∀ W, Below w.heap.size w W → Calls Tryz.prog 58 #[.agg #[.int .i64 k, x1, x2, x3, x4, x5, x6, x7, x8, x9, x10, x11]] W fun e w' => e = .returned (.bool hb) ∧ Below W.heap.size W w') :
  Calls Tryz.prog 48 #[.agg #[.int .i64 k, x1, x2, x3, x4, x5, x6, x7, x8, x9, x10, x11]] w fun e w' => e = .returned (.bool false) ∧ Below w.heap.size w w' := by
 have e1 : (k == 1) = false := by simp; omega
 have e2 : (k == 2) = false := by simp; omega
 have e3 : (k == 3) = false := by simp; omega
 have e4 : (k == 4) = false := by simp; omega
 have e5 : (k == 5) = false := by simp; omega
 have e6 : (k == 6) = false := by simp; omega
 have e7 : (k == 7) = false := by simp; omega
 have e8 : (k == 8) = false := by simp; omega
 have e9 : (k == 9) = false := by simp; omega
 have e10 : (k == 10) = false := by simp; omega
 have e11 : (k == 11) = false := by simp; omega
 have e12 : (k == 12) = false := by simp; omega
 have e13 : (k == 13) = false := by simp; omega
 have e14 : (k == 14) = false := by simp; omega
 have CH : Hid _ := CH0
 obtain ⟨w1, hw1⟩ : ∃ x, w.alloc (.cells #[.int .i64 k, x1, x2, x3, x4, x5, x6, x7, x8, x9, x10, x11] 32) = x := ⟨_, rfl⟩
 have A1 : Below w.heap.size w w1 := by rw [← hw1]; exact (Below.refl _ w).alloc (Nat.le_refl _) _
 have G1 : w1.heap[w.heap.size]? = some (.cells #[.int .i64 k, x1, x2, x3, x4, x5, x6, x7, x8, x9, x10, x11] 32 (0, 0)) := by rw [← hw1]; exact heap_alloc_new w _
 have ca : w1.cell? ⟨w.heap.size, 0, none⟩ = some (.int .i64 k) ∧ w1.cell? ⟨w.heap.size, 1, none⟩ = some x1 ∧ w1.cell? ⟨w.heap.size, 2, none⟩ = some x2 ∧ w1.cell? ⟨w.heap.size, 3, none⟩ = some x3 ∧ w1.cell? ⟨w.heap.size, 4, none⟩ = some x4 ∧ w1.cell? ⟨w.heap.size, 5, none⟩ = some x5 ∧ w1.cell? ⟨w.heap.size, 6, none⟩ = some x6 ∧ w1.cell? ⟨w.heap.size, 7, none⟩ = some x7 ∧ w1.cell? ⟨w.heap.size, 8, none⟩ = some x8 ∧ w1.cell? ⟨w.heap.size, 9, none⟩ = some x9 ∧ w1.cell? ⟨w.heap.size, 10, none⟩ = some x10 ∧ w1.cell? ⟨w.heap.size, 11, none⟩ = some x11 := by simp [World.cell?, G1]
 obtain ⟨m0, m1, m2, m3, m4, m5, m6, m7, m8, m9, m10, m11⟩ := ca
 have H1 : Hid (w.alloc (.cells #[.int .i64 k, x1, x2, x3, x4, x5, x6, x7, x8, x9, x10, x11] 32) = w1) := hw1
 have HA : Hid (Below w.heap.size w w1 ∧ w1.heap[w.heap.size]? = some (.cells #[.int .i64 k, x1, x2, x3, x4, x5, x6, x7, x8, x9, x10, x11] 32 (0, 0))) := ⟨A1, G1⟩
 have hnb : Ac.hasNodeB k = false := by unfold Ac.hasNodeB; simp; omega
 clear hw1 A1 G1 CH0 hk
 go_enter Tryz.func48, Tryz.ntmps48
 go_upto_region 1 with fail
 rw [H1.out]
 go_wp2_with fail
 refine Calls.mono (CH.out _ HA.out.1) ?_
 rintro e W2 ⟨rfl, hb2⟩
 clear H1 CH m0 m1 m2 m3 m4 m5 m6 m7 m8 m9 m10 m11
 go_upto_region 3 with fail
 obtain ⟨W3, hW3⟩ : ∃ z, W2.alloc (.cells #[.bool hb] 4) = z := ⟨_, rfl⟩
 have hx2 : W2.heap[w.heap.size]? = some (.cells #[.int .i64 k, x1, x2, x3, x4, x5, x6, x7, x8, x9, x10, x11] 32 (0, 0)) := (hb2.block _ (Array.getElem?_eq_some_iff.1 HA.out.2).1).trans HA.out.2
 have hl2 := (Array.getElem?_eq_some_iff.1 hx2).1
 have FW3 : Hid (Ak.Fm w w.heap.size W2.heap.size #[.int .i64 k, x1, x2, x3, x4, x5, x6, x7, x8, x9, x10, x11] hb W3) := by
  have b3 : Below W2.heap.size W2 W3 := by rw [← hW3]; exact (Below.refl _ W2).alloc (Nat.le_refl _) _
  have b2 : Below w.heap.size w W2 := HA.out.1.trans (hb2.mono HA.out.1.size)
  exact ⟨(b3.block _ hl2).trans hx2, by rw [← hW3]; exact heap_alloc_new W2 _, by omega, Nat.le_refl _, b2.size, b2.trans (b3.mono b2.size)⟩
 rw [hW3]
 have k0 : W3.cell? ⟨w.heap.size, 0, none⟩ = some (.int .i64 k) := by simp [World.cell?, FW3.out.box]
 have CN : Hid _ := Tryz.hasNode_any k W3
 rw [hnb] at CN
 clear hW3 hx2 hl2 hb2 HA hnb
 go_wp2_with fail
 refine Calls.mono CN.out ?_
 rintro e W4 ⟨rfl, hw4⟩
 obtain rfl := hw4.symm
 clear CN
 go_wp2
 go_ret
 exact ⟨rfl, FW3.out.bel⟩
theorem Tryz.aformed_any (d e : Nat) (T : Ac) (V : Ac.Vs) (w : World) (hT : Ac.Lies w w.heap.size e d V T) (hF : T.Fit) (hO : Tk.Ops w) (h0 : 0 < w.heap.size) :
  Calls Tryz.prog 48 #[.agg (Ac.row T V)] w fun e w' => Ak.Told T.Formed e ∧ Below w.heap.size w w' := by
 by_cases hr : T.kind < 1 ∨ 14 < T.kind
 ·have hno : ¬ T.Formed := fun h => by
   unfold Ac.Formed at h
   rcases h with h | h | h | h | h | h | h | h | h | h | h | h | h | h | h <;> (have := h.1; omega)
  have hrow : Ac.row T V = #[.int .i64 T.kind, .int .i64 T.node, .int .i64 T.a, .int .i64 T.b, .int .i64 T.t.op, .int .i64 T.t.num, V.t, V.c, V.k, V.l, V.n, V.f] := rfl
  have CH : ∀ W, Below w.heap.size w W → Calls Tryz.prog 58 #[.agg (Ac.row T V)] W fun e w' => e = .returned (.bool T.holdsB) ∧ Below W.heap.size W w' := fun W hb => Tryz.holds_any d e T V W ((hT.below hb).wider hb.size) (by have := hF.kl; omega)
  rw [hrow] at CH ⊢
  exact (Tryz.fm_0 T.kind _ _ _ _ _ _ _ _ _ _ _ w T.holdsB hr CH).mono fun e w' h => ⟨by rw [h.1]; exact Ak.Told.no hno, h.2⟩
 ·have hk : T.kind = 1 ∨ T.kind = 2 ∨ T.kind = 3 ∨ T.kind = 4 ∨ T.kind = 5 ∨ T.kind = 6 ∨ T.kind = 7 ∨ T.kind = 8 ∨ T.kind = 9 ∨ T.kind = 10 ∨ T.kind = 11 ∨ T.kind = 12 ∨ T.kind = 13 ∨ T.kind = 14 := by omega
  rcases hk with hk | hk | hk | hk | hk | hk | hk | hk | hk | hk | hk | hk | hk | hk
  ·exact (Tryz.aformed_1 d e T V w hT hF hO h0 hk).mono fun e w' h => ⟨by obtain ⟨r, h1, h2⟩ := h.1; exact ⟨r, h1, h2.trans (Ac.formed_1 hk).symm⟩, h.2⟩
  ·exact (Tryz.aformed_2 d e T V w hT hF hO h0 hk).mono fun e w' h => ⟨by obtain ⟨r, h1, h2⟩ := h.1; exact ⟨r, h1, h2.trans (Ac.formed_2 hk).symm⟩, h.2⟩
  ·exact (Tryz.aformed_3 d e T V w hT hF hO h0 hk).mono fun e w' h => ⟨by obtain ⟨r, h1, h2⟩ := h.1; exact ⟨r, h1, h2.trans (Ac.formed_3 hk).symm⟩, h.2⟩
  ·exact (Tryz.aformed_4 d e T V w hT hF hO h0 hk).mono fun e w' h => ⟨by obtain ⟨r, h1, h2⟩ := h.1; exact ⟨r, h1, h2.trans (Ac.formed_4 hk).symm⟩, h.2⟩
  ·exact (Tryz.aformed_5 d e T V w hT hF hO h0 hk).mono fun e w' h => ⟨by obtain ⟨r, h1, h2⟩ := h.1; exact ⟨r, h1, h2.trans (Ac.formed_5 hk).symm⟩, h.2⟩
  ·exact (Tryz.aformed_6 d e T V w hT hF hO h0 hk).mono fun e w' h => ⟨by obtain ⟨r, h1, h2⟩ := h.1; exact ⟨r, h1, h2.trans (Ac.formed_6 hk).symm⟩, h.2⟩
  ·exact (Tryz.aformed_7 d e T V w hT hF hO h0 hk).mono fun e w' h => ⟨by obtain ⟨r, h1, h2⟩ := h.1; exact ⟨r, h1, h2.trans (Ac.formed_7 hk).symm⟩, h.2⟩
  ·exact (Tryz.aformed_8 d e T V w hT hF hO h0 hk).mono fun e w' h => ⟨by obtain ⟨r, h1, h2⟩ := h.1; exact ⟨r, h1, h2.trans (Ac.formed_8 hk).symm⟩, h.2⟩
  ·exact (Tryz.aformed_9 d e T V w hT hF hO h0 hk).mono fun e w' h => ⟨by obtain ⟨r, h1, h2⟩ := h.1; exact ⟨r, h1, h2.trans (Ac.formed_9 hk).symm⟩, h.2⟩
  ·exact (Tryz.aformed_10 d e T V w hT hF hO h0 hk).mono fun e w' h => ⟨by obtain ⟨r, h1, h2⟩ := h.1; exact ⟨r, h1, h2.trans (Ac.formed_10 hk).symm⟩, h.2⟩
  ·exact (Tryz.aformed_11 d e T V w hT hF hO h0 hk).mono fun e w' h => ⟨by obtain ⟨r, h1, h2⟩ := h.1; exact ⟨r, h1, h2.trans (Ac.formed_11 hk).symm⟩, h.2⟩
  ·by_cases ha : T.a = 3
   ·exact (Tryz.aformed_12a d e T V w hT hF hO h0 hk ha).mono fun e w' h => ⟨by obtain ⟨r, h1, h2⟩ := h.1; exact ⟨r, h1, h2.trans (Ac.formed_12a hk ha).symm⟩, h.2⟩
   ·exact (Tryz.aformed_12b d e T V w hT hF hO h0 hk ha).mono fun e w' h => ⟨by obtain ⟨r, h1, h2⟩ := h.1; exact ⟨r, h1, h2.trans (Ac.formed_12b hk ha).symm⟩, h.2⟩
  ·exact (Tryz.aformed_13 d e T V w hT hF hO h0 hk).mono fun e w' h => ⟨by obtain ⟨r, h1, h2⟩ := h.1; exact ⟨r, h1, h2.trans (Ac.formed_13 hk).symm⟩, h.2⟩
  ·exact (Tryz.aformed_14 d e T V w hT hF hO h0 hk).mono fun e w' h => ⟨by obtain ⟨r, h1, h2⟩ := h.1; exact ⟨r, h1, h2.trans (Ac.formed_14 hk).symm⟩, h.2⟩
end Go.Proofs
