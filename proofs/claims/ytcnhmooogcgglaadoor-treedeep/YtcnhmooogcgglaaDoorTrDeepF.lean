/-
  The texts of so many elements in one another, and what the document says of them.
-/
import Derived.Test.YtcnhmooogcgglaaDoorTrMach
import Derived.Test.YtcnhmooogcgglaaDoorTrDeep
namespace Go.Proofs
open Go.RowKit
open Go.Proofs.Mk

def El.opL : Nat → List UInt8 | 0 => [] | i + 1 => 60 :: 97 :: 62 :: opL i
def El.clL : Nat → List UInt8 | 0 => [] | i + 1 => 60 :: 47 :: 97 :: 62 :: clL i
/-- Parse's answer at n elements in one another. -/
def El.deepT (n : Nat) : Bool := match El.parseL ⟨(El.opL n ++ El.clL n).toArray⟩ with
  | (none, k, er) => decide (24 < n) && decide (k = 72) && decide (er = 2)
  | (some E, _, _) => decide (n ≤ 24) && decide (E.depth = n) && decide (E.count ≤ 1000)
/-- Write's answer. -/
def El.deepU (n : Nat) : Bool := decide ((El.deepE (n - 1)).writeR.2 = if 24 < n then 2 else 0) && decide ((El.deepE (n - 1)).depth = n) && decide ((El.deepE (n - 1)).count ≤ 1000) && decide ((El.deepE (n - 1)).weight ≤ 100000)
theorem El.deepT_all : ((List.range 60).all fun k => El.deepT (k + 1)) = true := by kernel_rfl
theorem El.deepU_all : ((List.range 60).all fun k => El.deepU (k + 1)) = true := by kernel_rfl
theorem El.deep_at {f : Nat → Bool} (h : ((List.range 60).all fun k => f (k + 1)) = true) {n : Nat} (h1 : 1 ≤ n) (h2 : n ≤ 60) : f n = true := by
  have := List.all_eq_true.1 h (n - 1) (List.mem_range.2 (by omega))
  rwa [show n - 1 + 1 = n by omega] at this
theorem El.deepE_reach : ∀ i, (El.deepE i).Reach
  | 0 => ⟨by decide, by decide, ⟨by decide, fun j hj => by
      obtain rfl : j = 0 := by have : j < 1 := hj; omega
      exact ⟨by show (1 : Nat) ≤ _; decide, by show (1 : Nat) ≤ _; decide⟩⟩, by decide, trivial⟩
  | i + 1 => ⟨by decide, by decide, ⟨by decide, fun j hj => by simp at hj⟩, by simp, deepE_reach i, trivial⟩

/-- The texts as the loops lay them. -/
def El.opB : Nat → ByteArray | 0 => ⟨#[]⟩ | i + 1 => opB i ++ ⟨#[60, 97, 62]⟩
def El.clB (s : ByteArray) : Nat → ByteArray | 0 => s | i + 1 => clB s i ++ ⟨#[60, 47, 97, 62]⟩
theorem El.opL_end : ∀ i, El.opL (i + 1) = El.opL i ++ [60, 97, 62]
  | 0 => rfl
  | i + 1 => by show 60 :: 97 :: 62 :: opL (i + 1) = 60 :: 97 :: 62 :: (opL i ++ [60, 97, 62]); rw [opL_end i]
theorem El.clL_end : ∀ i, El.clL (i + 1) = El.clL i ++ [60, 47, 97, 62]
  | 0 => rfl
  | i + 1 => by show 60 :: 47 :: 97 :: 62 :: clL (i + 1) = 60 :: 47 :: 97 :: 62 :: (clL i ++ [60, 47, 97, 62]); rw [clL_end i]
theorem El.opB_eq : ∀ i, (El.opB i).data.toList = El.opL i
  | 0 => rfl
  | i + 1 => by rw [opB, opL_end, ByteArray.data_append, Array.toList_append, opB_eq i]
theorem El.clB_eq (s : ByteArray) : ∀ i, (El.clB s i).data.toList = s.data.toList ++ El.clL i
  | 0 => by simp [clB, clL]
  | i + 1 => by rw [clB, clL_end, ByteArray.data_append, Array.toList_append, clB_eq s i, List.append_assoc]
theorem El.deepB_eq (n : Nat) : El.clB (El.opB n) n = ⟨(El.opL n ++ El.clL n).toArray⟩ := by
  have := El.clB_eq (El.opB n) n
  rw [El.opB_eq] at this
  cases h : El.clB (El.opB n) n with
  | mk a => rw [h] at this; congr 1; rw [← this]
theorem El.opB_size : ∀ i, (El.opB i).size = 3 * i
  | 0 => rfl
  | i + 1 => by rw [opB, ByteArray.size_append, opB_size i]; show 3 * i + 3 = _; omega
theorem El.clB_size (s : ByteArray) : ∀ i, (El.clB s i).size = s.size + 4 * i
  | 0 => rfl
  | i + 1 => by rw [clB, ByteArray.size_append, clB_size s i]; show s.size + 4 * i + 4 = _; omega
end Go.Proofs
