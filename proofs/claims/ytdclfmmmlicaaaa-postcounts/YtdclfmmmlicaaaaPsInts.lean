/-
  Ints of two equal lists; one: the statements' example.
-/
import Derived.Test.YtdclfmmmlicaaaaPsTwo
namespace Go.Proofs
open Go.RowKit Go.Shelf Go.Maps

/-- Numbers in blocks below B. -/
def Ps.Nums (w : World) (B : Nat) (a : Option Addr) (l : List Int) : Prop := ∀ j (h : j < l.length), ∃ g off, a = some ⟨g, off, none⟩ ∧ g < B ∧ w.cell? ⟨g, off + j, none⟩ = some (.int .i64 l[j])
theorem Ps.Nums.below {w w' : World} {B : Nat} {a : Option Addr} {l : List Int} (h : Ps.Nums w B a l) (hb : Below B w w') : Ps.Nums w' B a l := fun j hj => by
  obtain ⟨g, off, h1, h2, h3⟩ := h j hj
  exact ⟨g, off, h1, h2, by rw [hb.cell (p := ⟨g, off + j, none⟩) h2]; exact h3⟩
theorem Ps.Nums.wider {w : World} {B B' : Nat} {a : Option Addr} {l : List Int} (h : Ps.Nums w B a l) (hB : B ≤ B') : Ps.Nums w B' a l := fun j hj => by
  obtain ⟨g, off, h1, h2, h3⟩ := h j hj
  exact ⟨g, off, h1, by omega, h3⟩
theorem Ps.nums_of_own {w : World} {B n m c : Nat} {a : Option Addr} {l : List Int} (h : w.ownsRow B 3 1 (.slice a m c) n (l.map encZ)) : Ps.Nums w w.heap.size a l := by
  intro j hj
  rcases h with ⟨hl, ⟨hv, hn⟩ | ⟨g, cap, cur, hv, hB, hg, h4, h5, h6, h7⟩⟩
  · simp at hl
    omega
  · simp only [Value.slice.injEq] at hv
    refine ⟨g, 0, hv.1, (Array.getElem?_eq_some_iff.1 hg).1, ?_⟩
    rw [Nat.zero_add]
    simp only [World.cell?, hg]
    have h8 : (l.map encZ)[j]? = some (.int .i64 l[j]) := by simp [hj, encZ]
    rw [← h7, List.getElem?_take] at h8
    split at h8
    · rw [Array.getElem?_toList] at h8; exact h8
    · simp at h8

set_option maxHeartbeats 4000000 in
theorem Try.pInts_same (a b : Option Addr) (c d : Nat) (L : List Int) (w : World) (hL : Ps.Nums w w.heap.size a L) (hM : Ps.Nums w w.heap.size b L) (h1 : L.length ≤ 1000000) :
    Calls Try.prog 15 #[.slice a L.length c, .slice b L.length d] w fun e w' => e = .returned (.bool true) ∧ Below w.heap.size w w' := by
  obtain ⟨n, hn⟩ : ∃ n, L.length = n := ⟨_, rfl⟩
  have HE : Hid (Ps.Nums w w.heap.size a L ∧ Ps.Nums w w.heap.size b L ∧ L.length = n) := ⟨hL, hM, hn⟩
  rw [hn] at h1 ⊢
  clear hL hM hn
  go_enter Try.func15, Try.ntmps15
  go_wp2
  go_loopg [8] n (fun gk s wr => ∃ k : Nat, gk + k = n ∧ s = .int .i64 k ∧ Hid (Below w.heap.size w wr))
  case atStart => exact ⟨0, by omega, rfl, Below.refl _ _⟩
  case round =>
    obtain ⟨k, hk, rfl, HI⟩ := hrel
    by_cases hlt : k < n
    · have hd : decide ((k : Int) < n) = true := decide_eq_true (by omega)
      have hkl : k < L.length := by rw [HE.out.2.2]; exact hlt
      obtain ⟨g, off, rfl, hg, h0⟩ := HE.out.1 k hkl
      rw [← HI.out.cell (p := ⟨g, off + k, none⟩) hg] at h0
      obtain ⟨g', off', rfl, hg', h3⟩ := HE.out.2.1 k hkl
      rw [← HI.out.cell (p := ⟨g', off' + k, none⟩) hg'] at h3
      obtain ⟨x, hx⟩ : ∃ x, L[k] = x := ⟨_, rfl⟩
      rw [hx] at h0 h3
      have hd2 : decide ((n : Int) ≤ k) = false := decide_eq_false (by omega)
      have hd2n : decide (n ≤ k) = false := decide_eq_false (by omega)
      have hk0 : (0 : Int) ≤ k := by omega
      have hwk : IntKind.i64.wrap (k : Int) = k := Go.IntWalk.i64_in _ (by omega)
      have hlt' : (k : Int) < n := by omega
      clear hx
      go_wp2
      go_region
      all_goals
        go_wp2
        go_roundg (gk - 1)
        case measure => omega
        case rel => exact ⟨k + 1, by omega, by go_num, by first | exact HI.out | exact HI.out.drew⟩
    · have hd : decide ((k : Int) < n) = false := decide_eq_false (by omega)
      go_wp2
      go_ret
      exact ⟨rfl, HI.out⟩

end Go.Proofs
