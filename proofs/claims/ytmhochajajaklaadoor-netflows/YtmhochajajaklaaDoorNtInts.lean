/-
  Ints: are two lists of numbers equal?
-/
import Derived.Test.YtmhochajajaklaaDoorNtPlaces
import Derived.Lib.Hide
namespace Go.Proofs
open Go.RowKit Go.Shelf

/-- Numbers in blocks below B. -/
def Rk.Nums (w : World) (B : Nat) (a : Option Addr) (l : List Nat) : Prop := ∀ j (h : j < l.length), ∃ g off, a = some ⟨g, off, none⟩ ∧ g < B ∧ w.cell? ⟨g, off + j, none⟩ = some (.int .i64 (l[j] : Int))
theorem Rk.Nums.below {w w' : World} {B : Nat} {a : Option Addr} {l : List Nat} (h : Rk.Nums w B a l) (hb : Below B w w') : Rk.Nums w' B a l := fun j hj => by
  obtain ⟨g, off, h1, h2, h3⟩ := h j hj
  exact ⟨g, off, h1, h2, by rw [hb.cell (p := ⟨g, off + j, none⟩) h2]; exact h3⟩
theorem Rk.Nums.wider {w : World} {B B' : Nat} {a : Option Addr} {l : List Nat} (h : Rk.Nums w B a l) (hB : B ≤ B') : Rk.Nums w B' a l := fun j hj => by
  obtain ⟨g, off, h1, h2, h3⟩ := h j hj
  exact ⟨g, off, h1, by omega, h3⟩
theorem Rk.nums_of_own {w : World} {B n c : Nat} {a : Option Addr} {l : List Nat} (h : w.ownsRow B 3 1 (.slice a n c) n (Rk.nums l)) : Rk.Nums w w.heap.size a l := by
  intro j hj
  rcases h with ⟨hl, ⟨hv, hn⟩ | ⟨g, cap, cur, hv, hB, hg, h4, h5, h6, h7⟩⟩
  · simp [Rk.nums] at hl
    omega
  · simp only [Value.slice.injEq] at hv
    refine ⟨g, 0, hv.1, (Array.getElem?_eq_some_iff.1 hg).1, ?_⟩
    rw [Nat.zero_add]
    simp only [World.cell?, hg]
    have h8 : (Rk.nums l)[j]? = some (.int .i64 (l[j] : Int)) := by simp [Rk.nums, hj]
    rw [← h7, List.getElem?_take] at h8
    split at h8
    · rw [Array.getElem?_toList] at h8; exact h8
    · simp at h8
theorem Rk.own_len {w : World} {B n : Nat} {v : Value} {l : List Nat} (h : w.ownsRow B 3 1 v n (Rk.nums l)) : l.length = n := by
  have := h.1
  simpa [Rk.nums] using this

set_option maxHeartbeats 4000000 in
theorem Tryd.ints_any (a b : Option Addr) (c d : Nat) (L M : List Nat) (w : World) (hL : Rk.Nums w w.heap.size a L) (hM : Rk.Nums w w.heap.size b M) (h1 : L.length ≤ 1000000) (h2 : M.length ≤ 1000000) :
    Calls Tryd.prog 13 #[.slice a L.length c, .slice b M.length d] w fun e w' => e = .returned (.bool (decide (L = M))) ∧ Below w.heap.size w w' := by
  obtain ⟨n, hn⟩ : ∃ n, L.length = n := ⟨_, rfl⟩
  obtain ⟨m, hm⟩ : ∃ n, M.length = n := ⟨_, rfl⟩
  have HE : Hid (Rk.Nums w w.heap.size a L ∧ Rk.Nums w w.heap.size b M ∧ L.length = n ∧ M.length = m) := ⟨hL, hM, hn, hm⟩
  rw [hn] at h1 ⊢
  rw [hm] at h2 ⊢
  obtain ⟨r, hr⟩ : ∃ r, decide (L = M) = r := ⟨_, rfl⟩
  have HR : Hid (decide (L = M) = r) := hr
  rw [hr]
  clear hL hM hn hm hr
  go_enter Tryd.func13, Tryd.ntmps13
  go_wp2
  go_loopg [8] n (fun gk s wr => ∃ k : Nat, gk + k = n ∧ s = .int .i64 k ∧ k ≤ m ∧ Hid (L.take k = M.take k ∧ Below w.heap.size w wr))
  case atStart => exact ⟨0, by omega, rfl, by omega, by simp, Below.refl _ _⟩
  case round =>
    obtain ⟨k, hk, rfl, hkm, HI⟩ := hrel
    by_cases hlt : k < n
    · have hd : decide ((k : Int) < n) = true := decide_eq_true (by omega)
      have hkl : k < L.length := by rw [HE.out.2.2.1]; exact hlt
      obtain ⟨g, off, rfl, hg, h0⟩ := HE.out.1 k hkl
      rw [← HI.out.2.cell (p := ⟨g, off + k, none⟩) hg] at h0
      obtain ⟨x, hx⟩ : ∃ x, L[k] = x := ⟨_, rfl⟩
      rw [hx] at h0
      by_cases hkm' : k < m
      · have hkl' : k < M.length := by rw [HE.out.2.2.2]; exact hkm'
        have hd2 : decide ((m : Int) ≤ k) = false := decide_eq_false (by omega)
        have hd2n : decide (m ≤ k) = false := decide_eq_false (by omega)
        have hk0 : (0 : Int) ≤ k := by omega
        have hwk : IntKind.i64.wrap (k : Int) = k := Go.IntWalk.i64_in _ (by omega)
        have hlt' : (k : Int) < n := by omega
        have hkm'' : (k : Int) < m := by omega
        obtain ⟨g', off', rfl, hg', h3⟩ := HE.out.2.1 k hkl'
        rw [← HI.out.2.cell (p := ⟨g', off' + k, none⟩) hg'] at h3
        obtain ⟨y, hy⟩ : ∃ x, M[k] = x := ⟨_, rfl⟩
        rw [hy] at h3
        have HX : Hid (L[k] = x ∧ M[k] = y) := ⟨hx, hy⟩
        clear hx hy
        by_cases hxy : x = y
        · have hxy' : ((x : Int) == (y : Int)) = true := by simp; omega
          have HN : Hid (L.take (k + 1) = M.take (k + 1)) := by
            show _ = _
            rw [Tm.take_snoc _ _ hkl, Tm.take_snoc _ _ hkl', HI.out.1, HX.out.1, HX.out.2, hxy]
          clear hxy
          go_wp2
          go_region
          all_goals
            go_wp2
            go_roundg (gk - 1)
            case measure => omega
            case rel => exact ⟨k + 1, by omega, by go_num, by omega, HN.out, by first | exact HI.out.2 | exact HI.out.2.drew | exact Tk.below_drewN HI.out.2 _⟩
        · have hxy' : ((x : Int) == (y : Int)) = false := by simp; omega
          obtain rfl : r = false := by
            rw [← HR.out]
            refine decide_eq_false fun h => hxy ?_
            rw [← HX.out.1, ← HX.out.2]
            simp only [h]
          clear hxy
          go_wp2
          go_region
          all_goals
            go_wp2
            go_ret
            exact ⟨rfl, by first | exact HI.out.2 | exact HI.out.2.drew | exact Tk.below_drewN HI.out.2 _⟩
      · have hd2 : decide ((m : Int) ≤ k) = true := decide_eq_true (by omega)
        have hd2n : decide (m ≤ k) = true := decide_eq_true (by omega)
        obtain rfl : r = false := by
          rw [← HR.out]
          refine decide_eq_false fun h => ?_
          have h8 := congrArg List.length h
          rw [HE.out.2.2.1, HE.out.2.2.2] at h8
          omega
        clear hx
        go_wp2
        go_region
        all_goals
          go_wp2
          go_ret
          exact ⟨rfl, by first | exact HI.out.2 | exact HI.out.2.drew | exact Tk.below_drewN HI.out.2 _⟩
    · have hd : decide ((k : Int) < n) = false := decide_eq_false (by omega)
      obtain rfl : k = n := by omega
      have hr : r = ((k : Int) == (m : Int)) := by
        rw [← HR.out, Bool.eq_iff_iff]
        simp only [decide_eq_true_eq, beq_iff_eq]
        have h3 := HI.out.1
        rw [List.take_of_length_le (l := L) (by rw [HE.out.2.2.1]; omega)] at h3
        constructor
        · intro h
          have := congrArg List.length h
          rw [HE.out.2.2.1, HE.out.2.2.2] at this
          omega
        · intro h
          rw [List.take_of_length_le (l := M) (by rw [HE.out.2.2.2]; omega)] at h3
          exact h3
      subst hr
      go_wp2
      go_ret
      exact ⟨rfl, HI.out.2⟩

theorem Tryd.ints_same (a b : Option Addr) (c d : Nat) (L : List Nat) (w : World) (hL : Rk.Nums w w.heap.size a L) (hM : Rk.Nums w w.heap.size b L) (h1 : L.length ≤ 1000000) :
    Calls Tryd.prog 13 #[.slice a L.length c, .slice b L.length d] w fun e w' => e = .returned (.bool true) ∧ Below w.heap.size w w' := by
  have h := Tryd.ints_any a b c d L L w hL hM h1 h1
  rwa [decide_eq_true (rfl : L = L)] at h

end Go.Proofs
