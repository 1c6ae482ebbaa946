/-
  The contracts of what the statements of layer 9 call: refs, Ints, three.
-/
import Derived.Test.YtkbenpgmadnkcaaRkRef6
namespace Go.Proofs
open Go.RowKit Go.Shelf

/-- Numbers in blocks below B. -/
def Rk.Nums (w : World) (B : Nat) (a : Option Addr) (l : List Nat) : Prop := ∀ j (h : j < l.length), ∃ g off, a = some ⟨g, off, none⟩ ∧ g < B ∧ w.cell? ⟨g, off + j, none⟩ = some (.int .i64 (l[j] : Int))
theorem Rk.Nums.below {w w' : World} {B : Nat} {a : Option Addr} {l : List Nat} (h : Rk.Nums w B a l) (hb : Below B w w') : Rk.Nums w' B a l := fun j hj => by
  obtain ⟨g, off, h1, h2, h3⟩ := h j hj
  exact ⟨g, off, h1, h2, by rw [hb.cell (p := ⟨g, off + j, none⟩) h2]; exact h3⟩
theorem Rk.Nums.wider {w : World} {B B' : Nat} {a : Option Addr} {l : List Nat} (h : Rk.Nums w B a l) (hB : B ≤ B') : Rk.Nums w B' a l := fun j hj => by
  obtain ⟨g, off, h1, h2, h3⟩ := h j hj
  exact ⟨g, off, h1, by omega, h3⟩
theorem Rk.nums_of_own {w : World} {B n c : Nat} {a : Option Addr} {l : List Nat} (h : w.ownsRow B 3 1 (.slice a n c) n (Rk.nums l)) : Rk.Nums w w.heap.size a l := by
  intro j hj
  rcases h with ⟨hl, ⟨hv, hn⟩ | ⟨g, cap, cur, hv, hB, hg, h4, h5, h6, h7⟩⟩
  · simp [Rk.nums] at hl
    omega
  · simp only [Value.slice.injEq] at hv
    refine ⟨g, 0, hv.1, (Array.getElem?_eq_some_iff.1 hg).1, ?_⟩
    rw [Nat.zero_add]
    simp only [World.cell?, hg]
    have h8 : (Rk.nums l)[j]? = some (.int .i64 (l[j] : Int)) := by simp [Rk.nums, hj]
    rw [← h7, List.getElem?_take] at h8
    split at h8
    · rw [Array.getElem?_toList] at h8; exact h8
    · simp at h8
theorem Rk.own_len {w : World} {B n : Nat} {v : Value} {l : List Nat} (h : w.ownsRow B 3 1 v n (Rk.nums l)) : l.length = n := by
  have := h.1
  simpa [Rk.nums] using this

set_option maxHeartbeats 4000000 in
theorem Try.ints_any (a b : Option Addr) (c d : Nat) (L M : List Nat) (w : World) (hL : Rk.Nums w w.heap.size a L) (hM : Rk.Nums w w.heap.size b M) (h1 : L.length ≤ 1000000) (h2 : M.length ≤ 1000000) :
    Calls Try.prog 14 #[.slice a L.length c, .slice b M.length d] w fun e w' => e = .returned (.bool (decide (L = M))) ∧ Below w.heap.size w w' := by
  obtain ⟨n, hn⟩ : ∃ n, L.length = n := ⟨_, rfl⟩
  obtain ⟨m, hm⟩ : ∃ n, M.length = n := ⟨_, rfl⟩
  have HE : Hid (Rk.Nums w w.heap.size a L ∧ Rk.Nums w w.heap.size b M ∧ L.length = n ∧ M.length = m) := ⟨hL, hM, hn, hm⟩
  rw [hn] at h1 ⊢
  rw [hm] at h2 ⊢
  obtain ⟨r, hr⟩ : ∃ r, decide (L = M) = r := ⟨_, rfl⟩
  have HR : Hid (decide (L = M) = r) := hr
  rw [hr]
  clear hL hM hn hm hr
  go_enter Try.func14, Try.ntmps14
  go_wp2
  go_loopg [8] n (fun gk s wr => ∃ k : Nat, gk + k = n ∧ s = .int .i64 k ∧ k ≤ m ∧ Hid (L.take k = M.take k ∧ Below w.heap.size w wr))
  case atStart => exact ⟨0, by omega, rfl, by omega, by simp, Below.refl _ _⟩
  case round =>
    obtain ⟨k, hk, rfl, hkm, HI⟩ := hrel
    by_cases hlt : k < n
    · have hd : decide ((k : Int) < n) = true := decide_eq_true (by omega)
      have hkl : k < L.length := by rw [HE.out.2.2.1]; exact hlt
      obtain ⟨g, off, rfl, hg, h0⟩ := HE.out.1 k hkl
      rw [← HI.out.2.cell (p := ⟨g, off + k, none⟩) hg] at h0
      obtain ⟨x, hx⟩ : ∃ x, L[k] = x := ⟨_, rfl⟩
      rw [hx] at h0
      by_cases hkm' : k < m
      · have hkl' : k < M.length := by rw [HE.out.2.2.2]; exact hkm'
        have hd2 : decide ((m : Int) ≤ k) = false := decide_eq_false (by omega)
        have hd2n : decide (m ≤ k) = false := decide_eq_false (by omega)
        have hk0 : (0 : Int) ≤ k := by omega
        have hwk : IntKind.i64.wrap (k : Int) = k := Go.IntWalk.i64_in _ (by omega)
        have hlt' : (k : Int) < n := by omega
        have hkm'' : (k : Int) < m := by omega
        obtain ⟨g', off', rfl, hg', h3⟩ := HE.out.2.1 k hkl'
        rw [← HI.out.2.cell (p := ⟨g', off' + k, none⟩) hg'] at h3
        obtain ⟨y, hy⟩ : ∃ x, M[k] = x := ⟨_, rfl⟩
        rw [hy] at h3
        have HX : Hid (L[k] = x ∧ M[k] = y) := ⟨hx, hy⟩
        clear hx hy
        by_cases hxy : x = y
        · have hxy' : ((x : Int) == (y : Int)) = true := by simp; omega
          have HN : Hid (L.take (k + 1) = M.take (k + 1)) := by
            show _ = _
            rw [Tm.take_snoc _ _ hkl, Tm.take_snoc _ _ hkl', HI.out.1, HX.out.1, HX.out.2, hxy]
          clear hxy
          go_wp2
          go_region
          all_goals
            go_wp2
            go_roundg (gk - 1)
            case measure => omega
            case rel => exact ⟨k + 1, by omega, by go_num, by omega, HN.out, by first | exact HI.out.2 | exact HI.out.2.drew | exact Tk.below_drewN HI.out.2 _⟩
        · have hxy' : ((x : Int) == (y : Int)) = false := by simp; omega
          obtain rfl : r = false := by
            rw [← HR.out]
            refine decide_eq_false fun h => hxy ?_
            rw [← HX.out.1, ← HX.out.2]
            simp only [h]
          clear hxy
          go_wp2
          go_region
          all_goals
            go_wp2
            go_ret
            exact ⟨rfl, by first | exact HI.out.2 | exact HI.out.2.drew | exact Tk.below_drewN HI.out.2 _⟩
      · have hd2 : decide ((m : Int) ≤ k) = true := decide_eq_true (by omega)
        have hd2n : decide (m ≤ k) = true := decide_eq_true (by omega)
        obtain rfl : r = false := by
          rw [← HR.out]
          refine decide_eq_false fun h => ?_
          have h8 := congrArg List.length h
          rw [HE.out.2.2.1, HE.out.2.2.2] at h8
          omega
        clear hx
        go_wp2
        go_region
        all_goals
          go_wp2
          go_ret
          exact ⟨rfl, by first | exact HI.out.2 | exact HI.out.2.drew | exact Tk.below_drewN HI.out.2 _⟩
    · have hd : decide ((k : Int) < n) = false := decide_eq_false (by omega)
      obtain rfl : k = n := by omega
      have hr : r = ((k : Int) == (m : Int)) := by
        rw [← HR.out, Bool.eq_iff_iff]
        simp only [decide_eq_true_eq, beq_iff_eq]
        have h3 := HI.out.1
        rw [List.take_of_length_le (l := L) (by rw [HE.out.2.2.1]; omega)] at h3
        constructor
        · intro h
          have := congrArg List.length h
          rw [HE.out.2.2.1, HE.out.2.2.2] at this
          omega
        · intro h
          rw [List.take_of_length_le (l := M) (by rw [HE.out.2.2.2]; omega)] at h3
          exact h3
      subst hr
      go_wp2
      go_ret
      exact ⟨rfl, HI.out.2⟩

theorem Try.infoREdge : (Try.prog.info? 46).map (fun i => (i.zero, i.size, i.bytes)) = some (some (.agg #[.int .i64 0, .int .i64 0]), 2, 16) := by kernel_rfl
/-- Edges as they lie in memory. -/
def Rk.ecells (l : List (Int × Int)) : List Value := l.flatMap fun e => [.int .i64 e.1, .int .i64 e.2]
theorem Rk.ecells_snoc (l : List (Int × Int)) (e : Int × Int) : Rk.ecells (l ++ [e]) = Rk.ecells l ++ [.int .i64 e.1, .int .i64 e.2] := by simp [Rk.ecells]
theorem Rk.ecells_get : ∀ (l : List (Int × Int)) (j : Nat) (h : j < l.length), (Rk.ecells l)[j * 2]? = some (.int .i64 l[j].1) ∧ (Rk.ecells l)[j * 2 + 1]? = some (.int .i64 l[j].2)
  | [], _, h => by simp at h
  | e :: l, 0, _ => by simp [Rk.ecells]
  | e :: l, j + 1, h => by
    have ih := Rk.ecells_get l j (by simpa using h)
    have e1 : (j + 1) * 2 = j * 2 + 1 + 1 := by omega
    rw [e1]
    simpa [Rk.ecells] using ih
theorem Rk.eds_of_own {w : World} {B n c : Nat} {t : TypeId} {a : Option Addr} {l : List (Int × Int)} (hln : l.length = n) (h : w.ownsRow B t 2 (.slice a n c) n (Rk.ecells l)) : Rk.Eds w w.heap.size a l := by
  intro j hj
  rcases h with ⟨hl, ⟨hv, hn⟩ | ⟨g, cap, cur, hv, hB, hg, h4, h5, h6, h7⟩⟩
  · omega
  · simp only [Value.slice.injEq] at hv
    obtain ⟨q0, q1⟩ := Rk.ecells_get l j hj
    rw [← h7, List.getElem?_take] at q0 q1
    refine ⟨g, 0, hv.1, (Array.getElem?_eq_some_iff.1 hg).1, ?_, ?_⟩
    · rw [Nat.zero_add]; simp only [World.cell?, hg]
      split at q0
      · rw [Array.getElem?_toList] at q0; exact q0
      · simp at q0
    · rw [Nat.zero_add]; simp only [World.cell?, hg]
      split at q1
      · rw [Array.getElem?_toList] at q1; exact q1
      · simp at q1

set_option maxHeartbeats 4000000 in
theorem Try.refs_any (a : Option Addr) (c : Nat) (rs : List (Int × Int)) (w : World) (hE : Rk.Eds w w.heap.size a rs) (hm : rs.length ≤ 1000) :
    Calls Try.prog 9 #[.slice a rs.length c] w fun e w' => (∃ a' c', e = .returned (.slice a' rs.length c') ∧ Rk.Eds w' w'.heap.size a' rs) ∧ Below w.heap.size w w' := by
  obtain ⟨m, hmm⟩ : ∃ m, rs.length = m := ⟨_, rfl⟩
  rw [hmm] at hm ⊢
  have HE : Hid (Rk.Eds w w.heap.size a rs ∧ rs.length = m) := ⟨hE, hmm⟩
  obtain ⟨i0, hi, hz0, hz1, hz2⟩ := info_parts Try.infoREdge
  clear hE hmm
  go_enter Try.func9, Try.ntmps9
  go_wp2
  go_loopg [3, 8] m (fun gk s3 s8 wr => ∃ k : Nat, gk + k = m ∧ s8 = .int .i64 k ∧ Hid (Below w.heap.size w wr) ∧ wr.ownsRow w.heap.size 46 2 s3 k (Rk.ecells (rs.take k)))
  case atStart => exact ⟨0, by omega, rfl, Below.refl _ _, World.ownsRow_nil _ _ _ _⟩
  case round =>
    obtain ⟨k, hk, rfl, HB, hown⟩ := hrel
    obtain ⟨av, cv, rfl⟩ := Rk.own_shape hown
    by_cases hlt : k < m
    · have hd : decide ((k : Int) < m) = true := decide_eq_true (by omega)
      have hkl : k < rs.length := by rw [HE.out.2]; exact hlt
      obtain ⟨q, off, rfl, hq, h0, h1⟩ := HE.out.1 k hkl
      obtain ⟨e, he⟩ : ∃ x, rs[k] = x := ⟨_, rfl⟩
      obtain ⟨x, y⟩ := e
      rw [he] at h0 h1
      have hc0 : wr.cell? ⟨q, off + k * 2, none⟩ = some (.int .i64 x) := by rw [HB.out.cell (p := ⟨q, off + k * 2, none⟩) hq]; exact h0
      have hc1 : wr.cell? ⟨q, off + k * 2 + 1, none⟩ = some (.int .i64 y) := by rw [HB.out.cell (p := ⟨q, off + k * 2 + 1, none⟩) hq]; exact h1
      have HX : Hid (rs[k] = (x, y)) := he
      have hz := HB.out.size
      have hu := Try.underlying45
      have own1 := hown.alloc (.cells #[.int .i64 x, .int .i64 y] 45)
      clear h0 h1 he hown
      go_wp2_with (at_builtin; refine wpList_append_own _ rfl _ _ 24 rfl w.heap.size 46 i0 _ 2 16 Try.underlying24 hi hz0 hz1 hz2 rfl (by decide) _ _ _ rfl (own1.alloc _) ⟨wr.heap.size + 1, 0, none⟩ 1 1 [.int .i64 x, .int .i64 y] rfl rfl ?c1 ?c2 ?c3 ?c4 ?c5 ?_)
      case c1 =>
        intro j u hj
        match j, hj with
        | 0, hj => simp at hj; subst hj; simp [Addr.add]
        | 1, hj => simp at hj; subst hj; simp [Addr.add]
      case c2 => intro u hu; simp at hu; rcases hu with rfl | rfl <;> rfl
      case c3 => unfold maxLen; omega
      case c4 => omega
      case c5 => simp; omega
      intro v6 W6 O6 g6 _
      obtain ⟨a6, c6, rfl⟩ := Rk.own_shape O6
      have HZ : Hid (Below w.heap.size w W6) := Rk.below_grown ((HB.out.alloc hz _).alloc (by simp; omega) _) (by simp; omega) (own1.alloc _) g6
      clear g6 own1
      go_wp2
      go_roundg (gk - 1)
      case measure => omega
      case rel =>
        refine ⟨k + 1, by omega, by go_num, HZ.out, ?_⟩
        rw [Tm.take_snoc _ _ hkl, Rk.ecells_snoc, HX.out]
        exact O6
    · have hd : decide ((k : Int) < m) = false := decide_eq_false (by omega)
      obtain rfl : k = m := by omega
      go_wp2
      go_ret
      rw [List.take_of_length_le (by rw [HE.out.2]; omega)] at hown
      exact ⟨⟨av, cv, rfl, Rk.eds_of_own HE.out.2 hown⟩, HB.out⟩

end Go.Proofs
