/-
  Orders of alarms; Ints of two equal lists; two: the statements' example.
-/
import Derived.Test.YtclpdhjchnbolaaCkSets
namespace Go.Proofs
open Go.RowKit Go.Shelf Go.Sort

/-- Alarms that are in their order, each once. -/
def Ck.Srt (L : List Ck.Al) : Prop := L.Pairwise fun a b => Ck.lt a b = true
/-- There is one order. -/
theorem Ck.sort_eq {L M : List Ck.Al} (hp : M.Perm L) (hs : M.Pairwise fun a b => (!Ck.lt b a) = true) : Ck.sort L = M := by
  refine List.Perm.eq_of_pairwise (le := fun x y => (!Ck.lt y x) = true) ?_ ?_ hs ((Ck.sort_perm L).trans hp.symm)
  · intro a b _ _ h1 h2
    simp only [Bool.not_eq_true'] at h1 h2
    exact Ck.tot a b (by rw [Ck.ltOf_cf]; exact h2) (by rw [Ck.ltOf_cf]; exact h1)
  · refine List.pairwise_mergeSort (le := fun x y => !Ck.lt y x) ?_ ?_ L
    · intro a b c h1 h2
      simp [Ck.lt] at *
      omega
    · intro a b
      simp [Ck.lt]
      omega
theorem Ck.sort_pair (L : List Ck.Al) : (Ck.sort L).Pairwise fun a b => (!Ck.lt b a) = true := by
  refine List.pairwise_mergeSort (le := fun x y => !Ck.lt y x) ?_ ?_ L
  · intro a b c h1 h2
    simp [Ck.lt] at *
    omega
  · intro a b
    simp [Ck.lt]
    omega

/-- Numbers in blocks below B. -/
def Ck.Nums (w : World) (B : Nat) (a : Option Addr) (l : List Int) : Prop := ∀ j (h : j < l.length), ∃ g off, a = some ⟨g, off, none⟩ ∧ g < B ∧ w.cell? ⟨g, off + j, none⟩ = some (.int .i64 l[j])
theorem Ck.Nums.below {w w' : World} {B : Nat} {a : Option Addr} {l : List Int} (h : Ck.Nums w B a l) (hb : Below B w w') : Ck.Nums w' B a l := fun j hj => by
  obtain ⟨g, off, h1, h2, h3⟩ := h j hj
  exact ⟨g, off, h1, h2, by rw [hb.cell (p := ⟨g, off + j, none⟩) h2]; exact h3⟩
theorem Ck.Nums.wider {w : World} {B B' : Nat} {a : Option Addr} {l : List Int} (h : Ck.Nums w B a l) (hB : B ≤ B') : Ck.Nums w B' a l := fun j hj => by
  obtain ⟨g, off, h1, h2, h3⟩ := h j hj
  exact ⟨g, off, h1, by omega, h3⟩
theorem Ck.nums_of_own {w : World} {B n m c : Nat} {a : Option Addr} {l : List Int} (h : w.ownsRow B 3 1 (.slice a m c) n (l.map Ck.z)) : Ck.Nums w w.heap.size a l := by
  intro j hj
  rcases h with ⟨hl, ⟨hv, hn⟩ | ⟨g, cap, cur, hv, hB, hg, h4, h5, h6, h7⟩⟩
  · simp at hl
    omega
  · simp only [Value.slice.injEq] at hv
    refine ⟨g, 0, hv.1, (Array.getElem?_eq_some_iff.1 hg).1, ?_⟩
    rw [Nat.zero_add]
    simp only [World.cell?, hg]
    have h8 : (l.map Ck.z)[j]? = some (.int .i64 l[j]) := by simp [hj, Ck.z]
    rw [← h7, List.getElem?_take] at h8
    split at h8
    · rw [Array.getElem?_toList] at h8; exact h8
    · simp at h8

set_option maxHeartbeats 4000000 in
theorem Try.cInts_same (a b : Option Addr) (c d : Nat) (L : List Int) (w : World) (hL : Ck.Nums w w.heap.size a L) (hM : Ck.Nums w w.heap.size b L) (h1 : L.length ≤ 1000000) :
    Calls Try.prog 20 #[.slice a L.length c, .slice b L.length d] w fun e w' => e = .returned (.bool true) ∧ Below w.heap.size w w' := by
  obtain ⟨n, hn⟩ : ∃ n, L.length = n := ⟨_, rfl⟩
  have HE : Hid (Ck.Nums w w.heap.size a L ∧ Ck.Nums w w.heap.size b L ∧ L.length = n) := ⟨hL, hM, hn⟩
  rw [hn] at h1 ⊢
  clear hL hM hn
  go_enter Try.func20, Try.ntmps20
  go_wp2
  go_loopg [8] n (fun gk s wr => ∃ k : Nat, gk + k = n ∧ s = .int .i64 k ∧ Hid (Below w.heap.size w wr))
  case atStart => exact ⟨0, by omega, rfl, Below.refl _ _⟩
  case round =>
    obtain ⟨k, hk, rfl, HI⟩ := hrel
    by_cases hlt : k < n
    · have hd : decide ((k : Int) < n) = true := decide_eq_true (by omega)
      have hkl : k < L.length := by rw [HE.out.2.2]; exact hlt
      obtain ⟨g, off, rfl, hg, h0⟩ := HE.out.1 k hkl
      rw [← HI.out.cell (p := ⟨g, off + k, none⟩) hg] at h0
      obtain ⟨g', off', rfl, hg', h3⟩ := HE.out.2.1 k hkl
      rw [← HI.out.cell (p := ⟨g', off' + k, none⟩) hg'] at h3
      obtain ⟨x, hx⟩ : ∃ x, L[k] = x := ⟨_, rfl⟩
      rw [hx] at h0 h3
      have hd2 : decide ((n : Int) ≤ k) = false := decide_eq_false (by omega)
      have hd2n : decide (n ≤ k) = false := decide_eq_false (by omega)
      have hk0 : (0 : Int) ≤ k := by omega
      have hwk : IntKind.i64.wrap (k : Int) = k := Go.IntWalk.i64_in _ (by omega)
      have hlt' : (k : Int) < n := by omega
      clear hx
      go_wp2
      go_region
      all_goals
        go_wp2
        go_roundg (gk - 1)
        case measure => omega
        case rel => exact ⟨k + 1, by omega, by go_num, by first | exact HI.out | exact HI.out.drew⟩
    · have hd : decide ((k : Int) < n) = false := decide_eq_false (by omega)
      go_wp2
      go_ret
      exact ⟨rfl, HI.out⟩

theorem Ck.At.belowB {B c : Nat} {v : Value} {now : Int} {L : List Ck.Al} {w w' : World} (h : Ck.At B c v now L w) (hb : Tk.But (fun x => x = c ∨ v.ownBlock = some x) w w') : Below B w w' := by
  have h1 := h.low
  have h2 := h.lt
  refine hb.below (by omega) fun k hk => ?_
  rintro (rfl | e)
  · omega
  · have := (h.row.lt k e).1
    omega
theorem Ck.At.belowT {B c : Nat} {v : Value} {now : Int} {L : List Ck.Al} {w w' : World} (h : Ck.At B c v now L w) (hb : Tk.But (fun x => x = c) w w') : Below B w w' :=
  h.belowB ⟨hb.os, hb.tape, hb.output, hb.size, fun k hk he => hb.block k hk (fun e => he (.inl e))⟩
theorem Ck.ex1 : Ck.setE 0 [] 7 2 = 0 ∧ Ck.setL 0 [] 7 2 = [(7, 2)] := by
  have h : Ck.setE 0 [] 7 2 = 0 := by decide
  refine ⟨h, ?_⟩
  unfold Ck.setL
  rw [if_pos h]
  exact Ck.sort_eq (List.Perm.refl _) (by simp)
theorem Ck.ex2 : Ck.tickE 0 1 = 0 ∧ Ck.tickN 0 1 = 1 := by decide
theorem Ck.ex3 : Ck.setE 1 [(7, 2)] 3 1 = 0 ∧ Ck.setL 1 [(7, 2)] 3 1 = [(3, 2), (7, 2)] := by
  have h : Ck.setE 1 [(7, 2)] 3 1 = 0 := by decide
  refine ⟨h, ?_⟩
  unfold Ck.setL
  rw [if_pos h]
  exact Ck.sort_eq (List.Perm.swap _ _ _) (by simp [Ck.lt])
theorem Ck.ex4 : Ck.tickE 1 1 = 0 ∧ Ck.tickN 1 1 = 2 ∧ Ck.due 2 [(3, 2), (7, 2)] = [3, 7] := by decide

set_option maxRecDepth 20000 in
set_option maxHeartbeats 4000000 in
theorem Try.two_any (w : World) : Calls Try.prog 9 #[] w fun e w' => e = .returned (.bool true) ∧ Below w.heap.size w w' := by
  go_enter Try.func9, Try.ntmps9
  go_wp2_with fail
  refine Calls.mono (Try.cNew_any w) ?_
  rintro e W1 ⟨rfl, hb1, h1⟩
  obtain ⟨c, hc⟩ : ∃ c, w.heap.size = c := ⟨_, rfl⟩
  rw [hc] at hb1 h1
  have C1 := Try.cSet_any 7 2 W1 h1 Ck.Ok.nil
  rw [Ck.ex1.1, Ck.ex1.2] at C1
  have HC : Hid _ := C1
  have HB : Hid (Below c w W1 ∧ w.heap.size = c) := ⟨hb1, hc⟩
  have HH : Hid _ := h1
  rw [hc]
  clear C1 hb1 h1 hc
  go_wp2_with fail
  refine Calls.mono HC.out ?_
  rintro e W2 ⟨rfl, v2, h2, hg2, hb2⟩
  have B2 : Hid (Below c w W2 ∧ w.heap.size = c) := ⟨HB.out.1.trans (HH.out.belowB hb2), HB.out.2⟩
  have C2 := Try.cTick_any 1 W2 h2 (by rw [← Ck.ex1.2]; exact Ck.Ok.nil.set 7 2)
  rw [Ck.ex2.1, Ck.ex2.2] at C2
  have HC2 : Hid _ := C2
  have H2 : Hid _ := h2
  clear C2 h2 hg2 hb2 HC HB HH
  go_wp2_with fail
  refine Calls.mono HC2.out ?_
  rintro e W3 ⟨rfl, h3, hb3⟩
  have B3 : Hid (Below c w W3 ∧ w.heap.size = c) := ⟨B2.out.1.trans (H2.out.belowT hb3), B2.out.2⟩
  have ok3 : Ck.Ok 1 [(7, 2)] := by rw [← Ck.ex2.2, ← Ck.ex1.2]; exact (Ck.Ok.nil.set 7 2).tick 1
  have C3 := Try.cSet_any 3 1 W3 h3 ok3
  rw [Ck.ex3.1, Ck.ex3.2] at C3
  have HC3 : Hid _ := C3
  have H3 : Hid _ := h3
  clear C3 h3 hb3 HC2 B2 H2
  go_wp2_with fail
  refine Calls.mono HC3.out ?_
  rintro e W4 ⟨rfl, v4, h4, hg4, hb4⟩
  have B4 : Hid (Below c w W4 ∧ w.heap.size = c) := ⟨B3.out.1.trans (H3.out.belowB hb4), B3.out.2⟩
  have ok4 : Ck.Ok 1 [(3, 2), (7, 2)] := by rw [← Ck.ex3.2]; exact ok3.set 3 1
  have C4 := Try.cTick_any 1 W4 h4 ok4
  rw [Ck.ex4.1, Ck.ex4.2.1] at C4
  have HC4 : Hid _ := C4
  have H4 : Hid _ := h4
  have ok5 : Hid (Ck.Ok 2 [(3, 2), (7, 2)]) := by show Ck.Ok _ _; rw [← Ck.ex4.2.1]; exact ok4.tick 1
  clear C4 h4 hb4 HC3 B3 H3 hg4 ok3 ok4
  go_wp2_with fail
  refine Calls.mono HC4.out ?_
  rintro e W5 ⟨rfl, h5, hb5⟩
  have B5 : Hid (Below c w W5 ∧ w.heap.size = c) := ⟨B4.out.1.trans (H4.out.belowT hb5), B4.out.2⟩
  have C5 := Try.cDue_any W5 h5 ok5.out
  rw [Ck.ex4.2.2] at C5
  have HC5 : Hid _ := C5
  have H5 : Hid _ := h5
  clear C5 h5 hb5 HC4 B4 H4
  go_wp2_with fail
  refine Calls.mono HC5.out ?_
  rintro e W6 ⟨u, rfl, own, hb6⟩
  obtain ⟨ua, uc, rfl⟩ := Ck.own_shape own
  obtain ⟨W7, hW7⟩ : ∃ y, W6.alloc (.cells #[.int .i64 3, .int .i64 7] 3) = y := ⟨_, rfl⟩
  have HW7 : Hid (W6.alloc (.cells #[.int .i64 3, .int .i64 7] 3) = W7) := hW7
  have b7 : Below W6.heap.size W6 W7 := by rw [← hW7]; exact (Below.refl _ W6).alloc (Nat.le_refl _) _
  have n7 : W7.heap[W6.heap.size]? = some (.cells #[.int .i64 3, .int .i64 7] 3 (0, 0)) := by rw [← hW7]; exact heap_alloc_new _ _
  have l7 := (Array.getElem?_eq_some_iff.1 n7).1
  have u7 : Ck.Nums W7 W7.heap.size ua [3, 7] := ((Ck.nums_of_own own).below b7).wider b7.size
  have m7 : Ck.Nums W7 W7.heap.size (some ⟨W6.heap.size, 0, none⟩) [3, 7] := fun j hj => by
    refine ⟨W6.heap.size, 0, rfl, l7, ?_⟩
    match j, hj with
    | 0, _ => simp [World.cell?, n7]
    | 1, _ => simp [World.cell?, n7]
  have b5 : Below c w W7 := by
    have h1 := B5.out.1
    have h2 := h1.trans (hb6.mono (B5.out.2 ▸ h1.size))
    exact h2.trans (b7.mono (B5.out.2 ▸ h2.size))
  have B7 : Hid (Below c w W7 ∧ w.heap.size = c ∧ Below W5.heap.size W5 W7) := ⟨b5, B5.out.2, hb6.trans (b7.mono hb6.size)⟩
  have HC6 : Hid _ := Try.cInts_same ua (some ⟨W6.heap.size, 0, none⟩) uc 2 [3, 7] W7 u7 m7 (by decide)
  have c7 : Hid (Ck.At c c v4 2 [(3, 2), (7, 2)] W7) := H5.out.below B7.out.2.2 (Nat.le_refl _)
  clear hW7 b7 n7 l7 u7 m7 b5 own hb6 HC5
  go_wp2_with (first | (go_at_call 20; rw [HW7.out]; refine Calls.mono HC6.out ?_; rintro e W8 ⟨rfl, hb8⟩; have c8 : W8.cell? ⟨c, 0, none⟩ = some (.int .i64 2) := (c7.out.below hb8 (Nat.le_refl _)).c0) | (go_at_call 11; refine Calls.mono (Try.cNow_any c 2 _ c8) ?_; rintro e W9 ⟨rfl, rfl⟩))
  go_ret
  refine ⟨rfl, ?_⟩
  rw [B7.out.2.1]
  exact B7.out.1.trans (hb8.mono (B7.out.2.1 ▸ B7.out.1.size))

end Go.Proofs
