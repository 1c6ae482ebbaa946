/-
  The statements' example: three things in a row.
-/
import Derived.Test.YtkbenpgmadnkcaaRkLaw1
namespace Go.Proofs
open Go.RowKit Go.Shelf

theorem Rk.three_order : Rk.orderR 3 [(0, 2), (2, 1)] = ([0, 2, 1], 0) := by decide
theorem Rk.three_round : (List.range 3).filter (fun i => Rk.lead [(0, 2), (2, 1), (1, 0)] i i) = [0, 1, 2] := by
  have r02 : Rk.Reach [(0, 2), (2, 1), (1, 0)] 0 2 := (Rk.Reach.refl 0).step (by simp)
  have r01 : Rk.Reach [(0, 2), (2, 1), (1, 0)] 0 1 := r02.step (by simp)
  have r21 : Rk.Reach [(0, 2), (2, 1), (1, 0)] 2 1 := (Rk.Reach.refl 2).step (by simp)
  have r20 : Rk.Reach [(0, 2), (2, 1), (1, 0)] 2 0 := r21.step (by simp)
  have r10 : Rk.Reach [(0, 2), (2, 1), (1, 0)] 1 0 := (Rk.Reach.refl 1).step (by simp)
  have r12 : Rk.Reach [(0, 2), (2, 1), (1, 0)] 1 2 := r10.step (by simp)
  have l0 : Rk.lead [(0, 2), (2, 1), (1, 0)] 0 0 = true := (Rk.lead_iff _ _ _).2 ⟨1, r01, by simp⟩
  have l1 : Rk.lead [(0, 2), (2, 1), (1, 0)] 1 1 = true := (Rk.lead_iff _ _ _).2 ⟨2, r12, by simp⟩
  have l2 : Rk.lead [(0, 2), (2, 1), (1, 0)] 2 2 = true := (Rk.lead_iff _ _ _).2 ⟨0, r20, by simp⟩
  show [0, 1, 2].filter _ = _
  simp [l0, l1, l2]

theorem Rk.own_grown {w w' : World} {B b : Nat} {e : TypeId} {size : Nat} {v : Value} {n : Nat} {cs : List Value} (h : w.ownsRow B e size v n cs) (hg : w.grownBy w' (some b)) (hb : b < B) : w'.ownsRow B e size v n cs := by
  rcases h with ⟨hl, h | ⟨g, cap, cur, rfl, hB, hgg, h4⟩⟩
  · exact ⟨hl, .inl h⟩
  · exact ⟨hl, .inr ⟨g, cap, cur, rfl, hB, by rw [hg.block g (Array.getElem?_eq_some_iff.1 hgg).1 (by intro e; have := Option.some.inj e; omega)]; exact hgg, h4⟩⟩

set_option maxHeartbeats 4000000 in
theorem Try.three_any (w : World) : Calls Try.prog 8 #[] w fun e w' => e = .returned (.bool true) ∧ Below w.heap.size w w' := by
  obtain ⟨i0, hi, hz0, hz1, hz2⟩ := info_parts Try.infoEdge
  obtain ⟨w0, hw0⟩ : ∃ x, w.alloc (.cells #[.int .i64 0, .int .i64 2, .int .i64 2, .int .i64 1] 45) = x := ⟨_, rfl⟩
  have hs0 : w0.heap.size = w.heap.size + 1 := by rw [← hw0]; simp
  have B0 : Hid (Below w.heap.size w w0) := by rw [← hw0]; exact (Below.refl _ w).alloc (Nat.le_refl _) _
  have own0 : w0.ownsRow w.heap.size 45 2 (.slice (some ⟨w.heap.size, 0, none⟩) 2 2) 2 (Rk.ecells (Rk.up [(0, 2), (2, 1)])) := by
    refine ⟨rfl, .inr ⟨w.heap.size, 2, #[.int .i64 0, .int .i64 2, .int .i64 2, .int .i64 1], rfl, Nat.le_refl _, ?_, Nat.le_refl _, by decide, rfl, rfl⟩⟩
    rw [← hw0]
    exact heap_alloc_new w _
  have E0 := Rk.eds_of_own (by rfl) own0
  have hO := Try.order_ok 3 (some ⟨w.heap.size, 0, none⟩) 2 [(0, 2), (2, 1)] w0 (by decide) (by decide) E0 (by decide) (by decide)
  rw [Rk.three_order] at hO
  have HO : Hid _ := hO
  have HW0 : Hid (w.alloc (.cells #[.int .i64 0, .int .i64 2, .int .i64 2, .int .i64 1] 45) = w0) := hw0
  have OW : Hid _ := own0
  clear hO E0 own0 hw0
  go_enter Try.func8, Try.ntmps8
  go_wp2_with fail
  rw [HW0.out]
  refine Calls.mono HO.out ?_
  rintro e W1 ⟨v1, rfl, own1, hb1⟩
  obtain ⟨a1, c1, rfl⟩ := Rk.own_shape own1
  have own1' := Rk.own_below OW.out hb1
  have N1 : Hid (W1.ownsRow (w.heap.size + 1) 3 1 (.slice a1 3 c1) 3 (Rk.nums [0, 2, 1])) := by rw [← hs0]; exact own1
  have B1 : Hid (Below w.heap.size w W1) := B0.out.trans (hb1.mono (by omega))
  have hz1' : w.heap.size + 1 ≤ W1.heap.size := by have := hb1.size; omega
  clear hb1 own1 HO HW0 OW
  go_wp2_with (at_builtin; refine wpList_append_own _ rfl _ _ 22 rfl w.heap.size 45 i0 _ 2 16 Try.underlying22 hi hz0 hz1 hz2 rfl (by decide) _ _ _ rfl (own1'.alloc _) ⟨W1.heap.size, 0, none⟩ 1 1 [.int .i64 1, .int .i64 0] rfl rfl ?c1 ?c2 ?c3 ?c4 ?c5 ?_)
  case c1 =>
    intro j u hj
    match j, hj with
    | 0, hj => simp at hj; subst hj; simp [Addr.add]
    | 1, hj => simp at hj; subst hj; simp [Addr.add]
  case c2 => intro u hu; simp at hu; rcases hu with rfl | rfl <;> rfl
  case c3 => decide
  case c4 => decide
  case c5 => simp; omega
  intro v6 W6 O6 g6 _
  obtain ⟨a6, c6, rfl⟩ := Rk.own_shape O6
  have E6 : Rk.Eds W6 W6.heap.size a6 (Rk.up [(0, 2), (2, 1), (1, 0)]) := Rk.eds_of_own (by rfl) (by simpa [Rk.ecells, Rk.up] using O6)
  have B6 : Hid (Below w.heap.size w W6) := Rk.below_grown (B1.out.alloc (by omega) _) (by simp; omega) (own1'.alloc _) g6
  have N6 : Hid (W6.ownsRow (w.heap.size + 1) 3 1 (.slice a1 3 c1) 3 (Rk.nums [0, 2, 1])) := Rk.own_grown (N1.out.alloc _) g6 (by show w.heap.size < _; omega)
  have hR := Try.round_ok 3 a6 c6 [(0, 2), (2, 1), (1, 0)] W6 (by decide) (by decide) E6 (by decide) (by decide)
  rw [Rk.three_round] at hR
  have HR : Hid _ := hR
  clear hR E6 O6 g6 own1' N1 B1
  go_wp2_with fail
  refine Calls.mono HR.out ?_
  rintro e W2 ⟨v2, rfl, own2, hb2⟩
  obtain ⟨a2, c2, rfl⟩ := Rk.own_shape own2
  have A2 : Below W2.heap.size W2 (W2.alloc (.cells #[.int .i64 0, .int .i64 2, .int .i64 1] 3)) := (Below.refl _ _).alloc (Nat.le_refl _) _
  have n1 : Rk.Nums (W2.alloc (.cells #[.int .i64 0, .int .i64 2, .int .i64 1] 3)) (W2.alloc (.cells #[.int .i64 0, .int .i64 2, .int .i64 1] 3)).heap.size a1 [0, 2, 1] := Rk.nums_of_own (Rk.own_below (Rk.own_below N6.out hb2) A2)
  have n2 : Rk.Nums (W2.alloc (.cells #[.int .i64 0, .int .i64 2, .int .i64 1] 3)) (W2.alloc (.cells #[.int .i64 0, .int .i64 2, .int .i64 1] 3)).heap.size (some ⟨W2.heap.size, 0, none⟩) [0, 2, 1] := by
    intro j hj
    refine ⟨W2.heap.size, 0, rfl, by simp, ?_⟩
    match j, hj with
    | 0, _ => simp
    | 1, _ => simp
    | 2, _ => simp
  have hI := Try.ints_any a1 (some ⟨W2.heap.size, 0, none⟩) c1 3 [0, 2, 1] [0, 2, 1] _ n1 n2 (by decide) (by decide)
  have HI : Hid _ := hI
  have B2 : Hid (Below w.heap.size w (W2.alloc (.cells #[.int .i64 0, .int .i64 2, .int .i64 1] 3))) := (B6.out.trans (hb2.mono B6.out.size)).alloc (by have := B6.out.size; have := hb2.size; omega) _
  clear hI n1 n2 A2 hb2 own2 HR N6 B6
  go_wp2_with fail
  refine Calls.mono HI.out ?_
  rintro e W3 ⟨rfl, hb3⟩
  have B3 : Hid (Below w.heap.size w W3) := B2.out.trans (hb3.mono B2.out.size)
  clear hb3 HI
  go_wp2
  go_ret
  exact ⟨rfl, B3.out⟩

end Go.Proofs
