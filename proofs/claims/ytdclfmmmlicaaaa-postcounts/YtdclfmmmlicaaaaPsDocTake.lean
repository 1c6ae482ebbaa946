/-
  The document's Take.
-/
import Derived.Test.YtdclfmmmlicaaaaPsDocSet
namespace Go.Proofs
open Go.RowKit Go.Shelf Go.Maps

set_option maxRecDepth 20000 in
set_option maxHeartbeats 3200000 in
theorem Try.rTake_any (B q : Nat) (v : Value) (M : Ps.Ofc) (k m : Int) (w : World) (h : Ps.Dc B q v M w) (hb : Bx.ok (Ps.get M k)) (hlen : M.length ≤ 8) (hnd : (Ps.key M).Nodup) :
    Calls Try.prog 23 #[.pointer (some ⟨q, 0, none⟩), .int .i64 k, .int .i64 m] w fun e w' => e = .returned (.int .i64 (Ps.takeE M k m)) ∧ Ps.Dc B q v (Ps.takeM M k m) w' ∧ Tk.But (fun x => x = q ∨ v.ownBlock = some x) w w' := by
  by_cases h1 : m < 0
  · have e0 : Ps.reachE M k m = 1 := by unfold Ps.reachE; rw [if_pos (Or.inl h1)]
    have e1 : Ps.takeE M k m = 1 := by unfold Ps.takeE; rw [e0, if_neg (by omega)]
    have e2 : Ps.takeM M k m = M := by unfold Ps.takeM; rw [e1, if_neg (by omega)]
    rw [e1, e2]
    have d1 : decide (m < 0) = true := decide_eq_true h1
    have H : Hid (Ps.Dc B q v M w) := h
    clear h e0 e1 e2 h1 hb
    go_enter Try.func23, Try.ntmps23
    go_wp2
    go_ret
    exact ⟨rfl, H.out, Tk.But.refl _ _⟩
  have d1 : decide (m < 0) = false := decide_eq_false h1
  by_cases h2 : 3 < m
  · have e0 : Ps.reachE M k m = 1 := by unfold Ps.reachE; rw [if_pos (Or.inr (by omega))]
    have e1 : Ps.takeE M k m = 1 := by unfold Ps.takeE; rw [e0, if_neg (by omega)]
    have e2 : Ps.takeM M k m = M := by unfold Ps.takeM; rw [e1, if_neg (by omega)]
    rw [e1, e2]
    have d2 : decide (3 < m) = true := decide_eq_true h2
    have H : Hid (Ps.Dc B q v M w) := h
    clear h e0 e1 e2 h1 h2 hb
    go_enter Try.func23, Try.ntmps23
    go_wp2
    go_ret
    exact ⟨rfl, H.out, Tk.But.refl _ _⟩
  have d2 : decide (3 < m) = false := decide_eq_false h2
  have hor : ¬ (m < 0 ∨ 4 ≤ m) := by omega
  have hm : m = 0 ∨ m = 1 ∨ m = 2 ∨ m = 3 := by omega
  have HC : Hid _ := Try.rAt_any B q v M k w h hlen
  have HO : Hid (¬ (m < 0 ∨ 4 ≤ m)) := hor
  have HM : Hid (m = 0 ∨ m = 1 ∨ m = 2 ∨ m = 3) := hm
  have H : Hid (Ps.Dc B q v M w) := h
  have HK : Hid (Bx.ok (Ps.get M k)) := hb
  clear h h1 h2 hor hm hb
  go_enter Try.func23, Try.ntmps23
  go_wp2_with fail
  refine Calls.mono HC.out ?_
  rintro e W1 ⟨⟨r, rfl, hr⟩, hb⟩
  have h1 := H.out.below hb (Nat.le_refl _)
  have c1 := h1.cell
  have HB : Hid (Below w.heap.size w W1 ∧ Ps.Dc B q v M W1) := ⟨hb, h1⟩
  clear HC
  rcases hr with ⟨rfl, hh⟩ | ⟨i, hil, rfl, hik⟩
  · have e0 := Ps.ix_len hh HO.out
    have e1 : Ps.takeE M k m = 6 := by unfold Ps.takeE; rw [e0, if_neg (by omega)]
    have e2 : Ps.takeM M k m = M := by unfold Ps.takeM; rw [e1, if_neg (by omega)]
    have HE : Hid (Ps.takeE M k m = 6 ∧ Ps.takeM M k m = M) := ⟨e1, e2⟩
    clear e0 e1 e2 hh h1 hb
    go_wp2
    go_ret
    rw [HE.out.1, HE.out.2]
    exact ⟨rfl, HB.out.2, Tk.But.of_below HB.out.1⟩
  · have hh : Ps.has M k = true := Ps.Ix.has hil hik
    have e0 := Ps.ix_yes hh HO.out
    have hgt : Ps.get M k = M[i].2 := by rw [← hik]; exact Ps.get_mem hnd (List.getElem_mem hil)
    obtain ⟨g, cc, hv, hg, hnc, k0, k1, k2, k3, k4, kf⟩ := h1.at hil
    obtain ⟨⟨x, a, b, c, d⟩, hx⟩ : ∃ x, M[i] = x := ⟨_, rfl⟩
    rw [hx] at k0 k1 k2 k3 k4 hik hgt
    simp only at k0 k1 k2 k3 k4 hik hgt
    subst hik
    obtain ⟨n, hn⟩ : ∃ n, M.length = n := ⟨_, rfl⟩
    rw [hn] at hv hnc hlen
    have hin : i < n := by omega
    subst hv
    have hbk := HK.out
    rw [hgt] at hbk
    obtain ⟨⟨a0, a1⟩, ⟨b0, b1⟩, ⟨c0, c1'⟩, ⟨d0, d1'⟩⟩ := hbk
    simp only at a0 a1 b0 b1 c0 c1' d0 d1'
    have HX : Hid (M[i] = (x, a, b, c, d) ∧ Ps.get M x = (a, b, c, d) ∧ Ps.reachE M x m = 0) := ⟨hx, hgt, e0⟩
    have HD : Hid (Ps.Dc B q (.slice (some ⟨g, 0, none⟩) n cc) M W1) := h1
    have d0' : decide ((i : Int) < 0) = false := decide_eq_false (by omega)
    have l1 : (i : Int) < n := by omega
    have l2 : (0 : Int) ≤ i := by omega
    have k2' : W1.cell? ⟨g, i * 5 + 1 + 1, none⟩ = some (.int .i64 b) := k2
    have k3' : W1.cell? ⟨g, i * 5 + 1 + 2, none⟩ = some (.int .i64 c) := k3
    have k4' : W1.cell? ⟨g, i * 5 + 1 + 3, none⟩ = some (.int .i64 d) := k4
    have cd : W1.drew.cell? ⟨q, 0, none⟩ = some (.slice (some ⟨g, 0, none⟩) n cc) := c1
    have kd1 : W1.drew.cell? ⟨g, i * 5 + 1, none⟩ = some (.int .i64 a) := k1
    have kd2 : W1.drew.cell? ⟨g, i * 5 + 1 + 1, none⟩ = some (.int .i64 b) := k2
    have kd3 : W1.drew.cell? ⟨g, i * 5 + 1 + 2, none⟩ = some (.int .i64 c) := k3
    have kd4 : W1.drew.cell? ⟨g, i * 5 + 1 + 3, none⟩ = some (.int .i64 d) := k4
    have kfd : ∀ o, W1.drew.frozen? ⟨g, o, none⟩ = false := kf
    clear e0 hh hgt hx hn hb h1
    rcases HM.out with rfl | rfl | rfl | rfl
    · by_cases ht : a = 0
      · have e1 : Ps.takeE M x 0 = 6 := by unfold Ps.takeE; rw [if_pos HX.out.2.2, HX.out.2.1]; exact if_pos ht
        have e2 : Ps.takeM M x 0 = M := by unfold Ps.takeM; rw [e1, if_neg (by omega)]
        have HE : Hid (Ps.takeE M x 0 = 6 ∧ Ps.takeM M x 0 = M) := ⟨e1, e2⟩
        have dd : (a == 0) = true := by simpa using ht
        clear e1 e2 ht
        go_wp2
        go_ret
        rw [HE.out.1, HE.out.2]
        exact ⟨rfl, HB.out.2, Tk.But.of_below HB.out.1⟩
      · have e1 : Ps.takeE M x 0 = 0 := by unfold Ps.takeE; rw [if_pos HX.out.2.2, HX.out.2.1]; exact if_neg ht
        have e2 : Ps.takeM M x 0 = M.set i (x, ((a - 1), b, c, d)) := by unfold Ps.takeM; rw [e1, if_pos rfl, HX.out.2.1, Ps.set_at hnd hil (by rw [HX.out.1])]; rfl
        have HE : Hid (Ps.takeE M x 0 = 0 ∧ Ps.takeM M x 0 = M.set i (x, ((a - 1), b, c, d))) := ⟨e1, e2⟩
        have dd : (a == 0) = false := by simpa using ht
        have hwr : IntKind.i64.wrap (a - 1) = a - 1 := Go.IntWalk.i64_in _ (by omega)
        clear e1 e2
        go_upto_region 6 with fail
        go_region_law (fail)
        all_goals
          go_wp2
          go_ret
          rw [HE.out.1, HE.out.2]
          refine ⟨rfl, Ps.Dc.set (w := W1) (j := 1) HD.out hil (by decide) (x, ((a - 1), b, c, d)) (.int .i64 (a - 1)) (by rw [HX.out.1]; rfl), ?_⟩
          exact (((Tk.But.of_below HB.out.1).setCell (E := fun y => y = q ∨ (Value.slice (some ⟨g, 0, none⟩) n cc).ownBlock = some y) (p := ⟨g, i * 5 + 1, none⟩) (.inr rfl) _).drewN 1)
    · by_cases ht : b = 0
      · have e1 : Ps.takeE M x 1 = 6 := by unfold Ps.takeE; rw [if_pos HX.out.2.2, HX.out.2.1]; exact if_pos ht
        have e2 : Ps.takeM M x 1 = M := by unfold Ps.takeM; rw [e1, if_neg (by omega)]
        have HE : Hid (Ps.takeE M x 1 = 6 ∧ Ps.takeM M x 1 = M) := ⟨e1, e2⟩
        have dd : (b == 0) = true := by simpa using ht
        clear e1 e2 ht
        go_wp2
        go_ret
        rw [HE.out.1, HE.out.2]
        exact ⟨rfl, HB.out.2, Tk.But.of_below HB.out.1⟩
      · have e1 : Ps.takeE M x 1 = 0 := by unfold Ps.takeE; rw [if_pos HX.out.2.2, HX.out.2.1]; exact if_neg ht
        have e2 : Ps.takeM M x 1 = M.set i (x, (a, (b - 1), c, d)) := by unfold Ps.takeM; rw [e1, if_pos rfl, HX.out.2.1, Ps.set_at hnd hil (by rw [HX.out.1])]; rfl
        have HE : Hid (Ps.takeE M x 1 = 0 ∧ Ps.takeM M x 1 = M.set i (x, (a, (b - 1), c, d))) := ⟨e1, e2⟩
        have dd : (b == 0) = false := by simpa using ht
        have hwr : IntKind.i64.wrap (b - 1) = b - 1 := Go.IntWalk.i64_in _ (by omega)
        clear e1 e2
        go_upto_region 6 with fail
        go_region_law (fail)
        all_goals
          go_wp2
          go_ret
          rw [HE.out.1, HE.out.2]
          refine ⟨rfl, Ps.Dc.set (w := W1) (j := 2) HD.out hil (by decide) (x, (a, (b - 1), c, d)) (.int .i64 (b - 1)) (by rw [HX.out.1]; rfl), ?_⟩
          exact (((Tk.But.of_below HB.out.1).setCell (E := fun y => y = q ∨ (Value.slice (some ⟨g, 0, none⟩) n cc).ownBlock = some y) (p := ⟨g, i * 5 + 2, none⟩) (.inr rfl) _).drewN 1)
    · by_cases ht : c = 0
      · have e1 : Ps.takeE M x 2 = 6 := by unfold Ps.takeE; rw [if_pos HX.out.2.2, HX.out.2.1]; exact if_pos ht
        have e2 : Ps.takeM M x 2 = M := by unfold Ps.takeM; rw [e1, if_neg (by omega)]
        have HE : Hid (Ps.takeE M x 2 = 6 ∧ Ps.takeM M x 2 = M) := ⟨e1, e2⟩
        have dd : (c == 0) = true := by simpa using ht
        clear e1 e2 ht
        go_wp2
        go_ret
        rw [HE.out.1, HE.out.2]
        exact ⟨rfl, HB.out.2, Tk.But.of_below HB.out.1⟩
      · have e1 : Ps.takeE M x 2 = 0 := by unfold Ps.takeE; rw [if_pos HX.out.2.2, HX.out.2.1]; exact if_neg ht
        have e2 : Ps.takeM M x 2 = M.set i (x, (a, b, (c - 1), d)) := by unfold Ps.takeM; rw [e1, if_pos rfl, HX.out.2.1, Ps.set_at hnd hil (by rw [HX.out.1])]; rfl
        have HE : Hid (Ps.takeE M x 2 = 0 ∧ Ps.takeM M x 2 = M.set i (x, (a, b, (c - 1), d))) := ⟨e1, e2⟩
        have dd : (c == 0) = false := by simpa using ht
        have hwr : IntKind.i64.wrap (c - 1) = c - 1 := Go.IntWalk.i64_in _ (by omega)
        clear e1 e2
        go_upto_region 6 with fail
        go_region_law (fail)
        all_goals
          go_wp2
          go_ret
          rw [HE.out.1, HE.out.2]
          refine ⟨rfl, Ps.Dc.set (w := W1) (j := 3) HD.out hil (by decide) (x, (a, b, (c - 1), d)) (.int .i64 (c - 1)) (by rw [HX.out.1]; rfl), ?_⟩
          exact (((Tk.But.of_below HB.out.1).setCell (E := fun y => y = q ∨ (Value.slice (some ⟨g, 0, none⟩) n cc).ownBlock = some y) (p := ⟨g, i * 5 + 3, none⟩) (.inr rfl) _).drewN 1)
    · by_cases ht : d = 0
      · have e1 : Ps.takeE M x 3 = 6 := by unfold Ps.takeE; rw [if_pos HX.out.2.2, HX.out.2.1]; exact if_pos ht
        have e2 : Ps.takeM M x 3 = M := by unfold Ps.takeM; rw [e1, if_neg (by omega)]
        have HE : Hid (Ps.takeE M x 3 = 6 ∧ Ps.takeM M x 3 = M) := ⟨e1, e2⟩
        have dd : (d == 0) = true := by simpa using ht
        clear e1 e2 ht
        go_wp2
        go_ret
        rw [HE.out.1, HE.out.2]
        exact ⟨rfl, HB.out.2, Tk.But.of_below HB.out.1⟩
      · have e1 : Ps.takeE M x 3 = 0 := by unfold Ps.takeE; rw [if_pos HX.out.2.2, HX.out.2.1]; exact if_neg ht
        have e2 : Ps.takeM M x 3 = M.set i (x, (a, b, c, (d - 1))) := by unfold Ps.takeM; rw [e1, if_pos rfl, HX.out.2.1, Ps.set_at hnd hil (by rw [HX.out.1])]; rfl
        have HE : Hid (Ps.takeE M x 3 = 0 ∧ Ps.takeM M x 3 = M.set i (x, (a, b, c, (d - 1)))) := ⟨e1, e2⟩
        have dd : (d == 0) = false := by simpa using ht
        have hwr : IntKind.i64.wrap (d - 1) = d - 1 := Go.IntWalk.i64_in _ (by omega)
        clear e1 e2
        go_upto_region 6 with fail
        go_region_law (fail)
        all_goals
          go_wp2
          go_ret
          rw [HE.out.1, HE.out.2]
          refine ⟨rfl, Ps.Dc.set (w := W1) (j := 4) HD.out hil (by decide) (x, (a, b, c, (d - 1))) (.int .i64 (d - 1)) (by rw [HX.out.1]; rfl), ?_⟩
          exact (((Tk.But.of_below HB.out.1).setCell (E := fun y => y = q ∨ (Value.slice (some ⟨g, 0, none⟩) n cc).ownBlock = some y) (p := ⟨g, i * 5 + 4, none⟩) (.inr rfl) _).drewN 1)

end Go.Proofs
