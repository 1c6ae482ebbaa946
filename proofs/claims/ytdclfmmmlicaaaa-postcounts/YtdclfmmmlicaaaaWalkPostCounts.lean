/-
  The walk of PostCounts.
-/
import Derived.Test.YtdclfmmmlicaaaaPsOne
import Derived.Test.YtdclfmmmlicaaaaPsDoes
import Derived.Test.YtdclfmmmlicaaaaPsSteps
import Derived.Test.YtdclfmmmlicaaaaPsArg
namespace Go.Proofs.Ytdclfmmmlicaaaa.PostCounts
open Go.RowKit Go.Shelf Go.Maps

theorem at_put_same (x : Bx) (m v : Int) (h : 0 ≤ m ∧ m < 4) : (x.put m v).at m = v := by
  obtain rfl | rfl | rfl | rfl : m = 0 ∨ m = 1 ∨ m = 2 ∨ m = 3 := by omega
  all_goals rfl
theorem at_put_other (x : Bx) (m m' v : Int) (h : 0 ≤ m ∧ m < 4) (h' : 0 ≤ m' ∧ m' < 4) (hne : m ≠ m') : (x.put m v).at m' = x.at m' := by
  obtain rfl | rfl | rfl | rfl : m = 0 ∨ m = 1 ∨ m = 2 ∨ m = 3 := by omega
  all_goals
    obtain rfl | rfl | rfl | rfl : m' = 0 ∨ m' = 1 ∨ m' = 2 ∨ m' = 3 := by omega
    all_goals first | rfl | exact absurd rfl hne
theorem reach_m {M : Ps.Ofc} {k m : Int} (h : Ps.reachE M k m = 0) : 0 ≤ m ∧ m < 4 := by
  have := (Ps.reach0 h).1
  omega
theorem none_at (m : Int) : Bx.none.at m = 0 := by
  unfold Bx.at Bx.none
  split
  · rfl
  · split
    · rfl
    · split <;> rfl

/-- What a step of a key makes of it, message by message. -/
theorem step_one (M : Ps.Ofc) (x k sm m : Int) (hm : 0 ≤ m ∧ m < 4) :
    (Ps.has M k ≠ Ps.has (Ps.step M x k sm) k → (Ps.get (Ps.step M x k sm) k).at m = 0) ∧
    (Ps.has M k = Ps.has (Ps.step M x k sm) k → sm ≠ m → (Ps.get (Ps.step M x k sm) k).at m = (Ps.get M k).at m) ∧
    (Ps.has M k = Ps.has (Ps.step M x k sm) k → (Ps.get (Ps.step M x k sm) k).at m - (Ps.get M k).at m ≤ 1 ∧ (Ps.get M k).at m - (Ps.get (Ps.step M x k sm) k).at m ≤ 1) := by
  have same : ∀ N : Ps.Ofc, Ps.has N k = Ps.has M k → Ps.get N k = Ps.get M k → (Ps.has M k ≠ Ps.has N k → (Ps.get N k).at m = 0) ∧ (Ps.has M k = Ps.has N k → sm ≠ m → (Ps.get N k).at m = (Ps.get M k).at m) ∧ (Ps.has M k = Ps.has N k → (Ps.get N k).at m - (Ps.get M k).at m ≤ 1 ∧ (Ps.get M k).at m - (Ps.get N k).at m ≤ 1) := fun N h1 h2 => by
    rw [h1, h2]
    exact ⟨fun h => absurd rfl h, fun _ _ => rfl, fun _ => by omega⟩
  unfold Ps.step
  split
  · unfold Ps.openM
    split
    · rename_i he
      have hh : Ps.has M k = false := by
        unfold Ps.openE at he
        split at he
        · omega
        · split at he
          · omega
          · rename_i h2
            simpa using h2
      rw [Ps.has_add, Ps.get_add, Ps.get_none hh, hh, none_at]
      exact ⟨fun _ => rfl, fun _ _ => rfl, fun _ => by omega⟩
    · exact same M rfl rfl
  · split
    · rw [Ps.has_cut, Ps.get_cut, if_pos rfl, none_at]
      cases hh : Ps.has M k
      · rw [Ps.get_none hh, none_at]
        exact ⟨fun _ => rfl, fun _ _ => rfl, fun _ => by omega⟩
      · simp
    · split
      · unfold Ps.putM
        split
        · rename_i he
          have hr : Ps.reachE M k sm = 0 := by
            unfold Ps.putE at he
            split at he
            · rename_i h; exact h
            · exact he
          have hh := (Ps.reach0 hr).2
          have hs := reach_m hr
          rw [Ps.has_set, Ps.get_set, hh]
          simp only [decide_true, Bool.and_self, if_true]
          refine ⟨fun h => absurd rfl h, fun _ hne => at_put_other _ _ _ _ hs hm hne, fun _ => ?_⟩
          by_cases e : sm = m
          · subst e
            rw [at_put_same _ _ _ hs]
            omega
          · rw [at_put_other _ _ _ _ hs hm e]
            omega
        · exact same M rfl rfl
      · split
        · unfold Ps.takeM
          split
          · rename_i he
            have hr : Ps.reachE M k sm = 0 := by
              unfold Ps.takeE at he
              split at he
              · rename_i h; exact h
              · exact he
            have hh := (Ps.reach0 hr).2
            have hs := reach_m hr
            rw [Ps.has_set, Ps.get_set, hh]
            simp only [decide_true, Bool.and_self, if_true]
            refine ⟨fun h => absurd rfl h, fun _ hne => at_put_other _ _ _ _ hs hm hne, fun _ => ?_⟩
            by_cases e : sm = m
            · subst e
              rw [at_put_same _ _ _ hs]
              omega
            · rw [at_put_other _ _ _ _ hs hm e]
              omega
          · exact same M rfl rfl
        · exact same M rfl rfl

theorem arr_cell {V : World} {p : Nat} {y : Bx} (h : V.heap[p]? = some (.cells #[.int .i64 y.1, .int .i64 y.2.1, .int .i64 y.2.2.1, .int .i64 y.2.2.2] 33 (0, 0))) {mm : Nat} (hm : mm < 4) : V.cell? ⟨p, mm, none⟩ = some (.int .i64 (y.at (mm : Int))) := by
  obtain rfl | rfl | rfl | rfl : mm = 0 ∨ mm = 1 ∨ mm = 2 ∨ mm = 3 := by omega
  all_goals
    simp only [World.cell?, h]
    rfl

set_option maxRecDepth 20000 in
set_option maxHeartbeats 16000000 in
theorem walk (a : Option Addr) (c : Nat) (l : List Ps.Stp) (key m : Int) (W : World) (hS : Ps.Sts W W.heap.size a l) : Calls Try.prog 5 #[.slice a l.length c, .int .i64 key, .int .i64 m] W fun e w' => e = .returned (.bool true) ∧ Below W.heap.size W w' := by
  obtain ⟨n, hn⟩ : ∃ n, l.length = n := ⟨_, rfl⟩
  obtain ⟨B, hB⟩ : ∃ B, W.heap.size = B := ⟨_, rfl⟩
  have HE : Hid (Ps.Sts W W.heap.size a l ∧ l.length = n ∧ W.heap.size = B) := ⟨hS, hn, hB⟩
  rw [hn, hB]
  have C0 := Try.pNew_any W
  rw [hB] at C0
  have HC0 : Hid _ := C0
  clear hS hn hB C0
  go_enter Try.func5, Try.ntmps5
  go_wp2_with fail
  refine Calls.mono HC0.out ?_
  rintro e W1 ⟨rfl, hA, hb⟩
  have s1 := hA.lt
  have H1 : Hid (Ps.At B none [] W1 ∧ Below B W W1 ∧ B < W1.heap.size) := ⟨hA, hb, s1⟩
  clear hA hb s1 HC0
  have early : Hid (∀ V : World, Below B W V → Calls Try.prog 9 #[] V fun e w' => e = .returned (.bool true) ∧ Below B W w') := fun V hV => (Try.one_any V).mono fun e w' ⟨he, hb⟩ => ⟨he, hV.trans (hb.mono (by have := hV.size; have := HE.out.2.2; omega))⟩
  by_cases hm0 : m < 0
  · have d1 : decide (m < 0) = true := decide_eq_true hm0
    clear hm0
    go_wp2_with fail
    refine Calls.mono (early.out W1 H1.out.2.1) ?_
    rintro e W8 ⟨rfl, hb⟩
    have H8 : Hid (Below B W W8) := hb
    clear hb
    go_wp2
    go_ret
    exact ⟨rfl, H8.out⟩
  by_cases hm3 : 3 < m
  · have d1 : decide (m < 0) = false := decide_eq_false hm0
    have d2 : decide (3 < m) = true := decide_eq_true hm3
    clear hm0 hm3
    go_wp2_with fail
    refine Calls.mono (early.out W1 H1.out.2.1) ?_
    rintro e W8 ⟨rfl, hb⟩
    have H8 : Hid (Below B W W8) := hb
    clear hb
    go_wp2
    go_ret
    exact ⟨rfl, H8.out⟩
  obtain ⟨mm, rfl⟩ : ∃ mm : Nat, m = mm := ⟨m.toNat, by omega⟩
  have hmm : mm < 4 := by omega
  have d1 : decide ((mm : Int) < 0) = false := decide_eq_false (by omega)
  have d2 : decide (3 < (mm : Int)) = false := decide_eq_false (by omega)
  have d2' : decide (3 < mm) = false := decide_eq_false (by omega)
  have l4 : (mm : Int) < 4 := by omega
  have l0 : (0 : Int) ≤ mm := by omega
  clear hm0 hm3
  by_cases h200 : 200 < n
  · have d3 : decide (200 < (n : Int)) = true := decide_eq_true (by omega)
    have d3' : decide (200 < n) = true := decide_eq_true h200
    clear h200
    go_wp2_with fail
    refine Calls.mono (early.out W1 H1.out.2.1) ?_
    rintro e W8 ⟨rfl, hb⟩
    have H8 : Hid (Below B W W8) := hb
    clear hb
    go_wp2
    go_ret
    exact ⟨rfl, H8.out⟩
  have d3 : decide (200 < (n : Int)) = false := decide_eq_false (by omega)
  have d3' : decide (200 < n) = false := decide_eq_false h200
  obtain ⟨q, hq⟩ : ∃ q, W1.heap.size = q := ⟨_, rfl⟩
  obtain ⟨W2, hW2⟩ : ∃ x, W1.alloc (.cells #[.slice none 0 0] 29) = x := ⟨_, rfl⟩
  have b2 : Below B W W2 := by
    rw [← hW2]
    exact H1.out.2.1.alloc (by have := H1.out.2.2; omega) _
  have tw : Ps.Two B (fun x => B ≤ x ∧ x < W2.heap.size) B q [] W2 := by
    have e1 : W2.heap[q]? = some (.cells #[.slice none 0 0] 29 (0, 0)) := by rw [← hW2, ← hq]; exact heap_alloc_new _ _
    have aB : Ps.At B none [] W2 := by rw [← hW2]; exact H1.out.1.alloc _
    have s2 : W2.heap.size = q + 1 := by rw [← hW2, ← hq]; simp
    have := H1.out.2.2
    obtain ⟨k1, pm, v, k2, k3, _, k4, _, k5⟩ := Ps.two_new (B := B) aB e1
    refine ⟨k1, none, .slice none 0 0, aB, ⟨e1, rfl, .inl ⟨rfl, rfl⟩⟩, ⟨Nat.le_refl _, by omega⟩, (fun b e => by cases e), ⟨by omega, by omega⟩, (fun g e => by cases e)⟩
  have H2 : Hid (Below B W W2 ∧ Ps.Two B (fun x => B ≤ x ∧ x < W2.heap.size) B q [] W2) := ⟨b2, tw⟩
  have HW2 : Hid (W1.alloc (.cells #[.slice none 0 0] 29) = W2 ∧ W1.heap.size = q) := ⟨hW2, hq⟩
  clear hW2 hq b2 tw H1
  go_wp2
  rw [HW2.out.1, HW2.out.2]
  clear HW2
  go_loopg [9, 41] n (fun gk s9 s wr => ∃ (i : Nat) (nb : Int), gk + i = n ∧ s9 = .int .i64 nb ∧ s = .int .i64 i ∧ Hid (Below B W wr ∧ ∃ E M, Ps.Two B E B q M wr ∧ (∀ x, E x → B ≤ x ∧ x < wr.heap.size) ∧ nb = (Ps.get M key).at mm))
  case atStart => exact ⟨0, 0, by omega, rfl, rfl, H2.out.1, _, [], H2.out.2, (fun x hx => hx), (none_at _).symm⟩
  case round =>
    obtain ⟨i, nb, hi, rfl, rfl, HI⟩ := hrel
    clear H2
    by_cases hlt : i < n
    · have hd : decide ((i : Int) < n) = true := decide_eq_true (by omega)
      have hil : i < l.length := by rw [HE.out.2.1]; exact hlt
      obtain ⟨g, off, rfl, hg, k0, k1, k2, kw⟩ := HE.out.1 i hil
      obtain ⟨⟨x, k, sm⟩, hx⟩ : ∃ x, l[i] = x := ⟨_, rfl⟩
      rw [hx] at k0 k1 k2 kw
      simp only at k0 k1 k2 kw
      have hc : ∀ o, wr.cell? ⟨g, o, none⟩ = W.cell? ⟨g, o, none⟩ := fun o => HI.out.1.cell (p := ⟨g, o, none⟩) (by show g < B; have := HE.out.2.2; omega)
      rw [← hc] at k0 k1 k2
      clear hc hx
      obtain ⟨hbr, E, M, tw, hE, hnb⟩ := HI.out
      have sB : B ≤ wr.heap.size := by have := hbr.size; have := HE.out.2.2; omega
      obtain ⟨p, hp⟩ : ∃ y, wr.heap.size = y := ⟨_, rfl⟩
      obtain ⟨w0, hw0⟩ : ∃ y, wr.alloc (.cells #[.int .i64 x, .int .i64 k, .int .i64 sm] 31) = y := ⟨_, rfl⟩
      have b0 : Below wr.heap.size wr w0 := by rw [← hw0]; exact (Below.refl _ _).alloc (Nat.le_refl _) _
      have s0 : w0.heap.size = p + 1 := by rw [← hw0, ← hp]; simp
      have hbl : w0.heap[p]? = some (.cells #[.int .i64 x, .int .i64 k, .int .i64 sm] 31 (0, 0)) := by rw [← hw0, ← hp]; exact heap_alloc_new _ _
      have SB : Hid (∀ V : World, V.heap[p]? = w0.heap[p]? → V.cell? ⟨p, 0, none⟩ = some (.int .i64 x) ∧ V.cell? ⟨p, 1, none⟩ = some (.int .i64 k) ∧ V.cell? ⟨p, 2, none⟩ = some (.int .i64 sm)) := fun V e => by
        rw [hbl] at e
        simp [World.cell?, e]
      have tw0 := tw.below b0 (Nat.le_refl _)
      obtain ⟨hok, pm, v, h1, h2⟩ := tw0
      have KS : Hid (Below B W w0 ∧ Ps.Two B E B q M w0 ∧ (∀ x, E x → B ≤ x ∧ x < p) ∧ Ps.At B pm M w0 ∧ w0.heap.size = p + 1 ∧ B ≤ p ∧ nb = (Ps.get M key).at mm ∧ Ps.Ok M) := ⟨hbr.trans (b0.mono sB), ⟨hok, pm, v, h1, h2⟩, (fun x hx => ⟨(hE x hx).1, by have := (hE x hx).2; omega⟩), h1, s0, by omega, hnb, hok⟩
      have f0 := (SB.out w0 rfl).2.1
      have HW0 : Hid (wr.alloc (.cells #[.int .i64 x, .int .i64 k, .int .i64 sm] 31) = w0 ∧ wr.heap.size = p) := ⟨hw0, hp⟩
      clear hbr tw hE hnb sB hp hw0 b0 s0 hbl hok h1 h2 HI
      go_upto_region 9 with fail
      rw [HW0.out.1, HW0.out.2]
      go_wp2_with fail
      refine Calls.mono (Try.pWaiting_any B pm M k kw w0 KS.out.2.2.2.1) ?_
      rintro e U1 ⟨rfl, hb1⟩
      obtain ⟨⟨ba, bb, bc, bd⟩, hgt⟩ : ∃ y, Ps.get M k = y := ⟨_, rfl⟩
      obtain ⟨wa, hwa⟩ : ∃ y, Ps.has M k = y := ⟨_, rfl⟩
      rw [hgt, hwa]
      simp only [Bx.val]
      obtain ⟨U2, hU2⟩ : ∃ y, U1.alloc (.cells #[.int .i64 ba, .int .i64 bb, .int .i64 bc, .int .i64 bd] 33) = y := ⟨_, rfl⟩
      obtain ⟨p12, hp12⟩ : ∃ y, U1.heap.size = y := ⟨_, rfl⟩
      have b2 : Below w0.heap.size w0 U2 := by rw [← hU2]; exact hb1.alloc hb1.size _
      have q12 : U2.heap[p12]? = some (.cells #[.int .i64 ba, .int .i64 bb, .int .i64 bc, .int .i64 bd] 33 (0, 0)) := by rw [← hU2, ← hp12]; exact heap_alloc_new _ _
      have s12 := (Array.getElem?_eq_some_iff.1 q12).1
      have f2 := SB.out U2 (b2.block p (by have := KS.out.2.2.2.2.1; omega))
      have f20 := f2.1
      have f21 := f2.2.1
      have f22 := f2.2.2
      have CD : Hid _ := Try.does_any B E B q M x k sm kw U2 (by have := b2.size; have := KS.out.2.2.2.2; omega) (KS.out.2.1.below b2 (Nat.le_refl _))
      have K2 : Hid (Below w0.heap.size w0 U2 ∧ U2.heap[p12]? = some (.cells #[.int .i64 ba, .int .i64 bb, .int .i64 bc, .int .i64 bd] 33 (0, 0)) ∧ p12 < U2.heap.size ∧ Ps.get M k = (ba, bb, bc, bd) ∧ Ps.has M k = wa ∧ p + 1 ≤ p12) := ⟨b2, q12, s12, hgt, hwa, by have := hb1.size; have := KS.out.2.2.2.2.1; omega⟩
      have HU2 : Hid (U1.alloc (.cells #[.int .i64 ba, .int .i64 bb, .int .i64 bc, .int .i64 bd] 33) = U2 ∧ U1.heap.size = p12) := ⟨hU2, hp12⟩
      clear hb1 hgt hwa hU2 hp12 b2 q12 s12 f2 f0
      go_upto_region 10 with fail
      rw [HU2.out.1, HU2.out.2]
      go_wp2_with fail
      refine Calls.mono CD.out ?_
      rintro e V1 ⟨rfl, F, hF, tw1, hbut⟩
      have sz : p + 1 ≤ U2.heap.size := by have := K2.out.1.size; have := KS.out.2.2.2.2.1; omega
      have e1 : ∀ x, E x → B ≤ x ∧ x < U2.heap.size := fun x hx => ⟨(KS.out.2.2.1 x hx).1, by have := (KS.out.2.2.1 x hx).2; omega⟩
      obtain ⟨t1, t2, _⟩ := Ps.own_step e1 (by have := KS.out.2.2.2.2.2.1; omega) hF tw1
      have g1 : V1.heap[p]? = w0.heap[p]? := (hbut.block p (by omega) (fun he => by have := (KS.out.2.2.1 p he).2; omega)).trans (K2.out.1.block p (by have := KS.out.2.2.2.2.1; omega))
      have g12 := (hbut.block p12 K2.out.2.2.1 (fun he => by have := (KS.out.2.2.1 p12 he).2; have := K2.out.2.2.2.2.2; omega)).trans K2.out.2.1
      have bV1 : Below B W V1 := (KS.out.1.trans (K2.out.1.mono (by have := KS.out.2.2.2.2; omega))).trans (hbut.below (by have := KS.out.2.2.2.2.2.1; omega) (fun y hy he => by have := (KS.out.2.2.1 y he).1; omega))
      have f1 := (SB.out V1 g1).2.1
      obtain ⟨M', hM'⟩ : ∃ y, Ps.step M x k sm = y := ⟨_, rfl⟩
      rw [hM'] at t1
      obtain ⟨hok', pm', v', a1, a2⟩ := t1
      have K3 : Hid (Below B W V1 ∧ Ps.Two B (fun x => F x ∧ x < V1.heap.size) B q M' V1 ∧ (∀ x, (F x ∧ x < V1.heap.size) → B ≤ x ∧ x < V1.heap.size) ∧ Ps.At B pm' M' V1 ∧ V1.heap[p]? = w0.heap[p]? ∧ V1.heap[p12]? = some (.cells #[.int .i64 ba, .int .i64 bb, .int .i64 bc, .int .i64 bd] 33 (0, 0)) ∧ Ps.step M x k sm = M' ∧ Ps.Ok M') := ⟨bV1, ⟨hok', pm', v', a1, a2⟩, t2, a1, g1, g12, hM', hok'⟩
      clear CD hF tw1 hbut sz e1 t2 g1 g12 bV1 hM' hok' a1 a2 f20 f21 f22
      go_wp2_with fail
      refine Calls.mono (Try.pWaiting_any B pm' M' k kw V1 K3.out.2.2.2.1) ?_
      rintro e V2 ⟨rfl, hb1⟩
      obtain ⟨⟨ca, cb, cc, cd⟩, hgt⟩ : ∃ y, Ps.get M' k = y := ⟨_, rfl⟩
      obtain ⟨is, his⟩ : ∃ y, Ps.has M' k = y := ⟨_, rfl⟩
      rw [hgt, his]
      simp only [Bx.val]
      obtain ⟨V3, hV3⟩ : ∃ y, V2.alloc (.cells #[.int .i64 ca, .int .i64 cb, .int .i64 cc, .int .i64 cd] 33) = y := ⟨_, rfl⟩
      obtain ⟨p14, hp14⟩ : ∃ y, V2.heap.size = y := ⟨_, rfl⟩
      have b3 : Below V1.heap.size V1 V3 := by rw [← hV3]; exact hb1.alloc hb1.size _
      have q14 : V3.heap[p14]? = some (.cells #[.int .i64 ca, .int .i64 cb, .int .i64 cc, .int .i64 cd] 33 (0, 0)) := by rw [← hV3, ← hp14]; exact heap_alloc_new _ _
      have lp : p < V1.heap.size := by
        rcases Nat.lt_or_ge p V1.heap.size with h | h
        · exact h
        · have := K3.out.2.2.2.2.1
          rw [Array.getElem?_eq_none h, Array.getElem?_eq_getElem (by have := KS.out.2.2.2.2.1; omega)] at this
          cases this
      have q12 : V3.heap[p12]? = some (.cells #[.int .i64 ba, .int .i64 bb, .int .i64 bc, .int .i64 bd] 33 (0, 0)) := (b3.block p12 (Array.getElem?_eq_some_iff.1 K3.out.2.2.2.2.2.1).1).trans K3.out.2.2.2.2.2.1
      have f3 := SB.out V3 ((b3.block p lp).trans K3.out.2.2.2.2.1)
      have f31 := f3.2.1
      have f32 := f3.2.2
      obtain ⟨nv, hnv⟩ : ∃ y, Bx.at (ba, bb, bc, bd) mm = y := ⟨_, rfl⟩
      obtain ⟨na, hna⟩ : ∃ y, Bx.at (ca, cb, cc, cd) mm = y := ⟨_, rfl⟩
      have y12 : V3.cell? ⟨p12, mm, none⟩ = some (.int .i64 nv) := by rw [← hnv]; exact arr_cell (y := (ba, bb, bc, bd)) q12 hmm
      have y14 : V3.cell? ⟨p14, mm, none⟩ = some (.int .i64 na) := by rw [← hna]; exact arr_cell (y := (ca, cb, cc, cd)) q14 hmm
      have so := step_one M x k sm mm (by omega)
      rw [K3.out.2.2.2.2.2.2.1, hgt, his, K2.out.2.2.2.1, K2.out.2.2.2.2.1, hnv, hna] at so
      have rb := Bx.ok_at (KS.out.2.2.2.2.2.2.2.1 k) mm
      have ra := Bx.ok_at (K3.out.2.2.2.2.2.2.2.1 k) mm
      rw [K2.out.2.2.2.1, hnv] at rb
      rw [hgt, hna] at ra
      have fin : Hid (∀ V : World, Below V1.heap.size V1 V → ∀ z, z = (Ps.get M' key).at mm → Below B W V ∧ ∃ E M, Ps.Two B E B q M V ∧ (∀ x, E x → B ≤ x ∧ x < V.heap.size) ∧ z = (Ps.get M key).at mm) := fun V hV z hz => ⟨K3.out.1.trans (hV.mono (by have := K3.out.1.size; have := HE.out.2.2; omega)), _, M', K3.out.2.1.below hV (Nat.le_refl _), (fun x hx => ⟨(K3.out.2.2.1 x hx).1, Nat.lt_of_lt_of_le hx.2 hV.size⟩), hz⟩
      have K4 : Hid (Below V1.heap.size V1 V3 ∧ (k ≠ key → (Ps.get M' key).at mm = nb) ∧ (k = key → nv = nb ∧ na = (Ps.get M' key).at mm)) := by
        refine ⟨b3, fun h => ?_, fun h => ?_⟩
        · rw [KS.out.2.2.2.2.2.2.1, ← K3.out.2.2.2.2.2.2.1, (Ps.step_other M x k sm key h).2]
        · rw [← h, KS.out.2.2.2.2.2.2.1, ← h, K2.out.2.2.2.1, hgt, hnv, hna]
          exact ⟨rfl, rfl⟩
      have K6 : Hid ((wa = false → nv = 0) ∧ (is = false → na = 0)) := by
        refine ⟨fun h => ?_, fun h => ?_⟩
        · have e := Ps.get_none (K2.out.2.2.2.2.1.trans h)
          rw [K2.out.2.2.2.1] at e
          rw [← hnv, e, none_at]
        · have e := Ps.get_none (his.trans h)
          rw [hgt] at e
          rw [← hna, e, none_at]
      have K5 : Hid ((wa ≠ is → na = 0) ∧ (wa = is → sm ≠ mm → na = nv) ∧ (wa = is → na - nv ≤ 1 ∧ nv - na ≤ 1)) := so
      have HV3 : Hid (V2.alloc (.cells #[.int .i64 ca, .int .i64 cb, .int .i64 cc, .int .i64 cd] 33) = V3 ∧ V2.heap.size = p14) := ⟨hV3, hp14⟩
      clear hb1 hgt his hV3 hp14 b3 q14 lp q12 f3 hnv hna so K2 KS SB K3 f1
      go_upto_region 13 with fail
      rw [HV3.out.1, HV3.out.2]
      by_cases hkk : k = key
      · subst hkk
        obtain ⟨rfl, hz⟩ := K4.out.2.2 rfl
        have HZ : Hid (na = (Ps.get M' k).at mm ∧ Below V1.heap.size V1 V3) := ⟨hz, K4.out.1⟩
        clear hz K4
        have r1 : 0 ≤ nv ∧ nv ≤ 3 := rb
        have r2 : 0 ≤ na ∧ na ≤ 3 := ra
        clear rb ra
        have h0 : (0 : Int) ≤ nv ∧ nv ≤ 3 ∧ 0 ≤ na ∧ na ≤ 3 := ⟨r1.1, r1.2, r2.1, r2.2⟩
        clear r1 r2
        obtain ⟨n0, n1, n2, n3⟩ := h0
        by_cases hsm : sm = mm
        · have dm : (sm == (mm : Int)) = true := by simpa using hsm
          clear hsm
          cases wa <;> cases is
          · have e1 := K6.out.1 rfl
            have e2 := K6.out.2 rfl
            have FN : Hid _ := fin.out V3 HZ.out.2 nv (by rw [← HZ.out.1, e1, e2])
            clear e1 e2
            go_wp2
            go_roundg (gk - 1)
            case measure => omega
            case rel => exact ⟨i + 1, nv, by omega, rfl, by go_num, FN.out⟩
          · have e1 := K5.out.1 (by simp)
            have FN : Hid _ := fin.out V3 HZ.out.2 0 (by rw [← HZ.out.1, e1])
            have da : (na != 0) = false := by simp [e1]
            clear e1
            go_wp2
            go_roundg (gk - 1)
            case measure => omega
            case rel => exact ⟨i + 1, 0, by omega, rfl, by go_num, FN.out⟩
          · have e1 := K5.out.1 (by simp)
            have FN : Hid _ := fin.out V3 HZ.out.2 0 (by rw [← HZ.out.1, e1])
            clear e1
            go_wp2
            go_roundg (gk - 1)
            case measure => omega
            case rel => exact ⟨i + 1, 0, by omega, rfl, by go_num, FN.out⟩
          · have e1 := K5.out.2.2 rfl
            have w1 : IntKind.i64.wrap (nv + na) = nv + na := Go.IntWalk.i64_in _ (by omega)
            have w2 : IntKind.i64.wrap (nv + na - nv) = nv + na - nv := Go.IntWalk.i64_in _ (by omega)
            have w3 : IntKind.i64.wrap (na - nv) = na - nv := Go.IntWalk.i64_in _ (by omega)
            have w4 : IntKind.i64.wrap (nv - na) = nv - na := Go.IntWalk.i64_in _ (by omega)
            have t1 : decide (1 < na - nv) = false := decide_eq_false (by omega)
            have t2 : decide (1 < nv - na) = false := decide_eq_false (by omega)
            have t3 : (na != nv + na - nv) = false := by simp; omega
            have FNX : Hid (nv + na - nv = (Ps.get M' k).at mm) := by
              have := HZ.out.1
              show _ = _
              omega
            clear e1
            go_upto_region 17 with fail
            go_quiet (fail)
            obtain ⟨V4, hV4⟩ : ∃ y, V3.drewN nq = y := ⟨_, rfl⟩
            have y12' : V4.cell? ⟨p12, mm, none⟩ = some (.int .i64 nv) := by rw [← hV4]; exact y12
            have y14' : V4.cell? ⟨p14, mm, none⟩ = some (.int .i64 na) := by rw [← hV4]; exact y14
            have B4 : Hid (Below V1.heap.size V1 V4) := by rw [← hV4]; exact Tk.below_drewN HZ.out.2 _
            rw [hV4]
            clear hV4 y12 y14
            go_upto_region 18 with fail
            go_quiet (fail)
            obtain ⟨V5, hV5⟩ : ∃ y, V4.drewN nq = y := ⟨_, rfl⟩
            have y14'' : V5.cell? ⟨p14, mm, none⟩ = some (.int .i64 na) := by rw [← hV5]; exact y14'
            have B5 : Below V1.heap.size V1 V5 := by rw [← hV5]; exact Tk.below_drewN B4.out _
            have FN : Hid _ := fin.out V5 B5 (nv + na - nv) FNX.out
            rw [hV5]
            clear hV5 y12' y14' B5
            go_wp2
            go_roundg (gk - 1)
            case measure => omega
            case rel => exact ⟨i + 1, nv + na - nv, by omega, rfl, by go_num, FN.out⟩
        · have dm : (sm == (mm : Int)) = false := by simpa using hsm
          cases wa <;> cases is
          · have e1 := K6.out.1 rfl
            have e2 := K6.out.2 rfl
            have FN : Hid _ := fin.out V3 HZ.out.2 nv (by rw [← HZ.out.1, e1, e2])
            clear e1 e2 hsm
            go_wp2
            go_roundg (gk - 1)
            case measure => omega
            case rel => exact ⟨i + 1, nv, by omega, rfl, by go_num, FN.out⟩
          · have e1 := K5.out.1 (by simp)
            have FN : Hid _ := fin.out V3 HZ.out.2 0 (by rw [← HZ.out.1, e1])
            have da : (na != 0) = false := by simp [e1]
            clear e1 hsm
            go_wp2
            go_roundg (gk - 1)
            case measure => omega
            case rel => exact ⟨i + 1, 0, by omega, rfl, by go_num, FN.out⟩
          · have e1 := K5.out.1 (by simp)
            have FN : Hid _ := fin.out V3 HZ.out.2 0 (by rw [← HZ.out.1, e1])
            clear e1 hsm
            go_wp2
            go_roundg (gk - 1)
            case measure => omega
            case rel => exact ⟨i + 1, 0, by omega, rfl, by go_num, FN.out⟩
          · have e1 := K5.out.2.1 rfl hsm
            have FN : Hid _ := fin.out V3 HZ.out.2 nv (by rw [← HZ.out.1, e1])
            have da : (na != nv) = false := by simp [e1]
            clear e1 hsm
            go_wp2
            go_roundg (gk - 1)
            case measure => omega
            case rel => exact ⟨i + 1, nv, by omega, rfl, by go_num, FN.out⟩
      · have dk : (k != key) = true := by simpa using hkk
        have hz := K4.out.2.1 hkk
        have FN : Hid _ := fin.out V3 K4.out.1 nb hz.symm
        clear hkk hz
        go_wp2
        go_roundg (gk - 1)
        case measure => omega
        case rel => exact ⟨i + 1, nb, by omega, rfl, by go_num, FN.out⟩
    · have hd : decide ((i : Int) < n) = false := decide_eq_false (by omega)
      go_wp2_with fail
      refine Calls.mono (early.out wr HI.out.1) ?_
      rintro e W8 ⟨rfl, hb⟩
      have H8 : Hid (Below B W W8) := hb
      clear hb
      go_wp2
      go_ret
      exact ⟨rfl, H8.out⟩

end Go.Proofs.Ytdclfmmmlicaaaa.PostCounts
