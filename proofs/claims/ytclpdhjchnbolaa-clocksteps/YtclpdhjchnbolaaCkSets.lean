/-
  Set, whatever it is told; what a clock keeps to.
-/
import Derived.Test.YtclpdhjchnbolaaCkSet
namespace Go.Proofs
open Go.RowKit Go.Shelf Go.Sort

set_option maxRecDepth 20000 in
set_option maxHeartbeats 4000000 in
theorem Try.cSet_any {B c : Nat} {v : Value} {now : Int} {L : List Ck.Al} (id n : Int) (w : World) (h : Ck.At B c v now L w) (ho : Ck.Ok now L) : Calls Try.prog 18 #[.pointer (some ⟨c, 0, none⟩), .int .i64 id, .int .i64 n] w fun e w' => e = .returned (.int .i64 (Ck.setE now L id n)) ∧ ∃ v', Ck.At B c v' now (Ck.setL now L id n) w' ∧ (∀ g, v'.ownBlock = some g → v.ownBlock = some g ∨ w.heap.size ≤ g) ∧ Tk.But (fun x => x = c ∨ v.ownBlock = some x) w w' := by
  have CT : Hid (∀ (m : Int) (W : World), Calls Try.prog 28 #[.int .i64 m] W fun e w' => e = .returned (.bool (Ck.time m)) ∧ w' = W) := Try.cIsTime_any
  have H : Hid (Ck.At B c v now L w ∧ Ck.Ok now L) := ⟨h, ho⟩
  by_cases h0 : id < 0
  · have e1 : Ck.setE now L id n = 1 := by unfold Ck.setE; rw [if_pos (.inl h0)]
    have e2 : Ck.setL now L id n = L := by unfold Ck.setL; rw [e1, if_neg (by omega)]
    rw [e1, e2]
    have d : decide (id < 0) = true := decide_eq_true h0
    clear h ho h0 e1 e2
    go_enter Try.func18, Try.ntmps18
    go_wp2
    go_ret
    exact ⟨rfl, _, H.out.1, fun g hg => .inl hg, Tk.But.refl _ _⟩
  have d0 : decide (id < 0) = false := decide_eq_false h0
  cases hq : Ck.time n with
  | false =>
    have e1 : Ck.setE now L id n = 1 := by unfold Ck.setE; rw [if_pos (.inr hq)]
    have e2 : Ck.setL now L id n = L := by unfold Ck.setL; rw [e1, if_neg (by omega)]
    rw [e1, e2]
    have C1 := CT.out n w
    rw [hq] at C1
    clear h ho h0 e1 e2 hq CT
    go_enter Try.func18, Try.ntmps18
    go_wp2_with (go_at_call 28; refine Calls.mono C1 ?_; rintro e w' ⟨rfl, rfl⟩)
    go_ret
    exact ⟨rfl, _, H.out.1, fun g hg => .inl hg, Tk.But.refl _ _⟩
  | true =>
    have hor : ¬ (id < 0 ∨ Ck.time n = false) := by rw [hq]; simp; omega
    have C1 : Hid _ := CT.out n w
    rw [hq] at C1
    cases hh : Ck.has L id with
    | true =>
      have e1 : Ck.setE now L id n = 8 := by unfold Ck.setE; rw [if_neg hor, if_pos hh]
      have e2 : Ck.setL now L id n = L := by unfold Ck.setL; rw [e1, if_neg (by omega)]
      rw [e1, e2]
      have CF : Hid _ := Try.find_any id w h (by have := ho.len; omega)
      have HH : Hid (Ck.has L id = true) := hh
      clear h ho h0 e1 e2 hq CT hor hh
      go_enter Try.func18, Try.ntmps18
      go_wp2_with fail
      refine Calls.mono C1.out ?_
      rintro e W0 ⟨rfl, hW⟩
      obtain rfl := hW.symm
      clear hW
      go_wp2_with fail
      refine Calls.mono CF.out ?_
      rintro e W1 ⟨⟨r, rfl, hx⟩, hb1⟩
      obtain ⟨i, hr⟩ : ∃ i : Nat, r = i := by
        rcases hx with ⟨_, e⟩ | ⟨i, _, e, _⟩
        · have := Ck.has_no e
          rw [HH.out] at this
          cases this
        · exact ⟨i, e⟩
      subst hr
      have d1 : decide ((0 : Int) ≤ i) = true := decide_eq_true (by omega)
      have HB : Hid (Below w.heap.size w W1) := hb1
      clear hx hb1
      go_wp2
      go_ret
      exact ⟨rfl, _, H.out.1.below HB.out (Nat.le_refl _), fun g hg => .inl hg, Tk.But.of_below HB.out⟩
    | false =>
      by_cases h64 : 64 ≤ L.length
      · have e1 : Ck.setE now L id n = 5 := by unfold Ck.setE; rw [if_neg hor, if_neg (by rw [hh]; decide), if_pos h64]
        have e2 : Ck.setL now L id n = L := by unfold Ck.setL; rw [e1, if_neg (by omega)]
        rw [e1, e2]
        have CF : Hid _ := Try.find_any id w h (by have := ho.len; omega)
        have HH : Hid (Ck.has L id = false) := hh
        obtain ⟨m, hm⟩ : ∃ m, L.length = m := ⟨_, rfl⟩
        obtain ⟨va, vc, hv⟩ := h.shape
        rw [hm] at hv
        subst hv
        have dm : decide ((64 : Int) ≤ m) = true := decide_eq_true (by omega)
        have dm' : decide (64 ≤ m) = true := decide_eq_true (by omega)
        clear h ho h0 e1 e2 hq CT hor hh h64 hm
        go_enter Try.func18, Try.ntmps18
        go_wp2_with fail
        refine Calls.mono C1.out ?_
        rintro e W0 ⟨rfl, hW⟩
        obtain rfl := hW.symm
        clear hW
        go_wp2_with fail
        refine Calls.mono CF.out ?_
        rintro e W1 ⟨⟨r, rfl, hx⟩, hb1⟩
        obtain rfl : r = -1 := by
          rcases hx with ⟨e, _⟩ | ⟨i, hil, _, e⟩
          · exact e
          · have := Ck.has_yes hil e
            rw [HH.out] at this
            cases this
        have HB : Hid (Below w.heap.size w W1) := hb1
        have c1 := (H.out.1.below hb1 (Nat.le_refl _)).c1
        clear hx hb1
        go_wp2
        go_ret
        exact ⟨rfl, _, H.out.1.below HB.out (Nat.le_refl _), fun g hg => .inl hg, Tk.But.of_below HB.out⟩
      · cases ht : Ck.time (now + n) with
        | true =>
          have e1 : Ck.setE now L id n = 0 := by unfold Ck.setE; rw [if_neg hor, if_neg (by rw [hh]; decide), if_neg h64, if_neg (by rw [ht]; decide)]
          have e2 : Ck.setL now L id n = Ck.sort (L ++ [(id, now + n)]) := by unfold Ck.setL; rw [e1, if_pos rfl]
          rw [e1, e2]
          exact Try.cSet_ok id n w h ho (by omega) hq hh (by omega) ht
        | false =>
          have e1 : Ck.setE now L id n = 40 := by unfold Ck.setE; rw [if_neg hor, if_neg (by rw [hh]; decide), if_neg h64, if_pos ht]
          have e2 : Ck.setL now L id n = L := by unfold Ck.setL; rw [e1, if_neg (by omega)]
          rw [e1, e2]
          have hr := Ck.time_iff.1 hq
          have hnow := ho.now
          have hwr : IntKind.i64.wrap (now + n) = now + n := Go.IntWalk.i64_in _ (by omega)
          obtain ⟨t, hte⟩ : ∃ t, now + n = t := ⟨_, rfl⟩
          rw [hte] at ht hwr
          have CU : Hid (∀ W : World, Calls Try.prog 28 #[.int .i64 t] W fun e w' => e = .returned (.bool false) ∧ w' = W) := fun W => by have := Try.cIsTime_any t W; rw [ht] at this; exact this
          have CF : Hid _ := Try.find_any id w h (by have := ho.len; omega)
          have HH : Hid (Ck.has L id = false) := hh
          obtain ⟨m, hm⟩ : ∃ m, L.length = m := ⟨_, rfl⟩
          obtain ⟨va, vc, hv⟩ := h.shape
          rw [hm] at hv
          subst hv
          have dm : decide ((64 : Int) ≤ m) = false := decide_eq_false (by omega)
          have dm' : decide (64 ≤ m) = false := decide_eq_false (by omega)
          clear h ho h0 e1 e2 hq CT hor hh h64 hm hr hnow ht
          go_enter Try.func18, Try.ntmps18
          go_wp2_with fail
          refine Calls.mono C1.out ?_
          rintro e W0 ⟨rfl, hW⟩
          obtain rfl := hW.symm
          clear hW
          go_wp2_with fail
          refine Calls.mono CF.out ?_
          rintro e W1 ⟨⟨r, rfl, hx⟩, hb1⟩
          obtain rfl : r = -1 := by
            rcases hx with ⟨e, _⟩ | ⟨i, hil, _, e⟩
            · exact e
            · have := Ck.has_yes hil e
              rw [HH.out] at this
              cases this
          have h1 := H.out.1.below hb1 (Nat.le_refl _)
          have c1 := h1.c1
          have CN : Hid _ := Try.cNow_any c now W1 h1.c0
          have HK : Hid ((W1.alloc (.cells #[.int .i64 0, .int .i64 0] 62)).heap[W1.heap.size]? = some (.cells #[.int .i64 0, .int .i64 0] 62 (0, 0))) := heap_alloc_new W1 _
          obtain ⟨V0, hV0⟩ : ∃ z, (W1.alloc (.cells #[.int .i64 0, .int .i64 0] 62)).setRow W1.heap.size #[.int .i64 id, .int .i64 t] = z := ⟨_, rfl⟩
          have HV0 : Hid _ := hV0
          have GV : V0.heap[W1.heap.size]? = some (.cells #[.int .i64 id, .int .i64 t] 62 (0, 0)) := by show _ = _; rw [← hV0]; exact setRow_heap _ _ _ _ _ _ HK.out
          have BV : Below W1.heap.size W1 V0 := by
            rw [← hV0]
            exact ((Below.refl _ W1).alloc (Nat.le_refl _) _).trans ⟨rfl, rfl, rfl, by simp [World.setRow], fun k hk => setRow_other _ _ _ _ (by omega)⟩
          have HB : Hid (Below w.heap.size w V0) := hb1.trans (BV.mono hb1.size)
          have v1 : V0.cell? ⟨W1.heap.size, 1, none⟩ = some (.int .i64 t) := by simp [World.cell?, GV]
          clear hV0 GV BV h1 hx hb1
          go_wp2_with fail
          refine Calls.mono CN.out ?_
          rintro e W2 ⟨rfl, hW⟩
          obtain rfl := hW.symm
          clear hW
          go_upto_region 10 with (refine wpList_store_row rfl 62 _ _ rfl W1.heap.size #[.int .i64 id, .int .i64 t] rfl rfl 62 _ HK.out (by kernel_rfl) rfl (by kernel_rfl) ?_)
          rw [HV0.out]
          go_wp2_with fail
          refine Calls.mono (CU.out _) ?_
          rintro e W3 ⟨rfl, hW⟩
          obtain rfl := hW.symm
          clear hW
          go_wp2
          go_ret
          exact ⟨rfl, _, H.out.1.below HB.out (Nat.le_refl _), fun g hg => .inl hg, Tk.But.of_below HB.out⟩

theorem Ck.Ok.nil : Ck.Ok 0 [] := ⟨by omega, by simp, by simp⟩
theorem Ck.Ok.tick {now : Int} {L : List Ck.Al} (h : Ck.Ok now L) (n : Int) : Ck.Ok (Ck.tickN now n) L := by
  unfold Ck.tickN
  split
  · rename_i e
    refine ⟨?_, h.at', h.len⟩
    unfold Ck.tickE at e
    split at e
    · omega
    · split at e
      · omega
      · rename_i h2
        exact Ck.time_iff.1 (by simpa using h2)
  · exact h
theorem Ck.setE_zero {now : Int} {L : List Ck.Al} {id n : Int} (h : Ck.setE now L id n = 0) : 0 ≤ id ∧ Ck.time n = true ∧ Ck.has L id = false ∧ L.length < 64 ∧ Ck.time (now + n) = true := by
  unfold Ck.setE at h
  split at h
  · omega
  · rename_i h1
    split at h
    · omega
    · rename_i h2
      split at h
      · omega
      · rename_i h3
        split at h
        · omega
        · rename_i h4
          simp only [not_or, Bool.not_eq_false] at h1 h4
          exact ⟨by omega, h1.2, by simpa using h2, by omega, h4⟩
theorem Ck.Ok.set {now : Int} {L : List Ck.Al} (h : Ck.Ok now L) (id n : Int) : Ck.Ok now (Ck.setL now L id n) := by
  unfold Ck.setL
  split
  · rename_i e
    obtain ⟨_, _, _, h4, h5⟩ := Ck.setE_zero e
    refine ⟨h.now, fun a ha => ?_, by rw [Ck.sort_length, List.length_append]; simp; omega⟩
    have := (Ck.sort_perm _).mem_iff.1 ha
    rcases List.mem_append.1 this with h6 | h6
    · exact h.at' a h6
    · simp at h6
      subst h6
      exact Ck.time_iff.1 h5
  · exact h

end Go.Proofs
