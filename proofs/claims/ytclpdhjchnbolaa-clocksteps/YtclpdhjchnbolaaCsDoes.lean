/-
  does: a step, done by both clocks.
-/
import Derived.Test.YtclpdhjchnbolaaCsTwo
namespace Go.Proofs
open Go.RowKit Go.Shelf Go.Sort

set_option maxRecDepth 20000 in
set_option maxHeartbeats 4000000 in
theorem Try.does_drop {B c q : Nat} {now : Int} {M : List Ck.Al} (s1 s2 : Int) (w : World) (h : Cs.Two B c q now M w) : Calls Try.prog 10 #[.pointer (some ⟨c, 0, none⟩), .pointer (some ⟨q, 0, none⟩), .agg #[.int .i64 3, .int .i64 s1, .int .i64 s2]] w fun e w' => Cs.Did B c q w e w' := by
  obtain ⟨w0, hw0⟩ : ∃ x, w.alloc (.cells #[.int .i64 3, .int .i64 s1, .int .i64 s2] 31) = x := ⟨_, rfl⟩
  obtain ⟨v, u, hP⟩ := Cs.Pre.mk' h 3 s1 s2
  rw [hw0] at hP
  have P : Hid (Cs.Pre B c q v u now M 3 s1 s2 w w0) := hP
  have SB : Hid (∀ W : World, W.heap[w.heap.size]? = w0.heap[w.heap.size]? → W.cell? ⟨w.heap.size, 0, none⟩ = some (.int .i64 3) ∧ W.cell? ⟨w.heap.size, 1, none⟩ = some (.int .i64 s1) ∧ W.cell? ⟨w.heap.size, 2, none⟩ = some (.int .i64 s2)) := fun W e => by
    rw [hP.box] at e
    simp [World.cell?, e]
  obtain ⟨r, hr⟩ : ∃ r : Int, (if Ck.has M s1 = true then 0 else 6) = r := ⟨_, rfl⟩
  have CA : Hid (∀ W : World, W.heap = w0.heap → W.os = w0.os → W.tape = w0.tape → W.output = w0.output → Calls Try.prog 21 #[.pointer (some ⟨c, 0, none⟩), .int .i64 s1] W fun e w' => e = .returned (.int .i64 r) ∧ Tk.But (fun x => x = c ∨ v.ownBlock = some x) w0 w' ∧ ∃ v' L', Ck.At B c v' now L' w' ∧ ((Ck.has (Ck.sort M) s1 = false ∧ L' = Ck.sort M) ∨ ∃ i : Nat, ∃ h : i < (Ck.sort M).length, (Ck.sort M)[i].1 = s1 ∧ L' = (Ck.sort M).take i ++ (Ck.sort M).drop (i + 1))) := fun W e1 e2 e3 e4 => by
    refine Calls.mono (Try.cDrop_any s1 W (hP.a.keep (by rw [e1]) (fun b _ => by rw [e1])) (Cs.ok_sort hP.ok)) fun e w' ⟨v', L', h1, h2, h3, _, h4⟩ => ?_
    rw [Cs.has_sort, hr] at h1
    exact ⟨h1, ⟨h4.os.trans e2, h4.tape.trans e3, h4.output.trans e4, by rw [← e1]; exact h4.size, fun k hk he => by rw [← e1]; exact h4.block k (by rw [e1]; exact hk) he⟩, v', L', h2, h3⟩
  have HW0 : Hid (w.alloc (.cells #[.int .i64 3, .int .i64 s1, .int .i64 s2] 31) = w0) := hw0
  have HR : Hid ((if Ck.has M s1 = true then 0 else 6) = r) := hr
  have e0 : w0.cell? ⟨w.heap.size, 0, none⟩ = some (.int .i64 3) := (SB.out w0 rfl).1
  clear h hP hw0 hr
  go_enter Try.func10, Try.ntmps10
  go_upto_region 1 with fail
  rw [HW0.out]
  go_upto_region 7 with fail
  clear HW0
  go_region_held3 (fun W => W.cell? ⟨w.heap.size, 1, none⟩ = some (.int .i64 s1))
    (first | exact (SB.out _ (P.out.box2 K1.out.1 K2.out.1)).2.1 | exact (SB.out _ (P.out.box1 K1.out.1)).2.1 | exact (SB.out _ rfl).2.1)
    (first
    | (go_simp; go_at_call 21; refine Calls.mono (CA.out _ rfl rfl rfl rfl) ?_; rintro e W1 ⟨rfl, hb1, v1, L1, ha1, hl1⟩; have K1 : Hid (Tk.But (fun x => x = c ∨ v.ownBlock = some x) w0 W1 ∧ Ck.At B c v1 now L1 W1 ∧ ((Ck.has (Ck.sort M) s1 = false ∧ L1 = Ck.sort M) ∨ ∃ i : Nat, ∃ h : i < (Ck.sort M).length, (Ck.sort M)[i].1 = s1 ∧ L1 = (Ck.sort M).take i ++ (Ck.sort M).drop (i + 1))) := ⟨hb1, ha1, hl1⟩; clear hb1 ha1 hl1)
    | (go_simp; go_at_call 23; refine Calls.mono (Try.rDrop_any s1 _ (Cs.stepA P.out.a P.out.b K1.out.1) P.out.ok) ?_; rintro e W2 ⟨u2, M2, rfl, hb2, hm2, -, hc2⟩; have K2 : Hid (Tk.But (fun x => x = q ∨ u.ownBlock = some x) W1 W2 ∧ Cd.At B q u2 now M2 W2 ∧ ((Ck.has M s1 = false ∧ M2 = M) ∨ ∃ i : Nat, ∃ h : i < M.length, M[i].1 = s1 ∧ M2 = M.take i ++ M.drop (i + 1))) := ⟨hc2, hb2, hm2⟩; rw [HR.out]; clear hc2 hb2 hm2))
  go_simp
  go_wp2
  go_ret
  obtain ⟨e1, e2, e3⟩ := Cs.dropped P.out.ap K1.out.2.2 K2.out.2.2
  have a1 := K1.out.2.1
  rw [e1] at a1
  refine P.out.done K1.out.1 a1 K2.out.1 K2.out.2.1 e2 (Cs.drop_ok P.out.ok ?_ e3)
  rcases K2.out.2.2 with ⟨_, e⟩ | ⟨i, hi, _, e⟩
  · rw [e]
    exact Nat.le_refl _
  · rw [e, List.length_append, List.length_take, List.length_drop]
    omega

set_option maxRecDepth 20000 in
set_option maxHeartbeats 4000000 in
theorem Try.does_tick {B c q : Nat} {now : Int} {M : List Ck.Al} (s0 s1 s2 : Int) (hs : s0 = 4 ∨ s0 = 5) (w : World) (h : Cs.Two B c q now M w) : Calls Try.prog 10 #[.pointer (some ⟨c, 0, none⟩), .pointer (some ⟨q, 0, none⟩), .agg #[.int .i64 s0, .int .i64 s1, .int .i64 s2]] w fun e w' => Cs.Did B c q w e w' := by
  obtain ⟨w0, hw0⟩ : ∃ x, w.alloc (.cells #[.int .i64 s0, .int .i64 s1, .int .i64 s2] 31) = x := ⟨_, rfl⟩
  obtain ⟨v, u, hP⟩ := Cs.Pre.mk' h s0 s1 s2
  rw [hw0] at hP
  have P : Hid (Cs.Pre B c q v u now M s0 s1 s2 w w0) := hP
  have SB : Hid (∀ W : World, W.heap[w.heap.size]? = w0.heap[w.heap.size]? → W.cell? ⟨w.heap.size, 0, none⟩ = some (.int .i64 s0) ∧ W.cell? ⟨w.heap.size, 1, none⟩ = some (.int .i64 s1) ∧ W.cell? ⟨w.heap.size, 2, none⟩ = some (.int .i64 s2)) := fun W e => by
    rw [hP.box] at e
    simp [World.cell?, e]
  obtain ⟨r, hr⟩ : ∃ r : Int, Ck.tickE now s2 = r := ⟨_, rfl⟩
  have CA : Hid (∀ W : World, W.heap = w0.heap → W.os = w0.os → W.tape = w0.tape → W.output = w0.output → Calls Try.prog 19 #[.pointer (some ⟨c, 0, none⟩), .int .i64 s2] W fun e w' => e = .returned (.int .i64 r) ∧ Tk.But (fun x => x = c ∨ v.ownBlock = some x) w0 w' ∧ Ck.At B c v (Ck.tickN now s2) (Ck.sort M) w') := fun W e1 e2 e3 e4 => by
    refine Calls.mono (Try.cTick_any s2 W (hP.a.keep (by rw [e1]) (fun b _ => by rw [e1])) (Cs.ok_sort hP.ok)) fun e w' ⟨h1, h2, h4⟩ => ?_
    rw [hr] at h1
    exact ⟨h1, ⟨h4.os.trans e2, h4.tape.trans e3, h4.output.trans e4, by rw [← e1]; exact h4.size, fun k hk he => by rw [← e1]; exact h4.block k (by rw [e1]; exact hk) (fun e => he (.inl e))⟩, h2⟩
  have HW0 : Hid (w.alloc (.cells #[.int .i64 s0, .int .i64 s1, .int .i64 s2] 31) = w0) := hw0
  have HR : Hid (Ck.tickE now s2 = r) := hr
  have e0 : w0.cell? ⟨w.heap.size, 0, none⟩ = some (.int .i64 s0) := (SB.out w0 rfl).1
  clear h hP hw0 hr
  rcases hs with rfl | rfl
  all_goals
    go_enter Try.func10, Try.ntmps10
    go_upto_region 1 with fail
    rw [HW0.out]
    go_upto_region 10 with fail
    clear HW0
    go_region_held3 (fun W => W.cell? ⟨w.heap.size, 2, none⟩ = some (.int .i64 s2))
      (first | exact (SB.out _ (P.out.box2 K1.out.1 K2.out.1)).2.2 | exact (SB.out _ (P.out.box1 K1.out.1)).2.2 | exact (SB.out _ rfl).2.2)
      (first
      | (go_simp; go_at_call 19; refine Calls.mono (CA.out _ rfl rfl rfl rfl) ?_; rintro e W1 ⟨rfl, hb1, ha1⟩; have K1 : Hid (Tk.But (fun x => x = c ∨ v.ownBlock = some x) w0 W1 ∧ Ck.At B c v (Ck.tickN now s2) (Ck.sort M) W1) := ⟨hb1, ha1⟩; clear hb1 ha1)
      | (go_simp; go_at_call 24; refine Calls.mono (Try.rTick_any s2 _ (Cs.stepA P.out.a P.out.b K1.out.1) P.out.ok) ?_; rintro e W2 ⟨rfl, hb2, hc2⟩; have K2 : Hid (Tk.But (fun x => x = q ∨ u.ownBlock = some x) W1 W2 ∧ Cd.At B q u (Ck.tickN now s2) M W2) := ⟨Cs.But.row hc2, hb2⟩; rw [HR.out]; clear hc2 hb2))
    go_simp
    go_wp2
    go_ret
    exact P.out.done K1.out.1 K1.out.2 K2.out.1 K2.out.2 P.out.ap (P.out.ok.tick s2)

set_option maxRecDepth 20000 in
set_option maxHeartbeats 4000000 in
theorem Try.does_look {B c q : Nat} {now : Int} {M : List Ck.Al} (s0 s1 s2 : Int) (hs : ¬ (s0 = 0 ∨ s0 = 1 ∨ s0 = 2 ∨ s0 = 3 ∨ s0 = 4 ∨ s0 = 5)) (w : World) (h : Cs.Two B c q now M w) : Calls Try.prog 10 #[.pointer (some ⟨c, 0, none⟩), .pointer (some ⟨q, 0, none⟩), .agg #[.int .i64 s0, .int .i64 s1, .int .i64 s2]] w fun e w' => Cs.Did B c q w e w' := by
  have e0 : (s0 == 0) = false := by simp; omega
  have e1 : (s0 == 1) = false := by simp; omega
  have e2 : (s0 == 2) = false := by simp; omega
  have e3 : (s0 == 3) = false := by simp; omega
  have e4 : (s0 == 4) = false := by simp; omega
  have e5 : (s0 == 5) = false := by simp; omega
  have H : Hid (Cs.Two B c q now M w) := h
  clear hs h
  go_enter Try.func10, Try.ntmps10
  go_wp2
  go_ret
  have b : Below w.heap.size w (w.alloc (.cells #[.int .i64 s0, .int .i64 s1, .int .i64 s2] 31)) := (Below.refl _ w).alloc (Nat.le_refl _) _
  exact ⟨rfl, b.mono H.out.low, now, M, H.out.below b⟩

theorem Try.does_any {B c q : Nat} {now : Int} {M : List Ck.Al} (s0 s1 s2 : Int) (w : World) (h : Cs.Two B c q now M w) : Calls Try.prog 10 #[.pointer (some ⟨c, 0, none⟩), .pointer (some ⟨q, 0, none⟩), .agg #[.int .i64 s0, .int .i64 s1, .int .i64 s2]] w fun e w' => Cs.Did B c q w e w' := by
  by_cases h1 : s0 = 0 ∨ s0 = 1 ∨ s0 = 2
  · exact Try.does_set s0 s1 s2 h1 w h
  · by_cases h2 : s0 = 3
    · subst h2
      exact Try.does_drop s1 s2 w h
    · by_cases h3 : s0 = 4 ∨ s0 = 5
      · exact Try.does_tick s0 s1 s2 h3 w h
      · exact Try.does_look s0 s1 s2 (by omega) w h

end Go.Proofs
