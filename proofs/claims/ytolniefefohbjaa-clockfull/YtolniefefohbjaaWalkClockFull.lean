/-
  The walk of ClockFull.
-/
import Derived.Test.YtolniefefohbjaaCkTwo
namespace Go.Proofs.Ytolniefefohbjaa.ClockFull
open Go.RowKit Go.Shelf

/-- The alarms behind i rounds. -/
structure In (i : Nat) (L : List Ck.Al) : Prop where
  ok : Ck.Ok 0 L
  len : L.length = min i 64
  mem : ∀ a ∈ L, 0 ≤ a.1 ∧ a.1 < i ∧ a.2 ≤ 100
  one : 0 < i → Ck.has L 0 = true

theorem In.no {i : Nat} {L : List Ck.Al} (h : In i L) : Ck.has L i = false := Ck.has_no fun a ha e => by have := (h.mem a ha).2.1; omega
theorem In.e {i : Nat} {L : List Ck.Al} (h : In i L) (hi : i ≤ 99) : Ck.setE 0 L i (100 - i) = if 63 < i then 5 else 0 := by
  have t1 : Ck.time (100 - (i : Int)) = true := Ck.time_iff.2 (by omega)
  unfold Ck.setE
  rw [if_neg (by rw [t1]; simp), if_neg (by rw [h.no]; decide)]
  have := h.len
  by_cases h1 : 63 < i
  · rw [if_pos (by omega), if_pos h1]
  · rw [if_neg (by omega), if_neg (by rw [Int.zero_add, t1]; decide), if_neg h1]
theorem Ck.has_mem {L : List Ck.Al} {id : Int} : Ck.has L id = true ↔ ∃ a ∈ L, a.1 = id := by simp [Ck.has]
theorem In.next {i : Nat} {L : List Ck.Al} (h : In i L) (hi : i ≤ 99) : In (i + 1) (Ck.setL 0 L i (100 - i)) := by
  have he := h.e hi
  have ho := h.ok.set i (100 - i)
  have hl := h.len
  by_cases h1 : 63 < i
  · rw [if_pos h1] at he
    have e2 : Ck.setL 0 L i (100 - i) = L := by unfold Ck.setL; rw [he, if_neg (by omega)]
    rw [e2]
    exact ⟨h.ok, by omega, fun a ha => by have := h.mem a ha; omega, fun _ => h.one (by omega)⟩
  · rw [if_neg h1] at he
    have e2 : Ck.setL 0 L i (100 - i) = Ck.sort (L ++ [((i : Int), 0 + (100 - (i : Int)))]) := by unfold Ck.setL; rw [he, if_pos rfl]
    refine ⟨ho, by rw [e2, Ck.sort_length, List.length_append, hl]; simp; omega, fun a ha => ?_, fun _ => ?_⟩
    · rw [e2] at ha
      rcases List.mem_append.1 ((Ck.sort_perm _).mem_iff.1 ha) with h6 | h6
      · have := h.mem a h6
        omega
      · simp at h6
        subst h6
        simp only
        omega
    · rw [Ck.has_mem, e2]
      rcases Nat.eq_zero_or_pos i with rfl | hp
      · exact ⟨_, (Ck.sort_perm _).mem_iff.2 (List.mem_append_right _ (List.mem_singleton.2 rfl)), rfl⟩
      · obtain ⟨a, ha, e⟩ := Ck.has_mem.1 (h.one hp)
        exact ⟨a, (Ck.sort_perm _).mem_iff.2 (List.mem_append_left _ ha), e⟩
theorem due_all {L : List Ck.Al} (h : ∀ a ∈ L, a.2 ≤ 100) : (Ck.due 100 L).length = L.length := by
  unfold Ck.due
  rw [List.length_map, List.filter_eq_self.2]
  intro a ha
  have := h a ha
  simp [Ck.left]
  omega

set_option maxRecDepth 20000 in
set_option maxHeartbeats 4000000 in
theorem walk (n : Int) (w : World) : Calls Try.prog 6 #[.int .i64 n] w fun e w' => e = .returned (.bool true) ∧ Below w.heap.size w w' := by
  have CN : Hid _ := Try.cNew_any w
  obtain ⟨c, hc⟩ : ∃ c, w.heap.size = c := ⟨_, rfl⟩
  rw [hc] at CN
  have HC : Hid (w.heap.size = c) := hc
  have C2 : Hid (∀ W : World, Calls Try.prog 9 #[] W fun e w' => e = .returned (.bool true) ∧ Below W.heap.size W w') := Try.two_any
  by_cases hr : n < 0 ∨ 100 < n
  · have fin : ∀ (W1 W2 : World), Below c w W1 → Below W1.heap.size W1 W2 → Below w.heap.size w W2 := fun W1 W2 h1 h2 => by rw [hc]; exact h1.trans (h2.mono (hc ▸ h1.size))
    have HF : Hid _ := fin
    by_cases h1 : n < 0
    · have d1 : decide (n < 0) = true := decide_eq_true h1
      clear hr h1 fin hc
      go_enter Try.func6, Try.ntmps6
      go_wp2_with fail
      refine Calls.mono CN.out ?_
      rintro e W1 ⟨rfl, hb1, -⟩
      go_wp2_with fail
      refine Calls.mono (C2.out _) ?_
      rintro e W2 ⟨rfl, hb2⟩
      go_wp2
      go_ret
      exact ⟨rfl, HF.out _ _ hb1 hb2⟩
    · have d1 : decide (n < 0) = false := decide_eq_false h1
      have d2 : decide (100 < n) = true := decide_eq_true (by omega)
      clear hr h1 fin hc
      go_enter Try.func6, Try.ntmps6
      go_wp2_with fail
      refine Calls.mono CN.out ?_
      rintro e W1 ⟨rfl, hb1, -⟩
      go_wp2_with fail
      refine Calls.mono (C2.out _) ?_
      rintro e W2 ⟨rfl, hb2⟩
      go_wp2
      go_ret
      exact ⟨rfl, HF.out _ _ hb1 hb2⟩
  have d1 : decide (n < 0) = false := decide_eq_false (by omega)
  have d2 : decide (100 < n) = false := decide_eq_false (by omega)
  obtain ⟨N, hN⟩ : ∃ N : Nat, n = N := ⟨n.toNat, by omega⟩
  have hN100 : N ≤ 100 := by omega
  clear hr hc
  go_enter Try.func6, Try.ntmps6
  go_wp2_with fail
  refine Calls.mono CN.out ?_
  rintro e W1 ⟨rfl, hb1, h1⟩
  have H1 : Hid (Below c w W1 ∧ Ck.At c c (.slice none 0 0) 0 [] W1) := ⟨hb1, h1⟩
  clear hb1 h1 CN
  go_wp2
  go_loopg [4, 5] N (fun gk s4 _ wr => ∃ (i : Nat) (L : List Ck.Al) (v : Value), gk + i = N ∧ s4 = .int .i64 i ∧ Hid (In i L ∧ Ck.At c c v 0 L wr ∧ Below c w wr))
  case atStart => exact ⟨0, [], .slice none 0 0, by omega, rfl, ⟨⟨Ck.Ok.nil, rfl, by simp, fun h => absurd h (by omega)⟩, H1.out.2, H1.out.1⟩⟩
  case round =>
    obtain ⟨i, L, v, hi, rfl, HB⟩ := hrel
    by_cases hlt : i < N
    · have dl : decide ((i : Int) < n) = true := decide_eq_true (by omega)
      have hwr : IntKind.i64.wrap (100 - (i : Int)) = 100 - i := Go.IntWalk.i64_in _ (by omega)
      have CS := Try.cSet_any (i : Int) (100 - (i : Int)) wr HB.out.2.1 HB.out.1.ok
      rw [HB.out.1.e (by omega)] at CS
      have HN : Hid (In (i + 1) (Ck.setL 0 L i (100 - i))) := HB.out.1.next (by omega)
      by_cases h63 : 63 < i
      · rw [if_pos h63] at CS
        have HS : Hid _ := CS
        have d3 : decide (63 < (i : Int)) = true := decide_eq_true (by omega)
        have d3' : decide (63 < i) = true := decide_eq_true h63
        clear CS h63
        go_wp2_with fail
        refine Calls.mono HS.out ?_
        rintro e W2 ⟨rfl, v2, h2, hg2, hb2⟩
        have K : Hid (In (i + 1) (Ck.setL 0 L i (100 - i)) ∧ Ck.At c c v2 0 (Ck.setL 0 L i (100 - i)) W2 ∧ Below c w W2) := ⟨HN.out, h2, HB.out.2.2.trans (HB.out.2.1.belowB hb2)⟩
        clear h2 hg2 hb2
        go_wp2
        go_roundg (gk - 1)
        case measure => omega
        case rel => exact ⟨i + 1, _, v2, by omega, by go_num, K.out⟩
      · rw [if_neg h63] at CS
        have HS : Hid _ := CS
        have d3 : decide (63 < (i : Int)) = false := decide_eq_false (by omega)
        have d3' : decide (63 < i) = false := decide_eq_false h63
        clear CS h63
        go_wp2_with fail
        refine Calls.mono HS.out ?_
        rintro e W2 ⟨rfl, v2, h2, hg2, hb2⟩
        have K : Hid (In (i + 1) (Ck.setL 0 L i (100 - i)) ∧ Ck.At c c v2 0 (Ck.setL 0 L i (100 - i)) W2 ∧ Below c w W2) := ⟨HN.out, h2, HB.out.2.2.trans (HB.out.2.1.belowB hb2)⟩
        clear h2 hg2 hb2
        go_wp2
        go_roundg (gk - 1)
        case measure => omega
        case rel => exact ⟨i + 1, _, v2, by omega, by go_num, K.out⟩
    · have dl : decide ((i : Int) < n) = false := decide_eq_false (by omega)
      have hiN : i = N := by omega
      have CS := Try.cSet_any 0 5 wr HB.out.2.1 HB.out.1.ok
      obtain ⟨r, hr⟩ : ∃ r, Ck.setE 0 L 0 5 = r := ⟨_, rfl⟩
      obtain ⟨L2, hL2⟩ : ∃ r, Ck.setL 0 L 0 5 = r := ⟨_, rfl⟩
      have ok2 : Ck.Ok 0 L2 := by rw [← hL2]; exact HB.out.1.ok.set 0 5
      rw [hr, hL2] at CS
      have HS : Hid _ := CS
      have key : (r == 0) = decide (N = 0) ∧ (∀ a ∈ L2, a.2 ≤ 100) ∧ L2.length = if N = 0 then 1 else min N 64 := by
        by_cases h0 : N = 0
        · have hl := HB.out.1.len
          have hLn : L = [] := List.eq_nil_of_length_eq_zero (by omega)
          subst hLn
          have e1 : Ck.setE 0 [] 0 5 = 0 := by decide
          have e2 : Ck.setL 0 [] 0 5 = Ck.sort [(0, 5)] := by unfold Ck.setL; rw [e1, if_pos rfl]; rfl
          have e3 : Ck.sort [(0, 5)] = [(0, 5)] := Ck.sort_eq (List.Perm.refl _) (by simp)
          rw [← hr, ← hL2, e1, e2, e3, if_pos h0]
          simp [h0]
        · have e1 : Ck.setE 0 L 0 5 = 8 := by
            unfold Ck.setE
            rw [if_neg (by decide), if_pos (HB.out.1.one (by omega))]
          have e2 : Ck.setL 0 L 0 5 = L := by unfold Ck.setL; rw [e1, if_neg (by omega)]
          rw [← hr, ← hL2, e1, e2, if_neg h0]
          refine ⟨by simp [h0], fun a ha => (HB.out.1.mem a ha).2.2, by rw [HB.out.1.len, hiN]⟩
      obtain ⟨D, hD⟩ : ∃ D, Ck.due 100 L2 = D := ⟨_, rfl⟩
      obtain ⟨m, hm⟩ : ∃ m, D.length = m := ⟨_, rfl⟩
      have hm2 : m = if N = 0 then 1 else min N 64 := by rw [← hm, ← hD, due_all key.2.1, key.2.2]
      have ok3 : Hid (Ck.Ok 100 L2) := ok2.tick 100
      have HD : Hid (Ck.due 100 L2 = D ∧ D.length = m) := ⟨hD, hm⟩
      have OK2 : Hid (Ck.Ok 0 L2) := ok2
      have f1 := key.1
      clear CS hr hL2 key hD hm hiN ok2
      subst hN
      by_cases h0 : N = 0
      · subst h0
        rw [if_pos rfl] at hm2
        subst hm2
        have f2 : (r == 0) = true := by rw [f1]; rfl
        clear f1
        go_wp2_with fail
        refine Calls.mono HS.out ?_
        rintro e W2 ⟨rfl, v2, h2, hg2, hb2⟩
        have CT : Hid _ := Try.cTick_any 100 W2 h2 OK2.out
        have K2 : Hid (Ck.At c c v2 0 L2 W2 ∧ Below c w W2) := ⟨h2, HB.out.2.2.trans (HB.out.2.1.belowB hb2)⟩
        clear h2 hg2 hb2
        go_wp2_with fail
        refine Calls.mono CT.out ?_
        rintro e W3 ⟨rfl, h3, hb3⟩
        have CD := Try.cDue_any (now := 100) W3 h3 ok3.out
        rw [HD.out.1, HD.out.2] at CD
        have HDU : Hid _ := CD
        have K3 : Hid (Below c w W3) := K2.out.2.trans (K2.out.1.belowT hb3)
        clear h3 hb3 CD
        go_wp2_with fail
        refine Calls.mono HDU.out ?_
        rintro e W4 ⟨u, rfl, own, hb4⟩
        obtain ⟨ua, uc, rfl⟩ := Ck.own_shape own
        have K4 : Hid (Below c w W4) := K3.out.trans (hb4.mono (HC.out ▸ K3.out.size))
        clear own hb4
        go_wp2_with fail
        refine Calls.mono (C2.out _) ?_
        rintro e W5 ⟨rfl, hb5⟩
        go_wp2
        go_ret
        refine ⟨rfl, ?_⟩
        rw [HC.out]
        exact K4.out.trans (hb5.mono (HC.out ▸ K4.out.size))
      · rw [if_neg h0] at hm2
        have f2 : (r == 0) = false := by rw [f1]; exact decide_eq_false h0
        have g1 : ((N : Int) == 0) = false := by simp; omega
        have g2 : decide (0 < (N : Int)) = true := decide_eq_true (by omega)
        have g2' : decide (0 < N) = true := decide_eq_true (by omega)
        have g3 : ((m : Int) == min (N : Int) 64) = true := by rw [hm2]; simp; omega
        have g4 : 0 < N := by omega
        clear f1 h0 hm2
        go_wp2_with fail
        refine Calls.mono HS.out ?_
        rintro e W2 ⟨rfl, v2, h2, hg2, hb2⟩
        have CT : Hid _ := Try.cTick_any 100 W2 h2 OK2.out
        have K2 : Hid (Ck.At c c v2 0 L2 W2 ∧ Below c w W2) := ⟨h2, HB.out.2.2.trans (HB.out.2.1.belowB hb2)⟩
        clear h2 hg2 hb2
        go_wp2_with fail
        refine Calls.mono CT.out ?_
        rintro e W3 ⟨rfl, h3, hb3⟩
        have CD := Try.cDue_any (now := 100) W3 h3 ok3.out
        rw [HD.out.1, HD.out.2] at CD
        have HDU : Hid _ := CD
        have K3 : Hid (Below c w W3) := K2.out.2.trans (K2.out.1.belowT hb3)
        clear h3 hb3 CD
        go_wp2_with fail
        refine Calls.mono HDU.out ?_
        rintro e W4 ⟨u, rfl, own, hb4⟩
        obtain ⟨ua, uc, rfl⟩ := Ck.own_shape own
        have K4 : Hid (Below c w W4) := K3.out.trans (hb4.mono (HC.out ▸ K3.out.size))
        clear own hb4
        go_wp2_with fail
        refine Calls.mono (C2.out _) ?_
        rintro e W5 ⟨rfl, hb5⟩
        go_wp2
        go_ret
        refine ⟨rfl, ?_⟩
        rw [HC.out]
        exact K4.out.trans (hb5.mono (HC.out ▸ K4.out.size))

end Go.Proofs.Ytolniefefohbjaa.ClockFull
