/-
  The walk of ClockOrder.
-/
import Derived.Test.YtolniefefohbjaaCkPair
import Derived.Test.YtolniefefohbjaaCkArg
namespace Go.Proofs.Ytolniefefohbjaa.ClockOrder
open Go.RowKit Go.Shelf

/-- Steps whose ids and times are right. -/
def good (s : Ck.Stp) : Bool := decide (0 ≤ s.2.1) && Ck.time s.2.2
def als (l : List Ck.Stp) : List Ck.Al := (l.filter good).map fun s => (s.2.1, s.2.2)
theorem als_snoc (l : List Ck.Stp) (s : Ck.Stp) : als (l ++ [s]) = als l ++ (if good s = true then [(s.2.1, s.2.2)] else []) := by
  unfold als
  rw [List.filter_append, List.map_append]
  congr 1
  cases h : good s <;> simp [h]
theorem als_length (l : List Ck.Stp) : (als l).length ≤ l.length := by
  unfold als
  rw [List.length_map]
  exact List.length_filter_le _ _
theorem als_mem {l : List Ck.Stp} {a : Ck.Al} (h : a ∈ als l) : ∃ s ∈ l, s.2.1 = a.1 := by
  unfold als at h
  obtain ⟨s, hs, rfl⟩ := List.mem_map.1 h
  exact ⟨s, (List.mem_filter.1 hs).1, rfl⟩
theorem sort_sort (L : List Ck.Al) (a : Ck.Al) : Ck.sort (Ck.sort L ++ [a]) = Ck.sort (L ++ [a]) :=
  Ck.sort_eq ((Ck.sort_perm _).trans ((Ck.sort_perm L).symm.append_right [a])) (Ck.sort_pair _)
/-- An alarm more: steps l with distinct ids so far, then s of another id. -/
theorem set_next (l : List Ck.Stp) (s : Ck.Stp) (hs : ∀ t ∈ l, t.2.1 ≠ s.2.1) (hl : l.length < 64) : Ck.setL 0 (Ck.sort (als l)) s.2.1 s.2.2 = Ck.sort (als (l ++ [s])) := by
  have hno : Ck.has (Ck.sort (als l)) s.2.1 = false := Ck.has_no fun a ha e => by
    obtain ⟨t, ht, e2⟩ := als_mem ((Ck.sort_perm _).mem_iff.1 ha)
    exact hs t ht (e2.trans e)
  have hln : ¬ 64 ≤ (Ck.sort (als l)).length := by rw [Ck.sort_length]; have := als_length l; omega
  rw [als_snoc]
  cases hg : good s with
  | true =>
    have hg' := hg
    unfold good at hg'
    simp only [Bool.and_eq_true, decide_eq_true_eq] at hg'
    have e : Ck.setE 0 (Ck.sort (als l)) s.2.1 s.2.2 = 0 := by
      unfold Ck.setE
      rw [if_neg (by rw [hg'.2]; simp; omega), if_neg (by rw [hno]; decide), if_neg hln, if_neg (by rw [Int.zero_add, hg'.2]; decide)]
    unfold Ck.setL
    rw [if_pos e, if_pos rfl, Int.zero_add, sort_sort]
  | false =>
    have hg' := hg
    unfold good at hg'
    simp only [Bool.and_eq_false_iff, decide_eq_false_iff_not] at hg'
    have e : Ck.setE 0 (Ck.sort (als l)) s.2.1 s.2.2 = 1 := by
      unfold Ck.setE
      rw [if_pos (by rcases hg' with h | h; exact .inl (by omega); exact .inr h)]
    unfold Ck.setL
    rw [if_neg (by omega), if_neg (by decide), List.append_nil]
theorem als_reverse (l : List Ck.Stp) : Ck.sort (als l.reverse) = Ck.sort (als l) := by
  refine Ck.sort_eq ((Ck.sort_perm _).trans ?_) (Ck.sort_pair _)
  unfold als
  exact ((List.reverse_perm l).filter _).map _ |>.symm
/-- Are all ids of the first k apart? -/
def apart (l : List Ck.Stp) (k : Nat) : Prop := ∀ (i j : Nat) (hi : i < l.length) (hj : j < l.length), j < i → i < k → l[i].2.1 ≠ l[j].2.1

set_option maxRecDepth 20000 in
set_option maxHeartbeats 8000000 in
theorem walk (a : Option Addr) (cp : Nat) (l : List Ck.Stp) (n : Int) (w : World) (hS : Ck.Sts w w.heap.size a l) (hcp : l.length ≤ cp) : Calls Try.prog 4 #[.slice a l.length cp, .int .i64 n] w fun e w' => e = .returned (.bool true) ∧ Below w.heap.size w w' := by
  have CN : Hid _ := Try.cNew_any w
  obtain ⟨c, hc⟩ : ∃ c, w.heap.size = c := ⟨_, rfl⟩
  rw [hc] at CN hS
  have HC : Hid (w.heap.size = c) := hc
  have C2 : Hid (∀ W : World, Calls Try.prog 9 #[] W fun e w' => e = .returned (.bool true) ∧ Below W.heap.size W w') := Try.two_any
  obtain ⟨N, hN⟩ : ∃ n, l.length = n := ⟨_, rfl⟩
  have HL : Hid (Ck.Sts w c a l ∧ l.length = N) := ⟨hS, hN⟩
  rw [hN] at hcp ⊢
  have HF : Hid (∀ (W1 W2 : World), Below c w W1 → Below W1.heap.size W1 W2 → Below w.heap.size w W2) := fun W1 W2 h1 h2 => by rw [hc]; exact h1.trans (h2.mono (hc ▸ h1.size))
  by_cases hr : 40 < N
  · have d0 : decide (40 < (N : Int)) = true := decide_eq_true (by omega)
    have d0' : decide (40 < N) = true := decide_eq_true hr
    clear hr hN hS hc
    go_enter Try.func4, Try.ntmps4
    go_wp2_with fail
    refine Calls.mono CN.out ?_
    rintro e W1 ⟨rfl, hb1, -⟩
    have CM : Hid _ := Try.cNew_any W1
    go_wp2_with fail
    refine Calls.mono CM.out ?_
    rintro e W2 ⟨rfl, hb2, -⟩
    have HB2 : Hid (Below c w W2) := hb1.trans (hb2.mono (HC.out ▸ hb1.size))
    clear hb1 hb2
    go_wp2_with fail
    refine Calls.mono (C2.out _) ?_
    rintro e W3 ⟨rfl, hb3⟩
    go_wp2
    go_ret
    exact ⟨rfl, HF.out _ _ HB2.out hb3⟩
  have d0 : decide (40 < (N : Int)) = false := decide_eq_false (by omega)
  have d0' : decide (40 < N) = false := decide_eq_false hr
  have hN40 : N ≤ 40 := by omega
  clear hr hN hS hc
  go_enter Try.func4, Try.ntmps4
  go_wp2_with fail
  refine Calls.mono CN.out ?_
  rintro e W1 ⟨rfl, hb1, h1⟩
  have CM : Hid _ := Try.cNew_any W1
  obtain ⟨d, hd⟩ : ∃ d, W1.heap.size = d := ⟨_, rfl⟩
  rw [hd] at CM
  have H1 : Hid (Below c w W1 ∧ Ck.At c c (.slice none 0 0) 0 [] W1 ∧ W1.heap.size = d) := ⟨hb1, h1, hd⟩
  clear hb1 h1 CN hd
  go_wp2_with fail
  refine Calls.mono CM.out ?_
  rintro e W2 ⟨rfl, hb2, h2⟩
  have hcd : c ≤ d := by have := H1.out.1.size; have := H1.out.2.2; have := HC.out; omega
  have P2 : Hid (Below c w W2 ∧ Ck.Pair c c d (.slice none 0 0) (.slice none 0 0) 0 0 [] [] W2) := by
    refine ⟨H1.out.1.trans (hb2.mono hcd), H1.out.2.1.below hb2 (by rw [H1.out.2.2]; exact Nat.le_refl _), h2.wider hcd, fun e => ?_, fun g e => by cases e⟩
    have := H1.out.2.1.lt
    have := H1.out.2.2
    omega
  clear hb2 h2 CM H1
  go_wp2
  go_loopg [7, 8, 42] N (fun gk _ _ s42 wr => ∃ k : Nat, gk + k = N ∧ s42 = .int .i64 k ∧ Hid (apart l k ∧ Below c w wr ∧ Below W2.heap.size W2 wr))
  case atStart => exact ⟨0, by omega, rfl, ⟨fun i j _ _ _ h => absurd h (by omega), P2.out.1, Below.refl _ _⟩⟩
  case round =>
    obtain ⟨k, hk, rfl, HB⟩ := hrel
    by_cases hlt : k < N
    · have dl : decide ((k : Int) < N) = true := decide_eq_true (by omega)
      have hkl : k < l.length := by rw [HL.out.2]; exact hlt
      obtain ⟨g, off, rfl, hg, x0, x1, x2, -⟩ := HL.out.1 k hkl
      rw [← HB.out.2.1.cell (p := ⟨g, off + k * 3, none⟩) hg] at x0
      rw [← HB.out.2.1.cell (p := ⟨g, off + k * 3 + 1, none⟩) hg] at x1
      rw [← HB.out.2.1.cell (p := ⟨g, off + k * 3 + 2, none⟩) hg] at x2
      obtain ⟨⟨s0, s1, s2⟩, hse⟩ : ∃ s, l[k] = s := ⟨_, rfl⟩
      rw [hse] at x0 x1 x2
      simp only at x0 x1 x2
      have HSE : Hid (∃ h : k < l.length, l[k].2.1 = s1) := ⟨hkl, by rw [hse]⟩
      have hk0 : (0 : Int) ≤ k := by omega
      have hlt' : (k : Int) < N := by omega
      have HK : Hid ((wr.alloc (.cells #[.int .i64 0, .int .i64 0, .int .i64 0] 31)).heap[wr.heap.size]? = some (.cells #[.int .i64 0, .int .i64 0, .int .i64 0] 31 (0, 0))) := heap_alloc_new wr _
      obtain ⟨V0, hV0⟩ : ∃ z, (wr.alloc (.cells #[.int .i64 0, .int .i64 0, .int .i64 0] 31)).setRow wr.heap.size #[.int .i64 s0, .int .i64 s1, .int .i64 s2] = z := ⟨_, rfl⟩
      have HV0 : Hid _ := hV0
      have GV : V0.heap[wr.heap.size]? = some (.cells #[.int .i64 s0, .int .i64 s1, .int .i64 s2] 31 (0, 0)) := by show _ = _; rw [← hV0]; exact setRow_heap _ _ _ _ _ _ HK.out
      have BV : Below wr.heap.size wr V0 := by
        rw [← hV0]
        exact ((Below.refl _ wr).alloc (Nat.le_refl _) _).trans ⟨rfl, rfl, rfl, by simp [World.setRow], fun k hk => setRow_other _ _ _ _ (by omega)⟩
      have sV : V0.heap.size = wr.heap.size + 1 := by rw [← hV0]; simp [World.setRow]
      have H0 : Hid (V0.cell? ⟨wr.heap.size, 1, none⟩ = some (.int .i64 s1) ∧ wr.heap.size < V0.heap.size ∧ Below c w V0 ∧ Below W2.heap.size W2 V0) := ⟨by simp [World.cell?, GV], by omega, HB.out.2.1.trans (BV.mono (HC.out ▸ HB.out.2.1.size)), HB.out.2.2.trans (BV.mono HB.out.2.2.size)⟩
      have kc1 : (k : Int) ≤ cp := by omega
      have kc2 : k ≤ cp := by omega
      clear hV0 GV BV sV hse
      go_upto_region 8 with (refine wpList_store_row rfl 31 _ _ rfl wr.heap.size #[.int .i64 s0, .int .i64 s1, .int .i64 s2] rfl rfl 31 _ HK.out (by kernel_rfl) rfl (by kernel_rfl) ?_)
      rw [HV0.out]
      go_wp2
      obtain ⟨g1, hg1⟩ : ∃ x, gk = x := ⟨_, rfl⟩
      rw [hg1] at hk
      obtain ⟨q0, hq0⟩ : ∃ x, wr.heap.size = x := ⟨_, rfl⟩
      rw [hq0] at H0 ⊢
      clear hq0 HK HV0
      go_loopg [10, 51] k (fun gj _ s51 wi => ∃ j : Nat, gj + j = k ∧ s51 = .int .i64 j ∧ Hid ((∀ i (h : i < l.length), i < j → l[i].2.1 ≠ s1) ∧ Below V0.heap.size V0 wi))
      case atStart => exact ⟨0, by omega, rfl, ⟨fun i _ h => absurd h (by omega), Below.refl _ _⟩⟩
      case round =>
        obtain ⟨j, hj, rfl, HJ⟩ := hrel
        by_cases hjk : j < k
        · have dj : decide ((j : Int) < k) = true := decide_eq_true (by omega)
          have hjl : j < l.length := by rw [HL.out.2]; omega
          obtain ⟨g', off', hga, hg', y0, y1, y2, -⟩ := HL.out.1 j hjl
          simp only [Option.some.injEq, Addr.mk.injEq, and_true] at hga
          obtain ⟨rfl, rfl⟩ := hga
          have bj : Below c w wr := H0.out.2.2.1.trans (HJ.out.2.mono (HC.out ▸ H0.out.2.2.1.size))
          rw [← bj.cell (p := ⟨g, off + j * 3, none⟩) hg'] at y0
          rw [← bj.cell (p := ⟨g, off + j * 3 + 1, none⟩) hg'] at y1
          rw [← bj.cell (p := ⟨g, off + j * 3 + 2, none⟩) hg'] at y2
          obtain ⟨⟨t0, t1, t2⟩, hte⟩ : ∃ s, l[j] = s := ⟨_, rfl⟩
          rw [hte] at y0 y1 y2
          simp only at y0 y1 y2
          have HTE : Hid (∃ h : j < l.length, l[j].2.1 = t1) := ⟨hjl, by rw [hte]⟩
          have hj0 : (0 : Int) ≤ j := by omega
          have hjk' : (j : Int) < k := by omega
          have HK : Hid ((wr.alloc (.cells #[.int .i64 0, .int .i64 0, .int .i64 0] 31)).heap[wr.heap.size]? = some (.cells #[.int .i64 0, .int .i64 0, .int .i64 0] 31 (0, 0))) := heap_alloc_new wr _
          obtain ⟨V1, hV1⟩ : ∃ z, (wr.alloc (.cells #[.int .i64 0, .int .i64 0, .int .i64 0] 31)).setRow wr.heap.size #[.int .i64 t0, .int .i64 t1, .int .i64 t2] = z := ⟨_, rfl⟩
          have HV1 : Hid _ := hV1
          have GV : V1.heap[wr.heap.size]? = some (.cells #[.int .i64 t0, .int .i64 t1, .int .i64 t2] 31 (0, 0)) := by show _ = _; rw [← hV1]; exact setRow_heap _ _ _ _ _ _ HK.out
          have BV : Below wr.heap.size wr V1 := by
            rw [← hV1]
            exact ((Below.refl _ wr).alloc (Nat.le_refl _) _).trans ⟨rfl, rfl, rfl, by simp [World.setRow], fun k hk => setRow_other _ _ _ _ (by omega)⟩
          have b01 : Below V0.heap.size V0 V1 := HJ.out.2.trans (BV.mono HJ.out.2.size)
          have v1 : V1.cell? ⟨wr.heap.size, 1, none⟩ = some (.int .i64 t1) := by simp [World.cell?, GV]
          have v2 : V1.cell? ⟨q0, 1, none⟩ = some (.int .i64 s1) := (b01.cell (p := ⟨q0, 1, none⟩) H0.out.2.1).trans H0.out.1
          have HB1 : Hid (Below V0.heap.size V0 V1) := b01
          clear hV1 GV BV b01 bj hte
          by_cases heq : s1 = t1
          · have e1 : (s1 == t1) = true := by simp [heq]
            clear heq
            go_upto_region 11 with (refine wpList_store_row rfl 31 _ _ rfl wr.heap.size #[.int .i64 t0, .int .i64 t1, .int .i64 t2] rfl rfl 31 _ HK.out (by kernel_rfl) rfl (by kernel_rfl) ?_)
            rw [HV1.out]
            go_wp2_with fail
            refine Calls.mono (C2.out _) ?_
            rintro e W3 ⟨rfl, hb3⟩
            go_wp2
            go_ret
            exact ⟨rfl, HF.out _ _ (H0.out.2.2.1.trans (HB1.out.mono (HC.out ▸ H0.out.2.2.1.size))) hb3⟩
          · have e1 : (s1 == t1) = false := by simp [heq]
            have HNE : Hid (t1 ≠ s1) := fun e => heq e.symm
            clear heq
            go_upto_region 11 with (refine wpList_store_row rfl 31 _ _ rfl wr.heap.size #[.int .i64 t0, .int .i64 t1, .int .i64 t2] rfl rfl 31 _ HK.out (by kernel_rfl) rfl (by kernel_rfl) ?_)
            rw [HV1.out]
            go_wp2
            go_roundg (gk - 1)
            case measure => omega
            case rel =>
              refine ⟨j + 1, by omega, by go_num, ⟨fun i h hi => ?_, HB1.out⟩⟩
              rcases Nat.lt_or_ge i j with h1 | h1
              · exact HJ.out.1 i h h1
              · have : i = j := by omega
                subst this
                obtain ⟨_, e⟩ := HTE.out
                rw [e]
                exact HNE.out
        · have dj : decide ((j : Int) < k) = false := decide_eq_false (by omega)
          have hjk2 : j = k := by omega
          go_wp2
          go_roundg (g1 - 1)
          case measure => omega
          case rel =>
            refine ⟨k + 1, by omega, by go_num, ⟨fun i j' hi hj' hji hik => ?_, H0.out.2.2.1.trans (HJ.out.2.mono (HC.out ▸ H0.out.2.2.1.size)), H0.out.2.2.2.trans (HJ.out.2.mono H0.out.2.2.2.size)⟩⟩
            rcases Nat.lt_or_ge i k with h1 | h1
            · exact HB.out.1 i j' hi hj' hji h1
            · have : i = k := by omega
              subst this
              obtain ⟨_, e⟩ := HSE.out
              rw [e]
              exact fun e2 => HJ.out.1 j' hj' (by omega) e2.symm
    · have dl : decide ((k : Int) < N) = false := decide_eq_false (by omega)
      have hkN : k = N := by omega
      subst hkN
      have HP : Hid (apart l k ∧ Below c w wr ∧ Ck.Pair c c d (.slice none 0 0) (.slice none 0 0) 0 0 [] [] wr) := ⟨HB.out.1, HB.out.2.1, P2.out.2.below HB.out.2.2 (Nat.le_refl _)⟩
      clear HB P2
      go_wp2
      obtain ⟨X0, hX0⟩ : ∃ x, wr = x := ⟨_, rfl⟩
      go_loopg [11, 65] k (fun gi _ s65 wi => ∃ (i : Nat) (v u : Value), gi + i = k ∧ s65 = .int .i64 i ∧ Hid (Below c w wi ∧ Ck.Pair c c d v u 0 0 (Ck.sort (als (l.take i))) (Ck.sort (als (l.reverse.take i))) wi ∧ Ck.Ok 0 (Ck.sort (als (l.take i))) ∧ Ck.Ok 0 (Ck.sort (als (l.reverse.take i)))))
      case atStart =>
        refine ⟨0, .slice none 0 0, .slice none 0 0, by omega, rfl, ⟨HP.out.2.1, ?_, ?_⟩⟩
        · have e : Ck.sort (als (l.take 0)) = [] := by simp [als, Ck.sort]
          have e2 : Ck.sort (als (l.reverse.take 0)) = [] := by simp [als, Ck.sort]
          rw [e, e2]
          exact HP.out.2.2
        · have e : Ck.sort (als (l.take 0)) = [] := by simp [als, Ck.sort]
          have e2 : Ck.sort (als (l.reverse.take 0)) = [] := by simp [als, Ck.sort]
          rw [e, e2]
          exact ⟨Ck.Ok.nil, Ck.Ok.nil⟩
      case round =>
        obtain ⟨i, v, u, hi, rfl, HI⟩ := hrel
        by_cases hik : i < k
        · have di : decide ((i : Int) < k) = true := decide_eq_true (by omega)
          have hil : i < l.length := by rw [HL.out.2]; exact hik
          have hrl : k - 1 - i < l.length := by rw [HL.out.2]; omega
          obtain ⟨g, off, rfl, hg, -, x1, x2, -⟩ := HL.out.1 i hil
          obtain ⟨g', off', hga, hg', -, y1, y2, -⟩ := HL.out.1 (k - 1 - i) hrl
          simp only [Option.some.injEq, Addr.mk.injEq, and_true] at hga
          obtain ⟨rfl, rfl⟩ := hga
          obtain ⟨⟨s0, s1, s2⟩, hse⟩ : ∃ s, l[i] = s := ⟨_, rfl⟩
          obtain ⟨⟨t0, t1, t2⟩, hte⟩ : ∃ s, l[k - 1 - i] = s := ⟨_, rfl⟩
          rw [hse] at x1 x2
          rw [hte] at y1 y2
          simp only at x1 x2 y1 y2
          have CX : Hid (∀ W : World, Below c w W → W.cell? ⟨g, off + i * 3 + 1, none⟩ = some (.int .i64 s1) ∧ W.cell? ⟨g, off + i * 3 + 2, none⟩ = some (.int .i64 s2) ∧ W.cell? ⟨g, off + (k - 1 - i) * 3 + 1, none⟩ = some (.int .i64 t1) ∧ W.cell? ⟨g, off + (k - 1 - i) * 3 + 2, none⟩ = some (.int .i64 t2)) := fun W hb => ⟨(hb.cell (p := ⟨g, _, none⟩) hg).trans x1, (hb.cell (p := ⟨g, _, none⟩) hg).trans x2, (hb.cell (p := ⟨g, _, none⟩) hg).trans y1, (hb.cell (p := ⟨g, _, none⟩) hg).trans y2⟩
          have CA := Try.cSet_any s1 s2 wr HI.out.2.1.a HI.out.2.2.1
          have eA : Ck.setL 0 (Ck.sort (als (l.take i))) s1 s2 = Ck.sort (als (l.take (i + 1))) := by
            have := set_next (l.take i) (s0, s1, s2) (fun t ht => by
              obtain ⟨j, hj, rfl⟩ := List.getElem_of_mem ht
              rw [List.length_take] at hj
              rw [List.getElem_take]
              have := HP.out.1 i j hil (by omega) (by omega) hik
              rw [hse] at this
              exact fun e => this e.symm) (by rw [List.length_take]; omega)
            rw [List.take_succ_eq_append_getElem hil, hse]
            exact this
          have okA : Ck.Ok 0 (Ck.sort (als (l.take (i + 1)))) := by rw [← eA]; exact HI.out.2.2.1.set s1 s2
          rw [eA] at CA
          have hirl : i < l.reverse.length := by rw [List.length_reverse]; exact hil
          have hrev : l.reverse[i] = (t0, t1, t2) := by
            rw [List.getElem_reverse, ← hte]
            congr 1
            rw [HL.out.2]
          have eB : Ck.setL 0 (Ck.sort (als (l.reverse.take i))) t1 t2 = Ck.sort (als (l.reverse.take (i + 1))) := by
            have := set_next (l.reverse.take i) (t0, t1, t2) (fun t ht => by
              obtain ⟨j, hj, rfl⟩ := List.getElem_of_mem ht
              rw [List.length_take, List.length_reverse] at hj
              rw [List.getElem_take, List.getElem_reverse]
              have hL := HL.out.2
              have := HP.out.1 (l.length - 1 - j) (k - 1 - i) (by omega) hrl (by omega) (by omega)
              rw [hte] at this
              exact this) (by rw [List.length_take, List.length_reverse]; omega)
            rw [List.take_succ_eq_append_getElem hirl, hrev]
            exact this
          have okB : Ck.Ok 0 (Ck.sort (als (l.reverse.take (i + 1)))) := by rw [← eB]; exact HI.out.2.2.2.set t1 t2
          have HE : Hid (Ck.setL 0 (Ck.sort (als (l.reverse.take i))) t1 t2 = Ck.sort (als (l.reverse.take (i + 1))) ∧ Ck.Ok 0 (Ck.sort (als (l.take (i + 1)))) ∧ Ck.Ok 0 (Ck.sort (als (l.reverse.take (i + 1))))) := ⟨eB, okA, okB⟩
          have HA : Hid (∀ W : World, W.heap = wr.heap → W.os = wr.os → W.tape = wr.tape → W.output = wr.output → Calls Try.prog 18 #[.pointer (some ⟨c, 0, none⟩), .int .i64 s1, .int .i64 s2] W fun e w' => (∃ r, e = .returned (.int .i64 r)) ∧ ∃ v', Ck.At c c v' 0 (Ck.sort (als (l.take (i + 1)))) w' ∧ (∀ g, v'.ownBlock = some g → v.ownBlock = some g ∨ wr.heap.size ≤ g) ∧ Tk.But (fun x => x = c ∨ v.ownBlock = some x) wr w') := fun W e1 e2 e3 e4 => by
            have h1 : Ck.At c c v 0 (Ck.sort (als (l.take i))) W := HI.out.2.1.a.keep (by rw [e1]) (fun b _ => by rw [e1])
            have := Try.cSet_any s1 s2 W h1 HI.out.2.2.1
            rw [eA] at this
            refine this.mono fun e w' ⟨q1, v', q2, q3, q4⟩ => ⟨⟨_, q1⟩, v', q2, fun g hg => by have := q3 g hg; rw [e1] at this; exact this, ⟨q4.os.trans e2, q4.tape.trans e3, q4.output.trans e4, by have := q4.size; rw [e1] at this; exact this, fun j hj he => (q4.block j (by rw [e1]; exact hj) he).trans (by rw [e1])⟩⟩
          obtain ⟨m1, m2, m3, m4⟩ := CX.out wr HI.out.1
          have hi0 : (0 : Int) ≤ i := by omega
          have hik' : (i : Int) < k := by omega
          clear CA eA okA eB okB hse hte hrev hirl x1 x2 y1 y2
          have HBs : Hid (∀ (W3 W : World) (v3 : Value), Ck.Pair c c d v3 u 0 0 (Ck.sort (als (l.take (i + 1)))) (Ck.sort (als (l.reverse.take i))) W3 → W.heap = W3.heap → W.os = W3.os → W.tape = W3.tape → W.output = W3.output → Calls Try.prog 18 #[.pointer (some ⟨d, 0, none⟩), .int .i64 t1, .int .i64 t2] W fun e w' => (∃ r, e = .returned (.int .i64 r)) ∧ ∃ u', Ck.At c d u' 0 (Ck.sort (als (l.reverse.take (i + 1)))) w' ∧ (∀ g, u'.ownBlock = some g → u.ownBlock = some g ∨ W3.heap.size ≤ g) ∧ Tk.But (fun x => x = d ∨ u.ownBlock = some x) W3 w') := fun W3 W v3 hp e1 e2 e3 e4 => by
            have h1 : Ck.At c d u 0 (Ck.sort (als (l.reverse.take i))) W := hp.b.keep (by rw [e1]) (fun b _ => by rw [e1])
            have := Try.cSet_any t1 t2 W h1 HI.out.2.2.2
            rw [HE.out.1] at this
            refine this.mono fun e w' ⟨q1, v', q2, q3, q4⟩ => ⟨⟨_, q1⟩, v', q2, fun g hg => by have := q3 g hg; rw [e1] at this; exact this, ⟨q4.os.trans e2, q4.tape.trans e3, q4.output.trans e4, by have := q4.size; rw [e1] at this; exact this, fun j hj he => (q4.block j (by rw [e1]; exact hj) he).trans (by rw [e1])⟩⟩
          obtain ⟨p, hp⟩ : ∃ p, k - 1 - i = p := ⟨_, rfl⟩
          obtain ⟨q, hq⟩ : ∃ q, k - 1 = q := ⟨_, rfl⟩
          have hw1 : IntKind.i64.wrap ((k : Int) - 1) = (q : Int) := by rw [Go.IntWalk.i64_in _ (by omega)]; omega
          have hw2 : IntKind.i64.wrap ((q : Int) - (i : Int)) = (p : Int) := by rw [Go.IntWalk.i64_in _ (by omega)]; omega
          have hp0 : (0 : Int) ≤ p := by omega
          have hpk : (p : Int) < k := by omega
          rw [hp] at CX m3 m4
          have HPQ : Hid (k - 1 - i = p ∧ k - 1 = q) := ⟨hp, hq⟩
          clear hp hq
          go_upto_region 18 with fail
          go_region_law (first | (go_simp; go_at_call 18; refine Calls.mono (HA.out _ rfl rfl rfl rfl) ?_; rintro e W3 ⟨⟨r, rfl⟩, v3, a3, g3, b3⟩) | fail)
          all_goals
            have P3 : Hid (Below c w W3 ∧ Ck.Pair c c d v3 u 0 0 (Ck.sort (als (l.take (i + 1)))) (Ck.sort (als (l.reverse.take i))) W3) := ⟨HI.out.1.trans (HI.out.2.1.a.belowB b3), HI.out.2.1.stepA a3 g3 b3⟩
            obtain ⟨k1, k2, k3, k4⟩ := CX.out W3 P3.out.1
            clear a3 g3 b3 m1 m2 m3 m4
            go_upto_region 19 with fail
            go_region_law (first | (go_simp; go_at_call 18; refine Calls.mono (HBs.out W3 _ _ P3.out.2 rfl rfl rfl rfl) ?_; rintro e W4 ⟨⟨r4, rfl⟩, u4', a4, g4, b4⟩) | fail)
            all_goals
              have P4 : Hid (Below c w W4 ∧ Ck.Pair c c d v3 u4' 0 0 (Ck.sort (als (l.take (i + 1)))) (Ck.sort (als (l.reverse.take (i + 1)))) W4) := ⟨P3.out.1.trans (P3.out.2.b.belowB b4), P3.out.2.stepB a4 g4 b4⟩
              clear a4 g4 b4 k1 k2 k3 k4
              go_wp2
              go_roundg (gk - 1)
              case measure => omega
              case rel => exact ⟨i + 1, v3, u4', by omega, by go_num, ⟨P4.out.1, P4.out.2, HE.out.2⟩⟩
        · have di : decide ((i : Int) < k) = false := decide_eq_false (by omega)
          obtain rfl : i = k := by omega
          obtain ⟨L, hL⟩ : ∃ L, Ck.sort (als l) = L := ⟨_, rfl⟩
          have eL : Ck.sort (als (l.take i)) = L := by rw [← hL, List.take_of_length_le (by rw [HL.out.2]; exact Nat.le_refl _)]
          have eM : Ck.sort (als (l.reverse.take i)) = L := by rw [← hL, List.take_of_length_le (by rw [List.length_reverse, HL.out.2]; exact Nat.le_refl _), als_reverse]
          have PF : Hid (Below c w wr ∧ Ck.Pair c c d v u 0 0 L L wr ∧ Ck.Ok 0 L) := by
            have := HI.out
            rw [eL, eM] at this
            exact ⟨this.1, this.2.1, this.2.2.1⟩
          have HTA : Hid _ := Try.cTick_any n wr PF.out.2.1.a PF.out.2.2
          obtain ⟨nw, hnw⟩ : ∃ x, Ck.tickN 0 n = x := ⟨_, rfl⟩
          obtain ⟨te, hte⟩ : ∃ x, Ck.tickE 0 n = x := ⟨_, rfl⟩
          have okN : Hid (Ck.Ok nw L) := by show Ck.Ok _ _; rw [← hnw]; exact PF.out.2.2.tick n
          have HNW : Hid (Ck.tickN 0 n = nw ∧ Ck.tickE 0 n = te) := ⟨hnw, hte⟩
          rw [hnw, hte] at HTA
          clear hL eL eM HI hnw hte
          go_wp2_with fail
          refine Calls.mono HTA.out ?_
          rintro e W5 ⟨rfl, a5, b5⟩
          have P5 : Hid (Below c w W5 ∧ Ck.Pair c c d v u nw 0 L L W5) := ⟨PF.out.1.trans (PF.out.2.1.a.belowT b5), PF.out.2.1.stepA a5 (fun g hg => .inl hg) (Ck.But.row b5)⟩
          have HTB : Hid _ := Try.cTick_any n W5 P5.out.2.b PF.out.2.2
          rw [HNW.out.1, HNW.out.2] at HTB
          clear a5 b5
          go_wp2_with fail
          refine Calls.mono HTB.out ?_
          rintro e W6 ⟨rfl, a6, b6⟩
          have P6 : Hid (Below c w W6 ∧ Ck.Pair c c d v u nw nw L L W6) := ⟨P5.out.1.trans (P5.out.2.b.belowT b6), P5.out.2.stepB a6 (fun g hg => .inl hg) (Ck.But.row b6)⟩
          have HXA : Hid _ := Try.cNext_any W6 P6.out.2.a okN.out
          clear a6 b6
          go_wp2_with fail
          refine Calls.mono HXA.out ?_
          rintro e W7 ⟨⟨xa, xb, rfl, hxa⟩, b7⟩
          have P7 : Hid (Below c w W7 ∧ Ck.Pair c c d v u nw nw L L W7) := ⟨P6.out.1.trans (b7.mono (HC.out ▸ P6.out.1.size)), P6.out.2.below b7 (Nat.le_refl _)⟩
          have HXB : Hid _ := Try.cNext_any W7 P7.out.2.b okN.out
          have HX : Hid ((xb = false ∧ xa = 0 ∧ L = []) ∨ (xb = true ∧ ∃ h : 0 < L.length, xa = Ck.left nw L[0].2)) := hxa
          clear hxa b7
          go_wp2_with fail
          refine Calls.mono HXB.out ?_
          rintro e W8 ⟨⟨ya, yb, rfl, hya⟩, b8⟩
          have hxy : ya = xa ∧ yb = xb := by
            rcases HX.out with ⟨e1, e2, e3⟩ | ⟨e1, h1, e2⟩ <;> rcases hya with ⟨f1, f2, f3⟩ | ⟨f1, h2, f2⟩
            · exact ⟨f2.trans e2.symm, f1.trans e1.symm⟩
            · rw [e3] at h2; simp at h2
            · rw [f3] at h1; simp at h1
            · exact ⟨f2.trans e2.symm, f1.trans e1.symm⟩
          obtain ⟨rfl, rfl⟩ := hxy
          have P8 : Hid (Below c w W8 ∧ Ck.Pair c c d v u nw nw L L W8) := ⟨P7.out.1.trans (b8.mono (HC.out ▸ P7.out.1.size)), P7.out.2.below b8 (Nat.le_refl _)⟩
          obtain ⟨D, hD⟩ : ∃ D, Ck.due nw L = D := ⟨_, rfl⟩
          have HDA := Try.cDue_any W8 P8.out.2.a okN.out
          rw [hD] at HDA
          have HDH : Hid _ := HDA
          have DL : Hid (Ck.due nw L = D ∧ D.length ≤ 64) := ⟨hD, by
            rw [← hD]
            unfold Ck.due
            rw [List.length_map]
            exact Nat.le_trans (List.length_filter_le _ _) okN.out.len⟩
          clear hya b8 HX HDA hD
          go_wp2_with fail
          refine Calls.mono HDH.out ?_
          rintro e W9 ⟨r1, rfl, own1, b9⟩
          obtain ⟨ra, rc, rfl⟩ := Ck.own_shape own1
          have P9 : Hid (Below c w W9 ∧ Ck.Pair c c d v u nw nw L L W9) := ⟨P8.out.1.trans (b9.mono (HC.out ▸ P8.out.1.size)), P8.out.2.below b9 (Nat.le_refl _)⟩
          have O1 : Hid (Ck.Nums W9 W9.heap.size ra D) := Ck.nums_of_own own1
          have HDB := Try.cDue_any W9 P9.out.2.b okN.out
          rw [DL.out.1] at HDB
          have HDK : Hid _ := HDB
          clear HDB own1 b9
          go_wp2_with fail
          refine Calls.mono HDK.out ?_
          rintro e W10 ⟨r2, rfl, own2, b10⟩
          obtain ⟨rb, rd, rfl⟩ := Ck.own_shape own2
          have P10 : Hid (Below c w W10) := P9.out.1.trans (b10.mono (HC.out ▸ P9.out.1.size))
          have HIN : Hid _ := Try.cInts_same ra rb rc rd D W10 ((O1.out.below b10).wider b10.size) (Ck.nums_of_own own2) (by have := DL.out.2; omega)
          clear own2 b10
          go_wp2_with fail
          refine Calls.mono HIN.out ?_
          rintro e W11 ⟨rfl, b11⟩
          have P11 : Hid (Below c w W11) := P10.out.trans (b11.mono (HC.out ▸ P10.out.size))
          clear b11
          go_wp2_with fail
          refine Calls.mono (C2.out _) ?_
          rintro e W12 ⟨rfl, b12⟩
          go_wp2
          go_ret
          exact ⟨rfl, HF.out _ _ P11.out b12⟩

end Go.Proofs.Ytolniefefohbjaa.ClockOrder
