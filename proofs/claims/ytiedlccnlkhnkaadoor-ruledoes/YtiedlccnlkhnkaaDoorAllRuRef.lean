/-
  The document's times, in, Can and Do.
-/
import Derived.Test.YtiedlccnlkhnkaaDoorAllRuDo
import Derived.Deep.RegionHeld3
namespace Go.Proofs
open Go.RowKit Go.Shelf

/-- What a token less makes. -/
theorem Ru.dec_at {T : List Int} (hT : T.length = 40) (j : Nat) (hj : j < 40) (x : Int) (k : Nat) : (T.set j x).getD k 0 = if k = j then x else T.getD k 0 := by
  by_cases h : k = j
  · subst h
    rw [if_pos rfl]
    simp [List.getD, hT, hj]
  · rw [if_neg h]
    simp [List.getD, Ne.symm h]
theorem Ru.without_cons (T : List Int) (f : Int) (l : List Int) : Ru.without T (f :: l) = (Ru.takeW T f).bind fun T' => Ru.without T' l := by
  rw [Ru.without, List.foldlM_cons]
  rfl
/-- Tokens enough for all, one behind the other, just if there are so many of each. -/
theorem Ru.without_some {l : List Int} : ∀ {T : List Int}, T.length = 40 → (∀ f, f ∈ l → Ru.noB f = false) → ((Ru.without T l).isSome = true ↔ ∀ f, f ∈ l → (l.count f : Int) ≤ T.getD f.toNat 0) := by
  induction l with
  | nil => intro T _ _; simp [Ru.without]
  | cons f l ih =>
    intro T hT hn
    obtain ⟨j, rfl, hj⟩ := Ru.no_or f (hn f (by simp))
    rw [Ru.without_cons]
    by_cases h1 : T.getD j 0 < 1
    · rw [Ru.takeW, if_pos (by right; right; rw [Int.toNat_natCast]; exact h1)]
      simp only [Option.bind_none, Option.isSome_none, Bool.false_eq_true, false_iff]
      intro h
      have h2 := h (j : Int) (by simp)
      rw [Int.toNat_natCast] at h2
      have h3 : 0 < ((j : Int) :: l).count (j : Int) := List.count_pos_iff.2 (by simp)
      omega
    · rw [Ru.takeW, if_neg (by rw [Int.toNat_natCast]; omega), Option.bind_some, Int.toNat_natCast]
      have hT' : (T.set j (T.getD j 0 - 1)).length = 40 := by rw [List.length_set]; exact hT
      rw [ih hT' (fun g hg => hn g (by simp [hg]))]
      have key : ∀ g, g ∈ l → ((l.count g : Int) ≤ (T.set j (T.getD j 0 - 1)).getD g.toNat 0 ↔ (((j : Int) :: l).count g : Int) ≤ T.getD g.toNat 0) := by
        intro g hg
        obtain ⟨k, rfl, hk⟩ := Ru.no_or g (hn g (by simp [hg]))
        rw [Int.toNat_natCast, Ru.dec_at hT j hj]
        by_cases e : k = j
        · subst e
          rw [if_pos rfl, List.count_cons_self]
          omega
        · rw [if_neg e, List.count_cons_of_ne (by intro h; apply e; omega)]
      constructor
      · intro h g hg
        rcases List.mem_cons.1 hg with rfl | hg
        · by_cases hm : (j : Int) ∈ l
          · exact (key _ hm).1 (h _ hm)
          · rw [List.count_cons_self, List.count_eq_zero.2 hm, Int.toNat_natCast]
            omega
        · exact (key g hg).1 (h g hg)
      · intro h g hg
        exact (key g hg).2 (h g (by simp [hg]))

set_option maxRecDepth 20000 in
set_option maxHeartbeats 4000000 in
theorem Tryd.rtimes_any (f : Int) (u : Value) (l : List Int) (w : World) (hu : Ru.Nums w u l) (hl : l.length ≤ 1000000) :
    Calls Tryd.prog 51 #[u, .int .i64 f] w fun e w' => e = .returned (.int .i64 (l.count f : Nat)) ∧ w' = w := by
  obtain ⟨a, c, rfl, hc⟩ := hu
  obtain ⟨n, hn⟩ : ∃ n, l.length = n := ⟨_, rfl⟩
  rw [hn]
  have HC : Hid ((∀ j (h : j < l.length), ∃ g off, a = some ⟨g, off, none⟩ ∧ w.cell? ⟨g, off + j, none⟩ = some (.int .i64 l[j])) ∧ l.length = n) := ⟨fun j hj => by
    obtain ⟨g, off, cs, fr, h1, h2, h3⟩ := hc j hj
    exact ⟨g, off, h1, h3⟩, hn⟩
  have hn' : n ≤ 1000000 := by omega
  obtain ⟨r, hr⟩ : ∃ r, l.count f = r := ⟨_, rfl⟩
  have HR : Hid (l.count f = r) := hr
  rw [hr]
  clear hc hn hl hr
  go_enter Tryd.func51, Tryd.ntmps51
  go_wp2
  go_loopg [5, 10] n (fun gk s5 s10 wr => ∃ k m : Nat, gk + k = n ∧ s10 = .int .i64 k ∧ s5 = .int .i64 m ∧ m ≤ k ∧ w = wr ∧ Hid ((l.take k).count f = m))
  case atStart => exact ⟨0, 0, by omega, rfl, rfl, Nat.le_refl _, rfl, rfl⟩
  case round =>
    obtain ⟨k, m, hk, rfl, rfl, hm, hww, HB⟩ := hrel
    subst hww
    by_cases hlt : k < n
    · have hd : decide ((k : Int) < n) = true := decide_eq_true (by omega)
      have hkl : k < l.length := by rw [HC.out.2]; exact hlt
      obtain ⟨q, off, rfl, h0⟩ := HC.out.1 k hkl
      obtain ⟨x, hx⟩ : ∃ x, l[k] = x := ⟨_, rfl⟩
      rw [hx] at h0
      have HX : Hid ((l.take (k + 1)).count f = m + if x = f then 1 else 0) := by
        show _ = _
        rw [Tm.take_snoc _ _ hkl, List.count_append, HB.out, hx, List.count_singleton]
        simp
      clear hx
      by_cases hq : x = f
      · have hb : (x == f) = true := by simpa using hq
        rw [if_pos hq] at HX
        clear hq
        go_wp2
        go_roundg (gk - 1)
        case measure => omega
        case rel => exact ⟨k + 1, m + 1, by omega, by go_num, by go_num, by omega, rfl, HX.out⟩
      · have hb : (x == f) = false := by simpa using hq
        rw [if_neg hq] at HX
        clear hq
        go_wp2
        go_roundg (gk - 1)
        case measure => omega
        case rel => exact ⟨k + 1, m, by omega, by go_num, rfl, by omega, rfl, HX.out⟩
    · have hd : decide ((k : Int) < n) = false := decide_eq_false (by omega)
      have HB2 : Hid (m = r) := by
        show _ = _
        have := HB.out
        rw [List.take_of_length_le (by rw [HC.out.2]; omega), HR.out] at this
        exact this.symm
      go_wp2
      go_ret
      exact ⟨Tk.ret_int (by rw [HB2.out]), rfl⟩

set_option maxRecDepth 20000 in
set_option maxHeartbeats 4000000 in
theorem Tryd.rin_any (u : Value) (l : List Int) (w : World) (hu : Ru.Nums w u l) (hl : l.length ≤ 1000000) :
    Calls Tryd.prog 50 #[u] w fun e w' => e = .returned (.bool (!l.any Ru.noB)) ∧ w' = w := by
  obtain ⟨a, c, rfl, hc⟩ := hu
  obtain ⟨n, hn⟩ : ∃ n, l.length = n := ⟨_, rfl⟩
  rw [hn]
  have HC : Hid ((∀ j (h : j < l.length), ∃ g off, a = some ⟨g, off, none⟩ ∧ w.cell? ⟨g, off + j, none⟩ = some (.int .i64 l[j])) ∧ l.length = n) := ⟨fun j hj => by
    obtain ⟨g, off, cs, fr, h1, h2, h3⟩ := hc j hj
    exact ⟨g, off, h1, h3⟩, hn⟩
  have hn' : n ≤ 1000000 := by omega
  obtain ⟨r, hr⟩ : ∃ r, (!l.any Ru.noB) = r := ⟨_, rfl⟩
  have HR : Hid ((!l.any Ru.noB) = r) := hr
  rw [hr]
  clear hc hn hl hr
  go_enter Tryd.func50, Tryd.ntmps50
  go_wp2
  go_loopg [7] n (fun gk s8 wr => ∃ k : Nat, gk + k = n ∧ s8 = .int .i64 k ∧ w = wr ∧ Hid ((l.take k).any Ru.noB = false))
  case atStart => exact ⟨0, by omega, rfl, rfl, rfl⟩
  case round =>
    obtain ⟨k, hk, rfl, hww, HB⟩ := hrel
    subst hww
    by_cases hlt : k < n
    · have hd : decide ((k : Int) < n) = true := decide_eq_true (by omega)
      have hkl : k < l.length := by rw [HC.out.2]; exact hlt
      obtain ⟨q, off, rfl, h0⟩ := HC.out.1 k hkl
      obtain ⟨x, hx⟩ : ∃ x, l[k] = x := ⟨_, rfl⟩
      rw [hx] at h0
      have HX : Hid (l[k] = x) := hx
      clear hx
      by_cases hq : x < 0 ∨ 39 < x
      · have HQ : Hid (r = false) := by
          show _ = _
          rw [← HR.out]
          have : l.any Ru.noB = true := List.any_eq_true.2 ⟨l[k], List.getElem_mem hkl, by rw [HX.out]; exact decide_eq_true (by omega)⟩
          rw [this]
          rfl
        obtain h1 | ⟨h1, h2⟩ : decide (x < 0) = true ∨ (decide (x < 0) = false ∧ decide (39 < x) = true) := by simp; omega
        all_goals
          clear hq
          go_wp2
          go_ret
          exact ⟨Tk.ret_bool HQ.out.symm, rfl⟩
      · have h1 : decide (x < 0) = false := decide_eq_false (by omega)
        have h2 : decide (39 < x) = false := decide_eq_false (by omega)
        have HQ : Hid (Ru.noB x = false) := decide_eq_false (by omega)
        clear hq
        go_wp2
        go_roundg (gk - 1)
        case measure => omega
        case rel =>
          refine ⟨k + 1, by omega, by go_num, rfl, ?_⟩
          show (l.take (k + 1)).any Ru.noB = false
          rw [Tm.take_snoc _ _ hkl, List.any_append, HB.out, HX.out]
          simp [HQ.out]
    · have hd : decide ((k : Int) < n) = false := decide_eq_false (by omega)
      have HB2 : Hid (r = true) := by
        show _ = _
        have := HB.out
        rw [List.take_of_length_le (by rw [HC.out.2]; omega)] at this
        rw [← HR.out, this]
        rfl
      go_wp2
      go_ret
      exact ⟨Tk.ret_bool HB2.out.symm, rfl⟩

set_option maxRecDepth 20000 in
set_option maxHeartbeats 8000000 in
theorem Tryd.rcan_any (kd nd : Int) (T : List Int) (u1 : Value) (a2 : Option Addr) (n2 c2 : Nat) (l : List Int) (w : World) (hT : Ru.Fit T) (hu : Ru.Nums w u1 l) (hl : l.length ≤ 1000000) :
    Calls Tryd.prog 24 #[.agg #[.int .i64 kd, .int .i64 nd, u1, .slice a2 n2 c2], .agg (Ru.arr T)] w fun e w' => e = .returned (.bool (Ru.without T l).isSome) ∧ Below w.heap.size w w' := by
  obtain ⟨a, c, rfl, hc⟩ := id hu
  obtain ⟨n, hn⟩ : ∃ n, l.length = n := ⟨_, rfl⟩
  rw [hn] at hu
  rw [hn]
  obtain ⟨A, hA⟩ : ∃ A, Ru.arr T = A := ⟨_, rfl⟩
  rw [hA]
  obtain ⟨w2, hw2⟩ : ∃ x, (w.alloc (.cells #[.int .i64 kd, .int .i64 nd, .slice a n c, .slice a2 n2 c2] 54)).alloc (.cells A 56) = x := ⟨_, rfl⟩
  have A2 : Below w.heap.size w w2 := by rw [← hw2]; exact ((Below.refl _ w).alloc (Nat.le_refl _) _).alloc (by simp) _
  have N1 : w2.heap[w.heap.size]? = some (.cells #[.int .i64 kd, .int .i64 nd, .slice a n c, .slice a2 n2 c2] 54 (0, 0)) := by
    rw [← hw2, Below.heap_alloc _ _ _ (by simp)]
    exact heap_alloc_new w _
  have N2 : Ru.Arr w2 (w.heap.size + 1) T := by
    unfold Ru.Arr
    rw [← hw2, hA]
    have := heap_alloc_new (w.alloc (.cells #[.int .i64 kd, .int .i64 nd, .slice a n c, .slice a2 n2 c2] 54)) (.cells A 56)
    simpa using this
  have C1 : Hid _ := Tryd.rin_any (.slice a n c) l w2 (hu.below A2) hl
  have CT : Hid (∀ f W, Below w2.heap.size w2 W → Calls Tryd.prog 51 #[.slice a n c, .int .i64 f] W fun e w' => e = .returned (.int .i64 (l.count f : Nat)) ∧ Hid (Below w2.heap.size w2 w')) := fun f W hb => (Tryd.rtimes_any f (.slice a n c) l W ((hu.below A2).below hb) hl).mono fun e w' h => ⟨h.1, by rw [h.2]; exact hb⟩
  have CF : Hid (∀ W, Below w2.heap.size w2 W → W.cell? ⟨w.heap.size, 2, none⟩ = some (.slice a n c) ∧ (∀ j x, T[j]? = some x → W.cell? ⟨w.heap.size + 1, j, none⟩ = some (.int .i64 x)) ∧ Below w.heap.size w W) := fun W hb => ⟨(Ru.box4 ((hb.block _ (Ru.lt_of N1)).trans N1)).1, fun j x hj => (N2.below hb N2.lt).cell j x hj, A2.trans (hb.mono A2.size)⟩
  obtain ⟨R, hR⟩ : ∃ R, (Ru.without T l).isSome = R := ⟨_, rfl⟩
  rw [hR]
  obtain ⟨z, hz⟩ : ∃ z, l.any Ru.noB = z := ⟨_, rfl⟩
  rw [hz] at C1
  have HR : Hid ((Ru.without T l).isSome = R ∧ l.any Ru.noB = z ∧ Ru.Fit T ∧ Ru.Arr w2 (w.heap.size + 1) T) := ⟨hR, hz, hT, N2⟩
  have H2 : Hid ((w.alloc (.cells #[.int .i64 kd, .int .i64 nd, .slice a n c, .slice a2 n2 c2] 54)).alloc (.cells A 56) = w2) := hw2
  have HA : Hid (Below w.heap.size w w2) := A2
  have HC : Hid ((∀ j (h : j < l.length), ∃ g off, a = some ⟨g, off, none⟩ ∧ g < w2.heap.size ∧ w2.cell? ⟨g, off + j, none⟩ = some (.int .i64 l[j])) ∧ l.length = n) := ⟨fun j hj => by
    obtain ⟨g, off, cs, fr, h1, h2, h3⟩ := hc j hj
    exact ⟨g, off, h1, Nat.lt_of_lt_of_le (Ru.lt_of h2) A2.size, by rw [A2.cell (p := ⟨g, off + j, none⟩) (Ru.lt_of h2)]; exact h3⟩, hn⟩
  have hn' : n ≤ 1000000 := by omega
  have q2 := (Ru.box4 N1).1
  clear hc hn hl hu hA hw2 A2 N1 N2 hR hz hT
  cases z with
  | true =>
    have HF : Hid (R = false) := by
      show _ = _
      rw [← HR.out.1]
      obtain ⟨f, hf, hfb⟩ := List.any_eq_true.1 HR.out.2.1
      cases hs : Ru.without T l with
      | none => rfl
      | some Q => exact absurd (Ru.without_no hs f hf) (by rw [hfb]; simp)
    clear CT CF
    go_enter Tryd.func24, Tryd.ntmps24
    go_upto_region 1 with fail
    rw [H2.out]
    go_wp2_with fail
    refine Calls.mono C1.out ?_
    rintro e w' ⟨rfl, rfl⟩
    clear C1 H2
    go_wp2
    go_ret
    exact ⟨Tk.ret_bool HF.out.symm, HA.out⟩
  | false =>
    have HM : Hid (∀ f, f ∈ l → Ru.noB f = false) := fun f hf => by simpa using List.any_eq_false.1 HR.out.2.1 f hf
    have HW : Hid (R = true ↔ ∀ f, f ∈ l → (l.count f : Int) ≤ T.getD f.toNat 0) := by
      show _ ↔ _
      rw [← HR.out.1]
      exact Ru.without_some HR.out.2.2.1.1 HM.out
    go_enter Tryd.func24, Tryd.ntmps24
    go_upto_region 1 with fail
    rw [H2.out]
    go_wp2_with fail
    refine Calls.mono C1.out ?_
    rintro e w' ⟨rfl, rfl⟩
    clear C1 H2
    go_wp2
    go_loopg [14] n (fun gk s14 wr => ∃ k : Nat, gk + k = n ∧ s14 = .int .i64 k ∧ Hid (Below w'.heap.size w' wr ∧ ∀ f, f ∈ l.take k → (l.count f : Int) ≤ T.getD f.toNat 0))
    case atStart => exact ⟨0, by omega, rfl, Below.refl _ _, fun f hf => by simp at hf⟩
    case round =>
      obtain ⟨k, hk, rfl, HB⟩ := hrel
      by_cases hlt : k < n
      · have hd : decide ((k : Int) < n) = true := decide_eq_true (by omega)
        have hkl : k < l.length := by rw [HC.out.2]; exact hlt
        obtain ⟨q, off, rfl, hq, h0⟩ := HC.out.1 k hkl
        rw [← HB.out.1.cell (p := ⟨q, off + k, none⟩) hq] at h0
        have hmem : l[k] ∈ l := List.getElem_mem hkl
        obtain ⟨x, hx⟩ : ∃ x, l[k] = x := ⟨_, rfl⟩
        rw [hx] at h0 hmem
        obtain ⟨j, hjx, hj⟩ := Ru.no_or x (HM.out x hmem)
        subst hjx
        obtain ⟨y, hy⟩ : ∃ y, T.getD j 0 = y := ⟨_, rfl⟩
        have t1 := (HR.out.2.2.1.at hj).1
        rw [hy] at t1
        obtain ⟨m, hm⟩ : ∃ m, l.count (j : Int) = m := ⟨_, rfl⟩
        have hj0 : (0 : Int) ≤ j := by omega
        have hj4 : (j : Int) < 40 := by omega
        have CS : Hid (∀ W, Below w'.heap.size w' W → W.cell? ⟨w.heap.size, 2, none⟩ = some (.slice (some ⟨q, off, none⟩) n c) ∧ W.cell? ⟨w.heap.size + 1, j, none⟩ = some (.int .i64 y)) := fun W hb => ⟨(CF.out W hb).1, (CF.out W hb).2.1 j y t1⟩
        have C3 : Hid (∀ W, Below w'.heap.size w' W → Calls Tryd.prog 51 #[.slice (some ⟨q, off, none⟩) n c, .int .i64 (j : Int)] W fun e wz => e = .returned (.int .i64 (m : Nat)) ∧ Hid (Below w'.heap.size w' wz)) := fun W hb => by
          have h := CT.out (j : Int) W hb
          rw [hm] at h
          exact h
        have HX : Hid (l[k] = (j : Int) ∧ T.getD j 0 = y ∧ l.count (j : Int) = m ∧ (j : Int) ∈ l) := ⟨hx, hy, hm, hmem⟩
        have BR : Hid (Below w'.heap.size w' wr) := HB.out.1
        clear hq t1 hx hy hm hmem hj
        by_cases hlt2 : y < m
        · have hdy : decide (y < (m : Int)) = true := decide_eq_true hlt2
          have HF : Hid (R = false) := by
            show _ = _
            cases hR : R with
            | false => rfl
            | true =>
              have := HW.out.1 hR (j : Int) HX.out.2.2.2
              rw [HX.out.2.2.1, Int.toNat_natCast, HX.out.2.1] at this
              omega
          clear hlt2
          go_upto_region 6 with fail
          go_region_held3 (fun W => W.cell? ⟨w.heap.size, 2, none⟩ = some (.slice (some ⟨q, off, none⟩) n c) ∧ W.cell? ⟨w.heap.size + 1, j, none⟩ = some (.int .i64 y))
            (first | exact CS.out _ B3.out | exact CS.out _ BR.out.drew | exact CS.out _ BR.out)
            (first
              | (go_simp; go_at_call 51; refine Calls.mono (C3.out _ ?_) ?_; (first | exact BR.out.drew | exact BR.out); rintro e W3 ⟨rfl, B3⟩))
          all_goals
            go_wp2
            go_ret
            exact ⟨Tk.ret_bool HF.out.symm, (CF.out _ B3.out).2.2⟩
        · have hdy : decide (y < (m : Int)) = false := decide_eq_false hlt2
          have HN : Hid (∀ f, f ∈ l.take (k + 1) → (l.count f : Int) ≤ T.getD f.toNat 0) := fun f hf => by
            rw [Tm.take_snoc _ _ hkl] at hf
            rcases List.mem_append.1 hf with hf | hf
            · exact HB.out.2 f hf
            · simp only [List.mem_cons, List.not_mem_nil, or_false] at hf
              rw [hf, HX.out.1, HX.out.2.2.1, Int.toNat_natCast, HX.out.2.1]
              omega
          clear hlt2
          go_upto_region 6 with fail
          go_region_held3 (fun W => W.cell? ⟨w.heap.size, 2, none⟩ = some (.slice (some ⟨q, off, none⟩) n c) ∧ W.cell? ⟨w.heap.size + 1, j, none⟩ = some (.int .i64 y))
            (first | exact CS.out _ B3.out | exact CS.out _ BR.out.drew | exact CS.out _ BR.out)
            (first
              | (go_simp; go_at_call 51; refine Calls.mono (C3.out _ ?_) ?_; (first | exact BR.out.drew | exact BR.out); rintro e W3 ⟨rfl, B3⟩))
          all_goals
            go_wp2
            go_roundg (gk - 1)
            case measure => omega
            case rel => exact ⟨k + 1, by omega, by go_num, B3.out, HN.out⟩
      · have hd : decide ((k : Int) < n) = false := decide_eq_false (by omega)
        have HF : Hid (R = true) := by
          refine HW.out.2 fun f hf => HB.out.2 f ?_
          rw [List.take_of_length_le (by rw [HC.out.2]; omega)]
          exact hf
        go_wp2
        go_ret
        exact ⟨Tk.ret_bool HF.out.symm, (CF.out _ HB.out.1).2.2⟩

end Go.Proofs

namespace Go.Proofs
open Go.RowKit Go.Shelf

/-- The worlds that the document's Do goes through. -/
structure Ru.Ew (w : World) (rb : Array Value) (A : List Int) (W : World) : Prop where
  below : Below w.heap.size w W
  rul : W.heap[w.heap.size]? = some (.cells rb 54 (0, 0))
  tok : Ru.Arr W (w.heap.size + 1) A
  res : Ru.Arr W (w.heap.size + 1 + 1) Ru.zs
theorem Ru.Ew.next {w : World} {rb : Array Value} {A : List Int} {W W' : World} (h : Ru.Ew w rb A W) (hb : Below W.heap.size W W') : Ru.Ew w rb A W' :=
  ⟨h.below.trans (hb.mono h.below.size), by rw [hb.block _ (Ru.lt_of h.rul)]; exact h.rul, h.tok.below hb h.tok.lt, h.res.below hb h.res.lt⟩
theorem Ru.Ew.set {w : World} {rb : Array Value} {A : List Int} {W : World} (h : Ru.Ew w rb A W) {b : Nat} (hb : w.heap.size + 1 + 1 < b) (p : Nat) (v : Value) : Ru.Ew w rb A (W.setCell ⟨b, p, none⟩ v) :=
  ⟨h.below.setCell (p := ⟨b, p, none⟩) (by show w.heap.size ≤ b; omega) _, by rw [Below.heap_setCell _ _ _ _ (by show w.heap.size ≠ b; omega)]; exact h.rul, h.tok.other (by omega) _ _, h.res.other (by omega) _ _⟩
theorem Ru.Ew.ends {w : World} {rb : Array Value} {A : List Int} {W : World} (h : Ru.Ew w rb A W) (S : List Int) (hS : S.length = 40) (tmps : Array Value) (ht : tmps.getD 4 undef = .pointer (some ⟨w.heap.size + 1 + 1, 0, none⟩)) :
    (results Tryd.f21 tmps).run Tryd.prog (W.setRow (w.heap.size + 1 + 1) (Ru.arr S)) = .ok (.tuple #[.agg (Ru.arr S), tmps.getD 5 undef]) (W.setRow (w.heap.size + 1 + 1) (Ru.arr S)) ∧ Below w.heap.size w (W.setRow (w.heap.size + 1 + 1) (Ru.arr S)) :=
  ⟨Ru.results2 Tryd.results21 _ _ (w.heap.size + 1 + 1) S hS ht (h.res.row S), Tk.below_row h.below (by omega) _⟩
theorem Ru.Ew.zero {w : World} {rb : Array Value} {A : List Int} {W : World} (h : Ru.Ew w rb A W) (tmps : Array Value) (ht : tmps.getD 4 undef = .pointer (some ⟨w.heap.size + 1 + 1, 0, none⟩)) :
    (results Tryd.f21 tmps).run Tryd.prog (W.setRow (w.heap.size + 1 + 1) #[.int .i64 0, .int .i64 0, .int .i64 0, .int .i64 0, .int .i64 0, .int .i64 0, .int .i64 0, .int .i64 0, .int .i64 0, .int .i64 0, .int .i64 0, .int .i64 0, .int .i64 0, .int .i64 0, .int .i64 0, .int .i64 0, .int .i64 0, .int .i64 0, .int .i64 0, .int .i64 0, .int .i64 0, .int .i64 0, .int .i64 0, .int .i64 0, .int .i64 0, .int .i64 0, .int .i64 0, .int .i64 0, .int .i64 0, .int .i64 0, .int .i64 0, .int .i64 0, .int .i64 0, .int .i64 0, .int .i64 0, .int .i64 0, .int .i64 0, .int .i64 0, .int .i64 0, .int .i64 0]) = .ok (.tuple #[.agg #[.int .i64 0, .int .i64 0, .int .i64 0, .int .i64 0, .int .i64 0, .int .i64 0, .int .i64 0, .int .i64 0, .int .i64 0, .int .i64 0, .int .i64 0, .int .i64 0, .int .i64 0, .int .i64 0, .int .i64 0, .int .i64 0, .int .i64 0, .int .i64 0, .int .i64 0, .int .i64 0, .int .i64 0, .int .i64 0, .int .i64 0, .int .i64 0, .int .i64 0, .int .i64 0, .int .i64 0, .int .i64 0, .int .i64 0, .int .i64 0, .int .i64 0, .int .i64 0, .int .i64 0, .int .i64 0, .int .i64 0, .int .i64 0, .int .i64 0, .int .i64 0, .int .i64 0, .int .i64 0], tmps.getD 5 undef]) (W.setRow (w.heap.size + 1 + 1) #[.int .i64 0, .int .i64 0, .int .i64 0, .int .i64 0, .int .i64 0, .int .i64 0, .int .i64 0, .int .i64 0, .int .i64 0, .int .i64 0, .int .i64 0, .int .i64 0, .int .i64 0, .int .i64 0, .int .i64 0, .int .i64 0, .int .i64 0, .int .i64 0, .int .i64 0, .int .i64 0, .int .i64 0, .int .i64 0, .int .i64 0, .int .i64 0, .int .i64 0, .int .i64 0, .int .i64 0, .int .i64 0, .int .i64 0, .int .i64 0, .int .i64 0, .int .i64 0, .int .i64 0, .int .i64 0, .int .i64 0, .int .i64 0, .int .i64 0, .int .i64 0, .int .i64 0, .int .i64 0]) ∧ Below w.heap.size w (W.setRow (w.heap.size + 1 + 1) #[.int .i64 0, .int .i64 0, .int .i64 0, .int .i64 0, .int .i64 0, .int .i64 0, .int .i64 0, .int .i64 0, .int .i64 0, .int .i64 0, .int .i64 0, .int .i64 0, .int .i64 0, .int .i64 0, .int .i64 0, .int .i64 0, .int .i64 0, .int .i64 0, .int .i64 0, .int .i64 0, .int .i64 0, .int .i64 0, .int .i64 0, .int .i64 0, .int .i64 0, .int .i64 0, .int .i64 0, .int .i64 0, .int .i64 0, .int .i64 0, .int .i64 0, .int .i64 0, .int .i64 0, .int .i64 0, .int .i64 0, .int .i64 0, .int .i64 0, .int .i64 0, .int .i64 0, .int .i64 0]) := by
  have := h.ends Ru.zs (by kernel_rfl) tmps ht
  rw [Ru.zs_arr] at this
  exact this

set_option maxRecDepth 20000 in
set_option maxHeartbeats 16000000 in
theorem Tryd.rdo_any (kd nd : Int) (T : List Int) (u1 u2 : Value) (ne gi : List Int) (w : World) (hT : Ru.Fit T) (hu1 : Ru.Nums w u1 ne) (hu2 : Ru.Nums w u2 gi) (hl1 : ne.length ≤ 1000000) (hl2 : gi.length ≤ 1000000) :
    Calls Tryd.prog 21 #[.agg #[.int .i64 kd, .int .i64 nd, u1, u2], .agg (Ru.arr T)] w fun e w' => e = .returned (.tuple #[.agg (Ru.arr (Ru.doP T ne gi).1), .int .i64 (Ru.doP T ne gi).2]) ∧ Below w.heap.size w w' := by
  obtain ⟨a, c, rfl, hc1⟩ := id hu1
  obtain ⟨a2, c2, rfl, hc2⟩ := id hu2
  obtain ⟨n, hn⟩ : ∃ n, ne.length = n := ⟨_, rfl⟩
  obtain ⟨n2, hn2⟩ : ∃ n, gi.length = n := ⟨_, rfl⟩
  rw [hn] at hu1 ⊢
  rw [hn2] at hu2 ⊢
  obtain ⟨A, hA⟩ : ∃ A, Ru.arr T = A := ⟨_, rfl⟩
  obtain ⟨w3, hw3⟩ : ∃ x, ((w.alloc (.cells #[.int .i64 kd, .int .i64 nd, .slice a n c, .slice a2 n2 c2] 54)).alloc (.cells A 56)).alloc (.cells #[.int .i64 0, .int .i64 0, .int .i64 0, .int .i64 0, .int .i64 0, .int .i64 0, .int .i64 0, .int .i64 0, .int .i64 0, .int .i64 0, .int .i64 0, .int .i64 0, .int .i64 0, .int .i64 0, .int .i64 0, .int .i64 0, .int .i64 0, .int .i64 0, .int .i64 0, .int .i64 0, .int .i64 0, .int .i64 0, .int .i64 0, .int .i64 0, .int .i64 0, .int .i64 0, .int .i64 0, .int .i64 0, .int .i64 0, .int .i64 0, .int .i64 0, .int .i64 0, .int .i64 0, .int .i64 0, .int .i64 0, .int .i64 0, .int .i64 0, .int .i64 0, .int .i64 0, .int .i64 0] 56) = x := ⟨_, rfl⟩
  have K3 : Ru.Ew w #[.int .i64 kd, .int .i64 nd, .slice a n c, .slice a2 n2 c2] T w3 := by
    rw [← hw3]
    refine ⟨(((Below.refl _ w).alloc (Nat.le_refl _) _).alloc (by simp) _).alloc (by simp; omega) _, ?_, ?_, ?_⟩
    · rw [Below.heap_alloc _ _ _ (by simp; omega), Below.heap_alloc _ _ _ (by simp)]
      exact heap_alloc_new w _
    · unfold Ru.Arr
      rw [Below.heap_alloc _ _ _ (by simp), hA]
      have := heap_alloc_new (w.alloc (.cells #[.int .i64 kd, .int .i64 nd, .slice a n c, .slice a2 n2 c2] 54)) (.cells A 56)
      simpa using this
    · unfold Ru.Arr
      have := heap_alloc_new ((w.alloc (.cells #[.int .i64 kd, .int .i64 nd, .slice a n c, .slice a2 n2 c2] 54)).alloc (.cells A 56)) (.cells #[.int .i64 0, .int .i64 0, .int .i64 0, .int .i64 0, .int .i64 0, .int .i64 0, .int .i64 0, .int .i64 0, .int .i64 0, .int .i64 0, .int .i64 0, .int .i64 0, .int .i64 0, .int .i64 0, .int .i64 0, .int .i64 0, .int .i64 0, .int .i64 0, .int .i64 0, .int .i64 0, .int .i64 0, .int .i64 0, .int .i64 0, .int .i64 0, .int .i64 0, .int .i64 0, .int .i64 0, .int .i64 0, .int .i64 0, .int .i64 0, .int .i64 0, .int .i64 0, .int .i64 0, .int .i64 0, .int .i64 0, .int .i64 0, .int .i64 0, .int .i64 0, .int .i64 0, .int .i64 0] 56)
      rw [Ru.zs_arr]
      simpa using this
  have B3 : Below w.heap.size w w3 := K3.below
  have C1 : Hid _ := Tryd.rin_any (.slice a n c) ne w3 (hu1.below B3) hl1
  have C2 : Hid _ := Tryd.rin_any (.slice a2 n2 c2) gi w3 (hu2.below B3) hl2
  have C3 := Tryd.rcan_any kd nd T (.slice a n c) a2 n2 c2 ne w3 hT (hu1.below B3) hl1
  obtain ⟨z1, hz1⟩ : ∃ z, ne.any Ru.noB = z := ⟨_, rfl⟩
  obtain ⟨z2, hz2⟩ : ∃ z, gi.any Ru.noB = z := ⟨_, rfl⟩
  obtain ⟨R, hR⟩ : ∃ R, Ru.without T ne = R := ⟨_, rfl⟩
  obtain ⟨D, hD⟩ : ∃ D, Ru.doP T ne gi = D := ⟨_, rfl⟩
  have HD : Hid (D = Ru.doR (z1 || z2) R gi) := by show _ = _; rw [← hD, Ru.doP, hz1, hz2, hR]
  rw [hz1] at C1
  rw [hz2] at C2
  rw [hR, hA] at C3
  rw [hD, hA]
  have HK : Hid (Ru.Ew w #[.int .i64 kd, .int .i64 nd, .slice a n c, .slice a2 n2 c2] T w3) := K3
  have H3 : Hid (((w.alloc (.cells #[.int .i64 kd, .int .i64 nd, .slice a n c, .slice a2 n2 c2] 54)).alloc (.cells A 56)).alloc (.cells #[.int .i64 0, .int .i64 0, .int .i64 0, .int .i64 0, .int .i64 0, .int .i64 0, .int .i64 0, .int .i64 0, .int .i64 0, .int .i64 0, .int .i64 0, .int .i64 0, .int .i64 0, .int .i64 0, .int .i64 0, .int .i64 0, .int .i64 0, .int .i64 0, .int .i64 0, .int .i64 0, .int .i64 0, .int .i64 0, .int .i64 0, .int .i64 0, .int .i64 0, .int .i64 0, .int .i64 0, .int .i64 0, .int .i64 0, .int .i64 0, .int .i64 0, .int .i64 0, .int .i64 0, .int .i64 0, .int .i64 0, .int .i64 0, .int .i64 0, .int .i64 0, .int .i64 0, .int .i64 0] 56) = w3) := hw3
  have HT : Hid (Ru.Fit T ∧ Ru.arr T = A ∧ (∀ Q, R = some Q → Ru.Fit Q) ∧ Ru.without T ne = R) := ⟨hT, hA, fun Q h => Ru.without_fit hT (hR.trans h), hR⟩
  have HC : Hid ((∀ j (h : j < gi.length), ∃ g off, a2 = some ⟨g, off, none⟩ ∧ g < w.heap.size ∧ w.cell? ⟨g, off + j, none⟩ = some (.int .i64 gi[j])) ∧ gi.length = n2 ∧ (z2 = false → ∀ x, x ∈ gi → Ru.noB x = false)) := ⟨fun j hj => by
    obtain ⟨g, off, cs, fr, h1, h2, h3⟩ := hc2 j hj
    exact ⟨g, off, h1, Ru.lt_of h2, h3⟩, hn2, fun hz x hx => by
      have := List.any_eq_false.1 (hz2.trans hz) x hx
      simpa using this⟩
  have HE : Hid ((∀ j (h : j < ne.length), ∃ g off, a = some ⟨g, off, none⟩ ∧ g < w.heap.size ∧ w.cell? ⟨g, off + j, none⟩ = some (.int .i64 ne[j])) ∧ ne.length = n) := ⟨fun j hj => by
    obtain ⟨g, off, cs, fr, h1, h2, h3⟩ := hc1 j hj
    exact ⟨g, off, h1, Ru.lt_of h2, h3⟩, hn⟩
  have hu := Tryd.underlying56
  have hur := Tryd.underlying54
  have hnn1 : n ≤ 1000000 := by omega
  have hnn2 : n2 ≤ 1000000 := by omega
  obtain ⟨q2, q3⟩ := Ru.box4 K3.rul
  have N1 := K3.rul
  have N4 := K3.res
  rw [Ru.Arr, Ru.zs_arr] at N4
  have hi : (Tryd.prog.info? 56).map (·.size) = some A.size := by rw [← hA]; exact hT.info
  have N3 := K3.tok
  rw [Ru.Arr, hA] at N3
  obtain ⟨sm, hsm⟩ : ∃ b, R.isSome = b := ⟨_, rfl⟩
  rw [hsm] at C3
  have HSM : Hid (R.isSome = sm) := hsm
  have HC3 : Hid _ := C3
  clear hu1 hu2 hc1 hc2 hn hn2 hA hw3 K3 B3 C3 hz1 hz2 hR hD hl1 hl2 hT hsm
  by_cases hz : (z1 || z2) = true
  · have hDv : D = (Ru.zs, 4) := by rw [HD.out]; exact Ru.doR_bad hz
    subst hDv
    have fin : Hid _ := fun tmps ht => HK.out.zero tmps ht
    show Calls _ _ _ _ fun e w' => e = .returned (.tuple #[.agg (Ru.arr Ru.zs), .int .i64 4]) ∧ _
    rw [Ru.zs_arr]
    cases z1 with
    | true =>
      clear hz C2 HC3 N1 N3
      go_enter Tryd.func21, Tryd.ntmps21
      go_upto_region 1 with fail
      rw [H3.out]
      go_wp2_with fail
      refine Calls.mono C1.out ?_
      rintro e w' ⟨rfl, rfl⟩
      clear C1 H3
      go_upto_region 2 with fail
      go_wp2_with (refine wpList_store_row rfl 56 _ _ rfl (w.heap.size + 1 + 1) #[.int .i64 0, .int .i64 0, .int .i64 0, .int .i64 0, .int .i64 0, .int .i64 0, .int .i64 0, .int .i64 0, .int .i64 0, .int .i64 0, .int .i64 0, .int .i64 0, .int .i64 0, .int .i64 0, .int .i64 0, .int .i64 0, .int .i64 0, .int .i64 0, .int .i64 0, .int .i64 0, .int .i64 0, .int .i64 0, .int .i64 0, .int .i64 0, .int .i64 0, .int .i64 0, .int .i64 0, .int .i64 0, .int .i64 0, .int .i64 0, .int .i64 0, .int .i64 0, .int .i64 0, .int .i64 0, .int .i64 0, .int .i64 0, .int .i64 0, .int .i64 0, .int .i64 0, .int .i64 0] rfl rfl 56 _ N4 (by kernel_rfl) rfl (by kernel_rfl) ?_)
      exact bodyPost_ret (fin.out _ rfl).1 rfl ⟨rfl, (fin.out #[undef, undef, undef, undef, .pointer (some ⟨w.heap.size + 1 + 1, 0, none⟩)] rfl).2⟩
    | false =>
      have hz2' : z2 = true := by simpa using hz
      subst hz2'
      clear hz HC3 N1 N3
      go_enter Tryd.func21, Tryd.ntmps21
      go_upto_region 1 with fail
      rw [H3.out]
      go_wp2_with fail
      refine Calls.mono C1.out ?_
      rintro e w' ⟨rfl, rfl⟩
      go_wp2_with fail
      refine Calls.mono C2.out ?_
      rintro e w' ⟨rfl, rfl⟩
      clear C1 C2 H3
      go_upto_region 2 with fail
      go_wp2_with (refine wpList_store_row rfl 56 _ _ rfl (w.heap.size + 1 + 1) #[.int .i64 0, .int .i64 0, .int .i64 0, .int .i64 0, .int .i64 0, .int .i64 0, .int .i64 0, .int .i64 0, .int .i64 0, .int .i64 0, .int .i64 0, .int .i64 0, .int .i64 0, .int .i64 0, .int .i64 0, .int .i64 0, .int .i64 0, .int .i64 0, .int .i64 0, .int .i64 0, .int .i64 0, .int .i64 0, .int .i64 0, .int .i64 0, .int .i64 0, .int .i64 0, .int .i64 0, .int .i64 0, .int .i64 0, .int .i64 0, .int .i64 0, .int .i64 0, .int .i64 0, .int .i64 0, .int .i64 0, .int .i64 0, .int .i64 0, .int .i64 0, .int .i64 0, .int .i64 0] rfl rfl 56 _ N4 (by kernel_rfl) rfl (by kernel_rfl) ?_)
      exact bodyPost_ret (fin.out _ rfl).1 rfl ⟨rfl, (fin.out #[undef, undef, undef, undef, .pointer (some ⟨w.heap.size + 1 + 1, 0, none⟩)] rfl).2⟩
  have hz1 : z1 = false := by cases z1 <;> simp at hz ⊢
  have hz2 : z2 = false := by cases z2 <;> simp_all
  subst hz1 hz2
  clear hz
  go_enter Tryd.func21, Tryd.ntmps21
  go_upto_region 1 with fail
  rw [H3.out]
  go_wp2_with fail
  refine Calls.mono C1.out ?_
  rintro e w' ⟨rfl, rfl⟩
  go_wp2_with fail
  refine Calls.mono C2.out ?_
  rintro e w' ⟨rfl, rfl⟩
  clear C1 C2 H3
  go_upto_region 3 with fail
  go_wp2_with (first | refine wpList_load_row rfl 54 _ rfl _ rfl 54 #[.int .i64 kd, .int .i64 nd, .slice a n c, .slice a2 n2 c2] (0, 0) _ N1 hur rfl (by kernel_rfl) ?_ | refine wpList_load_row rfl 56 _ rfl _ rfl 56 A (0, 0) _ N3 hu rfl hi ?_ | fail)
  refine Calls.mono HC3.out ?_
  rintro e W ⟨rfl, hb⟩
  have HKW : Hid (Ru.Ew w #[.int .i64 kd, .int .i64 nd, .slice a n c, .slice a2 n2 c2] T W) := HK.out.next hb
  clear hb HC3 N1 N3 N4 HK q2 q3
  have N4 := HKW.out.res
  rw [Ru.Arr, Ru.zs_arr] at N4
  have N3 := HKW.out.tok
  rw [Ru.Arr, HT.out.2.1] at N3
  cases sm with
  | false =>
    have hR0 : R = none := Option.not_isSome_iff_eq_none.1 (by rw [HSM.out]; simp)
    have hDv : D = (Ru.zs, 6) := by rw [HD.out, hR0]; rfl
    subst hDv
    have fin : Hid _ := fun tmps ht => HKW.out.zero tmps ht
    clear hR0 N3
    go_upto_region 4 with fail
    go_wp2_with (refine wpList_store_row rfl 56 _ _ rfl (w.heap.size + 1 + 1) #[.int .i64 0, .int .i64 0, .int .i64 0, .int .i64 0, .int .i64 0, .int .i64 0, .int .i64 0, .int .i64 0, .int .i64 0, .int .i64 0, .int .i64 0, .int .i64 0, .int .i64 0, .int .i64 0, .int .i64 0, .int .i64 0, .int .i64 0, .int .i64 0, .int .i64 0, .int .i64 0, .int .i64 0, .int .i64 0, .int .i64 0, .int .i64 0, .int .i64 0, .int .i64 0, .int .i64 0, .int .i64 0, .int .i64 0, .int .i64 0, .int .i64 0, .int .i64 0, .int .i64 0, .int .i64 0, .int .i64 0, .int .i64 0, .int .i64 0, .int .i64 0, .int .i64 0, .int .i64 0] rfl rfl 56 _ N4 (by kernel_rfl) rfl (by kernel_rfl) ?_)
    refine bodyPost_ret (fin.out _ rfl).1 rfl ⟨?_, (fin.out #[undef, undef, undef, undef, .pointer (some ⟨w.heap.size + 1 + 1, 0, none⟩)] rfl).2⟩
    rw [Ru.zs_arr]
    rfl
  | true =>
    obtain ⟨T1, hT1⟩ : ∃ T1, R = some T1 := Option.isSome_iff_exists.1 HSM.out
    subst hT1
    have N5 := heap_alloc_new W (.cells #[.int .i64 0, .int .i64 0, .int .i64 0, .int .i64 0, .int .i64 0, .int .i64 0, .int .i64 0, .int .i64 0, .int .i64 0, .int .i64 0, .int .i64 0, .int .i64 0, .int .i64 0, .int .i64 0, .int .i64 0, .int .i64 0, .int .i64 0, .int .i64 0, .int .i64 0, .int .i64 0, .int .i64 0, .int .i64 0, .int .i64 0, .int .i64 0, .int .i64 0, .int .i64 0, .int .i64 0, .int .i64 0, .int .i64 0, .int .i64 0, .int .i64 0, .int .i64 0, .int .i64 0, .int .i64 0, .int .i64 0, .int .i64 0, .int .i64 0, .int .i64 0, .int .i64 0, .int .i64 0] 56)
    have hj1 : (#[.int .i64 0, .int .i64 0, .int .i64 0, .int .i64 0, .int .i64 0, .int .i64 0, .int .i64 0, .int .i64 0, .int .i64 0, .int .i64 0, .int .i64 0, .int .i64 0, .int .i64 0, .int .i64 0, .int .i64 0, .int .i64 0, .int .i64 0, .int .i64 0, .int .i64 0, .int .i64 0, .int .i64 0, .int .i64 0, .int .i64 0, .int .i64 0, .int .i64 0, .int .i64 0, .int .i64 0, .int .i64 0, .int .i64 0, .int .i64 0, .int .i64 0, .int .i64 0, .int .i64 0, .int .i64 0, .int .i64 0, .int .i64 0, .int .i64 0, .int .i64 0, .int .i64 0, .int .i64 0] : Array Value).size = A.size := by rw [← HT.out.2.1, Ru.arr_size, HT.out.1.1]; kernel_rfl
    have hj2 : A.all (·.oneCell') = true := by rw [← HT.out.2.1]; exact Ru.arr_all _
    have N3' : (W.alloc (.cells #[.int .i64 0, .int .i64 0, .int .i64 0, .int .i64 0, .int .i64 0, .int .i64 0, .int .i64 0, .int .i64 0, .int .i64 0, .int .i64 0, .int .i64 0, .int .i64 0, .int .i64 0, .int .i64 0, .int .i64 0, .int .i64 0, .int .i64 0, .int .i64 0, .int .i64 0, .int .i64 0, .int .i64 0, .int .i64 0, .int .i64 0, .int .i64 0, .int .i64 0, .int .i64 0, .int .i64 0, .int .i64 0, .int .i64 0, .int .i64 0, .int .i64 0, .int .i64 0, .int .i64 0, .int .i64 0, .int .i64 0, .int .i64 0, .int .i64 0, .int .i64 0, .int .i64 0, .int .i64 0] 56)).heap[w.heap.size + 1]? = some (.cells A 56 (0, 0)) := by rw [Below.heap_alloc _ _ _ (Ru.lt_of N3)]; exact N3
    obtain ⟨W5, hW5⟩ : ∃ x, (W.alloc (.cells #[.int .i64 0, .int .i64 0, .int .i64 0, .int .i64 0, .int .i64 0, .int .i64 0, .int .i64 0, .int .i64 0, .int .i64 0, .int .i64 0, .int .i64 0, .int .i64 0, .int .i64 0, .int .i64 0, .int .i64 0, .int .i64 0, .int .i64 0, .int .i64 0, .int .i64 0, .int .i64 0, .int .i64 0, .int .i64 0, .int .i64 0, .int .i64 0, .int .i64 0, .int .i64 0, .int .i64 0, .int .i64 0, .int .i64 0, .int .i64 0, .int .i64 0, .int .i64 0, .int .i64 0, .int .i64 0, .int .i64 0, .int .i64 0, .int .i64 0, .int .i64 0, .int .i64 0, .int .i64 0] 56)).setRow W.heap.size A = x := ⟨_, rfl⟩
    have HL : Hid (Ru.Ew w #[.int .i64 kd, .int .i64 nd, .slice a n c, .slice a2 n2 c2] T W5 ∧ Ru.Arr W5 W.heap.size T ∧ w.heap.size + 1 + 1 < W.heap.size) := by
      refine ⟨?_, ?_, HKW.out.res.lt⟩
      · rw [← hW5]
        exact HKW.out.next (Tk.below_row ((Below.refl _ W).alloc (Nat.le_refl _) _) (Nat.le_refl _) _)
      · rw [← hW5, ← HT.out.2.1, Ru.Arr]
        exact setRow_heap _ _ _ _ _ _ N5
    have H5 : Hid ((W.alloc (.cells #[.int .i64 0, .int .i64 0, .int .i64 0, .int .i64 0, .int .i64 0, .int .i64 0, .int .i64 0, .int .i64 0, .int .i64 0, .int .i64 0, .int .i64 0, .int .i64 0, .int .i64 0, .int .i64 0, .int .i64 0, .int .i64 0, .int .i64 0, .int .i64 0, .int .i64 0, .int .i64 0, .int .i64 0, .int .i64 0, .int .i64 0, .int .i64 0, .int .i64 0, .int .i64 0, .int .i64 0, .int .i64 0, .int .i64 0, .int .i64 0, .int .i64 0, .int .i64 0, .int .i64 0, .int .i64 0, .int .i64 0, .int .i64 0, .int .i64 0, .int .i64 0, .int .i64 0, .int .i64 0] 56)).setRow W.heap.size A = W5) := hW5
    have hW : w.heap.size + 1 + 1 < W.heap.size := HL.out.2.2
    obtain ⟨x2, x3⟩ := Ru.box4 HL.out.1.rul
    clear hW5 N4
    go_upto_region 5 with fail
    go_upto_region 6 with (first | (refine wpList_load_row rfl 56 _ rfl _ rfl 56 A (0, 0) _ N3 hu rfl hi ?_) | (refine wpList_store_row rfl 56 _ _ rfl W.heap.size A rfl rfl 56 _ N5 hi hj1 hj2 ?_; rw [H5.out]) | fail)
    clear N5 H5 hj1 hj2 HSM N3 N3'
    go_wp2
    clear x2 x3
    go_loopg [31] n (fun gk s31 wr => ∃ (k : Nat) (Tt : List Int), gk + k = n ∧ s31 = .int .i64 k ∧ Hid (Ru.without T (ne.take k) = some Tt ∧ Ru.Fit Tt ∧ Ru.Ew w #[.int .i64 kd, .int .i64 nd, .slice a n c, .slice a2 n2 c2] T wr ∧ Ru.Arr wr W.heap.size Tt))
    case atStart => exact ⟨0, T, by omega, rfl, rfl, HT.out.1, HL.out.1, HL.out.2.1⟩
    case round =>
      obtain ⟨k, Tt, hk, rfl, HB⟩ := hrel
      by_cases hlt : k < n
      · have hd : decide ((k : Int) < n) = true := decide_eq_true (by omega)
        have hkl : k < ne.length := by rw [HE.out.2]; exact hlt
        obtain ⟨q, off, rfl, hq, h0⟩ := HE.out.1 k hkl
        rw [← HB.out.2.2.1.below.cell (p := ⟨q, off + k, none⟩) hq] at h0
        obtain ⟨x, hx⟩ : ∃ x, ne[k] = x := ⟨_, rfl⟩
        rw [hx] at h0
        have hX : Ru.without T (ne.take (k + 1)) = Ru.takeW Tt x := by
          rw [Tm.take_snoc _ _ hkl, hx, Ru.without, Ru.fold_snoc, ← Ru.without, HB.out.1]
          rfl
        have hnb := Ru.without_no HT.out.2.2.2 x (by rw [← hx]; exact List.getElem_mem hkl)
        obtain ⟨j, rfl, hj⟩ := Ru.no_or x hnb
        obtain ⟨y, hy⟩ : ∃ y, Tt.getD j 0 = y := ⟨_, rfl⟩
        obtain ⟨t1, t2, t3⟩ := HB.out.2.1.at hj
        rw [hy] at t1 t2 t3
        have hy1 : ¬ y < 1 := fun h => by
          have : Ru.without T ne = none := Ru.fold_take_none _ _ _ (k + 1) (hX.trans (by rw [Ru.takeW, if_pos (by right; right; rw [Int.toNat_natCast, hy]; exact h)]))
          rw [HT.out.2.2.2] at this
          cases this
        have HN : Hid (Ru.without T (ne.take (k + 1)) = some (Tt.set j (y - 1))) := by
          show _ = _
          rw [hX, Ru.takeW, if_neg (by rw [Int.toNat_natCast, hy]; omega), Int.toNat_natCast, hy]
        have z0 := HB.out.2.2.2.cell j y t1
        have z1 := HB.out.2.2.2.frozen j
        have hj0 : (0 : Int) ≤ j := by omega
        have hj4 : (j : Int) < 40 := by omega
        have hwr : IntKind.i64.wrap (y - 1) = y - 1 := Go.IntWalk.i64_in _ (by omega)
        have HW : Hid (Ru.Ew w #[.int .i64 kd, .int .i64 nd, .slice (some ⟨q, off, none⟩) n c, .slice a2 n2 c2] T (wr.setCell ⟨W.heap.size, j, none⟩ (.int .i64 (y - 1))) ∧ Ru.Fit (Tt.set j (y - 1)) ∧ Ru.Arr (wr.setCell ⟨W.heap.size, j, none⟩ (.int .i64 (y - 1))) W.heap.size (Tt.set j (y - 1))) := ⟨HB.out.2.2.1.set hW _ _, HB.out.2.1.set _ _ (by omega), HB.out.2.2.2.put j (y - 1)⟩
        clear hnb t1 t2 t3 hy hy1 hj hX hx hq
        go_wp2
        go_roundg (gk - 1)
        case measure => omega
        case rel => exact ⟨k + 1, Tt.set j (y - 1), by omega, by go_num, HN.out, HW.out.2.1, HW.out.1, HW.out.2.2⟩
      · have hd : decide ((k : Int) < n) = false := decide_eq_false (by omega)
        have hTt : Tt = T1 := by
          have := HB.out.1
          rw [List.take_of_length_le (by rw [HE.out.2]; omega), HT.out.2.2.2] at this
          exact (Option.some.inj this).symm
        subst hTt
        obtain ⟨x2, x3⟩ := Ru.box4 HB.out.2.2.1.rul
        obtain ⟨g1, hg1⟩ : ∃ x, gk = x := ⟨_, rfl⟩
        obtain ⟨w6, hw6⟩ : ∃ x, wr = x := ⟨_, rfl⟩
        subst hg1
        subst hw6
        go_wp2
        clear x2 x3
        go_loopg [45] n2 (fun gk s45 wr => ∃ (k : Nat) (Tu : List Int), gk + k = n2 ∧ s45 = .int .i64 k ∧ Hid ((gi.take k).foldlM Ru.giveW Tt = some Tu ∧ Ru.Fit Tu ∧ Ru.Ew w #[.int .i64 kd, .int .i64 nd, .slice a n c, .slice a2 n2 c2] T wr ∧ Ru.Arr wr W.heap.size Tu))
        case atStart => exact ⟨0, Tt, by omega, rfl, rfl, HB.out.2.1, HB.out.2.2.1, HB.out.2.2.2⟩
        case round =>
          obtain ⟨k2, Tu, hk2, rfl, HB2⟩ := hrel
          by_cases hlt2 : k2 < n2
          · have hd2 : decide ((k2 : Int) < n2) = true := decide_eq_true (by omega)
            have hkl : k2 < gi.length := by rw [HC.out.2.1]; exact hlt2
            obtain ⟨q, off, rfl, hq, h0⟩ := HC.out.1 k2 hkl
            rw [← HB2.out.2.2.1.below.cell (p := ⟨q, off + k2, none⟩) hq] at h0
            obtain ⟨x, hx⟩ : ∃ x, gi[k2] = x := ⟨_, rfl⟩
            rw [hx] at h0
            have HX : Hid ((gi.take (k2 + 1)).foldlM Ru.giveW Tt = Ru.giveW Tu x) := by
              show _ = _
              rw [Tm.take_snoc _ _ hkl, hx, Ru.fold_snoc, HB2.out.1]
              rfl
            have hnb := HC.out.2.2 (by first | rfl | trivial) x (by rw [← hx]; exact List.getElem_mem hkl)
            clear hx hq
            obtain ⟨j, rfl, hj⟩ := Ru.no_or x hnb
            obtain ⟨y, hy⟩ : ∃ y, Tu.getD j 0 = y := ⟨_, rfl⟩
            obtain ⟨t1, t2, t3⟩ := HB2.out.2.1.at hj
            rw [hy] at t1 t2 t3
            have z0 := HB2.out.2.2.2.cell j y t1
            have z1 := HB2.out.2.2.2.frozen j
            have hj0 : (0 : Int) ≤ j := by omega
            have hj4 : (j : Int) < 40 := by omega
            by_cases hy1 : 2 < y
            · have hdy : decide (2 < y) = true := decide_eq_true hy1
              have hDv : D = (Ru.zs, 5) := by
                rw [HD.out]
                refine Ru.doR_full (Ru.fold_take_none _ _ _ (k2 + 1) (HX.out.trans ?_))
                rw [Ru.giveW, if_pos (by rw [Int.toNat_natCast, hy]; omega)]
              subst hDv
              have fin : Hid _ := fun tmps ht => HB2.out.2.2.1.zero tmps ht
              have N4 := HB2.out.2.2.1.res
              rw [Ru.Arr, Ru.zs_arr] at N4
              clear hnb t1 t2 t3 hy hy1 hj
              go_upto_region 15 with fail
              go_wp2_with (refine wpList_store_row rfl 56 _ _ rfl (w.heap.size + 1 + 1) #[.int .i64 0, .int .i64 0, .int .i64 0, .int .i64 0, .int .i64 0, .int .i64 0, .int .i64 0, .int .i64 0, .int .i64 0, .int .i64 0, .int .i64 0, .int .i64 0, .int .i64 0, .int .i64 0, .int .i64 0, .int .i64 0, .int .i64 0, .int .i64 0, .int .i64 0, .int .i64 0, .int .i64 0, .int .i64 0, .int .i64 0, .int .i64 0, .int .i64 0, .int .i64 0, .int .i64 0, .int .i64 0, .int .i64 0, .int .i64 0, .int .i64 0, .int .i64 0, .int .i64 0, .int .i64 0, .int .i64 0, .int .i64 0, .int .i64 0, .int .i64 0, .int .i64 0, .int .i64 0] rfl rfl 56 _ N4 (by kernel_rfl) rfl (by kernel_rfl) ?_)
              refine bodyPost_ret (fin.out _ rfl).1 rfl ⟨?_, (fin.out #[undef, undef, undef, undef, .pointer (some ⟨w.heap.size + 1 + 1, 0, none⟩)] rfl).2⟩
              rw [Ru.zs_arr]
              rfl
            · have hdy : decide (2 < y) = false := decide_eq_false hy1
              have hwr : IntKind.i64.wrap (y + 1) = y + 1 := Go.IntWalk.i64_in _ (by omega)
              have HN : Hid (Ru.giveW Tu j = some (Tu.set j (y + 1))) := by
                show _ = _
                rw [Ru.giveW, if_neg (by rw [Int.toNat_natCast, hy]; omega), Int.toNat_natCast, hy]
              have HW : Hid (Ru.Ew w #[.int .i64 kd, .int .i64 nd, .slice a n c, .slice (some ⟨q, off, none⟩) n2 c2] T (wr.setCell ⟨W.heap.size, j, none⟩ (.int .i64 (y + 1))) ∧ Ru.Fit (Tu.set j (y + 1)) ∧ Ru.Arr (wr.setCell ⟨W.heap.size, j, none⟩ (.int .i64 (y + 1))) W.heap.size (Tu.set j (y + 1))) := ⟨HB2.out.2.2.1.set hW _ _, HB2.out.2.1.set _ _ (by omega), HB2.out.2.2.2.put j (y + 1)⟩
              clear hnb t1 t2 t3 hy hy1 hj
              go_wp2
              go_roundg (gk - 1)
              case measure => omega
              case rel => exact ⟨k2 + 1, Tu.set j (y + 1), by omega, by go_num, HX.out.trans HN.out, HW.out.2.1, HW.out.1, HW.out.2.2⟩
          · have hd2 : decide ((k2 : Int) < n2) = false := decide_eq_false (by omega)
            have hDv : D = (Tu, 0) := by
              rw [HD.out]
              refine Ru.doR_ok ?_
              have := HB2.out.1
              rw [List.take_of_length_le (by rw [HC.out.2.1]; omega)] at this
              exact this
            subst hDv
            have N1 := HB2.out.2.2.2
            have N2 := HB2.out.2.2.1.res
            have hi2 := HB2.out.2.1.info
            have hi1 : (Ru.arr Ru.zs).size = (Ru.arr Tu).size := by rw [Ru.arr_size, Ru.arr_size, HB2.out.2.1.1]; kernel_rfl
            have ha := Ru.arr_all Tu
            have fin : Hid _ := fun tmps ht => HB2.out.2.2.1.ends Tu HB2.out.2.1.1 tmps ht
            obtain ⟨A2, hA2⟩ : ∃ A, Ru.arr Tu = A := ⟨_, rfl⟩
            unfold Ru.Arr at N1 N2
            rw [hA2] at N1 hi2 hi1 ha
            simp only [hA2] at fin
            have H6 : Hid (Ru.arr Tu = A2) := hA2
            clear hA2
            go_wp2_with (first
              | refine wpList_load_row rfl 56 _ rfl _ rfl 56 A2 (0, 0) _ N1 hu rfl hi2 ?_
              | refine wpList_store_row rfl 56 _ _ rfl (w.heap.size + 1 + 1) A2 rfl rfl 56 _ N2 hi2 hi1 ha ?_)
            refine bodyPost_ret (fin.out _ rfl).1 rfl ⟨?_, (fin.out #[undef, undef, undef, undef, .pointer (some ⟨w.heap.size + 1 + 1, 0, none⟩)] rfl).2⟩
            rw [H6.out]
            rfl

end Go.Proofs
