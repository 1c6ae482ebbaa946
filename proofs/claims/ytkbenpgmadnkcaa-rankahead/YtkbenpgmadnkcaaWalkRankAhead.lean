/-
  The walk of RankAhead.
-/
import Derived.Test.YtkbenpgmadnkcaaRkGrow
namespace Go.Proofs.Ytkbenpgmadnkcaa.RankAhead
open Go.RowKit Go.Shelf

/-- Numbers in a block of their own. -/
def Ats (w : World) (g : Nat) (l : List Nat) : Prop := w.heap[g]? = some (.cells (Rk.nums l).toArray 3 (0, 0))
theorem Ats.lt {w : World} {g : Nat} {l : List Nat} (h : Ats w g l) : g < w.heap.size := (Array.getElem?_eq_some_iff.1 h).1
theorem Ats.cell {w : World} {g : Nat} {l : List Nat} (h : Ats w g l) (j x : Nat) (hj : l[j]? = some x) : w.cell? ⟨g, j, none⟩ = some (.int .i64 (x : Int)) := by
  unfold Ats at h
  simp [World.cell?, h, Rk.nums, hj]
theorem Ats.frozen {w : World} {g : Nat} {l : List Nat} (h : Ats w g l) (j : Nat) : w.frozen? ⟨g, j, none⟩ = false := by
  unfold Ats at h
  simp [World.frozen?, h]
theorem Ats.put {w : World} {g : Nat} {l : List Nat} (h : Ats w g l) (j x : Nat) : Ats (w.setCell ⟨g, j, none⟩ (.int .i64 (x : Int))) g (l.set j x) := by
  unfold Ats at *
  simp [World.setCell, Array.getElem?_modify, h, Rk.nums]
theorem Ats.keep {w w' : World} {g : Nat} {l : List Nat} (h : Ats w g l) (hk : w'.heap[g]? = w.heap[g]?) : Ats w' g l := by unfold Ats; rw [hk]; exact h

def irow (n : Nat) : Array Value := (Rk.nums (List.replicate n 0)).toArray
theorem make_ints (n : Nat) (hn : n ≤ 64) (w : World) : (Instr.makeSlice 26 (.int .i64 (n : Int)) (.int .i64 (n : Int))).run Try.prog w = .ok (.slice (some ⟨w.heap.size, 0, none⟩) n n) (w.alloc (.cells (irow n) 3)) := by
  have h := run_make_row' (P := Try.prog) 26 3 (.int .i64 0) 8 Try.underlying26 Try.infoIntR rfl .i64 .i64 n (by omega) (by omega) w
  rw [h, show madeCells #[Value.int .i64 0] n = irow n from ?_]
  apply Array.toList_inj.1
  rw [toList_madeCells_one]
  simp [irow, Rk.nums]

/-- The places that the first loop writes. -/
def Placed (k i : Nat) (O ats : List Nat) (tk : List Bool) : Prop := ats.length = k ∧ tk.length = k ∧ (∀ x, Rk.on tk x ↔ x ∈ O.take i) ∧ ∀ (j : Nat) (h : j < O.length), j < i → ats[O[j]]? = some j
theorem Placed.start (k : Nat) (O : List Nat) : Placed k 0 O (List.replicate k 0) (List.replicate k false) := by
  refine ⟨by simp, by simp, fun x => ?_, fun j _ h => by omega⟩
  simp only [Rk.on, List.getElem?_replicate, List.take_zero, List.not_mem_nil, iff_false]
  split <;> simp
theorem Placed.fresh {k i : Nat} {O ats : List Nat} {tk : List Bool} (h : Placed k i O ats tk) (hn : O.Nodup) (hi : i < O.length) (hx : O[i] < k) : tk[O[i]]? = some false := by
  have hl : O[i] < tk.length := by rw [h.2.1]; exact hx
  rw [List.getElem?_eq_getElem hl]
  congr 1
  rw [Bool.eq_false_iff]
  intro hb
  have ho : Rk.on tk O[i] := by unfold Rk.on; rw [List.getElem?_eq_getElem hl, hb]
  obtain ⟨j, hj⟩ := List.mem_iff_getElem?.1 ((h.2.2.1 _).1 ho)
  rw [List.getElem?_take] at hj
  split at hj
  · next hji =>
    have := (List.getElem?_inj (by omega) hn).1 (hj.trans (List.getElem?_eq_getElem hi).symm)
    omega
  · simp at hj
theorem Placed.next {k i : Nat} {O ats : List Nat} {tk : List Bool} (h : Placed k i O ats tk) (hn : O.Nodup) (hi : i < O.length) (hx : O[i] < k) : Placed k (i + 1) O (ats.set O[i] i) (tk.set O[i] true) := by
  refine ⟨by simpa using h.1, by simpa using h.2.1, fun x => ?_, fun j hj hji => ?_⟩
  · rw [Rk.on_set (by rw [h.2.1]; exact hx), h.2.2.1, Tm.take_snoc _ _ hi, List.mem_append, List.mem_singleton]
    exact ⟨fun h => h.elim .inr .inl, fun h => h.elim .inr .inl⟩
  · rw [List.getElem?_set]
    by_cases e : j = i
    · subst e
      rw [if_pos rfl, if_pos (by rw [h.1]; exact hx)]
    · have hne : ¬ O[i] = O[j] := fun he => e ((List.getElem?_inj hj hn).1 (by rw [List.getElem?_eq_getElem hj, List.getElem?_eq_getElem hi, he]))
      rw [if_neg hne]
      exact h.2.2.2 j hj (by omega)

set_option maxHeartbeats 8000000 in
theorem walk (n : Int) (a : Option Addr) (c : Nat) (rs : List (Int × Int)) (w : World) (hE : Rk.Eds w w.heap.size a rs) (hm : rs.length ≤ 1000000000000000) :
    Calls Try.prog 6 #[.int .i64 n, .slice a rs.length c] w fun e w' => e = .returned (.bool true) ∧ Below w.heap.size w w' := by
  obtain ⟨m, hmm⟩ : ∃ m, rs.length = m := ⟨_, rfl⟩
  have HE : Hid (Rk.Eds w w.heap.size a rs ∧ rs.length = m) := ⟨hE, hmm⟩
  rw [hmm] at hm ⊢
  clear hE hmm
  have hcase : (decide (40 < n) = true ∧ decide (n ≤ 64) = true) ∨ (decide (40 < n) = false ∧ 300 < m) ∨ ((decide (40 < n) = true ∧ decide (n ≤ 64) = false) ∧ 300 < m) ∨ (m ≤ 300 ∧ (decide (40 < n) = false ∨ (decide (40 < n) = true ∧ decide (n ≤ 64) = false))) := by
    rcases Decidable.em (40 < n) with h | h
    · rcases Decidable.em (n ≤ 64) with h2 | h2
      · exact .inl ⟨decide_eq_true h, decide_eq_true h2⟩
      · rcases Decidable.em (300 < m) with h3 | h3
        · exact .inr (.inr (.inl ⟨⟨decide_eq_true h, decide_eq_false h2⟩, h3⟩))
        · exact .inr (.inr (.inr ⟨by omega, .inr ⟨decide_eq_true h, decide_eq_false h2⟩⟩))
    · rcases Decidable.em (300 < m) with h3 | h3
      · exact .inr (.inl ⟨decide_eq_false h, h3⟩)
      · exact .inr (.inr (.inr ⟨by omega, .inl (decide_eq_false h)⟩))
  rcases hcase with ⟨d1, d2⟩ | ⟨d1, h3⟩ | ⟨⟨d1, d2⟩, h3⟩ | ⟨hm3, hor⟩
  · go_enter Try.func6, Try.ntmps6
    go_wp2_with fail
    refine (Try.three_any _).mono ?_
    rintro e W1 ⟨rfl, hb⟩
    go_wp2
    go_ret
    exact ⟨rfl, hb⟩
  · have d3 : decide ((300 : Int) < m) = true := decide_eq_true (by omega)
    have d3' : decide (300 < m) = true := decide_eq_true h3
    go_enter Try.func6, Try.ntmps6
    go_wp2_with fail
    refine (Try.three_any _).mono ?_
    rintro e W1 ⟨rfl, hb⟩
    go_wp2
    go_ret
    exact ⟨rfl, hb⟩
  · have d3 : decide ((300 : Int) < m) = true := decide_eq_true (by omega)
    have d3' : decide (300 < m) = true := decide_eq_true h3
    go_enter Try.func6, Try.ntmps6
    go_wp2_with fail
    refine (Try.three_any _).mono ?_
    rintro e W1 ⟨rfl, hb⟩
    go_wp2
    go_ret
    exact ⟨rfl, hb⟩
  · have d3 : decide ((300 : Int) < m) = false := decide_eq_false (by omega)
    have d3' : decide (300 < m) = false := decide_eq_false (by omega)
    have hA := Rk.ahead_cases n rs
    have H1 : Hid _ := Try.order_all n a c rs w HE.out.1 (by rw [HE.out.2]; omega)
    have H2' : Hid (∀ W, Below w.heap.size w W → Calls Try.prog 12 #[.int .i64 n, .slice a m c] W (Rk.Gives (Rk.roundR n rs) W)) := fun W hb => by
      have := Try.round_all n a c rs W ((HE.out.1.below hb).wider hb.size) (by rw [HE.out.2]; omega)
      rwa [HE.out.2] at this
    have hLs := Rk.ordR_small n rs
    have hMs := Rk.roundR_small n rs
    rw [HE.out.2] at H1
    obtain ⟨⟨L, err⟩, hR⟩ : ∃ R, Rk.ordR n rs = R := ⟨_, rfl⟩
    obtain ⟨⟨M, er2⟩, hR2⟩ : ∃ R, Rk.roundR n rs = R := ⟨_, rfl⟩
    rw [hR] at H1 hLs hA
    rw [hR2] at H2' hMs hA
    simp only at hLs hMs hA
    clear hR hR2
    rcases hA with ⟨hne, he⟩ | ⟨he2, hpos, hL⟩ | ⟨he2, hz, k, es, rfl, hk, rfl, hes, hL, hlen⟩
    · have hd : (er2 == 0) = false := by simpa using hne
      subst he
      clear hne
      rcases hor with d1 | ⟨d1, d2⟩
      all_goals
        go_enter Try.func6, Try.ntmps6
        go_wp2_with fail
        refine Calls.mono H1.out ?_
        rintro e W1 ⟨v1, rfl, o1, hb1⟩
        obtain ⟨a1, c1, rfl⟩ := Rk.own_shape o1
        have H2 : Hid _ := H2'.out W1 hb1
        have B1 : Hid (Below w.heap.size w W1) := hb1
        clear hb1 o1 H1 H2'
        go_wp2_with fail
        refine Calls.mono H2.out ?_
        rintro e W2 ⟨v2, rfl, o2, hb2⟩
        obtain ⟨a2, c2, rfl⟩ := Rk.own_shape o2
        have B2 : Hid (Below w.heap.size w W2) := B1.out.trans (hb2.mono B1.out.size)
        clear hb2 o2 H2
        go_wp2_with fail
        refine (Try.three_any _).mono ?_
        rintro e W5 ⟨rfl, hb5⟩
        go_wp2
        go_ret
        exact ⟨rfl, B2.out.trans (hb5.mono B2.out.size)⟩
    · subst he2
      obtain ⟨rfl, rfl⟩ := Prod.mk.inj hL
      obtain ⟨k2, hk2⟩ : ∃ k, M.length = k := ⟨_, rfl⟩
      have HK : Hid (M.length = k2) := hk2
      rw [hk2] at hpos hMs
      clear hk2 hL hLs
      rcases hor with d1 | ⟨d1, d2⟩
      all_goals
        go_enter Try.func6, Try.ntmps6
        go_wp2_with fail
        refine Calls.mono H1.out ?_
        rintro e W1 ⟨v1, rfl, o1, hb1⟩
        obtain ⟨a1, c1, rfl⟩ := Rk.own_shape o1
        have H2 : Hid _ := H2'.out W1 hb1
        have B1 : Hid (Below w.heap.size w W1) := hb1
        clear hb1 o1 H1 H2'
        go_wp2_with fail
        refine Calls.mono H2.out ?_
        rintro e W2 ⟨v2, rfl, o2, hb2⟩
        obtain ⟨a2, c2, rfl⟩ := Rk.own_shape o2
        have B2 : Hid (Below w.heap.size w W2) := B1.out.trans (hb2.mono B1.out.size)
        clear hb2 o2 H2
        simp only [HK.out]
        go_wp2_with fail
        refine (Try.three_any _).mono ?_
        rintro e W5 ⟨rfl, hb5⟩
        go_wp2
        go_ret
        exact ⟨rfl, B2.out.trans (hb5.mono B2.out.size)⟩
    · subst he2
      obtain ⟨rfl, rfl⟩ := Prod.mk.inj hL
      obtain ⟨O, hO⟩ : ∃ O, Rk.order k es = O := ⟨_, rfl⟩
      have hpl := fun ats => Rk.places (ats := ats) hes hlen
      have hnd := Rk.order_nodup k es
      rw [hO] at H1 hlen hLs hnd
      simp only [hO] at hpl
      obtain rfl : M = [] := List.eq_nil_of_length_eq_zero hz
      have HX : Hid ((∀ e, e ∈ es → e.1 < k ∧ e.2 < k) ∧ O.Nodup ∧ (∀ x, x ∈ O → x < k) ∧ (∀ ats : List Nat, (∀ (j : Nat) (h : j < O.length), ats[O[j]]? = some j) → ∀ e, e ∈ es → ∃ i j, ats[e.1]? = some i ∧ ats[e.2]? = some j ∧ i < j) ∧ O.length = k) := ⟨hes, hnd.1, hnd.2, hpl, hlen⟩
      have mk1 := make_ints k hk
      have mk2 := Rk.make_bools k hk
      clear hL hO hes hpl hnd hlen hLs hMs hz
      rcases hor with d1 | ⟨d1, d2⟩
      all_goals
        go_enter Try.func6, Try.ntmps6
        go_wp2_with fail
        refine Calls.mono H1.out ?_
        rintro e W1 ⟨v1, rfl, o1, hb1⟩
        have o1' : W1.ownsRow w.heap.size 3 1 v1 k (Rk.nums O) := by have := o1; rwa [HX.out.2.2.2.2] at this
        obtain ⟨a1, c1, rfl⟩ := Rk.own_shape o1'
        have H2 : Hid _ := H2'.out W1 hb1
        have B1 : Hid (Below w.heap.size w W1 ∧ W1.ownsRow w.heap.size 3 1 (.slice a1 k c1) k (Rk.nums O)) := ⟨hb1, o1'⟩
        clear hb1 o1 o1' H1 H2'
        go_wp2_with fail
        refine Calls.mono H2.out ?_
        rintro e W2 ⟨v2, rfl, o2, hb2⟩
        obtain ⟨a2, c2, rfl⟩ := Rk.own_shape o2
        have B2 : Hid (Below w.heap.size w W2 ∧ Rk.Nums W2 W2.heap.size a1 O) := ⟨B1.out.1.trans (hb2.mono B1.out.1.size), Rk.nums_of_own (Rk.own_below B1.out.2 hb2)⟩
        clear hb2 o2 H2 B1
        go_wp2
        clear mk1 mk2
        obtain ⟨w3, hw3⟩ : ∃ x, (W2.alloc (.cells (irow k) 3)).alloc (.cells (Rk.row k) 4) = x := ⟨_, rfl⟩
        have X3 : Hid (Ats w3 W2.heap.size (List.replicate k 0) ∧ Rk.Bits w3 (W2.heap.size + 1) (List.replicate k false) ∧ Below W2.heap.size W2 w3) := by
          refine ⟨?_, ?_, ?_⟩
          · rw [← hw3]
            exact Ats.keep (heap_alloc_new W2 (.cells (irow k) 3)) (Below.heap_alloc _ _ _ (by simp))
          · rw [← hw3]
            have := Rk.row_bits (W2.alloc (.cells (irow k) 3)) k
            simpa using this
          · rw [← hw3]
            exact ((Below.refl _ W2).alloc (Nat.le_refl _) _).alloc (by simp) _
        rw [hw3]
        clear hw3
        go_loopg [74] k (fun gk s74 wr => ∃ (i : Nat) (ats : List Nat) (tk : List Bool), gk + i = k ∧ s74 = .int .i64 i ∧ Hid (Placed k i O ats tk ∧ Ats wr W2.heap.size ats ∧ Rk.Bits wr (W2.heap.size + 1) tk ∧ Below W2.heap.size W2 wr))
        case atStart => exact ⟨0, _, _, by omega, rfl, Placed.start k O, X3.out.1, X3.out.2.1, X3.out.2.2⟩
        case round =>
          obtain ⟨i, ats, tk, hik, rfl, HI⟩ := hrel
          clear X3
          by_cases hlt : i < k
          · have hd : decide ((i : Int) < k) = true := decide_eq_true (by omega)
            have hil : i < O.length := by rw [HX.out.2.2.2.2]; exact hlt
            obtain ⟨q, off, rfl, hq, hc⟩ := B2.out.2 i hil
            rw [← HI.out.2.2.2.cell (p := ⟨q, off + i, none⟩) hq] at hc
            have hxk := HX.out.2.2.1 _ (List.getElem_mem hil)
            have HP : Hid _ := HI.out.1.next HX.out.2.1 hil hxk
            have hfr := HI.out.1.fresh HX.out.2.1 hil hxk
            obtain ⟨x, hx⟩ : ∃ x, O[i] = x := ⟨_, rfl⟩
            rw [hx] at hc hxk HP hfr
            obtain ⟨y, hy⟩ : ∃ y, ats[x]? = some y := ⟨_, List.getElem?_eq_getElem (by rw [HI.out.1.1]; exact hxk)⟩
            have k1 := HI.out.2.2.1.cell x false hfr
            have f1 := HI.out.2.2.1.frozen x
            have k2 := HI.out.2.1.cell x y hy
            have f2 := HI.out.2.1.frozen x
            have e0 : decide ((x : Int) < 0) = false := decide_eq_false (by omega)
            have e1 : decide ((k : Int) ≤ x) = false := decide_eq_false (by omega)
            have e1' : decide (k ≤ x) = false := decide_eq_false (by omega)
            have hx' : (x : Int) < k := by omega
            have hlt' : (i : Int) < k := by omega
            have hz1 : W2.heap.size + 1 < wr.heap.size := HI.out.2.2.1.lt
            clear hx hy hfr
            go_wp2
            go_roundg (gk - 1)
            case measure => omega
            case rel =>
              refine ⟨i + 1, ats.set x i, tk.set x true, by omega, by go_num, HP.out, ?_, ?_, ?_⟩
              · exact (HI.out.2.1.keep (Below.heap_setCell _ _ _ _ (by show W2.heap.size ≠ W2.heap.size + 1; omega))).put x i
              · exact (HI.out.2.2.1.put x true).keep (Below.heap_setCell _ _ _ _ (by show W2.heap.size + 1 ≠ W2.heap.size; omega))
              · exact (HI.out.2.2.2.setCell (p := ⟨W2.heap.size + 1, x, none⟩) (by show W2.heap.size ≤ W2.heap.size + 1; omega) _).setCell (p := ⟨W2.heap.size, x, none⟩) (Nat.le_refl _) _
          · have hd : decide ((i : Int) < k) = false := decide_eq_false (by omega)
            have HE2 : Hid (∀ e, e ∈ es → ∃ i j, ats[e.1]? = some i ∧ ats[e.2]? = some j ∧ i < j) := HX.out.2.2.2.1 ats fun j hj => HI.out.1.2.2.2 j hj (by have := HX.out.2.2.2.2; omega)
            have HW : Hid (Ats wr W2.heap.size ats ∧ Below w.heap.size w wr) := ⟨HI.out.2.1, B2.out.1.trans (HI.out.2.2.2.mono B2.out.1.size)⟩
            obtain ⟨w4, hw4⟩ : ∃ x, wr = x := ⟨_, rfl⟩
            rw [hw4] at HW HI ⊢
            clear hw4
            have hgw : W2.heap.size < w4.heap.size := HI.out.2.1.lt
            have HEE : Hid (Rk.Eds w4 w4.heap.size a (Rk.up es)) := (HE.out.1.below HW.out.2).wider HW.out.2.size
            have hal : Hid (ats.length = k) := HI.out.1.1
            have hul : Hid (es.length = m) := by show _ = _; rw [← HE.out.2, Rk.up_length]
            clear HI HE
            go_wp2
            go_loopg [102] m (fun gk s102 wr => ∃ (i : Nat), gk + i = m ∧ s102 = .int .i64 i ∧ Hid (Below w4.heap.size w4 wr))
            case atStart => exact ⟨0, by omega, rfl, Below.refl _ _⟩
            case round =>
              obtain ⟨j, hjm, rfl, HJ⟩ := hrel
              clear hd
              by_cases hlj : j < m
              · have hd : decide ((j : Int) < m) = true := decide_eq_true (by omega)
                have hjl : j < es.length := by rw [hul.out]; exact hlj
                obtain ⟨q, off, rfl, hq, h0, h1⟩ := HEE.out j (by rw [Rk.up_length]; exact hjl)
                obtain ⟨⟨x, y⟩, he⟩ : ∃ x, es[j] = x := ⟨_, rfl⟩
                rw [Rk.up_get, he] at h0 h1
                obtain ⟨hx, hy⟩ : x < k ∧ y < k := by have := HX.out.1 _ (List.getElem_mem hjl); rw [he] at this; exact this
                obtain ⟨px, py, hpx, hpy, hpp⟩ : ∃ px py, ats[x]? = some px ∧ ats[y]? = some py ∧ px < py := by have := HE2.out _ (List.getElem_mem hjl); rw [he] at this; exact this
                have hc0 : wr.cell? ⟨q, off + j * 2, none⟩ = some (.int .i64 x) := by rw [HJ.out.cell (p := ⟨q, off + j * 2, none⟩) hq]; exact h0
                have hc1 : wr.cell? ⟨q, off + j * 2 + 1, none⟩ = some (.int .i64 y) := by rw [HJ.out.cell (p := ⟨q, off + j * 2 + 1, none⟩) hq]; exact h1
                have kx : wr.cell? ⟨W2.heap.size, x, none⟩ = some (.int .i64 px) := by rw [HJ.out.cell (p := ⟨W2.heap.size, x, none⟩) hgw]; exact HW.out.1.cell x px hpx
                have ky : wr.cell? ⟨W2.heap.size, y, none⟩ = some (.int .i64 py) := by rw [HJ.out.cell (p := ⟨W2.heap.size, y, none⟩) hgw]; exact HW.out.1.cell y py hpy
                have hzz := HJ.out.size
                have hqz : q < wr.heap.size := by omega
                have hgz : W2.heap.size < wr.heap.size := by omega
                have hx' : (x : Int) < k := by omega
                have hy' : (y : Int) < k := by omega
                have hx0 : (0 : Int) ≤ x := by omega
                have hy0 : (0 : Int) ≤ y := by omega
                have hwx : IntKind.i64.wrap (x : Int) = x := Go.IntWalk.i64_in _ (by omega)
                have hwy : IntKind.i64.wrap (y : Int) = y := Go.IntWalk.i64_in _ (by omega)
                have hle : decide ((py : Int) ≤ px) = false := decide_eq_false (by omega)
                have hle' : decide (py ≤ px) = false := decide_eq_false (by omega)
                have hu := Try.underlying45
                have HA : Hid (Below w4.heap.size w4 (wr.alloc (.cells #[.int .i64 x, .int .i64 y] 45))) := HJ.out.alloc hzz _
                clear h0 h1 he hpx hpy hpp hx hy
                go_wp2
                go_region
                all_goals
                  go_wp2
                  go_roundg (gk - 1)
                  case measure => omega
                  case rel => exact ⟨j + 1, by omega, by go_num, by first | exact HA.out | exact HA.out.drew | exact Tk.below_drewN HA.out _⟩
              · have hd : decide ((j : Int) < m) = false := decide_eq_false (by omega)
                have B5 : Hid (Below w.heap.size w wr) := HW.out.2.trans (HJ.out.mono HW.out.2.size)
                clear HW HJ HE2 HX B2
                go_wp2_with fail
                refine (Try.three_any _).mono ?_
                rintro e W5 ⟨rfl, hb5⟩
                go_wp2
                go_ret
                exact ⟨rfl, B5.out.trans (hb5.mono B5.out.size)⟩

end Go.Proofs.Ytkbenpgmadnkcaa.RankAhead
