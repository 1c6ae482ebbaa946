/-
  The contract of the document's Between.
-/
import Derived.Test.YtkbenpgmadnkcaaRkRef3
namespace Go.Proofs
open Go.RowKit Go.Shelf

set_option maxHeartbeats 4000000 in
theorem Try.rbetween_err (n x y err : Int) (a : Option Addr) (c : Nat) (rs : List (Int × Int)) (w : World) (hE : Rk.Eds w w.heap.size a rs) (hm : rs.length ≤ 1000000000000000) (he : Rk.chk n rs = err) (h0 : err ≠ 0) :
    Calls Try.prog 20 #[.int .i64 n, .slice a rs.length c, .agg #[.int .i64 x, .int .i64 y]] w fun e w' => e = .returned (.tuple #[.slice none 0 0, .int .i64 err]) ∧ Below w.heap.size w w' := by
  have A0 : Below w.heap.size w (w.alloc (.cells #[.int .i64 x, .int .i64 y] 39)) := (Below.refl _ w).alloc (Nat.le_refl _) _
  have H1 : Hid _ := Try.rcheck_any n a c rs (w.alloc (.cells #[.int .i64 x, .int .i64 y] 39)) ((hE.below A0).wider A0.size) hm
  have HA : Hid _ := A0
  rw [he] at H1
  have hd : (err == 0) = false := by simpa using h0
  obtain ⟨m, hmm⟩ : ∃ m, rs.length = m := ⟨_, rfl⟩
  rw [hmm] at H1 ⊢
  clear hE hm he hmm h0 A0
  go_enter Try.func20, Try.ntmps20
  go_wp2_with fail
  refine Calls.mono H1.out ?_
  rintro e W1 ⟨rfl, hb⟩
  go_wp2
  go_ret2
  exact ⟨rfl, HA.out.trans (hb.mono HA.out.size)⟩

set_option maxHeartbeats 4000000 in
theorem Try.rbetween_none (n x y : Int) (a : Option Addr) (c : Nat) (rs : List (Int × Int)) (w : World) (hE : Rk.Eds w w.heap.size a rs) (hm : rs.length ≤ 1000000000000000) (he : Rk.chk n rs = 0) (h0 : (Rk.inB n x && Rk.inB n y) = false) :
    Calls Try.prog 20 #[.int .i64 n, .slice a rs.length c, .agg #[.int .i64 x, .int .i64 y]] w fun e w' => e = .returned (.tuple #[.slice none 0 0, .int .i64 6]) ∧ Below w.heap.size w w' := by
  have A0 : Below w.heap.size w (w.alloc (.cells #[.int .i64 x, .int .i64 y] 39)) := (Below.refl _ w).alloc (Nat.le_refl _) _
  have H1 : Hid _ := Try.rcheck_any n a c rs (w.alloc (.cells #[.int .i64 x, .int .i64 y] 39)) ((hE.below A0).wider A0.size) hm
  have HA : Hid _ := A0
  rw [he] at H1
  obtain ⟨m, hmm⟩ : ∃ m, rs.length = m := ⟨_, rfl⟩
  rw [hmm] at H1 ⊢
  have hn0 : 0 ≤ n := by
    unfold Rk.chk at he
    split at he
    · simp at he
    · omega
  have h1 : x < 0 ∨ n ≤ x ∨ y < 0 ∨ n ≤ y := by
    simp only [Rk.inB, Bool.and_eq_false_iff, decide_eq_false_iff_not] at h0
    omega
  clear hE hm he hmm h0 A0
  have hcell : ∀ W, Below (w.alloc (.cells #[.int .i64 x, .int .i64 y] 39)).heap.size (w.alloc (.cells #[.int .i64 x, .int .i64 y] 39)) W → W.cell? ⟨w.heap.size, 0, none⟩ = some (.int .i64 x) ∧ W.cell? ⟨w.heap.size, 1, none⟩ = some (.int .i64 y) := fun W hW =>
    ⟨by rw [hW.cell (p := ⟨w.heap.size, 0, none⟩) (by simp)]; simp, by rw [hW.cell (p := ⟨w.heap.size, 1, none⟩) (by simp)]; simp⟩
  have HCE : Hid _ := hcell
  clear hcell
  cases e0 : decide (x < 0) <;> cases e1 : decide (n ≤ x) <;> cases e2 : decide (y < 0) <;> cases e3 : decide (n ≤ y)
  all_goals first
    | (exfalso; have := of_decide_eq_false e0; have := of_decide_eq_false e1; have := of_decide_eq_false e2; have := of_decide_eq_false e3; omega)
    | (clear h1 hn0
       go_enter Try.func20, Try.ntmps20
       go_wp2_with fail
       refine Calls.mono H1.out ?_
       rintro e W1 ⟨rfl, hb⟩
       obtain ⟨k0, k1⟩ := HCE.out W1 hb
       go_wp2
       go_ret2
       exact ⟨rfl, HA.out.trans (hb.mono HA.out.size)⟩)

set_option maxHeartbeats 8000000 in
theorem Try.rbetween_ok (n i j : Nat) (a : Option Addr) (c : Nat) (es : List (Nat × Nat)) (w : World) (hn : n ≤ 64) (hi' : i < n) (hj : j < n) (hes : ∀ e, e ∈ es → e.1 < n ∧ e.2 < n) (hE : Rk.Eds w w.heap.size a (Rk.up es)) (hm : es.length ≤ 1000000000000000) (hck : Rk.chk n (Rk.up es) = 0) :
    Calls Try.prog 20 #[.int .i64 n, .slice a es.length c, .agg #[.int .i64 i, .int .i64 j]] w fun e w' => ∃ v, e = .returned (.tuple #[v, .int .i64 0]) ∧
      w'.ownsRow w.heap.size 3 1 v ((List.range n).filter (fun x => Rk.met es i x && Rk.met es x j)).length (Rk.nums ((List.range n).filter (fun x => Rk.met es i x && Rk.met es x j))) ∧ Below w.heap.size w w' := by
  obtain ⟨i0, hi, hz0, hz1, hz2⟩ := info_parts Try.infoIntR
  have A0 : Below w.heap.size w (w.alloc (.cells #[.int .i64 i, .int .i64 j] 39)) := (Below.refl _ w).alloc (Nat.le_refl _) _
  have H1 : Hid _ := Try.rcheck_any n a c (Rk.up es) (w.alloc (.cells #[.int .i64 i, .int .i64 j] 39)) ((hE.below A0).wider A0.size) (by rw [Rk.up_length]; exact hm)
  rw [hck, Rk.up_length] at H1
  have HAA : Hid _ := A0
  have HX : Hid (n ≤ 64 ∧ (∀ e, e ∈ es → e.1 < n ∧ e.2 < n) ∧ Rk.Eds w w.heap.size a (Rk.up es) ∧ es.length ≤ 1000000000000000 ∧ j < n) := ⟨hn, hes, hE, hm, hj⟩
  have d0 : decide ((i : Int) < 0) = false := decide_eq_false (by omega)
  have d1 : decide ((n : Int) ≤ i) = false := decide_eq_false (by omega)
  have d2 : decide (n ≤ i) = false := decide_eq_false (by omega)
  have d3 : decide ((j : Int) < 0) = false := decide_eq_false (by omega)
  have d4 : decide ((n : Int) ≤ j) = false := decide_eq_false (by omega)
  have d5 : decide (n ≤ j) = false := decide_eq_false (by omega)
  clear hE hm hes hck A0
  go_enter Try.func20, Try.ntmps20
  go_wp2_with fail
  refine Calls.mono H1.out ?_
  rintro e W1 ⟨rfl, hb⟩
  have k0 : W1.cell? ⟨w.heap.size, 0, none⟩ = some (.int .i64 i) := by rw [hb.cell (p := ⟨w.heap.size, 0, none⟩) (by simp)]; simp
  have k1 : W1.cell? ⟨w.heap.size, 1, none⟩ = some (.int .i64 j) := by rw [hb.cell (p := ⟨w.heap.size, 1, none⟩) (by simp)]; simp
  have HB0 : Hid (Below w.heap.size w W1) := HAA.out.trans (hb.mono HAA.out.size)
  clear hb H1
  go_wp2
  clear k0 k1
  go_loopg [11, 12] n (fun gk s5 s8 wr => ∃ (k r : Nat) (L : List Nat), gk + k = n ∧ s8 = .int .i64 k ∧ r ≤ k ∧ Hid (L = (List.range k).filter (fun x => Rk.met es i x && Rk.met es x j) ∧ L.length = r ∧ Below w.heap.size w wr) ∧ wr.ownsRow w.heap.size 3 1 s5 r (Rk.nums L))
  case atStart => exact ⟨0, 0, [], by omega, rfl, Nat.le_refl _, ⟨rfl, rfl, HB0.out⟩, World.ownsRow_nil _ _ _ _⟩
  case round =>
    obtain ⟨k, r, L, hk, rfl, hr, HB, hown⟩ := hrel
    obtain ⟨av, cv, rfl⟩ := Rk.own_shape hown
    by_cases hlt : k < n
    · have hd : decide ((k : Int) < n) = true := decide_eq_true (by omega)
      have HF : Hid ((List.range (k + 1)).filter (fun x => Rk.met es i x && Rk.met es x j) = L ++ if (Rk.met es i k && Rk.met es k j) = true then [k] else []) := by
        show _ = _
        rw [List.range_succ, List.filter_append, ← HB.out.1]
        cases hq : (Rk.met es i k && Rk.met es k j) <;> simp [hq]
      by_cases hki : k = i
      · have hki' : ((k : Int) == (i : Int)) = true := by simp; omega
        have HA1 : Hid (Rk.met es i k = true) := by show _ = _; rw [hki, Rk.met_iff]; exact .refl _
        have own1 := hown
        have B2 : Hid (Below w.heap.size w wr) := HB.out.2.2
        have hs2 : w.heap.size ≤ wr.heap.size := B2.out.size
        clear hown hki
        by_cases hkj : k = j
        · have hkj' : ((k : Int) == (j : Int)) = true := by simp; omega
          have HA2 : Hid (Rk.met es k j = true) := by show _ = _; rw [hkj, Rk.met_iff]; exact .refl _
          clear hkj
          go_wp2_with (at_builtin; refine wpList_append_own _ rfl _ _ 26 rfl w.heap.size 3 i0 (.int .i64 0) 1 8 Try.underlying26 hi hz0 hz1 hz2 rfl (by decide) _ _ _ rfl (own1.alloc _) ⟨wr.heap.size, 0, none⟩ 1 1 [.int .i64 k] rfl rfl (Rk.one_cell wr k 3) (Rk.one_one k) ?c3 ?c4 ?c5 ?_)
          case c3 => unfold maxLen; omega
          case c4 => omega
          case c5 => first | omega | (simp; omega)
          intro v' W3 own3 g3 _
          obtain ⟨a3, c3', rfl⟩ := Rk.own_shape own3
          have HZ : Hid (Below w.heap.size w W3) := Rk.below_grown (B2.out.alloc hs2 _) (by simp; omega) (own1.alloc _) g3
          clear g3 own1
          go_wp2
          go_roundg (gk - 1)
          case measure => omega
          case rel =>
            refine ⟨k + 1, r + 1, L ++ [k], by omega, by go_num, by omega, ⟨?_, by simp [HB.out.2.1], HZ.out⟩, ?_⟩
            · rw [HF.out]; simp [HA1.out, HA2.out]
            · rw [Rk.nums_snoc]; exact own3
        · have hkj' : ((k : Int) == (j : Int)) = false := by simp; omega
          have HC : Hid _ := Try.rleads_any n k j a c es wr HX.out.1 HX.out.2.2.2.2 HX.out.2.1 ((HX.out.2.2.1.below B2.out).wider B2.out.size) HX.out.2.2.2.1
          have hpk : Rk.met es k j = Rk.lead es k j := by rw [Rk.met_eq, decide_eq_false (fun h => hkj h.symm), Bool.false_or]
          obtain ⟨q, hq⟩ : ∃ q, Rk.lead es k j = q := ⟨_, rfl⟩
          rw [hq] at HC hpk
          have HA2 : Hid (Rk.met es k j = q) := hpk
          clear hq hpk hkj
          go_wp2_with fail
          refine Calls.mono HC.out ?_
          rintro e W9 ⟨rfl, hb9⟩
          have own9 := Rk.own_below own1 hb9
          have B9 : Hid (Below w.heap.size w W9) := B2.out.trans (hb9.mono B2.out.size)
          have hs9 : w.heap.size ≤ W9.heap.size := B9.out.size
          clear hb9 own1 HC
          cases q
          · go_wp2
            go_roundg (gk - 1)
            case measure => omega
            case rel =>
              refine ⟨k + 1, r, L, by omega, by go_num, by omega, ⟨?_, HB.out.2.1, B9.out⟩, own9⟩
              rw [HF.out]; simp [HA2.out]
          · go_wp2_with (at_builtin; refine wpList_append_own _ rfl _ _ 26 rfl w.heap.size 3 i0 (.int .i64 0) 1 8 Try.underlying26 hi hz0 hz1 hz2 rfl (by decide) _ _ _ rfl (own9.alloc _) ⟨W9.heap.size, 0, none⟩ 1 1 [.int .i64 k] rfl rfl (Rk.one_cell W9 k 3) (Rk.one_one k) ?c3 ?c4 ?c5 ?_)
            case c3 => unfold maxLen; omega
            case c4 => omega
            case c5 => first | omega | (simp; omega)
            intro v' W3 own3 g3 _
            obtain ⟨a3, c3', rfl⟩ := Rk.own_shape own3
            have HZ : Hid (Below w.heap.size w W3) := Rk.below_grown (B9.out.alloc hs9 _) (by simp; omega) (own9.alloc _) g3
            clear g3 own9
            go_wp2
            go_roundg (gk - 1)
            case measure => omega
            case rel =>
              refine ⟨k + 1, r + 1, L ++ [k], by omega, by go_num, by omega, ⟨?_, by simp [HB.out.2.1], HZ.out⟩, ?_⟩
              · rw [HF.out]; simp [HA1.out, HA2.out]
              · rw [Rk.nums_snoc]; exact own3
        
      · have hki' : ((k : Int) == (i : Int)) = false := by simp; omega
        have HC0 : Hid _ := Try.rleads_any n i k a c es wr HX.out.1 hlt HX.out.2.1 ((HX.out.2.2.1.below HB.out.2.2).wider HB.out.2.2.size) HX.out.2.2.2.1
        have hpk0 : Rk.met es i k = Rk.lead es i k := by rw [Rk.met_eq, decide_eq_false hki, Bool.false_or]
        obtain ⟨q0, hq0⟩ : ∃ q, Rk.lead es i k = q := ⟨_, rfl⟩
        rw [hq0] at HC0 hpk0
        have HA1 : Hid (Rk.met es i k = q0) := hpk0
        clear hq0 hpk0 hki
        go_wp2_with fail
        refine Calls.mono HC0.out ?_
        rintro e W2 ⟨rfl, hb2⟩
        have own1 := Rk.own_below hown hb2
        have B2 : Hid (Below w.heap.size w W2) := HB.out.2.2.trans (hb2.mono HB.out.2.2.size)
        have hs2 : w.heap.size ≤ W2.heap.size := B2.out.size
        clear hb2 hown HC0
        cases q0
        · go_wp2
          go_roundg (gk - 1)
          case measure => omega
          case rel =>
            refine ⟨k + 1, r, L, by omega, by go_num, by omega, ⟨?_, HB.out.2.1, B2.out⟩, own1⟩
            rw [HF.out]; simp [HA1.out]
        · skip
          by_cases hkj : k = j
          · have hkj' : ((k : Int) == (j : Int)) = true := by simp; omega
            have HA2 : Hid (Rk.met es k j = true) := by show _ = _; rw [hkj, Rk.met_iff]; exact .refl _
            clear hkj
            go_wp2_with (at_builtin; refine wpList_append_own _ rfl _ _ 26 rfl w.heap.size 3 i0 (.int .i64 0) 1 8 Try.underlying26 hi hz0 hz1 hz2 rfl (by decide) _ _ _ rfl (own1.alloc _) ⟨W2.heap.size, 0, none⟩ 1 1 [.int .i64 k] rfl rfl (Rk.one_cell W2 k 3) (Rk.one_one k) ?c3 ?c4 ?c5 ?_)
            case c3 => unfold maxLen; omega
            case c4 => omega
            case c5 => first | omega | (simp; omega)
            intro v' W3 own3 g3 _
            obtain ⟨a3, c3', rfl⟩ := Rk.own_shape own3
            have HZ : Hid (Below w.heap.size w W3) := Rk.below_grown (B2.out.alloc hs2 _) (by simp; omega) (own1.alloc _) g3
            clear g3 own1
            go_wp2
            go_roundg (gk - 1)
            case measure => omega
            case rel =>
              refine ⟨k + 1, r + 1, L ++ [k], by omega, by go_num, by omega, ⟨?_, by simp [HB.out.2.1], HZ.out⟩, ?_⟩
              · rw [HF.out]; simp [HA1.out, HA2.out]
              · rw [Rk.nums_snoc]; exact own3
          · have hkj' : ((k : Int) == (j : Int)) = false := by simp; omega
            have HC : Hid _ := Try.rleads_any n k j a c es W2 HX.out.1 HX.out.2.2.2.2 HX.out.2.1 ((HX.out.2.2.1.below B2.out).wider B2.out.size) HX.out.2.2.2.1
            have hpk : Rk.met es k j = Rk.lead es k j := by rw [Rk.met_eq, decide_eq_false (fun h => hkj h.symm), Bool.false_or]
            obtain ⟨q, hq⟩ : ∃ q, Rk.lead es k j = q := ⟨_, rfl⟩
            rw [hq] at HC hpk
            have HA2 : Hid (Rk.met es k j = q) := hpk
            clear hq hpk hkj
            go_wp2_with fail
            refine Calls.mono HC.out ?_
            rintro e W9 ⟨rfl, hb9⟩
            have own9 := Rk.own_below own1 hb9
            have B9 : Hid (Below w.heap.size w W9) := B2.out.trans (hb9.mono B2.out.size)
            have hs9 : w.heap.size ≤ W9.heap.size := B9.out.size
            clear hb9 own1 HC
            cases q
            · go_wp2
              go_roundg (gk - 1)
              case measure => omega
              case rel =>
                refine ⟨k + 1, r, L, by omega, by go_num, by omega, ⟨?_, HB.out.2.1, B9.out⟩, own9⟩
                rw [HF.out]; simp [HA2.out]
            · go_wp2_with (at_builtin; refine wpList_append_own _ rfl _ _ 26 rfl w.heap.size 3 i0 (.int .i64 0) 1 8 Try.underlying26 hi hz0 hz1 hz2 rfl (by decide) _ _ _ rfl (own9.alloc _) ⟨W9.heap.size, 0, none⟩ 1 1 [.int .i64 k] rfl rfl (Rk.one_cell W9 k 3) (Rk.one_one k) ?c3 ?c4 ?c5 ?_)
              case c3 => unfold maxLen; omega
              case c4 => omega
              case c5 => first | omega | (simp; omega)
              intro v' W3 own3 g3 _
              obtain ⟨a3, c3', rfl⟩ := Rk.own_shape own3
              have HZ : Hid (Below w.heap.size w W3) := Rk.below_grown (B9.out.alloc hs9 _) (by simp; omega) (own9.alloc _) g3
              clear g3 own9
              go_wp2
              go_roundg (gk - 1)
              case measure => omega
              case rel =>
                refine ⟨k + 1, r + 1, L ++ [k], by omega, by go_num, by omega, ⟨?_, by simp [HB.out.2.1], HZ.out⟩, ?_⟩
                · rw [HF.out]; simp [HA1.out, HA2.out]
                · rw [Rk.nums_snoc]; exact own3
          
    · have hd : decide ((k : Int) < n) = false := decide_eq_false (by omega)
      go_wp2
      go_ret2
      obtain rfl : k = n := by omega
      rw [← HB.out.1, HB.out.2.1]
      exact ⟨_, rfl, hown, HB.out.2.2⟩

end Go.Proofs
