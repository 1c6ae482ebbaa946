/-
  The contracts of the document's Meets, Round and Between.
-/
import Derived.Test.YtkbenpgmadnkcaaRkRef2
namespace Go.Proofs
open Go.RowKit Go.Shelf

set_option maxHeartbeats 4000000 in
theorem Try.rmeets_err (n from_ err : Int) (a : Option Addr) (c : Nat) (rs : List (Int × Int)) (w : World) (hE : Rk.Eds w w.heap.size a rs) (hm : rs.length ≤ 1000000000000000) (he : Rk.chk n rs = err) (h0 : err ≠ 0) :
    Calls Try.prog 11 #[.int .i64 n, .slice a rs.length c, .int .i64 from_] w fun e w' => e = .returned (.tuple #[.slice none 0 0, .int .i64 err]) ∧ Below w.heap.size w w' := by
  have H1 : Hid _ := Try.rcheck_any n a c rs w hE hm
  rw [he] at H1
  have hd : (err == 0) = false := by simpa using h0
  obtain ⟨m, hmm⟩ : ∃ m, rs.length = m := ⟨_, rfl⟩
  rw [hmm] at H1 ⊢
  clear hE hm he hmm h0
  go_enter Try.func11, Try.ntmps11
  go_wp2_with fail
  refine Calls.mono H1.out ?_
  rintro e W1 ⟨rfl, hb⟩
  go_wp2
  go_ret2
  exact ⟨rfl, hb⟩

set_option maxHeartbeats 4000000 in
theorem Try.rmeets_none (n from_ : Int) (a : Option Addr) (c : Nat) (rs : List (Int × Int)) (w : World) (hE : Rk.Eds w w.heap.size a rs) (hm : rs.length ≤ 1000000000000000) (he : Rk.chk n rs = 0) (h0 : Rk.inB n from_ = false) :
    Calls Try.prog 11 #[.int .i64 n, .slice a rs.length c, .int .i64 from_] w fun e w' => e = .returned (.tuple #[.slice none 0 0, .int .i64 6]) ∧ Below w.heap.size w w' := by
  have H1 : Hid _ := Try.rcheck_any n a c rs w hE hm
  rw [he] at H1
  obtain ⟨m, hmm⟩ : ∃ m, rs.length = m := ⟨_, rfl⟩
  rw [hmm] at H1 ⊢
  have h1 : from_ < 0 ∨ n ≤ from_ := by
    simp only [Rk.inB, Bool.and_eq_false_iff, decide_eq_false_iff_not] at h0
    omega
  clear hE hm he hmm h0
  cases e0 : decide (from_ < 0)
  · have e1 : decide (n ≤ from_) = true := decide_eq_true (by have := of_decide_eq_false e0; omega)
    clear h1
    go_enter Try.func11, Try.ntmps11
    go_wp2_with fail
    refine Calls.mono H1.out ?_
    rintro e W1 ⟨rfl, hb⟩
    go_wp2
    go_ret2
    exact ⟨rfl, hb⟩
  · clear h1
    go_enter Try.func11, Try.ntmps11
    go_wp2_with fail
    refine Calls.mono H1.out ?_
    rintro e W1 ⟨rfl, hb⟩
    go_wp2
    go_ret2
    exact ⟨rfl, hb⟩

set_option maxHeartbeats 4000000 in
theorem Try.rmeets_ok (n f : Nat) (a : Option Addr) (c : Nat) (es : List (Nat × Nat)) (w : World) (hn : n ≤ 64) (hf : f < n) (hes : ∀ e, e ∈ es → e.1 < n ∧ e.2 < n) (hE : Rk.Eds w w.heap.size a (Rk.up es)) (hm : es.length ≤ 1000000000000000) (hck : Rk.chk n (Rk.up es) = 0) :
    Calls Try.prog 11 #[.int .i64 n, .slice a es.length c, .int .i64 f] w fun e w' => ∃ v, e = .returned (.tuple #[v, .int .i64 0]) ∧
      w'.ownsRow w.heap.size 3 1 v ((List.range n).filter (Rk.met es f)).length (Rk.nums ((List.range n).filter (Rk.met es f))) ∧ Below w.heap.size w w' := by
  obtain ⟨i0, hi, hz0, hz1, hz2⟩ := info_parts Try.infoIntR
  have H1 : Hid _ := Try.rcheck_any n a c (Rk.up es) w hE (by rw [Rk.up_length]; exact hm)
  rw [hck, Rk.up_length] at H1
  have HX : Hid (n ≤ 64 ∧ (∀ e, e ∈ es → e.1 < n ∧ e.2 < n) ∧ Rk.Eds w w.heap.size a (Rk.up es) ∧ es.length ≤ 1000000000000000) := ⟨hn, hes, hE, hm⟩
  have d0 : decide ((f : Int) < 0) = false := decide_eq_false (by omega)
  have d1 : decide ((n : Int) ≤ f) = false := decide_eq_false (by omega)
  have d2 : decide (n ≤ f) = false := decide_eq_false (by omega)
  clear hE hm hes hck
  go_enter Try.func11, Try.ntmps11
  go_wp2_with fail
  refine Calls.mono H1.out ?_
  rintro e W1 ⟨rfl, hb⟩
  have HB0 : Hid (Below w.heap.size w W1) := hb
  clear hb H1
  go_wp2
  go_loopg [9, 10] n (fun gk s5 s8 wr => ∃ (k r : Nat) (L : List Nat), gk + k = n ∧ s8 = .int .i64 k ∧ r ≤ k ∧ Hid (L = (List.range k).filter (Rk.met es f) ∧ L.length = r ∧ Below w.heap.size w wr) ∧ wr.ownsRow w.heap.size 3 1 s5 r (Rk.nums L))
  case atStart => exact ⟨0, 0, [], by omega, rfl, Nat.le_refl _, ⟨rfl, rfl, HB0.out⟩, World.ownsRow_nil _ _ _ _⟩
  case round =>
    obtain ⟨k, r, L, hk, rfl, hr, HB, hown⟩ := hrel
    obtain ⟨av, cv, rfl⟩ := Rk.own_shape hown
    by_cases hlt : k < n
    · have hd : decide ((k : Int) < n) = true := decide_eq_true (by omega)
      have HF : Hid ((List.range (k + 1)).filter (Rk.met es f) = L ++ if ((Rk.met es f)) k = true then [k] else []) := by
        show _ = _
        rw [List.range_succ, List.filter_append, ← HB.out.1]
        cases hq : ((Rk.met es f)) k <;> simp [hq]
      by_cases hkf : k = f
      · subst hkf
        have hpk : Rk.met es k k = true := by rw [Rk.met_iff]; exact .refl _
        rw [hpk] at HF
        obtain ⟨W2, hW2⟩ : ∃ x, wr = x := ⟨_, rfl⟩
        subst hW2
        have own1 := hown
        have B2 : Hid (Below w.heap.size w wr) := HB.out.2.2
        have hs2 : w.heap.size ≤ wr.heap.size := B2.out.size
        clear hown hpk
        go_wp2_with (at_builtin; refine wpList_append_own _ rfl _ _ 26 rfl w.heap.size 3 i0 (.int .i64 0) 1 8 Try.underlying26 hi hz0 hz1 hz2 rfl (by decide) _ _ _ rfl (own1.alloc _) ⟨wr.heap.size, 0, none⟩ 1 1 [.int .i64 k] rfl rfl (Rk.one_cell wr k 3) (Rk.one_one k) ?c3 ?c4 ?c5 ?_)
        case c3 => unfold maxLen; omega
        case c4 => omega
        case c5 => first | omega | (simp; omega)
        intro v' W3 own3 g3 _
        obtain ⟨a3, c3', rfl⟩ := Rk.own_shape own3
        have HZ : Hid (Below w.heap.size w W3) := Rk.below_grown (B2.out.alloc hs2 _) (by simp; omega) (own1.alloc _) g3
        clear g3 own1
        go_wp2
        go_roundg (gk - 1)
        case measure => omega
        case rel =>
          refine ⟨k + 1, r + 1, L ++ [k], by omega, by go_num, by omega, ⟨?_, by simp [HB.out.2.1], HZ.out⟩, ?_⟩
          · rw [HF.out]; rfl
          · rw [Rk.nums_snoc]; exact own3
      · have hkf' : ((k : Int) == (f : Int)) = false := by simp; omega
        have hpk : Rk.met es f k = Rk.lead es f k := by rw [Rk.met_eq, decide_eq_false hkf, Bool.false_or]
        have HC : Hid _ := Try.rleads_any n f k a c es wr HX.out.1 hlt HX.out.2.1 ((HX.out.2.2.1.below HB.out.2.2).wider HB.out.2.2.size) HX.out.2.2.2
        rw [hpk] at HF
        obtain ⟨q, hq⟩ : ∃ q, Rk.lead es f k = q := ⟨_, rfl⟩
        rw [hq] at HC HF
        clear hq hpk
        cases q
        · go_wp2_with (first | (go_at_call 25; refine Calls.mono HC.out ?_; rintro e W2 ⟨rfl, hb2⟩; have own1 := Rk.own_below hown hb2; have B2 : Hid (Below w.heap.size w W2) := HB.out.2.2.trans (hb2.mono HB.out.2.2.size); have hs2 : w.heap.size ≤ W2.heap.size := B2.out.size; clear hb2 hown) | fail)
          go_roundg (gk - 1)
          case measure => omega
          case rel =>
            refine ⟨k + 1, r, L, by omega, by go_num, by omega, ⟨?_, HB.out.2.1, B2.out⟩, own1⟩
            rw [HF.out]; simp
        · go_wp2_with (first
            | (go_at_call 25; refine Calls.mono HC.out ?_; rintro e W2 ⟨rfl, hb2⟩; have own1 := Rk.own_below hown hb2; have B2 : Hid (Below w.heap.size w W2) := HB.out.2.2.trans (hb2.mono HB.out.2.2.size); have hs2 : w.heap.size ≤ W2.heap.size := B2.out.size; clear hb2 hown)
            | (at_builtin; refine wpList_append_own _ rfl _ _ 26 rfl w.heap.size 3 i0 (.int .i64 0) 1 8 Try.underlying26 hi hz0 hz1 hz2 rfl (by decide) _ _ _ rfl (own1.alloc _) ⟨W2.heap.size, 0, none⟩ 1 1 [.int .i64 k] rfl rfl (Rk.one_cell W2 k 3) (Rk.one_one k) ?c3 ?c4 ?c5 ?_))
          case c3 => unfold maxLen; omega
          case c4 => omega
          case c5 => first | omega | (simp; omega)
          intro v' W3 own3 g3 _
          obtain ⟨a3, c3', rfl⟩ := Rk.own_shape own3
          have HZ : Hid (Below w.heap.size w W3) := Rk.below_grown (B2.out.alloc hs2 _) (by simp; omega) (own1.alloc _) g3
          clear g3 own1
          go_wp2
          go_roundg (gk - 1)
          case measure => omega
          case rel =>
            refine ⟨k + 1, r + 1, L ++ [k], by omega, by go_num, by omega, ⟨?_, by simp [HB.out.2.1], HZ.out⟩, ?_⟩
            · rw [HF.out]; rfl
            · rw [Rk.nums_snoc]; exact own3
    · have hd : decide ((k : Int) < n) = false := decide_eq_false (by omega)
      go_wp2
      go_ret2
      obtain rfl : k = n := by omega
      rw [← HB.out.1, HB.out.2.1]
      exact ⟨_, rfl, hown, HB.out.2.2⟩

set_option maxHeartbeats 4000000 in
theorem Try.rround_err (n err : Int) (a : Option Addr) (c : Nat) (rs : List (Int × Int)) (w : World) (hE : Rk.Eds w w.heap.size a rs) (hm : rs.length ≤ 1000000000000000) (he : Rk.chk n rs = err) (h0 : err ≠ 0) :
    Calls Try.prog 13 #[.int .i64 n, .slice a rs.length c] w fun e w' => e = .returned (.tuple #[.slice none 0 0, .int .i64 err]) ∧ Below w.heap.size w w' := by
  have H1 : Hid _ := Try.rcheck_any n a c rs w hE hm
  rw [he] at H1
  have hd : (err == 0) = false := by simpa using h0
  obtain ⟨m, hmm⟩ : ∃ m, rs.length = m := ⟨_, rfl⟩
  rw [hmm] at H1 ⊢
  clear hE hm he hmm h0
  go_enter Try.func13, Try.ntmps13
  go_wp2_with fail
  refine Calls.mono H1.out ?_
  rintro e W1 ⟨rfl, hb⟩
  go_wp2
  go_ret2
  exact ⟨rfl, hb⟩

set_option maxHeartbeats 4000000 in
theorem Try.rround_ok (n : Nat) (a : Option Addr) (c : Nat) (es : List (Nat × Nat)) (w : World) (hn : n ≤ 64) (hes : ∀ e, e ∈ es → e.1 < n ∧ e.2 < n) (hE : Rk.Eds w w.heap.size a (Rk.up es)) (hm : es.length ≤ 1000000000000000) (hck : Rk.chk n (Rk.up es) = 0) :
    Calls Try.prog 13 #[.int .i64 n, .slice a es.length c] w fun e w' => ∃ v, e = .returned (.tuple #[v, .int .i64 0]) ∧
      w'.ownsRow w.heap.size 3 1 v ((List.range n).filter (fun i => Rk.lead es i i)).length (Rk.nums ((List.range n).filter (fun i => Rk.lead es i i))) ∧ Below w.heap.size w w' := by
  obtain ⟨i0, hi, hz0, hz1, hz2⟩ := info_parts Try.infoIntR
  have H1 : Hid _ := Try.rcheck_any n a c (Rk.up es) w hE (by rw [Rk.up_length]; exact hm)
  rw [hck, Rk.up_length] at H1
  have HX : Hid (n ≤ 64 ∧ (∀ e, e ∈ es → e.1 < n ∧ e.2 < n) ∧ Rk.Eds w w.heap.size a (Rk.up es) ∧ es.length ≤ 1000000000000000) := ⟨hn, hes, hE, hm⟩
  clear hE hm hes hck
  go_enter Try.func13, Try.ntmps13
  go_wp2_with fail
  refine Calls.mono H1.out ?_
  rintro e W1 ⟨rfl, hb⟩
  have HB0 : Hid (Below w.heap.size w W1) := hb
  clear hb H1
  go_wp2
  go_loopg [7, 8] n (fun gk s5 s8 wr => ∃ (k r : Nat) (L : List Nat), gk + k = n ∧ s8 = .int .i64 k ∧ r ≤ k ∧ Hid (L = (List.range k).filter (fun i => Rk.lead es i i) ∧ L.length = r ∧ Below w.heap.size w wr) ∧ wr.ownsRow w.heap.size 3 1 s5 r (Rk.nums L))
  case atStart => exact ⟨0, 0, [], by omega, rfl, Nat.le_refl _, ⟨rfl, rfl, HB0.out⟩, World.ownsRow_nil _ _ _ _⟩
  case round =>
    obtain ⟨k, r, L, hk, rfl, hr, HB, hown⟩ := hrel
    obtain ⟨av, cv, rfl⟩ := Rk.own_shape hown
    by_cases hlt : k < n
    · have hd : decide ((k : Int) < n) = true := decide_eq_true (by omega)
      have HF : Hid ((List.range (k + 1)).filter (fun i => Rk.lead es i i) = L ++ if ((fun i => Rk.lead es i i)) k = true then [k] else []) := by
        show _ = _
        rw [List.range_succ, List.filter_append, ← HB.out.1]
        cases hq : ((fun i => Rk.lead es i i)) k <;> simp [hq]
      have HC : Hid _ := Try.rleads_any n k k a c es wr HX.out.1 hlt HX.out.2.1 ((HX.out.2.2.1.below HB.out.2.2).wider HB.out.2.2.size) HX.out.2.2.2
      obtain ⟨q, hq⟩ : ∃ q, Rk.lead es k k = q := ⟨_, rfl⟩
      simp only [hq] at HC HF
      clear hq
      cases q
      · go_wp2_with (first | (go_at_call 25; refine Calls.mono HC.out ?_; rintro e W2 ⟨rfl, hb2⟩; have own1 := Rk.own_below hown hb2; have B2 : Hid (Below w.heap.size w W2) := HB.out.2.2.trans (hb2.mono HB.out.2.2.size); have hs2 : w.heap.size ≤ W2.heap.size := B2.out.size; clear hb2 hown) | fail)
        go_roundg (gk - 1)
        case measure => omega
        case rel =>
          refine ⟨k + 1, r, L, by omega, by go_num, by omega, ⟨?_, HB.out.2.1, B2.out⟩, own1⟩
          rw [HF.out]; simp
      · go_wp2_with (first
          | (go_at_call 25; refine Calls.mono HC.out ?_; rintro e W2 ⟨rfl, hb2⟩; have own1 := Rk.own_below hown hb2; have B2 : Hid (Below w.heap.size w W2) := HB.out.2.2.trans (hb2.mono HB.out.2.2.size); have hs2 : w.heap.size ≤ W2.heap.size := B2.out.size; clear hb2 hown)
          | (at_builtin; refine wpList_append_own _ rfl _ _ 26 rfl w.heap.size 3 i0 (.int .i64 0) 1 8 Try.underlying26 hi hz0 hz1 hz2 rfl (by decide) _ _ _ rfl (own1.alloc _) ⟨W2.heap.size, 0, none⟩ 1 1 [.int .i64 k] rfl rfl (Rk.one_cell W2 k 3) (Rk.one_one k) ?c3 ?c4 ?c5 ?_))
        case c3 => unfold maxLen; omega
        case c4 => omega
        case c5 => first | omega | (simp; omega)
        intro v' W3 own3 g3 _
        obtain ⟨a3, c3', rfl⟩ := Rk.own_shape own3
        have HZ : Hid (Below w.heap.size w W3) := Rk.below_grown (B2.out.alloc hs2 _) (by simp; omega) (own1.alloc _) g3
        clear g3 own1
        go_wp2
        go_roundg (gk - 1)
        case measure => omega
        case rel =>
          refine ⟨k + 1, r + 1, L ++ [k], by omega, by go_num, by omega, ⟨?_, by simp [HB.out.2.1], HZ.out⟩, ?_⟩
          · rw [HF.out]; rfl
          · rw [Rk.nums_snoc]; exact own3
    · have hd : decide ((k : Int) < n) = false := decide_eq_false (by omega)
      go_wp2
      go_ret2
      obtain rfl : k = n := by omega
      rw [← HB.out.1, HB.out.2.1]
      exact ⟨_, rfl, hown, HB.out.2.2⟩

end Go.Proofs
