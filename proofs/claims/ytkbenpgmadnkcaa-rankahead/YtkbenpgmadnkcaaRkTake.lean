/-
  The contracts of take and Order.
-/
import Derived.Test.YtkbenpgmadnkcaaRkFree
namespace Go.Proofs
open Go.RowKit Go.Shelf

theorem Rk.find_at {p : Nat → Bool} {n k : Nat} (hk : k < n) (hp : p k = true) (h : ∀ j, j < k → p j = false) : (List.range n).find? p = some k := by
  rw [List.find?_range_eq_some]
  exact ⟨hp, List.mem_range.2 hk, fun j hj => by simp [h j hj]⟩
theorem Rk.find_no {p : Nat → Bool} {n : Nat} (h : ∀ j, j < n → p j = false) : (List.range n).find? p = none := by
  rw [List.find?_eq_none]
  intro j hj
  simp [h j (List.mem_range.1 hj)]

set_option maxHeartbeats 4000000 in
theorem Try.take_any (n : Nat) (a : Option Addr) (c : Nat) (es : List (Nat × Nat)) (w : World) (hn : n ≤ 64) (hes : ∀ e, e ∈ es → e.1 < n ∧ e.2 < n) (hE : Rk.Eds w w.heap.size a (Rk.up es)) (hm : es.length ≤ 1000000000000000) :
    Calls Try.prog 30 #[.int .i64 n, .slice a es.length c] w fun e w' => ∃ v, e = .returned v ∧ w'.ownsRow w.heap.size 3 1 v (Rk.order n es).length (Rk.nums (Rk.order n es)) ∧ Below w.heap.size w w' := by
  obtain ⟨i0, hi, hz0, hz1, hz2⟩ := info_parts Try.infoIntR
  have HE : Hid (Rk.Eds w w.heap.size a (Rk.up es) ∧ (∀ e, e ∈ es → e.1 < n ∧ e.2 < n) ∧ es.length ≤ 1000000000000000) := ⟨hE, hes, hm⟩
  have hmk := Rk.make_bools n hn
  have X1 : Hid (Rk.Bits (w.alloc (.cells (Rk.row n) 4)) w.heap.size (List.replicate n false)) := Rk.row_bits w n
  have B1 : Hid (Below w.heap.size w (w.alloc (.cells (Rk.row n) 4))) := (Below.refl _ w).alloc (Nat.le_refl _) _
  clear hE hes hm
  go_enter Try.func30, Try.ntmps30
  go_wp2
  go_step3
  go_wp2
  go_step3
  go_wp2
  clear hmk
  go_loopg [6] n (fun gk s6 wr => ∃ (tk : List Bool) (r : Nat) (L : List Nat), Rk.left tk ≤ gk ∧ r ≤ n ∧ Hid (Rk.Took n es tk L ∧ Rk.go n es (Rk.left tk) tk L = Rk.order n es ∧ L.length = r ∧ Rk.Bits wr w.heap.size tk ∧ Below w.heap.size w wr) ∧ wr.ownsRow (w.heap.size + 1) 3 1 s6 r (Rk.nums L))
  case atStart => exact ⟨_, 0, [], by rw [Rk.left_all]; exact Nat.le_refl _, by omega, ⟨Rk.Took.start n es, by rw [Rk.left_all]; rfl, rfl, X1.out, B1.out⟩, World.ownsRow_nil _ _ _ _⟩
  case round =>
    obtain ⟨tk, r, L, hgl, hr, HB, hown⟩ := hrel
    clear X1 B1
    obtain ⟨av, cv, rfl⟩ := Rk.own_shape hown
    go_wp2
    go_loopg [6, 11] n (fun gi s6 s11 wi => ∃ k : Nat, gi + k = n ∧ s6 = .slice av r cv ∧ s11 = .int .i64 k ∧ Hid (Rk.Bits wi w.heap.size tk ∧ Below w.heap.size w wi ∧ ∀ j, j < k → Rk.nextB es tk j = false) ∧ wi.ownsRow (w.heap.size + 1) 3 1 (.slice av r cv) r (Rk.nums L))
    case atStart => exact ⟨0, by omega, rfl, rfl, ⟨HB.out.2.2.2.1, HB.out.2.2.2.2, fun j h => by omega⟩, hown⟩
    case round =>
      clear hown
      obtain ⟨k, hk, rfl, rfl, HI, hown⟩ := hrel
      by_cases hlt : k < n
      · have hd : decide ((k : Int) < n) = true := decide_eq_true (by omega)
        have hlt' : (k : Int) < n := by omega
        obtain ⟨b, hb⟩ : ∃ b, tk[k]? = some b := ⟨_, List.getElem?_eq_getElem (by rw [HB.out.1.len]; exact hlt)⟩
        have k1 := HI.out.1.cell k b hb
        have hz : w.heap.size < wr.heap.size := HI.out.1.lt
        have HK : Hid (tk[k]? = some b) := hb
        clear hb
        cases b
        · have HN : Hid (Rk.nextB es tk k = Rk.freeB es tk k) := by show _ = _; unfold Rk.nextB; rw [HK.out]; simp
          have hcall := Try.free_any w.heap.size n k n c tk a es wr HE.out.2.1 HB.out.1.len HI.out.1 ((HE.out.1.below HI.out.2.1).wider HI.out.2.1.size) HE.out.2.2
          obtain ⟨q, hq⟩ : ∃ q, Rk.freeB es tk k = q := ⟨_, rfl⟩
          rw [hq] at hcall HN
          have HC : Hid _ := hcall
          clear hcall hq
          cases q
          · go_wp2_with (first | (go_at_call 36; refine Calls.mono HC.out ?_; rintro e W1 ⟨rfl, hb1⟩) | fail)
            go_roundg (gk - 1)
            case measure => omega
            case rel =>
              refine ⟨k + 1, by omega, rfl, by go_num, ⟨HI.out.1.below hb1 hz, HI.out.2.1.trans (hb1.mono (by omega)), fun j hj => ?_⟩, Rk.own_below hown hb1⟩
              by_cases hjk : j = k
              · subst hjk; exact HN.out
              · exact HI.out.2.2 j (by omega)
          · go_wp2_with (first
              | (go_at_call 36; refine Calls.mono HC.out ?_; rintro e W1 ⟨rfl, hb1⟩
                 have b1 := HI.out.1.below hb1 hz
                 have kk := b1.cell k false HK.out
                 have kf := b1.frozen k
                 have own1 : (W1.setCell ⟨w.heap.size, k, none⟩ (.bool true)).ownsRow (w.heap.size + 1) 3 1 (.slice av r cv) r (Rk.nums L) := ownsRow_setCell_below (Rk.own_below hown hb1) (by show w.heap.size < _; omega) _
                 have hs1 : wr.heap.size ≤ W1.heap.size := hb1.size
                 have HB1 : Hid (Below w.heap.size w (W1.setCell ⟨w.heap.size, k, none⟩ (.bool true)) ∧ Rk.Bits (W1.setCell ⟨w.heap.size, k, none⟩ (.bool true)) w.heap.size (tk.set k true)) := ⟨(HI.out.2.1.trans (hb1.mono (by omega))).setCell (p := ⟨w.heap.size, k, none⟩) (Nat.le_refl _) _, b1.put k true⟩
                 clear hb1 b1 hown HC)
              | (at_builtin; refine wpList_append_own _ rfl _ _ 26 rfl (w.heap.size + 1) 3 i0 (.int .i64 0) 1 8 Try.underlying26 hi hz0 hz1 hz2 rfl (by decide) _ _ _ rfl (own1.alloc _) ⟨W1.heap.size, 0, none⟩ 1 1 [.int .i64 k] rfl rfl ?c1 (Rk.one_one k) ?c3 ?c4 ?c5 ?_))
            case c1 => simpa using Rk.one_cell (W1.setCell ⟨w.heap.size, k, none⟩ (.bool true)) k 3
            case c3 => unfold maxLen; omega
            case c4 => omega
            case c5 => simp; omega
            intro v' W2 own2 g2 _
            obtain ⟨a2, c2, rfl⟩ := Rk.own_shape own2
            have hfnd := Rk.find_at hlt HN.out HI.out.2.2
            have hls := Rk.left_set tk k HK.out
            have hgo : Rk.go n es (Rk.left (tk.set k true)) (tk.set k true) (L ++ [k]) = Rk.order n es := by rw [← HB.out.2.1, ← hls, Rk.go_some hfnd]
            have HF : Hid (Rk.Took n es (tk.set k true) (L ++ [k]) ∧ Rk.go n es (Rk.left (tk.set k true)) (tk.set k true) (L ++ [k]) = Rk.order n es) := ⟨HB.out.1.next hfnd, hgo⟩
            have hb2 : Below (w.heap.size + 1) ((W1.setCell ⟨w.heap.size, k, none⟩ (.bool true)).alloc (.cells #[.int .i64 k] 3)) W2 := Rk.below_grown (Below.refl _ _) (by simp; omega) (own1.alloc _) g2
            have HW2 : Hid (Below w.heap.size w W2 ∧ Rk.Bits W2 w.heap.size (tk.set k true)) :=
              ⟨(HB1.out.1.alloc (by simp; omega) _).trans (hb2.mono (by omega)), (HB1.out.2.keep (Below.heap_alloc _ _ _ HB1.out.2.lt)).below hb2 (by omega)⟩
            clear hfnd hgo hb2 g2 own1 HB1
            go_wp2
            go_roundg (Rk.left (tk.set k true))
            case measure => omega
            case rel =>
              refine ⟨tk.set k true, r + 1, L ++ [k], Nat.le_refl _, ?_, ⟨HF.out.1, HF.out.2, by simp [HB.out.2.2.1], HW2.out.2, HW2.out.1⟩, ?_⟩
              · have := HF.out.1.left
                rw [List.length_append, HB.out.2.2.1] at this
                simp at this
                omega
              · rw [Rk.nums_snoc]; exact own2
        · have HN : Hid (Rk.nextB es tk k = false) := by show _ = _; unfold Rk.nextB; rw [HK.out]; simp
          go_wp2
          go_roundg (gk - 1)
          case measure => omega
          case rel =>
            refine ⟨k + 1, by omega, rfl, by go_num, ⟨HI.out.1, HI.out.2.1, fun j hj => ?_⟩, hown⟩
            by_cases hjk : j = k
            · subst hjk; exact HN.out
            · exact HI.out.2.2 j (by omega)
      · have hd : decide ((k : Int) < n) = false := decide_eq_false (by omega)
        go_wp2
        rw [Exit.noGoto_ret]
        go_ret
        obtain rfl : k = n := by omega
        have hL : Rk.order k es = L := by rw [← HB.out.2.1]; exact Rk.go_none (Rk.find_no HI.out.2.2) _ _
        rw [hL, HB.out.2.2.1]
        exact ⟨_, rfl, Rk.own_wider hown (by omega), HI.out.2.1⟩

set_option maxHeartbeats 4000000 in
theorem Try.order_err (n err : Int) (a : Option Addr) (c : Nat) (rs : List (Int × Int)) (w : World) (hE : Rk.Eds w w.heap.size a rs) (hm : rs.length ≤ 1000000000000000) (he : Rk.chk n rs = err) (h0 : err ≠ 0) :
    Calls Try.prog 17 #[.int .i64 n, .slice a rs.length c] w fun e w' => e = .returned (.tuple #[.slice none 0 0, .int .i64 err]) ∧ Below w.heap.size w w' := by
  have H1 : Hid _ := Try.check_any n a c rs w hE hm
  rw [he] at H1
  have hd : (err == 0) = false := by simpa using h0
  obtain ⟨m, hmm⟩ : ∃ m, rs.length = m := ⟨_, rfl⟩
  rw [hmm] at H1 ⊢
  clear hE hm he hmm h0
  go_enter Try.func17, Try.ntmps17
  go_wp2_with fail
  refine Calls.mono H1.out ?_
  rintro e W1 ⟨rfl, hb⟩
  go_wp2
  go_ret2
  exact ⟨rfl, hb⟩

/-- What Order answers of a right graph. -/
def Rk.orderR (n : Nat) (es : List (Nat × Nat)) : List Nat × Int := if (Rk.order n es).length < n then ([], 7) else (Rk.order n es, 0)

set_option maxHeartbeats 4000000 in
theorem Try.order_ok (n : Nat) (a : Option Addr) (c : Nat) (es : List (Nat × Nat)) (w : World) (hn : n ≤ 64) (hes : ∀ e, e ∈ es → e.1 < n ∧ e.2 < n) (hE : Rk.Eds w w.heap.size a (Rk.up es)) (hm : es.length ≤ 1000000000000000) (hck : Rk.chk n (Rk.up es) = 0) :
    Calls Try.prog 17 #[.int .i64 n, .slice a es.length c] w fun e w' => ∃ v, e = .returned (.tuple #[v, .int .i64 (Rk.orderR n es).2]) ∧
      w'.ownsRow w.heap.size 3 1 v (Rk.orderR n es).1.length (Rk.nums (Rk.orderR n es).1) ∧ Below w.heap.size w w' := by
  have H1 : Hid _ := Try.check_any n a c (Rk.up es) w hE (by rw [Rk.up_length]; exact hm)
  rw [hck, Rk.up_length] at H1
  have HX : Hid (n ≤ 64 ∧ (∀ e, e ∈ es → e.1 < n ∧ e.2 < n) ∧ Rk.Eds w w.heap.size a (Rk.up es) ∧ es.length ≤ 1000000000000000) := ⟨hn, hes, hE, hm⟩
  obtain ⟨O, hO⟩ : ∃ O, Rk.order n es = O := ⟨_, rfl⟩
  have hOR : Rk.orderR n es = if O.length < n then ([], 7) else (O, 0) := by unfold Rk.orderR; rw [hO]
  have hon : O.length ≤ n := by
    obtain ⟨tk, T, _⟩ := Rk.order_took n es
    have := T.left
    rw [hO] at this
    omega
  obtain ⟨ol, hol⟩ : ∃ k, O.length = k := ⟨_, rfl⟩
  rw [hol] at hon hOR
  have HO : Hid (Rk.order n es = O ∧ O.length = ol) := ⟨hO, hol⟩
  by_cases hlt : ol < n
  · have hd : decide ((ol : Int) < n) = true := decide_eq_true (by omega)
    rw [hOR, if_pos hlt]
    clear hE hm hes hck hO hOR hol
    go_enter Try.func17, Try.ntmps17
    go_wp2_with fail
    refine Calls.mono H1.out ?_
    rintro e W1 ⟨rfl, hb⟩
    have H2 : Hid _ := Try.take_any n a c es W1 HX.out.1 HX.out.2.1 ((HX.out.2.2.1.below hb).wider hb.size) HX.out.2.2.2
    rw [HO.out.1, HO.out.2] at H2
    have HB : Hid (Below w.heap.size w W1) := hb
    clear hb H1 HX
    go_wp2_with fail
    refine Calls.mono H2.out ?_
    rintro e W2 ⟨v, rfl, hown, hb2⟩
    obtain ⟨av, cv, rfl⟩ := Rk.own_shape hown
    have HZ : Hid (Below w.heap.size w W2) := HB.out.trans (hb2.mono HB.out.size)
    clear hown hb2 H2
    go_wp2
    go_ret2
    exact ⟨_, rfl, World.ownsRow_nil _ _ _ _, HZ.out⟩
  · have hd : decide ((ol : Int) < n) = false := decide_eq_false (by omega)
    rw [hOR, if_neg hlt]
    clear hE hm hes hck hO hOR hol
    go_enter Try.func17, Try.ntmps17
    go_wp2_with fail
    refine Calls.mono H1.out ?_
    rintro e W1 ⟨rfl, hb⟩
    have H2 : Hid _ := Try.take_any n a c es W1 HX.out.1 HX.out.2.1 ((HX.out.2.2.1.below hb).wider hb.size) HX.out.2.2.2
    rw [HO.out.1, HO.out.2] at H2
    have HB : Hid (Below w.heap.size w W1) := hb
    clear hb H1 HX
    go_wp2_with fail
    refine Calls.mono H2.out ?_
    rintro e W2 ⟨v, rfl, hown, hb2⟩
    obtain ⟨av, cv, rfl⟩ := Rk.own_shape hown
    have HZ : Hid (W2.ownsRow w.heap.size 3 1 (.slice av ol cv) ol (Rk.nums O) ∧ Below w.heap.size w W2) := ⟨Rk.own_wider hown HB.out.size, HB.out.trans (hb2.mono HB.out.size)⟩
    clear hown hb2 H2
    go_wp2
    go_ret2
    exact ⟨_, rfl, by show World.ownsRow _ _ _ _ _ O.length _; rw [HO.out.2]; exact HZ.out.1, HZ.out.2⟩

end Go.Proofs
