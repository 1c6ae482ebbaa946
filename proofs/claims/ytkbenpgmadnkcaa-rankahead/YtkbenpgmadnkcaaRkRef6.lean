/-
  The contract of the document's Order.
-/
import Derived.Test.YtkbenpgmadnkcaaRkRef5
namespace Go.Proofs
open Go.RowKit Go.Shelf

set_option maxHeartbeats 4000000 in
theorem Try.rorder_err (n err : Int) (a : Option Addr) (c : Nat) (rs : List (Int × Int)) (w : World) (hE : Rk.Eds w w.heap.size a rs) (hm : rs.length ≤ 1000000000000000) (he : Rk.chk n rs = err) (h0 : err ≠ 0) :
    Calls Try.prog 18 #[.int .i64 n, .slice a rs.length c] w fun e w' => e = .returned (.tuple #[.slice none 0 0, .int .i64 err]) ∧ Below w.heap.size w w' := by
  have H1 : Hid _ := Try.rround_err n err a c rs w hE hm he h0
  have hd : (err == 0) = false := by simpa using h0
  obtain ⟨m, hmm⟩ : ∃ m, rs.length = m := ⟨_, rfl⟩
  rw [hmm] at H1 ⊢
  clear hE hm he hmm h0
  go_enter Try.func18, Try.ntmps18
  go_wp2_with fail
  refine Calls.mono H1.out ?_
  rintro e W1 ⟨rfl, hb⟩
  go_wp2
  go_ret2
  exact ⟨rfl, hb⟩

theorem Rk.round_some {n : Nat} {es : List (Nat × Nat)} (hes : ∀ e, e ∈ es → e.1 < n ∧ e.2 < n) : 0 < ((List.range n).filter (fun i => Rk.lead es i i)).length ↔ (Rk.order n es).length < n := by
  rw [Rk.order_whole hes, List.length_pos_iff_exists_mem]
  constructor
  · rintro ⟨x, hx⟩
    rw [List.mem_filter, List.mem_range, Rk.lead_iff] at hx
    exact ⟨x, hx⟩
  · rintro ⟨x, hx, hc⟩
    exact ⟨x, by rw [List.mem_filter, List.mem_range, Rk.lead_iff]; exact ⟨hx, hc⟩⟩

set_option maxHeartbeats 8000000 in
theorem Try.rorder_ok (n : Nat) (a : Option Addr) (c : Nat) (es : List (Nat × Nat)) (w : World) (hn : n ≤ 64) (hes : ∀ e, e ∈ es → e.1 < n ∧ e.2 < n) (hE : Rk.Eds w w.heap.size a (Rk.up es)) (hm : es.length ≤ 1000000000000000) (hck : Rk.chk n (Rk.up es) = 0) :
    Calls Try.prog 18 #[.int .i64 n, .slice a es.length c] w fun e w' => ∃ v, e = .returned (.tuple #[v, .int .i64 (Rk.orderR n es).2]) ∧
      w'.ownsRow w.heap.size 3 1 v (Rk.orderR n es).1.length (Rk.nums (Rk.orderR n es).1) ∧ Below w.heap.size w w' := by
  obtain ⟨i0, hi, hz0, hz1, hz2⟩ := info_parts Try.infoIntR
  have H1 : Hid _ := Try.rround_ok n a c es w hn hes hE hm hck
  have HX : Hid ((∀ e, e ∈ es → e.1 < n ∧ e.2 < n) ∧ Rk.Eds w w.heap.size a (Rk.up es) ∧ es.length ≤ 1000000000000000) := ⟨hes, hE, hm⟩
  have hrs := Rk.round_some hes
  have hlR : ((List.range n).filter (fun i => Rk.lead es i i)).length ≤ n := by
    have := List.length_filter_le (fun i => Rk.lead es i i) (List.range n)
    rwa [List.length_range] at this
  obtain ⟨R, hR⟩ : ∃ R, (List.range n).filter (fun i => Rk.lead es i i) = R := ⟨_, rfl⟩
  rw [hR] at H1 hrs hlR
  obtain ⟨rl, hrl⟩ : ∃ k, R.length = k := ⟨_, rfl⟩
  rw [hrl] at H1 hrs hlR
  clear hE hm hes hck hR hrl
  by_cases hpos : 0 < rl
  · have hor : Rk.orderR n es = ([], 7) := by unfold Rk.orderR; rw [if_pos (hrs.1 hpos)]
    rw [hor]
    clear hrs hor
    go_enter Try.func18, Try.ntmps18
    go_wp2_with fail
    refine Calls.mono H1.out ?_
    rintro e W1 ⟨v, rfl, hown, hb⟩
    obtain ⟨av, cv, rfl⟩ := Rk.own_shape hown
    clear hown H1
    go_wp2
    go_ret2
    exact ⟨_, rfl, World.ownsRow_nil _ _ _ _, hb⟩
  · obtain rfl : rl = 0 := by omega
    have hlen : ¬ (Rk.order n es).length < n := fun h => hpos (hrs.2 h)
    obtain ⟨O, hO⟩ : ∃ O, Rk.order n es = O := ⟨_, rfl⟩
    have hor : Rk.orderR n es = (O, 0) := by unfold Rk.orderR; rw [if_neg hlen, hO]
    rw [hor]
    have HO : Hid (Rk.order n es = O) := hO
    have hmk := Rk.make_bools n hn
    clear hrs hor hlen hpos hO hlR
    go_enter Try.func18, Try.ntmps18
    go_wp2_with fail
    refine Calls.mono H1.out ?_
    rintro e W1 ⟨v, rfl, hown, hb⟩
    obtain ⟨av, cv, rfl⟩ := Rk.own_shape hown
    obtain ⟨g, hg⟩ : ∃ g, W1.heap.size = g := ⟨_, rfl⟩
    have hwg : w.heap.size ≤ g := by rw [← hg]; exact hb.size
    have X1 : Hid (Rk.Bits (W1.alloc (.cells (Rk.row n) 4)) g (List.replicate n false) ∧ Below w.heap.size w (W1.alloc (.cells (Rk.row n) 4))) := ⟨by rw [← hg]; exact Rk.row_bits W1 n, hb.alloc hb.size _⟩
    clear hown H1 hb
    go_wp2
    clear hmk
    go_loopg [9, 10] n (fun gk s9 s10 wr => ∃ (k r : Nat) (tk : List Bool) (L : List Nat), gk + k = n ∧ s10 = .int .i64 k ∧ r ≤ k ∧ Hid (Rk.Took n es tk L ∧ Rk.go n es (n - k) tk L = O ∧ L.length = r ∧ Rk.Bits wr g tk ∧ Below w.heap.size w wr) ∧ wr.ownsRow (g + 1) 3 1 s9 r (Rk.nums L))
    case atStart => exact ⟨0, 0, _, [], by omega, rfl, Nat.le_refl _, ⟨Rk.Took.start n es, HO.out, rfl, X1.out.1, X1.out.2⟩, World.ownsRow_nil _ _ _ _⟩
    case round =>
      obtain ⟨k, r, tk, L, hk, rfl, hr, HB, hown⟩ := hrel
      clear X1
      obtain ⟨av, cv, rfl⟩ := Rk.own_shape hown
      by_cases hlt : k < n
      · have hd : decide ((k : Int) < n) = true := decide_eq_true (by omega)
        have hgg : gk = n - k := by omega
        subst hgg
        go_wp2
        go_loopg [9, 11] n (fun gi s9 s11 wi => ∃ j : Nat, gi + j = n ∧ s9 = .slice av r cv ∧ s11 = .int .i64 j ∧ Hid (Rk.Bits wi g tk ∧ Below w.heap.size w wi ∧ ∀ x, x < j → Rk.nextB es tk x = false) ∧ wi.ownsRow (g + 1) 3 1 (.slice av r cv) r (Rk.nums L))
        case atStart => exact ⟨0, by omega, rfl, rfl, ⟨HB.out.2.2.2.1, HB.out.2.2.2.2, fun x h => by omega⟩, hown⟩
        case round =>
          clear hown hd
          obtain ⟨j, hj, rfl, rfl, HI, hown⟩ := hrel
          by_cases hlj : j < n
          · have hd : decide ((j : Int) < n) = true := decide_eq_true (by omega)
            have hlj' : (j : Int) < n := by omega
            have hz : g < wr.heap.size := HI.out.1.lt
            obtain ⟨b, hb⟩ : ∃ b, tk[j]? = some b := ⟨_, List.getElem?_eq_getElem (by rw [HB.out.1.len]; exact hlj)⟩
            have HK : Hid (tk[j]? = some b) := hb
            have HC : Hid _ := Try.rfree_any g n j n c tk a es wr HX.out.1 HB.out.1.len hlj HI.out.1 ((HX.out.2.1.below HI.out.2.1).wider HI.out.2.1.size) HX.out.2.2
            obtain ⟨q, hq⟩ : ∃ q, Rk.nextB es tk j = q := ⟨_, rfl⟩
            have HN : Hid (Rk.nextB es tk j = q) := hq
            rw [hq] at HC
            clear hq hb
            cases q
            · go_wp2_with fail
              refine Calls.mono HC.out ?_
              rintro e W2 ⟨rfl, hb2⟩
              have HZ : Hid (Rk.Bits W2 g tk ∧ Below w.heap.size w W2 ∧ W2.ownsRow (g + 1) 3 1 (.slice av r cv) r (Rk.nums L)) := ⟨HI.out.1.below hb2 hz, HI.out.2.1.trans (hb2.mono (by omega)), Rk.own_below hown hb2⟩
              clear hb2 hown
              go_wp2
              go_roundg (gk - 1)
              case measure => omega
              case rel =>
                refine ⟨j + 1, by omega, rfl, by go_num, ⟨HZ.out.1, HZ.out.2.1, fun x hx => ?_⟩, HZ.out.2.2⟩
                by_cases hxj : x = j
                · subst hxj; exact HN.out
                · exact HI.out.2.2 x (by omega)
            · have hfnd := Rk.find_at hlj HN.out HI.out.2.2
              obtain rfl : b = false := by
                have := (Rk.next_fresh HB.out.1.len hfnd).2.1
                rw [HK.out] at this
                exact Option.some.inj this
              have hgo : Rk.go n es (n - (k + 1)) (tk.set j true) (L ++ [j]) = O := by
                have h3 := HB.out.2.1
                rw [show n - k = (n - (k + 1)) + 1 by omega, Rk.go_some hfnd] at h3
                exact h3
              have HF : Hid (Rk.Took n es (tk.set j true) (L ++ [j]) ∧ Rk.go n es (n - (k + 1)) (tk.set j true) (L ++ [j]) = O) := ⟨HB.out.1.next hfnd, hgo⟩
              clear hfnd hgo
              go_wp2_with fail
              refine Calls.mono HC.out ?_
              rintro e W2 ⟨rfl, hb2⟩
              have b2 := HI.out.1.below hb2 hz
              have kk := b2.cell j false HK.out
              have kf := b2.frozen j
              have own1 : (W2.setCell ⟨g, j, none⟩ (.bool true)).ownsRow (g + 1) 3 1 (.slice av r cv) r (Rk.nums L) := ownsRow_setCell_below (Rk.own_below hown hb2) (by show g < _; omega) _
              have hs2 : wr.heap.size ≤ W2.heap.size := hb2.size
              have HB1 : Hid (Below w.heap.size w (W2.setCell ⟨g, j, none⟩ (.bool true)) ∧ Rk.Bits (W2.setCell ⟨g, j, none⟩ (.bool true)) g (tk.set j true)) := ⟨(HI.out.2.1.trans (hb2.mono (by omega))).setCell (p := ⟨g, j, none⟩) (by show w.heap.size ≤ g; omega) _, b2.put j true⟩
              clear hb2 b2 hown HC
              go_wp2_with (at_builtin; refine wpList_append_own _ rfl _ _ 26 rfl (g + 1) 3 i0 (.int .i64 0) 1 8 Try.underlying26 hi hz0 hz1 hz2 rfl (by decide) _ _ _ rfl (own1.alloc _) ⟨W2.heap.size, 0, none⟩ 1 1 [.int .i64 j] rfl rfl ?c1 (Rk.one_one j) ?c3 ?c4 ?c5 ?_)
              case c1 => simpa using Rk.one_cell (W2.setCell ⟨g, j, none⟩ (.bool true)) j 3
              case c3 => unfold maxLen; omega
              case c4 => omega
              case c5 => simp; omega
              intro v' W3 own3 g3 _
              obtain ⟨a3, c3', rfl⟩ := Rk.own_shape own3
              have hb3 : Below (g + 1) ((W2.setCell ⟨g, j, none⟩ (.bool true)).alloc (.cells #[.int .i64 j] 3)) W3 := Rk.below_grown (Below.refl _ _) (by simp; omega) (own1.alloc _) g3
              have HW3 : Hid (Below w.heap.size w W3 ∧ Rk.Bits W3 g (tk.set j true)) :=
                ⟨(HB1.out.1.alloc (by simp; omega) _).trans (hb3.mono (by omega)), (HB1.out.2.keep (Below.heap_alloc _ _ _ HB1.out.2.lt)).below hb3 (by omega)⟩
              clear hb3 g3 own1 HB1
              go_wp2
              go_roundg (n - (k + 1))
              case measure => omega
              case rel =>
                refine ⟨k + 1, r + 1, tk.set j true, L ++ [j], by omega, by go_num, by omega, ⟨HF.out.1, HF.out.2, by simp [HB.out.2.2.1], HW3.out.2, HW3.out.1⟩, ?_⟩
                rw [Rk.nums_snoc]; exact own3
          · have hd : decide ((j : Int) < n) = false := decide_eq_false (by omega)
            obtain rfl : j = n := by omega
            have HF : Hid (Rk.go j es (j - (k + 1)) tk L = O) := by
              show _ = _
              have h1 := Rk.find_no HI.out.2.2
              rw [Rk.go_none h1]
              have h2 := HB.out.2.1
              rw [Rk.go_none h1] at h2
              exact h2
            go_wp2
            go_roundg (j - (k + 1))
            case measure => omega
            case rel => exact ⟨k + 1, r, tk, L, by omega, by go_num, by omega, ⟨HB.out.1, HF.out, HB.out.2.2.1, HI.out.1, HI.out.2.1⟩, hown⟩
      · have hd : decide ((k : Int) < n) = false := decide_eq_false (by omega)
        have hL : L = O := by
          have := HB.out.2.1
          rw [show n - k = 0 by omega] at this
          exact this
        go_wp2
        go_ret2
        subst hL
        refine ⟨_, rfl, ?_, HB.out.2.2.2.2⟩
        show World.ownsRow _ _ _ _ _ L.length _
        rw [HB.out.2.2.1]
        exact Rk.own_wider hown (by omega)

end Go.Proofs
