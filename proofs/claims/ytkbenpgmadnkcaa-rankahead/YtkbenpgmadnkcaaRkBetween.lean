/-
  The contract of Between where the graph and both ends are right.
-/
import Derived.Test.YtkbenpgmadnkcaaRkTurned
namespace Go.Proofs
open Go.RowKit Go.Shelf

theorem Rk.met_back (es : List (Nat × Nat)) (i j : Nat) : Rk.met (es.map fun e => (e.2, e.1)) j i = Rk.met es i j := by
  rw [Bool.eq_iff_iff, Rk.met_iff, Rk.met_iff, Rk.back_iff]

set_option maxHeartbeats 4000000 in
theorem Try.between_ok (n i j : Nat) (a : Option Addr) (c : Nat) (es : List (Nat × Nat)) (w : World) (hn : n ≤ 64) (hi : i < n) (hj : j < n) (hes : ∀ e, e ∈ es → e.1 < n ∧ e.2 < n) (hE : Rk.Eds w w.heap.size a (Rk.up es)) (hm : es.length ≤ 256) (hck : Rk.chk n (Rk.up es) = 0) :
    Calls Try.prog 19 #[.int .i64 n, .slice a es.length c, .int .i64 i, .int .i64 j] w fun e w' => ∃ v, e = .returned (.tuple #[v, .int .i64 0]) ∧
      w'.ownsRow w.heap.size 3 1 v ((List.range n).filter (fun x => Rk.met es i x && Rk.met es x j)).length (Rk.nums ((List.range n).filter (fun x => Rk.met es i x && Rk.met es x j))) ∧ Below w.heap.size w w' := by
  have H1 : Hid _ := Try.check_any n a c (Rk.up es) w hE (by rw [Rk.up_length]; omega)
  rw [hck, Rk.up_length] at H1
  have HI : Hid ((decide ((0 : Int) ≤ i) && decide ((i : Int) < n)) = true) := by show _ = _; simp; omega
  have HJ : Hid ((decide ((0 : Int) ≤ j) && decide ((j : Int) < n)) = true) := by show _ = _; simp; omega
  have HX : Hid (n ≤ 64 ∧ i < n ∧ j < n ∧ (∀ e, e ∈ es → e.1 < n ∧ e.2 < n) ∧ Rk.Eds w w.heap.size a (Rk.up es) ∧ es.length ≤ 256) := ⟨hn, hi, hj, hes, hE, hm⟩
  obtain ⟨F, hF⟩ : ∃ F, (List.range n).filter (fun x => Rk.met es i x && Rk.met es x j) = F := ⟨_, rfl⟩
  have HF : Hid ((List.range n).filter (fun x => Rk.met es i x && Rk.met es x j) = F) := hF
  rw [hF]
  clear hE hm hn hi hj hes hck hF
  go_enter Try.func19, Try.ntmps19
  go_wp2_with fail
  refine Calls.mono H1.out ?_
  rintro e W1 ⟨rfl, hb⟩
  go_wp2_with fail
  refine (Try.within_any n i _).mono ?_
  rintro e W2 ⟨rfl, rfl⟩
  rw [HI.out]
  go_wp2_with fail
  refine (Try.within_any n j _).mono ?_
  rintro e W2 ⟨rfl, rfl⟩
  rw [HJ.out]
  have HB : Hid (Below w.heap.size w W2) := hb
  clear hb H1 HI HJ
  go_wp2_with fail
  refine (Try.mark_any n i a c es W2 HX.out.1 HX.out.2.1 HX.out.2.2.2.1 ((HX.out.2.2.2.2.1.below HB.out).wider HB.out.size) (by have := HX.out.2.2.2.2.2; omega)).mono ?_
  rintro e W3 ⟨rfl, b3, hb3⟩
  have HB3 : Hid (Rk.Bits W3 W2.heap.size ((List.range n).map (Rk.met es i)) ∧ Below w.heap.size w W3 ∧ W2.heap.size < W3.heap.size) := ⟨b3, HB.out.trans (hb3.mono HB.out.size), b3.lt⟩
  clear b3 hb3
  go_wp2_with fail
  refine (Try.turned_any a c es W3 ((HX.out.2.2.2.2.1.below HB3.out.2.1).wider HB3.out.2.1.size) (by have := HX.out.2.2.2.2.2; omega)).mono ?_
  rintro e W4 ⟨rfl, r4, hb4⟩
  have HB4 : Hid (Rk.Bits W4 W2.heap.size ((List.range n).map (Rk.met es i)) ∧ Below w.heap.size w W4 ∧ Rk.Rows W4 W3.heap.size es.length es.length (es.map fun e => (e.2, e.1)) ∧ W3.heap.size < W4.heap.size) := ⟨HB3.out.1.below hb4 HB3.out.2.2, HB3.out.2.1.trans (hb4.mono HB3.out.2.1.size), r4, r4.lt⟩
  have hM := Try.mark_any n j (some ⟨W3.heap.size, 0, none⟩) es.length (es.map fun e => (e.2, e.1)) W4 HX.out.1 HX.out.2.2.1 (by
      intro e he
      obtain ⟨x, hx, rfl⟩ := List.mem_map.1 he
      exact ⟨(HX.out.2.2.2.1 x hx).2, (HX.out.2.2.2.1 x hx).1⟩) (r4.eds (by simp) HB4.out.2.2.2) (by have := HX.out.2.2.2.2.2; simp; omega)
  rw [List.length_map] at hM
  have HM : Hid _ := hM
  clear r4 hb4 hM
  go_wp2_with fail
  refine Calls.mono HM.out ?_
  rintro e W5 ⟨rfl, b5, hb5⟩
  have hfun : (List.range n).map (Rk.met (es.map fun e => (e.2, e.1)) j) = (List.range n).map (fun x => Rk.met es x j) := List.map_congr_left fun x _ => Rk.met_back es x j
  rw [hfun] at b5
  have q1 : W2.heap.size < W5.heap.size := by have := HB3.out.2.2; have := HB4.out.2.2.2; have := b5.lt; omega
  have HB5 : Hid (Rk.Bits W5 W2.heap.size ((List.range n).map (Rk.met es i)) ∧ Below w.heap.size w W5 ∧ Rk.Bits W5 W4.heap.size ((List.range n).map (fun x => Rk.met es x j))) := ⟨HB4.out.1.below hb5 (by have := HB3.out.2.2; have := HB4.out.2.2.2; omega), HB4.out.2.1.trans (hb5.mono HB4.out.2.1.size), b5⟩
  have q2 : W4.heap.size < W5.heap.size := b5.lt
  clear b5 hb5 HM hfun
  obtain ⟨w6, hw6⟩ : ∃ x, (W5.alloc (.cells #[.slice (some ⟨W2.heap.size, 0, none⟩) n n] 43)).alloc (.cells #[.slice (some ⟨W4.heap.size, 0, none⟩) n n] 43) = x := ⟨_, rfl⟩
  have A6 : Below W5.heap.size W5 w6 := by rw [← hw6]; exact ((Below.refl _ W5).alloc (Nat.le_refl _) _).alloc (by simp) _
  have hT := Try.things_any (fun x => Rk.met es i x && Rk.met es x j) 33 #[.pointer (some ⟨W5.heap.size, 0, none⟩), .pointer (some ⟨W5.heap.size + 1, 0, none⟩)] Rk.enters_between n w6
    (Rk.between_hold W5.heap.size (W5.heap.size + 1) W2.heap.size W4.heap.size n (Rk.met es i) (fun x => Rk.met es x j) w6 (by rw [← hw6]; simp; omega) (by rw [← hw6]; simp) (by rw [← hw6]; simp) (by rw [← hw6]; simp) (HB5.out.1.below A6 q1) (HB5.out.2.2.below A6 q2)) HX.out.1
  rw [HF.out] at hT
  have HT : Hid _ := hT
  have HW : Hid (Below w.heap.size w w6) := HB5.out.2.1.trans (A6.mono HB5.out.2.1.size)
  have H6 : Hid ((W5.alloc (.cells #[.slice (some ⟨W2.heap.size, 0, none⟩) n n] 43)).alloc (.cells #[.slice (some ⟨W4.heap.size, 0, none⟩) n n] 43) = w6) := hw6
  clear hT A6 hw6 HB3 HB4 HB5 HX
  go_wp2_with fail
  rw [H6.out]
  refine Calls.mono HT.out ?_
  rintro e W7 ⟨v, rfl, hown, hb7⟩
  obtain ⟨av, cv, rfl⟩ := Rk.own_shape hown
  go_wp2
  go_ret2
  exact ⟨_, rfl, Rk.own_wider hown HW.out.size, HW.out.trans (hb7.mono HW.out.size)⟩

end Go.Proofs
