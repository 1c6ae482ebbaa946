import Derived.Test.YtndfbgfpnjnmlaaGreatDoorRTmModel
namespace Go.Proofs
open Go.RowKit Go.Shelf
def Gm.heldB (xs : List Int) (most : Int) : Bool := xs.all fun x => decide (0 ≤ x) && decide (x ≤ most)
set_option maxRecDepth 20000 in
set_option maxHeartbeats 4000000 in
theorem Tryz.upto_any (g off c : Nat) (xs : List Int) (most : Int) (W : World) (hx : ∀ j (h : j < xs.length), W.cell? ⟨g, off + j, none⟩ = some (.int .i64 xs[j])) (hl : xs.length ≤ 1000) :
  Calls Tryz.prog 25 #[.int .i64 most, .slice (some ⟨g, off, none⟩) xs.length c] W fun e w' => e = .returned (.bool (Gm.heldB xs most)) ∧ w' = W := by
 obtain ⟨n, hn⟩ : ∃ z, xs.length = z := ⟨_, rfl⟩
 obtain ⟨r, hr⟩ : ∃ z, Gm.heldB xs most = z := ⟨_, rfl⟩
 rw [hn, hr]
 have HX : Hid (∀ j (h : j < n), ∃ x, W.cell? ⟨g, off + j, none⟩ = some (.int .i64 x) ∧ xs[j]? = some x) := fun j h => ⟨_, hx j (by omega), List.getElem?_eq_getElem (by omega)⟩
 have HR : Hid (xs.all (fun x => decide (0 ≤ x) && decide (x ≤ most)) = r ∧ xs.length = n) := ⟨hr, hn⟩
 have hn1 : n ≤ 1000 := by omega
 clear hx hn hr hl
 go_enter Tryz.func25, Tryz.ntmps25
 go_wp2
 go_loopg [6, 9] n (fun gk _ s9 wr => ∃ j : Nat, s9 = .int .i64 j ∧ gk + j = n ∧ wr = W ∧ Hid ((xs.drop j).all (fun x => decide (0 ≤ x) && decide (x ≤ most)) = r))
 case atStart => exact ⟨0, rfl, by omega, rfl, HR.out.1⟩
 case round =>
  obtain ⟨j, rfl, hj, rfl, HJ⟩ := hrel
  by_cases hlt : j < n
  ·have hd : decide ((j : Int) < n) = true := decide_eq_true (by omega)
   obtain ⟨x, hc, hxj⟩ := HX.out j hlt
   have hdr : xs.drop j = x :: xs.drop (j + 1) := by
    obtain ⟨h1, h2⟩ := List.getElem?_eq_some_iff.1 hxj
    rw [← h2]; exact List.drop_eq_getElem_cons h1
   have j1 : (j : Int) < n := by omega
   have j0 : (0 : Int) ≤ j := by omega
   have HA : Hid ((decide (0 ≤ x) && decide (x ≤ most) && (xs.drop (j + 1)).all (fun x => decide (0 ≤ x) && decide (x ≤ most))) = r) := by
    have := HJ.out
    rw [hdr, List.all_cons] at this
    exact this
   clear hdr hxj HJ
   by_cases hx0 : x < 0
   ·have e1 : decide (x < 0) = true := decide_eq_true hx0
    have HE : Hid (r = false) := by show _ = _; rw [← HA.out, decide_eq_false (by omega : ¬ 0 ≤ x)]; rfl
    clear HA hx0
    go_wp2
    go_ret
    exact ⟨by rw [HE.out]; rfl, rfl⟩
   ·have e1 : decide (x < 0) = false := decide_eq_false hx0
    by_cases hxm : most < x
    ·have e2 : decide (most < x) = true := decide_eq_true hxm
     have HE : Hid (r = false) := by show _ = _; rw [← HA.out, decide_eq_false (by omega : ¬ x ≤ most)]; simp
     clear HA hx0 hxm
     go_wp2
     go_ret
     exact ⟨by rw [HE.out]; rfl, rfl⟩
    ·have e2 : decide (most < x) = false := decide_eq_false hxm
     have HN : Hid ((xs.drop (j + 1)).all (fun x => decide (0 ≤ x) && decide (x ≤ most)) = r) := by
      show _ = _
      rw [← HA.out, decide_eq_true (by omega : 0 ≤ x), decide_eq_true (by omega : x ≤ most)]; simp
     clear HA hx0 hxm
     go_wp2
     go_roundg (gk - 1)
     case measure => omega
     case rel => exact ⟨j + 1, by go_num, by omega, rfl, HN.out⟩
  ·obtain rfl : j = n := by omega
   have hd : decide ((j : Int) < j) = false := decide_eq_false (by omega)
   have HE : Hid (r = true) := by show _ = _; rw [← HJ.out, List.drop_eq_nil_of_le (by rw [HR.out.2]; exact Nat.le_refl _)]; rfl
   clear HJ
   go_wp2
   go_ret
   exact ⟨by rw [HE.out]; rfl, rfl⟩
theorem Gm.heldB_split (xs : List Int) (m : Nat) (a b : Int) : (Gm.heldB (xs.take m) a && Gm.heldB (xs.drop m) b) = true ↔ ∀ j, (h : j < xs.length) → 0 ≤ xs[j] ∧ xs[j] ≤ if j < m then a else b := by
 simp only [Gm.heldB, Bool.and_eq_true, List.all_eq_true, decide_eq_true_eq]
 constructor
 ·rintro ⟨h1, h2⟩ j hj
  by_cases hm : j < m
  ·rw [if_pos hm]
   exact h1 _ (List.mem_take_iff_getElem.2 ⟨j, by omega, rfl⟩)
  ·rw [if_neg hm]
   refine h2 _ (List.mem_drop_iff_getElem.2 ⟨j - m, by omega, ?_⟩)
   congr 1; omega
 ·intro h
  constructor
  ·intro x hx
   obtain ⟨j, hj, rfl⟩ := List.mem_take_iff_getElem.1 hx
   have := h j (by omega)
   rw [if_pos (by omega)] at this
   exact this
  ·intro x hx
   obtain ⟨j, hj, rfl⟩ := List.mem_drop_iff_getElem.1 hx
   have := h (m + j) (by omega)
   rw [if_neg (by omega)] at this
   exact this
set_option maxRecDepth 20000 in
set_option maxHeartbeats 4000000 in
theorem Tryz.filled_any (g off : Nat) (xs : List Int) (m : Nat) (most : Int) (W : World) (hx : ∀ j (h : j < xs.length), W.cell? ⟨g, off + j, none⟩ = some (.int .i64 xs[j])) (hl : xs.length ≤ 1000) (hm : m ≤ xs.length) :
   Calls Tryz.prog 23 #[.slice (some ⟨g, off, none⟩) xs.length xs.length, .int .i64 m, .int .i64 most] W fun e w' => e = .returned (.bool (Gm.heldB (xs.take m) most && Gm.heldB (xs.drop m) 0)) ∧ w' = W := by
 have h1 := Tryz.upto_any g off xs.length (xs.take m) most W (fun j hj => by rw [List.getElem_take]; exact hx j (by have := List.length_take_le m xs; simp at hj; omega)) (by simp; omega)
 have h2 := Tryz.upto_any g (off + m) (xs.length - m) (xs.drop m) 0 W (fun j hj => by rw [List.getElem_drop]; have := hx (m + j) (by simp at hj; omega); rw [← Nat.add_assoc] at this; exact this) (by simp; omega)
 have h3 := Tryz.upto_any g off 0 [] 0 W (fun j hj => by simp at hj) (by simp)
 obtain ⟨r1, hr1⟩ : ∃ z, Gm.heldB (xs.take m) most = z := ⟨_, rfl⟩
 obtain ⟨r2, hr2⟩ : ∃ z, Gm.heldB (xs.drop m) 0 = z := ⟨_, rfl⟩
 have e1 : (xs.take m).length = m := by simp; omega
 have e2 : (xs.drop m).length = xs.length - m := by simp
 have e3 : Gm.heldB [] 0 = true := rfl
 rw [hr1, e1] at h1
 rw [hr2, e2] at h2
 rw [e3] at h3
 rw [hr1, hr2]
 obtain ⟨n, hn⟩ : ∃ z, xs.length = z := ⟨_, rfl⟩
 rw [hn] at h1 h2 hm hl ⊢
 have m0 : (0 : Int) ≤ m := by omega
 have m1 : (m : Int) ≤ n := by omega
 have H1 : Hid _ := h1
 have H2 : Hid _ := h2
 have H3 : Hid _ := h3
 have HE : Hid (n = m → r2 = true) := fun e => by
   show _ = _
   rw [← hr2, List.drop_eq_nil_of_le (by omega)]; rfl
 clear h1 h2 h3 hr1 hr2 e1 e2 e3 hx hn
 cases r1 with
 | false =>
   go_enter Tryz.func23, Tryz.ntmps23
   go_wp2_with fail
   refine Calls.mono H1.out ?_
   rintro e W1 ⟨rfl, rfl⟩
   go_wp2
   go_ret
   exact ⟨rfl, rfl⟩
 | true =>
   by_cases hnm : n = m
   ·have := HE.out hnm
    subst hnm
    subst this
    clear H2 HE
    go_enter Tryz.func23, Tryz.ntmps23
    go_wp2_with fail
    refine Calls.mono H1.out ?_
    rintro e W1 ⟨rfl, rfl⟩
    go_wp2_with fail
    refine Calls.mono H3.out ?_
    rintro e W1 ⟨rfl, rfl⟩
    go_wp2
    go_ret
    exact ⟨rfl, rfl⟩
   ·clear H3 HE
    go_enter Tryz.func23, Tryz.ntmps23
    go_wp2_with fail
    refine Calls.mono H1.out ?_
    rintro e W1 ⟨rfl, rfl⟩
    go_wp2_with fail
    refine Calls.mono H2.out ?_
    rintro e W1 ⟨rfl, rfl⟩
    go_wp2
    go_ret
    exact ⟨rfl, rfl⟩
end Go.Proofs
