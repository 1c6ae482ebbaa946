/-
  does: a step, done by both.
-/
import Derived.Test.YtdclfmmmlicaaaaPsTwo
namespace Go.Proofs
open Go.RowKit Go.Shelf Go.Maps

theorem Ps.undrew {E : Nat → Prop} {w w' : World} (h : Tk.But E w.drew w') : Tk.But E w w' := ⟨h.os, h.tape, h.output, h.size, h.block⟩
theorem Ps.joined {B : Nat} {E : Nat → Prop} {o q : Nat} {pm pm' : Option Nat} {v v' : Value} {M M' : Ps.Ofc} {w w0 W1 W2 : World} (hb0 : Below w.heap.size w w0) (h0 : Ps.At o pm M w) (d0 : Ps.Dc B q v M w) (h1 : E o) (h2 : ∀ b, pm = some b → E b) (h3 : E q) (h4 : ∀ g, v.ownBlock = some g → E g)
    (hok : Ps.Ok M') (hp : pm' = pm ∨ ∃ b, pm' = some b ∧ w0.heap.size ≤ b) (hA : Ps.At o pm' M' W1) (hB : Tk.But (fun x => x = o ∨ pm = some x) w0 W1) (hv : ∀ g, v'.ownBlock = some g → v.ownBlock = some g ∨ W1.heap.size ≤ g) (hD : Ps.Dc B q v' M' W2) (hB2 : Tk.But (fun x => x = q ∨ v.ownBlock = some x) W1 W2) :
    ∃ E' : Nat → Prop, (∀ x, E' x → E x ∨ w.heap.size ≤ x) ∧ Ps.Two B E' o q M' W2 ∧ Tk.But E w W2 := by
  have h0' := h0.below hb0 (Nat.le_refl _)
  have d0' := d0.below hb0 (Nat.le_refl _)
  have ap := Ps.apart h0' d0'
  have d1 : Ps.Dc B q v M W1 := d0'.but hB (by rintro (e | e); exact ap.1 e.symm; exact ap.2.1 e) fun g hg => by
    rintro (e | e)
    · subst e
      exact ap.2.2.1 hg
    · exact ap.2.2.2 g e hg
  have ap1 := Ps.apart hA d1
  have a2 : Ps.At o pm' M' W2 := hA.but hB2 (by rintro (e | e); exact ap1.1 e; exact ap1.2.2.1 e) fun b hb => by
    rintro (e | e)
    · subst e
      exact ap1.2.1 hb
    · exact ap1.2.2.2 b hb e
  refine ⟨fun x => E x ∨ w.heap.size ≤ x, fun x hx => hx, ⟨hok, pm', v', a2, hD, .inl h1, fun b hb => ?_, .inl h3, fun g hg => ?_⟩, ?_⟩
  · rcases hp with rfl | ⟨b', e, hb'⟩
    · exact .inl (h2 b hb)
    · have : b' = b := by rw [e] at hb; exact Option.some.inj hb
      have := hb0.size
      exact .inr (by omega)
  · rcases hv g hg with e | e
    · exact .inl (h4 g e)
    · have := hb0.size
      have := hB.size
      exact .inr (by omega)
  · refine ⟨hB2.os.trans (hB.os.trans hb0.os), hB2.tape.trans (hB.tape.trans hb0.tape), hB2.output.trans (hB.output.trans hb0.output), Nat.le_trans hb0.size (Nat.le_trans hB.size hB2.size), fun x hx he => ?_⟩
    have e1 := hb0.block x hx
    have e2 := hB.block x (Nat.lt_of_lt_of_le hx hb0.size) (by rintro (e | e); exact he (e ▸ h1); exact he (h2 x e))
    have e3 := hB2.block x (Nat.lt_of_lt_of_le hx (Nat.le_trans hb0.size hB.size)) (by rintro (e | e); exact he (e ▸ h3); exact he (h4 x e))
    rw [e3, e2, e1]

set_option maxRecDepth 20000 in
set_option maxHeartbeats 3200000 in
theorem Try.does_0 (B : Nat) (E : Nat → Prop) (o q : Nat) (M : Ps.Ofc) (k m : Int) (hk : (Lit.int .i64 k).wf = true) (w : World) (hB : B ≤ w.heap.size) (h : Ps.Two B E o q M w) :
    Calls Try.prog 10 #[.pointer (some ⟨o, 0, none⟩), .pointer (some ⟨q, 0, none⟩), .agg #[.int .i64 0, .int .i64 k, .int .i64 m]] w fun e w' => e = .returned (.bool true) ∧ ∃ E' : Nat → Prop, (∀ x, E' x → E x ∨ w.heap.size ≤ x) ∧ Ps.Two B E' o q (Ps.openM M k) w' ∧ Tk.But E w w' := by
  obtain ⟨hok, pm, v, h1, h2, h3, h4, h5, h6⟩ := h
  obtain ⟨w0, hw0⟩ : ∃ x, w.alloc (.cells #[.int .i64 0, .int .i64 k, .int .i64 m] 31) = x := ⟨_, rfl⟩
  have b0 : Below w.heap.size w w0 := by rw [← hw0]; exact (Below.refl _ w).alloc (Nat.le_refl _) _
  have hs0 : w0.heap.size = w.heap.size + 1 := by rw [← hw0]; simp
  have hbl : w0.heap[w.heap.size]? = some (.cells #[.int .i64 0, .int .i64 k, .int .i64 m] 31 (0, 0)) := by rw [← hw0]; exact heap_alloc_new _ _
  have a1 := h1.below b0 (Nat.le_refl _)
  have a2 := h2.below b0 (Nat.le_refl _)
  have ap := Ps.apart a1 a2
  have SB : Hid (∀ W : World, W.heap[w.heap.size]? = w0.heap[w.heap.size]? → W.cell? ⟨w.heap.size, 1, none⟩ = some (.int .i64 k) ∧ W.cell? ⟨w.heap.size, 2, none⟩ = some (.int .i64 m)) := fun W e => by
    rw [hbl] at e
    simp [World.cell?, e]
  have HN : Hid (∀ pm' W1, Tk.But (fun x => x = o ∨ pm = some x) w0 W1 → Ps.At o pm' (Ps.openM M k) W1 → W1.heap[w.heap.size]? = w0.heap[w.heap.size]? ∧ Ps.Dc B q v M W1 ∧ B ≤ W1.heap.size) := fun pm' W1 hb1 _ => by
    refine ⟨hb1.block _ (by omega) ?_, a2.but hb1 (by rintro (e | e); exact ap.1 e.symm; exact ap.2.1 e) fun g hg => ?_, by have := hb1.size; omega⟩
    · rintro (e | e)
      · have := h1.lt
        omega
      · subst e
        have := h1.mlt
        omega
    · rintro (e | e)
      · subst e
        exact ap.2.2.1 hg
      · exact ap.2.2.2 g e hg
  have HV : Hid (∀ W1 W2, Tk.But (fun x => x = o ∨ pm = some x) w0 W1 → Tk.But (fun x => x = q ∨ v.ownBlock = some x) W1 W2 → W1.heap[w.heap.size]? = w0.heap[w.heap.size]? → W2.heap[w.heap.size]? = w0.heap[w.heap.size]?) := fun W1 W2 hb1 hb2 e1 => by
    refine (hb2.block _ (by have := hb1.size; omega) ?_).trans e1
    rintro (e | e)
    · have := h2.lt
      omega
    · have := (h2.row e).1
      omega
  have HJ : Hid (∀ pm' v' W1 W2, (pm' = pm ∨ ∃ b, pm' = some b ∧ w0.heap.size ≤ b) → Ps.At o pm' (Ps.openM M k) W1 → Tk.But (fun x => x = o ∨ pm = some x) w0 W1 → (∀ g, v'.ownBlock = some g → v.ownBlock = some g ∨ W1.heap.size ≤ g) → Ps.Dc B q v' (Ps.openM M k) W2 → Tk.But (fun x => x = q ∨ v.ownBlock = some x) W1 W2 →
      ∃ E' : Nat → Prop, (∀ x, E' x → E x ∨ w.heap.size ≤ x) ∧ Ps.Two B E' o q (Ps.openM M k) W2 ∧ Tk.But E w W2) := fun pm' v' W1 W2 p1 p2 p3 p4 p5 p6 => Ps.joined b0 h1 h2 h3 h4 h5 h6 (hok.open k) p1 p2 p3 p4 p5 p6
  have HA : Hid (Ps.At o pm M w0 ∧ Ps.Ok M ∧ (Ps.key M).Nodup) := ⟨a1, hok, h1.nodup⟩
  have HW0 : Hid (w.alloc (.cells #[.int .i64 0, .int .i64 k, .int .i64 m] 31) = w0) := hw0
  clear h1 h2 h3 h4 h5 h6 hw0 b0 hs0 hbl a1 a2 ap hok hB
  go_enter Try.func10, Try.ntmps10
  go_upto_region 4 with fail
  rw [HW0.out]
  go_region_held3 (fun W => W.cell? ⟨w.heap.size, 1, none⟩ = some (.int .i64 k) ∧ W.cell? ⟨w.heap.size, 2, none⟩ = some (.int .i64 m))
    (first | exact SB.out _ K2.out.1 | exact SB.out _ K1.out.1 | exact SB.out _ rfl)
    (first
    | (go_simp; go_at_call 16; refine Calls.mono (Try.pOpen_any o pm M k hk _ (by exact HA.out.1)) ?_; rintro e W1 ⟨rfl, ⟨pm1, hp1, hA1⟩, hb0⟩; have hb1 := Ps.undrew hb0; clear hb0; have K1 : Hid (W1.heap[w.heap.size]? = w0.heap[w.heap.size]? ∧ Ps.Dc B q v M W1 ∧ B ≤ W1.heap.size) := HN.out pm1 W1 hb1 hA1; have L1 : Hid ((pm1 = pm ∨ ∃ b, pm1 = some b ∧ w0.heap.size ≤ b) ∧ Ps.At o pm1 (Ps.openM M k) W1) := ⟨hp1, hA1⟩; have LB : Hid (Tk.But (fun x => x = o ∨ pm = some x) w0 W1) := hb1; clear hb1 hA1; clear hp1)
    | (go_simp; go_at_call 20; refine Calls.mono (Try.rOpen_any B q v M k _ (by exact K1.out.2.1) (by exact K1.out.2.2) HA.out.2.1.2) ?_; rintro e W2 ⟨rfl, ⟨v2, hD2, hv2⟩, hb2⟩; have K2 : Hid (W2.heap[w.heap.size]? = w0.heap[w.heap.size]? ∧ Ps.Dc B q v2 (Ps.openM M k) W2 ∧ (∀ g, v2.ownBlock = some g → v.ownBlock = some g ∨ W1.heap.size ≤ g) ∧ Tk.But (fun x => x = q ∨ v.ownBlock = some x) W1 W2) := ⟨HV.out W1 W2 LB.out hb2 K1.out.1, hD2, hv2, hb2⟩; clear hD2 hv2 hb2))
  clear SB HN HV
  go_simp
  go_wp2
  go_ret
  exact ⟨rfl, HJ.out _ _ _ _ L1.out.1 L1.out.2 LB.out K2.out.2.2.1 K2.out.2.1 K2.out.2.2.2⟩

set_option maxRecDepth 20000 in
set_option maxHeartbeats 3200000 in
theorem Try.does_1 (B : Nat) (E : Nat → Prop) (o q : Nat) (M : Ps.Ofc) (k m : Int) (hk : (Lit.int .i64 k).wf = true) (w : World) (hB : B ≤ w.heap.size) (h : Ps.Two B E o q M w) :
    Calls Try.prog 10 #[.pointer (some ⟨o, 0, none⟩), .pointer (some ⟨q, 0, none⟩), .agg #[.int .i64 1, .int .i64 k, .int .i64 m]] w fun e w' => e = .returned (.bool true) ∧ ∃ E' : Nat → Prop, (∀ x, E' x → E x ∨ w.heap.size ≤ x) ∧ Ps.Two B E' o q (Ps.openM M k) w' ∧ Tk.But E w w' := by
  obtain ⟨hok, pm, v, h1, h2, h3, h4, h5, h6⟩ := h
  obtain ⟨w0, hw0⟩ : ∃ x, w.alloc (.cells #[.int .i64 1, .int .i64 k, .int .i64 m] 31) = x := ⟨_, rfl⟩
  have b0 : Below w.heap.size w w0 := by rw [← hw0]; exact (Below.refl _ w).alloc (Nat.le_refl _) _
  have hs0 : w0.heap.size = w.heap.size + 1 := by rw [← hw0]; simp
  have hbl : w0.heap[w.heap.size]? = some (.cells #[.int .i64 1, .int .i64 k, .int .i64 m] 31 (0, 0)) := by rw [← hw0]; exact heap_alloc_new _ _
  have a1 := h1.below b0 (Nat.le_refl _)
  have a2 := h2.below b0 (Nat.le_refl _)
  have ap := Ps.apart a1 a2
  have SB : Hid (∀ W : World, W.heap[w.heap.size]? = w0.heap[w.heap.size]? → W.cell? ⟨w.heap.size, 1, none⟩ = some (.int .i64 k) ∧ W.cell? ⟨w.heap.size, 2, none⟩ = some (.int .i64 m)) := fun W e => by
    rw [hbl] at e
    simp [World.cell?, e]
  have HN : Hid (∀ pm' W1, Tk.But (fun x => x = o ∨ pm = some x) w0 W1 → Ps.At o pm' (Ps.openM M k) W1 → W1.heap[w.heap.size]? = w0.heap[w.heap.size]? ∧ Ps.Dc B q v M W1 ∧ B ≤ W1.heap.size) := fun pm' W1 hb1 _ => by
    refine ⟨hb1.block _ (by omega) ?_, a2.but hb1 (by rintro (e | e); exact ap.1 e.symm; exact ap.2.1 e) fun g hg => ?_, by have := hb1.size; omega⟩
    · rintro (e | e)
      · have := h1.lt
        omega
      · subst e
        have := h1.mlt
        omega
    · rintro (e | e)
      · subst e
        exact ap.2.2.1 hg
      · exact ap.2.2.2 g e hg
  have HV : Hid (∀ W1 W2, Tk.But (fun x => x = o ∨ pm = some x) w0 W1 → Tk.But (fun x => x = q ∨ v.ownBlock = some x) W1 W2 → W1.heap[w.heap.size]? = w0.heap[w.heap.size]? → W2.heap[w.heap.size]? = w0.heap[w.heap.size]?) := fun W1 W2 hb1 hb2 e1 => by
    refine (hb2.block _ (by have := hb1.size; omega) ?_).trans e1
    rintro (e | e)
    · have := h2.lt
      omega
    · have := (h2.row e).1
      omega
  have HJ : Hid (∀ pm' v' W1 W2, (pm' = pm ∨ ∃ b, pm' = some b ∧ w0.heap.size ≤ b) → Ps.At o pm' (Ps.openM M k) W1 → Tk.But (fun x => x = o ∨ pm = some x) w0 W1 → (∀ g, v'.ownBlock = some g → v.ownBlock = some g ∨ W1.heap.size ≤ g) → Ps.Dc B q v' (Ps.openM M k) W2 → Tk.But (fun x => x = q ∨ v.ownBlock = some x) W1 W2 →
      ∃ E' : Nat → Prop, (∀ x, E' x → E x ∨ w.heap.size ≤ x) ∧ Ps.Two B E' o q (Ps.openM M k) W2 ∧ Tk.But E w W2) := fun pm' v' W1 W2 p1 p2 p3 p4 p5 p6 => Ps.joined b0 h1 h2 h3 h4 h5 h6 (hok.open k) p1 p2 p3 p4 p5 p6
  have HA : Hid (Ps.At o pm M w0 ∧ Ps.Ok M ∧ (Ps.key M).Nodup) := ⟨a1, hok, h1.nodup⟩
  have HW0 : Hid (w.alloc (.cells #[.int .i64 1, .int .i64 k, .int .i64 m] 31) = w0) := hw0
  clear h1 h2 h3 h4 h5 h6 hw0 b0 hs0 hbl a1 a2 ap hok hB
  go_enter Try.func10, Try.ntmps10
  go_upto_region 4 with fail
  rw [HW0.out]
  go_region_held3 (fun W => W.cell? ⟨w.heap.size, 1, none⟩ = some (.int .i64 k) ∧ W.cell? ⟨w.heap.size, 2, none⟩ = some (.int .i64 m))
    (first | exact SB.out _ K2.out.1 | exact SB.out _ K1.out.1 | exact SB.out _ rfl)
    (first
    | (go_simp; go_at_call 16; refine Calls.mono (Try.pOpen_any o pm M k hk _ (by exact HA.out.1)) ?_; rintro e W1 ⟨rfl, ⟨pm1, hp1, hA1⟩, hb0⟩; have hb1 := Ps.undrew hb0; clear hb0; have K1 : Hid (W1.heap[w.heap.size]? = w0.heap[w.heap.size]? ∧ Ps.Dc B q v M W1 ∧ B ≤ W1.heap.size) := HN.out pm1 W1 hb1 hA1; have L1 : Hid ((pm1 = pm ∨ ∃ b, pm1 = some b ∧ w0.heap.size ≤ b) ∧ Ps.At o pm1 (Ps.openM M k) W1) := ⟨hp1, hA1⟩; have LB : Hid (Tk.But (fun x => x = o ∨ pm = some x) w0 W1) := hb1; clear hb1 hA1; clear hp1)
    | (go_simp; go_at_call 20; refine Calls.mono (Try.rOpen_any B q v M k _ (by exact K1.out.2.1) (by exact K1.out.2.2) HA.out.2.1.2) ?_; rintro e W2 ⟨rfl, ⟨v2, hD2, hv2⟩, hb2⟩; have K2 : Hid (W2.heap[w.heap.size]? = w0.heap[w.heap.size]? ∧ Ps.Dc B q v2 (Ps.openM M k) W2 ∧ (∀ g, v2.ownBlock = some g → v.ownBlock = some g ∨ W1.heap.size ≤ g) ∧ Tk.But (fun x => x = q ∨ v.ownBlock = some x) W1 W2) := ⟨HV.out W1 W2 LB.out hb2 K1.out.1, hD2, hv2, hb2⟩; clear hD2 hv2 hb2))
  clear SB HN HV
  go_simp
  go_wp2
  go_ret
  exact ⟨rfl, HJ.out _ _ _ _ L1.out.1 L1.out.2 LB.out K2.out.2.2.1 K2.out.2.1 K2.out.2.2.2⟩

set_option maxRecDepth 20000 in
set_option maxHeartbeats 3200000 in
theorem Try.does_2 (B : Nat) (E : Nat → Prop) (o q : Nat) (M : Ps.Ofc) (k m : Int) (hk : (Lit.int .i64 k).wf = true) (w : World) (hB : B ≤ w.heap.size) (h : Ps.Two B E o q M w) :
    Calls Try.prog 10 #[.pointer (some ⟨o, 0, none⟩), .pointer (some ⟨q, 0, none⟩), .agg #[.int .i64 2, .int .i64 k, .int .i64 m]] w fun e w' => e = .returned (.bool true) ∧ ∃ E' : Nat → Prop, (∀ x, E' x → E x ∨ w.heap.size ≤ x) ∧ Ps.Two B E' o q (Ps.cut M k) w' ∧ Tk.But E w w' := by
  obtain ⟨hok, pm, v, h1, h2, h3, h4, h5, h6⟩ := h
  obtain ⟨w0, hw0⟩ : ∃ x, w.alloc (.cells #[.int .i64 2, .int .i64 k, .int .i64 m] 31) = x := ⟨_, rfl⟩
  have b0 : Below w.heap.size w w0 := by rw [← hw0]; exact (Below.refl _ w).alloc (Nat.le_refl _) _
  have hs0 : w0.heap.size = w.heap.size + 1 := by rw [← hw0]; simp
  have hbl : w0.heap[w.heap.size]? = some (.cells #[.int .i64 2, .int .i64 k, .int .i64 m] 31 (0, 0)) := by rw [← hw0]; exact heap_alloc_new _ _
  have a1 := h1.below b0 (Nat.le_refl _)
  have a2 := h2.below b0 (Nat.le_refl _)
  have ap := Ps.apart a1 a2
  have SB : Hid (∀ W : World, W.heap[w.heap.size]? = w0.heap[w.heap.size]? → W.cell? ⟨w.heap.size, 1, none⟩ = some (.int .i64 k) ∧ W.cell? ⟨w.heap.size, 2, none⟩ = some (.int .i64 m)) := fun W e => by
    rw [hbl] at e
    simp [World.cell?, e]
  have HN : Hid (∀ pm' W1, Tk.But (fun x => x = o ∨ pm = some x) w0 W1 → Ps.At o pm' (Ps.cut M k) W1 → W1.heap[w.heap.size]? = w0.heap[w.heap.size]? ∧ Ps.Dc B q v M W1 ∧ B ≤ W1.heap.size) := fun pm' W1 hb1 _ => by
    refine ⟨hb1.block _ (by omega) ?_, a2.but hb1 (by rintro (e | e); exact ap.1 e.symm; exact ap.2.1 e) fun g hg => ?_, by have := hb1.size; omega⟩
    · rintro (e | e)
      · have := h1.lt
        omega
      · subst e
        have := h1.mlt
        omega
    · rintro (e | e)
      · subst e
        exact ap.2.2.1 hg
      · exact ap.2.2.2 g e hg
  have HV : Hid (∀ W1 W2, Tk.But (fun x => x = o ∨ pm = some x) w0 W1 → Tk.But (fun x => x = q ∨ v.ownBlock = some x) W1 W2 → W1.heap[w.heap.size]? = w0.heap[w.heap.size]? → W2.heap[w.heap.size]? = w0.heap[w.heap.size]?) := fun W1 W2 hb1 hb2 e1 => by
    refine (hb2.block _ (by have := hb1.size; omega) ?_).trans e1
    rintro (e | e)
    · have := h2.lt
      omega
    · have := (h2.row e).1
      omega
  have HJ : Hid (∀ pm' v' W1 W2, (pm' = pm ∨ ∃ b, pm' = some b ∧ w0.heap.size ≤ b) → Ps.At o pm' (Ps.cut M k) W1 → Tk.But (fun x => x = o ∨ pm = some x) w0 W1 → (∀ g, v'.ownBlock = some g → v.ownBlock = some g ∨ W1.heap.size ≤ g) → Ps.Dc B q v' (Ps.cut M k) W2 → Tk.But (fun x => x = q ∨ v.ownBlock = some x) W1 W2 →
      ∃ E' : Nat → Prop, (∀ x, E' x → E x ∨ w.heap.size ≤ x) ∧ Ps.Two B E' o q (Ps.cut M k) W2 ∧ Tk.But E w W2) := fun pm' v' W1 W2 p1 p2 p3 p4 p5 p6 => Ps.joined b0 h1 h2 h3 h4 h5 h6 (hok.cut k) p1 p2 p3 p4 p5 p6
  have HA : Hid (Ps.At o pm M w0 ∧ Ps.Ok M ∧ (Ps.key M).Nodup) := ⟨a1, hok, h1.nodup⟩
  have HW0 : Hid (w.alloc (.cells #[.int .i64 2, .int .i64 k, .int .i64 m] 31) = w0) := hw0
  clear h1 h2 h3 h4 h5 h6 hw0 b0 hs0 hbl a1 a2 ap hok hB
  go_enter Try.func10, Try.ntmps10
  go_upto_region 6 with fail
  rw [HW0.out]
  go_region_held3 (fun W => W.cell? ⟨w.heap.size, 1, none⟩ = some (.int .i64 k) ∧ W.cell? ⟨w.heap.size, 2, none⟩ = some (.int .i64 m))
    (first | exact SB.out _ K2.out.1 | exact SB.out _ K1.out.1 | exact SB.out _ rfl)
    (first
    | (go_simp; go_at_call 19; refine Calls.mono (Try.pClose_any o pm M k hk _ (by exact HA.out.1)) ?_; rintro e W1 ⟨rfl, hA1, hb0⟩; have hb1 := Ps.undrew hb0; clear hb0; have K1 : Hid (W1.heap[w.heap.size]? = w0.heap[w.heap.size]? ∧ Ps.Dc B q v M W1 ∧ B ≤ W1.heap.size) := HN.out pm W1 hb1 hA1; have L1 : Hid (Ps.At o pm (Ps.cut M k) W1) := hA1; have LB : Hid (Tk.But (fun x => x = o ∨ pm = some x) w0 W1) := hb1; clear hb1 hA1)
    | (go_simp; go_at_call 21; refine Calls.mono (Try.rClose_any B q v M k _ (by exact K1.out.2.1) (by exact K1.out.2.2) HA.out.2.1.2 HA.out.2.2) ?_; rintro e W2 ⟨rfl, ⟨v2, hD2, hv2⟩, hb2⟩; have K2 : Hid (W2.heap[w.heap.size]? = w0.heap[w.heap.size]? ∧ Ps.Dc B q v2 (Ps.cut M k) W2 ∧ (∀ g, v2.ownBlock = some g → v.ownBlock = some g ∨ W1.heap.size ≤ g) ∧ Tk.But (fun x => x = q ∨ v.ownBlock = some x) W1 W2) := ⟨HV.out W1 W2 LB.out hb2 K1.out.1, hD2, hv2, hb2⟩; clear hD2 hv2 hb2))
  clear SB HN HV
  go_simp
  go_wp2
  go_ret
  exact ⟨rfl, HJ.out _ _ _ _ (.inl rfl) L1.out LB.out K2.out.2.2.1 K2.out.2.1 K2.out.2.2.2⟩

set_option maxRecDepth 20000 in
set_option maxHeartbeats 3200000 in
theorem Try.does_3 (B : Nat) (E : Nat → Prop) (o q : Nat) (M : Ps.Ofc) (k m : Int) (hk : (Lit.int .i64 k).wf = true) (w : World) (hB : B ≤ w.heap.size) (h : Ps.Two B E o q M w) :
    Calls Try.prog 10 #[.pointer (some ⟨o, 0, none⟩), .pointer (some ⟨q, 0, none⟩), .agg #[.int .i64 3, .int .i64 k, .int .i64 m]] w fun e w' => e = .returned (.bool true) ∧ ∃ E' : Nat → Prop, (∀ x, E' x → E x ∨ w.heap.size ≤ x) ∧ Ps.Two B E' o q (Ps.putM M k m) w' ∧ Tk.But E w w' := by
  obtain ⟨hok, pm, v, h1, h2, h3, h4, h5, h6⟩ := h
  obtain ⟨w0, hw0⟩ : ∃ x, w.alloc (.cells #[.int .i64 3, .int .i64 k, .int .i64 m] 31) = x := ⟨_, rfl⟩
  have b0 : Below w.heap.size w w0 := by rw [← hw0]; exact (Below.refl _ w).alloc (Nat.le_refl _) _
  have hs0 : w0.heap.size = w.heap.size + 1 := by rw [← hw0]; simp
  have hbl : w0.heap[w.heap.size]? = some (.cells #[.int .i64 3, .int .i64 k, .int .i64 m] 31 (0, 0)) := by rw [← hw0]; exact heap_alloc_new _ _
  have a1 := h1.below b0 (Nat.le_refl _)
  have a2 := h2.below b0 (Nat.le_refl _)
  have ap := Ps.apart a1 a2
  have SB : Hid (∀ W : World, W.heap[w.heap.size]? = w0.heap[w.heap.size]? → W.cell? ⟨w.heap.size, 1, none⟩ = some (.int .i64 k) ∧ W.cell? ⟨w.heap.size, 2, none⟩ = some (.int .i64 m)) := fun W e => by
    rw [hbl] at e
    simp [World.cell?, e]
  have HN : Hid (∀ pm' W1, Tk.But (fun x => x = o ∨ pm = some x) w0 W1 → Ps.At o pm' (Ps.putM M k m) W1 → W1.heap[w.heap.size]? = w0.heap[w.heap.size]? ∧ Ps.Dc B q v M W1 ∧ B ≤ W1.heap.size) := fun pm' W1 hb1 _ => by
    refine ⟨hb1.block _ (by omega) ?_, a2.but hb1 (by rintro (e | e); exact ap.1 e.symm; exact ap.2.1 e) fun g hg => ?_, by have := hb1.size; omega⟩
    · rintro (e | e)
      · have := h1.lt
        omega
      · subst e
        have := h1.mlt
        omega
    · rintro (e | e)
      · subst e
        exact ap.2.2.1 hg
      · exact ap.2.2.2 g e hg
  have HV : Hid (∀ W1 W2, Tk.But (fun x => x = o ∨ pm = some x) w0 W1 → Tk.But (fun x => x = q ∨ v.ownBlock = some x) W1 W2 → W1.heap[w.heap.size]? = w0.heap[w.heap.size]? → W2.heap[w.heap.size]? = w0.heap[w.heap.size]?) := fun W1 W2 hb1 hb2 e1 => by
    refine (hb2.block _ (by have := hb1.size; omega) ?_).trans e1
    rintro (e | e)
    · have := h2.lt
      omega
    · have := (h2.row e).1
      omega
  have HJ : Hid (∀ pm' v' W1 W2, (pm' = pm ∨ ∃ b, pm' = some b ∧ w0.heap.size ≤ b) → Ps.At o pm' (Ps.putM M k m) W1 → Tk.But (fun x => x = o ∨ pm = some x) w0 W1 → (∀ g, v'.ownBlock = some g → v.ownBlock = some g ∨ W1.heap.size ≤ g) → Ps.Dc B q v' (Ps.putM M k m) W2 → Tk.But (fun x => x = q ∨ v.ownBlock = some x) W1 W2 →
      ∃ E' : Nat → Prop, (∀ x, E' x → E x ∨ w.heap.size ≤ x) ∧ Ps.Two B E' o q (Ps.putM M k m) W2 ∧ Tk.But E w W2) := fun pm' v' W1 W2 p1 p2 p3 p4 p5 p6 => Ps.joined b0 h1 h2 h3 h4 h5 h6 (hok.put k m) p1 p2 p3 p4 p5 p6
  have HA : Hid (Ps.At o pm M w0 ∧ Ps.Ok M ∧ (Ps.key M).Nodup) := ⟨a1, hok, h1.nodup⟩
  have HW0 : Hid (w.alloc (.cells #[.int .i64 3, .int .i64 k, .int .i64 m] 31) = w0) := hw0
  clear h1 h2 h3 h4 h5 h6 hw0 b0 hs0 hbl a1 a2 ap hok hB
  go_enter Try.func10, Try.ntmps10
  go_upto_region 9 with fail
  rw [HW0.out]
  go_region_held3 (fun W => W.cell? ⟨w.heap.size, 1, none⟩ = some (.int .i64 k) ∧ W.cell? ⟨w.heap.size, 2, none⟩ = some (.int .i64 m))
    (first | exact SB.out _ K2.out.1 | exact SB.out _ K1.out.1 | exact SB.out _ rfl)
    (first
    | (go_simp; go_at_call 17; refine Calls.mono (Try.pPut_any o pm M k m hk _ (by exact HA.out.1) (HA.out.2.1.1 k) HA.out.2.1.2) ?_; rintro e W1 ⟨rfl, hA1, hb0⟩; have hb1 := Ps.undrew hb0; clear hb0; have K1 : Hid (W1.heap[w.heap.size]? = w0.heap[w.heap.size]? ∧ Ps.Dc B q v M W1 ∧ B ≤ W1.heap.size) := HN.out pm W1 hb1 hA1; have L1 : Hid (Ps.At o pm (Ps.putM M k m) W1) := hA1; have LB : Hid (Tk.But (fun x => x = o ∨ pm = some x) w0 W1) := hb1; clear hb1 hA1)
    | (go_simp; go_at_call 22; refine Calls.mono (Try.rPut_any B q v M k m _ (by exact K1.out.2.1) (HA.out.2.1.1 k) HA.out.2.1.2 HA.out.2.2) ?_; rintro e W2 ⟨rfl, hD2, hb2⟩; have K2 : Hid (W2.heap[w.heap.size]? = w0.heap[w.heap.size]? ∧ Ps.Dc B q v (Ps.putM M k m) W2 ∧ Tk.But (fun x => x = q ∨ v.ownBlock = some x) W1 W2) := ⟨HV.out W1 W2 LB.out hb2 K1.out.1, hD2, hb2⟩; clear hD2 hb2))
  clear SB HN HV
  go_simp
  go_wp2
  go_ret
  exact ⟨rfl, HJ.out _ _ _ _ (.inl rfl) L1.out LB.out (fun g e => .inl e) K2.out.2.1 K2.out.2.2⟩

set_option maxRecDepth 20000 in
set_option maxHeartbeats 3200000 in
theorem Try.does_4 (B : Nat) (E : Nat → Prop) (o q : Nat) (M : Ps.Ofc) (k m : Int) (hk : (Lit.int .i64 k).wf = true) (w : World) (hB : B ≤ w.heap.size) (h : Ps.Two B E o q M w) :
    Calls Try.prog 10 #[.pointer (some ⟨o, 0, none⟩), .pointer (some ⟨q, 0, none⟩), .agg #[.int .i64 4, .int .i64 k, .int .i64 m]] w fun e w' => e = .returned (.bool true) ∧ ∃ E' : Nat → Prop, (∀ x, E' x → E x ∨ w.heap.size ≤ x) ∧ Ps.Two B E' o q (Ps.putM M k m) w' ∧ Tk.But E w w' := by
  obtain ⟨hok, pm, v, h1, h2, h3, h4, h5, h6⟩ := h
  obtain ⟨w0, hw0⟩ : ∃ x, w.alloc (.cells #[.int .i64 4, .int .i64 k, .int .i64 m] 31) = x := ⟨_, rfl⟩
  have b0 : Below w.heap.size w w0 := by rw [← hw0]; exact (Below.refl _ w).alloc (Nat.le_refl _) _
  have hs0 : w0.heap.size = w.heap.size + 1 := by rw [← hw0]; simp
  have hbl : w0.heap[w.heap.size]? = some (.cells #[.int .i64 4, .int .i64 k, .int .i64 m] 31 (0, 0)) := by rw [← hw0]; exact heap_alloc_new _ _
  have a1 := h1.below b0 (Nat.le_refl _)
  have a2 := h2.below b0 (Nat.le_refl _)
  have ap := Ps.apart a1 a2
  have SB : Hid (∀ W : World, W.heap[w.heap.size]? = w0.heap[w.heap.size]? → W.cell? ⟨w.heap.size, 1, none⟩ = some (.int .i64 k) ∧ W.cell? ⟨w.heap.size, 2, none⟩ = some (.int .i64 m)) := fun W e => by
    rw [hbl] at e
    simp [World.cell?, e]
  have HN : Hid (∀ pm' W1, Tk.But (fun x => x = o ∨ pm = some x) w0 W1 → Ps.At o pm' (Ps.putM M k m) W1 → W1.heap[w.heap.size]? = w0.heap[w.heap.size]? ∧ Ps.Dc B q v M W1 ∧ B ≤ W1.heap.size) := fun pm' W1 hb1 _ => by
    refine ⟨hb1.block _ (by omega) ?_, a2.but hb1 (by rintro (e | e); exact ap.1 e.symm; exact ap.2.1 e) fun g hg => ?_, by have := hb1.size; omega⟩
    · rintro (e | e)
      · have := h1.lt
        omega
      · subst e
        have := h1.mlt
        omega
    · rintro (e | e)
      · subst e
        exact ap.2.2.1 hg
      · exact ap.2.2.2 g e hg
  have HV : Hid (∀ W1 W2, Tk.But (fun x => x = o ∨ pm = some x) w0 W1 → Tk.But (fun x => x = q ∨ v.ownBlock = some x) W1 W2 → W1.heap[w.heap.size]? = w0.heap[w.heap.size]? → W2.heap[w.heap.size]? = w0.heap[w.heap.size]?) := fun W1 W2 hb1 hb2 e1 => by
    refine (hb2.block _ (by have := hb1.size; omega) ?_).trans e1
    rintro (e | e)
    · have := h2.lt
      omega
    · have := (h2.row e).1
      omega
  have HJ : Hid (∀ pm' v' W1 W2, (pm' = pm ∨ ∃ b, pm' = some b ∧ w0.heap.size ≤ b) → Ps.At o pm' (Ps.putM M k m) W1 → Tk.But (fun x => x = o ∨ pm = some x) w0 W1 → (∀ g, v'.ownBlock = some g → v.ownBlock = some g ∨ W1.heap.size ≤ g) → Ps.Dc B q v' (Ps.putM M k m) W2 → Tk.But (fun x => x = q ∨ v.ownBlock = some x) W1 W2 →
      ∃ E' : Nat → Prop, (∀ x, E' x → E x ∨ w.heap.size ≤ x) ∧ Ps.Two B E' o q (Ps.putM M k m) W2 ∧ Tk.But E w W2) := fun pm' v' W1 W2 p1 p2 p3 p4 p5 p6 => Ps.joined b0 h1 h2 h3 h4 h5 h6 (hok.put k m) p1 p2 p3 p4 p5 p6
  have HA : Hid (Ps.At o pm M w0 ∧ Ps.Ok M ∧ (Ps.key M).Nodup) := ⟨a1, hok, h1.nodup⟩
  have HW0 : Hid (w.alloc (.cells #[.int .i64 4, .int .i64 k, .int .i64 m] 31) = w0) := hw0
  clear h1 h2 h3 h4 h5 h6 hw0 b0 hs0 hbl a1 a2 ap hok hB
  go_enter Try.func10, Try.ntmps10
  go_upto_region 9 with fail
  rw [HW0.out]
  go_region_held3 (fun W => W.cell? ⟨w.heap.size, 1, none⟩ = some (.int .i64 k) ∧ W.cell? ⟨w.heap.size, 2, none⟩ = some (.int .i64 m))
    (first | exact SB.out _ K2.out.1 | exact SB.out _ K1.out.1 | exact SB.out _ rfl)
    (first
    | (go_simp; go_at_call 17; refine Calls.mono (Try.pPut_any o pm M k m hk _ (by exact HA.out.1) (HA.out.2.1.1 k) HA.out.2.1.2) ?_; rintro e W1 ⟨rfl, hA1, hb0⟩; have hb1 := Ps.undrew hb0; clear hb0; have K1 : Hid (W1.heap[w.heap.size]? = w0.heap[w.heap.size]? ∧ Ps.Dc B q v M W1 ∧ B ≤ W1.heap.size) := HN.out pm W1 hb1 hA1; have L1 : Hid (Ps.At o pm (Ps.putM M k m) W1) := hA1; have LB : Hid (Tk.But (fun x => x = o ∨ pm = some x) w0 W1) := hb1; clear hb1 hA1)
    | (go_simp; go_at_call 22; refine Calls.mono (Try.rPut_any B q v M k m _ (by exact K1.out.2.1) (HA.out.2.1.1 k) HA.out.2.1.2 HA.out.2.2) ?_; rintro e W2 ⟨rfl, hD2, hb2⟩; have K2 : Hid (W2.heap[w.heap.size]? = w0.heap[w.heap.size]? ∧ Ps.Dc B q v (Ps.putM M k m) W2 ∧ Tk.But (fun x => x = q ∨ v.ownBlock = some x) W1 W2) := ⟨HV.out W1 W2 LB.out hb2 K1.out.1, hD2, hb2⟩; clear hD2 hb2))
  clear SB HN HV
  go_simp
  go_wp2
  go_ret
  exact ⟨rfl, HJ.out _ _ _ _ (.inl rfl) L1.out LB.out (fun g e => .inl e) K2.out.2.1 K2.out.2.2⟩

set_option maxRecDepth 20000 in
set_option maxHeartbeats 3200000 in
theorem Try.does_5 (B : Nat) (E : Nat → Prop) (o q : Nat) (M : Ps.Ofc) (k m : Int) (hk : (Lit.int .i64 k).wf = true) (w : World) (hB : B ≤ w.heap.size) (h : Ps.Two B E o q M w) :
    Calls Try.prog 10 #[.pointer (some ⟨o, 0, none⟩), .pointer (some ⟨q, 0, none⟩), .agg #[.int .i64 5, .int .i64 k, .int .i64 m]] w fun e w' => e = .returned (.bool true) ∧ ∃ E' : Nat → Prop, (∀ x, E' x → E x ∨ w.heap.size ≤ x) ∧ Ps.Two B E' o q (Ps.takeM M k m) w' ∧ Tk.But E w w' := by
  obtain ⟨hok, pm, v, h1, h2, h3, h4, h5, h6⟩ := h
  obtain ⟨w0, hw0⟩ : ∃ x, w.alloc (.cells #[.int .i64 5, .int .i64 k, .int .i64 m] 31) = x := ⟨_, rfl⟩
  have b0 : Below w.heap.size w w0 := by rw [← hw0]; exact (Below.refl _ w).alloc (Nat.le_refl _) _
  have hs0 : w0.heap.size = w.heap.size + 1 := by rw [← hw0]; simp
  have hbl : w0.heap[w.heap.size]? = some (.cells #[.int .i64 5, .int .i64 k, .int .i64 m] 31 (0, 0)) := by rw [← hw0]; exact heap_alloc_new _ _
  have a1 := h1.below b0 (Nat.le_refl _)
  have a2 := h2.below b0 (Nat.le_refl _)
  have ap := Ps.apart a1 a2
  have SB : Hid (∀ W : World, W.heap[w.heap.size]? = w0.heap[w.heap.size]? → W.cell? ⟨w.heap.size, 1, none⟩ = some (.int .i64 k) ∧ W.cell? ⟨w.heap.size, 2, none⟩ = some (.int .i64 m)) := fun W e => by
    rw [hbl] at e
    simp [World.cell?, e]
  have HN : Hid (∀ pm' W1, Tk.But (fun x => x = o ∨ pm = some x) w0 W1 → Ps.At o pm' (Ps.takeM M k m) W1 → W1.heap[w.heap.size]? = w0.heap[w.heap.size]? ∧ Ps.Dc B q v M W1 ∧ B ≤ W1.heap.size) := fun pm' W1 hb1 _ => by
    refine ⟨hb1.block _ (by omega) ?_, a2.but hb1 (by rintro (e | e); exact ap.1 e.symm; exact ap.2.1 e) fun g hg => ?_, by have := hb1.size; omega⟩
    · rintro (e | e)
      · have := h1.lt
        omega
      · subst e
        have := h1.mlt
        omega
    · rintro (e | e)
      · subst e
        exact ap.2.2.1 hg
      · exact ap.2.2.2 g e hg
  have HV : Hid (∀ W1 W2, Tk.But (fun x => x = o ∨ pm = some x) w0 W1 → Tk.But (fun x => x = q ∨ v.ownBlock = some x) W1 W2 → W1.heap[w.heap.size]? = w0.heap[w.heap.size]? → W2.heap[w.heap.size]? = w0.heap[w.heap.size]?) := fun W1 W2 hb1 hb2 e1 => by
    refine (hb2.block _ (by have := hb1.size; omega) ?_).trans e1
    rintro (e | e)
    · have := h2.lt
      omega
    · have := (h2.row e).1
      omega
  have HJ : Hid (∀ pm' v' W1 W2, (pm' = pm ∨ ∃ b, pm' = some b ∧ w0.heap.size ≤ b) → Ps.At o pm' (Ps.takeM M k m) W1 → Tk.But (fun x => x = o ∨ pm = some x) w0 W1 → (∀ g, v'.ownBlock = some g → v.ownBlock = some g ∨ W1.heap.size ≤ g) → Ps.Dc B q v' (Ps.takeM M k m) W2 → Tk.But (fun x => x = q ∨ v.ownBlock = some x) W1 W2 →
      ∃ E' : Nat → Prop, (∀ x, E' x → E x ∨ w.heap.size ≤ x) ∧ Ps.Two B E' o q (Ps.takeM M k m) W2 ∧ Tk.But E w W2) := fun pm' v' W1 W2 p1 p2 p3 p4 p5 p6 => Ps.joined b0 h1 h2 h3 h4 h5 h6 (hok.take k m) p1 p2 p3 p4 p5 p6
  have HA : Hid (Ps.At o pm M w0 ∧ Ps.Ok M ∧ (Ps.key M).Nodup) := ⟨a1, hok, h1.nodup⟩
  have HW0 : Hid (w.alloc (.cells #[.int .i64 5, .int .i64 k, .int .i64 m] 31) = w0) := hw0
  clear h1 h2 h3 h4 h5 h6 hw0 b0 hs0 hbl a1 a2 ap hok hB
  go_enter Try.func10, Try.ntmps10
  go_upto_region 11 with fail
  rw [HW0.out]
  go_region_held3 (fun W => W.cell? ⟨w.heap.size, 1, none⟩ = some (.int .i64 k) ∧ W.cell? ⟨w.heap.size, 2, none⟩ = some (.int .i64 m))
    (first | exact SB.out _ K2.out.1 | exact SB.out _ K1.out.1 | exact SB.out _ rfl)
    (first
    | (go_simp; go_at_call 18; refine Calls.mono (Try.pTake_any o pm M k m hk _ (by exact HA.out.1) (HA.out.2.1.1 k) HA.out.2.1.2) ?_; rintro e W1 ⟨rfl, hA1, hb0⟩; have hb1 := Ps.undrew hb0; clear hb0; have K1 : Hid (W1.heap[w.heap.size]? = w0.heap[w.heap.size]? ∧ Ps.Dc B q v M W1 ∧ B ≤ W1.heap.size) := HN.out pm W1 hb1 hA1; have L1 : Hid (Ps.At o pm (Ps.takeM M k m) W1) := hA1; have LB : Hid (Tk.But (fun x => x = o ∨ pm = some x) w0 W1) := hb1; clear hb1 hA1)
    | (go_simp; go_at_call 23; refine Calls.mono (Try.rTake_any B q v M k m _ (by exact K1.out.2.1) (HA.out.2.1.1 k) HA.out.2.1.2 HA.out.2.2) ?_; rintro e W2 ⟨rfl, hD2, hb2⟩; have K2 : Hid (W2.heap[w.heap.size]? = w0.heap[w.heap.size]? ∧ Ps.Dc B q v (Ps.takeM M k m) W2 ∧ Tk.But (fun x => x = q ∨ v.ownBlock = some x) W1 W2) := ⟨HV.out W1 W2 LB.out hb2 K1.out.1, hD2, hb2⟩; clear hD2 hb2))
  clear SB HN HV
  go_simp
  go_wp2
  go_ret
  exact ⟨rfl, HJ.out _ _ _ _ (.inl rfl) L1.out LB.out (fun g e => .inl e) K2.out.2.1 K2.out.2.2⟩

set_option maxRecDepth 20000 in
theorem Try.does_no (o q : Nat) (x k m : Int) (h0 : x ≠ 0) (h1 : x ≠ 1) (h2 : x ≠ 2) (h3 : x ≠ 3) (h4 : x ≠ 4) (h5 : x ≠ 5) (w : World) :
    Calls Try.prog 10 #[.pointer (some ⟨o, 0, none⟩), .pointer (some ⟨q, 0, none⟩), .agg #[.int .i64 x, .int .i64 k, .int .i64 m]] w fun e w' => e = .returned (.bool true) ∧ Below w.heap.size w w' := by
  have d0 : (x == 0) = false := by simpa using h0
  have d1 : (x == 1) = false := by simpa using h1
  have d2 : (x == 2) = false := by simpa using h2
  have d3 : (x == 3) = false := by simpa using h3
  have d4 : (x == 4) = false := by simpa using h4
  have d5 : (x == 5) = false := by simpa using h5
  clear h0 h1 h2 h3 h4 h5
  go_enter Try.func10, Try.ntmps10
  go_wp2
  go_ret
  exact ⟨rfl, (Below.refl _ w).alloc (Nat.le_refl _) _⟩

theorem Try.does_any (B : Nat) (E : Nat → Prop) (o q : Nat) (M : Ps.Ofc) (x k m : Int) (hk : (Lit.int .i64 k).wf = true) (w : World) (hB : B ≤ w.heap.size) (h : Ps.Two B E o q M w) :
    Calls Try.prog 10 #[.pointer (some ⟨o, 0, none⟩), .pointer (some ⟨q, 0, none⟩), .agg #[.int .i64 x, .int .i64 k, .int .i64 m]] w fun e w' => e = .returned (.bool true) ∧ ∃ E' : Nat → Prop, (∀ x, E' x → E x ∨ w.heap.size ≤ x) ∧ Ps.Two B E' o q (Ps.step M x k m) w' ∧ Tk.But E w w' := by
  by_cases h0 : x = 0
  · subst h0
    exact Try.does_0 B E o q M k m hk w hB h
  by_cases h1 : x = 1
  · subst h1
    exact Try.does_1 B E o q M k m hk w hB h
  by_cases h2 : x = 2
  · subst h2
    exact Try.does_2 B E o q M k m hk w hB h
  by_cases h3 : x = 3
  · subst h3
    exact Try.does_3 B E o q M k m hk w hB h
  by_cases h4 : x = 4
  · subst h4
    exact Try.does_4 B E o q M k m hk w hB h
  by_cases h5 : x = 5
  · subst h5
    exact Try.does_5 B E o q M k m hk w hB h
  have e : Ps.step M x k m = M := by simp [Ps.step, h0, h1, h2, h3, h4, h5]
  rw [e]
  refine (Try.does_no o q x k m h0 h1 h2 h3 h4 h5 w).mono ?_
  rintro e w' ⟨rfl, hb⟩
  exact ⟨rfl, E, fun x hx => .inl hx, h.below hb (Nat.le_refl _), Tk.But.of_below hb⟩

end Go.Proofs
