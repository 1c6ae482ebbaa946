/-
  infix: write, out of write of terms that lie less deep.
-/
import Derived.Test.YtehmmfmofdgheaaDoorIxWriteB
import Derived.Test.YtehmmfmofdgheaaDoorIxForms
namespace Go.Proofs
open Go.RowKit

namespace Ix
/-- What write makes, where no brackets are needed. -/
def Wrote (n B : Nat) (out : List UInt8) (sv : Value) (T : Tm) (w : World) (e : Ending) (w' : World) : Prop := ∃ v', e = .returned v' ∧ R B w' v' (out ++ txt n T) ∧ Gr w sv w' v'
theorem leaf_textR {T : Tm} (h : T.allForm = true) (hk : T.ks = []) : T.textR = (T.txt, 0) := by
  have h1 : T.depth = 1 := by cases T; simp only [Tm.ks] at hk; subst hk; simp [Tm.depth, Tm.depths]
  have h2 := Tm.txt_len T h
  rw [size_none hk] at h2
  have hw : T.wrongR = 0 := by unfold Tm.wrongR; rw [if_neg (by omega), if_neg (by rw [h]; decide)]
  unfold Tm.textR
  rw [if_neg (by rw [hw]; decide), if_neg (by omega)]
/-- With, in a world with the term's copy. -/
theorem with_at {d B : Nat} {T : Tm} {v : Value} {w w2 : World} (hT : Tm.Lies w B d v T) (hF : T.allForm = true) (hB : B ≤ w.heap.size) (hI : WEnv B w) (hb : Below B w w2) :
    Calls Tryd.prog 50 #[.agg #[.int .i64 T.op, .int .i64 T.num, v]] w2 fun e w' => Withd B T v w2 e w' := by
  refine Tryd.with_any d B T v w2 (hT.below hb) (Nat.le_trans hB hb.size) (fun h4 => ?_) (hI.below hb).tabs
  rw [(form_parts hF).2.2, h4]
  rfl
end Ix

set_option maxHeartbeats 8000000 in
set_option maxRecDepth 20000 in
theorem Tryd.write_two (n : Nat) (hC : Ix.WriteC n) (d B r : Nat) (T X Y S : Tm) (o : Ix.Op) (v : Value) (out : List UInt8) (sv : Value) (w : World) (hT : Tm.Lies w B d v T) (hF : T.allForm = true)
    (hw : Ix.withO T = some o) (hS : S = if o.de then Ix.k0 T else T) (hk : S.ks = [X, Y]) (hX : X.allForm = true ∧ X.depth ≤ n) (hY : Y.allForm = true ∧ Y.depth ≤ n) (ho : 1 ≤ o.row ∧ o.row ≤ 6) (hot : o.text.length ≤ 3) (hr : r ≤ o.row) (hB : B ≤ w.heap.size) (hE : Ix.WEnv B w) (hR : Ix.R B w sv out)
    (hl : out.length + 40 * X.size ≤ 1000000000) (hl2 : (out ++ Ix.kidOf (Ix.txt n) (Ix.leastR o.row 0) X).length + 5 + 40 * Y.size ≤ 1000000000) :
    Calls Tryd.prog 30 #[sv, .agg #[.int .i64 T.op, .int .i64 T.num, v], .int .i64 r] w fun e w' => ∃ v', e = .returned v' ∧ Ix.R B w' v' (out ++ (Ix.kidOf (Ix.txt n) (Ix.leastR o.row 0) X ++ (32 :: (o.text ++ (32 :: Ix.kidOf (Ix.txt n) (Ix.leastR o.row 1) Y))))) ∧ Ix.Gr w sv w' v' := by
  obtain ⟨w2, hw2⟩ : ∃ x, w.alloc (.cells #[.int .i64 T.op, .int .i64 T.num, v] 37) = x := ⟨_, rfl⟩
  have B2 : Below w.heap.size w w2 := by rw [← hw2]; exact (Below.refl _ w).alloc (Nat.le_refl _) _
  have HI : Hid _ := Ix.with_at hT hF hB hE (B2.mono hB)
  have HW : Hid (w.alloc (.cells #[.int .i64 T.op, .int .i64 T.num, v] 37) = w2) := hw2
  have HT2 : Hid (w2.heap[w.heap.size]? = some (.cells #[.int .i64 T.op, .int .i64 T.num, v] 37 (0, 0))) := by rw [← hw2]; exact heap_alloc_new w _
  have HB2 : Hid (Below w.heap.size w w2 ∧ B ≤ w.heap.size) := ⟨B2, hB⟩
  have HBT : Hid (∀ (Z : World) (x y : Value), Below B w Z → Ix.R B Z sv out → (∃ e, Tm.Lies Z B e x X) → (∃ e, Tm.Lies Z B e y Y) →
      ∀ Z' : World, Z'.heap = Z.heap → Z'.os = Z.os → Z'.tape = Z.tape → Z'.output = Z.output → Calls Tryd.prog 52 #[sv, .agg (Ix.opRow o), .agg #[.int .i64 X.op, .int .i64 X.num, x], .agg #[.int .i64 Y.op, .int .i64 Y.num, y]] Z' fun e w' => ∃ v', e = .returned v' ∧ Hid (Ix.R B w' v' (out ++ (Ix.kidOf (Ix.txt n) (Ix.leastR o.row 0) X ++ (32 :: (o.text ++ (32 :: Ix.kidOf (Ix.txt n) (Ix.leastR o.row 1) Y))))) ∧ Ix.Gr Z sv w' v')) := fun Z x y hz hrz ⟨e1, hx⟩ ⟨e2, hy⟩ Z' q1 q2 q3 q4 => by
    have hb : Below Z.heap.size Z Z' := ⟨q2, q3, q4, by rw [q1]; exact Nat.le_refl _, fun k _ => by rw [q1]⟩
    have hBZ : B ≤ Z.heap.size := Nat.le_trans hB hz.size
    exact (Tryd.writeBetween_of n hC e1 e2 B o X Y x y out sv Z' (hx.below (hb.mono hBZ)) hX.1 hX.2 (hy.below (hb.mono hBZ)) hY.1 hY.2 (by rw [q1]; exact hBZ) ((hE.below hz).below (hb.mono hBZ)) (hrz.keep hb) hl hl2 ho hot).mono fun e w' ⟨v', h0, h1, h2⟩ => ⟨v', h0, h1, (Ix.Gr.below hb sv).trans h2⟩
  have HRW : Hid (∀ Z : World, Below w.heap.size w Z → Ix.R B Z sv out) := fun Z hz => hR.keep hz
  have HKD : Hid (∀ (Z : World) (a : Option Addr) (m c : Nat), Ix.Kids Z B o T v (.slice a m c) → (Below B w Z) → m = 2 ∧ ∃ g off x y, a = some ⟨g, off, none⟩ ∧ g < B ∧ ((Z.cell? ⟨g, off, none⟩ = some (.int .i64 X.op) ∧ Z.cell? ⟨g, off + 1, none⟩ = some (.int .i64 X.num) ∧ Z.cell? ⟨g, off + 2, none⟩ = some x) ∧ (Z.cell? ⟨g, off + 3, none⟩ = some (.int .i64 Y.op) ∧ Z.cell? ⟨g, off + 4, none⟩ = some (.int .i64 Y.num) ∧ Z.cell? ⟨g, off + 5, none⟩ = some y)) ∧ (∃ e, Tm.Lies Z B e x X) ∧ (∃ e, Tm.Lies Z B e y Y)) := fun Z a m c hkk hz => by
    have hs : ∃ e, Tm.Lies Z B e (.slice a m c) S := by
      unfold Ix.Kids at hkk
      rw [hS]
      split
      · rename_i hde; rw [if_pos hde] at hkk; exact hkk
      · rename_i hde; rw [if_neg hde] at hkk; rw [hkk]; exact ⟨d, hT.below hz⟩
    obtain ⟨e, hs⟩ := hs
    obtain ⟨e, rfl⟩ : ∃ k, e = k + 1 := by
      cases e with
      | zero => exact hs.elim
      | succ e => exact ⟨e, rfl⟩
    obtain ⟨a', c', hv⟩ := hs.shape
    obtain ⟨rfl, rfl, rfl⟩ := Value.slice.inj hv
    obtain ⟨g, off, x, ha, hg, x0, x1, x2, hx⟩ := hs.kid 0 (by rw [hk]; exact Nat.zero_lt_two)
    obtain ⟨g', off', y, ha', -, y0, y1, y2, hy⟩ := hs.kid 1 (by rw [hk]; exact Nat.one_lt_two)
    obtain ⟨rfl, rfl⟩ : g = g' ∧ off = off' := by
      rw [ha] at ha'
      injection ha' with ha'
      injection ha' with e1 e2
      exact ⟨e1, e2⟩
    simp only [hk, List.getElem_cons_zero, List.getElem_cons_succ, Nat.zero_mul, Nat.add_zero, Nat.one_mul] at x0 x1 x2 y0 y1 y2 hx hy
    exact ⟨by rw [hk]; rfl, g, off, x, y, ha, hg, ⟨⟨x0, x1, x2⟩, y0, y1, y2⟩, ⟨e, hx⟩, ⟨e, hy⟩⟩
  have hrr : decide ((o.row : Int) < (r : Int)) = false := decide_eq_false (by omega)
  have hrn : ¬ ((o.row : Int) < (r : Int)) := by omega
  obtain ⟨orow, otx, oop, osw, ode⟩ := o
  have HWO : Hid (Ix.withO T = some ⟨orow, otx, oop, osw, ode⟩) := hw
  simp only at hrr hrn
  simp only [Ix.opRow] at HBT ⊢
  obtain ⟨P1, hP1⟩ : ∃ z, Ix.kidOf (Ix.txt n) (Ix.leastR orow 0) X ++ (32 :: (otx ++ (32 :: Ix.kidOf (Ix.txt n) (Ix.leastR orow 1) Y))) = z := ⟨_, rfl⟩
  rw [hP1] at HBT ⊢
  obtain ⟨tp, htp⟩ : ∃ z, T.op = z := ⟨_, rfl⟩
  obtain ⟨tn, htn⟩ : ∃ z, T.num = z := ⟨_, rfl⟩
  rw [htp, htn] at HI HW HT2 ⊢
  obtain ⟨⟨z0, z1, z2⟩, -⟩ := Tk.row3 HT2.out
  clear hT hF hB hE hR hl hl2 hw2 B2 hw hS hk hX hY ho hot hP1 htp htn hC
  go_enter Tryd.func30, Tryd.ntmps30
  go_upto_region 1 with fail
  rw [HW.out]
  go_wp2_with fail
  refine Calls.mono HI.out ?_
  rintro e W3 ⟨a, m, c, rfl, hb3, hk3, -⟩
  have hk4 := (hk3 _ HWO.out).back (w := W3) fun k hk => hb3.block k (by have := HB2.out.1.size; have := HB2.out.2; omega)
  clear hk3
  have h3 : Below w.heap.size w W3 := HB2.out.1.trans (hb3.mono (HB2.out.1.size))
  obtain ⟨rfl, hkk⟩ := HKD.out W3 a m c hk4 (h3.mono HB2.out.2)
  obtain ⟨g, off, x, y, rfl, hg, ⟨⟨x0, x1, x2⟩, y0, y1, y2⟩, hx, hy⟩ := hkk
  rw [HWO.out]
  simp only [Ix.withRow, Ix.opRow]
  have HK3 : Hid (Below w.heap.size w W3 ∧ g < B ∧ (∃ e, Tm.Lies W3 B e x X) ∧ (∃ e, Tm.Lies W3 B e y Y)) := ⟨h3, hg, hx, hy⟩
  have HT3 : Hid (W3.heap[w.heap.size]? = some (.cells #[.int .i64 tp, .int .i64 tn, v] 37 (0, 0))) := by
    refine (hb3.block _ ?_).trans HT2.out
    exact (Array.getElem?_eq_some_iff.1 HT2.out).1
  obtain ⟨W4, hW4⟩ : ∃ z, W3.alloc (.cells #[.int .i64 orow, .string ⟨otx.toArray⟩, .int .i64 oop, .bool osw, .bool ode] 88) = z := ⟨_, rfl⟩
  have HW4 : Hid (W3.alloc (.cells #[.int .i64 orow, .string ⟨otx.toArray⟩, .int .i64 oop, .bool osw, .bool ode] 88) = W4) := hW4
  have B4 : Below W3.heap.size W3 W4 := by rw [← hW4]; exact (Below.refl _ W3).alloc (Nat.le_refl _) _
  have hB3 : B ≤ W3.heap.size := Nat.le_trans HB2.out.2 h3.size
  have HO4 : W4.heap[W3.heap.size]? = some (.cells #[.int .i64 orow, .string ⟨otx.toArray⟩, .int .i64 oop, .bool osw, .bool ode] 88 (0, 0)) := by rw [← hW4]; exact heap_alloc_new W3 _
  have cc : ∀ p, W4.cell? ⟨g, p, none⟩ = W3.cell? ⟨g, p, none⟩ := fun p => World.cell?_of_block (w := W3) (B4.block g (by omega))
  have u0 := (cc _).trans x0
  have u1 := (cc _).trans x1
  have u2 := (cc _).trans x2
  have v0 := (cc _).trans y0
  have v1 := (cc _).trans y1
  have v2 := (cc _).trans y2
  have HG4 : Hid (Ix.Gr w sv W4 sv) := Ix.Gr.below (h3.trans (B4.mono h3.size)) sv
  have HBW : Hid _ := HBT.out W4 x y ((h3.mono HB2.out.2).trans (B4.mono hB3)) (HRW.out W4 (h3.trans (B4.mono h3.size))) (hx.elim fun e h => ⟨e, h.below (B4.mono hB3)⟩) (hy.elim fun e h => ⟨e, h.below (B4.mono hB3)⟩)
  obtain ⟨⟨t0, t1, t2, t3, t4⟩, -⟩ := Ix.row5 HO4
  clear hW4 B4 hB3 HO4 cc hg hx hy h3 hb3 x0 x1 x2 y0 y1 y2 z0 z1 z2 hk4 HBT HKD HRW HI
  go_upto_region 2 with fail
  rw [HW4.out]
  go_upto_region 10 with fail
  go_region_law (first
    | (go_simp; go_at_call 52; refine Calls.mono (HBW.out _ rfl rfl rfl rfl) ?_; rintro e W5 ⟨v5, rfl, H5⟩)
    | fail)
  all_goals
    go_wp2
    go_ret
    exact ⟨v5, rfl, H5.out.1, HG4.out.trans H5.out.2⟩

end Go.Proofs
