/-
  infix: write of a term with one kid, and of a leaf.
-/
import Derived.Test.YtehmmfmofdgheaaDoorIxWriteC
namespace Go.Proofs
open Go.RowKit

set_option maxHeartbeats 8000000 in
set_option maxRecDepth 20000 in
theorem Tryd.write_one (n : Nat) (hC : Ix.WriteC n) (d B r : Nat) (T X : Tm) (o : Ix.Op) (v : Value) (out : List UInt8) (sv : Value) (w : World) (hT : Tm.Lies w B d v T) (hF : T.allForm = true)
    (hw : Ix.withO T = some o) (hde : o.de = false) (hk : T.ks = [X]) (hX : X.allForm = true ∧ X.depth ≤ n) (ho : o.row = 3 ∨ o.row = 7) (hot : o.text.length ≤ 3) (hr : r ≤ o.row) (hB : B ≤ w.heap.size) (hE : Ix.WEnv B w) (hR : Ix.R B w sv out)
    (hl : out.length + 4 + 40 * X.size ≤ 1000000000) :
    Calls Tryd.prog 30 #[sv, .agg #[.int .i64 T.op, .int .i64 T.num, v], .int .i64 r] w fun e w' => ∃ v', e = .returned v' ∧ Ix.R B w' v' (out ++ (o.text ++ (if o.text = [110, 111, 116] then [32] else []) ++ Ix.kidOf (Ix.txt n) o.row X)) ∧ Ix.Gr w sv w' v' := by
  obtain ⟨w2, hw2⟩ : ∃ x, w.alloc (.cells #[.int .i64 T.op, .int .i64 T.num, v] 37) = x := ⟨_, rfl⟩
  have B2 : Below w.heap.size w w2 := by rw [← hw2]; exact (Below.refl _ w).alloc (Nat.le_refl _) _
  have HI : Hid _ := Ix.with_at hT hF hB hE (B2.mono hB)
  have HW : Hid (w.alloc (.cells #[.int .i64 T.op, .int .i64 T.num, v] 37) = w2) := hw2
  have HT2 : Hid (w2.heap[w.heap.size]? = some (.cells #[.int .i64 T.op, .int .i64 T.num, v] 37 (0, 0))) := by rw [← hw2]; exact heap_alloc_new w _
  have HB2 : Hid (Below w.heap.size w w2 ∧ B ≤ w.heap.size) := ⟨B2, hB⟩
  have HBT : Hid (∀ (Z : World) (x : Value), Below B w Z → Ix.R B Z sv out → (∃ e, Tm.Lies Z B e x X) →
      ∀ Z' : World, Z'.heap = Z.heap → Z'.os = Z.os → Z'.tape = Z.tape → Z'.output = Z.output → Calls Tryd.prog 51 #[sv, .agg (Ix.opRow o), .agg #[.int .i64 X.op, .int .i64 X.num, x]] Z' fun e w' => ∃ v', e = .returned v' ∧ Hid (Ix.R B w' v' (out ++ (o.text ++ (if o.text = [110, 111, 116] then [32] else []) ++ Ix.kidOf (Ix.txt n) o.row X)) ∧ Ix.Gr Z sv w' v')) := fun Z x hz hrz ⟨e1, hx⟩ Z' q1 q2 q3 q4 => by
    have hb : Below Z.heap.size Z Z' := ⟨q2, q3, q4, by rw [q1]; exact Nat.le_refl _, fun k _ => by rw [q1]⟩
    have hBZ : B ≤ Z.heap.size := Nat.le_trans hB hz.size
    exact (Tryd.writeAhead_of n hC e1 B o X x out sv Z' (hx.below (hb.mono hBZ)) hX.1 hX.2 (by rw [q1]; exact hBZ) ((hE.below hz).below (hb.mono hBZ)) (hrz.keep hb) hl ho hot).mono fun e w' ⟨v', h0, h1, h2⟩ => ⟨v', h0, h1, (Ix.Gr.below hb sv).trans h2⟩
  have HRW : Hid (∀ Z : World, Below w.heap.size w Z → Ix.R B Z sv out) := fun Z hz => hR.keep hz
  have HKD : Hid (∀ (Z : World) (a : Option Addr) (m c : Nat), Ix.Kids Z B o T v (.slice a m c) → (Below B w Z) → m = 1 ∧ ∃ g off x, a = some ⟨g, off, none⟩ ∧ g < B ∧ (Z.cell? ⟨g, off, none⟩ = some (.int .i64 X.op) ∧ Z.cell? ⟨g, off + 1, none⟩ = some (.int .i64 X.num) ∧ Z.cell? ⟨g, off + 2, none⟩ = some x) ∧ (∃ e, Tm.Lies Z B e x X)) := fun Z a m c hkk hz => by
    have hs : ∃ e, Tm.Lies Z B e (.slice a m c) T := by
      unfold Ix.Kids at hkk
      rw [hde] at hkk
      rw [if_neg (by decide)] at hkk
      rw [hkk]; exact ⟨d, hT.below hz⟩
    obtain ⟨e, hs⟩ := hs
    obtain ⟨e, rfl⟩ : ∃ k, e = k + 1 := by
      cases e with
      | zero => exact hs.elim
      | succ e => exact ⟨e, rfl⟩
    obtain ⟨a', c', hv⟩ := hs.shape
    obtain ⟨rfl, rfl, rfl⟩ := Value.slice.inj hv
    obtain ⟨g, off, x, ha, hg, x0, x1, x2, hx⟩ := hs.kid 0 (by rw [hk]; exact Nat.zero_lt_one)
    simp only [hk, List.getElem_cons_zero, Nat.zero_mul, Nat.add_zero] at x0 x1 x2 hx
    exact ⟨by rw [hk]; rfl, g, off, x, ha, hg, ⟨x0, x1, x2⟩, ⟨e, hx⟩⟩
  have hrr : decide ((o.row : Int) < (r : Int)) = false := decide_eq_false (by omega)
  have hrn : ¬ ((o.row : Int) < (r : Int)) := by omega
  obtain ⟨orow, otx, oop, osw, ode⟩ := o
  have HWO : Hid (Ix.withO T = some ⟨orow, otx, oop, osw, ode⟩) := hw
  simp only at hrr hrn
  simp only [Ix.opRow] at HBT ⊢
  obtain ⟨P1, hP1⟩ : ∃ z, otx ++ (if otx = [110, 111, 116] then [32] else []) ++ Ix.kidOf (Ix.txt n) orow X = z := ⟨_, rfl⟩
  rw [hP1] at HBT ⊢
  obtain ⟨tp, htp⟩ : ∃ z, T.op = z := ⟨_, rfl⟩
  obtain ⟨tn, htn⟩ : ∃ z, T.num = z := ⟨_, rfl⟩
  rw [htp, htn] at HI HW HT2 ⊢
  obtain ⟨⟨z0, z1, z2⟩, -⟩ := Tk.row3 HT2.out
  clear hT hF hB hE hR hl hw2 B2 hw hde hk hX ho hot hP1 htp htn hC
  go_enter Tryd.func30, Tryd.ntmps30
  go_upto_region 1 with fail
  rw [HW.out]
  go_wp2_with fail
  refine Calls.mono HI.out ?_
  rintro e W3 ⟨a, m, c, rfl, hb3, hk3, -⟩
  have hk4 := (hk3 _ HWO.out).back (w := W3) fun k hk => hb3.block k (by have := HB2.out.1.size; have := HB2.out.2; omega)
  clear hk3
  have h3 : Below w.heap.size w W3 := HB2.out.1.trans (hb3.mono (HB2.out.1.size))
  obtain ⟨rfl, hkk⟩ := HKD.out W3 a m c hk4 (h3.mono HB2.out.2)
  obtain ⟨g, off, x, rfl, hg, ⟨x0, x1, x2⟩, hx⟩ := hkk
  rw [HWO.out]
  simp only [Ix.withRow, Ix.opRow]
  have HT3 : Hid (W3.heap[w.heap.size]? = some (.cells #[.int .i64 tp, .int .i64 tn, v] 37 (0, 0))) := by
    refine (hb3.block _ ?_).trans HT2.out
    exact (Array.getElem?_eq_some_iff.1 HT2.out).1
  obtain ⟨W4, hW4⟩ : ∃ z, W3.alloc (.cells #[.int .i64 orow, .string ⟨otx.toArray⟩, .int .i64 oop, .bool osw, .bool ode] 88) = z := ⟨_, rfl⟩
  have HW4 : Hid (W3.alloc (.cells #[.int .i64 orow, .string ⟨otx.toArray⟩, .int .i64 oop, .bool osw, .bool ode] 88) = W4) := hW4
  have B4 : Below W3.heap.size W3 W4 := by rw [← hW4]; exact (Below.refl _ W3).alloc (Nat.le_refl _) _
  have hB3 : B ≤ W3.heap.size := Nat.le_trans HB2.out.2 h3.size
  have HO4 : W4.heap[W3.heap.size]? = some (.cells #[.int .i64 orow, .string ⟨otx.toArray⟩, .int .i64 oop, .bool osw, .bool ode] 88 (0, 0)) := by rw [← hW4]; exact heap_alloc_new W3 _
  have cc : ∀ p, W4.cell? ⟨g, p, none⟩ = W3.cell? ⟨g, p, none⟩ := fun p => World.cell?_of_block (w := W3) (B4.block g (by omega))
  have u0 := (cc _).trans x0
  have u1 := (cc _).trans x1
  have u2 := (cc _).trans x2
  have HG4 : Hid (Ix.Gr w sv W4 sv) := Ix.Gr.below (h3.trans (B4.mono h3.size)) sv
  have HBW : Hid _ := HBT.out W4 x ((h3.mono HB2.out.2).trans (B4.mono hB3)) (HRW.out W4 (h3.trans (B4.mono h3.size))) (hx.elim fun e h => ⟨e, h.below (B4.mono hB3)⟩)
  obtain ⟨⟨t0, t1, t2, t3, t4⟩, -⟩ := Ix.row5 HO4
  clear hW4 B4 hB3 HO4 cc hg hx h3 hb3 x0 x1 x2 z0 z1 z2 hk4 HBT HKD HRW HI
  go_upto_region 2 with fail
  rw [HW4.out]
  go_upto_region 9 with fail
  go_region_law (first
    | (go_simp; go_at_call 51; refine Calls.mono (HBW.out _ rfl rfl rfl rfl) ?_; rintro e W5 ⟨v5, rfl, H5⟩)
    | fail)
  all_goals
    go_wp2
    go_ret
    exact ⟨v5, rfl, H5.out.1, HG4.out.trans H5.out.2⟩

set_option maxHeartbeats 8000000 in
set_option maxRecDepth 20000 in
theorem Tryd.write_none (d B r : Nat) (T : Tm) (v : Value) (out : List UInt8) (sv : Value) (w : World) (hT : Tm.Lies w B d v T) (hF : T.allForm = true)
    (hw : Ix.withO T = none) (hk : T.ks = []) (hr : r ≤ 8) (hB : B ≤ w.heap.size) (hE : Ix.WEnv B w) (hR : Ix.R B w sv out) (hl : out.length + 40 ≤ 1000000010) :
    Calls Tryd.prog 30 #[sv, .agg #[.int .i64 T.op, .int .i64 T.num, v], .int .i64 r] w fun e w' => ∃ v', e = .returned v' ∧ Ix.R B w' v' (out ++ T.txt) ∧ Ix.Gr w sv w' v' := by
  obtain ⟨w2, hw2⟩ : ∃ x, w.alloc (.cells #[.int .i64 T.op, .int .i64 T.num, v] 37) = x := ⟨_, rfl⟩
  have B2 : Below w.heap.size w w2 := by rw [← hw2]; exact (Below.refl _ w).alloc (Nat.le_refl _) _
  have HI : Hid _ := Ix.with_at hT hF hB hE (B2.mono hB)
  have HW : Hid (w.alloc (.cells #[.int .i64 T.op, .int .i64 T.num, v] 37) = w2) := hw2
  have HT2 : Hid (w2.heap[w.heap.size]? = some (.cells #[.int .i64 T.op, .int .i64 T.num, v] 37 (0, 0))) := by rw [← hw2]; exact heap_alloc_new w _
  have HB2 : Hid (Below w.heap.size w w2 ∧ B ≤ w.heap.size) := ⟨B2, hB⟩
  have hx30 := Tm.txt_len T hF
  rw [Ix.size_none hk] at hx30
  have HTX : Hid (∀ Z : World, Below B w Z → Calls Tryd.prog 26 #[.agg #[.int .i64 T.op, .int .i64 T.num, v]] Z fun e w' => e = .returned (.tuple #[.string ⟨T.txt.toArray⟩, .int .i64 0]) ∧ Below Z.heap.size Z w') := fun Z hz => by
    have := Tryd.text_any d T v Z ((hT.below hz).wider (Nat.le_trans hB hz.size)) (hE.below hz).ops ((hE.below hz).pow Z (Below.refl _ _)) (by rw [Ix.size_none hk]; decide)
    rw [Ix.leaf_textR hF hk] at this
    exact this
  have HRW : Hid (∀ Z : World, Below w.heap.size w Z → Ix.R B Z sv out) := fun Z hz => hR.keep hz
  have HL : Hid (out.length + T.txt.length ≤ 2000000000) := by show _ ≤ _; omega
  have hrr : decide ((8 : Int) < (r : Int)) = false := decide_eq_false (by omega)
  have hrn : ¬ ((8 : Int) < (r : Int)) := by omega
  have HWO : Hid (Ix.withO T = none) := hw
  obtain ⟨tx, htx⟩ : ∃ z, T.txt = z := ⟨_, rfl⟩
  obtain ⟨tp, htp⟩ : ∃ z, T.op = z := ⟨_, rfl⟩
  obtain ⟨tn, htn⟩ : ∃ z, T.num = z := ⟨_, rfl⟩
  rw [htx] at HTX HL ⊢
  rw [htp, htn] at HI HW HT2 HTX ⊢
  obtain ⟨⟨z0, z1, z2⟩, -⟩ := Tk.row3 HT2.out
  clear hT hF hB hE hR hl hw2 B2 hw hk htp htn htx hx30
  go_enter Tryd.func30, Tryd.ntmps30
  go_upto_region 1 with fail
  rw [HW.out]
  go_wp2_with fail
  refine Calls.mono HI.out ?_
  rintro e W3 ⟨a, m, c, rfl, hb3, -, hk3⟩
  obtain rfl := hk3 HWO.out
  have h3 : Below w.heap.size w W3 := HB2.out.1.trans (hb3.mono (HB2.out.1.size))
  rw [HWO.out]
  simp only [Ix.withRow, Ix.opEight]
  have HT3 : Hid (W3.heap[w.heap.size]? = some (.cells #[.int .i64 tp, .int .i64 tn, v] 37 (0, 0))) := by
    refine (hb3.block _ ?_).trans HT2.out
    exact (Array.getElem?_eq_some_iff.1 HT2.out).1
  obtain ⟨W4, hW4⟩ : ∃ z, W3.alloc (.cells #[.int .i64 8, .string ⟨#[]⟩, .int .i64 0, .bool false, .bool false] 88) = z := ⟨_, rfl⟩
  have HW4 : Hid (W3.alloc (.cells #[.int .i64 8, .string ⟨#[]⟩, .int .i64 0, .bool false, .bool false] 88) = W4) := hW4
  have B4 : Below W3.heap.size W3 W4 := by rw [← hW4]; exact (Below.refl _ W3).alloc (Nat.le_refl _) _
  have hB3 : B ≤ W3.heap.size := Nat.le_trans HB2.out.2 h3.size
  have HO4 : W4.heap[W3.heap.size]? = some (.cells #[.int .i64 8, .string ⟨#[]⟩, .int .i64 0, .bool false, .bool false] 88 (0, 0)) := by rw [← hW4]; exact heap_alloc_new W3 _
  have h4 : Hid (Below w.heap.size w W4) := h3.trans (B4.mono h3.size)
  have HT4 : Hid (W4.heap[w.heap.size]? = some (.cells #[.int .i64 tp, .int .i64 tn, v] 37 (0, 0))) := by
    refine (B4.block _ ?_).trans HT3.out
    exact (Array.getElem?_eq_some_iff.1 HT3.out).1
  have HXW : Hid _ := HTX.out W4 (h4.out.mono HB2.out.2)
  obtain ⟨⟨t0, t1, t2, t3, t4⟩, -⟩ := Ix.row5 HO4
  obtain ⟨⟨y0, y1, y2⟩, -⟩ := Tk.row3 HT4.out
  clear hW4 B4 hB3 HO4 h3 hb3 z0 z1 z2 hk3 HTX HI
  go_upto_region 2 with fail
  rw [HW4.out]
  go_upto_region 6 with fail
  go_wp2_with fail
  refine Calls.mono HXW.out ?_
  rintro e W5 ⟨rfl, hb5⟩
  have H5 : Hid (Below w.heap.size w W5) := h4.out.trans (hb5.mono h4.out.size)
  clear hb5
  go_upto_region 7 with fail
  go_wp2_with (at_builtin; refine Ix.list_text rfl _ _ rfl (l := out) rfl (HRW.out W5 H5.out) tx rfl HL.out (Nat.le_trans HB2.out.2 H5.out.size) ?_)
  intro v6 W6 R6 G6
  go_wp2
  go_ret
  exact ⟨v6, rfl, R6, (Ix.Gr.below H5.out sv).trans G6⟩

end Go.Proofs
