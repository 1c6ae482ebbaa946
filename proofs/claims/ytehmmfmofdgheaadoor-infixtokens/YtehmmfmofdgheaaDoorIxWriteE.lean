/-
  infix: write of any term.
-/
import Derived.Test.YtehmmfmofdgheaaDoorIxWriteD
namespace Go.Proofs
open Go.RowKit

namespace Ix
theorem drew1c {B : Nat} {X : World} {v : Value} {l : List UInt8} (h : R B X v l) (c : Int) : ∃ Y, (X.alloc (byte c)).drew = Y ∧ R B Y v l ∧ Gr X v Y v ∧ Y.heap[X.heap.size]? = some (byte c) :=
  ⟨(X.alloc (byte c)).drew, rfl, (h.alloc _).keep ⟨rfl, rfl, rfl, Nat.le_refl _, fun _ _ => rfl⟩, (Gr.alloc X v _).trans (Gr.drew _ v), byte_new X c⟩
theorem drew2c {B : Nat} {X : World} {v : Value} {l : List UInt8} (h : R B X v l) (c e : Int) : ∃ Y, ((X.alloc (byte c)).alloc (byte e)).drew = Y ∧ R B Y v l ∧ Gr X v Y v ∧ (Y.heap[X.heap.size]? = some (byte c) ∧ v.ownBlock ≠ some X.heap.size) ∧ Y.heap[X.heap.size + 1]? = some (byte e) ∧ v.ownBlock ≠ some (X.heap.size + 1) :=
  ⟨((X.alloc (byte c)).alloc (byte e)).drew, rfl, ((h.alloc _).alloc _).keep ⟨rfl, rfl, rfl, Nat.le_refl _, fun _ _ => rfl⟩, (Gr.alloc X v _).trans ((Gr.alloc _ v _).trans (Gr.drew _ v)), two_new h c e rfl⟩
/-- Where no brackets are needed. -/
def LowC (n : Nat) : Prop := ∀ (d B r : Nat) (T : Tm) (v : Value) (out : List UInt8) (sv : Value) (w : World), Tm.Lies w B d v T → T.allForm = true → T.depth ≤ n → B ≤ w.heap.size → WEnv B w → R B w sv out → out.length + 40 * T.size ≤ 1000000010 → r ≤ rowT T →
  Calls Tryd.prog 30 #[sv, .agg #[.int .i64 T.op, .int .i64 T.num, v], .int .i64 r] w fun e w' => ∃ v', e = .returned v' ∧ R B w' v' (out ++ txt n T) ∧ Gr w sv w' v'
theorem low_of (n : Nat) (hC : WriteC n) : LowC (n + 1) := by
  intro d B r T v out sv w hT hF hd hB hE hR hl hr
  have kd : ∀ x ∈ T.ks, x.allForm = true ∧ x.depth ≤ n := fun x hx => ⟨form_kid hF hx, by have := depth_kid hx; omega⟩
  cases how_of hF with
  | leaf hw h8 hk ho =>
    rw [txt_leaf n h8]
    rw [size_none hk] at hl
    exact Tryd.write_none d B r T v out sv w hT hF hw hk (by omega) hB hE hR (by omega)
  | neg hw h7 hk =>
    rw [txt_neg n h7]
    have hm : k0 T ∈ T.ks := by rw [hk]; exact List.mem_cons_self
    rw [size_one hk] at hl
    have := Tryd.write_one n hC d B r T (k0 T) (opN 0) v out sv w hT hF hw rfl hk (kd _ hm) (.inr rfl) (by decide) (by rw [h7] at hr; exact hr) hB hE hR (by omega)
    simpa [opN, ops] using this
  | not hw h3 hk =>
    rw [txt_not n h3]
    have hm : k0 T ∈ T.ks := by rw [hk]; exact List.mem_cons_self
    rw [size_one hk] at hl
    have := Tryd.write_one n hC d B r T (k0 T) (opN 12) v out sv w hT hF hw rfl hk (kd _ hm) (.inl rfl) (by decide) (by rw [h3] at hr; exact hr) hB hE hR (by omega)
    simpa [opN, ops] using this
  | ne hw h4 ho hk hk2 =>
    rw [txt_ne n h4 ho]
    have hm : k0 T ∈ T.ks := by rw [hk]; exact List.mem_cons_self
    have kd2 : ∀ x ∈ (k0 T).ks, x.allForm = true ∧ x.depth ≤ n := fun x hx => ⟨form_kid (kd _ hm).1 hx, by have := depth_kid hx; have := (kd _ hm).2; omega⟩
    have hx : k0 (k0 T) ∈ (k0 T).ks := by rw [hk2]; exact List.mem_cons_self
    have hy : k1 (k0 T) ∈ (k0 T).ks := by rw [hk2]; exact List.mem_cons_of_mem _ List.mem_cons_self
    rw [size_one hk, size_two hk2] at hl
    have l1 := txt_len n _ (kd2 _ hx).1 (kd2 _ hx).2
    have l2 := kidOf_len (txt n) 5 (k0 (k0 T))
    have := Tryd.write_two n hC d B r T (k0 (k0 T)) (k1 (k0 T)) (k0 T) (opN 7) v out sv w hT hF hw rfl hk2 (kd2 _ hx) (kd2 _ hy) (by decide) (by decide) (by rw [h4] at hr; exact hr) hB hE hR (by omega) (by
      have e5 : leastR (opN 7).row 0 = 5 := by decide
      rw [e5, List.length_append]; omega)
    have e5 : leastR (opN 7).row 0 = 5 := by decide
    have e6 : leastR (opN 7).row 1 = 5 := by decide
    rw [e5, e6] at this
    simpa [opN, ops] using this
  | two o hw hro ho hk ht hd1 h1 h2 h3 hlo =>
    rw [txt_two n (by omega) (by omega) ho, hro]
    have hx : k0 T ∈ T.ks := by rw [hk]; exact List.mem_cons_self
    have hy : k1 T ∈ T.ks := by rw [hk]; exact List.mem_cons_of_mem _ List.mem_cons_self
    obtain ⟨e1, e2⟩ := left_least h1 h2 h3
    rw [size_two hk] at hl
    have l1 := txt_len n _ (kd _ hx).1 (kd _ hx).2
    have l2 := kidOf_len (txt n) (leftR o.row) (k0 T)
    have := Tryd.write_two n hC d B r T (k0 T) (k1 T) T o v out sv w hT hF hw (by rw [hd1]; rfl) hk (kd _ hx) (kd _ hy) ⟨h1, h2⟩ hlo (by omega) hB hE hR (by omega) (by rw [e1, List.length_append]; omega)
    rw [e1, e2, ht] at this
    exact this
end Ix

set_option maxHeartbeats 8000000 in
set_option maxRecDepth 20000 in
theorem Tryd.write_high (n : Nat) (hC : Ix.LowC n) (d B r : Nat) (T : Tm) (v : Value) (out : List UInt8) (sv : Value) (w : World) (hT : Tm.Lies w B d v T) (hF : T.allForm = true) (hd : T.depth ≤ n) (o : Ix.Op)
    (hw : Ix.withO T = some o) (ho : o.row = Ix.rowT T) (hr : Ix.rowT T < r) (h1 : 1 ≤ Ix.rowT T) (hB : B ≤ w.heap.size) (hE : Ix.WEnv B w) (hR : Ix.R B w sv out) (hl : out.length + 40 * T.size ≤ 1000000000) :
    Calls Tryd.prog 30 #[sv, .agg #[.int .i64 T.op, .int .i64 T.num, v], .int .i64 r] w fun e w' => ∃ v', e = .returned v' ∧ Ix.R B w' v' (out ++ 40 :: (Ix.txt n T ++ [41])) ∧ Ix.Gr w sv w' v' := by
  obtain ⟨w2, hw2⟩ : ∃ x, w.alloc (.cells #[.int .i64 T.op, .int .i64 T.num, v] 37) = x := ⟨_, rfl⟩
  have B2 : Below w.heap.size w w2 := by rw [← hw2]; exact (Below.refl _ w).alloc (Nat.le_refl _) _
  have HI : Hid _ := Ix.with_at hT hF hB hE (B2.mono hB)
  have HW : Hid (w.alloc (.cells #[.int .i64 T.op, .int .i64 T.num, v] 37) = w2) := hw2
  have HT2 : Hid (w2.heap[w.heap.size]? = some (.cells #[.int .i64 T.op, .int .i64 T.num, v] 37 (0, 0))) := by rw [← hw2]; exact heap_alloc_new w _
  have HB2 : Hid (Below w.heap.size w w2 ∧ B ≤ w.heap.size) := ⟨B2, hB⟩
  have hlen := Ix.txt_len n T hF hd
  have HLOW : Hid (∀ (X : World) (v1 : Value), Ix.Gr w sv X v1 → Ix.R B X v1 (out ++ [40]) → ∀ (W : World), W.heap = X.heap → W.os = X.os → W.tape = X.tape → W.output = X.output →
      Calls Tryd.prog 30 #[v1, .agg #[.int .i64 T.op, .int .i64 T.num, v], .int .i64 (1 : Nat)] W fun e w' => ∃ v', e = .returned v' ∧ Hid (Ix.R B w' v' (out ++ [40] ++ Ix.txt n T) ∧ Ix.Gr X v1 w' v')) := fun X v1 hg hrr W q1 q2 q3 q4 => by
    have hb : Below X.heap.size X W := ⟨q2, q3, q4, by rw [q1]; exact Nat.le_refl _, fun k _ => by rw [q1]⟩
    have hbw := hg.low hR hB
    have hBX : B ≤ X.heap.size := Nat.le_trans hB hg.size
    exact (hC d B 1 T v (out ++ [40]) v1 W ((hT.below hbw).below (hb.mono hBX)) hF hd (by rw [q1]; exact hBX) ((hE.below hbw).below (hb.mono hBX)) (hrr.keep hb) (by simp; omega) h1).mono fun e w' ⟨v', z0, z1, z2⟩ => ⟨v', z0, z1, (Ix.Gr.below hb v1).trans z2⟩
  have HRW : Hid (∀ Z : World, Below w.heap.size w Z → Ix.R B Z sv out) := fun Z hz => hR.keep hz
  have HL : Hid (out.length + 1 ≤ 2000000000 ∧ (out ++ [40] ++ Ix.txt n T).length + 1 ≤ 2000000000) := ⟨by omega, by simp; omega⟩
  have HN : Hid (∀ k, (∃ c fz, w2.heap[k]? = some (.cells c 37 fz)) → sv.ownBlock ≠ some k) := fun k ⟨c, fz, hk⟩ => (show Ix.R B w2 sv out from hR.keep B2).ne_of hk (by decide)
  have hrr : decide ((o.row : Int) < (r : Int)) = true := decide_eq_true (by omega)
  have hrn : ((o.row : Int) < (r : Int)) := by omega
  obtain ⟨orow, otx, oop, osw, ode⟩ := o
  have HWO : Hid (Ix.withO T = some ⟨orow, otx, oop, osw, ode⟩) := hw
  simp only at hrr hrn
  obtain ⟨P1, hP1⟩ : ∃ z, Ix.txt n T = z := ⟨_, rfl⟩
  rw [hP1] at HLOW HL ⊢
  obtain ⟨tp, htp⟩ : ∃ z, T.op = z := ⟨_, rfl⟩
  obtain ⟨tn, htn⟩ : ∃ z, T.num = z := ⟨_, rfl⟩
  rw [htp, htn] at HI HW HT2 HLOW ⊢
  obtain ⟨⟨z0, z1, z2⟩, -⟩ := Tk.row3 HT2.out
  clear hT hF hB hE hR hl hw2 B2 hw hd ho hP1 htp htn hC hlen hr h1
  go_enter Tryd.func30, Tryd.ntmps30
  go_upto_region 1 with fail
  rw [HW.out]
  go_wp2_with fail
  refine Calls.mono HI.out ?_
  rintro e W3 ⟨a, m, c, rfl, hb3, -, -⟩
  have h3 : Below w.heap.size w W3 := HB2.out.1.trans (hb3.mono (HB2.out.1.size))
  rw [HWO.out]
  simp only [Ix.withRow, Ix.opRow]
  have HT3 : Hid (W3.heap[w.heap.size]? = some (.cells #[.int .i64 tp, .int .i64 tn, v] 37 (0, 0))) := by
    refine (hb3.block _ ?_).trans HT2.out
    exact (Array.getElem?_eq_some_iff.1 HT2.out).1
  obtain ⟨W4, hW4⟩ : ∃ z, W3.alloc (.cells #[.int .i64 orow, .string ⟨otx.toArray⟩, .int .i64 oop, .bool osw, .bool ode] 88) = z := ⟨_, rfl⟩
  have HW4 : Hid (W3.alloc (.cells #[.int .i64 orow, .string ⟨otx.toArray⟩, .int .i64 oop, .bool osw, .bool ode] 88) = W4) := hW4
  have B4 : Below W3.heap.size W3 W4 := by rw [← hW4]; exact (Below.refl _ W3).alloc (Nat.le_refl _) _
  have HO4 : W4.heap[W3.heap.size]? = some (.cells #[.int .i64 orow, .string ⟨otx.toArray⟩, .int .i64 oop, .bool osw, .bool ode] 88 (0, 0)) := by rw [← hW4]; exact heap_alloc_new W3 _
  have h4 : Hid (Below w.heap.size w W4) := h3.trans (B4.mono h3.size)
  have HT4 : Hid (W4.heap[w.heap.size]? = some (.cells #[.int .i64 tp, .int .i64 tn, v] 37 (0, 0))) := by
    refine (B4.block _ ?_).trans HT3.out
    exact (Array.getElem?_eq_some_iff.1 HT3.out).1
  obtain ⟨⟨t0, t1, t2, t3, t4⟩, -⟩ := Ix.row5 HO4
  have R4 : Hid (Ix.R B W4 sv out) := HRW.out W4 h4.out
  have G4 : Hid (Ix.Gr w sv W4 sv) := Ix.Gr.below h4.out sv
  have HB4 : Hid (B ≤ W4.heap.size) := Nat.le_trans HB2.out.2 h4.out.size
  -- the term's copy, wherever the row has grown
  have HRD : Hid (∀ (X : World) (v1 : Value), Ix.Gr W4 sv X v1 → X.cell? ⟨w.heap.size, 0, none⟩ = some (.int .i64 tp) ∧ X.cell? ⟨w.heap.size, 1, none⟩ = some (.int .i64 tn) ∧ X.cell? ⟨w.heap.size, 2, none⟩ = some v) := fun X v1 hg =>
    (Tk.row3 (hg.heap HT4.out (HN.out _ ⟨_, _, HT2.out⟩))).1
  clear hW4 B4 HO4 h3 hb3 z0 z1 z2 HI
  go_upto_region 2 with fail
  rw [HW4.out]
  obtain ⟨Wa, hWa, Ra', Ga', Na'⟩ := Ix.drew1c R4.out 40
  have HWa : Hid ((W4.alloc (.cells #[.int .u8 40] 5)).drew = Wa) := hWa
  have Ra : Hid (Ix.R B Wa sv out) := Ra'
  have Ga : Hid (Ix.Gr W4 sv Wa sv) := Ga'
  have Na : Hid (Wa.heap[W4.heap.size]? = some (Ix.byte 40)) := Na'
  have HBa : Hid (B ≤ Wa.heap.size) := Nat.le_trans HB4.out Ga.out.size
  obtain ⟨We, hWe, Re', Ge', Ne'⟩ := Ix.drew2c R4.out 40 41
  have HWe : Hid (((W4.alloc (.cells #[.int .u8 40] 5)).alloc (.cells #[.int .u8 41] 5)).drew = We) := hWe
  have Re : Hid (Ix.R B We sv out) := Re'
  have Ge : Hid (Ix.Gr W4 sv We sv) := Ge'
  have Ne : Hid ((We.heap[W4.heap.size]? = some (Ix.byte 40) ∧ sv.ownBlock ≠ some W4.heap.size) ∧ We.heap[W4.heap.size + 1]? = some (Ix.byte 41) ∧ sv.ownBlock ≠ some (W4.heap.size + 1)) := Ne'
  have HBe : Hid (B ≤ We.heap.size) := Nat.le_trans HB4.out Ge.out.size
  obtain ⟨Wf, hWf, Rf', Gf', Nf'⟩ := Ix.drew2c R4.out 41 40
  have HWf : Hid (((W4.alloc (.cells #[.int .u8 41] 5)).alloc (.cells #[.int .u8 40] 5)).drew = Wf) := hWf
  have Rf : Hid (Ix.R B Wf sv out) := Rf'
  have Gf : Hid (Ix.Gr W4 sv Wf sv) := Gf'
  have Nf : Hid ((Wf.heap[W4.heap.size]? = some (Ix.byte 41) ∧ sv.ownBlock ≠ some W4.heap.size) ∧ Wf.heap[W4.heap.size + 1]? = some (Ix.byte 40) ∧ sv.ownBlock ≠ some (W4.heap.size + 1)) := Nf'
  have HBf : Hid (B ≤ Wf.heap.size) := Nat.le_trans HB4.out Gf.out.size
  obtain ⟨ya0, ya1, ya2⟩ := HRD.out W4 sv (Ix.Gr.refl _ _)
  obtain ⟨yb0, yb1, yb2⟩ := HRD.out (W4.alloc (.cells #[.int .u8 40] 5)) sv (Ix.Gr.alloc _ _ _)
  obtain ⟨yc0, yc1, yc2⟩ := HRD.out (W4.alloc (.cells #[.int .u8 41] 5)) sv (Ix.Gr.alloc _ _ _)
  obtain ⟨yd0, yd1, yd2⟩ := HRD.out ((W4.alloc (.cells #[.int .u8 40] 5)).alloc (.cells #[.int .u8 41] 5)) sv ((Ix.Gr.alloc _ _ _).trans (Ix.Gr.alloc _ _ _))
  obtain ⟨ye0, ye1, ye2⟩ := HRD.out ((W4.alloc (.cells #[.int .u8 41] 5)).alloc (.cells #[.int .u8 40] 5)) sv ((Ix.Gr.alloc _ _ _).trans (Ix.Gr.alloc _ _ _))
  clear hWa Ra' Ga' Na' hWe Re' Ge' Ne' hWf Rf' Gf' Nf'
  go_upto_region 3 with fail
  go_region_law (first
    | (rw [HWa.out]; refine Ix.step_byte rfl (.tmp 20) (.tmp 21) rfl (l := out) (by simp [Act.eval]) Ra.out W4.heap.size 1 40 ?hx Na.out HL.out.1 HBa.out ?_; (case hx => simp [Act.eval]; done); intro v5 W5 R5' G5'; have R5 : Hid (Ix.R B W5 v5 (out ++ [40])) := R5'; have G5 : Hid (Ix.Gr W4 sv W5 v5) := Ga.out.trans G5'; clear R5' G5'; obtain ⟨yf0, yf1, yf2⟩ := HRD.out W5 v5 G5.out; obtain ⟨yg0, yg1, yg2⟩ := HRD.out (W5.alloc (.cells #[.int .u8 41] 5)) v5 (G5.out.trans (Ix.Gr.alloc _ _ _)))
    | (rw [HWe.out]; refine Ix.step_byte rfl (.tmp 20) (.tmp 21) rfl (l := out) (by simp [Act.eval]) Re.out W4.heap.size 1 40 ?hx Ne.out.1.1 HL.out.1 HBe.out ?_; (case hx => simp [Act.eval]; done); intro v5 W5 R5' G5'; have R5 : Hid (Ix.R B W5 v5 (out ++ [40])) := R5'; have G5 : Hid (Ix.Gr W4 sv W5 v5) := Ge.out.trans G5'; have N5 : Hid _ := Ix.Gr.byte G5' Ne.out.2.1 Ne.out.2.2; clear R5' G5'; obtain ⟨yf0, yf1, yf2⟩ := HRD.out W5 v5 G5.out)
    | (rw [HWf.out]; refine Ix.step_byte rfl (.tmp 20) (.tmp 21) rfl (l := out) (by simp [Act.eval]) Rf.out (W4.heap.size + 1) 1 40 ?hx Nf.out.2.1 HL.out.1 HBf.out ?_; (case hx => simp [Act.eval]; done); intro v5 W5 R5' G5'; have R5 : Hid (Ix.R B W5 v5 (out ++ [40])) := R5'; have G5 : Hid (Ix.Gr W4 sv W5 v5) := Gf.out.trans G5'; have N5 : Hid _ := Ix.Gr.byte G5' Nf.out.1.1 Nf.out.1.2; clear R5' G5'; obtain ⟨yf0, yf1, yf2⟩ := HRD.out W5 v5 G5.out)
    | (go_simp; go_at_call 30; refine Calls.mono (HLOW.out W5 v5 (G4.out.trans G5.out) R5.out W5 rfl rfl rfl rfl) ?_; rintro e W6 ⟨v6, rfl, H6⟩; have R6 : Hid (Ix.R B W6 v6 (out ++ [40] ++ P1)) := H6.out.1; have G6 : Hid (Ix.Gr W4 sv W6 v6) := G5.out.trans H6.out.2; (try have N6 : Hid _ := Ix.Gr.byte H6.out.2 N5.out.1 N5.out.2); clear H6)
    | (go_simp; go_at_call 30; refine Calls.mono (HLOW.out (W5.alloc (.cells #[.int .u8 41] 5)) v5 (G4.out.trans (G5.out.trans (Ix.Gr.alloc _ _ _))) (R5.out.alloc _) (W5.alloc (.cells #[.int .u8 41] 5)) rfl rfl rfl rfl) ?_; rintro e W6 ⟨v6, rfl, H6⟩; have R6 : Hid (Ix.R B W6 v6 (out ++ [40] ++ P1)) := H6.out.1; have G6 : Hid (Ix.Gr W4 sv W6 v6) := G5.out.trans ((Ix.Gr.alloc _ _ _).trans H6.out.2); have N6 : Hid _ := Ix.Gr.byte H6.out.2 (Ix.one_new 41 rfl) (R5.out.ne (Nat.le_refl _)); clear H6)
    | (refine Ix.step_byte rfl (.tmp 24) (.tmp 25) rfl (l := out ++ [40] ++ P1) (by simp [Act.eval]) R6.out _ 1 41 ?hx N6.out.1 HL.out.2 (Nat.le_trans HB4.out G6.out.size) ?_; (case hx => simp [Act.eval]; done); intro v7 W7 R7' G7'; have R7 : Hid (Ix.R B W7 v7 (out ++ [40] ++ P1 ++ [41])) := R7'; have G7 : Hid (Ix.Gr W4 sv W7 v7) := G6.out.trans G7'; clear R7' G7')
    | (refine Ix.step_byte rfl (.tmp 24) (.tmp 25) rfl (l := out ++ [40] ++ P1) (by simp [Act.eval]) (R6.out.alloc _) W6.heap.size 1 41 ?hx (Ix.one_new 41 rfl) HL.out.2 (Nat.le_trans (Nat.le_trans HB4.out G6.out.size) (by simp)) ?_; (case hx => simp [Act.eval]; done); intro v7 W7 R7' G7'; have R7 : Hid (Ix.R B W7 v7 (out ++ [40] ++ P1 ++ [41])) := R7'; have G7 : Hid (Ix.Gr W4 sv W7 v7) := G6.out.trans ((Ix.Gr.alloc _ _ _).trans G7'); clear R7' G7')
    | fail)
  all_goals
    go_wp2
    go_ret
    refine ⟨v7, rfl, ?_, G4.out.trans G7.out⟩
    have := R7.out
    simpa using this

namespace Ix
theorem rowT_ok (T : Tm) : 1 ≤ rowT T ∧ rowT T ≤ 8 := by
  unfold rowT
  repeat' split
  all_goals omega
theorem write_all : ∀ n, WriteC n
  | 0 => fun d B r T v out sv w _ _ hd => by have := depth_pos T; omega
  | n + 1 => fun d B r T v out sv w hT hF hd hB hE hR hl h1 h8 => by
    have hL := low_of n (write_all n)
    by_cases hr : r ≤ rowT T
    · have e : kidOf (txt (n + 1)) r T = txt (n + 1) T := by unfold kidOf; rw [if_neg (by omega)]
      rw [e]
      exact hL d B r T v out sv w hT hF hd hB hE hR (by omega) hr
    · have e : kidOf (txt (n + 1)) r T = 40 :: (txt (n + 1) T ++ [41]) := by unfold kidOf; rw [if_pos (by omega)]
      rw [e]
      have ⟨o, hw, ho⟩ : ∃ o, withO T = some o ∧ o.row = rowT T := by
        cases how_of hF with
        | leaf hw hr8 hk ho => omega
        | neg hw hr7 hk => exact ⟨_, hw, hr7.symm⟩
        | not hw hr3 hk => exact ⟨_, hw, hr3.symm⟩
        | ne hw hr4 ho hk hk2 => exact ⟨_, hw, hr4.symm⟩
        | two o hw hro => exact ⟨_, hw, hro.symm⟩
      exact Tryd.write_high (n + 1) hL d B r T v out sv w hT hF hd o hw ho (by omega) (rowT_ok T).1 hB hE hR hl
end Ix

end Go.Proofs
