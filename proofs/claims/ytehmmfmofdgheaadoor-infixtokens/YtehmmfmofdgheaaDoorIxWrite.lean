/-
  infix: the contracts of writeAhead and writeBetween, out of write's.
-/
import Derived.Test.YtehmmfmofdgheaaDoorIxRows
import Derived.Test.YtehmmfmofdgheaaDoorIxWith
import Derived.Test.YtehmmfmofdgheaaDoorTText
import Derived.Deep.DeepCutAuto
namespace Go.Proofs
open Go.RowKit

namespace Ix
/-- The tables, below B. -/
structure WEnv (B : Nat) (w : World) : Prop where
  tabs : Tabs w
  ops : Tk.Ops w
  pow : Lib.TabBelow Tryd.prog B w "internal/strconv.uint64pow10" .u64 Lib.pow10Tab
  b1 : 2 < B
  b2 : 0 < B
  b3 : 1 < B
theorem WEnv.below {B : Nat} {w w' : World} (h : WEnv B w) (hb : Below B w w') : WEnv B w' := ⟨h.tabs.below hb h.b1, h.ops.below hb h.b3, fun W hW => h.pow W (hb.trans hW), h.b1, h.b2, h.b3⟩
def WriteC (n : Nat) : Prop := ∀ (d B r : Nat) (T : Tm) (v : Value) (out : List UInt8) (sv : Value) (w : World), Tm.Lies w B d v T → T.allForm = true → T.depth ≤ n → B ≤ w.heap.size → WEnv B w → R B w sv out → out.length + 40 * T.size ≤ 1000000000 → 1 ≤ r → r ≤ 8 →
  Calls Tryd.prog 30 #[sv, .agg #[.int .i64 T.op, .int .i64 T.num, v], .int .i64 r] w fun e w' => ∃ v', e = .returned v' ∧ R B w' v' (out ++ kidOf (txt n) r T) ∧ Gr w sv w' v'
theorem WriteC.at_ {n : Nat} (hC : WriteC n) {d B r : Nat} {T : Tm} {v : Value} {out : List UInt8} {sv : Value} {X : World} (hT : Tm.Lies X B d v T) (hF : T.allForm = true) (hd : T.depth ≤ n) (hB : B ≤ X.heap.size) (hE : WEnv B X) (hR : R B X sv out) (hl : out.length + 40 * T.size ≤ 1000000000) (h1 : 1 ≤ r) (h8 : r ≤ 8) :
    ∀ W : World, W.heap = X.heap → W.os = X.os → W.tape = X.tape → W.output = X.output → Calls Tryd.prog 30 #[sv, .agg #[.int .i64 T.op, .int .i64 T.num, v], .int .i64 r] W fun e w' => ∃ v', e = .returned v' ∧ Hid (R B w' v' (out ++ kidOf (txt n) r T) ∧ Gr X sv w' v') := fun W e1 e2 e3 e4 => by
  have hb : Below X.heap.size X W := ⟨e2, e3, e4, by rw [e1]; exact Nat.le_refl _, fun k _ => by rw [e1]⟩
  exact (hC d B r T v out sv W (hT.keep fun k hk => by rw [e1]) hF hd (by rw [e1]; exact hB) (hE.below (hb.mono hB)) (hR.keep hb) hl h1 h8).mono fun e w' ⟨v', he, h1, h2⟩ => ⟨v', he, h1, (Gr.below hb sv).trans h2⟩
theorem least_at {r p : Nat} {X : World} (h : Tabs X) (h1 : 1 ≤ r) (h7 : r ≤ 7) (hp : p ≤ 1) : ∀ W : World, W.heap = X.heap → Calls Tryd.prog 62 #[.int .i64 r, .int .i64 p] W fun e w' => e = .returned (.int .i64 (leastR r p : Nat)) ∧ w' = W := fun W e1 => Tryd.least_any r p W (h.keep (by rw [e1]) (by rw [e1])) h1 h7 hp
end Ix

set_option maxHeartbeats 8000000 in
set_option maxRecDepth 20000 in
theorem Tryd.writeAhead_of (n : Nat) (hC : Ix.WriteC n) (d B : Nat) (o : Ix.Op) (T : Tm) (v : Value) (out : List UInt8) (sv : Value) (w : World) (hT : Tm.Lies w B d v T) (hF : T.allForm = true) (hd : T.depth ≤ n) (hB : B ≤ w.heap.size) (hE : Ix.WEnv B w) (hR : Ix.R B w sv out)
    (hl : out.length + 4 + 40 * T.size ≤ 1000000000) (hr : o.row = 3 ∨ o.row = 7) (hot : o.text.length ≤ 3) :
    Calls Tryd.prog 51 #[sv, .agg (Ix.opRow o), .agg #[.int .i64 T.op, .int .i64 T.num, v]] w fun e w' => ∃ v', e = .returned v' ∧ Ix.R B w' v' (out ++ (o.text ++ (if o.text = [110, 111, 116] then [32] else []) ++ Ix.kidOf (Ix.txt n) o.row T)) ∧ Ix.Gr w sv w' v' := by
  obtain ⟨orow, otx, oop, osw, ode⟩ := o
  simp only [Ix.opRow] at hr hot ⊢
  obtain ⟨a0, c0, rfl⟩ := hT.shape
  obtain ⟨w1, hw1⟩ : ∃ x, w.alloc (.cells #[.int .i64 orow, .string ⟨otx.toArray⟩, .int .i64 oop, .bool osw, .bool ode] 88) = x := ⟨_, rfl⟩
  obtain ⟨w2, hw2⟩ : ∃ x, w1.alloc (.cells #[.int .i64 T.op, .int .i64 T.num, .slice a0 T.ks.length c0] 37) = x := ⟨_, rfl⟩
  have s1 : w1.heap.size = w.heap.size + 1 := by rw [← hw1]; simp
  have G2 : Hid (Ix.Gr w sv w2 sv) := by rw [← hw2, ← hw1]; exact (Ix.Gr.alloc _ _ _).trans (Ix.Gr.alloc _ _ _)
  have R2 : Hid (Ix.R B w2 sv out) := by rw [← hw2, ← hw1]; exact (hR.alloc _).alloc _
  have HO2 : Hid (w2.heap[w.heap.size]? = some (.cells #[.int .i64 orow, .string ⟨otx.toArray⟩, .int .i64 oop, .bool osw, .bool ode] 88 (0, 0))) := by rw [← hw2, Below.heap_alloc _ _ _ (by omega), ← hw1]; exact heap_alloc_new w _
  have HT2 : Hid (w2.heap[w.heap.size + 1]? = some (.cells #[.int .i64 T.op, .int .i64 T.num, .slice a0 T.ks.length c0] 37 (0, 0))) := by rw [← hw2, ← s1]; exact heap_alloc_new w1 _
  have HB2 : Hid (B ≤ w2.heap.size) := Nat.le_trans hB G2.out.size
  obtain ⟨A, hA⟩ : ∃ z, out ++ (otx ++ (if otx = [110, 111, 116] then [32] else [])) = z := ⟨_, rfl⟩
  have HA : Hid (out ++ (otx ++ (if otx = [110, 111, 116] then [32] else [])) = A) := hA
  have hAl : A.length ≤ out.length + 4 := by rw [← hA]; split <;> simp <;> omega
  -- what is left behind the beginning
  have HREST : Hid (∀ (X : World) (v1 : Value), Ix.Gr w2 sv X v1 → Ix.R B X v1 A → (Tm.Lies X B d (.slice a0 T.ks.length c0) T ∧ Ix.WEnv B X ∧ B ≤ X.heap.size) ∧ X.heap[w.heap.size]? = some (.cells #[.int .i64 orow, .string ⟨otx.toArray⟩, .int .i64 oop, .bool osw, .bool ode] 88 (0, 0)) ∧ X.heap[w.heap.size + 1]? = some (.cells #[.int .i64 T.op, .int .i64 T.num, .slice a0 T.ks.length c0] 37 (0, 0))) := fun X v1 hg hr => by
    have hb : Below B w X := (G2.out.trans hg).low hR hB
    exact ⟨⟨hT.below hb, hE.below hb, Nat.le_trans HB2.out hg.size⟩, hg.heap HO2.out (R2.out.ne_of HO2.out (by decide)), hg.heap HT2.out (R2.out.ne_of HT2.out (by decide))⟩
  have HW : Hid (w.alloc (.cells #[.int .i64 orow, .string ⟨otx.toArray⟩, .int .i64 oop, .bool osw, .bool ode] 88) = w1 ∧ w1.alloc (.cells #[.int .i64 T.op, .int .i64 T.num, .slice a0 T.ks.length c0] 37) = w2) := ⟨hw1, hw2⟩
  have HC : Hid (Ix.WriteC n ∧ T.allForm = true ∧ T.depth ≤ n ∧ A.length + 40 * T.size ≤ 1000000000 ∧ out.length + 4 ≤ 1000000000 ∧ otx.length ≤ 3) := ⟨hC, hF, hd, by omega, by omega, hot⟩
  have HLR : Hid (Ix.leastR orow 0 = orow) := by show _ = _; unfold Ix.leastR; rw [if_pos (by omega)]
  obtain ⟨tp, htp⟩ : ∃ z, T.op = z := ⟨_, rfl⟩
  obtain ⟨tn, htn⟩ : ∃ z, T.num = z := ⟨_, rfl⟩
  obtain ⟨n0, hn0⟩ : ∃ z, T.ks.length = z := ⟨_, rfl⟩
  have HTT : Hid (T.op = tp ∧ T.num = tn ∧ T.ks.length = n0) := ⟨htp, htn, hn0⟩
  rw [htp, htn, hn0] at HREST HT2 HW ⊢
  obtain ⟨⟨z0, z1, z2, z3, z4⟩, -⟩ := Ix.row5 HO2.out
  have hr7 : 1 ≤ orow ∧ orow ≤ 7 := by omega
  clear hT hF hd hE hR hl hot hw1 hw2 s1 hA hAl htp htn hn0 hC hB
  have HEND : Hid (∀ (X : World) (v1 : Value), Ix.Gr w2 sv X v1 → Ix.R B X v1 A → ∀ (W : World), W.heap = X.heap → W.os = X.os → W.tape = X.tape → W.output = X.output → Calls Tryd.prog 30 #[v1, .agg #[.int .i64 tp, .int .i64 tn, .slice a0 n0 c0], .int .i64 (orow : Nat)] W fun e w' => ∃ v', e = .returned v' ∧ Hid (Ix.R B w' v' (A ++ Ix.kidOf (Ix.txt n) orow T) ∧ Ix.Gr X v1 w' v')) := fun X v1 hg hrr => by
    obtain ⟨⟨q1, q2, q3⟩, -, -⟩ := HREST.out X v1 hg hrr
    have := HC.out.1.at_ q1 HC.out.2.1 HC.out.2.2.1 q3 q2 hrr HC.out.2.2.2.1 hr7.1 (by omega) (r := orow)
    rw [HTT.out.1, HTT.out.2.1] at this
    exact this
  have HLE : Hid (∀ (X : World) (v1 : Value), Ix.Gr w2 sv X v1 → Ix.R B X v1 A → ∀ (W : World), W.heap = X.heap → Calls Tryd.prog 62 #[.int .i64 orow, .int .i64 0] W fun e w' => e = .returned (.int .i64 (orow : Nat)) ∧ w' = W) := fun X v1 hg hrr => by
    have := Ix.least_at (p := 0) (HREST.out X v1 hg hrr).1.2.1.tabs hr7.1 hr7.2 (by omega)
    rw [HLR.out] at this
    exact this
  by_cases hnot : otx = [110, 111, 116]
  · subst hnot
    have HA2 : Hid ((out ++ [110, 111, 116]) ++ [32] = A) := by show _ = _; rw [← HA.out]; simp
    go_enter Tryd.func51, Tryd.ntmps51
    go_upto_region 1 with fail
    rw [HW.out.1, HW.out.2]
    go_wp2_with (at_builtin; refine Ix.list_text rfl _ _ rfl (l := out) rfl R2.out [110, 111, 116] rfl ?c1 HB2.out ?_)
    case c1 => have := HC.out.2.2.2.2.1; simp; omega
    intro v1 W1 R1' G1'
    have R1 : Hid _ := R1'
    have G1 : Hid (Ix.Gr w2 sv W1 v1) := G1'
    have o1 : Hid (W1.heap[w.heap.size]? = _) := G1'.heap HO2.out (R2.out.ne_of HO2.out (by decide))
    obtain ⟨⟨z0, z1, z2, z3, z4⟩, -⟩ := Ix.row5 o1.out
    clear R1' G1'
    obtain ⟨Wb, hWb⟩ : ∃ z, W1.alloc (Ix.byte 32) = z := ⟨_, rfl⟩
    have HWb : Hid (W1.alloc (.cells #[.int .u8 32] 5) = Wb) := hWb
    have Rb : Hid (Ix.R B Wb v1 (out ++ [110, 111, 116])) := by rw [← hWb]; exact R1.out.alloc _
    have Gb : Hid (Ix.Gr w2 sv Wb v1) := by rw [← hWb]; exact G1.out.trans (Ix.Gr.alloc _ _ _)
    have Nb : Hid (Wb.heap[W1.heap.size]? = some (Ix.byte 32)) := by rw [← hWb]; exact Ix.byte_new W1 32
    clear hWb
    go_wp2_with (at_builtin; rw [HWb.out]; refine Ix.list_byte rfl _ _ rfl (l := out ++ [110, 111, 116]) rfl Rb.out W1.heap.size 1 32 rfl Nb.out ?c2 (Nat.le_trans HB2.out Gb.out.size) ?_)
    case c2 => have := HC.out.2.2.2.2.1; simp; omega
    intro v2 W2 R2' G2'
    have R3 : Hid (Ix.R B W2 v2 A) := by
      have e := R2'
      show Ix.R B W2 v2 A
      rw [← HA2.out]; simpa using e
    have G3 : Hid (Ix.Gr w2 sv W2 v2) := Gb.out.trans G2'
    obtain ⟨-, o2, t2⟩ := HREST.out W2 v2 G3.out R3.out
    obtain ⟨⟨z0, z1, z2, z3, z4⟩, -⟩ := Ix.row5 o2
    obtain ⟨⟨x0, x1, x2⟩, -⟩ := Tk.row3 t2
    have HL2 : Hid _ := HLE.out W2 v2 G3.out R3.out
    have HW2 : Hid _ := HEND.out W2 v2 G3.out R3.out
    clear R2' G2' o2 t2
    go_upto_region 4 with fail
    go_region_law (first
      | (go_simp; go_at_call 62; refine Calls.mono (HL2.out _ rfl) ?_; rintro e W3 ⟨rfl, rfl⟩)
      | (go_simp; go_at_call 30; refine Calls.mono (HW2.out _ rfl rfl rfl rfl) ?_; rintro e W4 ⟨v4, rfl, H4⟩)
      | fail)
    all_goals
      go_wp2
      go_ret
      refine ⟨v4, rfl, ?_, G2.out.trans (G3.out.trans H4.out.2)⟩
      have := H4.out.1
      rw [← HA.out] at this
      simpa using this
  · have HA2 : Hid (out ++ otx = A) := by show _ = _; rw [← HA.out, if_neg hnot]; simp
    have hnb : (otx.toArray == #[110, 111, 116]) = false := by
      cases h : (otx.toArray == #[110, 111, 116]) with
      | false => rfl
      | true => exact absurd (congrArg Array.toList (beq_iff_eq.1 h)) (by simpa using hnot)
    have hnl : (otx == [110, 111, 116]) = false := by
      cases h : (otx == [110, 111, 116]) with
      | false => rfl
      | true => exact absurd (beq_iff_eq.1 h) hnot
    go_enter Tryd.func51, Tryd.ntmps51
    go_upto_region 1 with fail
    rw [HW.out.1, HW.out.2]
    go_wp2_with (at_builtin; refine Ix.list_text rfl _ _ rfl (l := out) rfl R2.out otx rfl ?c1 HB2.out ?_)
    case c1 => have := HC.out.2.2.2.2; omega
    intro v1 W1 R1' G1'
    have R3 : Hid (Ix.R B W1 v1 A) := by
      have e := R1'
      rw [HA2.out] at e
      exact e
    have G3 : Hid (Ix.Gr w2 sv W1 v1) := G1'
    obtain ⟨-, o2, t2⟩ := HREST.out W1 v1 G3.out R3.out
    obtain ⟨⟨z0, z1, z2, z3, z4⟩, -⟩ := Ix.row5 o2
    obtain ⟨⟨x0, x1, x2⟩, -⟩ := Tk.row3 t2
    have HL2 : Hid _ := HLE.out W1 v1 G3.out R3.out
    have HW2 : Hid _ := HEND.out W1 v1 G3.out R3.out
    clear R1' G1' o2 t2
    go_upto_region 4 with fail
    go_region_law (first
      | (go_simp; go_at_call 62; refine Calls.mono (HL2.out _ rfl) ?_; rintro e W3 ⟨rfl, rfl⟩)
      | (go_simp; go_at_call 30; refine Calls.mono (HW2.out _ rfl rfl rfl rfl) ?_; rintro e W4 ⟨v4, rfl, H4⟩)
      | fail)
    all_goals
      go_wp2
      go_ret
      refine ⟨v4, rfl, ?_, G2.out.trans (G3.out.trans H4.out.2)⟩
      have := H4.out.1
      rw [← HA.out] at this
      simpa [hnot] using this

end Go.Proofs
