/-
  infix: the contract of writeBetween, out of write's.
-/
import Derived.Test.YtehmmfmofdgheaaDoorIxWrite
namespace Go.Proofs
open Go.RowKit

namespace Ix
theorem Gr.byte {w w' : World} {v v' : Value} {q : Nat} {o : Obj} (h : Gr w v w' v') (hq : w.heap[q]? = some o) (hne : v.ownBlock ≠ some q) : w'.heap[q]? = some o ∧ v'.ownBlock ≠ some q :=
  ⟨h.heap hq hne, (h.block q (Array.getElem?_eq_some_iff.1 hq).1 hne).2⟩
/-- Two new bytes. -/
theorem two_new {B : Nat} {X : World} {v : Value} {l : List UInt8} (h : R B X v l) (c e : Int) {m : Nat} (hm : X.heap.size = m) : (((X.alloc (byte c)).alloc (byte e)).heap[m]? = some (byte c) ∧ v.ownBlock ≠ some m) ∧ ((X.alloc (byte c)).alloc (byte e)).heap[m + 1]? = some (byte e) ∧ v.ownBlock ≠ some (m + 1) := by
  subst hm
  have s : (X.alloc (byte c)).heap.size = X.heap.size + 1 := by simp
  refine ⟨⟨?_, h.ne (Nat.le_refl _)⟩, ?_, h.ne (by omega)⟩
  · rw [Below.heap_alloc _ _ _ (by omega)]; exact byte_new X c
  · rw [← s]; exact byte_new _ e
theorem one_new {X : World} (c : Int) {m : Nat} (hm : X.heap.size = m) : (X.alloc (byte c)).heap[m]? = some (byte c) := by subst hm; exact byte_new X c
/-- Worlds that are drawn from, in letters. -/
theorem drew1 {B : Nat} {X : World} {v : Value} {l : List UInt8} (h : R B X v l) : ∃ Y, (X.alloc (byte 32)).drew = Y ∧ R B Y v l ∧ Gr X v Y v ∧ Y.heap[X.heap.size]? = some (byte 32) :=
  ⟨(X.alloc (byte 32)).drew, rfl, (h.alloc _).keep ⟨rfl, rfl, rfl, Nat.le_refl _, fun _ _ => rfl⟩, (Gr.alloc X v _).trans (Gr.drew _ v), byte_new X 32⟩
theorem drew2 {B : Nat} {X : World} {v : Value} {l : List UInt8} (h : R B X v l) : ∃ Y, ((X.alloc (byte 32)).alloc (byte 32)).drew = Y ∧ R B Y v l ∧ Gr X v Y v ∧ (Y.heap[X.heap.size]? = some (byte 32) ∧ v.ownBlock ≠ some X.heap.size) ∧ Y.heap[X.heap.size + 1]? = some (byte 32) ∧ v.ownBlock ≠ some (X.heap.size + 1) :=
  ⟨((X.alloc (byte 32)).alloc (byte 32)).drew, rfl, ((h.alloc _).alloc _).keep ⟨rfl, rfl, rfl, Nat.le_refl _, fun _ _ => rfl⟩, (Gr.alloc X v _).trans ((Gr.alloc _ v _).trans (Gr.drew _ v)), two_new h 32 32 rfl⟩
end Ix

set_option maxHeartbeats 8000000 in
set_option maxRecDepth 20000 in
theorem Tryd.writeBetween_of (n : Nat) (hC : Ix.WriteC n) (d dU B : Nat) (o : Ix.Op) (T U : Tm) (v u : Value) (out : List UInt8) (sv : Value) (w : World) (hT : Tm.Lies w B d v T) (hF : T.allForm = true) (hd : T.depth ≤ n)
    (hU : Tm.Lies w B dU u U) (hFU : U.allForm = true) (hdU : U.depth ≤ n) (hB : B ≤ w.heap.size) (hE : Ix.WEnv B w) (hR : Ix.R B w sv out)
    (hl : out.length + 40 * T.size ≤ 1000000000) (hl2 : (out ++ Ix.kidOf (Ix.txt n) (Ix.leastR o.row 0) T).length + 5 + 40 * U.size ≤ 1000000000) (hr : 1 ≤ o.row ∧ o.row ≤ 6) (hot : o.text.length ≤ 3) :
    Calls Tryd.prog 52 #[sv, .agg (Ix.opRow o), .agg #[.int .i64 T.op, .int .i64 T.num, v], .agg #[.int .i64 U.op, .int .i64 U.num, u]] w fun e w' => ∃ v', e = .returned v' ∧ Ix.R B w' v' (out ++ (Ix.kidOf (Ix.txt n) (Ix.leastR o.row 0) T ++ (32 :: (o.text ++ (32 :: Ix.kidOf (Ix.txt n) (Ix.leastR o.row 1) U))))) ∧ Ix.Gr w sv w' v' := by
  obtain ⟨orow, otx, oop, osw, ode⟩ := o
  simp only [Ix.opRow] at hr hot hl2 ⊢
  obtain ⟨a0, c0, rfl⟩ := hT.shape
  obtain ⟨b0, e0, rfl⟩ := hU.shape
  obtain ⟨m1, hm1⟩ : ∃ z, Ix.leastR orow 0 = z := ⟨_, rfl⟩
  obtain ⟨m2, hm2⟩ : ∃ z, Ix.leastR orow 1 = z := ⟨_, rfl⟩
  have hm : 1 ≤ m1 ∧ m1 ≤ 8 ∧ 1 ≤ m2 ∧ m2 ≤ 8 := by rw [← hm1, ← hm2]; unfold Ix.leastR; constructor <;> (try split) <;> (try split) <;> omega
  obtain ⟨w1, hw1⟩ : ∃ x, w.alloc (.cells #[.int .i64 orow, .string ⟨otx.toArray⟩, .int .i64 oop, .bool osw, .bool ode] 88) = x := ⟨_, rfl⟩
  obtain ⟨w2, hw2⟩ : ∃ x, w1.alloc (.cells #[.int .i64 T.op, .int .i64 T.num, .slice a0 T.ks.length c0] 37) = x := ⟨_, rfl⟩
  obtain ⟨w3, hw3⟩ : ∃ x, w2.alloc (.cells #[.int .i64 U.op, .int .i64 U.num, .slice b0 U.ks.length e0] 37) = x := ⟨_, rfl⟩
  have s1 : w1.heap.size = w.heap.size + 1 := by rw [← hw1]; simp
  have s2 : w2.heap.size = w.heap.size + 1 + 1 := by rw [← hw2]; simp [s1]
  have G3 : Hid (Ix.Gr w sv w3 sv) := by rw [← hw3, ← hw2, ← hw1]; exact (Ix.Gr.alloc _ _ _).trans ((Ix.Gr.alloc _ _ _).trans (Ix.Gr.alloc _ _ _))
  have R3 : Hid (Ix.R B w3 sv out) := by rw [← hw3, ← hw2, ← hw1]; exact ((hR.alloc _).alloc _).alloc _
  have HO3 : Hid (w3.heap[w.heap.size]? = some (.cells #[.int .i64 orow, .string ⟨otx.toArray⟩, .int .i64 oop, .bool osw, .bool ode] 88 (0, 0))) := by rw [← hw3, Below.heap_alloc _ _ _ (by omega), ← hw2, Below.heap_alloc _ _ _ (by omega), ← hw1]; exact heap_alloc_new w _
  have HT3 : Hid (w3.heap[w.heap.size + 1]? = some (.cells #[.int .i64 T.op, .int .i64 T.num, .slice a0 T.ks.length c0] 37 (0, 0))) := by rw [← hw3, Below.heap_alloc _ _ _ (by omega), ← hw2, ← s1]; exact heap_alloc_new w1 _
  have HU3 : Hid (w3.heap[w.heap.size + 1 + 1]? = some (.cells #[.int .i64 U.op, .int .i64 U.num, .slice b0 U.ks.length e0] 37 (0, 0))) := by rw [← hw3, ← s2]; exact heap_alloc_new w2 _
  have HB3 : Hid (B ≤ w3.heap.size) := Nat.le_trans hB G3.out.size
  obtain ⟨A, hA⟩ : ∃ z, out ++ Ix.kidOf (Ix.txt n) m1 T = z := ⟨_, rfl⟩
  have HA : Hid (out ++ Ix.kidOf (Ix.txt n) m1 T = A) := hA
  rw [hm1, hA] at hl2
  obtain ⟨A2, hA2⟩ : ∃ z, A ++ [32] ++ otx ++ [32] = z := ⟨_, rfl⟩
  have HA2 : Hid (A ++ [32] ++ otx ++ [32] = A2) := hA2
  have hAl : A2.length ≤ A.length + 5 := by rw [← hA2]; simp; omega
  -- what is left behind the beginning
  have HREST : Hid (∀ (X : World) (v1 : Value), Ix.Gr w3 sv X v1 → (Tm.Lies X B d (.slice a0 T.ks.length c0) T ∧ Tm.Lies X B dU (.slice b0 U.ks.length e0) U ∧ Ix.WEnv B X ∧ B ≤ X.heap.size) ∧ X.heap[w.heap.size]? = some (.cells #[.int .i64 orow, .string ⟨otx.toArray⟩, .int .i64 oop, .bool osw, .bool ode] 88 (0, 0)) ∧ X.heap[w.heap.size + 1]? = some (.cells #[.int .i64 T.op, .int .i64 T.num, .slice a0 T.ks.length c0] 37 (0, 0)) ∧ X.heap[w.heap.size + 1 + 1]? = some (.cells #[.int .i64 U.op, .int .i64 U.num, .slice b0 U.ks.length e0] 37 (0, 0))) := fun X v1 hg => by
    have hb : Below B w X := (G3.out.trans hg).low hR hB
    exact ⟨⟨hT.below hb, hU.below hb, hE.below hb, Nat.le_trans HB3.out hg.size⟩, hg.heap HO3.out (R3.out.ne_of HO3.out (by decide)), hg.heap HT3.out (R3.out.ne_of HT3.out (by decide)), hg.heap HU3.out (R3.out.ne_of HU3.out (by decide))⟩
  have HW : Hid (w.alloc (.cells #[.int .i64 orow, .string ⟨otx.toArray⟩, .int .i64 oop, .bool osw, .bool ode] 88) = w1 ∧ w1.alloc (.cells #[.int .i64 T.op, .int .i64 T.num, .slice a0 T.ks.length c0] 37) = w2 ∧ w2.alloc (.cells #[.int .i64 U.op, .int .i64 U.num, .slice b0 U.ks.length e0] 37) = w3) := ⟨hw1, hw2, hw3⟩
  have HC : Hid (Ix.WriteC n ∧ T.allForm = true ∧ T.depth ≤ n ∧ out.length + 40 * T.size ≤ 1000000000) := ⟨hC, hF, hd, hl⟩
  have HCU : Hid (U.allForm = true ∧ U.depth ≤ n ∧ A2.length + 40 * U.size ≤ 1000000000 ∧ A.length + 5 ≤ 1000000000 ∧ otx.length ≤ 3) := ⟨hFU, hdU, by omega, by omega, hot⟩
  have HLR : Hid (Ix.leastR orow 0 = m1 ∧ Ix.leastR orow 1 = m2) := ⟨hm1, hm2⟩
  rw [hm1, hm2]
  obtain ⟨tp, htp⟩ : ∃ z, T.op = z := ⟨_, rfl⟩
  obtain ⟨tn, htn⟩ : ∃ z, T.num = z := ⟨_, rfl⟩
  obtain ⟨n0, hn0⟩ : ∃ z, T.ks.length = z := ⟨_, rfl⟩
  obtain ⟨up, hup⟩ : ∃ z, U.op = z := ⟨_, rfl⟩
  obtain ⟨un, hun⟩ : ∃ z, U.num = z := ⟨_, rfl⟩
  obtain ⟨n1, hn1⟩ : ∃ z, U.ks.length = z := ⟨_, rfl⟩
  have HTT : Hid ((T.op = tp ∧ T.num = tn) ∧ U.op = up ∧ U.num = un) := ⟨⟨htp, htn⟩, hup, hun⟩
  rw [htp, htn, hn0, hup, hun, hn1] at HREST HW ⊢
  rw [htp, htn, hn0] at HT3
  rw [hup, hun, hn1] at HU3
  have hr7 : 1 ≤ orow ∧ orow ≤ 7 := by omega
  clear hT hF hd hE hR hl hot hw1 hw2 hw3 s1 s2 hA hAl htp htn hn0 hC hB hU hFU hdU hup hun hn1 hm1 hm2 hl2 hA2
  have HEND : Hid (∀ (X : World) (v1 : Value), Ix.Gr w3 sv X v1 → Ix.R B X v1 out → ∀ (W : World), W.heap = X.heap → W.os = X.os → W.tape = X.tape → W.output = X.output → Calls Tryd.prog 30 #[v1, .agg #[.int .i64 tp, .int .i64 tn, .slice a0 n0 c0], .int .i64 (m1 : Nat)] W fun e w' => ∃ v', e = .returned v' ∧ Hid (Ix.R B w' v' (out ++ Ix.kidOf (Ix.txt n) m1 T) ∧ Ix.Gr X v1 w' v')) := fun X v1 hg hrr => by
    obtain ⟨⟨q1, q4, q2, q3⟩, -, -⟩ := HREST.out X v1 hg
    have := HC.out.1.at_ q1 HC.out.2.1 HC.out.2.2.1 q3 q2 hrr HC.out.2.2.2 hm.1 hm.2.1
    rw [HTT.out.1.1, HTT.out.1.2] at this
    exact this
  have HEND2 : Hid (∀ (X : World) (v1 : Value), Ix.Gr w3 sv X v1 → Ix.R B X v1 A2 → ∀ (W : World), W.heap = X.heap → W.os = X.os → W.tape = X.tape → W.output = X.output → Calls Tryd.prog 30 #[v1, .agg #[.int .i64 up, .int .i64 un, .slice b0 n1 e0], .int .i64 (m2 : Nat)] W fun e w' => ∃ v', e = .returned v' ∧ Hid (Ix.R B w' v' (A2 ++ Ix.kidOf (Ix.txt n) m2 U) ∧ Ix.Gr X v1 w' v')) := fun X v1 hg hrr => by
    obtain ⟨⟨q1, q4, q2, q3⟩, -, -⟩ := HREST.out X v1 hg
    have := HC.out.1.at_ q4 HCU.out.1 HCU.out.2.1 q3 q2 hrr HCU.out.2.2.1 hm.2.2.1 hm.2.2.2
    rw [HTT.out.2.1, HTT.out.2.2] at this
    exact this
  have HLE : Hid (∀ (X : World) (v1 : Value), Ix.Gr w3 sv X v1 → (∀ (W : World), W.heap = X.heap → Calls Tryd.prog 62 #[.int .i64 orow, .int .i64 0] W fun e w' => e = .returned (.int .i64 (m1 : Nat)) ∧ w' = W) ∧ (∀ (W : World), W.heap = X.heap → Calls Tryd.prog 62 #[.int .i64 orow, .int .i64 1] W fun e w' => e = .returned (.int .i64 (m2 : Nat)) ∧ w' = W)) := fun X v1 hg => by
    have h1 := Ix.least_at (p := 0) (HREST.out X v1 hg).1.2.2.1.tabs hr7.1 hr7.2 (by omega)
    have h2 := Ix.least_at (p := 1) (HREST.out X v1 hg).1.2.2.1.tabs hr7.1 hr7.2 (by omega)
    rw [HLR.out.1] at h1
    rw [HLR.out.2] at h2
    exact ⟨h1, h2⟩
  obtain ⟨⟨z0, z1, z2, z3, z4⟩, -⟩ := Ix.row5 HO3.out
  obtain ⟨⟨x0, x1, x2⟩, -⟩ := Tk.row3 HT3.out
  have HL1 : Hid _ := (HLE.out w3 sv (Ix.Gr.refl _ _)).1
  have HW1 : Hid _ := HEND.out w3 sv (Ix.Gr.refl _ _) R3.out
  go_enter Tryd.func52, Tryd.ntmps52
  go_upto_region 1 with fail
  rw [HW.out.1, HW.out.2.1, HW.out.2.2]
  go_cut [0] from 9 to 14 (fun s wx => Hid (Ix.R B wx s A ∧ Ix.Gr w3 sv wx s))
  case first =>
    go_region_law (first
        | (go_simp; go_at_call 62; refine Calls.mono (HL1.out _ rfl) ?_; rintro e W3 ⟨rfl, rfl⟩)
        | (go_simp; go_at_call 30; refine Calls.mono (HW1.out _ rfl rfl rfl rfl) ?_; rintro e W4 ⟨v4, rfl, H4⟩)
        | fail)
    all_goals
      go_wp2_with fail
      go_meet
      have := H4.out.1
      rw [HA.out] at this
      exact ⟨this, H4.out.2⟩
  case rest =>
  rename World => W4
  obtain ⟨v4, rfl⟩ : ∃ z, z = u0 := ⟨_, rfl⟩
  have H4 : Hid _ := hcut
  clear hcut
  have R4 : Hid (Ix.R B W4 v4 A) := H4.out.1
  have G4 : Hid (Ix.Gr w3 sv W4 v4) := H4.out.2
  obtain ⟨-, o4, -, -⟩ := HREST.out W4 v4 G4.out
  obtain ⟨⟨y0, y1, y2, y3, y4⟩, -⟩ := Ix.row5 o4
  clear o4 z0 z1 z2 z3 z4 x0 x1 x2 HL1 HW1
  obtain ⟨Wa, hWa, Ra', Ga', Na'⟩ := Ix.drew1 R4.out
  have HWa : Hid ((W4.alloc (.cells #[.int .u8 32] 5)).drew = Wa) := hWa
  have Ra : Hid (Ix.R B Wa v4 A) := Ra'
  have Ga : Hid (Ix.Gr w3 sv Wa v4) := G4.out.trans Ga'
  have Na : Hid (Wa.heap[W4.heap.size]? = some (Ix.byte 32)) := Na'
  have HBa : Hid (B ≤ Wa.heap.size) := Nat.le_trans HB3.out Ga.out.size
  obtain ⟨We, hWe, Re', Ge', Ne'⟩ := Ix.drew2 R4.out
  have HWe : Hid (((W4.alloc (.cells #[.int .u8 32] 5)).alloc (.cells #[.int .u8 32] 5)).drew = We) := hWe
  have Re : Hid (Ix.R B We v4 A) := Re'
  have Ge : Hid (Ix.Gr w3 sv We v4) := G4.out.trans Ge'
  have Ne : Hid ((We.heap[W4.heap.size]? = some (Ix.byte 32) ∧ v4.ownBlock ≠ some W4.heap.size) ∧ We.heap[W4.heap.size + 1]? = some (Ix.byte 32) ∧ v4.ownBlock ≠ some (W4.heap.size + 1)) := Ne'
  have HBe : Hid (B ≤ We.heap.size) := Nat.le_trans HB3.out Ge.out.size
  clear hWa Ra' Ga' Na' hWe Re' Ge' Ne'
  have y1b : (W4.alloc (.cells #[.int .u8 32] 5)).cell? ⟨w.heap.size, 1, none⟩ = some (.string ⟨otx.toArray⟩) := (Ix.row5 (HREST.out _ v4 (G4.out.trans (Ix.Gr.alloc _ _ _))).2.1).1.2.1
  have y1c : ((W4.alloc (.cells #[.int .u8 32] 5)).alloc (.cells #[.int .u8 32] 5)).cell? ⟨w.heap.size, 1, none⟩ = some (.string ⟨otx.toArray⟩) := (Ix.row5 (HREST.out _ v4 (G4.out.trans ((Ix.Gr.alloc _ _ _).trans (Ix.Gr.alloc _ _ _)))).2.1).1.2.1
  go_upto_region 2 with fail
  go_cut [0] from 15 to 22 (fun s wx => Hid (Ix.R B wx s A2 ∧ Ix.Gr w3 sv wx s))
  case first =>
    go_region_law (first
      | (rw [HWa.out]; refine Ix.step_byte rfl (.tmp 15) (.tmp 16) rfl (l := A) (by simp [Act.eval]) Ra.out W4.heap.size 1 32 ?hx Na.out (by have := HCU.out.2.2.2.1; omega) HBa.out ?_; (case hx => simp [Act.eval]; done); intro v5 W5 R5' G5'; have R5 : Hid (Ix.R B W5 v5 (A ++ [32])) := R5'; have G5 : Hid (Ix.Gr w3 sv W5 v5) := Ga.out.trans G5'; clear R5' G5'; obtain ⟨-, o5, -, -⟩ := HREST.out W5 v5 G5.out; obtain ⟨⟨y0, y1, y2, y3, y4⟩, -⟩ := Ix.row5 o5; clear o5; have y1a : (W5.alloc (.cells #[.int .u8 32] 5)).cell? ⟨w.heap.size, 1, none⟩ = some (.string ⟨otx.toArray⟩) := (Ix.row5 (HREST.out _ v5 (G5.out.trans (Ix.Gr.alloc _ _ _))).2.1).1.2.1)
      | (rw [HWe.out]; refine Ix.step_byte rfl (.tmp 15) (.tmp 16) rfl (l := A) (by simp [Act.eval]) Re.out W4.heap.size 1 32 ?hx Ne.out.1.1 (by have := HCU.out.2.2.2.1; omega) HBe.out ?_; (case hx => simp [Act.eval]; done); intro v5 W5 R5' G5'; have R5 : Hid (Ix.R B W5 v5 (A ++ [32])) := R5'; have G5 : Hid (Ix.Gr w3 sv W5 v5) := Ge.out.trans G5'; have N5 : Hid _ := Ix.Gr.byte G5' Ne.out.2.1 Ne.out.2.2; clear R5' G5'; obtain ⟨-, o5, -, -⟩ := HREST.out W5 v5 G5.out; obtain ⟨⟨y0, y1, y2, y3, y4⟩, -⟩ := Ix.row5 o5; clear o5; have y1a : (W5.alloc (.cells #[.int .u8 32] 5)).cell? ⟨w.heap.size, 1, none⟩ = some (.string ⟨otx.toArray⟩) := (Ix.row5 (HREST.out _ v5 (G5.out.trans (Ix.Gr.alloc _ _ _))).2.1).1.2.1)
      | (rw [HWe.out]; refine Ix.step_byte rfl (.tmp 15) (.tmp 16) rfl (l := A) (by simp [Act.eval]) Re.out (W4.heap.size + 1) 1 32 ?hx Ne.out.2.1 (by have := HCU.out.2.2.2.1; omega) HBe.out ?_; (case hx => simp [Act.eval]; done); intro v5 W5 R5' G5'; have R5 : Hid (Ix.R B W5 v5 (A ++ [32])) := R5'; have G5 : Hid (Ix.Gr w3 sv W5 v5) := Ge.out.trans G5'; have N5 : Hid _ := Ix.Gr.byte G5' Ne.out.1.1 Ne.out.1.2; clear R5' G5'; obtain ⟨-, o5, -, -⟩ := HREST.out W5 v5 G5.out; obtain ⟨⟨y0, y1, y2, y3, y4⟩, -⟩ := Ix.row5 o5; clear o5; have y1a : (W5.alloc (.cells #[.int .u8 32] 5)).cell? ⟨w.heap.size, 1, none⟩ = some (.string ⟨otx.toArray⟩) := (Ix.row5 (HREST.out _ v5 (G5.out.trans (Ix.Gr.alloc _ _ _))).2.1).1.2.1)
      | (refine Ix.step_text rfl (.tmp 17) (.tmp 19) rfl (l := A ++ [32]) (by simp [Act.eval]) R5.out otx (by simp [Act.eval]) (by have := HCU.out.2.2.2; simp; omega) (Nat.le_trans HB3.out G5.out.size) ?_; intro v6 W6 R6' G6'; have R6 : Hid (Ix.R B W6 v6 (A ++ [32] ++ otx)) := R6'; have G6 : Hid (Ix.Gr w3 sv W6 v6) := G5.out.trans G6'; (try have N6 : Hid _ := Ix.Gr.byte G6' N5.out.1 N5.out.2); clear R6' G6')
      | (refine Ix.step_text rfl (.tmp 17) (.tmp 19) rfl (l := A ++ [32]) (by simp [Act.eval]) (R5.out.alloc _) otx (by simp [Act.eval]) (by have := HCU.out.2.2.2; simp; omega) (Nat.le_trans (Nat.le_trans HB3.out G5.out.size) (by simp)) ?_; intro v6 W6 R6' G6'; have R6 : Hid (Ix.R B W6 v6 (A ++ [32] ++ otx)) := R6'; have G6 : Hid (Ix.Gr w3 sv W6 v6) := G5.out.trans ((Ix.Gr.alloc _ _ _).trans G6'); have N6 : Hid _ := Ix.Gr.byte G6' (Ix.one_new 32 rfl) (R5.out.ne (Nat.le_refl _)); clear R6' G6')
      | (refine Ix.step_byte rfl (.tmp 20) (.tmp 21) rfl (l := A ++ [32] ++ otx) (by simp [Act.eval]) R6.out _ 1 32 ?hx N6.out.1 (by have := HCU.out.2.2.2; simp; omega) (Nat.le_trans HB3.out G6.out.size) ?_; (case hx => simp [Act.eval]; done); intro v7 W7 R7' G7'; have R7 : Hid (Ix.R B W7 v7 (A ++ [32] ++ otx ++ [32])) := R7'; have G7 : Hid (Ix.Gr w3 sv W7 v7) := G6.out.trans G7'; clear R7' G7')
      | (refine Ix.step_byte rfl (.tmp 20) (.tmp 21) rfl (l := A ++ [32] ++ otx) (by simp [Act.eval]) (R6.out.alloc _) W6.heap.size 1 32 ?hx (Ix.one_new 32 rfl) (by have := HCU.out.2.2.2; simp; omega) (Nat.le_trans (Nat.le_trans HB3.out G6.out.size) (by simp)) ?_; (case hx => simp [Act.eval]; done); intro v7 W7 R7' G7'; have R7 : Hid (Ix.R B W7 v7 (A ++ [32] ++ otx ++ [32])) := R7'; have G7 : Hid (Ix.Gr w3 sv W7 v7) := G6.out.trans ((Ix.Gr.alloc _ _ _).trans G7'); clear R7' G7')
      | fail)
    all_goals
      go_wp2_with fail
      go_meet
      have := R7.out
      rw [HA2.out] at this
      exact ⟨this, G7.out⟩
  case rest =>
  rename World => W7
  obtain ⟨v7, rfl⟩ : ∃ z, z = u0 := ⟨_, rfl⟩
  have H7 : Hid _ := hcut
  clear hcut
  obtain ⟨-, o7, -, u7⟩ := HREST.out W7 v7 H7.out.2
  obtain ⟨⟨c0', c1', c2', c3', c4'⟩, -⟩ := Ix.row5 o7
  obtain ⟨⟨x0, x1, x2⟩, -⟩ := Tk.row3 u7
  have HL7 : Hid _ := (HLE.out W7 v7 H7.out.2).2
  have HW7 : Hid _ := HEND2.out W7 v7 H7.out.2 H7.out.1
  clear o7 u7
  go_upto_region 3 with fail
  go_region_law (first
      | (go_simp; go_at_call 62; refine Calls.mono (HL7.out _ rfl) ?_; rintro e W8 ⟨rfl, rfl⟩)
      | (go_simp; go_at_call 30; refine Calls.mono (HW7.out _ rfl rfl rfl rfl) ?_; rintro e W9 ⟨v9, rfl, H9⟩)
      | fail)
  all_goals
    go_wp2
    go_ret
    refine ⟨v9, rfl, ?_, G3.out.trans (H7.out.2.trans H9.out.2)⟩
    have := H9.out.1
    rw [← HA2.out, ← HA.out] at this
    simpa using this

end Go.Proofs
