import Derived.Test.YtndfbgfpnjnmlaaGreatDoorRGmDo
import Derived.Test.YtndfbgfpnjnmlaaGreatDoorRGmEquiv
namespace Go.Proofs
open Go.RowKit Go.Shelf
namespace Gm
theorem load_want {ops : Array Oper} {rest : List Oper} {o : Oper} {a : Act} {w : World} {Q : Exit → Act → World → Prop} (hw : Region.wanted o (yielded ops a.tmps) = true) (ty : TypeId) (x : Operand) (ho : o.op = .load ty x)
  (b p : Nat) (hx : a.eval x = .pointer (some ⟨b, p, none⟩)) (cs : List Value) (d : TypeDesc) (hr : w.rangeAt b p cs) (hu : Tryz.prog.underlying ty = some d) (hd : d.isRow = true) (hi : (Tryz.prog.info? ty).map (·.size) = some cs.length)
  (h : wpList Tryz.prog ops Q rest (a.put o.dst (.agg cs.toArray)) w) : wpList Tryz.prog ops Q (o :: rest) a w :=
 wpList_step fun K hK => by
  simp only [hw, if_true]
  unfold Oper.wp execOp
  simp only [ho, hx, Instr.loadAt, Instr.sureAddr, Sem.run_bind, Sem.run_pure, Result.andThen_ok, run_loadVar_mid w b p ty cs d hr hu hd hi]
  exact hK _ _ h
def l0 : List Int := zeros.set 0 1
def l1 : List Int := (zeros.set 1 1).set 40 1
def l2 : List Int := (zeros.set 40 1).set 48 1
theorem line_sum : sumW (l0.take 40) = 1 := by kernel_rfl
theorem line_start : startS Nt.lineN Nt.lineF = l0 ∧ startE Nt.lineN Nt.lineF = 0 := by
 unfold startS startE
 rw [Nt.line_check]
 exact ⟨by rw [if_neg (by simp)]; kernel_rfl, by rw [if_neg (by simp)]⟩
theorem line_check0 : checkE Nt.lineN Nt.lineF l0 = 0 := by
 unfold checkE
 rw [Nt.line_check, if_neg (by simp), if_pos (by kernel_rfl)]
theorem line_check1 : checkE Nt.lineN Nt.lineF l1 = 0 := by
 unfold checkE
 rw [Nt.line_check, if_neg (by simp), if_pos (by kernel_rfl)]
theorem line_all0 : (allS Nt.lineN Nt.lineF l0).map (·.1) = [⟨1, 0, 1, 1, 0⟩, ⟨1, 1, 1, 1, 1⟩] := by
 unfold allS
 rw [line_check0, if_neg (by simp)]
 kernel_rfl
theorem line_do0 : doR (checkE Nt.lineN Nt.lineF l0) (allS Nt.lineN Nt.lineF l0) 1 = (l1, (1, 1, 1), 0) := by
 unfold allS
 rw [line_check0, if_neg (by simp)]
 kernel_rfl
theorem line_do1 : doR (checkE Nt.lineN Nt.lineF l1) (allS Nt.lineN Nt.lineF l1) 0 = (l2, (7, 0, 0), 0) := by
 unfold allS
 rw [line_check1, if_neg (by simp)]
 kernel_rfl
end Gm
set_option maxRecDepth 20000 in
set_option maxHeartbeats 16000000 in
theorem Tryz.line07_any (w : World) (hO : Tk.Ops w) : Calls Tryz.prog 7 #[] w fun e w' => e = .returned (.bool true) ∧ Below w.heap.size w w' := by
 obtain ⟨w1, hw1⟩ : ∃ x, ((w.alloc (.cells #[.int .i64 1, .int .i64 0, .int .i64 0, .int .i64 0, .slice none 0 0, .int .i64 3, .int .i64 0, .int .i64 0, .int .i64 0, .slice none 0 0, .int .i64 2, .int .i64 0, .int .i64 0, .int .i64 0, .slice none 0 0] 70)).alloc (.cells #[.int .i64 0, .int .i64 1, .bool false, .int .i64 0, .int .i64 0, .slice none 0 0, .int .i64 1, .int .i64 2, .bool false, .int .i64 0, .int .i64 0, .slice none 0 0] 73)).alloc (.cells #[.slice (some ⟨w.heap.size, 0, none⟩) 3 3, .slice (some ⟨w.heap.size + 1, 0, none⟩) 2 2] 25) = x := ⟨_, rfl⟩
 have A1 : Below w.heap.size w w1 := by rw [← hw1]; exact (((Below.refl _ w).alloc (Nat.le_refl _) _).alloc (by simp) _).alloc (by simp; omega) _
 have G0 : w1.heap[w.heap.size]? = some (.cells #[.int .i64 1, .int .i64 0, .int .i64 0, .int .i64 0, .slice none 0 0, .int .i64 3, .int .i64 0, .int .i64 0, .int .i64 0, .slice none 0 0, .int .i64 2, .int .i64 0, .int .i64 0, .int .i64 0, .slice none 0 0] 70 (0, 0)) := by
  rw [← hw1, Below.heap_alloc _ _ _ (by simp; omega), Below.heap_alloc _ _ _ (by simp)]; exact heap_alloc_new w _
 have G1 : w1.heap[w.heap.size + 1]? = some (.cells #[.int .i64 0, .int .i64 1, .bool false, .int .i64 0, .int .i64 0, .slice none 0 0, .int .i64 1, .int .i64 2, .bool false, .int .i64 0, .int .i64 0, .slice none 0 0] 73 (0, 0)) := by
  rw [← hw1, Below.heap_alloc _ _ _ (by simp)]
  have := heap_alloc_new (w.alloc (.cells #[.int .i64 1, .int .i64 0, .int .i64 0, .int .i64 0, .slice none 0 0, .int .i64 3, .int .i64 0, .int .i64 0, .int .i64 0, .slice none 0 0, .int .i64 2, .int .i64 0, .int .i64 0, .int .i64 0, .slice none 0 0] 70)) (.cells #[.int .i64 0, .int .i64 1, .bool false, .int .i64 0, .int .i64 0, .slice none 0 0, .int .i64 1, .int .i64 2, .bool false, .int .i64 0, .int .i64 0, .slice none 0 0] 73)
  simpa using this
 have G2 : w1.heap[w.heap.size + 1 + 1]? = some (.cells #[.slice (some ⟨w.heap.size, 0, none⟩) 3 3, .slice (some ⟨w.heap.size + 1, 0, none⟩) 2 2] 25 (0, 0)) := by
  rw [← hw1]
  have := heap_alloc_new ((w.alloc (.cells #[.int .i64 1, .int .i64 0, .int .i64 0, .int .i64 0, .slice none 0 0, .int .i64 3, .int .i64 0, .int .i64 0, .int .i64 0, .slice none 0 0, .int .i64 2, .int .i64 0, .int .i64 0, .int .i64 0, .slice none 0 0] 70)).alloc (.cells #[.int .i64 0, .int .i64 1, .bool false, .int .i64 0, .int .i64 0, .slice none 0 0, .int .i64 1, .int .i64 2, .bool false, .int .i64 0, .int .i64 0, .slice none 0 0] 73)) (.cells #[.slice (some ⟨w.heap.size, 0, none⟩) 3 3, .slice (some ⟨w.heap.size + 1, 0, none⟩) 2 2] 25)
  simpa using this
 have HX : ∀ W, Below w1.heap.size w1 W → Tk.Ops W ∧ Nt.Has W W.heap.size 1 (some ⟨w.heap.size, 0, none⟩) (some ⟨w.heap.size + 1, 0, none⟩) Nt.lineN Nt.lineF := fun W hb =>
  ⟨(hO.below A1 hO.lt).below hb (Nat.lt_of_lt_of_le hO.lt A1.size), by have := Nt.line_has (k := 2) (by rw [hb.block _ (Gm.blk_lt G0)]; exact G0) (by rw [hb.block _ (Gm.blk_lt G1)]; exact G1); exact this⟩
 have CS : Hid (∀ W, Below w1.heap.size w1 W → Calls Tryz.prog 18 #[.agg #[.slice (some ⟨w.heap.size, 0, none⟩) 3 3, .slice (some ⟨w.heap.size + 1, 0, none⟩) 2 2]] W fun e w' => e = .returned (.tuple #[.agg (Gm.ints Gm.l0).toArray, .int .i64 0]) ∧ Hid (Below W.heap.size W w')) := fun W hb => by
  have h := Tryz.tStart_any (some ⟨w.heap.size, 0, none⟩) 3 3 (some ⟨w.heap.size + 1, 0, none⟩) 2 2 W 1 Nt.lineN Nt.lineF (HX W hb).2 rfl rfl (HX W hb).1
  rw [Gm.line_start.1, Gm.line_start.2] at h
  exact h
 have CM : Hid (∀ W, Below w1.heap.size w1 W → Calls Tryz.prog 12 #[.agg #[.slice (some ⟨w.heap.size, 0, none⟩) 3 3, .slice (some ⟨w.heap.size + 1, 0, none⟩) 2 2], .agg (Gm.ints Gm.l0).toArray] W fun e w' => ∃ a c, e = .returned (.slice a 2 c) ∧ Hid (Below W.heap.size W w')) := fun W hb => by
  have h := Tryz.tMoves_any (some ⟨w.heap.size, 0, none⟩) 3 3 (some ⟨w.heap.size + 1, 0, none⟩) 2 2 Gm.l0 W 1 Nt.lineN Nt.lineF (HX W hb).2 rfl rfl rfl (HX W hb).1
  rw [Gm.line_all0] at h
  refine h.mono fun e w' ⟨v, hv, hh⟩ => ?_
  obtain ⟨a, c, rfl⟩ := Rk.own_shape hh.out.1
  exact ⟨a, c, hv, hh.out.2⟩
 have CD : Hid (∀ W, Below w1.heap.size w1 W → Calls Tryz.prog 16 #[.agg #[.slice (some ⟨w.heap.size, 0, none⟩) 3 3, .slice (some ⟨w.heap.size + 1, 0, none⟩) 2 2], .agg (Gm.ints Gm.l0).toArray, .int .i64 1] W fun e w' => e = .returned (.tuple #[.agg (Gm.ints Gm.l1).toArray, .agg #[.int .i64 1, .int .i64 1, .int .i64 1], .int .i64 0]) ∧ Hid (Below W.heap.size W w')) := fun W hb => by
  have h := Tryz.tDo_any (some ⟨w.heap.size, 0, none⟩) 3 3 (some ⟨w.heap.size + 1, 0, none⟩) 2 2 Gm.l0 1 W 1 Nt.lineN Nt.lineF (HX W hb).2 rfl rfl rfl (HX W hb).1
  rw [Gm.line_do0] at h
  exact h
 have CE : Hid (∀ W, Below w1.heap.size w1 W → Calls Tryz.prog 16 #[.agg #[.slice (some ⟨w.heap.size, 0, none⟩) 3 3, .slice (some ⟨w.heap.size + 1, 0, none⟩) 2 2], .agg (Gm.ints Gm.l1).toArray, .int .i64 0] W fun e w' => e = .returned (.tuple #[.agg (Gm.ints Gm.l2).toArray, .agg #[.int .i64 7, .int .i64 0, .int .i64 0], .int .i64 0]) ∧ Hid (Below W.heap.size W w')) := fun W hb => by
  have h := Tryz.tDo_any (some ⟨w.heap.size, 0, none⟩) 3 3 (some ⟨w.heap.size + 1, 0, none⟩) 2 2 Gm.l1 0 W 1 Nt.lineN Nt.lineF (HX W hb).2 rfl rfl rfl (HX W hb).1
  rw [Gm.line_do1] at h
  exact h
 have CT : Hid (∀ W : World, Calls Tryz.prog 14 #[.agg (Gm.ints Gm.l0).toArray] W fun e w' => e = .returned (.int .i64 1) ∧ Hid (Below W.heap.size W w')) := fun W => by
  have h := Tryz.tokens_any (Gm.ints Gm.l0).toArray (Gm.l0.take 40) W (fun j hj => by
   have hj' : j < 40 := by simp at hj; omega
   rw [List.getElem_take, Gm.ints_get (by show j < 49; omega), List.getD_eq_getElem?_getD, List.getElem?_eq_getElem (show j < Gm.l0.length by show j < 49; omega)]; rfl) rfl
  rw [Gm.line_sum] at h
  exact h
 have HN : Hid (∀ W, Below w1.heap.size w1 W → W.cell? ⟨w.heap.size + 1 + 1, 0, none⟩ = some (.slice (some ⟨w.heap.size, 0, none⟩) 3 3) ∧ W.cell? ⟨w.heap.size + 1 + 1, 1, none⟩ = some (.slice (some ⟨w.heap.size + 1, 0, none⟩) 2 2) ∧ Below w.heap.size w W) := fun W hb => by
  have h : W.heap[w.heap.size + 1 + 1]? = some (.cells #[.slice (some ⟨w.heap.size, 0, none⟩) 3 3, .slice (some ⟨w.heap.size + 1, 0, none⟩) 2 2] 25 (0, 0)) := by rw [hb.block _ (Gm.blk_lt G2)]; exact G2
  exact ⟨by simp [World.cell?, h], by simp [World.cell?, h], A1.trans (hb.mono A1.size)⟩
 have hu := Tryz.underlying29
 have huL := Tryz.underlying46
 obtain ⟨L0, hL0⟩ : ∃ z, Gm.l0 = z := ⟨_, rfl⟩
 obtain ⟨L1, hL1⟩ : ∃ z, Gm.l1 = z := ⟨_, rfl⟩
 obtain ⟨L2, hL2⟩ : ∃ z, Gm.l2 = z := ⟨_, rfl⟩
 have HI : Hid (∀ t : List Int, t.length = 49 → (Tryz.prog.info? 29).map (·.size) = some (Gm.ints t).toArray.size ∧ (#[.int .i64 0, .int .i64 0, .int .i64 0, .int .i64 0, .int .i64 0, .int .i64 0, .int .i64 0, .int .i64 0, .int .i64 0, .int .i64 0, .int .i64 0, .int .i64 0, .int .i64 0, .int .i64 0, .int .i64 0, .int .i64 0, .int .i64 0, .int .i64 0, .int .i64 0, .int .i64 0, .int .i64 0, .int .i64 0, .int .i64 0, .int .i64 0, .int .i64 0, .int .i64 0, .int .i64 0, .int .i64 0, .int .i64 0, .int .i64 0, .int .i64 0, .int .i64 0, .int .i64 0, .int .i64 0, .int .i64 0, .int .i64 0, .int .i64 0, .int .i64 0, .int .i64 0, .int .i64 0, .int .i64 0, .int .i64 0, .int .i64 0, .int .i64 0, .int .i64 0, .int .i64 0, .int .i64 0, .int .i64 0, .int .i64 0] : Array Value).size = (Gm.ints t).toArray.size ∧ (Gm.ints t).toArray.all (·.oneCell') = true) := fun t ht => by
  have h : (Gm.ints t).toArray.size = 49 := by simpa [Gm.ints_length] using ht
  refine ⟨by rw [h]; kernel_rfl, by rw [h]; rfl, all_oneCell_toArray (Gm.ints_one t)⟩
 have HL2 : Hid (L2.length = 49 ∧ L2.getD 48 0 = 1) := by show _ ∧ _; rw [← hL2]; exact ⟨rfl, by kernel_rfl⟩
 obtain ⟨a1, a2, a3⟩ := HI.out L0 (by rw [← hL0]; rfl)
 obtain ⟨b1, b2, b3⟩ := HI.out L1 (by rw [← hL1]; rfl)
 obtain ⟨c1, c2, c3⟩ := HI.out L2 HL2.out.1
 rw [hL0] at CS CM CD CT
 rw [hL1] at CD CE
 rw [hL2] at CE
 have HW1 : Hid (((w.alloc (.cells #[.int .i64 1, .int .i64 0, .int .i64 0, .int .i64 0, .slice none 0 0, .int .i64 3, .int .i64 0, .int .i64 0, .int .i64 0, .slice none 0 0, .int .i64 2, .int .i64 0, .int .i64 0, .int .i64 0, .slice none 0 0] 70)).alloc (.cells #[.int .i64 0, .int .i64 1, .bool false, .int .i64 0, .int .i64 0, .slice none 0 0, .int .i64 1, .int .i64 2, .bool false, .int .i64 0, .int .i64 0, .slice none 0 0] 73)).alloc (.cells #[.slice (some ⟨w.heap.size, 0, none⟩) 3 3, .slice (some ⟨w.heap.size + 1, 0, none⟩) 2 2] 25) = w1) := hw1
 clear hw1 A1 G0 G1 G2 hO HX hL0 hL1 hL2 HI
 go_enter Tryz.func7, Tryz.ntmps7
 go_upto_region 2 with fail
 rw [HW1.out]
 clear HW1
 obtain ⟨p0, p1, -⟩ := HN.out w1 (Below.refl _ _)
 go_wp2_with fail
 refine Calls.mono (CS.out w1 (Below.refl _ _)) ?_
 rintro e W2 ⟨rfl, B2⟩
 obtain ⟨W3, hW3⟩ : ∃ z, (W2.alloc (.cells #[.int .i64 0, .int .i64 0, .int .i64 0, .int .i64 0, .int .i64 0, .int .i64 0, .int .i64 0, .int .i64 0, .int .i64 0, .int .i64 0, .int .i64 0, .int .i64 0, .int .i64 0, .int .i64 0, .int .i64 0, .int .i64 0, .int .i64 0, .int .i64 0, .int .i64 0, .int .i64 0, .int .i64 0, .int .i64 0, .int .i64 0, .int .i64 0, .int .i64 0, .int .i64 0, .int .i64 0, .int .i64 0, .int .i64 0, .int .i64 0, .int .i64 0, .int .i64 0, .int .i64 0, .int .i64 0, .int .i64 0, .int .i64 0, .int .i64 0, .int .i64 0, .int .i64 0, .int .i64 0, .int .i64 0, .int .i64 0, .int .i64 0, .int .i64 0, .int .i64 0, .int .i64 0, .int .i64 0, .int .i64 0, .int .i64 0] 29)).setRow W2.heap.size (Gm.ints L0).toArray = z := ⟨_, rfl⟩
 have N3a : (W2.alloc (.cells #[.int .i64 0, .int .i64 0, .int .i64 0, .int .i64 0, .int .i64 0, .int .i64 0, .int .i64 0, .int .i64 0, .int .i64 0, .int .i64 0, .int .i64 0, .int .i64 0, .int .i64 0, .int .i64 0, .int .i64 0, .int .i64 0, .int .i64 0, .int .i64 0, .int .i64 0, .int .i64 0, .int .i64 0, .int .i64 0, .int .i64 0, .int .i64 0, .int .i64 0, .int .i64 0, .int .i64 0, .int .i64 0, .int .i64 0, .int .i64 0, .int .i64 0, .int .i64 0, .int .i64 0, .int .i64 0, .int .i64 0, .int .i64 0, .int .i64 0, .int .i64 0, .int .i64 0, .int .i64 0, .int .i64 0, .int .i64 0, .int .i64 0, .int .i64 0, .int .i64 0, .int .i64 0, .int .i64 0, .int .i64 0, .int .i64 0] 29)).heap[W2.heap.size]? = some (.cells #[.int .i64 0, .int .i64 0, .int .i64 0, .int .i64 0, .int .i64 0, .int .i64 0, .int .i64 0, .int .i64 0, .int .i64 0, .int .i64 0, .int .i64 0, .int .i64 0, .int .i64 0, .int .i64 0, .int .i64 0, .int .i64 0, .int .i64 0, .int .i64 0, .int .i64 0, .int .i64 0, .int .i64 0, .int .i64 0, .int .i64 0, .int .i64 0, .int .i64 0, .int .i64 0, .int .i64 0, .int .i64 0, .int .i64 0, .int .i64 0, .int .i64 0, .int .i64 0, .int .i64 0, .int .i64 0, .int .i64 0, .int .i64 0, .int .i64 0, .int .i64 0, .int .i64 0, .int .i64 0, .int .i64 0, .int .i64 0, .int .i64 0, .int .i64 0, .int .i64 0, .int .i64 0, .int .i64 0, .int .i64 0, .int .i64 0] 29 (0, 0)) := heap_alloc_new W2 _
 have N3 : W3.heap[W2.heap.size]? = some (.cells (Gm.ints L0).toArray 29 (0, 0)) := by rw [← hW3]; exact setRow_heap _ _ _ _ _ _ N3a
 have B3 : Below W2.heap.size W2 W3 := by rw [← hW3]; exact Tk.below_row ((Below.refl _ W2).alloc (Nat.le_refl _) _) (Nat.le_refl _) _
 have HB3 : Hid (Below w1.heap.size w1 W3) := B2.out.trans (B3.mono B2.out.size)
 have HW3 : Hid _ := hW3
 clear hW3 B3 p0 p1
 go_upto_region 3 with (refine wpList_store_row rfl 29 _ _ rfl W2.heap.size (Gm.ints L0).toArray rfl rfl 29 _ N3a a1 a2 a3 ?_; rw [HW3.out])
 clear HW3 N3a a2 a3
 obtain ⟨p0, p1, -⟩ := HN.out W3 HB3.out
 go_wp2_with (first
  | refine wpList_load_row rfl 29 _ rfl _ rfl 29 (Gm.ints L0).toArray (0, 0) _ N3 hu rfl a1 ?_
  | fail)
 refine Calls.mono (CM.out W3 HB3.out) ?_
 rintro e W4 ⟨ma, mc, rfl, B4⟩
 have HB4 : Hid (Below w1.heap.size w1 W4) := HB3.out.trans (B4.out.mono HB3.out.size)
 have N4 : W4.heap[W2.heap.size]? = some (.cells (Gm.ints L0).toArray 29 (0, 0)) := by rw [B4.out.block _ (Gm.blk_lt N3)]; exact N3
 clear p0 p1 N3 B4 HB3
 obtain ⟨p0, p1, -⟩ := HN.out W4 HB4.out
 go_wp2_with (first
  | refine wpList_load_row rfl 29 _ rfl _ rfl 29 (Gm.ints L0).toArray (0, 0) _ N4 hu rfl a1 ?_
  | fail)
 refine Calls.mono (CD.out W4 HB4.out) ?_
 rintro e W5 ⟨rfl, B5⟩
 have HB5 : Hid (Below w1.heap.size w1 W5) := HB4.out.trans (B5.out.mono HB4.out.size)
 have N5 : W5.heap[W2.heap.size]? = some (.cells (Gm.ints L0).toArray 29 (0, 0)) := by rw [B5.out.block _ (Gm.blk_lt N4)]; exact N4
 clear p0 p1 N4 B5 HB4
 obtain ⟨V5, hV5⟩ : ∃ z, (W5.alloc (.cells #[.int .i64 0, .int .i64 0, .int .i64 0, .int .i64 0, .int .i64 0, .int .i64 0, .int .i64 0, .int .i64 0, .int .i64 0, .int .i64 0, .int .i64 0, .int .i64 0, .int .i64 0, .int .i64 0, .int .i64 0, .int .i64 0, .int .i64 0, .int .i64 0, .int .i64 0, .int .i64 0, .int .i64 0, .int .i64 0, .int .i64 0, .int .i64 0, .int .i64 0, .int .i64 0, .int .i64 0, .int .i64 0, .int .i64 0, .int .i64 0, .int .i64 0, .int .i64 0, .int .i64 0, .int .i64 0, .int .i64 0, .int .i64 0, .int .i64 0, .int .i64 0, .int .i64 0, .int .i64 0, .int .i64 0, .int .i64 0, .int .i64 0, .int .i64 0, .int .i64 0, .int .i64 0, .int .i64 0, .int .i64 0, .int .i64 0] 29)).alloc (.cells #[.int .i64 0, .int .i64 0, .int .i64 0] 46) = z := ⟨_, rfl⟩
 have M5 : V5.heap[W5.heap.size]? = some (.cells #[.int .i64 0, .int .i64 0, .int .i64 0, .int .i64 0, .int .i64 0, .int .i64 0, .int .i64 0, .int .i64 0, .int .i64 0, .int .i64 0, .int .i64 0, .int .i64 0, .int .i64 0, .int .i64 0, .int .i64 0, .int .i64 0, .int .i64 0, .int .i64 0, .int .i64 0, .int .i64 0, .int .i64 0, .int .i64 0, .int .i64 0, .int .i64 0, .int .i64 0, .int .i64 0, .int .i64 0, .int .i64 0, .int .i64 0, .int .i64 0, .int .i64 0, .int .i64 0, .int .i64 0, .int .i64 0, .int .i64 0, .int .i64 0, .int .i64 0, .int .i64 0, .int .i64 0, .int .i64 0, .int .i64 0, .int .i64 0, .int .i64 0, .int .i64 0, .int .i64 0, .int .i64 0, .int .i64 0, .int .i64 0, .int .i64 0] 29 (0, 0)) := by rw [← hV5, Below.heap_alloc _ _ _ (by simp)]; exact heap_alloc_new W5 _
 have M6 : V5.heap[W5.heap.size + 1]? = some (.cells #[.int .i64 0, .int .i64 0, .int .i64 0] 46 (0, 0)) := by
  rw [← hV5]
  have := heap_alloc_new (W5.alloc (.cells #[.int .i64 0, .int .i64 0, .int .i64 0, .int .i64 0, .int .i64 0, .int .i64 0, .int .i64 0, .int .i64 0, .int .i64 0, .int .i64 0, .int .i64 0, .int .i64 0, .int .i64 0, .int .i64 0, .int .i64 0, .int .i64 0, .int .i64 0, .int .i64 0, .int .i64 0, .int .i64 0, .int .i64 0, .int .i64 0, .int .i64 0, .int .i64 0, .int .i64 0, .int .i64 0, .int .i64 0, .int .i64 0, .int .i64 0, .int .i64 0, .int .i64 0, .int .i64 0, .int .i64 0, .int .i64 0, .int .i64 0, .int .i64 0, .int .i64 0, .int .i64 0, .int .i64 0, .int .i64 0, .int .i64 0, .int .i64 0, .int .i64 0, .int .i64 0, .int .i64 0, .int .i64 0, .int .i64 0, .int .i64 0, .int .i64 0] 29)) (.cells #[.int .i64 0, .int .i64 0, .int .i64 0] 46)
  simpa using this
 have BV5 : Below W5.heap.size W5 V5 := by rw [← hV5]; exact ((Below.refl _ W5).alloc (Nat.le_refl _) _).alloc (by simp) _
 obtain ⟨W6, hW6⟩ : ∃ z, (V5.setRow W5.heap.size (Gm.ints L1).toArray).setRow (W5.heap.size + 1) #[.int .i64 1, .int .i64 1, .int .i64 1] = z := ⟨_, rfl⟩
 have M6' : (V5.setRow W5.heap.size (Gm.ints L1).toArray).heap[W5.heap.size + 1]? = some (.cells #[.int .i64 0, .int .i64 0, .int .i64 0] 46 (0, 0)) := by rw [setRow_other _ _ _ _ (by omega)]; exact M6
 have K5 : W6.heap[W5.heap.size]? = some (.cells (Gm.ints L1).toArray 29 (0, 0)) := by rw [← hW6, setRow_other _ _ _ _ (by omega)]; exact setRow_heap _ _ _ _ _ _ M5
 have K6 : W6.heap[W5.heap.size + 1]? = some (.cells #[.int .i64 1, .int .i64 1, .int .i64 1] 46 (0, 0)) := by rw [← hW6]; exact setRow_heap _ _ _ _ _ _ M6'
 have B6 : Below W5.heap.size W5 W6 := by rw [← hW6]; exact Tk.below_row (Tk.below_row BV5 (Nat.le_refl _) _) (by omega) _
 have HB6 : Hid (Below w1.heap.size w1 W6) := HB5.out.trans (B6.mono HB5.out.size)
 have K2 : W6.heap[W2.heap.size]? = some (.cells (Gm.ints L0).toArray 29 (0, 0)) := by rw [B6.block _ (Gm.blk_lt N5)]; exact N5
 have HV5 : Hid _ := hV5
 have HW6 : Hid _ := hW6
 clear hV5 hW6 M6 BV5 B6 N5 HB5
 go_upto_region 5 with (first
  | (rw [HV5.out]; refine wpList_store_row rfl 29 _ _ rfl W5.heap.size (Gm.ints L1).toArray rfl rfl 29 _ M5 b1 b2 b3 ?_)
  | refine wpList_store_row rfl 29 _ _ rfl W5.heap.size (Gm.ints L1).toArray rfl rfl 29 _ M5 b1 b2 b3 ?_
  | (refine wpList_store_row rfl 46 _ _ rfl (W5.heap.size + 1) #[.int .i64 1, .int .i64 1, .int .i64 1] rfl rfl 46 _ M6' (by kernel_rfl) rfl (by kernel_rfl) ?_; rw [HW6.out]))
 clear HV5 HW6 M5 M6' b2 b3
 obtain ⟨p0, p1, -⟩ := HN.out W6 HB6.out
 go_wp2_with (first
  | refine wpList_load_row rfl 29 _ rfl _ rfl 29 (Gm.ints L1).toArray (0, 0) _ K5 hu rfl b1 ?_
  | fail)
 refine Calls.mono (CE.out W6 HB6.out) ?_
 rintro e W7 ⟨rfl, B7⟩
 have HB7 : Hid (Below w1.heap.size w1 W7) := HB6.out.trans (B7.out.mono HB6.out.size)
 have J2 : W7.heap[W2.heap.size]? = some (.cells (Gm.ints L0).toArray 29 (0, 0)) := by rw [B7.out.block _ (Gm.blk_lt K2)]; exact K2
 have J6 : W7.heap[W5.heap.size + 1]? = some (.cells #[.int .i64 1, .int .i64 1, .int .i64 1] 46 (0, 0)) := by rw [B7.out.block _ (Gm.blk_lt K6)]; exact K6
 clear p0 p1 K2 K5 K6 B7 HB6
 obtain ⟨V7, hV7⟩ : ∃ z, (W7.alloc (.cells #[.int .i64 0, .int .i64 0, .int .i64 0, .int .i64 0, .int .i64 0, .int .i64 0, .int .i64 0, .int .i64 0, .int .i64 0, .int .i64 0, .int .i64 0, .int .i64 0, .int .i64 0, .int .i64 0, .int .i64 0, .int .i64 0, .int .i64 0, .int .i64 0, .int .i64 0, .int .i64 0, .int .i64 0, .int .i64 0, .int .i64 0, .int .i64 0, .int .i64 0, .int .i64 0, .int .i64 0, .int .i64 0, .int .i64 0, .int .i64 0, .int .i64 0, .int .i64 0, .int .i64 0, .int .i64 0, .int .i64 0, .int .i64 0, .int .i64 0, .int .i64 0, .int .i64 0, .int .i64 0, .int .i64 0, .int .i64 0, .int .i64 0, .int .i64 0, .int .i64 0, .int .i64 0, .int .i64 0, .int .i64 0, .int .i64 0] 29)).alloc (.cells #[.int .i64 0, .int .i64 0, .int .i64 0] 46) = z := ⟨_, rfl⟩
 have M5 : V7.heap[W7.heap.size]? = some (.cells #[.int .i64 0, .int .i64 0, .int .i64 0, .int .i64 0, .int .i64 0, .int .i64 0, .int .i64 0, .int .i64 0, .int .i64 0, .int .i64 0, .int .i64 0, .int .i64 0, .int .i64 0, .int .i64 0, .int .i64 0, .int .i64 0, .int .i64 0, .int .i64 0, .int .i64 0, .int .i64 0, .int .i64 0, .int .i64 0, .int .i64 0, .int .i64 0, .int .i64 0, .int .i64 0, .int .i64 0, .int .i64 0, .int .i64 0, .int .i64 0, .int .i64 0, .int .i64 0, .int .i64 0, .int .i64 0, .int .i64 0, .int .i64 0, .int .i64 0, .int .i64 0, .int .i64 0, .int .i64 0, .int .i64 0, .int .i64 0, .int .i64 0, .int .i64 0, .int .i64 0, .int .i64 0, .int .i64 0, .int .i64 0, .int .i64 0] 29 (0, 0)) := by rw [← hV7, Below.heap_alloc _ _ _ (by simp)]; exact heap_alloc_new W7 _
 have M6 : V7.heap[W7.heap.size + 1]? = some (.cells #[.int .i64 0, .int .i64 0, .int .i64 0] 46 (0, 0)) := by
  rw [← hV7]
  have := heap_alloc_new (W7.alloc (.cells #[.int .i64 0, .int .i64 0, .int .i64 0, .int .i64 0, .int .i64 0, .int .i64 0, .int .i64 0, .int .i64 0, .int .i64 0, .int .i64 0, .int .i64 0, .int .i64 0, .int .i64 0, .int .i64 0, .int .i64 0, .int .i64 0, .int .i64 0, .int .i64 0, .int .i64 0, .int .i64 0, .int .i64 0, .int .i64 0, .int .i64 0, .int .i64 0, .int .i64 0, .int .i64 0, .int .i64 0, .int .i64 0, .int .i64 0, .int .i64 0, .int .i64 0, .int .i64 0, .int .i64 0, .int .i64 0, .int .i64 0, .int .i64 0, .int .i64 0, .int .i64 0, .int .i64 0, .int .i64 0, .int .i64 0, .int .i64 0, .int .i64 0, .int .i64 0, .int .i64 0, .int .i64 0, .int .i64 0, .int .i64 0, .int .i64 0] 29)) (.cells #[.int .i64 0, .int .i64 0, .int .i64 0] 46)
  simpa using this
 have BV7 : Below W7.heap.size W7 V7 := by rw [← hV7]; exact ((Below.refl _ W7).alloc (Nat.le_refl _) _).alloc (by simp) _
 obtain ⟨W8, hW8⟩ : ∃ z, (V7.setRow W7.heap.size (Gm.ints L2).toArray).setRow (W7.heap.size + 1) #[.int .i64 7, .int .i64 0, .int .i64 0] = z := ⟨_, rfl⟩
 have M6' : (V7.setRow W7.heap.size (Gm.ints L2).toArray).heap[W7.heap.size + 1]? = some (.cells #[.int .i64 0, .int .i64 0, .int .i64 0] 46 (0, 0)) := by rw [setRow_other _ _ _ _ (by omega)]; exact M6
 have K5 : W8.heap[W7.heap.size]? = some (.cells (Gm.ints L2).toArray 29 (0, 0)) := by rw [← hW8, setRow_other _ _ _ _ (by omega)]; exact setRow_heap _ _ _ _ _ _ M5
 have K6 : W8.heap[W7.heap.size + 1]? = some (.cells #[.int .i64 7, .int .i64 0, .int .i64 0] 46 (0, 0)) := by rw [← hW8]; exact setRow_heap _ _ _ _ _ _ M6'
 have B8 : Below W7.heap.size W7 W8 := by rw [← hW8]; exact Tk.below_row (Tk.below_row BV7 (Nat.le_refl _) _) (by omega) _
 have HB8 : Hid (Below w1.heap.size w1 W8) := HB7.out.trans (B8.mono HB7.out.size)
 have Q2 : W8.heap[W2.heap.size]? = some (.cells (Gm.ints L0).toArray 29 (0, 0)) := by rw [B8.block _ (Gm.blk_lt J2)]; exact J2
 have Q6 : W8.heap[W5.heap.size + 1]? = some (.cells #[.int .i64 1, .int .i64 1, .int .i64 1] 46 (0, 0)) := by rw [B8.block _ (Gm.blk_lt J6)]; exact J6
 have HV7 : Hid _ := hV7
 have HW8 : Hid _ := hW8
 clear hV7 hW8 M6 BV7 B8 J2 J6 HB7
 go_upto_region 6 with (first
  | (rw [HV7.out]; refine wpList_store_row rfl 29 _ _ rfl W7.heap.size (Gm.ints L2).toArray rfl rfl 29 _ M5 c1 c2 c3 ?_)
  | refine wpList_store_row rfl 29 _ _ rfl W7.heap.size (Gm.ints L2).toArray rfl rfl 29 _ M5 c1 c2 c3 ?_
  | (refine wpList_store_row rfl 46 _ _ rfl (W7.heap.size + 1) #[.int .i64 7, .int .i64 0, .int .i64 0] rfl rfl 46 _ M6' (by kernel_rfl) rfl (by kernel_rfl) ?_; rw [HW8.out]))
 clear HV7 HW8 M5 M6' c2 c3
 have d0 : W8.cell? ⟨W5.heap.size + 1, 0, none⟩ = some (.int .i64 1) := by simp [World.cell?, Q6]
 have d2 : W8.cell? ⟨W5.heap.size + 1, 2, none⟩ = some (.int .i64 1) := by simp [World.cell?, Q6]
 have d7 : W8.cell? ⟨W7.heap.size + 1, 0, none⟩ = some (.int .i64 7) := by simp [World.cell?, K6]
 have d48 : W8.cell? ⟨W7.heap.size, 48, none⟩ = some (.int .i64 1) := by
  simp only [World.cell?, K5]
  rw [Gm.ints_get (by rw [HL2.out.1]; omega), HL2.out.2]
  rfl
 have hrQ : W8.rangeAt W2.heap.size 0 (Gm.ints L0) := fun j v hv => by
  simp only [World.cell?, Q2, Nat.zero_add]
  simpa using hv
 have a1' : (Tryz.prog.info? 29).map (·.size) = some (Gm.ints L0).length := by simpa using a1
 clear K5 K6 Q6 Q2
 go_wp2_with (first
  | refine Gm.load_want (by rfl) 29 _ rfl W2.heap.size 0 rfl (Gm.ints L0) _ hrQ hu rfl a1' ?_
  | fail)
 refine Calls.mono (CT.out W8) ?_
 rintro e W9 ⟨rfl, B9⟩
 have HB9 : Hid (Below w.heap.size w W9) := (HN.out W8 HB8.out).2.2.trans (B9.out.mono (HN.out W8 HB8.out).2.2.size)
 clear B9 d0 d2 d7 d48 hrQ
 go_wp2
 go_ret
 exact ⟨rfl, HB9.out⟩
end Go.Proofs
namespace Go.Proofs
open Go.RowKit Go.Shelf
namespace Gm
theorem built_state (t : List Int) (h : t.length = 49) : Tryz.prog.built 32 [(0, .agg (ints (t.take 40)).toArray), (1, .agg (ints ((t.drop 40).take 4)).toArray), (2, .agg (ints ((t.drop 44).take 4)).toArray), (3, .int .i64 (t.getD 48 0))] = some (ints t).toArray := by
 exact match t, h with
 | x0 :: x1 :: x2 :: x3 :: x4 :: x5 :: x6 :: x7 :: x8 :: x9 :: x10 :: x11 :: x12 :: x13 :: x14 :: x15 :: x16 :: x17 :: x18 :: x19 :: x20 :: x21 :: x22 :: x23 :: x24 :: x25 :: x26 :: x27 :: x28 :: x29 :: x30 :: x31 :: x32 :: x33 :: x34 :: x35 :: x36 :: x37 :: x38 :: x39 :: x40 :: x41 :: x42 :: x43 :: x44 :: x45 :: x46 :: x47 :: x48 :: [], _ => by show _ = _; kernel_rfl
theorem range_mid {W : World} {q : Nat} {t : List Int} {ty : TypeId} (h : W.heap[q]? = some (.cells (ints t).toArray ty (0, 0))) (o k : Nat) : W.rangeAt q o (ints ((t.drop o).take k)) := fun j v hv => by
 unfold ints at hv
 rw [List.getElem?_map, List.getElem?_take] at hv
 split at hv
 ·rw [List.getElem?_drop] at hv
  simp only [World.cell?, h]
  simpa [ints] using hv
 ·simp at hv
end Gm
set_option maxRecDepth 20000 in
set_option maxHeartbeats 16000000 in
theorem Tryz.lref07_any (l : List Int) (X : World) (hll : l.length = 49) : Calls Tryz.prog 8 #[.agg (Gm.ints l).toArray] X fun e w' => e = .returned (.agg (Gm.ints l).toArray) ∧ Below X.heap.size X w' := by
 obtain ⟨w1, hw1⟩ : ∃ z, (X.alloc (.cells (Gm.ints l).toArray 29)).alloc (.cells #[.int .i64 0, .int .i64 0, .int .i64 0, .int .i64 0, .int .i64 0, .int .i64 0, .int .i64 0, .int .i64 0, .int .i64 0, .int .i64 0, .int .i64 0, .int .i64 0, .int .i64 0, .int .i64 0, .int .i64 0, .int .i64 0, .int .i64 0, .int .i64 0, .int .i64 0, .int .i64 0, .int .i64 0, .int .i64 0, .int .i64 0, .int .i64 0, .int .i64 0, .int .i64 0, .int .i64 0, .int .i64 0, .int .i64 0, .int .i64 0, .int .i64 0, .int .i64 0, .int .i64 0, .int .i64 0, .int .i64 0, .int .i64 0, .int .i64 0, .int .i64 0, .int .i64 0, .int .i64 0, .int .i64 0, .int .i64 0, .int .i64 0, .int .i64 0, .int .i64 0, .int .i64 0, .int .i64 0, .int .i64 0, .int .i64 0] 32) = z := ⟨_, rfl⟩
 have P0 : w1.heap[X.heap.size]? = some (.cells (Gm.ints l).toArray 29 (0, 0)) := by
  rw [← hw1, Below.heap_alloc _ _ _ (by simp)]; exact heap_alloc_new X _
 have P1 : w1.heap[X.heap.size + 1]? = some (.cells #[.int .i64 0, .int .i64 0, .int .i64 0, .int .i64 0, .int .i64 0, .int .i64 0, .int .i64 0, .int .i64 0, .int .i64 0, .int .i64 0, .int .i64 0, .int .i64 0, .int .i64 0, .int .i64 0, .int .i64 0, .int .i64 0, .int .i64 0, .int .i64 0, .int .i64 0, .int .i64 0, .int .i64 0, .int .i64 0, .int .i64 0, .int .i64 0, .int .i64 0, .int .i64 0, .int .i64 0, .int .i64 0, .int .i64 0, .int .i64 0, .int .i64 0, .int .i64 0, .int .i64 0, .int .i64 0, .int .i64 0, .int .i64 0, .int .i64 0, .int .i64 0, .int .i64 0, .int .i64 0, .int .i64 0, .int .i64 0, .int .i64 0, .int .i64 0, .int .i64 0, .int .i64 0, .int .i64 0, .int .i64 0, .int .i64 0] 32 (0, 0)) := by
  rw [← hw1]
  have := heap_alloc_new (X.alloc (.cells (Gm.ints l).toArray 29)) (.cells #[.int .i64 0, .int .i64 0, .int .i64 0, .int .i64 0, .int .i64 0, .int .i64 0, .int .i64 0, .int .i64 0, .int .i64 0, .int .i64 0, .int .i64 0, .int .i64 0, .int .i64 0, .int .i64 0, .int .i64 0, .int .i64 0, .int .i64 0, .int .i64 0, .int .i64 0, .int .i64 0, .int .i64 0, .int .i64 0, .int .i64 0, .int .i64 0, .int .i64 0, .int .i64 0, .int .i64 0, .int .i64 0, .int .i64 0, .int .i64 0, .int .i64 0, .int .i64 0, .int .i64 0, .int .i64 0, .int .i64 0, .int .i64 0, .int .i64 0, .int .i64 0, .int .i64 0, .int .i64 0, .int .i64 0, .int .i64 0, .int .i64 0, .int .i64 0, .int .i64 0, .int .i64 0, .int .i64 0, .int .i64 0, .int .i64 0] 32)
  simpa using this
 have A1 : Below X.heap.size X w1 := by rw [← hw1]; exact ((Below.refl _ X).alloc (Nat.le_refl _) _).alloc (by simp) _
 have hbt := Gm.built_state l hll
 have r0 : w1.rangeAt X.heap.size 0 (Gm.ints (l.take 40)) := by have := Gm.range_mid P0 0 40; rwa [List.drop_zero] at this
 have r1 : w1.rangeAt X.heap.size 40 (Gm.ints ((l.drop 40).take 4)) := Gm.range_mid P0 40 4
 have r2 : w1.rangeAt X.heap.size 44 (Gm.ints ((l.drop 44).take 4)) := Gm.range_mid P0 44 4
 have c3 : w1.cell? ⟨X.heap.size, 48, none⟩ = some (.int .i64 (l.getD 48 0)) := by
  simp only [World.cell?, P0]
  rw [Gm.ints_get (by omega)]
  rfl
 have i0 : (Tryz.prog.info? 26).map (·.size) = some (Gm.ints (l.take 40)).length := by rw [Gm.ints_length, List.length_take, hll]; kernel_rfl
 have i1 : (Tryz.prog.info? 27).map (·.size) = some (Gm.ints ((l.drop 40).take 4)).length := by rw [Gm.ints_length, List.length_take, List.length_drop, hll]; kernel_rfl
 have i2 : (Tryz.prog.info? 27).map (·.size) = some (Gm.ints ((l.drop 44).take 4)).length := by rw [Gm.ints_length, List.length_take, List.length_drop, hll]; kernel_rfl
 obtain ⟨a0, ha0⟩ : ∃ z, l.take 40 = z := ⟨_, rfl⟩
 obtain ⟨a1, ha1⟩ : ∃ z, (l.drop 40).take 4 = z := ⟨_, rfl⟩
 obtain ⟨a2, ha2⟩ : ∃ z, (l.drop 44).take 4 = z := ⟨_, rfl⟩
 obtain ⟨a3, ha3⟩ : ∃ z, l.getD 48 0 = z := ⟨_, rfl⟩
 rw [ha0, ha1, ha2, ha3] at hbt
 rw [ha0] at r0 i0
 rw [ha1] at r1 i1
 rw [ha2] at r2 i2
 rw [ha3] at c3
 have hu := Tryz.underlying32
 have hu40 := Tryz.underlying26
 have hu4 := Tryz.underlying27
 have e1 : (Tryz.prog.info? 32).map (·.size) = some (Gm.ints l).toArray.size := by
  have : (Gm.ints l).toArray.size = 49 := by simpa [Gm.ints_length] using hll
  rw [this]; show _ = _; kernel_rfl
 have hi3 : (#[.int .i64 0, .int .i64 0, .int .i64 0, .int .i64 0, .int .i64 0, .int .i64 0, .int .i64 0, .int .i64 0, .int .i64 0, .int .i64 0, .int .i64 0, .int .i64 0, .int .i64 0, .int .i64 0, .int .i64 0, .int .i64 0, .int .i64 0, .int .i64 0, .int .i64 0, .int .i64 0, .int .i64 0, .int .i64 0, .int .i64 0, .int .i64 0, .int .i64 0, .int .i64 0, .int .i64 0, .int .i64 0, .int .i64 0, .int .i64 0, .int .i64 0, .int .i64 0, .int .i64 0, .int .i64 0, .int .i64 0, .int .i64 0, .int .i64 0, .int .i64 0, .int .i64 0, .int .i64 0, .int .i64 0, .int .i64 0, .int .i64 0, .int .i64 0, .int .i64 0, .int .i64 0, .int .i64 0, .int .i64 0, .int .i64 0] : Array Value).size = (Gm.ints l).toArray.size := by
  have : (Gm.ints l).toArray.size = 49 := by simpa [Gm.ints_length] using hll
  rw [this]; rfl
 have h1c : (Gm.ints l).toArray.all (·.oneCell') = true := all_oneCell_toArray (Gm.ints_one l)
 have HW1 : Hid _ := hw1
 have HA : Hid _ := A1
 clear hw1 A1 P0 ha0 ha1 ha2 ha3 hll
 go_enter Tryz.func8, Tryz.ntmps8
 go_upto_region 1 with fail
 rw [HW1.out]
 go_wp2_with (first
  | refine wpList_load_mid rfl 26 _ rfl X.heap.size 0 rfl (Gm.ints a0) _ r0 hu40 rfl i0 ?_
  | refine wpList_load_mid rfl 27 _ rfl X.heap.size 40 rfl (Gm.ints a1) _ r1 hu4 rfl i1 ?_
  | refine wpList_load_mid rfl 27 _ rfl X.heap.size 44 rfl (Gm.ints a2) _ r2 hu4 rfl i2 ?_
  | refine wpList_buildTo rfl 32 _ rfl (some 11) rfl (Gm.ints l).toArray (Eq.trans (congrArg (Tryz.prog.built 32) (by kernel_rfl)) hbt) ?_
  | refine wpList_store_row rfl 32 _ _ rfl (X.heap.size + 1) (Gm.ints l).toArray rfl rfl 32 _ P1 e1 hi3 h1c ?_
  | fail)
 exact bodyPost_ret (v := .agg (Gm.ints l).toArray) (results_cell_row Tryz.results8 _ _ (X.heap.size + 1) 32 (Gm.ints l).toArray (0, 0) _ rfl (setRow_heap _ _ _ _ _ _ P1) hu rfl e1) rfl ⟨rfl, Tk.below_row HA.out (by omega) _⟩
end Go.Proofs
namespace Go.Proofs
open Go.RowKit Go.Shelf
namespace Gm
def W49 (ss : List (Mv × List Int)) : Prop := ∀ p ∈ ss, p.2.length = 49
theorem W49.nil : W49 [] := fun _ h => by cases h
theorem W49.app {a b : List (Mv × List Int)} (ha : W49 a) (hb : W49 b) : W49 (a ++ b) := fun p hp => (List.mem_append.1 hp).elim (ha p) (hb p)
theorem W49.flat {α : Type} {xs : List α} {f : α → List (Mv × List Int)} (h : ∀ x ∈ xs, W49 (f x)) : W49 (xs.flatMap f) := fun p hp => by
 obtain ⟨x, hx, hp⟩ := List.mem_flatMap.1 hp
 exact h x hx p hp
theorem more_49 (m : Mv) {l : List Int} (hl : l.length = 49) (a b : List Nat) : W49 (more m (pass l a b)) := fun p hp => by
 cases h : pass l a b with
 | none => rw [h] at hp; cases hp
 | some t =>
   rw [h] at hp
   simp only [more, List.mem_singleton] at hp
   rw [hp]
   have := pass_length h
   show t.length = 49
   omega
theorem fault_49 {l : List Int} (hl : l.length = 49) (i : Nat) (e : Int) : W49 (fault l i e) := fun p hp => by
 simp only [fault, List.mem_singleton] at hp
 rw [hp]; simpa using hl
theorem merge_49 {l : List Int} (hl : l.length = 49) (i : Nat) (b : List Nat) : ∀ a, W49 (mergeS l i b a)
 | [] => W49.nil
 | f :: r => by rw [mergeS_cons]; exact (more_49 _ hl _ _).app (merge_49 hl i b r)
theorem catch_49 {l : List Int} (hl : l.length = 49) (nd ar : Int) (i x : Nat) (a c : List Nat) : W49 (catchD l nd ar i x a c) := by
 unfold catchD
 split
 ·exact more_49 _ hl _ _
 ·split
  ·exact W49.nil
  ·exact more_49 _ (by simpa using hl) _ _
theorem event_49 (ns : List Nd) (fs : List Fl) {l : List Int} (hl : l.length = 49) (i : Nat) (a : List Nat) : ∀ b, W49 (eventD ns fs l i a b)
 | [] => W49.nil
 | f :: r => by rw [eventD]; exact (catch_49 hl _ _ _ _ _ _).app (event_49 ns fs hl i a r)
theorem node_49 (ns : List Nd) (fs : List Fl) {l : List Int} (hl : l.length = 49) (i : Nat) : W49 (nodeD ns fs l i) := by
 unfold nodeD
 split
 ·exact W49.nil
 ·rename_i x _
  dsimp only
  split
  ·unfold endD; split <;> exact more_49 _ (by simpa using hl) _ _
  ·split
   ·unfold dataD
    split
    ·exact W49.nil
    ·split
     ·exact (more_49 _ (by simpa using hl) _ _).app (more_49 _ (by simpa using hl) _ _)
     ·split
      ·exact fault_49 hl _ _
      ·exact more_49 _ (by simpa using hl) _ _
   ·split
    ·unfold xorD
     split
     ·exact merge_49 hl _ _ _
     ·split
      ·exact W49.nil
      ·split
       ·exact fault_49 hl _ _
       ·exact more_49 _ hl _ _
    ·split
     ·exact more_49 _ hl _ _
     ·split
      ·exact event_49 ns fs hl _ _ _
      ·split
       ·exact catch_49 hl _ _ _ _ _ _
       ·exact W49.nil
theorem steps_49 (ns : List Nd) (fs : List Fl) {l : List Int} (hl : l.length = 49) : W49 (stepsD ns fs l) := by
 unfold stepsD
 split
 ·exact W49.nil
 ·split
  ·exact W49.nil
  ·refine W49.app (W49.flat fun i _ => node_49 ns fs hl i) (W49.flat fun m _ => ?_)
   unfold arriveS
   split
   ·intro p hp
    rw [List.mem_singleton.1 hp]; simpa using hl
   ·exact W49.nil
theorem stL_get : ∀ (ss : List (Mv × List Int)) (_ : W49 ss) (k o : Nat) (h : k < ss.length), o < 54 → (stL ss)[k * 54 + o]? = (stC ss[k].1 ss[k].2)[o]?
 | [], _, k, o, h, _ => by simp at h
 | p :: r, hw, 0, o, h, ho => by
   have h5 : (stC p.1 p.2).length = 54 := stC_length _ _ (hw p (List.mem_cons_self ..))
   have e : stL (p :: r) = stC p.1 p.2 ++ stL r := rfl
   rw [e, List.getElem?_append_left (by omega)]
   simp
 | p :: r, hw, k + 1, o, h, ho => by
   have h5 : (stC p.1 p.2).length = 54 := stC_length _ _ (hw p (List.mem_cons_self ..))
   have e : stL (p :: r) = stC p.1 p.2 ++ stL r := rfl
   rw [e, List.getElem?_append_right (by omega), h5]
   rw [show (k + 1) * 54 + o - 54 = k * 54 + o by omega, stL_get r (fun q hq => hw q (List.mem_cons_of_mem _ hq)) k o (by simpa using h) ho]
   simp
theorem own_cell {W : World} {B : Nat} {e : TypeId} {size : Nat} {v : Value} {n : Nat} {xs : List Value} (h : W.ownsRow B e size v n xs) (hn : 0 < n) : ∃ g cap, v = .slice (some ⟨g, 0, none⟩) n cap ∧ ∀ j x, xs[j]? = some x → W.cell? ⟨g, j, none⟩ = some x := by
 rcases h.2 with ⟨-, h0⟩ | ⟨g, cap, cur, e, hB, hg, h4, h5, h6, h7⟩
 ·omega
 ·refine ⟨g, cap, e, fun j x hx => ?_⟩
  simp only [World.cell?, hg]
  rw [← h7, List.getElem?_take] at hx
  split at hx
  ·rw [Array.getElem?_toList] at hx; exact hx
  ·simp at hx
end Gm
end Go.Proofs
