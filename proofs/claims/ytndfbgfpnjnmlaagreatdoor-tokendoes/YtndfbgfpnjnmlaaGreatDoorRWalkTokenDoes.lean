import Derived.Test.YtndfbgfpnjnmlaaGreatDoorRGmDDo
import Derived.Test.YtndfbgfpnjnmlaaGreatDoorRAllNtLargeM
namespace Go.Proofs.YtndfbgfpnjnmlaaGreatDoor.TokenDoes
open Go.RowKit Go.Shelf
theorem doR_49 (ce : Int) {ss : List (Mv × List Int)} (h : Gm.W49 ss) (i : Int) : (Gm.doR ce ss i).1.length = 49 := by
 have hz : Gm.zeros.length = 49 := by decide
 unfold Gm.doR
 split
 ·exact hz
 ·split
  ·exact hz
  ·split
   ·exact hz
   ·rename_i p hp
    exact h p (List.mem_of_getElem? hp)
theorem yields_eq {ops : Array Oper} {S : World → Prop} {op : Oper} {a : Act} (hw : Region.wanted op (yielded ops a.tmps) = true) (x y : Operand) (ho : op.op = .binOp .eql 32 x y 32) (t : List Int) (h : t.length = 49) (hx : a.eval x = .agg (Gm.ints t).toArray) (hy : a.eval y = .agg (Gm.ints t).toArray) : YieldsIf Tryz.prog ops S op (.bool true) a :=
 .inl ⟨hw, fun w _ => by
  have e : (binOp BinOp.eql 32 (.agg (Gm.ints t).toArray) (.agg (Gm.ints t).toArray)).run Tryz.prog w = .ok (.bool true) w := by
   have h1 := Gm.st_eq t h w
   simp only [binOp]
   simp [show Op.equal 32 (.agg (Gm.ints t).toArray) (.agg (Gm.ints t).toArray) = Op.equalIn 10000 32 (.agg (Gm.ints t).toArray) (.agg (Gm.ints t).toArray) from rfl, h1]
  have hg := run_eqGuard_agg (P := Tryz.prog) w BinOp.eql 32 x y (Gm.ints t).toArray (Gm.ints t).toArray (by kernel_rfl)
  unfold execOp
  simp only [ho, hx, hy, Sem.run_bind]
  rw [hg]
  simp only [Result.andThen]
  rw [e]
  rfl⟩
set_option maxRecDepth 20000 in
set_option maxHeartbeats 32000000 in
theorem walk (an : Option Addr) (cn : Nat) (af : Option Addr) (cf : Nat) (ns : List Nd) (fs : List Fl) (l : List Int) (i : Int) (d : Nat) (w : World) (hN : Nt.Nds w w.heap.size d an ns) (hF : Nt.Fls w w.heap.size d af fs) (hll : l.length = 49) (hO : Tk.Ops w) :
  Calls Tryz.prog 4 #[.agg #[.slice an ns.length cn, .slice af fs.length cf], .agg (Gm.ints l).toArray, .int .i64 i] w fun e w' => e = .returned (.bool true) ∧ Below w.heap.size w w' := by
 obtain ⟨w0, hw0⟩ : ∃ x, (w.alloc (.cells #[.slice an ns.length cn, .slice af fs.length cf] 25)).alloc (.cells (Gm.ints l).toArray 29) = x := ⟨_, rfl⟩
 have A0 : Below w.heap.size w w0 := by rw [← hw0]; exact ((Below.refl _ w).alloc (Nat.le_refl _) _).alloc (by simp) _
 have G0 : w0.heap[w.heap.size]? = some (.cells #[.slice an ns.length cn, .slice af fs.length cf] 25 (0, 0)) := by rw [← hw0, Below.heap_alloc _ _ _ (by simp)]; exact heap_alloc_new w _
 have G1 : w0.heap[w.heap.size + 1]? = some (.cells (Gm.ints l).toArray 29 (0, 0)) := by
  rw [← hw0]
  have := heap_alloc_new (w.alloc (.cells #[.slice an ns.length cn, .slice af fs.length cf] 25)) (.cells (Gm.ints l).toArray 29)
  simpa using this
 have hlg := Tryz.nlarge_any an cn af cf d ns fs w0 ((hN.below A0).wider A0.size) ((hF.below A0).wider A0.size)
 have HLN : Hid (∀ W, Below w.heap.size w W → Calls Tryz.prog 7 #[] W fun e w' => e = .returned (.bool true) ∧ Hid (Below w.heap.size w w')) := fun W hb => (Tryz.line07_any W (hO.below hb hO.lt)).mono fun e w' h => ⟨h.1, hb.trans (h.2.mono hb.size)⟩
 obtain ⟨n, hnn⟩ : ∃ n, ns.length = n := ⟨_, rfl⟩
 obtain ⟨m, hmm⟩ : ∃ n, fs.length = n := ⟨_, rfl⟩
 have HBX : Hid (∀ W, Below w0.heap.size w0 W → W.cell? ⟨w.heap.size, 0, none⟩ = some (.slice an n cn) ∧ W.cell? ⟨w.heap.size, 1, none⟩ = some (.slice af m cf) ∧ W.heap[w.heap.size + 1]? = some (.cells (Gm.ints l).toArray 29 (0, 0))) := fun W hb => by
  have h1 := (hb.block _ (Gm.blk_lt G0)).trans G0
  rw [hnn, hmm] at h1
  exact ⟨by simp [World.cell?, h1], by simp [World.cell?, h1], (hb.block _ (Gm.blk_lt G1)).trans G1⟩
 have HNF : Hid (Nt.Nds w w.heap.size d an ns ∧ Nt.Fls w w.heap.size d af fs ∧ Tk.Ops w ∧ ns.length = n ∧ fs.length = m ∧ l.length = 49) := ⟨hN, hF, hO, hnn, hmm, hll⟩
 rw [hnn, hmm] at hlg hw0 ⊢
 have huT := Tryz.underlying29
 have huR := Tryz.underlying32
 have h49 : (Gm.ints l).toArray.size = 49 := by simpa [Gm.ints_length] using hll
 have eT : (Tryz.prog.info? 29).map (·.size) = some (Gm.ints l).toArray.size := by rw [h49]; show _ = _; kernel_rfl
 have eR : (Tryz.prog.info? 32).map (·.size) = some (Gm.ints l).toArray.size := by rw [h49]; show _ = _; kernel_rfl
 have eT' : (Tryz.prog.info? 29).map (·.size) = some (Gm.ints l).length := by rw [Gm.ints_length, hll]; show _ = _; kernel_rfl
 have eR' : (Tryz.prog.info? 32).map (·.size) = some (Gm.ints l).length := by rw [Gm.ints_length, hll]; show _ = _; kernel_rfl
 have hi3 : (#[.int .i64 0, .int .i64 0, .int .i64 0, .int .i64 0, .int .i64 0, .int .i64 0, .int .i64 0, .int .i64 0, .int .i64 0, .int .i64 0, .int .i64 0, .int .i64 0, .int .i64 0, .int .i64 0, .int .i64 0, .int .i64 0, .int .i64 0, .int .i64 0, .int .i64 0, .int .i64 0, .int .i64 0, .int .i64 0, .int .i64 0, .int .i64 0, .int .i64 0, .int .i64 0, .int .i64 0, .int .i64 0, .int .i64 0, .int .i64 0, .int .i64 0, .int .i64 0, .int .i64 0, .int .i64 0, .int .i64 0, .int .i64 0, .int .i64 0, .int .i64 0, .int .i64 0, .int .i64 0, .int .i64 0, .int .i64 0, .int .i64 0, .int .i64 0, .int .i64 0, .int .i64 0, .int .i64 0, .int .i64 0, .int .i64 0] : Array Value).size = (Gm.ints l).toArray.size := by rw [h49]; rfl
 have h1c : (Gm.ints l).toArray.all (·.oneCell') = true := all_oneCell_toArray (Gm.ints_one l)
 have HL : Hid _ := hlg
 have H0 : Hid ((w.alloc (.cells #[.slice an n cn, .slice af m cf] 25)).alloc (.cells (Gm.ints l).toArray 29) = w0) := hw0
 have HA : Hid (Below w.heap.size w w0) := A0
 clear hlg hw0 A0 G0 G1 hN hF hO hnn hmm hll h49
 go_enter Tryz.func4, Tryz.ntmps4
 go_wp2_with fail
 rw [H0.out]
 refine Calls.mono HL.out ?_
 rintro e W1 ⟨hb1, rfl | ⟨rfl, hn60, hm100, hnz, hfz⟩⟩
 ·have B1 : Hid (Below w.heap.size w W1) := HA.out.trans (hb1.mono HA.out.size)
  clear hb1 HL H0 HBX eT eR eT' eR' hi3 h1c
  go_wp2_with fail
  refine Calls.mono (HLN.out W1 B1.out) ?_
  rintro e W2 ⟨rfl, B2⟩
  clear HLN
  go_wp2
  go_ret
  exact ⟨rfl, B2.out⟩
 have B1 : Hid (Below w0.heap.size w0 W1) := hb1
 have HS : Hid (∀ W, Below w0.heap.size w0 W → Nt.Has W W.heap.size d an af ns fs ∧ Tk.Ops W ∧ Below w.heap.size w W) := fun W hb => by
  have hbw : Below w.heap.size w W := HA.out.trans (hb.mono HA.out.size)
  refine ⟨⟨(HNF.out.1.below hbw).wider hbw.size, (HNF.out.2.1.below hbw).wider hbw.size, by omega, by omega, fun x hx => by have := hnz x hx; omega, fun x hx => by have := hfz x hx; omega⟩, HNF.out.2.2.1.below hbw HNF.out.2.2.1.lt, hbw⟩
 clear hb1 HL H0 hn60 hm100 hnz hfz
 obtain ⟨R, hR⟩ : ∃ z, Gm.doR (Gm.checkE ns fs l) (Gm.stepsD ns fs l) i = z := ⟨_, rfl⟩
 have hR' : Gm.doR (Gm.checkE ns fs l) (Gm.allS ns fs l) i = R := by rw [Gm.steps_same ns fs l HNF.out.2.2.2.2.2]; exact hR
 have hT49 : R.1.length = 49 := by rw [← hR]; exact doR_49 _ (Gm.steps_49 ns fs HNF.out.2.2.2.2.2) i
 obtain ⟨ts, ⟨q1, q2, q3⟩, er⟩ := R
 have CRF : Hid (∀ (V : World) W, Below V.heap.size V W → Calls Tryz.prog 8 #[.agg (Gm.ints l).toArray] W fun e w' => e = .returned (.agg (Gm.ints l).toArray) ∧ Hid (Below V.heap.size V w' ∧ Below W.heap.size W w')) := fun V W hb =>
  (Tryz.lref07_any l W HNF.out.2.2.2.2.2).mono fun e w' q => ⟨q.1, hb.trans (q.2.mono hb.size), q.2⟩
 have CRT : Hid (∀ (V : World) W, Below V.heap.size V W → Calls Tryz.prog 8 #[.agg (Gm.ints ts).toArray] W fun e w' => e = .returned (.agg (Gm.ints ts).toArray) ∧ Hid (Below V.heap.size V w' ∧ Below W.heap.size W w')) := fun V W hb =>
  (Tryz.lref07_any ts W hT49).mono fun e w' q => ⟨q.1, hb.trans (q.2.mono hb.size), q.2⟩
 have CD : Hid (∀ W, Below w0.heap.size w0 W → Calls Tryz.prog 16 #[.agg #[.slice an n cn, .slice af m cf], .agg (Gm.ints l).toArray, .int .i64 i] W fun e w' => e = .returned (.tuple #[.agg (Gm.ints ts).toArray, .agg #[.int .i64 q1, .int .i64 q2, .int .i64 q3], .int .i64 er]) ∧ Hid (Below w0.heap.size w0 w')) := fun W hb => by
  have h := Tryz.tDo_any an n cn af m cf l i W d ns fs (HS.out W hb).1 HNF.out.2.2.2.1 HNF.out.2.2.2.2.1 HNF.out.2.2.2.2.2 (HS.out W hb).2.1
  rw [hR'] at h
  exact h.mono fun e w' q => ⟨q.1, hb.trans (q.2.mono hb.size)⟩
 have CE : Hid (∀ (V : World) W, Below w0.heap.size w0 V → Below V.heap.size V W → Calls Tryz.prog 17 #[.agg #[.slice an n cn, .slice af m cf], .agg (Gm.ints l).toArray, .int .i64 i] W fun e w' => e = .returned (.agg (Gm.dnC (ts, (q1, q2, q3), er)).toArray) ∧ Hid (Below V.heap.size V w' ∧ Below W.heap.size W w')) := fun V W h0 hb => by
  have hw := h0.trans (hb.mono h0.size)
  have h := Tryz.rDo_any an n cn af m cf l i W d ns fs (HS.out W hw).1 HNF.out.2.2.2.1 HNF.out.2.2.2.2.1 HNF.out.2.2.2.2.2
  rw [hR] at h
  exact h.mono fun e w' q => ⟨q.1, hb.trans (q.2.mono hb.size), q.2⟩
 obtain ⟨p0, p1, P1⟩ := HBX.out W1 B1.out
 go_wp2_with (first | refine wpList_load_row rfl 29 _ rfl _ rfl 29 (Gm.ints l).toArray (0, 0) _ P1 huT rfl eT ?_ | fail)
 refine Calls.mono (CD.out W1 B1.out) ?_
 rintro e W2 ⟨rfl, B2⟩
 clear p0 p1 P1 CD
 have N7a : ((W2.alloc (.cells #[.int .i64 0, .int .i64 0, .int .i64 0, .int .i64 0, .int .i64 0, .int .i64 0, .int .i64 0, .int .i64 0, .int .i64 0, .int .i64 0, .int .i64 0, .int .i64 0, .int .i64 0, .int .i64 0, .int .i64 0, .int .i64 0, .int .i64 0, .int .i64 0, .int .i64 0, .int .i64 0, .int .i64 0, .int .i64 0, .int .i64 0, .int .i64 0, .int .i64 0, .int .i64 0, .int .i64 0, .int .i64 0, .int .i64 0, .int .i64 0, .int .i64 0, .int .i64 0, .int .i64 0, .int .i64 0, .int .i64 0, .int .i64 0, .int .i64 0, .int .i64 0, .int .i64 0, .int .i64 0, .int .i64 0, .int .i64 0, .int .i64 0, .int .i64 0, .int .i64 0, .int .i64 0, .int .i64 0, .int .i64 0, .int .i64 0] 29)).alloc (.cells #[.int .i64 0, .int .i64 0, .int .i64 0] 46)).heap[W2.heap.size]? = some (.cells #[.int .i64 0, .int .i64 0, .int .i64 0, .int .i64 0, .int .i64 0, .int .i64 0, .int .i64 0, .int .i64 0, .int .i64 0, .int .i64 0, .int .i64 0, .int .i64 0, .int .i64 0, .int .i64 0, .int .i64 0, .int .i64 0, .int .i64 0, .int .i64 0, .int .i64 0, .int .i64 0, .int .i64 0, .int .i64 0, .int .i64 0, .int .i64 0, .int .i64 0, .int .i64 0, .int .i64 0, .int .i64 0, .int .i64 0, .int .i64 0, .int .i64 0, .int .i64 0, .int .i64 0, .int .i64 0, .int .i64 0, .int .i64 0, .int .i64 0, .int .i64 0, .int .i64 0, .int .i64 0, .int .i64 0, .int .i64 0, .int .i64 0, .int .i64 0, .int .i64 0, .int .i64 0, .int .i64 0, .int .i64 0, .int .i64 0] 29 (0, 0)) := by rw [Below.heap_alloc _ _ _ (by simp)]; exact heap_alloc_new W2 _
 obtain ⟨W3, hW3⟩ : ∃ z, (((W2.alloc (.cells #[.int .i64 0, .int .i64 0, .int .i64 0, .int .i64 0, .int .i64 0, .int .i64 0, .int .i64 0, .int .i64 0, .int .i64 0, .int .i64 0, .int .i64 0, .int .i64 0, .int .i64 0, .int .i64 0, .int .i64 0, .int .i64 0, .int .i64 0, .int .i64 0, .int .i64 0, .int .i64 0, .int .i64 0, .int .i64 0, .int .i64 0, .int .i64 0, .int .i64 0, .int .i64 0, .int .i64 0, .int .i64 0, .int .i64 0, .int .i64 0, .int .i64 0, .int .i64 0, .int .i64 0, .int .i64 0, .int .i64 0, .int .i64 0, .int .i64 0, .int .i64 0, .int .i64 0, .int .i64 0, .int .i64 0, .int .i64 0, .int .i64 0, .int .i64 0, .int .i64 0, .int .i64 0, .int .i64 0, .int .i64 0, .int .i64 0] 29)).alloc (.cells #[.int .i64 0, .int .i64 0, .int .i64 0] 46)).setRow W2.heap.size (Gm.ints ts).toArray).setRow (W2.heap.size + 1) #[.int .i64 q1, .int .i64 q2, .int .i64 q3] = z := ⟨_, rfl⟩
 have N8b : (((W2.alloc (.cells #[.int .i64 0, .int .i64 0, .int .i64 0, .int .i64 0, .int .i64 0, .int .i64 0, .int .i64 0, .int .i64 0, .int .i64 0, .int .i64 0, .int .i64 0, .int .i64 0, .int .i64 0, .int .i64 0, .int .i64 0, .int .i64 0, .int .i64 0, .int .i64 0, .int .i64 0, .int .i64 0, .int .i64 0, .int .i64 0, .int .i64 0, .int .i64 0, .int .i64 0, .int .i64 0, .int .i64 0, .int .i64 0, .int .i64 0, .int .i64 0, .int .i64 0, .int .i64 0, .int .i64 0, .int .i64 0, .int .i64 0, .int .i64 0, .int .i64 0, .int .i64 0, .int .i64 0, .int .i64 0, .int .i64 0, .int .i64 0, .int .i64 0, .int .i64 0, .int .i64 0, .int .i64 0, .int .i64 0, .int .i64 0, .int .i64 0] 29)).alloc (.cells #[.int .i64 0, .int .i64 0, .int .i64 0] 46)).setRow W2.heap.size (Gm.ints ts).toArray).heap[W2.heap.size + 1]? = some (.cells #[.int .i64 0, .int .i64 0, .int .i64 0] 46 (0, 0)) := by
  rw [setRow_other _ _ _ _ (by omega)]
  have := heap_alloc_new (W2.alloc (.cells #[.int .i64 0, .int .i64 0, .int .i64 0, .int .i64 0, .int .i64 0, .int .i64 0, .int .i64 0, .int .i64 0, .int .i64 0, .int .i64 0, .int .i64 0, .int .i64 0, .int .i64 0, .int .i64 0, .int .i64 0, .int .i64 0, .int .i64 0, .int .i64 0, .int .i64 0, .int .i64 0, .int .i64 0, .int .i64 0, .int .i64 0, .int .i64 0, .int .i64 0, .int .i64 0, .int .i64 0, .int .i64 0, .int .i64 0, .int .i64 0, .int .i64 0, .int .i64 0, .int .i64 0, .int .i64 0, .int .i64 0, .int .i64 0, .int .i64 0, .int .i64 0, .int .i64 0, .int .i64 0, .int .i64 0, .int .i64 0, .int .i64 0, .int .i64 0, .int .i64 0, .int .i64 0, .int .i64 0, .int .i64 0, .int .i64 0] 29)) (.cells #[.int .i64 0, .int .i64 0, .int .i64 0] 46)
  simpa using this
 have N7 : W3.heap[W2.heap.size]? = some (.cells (Gm.ints ts).toArray 29 (0, 0)) := by rw [← hW3, setRow_other _ _ _ _ (by omega)]; exact setRow_heap _ _ _ _ _ _ N7a
 have N8 : W3.heap[W2.heap.size + 1]? = some (.cells #[.int .i64 q1, .int .i64 q2, .int .i64 q3] 46 (0, 0)) := by rw [← hW3]; exact setRow_heap _ _ _ _ _ _ N8b
 have B3 : Below w0.heap.size w0 W3 := by
  rw [← hW3]
  exact Tk.below_row (Tk.below_row ((B2.out.alloc B2.out.size _).alloc (by have := B2.out.size; simp; omega) _) B2.out.size _) (by have := B2.out.size; omega) _
 have HB3 : Hid (Below w0.heap.size w0 W3) := B3
 have HSK : Hid (∀ V, Below W3.heap.size W3 V → V.cell? ⟨w.heap.size, 0, none⟩ = some (.slice an n cn) ∧ V.cell? ⟨w.heap.size, 1, none⟩ = some (.slice af m cf) ∧ V.rangeAt (w.heap.size + 1) 0 (Gm.ints l)) := fun V hb => by
  obtain ⟨x0, x1, x2⟩ := HBX.out V (B3.trans (hb.mono B3.size))
  refine ⟨x0, x1, fun j v hv => ?_⟩
  simp only [World.cell?, x2, Nat.zero_add]; simpa using hv
 have HNK : Hid (∀ V, Below W3.heap.size W3 V → V.heap[W2.heap.size]? = some (.cells (Gm.ints ts).toArray 29 (0, 0)) ∧ V.heap[W2.heap.size + 1]? = some (.cells #[.int .i64 q1, .int .i64 q2, .int .i64 q3] 46 (0, 0))) := fun V hb => ⟨(hb.block _ (Gm.blk_lt N7)).trans N7, (hb.block _ (Gm.blk_lt N8)).trans N8⟩
 have HW3 : Hid _ := hW3
 have HLN' : Hid (∀ W, Below W3.heap.size W3 W → Calls Tryz.prog 7 #[] W fun e w' => e = .returned (.bool true) ∧ Hid (Below W.heap.size W w' ∧ Below w.heap.size w w')) := fun W hb => by
  have hbw := (HS.out W (B3.trans (hb.mono B3.size))).2.2
  exact (Tryz.line07_any W (HS.out W (B3.trans (hb.mono B3.size))).2.1).mono fun e w' h => ⟨h.1, h.2, hbw.trans (h.2.mono hbw.size)⟩
 have h49s : (Gm.ints ts).toArray.size = 49 := by simpa [Gm.ints_length] using hT49
 have eTs : (Tryz.prog.info? 29).map (·.size) = some (Gm.ints ts).toArray.size := by rw [h49s]; show _ = _; kernel_rfl
 have hi3s : (#[.int .i64 0, .int .i64 0, .int .i64 0, .int .i64 0, .int .i64 0, .int .i64 0, .int .i64 0, .int .i64 0, .int .i64 0, .int .i64 0, .int .i64 0, .int .i64 0, .int .i64 0, .int .i64 0, .int .i64 0, .int .i64 0, .int .i64 0, .int .i64 0, .int .i64 0, .int .i64 0, .int .i64 0, .int .i64 0, .int .i64 0, .int .i64 0, .int .i64 0, .int .i64 0, .int .i64 0, .int .i64 0, .int .i64 0, .int .i64 0, .int .i64 0, .int .i64 0, .int .i64 0, .int .i64 0, .int .i64 0, .int .i64 0, .int .i64 0, .int .i64 0, .int .i64 0, .int .i64 0, .int .i64 0, .int .i64 0, .int .i64 0, .int .i64 0, .int .i64 0, .int .i64 0, .int .i64 0, .int .i64 0, .int .i64 0] : Array Value).size = (Gm.ints ts).toArray.size := by rw [h49s]; rfl
 have h1cs : (Gm.ints ts).toArray.all (·.oneCell') = true := all_oneCell_toArray (Gm.ints_one ts)
 have eTs' : (Tryz.prog.info? 29).map (·.size) = some (Gm.ints ts).length := by rw [Gm.ints_length, hT49]; show _ = _; kernel_rfl
 have eRs' : (Tryz.prog.info? 32).map (·.size) = some (Gm.ints ts).length := by rw [Gm.ints_length, hT49]; show _ = _; kernel_rfl
 have hD53 : (Gm.dnC (ts, (q1, q2, q3), er)).toArray.size = 53 := by simpa using Gm.dnC_length (p := (ts, (q1, q2, q3), er)) hT49
 have eD : (Tryz.prog.info? 50).map (·.size) = some (Gm.dnC (ts, (q1, q2, q3), er)).toArray.size := by rw [hD53]; show _ = _; kernel_rfl
 have hiD : (#[.int .i64 0, .int .i64 0, .int .i64 0, .int .i64 0, .int .i64 0, .int .i64 0, .int .i64 0, .int .i64 0, .int .i64 0, .int .i64 0, .int .i64 0, .int .i64 0, .int .i64 0, .int .i64 0, .int .i64 0, .int .i64 0, .int .i64 0, .int .i64 0, .int .i64 0, .int .i64 0, .int .i64 0, .int .i64 0, .int .i64 0, .int .i64 0, .int .i64 0, .int .i64 0, .int .i64 0, .int .i64 0, .int .i64 0, .int .i64 0, .int .i64 0, .int .i64 0, .int .i64 0, .int .i64 0, .int .i64 0, .int .i64 0, .int .i64 0, .int .i64 0, .int .i64 0, .int .i64 0, .int .i64 0, .int .i64 0, .int .i64 0, .int .i64 0, .int .i64 0, .int .i64 0, .int .i64 0, .int .i64 0, .int .i64 0, .int .i64 0, .int .i64 0, .int .i64 0, .int .i64 0] : Array Value).size = (Gm.dnC (ts, (q1, q2, q3), er)).toArray.size := by rw [hD53]; rfl
 have h1D : (Gm.dnC (ts, (q1, q2, q3), er)).toArray.all (·.oneCell') = true := all_oneCell_toArray (Gm.dnC_one _)
 have HT : Hid (ts.length = 49) := hT49
 have eL : (Tryz.prog.info? 46).map (·.size) = some (#[.int .i64 q1, .int .i64 q2, .int .i64 q3] : Array Value).size := by kernel_rfl
 have hiL : (#[.int .i64 0, .int .i64 0, .int .i64 0] : Array Value).size = (#[.int .i64 q1, .int .i64 q2, .int .i64 q3] : Array Value).size := rfl
 have h1L : (#[.int .i64 q1, .int .i64 q2, .int .i64 q3] : Array Value).all (·.oneCell') = true := by kernel_rfl
 clear hW3 N7 N8 B3 HLN HS HBX HNF B1 B2 h49s hD53 hT49 hR hR' HA eT eR hi3 h1c
 go_upto_region 4 with (first | refine wpList_store_row rfl 29 _ _ rfl W2.heap.size (Gm.ints ts).toArray rfl rfl 29 _ N7a eTs hi3s h1cs ?_ | refine wpList_store_row rfl 46 _ _ rfl (W2.heap.size + 1) #[.int .i64 q1, .int .i64 q2, .int .i64 q3] rfl rfl 46 _ N8b eL hiL h1L ?_ | fail)
 rw [HW3.out]
 clear HW3 N7a N8b hi3s h1cs eTs
 go_cut [10] (fun s10 wx => ∃ q : Nat, s10 = .pointer (some ⟨q, 0, none⟩) ∧ Hid (wx.heap[q]? = some (.cells (Gm.dnC (ts, (q1, q2, q3), er)).toArray 50 (0, 0)) ∧ Below W3.heap.size W3 wx))
 case first =>
  refine wp_region_held_drew (S := (fun V => V.cell? ⟨w.heap.size, 0, none⟩ = some (.slice an n cn) ∧ V.cell? ⟨w.heap.size, 1, none⟩ = some (.slice af m cf) ∧ V.rangeAt (w.heap.size + 1) 0 (Gm.ints l))) (by kernel_rfl) ?_ (fun hHeld => ?_)
  ·exact HSK.out _ (Below.refl _ W3).drew
  refine Nt.takeS (v := ?vt0) 0 22 rfl rfl (by kernel_rfl) (by kernel_rfl) (by kernel_rfl) (fun _ _ _ h => h) (Or.inl ⟨by rfl, ?yt0⟩) hHeld ?rt0
  case yt0 => (intro w hSw; (try dsimp only at hSw); go_simp; all_goals (with_reducible rfl))
  simp only [List.set_cons_succ, List.set_cons_zero]
  refine Nt.takeS 1 23 rfl rfl (by kernel_rfl) (by kernel_rfl) (by kernel_rfl) (fun _ _ _ h => h) (yieldsIf_load_mid (by rfl) _ _ rfl _ _ rfl (Gm.ints l) _ (fun _ hw => hw.2.2) huT rfl eT') hHeld ?_
  simp only [List.set_cons_succ, List.set_cons_zero]
  refine Nt.takeS (v := ?vt3) 3 25 rfl rfl (by kernel_rfl) (by kernel_rfl) (by kernel_rfl) (fun _ _ _ h => h) (Or.inl ⟨by rfl, ?yt3⟩) hHeld ?rt3
  case yt3 => (intro w hSw; (try dsimp only at hSw); go_simp; all_goals (with_reducible rfl))
  simp only [List.set_cons_succ, List.set_cons_zero]
  refine wpAnyH_ready (rs := [2, 5]) (by kernel_rfl) (by simp) ?_
  refine AllReadyH.cons rfl (fun K hK => ?_) (AllReadyH.cons rfl (fun K hK => ?_) AllReadyH.nil)
  ·go_simp
   go_at_call 8
   refine Calls.mono (CRF.out W3 _ (Below.refl _ W3).drew) ?_
   rintro e X2 ⟨rfl, H2⟩
   go_wp2_with fail
   refine hK.out _ _ ?_ (fun hTa => ?_)
   ·exact HSK.out _ H2.out.1
   clear hK K
   first | refine Nt.normS 24 rfl ?_ | skip
   first | (simp only [List.set_cons_succ, List.set_cons_zero]) | skip
   refine wpAnyH_ready (rs := [4, 5]) (by kernel_rfl) (by simp) ?_
   refine AllReadyH.cons rfl (fun K hK => ?_) (AllReadyH.cons rfl (fun K hK => ?_) AllReadyH.nil)
   ·go_simp
    go_at_call 17
    refine Calls.mono (CE.out W3 _ HB3.out H2.out.1) ?_
    rintro e X4 ⟨rfl, H4⟩
    go_wp2_with fail
    refine hK.out _ _ ?_ (fun hTb => ?_)
    ·exact HSK.out _ H4.out.1
    clear hK K
    first | refine Nt.normS 26 rfl ?_ | skip
    first | (simp only [List.set_cons_succ, List.set_cons_zero]) | skip
    refine wpAnyH_ready (rs := [5]) (by kernel_rfl) (by simp) ?_
    refine AllReadyH.cons rfl (fun K hK => ?_) AllReadyH.nil
    go_simp
    refine hK.out _ _ ?_ (fun hTc => ?_)
    ·exact HSK.out _ (H4.out.1.alloc H4.out.1.size _)
    clear hK K
    first | refine Nt.normS 10 rfl ?_ | skip
    first | (simp only [List.set_cons_succ, List.set_cons_zero]) | skip
    refine wpAnyH_ready (rs := [6]) (by kernel_rfl) (by simp) ?_
    refine AllReadyH.cons rfl (fun K hK => ?_) AllReadyH.nil
    refine Gm.step_row rfl 50 _ _ rfl (X4.heap.size) (Gm.dnC (ts, (q1, q2, q3), er)).toArray rfl rfl 50 _ (heap_alloc_new X4 _) eD hiD h1D ?_
    refine hK.out _ _ ?_ (fun hTz => ?_)
    ·exact HSK.out _ (Tk.below_row (H4.out.1.alloc H4.out.1.size _) H4.out.1.size _)
    clear hK K
    refine wpAnyH_done (by kernel_rfl) ?_ _
    go_wp2_with fail
    go_meet
    exact ⟨_, rfl, setRow_heap _ _ _ _ _ _ (heap_alloc_new X4 _), Tk.below_row (H4.out.1.alloc H4.out.1.size _) H4.out.1.size _⟩
   ·go_simp
    refine hK.out _ _ ?_ (fun hTb => ?_)
    ·exact HSK.out _ (H2.out.1.alloc H2.out.1.size _)
    clear hK K
    first | refine Nt.normS 10 rfl ?_ | skip
    first | (simp only [List.set_cons_succ, List.set_cons_zero]) | skip
    refine wpAnyH_ready (rs := [4]) (by kernel_rfl) (by simp) ?_
    refine AllReadyH.cons rfl (fun K hK => ?_) AllReadyH.nil
    go_simp
    go_at_call 17
    refine Calls.mono (CE.out W3 _ HB3.out (H2.out.1.alloc H2.out.1.size _)) ?_
    rintro e X4 ⟨rfl, H4⟩
    go_wp2_with fail
    refine hK.out _ _ ?_ (fun hTc => ?_)
    ·exact HSK.out _ H4.out.1
    clear hK K
    first | refine Nt.normS 26 rfl ?_ | skip
    first | (simp only [List.set_cons_succ, List.set_cons_zero]) | skip
    have NQ : X4.heap[X2.heap.size]? = some (.cells #[.int .i64 0, .int .i64 0, .int .i64 0, .int .i64 0, .int .i64 0, .int .i64 0, .int .i64 0, .int .i64 0, .int .i64 0, .int .i64 0, .int .i64 0, .int .i64 0, .int .i64 0, .int .i64 0, .int .i64 0, .int .i64 0, .int .i64 0, .int .i64 0, .int .i64 0, .int .i64 0, .int .i64 0, .int .i64 0, .int .i64 0, .int .i64 0, .int .i64 0, .int .i64 0, .int .i64 0, .int .i64 0, .int .i64 0, .int .i64 0, .int .i64 0, .int .i64 0, .int .i64 0, .int .i64 0, .int .i64 0, .int .i64 0, .int .i64 0, .int .i64 0, .int .i64 0, .int .i64 0, .int .i64 0, .int .i64 0, .int .i64 0, .int .i64 0, .int .i64 0, .int .i64 0, .int .i64 0, .int .i64 0, .int .i64 0, .int .i64 0, .int .i64 0, .int .i64 0, .int .i64 0] 50 (0, 0)) := by rw [H4.out.2.block _ (by simp)]; exact heap_alloc_new X2 _
    refine wpAnyH_ready (rs := [6]) (by kernel_rfl) (by simp) ?_
    refine AllReadyH.cons rfl (fun K hK => ?_) AllReadyH.nil
    refine Gm.step_row rfl 50 _ _ rfl (X2.heap.size) (Gm.dnC (ts, (q1, q2, q3), er)).toArray rfl rfl 50 _ NQ eD hiD h1D ?_
    refine hK.out _ _ ?_ (fun hTz => ?_)
    ·exact HSK.out _ (Tk.below_row (H4.out.1) H2.out.1.size _)
    clear hK K
    refine wpAnyH_done (by kernel_rfl) ?_ _
    go_wp2_with fail
    go_meet
    exact ⟨_, rfl, setRow_heap _ _ _ _ _ _ NQ, Tk.below_row (H4.out.1) H2.out.1.size _⟩
  ·go_simp
   refine hK.out _ _ ?_ (fun hTa => ?_)
   ·exact HSK.out _ ((Below.refl _ W3).drew.alloc (Nat.le_refl _) _)
   clear hK K
   first | refine Nt.normS 10 rfl ?_ | skip
   first | (simp only [List.set_cons_succ, List.set_cons_zero]) | skip
   refine wpAnyH_ready (rs := [2]) (by kernel_rfl) (by simp) ?_
   refine AllReadyH.cons rfl (fun K hK => ?_) AllReadyH.nil
   go_simp
   go_at_call 8
   refine Calls.mono (CRF.out W3 _ ((Below.refl _ W3).drew.alloc (Nat.le_refl _) _)) ?_
   rintro e X2 ⟨rfl, H2⟩
   go_wp2_with fail
   refine hK.out _ _ ?_ (fun hTb => ?_)
   ·exact HSK.out _ H2.out.1
   clear hK K
   first | refine Nt.normS 24 rfl ?_ | skip
   first | (simp only [List.set_cons_succ, List.set_cons_zero]) | skip
   refine wpAnyH_ready (rs := [4]) (by kernel_rfl) (by simp) ?_
   refine AllReadyH.cons rfl (fun K hK => ?_) AllReadyH.nil
   go_simp
   go_at_call 17
   refine Calls.mono (CE.out W3 _ HB3.out H2.out.1) ?_
   rintro e X4 ⟨rfl, H4⟩
   go_wp2_with fail
   refine hK.out _ _ ?_ (fun hTc => ?_)
   ·exact HSK.out _ H4.out.1
   clear hK K
   first | refine Nt.normS 26 rfl ?_ | skip
   first | (simp only [List.set_cons_succ, List.set_cons_zero]) | skip
   have NQ : X4.heap[W3.heap.size]? = some (.cells #[.int .i64 0, .int .i64 0, .int .i64 0, .int .i64 0, .int .i64 0, .int .i64 0, .int .i64 0, .int .i64 0, .int .i64 0, .int .i64 0, .int .i64 0, .int .i64 0, .int .i64 0, .int .i64 0, .int .i64 0, .int .i64 0, .int .i64 0, .int .i64 0, .int .i64 0, .int .i64 0, .int .i64 0, .int .i64 0, .int .i64 0, .int .i64 0, .int .i64 0, .int .i64 0, .int .i64 0, .int .i64 0, .int .i64 0, .int .i64 0, .int .i64 0, .int .i64 0, .int .i64 0, .int .i64 0, .int .i64 0, .int .i64 0, .int .i64 0, .int .i64 0, .int .i64 0, .int .i64 0, .int .i64 0, .int .i64 0, .int .i64 0, .int .i64 0, .int .i64 0, .int .i64 0, .int .i64 0, .int .i64 0, .int .i64 0, .int .i64 0, .int .i64 0, .int .i64 0, .int .i64 0] 50 (0, 0)) := by
    rw [H4.out.2.block _ (by have := H2.out.2.size; simp at this; omega), H2.out.2.block _ (by simp)]
    exact heap_alloc_new W3.drew _
   refine wpAnyH_ready (rs := [6]) (by kernel_rfl) (by simp) ?_
   refine AllReadyH.cons rfl (fun K hK => ?_) AllReadyH.nil
   refine Gm.step_row rfl 50 _ _ rfl (W3.heap.size) (Gm.dnC (ts, (q1, q2, q3), er)).toArray rfl rfl 50 _ NQ eD hiD h1D ?_
   refine hK.out _ _ ?_ (fun hTz => ?_)
   ·exact HSK.out _ (Tk.below_row (H4.out.1) (Nat.le_refl _) _)
   clear hK K
   refine wpAnyH_done (by kernel_rfl) ?_ _
   go_wp2_with fail
   go_meet
   exact ⟨_, rfl, setRow_heap _ _ _ _ _ _ NQ, Tk.below_row (H4.out.1) (Nat.le_refl _) _⟩
 case rest =>
 rename World => wx
 obtain ⟨q, rfl, HQ⟩ := hcut
 have HS5 : Hid (∀ V, Below wx.heap.size wx V → (fun V => V.rangeAt W2.heap.size 0 (Gm.ints ts) ∧ V.rangeAt q 0 (Gm.ints ts) ∧ V.cell? ⟨W2.heap.size + 1, 0, none⟩ = some (.int .i64 q1) ∧ V.cell? ⟨W2.heap.size + 1, 1, none⟩ = some (.int .i64 q2) ∧ V.cell? ⟨W2.heap.size + 1, 2, none⟩ = some (.int .i64 q3) ∧ V.cell? ⟨q, 49, none⟩ = some (.int .i64 q1) ∧ V.cell? ⟨q, 50, none⟩ = some (.int .i64 q2) ∧ V.cell? ⟨q, 51, none⟩ = some (.int .i64 q3) ∧ V.cell? ⟨q, 52, none⟩ = some (.int .i64 er)) V) := fun V hb => by
  obtain ⟨n7, n8⟩ := HNK.out V (HQ.out.2.trans (hb.mono HQ.out.2.size))
  have nq := (hb.block _ (Gm.blk_lt HQ.out.1)).trans HQ.out.1
  have hg : ∀ j, V.cell? ⟨q, j, none⟩ = (Gm.dnC (ts, (q1, q2, q3), er))[j]? := fun j => by simp [World.cell?, nq]
  have hlt : (Gm.ints ts).length = 49 := by rw [Gm.ints_length]; exact HT.out
  have hr : ∀ j, j < 4 → V.cell? ⟨q, 49 + j, none⟩ = ([.int .i64 q1, .int .i64 q2, .int .i64 q3, .int .i64 er] : List Value)[j]? := fun j hj => by
   rw [hg, Gm.dnC, List.getElem?_append_right (by rw [hlt]; omega), hlt]
   congr 1
   omega
  refine ⟨fun j v hv => ?_, fun j v hv => ?_, by simp [World.cell?, n8], by simp [World.cell?, n8], by simp [World.cell?, n8], hr 0 (by omega), hr 1 (by omega), hr 2 (by omega), hr 3 (by omega)⟩
  ·simp only [World.cell?, n7, Nat.zero_add]; simpa using hv
  ·rw [Nat.zero_add, hg, Gm.dnC, List.getElem?_append_left (by rw [hlt]; have := (List.getElem?_eq_some_iff.1 hv).1; omega)]
   exact hv
 clear HSK HNK CRF CE
 go_upto_region 5 with fail
 refine wp_region_held_drew (S := (fun V => V.rangeAt W2.heap.size 0 (Gm.ints ts) ∧ V.rangeAt q 0 (Gm.ints ts) ∧ V.cell? ⟨W2.heap.size + 1, 0, none⟩ = some (.int .i64 q1) ∧ V.cell? ⟨W2.heap.size + 1, 1, none⟩ = some (.int .i64 q2) ∧ V.cell? ⟨W2.heap.size + 1, 2, none⟩ = some (.int .i64 q3) ∧ V.cell? ⟨q, 49, none⟩ = some (.int .i64 q1) ∧ V.cell? ⟨q, 50, none⟩ = some (.int .i64 q2) ∧ V.cell? ⟨q, 51, none⟩ = some (.int .i64 q3) ∧ V.cell? ⟨q, 52, none⟩ = some (.int .i64 er))) (by kernel_rfl) ?_ (fun hHeld => ?_)
 ·exact HS5.out _ (Below.refl _ wx).drew
 refine Nt.takeS 0 27 rfl rfl (by kernel_rfl) (by kernel_rfl) (by kernel_rfl) (fun _ _ _ h => h) (yieldsIf_load_mid (by rfl) _ _ rfl _ _ rfl (Gm.ints ts) _ (fun _ hw => hw.1) huT rfl eTs') hHeld ?_
 simp only [List.set_cons_succ, List.set_cons_zero]
 refine Nt.takeS (v := ?vt2) 2 29 rfl rfl (by kernel_rfl) (by kernel_rfl) (by kernel_rfl) (fun _ _ _ h => h) (Or.inl ⟨by rfl, ?yt2⟩) hHeld ?rt2
 case yt2 => (intro w hSw; (try dsimp only at hSw); go_simp; all_goals (with_reducible rfl))
 simp only [List.set_cons_succ, List.set_cons_zero]
 refine Nt.takeS 3 30 rfl rfl (by kernel_rfl) (by kernel_rfl) (by kernel_rfl) (fun _ _ _ h => h) (yieldsIf_load_mid (by rfl) _ _ rfl _ _ rfl (Gm.ints ts) _ (fun _ hw => hw.2.1) huR rfl eRs') hHeld ?_
 simp only [List.set_cons_succ, List.set_cons_zero]
 refine wpAnyH_ready (rs := [1]) (by kernel_rfl) (by simp) ?_
 refine AllReadyH.cons rfl (fun K hK => ?_) AllReadyH.nil
 go_simp
 go_at_call 8
 refine Calls.mono (CRT.out wx _ (Below.refl _ wx).drew) ?_
 rintro e X1 ⟨rfl, H1⟩
 go_wp2_with fail
 refine hK.out _ _ ?_ (fun hTc1 => ?_)
 ·exact HS5.out _ H1.out.1
 clear hK K
 first | refine Nt.normS 28 rfl ?_ | skip
 first | (simp only [List.set_cons_succ, List.set_cons_zero]) | skip
 refine Nt.takeS 4 31 rfl rfl (by kernel_rfl) (by kernel_rfl) (by kernel_rfl) (fun _ _ _ h => h) (yields_eq (by rfl) _ _ rfl ts HT.out rfl rfl) hTc1 ?_
 simp only [List.set_cons_succ, List.set_cons_zero]
 refine Nt.takeS (v := ?vu5) 5 32 rfl rfl (by kernel_rfl) (by kernel_rfl) (by kernel_rfl) (fun _ _ _ h => h) (Or.inl ⟨by rfl, ?yu5⟩) hTc1 ?ru5
 case yu5 => (intro w hSw; (try dsimp only at hSw); go_simp; all_goals (with_reducible rfl))
 simp only [List.set_cons_succ, List.set_cons_zero]
 refine Nt.takeS (v := ?vu6) 6 33 rfl rfl (by kernel_rfl) (by kernel_rfl) (by kernel_rfl) (fun _ _ _ h => h) (Or.inl ⟨by rfl, ?yu6⟩) hTc1 ?ru6
 case yu6 => (intro w hSw; (try dsimp only at hSw); go_simp; all_goals (with_reducible rfl))
 simp only [List.set_cons_succ, List.set_cons_zero]
 refine Nt.takeS (v := ?vu7) 7 34 rfl rfl (by kernel_rfl) (by kernel_rfl) (by kernel_rfl) (fun _ _ _ h => h) (Or.inl ⟨by rfl, ?yu7⟩) hTc1 ?ru7
 case yu7 => (intro w hSw; (try dsimp only at hSw); go_simp; all_goals (with_reducible rfl))
 simp only [List.set_cons_succ, List.set_cons_zero]
 refine Nt.takeS (v := ?vu8) 8 35 rfl rfl (by kernel_rfl) (by kernel_rfl) (by kernel_rfl) (fun _ _ _ h => h) (Or.inl ⟨by rfl, ?yu8⟩) hTc1 ?ru8
 case yu8 => (intro w hSw; (try dsimp only at hSw); go_simp; all_goals (with_reducible rfl))
 simp only [List.set_cons_succ, List.set_cons_zero]
 refine Nt.takeS (v := ?vu9) 9 36 rfl rfl (by kernel_rfl) (by kernel_rfl) (by kernel_rfl) (fun _ _ _ h => h) (Or.inl ⟨by rfl, ?yu9⟩) hTc1 ?ru9
 case yu9 => (intro w hSw; (try dsimp only at hSw); go_simp; all_goals (with_reducible rfl))
 simp only [List.set_cons_succ, List.set_cons_zero]
 refine Nt.takeS (v := ?vu10) 10 37 rfl rfl (by kernel_rfl) (by kernel_rfl) (by kernel_rfl) (fun _ _ _ h => h) (Or.inl ⟨by rfl, ?yu10⟩) hTc1 ?ru10
 case yu10 => (intro w hSw; (try dsimp only at hSw); go_simp; all_goals (with_reducible rfl))
 simp only [List.set_cons_succ, List.set_cons_zero]
 refine Nt.takeS (v := ?vu11) 11 38 rfl rfl (by kernel_rfl) (by kernel_rfl) (by kernel_rfl) (fun _ _ _ h => h) (Or.inl ⟨by rfl, ?yu11⟩) hTc1 ?ru11
 case yu11 => (intro w hSw; (try dsimp only at hSw); go_simp; all_goals (with_reducible rfl))
 simp only [List.set_cons_succ, List.set_cons_zero]
 refine Nt.takeS (v := ?vu12) 12 39 rfl rfl (by kernel_rfl) (by kernel_rfl) (by kernel_rfl) (fun _ _ _ h => h) (Or.inl ⟨by rfl, ?yu12⟩) hTc1 ?ru12
 case yu12 => (intro w hSw; (try dsimp only at hSw); go_simp; all_goals (with_reducible rfl))
 simp only [List.set_cons_succ, List.set_cons_zero]
 refine Nt.takeS (v := ?vu13) 13 40 rfl rfl (by kernel_rfl) (by kernel_rfl) (by kernel_rfl) (fun _ _ _ h => h) (Or.inl ⟨by rfl, ?yu13⟩) hTc1 ?ru13
 case yu13 => (intro w hSw; (try dsimp only at hSw); go_simp; all_goals (with_reducible rfl))
 simp only [List.set_cons_succ, List.set_cons_zero]
 refine Nt.takeS (v := ?vu14) 14 41 rfl rfl (by kernel_rfl) (by kernel_rfl) (by kernel_rfl) (fun _ _ _ h => h) (Or.inl ⟨by rfl, ?yu14⟩) hTc1 ?ru14
 case yu14 => (intro w hSw; (try dsimp only at hSw); go_simp; all_goals (with_reducible rfl))
 simp only [List.set_cons_succ, List.set_cons_zero]
 refine Nt.takeS (v := ?vu15) 15 42 rfl rfl (by kernel_rfl) (by kernel_rfl) (by kernel_rfl) (fun _ _ _ h => h) (Or.inl ⟨by rfl, ?yu15⟩) hTc1 ?ru15
 case yu15 => (intro w hSw; (try dsimp only at hSw); go_simp; all_goals (with_reducible rfl))
 simp only [List.set_cons_succ, List.set_cons_zero]
 refine Nt.takeS (v := ?vu16) 16 43 rfl rfl (by kernel_rfl) (by kernel_rfl) (by kernel_rfl) (fun _ _ _ h => h) (Or.inl ⟨by rfl, ?yu16⟩) hTc1 ?ru16
 case yu16 => (intro w hSw; (try dsimp only at hSw); go_simp; all_goals (with_reducible rfl))
 simp only [List.set_cons_succ, List.set_cons_zero]
 refine Nt.takeS (v := ?vu17) 17 44 rfl rfl (by kernel_rfl) (by kernel_rfl) (by kernel_rfl) (fun _ _ _ h => h) (Or.inl ⟨by rfl, ?yu17⟩) hTc1 ?ru17
 case yu17 => (intro w hSw; (try dsimp only at hSw); go_simp; all_goals (with_reducible rfl))
 simp only [List.set_cons_succ, List.set_cons_zero]
 refine wpAnyH_ready (rs := [18]) (by kernel_rfl) (by simp) ?_
 refine AllReadyH.cons rfl (fun K hK => ?_) AllReadyH.nil
 rw [if_pos (by rfl)]
 go_simp
 go_at_call 7
 refine Calls.mono (HLN'.out _ (HQ.out.2.trans (H1.out.1.mono HQ.out.2.size))) ?_
 rintro e X18 ⟨rfl, H18⟩
 go_wp2_with fail
 refine hK.out _ _ ?_ (fun hTc2 => ?_)
 ·exact HS5.out _ (H1.out.1.trans (H18.out.1.mono H1.out.1.size))
 clear hK K
 first | refine Nt.normS 45 rfl ?_ | skip
 first | (simp only [List.set_cons_succ, List.set_cons_zero]) | skip
 refine Nt.takeS (v := ?vv19) 19 46 rfl rfl (by kernel_rfl) (by kernel_rfl) (by kernel_rfl) (fun _ _ _ h => h) (Or.inl ⟨by rfl, ?yv19⟩) hTc2 ?rv19
 case yv19 => (intro w hSw; (try dsimp only at hSw); go_simp; all_goals (with_reducible rfl))
 simp only [List.set_cons_succ, List.set_cons_zero]
 refine Nt.takeS (v := ?vv20) 20 6 rfl rfl (by kernel_rfl) (by kernel_rfl) (by kernel_rfl) (fun _ _ _ h => h) (Or.inl ⟨by rfl, ?yv20⟩) hTc2 ?rv20
 case yv20 => (intro w hSw; (try dsimp only at hSw); go_simp; all_goals (with_reducible rfl))
 simp only [List.set_cons_succ, List.set_cons_zero]
 refine wpAnyH_done (by kernel_rfl) ?_ _
 clear HS5
 go_wp2
 go_ret
 exact ⟨rfl, H18.out.2⟩
end Go.Proofs.YtndfbgfpnjnmlaaGreatDoor.TokenDoes
