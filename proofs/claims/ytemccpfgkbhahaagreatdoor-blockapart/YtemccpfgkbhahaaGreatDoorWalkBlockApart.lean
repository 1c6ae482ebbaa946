/-
  The statement BlockApart walked.
-/
import Derived.Test.YtemccpfgkbhahaaGreatDoorBlApart
namespace Go.Proofs.YtemccpfgkbhahaaGreatDoor.BlockApart
open Go.RowKit

set_option maxRecDepth 100000 in
set_option maxHeartbeats 16000000 in
theorem walk (an : Option Addr) (cn : Nat) (af : Option Addr) (cf : Nat) (ns : List Nd) (fs : List Fl) (dn d d' : Nat) (S T : Bl) (u lu v lv : Value) (w : World) (hN : Nt.Nds w w.heap.size dn an ns) (hF : Nt.Fls w w.heap.size dn af fs) (hS : Bl.Lies w w.heap.size d u lu S) (hT : Bl.Lies w w.heap.size d' v lv T) (hiS : S.allP Bl.intB = true) (hiT : T.allP Bl.intB = true) (hO : Bk.Names w) (hTab : Lib.TabIs Tryz.prog w "internal/strconv.uint64pow10" .u64 Lib.pow10Tab) (hOp : Tk.Ops w) :
    Calls Tryz.prog 3 #[.agg #[.slice an ns.length cn, .slice af fs.length cf], .agg #[.int .i64 S.kind, .int .i64 S.node, .int .i64 S.arg, u, lu], .agg #[.int .i64 T.kind, .int .i64 T.node, .int .i64 T.arg, v, lv]] w fun e w' => e = .returned (.bool true) ∧ Below w.heap.size w w' := by
  obtain ⟨a, ca, rfl⟩ := hS.shape
  obtain ⟨la, lc, rfl⟩ := hS.links.shape
  obtain ⟨b, cb, rfl⟩ := hT.shape
  obtain ⟨lb, ld, rfl⟩ := hT.links.shape
  obtain ⟨n, hn⟩ : ∃ z, ns.length = z := ⟨_, rfl⟩
  obtain ⟨m, hm⟩ : ∃ z, fs.length = z := ⟨_, rfl⟩
  obtain ⟨k1, hk1⟩ : ∃ z, S.kind = z := ⟨_, rfl⟩
  obtain ⟨n1, hn1⟩ : ∃ z, S.node = z := ⟨_, rfl⟩
  obtain ⟨r1, hr1⟩ : ∃ z, S.arg = z := ⟨_, rfl⟩
  obtain ⟨m1, hm1⟩ : ∃ z, S.ks.length = z := ⟨_, rfl⟩
  obtain ⟨l1, hl1⟩ : ∃ z, S.ls.length = z := ⟨_, rfl⟩
  obtain ⟨k2, hk2⟩ : ∃ z, T.kind = z := ⟨_, rfl⟩
  obtain ⟨n2, hn2⟩ : ∃ z, T.node = z := ⟨_, rfl⟩
  obtain ⟨r2, hr2⟩ : ∃ z, T.arg = z := ⟨_, rfl⟩
  obtain ⟨m2, hm2⟩ : ∃ z, T.ks.length = z := ⟨_, rfl⟩
  obtain ⟨l2, hl2⟩ : ∃ z, T.ls.length = z := ⟨_, rfl⟩
  rw [hn, hm, hk1, hn1, hr1, hm1, hl1, hk2, hn2, hr2, hm2, hl2]
  rw [hm1, hl1] at hS
  rw [hm2, hl2] at hT
  obtain ⟨W0, hW0⟩ : ∃ z, ((w.alloc (.cells #[.slice an n cn, .slice af m cf] 25)).alloc (.cells #[.int .i64 k1, .int .i64 n1, .int .i64 r1, .slice a m1 ca, .slice la l1 lc] 29)).alloc (.cells #[.int .i64 k2, .int .i64 n2, .int .i64 r2, .slice b m2 cb, .slice lb l2 ld] 29) = z := ⟨_, rfl⟩
  have A0 : Hid (Below w.heap.size w W0) := by show Below _ _ _; rw [← hW0]; exact (((Below.refl _ w).alloc (Nat.le_refl _) _).alloc (by simp) _).alloc (by simp; omega) _
  have S0 : Hid (W0.heap.size = w.heap.size + 3) := by show _ = _; rw [← hW0]; simp
  have G0 : Hid (W0.heap[w.heap.size]? = some (.cells #[.slice an n cn, .slice af m cf] 25 (0, 0))) := by show _ = _; rw [← hW0, Below.heap_alloc _ _ _ (by simp; omega), Below.heap_alloc _ _ _ (by simp)]; exact heap_alloc_new w _
  have G1 : Hid (W0.heap[w.heap.size + 1]? = some (.cells #[.int .i64 k1, .int .i64 n1, .int .i64 r1, .slice a m1 ca, .slice la l1 lc] 29 (0, 0))) := by
    show _ = _
    rw [← hW0, Below.heap_alloc _ _ _ (by simp)]
    have := heap_alloc_new (w.alloc (.cells #[.slice an n cn, .slice af m cf] 25)) (.cells #[.int .i64 k1, .int .i64 n1, .int .i64 r1, .slice a m1 ca, .slice la l1 lc] 29)
    simpa using this
  have G2 : Hid (W0.heap[w.heap.size + 1 + 1]? = some (.cells #[.int .i64 k2, .int .i64 n2, .int .i64 r2, .slice b m2 cb, .slice lb l2 ld] 29 (0, 0))) := by
    show _ = _
    rw [← hW0]
    have := heap_alloc_new ((w.alloc (.cells #[.slice an n cn, .slice af m cf] 25)).alloc (.cells #[.int .i64 k1, .int .i64 n1, .int .i64 r1, .slice a m1 ca, .slice la l1 lc] 29)) (.cells #[.int .i64 k2, .int .i64 n2, .int .i64 r2, .slice b m2 cb, .slice lb l2 ld] 29)
    simpa using this
  have CF : Hid (∀ W, Below W0.heap.size W0 W → (W.cell? ⟨w.heap.size, 0, none⟩ = some (.slice an n cn) ∧ W.cell? ⟨w.heap.size, 1, none⟩ = some (.slice af m cf)) ∧ (W.cell? ⟨w.heap.size + 1, 0, none⟩ = some (.int .i64 k1) ∧ W.cell? ⟨w.heap.size + 1, 1, none⟩ = some (.int .i64 n1) ∧ W.cell? ⟨w.heap.size + 1, 2, none⟩ = some (.int .i64 r1) ∧ W.cell? ⟨w.heap.size + 1, 3, none⟩ = some (.slice a m1 ca) ∧ W.cell? ⟨w.heap.size + 1, 4, none⟩ = some (.slice la l1 lc)) ∧
      W.cell? ⟨w.heap.size + 1 + 1, 0, none⟩ = some (.int .i64 k2) ∧ W.cell? ⟨w.heap.size + 1 + 1, 1, none⟩ = some (.int .i64 n2) ∧ W.cell? ⟨w.heap.size + 1 + 1, 2, none⟩ = some (.int .i64 r2) ∧ W.cell? ⟨w.heap.size + 1 + 1, 3, none⟩ = some (.slice b m2 cb) ∧ W.cell? ⟨w.heap.size + 1 + 1, 4, none⟩ = some (.slice lb l2 ld)) := fun W hb => by
    have e0 := (hb.block w.heap.size (by have := S0.out; omega)).trans G0.out
    exact ⟨⟨by simp [World.cell?, e0], by simp [World.cell?, e0]⟩, Bk.box5 ((hb.block _ (by have := S0.out; omega)).trans G1.out), Bk.box5 ((hb.block _ (by have := S0.out; omega)).trans G2.out)⟩
  have LS : Hid (∀ W, Below W0.heap.size W0 W → Bl.Lies W w.heap.size d (.slice a m1 ca) (.slice la l1 lc) S ∧ Bl.Lies W w.heap.size d' (.slice b m2 cb) (.slice lb l2 ld) T ∧ Below w.heap.size w W ∧ w.heap.size ≤ W.heap.size ∧ Nt.Nds W W.heap.size dn an ns ∧ Nt.Fls W W.heap.size dn af fs) := fun W hb => by
    have h := A0.out.trans (hb.mono (by have := S0.out; omega))
    exact ⟨hS.below h, hT.below h, h, h.size, (hN.below h).wider h.size, (hF.below h).wider h.size⟩
  have HO : Hid (Bk.Names w ∧ Lib.TabIs Tryz.prog w "internal/strconv.uint64pow10" .u64 Lib.pow10Tab ∧ Tk.Ops w) := ⟨hO, hTab, hOp⟩
  have ALT : Hid (∀ W, Below W0.heap.size W0 W → Calls Tryz.prog 7 #[] W fun e w' => e = .returned (.bool true) ∧ Hid (Below W0.heap.size W0 w')) := fun W hb => by
    have h := (LS.out W hb).2.2.1
    exact (Tryz.balt_any W (HO.out.1.below h HO.out.1.lt) (Lib.tabBelow_of_tabIs HO.out.2.1 W h)).mono fun _ _ q => ⟨q.1, hb.trans (q.2.mono hb.size)⟩
  have LG : Hid (∀ W, Below W0.heap.size W0 W → Calls Tryz.prog 5 #[.agg #[.slice an n cn, .slice af m cf]] W fun e w' => ∃ q, e = .returned (.bool q) ∧ Hid (Below W0.heap.size W0 w' ∧ (q = false → ns.length ≤ 100 ∧ fs.length ≤ 100 ∧ (∀ x, x ∈ ns → x.t.size ≤ 2147483647) ∧ ∀ x, x ∈ fs → x.c.size ≤ 2147483647))) := fun W hb => by
    have h := Tryz.nlarge_any an cn af cf dn ns fs W (LS.out W hb).2.2.2.2.1 (LS.out W hb).2.2.2.2.2
    rw [hn, hm] at h
    refine h.mono ?_
    rintro e w' ⟨hb', rfl | ⟨rfl, h1, h2, h3, h4⟩⟩
    · exact ⟨true, rfl, hb.trans (hb'.mono hb.size), fun h => by cases h⟩
    · exact ⟨false, rfl, hb.trans (hb'.mono hb.size), fun _ => ⟨by omega, by omega, fun x hx => by have := h3 x hx; omega, fun x hx => by have := h4 x hx; omega⟩⟩
  have BG : Hid (∀ (X : Bl) (dx : Nat) (va vb : Value) (W : World), Below W0.heap.size W0 W → Bl.Lies W w.heap.size dx va vb X → Calls Tryz.prog 6 #[.agg #[.int .i64 X.kind, .int .i64 X.node, .int .i64 X.arg, va, vb], .pointer (some ⟨W.heap.size, 0, none⟩), .int .i64 1] (W.alloc (.cells #[.int .i64 400] 34)) fun e w' => ∃ q, e = .returned (.bool q) ∧ Hid (Below W0.heap.size W0 w' ∧ (q = false → X.size ≤ 400 ∧ X.allP (fun _ _ _ ls => decide (ls.length ≤ 100)) = true))) := by
    intro X dx va vb W hb hX
    have hw := (LS.out W hb).2.2.2.1
    have A1 : Below W.heap.size W (W.alloc (.cells #[.int .i64 400] 34)) := (Below.refl _ W).alloc (Nat.le_refl _) _
    have hR : Bk.Rm W.heap.size ((400 : Nat) : Int) (W.alloc (.cells #[.int .i64 400] 34)) := heap_alloc_new W _
    have h := Tryz.big_any dx X va vb 400 W.heap.size 1 w.heap.size (W.alloc (.cells #[.int .i64 400] 34)) (hX.below (A1.mono hw)) hw (by simp; omega) hR (by omega) (by omega)
    refine h.mono ?_
    rintro e w' ⟨hbt, hend⟩
    have hbl : Below W0.heap.size W0 w' := by
      have h1 : Below W0.heap.size W0 (W.alloc (.cells #[.int .i64 400] 34)) := hb.trans (A1.mono hb.size)
      exact ⟨hbt.os.trans h1.os, hbt.tape.trans h1.tape, hbt.output.trans h1.output, Nat.le_trans h1.size hbt.size, fun i hi => (hbt.block i (Nat.lt_of_lt_of_le hi h1.size) (by have := hb.size; omega)).trans (h1.block i hi)⟩
    rcases hend with ⟨rfl, h1, h2, _⟩ | rfl
    · exact ⟨false, rfl, hbl, fun _ => ⟨h1, h2⟩⟩
    · exact ⟨true, rfl, hbl, fun h => by cases h⟩
  have B1 : Hid (∀ W, Below W0.heap.size W0 W → Calls Tryz.prog 6 #[agg k1 n1 r1 a m1 ca la l1 lc, .pointer (some ⟨W.heap.size, 0, none⟩), .int .i64 1] (W.alloc (.cells #[.int .i64 400] 34)) fun e w' => ∃ q, e = .returned (.bool q) ∧ Hid (Below W0.heap.size W0 w' ∧ (q = false → S.size ≤ 400 ∧ S.allP (fun _ _ _ ls => decide (ls.length ≤ 100)) = true))) := fun W hb => by
    have h := BG.out S d _ _ W hb (LS.out W hb).1
    rw [hk1, hn1, hr1] at h
    exact h
  have B2 : Hid (∀ W, Below W0.heap.size W0 W → Calls Tryz.prog 6 #[agg k2 n2 r2 b m2 cb lb l2 ld, .pointer (some ⟨W.heap.size, 0, none⟩), .int .i64 1] (W.alloc (.cells #[.int .i64 400] 34)) fun e w' => ∃ q, e = .returned (.bool q) ∧ Hid (Below W0.heap.size W0 w' ∧ (q = false → T.size ≤ 400 ∧ T.allP (fun _ _ _ ls => decide (ls.length ≤ 100)) = true))) := fun W hb => by
    have h := BG.out T d' _ _ W hb (LS.out W hb).2.1
    rw [hk2, hn2, hr2] at h
    exact h
  obtain ⟨e1, he1⟩ : ∃ z, (S.standR ns fs).2 = z := ⟨_, rfl⟩
  obtain ⟨e2, he2⟩ : ∃ z, (T.standR ns fs).2 = z := ⟨_, rfl⟩
  obtain ⟨X1, hX1⟩ : ∃ z : ByteArray, (⟨S.textR.1.toArray⟩ : ByteArray) = z := ⟨_, rfl⟩
  obtain ⟨X2, hX2⟩ : ∃ z : ByteArray, (⟨T.textR.1.toArray⟩ : ByteArray) = z := ⟨_, rfl⟩
  obtain ⟨g1, hg1⟩ : ∃ z, S.textR.2 = z := ⟨_, rfl⟩
  obtain ⟨g2, hg2⟩ : ∃ z, T.textR.2 = z := ⟨_, rfl⟩
  obtain ⟨q, hq⟩ : ∃ q : Bool, (q = true ↔ S = T) := by
    by_cases h : S = T
    · exact ⟨true, by simp [h]⟩
    · exact ⟨false, by simp [h]⟩
  -- what the errors tell of the texts
  have HE : Hid ((e1 = 0 ∨ e1 = 8) → (e2 = 0 ∨ e2 = 8) → g1 = 0 ∧ g2 = 0 ∧ (X1.toList == X2.toList) = q) := fun h1 h2 => by
    have h1' : (S.standR ns fs).2 = 0 ∨ (S.standR ns fs).2 = 8 := by rw [he1]; exact h1
    have h2' : (T.standR ns fs).2 = 0 ∨ (T.standR ns fs).2 = 8 := by rw [he2]; exact h2
    refine ⟨by rw [← hg1, (right_of h1').1], by rw [← hg2, (right_of h2').1], ?_⟩
    have h3 := apart h1' h2'
    rw [Bool.eq_iff_iff, beq_iff_eq, ← hX1, ← hX2, hq, ← h3]
    constructor
    · intro h
      rw [ByteArray.toList_eq, ByteArray.toList_eq] at h
      exact h
    · intro h; rw [h]
  have HSM : Hid (S.size ≤ 400 ∧ S.allP (fun _ _ _ ls => decide (ls.length ≤ 100)) = true → T.size ≤ 400 ∧ T.allP (fun _ _ _ ls => decide (ls.length ≤ 100)) = true → ns.length ≤ 100 ∧ fs.length ≤ 100 ∧ (∀ x, x ∈ ns → x.t.size ≤ 2147483647) ∧ (∀ x, x ∈ fs → x.c.size ≤ 2147483647) → ∀ W, Below W0.heap.size W0 W →
      (Calls Tryz.prog 8 #[.agg #[.slice an n cn, .slice af m cf], agg k1 n1 r1 a m1 ca la l1 lc] W fun e w' => e = .returned (.int .i64 e1) ∧ Hid (Below W0.heap.size W0 w')) ∧
      (Calls Tryz.prog 8 #[.agg #[.slice an n cn, .slice af m cf], agg k2 n2 r2 b m2 cb lb l2 ld] W fun e w' => e = .returned (.int .i64 e2) ∧ Hid (Below W0.heap.size W0 w')) ∧
      (Calls Tryz.prog 9 #[agg k1 n1 r1 a m1 ca la l1 lc] W fun e w' => e = .returned (.tuple #[.string X1, .int .i64 g1]) ∧ Hid (Below W0.heap.size W0 w')) ∧
      (Calls Tryz.prog 9 #[agg k2 n2 r2 b m2 cb lb l2 ld] W fun e w' => e = .returned (.tuple #[.string X2, .int .i64 g2]) ∧ Hid (Below W0.heap.size W0 w')) ∧
      (Calls Tryz.prog 10 #[agg k1 n1 r1 a m1 ca la l1 lc, agg k2 n2 r2 b m2 cb lb l2 ld] W fun e w' => e = .returned (.bool q) ∧ Hid (Below W0.heap.size W0 w'))) := by
    intro z1 z2 z3 W hb
    have L := LS.out W hb
    have hNt : Nt.Has W W.heap.size dn an af ns fs := ⟨L.2.2.2.2.1, L.2.2.2.2.2, z3.1, z3.2.1, z3.2.2.1, z3.2.2.2⟩
    have f1 := few z1.2
    have f2 := few z2.2
    have d1 := S.depth_le_size
    have d2 := T.depth_le_size
    have hb1 := L.2.2.1
    have hOp' := HO.out.2.2.below hb1 HO.out.2.2.lt
    have hNm := HO.out.1.below hb1 HO.out.1.lt
    have hTb := Lib.tabBelow_of_tabIs HO.out.2.1 W hb1
    refine ⟨?_, ?_, ?_, ?_, ?_⟩
    · have h := Tryz.bcheck_any d dn S _ _ an cn af cf ns fs W (L.1.wider L.2.2.2.1) hNt hOp' (by omega) (by omega) f1.1
      rw [hk1, hn1, hr1, hn, hm, he1] at h
      exact h.mono fun _ _ q => ⟨q.1, hb.trans (q.2.mono hb.size)⟩
    · have h := Tryz.bcheck_any d' dn T _ _ an cn af cf ns fs W (L.2.1.wider L.2.2.2.1) hNt hOp' (by omega) (by omega) f2.1
      rw [hk2, hn2, hr2, hn, hm, he2] at h
      exact h.mono fun _ _ q => ⟨q.1, hb.trans (q.2.mono hb.size)⟩
    · have h := Tryz.btext_any d S _ _ W (L.1.wider L.2.2.2.1) hNm hTb (by omega) (by omega) f1.1 hiS (by omega)
      rw [hk1, hn1, hr1, hX1, hg1] at h
      exact h.mono fun _ _ q => ⟨q.1, hb.trans (q.2.mono hb.size)⟩
    · have h := Tryz.btext_any d' T _ _ W (L.2.1.wider L.2.2.2.1) hNm hTb (by omega) (by omega) f2.1 hiT (by omega)
      rw [hk2, hn2, hr2, hX2, hg2] at h
      exact h.mono fun _ _ q => ⟨q.1, hb.trans (q.2.mono hb.size)⟩
    · have h := Tryz.blockSame_any d d' S T _ _ _ _ W (L.1.wider L.2.2.2.1) (L.2.1.wider L.2.2.2.1) (by have := HO.out.1.lt; omega) (by omega) (by omega) f1.1
      rw [hk1, hn1, hr1, hk2, hn2, hr2] at h
      refine h.mono ?_
      rintro e w' ⟨⟨r, rfl, hr⟩, hb'⟩
      have : r = q := by rw [Bool.eq_iff_iff]; exact hr.trans hq.symm
      subst this
      exact ⟨rfl, hb.trans (hb'.mono hb.size)⟩
  have HW0 : Hid _ := hW0
  clear hN hF hS hT hiS hiT hO hTab hOp hn hm hk1 hn1 hr1 hm1 hl1 hk2 hn2 hr2 hm2 hl2 hW0 G0 G1 G2 BG he1 he2 hX1 hX2 hg1 hg2 hq
  have BR : Hid (Below W0.heap.size W0 W0) := Below.refl _ _
  have FIN : Hid (∀ W, Below W0.heap.size W0 W → Below w.heap.size w W) := fun W hb => (LS.out W hb).2.2.1
  clear LS HO A0 S0
  go_enter Tryz.func3, Tryz.ntmps3
  go_upto_region 1 with fail
  rw [HW0.out]
  clear HW0
  obtain ⟨⟨w0, w1⟩, ⟨x0, x1, x2, x3, x4⟩, y0, y1, y2, y3, y4⟩ := CF.out W0 BR.out
  go_wp2_with fail
  refine Calls.mono (LG.out _ BR.out) ?_
  rintro e Wl ⟨ql, rfl, Xl⟩
  clear w0 w1 x0 x1 x2 x3 x4 y0 y1 y2 y3 y4 LG
  cases ql with
  | true =>
    go_wp2_with fail
    refine Calls.mono (ALT.out _ Xl.out.1) ?_
    rintro e We ⟨rfl, Xe⟩
    have HF := FIN.out We Xe.out
    have HF' : Hid _ := HF
    clear HF
    go_wp2
    go_ret
    exact ⟨rfl, HF'.out⟩
  | false =>
  obtain ⟨⟨w0, w1⟩, ⟨x0, x1, x2, x3, x4⟩, y0, y1, y2, y3, y4⟩ := CF.out Wl Xl.out.1
  go_wp2_with fail
  refine Calls.mono (B1.out _ Xl.out.1) ?_
  rintro e W1 ⟨q1, rfl, Y1⟩
  clear w0 w1 x0 x1 x2 x3 x4 y0 y1 y2 y3 y4 B1
  cases q1 with
  | true =>
    go_wp2_with fail
    refine Calls.mono (ALT.out _ Y1.out.1) ?_
    rintro e We ⟨rfl, Xe⟩
    have HF := FIN.out We Xe.out
    have HF' : Hid _ := HF
    clear HF
    go_wp2
    go_ret
    exact ⟨rfl, HF'.out⟩
  | false =>
  obtain ⟨⟨w0, w1⟩, ⟨x0, x1, x2, x3, x4⟩, y0, y1, y2, y3, y4⟩ := CF.out W1 Y1.out.1
  go_wp2_with fail
  refine Calls.mono (B2.out _ Y1.out.1) ?_
  rintro e W2 ⟨q2, rfl, Y2⟩
  clear w0 w1 x0 x1 x2 x3 x4 y0 y1 y2 y3 y4 B2
  cases q2 with
  | true =>
    go_wp2_with fail
    refine Calls.mono (ALT.out _ Y2.out.1) ?_
    rintro e We ⟨rfl, Xe⟩
    have HF := FIN.out We Xe.out
    have HF' : Hid _ := HF
    clear HF
    go_wp2
    go_ret
    exact ⟨rfl, HF'.out⟩
  | false =>
  have HC : Hid _ := HSM.out (Y1.out.2 (by first | rfl | trivial)) (Y2.out.2 (by first | rfl | trivial)) (Xl.out.2 (by first | rfl | trivial))
  clear HSM Xl Y1
  obtain ⟨⟨w0, w1⟩, ⟨x0, x1, x2, x3, x4⟩, y0, y1, y2, y3, y4⟩ := CF.out W2 Y2.out.1
  go_wp2_with fail
  refine Calls.mono (HC.out _ Y2.out.1).1 ?_
  rintro e W3 ⟨rfl, Y3⟩
  clear w0 w1 x0 x1 x2 x3 x4 y0 y1 y2 y3 y4
  obtain ⟨⟨w0, w1⟩, ⟨x0, x1, x2, x3, x4⟩, y0, y1, y2, y3, y4⟩ := CF.out W3 Y3.out
  go_wp2_with fail
  refine Calls.mono (HC.out _ Y3.out).2.1 ?_
  rintro e W4 ⟨rfl, Y4⟩
  clear w0 w1 x0 x1 x2 x3 x4 y0 y1 y2 y3 y4
  obtain ⟨⟨w0, w1⟩, ⟨x0, x1, x2, x3, x4⟩, y0, y1, y2, y3, y4⟩ := CF.out W4 Y4.out
  go_wp2_with fail
  refine Calls.mono (HC.out _ Y4.out).2.2.1 ?_
  rintro e W5 ⟨rfl, Y5⟩
  clear w0 w1 x0 x1 x2 x3 x4 y0 y1 y2 y3 y4
  obtain ⟨⟨w0, w1⟩, ⟨x0, x1, x2, x3, x4⟩, y0, y1, y2, y3, y4⟩ := CF.out W5 Y5.out
  go_wp2_with fail
  refine Calls.mono (HC.out _ Y5.out).2.2.2.1 ?_
  rintro e W6 ⟨rfl, Y6⟩
  clear w0 w1 x0 x1 x2 x3 x4 y0 y1 y2 y3 y4
  by_cases hbad : (e1 ≠ 0 ∧ e1 ≠ 8) ∨ (e2 ≠ 0 ∧ e2 ≠ 8)
  · obtain ⟨f1, f2⟩ | ⟨f1, f3, f4⟩ | ⟨f1, f2, f3, f4⟩ : ((e1 != 0) = true ∧ (e1 != 8) = true) ∨ ((e1 != 0) = false ∧ (e2 != 0) = true ∧ (e2 != 8) = true) ∨ ((e1 != 0) = true ∧ (e1 != 8) = false ∧ (e2 != 0) = true ∧ (e2 != 8) = true) := by
      by_cases a0 : e1 = 0 <;> by_cases a8 : e1 = 8 <;> simp [a0, a8] <;> omega
    all_goals
      clear hbad HE
      go_wp2_with fail
      refine Calls.mono (ALT.out _ Y6.out) ?_
      rintro e We ⟨rfl, Xe⟩
      have HF := FIN.out We Xe.out
      have HF' : Hid _ := HF
      clear HF
      go_wp2
      go_ret
      exact ⟨rfl, HF'.out⟩
  · obtain ⟨z1, z2, z3⟩ := HE.out (by omega) (by omega)
    subst z1
    subst z2
    obtain ⟨⟨w0, w1⟩, ⟨x0, x1, x2, x3, x4⟩, y0, y1, y2, y3, y4⟩ := CF.out W6 Y6.out
    obtain ⟨f1, f3⟩ | ⟨f1, f2, f3⟩ | ⟨f1, f3, f4⟩ | ⟨f1, f2, f3, f4⟩ : ((e1 != 0) = false ∧ (e2 != 0) = false) ∨ ((e1 != 0) = true ∧ (e1 != 8) = false ∧ (e2 != 0) = false) ∨ ((e1 != 0) = false ∧ (e2 != 0) = true ∧ (e2 != 8) = false) ∨ ((e1 != 0) = true ∧ (e1 != 8) = false ∧ (e2 != 0) = true ∧ (e2 != 8) = false) := by
      by_cases a0 : e1 = 0 <;> by_cases a8 : e1 = 8 <;> by_cases b0 : e2 = 0 <;> by_cases b8 : e2 = 8 <;> simp [a0, a8, b0, b8] <;> omega
    all_goals
      clear hbad HE
      go_wp2_with fail
      refine Calls.mono (HC.out _ Y6.out).2.2.2.2 ?_
      rintro e W7 ⟨rfl, Y7⟩
      clear w0 w1 x0 x1 x2 x3 x4 y0 y1 y2 y3 y4 HC
      cases q
      all_goals
        go_wp2_with fail
        refine Calls.mono (ALT.out _ Y7.out) ?_
        rintro e We ⟨rfl, Xe⟩
        have HF := FIN.out We Xe.out
        have HF' : Hid _ := HF
        clear HF
        go_wp2
        go_ret
        exact ⟨rfl, HF'.out⟩

end Go.Proofs.YtemccpfgkbhahaaGreatDoor.BlockApart
