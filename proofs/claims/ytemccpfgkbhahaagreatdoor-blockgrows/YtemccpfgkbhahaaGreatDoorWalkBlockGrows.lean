/-
  The statement BlockGrows walked.
-/
import Derived.Test.YtemccpfgkbhahaaGreatDoorAllBlApart
import Derived.Test.YtemccpfgkbhahaaGreatDoorAllBlGrow
import Derived.Test.YtemccpfgkbhahaaGreatDoorAllBlLawRef
import Derived.Test.YtemccpfgkbhahaaGreatDoorBlRefDepth
import Derived.Test.YtemccpfgkbhahaaGreatDoorNtTake
namespace Go.Proofs.YtemccpfgkbhahaaGreatDoor.BlockGrows
open Go.RowKit

/-- A block as a value. -/
abbrev agg (k n r : Int) (a : Option Addr) (m c : Nat) (la : Option Addr) (ml lc : Nat) : Value := .agg #[.int .i64 k, .int .i64 n, .int .i64 r, .slice a m c, .slice la ml lc]
theorem row_few {S T : Bl} {p : Int → Int → Int → List (Int × Int × Int) → Bool} (h0 : p 3 0 0 [] = true) (h1 : S.allP p = true) (h2 : T.allP p = true) : (Bl.row S T).allP p = true := by
  rw [Bl.row, Bl.allP, Bl.allPs, Bl.allPs, Bl.allPs, h0, h1, h2]; rfl

theorem leaves_le (ns : List Nd) (fs : List Fl) (T : Bl) : (T.leavesR ns fs).1 ≤ ns.length := by
  simp only [Bl.leavesR]
  split
  · have h := List.length_filter_le (fun i : Nat => (((T.standR ns fs).1[i]?).getD false || decide (T.kind = 10)) && Nt.ofKinds ns (i : Int) [3, 4, 8]) (List.range ns.length)
    rw [List.length_range] at h
    exact h
  · omega

set_option maxRecDepth 100000 in
set_option maxHeartbeats 32000000 in
theorem walk (an : Option Addr) (cn : Nat) (af : Option Addr) (cf : Nat) (ns : List Nd) (fs : List Fl) (dn d d' : Nat) (S T : Bl) (u lu v lv : Value) (w : World) (hN : Nt.Nds w w.heap.size dn an ns) (hF : Nt.Fls w w.heap.size dn af fs) (hS : Bl.Lies w w.heap.size d u lu S) (hT : Bl.Lies w w.heap.size d' v lv T) (hO : Bk.Names w) (hTab : Lib.TabIs Tryz.prog w "internal/strconv.uint64pow10" .u64 Lib.pow10Tab) (hOp : Tk.Ops w) :
    Calls Tryz.prog 4 #[.agg #[.slice an ns.length cn, .slice af fs.length cf], .agg #[.int .i64 S.kind, .int .i64 S.node, .int .i64 S.arg, u, lu], .agg #[.int .i64 T.kind, .int .i64 T.node, .int .i64 T.arg, v, lv]] w fun e w' => e = .returned (.bool true) ∧ Below w.heap.size w w' := by
  obtain ⟨a, ca, rfl⟩ := hS.shape
  obtain ⟨la, lc, rfl⟩ := hS.links.shape
  obtain ⟨b, cb, rfl⟩ := hT.shape
  obtain ⟨lb, ld, rfl⟩ := hT.links.shape
  obtain ⟨n, hn⟩ : ∃ z, ns.length = z := ⟨_, rfl⟩
  obtain ⟨m, hm⟩ : ∃ z, fs.length = z := ⟨_, rfl⟩
  obtain ⟨k1, hk1⟩ : ∃ z, S.kind = z := ⟨_, rfl⟩
  obtain ⟨n1, hn1⟩ : ∃ z, S.node = z := ⟨_, rfl⟩
  obtain ⟨r1, hr1⟩ : ∃ z, S.arg = z := ⟨_, rfl⟩
  obtain ⟨m1, hm1⟩ : ∃ z, S.ks.length = z := ⟨_, rfl⟩
  obtain ⟨l1, hl1⟩ : ∃ z, S.ls.length = z := ⟨_, rfl⟩
  obtain ⟨k2, hk2⟩ : ∃ z, T.kind = z := ⟨_, rfl⟩
  obtain ⟨n2, hn2⟩ : ∃ z, T.node = z := ⟨_, rfl⟩
  obtain ⟨r2, hr2⟩ : ∃ z, T.arg = z := ⟨_, rfl⟩
  obtain ⟨m2, hm2⟩ : ∃ z, T.ks.length = z := ⟨_, rfl⟩
  obtain ⟨l2, hl2⟩ : ∃ z, T.ls.length = z := ⟨_, rfl⟩
  rw [hn, hm, hk1, hn1, hr1, hm1, hl1, hk2, hn2, hr2, hm2, hl2]
  rw [hm1, hl1] at hS
  rw [hm2, hl2] at hT
  obtain ⟨W0, hW0⟩ : ∃ z, ((w.alloc (.cells #[.slice an n cn, .slice af m cf] 25)).alloc (.cells #[.int .i64 k1, .int .i64 n1, .int .i64 r1, .slice a m1 ca, .slice la l1 lc] 29)).alloc (.cells #[.int .i64 k2, .int .i64 n2, .int .i64 r2, .slice b m2 cb, .slice lb l2 ld] 29) = z := ⟨_, rfl⟩
  have A0 : Hid (Below w.heap.size w W0) := by show Below _ _ _; rw [← hW0]; exact (((Below.refl _ w).alloc (Nat.le_refl _) _).alloc (by simp) _).alloc (by simp; omega) _
  have S0 : Hid (W0.heap.size = w.heap.size + 3) := by show _ = _; rw [← hW0]; simp
  have G0 : Hid (W0.heap[w.heap.size]? = some (.cells #[.slice an n cn, .slice af m cf] 25 (0, 0))) := by show _ = _; rw [← hW0, Below.heap_alloc _ _ _ (by simp; omega), Below.heap_alloc _ _ _ (by simp)]; exact heap_alloc_new w _
  have G1 : Hid (W0.heap[w.heap.size + 1]? = some (.cells #[.int .i64 k1, .int .i64 n1, .int .i64 r1, .slice a m1 ca, .slice la l1 lc] 29 (0, 0))) := by
    show _ = _
    rw [← hW0, Below.heap_alloc _ _ _ (by simp)]
    have := heap_alloc_new (w.alloc (.cells #[.slice an n cn, .slice af m cf] 25)) (.cells #[.int .i64 k1, .int .i64 n1, .int .i64 r1, .slice a m1 ca, .slice la l1 lc] 29)
    simpa using this
  have G2 : Hid (W0.heap[w.heap.size + 1 + 1]? = some (.cells #[.int .i64 k2, .int .i64 n2, .int .i64 r2, .slice b m2 cb, .slice lb l2 ld] 29 (0, 0))) := by
    show _ = _
    rw [← hW0]
    have := heap_alloc_new ((w.alloc (.cells #[.slice an n cn, .slice af m cf] 25)).alloc (.cells #[.int .i64 k1, .int .i64 n1, .int .i64 r1, .slice a m1 ca, .slice la l1 lc] 29)) (.cells #[.int .i64 k2, .int .i64 n2, .int .i64 r2, .slice b m2 cb, .slice lb l2 ld] 29)
    simpa using this
  have CF : Hid (∀ W, Below W0.heap.size W0 W → (W.cell? ⟨w.heap.size, 0, none⟩ = some (.slice an n cn) ∧ W.cell? ⟨w.heap.size, 1, none⟩ = some (.slice af m cf)) ∧ (W.cell? ⟨w.heap.size + 1, 0, none⟩ = some (.int .i64 k1) ∧ W.cell? ⟨w.heap.size + 1, 1, none⟩ = some (.int .i64 n1) ∧ W.cell? ⟨w.heap.size + 1, 2, none⟩ = some (.int .i64 r1) ∧ W.cell? ⟨w.heap.size + 1, 3, none⟩ = some (.slice a m1 ca) ∧ W.cell? ⟨w.heap.size + 1, 4, none⟩ = some (.slice la l1 lc)) ∧
      W.cell? ⟨w.heap.size + 1 + 1, 0, none⟩ = some (.int .i64 k2) ∧ W.cell? ⟨w.heap.size + 1 + 1, 1, none⟩ = some (.int .i64 n2) ∧ W.cell? ⟨w.heap.size + 1 + 1, 2, none⟩ = some (.int .i64 r2) ∧ W.cell? ⟨w.heap.size + 1 + 1, 3, none⟩ = some (.slice b m2 cb) ∧ W.cell? ⟨w.heap.size + 1 + 1, 4, none⟩ = some (.slice lb l2 ld)) := fun W hb => by
    have e0 := (hb.block w.heap.size (by have := S0.out; omega)).trans G0.out
    exact ⟨⟨by simp [World.cell?, e0], by simp [World.cell?, e0]⟩, Bk.box5 ((hb.block _ (by have := S0.out; omega)).trans G1.out), Bk.box5 ((hb.block _ (by have := S0.out; omega)).trans G2.out)⟩
  have LS : Hid (∀ W, Below W0.heap.size W0 W → Bl.Lies W w.heap.size d (.slice a m1 ca) (.slice la l1 lc) S ∧ Bl.Lies W w.heap.size d' (.slice b m2 cb) (.slice lb l2 ld) T ∧ Below w.heap.size w W ∧ w.heap.size ≤ W.heap.size ∧ Nt.Nds W W.heap.size dn an ns ∧ Nt.Fls W W.heap.size dn af fs) := fun W hb => by
    have h := A0.out.trans (hb.mono (by have := S0.out; omega))
    exact ⟨hS.below h, hT.below h, h, h.size, (hN.below h).wider h.size, (hF.below h).wider h.size⟩
  have HO : Hid (Bk.Names w ∧ Lib.TabIs Tryz.prog w "internal/strconv.uint64pow10" .u64 Lib.pow10Tab ∧ Tk.Ops w) := ⟨hO, hTab, hOp⟩
  have ALT : Hid (∀ W, Below W0.heap.size W0 W → Calls Tryz.prog 7 #[] W fun e w' => e = .returned (.bool true) ∧ Hid (Below W0.heap.size W0 w')) := fun W hb => by
    have h := (LS.out W hb).2.2.1
    exact (Tryz.balt_any W (HO.out.1.below h HO.out.1.lt) (Lib.tabBelow_of_tabIs HO.out.2.1 W h)).mono fun _ _ q => ⟨q.1, hb.trans (q.2.mono hb.size)⟩
  have LG : Hid (∀ W, Below W0.heap.size W0 W → Calls Tryz.prog 5 #[.agg #[.slice an n cn, .slice af m cf]] W fun e w' => ∃ q, e = .returned (.bool q) ∧ Hid (Below W0.heap.size W0 w' ∧ (q = false → ns.length ≤ 100 ∧ fs.length ≤ 100 ∧ (∀ x, x ∈ ns → x.t.size ≤ 2147483647) ∧ ∀ x, x ∈ fs → x.c.size ≤ 2147483647))) := fun W hb => by
    have h := Tryz.nlarge_any an cn af cf dn ns fs W (LS.out W hb).2.2.2.2.1 (LS.out W hb).2.2.2.2.2
    rw [hn, hm] at h
    refine h.mono ?_
    rintro e w' ⟨hb', rfl | ⟨rfl, h1, h2, h3, h4⟩⟩
    · exact ⟨true, rfl, hb.trans (hb'.mono hb.size), fun h => by cases h⟩
    · exact ⟨false, rfl, hb.trans (hb'.mono hb.size), fun _ => ⟨by omega, by omega, fun x hx => by have := h3 x hx; omega, fun x hx => by have := h4 x hx; omega⟩⟩
  have BG : Hid (∀ (X : Bl) (dx : Nat) (va vb : Value) (W : World), Below W0.heap.size W0 W → Bl.Lies W w.heap.size dx va vb X → Calls Tryz.prog 6 #[.agg #[.int .i64 X.kind, .int .i64 X.node, .int .i64 X.arg, va, vb], .pointer (some ⟨W.heap.size, 0, none⟩), .int .i64 1] (W.alloc (.cells #[.int .i64 200] 34)) fun e w' => ∃ q, e = .returned (.bool q) ∧ Hid (Below W0.heap.size W0 w' ∧ (q = false → X.size ≤ 200 ∧ X.allP (fun _ _ _ ls => decide (ls.length ≤ 100)) = true))) := by
    intro X dx va vb W hb hX
    have hw := (LS.out W hb).2.2.2.1
    have A1 : Below W.heap.size W (W.alloc (.cells #[.int .i64 200] 34)) := (Below.refl _ W).alloc (Nat.le_refl _) _
    have hR : Bk.Rm W.heap.size ((200 : Nat) : Int) (W.alloc (.cells #[.int .i64 200] 34)) := heap_alloc_new W _
    have h := Tryz.big_any dx X va vb 200 W.heap.size 1 w.heap.size (W.alloc (.cells #[.int .i64 200] 34)) (hX.below (A1.mono hw)) hw (by simp; omega) hR (by omega) (by omega)
    refine h.mono ?_
    rintro e w' ⟨hbt, hend⟩
    have hbl : Below W0.heap.size W0 w' := by
      have h1 : Below W0.heap.size W0 (W.alloc (.cells #[.int .i64 200] 34)) := hb.trans (A1.mono hb.size)
      exact ⟨hbt.os.trans h1.os, hbt.tape.trans h1.tape, hbt.output.trans h1.output, Nat.le_trans h1.size hbt.size, fun i hi => (hbt.block i (Nat.lt_of_lt_of_le hi h1.size) (by have := hb.size; omega)).trans (h1.block i hi)⟩
    rcases hend with ⟨rfl, h1, h2, _⟩ | rfl
    · exact ⟨false, rfl, hbl, fun _ => ⟨h1, h2⟩⟩
    · exact ⟨true, rfl, hbl, fun h => by cases h⟩
  have B1 : Hid (∀ W, Below W0.heap.size W0 W → Calls Tryz.prog 6 #[agg k1 n1 r1 a m1 ca la l1 lc, .pointer (some ⟨W.heap.size, 0, none⟩), .int .i64 1] (W.alloc (.cells #[.int .i64 200] 34)) fun e w' => ∃ q, e = .returned (.bool q) ∧ Hid (Below W0.heap.size W0 w' ∧ (q = false → S.size ≤ 200 ∧ S.allP (fun _ _ _ ls => decide (ls.length ≤ 100)) = true))) := fun W hb => by
    have h := BG.out S d _ _ W hb (LS.out W hb).1
    rw [hk1, hn1, hr1] at h
    exact h
  have B2 : Hid (∀ W, Below W0.heap.size W0 W → Calls Tryz.prog 6 #[agg k2 n2 r2 b m2 cb lb l2 ld, .pointer (some ⟨W.heap.size, 0, none⟩), .int .i64 1] (W.alloc (.cells #[.int .i64 200] 34)) fun e w' => ∃ q, e = .returned (.bool q) ∧ Hid (Below W0.heap.size W0 w' ∧ (q = false → T.size ≤ 200 ∧ T.allP (fun _ _ _ ls => decide (ls.length ≤ 100)) = true))) := fun W hb => by
    have h := BG.out T d' _ _ W hb (LS.out W hb).2.1
    rw [hk2, hn2, hr2] at h
    exact h
  obtain ⟨R1, hR1⟩ : ∃ z, S.leavesR ns fs = z := ⟨_, rfl⟩
  obtain ⟨R2, hR2⟩ : ∃ z, T.leavesR ns fs = z := ⟨_, rfl⟩
  obtain ⟨R3, hR3⟩ : ∃ z, (Bl.row S T).leavesR ns fs = z := ⟨_, rfl⟩
  obtain ⟨sz, hsz⟩ : ∃ z, (Bl.row S T).size = z := ⟨_, rfl⟩
  obtain ⟨dp, hdp⟩ : ∃ z, (Bl.row S T).depth = z := ⟨_, rfl⟩
  obtain ⟨sh, hsh⟩ : ∃ z, ((List.range ns.length).any fun i : Nat => decide (0 < S.times fs i) && decide (0 < T.times fs i)) = z := ⟨_, rfl⟩
  have HG := Bl.grows ns fs S T
  rw [hR1, hR2, hR3, hsz, hdp, hk1, hk2, hsh] at HG
  obtain ⟨L1, e1⟩ := R1
  obtain ⟨L2, e2⟩ := R2
  obtain ⟨L3, e3⟩ := R3
  have HGR : Hid _ := HG
  have HLE0 : L1 ≤ ns.length ∧ L2 ≤ ns.length := ⟨by have := leaves_le ns fs S; rw [hR1] at this; exact this, by have := leaves_le ns fs T; rw [hR2] at this; exact this⟩
  have HSH : Hid (((List.range ns.length).any fun i : Nat => decide (0 < S.times fs i) && decide (0 < T.times fs i)) = sh ∧ ns.length = n) := ⟨hsh, hn⟩
  -- what is called once all is known to be small
  have HSM : Hid (S.size ≤ 200 ∧ S.allP (fun _ _ _ ls => decide (ls.length ≤ 100)) = true → T.size ≤ 200 ∧ T.allP (fun _ _ _ ls => decide (ls.length ≤ 100)) = true → ns.length ≤ 100 ∧ fs.length ≤ 100 ∧ (∀ x, x ∈ ns → x.t.size ≤ 2147483647) ∧ (∀ x, x ∈ fs → x.c.size ≤ 2147483647) → ∀ W, Below W0.heap.size W0 W →
      (Calls Tryz.prog 11 #[.agg #[.slice an n cn, .slice af m cf], agg k1 n1 r1 a m1 ca la l1 lc] W fun e w' => ∃ pa pc, e = .returned (.tuple #[.slice pa L1 pc, .int .i64 e1]) ∧ Hid (Below W0.heap.size W0 w')) ∧
      (Calls Tryz.prog 11 #[.agg #[.slice an n cn, .slice af m cf], agg k2 n2 r2 b m2 cb lb l2 ld] W fun e w' => ∃ pa pc, e = .returned (.tuple #[.slice pa L2 pc, .int .i64 e2]) ∧ Hid (Below W0.heap.size W0 w')) ∧
      (∀ g, W.heap[g]? = some (.cells #[.int .i64 k1, .int .i64 n1, .int .i64 r1, .slice a m1 ca, .slice la l1 lc, .int .i64 k2, .int .i64 n2, .int .i64 r2, .slice b m2 cb, .slice lb l2 ld] 29 (0, 0)) → w.heap.size ≤ g →
        (Calls Tryz.prog 11 #[.agg #[.slice an n cn, .slice af m cf], agg 3 0 0 (some ⟨g, 0, none⟩) 2 2 none 0 0] W fun e w' => ∃ pa pc, e = .returned (.tuple #[.slice pa L3 pc, .int .i64 e3]) ∧ Hid (Below W.heap.size W w')) ∧
        (Calls Tryz.prog 12 #[agg 3 0 0 (some ⟨g, 0, none⟩) 2 2 none 0 0] W fun e w' => e = .returned (.int .i64 sz) ∧ Hid (Below W.heap.size W w')) ∧
        (Calls Tryz.prog 14 #[agg 3 0 0 (some ⟨g, 0, none⟩) 2 2 none 0 0] W fun e w' => ∃ a' c' p' c'', e = .returned (agg 3 0 0 a' 2 c' p' 0 c'') ∧ Hid (Below W.heap.size W w' ∧ ∃ dd, Bl.Lies w' w'.heap.size dd (.slice a' 2 c') (.slice p' 0 c'') (Bl.row S T))))) := by
    intro z1 z2 z3 W hb
    have L := LS.out W hb
    have hNt : Nt.Has W W.heap.size dn an af ns fs := ⟨L.2.2.2.2.1, L.2.2.2.2.2, z3.1, z3.2.1, z3.2.2.1, z3.2.2.2⟩
    have f1 := (BlockApart.few z1.2).1
    have f2 := (BlockApart.few z2.2).1
    have d1 := S.depth_le_size
    have d2 := T.depth_le_size
    have d3 := (Bl.row S T).depth_le_size
    have s3 := Bl.row_size S T
    have hb1 := L.2.2.1
    have hOp' := HO.out.2.2.below hb1 HO.out.2.2.lt
    refine ⟨?_, ?_, fun g hg hgw => ?_⟩
    · have h := Tryz.bleaves_any d dn S _ _ an cn af cf ns fs W (L.1.wider L.2.2.2.1) hNt hOp' (by omega) (by omega) f1
      rw [hk1, hn1, hr1, hn, hm, hR1] at h
      refine h.mono ?_
      rintro e w' ⟨⟨pa, pc, rfl⟩, q⟩
      exact ⟨pa, pc, rfl, hb.trans (q.mono hb.size)⟩
    · have h := Tryz.bleaves_any d' dn T _ _ an cn af cf ns fs W (L.2.1.wider L.2.2.2.1) hNt hOp' (by omega) (by omega) f2
      rw [hk2, hn2, hr2, hn, hm, hR2] at h
      refine h.mono ?_
      rintro e w' ⟨⟨pa, pc, rfl⟩, q⟩
      exact ⟨pa, pc, rfl, hb.trans (q.mono hb.size)⟩
    · have hX : Bl.Lies W W.heap.size (d + d' + 1) (.slice (some ⟨g, 0, none⟩) 2 2) (.slice none 0 0) (Bl.row S T) := Bl.row_lies (L.1.wider L.2.2.2.1) (L.2.1.wider L.2.2.2.1) (Array.getElem?_eq_some_iff.1 hg).1 (by rw [hk1, hn1, hr1, hk2, hn2, hr2]; exact hg)
      refine ⟨?_, ?_, ?_⟩
      · have h := Tryz.bleaves_any _ dn (Bl.row S T) _ _ an cn af cf ns fs W hX hNt hOp' (by omega) (by omega) (row_few rfl f1 f2)
        rw [hn, hm, hR3] at h
        refine Calls.mono (show Calls Tryz.prog 11 #[.agg #[.slice an n cn, .slice af m cf], agg 3 0 0 (some ⟨g, 0, none⟩) 2 2 none 0 0] W _ from h) ?_
        rintro e w' ⟨⟨pa, pc, rfl⟩, q⟩
        exact ⟨pa, pc, rfl, q⟩
      · have h := Tryz.bsize_any _ (Bl.row S T) _ _ W hX (by have := HO.out.1.lt; omega) (by omega) (by omega) (row_few rfl f1 f2)
        rw [hsz] at h
        exact Calls.mono (show Calls Tryz.prog 12 #[agg 3 0 0 (some ⟨g, 0, none⟩) 2 2 none 0 0] W _ from h) fun _ _ q => ⟨q.1, q.2⟩
      · have h := Bk.refC _ (Bl.row S T) _ _ W hX (by omega) (row_few rfl z1.2 z2.2)
        refine Calls.mono (show Calls Tryz.prog 14 #[agg 3 0 0 (some ⟨g, 0, none⟩) 2 2 none 0 0] W _ from h) ?_
        rintro e w' ⟨hb', a', c', p', c'', dd, rfl, hl⟩
        exact ⟨a', c', p', c'', rfl, hb', dd, hl.lies fun k hk => hk.2⟩
  have CD : Hid (S.size ≤ 200 → T.size ≤ 200 → ∀ W a' c' p' c'', (∃ dd, Bl.Lies W W.heap.size dd (.slice a' 2 c') (.slice p' 0 c'') (Bl.row S T)) → Calls Tryz.prog 13 #[agg 3 0 0 a' 2 c' p' 0 c''] W fun e w' => e = .returned (.int .i64 dp) ∧ Hid (Below W.heap.size W w')) := by
    rintro z1 z2 W a' c' p' c'' ⟨dd, hl⟩
    have s3 := Bl.row_size S T
    have h := Tryz.refBDepth_any dd (Bl.row S T) _ _ W hl (by omega)
    rw [hdp] at h
    exact Calls.mono (show Calls Tryz.prog 13 #[agg 3 0 0 a' 2 c' p' 0 c''] W _ from h) fun _ _ q => ⟨q.1, q.2⟩
  have C2 : Hid (S.size ≤ 200 ∧ S.allP (fun _ _ _ ls => decide (ls.length ≤ 100)) = true → ∀ W, Below W0.heap.size W0 W → Calls Tryz.prog 14 #[agg k1 n1 r1 a m1 ca la l1 lc] W fun e w' => ∃ a' c' p' c'', e = .returned (agg k1 n1 r1 a' m1 c' p' l1 c'') ∧ Hid (Below W0.heap.size W0 w' ∧ ∃ dd, ∀ W', Below w'.heap.size w' W' → Bl.Lies W' w'.heap.size dd (.slice a' m1 c') (.slice p' l1 c'') S)) := fun z W hb => by
    have h := Bk.refC d S _ _ W ((LS.out W hb).1.wider (LS.out W hb).2.2.2.1) (by omega) z.2
    rw [hk1, hn1, hr1, hm1, hl1] at h
    refine h.mono ?_
    rintro e w' ⟨hb', a', c', p', c'', dd, rfl, hl⟩
    exact ⟨a', c', p', c'', rfl, hb.trans (hb'.mono hb.size), dd, fun W' hW' => (hl.lies fun k hk => hk.2).below hW'⟩
  have C3 : Hid (T.size ≤ 200 ∧ T.allP (fun _ _ _ ls => decide (ls.length ≤ 100)) = true → ∀ W, Below W0.heap.size W0 W → Calls Tryz.prog 14 #[agg k2 n2 r2 b m2 cb lb l2 ld] W fun e w' => ∃ a' c' p' c'', e = .returned (agg k2 n2 r2 a' m2 c' p' l2 c'') ∧ Hid (Below W0.heap.size W0 w' ∧ ∃ dd, ∀ W', Below w'.heap.size w' W' → Bl.Lies W' w'.heap.size dd (.slice a' m2 c') (.slice p' l2 c'') T)) := fun z W hb => by
    have h := Bk.refC d' T _ _ W ((LS.out W hb).2.1.wider (LS.out W hb).2.2.2.1) (by omega) z.2
    rw [hk2, hn2, hr2, hm2, hl2] at h
    refine h.mono ?_
    rintro e w' ⟨hb', a', c', p', c'', dd, rfl, hl⟩
    exact ⟨a', c', p', c'', rfl, hb.trans (hb'.mono hb.size), dd, fun W' hW' => (hl.lies fun k hk => hk.2).below hW'⟩
  have T1 : Hid (S.size ≤ 200 → fs.length ≤ 100 → ∀ (i : Nat) (W4 : World) (a4 : Option Addr) (c4 : Nat) (p4 : Option Addr) (d4 : Nat), (∃ dd, ∀ W', Below W4.heap.size W4 W' → Bl.Lies W' W4.heap.size dd (.slice a4 m1 c4) (.slice p4 l1 d4) S) → Below W0.heap.size W0 W4 → ∀ W, Below W4.heap.size W4 W →
      Calls Tryz.prog 15 #[.agg #[.slice an n cn, .slice af m cf], agg k1 n1 r1 a4 m1 c4 p4 l1 d4, .int .i64 (i : Int)] W fun e w' => e = .returned (.int .i64 (S.times fs i : Int)) ∧ Hid (Below W0.heap.size W0 w')) := by
    rintro z1 z2 i W4 a4 c4 p4 d4 ⟨dd, hl⟩ h04 W hW
    have hb : Below W0.heap.size W0 W := h04.trans (hW.mono h04.size)
    have h := Tryz.refTimes_any (i : Int) an n cn af cf dn fs dd S _ _ W ((hl W hW).wider hW.size) (LS.out W hb).2.2.2.2.2 (by omega) z2
    rw [hk1, hn1, hr1, hm] at h
    exact h.mono fun _ _ q => ⟨q.1, hb.trans (q.2.mono hb.size)⟩
  have T2 : Hid (T.size ≤ 200 → fs.length ≤ 100 → ∀ (i : Nat) (W4 : World) (a4 : Option Addr) (c4 : Nat) (p4 : Option Addr) (d4 : Nat), (∃ dd, ∀ W', Below W4.heap.size W4 W' → Bl.Lies W' W4.heap.size dd (.slice a4 m2 c4) (.slice p4 l2 d4) T) → Below W0.heap.size W0 W4 → ∀ W, Below W4.heap.size W4 W →
      Calls Tryz.prog 15 #[.agg #[.slice an n cn, .slice af m cf], agg k2 n2 r2 a4 m2 c4 p4 l2 d4, .int .i64 (i : Int)] W fun e w' => e = .returned (.int .i64 (T.times fs i : Int)) ∧ Hid (Below W0.heap.size W0 w')) := by
    rintro z1 z2 i W4 a4 c4 p4 d4 ⟨dd, hl⟩ h04 W hW
    have hb : Below W0.heap.size W0 W := h04.trans (hW.mono h04.size)
    have h := Tryz.refTimes_any (i : Int) an n cn af cf dn fs dd T _ _ W ((hl W hW).wider hW.size) (LS.out W hb).2.2.2.2.2 (by omega) z2
    rw [hk2, hn2, hr2, hm] at h
    exact h.mono fun _ _ q => ⟨q.1, hb.trans (q.2.mono hb.size)⟩
  have HW0 : Hid _ := hW0
  clear hN hF hS hT hO hTab hOp hn hm hk1 hn1 hr1 hm1 hl1 hk2 hn2 hr2 hm2 hl2 hW0 G0 G1 G2 BG hR1 hR2 hR3 hsz hdp hsh HG
  have BR : Hid (Below W0.heap.size W0 W0) := Below.refl _ _
  have FIN : Hid (∀ W, Below W0.heap.size W0 W → Below w.heap.size w W) := fun W hb => (LS.out W hb).2.2.1
  clear LS HO
  go_enter Tryz.func4, Tryz.ntmps4
  go_upto_region 1 with fail
  rw [HW0.out]
  clear HW0
  obtain ⟨⟨w0, w1⟩, ⟨x0, x1, x2, x3, x4⟩, y0, y1, y2, y3, y4⟩ := CF.out W0 BR.out
  go_wp2_with fail
  refine Calls.mono (LG.out _ BR.out) ?_
  rintro e Wl ⟨ql, rfl, Xl⟩
  clear w0 w1 x0 x1 x2 x3 x4 y0 y1 y2 y3 y4
  clear LG
  cases ql with
  | true =>
    go_wp2_with fail
    refine Calls.mono (ALT.out _ Xl.out.1) ?_
    rintro e We ⟨rfl, Xe⟩
    have HF := FIN.out We Xe.out
    have HF' : Hid _ := HF
    clear HF
    go_wp2
    go_ret
    exact ⟨rfl, HF'.out⟩
  | false =>
  obtain ⟨⟨w0, w1⟩, ⟨x0, x1, x2, x3, x4⟩, y0, y1, y2, y3, y4⟩ := CF.out Wl Xl.out.1
  go_wp2_with fail
  refine Calls.mono (B1.out _ Xl.out.1) ?_
  rintro e W1 ⟨q1, rfl, Y1⟩
  clear w0 w1 x0 x1 x2 x3 x4 y0 y1 y2 y3 y4
  clear B1
  cases q1 with
  | true =>
    go_wp2_with fail
    refine Calls.mono (ALT.out _ Y1.out.1) ?_
    rintro e We ⟨rfl, Xe⟩
    have HF := FIN.out We Xe.out
    have HF' : Hid _ := HF
    clear HF
    go_wp2
    go_ret
    exact ⟨rfl, HF'.out⟩
  | false =>
  obtain ⟨⟨w0, w1⟩, ⟨x0, x1, x2, x3, x4⟩, y0, y1, y2, y3, y4⟩ := CF.out W1 Y1.out.1
  go_wp2_with fail
  refine Calls.mono (B2.out _ Y1.out.1) ?_
  rintro e W2 ⟨q2, rfl, Y2⟩
  clear w0 w1 x0 x1 x2 x3 x4 y0 y1 y2 y3 y4
  clear B2
  cases q2 with
  | true =>
    go_wp2_with fail
    refine Calls.mono (ALT.out _ Y2.out.1) ?_
    rintro e We ⟨rfl, Xe⟩
    have HF := FIN.out We Xe.out
    have HF' : Hid _ := HF
    clear HF
    go_wp2
    go_ret
    exact ⟨rfl, HF'.out⟩
  | false =>
  have ZS : Hid _ := Y1.out.2 (by first | rfl | trivial)
  have ZT : Hid _ := Y2.out.2 (by first | rfl | trivial)
  have ZN : Hid _ := Xl.out.2 (by first | rfl | trivial)
  have HC : Hid _ := HSM.out ZS.out ZT.out ZN.out
  have HD : Hid _ := CD.out ZS.out.1 ZT.out.1
  have D2 : Hid _ := C2.out ZS.out
  have D3 : Hid _ := C3.out ZT.out
  have E1 : Hid _ := T1.out ZS.out.1 ZN.out.2.1
  have E2 : Hid _ := T2.out ZT.out.1 ZN.out.2.1
  have hn100 : n ≤ 100 := by have := ZN.out.1; have := HSH.out.2; omega
  have HLE : Hid (L1 ≤ ns.length ∧ L2 ≤ ns.length ∧ ns.length ≤ 100) := ⟨HLE0.1, HLE0.2, ZN.out.1⟩
  clear HLE0
  have Y2' : Hid (Below W0.heap.size W0 W2) := Y2.out.1
  clear HSM CD C2 C3 T1 T2 Xl Y1 Y2 ZS ZT ZN
  obtain ⟨⟨w0, w1⟩, ⟨x0, x1, x2, x3, x4⟩, y0, y1, y2, y3, y4⟩ := CF.out W2 Y2'.out
  by_cases hk3 : k1 = 3 ∨ k2 = 3
  · obtain f1 | ⟨f1, f2⟩ : (k1 == 3) = true ∨ ((k1 == 3) = false ∧ (k2 == 3) = true) := by
      by_cases h : k1 = 3
      · exact .inl (by simpa using h)
      · exact .inr ⟨by simpa using h, by simp; omega⟩
    all_goals
      clear hk3 HGR
      go_wp2_with fail
      refine Calls.mono (ALT.out _ Y2'.out) ?_
      rintro e We ⟨rfl, Xe⟩
      have HF := FIN.out We Xe.out
      have HF' : Hid _ := HF
      clear HF
      go_wp2
      go_ret
      exact ⟨rfl, HF'.out⟩
  have HK3 : Hid (k1 ≠ 3 ∧ k2 ≠ 3) := by show _ ∧ _; omega
  have f1 : (k1 == 3) = false := by simp; omega
  have f2 : (k2 == 3) = false := by simp; omega
  clear hk3
  go_wp2_with fail
  refine Calls.mono (HC.out _ Y2'.out).1 ?_
  rintro e W3 ⟨pa1, pc1, rfl, Y3⟩
  clear w0 w1 x0 x1 x2 x3 x4 y0 y1 y2 y3 y4
  obtain ⟨⟨w0, w1⟩, ⟨x0, x1, x2, x3, x4⟩, y0, y1, y2, y3, y4⟩ := CF.out W3 Y3.out
  go_wp2_with fail
  refine Calls.mono (HC.out _ Y3.out).2.1 ?_
  rintro e W4 ⟨pa2, pc2, rfl, Y4⟩
  clear w0 w1 x0 x1 x2 x3 x4 y0 y1 y2 y3 y4
  obtain ⟨⟨w0, w1⟩, ⟨x0, x1, x2, x3, x4⟩, y0, y1, y2, y3, y4⟩ := CF.out W4 Y4.out
  obtain ⟨V1, hV1⟩ : ∃ z, W4.alloc (.cells #[.int .i64 k1, .int .i64 n1, .int .i64 r1, .slice a m1 ca, .slice la l1 lc, .int .i64 k2, .int .i64 n2, .int .i64 r2, .slice b m2 cb, .slice lb l2 ld] 29) = z := ⟨_, rfl⟩
  have HV1 : Hid _ := hV1
  have GV1 : Hid (V1.heap[W4.heap.size]? = some (.cells #[.int .i64 k1, .int .i64 n1, .int .i64 r1, .slice a m1 ca, .slice la l1 lc, .int .i64 k2, .int .i64 n2, .int .i64 r2, .slice b m2 cb, .slice lb l2 ld] 29 (0, 0))) := by show _ = _; rw [← hV1]; exact heap_alloc_new W4 _
  have SV1 : Hid (V1.heap.size = W4.heap.size + 1) := by show _ = _; rw [← hV1]; simp
  have HK : Hid ((V1.alloc (.cells #[.int .i64 0, .int .i64 0, .int .i64 0, .slice none 0 0, .slice none 0 0] 29)).heap[W4.heap.size + 1]? = some (.cells #[.int .i64 0, .int .i64 0, .int .i64 0, .slice none 0 0, .slice none 0 0] 29 (0, 0))) := by show _ = _; rw [← SV1.out]; exact heap_alloc_new V1 _
  obtain ⟨V3, hV3⟩ : ∃ z, (V1.alloc (.cells #[.int .i64 0, .int .i64 0, .int .i64 0, .slice none 0 0, .slice none 0 0] 29)).setRow (W4.heap.size + 1) #[.int .i64 3, .int .i64 0, .int .i64 0, .slice (some ⟨W4.heap.size, 0, none⟩) 2 2, .slice none 0 0] = z := ⟨_, rfl⟩
  have HV3 : Hid _ := hV3
  have GX : Hid (V3.heap[W4.heap.size + 1]? = some (.cells #[.int .i64 3, .int .i64 0, .int .i64 0, .slice (some ⟨W4.heap.size, 0, none⟩) 2 2, .slice none 0 0] 29 (0, 0))) := by show _ = _; rw [← hV3]; exact setRow_heap _ _ _ _ _ _ HK.out
  have GV : Hid (V3.heap[W4.heap.size]? = some (.cells #[.int .i64 k1, .int .i64 n1, .int .i64 r1, .slice a m1 ca, .slice la l1 lc, .int .i64 k2, .int .i64 n2, .int .i64 r2, .slice b m2 cb, .slice lb l2 ld] 29 (0, 0))) := by
    show _ = _
    rw [← hV3, setRow_other _ _ _ _ (by omega), Below.heap_alloc _ _ _ (by have := SV1.out; omega)]
    exact GV1.out
  have BV : Hid (Below W0.heap.size W0 V3) := by
    show Below _ _ _
    rw [← hV3]
    have h1 : Below W0.heap.size W0 V1 := by rw [← hV1]; exact Y4.out.alloc Y4.out.size _
    exact Bk.below_row (h1.alloc h1.size _) (by have := Y4.out.size; omega) _
  have CX : Hid (∀ W, Below V3.heap.size V3 W → (W.cell? ⟨W4.heap.size + 1, 0, none⟩ = some (.int .i64 3) ∧ W.cell? ⟨W4.heap.size + 1, 1, none⟩ = some (.int .i64 0) ∧ W.cell? ⟨W4.heap.size + 1, 2, none⟩ = some (.int .i64 0) ∧ W.cell? ⟨W4.heap.size + 1, 3, none⟩ = some (.slice (some ⟨W4.heap.size, 0, none⟩) 2 2) ∧ W.cell? ⟨W4.heap.size + 1, 4, none⟩ = some (.slice none 0 0)) ∧ W.heap[W4.heap.size]? = some (.cells #[.int .i64 k1, .int .i64 n1, .int .i64 r1, .slice a m1 ca, .slice la l1 lc, .int .i64 k2, .int .i64 n2, .int .i64 r2, .slice b m2 cb, .slice lb l2 ld] 29 (0, 0)) ∧ Below W0.heap.size W0 W) := fun W hb =>
    ⟨Bk.box5 ((hb.block _ (Array.getElem?_eq_some_iff.1 GX.out).1).trans GX.out), (hb.block _ (Array.getElem?_eq_some_iff.1 GV.out).1).trans GV.out, BV.out.trans (hb.mono BV.out.size)⟩
  have hwg : Hid (w.heap.size ≤ W4.heap.size) := by show _ ≤ _; have := Y4.out.size; have := S0.out; omega
  have RV : Hid (Below V3.heap.size V3 V3) := Below.refl _ _
  have CXX : Hid (∀ W, Below V3.heap.size V3 W → (Calls Tryz.prog 11 #[.agg #[.slice an n cn, .slice af m cf], agg 3 0 0 (some ⟨W4.heap.size, 0, none⟩) 2 2 none 0 0] W fun e w' => ∃ pa pc, e = .returned (.tuple #[.slice pa L3 pc, .int .i64 e3]) ∧ Hid (Below V3.heap.size V3 w')) ∧
      (Calls Tryz.prog 12 #[agg 3 0 0 (some ⟨W4.heap.size, 0, none⟩) 2 2 none 0 0] W fun e w' => e = .returned (.int .i64 sz) ∧ Hid (Below V3.heap.size V3 w')) ∧
      (Calls Tryz.prog 14 #[agg 3 0 0 (some ⟨W4.heap.size, 0, none⟩) 2 2 none 0 0] W fun e w' => ∃ a' c' p' c'', e = .returned (agg 3 0 0 a' 2 c' p' 0 c'') ∧ Hid (Below V3.heap.size V3 w' ∧ ∃ dd, Bl.Lies w' w'.heap.size dd (.slice a' 2 c') (.slice p' 0 c'') (Bl.row S T)))) := fun W hb => by
    have k := CX.out W hb
    have h := (HC.out W k.2.2).2.2 W4.heap.size k.2.1 hwg.out
    refine ⟨h.1.mono ?_, h.2.1.mono ?_, h.2.2.mono ?_⟩
    · rintro e w' ⟨pa, pc, rfl, q⟩
      exact ⟨pa, pc, rfl, hb.trans (q.out.mono hb.size)⟩
    · rintro e w' ⟨rfl, q⟩
      exact ⟨rfl, hb.trans (q.out.mono hb.size)⟩
    · rintro e w' ⟨a', c', p', c'', rfl, q⟩
      exact ⟨a', c', p', c'', rfl, hb.trans (q.out.1.mono hb.size), q.out.2⟩
  clear hV1 hV3 GX GV GV1 BV HC hwg
  go_upto_region 6 with (first | (rw [HV1.out]; fail) | (refine wpList_store_row rfl 29 _ _ rfl (W4.heap.size + 1) _ rfl rfl 29 #[.int .i64 0, .int .i64 0, .int .i64 0, .slice none 0 0, .slice none 0 0] (by rw [HV1.out]; exact HK.out) (by kernel_rfl) rfl (by kernel_rfl) ?_))
  rw [HV1.out, HV3.out]
  clear HV1 HV3 HK SV1
  clear w0 w1 x0 x1 x2 x3 x4 y0 y1 y2 y3 y4
  obtain ⟨⟨w0, w1⟩, ⟨x0, x1, x2, x3, x4⟩, y0, y1, y2, y3, y4⟩ := CF.out V3 (CX.out V3 RV.out).2.2
  obtain ⟨⟨v0, v1, v2, v3, v4⟩, -, -⟩ := CX.out V3 RV.out
  go_wp2_with fail
  refine Calls.mono (CXX.out _ RV.out).1 ?_
  rintro e W5 ⟨pa3, pc3, rfl, Y5⟩
  clear w0 w1 x0 x1 x2 x3 x4 y0 y1 y2 y3 y4
  clear v0 v1 v2 v3 v4
  by_cases hbad : e1 ≠ 0 ∨ e2 ≠ 0
  · have h3 := HGR.out.1 hbad
    have g3 : (e3 != 0) = true := by simpa using h3
    have Y5' : Hid (Below W0.heap.size W0 W5) := (CX.out W5 Y5.out).2.2
    obtain f3 | ⟨f3, f4⟩ : (e1 != 0) = true ∨ ((e1 != 0) = false ∧ (e2 != 0) = true) := by
      by_cases h : e1 = 0
      · exact .inr ⟨by simpa using h, by simp; omega⟩
      · exact .inl (by simpa using h)
    all_goals
      clear hbad h3 HGR
      go_wp2_with fail
      refine Calls.mono (ALT.out _ Y5'.out) ?_
      rintro e We ⟨rfl, Xe⟩
      have HF := FIN.out We Xe.out
      have HF' : Hid _ := HF
      clear HF
      go_wp2
      go_ret
      exact ⟨rfl, HF'.out⟩
  have z1 : e1 = 0 := by omega
  have z2 : e2 = 0 := by omega
  have HZ : Hid (e1 = 0 ∧ e2 = 0) := ⟨z1, z2⟩
  clear hbad
  subst z1
  subst z2
  obtain ⟨⟨w0, w1⟩, ⟨x0, x1, x2, x3, x4⟩, y0, y1, y2, y3, y4⟩ := CF.out W5 (CX.out W5 Y5.out).2.2
  obtain ⟨⟨v0, v1, v2, v3, v4⟩, -, -⟩ := CX.out W5 Y5.out
  by_cases hk8 : 8 ≤ k1 ∨ 8 ≤ k2
  · have h3 := HGR.out.2.1 (by omega)
    have g3 : (e3 != 0) = true := by simpa using h3
    have Y5' : Hid (Below W0.heap.size W0 W5) := (CX.out W5 Y5.out).2.2
    obtain f3 | ⟨f3, f4⟩ : decide (8 ≤ k1) = true ∨ (decide (8 ≤ k1) = false ∧ decide (8 ≤ k2) = true) := by simp; omega
    all_goals
      clear hk8 h3 HGR
      go_wp2_with fail
      refine Calls.mono (ALT.out _ Y5'.out) ?_
      rintro e We ⟨rfl, Xe⟩
      have HF := FIN.out We Xe.out
      have HF' : Hid _ := HF
      clear HF
      go_wp2
      go_ret
      exact ⟨rfl, HF'.out⟩
  have f3 : decide (8 ≤ k1) = false := decide_eq_false (by omega)
  have f4 : decide (8 ≤ k2) = false := decide_eq_false (by omega)
  have HK8 : Hid (¬ (8 ≤ k1 ∨ 8 ≤ k2)) := hk8
  clear hk8
  go_wp2_with fail
  refine Calls.mono (CXX.out _ Y5.out).2.1 ?_
  rintro e W6 ⟨rfl, Y6⟩
  clear w0 w1 x0 x1 x2 x3 x4 y0 y1 y2 y3 y4
  clear v0 v1 v2 v3 v4
  by_cases hs96 : 96 < sz
  · have h3 := HGR.out.2.1 (by omega)
    have g3 : (e3 != 0) = true := by simpa using h3
    have f5 : decide ((96 : Int) < sz) = true := decide_eq_true (by omega)
    have Y6' : Hid (Below W0.heap.size W0 W6) := (CX.out W6 Y6.out).2.2
    clear h3 HGR
    go_wp2_with fail
    refine Calls.mono (ALT.out _ Y6'.out) ?_
    rintro e We ⟨rfl, Xe⟩
    have HF := FIN.out We Xe.out
    have HF' : Hid _ := HF
    clear HF
    go_wp2
    go_ret
    exact ⟨rfl, HF'.out⟩
  have f5 : decide ((96 : Int) < sz) = false := decide_eq_false (by omega)
  obtain ⟨⟨w0, w1⟩, ⟨x0, x1, x2, x3, x4⟩, y0, y1, y2, y3, y4⟩ := CF.out W6 (CX.out W6 Y6.out).2.2
  obtain ⟨⟨v0, v1, v2, v3, v4⟩, -, -⟩ := CX.out W6 Y6.out
  go_wp2_with fail
  refine Calls.mono (CXX.out _ Y6.out).2.2 ?_
  rintro e W7 ⟨ra, rc, rp, rd, rfl, Y7⟩
  clear w0 w1 x0 x1 x2 x3 x4 y0 y1 y2 y3 y4
  clear v0 v1 v2 v3 v4
  go_wp2_with fail
  refine Calls.mono (HD.out W7 ra rc rp rd Y7.out.2) ?_
  rintro e W8 ⟨rfl, Y8⟩
  have Y8' : Hid (Below W0.heap.size W0 W8) := by
    have h := (CX.out W7 Y7.out.1).2.2
    exact h.trans (Y8.out.mono h.size)
  clear CXX CX HD Y8 Y7 Y6 Y5 Y4 Y3 Y2' RV A0 S0
  by_cases hd24 : 24 < dp
  · have h3 := HGR.out.2.1 (by omega)
    have g3 : (e3 != 0) = true := by simpa using h3
    have f6 : decide ((24 : Int) < dp) = true := decide_eq_true (by omega)
    clear h3 HGR
    go_wp2_with fail
    refine Calls.mono (ALT.out _ Y8'.out) ?_
    rintro e We ⟨rfl, Xe⟩
    have HF := FIN.out We Xe.out
    have HF' : Hid _ := HF
    clear HF
    go_wp2
    go_ret
    exact ⟨rfl, HF'.out⟩
  have f6 : decide ((24 : Int) < dp) = false := decide_eq_false (by omega)
  have HEND : Hid ((sh = true ∧ e3 = 8) ∨ (sh = false ∧ e3 = 0 ∧ L3 = L1 + L2)) := HGR.out.2.2 (by first | rfl | trivial) (by first | rfl | trivial) HK3.out.1 HK3.out.2 (by have := HK8.out; omega)
  clear HGR HK3 HK8 hs96 hd24
  obtain ⟨⟨w0, w1⟩, ⟨x0, x1, x2, x3, x4⟩, y0, y1, y2, y3, y4⟩ := CF.out W8 Y8'.out
  go_wp2
  go_loopg [14, 15, 101] n (fun gk s14 _ s101 wr => ∃ (j : Nat) (q : Bool), gk + j = n ∧ s101 = .int .i64 j ∧ s14 = .bool q ∧ Hid (Below W0.heap.size W0 wr ∧ q = ((List.range j).any fun i : Nat => decide (0 < S.times fs i) && decide (0 < T.times fs i))))
  case atStart => exact ⟨0, false, by omega, rfl, rfl, Y8'.out, by simp⟩
  case round =>
    obtain ⟨j, q, hj, rfl, rfl, HJ⟩ := hrel
    clear w0 w1 x0 x1 x2 x3 x4 y0 y1 y2 y3 y4
    by_cases hjn : j < n
    · have hd : decide ((j : Int) < n) = true := decide_eq_true (by omega)
      have XB : Hid (Below W0.heap.size W0 wr) := HJ.out.1
      have HQ : Hid (((List.range (j + 1)).any fun i : Nat => decide (0 < S.times fs i) && decide (0 < T.times fs i)) = (q || (decide (0 < S.times fs j) && decide (0 < T.times fs j)))) := by
        show _ = _
        rw [List.range_succ, List.any_append, ← HJ.out.2]
        simp
      clear HJ
      obtain ⟨ta, hta⟩ : ∃ z, S.times fs (j : Int) = z := ⟨_, rfl⟩
      obtain ⟨tb, htb⟩ : ∃ z, T.times fs (j : Int) = z := ⟨_, rfl⟩
      have P1 : Hid _ := E1.out j
      have P2 : Hid _ := E2.out j
      rw [hta] at P1 HQ
      rw [htb] at P2 HQ
      clear hta htb
      cases q with
      | true =>
        have XD : Hid (∀ W, (∃ k, W = wr.drewN k) ∨ W = wr → Below W0.heap.size W0 W) := by
          rintro W (⟨k, rfl⟩ | rfl)
          · exact Tk.below_drewN XB.out k
          · exact XB.out
        go_upto_region 15 with fail
        go_quiet (fail)
        all_goals
          go_wp2
          go_roundg (gk - 1)
          case measure => omega
          case rel => exact ⟨j + 1, true, by omega, by go_num, rfl, by first | exact XB.out | exact XB.out.drew | exact XD.out _ (.inl ⟨_, rfl⟩), by rw [HQ.out]; rfl⟩
      | false =>
        by_cases h1 : 0 < ta
        · have h1' : decide ((0 : Int) < ta) = true := decide_eq_true (by omega)
          have HQ1 : Hid (((List.range (j + 1)).any fun i : Nat => decide (0 < S.times fs i) && decide (0 < T.times fs i)) = decide (0 < tb)) := by
            show _ = _
            rw [HQ.out, decide_eq_true h1]
            simp
          clear HQ
          by_cases h2 : 0 < tb
          · have h2' : decide ((0 : Int) < tb) = true := decide_eq_true (by omega)
            go_upto_region 15 with fail
            go_region_held3 (fun W => (W.cell? ⟨w.heap.size, 0, none⟩ = some (.slice an n cn) ∧ W.cell? ⟨w.heap.size, 1, none⟩ = some (.slice af m cf)) ∧ (W.cell? ⟨w.heap.size + 1, 0, none⟩ = some (.int .i64 k1) ∧ W.cell? ⟨w.heap.size + 1, 1, none⟩ = some (.int .i64 n1) ∧ W.cell? ⟨w.heap.size + 1, 2, none⟩ = some (.int .i64 r1) ∧ W.cell? ⟨w.heap.size + 1, 3, none⟩ = some (.slice a m1 ca) ∧ W.cell? ⟨w.heap.size + 1, 4, none⟩ = some (.slice la l1 lc)) ∧ W.cell? ⟨w.heap.size + 1 + 1, 0, none⟩ = some (.int .i64 k2) ∧ W.cell? ⟨w.heap.size + 1 + 1, 1, none⟩ = some (.int .i64 n2) ∧ W.cell? ⟨w.heap.size + 1 + 1, 2, none⟩ = some (.int .i64 r2) ∧ W.cell? ⟨w.heap.size + 1 + 1, 3, none⟩ = some (.slice b m2 cb) ∧ W.cell? ⟨w.heap.size + 1 + 1, 4, none⟩ = some (.slice lb l2 ld))
              (first | exact CF.out _ X7.out | exact CF.out _ X6.out.1 | exact CF.out _ X5.out | exact CF.out _ X4.out.1 | exact CF.out _ XB.out.drew | exact CF.out _ XB.out)
              (first | (go_simp; go_at_call 14; (first | (have hX := X5.out; refine Calls.mono (D3.out _ ?_) ?_; (first | exact hX | exact hX.drew | exact Tk.below_drewN hX _); rintro e W6 ⟨a6, c6, p6, d6, rfl, X6⟩) | (refine Calls.mono (D2.out _ ?_) ?_; (first | exact XB.out | exact XB.out.drew | exact Tk.below_drewN XB.out _); rintro e W4 ⟨a4, c4, p4, d4, rfl, X4⟩))) | (go_simp; go_at_call 15; (first | (have hX := X6.out; refine Calls.mono (P2.out W6 a6 c6 p6 d6 hX.2 hX.1 _ ?_) ?_; (first | exact Below.refl _ _ | exact (Below.refl _ _).drew | exact Tk.below_drewN (Below.refl _ _) _); rintro e W7 ⟨rfl, X7⟩) | (refine Calls.mono (P1.out W4 a4 c4 p4 d4 X4.out.2 X4.out.1 _ ?_) ?_; (first | exact Below.refl _ _ | exact (Below.refl _ _).drew | exact Tk.below_drewN (Below.refl _ _) _); rintro e W5 ⟨rfl, X5⟩))))
            all_goals
              go_simp
              go_wp2
              go_roundg (gk - 1)
              case measure => omega
              case rel => exact ⟨j + 1, true, by omega, by go_num, rfl, X7.out, by rw [HQ1.out]; simpa using h2⟩
          · have h2' : decide ((0 : Int) < tb) = false := decide_eq_false (by omega)
            go_upto_region 15 with fail
            go_region_held3 (fun W => (W.cell? ⟨w.heap.size, 0, none⟩ = some (.slice an n cn) ∧ W.cell? ⟨w.heap.size, 1, none⟩ = some (.slice af m cf)) ∧ (W.cell? ⟨w.heap.size + 1, 0, none⟩ = some (.int .i64 k1) ∧ W.cell? ⟨w.heap.size + 1, 1, none⟩ = some (.int .i64 n1) ∧ W.cell? ⟨w.heap.size + 1, 2, none⟩ = some (.int .i64 r1) ∧ W.cell? ⟨w.heap.size + 1, 3, none⟩ = some (.slice a m1 ca) ∧ W.cell? ⟨w.heap.size + 1, 4, none⟩ = some (.slice la l1 lc)) ∧ W.cell? ⟨w.heap.size + 1 + 1, 0, none⟩ = some (.int .i64 k2) ∧ W.cell? ⟨w.heap.size + 1 + 1, 1, none⟩ = some (.int .i64 n2) ∧ W.cell? ⟨w.heap.size + 1 + 1, 2, none⟩ = some (.int .i64 r2) ∧ W.cell? ⟨w.heap.size + 1 + 1, 3, none⟩ = some (.slice b m2 cb) ∧ W.cell? ⟨w.heap.size + 1 + 1, 4, none⟩ = some (.slice lb l2 ld))
              (first | exact CF.out _ X7.out | exact CF.out _ X6.out.1 | exact CF.out _ X5.out | exact CF.out _ X4.out.1 | exact CF.out _ XB.out.drew | exact CF.out _ XB.out)
              (first | (go_simp; go_at_call 14; (first | (have hX := X5.out; refine Calls.mono (D3.out _ ?_) ?_; (first | exact hX | exact hX.drew | exact Tk.below_drewN hX _); rintro e W6 ⟨a6, c6, p6, d6, rfl, X6⟩) | (refine Calls.mono (D2.out _ ?_) ?_; (first | exact XB.out | exact XB.out.drew | exact Tk.below_drewN XB.out _); rintro e W4 ⟨a4, c4, p4, d4, rfl, X4⟩))) | (go_simp; go_at_call 15; (first | (have hX := X6.out; refine Calls.mono (P2.out W6 a6 c6 p6 d6 hX.2 hX.1 _ ?_) ?_; (first | exact Below.refl _ _ | exact (Below.refl _ _).drew | exact Tk.below_drewN (Below.refl _ _) _); rintro e W7 ⟨rfl, X7⟩) | (refine Calls.mono (P1.out W4 a4 c4 p4 d4 X4.out.2 X4.out.1 _ ?_) ?_; (first | exact Below.refl _ _ | exact (Below.refl _ _).drew | exact Tk.below_drewN (Below.refl _ _) _); rintro e W5 ⟨rfl, X5⟩))))
            all_goals
              go_simp
              go_wp2
              go_roundg (gk - 1)
              case measure => omega
              case rel => exact ⟨j + 1, false, by omega, by go_num, rfl, X7.out, by rw [HQ1.out]; simpa using h2⟩
        · have hz : ta = 0 := by omega
          have HQ1 : Hid (((List.range (j + 1)).any fun i : Nat => decide (0 < S.times fs i) && decide (0 < T.times fs i)) = false) := by
            show _ = _
            rw [HQ.out, decide_eq_false h1]
            rfl
          clear HQ h1
          subst hz
          have P0 : Hid (∀ (W4 : World) (a4 : Option Addr) (c4 : Nat) (p4 : Option Addr) (d4 : Nat), (∃ dd, ∀ W', Below W4.heap.size W4 W' → Bl.Lies W' W4.heap.size dd (.slice a4 m1 c4) (.slice p4 l1 d4) S) → Below W0.heap.size W0 W4 → ∀ W, Below W4.heap.size W4 W →
              Calls Tryz.prog 15 #[.agg #[.slice an n cn, .slice af m cf], agg k1 n1 r1 a4 m1 c4 p4 l1 d4, .int .i64 (j : Int)] W fun e w' => e = .returned (.int .i64 0) ∧ Hid (Below W0.heap.size W0 w')) := P1.out
          clear P1 P2
          go_upto_region 15 with fail
          refine wp_region_held_drew (S := fun W => (W.cell? ⟨w.heap.size, 0, none⟩ = some (.slice an n cn) ∧ W.cell? ⟨w.heap.size, 1, none⟩ = some (.slice af m cf)) ∧ (W.cell? ⟨w.heap.size + 1, 0, none⟩ = some (.int .i64 k1) ∧ W.cell? ⟨w.heap.size + 1, 1, none⟩ = some (.int .i64 n1) ∧ W.cell? ⟨w.heap.size + 1, 2, none⟩ = some (.int .i64 r1) ∧ W.cell? ⟨w.heap.size + 1, 3, none⟩ = some (.slice a m1 ca) ∧ W.cell? ⟨w.heap.size + 1, 4, none⟩ = some (.slice la l1 lc)) ∧ W.cell? ⟨w.heap.size + 1 + 1, 0, none⟩ = some (.int .i64 k2) ∧ W.cell? ⟨w.heap.size + 1 + 1, 1, none⟩ = some (.int .i64 n2) ∧ W.cell? ⟨w.heap.size + 1 + 1, 2, none⟩ = some (.int .i64 r2) ∧ W.cell? ⟨w.heap.size + 1 + 1, 3, none⟩ = some (.slice b m2 cb) ∧ W.cell? ⟨w.heap.size + 1 + 1, 4, none⟩ = some (.slice lb l2 ld)) (by kernel_rfl) ?_ (fun hA => ?_)
          · exact CF.out _ XB.out.drew
          refine Nt.takeS (v := ?va0) 0 104 rfl rfl (by kernel_rfl) (by kernel_rfl) (by kernel_rfl) (fun _ _ _ h => h) (Or.inl ⟨by rfl, ?ya0⟩) hA ?ra0
          case ya0 => (intro w hSw; (try dsimp only at hSw); go_simp; all_goals (with_reducible rfl))
          simp only [List.set_cons_succ, List.set_cons_zero]
          refine Nt.takeS (v := ?va1) 1 105 rfl rfl (by kernel_rfl) (by kernel_rfl) (by kernel_rfl) (fun _ _ _ h => h) (Or.inl ⟨by rfl, ?ya1⟩) hA ?ra1
          case ya1 => (intro w hSw; (try dsimp only at hSw); go_simp; all_goals (with_reducible rfl))
          simp only [List.set_cons_succ, List.set_cons_zero]
          refine Nt.takeS (v := ?va2) 2 106 rfl rfl (by kernel_rfl) (by kernel_rfl) (by kernel_rfl) (fun _ _ _ h => h) (Or.inl ⟨by rfl, ?ya2⟩) hA ?ra2
          case ya2 => (intro w hSw; (try dsimp only at hSw); go_simp; all_goals (with_reducible rfl))
          simp only [List.set_cons_succ, List.set_cons_zero]
          refine Nt.takeS (v := ?va3) 3 107 rfl rfl (by kernel_rfl) (by kernel_rfl) (by kernel_rfl) (fun _ _ _ h => h) (Or.inl ⟨by rfl, ?ya3⟩) hA ?ra3
          case ya3 => (intro w hSw; (try dsimp only at hSw); go_simp; all_goals (with_reducible rfl))
          simp only [List.set_cons_succ, List.set_cons_zero]
          refine Nt.takeS (v := ?va5) 5 109 rfl rfl (by kernel_rfl) (by kernel_rfl) (by kernel_rfl) (fun _ _ _ h => h) (Or.inl ⟨by rfl, ?ya5⟩) hA ?ra5
          case ya5 => (intro w hSw; (try dsimp only at hSw); go_simp; all_goals (with_reducible rfl))
          simp only [List.set_cons_succ, List.set_cons_zero]
          refine wpAnyH_ready (rs := [4]) (by kernel_rfl) (by simp) ?_
          refine AllReadyH.cons rfl (fun K hK => ?_) AllReadyH.nil
          go_simp
          go_at_call 14
          refine Calls.mono (D2.out _ XB.out.drew) ?_
          rintro e W4 ⟨a4, c4, p4, d4, rfl, X4⟩
          go_wp2_with fail
          refine hK.out _ _ ?_ (fun hA4 => ?_)
          · exact CF.out _ X4.out.1
          clear hK K
          first | refine Nt.normS 108 rfl ?_ | skip
          first | (simp only [List.set_cons_succ, List.set_cons_zero]) | skip
          refine wpAnyH_ready (rs := [6]) (by kernel_rfl) (by simp) ?_
          refine AllReadyH.cons rfl (fun K hK => ?_) AllReadyH.nil
          go_simp
          go_at_call 15
          refine Calls.mono (P0.out W4 a4 c4 p4 d4 X4.out.2 X4.out.1 _ (Below.refl _ _)) ?_
          rintro e W5 ⟨rfl, X5⟩
          go_wp2_with fail
          refine hK.out _ _ ?_ (fun hA6 => ?_)
          · exact CF.out _ X5.out
          clear hK K
          first | refine Nt.normS 110 rfl ?_ | skip
          first | (simp only [List.set_cons_succ, List.set_cons_zero]) | skip
          refine Nt.takeS (v := ?va7) 7 111 rfl rfl (by kernel_rfl) (by kernel_rfl) (by kernel_rfl) (fun _ _ _ h => h) (Or.inl ⟨by rfl, ?ya7⟩) hA6 ?ra7
          case ya7 => (intro w hSw; (try dsimp only at hSw); go_simp; all_goals (with_reducible rfl))
          simp only [List.set_cons_succ, List.set_cons_zero]
          refine Nt.takeS (v := ?va8) 8 112 rfl rfl (by kernel_rfl) (by kernel_rfl) (by kernel_rfl) (fun _ _ _ h => h) (Or.inl ⟨by rfl, ?ya8⟩) hA6 ?ra8
          case ya8 => (intro w hSw; (try dsimp only at hSw); go_simp; all_goals (with_reducible rfl))
          simp only [List.set_cons_succ, List.set_cons_zero]
          refine Nt.takeS (v := undef) 9 113 rfl rfl (by kernel_rfl) (by kernel_rfl) (by kernel_rfl) (fun _ _ _ h => h) (Or.inr ⟨by rfl, rfl⟩) hA6 ?_
          simp only [List.set_cons_succ, List.set_cons_zero]
          refine Nt.takeS (v := undef) 10 114 rfl rfl (by kernel_rfl) (by kernel_rfl) (by kernel_rfl) (fun _ _ _ h => h) (Or.inr ⟨by rfl, rfl⟩) hA6 ?_
          simp only [List.set_cons_succ, List.set_cons_zero]
          refine Nt.takeS (v := undef) 11 115 rfl rfl (by kernel_rfl) (by kernel_rfl) (by kernel_rfl) (fun _ _ _ h => h) (Or.inr ⟨by rfl, rfl⟩) hA6 ?_
          simp only [List.set_cons_succ, List.set_cons_zero]
          refine Nt.takeS (v := undef) 12 116 rfl rfl (by kernel_rfl) (by kernel_rfl) (by kernel_rfl) (fun _ _ _ h => h) (Or.inr ⟨by rfl, rfl⟩) hA6 ?_
          simp only [List.set_cons_succ, List.set_cons_zero]
          refine Nt.takeS (v := undef) 13 117 rfl rfl (by kernel_rfl) (by kernel_rfl) (by kernel_rfl) (fun _ _ _ h => h) (Or.inr ⟨by rfl, rfl⟩) hA6 ?_
          simp only [List.set_cons_succ, List.set_cons_zero]
          refine Nt.takeS (v := undef) 14 118 rfl rfl (by kernel_rfl) (by kernel_rfl) (by kernel_rfl) (fun _ _ _ h => h) (Or.inr ⟨by rfl, rfl⟩) hA6 ?_
          simp only [List.set_cons_succ, List.set_cons_zero]
          refine Nt.takeS (v := ?va15) 15 119 rfl rfl (by kernel_rfl) (by kernel_rfl) (by kernel_rfl) (fun _ _ _ h => h) (Or.inl ⟨by rfl, ?ya15⟩) hA6 ?ra15
          case ya15 => (intro w hSw; (try dsimp only at hSw); go_simp; all_goals (with_reducible rfl))
          simp only [List.set_cons_succ, List.set_cons_zero]
          refine Nt.takeS (v := ?va16) 16 120 rfl rfl (by kernel_rfl) (by kernel_rfl) (by kernel_rfl) (fun _ _ _ h => h) (Or.inl ⟨by rfl, ?ya16⟩) hA6 ?ra16
          case ya16 => (intro w hSw; (try dsimp only at hSw); go_simp; all_goals (with_reducible rfl))
          simp only [List.set_cons_succ, List.set_cons_zero]
          refine Nt.takeS (v := ?va17) 17 14 rfl rfl (by kernel_rfl) (by kernel_rfl) (by kernel_rfl) (fun _ _ _ h => h) (Or.inl ⟨by rfl, ?ya17⟩) hA6 ?ra17
          case ya17 => (intro w hSw; (try dsimp only at hSw); go_simp; all_goals (with_reducible rfl))
          simp only [List.set_cons_succ, List.set_cons_zero]
          refine wpAnyH_done (by kernel_rfl) ?_ _
          all_goals
            go_wp2
            go_roundg (gk - 1)
            case measure => omega
            case rel => exact ⟨j + 1, false, by omega, by go_num, rfl, by first | exact X5.out | exact X5.out.drew | exact Tk.below_drewN X5.out _, HQ1.out.symm⟩
    · have hd : decide ((j : Int) < n) = false := decide_eq_false (by omega)
      have hqs : q = sh := by
        obtain rfl : j = n := by omega
        have h1 := HJ.out.2
        rw [← HSH.out.2, HSH.out.1] at h1
        exact h1
      have XB : Hid (Below W0.heap.size W0 wr) := HJ.out.1
      subst hqs
      clear HJ HSH D2 D3 E1 E2
      have hb1 : L1 ≤ 100 := by have := HLE.out.1; have := HLE.out.2.2; omega
      have hb2 : L2 ≤ 100 := by have := HLE.out.2.1; have := HLE.out.2.2; omega
      have hE : (q = true ∧ e3 = 8) ∨ (q = false ∧ e3 = 0 ∧ ((L3 : Int) == (L1 : Int) + L2) = true) := by
        rcases HEND.out with h | ⟨h1, h2, h3⟩
        · exact .inl h
        · exact .inr ⟨h1, h2, by simp; omega⟩
      clear HEND HLE
      rcases hE with ⟨rfl, rfl⟩ | ⟨rfl, rfl, e12⟩
      all_goals
        go_wp2_with fail
        refine Calls.mono (ALT.out _ XB.out) ?_
        rintro e We ⟨rfl, Xe⟩
        have HF := FIN.out We Xe.out
        have HF' : Hid _ := HF
        clear HF
        go_wp2
        go_ret
        exact ⟨rfl, HF'.out⟩

end Go.Proofs.YtemccpfgkbhahaaGreatDoor.BlockGrows
