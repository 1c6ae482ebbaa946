/-
  The statement BlockSame walked.
-/
import Derived.Test.YtomcaophaglljaaDoorBlAlt
import Derived.Test.YtomcaophaglljaaDoorBlLawRef2
import Derived.Test.YtomcaophaglljaaDoorBlBig
import Derived.Test.YtomcaophaglljaaDoorBlRefSame
namespace Go.Proofs.YtomcaophaglljaaDoor.BlockSame
open Go.RowKit

/-- A block as a value. -/
abbrev agg (k n r : Int) (a : Option Addr) (m c : Nat) (la : Option Addr) (ml lc : Nat) : Value := .agg #[.int .i64 k, .int .i64 n, .int .i64 r, .slice a m c, .slice la ml lc]
theorem few {T : Bl} (h : T.allP (fun _ _ _ ls => decide (ls.length ≤ 100)) = true) : T.allP (fun _ _ _ ls => decide (ls.length ≤ 2147483647)) = true := by
  have key : (∀ T : Bl, T.allP (fun _ _ _ ls => decide (ls.length ≤ 100)) = true → T.allP (fun _ _ _ ls => decide (ls.length ≤ 2147483647)) = true) := by
    intro T
    exact Bl.rec (motive_1 := fun T => T.allP (fun _ _ _ ls => decide (ls.length ≤ 100)) = true → T.allP (fun _ _ _ ls => decide (ls.length ≤ 2147483647)) = true)
      (motive_2 := fun l => Bl.allPs (fun _ _ _ ls => decide (ls.length ≤ 100)) l = true → Bl.allPs (fun _ _ _ ls => decide (ls.length ≤ 2147483647)) l = true)
      (fun k n a ks ls ih h => by
        rw [Bl.allP, Bool.and_eq_true, decide_eq_true_eq] at h ⊢
        exact ⟨by omega, ih h.2⟩)
      (fun h => by rw [Bl.allPs])
      (fun x r ih1 ih2 h => by
        rw [Bl.allPs, Bool.and_eq_true] at h ⊢
        exact ⟨ih1 h.1, ih2 h.2⟩) T
  exact key T h

set_option maxRecDepth 100000 in
set_option maxHeartbeats 16000000 in
theorem walk (d d' : Nat) (S T : Bl) (u lu v lv : Value) (w : World) (hS : Bl.Lies w w.heap.size d u lu S) (hT : Bl.Lies w w.heap.size d' v lv T) (hO : Bk.Names w) (hTab : Lib.TabIs Tryd.prog w "internal/strconv.uint64pow10" .u64 Lib.pow10Tab) :
    Calls Tryd.prog 4 #[.agg #[.int .i64 S.kind, .int .i64 S.node, .int .i64 S.arg, u, lu], .agg #[.int .i64 T.kind, .int .i64 T.node, .int .i64 T.arg, v, lv]] w fun e w' => e = .returned (.bool true) ∧ Below w.heap.size w w' := by
  obtain ⟨a, ca, rfl⟩ := hS.shape
  obtain ⟨la, lc, rfl⟩ := hS.links.shape
  obtain ⟨b, cb, rfl⟩ := hT.shape
  obtain ⟨lb, ld, rfl⟩ := hT.links.shape
  obtain ⟨k1, hk1⟩ : ∃ z, S.kind = z := ⟨_, rfl⟩
  obtain ⟨n1, hn1⟩ : ∃ z, S.node = z := ⟨_, rfl⟩
  obtain ⟨r1, hr1⟩ : ∃ z, S.arg = z := ⟨_, rfl⟩
  obtain ⟨m1, hm1⟩ : ∃ z, S.ks.length = z := ⟨_, rfl⟩
  obtain ⟨l1, hl1⟩ : ∃ z, S.ls.length = z := ⟨_, rfl⟩
  obtain ⟨k2, hk2⟩ : ∃ z, T.kind = z := ⟨_, rfl⟩
  obtain ⟨n2, hn2⟩ : ∃ z, T.node = z := ⟨_, rfl⟩
  obtain ⟨r2, hr2⟩ : ∃ z, T.arg = z := ⟨_, rfl⟩
  obtain ⟨m2, hm2⟩ : ∃ z, T.ks.length = z := ⟨_, rfl⟩
  obtain ⟨l2, hl2⟩ : ∃ z, T.ls.length = z := ⟨_, rfl⟩
  rw [hk1, hn1, hr1, hm1, hl1, hk2, hn2, hr2, hm2, hl2]
  rw [hm1, hl1] at hS
  rw [hm2, hl2] at hT
  obtain ⟨W0, hW0⟩ : ∃ z, (w.alloc (.cells #[.int .i64 k1, .int .i64 n1, .int .i64 r1, .slice a m1 ca, .slice la l1 lc] 25)).alloc (.cells #[.int .i64 k2, .int .i64 n2, .int .i64 r2, .slice b m2 cb, .slice lb l2 ld] 25) = z := ⟨_, rfl⟩
  have A0 : Hid (Below w.heap.size w W0) := by show Below _ _ _; rw [← hW0]; exact ((Below.refl _ w).alloc (Nat.le_refl _) _).alloc (by simp) _
  have S0 : Hid (W0.heap.size = w.heap.size + 2) := by show _ = _; rw [← hW0]; simp
  have G1 : Hid (W0.heap[w.heap.size]? = some (.cells #[.int .i64 k1, .int .i64 n1, .int .i64 r1, .slice a m1 ca, .slice la l1 lc] 25 (0, 0))) := by show _ = _; rw [← hW0, Below.heap_alloc _ _ _ (by simp)]; exact heap_alloc_new w _
  have G2 : Hid (W0.heap[w.heap.size + 1]? = some (.cells #[.int .i64 k2, .int .i64 n2, .int .i64 r2, .slice b m2 cb, .slice lb l2 ld] 25 (0, 0))) := by
    show _ = _
    rw [← hW0]
    have := heap_alloc_new (w.alloc (.cells #[.int .i64 k1, .int .i64 n1, .int .i64 r1, .slice a m1 ca, .slice la l1 lc] 25)) (.cells #[.int .i64 k2, .int .i64 n2, .int .i64 r2, .slice b m2 cb, .slice lb l2 ld] 25)
    simpa using this
  have CF : Hid (∀ W, Below W0.heap.size W0 W → (W.cell? ⟨w.heap.size, 0, none⟩ = some (.int .i64 k1) ∧ W.cell? ⟨w.heap.size, 1, none⟩ = some (.int .i64 n1) ∧ W.cell? ⟨w.heap.size, 2, none⟩ = some (.int .i64 r1) ∧ W.cell? ⟨w.heap.size, 3, none⟩ = some (.slice a m1 ca) ∧ W.cell? ⟨w.heap.size, 4, none⟩ = some (.slice la l1 lc)) ∧
      W.cell? ⟨w.heap.size + 1, 0, none⟩ = some (.int .i64 k2) ∧ W.cell? ⟨w.heap.size + 1, 1, none⟩ = some (.int .i64 n2) ∧ W.cell? ⟨w.heap.size + 1, 2, none⟩ = some (.int .i64 r2) ∧ W.cell? ⟨w.heap.size + 1, 3, none⟩ = some (.slice b m2 cb) ∧ W.cell? ⟨w.heap.size + 1, 4, none⟩ = some (.slice lb l2 ld)) := fun W hb =>
    ⟨Bk.box5 ((hb.block _ (by have := S0.out; omega)).trans G1.out), Bk.box5 ((hb.block _ (by have := S0.out; omega)).trans G2.out)⟩
  have LS : Hid (∀ W, Below W0.heap.size W0 W → Bl.Lies W w.heap.size d (.slice a m1 ca) (.slice la l1 lc) S ∧ Bl.Lies W w.heap.size d' (.slice b m2 cb) (.slice lb l2 ld) T ∧ Below w.heap.size w W ∧ w.heap.size ≤ W.heap.size) := fun W hb => by
    have h := A0.out.trans (hb.mono (by have := S0.out; omega))
    exact ⟨hS.below h, hT.below h, h, h.size⟩
  have HO : Hid (Bk.Names w ∧ Lib.TabIs Tryd.prog w "internal/strconv.uint64pow10" .u64 Lib.pow10Tab) := ⟨hO, hTab⟩
  have ALT : Hid (∀ W, Below W0.heap.size W0 W → Calls Tryd.prog 6 #[] W fun e w' => e = .returned (.bool true) ∧ Hid (Below W0.heap.size W0 w')) := fun W hb => by
    have h := (LS.out W hb).2.2.1
    exact (Tryd.balt_any W (HO.out.1.below h HO.out.1.lt) (Lib.tabBelow_of_tabIs HO.out.2 W h)).mono fun _ _ q => ⟨q.1, hb.trans (q.2.mono hb.size)⟩
  -- the two looks at how large they are
  have BG : Hid (∀ (X : Bl) (dx : Nat) (va vb : Value) (W : World), Below W0.heap.size W0 W → Bl.Lies W w.heap.size dx va vb X → Calls Tryd.prog 5 #[.agg #[.int .i64 X.kind, .int .i64 X.node, .int .i64 X.arg, va, vb], .pointer (some ⟨W.heap.size, 0, none⟩), .int .i64 1] (W.alloc (.cells #[.int .i64 400] 29)) fun e w' => ∃ q, e = .returned (.bool q) ∧ Hid (Below W0.heap.size W0 w' ∧ (q = false → X.size ≤ 400 ∧ X.allP (fun _ _ _ ls => decide (ls.length ≤ 100)) = true))) := by
    intro X dx va vb W hb hX
    have hw := (LS.out W hb).2.2.2
    have A1 : Below W.heap.size W (W.alloc (.cells #[.int .i64 400] 29)) := (Below.refl _ W).alloc (Nat.le_refl _) _
    have hR : Bk.Rm W.heap.size ((400 : Nat) : Int) (W.alloc (.cells #[.int .i64 400] 29)) := heap_alloc_new W _
    have h := Tryd.big_any dx X va vb 400 W.heap.size 1 w.heap.size (W.alloc (.cells #[.int .i64 400] 29)) (hX.below (A1.mono hw)) hw (by simp; omega) hR (by omega) (by omega)
    refine h.mono ?_
    rintro e w' ⟨hbt, hend⟩
    have hbl : Below W0.heap.size W0 w' := by
      have h1 : Below W0.heap.size W0 (W.alloc (.cells #[.int .i64 400] 29)) := hb.trans (A1.mono hb.size)
      exact ⟨hbt.os.trans h1.os, hbt.tape.trans h1.tape, hbt.output.trans h1.output, Nat.le_trans h1.size hbt.size, fun i hi => (hbt.block i (Nat.lt_of_lt_of_le hi h1.size) (by have := hb.size; omega)).trans (h1.block i hi)⟩
    rcases hend with ⟨rfl, h1, h2, _⟩ | rfl
    · exact ⟨false, rfl, hbl, fun _ => ⟨h1, h2⟩⟩
    · exact ⟨true, rfl, hbl, fun h => by cases h⟩
  have B1 : Hid (∀ W, Below W0.heap.size W0 W → Calls Tryd.prog 5 #[agg k1 n1 r1 a m1 ca la l1 lc, .pointer (some ⟨W.heap.size, 0, none⟩), .int .i64 1] (W.alloc (.cells #[.int .i64 400] 29)) fun e w' => ∃ q, e = .returned (.bool q) ∧ Hid (Below W0.heap.size W0 w' ∧ (q = false → S.size ≤ 400 ∧ S.allP (fun _ _ _ ls => decide (ls.length ≤ 100)) = true))) := fun W hb => by
    have h := BG.out S d _ _ W hb (LS.out W hb).1
    rw [hk1, hn1, hr1] at h
    exact h
  have B2 : Hid (∀ W, Below W0.heap.size W0 W → Calls Tryd.prog 5 #[agg k2 n2 r2 b m2 cb lb l2 ld, .pointer (some ⟨W.heap.size, 0, none⟩), .int .i64 1] (W.alloc (.cells #[.int .i64 400] 29)) fun e w' => ∃ q, e = .returned (.bool q) ∧ Hid (Below W0.heap.size W0 w' ∧ (q = false → T.size ≤ 400 ∧ T.allP (fun _ _ _ ls => decide (ls.length ≤ 100)) = true))) := fun W hb => by
    have h := BG.out T d' _ _ W hb (LS.out W hb).2.1
    rw [hk2, hn2, hr2] at h
    exact h
  have HM : Hid ((S.kind = k1 ∧ S.node = n1 ∧ S.arg = r1 ∧ S.ks.length = m1 ∧ S.ls.length = l1) ∧ T.kind = k2 ∧ T.node = n2 ∧ T.arg = r2 ∧ T.ks.length = m2 ∧ T.ls.length = l2) := ⟨⟨hk1, hn1, hr1, hm1, hl1⟩, hk2, hn2, hr2, hm2, hl2⟩
  have HW0 : Hid _ := hW0
  clear hS hT hO hTab hk1 hn1 hr1 hm1 hl1 hk2 hn2 hr2 hm2 hl2 hW0 G1 G2 BG
  have BR : Hid (Below W0.heap.size W0 W0) := Below.refl _ _
  go_enter Tryd.func4, Tryd.ntmps4
  go_upto_region 1 with fail
  rw [HW0.out]
  clear HW0
  obtain ⟨⟨x0, x1, x2, x3, x4⟩, y0, y1, y2, y3, y4⟩ := CF.out W0 BR.out
  go_wp2_with fail
  refine Calls.mono (B1.out _ BR.out) ?_
  rintro e W1 ⟨q1, rfl, X1⟩
  clear x0 x1 x2 x3 x4 y0 y1 y2 y3 y4
  obtain ⟨⟨x0, x1, x2, x3, x4⟩, y0, y1, y2, y3, y4⟩ := CF.out W1 X1.out.1
  cases q1 with
  | true =>
    clear x0 x1 x2 x3 x4 y0 y1 y2 y3 y4
    go_wp2_with fail
    refine Calls.mono (ALT.out _ X1.out.1) ?_
    rintro e W2 ⟨rfl, X2⟩
    have HF : Hid (Below w.heap.size w W2) := (LS.out W2 X2.out).2.2.1
    go_wp2
    go_ret
    exact ⟨rfl, HF.out⟩
  | false =>
    go_wp2_with fail
    refine Calls.mono (B2.out _ X1.out.1) ?_
    rintro e W2 ⟨q2, rfl, X2⟩
    clear x0 x1 x2 x3 x4 y0 y1 y2 y3 y4
    cases q2 with
    | true =>
      go_wp2_with fail
      refine Calls.mono (ALT.out _ X2.out.1) ?_
      rintro e W3 ⟨rfl, X3⟩
      have HF : Hid (Below w.heap.size w W3) := (LS.out W3 X3.out).2.2.1
      go_wp2
      go_ret
      exact ⟨rfl, HF.out⟩
    | false =>
      have HZ : Hid ((S.size ≤ 400 ∧ S.allP (fun _ _ _ ls => decide (ls.length ≤ 100)) = true) ∧ T.size ≤ 400 ∧ T.allP (fun _ _ _ ls => decide (ls.length ≤ 100)) = true) := ⟨X1.out.2 (by simp), X2.out.2 (by simp)⟩
      have XB : Hid (Below W0.heap.size W0 W2) := X2.out.1
      have SM : Hid (∀ (X Y : Bl) (dx dy : Nat) (va vb vc vd : Value) (W : World), X.size ≤ 400 → X.allP (fun _ _ _ ls => decide (ls.length ≤ 100)) = true → Below W0.heap.size W0 W → Bl.Lies W w.heap.size dx va vb X → Bl.Lies W w.heap.size dy vc vd Y → ∀ q : Bool, (q = true ↔ X = Y) → Calls Tryd.prog 12 #[.agg #[.int .i64 X.kind, .int .i64 X.node, .int .i64 X.arg, va, vb], .agg #[.int .i64 Y.kind, .int .i64 Y.node, .int .i64 Y.arg, vc, vd]] W fun e w' => e = .returned (.bool q) ∧ Hid (Below W0.heap.size W0 w')) := by
        intro X Y dx dy va vb vc vd W hz hf hb hX hY q hq
        have hw := (LS.out W hb).2.2.2
        have hd := X.depth_le_size
        refine (Tryd.blockSame_any dx dy X Y va vb vc vd W (hX.wider hw) (hY.wider hw) (by have := HO.out.1.lt; omega) (by omega) (by omega) (few hf)).mono ?_
        rintro e w' ⟨⟨r, rfl, hr⟩, hb'⟩
        have : r = q := by rw [Bool.eq_iff_iff]; exact hr.trans hq.symm
        subst this
        exact ⟨rfl, hb.trans (hb'.mono hb.size)⟩
      have C1 : Hid (∀ q : Bool, (q = true ↔ S = T) → ∀ W, Below W0.heap.size W0 W → Calls Tryd.prog 12 #[agg k1 n1 r1 a m1 ca la l1 lc, agg k2 n2 r2 b m2 cb lb l2 ld] W fun e w' => e = .returned (.bool q) ∧ Hid (Below W0.heap.size W0 w')) := fun q hq W hb => by
        have h := SM.out S T d d' _ _ _ _ W HZ.out.1.1 HZ.out.1.2 hb (LS.out W hb).1 (LS.out W hb).2.1 q hq
        rw [HM.out.1.1, HM.out.1.2.1, HM.out.1.2.2.1, HM.out.2.1, HM.out.2.2.1, HM.out.2.2.2.1] at h
        exact h
      have C5 : Hid (∀ W, Below W0.heap.size W0 W → Calls Tryd.prog 12 #[agg k1 n1 r1 a m1 ca la l1 lc, agg k1 n1 r1 a m1 ca la l1 lc] W fun e w' => e = .returned (.bool true) ∧ Hid (Below W0.heap.size W0 w')) := fun W hb => by
        have h := SM.out S S d d _ _ _ _ W HZ.out.1.1 HZ.out.1.2 hb (LS.out W hb).1 (LS.out W hb).1 true (by simp)
        rw [HM.out.1.1, HM.out.1.2.1, HM.out.1.2.2.1] at h
        exact h
      have C2 : Hid (∀ W, Below W0.heap.size W0 W → Calls Tryd.prog 7 #[agg k1 n1 r1 a m1 ca la l1 lc] W fun e w' => ∃ a' c' p' c'', e = .returned (agg k1 n1 r1 a' m1 c' p' l1 c'') ∧ Hid (Below W0.heap.size W0 w' ∧ ∃ dd, ∀ W', Below w'.heap.size w' W' → Bl.Lies W' w'.heap.size dd (.slice a' m1 c') (.slice p' l1 c'') S)) := fun W hb => by
        have h := Bk.refC d S _ _ W ((LS.out W hb).1.wider (LS.out W hb).2.2.2) (by have := HZ.out.1.1; omega) HZ.out.1.2
        rw [HM.out.1.1, HM.out.1.2.1, HM.out.1.2.2.1, HM.out.1.2.2.2.1, HM.out.1.2.2.2.2] at h
        refine h.mono ?_
        rintro e w' ⟨hb', a', c', p', c'', dd, rfl, hl⟩
        exact ⟨a', c', p', c'', rfl, hb.trans (hb'.mono hb.size), dd, fun W' hW' => (hl.lies fun k hk => hk.2).below hW'⟩
      have C3 : Hid (∀ W, Below W0.heap.size W0 W → Calls Tryd.prog 7 #[agg k2 n2 r2 b m2 cb lb l2 ld] W fun e w' => ∃ a' c' p' c'', e = .returned (agg k2 n2 r2 a' m2 c' p' l2 c'') ∧ Hid ((Below W0.heap.size W0 w' ∧ Below W.heap.size W w') ∧ ∃ dd, ∀ W', Below w'.heap.size w' W' → Bl.Lies W' w'.heap.size dd (.slice a' m2 c') (.slice p' l2 c'') T)) := fun W hb => by
        have h := Bk.refC d' T _ _ W ((LS.out W hb).2.1.wider (LS.out W hb).2.2.2) (by have := HZ.out.2.1; omega) HZ.out.2.2
        rw [HM.out.2.1, HM.out.2.2.1, HM.out.2.2.2.1, HM.out.2.2.2.2.1, HM.out.2.2.2.2.2] at h
        refine h.mono ?_
        rintro e w' ⟨hb', a', c', p', c'', dd, rfl, hl⟩
        exact ⟨a', c', p', c'', rfl, ⟨hb.trans (hb'.mono hb.size), hb'⟩, dd, fun W' hW' => (hl.lies fun k hk => hk.2).below hW'⟩
      have C4 : Hid (∀ q : Bool, (q = true ↔ S = T) → ∀ (W4 W5 : World) (a4 : Option Addr) (c4 : Nat) (p4 : Option Addr) (d4 : Nat) (a5 : Option Addr) (c5 : Nat) (p5 : Option Addr) (d5 : Nat),
          (∃ dd, ∀ W', Below W4.heap.size W4 W' → Bl.Lies W' W4.heap.size dd (.slice a4 m1 c4) (.slice p4 l1 d4) S) → Below W4.heap.size W4 W5 → Below W0.heap.size W0 W5 → (∃ dd, ∀ W', Below W5.heap.size W5 W' → Bl.Lies W' W5.heap.size dd (.slice a5 m2 c5) (.slice p5 l2 d5) T) → ∀ W, Below W5.heap.size W5 W →
          Calls Tryd.prog 13 #[agg k1 n1 r1 a4 m1 c4 p4 l1 d4, agg k2 n2 r2 a5 m2 c5 p5 l2 d5] W fun e w' => e = .returned (.bool q) ∧ Hid (Below W0.heap.size W0 w')) := by
        intro q hq W4 W5 a4 c4 p4 d4 a5 c5 p5 d5 h4 h45 h05 h5 W hW
        obtain ⟨e4, h4⟩ := h4
        obtain ⟨e5, h5⟩ := h5
        have b4 := h4 W (h45.trans (hW.mono h45.size))
        have b5 := h5 W hW
        have h := Tryd.refBSame_any e4 S T _ _ _ _ e5 W5.heap.size W (b4.wider h45.size) b5 hW.size (by have := HZ.out.1.1; omega) (few HZ.out.1.2)
        rw [HM.out.1.1, HM.out.1.2.1, HM.out.1.2.2.1, HM.out.2.1, HM.out.2.2.1, HM.out.2.2.2.1] at h
        refine h.mono ?_
        rintro e w' ⟨⟨r, rfl, hr⟩, hb'⟩
        have : r = q := by rw [Bool.eq_iff_iff]; exact hr.trans hq.symm
        subst this
        have hb5 : Below W0.heap.size W0 W := h05.trans (hW.mono h05.size)
        exact ⟨rfl, hb5.trans (hb'.mono hb5.size)⟩
      obtain ⟨q, hq⟩ : ∃ q : Bool, (q = true ↔ S = T) := by
        by_cases h : S = T
        · exact ⟨true, by simp [h]⟩
        · exact ⟨false, by simp [h]⟩
      have D1 : Hid _ := C1.out q hq
      have D4 : Hid _ := C4.out q hq
      clear hq C1 C4 SM B1 B2 X1 X2 BR A0 S0 HO HZ HM
      cases q
      all_goals
        go_upto_region 3 with fail
        go_region_held3 (fun W => (W.cell? ⟨w.heap.size, 0, none⟩ = some (.int .i64 k1) ∧ W.cell? ⟨w.heap.size, 1, none⟩ = some (.int .i64 n1) ∧ W.cell? ⟨w.heap.size, 2, none⟩ = some (.int .i64 r1) ∧ W.cell? ⟨w.heap.size, 3, none⟩ = some (.slice a m1 ca) ∧ W.cell? ⟨w.heap.size, 4, none⟩ = some (.slice la l1 lc)) ∧
            W.cell? ⟨w.heap.size + 1, 0, none⟩ = some (.int .i64 k2) ∧ W.cell? ⟨w.heap.size + 1, 1, none⟩ = some (.int .i64 n2) ∧ W.cell? ⟨w.heap.size + 1, 2, none⟩ = some (.int .i64 r2) ∧ W.cell? ⟨w.heap.size + 1, 3, none⟩ = some (.slice b m2 cb) ∧ W.cell? ⟨w.heap.size + 1, 4, none⟩ = some (.slice lb l2 ld))
          (first | exact CF.out _ X8.out | exact CF.out _ X7.out | exact CF.out _ X6.out | exact CF.out _ X5.out.1.1 | exact CF.out _ X4.out.1 | exact CF.out _ X3.out | exact CF.out _ XB.out.drew | exact CF.out _ XB.out)
          (first
          | (go_simp; go_at_call 13; refine Calls.mono (D4.out W4 W5 a4 c4 p4 d4 a5 c5 p5 d5 X4.out.2 ?_ X5.out.1.1 X5.out.2 _ ?_) ?_; exact W45.out; (first | exact Below.refl _ _ | exact (Below.refl _ _).drew | exact Tk.below_drewN (Below.refl _ _) _); rintro e W6 ⟨rfl, X6⟩)
          | (go_simp; go_at_call 6; refine Calls.mono (ALT.out _ ?_) ?_; (first | exact X7.out | exact X7.out.drew | exact Tk.below_drewN X7.out _); rintro e W8 ⟨rfl, X8⟩)
          | (go_simp; go_at_call 7; (first | (have hX := X4.out.1; refine Calls.mono (C3.out _ ?_) ?_; (first | exact hX | exact hX.drew | exact Tk.below_drewN hX _); rintro e W5 ⟨a5, c5, p5, d5, rfl, X5⟩; have W45 : Hid (Below W4.heap.size W4 W5) := by (first | exact X5.out.1.2 | exact ((Below.refl _ W4).drew).trans X5.out.1.2 | exact (Tk.below_drewN (Below.refl _ W4) _).trans X5.out.1.2)) | (refine Calls.mono (C2.out _ ?_) ?_; (first | exact X3.out | exact X3.out.drew | exact Tk.below_drewN X3.out _); rintro e W4 ⟨a4, c4, p4, d4, rfl, X4⟩)))
          | (go_simp; go_at_call 12; (first | (have hX := X6.out; refine Calls.mono (C5.out _ ?_) ?_; (first | exact hX | exact hX.drew | exact Tk.below_drewN hX _); rintro e W7 ⟨rfl, X7⟩) | (refine Calls.mono (D1.out _ ?_) ?_; (first | exact XB.out | exact XB.out.drew | exact Tk.below_drewN XB.out _); rintro e W3 ⟨rfl, X3⟩))))
        have HF : Hid (Below w.heap.size w W8) := (LS.out W8 X8.out).2.2.1
        clear C2 C3 C5 D1 D4 ALT LS CF
        go_simp
        go_wp2
        go_ret
        exact ⟨rfl, HF.out⟩

end Go.Proofs.YtomcaophaglljaaDoor.BlockSame
