/-
  The statement BlockTexts walked.
-/
import Derived.Test.YtimmgchapcbgfaaDoorBlAlt
import Derived.Test.YtimmgchapcbgfaaDoorBlLawRef2
import Derived.Test.YtimmgchapcbgfaaDoorBlBig
import Derived.Test.YtimmgchapcbgfaaDoorBlRefTextOf
import Derived.Test.YtimmgchapcbgfaaDoorBlSize
namespace Go.Proofs.YtimmgchapcbgfaaDoor.BlockTexts
open Go.RowKit

/-- A block as a value. -/
abbrev agg (k n r : Int) (a : Option Addr) (m c : Nat) (la : Option Addr) (ml lc : Nat) : Value := .agg #[.int .i64 k, .int .i64 n, .int .i64 r, .slice a m c, .slice la ml lc]
theorem few {T : Bl} (h : T.allP (fun _ _ _ ls => decide (ls.length ≤ 100)) = true) : T.allP (fun _ _ _ ls => decide (ls.length ≤ 2147483647)) = true ∧ T.room ≤ 6900 * T.size := by
  have key : (∀ T : Bl, T.allP (fun _ _ _ ls => decide (ls.length ≤ 100)) = true → T.allP (fun _ _ _ ls => decide (ls.length ≤ 2147483647)) = true ∧ T.room ≤ 6900 * T.size) := by
    intro T
    exact Bl.rec (motive_1 := fun T => T.allP (fun _ _ _ ls => decide (ls.length ≤ 100)) = true → T.allP (fun _ _ _ ls => decide (ls.length ≤ 2147483647)) = true ∧ T.room ≤ 6900 * T.size)
      (motive_2 := fun l => Bl.allPs (fun _ _ _ ls => decide (ls.length ≤ 100)) l = true → Bl.allPs (fun _ _ _ ls => decide (ls.length ≤ 2147483647)) l = true ∧ Bl.rooms l ≤ 6900 * Bl.sizes l)
      (fun k n a ks ls ih h => by
        rw [Bl.allP, Bool.and_eq_true, decide_eq_true_eq] at h
        have h2 := ih h.2
        rw [Bl.allP, Bool.and_eq_true, decide_eq_true_eq, Bl.room, Bl.size]
        exact ⟨⟨by omega, h2.1⟩, by omega⟩)
      (fun h => by rw [Bl.allPs, Bl.rooms]; exact ⟨rfl, Nat.zero_le _⟩)
      (fun x r ih1 ih2 h => by
        rw [Bl.allPs, Bool.and_eq_true] at h
        have h1 := ih1 h.1
        have h2 := ih2 h.2
        rw [Bl.allPs, Bool.and_eq_true, Bl.rooms, Bl.sizes]
        exact ⟨⟨h1.1, h2.1⟩, by omega⟩) T
  exact key T h

set_option maxRecDepth 100000 in
set_option maxHeartbeats 16000000 in
theorem walk (d : Nat) (S : Bl) (u lu : Value) (w : World) (hS : Bl.Lies w w.heap.size d u lu S) (hin : S.allP Bl.intB = true) (hO : Bk.Names w) (hTab : Lib.TabIs Tryd.prog w "internal/strconv.uint64pow10" .u64 Lib.pow10Tab) :
    Calls Tryd.prog 3 #[.agg #[.int .i64 S.kind, .int .i64 S.node, .int .i64 S.arg, u, lu]] w fun e w' => e = .returned (.bool true) ∧ Below w.heap.size w w' := by
  obtain ⟨a, ca, rfl⟩ := hS.shape
  obtain ⟨la, lc, rfl⟩ := hS.links.shape
  obtain ⟨k1, hk1⟩ : ∃ z, S.kind = z := ⟨_, rfl⟩
  obtain ⟨n1, hn1⟩ : ∃ z, S.node = z := ⟨_, rfl⟩
  obtain ⟨r1, hr1⟩ : ∃ z, S.arg = z := ⟨_, rfl⟩
  obtain ⟨m1, hm1⟩ : ∃ z, S.ks.length = z := ⟨_, rfl⟩
  obtain ⟨l1, hl1⟩ : ∃ z, S.ls.length = z := ⟨_, rfl⟩
  rw [hk1, hn1, hr1, hm1, hl1]
  rw [hm1, hl1] at hS
  obtain ⟨W0, hW0⟩ : ∃ z, w.alloc (.cells #[.int .i64 k1, .int .i64 n1, .int .i64 r1, .slice a m1 ca, .slice la l1 lc] 25) = z := ⟨_, rfl⟩
  have A0 : Hid (Below w.heap.size w W0) := by show Below _ _ _; rw [← hW0]; exact (Below.refl _ w).alloc (Nat.le_refl _) _
  have S0 : Hid (W0.heap.size = w.heap.size + 1) := by show _ = _; rw [← hW0]; simp
  have G1 : Hid (W0.heap[w.heap.size]? = some (.cells #[.int .i64 k1, .int .i64 n1, .int .i64 r1, .slice a m1 ca, .slice la l1 lc] 25 (0, 0))) := by show _ = _; rw [← hW0]; exact heap_alloc_new w _
  have CF : Hid (∀ W, Below W0.heap.size W0 W → W.cell? ⟨w.heap.size, 0, none⟩ = some (.int .i64 k1) ∧ W.cell? ⟨w.heap.size, 1, none⟩ = some (.int .i64 n1) ∧ W.cell? ⟨w.heap.size, 2, none⟩ = some (.int .i64 r1) ∧ W.cell? ⟨w.heap.size, 3, none⟩ = some (.slice a m1 ca) ∧ W.cell? ⟨w.heap.size, 4, none⟩ = some (.slice la l1 lc)) := fun W hb =>
    Bk.box5 ((hb.block _ (by have := S0.out; omega)).trans G1.out)
  have LS : Hid (∀ W, Below W0.heap.size W0 W → Bl.Lies W w.heap.size d (.slice a m1 ca) (.slice la l1 lc) S ∧ Below w.heap.size w W ∧ w.heap.size ≤ W.heap.size) := fun W hb => by
    have h := A0.out.trans (hb.mono (by have := S0.out; omega))
    exact ⟨hS.below h, h, h.size⟩
  have HO : Hid (Bk.Names w ∧ Lib.TabIs Tryd.prog w "internal/strconv.uint64pow10" .u64 Lib.pow10Tab) := ⟨hO, hTab⟩
  have ALT : Hid (∀ W, Below W0.heap.size W0 W → Calls Tryd.prog 5 #[] W fun e w' => e = .returned (.bool true) ∧ Hid (Below W0.heap.size W0 w')) := fun W hb => by
    have h := (LS.out W hb).2.1
    exact (Tryd.balt_any W (HO.out.1.below h HO.out.1.lt) (Lib.tabBelow_of_tabIs HO.out.2 W h)).mono fun _ _ q => ⟨q.1, hb.trans (q.2.mono hb.size)⟩
  have BG : Hid (∀ W, Below W0.heap.size W0 W → Calls Tryd.prog 4 #[agg k1 n1 r1 a m1 ca la l1 lc, .pointer (some ⟨W.heap.size, 0, none⟩), .int .i64 1] (W.alloc (.cells #[.int .i64 400] 29)) fun e w' => ∃ q, e = .returned (.bool q) ∧ Hid (Below W0.heap.size W0 w' ∧ (q = false → S.size ≤ 400 ∧ S.allP (fun _ _ _ ls => decide (ls.length ≤ 100)) = true))) := by
    intro W hb
    have hw := (LS.out W hb).2.2
    have A1 : Below W.heap.size W (W.alloc (.cells #[.int .i64 400] 29)) := (Below.refl _ W).alloc (Nat.le_refl _) _
    have hR : Bk.Rm W.heap.size ((400 : Nat) : Int) (W.alloc (.cells #[.int .i64 400] 29)) := heap_alloc_new W _
    have h := Tryd.big_any d S _ _ 400 W.heap.size 1 w.heap.size (W.alloc (.cells #[.int .i64 400] 29)) ((LS.out W hb).1.below (A1.mono hw)) hw (by simp; omega) hR (by omega) (by omega)
    rw [hk1, hn1, hr1] at h
    refine h.mono ?_
    rintro e w' ⟨hbt, hend⟩
    have hbl : Below W0.heap.size W0 w' := by
      have h1 : Below W0.heap.size W0 (W.alloc (.cells #[.int .i64 400] 29)) := hb.trans (A1.mono hb.size)
      exact ⟨hbt.os.trans h1.os, hbt.tape.trans h1.tape, hbt.output.trans h1.output, Nat.le_trans h1.size hbt.size, fun i hi => (hbt.block i (Nat.lt_of_lt_of_le hi h1.size) (by have := hb.size; omega)).trans (h1.block i hi)⟩
    rcases hend with ⟨rfl, h1, h2, _⟩ | rfl
    · exact ⟨false, rfl, hbl, fun _ => ⟨h1, h2⟩⟩
    · exact ⟨true, rfl, hbl, fun h => by cases h⟩
  have HM : Hid (S.kind = k1 ∧ S.node = n1 ∧ S.arg = r1 ∧ S.ks.length = m1 ∧ S.ls.length = l1) := ⟨hk1, hn1, hr1, hm1, hl1⟩
  have HIN : Hid (S.allP Bl.intB = true) := hin
  have HW0 : Hid _ := hW0
  clear hS hO hTab hk1 hn1 hr1 hm1 hl1 hW0 G1 hin
  have BR : Hid (Below W0.heap.size W0 W0) := Below.refl _ _
  go_enter Tryd.func3, Tryd.ntmps3
  go_upto_region 1 with fail
  rw [HW0.out]
  clear HW0
  obtain ⟨x0, x1, x2, x3, x4⟩ := CF.out W0 BR.out
  go_wp2_with fail
  refine Calls.mono (BG.out _ BR.out) ?_
  rintro e W1 ⟨q1, rfl, X1⟩
  clear x0 x1 x2 x3 x4
  obtain ⟨x0, x1, x2, x3, x4⟩ := CF.out W1 X1.out.1
  cases q1 with
  | true =>
    clear x0 x1 x2 x3 x4
    go_wp2_with fail
    refine Calls.mono (ALT.out _ X1.out.1) ?_
    rintro e W2 ⟨rfl, X2⟩
    have HF : Hid (Below w.heap.size w W2) := (LS.out W2 X2.out).2.1
    go_wp2
    go_ret
    exact ⟨rfl, HF.out⟩
  | false =>
    have HZ : Hid (S.size ≤ 400 ∧ S.allP (fun _ _ _ ls => decide (ls.length ≤ 100)) = true ∧ S.allP (fun _ _ _ ls => decide (ls.length ≤ 2147483647)) = true ∧ S.room ≤ 800000000) := by
      have h := X1.out.2 rfl
      have h2 := few h.2
      exact ⟨h.1, h.2, h2.1, by omega⟩
    have C2 : Hid (∀ W, Below W0.heap.size W0 W → Calls Tryd.prog 6 #[agg k1 n1 r1 a m1 ca la l1 lc] W fun e w' => ∃ a' c' p' c'', e = .returned (agg k1 n1 r1 a' m1 c' p' l1 c'') ∧ Hid (Below W0.heap.size W0 w' ∧ ∃ dd, ∀ W', Below w'.heap.size w' W' → Bl.Lies W' w'.heap.size dd (.slice a' m1 c') (.slice p' l1 c'') S)) := fun W hb => by
      have h := Bk.refC d S _ _ W ((LS.out W hb).1.wider (LS.out W hb).2.2) (by have := HZ.out.1; omega) HZ.out.2.1
      rw [HM.out.1, HM.out.2.1, HM.out.2.2.1, HM.out.2.2.2.1, HM.out.2.2.2.2] at h
      refine h.mono ?_
      rintro e w' ⟨hb', a', c', p', c'', dd, rfl, hl⟩
      exact ⟨a', c', p', c'', rfl, hb.trans (hb'.mono hb.size), dd, fun W' hW' => (hl.lies fun k hk => hk.2).below hW'⟩
    go_upto_region 3 with fail
    go_wp2_with fail
    refine Calls.mono (C2.out _ X1.out.1) ?_
    rintro e W2 ⟨a', c', p', c'', rfl, X2⟩
    clear x0 x1 x2 x3 x4 C2 BG
    have HK : Hid ((W2.alloc (.cells #[.int .i64 0, .int .i64 0, .int .i64 0, .slice none 0 0, .slice none 0 0] 34)).heap[W2.heap.size]? = some (.cells #[.int .i64 0, .int .i64 0, .int .i64 0, .slice none 0 0, .slice none 0 0] 34 (0, 0))) := by show _ = _; exact heap_alloc_new W2 _
    obtain ⟨W3, hW3⟩ : ∃ z, (W2.alloc (.cells #[.int .i64 0, .int .i64 0, .int .i64 0, .slice none 0 0, .slice none 0 0] 34)).setRow W2.heap.size #[.int .i64 k1, .int .i64 n1, .int .i64 r1, .slice a' m1 c', .slice p' l1 c''] = z := ⟨_, rfl⟩
    have HW3 : Hid _ := hW3
    have G3 : Hid (W3.heap[W2.heap.size]? = some (.cells #[.int .i64 k1, .int .i64 n1, .int .i64 r1, .slice a' m1 c', .slice p' l1 c''] 34 (0, 0))) := by show _ = _; rw [← hW3]; exact setRow_heap _ _ _ _ _ _ HK.out
    have S3 : Hid (W2.heap.size < W3.heap.size) := (Array.getElem?_eq_some_iff.1 G3.out).1
    have A3 : Hid (Below W2.heap.size W2 W3) := by show Below _ _ _; rw [← hW3]; exact Bk.below_row ((Below.refl _ W2).alloc (Nat.le_refl _) _) (Nat.le_refl _) _
    have K3 : Hid (∀ W, Below W3.heap.size W3 W → Below W0.heap.size W0 W ∧ Below W2.heap.size W2 W) := fun W hb => by
      have h1 := A3.out.trans (hb.mono A3.out.size)
      exact ⟨X2.out.1.trans (h1.mono X2.out.1.size), h1⟩
    have CG : Hid (∀ W, Below W3.heap.size W3 W → W.cell? ⟨W2.heap.size, 0, none⟩ = some (.int .i64 k1) ∧ W.cell? ⟨W2.heap.size, 1, none⟩ = some (.int .i64 n1) ∧ W.cell? ⟨W2.heap.size, 2, none⟩ = some (.int .i64 r1) ∧ W.cell? ⟨W2.heap.size, 3, none⟩ = some (.slice a' m1 c') ∧ W.cell? ⟨W2.heap.size, 4, none⟩ = some (.slice p' l1 c'')) := fun W hb => by
      have e1 := (hb.block _ S3.out).trans G3.out
      exact ⟨by simp [World.cell?, e1], by simp [World.cell?, e1], by simp [World.cell?, e1], by simp [World.cell?, e1], by simp [World.cell?, e1]⟩
    obtain ⟨X, hX⟩ : ∃ z : ByteArray, (⟨S.textR.1.toArray⟩ : ByteArray) = z := ⟨_, rfl⟩
    obtain ⟨ec, hec⟩ : ∃ z, S.textR.2 = z := ⟨_, rfl⟩
    obtain ⟨sz, hsz⟩ : ∃ z, S.size = z := ⟨_, rfl⟩
    have T1 : Hid (∀ W, Below W3.heap.size W3 W → Calls Tryd.prog 7 #[agg k1 n1 r1 a m1 ca la l1 lc] W fun e w' => e = .returned (.tuple #[.string X, .int .i64 ec]) ∧ Hid (Below W3.heap.size W3 w')) := fun W hb => by
      have h0 := (K3.out W hb).1
      have h1 := LS.out W h0
      have hd := S.depth_le_size
      have h := Tryd.btext_any d S _ _ W (h1.1.wider h1.2.2) (HO.out.1.below h1.2.1 HO.out.1.lt) (Lib.tabBelow_of_tabIs HO.out.2 W h1.2.1) (by have := HZ.out.1; omega) (by have := HZ.out.1; omega) HZ.out.2.2.1 HIN.out HZ.out.2.2.2
      rw [HM.out.1, HM.out.2.1, HM.out.2.2.1, hX, hec] at h
      exact h.mono fun _ _ q => ⟨q.1, hb.trans (q.2.mono hb.size)⟩
    have LR : ∀ W, Below W3.heap.size W3 W → ∃ dd, Bl.Lies W W.heap.size dd (.slice a' m1 c') (.slice p' l1 c'') S := fun W hb => by
      have h0 := (K3.out W hb).2
      obtain ⟨dd, hl⟩ := X2.out.2
      exact ⟨dd, (hl W h0).wider h0.size⟩
    have T2 : Hid (∀ W, Below W3.heap.size W3 W → Calls Tryd.prog 8 #[agg k1 n1 r1 a' m1 c' p' l1 c''] W fun e w' => e = .returned (.tuple #[.string X, .int .i64 ec]) ∧ Hid (Below W3.heap.size W3 w')) := fun W hb => by
      obtain ⟨dd, hl⟩ := LR W hb
      have h := Tryd.refBText_any dd S _ _ W hl (by have := HZ.out.1; omega) HZ.out.2.2.1 HIN.out HZ.out.2.2.2
      rw [HM.out.1, HM.out.2.1, HM.out.2.2.1, hX, hec] at h
      exact h.mono fun _ _ q => ⟨q.1, hb.trans (q.2.mono hb.size)⟩
    have T3 : Hid (∀ W, Below W3.heap.size W3 W → Calls Tryd.prog 9 #[agg k1 n1 r1 a m1 ca la l1 lc] W fun e w' => e = .returned (.int .i64 sz) ∧ Hid (Below W3.heap.size W3 w')) := fun W hb => by
      have h0 := (K3.out W hb).1
      have h1 := LS.out W h0
      have hd := S.depth_le_size
      have h := Tryd.bsize_any d S _ _ W (h1.1.wider h1.2.2) (by have := HO.out.1.lt; omega) (by have := HZ.out.1; omega) (by have := HZ.out.1; omega) HZ.out.2.2.1
      rw [HM.out.1, HM.out.2.1, HM.out.2.2.1, hsz] at h
      exact h.mono fun _ _ q => ⟨q.1, hb.trans (q.2.mono hb.size)⟩
    have T4 : Hid (∀ W, Below W3.heap.size W3 W → Calls Tryd.prog 10 #[agg k1 n1 r1 a' m1 c' p' l1 c''] W fun e w' => e = .returned (.int .i64 sz) ∧ Hid (Below W3.heap.size W3 w')) := fun W hb => by
      obtain ⟨dd, hl⟩ := LR W hb
      have h := Tryd.refBSize_any dd S _ _ W hl (by have := HZ.out.1; omega)
      rw [HM.out.1, HM.out.2.1, HM.out.2.2.1, hsz] at h
      exact h.mono fun _ _ q => ⟨q.1, hb.trans (q.2.mono hb.size)⟩
    have T5 : Hid (∀ W, Below W3.heap.size W3 W → Calls Tryd.prog 5 #[] W fun e w' => e = .returned (.bool true) ∧ Hid (Below w.heap.size w w' ∧ Below W3.heap.size W3 w')) := fun W hb => by
      have h := (LS.out W (K3.out W hb).1).2.1
      exact (Tryd.balt_any W (HO.out.1.below h HO.out.1.lt) (Lib.tabBelow_of_tabIs HO.out.2 W h)).mono fun _ _ q => ⟨q.1, h.trans (q.2.mono h.size), hb.trans (q.2.mono hb.size)⟩
    have B3 : Hid (Below W3.heap.size W3 W3) := Below.refl _ _
    have CC : Hid (∀ W, Below W3.heap.size W3 W → (W.cell? ⟨w.heap.size, 0, none⟩ = some (.int .i64 k1) ∧ W.cell? ⟨w.heap.size, 1, none⟩ = some (.int .i64 n1) ∧ W.cell? ⟨w.heap.size, 2, none⟩ = some (.int .i64 r1) ∧ W.cell? ⟨w.heap.size, 3, none⟩ = some (.slice a m1 ca) ∧ W.cell? ⟨w.heap.size, 4, none⟩ = some (.slice la l1 lc)) ∧ W.cell? ⟨W2.heap.size, 0, none⟩ = some (.int .i64 k1) ∧ W.cell? ⟨W2.heap.size, 1, none⟩ = some (.int .i64 n1) ∧ W.cell? ⟨W2.heap.size, 2, none⟩ = some (.int .i64 r1) ∧ W.cell? ⟨W2.heap.size, 3, none⟩ = some (.slice a' m1 c') ∧ W.cell? ⟨W2.heap.size, 4, none⟩ = some (.slice p' l1 c'')) := fun W hb => ⟨CF.out W (K3.out W hb).1, CG.out W hb⟩
    clear hW3 LR hX hec hsz
    go_upto_region 4 with (refine wpList_store_row rfl 34 _ _ rfl W2.heap.size _ rfl rfl 34 #[.int .i64 0, .int .i64 0, .int .i64 0, .slice none 0 0, .slice none 0 0] (by exact HK.out) (by kernel_rfl) rfl (by kernel_rfl) ?_)
    rw [HW3.out]
    clear HK HW3 G3 S3 A3 K3 CG X2 X1 CF LS ALT HO HZ HM HIN A0 S0
    obtain ⟨⟨x0, x1, x2, x3, x4⟩, y0, y1, y2, y3, y4⟩ := CC.out W3 B3.out
    go_wp2_with fail
    refine Calls.mono (T1.out _ B3.out) ?_
    rintro e W4 ⟨rfl, B4⟩
    clear x0 x1 x2 x3 x4 y0 y1 y2 y3 y4 T1
    obtain ⟨⟨x0, x1, x2, x3, x4⟩, y0, y1, y2, y3, y4⟩ := CC.out W4 B4.out
    go_wp2_with fail
    refine Calls.mono (T2.out _ B4.out) ?_
    rintro e W5 ⟨rfl, B5⟩
    clear x0 x1 x2 x3 x4 y0 y1 y2 y3 y4 T2
    go_upto_region 6 with fail
    go_region_held3 (fun W => (W.cell? ⟨w.heap.size, 0, none⟩ = some (.int .i64 k1) ∧ W.cell? ⟨w.heap.size, 1, none⟩ = some (.int .i64 n1) ∧ W.cell? ⟨w.heap.size, 2, none⟩ = some (.int .i64 r1) ∧ W.cell? ⟨w.heap.size, 3, none⟩ = some (.slice a m1 ca) ∧ W.cell? ⟨w.heap.size, 4, none⟩ = some (.slice la l1 lc)) ∧ W.cell? ⟨W2.heap.size, 0, none⟩ = some (.int .i64 k1) ∧ W.cell? ⟨W2.heap.size, 1, none⟩ = some (.int .i64 n1) ∧ W.cell? ⟨W2.heap.size, 2, none⟩ = some (.int .i64 r1) ∧ W.cell? ⟨W2.heap.size, 3, none⟩ = some (.slice a' m1 c') ∧ W.cell? ⟨W2.heap.size, 4, none⟩ = some (.slice p' l1 c''))
      (first | exact CC.out _ B8.out.2 | exact CC.out _ B7.out | exact CC.out _ B6.out | exact CC.out _ B5.out.drew | exact CC.out _ B5.out)
      (first
      | (go_simp; go_at_call 9; refine Calls.mono (T3.out _ ?_) ?_; (first | exact B5.out | exact B5.out.drew | exact Tk.below_drewN B5.out _); rintro e W6 ⟨rfl, B6⟩)
      | (go_simp; go_at_call 10; refine Calls.mono (T4.out _ ?_) ?_; (first | exact B6.out | exact B6.out.drew | exact Tk.below_drewN B6.out _); rintro e W7 ⟨rfl, B7⟩)
      | (go_simp; go_at_call 5; refine Calls.mono (T5.out _ ?_) ?_; (first | exact B7.out | exact B7.out.drew | exact Tk.below_drewN B7.out _); rintro e W8 ⟨rfl, B8⟩))
    have HF : Hid (Below w.heap.size w W8) := B8.out.1
    clear T3 T4 T5 CC
    go_simp
    go_wp2
    go_ret
    exact ⟨rfl, HF.out⟩

end Go.Proofs.YtimmgchapcbgfaaDoor.BlockTexts
