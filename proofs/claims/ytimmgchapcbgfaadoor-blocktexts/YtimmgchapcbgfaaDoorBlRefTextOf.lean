/-
  The document's Text of blocks.
-/
import Derived.Test.YtimmgchapcbgfaaDoorBlRefWeb
import Derived.Test.YtimmgchapcbgfaaDoorBlRefDepth
import Derived.Test.YtimmgchapcbgfaaDoorBlRefBad
import Derived.Test.YtimmgchapcbgfaaDoorBlTextOf
namespace Go.Proofs
open Go.RowKit

set_option maxRecDepth 20000 in
set_option maxHeartbeats 8000000 in
theorem Tryd.refBText_any (d : Nat) (T : Bl) (v lv : Value) (w : World) (hT : Bl.Lies w w.heap.size d v lv T) (hsz : T.size ≤ 2147483647) (hlk : T.allP (fun _ _ _ ls => decide (ls.length ≤ 2147483647)) = true) (hin : T.allP Bl.intB = true) (hrm : T.room ≤ 800000000) :
    Calls Tryd.prog 8 #[.agg #[.int .i64 T.kind, .int .i64 T.node, .int .i64 T.arg, v, lv]] w fun e w' => e = .returned (.tuple #[.string ⟨T.textR.1.toArray⟩, .int .i64 T.textR.2]) ∧ Below w.heap.size w w' := by
  obtain ⟨a, cap, rfl⟩ := hT.shape
  obtain ⟨al, cl, rfl⟩ := hT.links.shape
  obtain ⟨o, ho⟩ : ∃ o, T.kind = o := ⟨_, rfl⟩
  obtain ⟨m, hm⟩ : ∃ m, T.node = m := ⟨_, rfl⟩
  obtain ⟨r, hr⟩ : ∃ m, T.arg = m := ⟨_, rfl⟩
  obtain ⟨n, hn⟩ : ∃ n, T.ks.length = n := ⟨_, rfl⟩
  obtain ⟨nl, hnl⟩ : ∃ n, T.ls.length = n := ⟨_, rfl⟩
  rw [ho, hm, hr, hn, hnl]
  rw [hn, hnl] at hT
  obtain ⟨W0, hW0⟩ : ∃ z, w.alloc (.cells #[.int .i64 o, .int .i64 m, .int .i64 r, .slice a n cap, .slice al nl cl] 34) = z := ⟨_, rfl⟩
  have A0 : Hid (Below w.heap.size w W0) := by show Below _ _ _; rw [← hW0]; exact (Below.refl _ w).alloc (Nat.le_refl _) _
  have G0 : Hid (W0.heap[w.heap.size]? = some (.cells #[.int .i64 o, .int .i64 m, .int .i64 r, .slice a n cap, .slice al nl cl] 34 (0, 0))) := by show _ = _; rw [← hW0]; exact heap_alloc_new w _
  have SZ : Hid (w.heap.size < W0.heap.size) := (Array.getElem?_eq_some_iff.1 G0.out).1
  have CF : Hid (∀ W, Below W0.heap.size W0 W → (W.cell? ⟨w.heap.size, 0, none⟩ = some (.int .i64 o) ∧ W.cell? ⟨w.heap.size, 1, none⟩ = some (.int .i64 m) ∧ W.cell? ⟨w.heap.size, 2, none⟩ = some (.int .i64 r) ∧ W.cell? ⟨w.heap.size, 3, none⟩ = some (.slice a n cap) ∧ W.cell? ⟨w.heap.size, 4, none⟩ = some (.slice al nl cl)) ∧ Below w.heap.size w W) := fun W hb => by
    have e1 := (hb.block _ SZ.out).trans G0.out
    exact ⟨⟨by simp [World.cell?, e1], by simp [World.cell?, e1], by simp [World.cell?, e1], by simp [World.cell?, e1], by simp [World.cell?, e1]⟩, A0.out.trans (hb.mono A0.out.size)⟩
  have LS : ∀ W, Below W0.heap.size W0 W → Bl.Lies W W.heap.size d (.slice a n cap) (.slice al nl cl) T := fun W hb => by
    have h := (CF.out W hb).2
    exact (hT.below h).wider h.size
  have C1 : Hid (∀ W, Below W0.heap.size W0 W → Calls Tryd.prog 16 #[.agg #[.int .i64 o, .int .i64 m, .int .i64 r, .slice a n cap, .slice al nl cl]] W fun e w' => e = .returned (.int .i64 T.depth) ∧ Hid (Below W0.heap.size W0 w')) := fun W hb => by
    have h := Tryd.refBDepth_any d T _ _ W (LS W hb) hsz
    rw [ho, hm, hr] at h
    exact h.mono fun _ _ q => ⟨q.1, hb.trans (q.2.mono hb.size)⟩
  have C2 : Hid (∀ W, Below W0.heap.size W0 W → Calls Tryd.prog 10 #[.agg #[.int .i64 o, .int .i64 m, .int .i64 r, .slice a n cap, .slice al nl cl]] W fun e w' => e = .returned (.int .i64 T.size) ∧ Hid (Below W0.heap.size W0 w')) := fun W hb => by
    have h := Tryd.refBSize_any d T _ _ W (LS W hb) hsz
    rw [ho, hm, hr] at h
    exact h.mono fun _ _ q => ⟨q.1, hb.trans (q.2.mono hb.size)⟩
  have C3 : Hid (∀ W, Below W0.heap.size W0 W → Calls Tryd.prog 17 #[.agg #[.int .i64 o, .int .i64 m, .int .i64 r, .slice a n cap, .slice al nl cl]] W fun e w' => e = .returned (.bool (!T.allP Bl.writB)) ∧ Hid (Below W0.heap.size W0 w')) := fun W hb => by
    have h := Tryd.refBad_any d T _ _ W (LS W hb) hsz hlk
    rw [ho, hm, hr] at h
    exact h.mono fun _ _ q => ⟨q.1, hb.trans (q.2.mono hb.size)⟩
  have C4 : Hid (T.allP Bl.writB = true → ∀ W, Below W0.heap.size W0 W → Calls Tryd.prog 18 #[.agg #[.int .i64 o, .int .i64 m, .int .i64 r, .slice a n cap, .slice al nl cl]] W fun e w' => e = .returned (.string ⟨T.textL.toArray⟩) ∧ Hid (Below W0.heap.size W0 w')) := fun hw W hb => by
    have h := Tryd.refBPlain_any d T _ _ W (LS W hb) (Bl.ok_of T hw hin) hrm
    rw [ho, hm, hr] at h
    exact h.mono fun _ _ q => ⟨q.1, hb.trans (q.2.mono hb.size)⟩
  obtain ⟨dp, hdp⟩ : ∃ z, T.depth = z := ⟨_, rfl⟩
  obtain ⟨sz, hs⟩ : ∃ z, T.size = z := ⟨_, rfl⟩
  obtain ⟨q, hq⟩ : ∃ q, T.allP Bl.writB = q := ⟨_, rfl⟩
  obtain ⟨tx, htx⟩ : ∃ z, T.textL = z := ⟨_, rfl⟩
  obtain ⟨R, hR⟩ : ∃ z, T.textR = z := ⟨_, rfl⟩
  have HR : Hid (R = if (!decide (dp ≤ 24 ∧ sz ≤ 96)) = true then ([], 2) else if q = true then (tx, 0) else ([], 4)) := by
    show _ = _
    rw [← hR, Bl.textR, Bl.tooB, hdp, hs, hq, htx]
  rw [hdp] at C1
  rw [hs] at C2 hsz
  rw [hq] at C3 C4
  rw [htx] at C4
  rw [hR]
  have hd0 : dp ≤ 2147483647 := by have := T.depth_le_size; omega
  have HW0 : Hid _ := hW0
  have BR : Hid (Below W0.heap.size W0 W0) := Below.refl _ _
  clear LS hT ho hm hr hn hnl hlk hin hrm hdp hs hq htx hR hW0
  go_enter Tryd.func8, Tryd.ntmps8
  go_upto_region 1 with fail
  rw [HW0.out]
  clear HW0
  obtain ⟨⟨x0, x1, x2, x3, x4⟩, -⟩ := CF.out W0 BR.out
  go_wp2_with fail
  refine Calls.mono (C1.out _ BR.out) ?_
  rintro e W1 ⟨rfl, B1⟩
  clear x0 x1 x2 x3 x4 C1
  by_cases h1 : 24 < dp
  · have hd : decide ((24 : Int) < dp) = true := decide_eq_true (by omega)
    have HX : Hid (R = ([], 2)) := by show _ = _; rw [HR.out, if_pos (by simp; omega)]
    have HF : Hid (Below w.heap.size w W1) := (CF.out W1 B1.out).2
    go_wp2
    go_ret2
    exact ⟨by rw [HX.out]; rfl, HF.out⟩
  · have hd : decide ((24 : Int) < dp) = false := decide_eq_false (by omega)
    obtain ⟨⟨x0, x1, x2, x3, x4⟩, -⟩ := CF.out W1 B1.out
    go_wp2_with fail
    refine Calls.mono (C2.out _ B1.out) ?_
    rintro e W2 ⟨rfl, B2⟩
    clear x0 x1 x2 x3 x4 C2
    by_cases h2 : 96 < sz
    · have hd2 : decide ((96 : Int) < sz) = true := decide_eq_true (by omega)
      have HX : Hid (R = ([], 2)) := by show _ = _; rw [HR.out, if_pos (by simp; omega)]
      have HF : Hid (Below w.heap.size w W2) := (CF.out W2 B2.out).2
      go_wp2
      go_ret2
      exact ⟨by rw [HX.out]; rfl, HF.out⟩
    · have hd2 : decide ((96 : Int) < sz) = false := decide_eq_false (by omega)
      obtain ⟨⟨x0, x1, x2, x3, x4⟩, -⟩ := CF.out W2 B2.out
      have HN : Hid ((!decide (dp ≤ 24 ∧ sz ≤ 96)) = false) := by show _ = _; simp; omega
      go_wp2_with fail
      refine Calls.mono (C3.out _ B2.out) ?_
      rintro e W3 ⟨rfl, B3⟩
      clear x0 x1 x2 x3 x4 C3
      cases q with
      | false =>
        have HX : Hid (R = ([], 4)) := by show _ = _; rw [HR.out, HN.out]; rfl
        have HF : Hid (Below w.heap.size w W3) := (CF.out W3 B3.out).2
        go_wp2
        go_ret2
        exact ⟨by rw [HX.out]; rfl, HF.out⟩
      | true =>
        have HX : Hid (R = (tx, 0)) := by show _ = _; rw [HR.out, HN.out]; rfl
        obtain ⟨⟨x0, x1, x2, x3, x4⟩, -⟩ := CF.out W3 B3.out
        go_wp2_with fail
        refine Calls.mono (C4.out (by first | rfl | trivial) _ B3.out) ?_
        rintro e W4 ⟨rfl, B4⟩
        have HF : Hid (Below w.heap.size w W4) := (CF.out W4 B4.out).2
        clear x0 x1 x2 x3 x4 C4
        go_wp2
        go_ret2
        exact ⟨by rw [HX.out]; rfl, HF.out⟩

end Go.Proofs
