/-
  block.formed, kind by kind. · block.formed, kind by kind (B). · block.formed, kind by kind (C).
-/
import Derived.Test.YtemccpfgkbhahaaGreatDoorBlHolds
import Derived.Test.YtemccpfgkbhahaaGreatDoorBlLinked
namespace Go.Proofs
open Go.RowKit

/-- Is it a block, what its kids are in themselves aside? -/
def Bl.formedB (ns : List Nd) (fs : List Fl) (T : Bl) : Bool :=
  if (T.arg ≠ 0 ∧ T.kind ≠ 7) ∨ (0 < T.ls.length ∧ T.kind ≠ 9) ∨ T.holdsB = false then false
  else if T.kind = 1 ∨ T.kind = 10 then decide (T.node = 0 ∧ T.ks.length = 0)
  else if T.kind = 3 then decide (T.node = 0 ∧ 2 ≤ T.ks.length)
  else if T.kind = 9 then decide (T.node = 0 ∧ 1 ≤ T.ks.length) && Bl.linkedB T.ks.length fs.length T.ls
  else if T.kind = 2 then Nt.ofKinds ns T.node [3, 4, 8] && decide (T.ks.length = 0)
  else if T.kind = 8 then Nt.ofKinds ns T.node [5, 6, 7] && decide (T.ks.length = 0)
  else if T.kind = 4 then Bl.splitsB ns fs T.node T.ks.length 6
  else if T.kind = 5 then Bl.splitsB ns fs T.node T.ks.length 5
  else if T.kind = 6 then Bl.splitsB ns fs T.node T.ks.length 7
  else if T.kind = 7 then Bl.splitsB ns fs T.node T.ks.length 5 && decide (T.ks.length = 2) && decide (T.arg = 0 ∨ T.arg = 1)
  else false

theorem Bk.nums_three {w : World} {b : Nat} {x y z : Int} {t : TypeId} (h : w.heap[b]? = some (.cells #[.int .i64 x, .int .i64 y, .int .i64 z] t (0, 0))) : Bk.Nums w w.heap.size (some ⟨b, 0, none⟩) [x, y, z] := fun j hj => by
  refine ⟨b, 0, rfl, (Array.getElem?_eq_some_iff.1 h).1, ?_⟩
  have hj3 : j < 3 := by simpa using hj
  obtain rfl | rfl | rfl : j = 0 ∨ j = 1 ∨ j = 2 := by omega
  all_goals simp [World.cell?, h]

set_option maxRecDepth 20000 in
set_option maxHeartbeats 16000000 in
theorem Tryz.bformed_1 (d dn B : Nat) (T : Bl) (v u : Value) (an : Option Addr) (cn : Nat) (af : Option Addr) (cf : Nat) (ns : List Nd) (fs : List Fl) (w : World) (hT : Bl.Lies w B d v u T) (_hN : Nt.Has w B dn an af ns fs) (hB : B ≤ w.heap.size) (hk : T.ks.length ≤ 2147483647) (hK : T.kind = 1) :
    Calls Tryz.prog 30 #[.agg #[.slice an ns.length cn, .slice af fs.length cf], .agg #[.int .i64 T.kind, .int .i64 T.node, .int .i64 T.arg, v, u]] w fun e w' => e = .returned (.bool (T.formedB ns fs)) ∧ Below w.heap.size w w' := by
  obtain ⟨a, c, rfl⟩ := hT.shape
  obtain ⟨al, cl, rfl⟩ := hT.links.shape
  obtain ⟨o, ho⟩ : ∃ o, T.kind = o := ⟨_, rfl⟩
  obtain ⟨m, hm⟩ : ∃ m, T.node = m := ⟨_, rfl⟩
  obtain ⟨r, hr⟩ : ∃ m, T.arg = m := ⟨_, rfl⟩
  obtain ⟨n, hn⟩ : ∃ n, T.ks.length = n := ⟨_, rfl⟩
  obtain ⟨nl, hnl⟩ : ∃ n, T.ls.length = n := ⟨_, rfl⟩
  obtain ⟨nn, hnn⟩ : ∃ n, ns.length = n := ⟨_, rfl⟩
  obtain ⟨nf, hnf⟩ : ∃ n, fs.length = n := ⟨_, rfl⟩
  obtain ⟨q, hq⟩ : ∃ q, T.holdsB = q := ⟨_, rfl⟩
  obtain ⟨R, hR⟩ : ∃ q, T.formedB ns fs = q := ⟨_, rfl⟩
  have hLk := hT.links
  rw [hR, ho, hm, hr, hn, hnl, hnn, hnf]
  rw [Bl.formedB, ho, hm, hr, hn, hnl, hnf, hq] at hR
  rw [ho] at hK
  rw [hn] at hk
  obtain ⟨W0, hW0⟩ : ∃ z, (w.alloc (.cells #[.slice an nn cn, .slice af nf cf] 25)).alloc (.cells #[.int .i64 o, .int .i64 m, .int .i64 r, .slice a n c, .slice al nl cl] 29) = z := ⟨_, rfl⟩
  have A0 : Below w.heap.size w W0 := by rw [← hW0]; exact ((Below.refl _ w).alloc (Nat.le_refl _) _).alloc (by simp) _
  have S0 : W0.heap.size = w.heap.size + 2 := by rw [← hW0]; simp
  have G1 : W0.heap[w.heap.size]? = some (.cells #[.slice an nn cn, .slice af nf cf] 25 (0, 0)) := by rw [← hW0, Below.heap_alloc _ _ _ (by simp)]; exact heap_alloc_new w _
  have G2 : W0.heap[w.heap.size + 1]? = some (.cells #[.int .i64 o, .int .i64 m, .int .i64 r, .slice a n c, .slice al nl cl] 29 (0, 0)) := by
    rw [← hW0]
    have := heap_alloc_new (w.alloc (.cells #[.slice an nn cn, .slice af nf cf] 25)) (.cells #[.int .i64 o, .int .i64 m, .int .i64 r, .slice a n c, .slice al nl cl] 29)
    simpa using this
  have CF : Hid (∀ W, Below W0.heap.size W0 W → (W.cell? ⟨w.heap.size, 0, none⟩ = some (.slice an nn cn) ∧ W.cell? ⟨w.heap.size, 1, none⟩ = some (.slice af nf cf)) ∧ (W.cell? ⟨w.heap.size + 1, 0, none⟩ = some (.int .i64 o) ∧ W.cell? ⟨w.heap.size + 1, 1, none⟩ = some (.int .i64 m) ∧ W.cell? ⟨w.heap.size + 1, 2, none⟩ = some (.int .i64 r) ∧ W.cell? ⟨w.heap.size + 1, 3, none⟩ = some (.slice a n c) ∧ W.cell? ⟨w.heap.size + 1, 4, none⟩ = some (.slice al nl cl)) ∧ Below w.heap.size w W) := fun W hb => by
    have e1 := (hb.block _ (by omega)).trans G1
    have e2 := (hb.block _ (by omega)).trans G2
    exact ⟨⟨by simp [World.cell?, e1], by simp [World.cell?, e1]⟩, ⟨by simp [World.cell?, e2], by simp [World.cell?, e2], by simp [World.cell?, e2], by simp [World.cell?, e2], by simp [World.cell?, e2]⟩, A0.trans (hb.mono (by omega))⟩
  have CH : Hid (∀ W, Below W0.heap.size W0 W → Calls Tryz.prog 47 #[.agg #[.int .i64 o, .int .i64 m, .int .i64 r, .slice a n c, .slice al nl cl]] W fun e w' => e = .returned (.bool q) ∧ Hid (Below W0.heap.size W0 w')) := fun W hb => by
    have h2 := A0.trans (hb.mono A0.size)
    have h := Tryz.bholds_any d B T _ _ W (hT.below (h2.mono hB)) (Nat.le_trans hB h2.size) (by omega)
    rw [ho, hm, hr, hn, hnl, hq] at h
    exact h.mono fun _ _ q => ⟨q.1, hb.trans (q.2.mono hb.size)⟩
  have HW0 : Hid _ := hW0
  have BR : Hid (Below W0.heap.size W0 W0) := Below.refl _ _
  have HR : Hid _ := hR
  clear hT _hN hB hLk ho hm hr hn hnl hnn hnf hq hR hW0 A0 S0 G1 G2
  subst hK
  by_cases hA : r ≠ 0 ∨ 0 < nl
  · have HF0 : Hid (Below w.heap.size w W0) := (CF.out W0 BR.out).2.2
    have HX : Hid (R = false) := by show _ = _; rw [← HR.out, if_pos (by omega)]
    obtain ⟨f0, f1⟩ | ⟨f0, f1⟩ | ⟨f0, f1⟩ : ((r != 0) = true ∧ ¬ 0 < nl) ∨ ((r != 0) = true ∧ 0 < nl) ∨ ((r != 0) = false ∧ 0 < nl) := by
      by_cases g0 : r = 0 <;> by_cases g1 : 0 < nl <;> simp [g0, g1] <;> omega
    all_goals
      have HFA : Hid _ := f0
      clear hA
      go_enter Tryz.func30, Tryz.ntmps30
      go_upto_region 1 with fail
      rw [HW0.out]
      clear HW0
      obtain ⟨⟨x0, x1⟩, ⟨y0, y1, y2, y3, y4⟩, -⟩ := CF.out W0 BR.out
      go_wp2
      go_ret
      exact ⟨by rw [HX.out]; rfl, HF0.out⟩
  have HG : Hid (¬ (r ≠ 0 ∨ 0 < nl)) := hA
  obtain ⟨f0, f1⟩ : (r != 0) = false ∧ ¬ 0 < nl := by
    by_cases g0 : r = 0 <;> by_cases g1 : 0 < nl <;> simp [g0, g1] <;> omega
  all_goals
    clear hA
    go_enter Tryz.func30, Tryz.ntmps30
    go_upto_region 1 with fail
    rw [HW0.out]
    clear HW0
    obtain ⟨⟨x0, x1⟩, ⟨y0, y1, y2, y3, y4⟩, -⟩ := CF.out W0 BR.out
    go_wp2_with fail
    refine Calls.mono (CH.out _ BR.out) ?_
    rintro e W1 ⟨rfl, B1⟩
    clear x0 x1 y0 y1 y2 y3 y4 CH
    obtain ⟨⟨x0, x1⟩, ⟨y0, y1, y2, y3, y4⟩, HF⟩ := CF.out W1 B1.out
    have HF1 : Hid (Below w.heap.size w W1) := HF
    clear HF
    cases q with
    | false =>
      have HX : Hid (R = false) := by show _ = _; rw [← HR.out, if_pos (.inr (.inr rfl))]
      go_wp2
      go_ret
      exact ⟨by rw [HX.out]; rfl, HF1.out⟩
    | true =>
      have HX : Hid (R = decide (m = 0 ∧ n = 0)) := by show _ = _; rw [← HR.out, if_neg (by have := HG.out; simp; omega)]; rfl
      obtain ⟨g0, g1, hX⟩ | ⟨g0, g1, hX⟩ | ⟨g0, hX⟩ : ((m == 0) = true ∧ ((n : Int) == 0) = true ∧ decide (m = 0 ∧ n = 0) = true) ∨ ((m == 0) = true ∧ ((n : Int) == 0) = false ∧ decide (m = 0 ∧ n = 0) = false) ∨ ((m == 0) = false ∧ decide (m = 0 ∧ n = 0) = false) := by
        by_cases g0 : m = 0 <;> by_cases g1 : n = 0 <;> simp [g0, g1]
      all_goals
        rw [hX] at HX
        clear hX
        go_wp2
        go_ret
        exact ⟨by rw [HX.out]; rfl, HF1.out⟩

set_option maxRecDepth 20000 in
set_option maxHeartbeats 16000000 in
theorem Tryz.bformed_10 (d dn B : Nat) (T : Bl) (v u : Value) (an : Option Addr) (cn : Nat) (af : Option Addr) (cf : Nat) (ns : List Nd) (fs : List Fl) (w : World) (hT : Bl.Lies w B d v u T) (_hN : Nt.Has w B dn an af ns fs) (hB : B ≤ w.heap.size) (hk : T.ks.length ≤ 2147483647) (hK : T.kind = 10) :
    Calls Tryz.prog 30 #[.agg #[.slice an ns.length cn, .slice af fs.length cf], .agg #[.int .i64 T.kind, .int .i64 T.node, .int .i64 T.arg, v, u]] w fun e w' => e = .returned (.bool (T.formedB ns fs)) ∧ Below w.heap.size w w' := by
  obtain ⟨a, c, rfl⟩ := hT.shape
  obtain ⟨al, cl, rfl⟩ := hT.links.shape
  obtain ⟨o, ho⟩ : ∃ o, T.kind = o := ⟨_, rfl⟩
  obtain ⟨m, hm⟩ : ∃ m, T.node = m := ⟨_, rfl⟩
  obtain ⟨r, hr⟩ : ∃ m, T.arg = m := ⟨_, rfl⟩
  obtain ⟨n, hn⟩ : ∃ n, T.ks.length = n := ⟨_, rfl⟩
  obtain ⟨nl, hnl⟩ : ∃ n, T.ls.length = n := ⟨_, rfl⟩
  obtain ⟨nn, hnn⟩ : ∃ n, ns.length = n := ⟨_, rfl⟩
  obtain ⟨nf, hnf⟩ : ∃ n, fs.length = n := ⟨_, rfl⟩
  obtain ⟨q, hq⟩ : ∃ q, T.holdsB = q := ⟨_, rfl⟩
  obtain ⟨R, hR⟩ : ∃ q, T.formedB ns fs = q := ⟨_, rfl⟩
  have hLk := hT.links
  rw [hR, ho, hm, hr, hn, hnl, hnn, hnf]
  rw [Bl.formedB, ho, hm, hr, hn, hnl, hnf, hq] at hR
  rw [ho] at hK
  rw [hn] at hk
  obtain ⟨W0, hW0⟩ : ∃ z, (w.alloc (.cells #[.slice an nn cn, .slice af nf cf] 25)).alloc (.cells #[.int .i64 o, .int .i64 m, .int .i64 r, .slice a n c, .slice al nl cl] 29) = z := ⟨_, rfl⟩
  have A0 : Below w.heap.size w W0 := by rw [← hW0]; exact ((Below.refl _ w).alloc (Nat.le_refl _) _).alloc (by simp) _
  have S0 : W0.heap.size = w.heap.size + 2 := by rw [← hW0]; simp
  have G1 : W0.heap[w.heap.size]? = some (.cells #[.slice an nn cn, .slice af nf cf] 25 (0, 0)) := by rw [← hW0, Below.heap_alloc _ _ _ (by simp)]; exact heap_alloc_new w _
  have G2 : W0.heap[w.heap.size + 1]? = some (.cells #[.int .i64 o, .int .i64 m, .int .i64 r, .slice a n c, .slice al nl cl] 29 (0, 0)) := by
    rw [← hW0]
    have := heap_alloc_new (w.alloc (.cells #[.slice an nn cn, .slice af nf cf] 25)) (.cells #[.int .i64 o, .int .i64 m, .int .i64 r, .slice a n c, .slice al nl cl] 29)
    simpa using this
  have CF : Hid (∀ W, Below W0.heap.size W0 W → (W.cell? ⟨w.heap.size, 0, none⟩ = some (.slice an nn cn) ∧ W.cell? ⟨w.heap.size, 1, none⟩ = some (.slice af nf cf)) ∧ (W.cell? ⟨w.heap.size + 1, 0, none⟩ = some (.int .i64 o) ∧ W.cell? ⟨w.heap.size + 1, 1, none⟩ = some (.int .i64 m) ∧ W.cell? ⟨w.heap.size + 1, 2, none⟩ = some (.int .i64 r) ∧ W.cell? ⟨w.heap.size + 1, 3, none⟩ = some (.slice a n c) ∧ W.cell? ⟨w.heap.size + 1, 4, none⟩ = some (.slice al nl cl)) ∧ Below w.heap.size w W) := fun W hb => by
    have e1 := (hb.block _ (by omega)).trans G1
    have e2 := (hb.block _ (by omega)).trans G2
    exact ⟨⟨by simp [World.cell?, e1], by simp [World.cell?, e1]⟩, ⟨by simp [World.cell?, e2], by simp [World.cell?, e2], by simp [World.cell?, e2], by simp [World.cell?, e2], by simp [World.cell?, e2]⟩, A0.trans (hb.mono (by omega))⟩
  have CH : Hid (∀ W, Below W0.heap.size W0 W → Calls Tryz.prog 47 #[.agg #[.int .i64 o, .int .i64 m, .int .i64 r, .slice a n c, .slice al nl cl]] W fun e w' => e = .returned (.bool q) ∧ Hid (Below W0.heap.size W0 w')) := fun W hb => by
    have h2 := A0.trans (hb.mono A0.size)
    have h := Tryz.bholds_any d B T _ _ W (hT.below (h2.mono hB)) (Nat.le_trans hB h2.size) (by omega)
    rw [ho, hm, hr, hn, hnl, hq] at h
    exact h.mono fun _ _ q => ⟨q.1, hb.trans (q.2.mono hb.size)⟩
  have HW0 : Hid _ := hW0
  have BR : Hid (Below W0.heap.size W0 W0) := Below.refl _ _
  have HR : Hid _ := hR
  clear hT _hN hB hLk ho hm hr hn hnl hnn hnf hq hR hW0 A0 S0 G1 G2
  subst hK
  by_cases hA : r ≠ 0 ∨ 0 < nl
  · have HF0 : Hid (Below w.heap.size w W0) := (CF.out W0 BR.out).2.2
    have HX : Hid (R = false) := by show _ = _; rw [← HR.out, if_pos (by omega)]
    obtain ⟨f0, f1⟩ | ⟨f0, f1⟩ | ⟨f0, f1⟩ : ((r != 0) = true ∧ ¬ 0 < nl) ∨ ((r != 0) = true ∧ 0 < nl) ∨ ((r != 0) = false ∧ 0 < nl) := by
      by_cases g0 : r = 0 <;> by_cases g1 : 0 < nl <;> simp [g0, g1] <;> omega
    all_goals
      have HFA : Hid _ := f0
      clear hA
      go_enter Tryz.func30, Tryz.ntmps30
      go_upto_region 1 with fail
      rw [HW0.out]
      clear HW0
      obtain ⟨⟨x0, x1⟩, ⟨y0, y1, y2, y3, y4⟩, -⟩ := CF.out W0 BR.out
      go_wp2
      go_ret
      exact ⟨by rw [HX.out]; rfl, HF0.out⟩
  have HG : Hid (¬ (r ≠ 0 ∨ 0 < nl)) := hA
  obtain ⟨f0, f1⟩ : (r != 0) = false ∧ ¬ 0 < nl := by
    by_cases g0 : r = 0 <;> by_cases g1 : 0 < nl <;> simp [g0, g1] <;> omega
  all_goals
    clear hA
    go_enter Tryz.func30, Tryz.ntmps30
    go_upto_region 1 with fail
    rw [HW0.out]
    clear HW0
    obtain ⟨⟨x0, x1⟩, ⟨y0, y1, y2, y3, y4⟩, -⟩ := CF.out W0 BR.out
    go_wp2_with fail
    refine Calls.mono (CH.out _ BR.out) ?_
    rintro e W1 ⟨rfl, B1⟩
    clear x0 x1 y0 y1 y2 y3 y4 CH
    obtain ⟨⟨x0, x1⟩, ⟨y0, y1, y2, y3, y4⟩, HF⟩ := CF.out W1 B1.out
    have HF1 : Hid (Below w.heap.size w W1) := HF
    clear HF
    cases q with
    | false =>
      have HX : Hid (R = false) := by show _ = _; rw [← HR.out, if_pos (.inr (.inr rfl))]
      go_wp2
      go_ret
      exact ⟨by rw [HX.out]; rfl, HF1.out⟩
    | true =>
      have HX : Hid (R = decide (m = 0 ∧ n = 0)) := by show _ = _; rw [← HR.out, if_neg (by have := HG.out; simp; omega)]; rfl
      obtain ⟨g0, g1, hX⟩ | ⟨g0, g1, hX⟩ | ⟨g0, hX⟩ : ((m == 0) = true ∧ ((n : Int) == 0) = true ∧ decide (m = 0 ∧ n = 0) = true) ∨ ((m == 0) = true ∧ ((n : Int) == 0) = false ∧ decide (m = 0 ∧ n = 0) = false) ∨ ((m == 0) = false ∧ decide (m = 0 ∧ n = 0) = false) := by
        by_cases g0 : m = 0 <;> by_cases g1 : n = 0 <;> simp [g0, g1]
      all_goals
        rw [hX] at HX
        clear hX
        go_wp2
        go_ret
        exact ⟨by rw [HX.out]; rfl, HF1.out⟩

set_option maxRecDepth 20000 in
set_option maxHeartbeats 16000000 in
theorem Tryz.bformed_3 (d dn B : Nat) (T : Bl) (v u : Value) (an : Option Addr) (cn : Nat) (af : Option Addr) (cf : Nat) (ns : List Nd) (fs : List Fl) (w : World) (hT : Bl.Lies w B d v u T) (_hN : Nt.Has w B dn an af ns fs) (hB : B ≤ w.heap.size) (hk : T.ks.length ≤ 2147483647) (hK : T.kind = 3) :
    Calls Tryz.prog 30 #[.agg #[.slice an ns.length cn, .slice af fs.length cf], .agg #[.int .i64 T.kind, .int .i64 T.node, .int .i64 T.arg, v, u]] w fun e w' => e = .returned (.bool (T.formedB ns fs)) ∧ Below w.heap.size w w' := by
  obtain ⟨a, c, rfl⟩ := hT.shape
  obtain ⟨al, cl, rfl⟩ := hT.links.shape
  obtain ⟨o, ho⟩ : ∃ o, T.kind = o := ⟨_, rfl⟩
  obtain ⟨m, hm⟩ : ∃ m, T.node = m := ⟨_, rfl⟩
  obtain ⟨r, hr⟩ : ∃ m, T.arg = m := ⟨_, rfl⟩
  obtain ⟨n, hn⟩ : ∃ n, T.ks.length = n := ⟨_, rfl⟩
  obtain ⟨nl, hnl⟩ : ∃ n, T.ls.length = n := ⟨_, rfl⟩
  obtain ⟨nn, hnn⟩ : ∃ n, ns.length = n := ⟨_, rfl⟩
  obtain ⟨nf, hnf⟩ : ∃ n, fs.length = n := ⟨_, rfl⟩
  obtain ⟨q, hq⟩ : ∃ q, T.holdsB = q := ⟨_, rfl⟩
  obtain ⟨R, hR⟩ : ∃ q, T.formedB ns fs = q := ⟨_, rfl⟩
  have hLk := hT.links
  rw [hR, ho, hm, hr, hn, hnl, hnn, hnf]
  rw [Bl.formedB, ho, hm, hr, hn, hnl, hnf, hq] at hR
  rw [ho] at hK
  rw [hn] at hk
  obtain ⟨W0, hW0⟩ : ∃ z, (w.alloc (.cells #[.slice an nn cn, .slice af nf cf] 25)).alloc (.cells #[.int .i64 o, .int .i64 m, .int .i64 r, .slice a n c, .slice al nl cl] 29) = z := ⟨_, rfl⟩
  have A0 : Below w.heap.size w W0 := by rw [← hW0]; exact ((Below.refl _ w).alloc (Nat.le_refl _) _).alloc (by simp) _
  have S0 : W0.heap.size = w.heap.size + 2 := by rw [← hW0]; simp
  have G1 : W0.heap[w.heap.size]? = some (.cells #[.slice an nn cn, .slice af nf cf] 25 (0, 0)) := by rw [← hW0, Below.heap_alloc _ _ _ (by simp)]; exact heap_alloc_new w _
  have G2 : W0.heap[w.heap.size + 1]? = some (.cells #[.int .i64 o, .int .i64 m, .int .i64 r, .slice a n c, .slice al nl cl] 29 (0, 0)) := by
    rw [← hW0]
    have := heap_alloc_new (w.alloc (.cells #[.slice an nn cn, .slice af nf cf] 25)) (.cells #[.int .i64 o, .int .i64 m, .int .i64 r, .slice a n c, .slice al nl cl] 29)
    simpa using this
  have CF : Hid (∀ W, Below W0.heap.size W0 W → (W.cell? ⟨w.heap.size, 0, none⟩ = some (.slice an nn cn) ∧ W.cell? ⟨w.heap.size, 1, none⟩ = some (.slice af nf cf)) ∧ (W.cell? ⟨w.heap.size + 1, 0, none⟩ = some (.int .i64 o) ∧ W.cell? ⟨w.heap.size + 1, 1, none⟩ = some (.int .i64 m) ∧ W.cell? ⟨w.heap.size + 1, 2, none⟩ = some (.int .i64 r) ∧ W.cell? ⟨w.heap.size + 1, 3, none⟩ = some (.slice a n c) ∧ W.cell? ⟨w.heap.size + 1, 4, none⟩ = some (.slice al nl cl)) ∧ Below w.heap.size w W) := fun W hb => by
    have e1 := (hb.block _ (by omega)).trans G1
    have e2 := (hb.block _ (by omega)).trans G2
    exact ⟨⟨by simp [World.cell?, e1], by simp [World.cell?, e1]⟩, ⟨by simp [World.cell?, e2], by simp [World.cell?, e2], by simp [World.cell?, e2], by simp [World.cell?, e2], by simp [World.cell?, e2]⟩, A0.trans (hb.mono (by omega))⟩
  have CH : Hid (∀ W, Below W0.heap.size W0 W → Calls Tryz.prog 47 #[.agg #[.int .i64 o, .int .i64 m, .int .i64 r, .slice a n c, .slice al nl cl]] W fun e w' => e = .returned (.bool q) ∧ Hid (Below W0.heap.size W0 w')) := fun W hb => by
    have h2 := A0.trans (hb.mono A0.size)
    have h := Tryz.bholds_any d B T _ _ W (hT.below (h2.mono hB)) (Nat.le_trans hB h2.size) (by omega)
    rw [ho, hm, hr, hn, hnl, hq] at h
    exact h.mono fun _ _ q => ⟨q.1, hb.trans (q.2.mono hb.size)⟩
  have HW0 : Hid _ := hW0
  have BR : Hid (Below W0.heap.size W0 W0) := Below.refl _ _
  have HR : Hid _ := hR
  clear hT _hN hB hLk ho hm hr hn hnl hnn hnf hq hR hW0 A0 S0 G1 G2
  subst hK
  by_cases hA : r ≠ 0 ∨ 0 < nl
  · have HF0 : Hid (Below w.heap.size w W0) := (CF.out W0 BR.out).2.2
    have HX : Hid (R = false) := by show _ = _; rw [← HR.out, if_pos (by omega)]
    obtain ⟨f0, f1⟩ | ⟨f0, f1⟩ | ⟨f0, f1⟩ : ((r != 0) = true ∧ ¬ 0 < nl) ∨ ((r != 0) = true ∧ 0 < nl) ∨ ((r != 0) = false ∧ 0 < nl) := by
      by_cases g0 : r = 0 <;> by_cases g1 : 0 < nl <;> simp [g0, g1] <;> omega
    all_goals
      have HFA : Hid _ := f0
      clear hA
      go_enter Tryz.func30, Tryz.ntmps30
      go_upto_region 1 with fail
      rw [HW0.out]
      clear HW0
      obtain ⟨⟨x0, x1⟩, ⟨y0, y1, y2, y3, y4⟩, -⟩ := CF.out W0 BR.out
      go_wp2
      go_ret
      exact ⟨by rw [HX.out]; rfl, HF0.out⟩
  have HG : Hid (¬ (r ≠ 0 ∨ 0 < nl)) := hA
  obtain ⟨f0, f1⟩ : (r != 0) = false ∧ ¬ 0 < nl := by
    by_cases g0 : r = 0 <;> by_cases g1 : 0 < nl <;> simp [g0, g1] <;> omega
  all_goals
    clear hA
    go_enter Tryz.func30, Tryz.ntmps30
    go_upto_region 1 with fail
    rw [HW0.out]
    clear HW0
    obtain ⟨⟨x0, x1⟩, ⟨y0, y1, y2, y3, y4⟩, -⟩ := CF.out W0 BR.out
    go_wp2_with fail
    refine Calls.mono (CH.out _ BR.out) ?_
    rintro e W1 ⟨rfl, B1⟩
    clear x0 x1 y0 y1 y2 y3 y4 CH
    obtain ⟨⟨x0, x1⟩, ⟨y0, y1, y2, y3, y4⟩, HF⟩ := CF.out W1 B1.out
    have HF1 : Hid (Below w.heap.size w W1) := HF
    clear HF
    cases q with
    | false =>
      have HX : Hid (R = false) := by show _ = _; rw [← HR.out, if_pos (.inr (.inr rfl))]
      go_wp2
      go_ret
      exact ⟨by rw [HX.out]; rfl, HF1.out⟩
    | true =>
      have HX : Hid (R = decide (m = 0 ∧ 2 ≤ n)) := by show _ = _; rw [← HR.out, if_neg (by have := HG.out; simp; omega)]; rfl
      obtain ⟨g0, g1, hX⟩ | ⟨g0, g1, hX⟩ | ⟨g0, hX⟩ : ((m == 0) = true ∧ decide ((2 : Int) ≤ n) = true ∧ decide (m = 0 ∧ 2 ≤ n) = true) ∨ ((m == 0) = true ∧ decide ((2 : Int) ≤ n) = false ∧ decide (m = 0 ∧ 2 ≤ n) = false) ∨ ((m == 0) = false ∧ decide (m = 0 ∧ 2 ≤ n) = false) := by
        by_cases g0 : m = 0 <;> by_cases g1 : 2 ≤ n <;> simp [g0, g1] <;> omega
      all_goals
        rw [hX] at HX
        clear hX
        go_wp2
        go_ret
        exact ⟨by rw [HX.out]; rfl, HF1.out⟩

set_option maxRecDepth 20000 in
set_option maxHeartbeats 16000000 in
theorem Tryz.bformed_9 (d dn B : Nat) (T : Bl) (v u : Value) (an : Option Addr) (cn : Nat) (af : Option Addr) (cf : Nat) (ns : List Nd) (fs : List Fl) (w : World) (hT : Bl.Lies w B d v u T) (hN : Nt.Has w B dn an af ns fs) (hB : B ≤ w.heap.size) (hk : T.ks.length ≤ 2147483647) (hK : T.kind = 9) :
    Calls Tryz.prog 30 #[.agg #[.slice an ns.length cn, .slice af fs.length cf], .agg #[.int .i64 T.kind, .int .i64 T.node, .int .i64 T.arg, v, u]] w fun e w' => e = .returned (.bool (T.formedB ns fs)) ∧ Below w.heap.size w w' := by
  obtain ⟨a, c, rfl⟩ := hT.shape
  obtain ⟨al, cl, rfl⟩ := hT.links.shape
  obtain ⟨o, ho⟩ : ∃ o, T.kind = o := ⟨_, rfl⟩
  obtain ⟨m, hm⟩ : ∃ m, T.node = m := ⟨_, rfl⟩
  obtain ⟨r, hr⟩ : ∃ m, T.arg = m := ⟨_, rfl⟩
  obtain ⟨n, hn⟩ : ∃ n, T.ks.length = n := ⟨_, rfl⟩
  obtain ⟨nl, hnl⟩ : ∃ n, T.ls.length = n := ⟨_, rfl⟩
  obtain ⟨nn, hnn⟩ : ∃ n, ns.length = n := ⟨_, rfl⟩
  obtain ⟨nf, hnf⟩ : ∃ n, fs.length = n := ⟨_, rfl⟩
  obtain ⟨q, hq⟩ : ∃ q, T.holdsB = q := ⟨_, rfl⟩
  obtain ⟨R, hR⟩ : ∃ q, T.formedB ns fs = q := ⟨_, rfl⟩
  have hLk := hT.links
  rw [hR, ho, hm, hr, hn, hnl, hnn, hnf]
  rw [Bl.formedB, ho, hm, hr, hn, hnl, hnf, hq] at hR
  rw [ho] at hK
  rw [hn] at hk
  obtain ⟨W0, hW0⟩ : ∃ z, (w.alloc (.cells #[.slice an nn cn, .slice af nf cf] 25)).alloc (.cells #[.int .i64 o, .int .i64 m, .int .i64 r, .slice a n c, .slice al nl cl] 29) = z := ⟨_, rfl⟩
  have A0 : Below w.heap.size w W0 := by rw [← hW0]; exact ((Below.refl _ w).alloc (Nat.le_refl _) _).alloc (by simp) _
  have S0 : W0.heap.size = w.heap.size + 2 := by rw [← hW0]; simp
  have G1 : W0.heap[w.heap.size]? = some (.cells #[.slice an nn cn, .slice af nf cf] 25 (0, 0)) := by rw [← hW0, Below.heap_alloc _ _ _ (by simp)]; exact heap_alloc_new w _
  have G2 : W0.heap[w.heap.size + 1]? = some (.cells #[.int .i64 o, .int .i64 m, .int .i64 r, .slice a n c, .slice al nl cl] 29 (0, 0)) := by
    rw [← hW0]
    have := heap_alloc_new (w.alloc (.cells #[.slice an nn cn, .slice af nf cf] 25)) (.cells #[.int .i64 o, .int .i64 m, .int .i64 r, .slice a n c, .slice al nl cl] 29)
    simpa using this
  have CF : Hid (∀ W, Below W0.heap.size W0 W → (W.cell? ⟨w.heap.size, 0, none⟩ = some (.slice an nn cn) ∧ W.cell? ⟨w.heap.size, 1, none⟩ = some (.slice af nf cf)) ∧ (W.cell? ⟨w.heap.size + 1, 0, none⟩ = some (.int .i64 o) ∧ W.cell? ⟨w.heap.size + 1, 1, none⟩ = some (.int .i64 m) ∧ W.cell? ⟨w.heap.size + 1, 2, none⟩ = some (.int .i64 r) ∧ W.cell? ⟨w.heap.size + 1, 3, none⟩ = some (.slice a n c) ∧ W.cell? ⟨w.heap.size + 1, 4, none⟩ = some (.slice al nl cl)) ∧ Below w.heap.size w W) := fun W hb => by
    have e1 := (hb.block _ (by omega)).trans G1
    have e2 := (hb.block _ (by omega)).trans G2
    exact ⟨⟨by simp [World.cell?, e1], by simp [World.cell?, e1]⟩, ⟨by simp [World.cell?, e2], by simp [World.cell?, e2], by simp [World.cell?, e2], by simp [World.cell?, e2], by simp [World.cell?, e2]⟩, A0.trans (hb.mono (by omega))⟩
  have CH : Hid (∀ W, Below W0.heap.size W0 W → Calls Tryz.prog 47 #[.agg #[.int .i64 o, .int .i64 m, .int .i64 r, .slice a n c, .slice al nl cl]] W fun e w' => e = .returned (.bool q) ∧ Hid (Below W0.heap.size W0 w')) := fun W hb => by
    have h2 := A0.trans (hb.mono A0.size)
    have h := Tryz.bholds_any d B T _ _ W (hT.below (h2.mono hB)) (Nat.le_trans hB h2.size) (by omega)
    rw [ho, hm, hr, hn, hnl, hq] at h
    exact h.mono fun _ _ q => ⟨q.1, hb.trans (q.2.mono hb.size)⟩
  obtain ⟨z, hz⟩ : ∃ z, Bl.linkedB n nf T.ls = z := ⟨_, rfl⟩
  rw [hz] at hR
  have CS : Hid (∀ W, Below W0.heap.size W0 W → Calls Tryz.prog 48 #[.agg #[.slice an nn cn, .slice af nf cf], .agg #[.int .i64 o, .int .i64 m, .int .i64 r, .slice a n c, .slice al nl cl]] W fun e w' => e = .returned (.bool z) ∧ Hid (Below W0.heap.size W0 w')) := fun W hb => by
    have h2 := A0.trans (hb.mono A0.size)
    have h := Tryz.blinked_any o m r a n c al cl T.ls an nn cn af nf cf B W (hLk.below (h2.mono hB)) (Nat.le_trans hB h2.size) hk (by have := hN.flen; omega)
    rw [hnl, hz] at h
    exact h.mono fun _ _ q => ⟨q.1, hb.trans (q.2.mono hb.size)⟩
  clear hz
  have HW0 : Hid _ := hW0
  have BR : Hid (Below W0.heap.size W0 W0) := Below.refl _ _
  have HR : Hid _ := hR
  clear hT hN hB hLk ho hm hr hn hnl hnn hnf hq hR hW0 A0 S0 G1 G2
  subst hK
  by_cases hA : r ≠ 0
  · have HF0 : Hid (Below w.heap.size w W0) := (CF.out W0 BR.out).2.2
    have HX : Hid (R = false) := by show _ = _; rw [← HR.out, if_pos (by omega)]
    obtain ⟨f0, f1⟩ | ⟨f0, f1⟩ : ((r != 0) = true ∧ ¬ 0 < nl) ∨ ((r != 0) = true ∧ 0 < nl) := by
      by_cases g0 : r = 0 <;> by_cases g1 : 0 < nl <;> simp [g0, g1] <;> omega
    all_goals
      have HFA : Hid _ := f0
      clear hA
      go_enter Tryz.func30, Tryz.ntmps30
      go_upto_region 1 with fail
      rw [HW0.out]
      clear HW0
      obtain ⟨⟨x0, x1⟩, ⟨y0, y1, y2, y3, y4⟩, -⟩ := CF.out W0 BR.out
      go_wp2
      go_ret
      exact ⟨by rw [HX.out]; rfl, HF0.out⟩
  have HG : Hid (¬ (r ≠ 0)) := hA
  obtain ⟨f0, f1⟩ | ⟨f0, f1⟩ : ((r != 0) = false ∧ ¬ 0 < nl) ∨ ((r != 0) = false ∧ 0 < nl) := by
    by_cases g0 : r = 0 <;> by_cases g1 : 0 < nl <;> simp [g0, g1] <;> omega
  all_goals
    clear hA
    go_enter Tryz.func30, Tryz.ntmps30
    go_upto_region 1 with fail
    rw [HW0.out]
    clear HW0
    obtain ⟨⟨x0, x1⟩, ⟨y0, y1, y2, y3, y4⟩, -⟩ := CF.out W0 BR.out
    go_wp2_with fail
    refine Calls.mono (CH.out _ BR.out) ?_
    rintro e W1 ⟨rfl, B1⟩
    clear x0 x1 y0 y1 y2 y3 y4 CH
    obtain ⟨⟨x0, x1⟩, ⟨y0, y1, y2, y3, y4⟩, HF⟩ := CF.out W1 B1.out
    have HF1 : Hid (Below w.heap.size w W1) := HF
    clear HF
    cases q with
    | false =>
      have HX : Hid (R = false) := by show _ = _; rw [← HR.out, if_pos (.inr (.inr rfl))]
      go_wp2
      go_ret
      exact ⟨by rw [HX.out]; rfl, HF1.out⟩
    | true =>
      have HX : Hid (R = (decide (m = 0 ∧ 1 ≤ n) && z)) := by show _ = _; rw [← HR.out, if_neg (by have := HG.out; simp; omega)]; rfl
      obtain ⟨g0, g1, hX⟩ | ⟨g0, g1, hX⟩ | ⟨g0, hX⟩ : ((m == 0) = true ∧ decide ((1 : Int) ≤ n) = true ∧ decide (m = 0 ∧ 1 ≤ n) = true) ∨ ((m == 0) = true ∧ decide ((1 : Int) ≤ n) = false ∧ decide (m = 0 ∧ 1 ≤ n) = false) ∨ ((m == 0) = false ∧ decide (m = 0 ∧ 1 ≤ n) = false) := by
        by_cases g0 : m = 0 <;> by_cases g1 : 1 ≤ n <;> simp [g0, g1] <;> omega
      · rw [hX] at HX
        clear hX
        go_wp2_with fail
        refine Calls.mono (CS.out _ B1.out) ?_
        rintro e W2 ⟨rfl, B2⟩
        have HF2 : Hid (Below w.heap.size w W2) := (CF.out W2 B2.out).2.2
        clear CS
        go_wp2
        go_ret
        exact ⟨by rw [HX.out]; simp, HF2.out⟩
      all_goals
        rw [hX] at HX
        clear hX
        go_wp2
        go_ret
        exact ⟨by rw [HX.out]; rfl, HF1.out⟩

end Go.Proofs

namespace Go.Proofs
open Go.RowKit

set_option maxRecDepth 20000 in
set_option maxHeartbeats 16000000 in
theorem Tryz.bformed_2 (d dn B : Nat) (T : Bl) (v u : Value) (an : Option Addr) (cn : Nat) (af : Option Addr) (cf : Nat) (ns : List Nd) (fs : List Fl) (w : World) (hT : Bl.Lies w B d v u T) (hN : Nt.Has w B dn an af ns fs) (hB : B ≤ w.heap.size) (hk : T.ks.length ≤ 2147483647) (hK : T.kind = 2) :
    Calls Tryz.prog 30 #[.agg #[.slice an ns.length cn, .slice af fs.length cf], .agg #[.int .i64 T.kind, .int .i64 T.node, .int .i64 T.arg, v, u]] w fun e w' => e = .returned (.bool (T.formedB ns fs)) ∧ Below w.heap.size w w' := by
  obtain ⟨a, c, rfl⟩ := hT.shape
  obtain ⟨al, cl, rfl⟩ := hT.links.shape
  obtain ⟨o, ho⟩ : ∃ o, T.kind = o := ⟨_, rfl⟩
  obtain ⟨m, hm⟩ : ∃ m, T.node = m := ⟨_, rfl⟩
  obtain ⟨r, hr⟩ : ∃ m, T.arg = m := ⟨_, rfl⟩
  obtain ⟨n, hn⟩ : ∃ n, T.ks.length = n := ⟨_, rfl⟩
  obtain ⟨nl, hnl⟩ : ∃ n, T.ls.length = n := ⟨_, rfl⟩
  obtain ⟨nn, hnn⟩ : ∃ n, ns.length = n := ⟨_, rfl⟩
  obtain ⟨nf, hnf⟩ : ∃ n, fs.length = n := ⟨_, rfl⟩
  obtain ⟨q, hq⟩ : ∃ q, T.holdsB = q := ⟨_, rfl⟩
  obtain ⟨R, hR⟩ : ∃ q, T.formedB ns fs = q := ⟨_, rfl⟩
  have hLk := hT.links
  rw [hR, ho, hm, hr, hn, hnl, hnn, hnf]
  rw [Bl.formedB, ho, hm, hr, hn, hnl, hnf, hq] at hR
  rw [ho] at hK
  rw [hn] at hk
  obtain ⟨W0, hW0⟩ : ∃ z, (w.alloc (.cells #[.slice an nn cn, .slice af nf cf] 25)).alloc (.cells #[.int .i64 o, .int .i64 m, .int .i64 r, .slice a n c, .slice al nl cl] 29) = z := ⟨_, rfl⟩
  have A0 : Below w.heap.size w W0 := by rw [← hW0]; exact ((Below.refl _ w).alloc (Nat.le_refl _) _).alloc (by simp) _
  have S0 : W0.heap.size = w.heap.size + 2 := by rw [← hW0]; simp
  have G1 : W0.heap[w.heap.size]? = some (.cells #[.slice an nn cn, .slice af nf cf] 25 (0, 0)) := by rw [← hW0, Below.heap_alloc _ _ _ (by simp)]; exact heap_alloc_new w _
  have G2 : W0.heap[w.heap.size + 1]? = some (.cells #[.int .i64 o, .int .i64 m, .int .i64 r, .slice a n c, .slice al nl cl] 29 (0, 0)) := by
    rw [← hW0]
    have := heap_alloc_new (w.alloc (.cells #[.slice an nn cn, .slice af nf cf] 25)) (.cells #[.int .i64 o, .int .i64 m, .int .i64 r, .slice a n c, .slice al nl cl] 29)
    simpa using this
  have CF : Hid (∀ W, Below W0.heap.size W0 W → (W.cell? ⟨w.heap.size, 0, none⟩ = some (.slice an nn cn) ∧ W.cell? ⟨w.heap.size, 1, none⟩ = some (.slice af nf cf)) ∧ (W.cell? ⟨w.heap.size + 1, 0, none⟩ = some (.int .i64 o) ∧ W.cell? ⟨w.heap.size + 1, 1, none⟩ = some (.int .i64 m) ∧ W.cell? ⟨w.heap.size + 1, 2, none⟩ = some (.int .i64 r) ∧ W.cell? ⟨w.heap.size + 1, 3, none⟩ = some (.slice a n c) ∧ W.cell? ⟨w.heap.size + 1, 4, none⟩ = some (.slice al nl cl)) ∧ Below w.heap.size w W) := fun W hb => by
    have e1 := (hb.block _ (by omega)).trans G1
    have e2 := (hb.block _ (by omega)).trans G2
    exact ⟨⟨by simp [World.cell?, e1], by simp [World.cell?, e1]⟩, ⟨by simp [World.cell?, e2], by simp [World.cell?, e2], by simp [World.cell?, e2], by simp [World.cell?, e2], by simp [World.cell?, e2]⟩, A0.trans (hb.mono (by omega))⟩
  have CH : Hid (∀ W, Below W0.heap.size W0 W → Calls Tryz.prog 47 #[.agg #[.int .i64 o, .int .i64 m, .int .i64 r, .slice a n c, .slice al nl cl]] W fun e w' => e = .returned (.bool q) ∧ Hid (Below W0.heap.size W0 w')) := fun W hb => by
    have h2 := A0.trans (hb.mono A0.size)
    have h := Tryz.bholds_any d B T _ _ W (hT.below (h2.mono hB)) (Nat.le_trans hB h2.size) (by omega)
    rw [ho, hm, hr, hn, hnl, hq] at h
    exact h.mono fun _ _ q => ⟨q.1, hb.trans (q.2.mono hb.size)⟩
  obtain ⟨z, hz⟩ : ∃ z, Nt.ofKinds ns m [3, 4, 8] = z := ⟨_, rfl⟩
  rw [hz] at hR
  have CS : Hid (∀ W, Below W0.heap.size W0 W → Calls Tryz.prog 25 #[.agg #[.slice an nn cn, .slice af nf cf], .int .i64 m, .slice (some ⟨W.heap.size, 0, none⟩) 3 3] (W.alloc (.cells #[.int .i64 3, .int .i64 4, .int .i64 8] 3)) fun e w' => e = .returned (.bool z) ∧ Hid (Below W0.heap.size W0 w')) := fun W hb => by
    have A1 : Below W.heap.size W (W.alloc (.cells #[.int .i64 3, .int .i64 4, .int .i64 8] 3)) := (Below.refl _ _).alloc (Nat.le_refl _) _
    have hb1 := hb.trans (A1.mono hb.size)
    have h2 := A0.trans (hb1.mono A0.size)
    have h := Tryz.bisOf_any m [3, 4, 8] (some ⟨W.heap.size, 0, none⟩) 3 an cn af nf cf _ dn ns (W.alloc (.cells #[.int .i64 3, .int .i64 4, .int .i64 8] 3)) ((hN.below (h2.mono hB)).wider (Nat.le_trans hB h2.size)).nds (Bk.nums_three (heap_alloc_new W _)) (Nat.le_refl _) (by simp)
    rw [hnn, hz] at h
    exact h.mono fun _ _ q => ⟨q.1, hb1.trans (q.2.mono hb1.size)⟩
  clear hz
  have HW0 : Hid _ := hW0
  have BR : Hid (Below W0.heap.size W0 W0) := Below.refl _ _
  have HR : Hid _ := hR
  clear hT hN hB hLk ho hm hr hn hnl hnn hnf hq hR hW0 A0 S0 G1 G2
  subst hK
  by_cases hA : r ≠ 0 ∨ 0 < nl
  · have HF0 : Hid (Below w.heap.size w W0) := (CF.out W0 BR.out).2.2
    have HX : Hid (R = false) := by show _ = _; rw [← HR.out, if_pos (by omega)]
    obtain ⟨f0, f1⟩ | ⟨f0, f1⟩ | ⟨f0, f1⟩ : ((r != 0) = true ∧ ¬ 0 < nl) ∨ ((r != 0) = true ∧ 0 < nl) ∨ ((r != 0) = false ∧ 0 < nl) := by
      by_cases g0 : r = 0 <;> by_cases g1 : 0 < nl <;> simp [g0, g1] <;> omega
    all_goals
      have HFA : Hid _ := f0
      clear hA
      go_enter Tryz.func30, Tryz.ntmps30
      go_upto_region 1 with fail
      rw [HW0.out]
      clear HW0
      obtain ⟨⟨x0, x1⟩, ⟨y0, y1, y2, y3, y4⟩, -⟩ := CF.out W0 BR.out
      go_wp2
      go_ret
      exact ⟨by rw [HX.out]; rfl, HF0.out⟩
  have HG : Hid (¬ (r ≠ 0 ∨ 0 < nl)) := hA
  obtain ⟨f0, f1⟩ : (r != 0) = false ∧ ¬ 0 < nl := by
    by_cases g0 : r = 0 <;> by_cases g1 : 0 < nl <;> simp [g0, g1] <;> omega
  all_goals
    clear hA
    go_enter Tryz.func30, Tryz.ntmps30
    go_upto_region 1 with fail
    rw [HW0.out]
    clear HW0
    obtain ⟨⟨x0, x1⟩, ⟨y0, y1, y2, y3, y4⟩, -⟩ := CF.out W0 BR.out
    go_wp2_with fail
    refine Calls.mono (CH.out _ BR.out) ?_
    rintro e W1 ⟨rfl, B1⟩
    clear x0 x1 y0 y1 y2 y3 y4 CH
    obtain ⟨⟨x0, x1⟩, ⟨y0, y1, y2, y3, y4⟩, HF⟩ := CF.out W1 B1.out
    have HF1 : Hid (Below w.heap.size w W1) := HF
    clear HF
    cases q with
    | false =>
      have HX : Hid (R = false) := by show _ = _; rw [← HR.out, if_pos (.inr (.inr rfl))]
      go_wp2
      go_ret
      exact ⟨by rw [HX.out]; rfl, HF1.out⟩
    | true =>
      have HX : Hid (R = (z && decide (n = 0))) := by show _ = _; rw [← HR.out, if_neg (by have := HG.out; simp; omega)]; rfl
      go_wp2_with fail
      refine Calls.mono (CS.out _ B1.out) ?_
      rintro e W2 ⟨rfl, B2⟩
      clear x0 x1 y0 y1 y2 y3 y4 CS
      obtain ⟨⟨x0, x1⟩, ⟨y0, y1, y2, y3, y4⟩, HF⟩ := CF.out W2 B2.out
      have HF2 : Hid (Below w.heap.size w W2) := HF
      clear HF
      cases z with
      | false =>
        go_wp2
        go_ret
        exact ⟨by rw [HX.out]; rfl, HF2.out⟩
      | true =>
        obtain ⟨g1, hX⟩ | ⟨g1, hX⟩ : (((n : Int) == 0) = true ∧ decide (n = 0) = true) ∨ (((n : Int) == 0) = false ∧ decide (n = 0) = false) := by
          by_cases g1 : n = 0 <;> simp [g1]
        all_goals
          rw [hX] at HX
          clear hX
          go_wp2
          go_ret
          exact ⟨by rw [HX.out]; rfl, HF2.out⟩

set_option maxRecDepth 20000 in
set_option maxHeartbeats 16000000 in
theorem Tryz.bformed_8 (d dn B : Nat) (T : Bl) (v u : Value) (an : Option Addr) (cn : Nat) (af : Option Addr) (cf : Nat) (ns : List Nd) (fs : List Fl) (w : World) (hT : Bl.Lies w B d v u T) (hN : Nt.Has w B dn an af ns fs) (hB : B ≤ w.heap.size) (hk : T.ks.length ≤ 2147483647) (hK : T.kind = 8) :
    Calls Tryz.prog 30 #[.agg #[.slice an ns.length cn, .slice af fs.length cf], .agg #[.int .i64 T.kind, .int .i64 T.node, .int .i64 T.arg, v, u]] w fun e w' => e = .returned (.bool (T.formedB ns fs)) ∧ Below w.heap.size w w' := by
  obtain ⟨a, c, rfl⟩ := hT.shape
  obtain ⟨al, cl, rfl⟩ := hT.links.shape
  obtain ⟨o, ho⟩ : ∃ o, T.kind = o := ⟨_, rfl⟩
  obtain ⟨m, hm⟩ : ∃ m, T.node = m := ⟨_, rfl⟩
  obtain ⟨r, hr⟩ : ∃ m, T.arg = m := ⟨_, rfl⟩
  obtain ⟨n, hn⟩ : ∃ n, T.ks.length = n := ⟨_, rfl⟩
  obtain ⟨nl, hnl⟩ : ∃ n, T.ls.length = n := ⟨_, rfl⟩
  obtain ⟨nn, hnn⟩ : ∃ n, ns.length = n := ⟨_, rfl⟩
  obtain ⟨nf, hnf⟩ : ∃ n, fs.length = n := ⟨_, rfl⟩
  obtain ⟨q, hq⟩ : ∃ q, T.holdsB = q := ⟨_, rfl⟩
  obtain ⟨R, hR⟩ : ∃ q, T.formedB ns fs = q := ⟨_, rfl⟩
  have hLk := hT.links
  rw [hR, ho, hm, hr, hn, hnl, hnn, hnf]
  rw [Bl.formedB, ho, hm, hr, hn, hnl, hnf, hq] at hR
  rw [ho] at hK
  rw [hn] at hk
  obtain ⟨W0, hW0⟩ : ∃ z, (w.alloc (.cells #[.slice an nn cn, .slice af nf cf] 25)).alloc (.cells #[.int .i64 o, .int .i64 m, .int .i64 r, .slice a n c, .slice al nl cl] 29) = z := ⟨_, rfl⟩
  have A0 : Below w.heap.size w W0 := by rw [← hW0]; exact ((Below.refl _ w).alloc (Nat.le_refl _) _).alloc (by simp) _
  have S0 : W0.heap.size = w.heap.size + 2 := by rw [← hW0]; simp
  have G1 : W0.heap[w.heap.size]? = some (.cells #[.slice an nn cn, .slice af nf cf] 25 (0, 0)) := by rw [← hW0, Below.heap_alloc _ _ _ (by simp)]; exact heap_alloc_new w _
  have G2 : W0.heap[w.heap.size + 1]? = some (.cells #[.int .i64 o, .int .i64 m, .int .i64 r, .slice a n c, .slice al nl cl] 29 (0, 0)) := by
    rw [← hW0]
    have := heap_alloc_new (w.alloc (.cells #[.slice an nn cn, .slice af nf cf] 25)) (.cells #[.int .i64 o, .int .i64 m, .int .i64 r, .slice a n c, .slice al nl cl] 29)
    simpa using this
  have CF : Hid (∀ W, Below W0.heap.size W0 W → (W.cell? ⟨w.heap.size, 0, none⟩ = some (.slice an nn cn) ∧ W.cell? ⟨w.heap.size, 1, none⟩ = some (.slice af nf cf)) ∧ (W.cell? ⟨w.heap.size + 1, 0, none⟩ = some (.int .i64 o) ∧ W.cell? ⟨w.heap.size + 1, 1, none⟩ = some (.int .i64 m) ∧ W.cell? ⟨w.heap.size + 1, 2, none⟩ = some (.int .i64 r) ∧ W.cell? ⟨w.heap.size + 1, 3, none⟩ = some (.slice a n c) ∧ W.cell? ⟨w.heap.size + 1, 4, none⟩ = some (.slice al nl cl)) ∧ Below w.heap.size w W) := fun W hb => by
    have e1 := (hb.block _ (by omega)).trans G1
    have e2 := (hb.block _ (by omega)).trans G2
    exact ⟨⟨by simp [World.cell?, e1], by simp [World.cell?, e1]⟩, ⟨by simp [World.cell?, e2], by simp [World.cell?, e2], by simp [World.cell?, e2], by simp [World.cell?, e2], by simp [World.cell?, e2]⟩, A0.trans (hb.mono (by omega))⟩
  have CH : Hid (∀ W, Below W0.heap.size W0 W → Calls Tryz.prog 47 #[.agg #[.int .i64 o, .int .i64 m, .int .i64 r, .slice a n c, .slice al nl cl]] W fun e w' => e = .returned (.bool q) ∧ Hid (Below W0.heap.size W0 w')) := fun W hb => by
    have h2 := A0.trans (hb.mono A0.size)
    have h := Tryz.bholds_any d B T _ _ W (hT.below (h2.mono hB)) (Nat.le_trans hB h2.size) (by omega)
    rw [ho, hm, hr, hn, hnl, hq] at h
    exact h.mono fun _ _ q => ⟨q.1, hb.trans (q.2.mono hb.size)⟩
  obtain ⟨z, hz⟩ : ∃ z, Nt.ofKinds ns m [5, 6, 7] = z := ⟨_, rfl⟩
  rw [hz] at hR
  have CS : Hid (∀ W, Below W0.heap.size W0 W → Calls Tryz.prog 25 #[.agg #[.slice an nn cn, .slice af nf cf], .int .i64 m, .slice (some ⟨W.heap.size, 0, none⟩) 3 3] (W.alloc (.cells #[.int .i64 5, .int .i64 6, .int .i64 7] 3)) fun e w' => e = .returned (.bool z) ∧ Hid (Below W0.heap.size W0 w')) := fun W hb => by
    have A1 : Below W.heap.size W (W.alloc (.cells #[.int .i64 5, .int .i64 6, .int .i64 7] 3)) := (Below.refl _ _).alloc (Nat.le_refl _) _
    have hb1 := hb.trans (A1.mono hb.size)
    have h2 := A0.trans (hb1.mono A0.size)
    have h := Tryz.bisOf_any m [5, 6, 7] (some ⟨W.heap.size, 0, none⟩) 3 an cn af nf cf _ dn ns (W.alloc (.cells #[.int .i64 5, .int .i64 6, .int .i64 7] 3)) ((hN.below (h2.mono hB)).wider (Nat.le_trans hB h2.size)).nds (Bk.nums_three (heap_alloc_new W _)) (Nat.le_refl _) (by simp)
    rw [hnn, hz] at h
    exact h.mono fun _ _ q => ⟨q.1, hb1.trans (q.2.mono hb1.size)⟩
  clear hz
  have HW0 : Hid _ := hW0
  have BR : Hid (Below W0.heap.size W0 W0) := Below.refl _ _
  have HR : Hid _ := hR
  clear hT hN hB hLk ho hm hr hn hnl hnn hnf hq hR hW0 A0 S0 G1 G2
  subst hK
  by_cases hA : r ≠ 0 ∨ 0 < nl
  · have HF0 : Hid (Below w.heap.size w W0) := (CF.out W0 BR.out).2.2
    have HX : Hid (R = false) := by show _ = _; rw [← HR.out, if_pos (by omega)]
    obtain ⟨f0, f1⟩ | ⟨f0, f1⟩ | ⟨f0, f1⟩ : ((r != 0) = true ∧ ¬ 0 < nl) ∨ ((r != 0) = true ∧ 0 < nl) ∨ ((r != 0) = false ∧ 0 < nl) := by
      by_cases g0 : r = 0 <;> by_cases g1 : 0 < nl <;> simp [g0, g1] <;> omega
    all_goals
      have HFA : Hid _ := f0
      clear hA
      go_enter Tryz.func30, Tryz.ntmps30
      go_upto_region 1 with fail
      rw [HW0.out]
      clear HW0
      obtain ⟨⟨x0, x1⟩, ⟨y0, y1, y2, y3, y4⟩, -⟩ := CF.out W0 BR.out
      go_wp2
      go_ret
      exact ⟨by rw [HX.out]; rfl, HF0.out⟩
  have HG : Hid (¬ (r ≠ 0 ∨ 0 < nl)) := hA
  obtain ⟨f0, f1⟩ : (r != 0) = false ∧ ¬ 0 < nl := by
    by_cases g0 : r = 0 <;> by_cases g1 : 0 < nl <;> simp [g0, g1] <;> omega
  all_goals
    clear hA
    go_enter Tryz.func30, Tryz.ntmps30
    go_upto_region 1 with fail
    rw [HW0.out]
    clear HW0
    obtain ⟨⟨x0, x1⟩, ⟨y0, y1, y2, y3, y4⟩, -⟩ := CF.out W0 BR.out
    go_wp2_with fail
    refine Calls.mono (CH.out _ BR.out) ?_
    rintro e W1 ⟨rfl, B1⟩
    clear x0 x1 y0 y1 y2 y3 y4 CH
    obtain ⟨⟨x0, x1⟩, ⟨y0, y1, y2, y3, y4⟩, HF⟩ := CF.out W1 B1.out
    have HF1 : Hid (Below w.heap.size w W1) := HF
    clear HF
    cases q with
    | false =>
      have HX : Hid (R = false) := by show _ = _; rw [← HR.out, if_pos (.inr (.inr rfl))]
      go_wp2
      go_ret
      exact ⟨by rw [HX.out]; rfl, HF1.out⟩
    | true =>
      have HX : Hid (R = (z && decide (n = 0))) := by show _ = _; rw [← HR.out, if_neg (by have := HG.out; simp; omega)]; rfl
      go_wp2_with fail
      refine Calls.mono (CS.out _ B1.out) ?_
      rintro e W2 ⟨rfl, B2⟩
      clear x0 x1 y0 y1 y2 y3 y4 CS
      obtain ⟨⟨x0, x1⟩, ⟨y0, y1, y2, y3, y4⟩, HF⟩ := CF.out W2 B2.out
      have HF2 : Hid (Below w.heap.size w W2) := HF
      clear HF
      cases z with
      | false =>
        go_wp2
        go_ret
        exact ⟨by rw [HX.out]; rfl, HF2.out⟩
      | true =>
        obtain ⟨g1, hX⟩ | ⟨g1, hX⟩ : (((n : Int) == 0) = true ∧ decide (n = 0) = true) ∨ (((n : Int) == 0) = false ∧ decide (n = 0) = false) := by
          by_cases g1 : n = 0 <;> simp [g1]
        all_goals
          rw [hX] at HX
          clear hX
          go_wp2
          go_ret
          exact ⟨by rw [HX.out]; rfl, HF2.out⟩

set_option maxRecDepth 20000 in
set_option maxHeartbeats 16000000 in
theorem Tryz.bformed_4 (d dn B : Nat) (T : Bl) (v u : Value) (an : Option Addr) (cn : Nat) (af : Option Addr) (cf : Nat) (ns : List Nd) (fs : List Fl) (w : World) (hT : Bl.Lies w B d v u T) (hN : Nt.Has w B dn an af ns fs) (hB : B ≤ w.heap.size) (hk : T.ks.length ≤ 2147483647) (hK : T.kind = 4) :
    Calls Tryz.prog 30 #[.agg #[.slice an ns.length cn, .slice af fs.length cf], .agg #[.int .i64 T.kind, .int .i64 T.node, .int .i64 T.arg, v, u]] w fun e w' => e = .returned (.bool (T.formedB ns fs)) ∧ Below w.heap.size w w' := by
  obtain ⟨a, c, rfl⟩ := hT.shape
  obtain ⟨al, cl, rfl⟩ := hT.links.shape
  obtain ⟨o, ho⟩ : ∃ o, T.kind = o := ⟨_, rfl⟩
  obtain ⟨m, hm⟩ : ∃ m, T.node = m := ⟨_, rfl⟩
  obtain ⟨r, hr⟩ : ∃ m, T.arg = m := ⟨_, rfl⟩
  obtain ⟨n, hn⟩ : ∃ n, T.ks.length = n := ⟨_, rfl⟩
  obtain ⟨nl, hnl⟩ : ∃ n, T.ls.length = n := ⟨_, rfl⟩
  obtain ⟨nn, hnn⟩ : ∃ n, ns.length = n := ⟨_, rfl⟩
  obtain ⟨nf, hnf⟩ : ∃ n, fs.length = n := ⟨_, rfl⟩
  obtain ⟨q, hq⟩ : ∃ q, T.holdsB = q := ⟨_, rfl⟩
  obtain ⟨R, hR⟩ : ∃ q, T.formedB ns fs = q := ⟨_, rfl⟩
  have hLk := hT.links
  rw [hR, ho, hm, hr, hn, hnl, hnn, hnf]
  rw [Bl.formedB, ho, hm, hr, hn, hnl, hnf, hq] at hR
  rw [ho] at hK
  rw [hn] at hk
  obtain ⟨W0, hW0⟩ : ∃ z, (w.alloc (.cells #[.slice an nn cn, .slice af nf cf] 25)).alloc (.cells #[.int .i64 o, .int .i64 m, .int .i64 r, .slice a n c, .slice al nl cl] 29) = z := ⟨_, rfl⟩
  have A0 : Below w.heap.size w W0 := by rw [← hW0]; exact ((Below.refl _ w).alloc (Nat.le_refl _) _).alloc (by simp) _
  have S0 : W0.heap.size = w.heap.size + 2 := by rw [← hW0]; simp
  have G1 : W0.heap[w.heap.size]? = some (.cells #[.slice an nn cn, .slice af nf cf] 25 (0, 0)) := by rw [← hW0, Below.heap_alloc _ _ _ (by simp)]; exact heap_alloc_new w _
  have G2 : W0.heap[w.heap.size + 1]? = some (.cells #[.int .i64 o, .int .i64 m, .int .i64 r, .slice a n c, .slice al nl cl] 29 (0, 0)) := by
    rw [← hW0]
    have := heap_alloc_new (w.alloc (.cells #[.slice an nn cn, .slice af nf cf] 25)) (.cells #[.int .i64 o, .int .i64 m, .int .i64 r, .slice a n c, .slice al nl cl] 29)
    simpa using this
  have CF : Hid (∀ W, Below W0.heap.size W0 W → (W.cell? ⟨w.heap.size, 0, none⟩ = some (.slice an nn cn) ∧ W.cell? ⟨w.heap.size, 1, none⟩ = some (.slice af nf cf)) ∧ (W.cell? ⟨w.heap.size + 1, 0, none⟩ = some (.int .i64 o) ∧ W.cell? ⟨w.heap.size + 1, 1, none⟩ = some (.int .i64 m) ∧ W.cell? ⟨w.heap.size + 1, 2, none⟩ = some (.int .i64 r) ∧ W.cell? ⟨w.heap.size + 1, 3, none⟩ = some (.slice a n c) ∧ W.cell? ⟨w.heap.size + 1, 4, none⟩ = some (.slice al nl cl)) ∧ Below w.heap.size w W) := fun W hb => by
    have e1 := (hb.block _ (by omega)).trans G1
    have e2 := (hb.block _ (by omega)).trans G2
    exact ⟨⟨by simp [World.cell?, e1], by simp [World.cell?, e1]⟩, ⟨by simp [World.cell?, e2], by simp [World.cell?, e2], by simp [World.cell?, e2], by simp [World.cell?, e2], by simp [World.cell?, e2]⟩, A0.trans (hb.mono (by omega))⟩
  have CH : Hid (∀ W, Below W0.heap.size W0 W → Calls Tryz.prog 47 #[.agg #[.int .i64 o, .int .i64 m, .int .i64 r, .slice a n c, .slice al nl cl]] W fun e w' => e = .returned (.bool q) ∧ Hid (Below W0.heap.size W0 w')) := fun W hb => by
    have h2 := A0.trans (hb.mono A0.size)
    have h := Tryz.bholds_any d B T _ _ W (hT.below (h2.mono hB)) (Nat.le_trans hB h2.size) (by omega)
    rw [ho, hm, hr, hn, hnl, hq] at h
    exact h.mono fun _ _ q => ⟨q.1, hb.trans (q.2.mono hb.size)⟩
  obtain ⟨z, hz⟩ : ∃ z, Bl.splitsB ns fs m n 6 = z := ⟨_, rfl⟩
  rw [hz] at hR
  have CS : Hid (∀ W, Below W0.heap.size W0 W → Calls Tryz.prog 49 #[.agg #[.slice an nn cn, .slice af nf cf], .agg #[.int .i64 o, .int .i64 m, .int .i64 r, .slice a n c, .slice al nl cl], .int .i64 6] W fun e w' => e = .returned (.bool z) ∧ Hid (Below W0.heap.size W0 w')) := fun W hb => by
    have h2 := A0.trans (hb.mono A0.size)
    have h := Tryz.bsplits_any 6 o m r a n c al nl cl an cn af cf B dn ns fs W (hN.below (h2.mono hB)) (Nat.le_trans hB h2.size) hk
    rw [hnn, hnf, hz] at h
    exact h.mono fun _ _ q => ⟨q.1, hb.trans (q.2.mono hb.size)⟩
  clear hz
  have HW0 : Hid _ := hW0
  have BR : Hid (Below W0.heap.size W0 W0) := Below.refl _ _
  have HR : Hid _ := hR
  clear hT hN hB hLk ho hm hr hn hnl hnn hnf hq hR hW0 A0 S0 G1 G2
  subst hK
  by_cases hA : r ≠ 0 ∨ 0 < nl
  · have HF0 : Hid (Below w.heap.size w W0) := (CF.out W0 BR.out).2.2
    have HX : Hid (R = false) := by show _ = _; rw [← HR.out, if_pos (by omega)]
    obtain ⟨f0, f1⟩ | ⟨f0, f1⟩ | ⟨f0, f1⟩ : ((r != 0) = true ∧ ¬ 0 < nl) ∨ ((r != 0) = true ∧ 0 < nl) ∨ ((r != 0) = false ∧ 0 < nl) := by
      by_cases g0 : r = 0 <;> by_cases g1 : 0 < nl <;> simp [g0, g1] <;> omega
    all_goals
      have HFA : Hid _ := f0
      clear hA
      go_enter Tryz.func30, Tryz.ntmps30
      go_upto_region 1 with fail
      rw [HW0.out]
      clear HW0
      obtain ⟨⟨x0, x1⟩, ⟨y0, y1, y2, y3, y4⟩, -⟩ := CF.out W0 BR.out
      go_wp2
      go_ret
      exact ⟨by rw [HX.out]; rfl, HF0.out⟩
  have HG : Hid (¬ (r ≠ 0 ∨ 0 < nl)) := hA
  obtain ⟨f0, f1⟩ : (r != 0) = false ∧ ¬ 0 < nl := by
    by_cases g0 : r = 0 <;> by_cases g1 : 0 < nl <;> simp [g0, g1] <;> omega
  all_goals
    clear hA
    go_enter Tryz.func30, Tryz.ntmps30
    go_upto_region 1 with fail
    rw [HW0.out]
    clear HW0
    obtain ⟨⟨x0, x1⟩, ⟨y0, y1, y2, y3, y4⟩, -⟩ := CF.out W0 BR.out
    go_wp2_with fail
    refine Calls.mono (CH.out _ BR.out) ?_
    rintro e W1 ⟨rfl, B1⟩
    clear x0 x1 y0 y1 y2 y3 y4 CH
    obtain ⟨⟨x0, x1⟩, ⟨y0, y1, y2, y3, y4⟩, HF⟩ := CF.out W1 B1.out
    have HF1 : Hid (Below w.heap.size w W1) := HF
    clear HF
    cases q with
    | false =>
      have HX : Hid (R = false) := by show _ = _; rw [← HR.out, if_pos (.inr (.inr rfl))]
      go_wp2
      go_ret
      exact ⟨by rw [HX.out]; rfl, HF1.out⟩
    | true =>
      have HX : Hid (R = z) := by show _ = _; rw [← HR.out, if_neg (by have := HG.out; simp; omega)]; rfl
      go_wp2_with fail
      refine Calls.mono (CS.out _ B1.out) ?_
      rintro e W2 ⟨rfl, B2⟩
      have HF2 : Hid (Below w.heap.size w W2) := (CF.out W2 B2.out).2.2
      clear CS
      go_wp2
      go_ret
      exact ⟨by rw [HX.out]; rfl, HF2.out⟩

set_option maxRecDepth 20000 in
set_option maxHeartbeats 16000000 in
theorem Tryz.bformed_5 (d dn B : Nat) (T : Bl) (v u : Value) (an : Option Addr) (cn : Nat) (af : Option Addr) (cf : Nat) (ns : List Nd) (fs : List Fl) (w : World) (hT : Bl.Lies w B d v u T) (hN : Nt.Has w B dn an af ns fs) (hB : B ≤ w.heap.size) (hk : T.ks.length ≤ 2147483647) (hK : T.kind = 5) :
    Calls Tryz.prog 30 #[.agg #[.slice an ns.length cn, .slice af fs.length cf], .agg #[.int .i64 T.kind, .int .i64 T.node, .int .i64 T.arg, v, u]] w fun e w' => e = .returned (.bool (T.formedB ns fs)) ∧ Below w.heap.size w w' := by
  obtain ⟨a, c, rfl⟩ := hT.shape
  obtain ⟨al, cl, rfl⟩ := hT.links.shape
  obtain ⟨o, ho⟩ : ∃ o, T.kind = o := ⟨_, rfl⟩
  obtain ⟨m, hm⟩ : ∃ m, T.node = m := ⟨_, rfl⟩
  obtain ⟨r, hr⟩ : ∃ m, T.arg = m := ⟨_, rfl⟩
  obtain ⟨n, hn⟩ : ∃ n, T.ks.length = n := ⟨_, rfl⟩
  obtain ⟨nl, hnl⟩ : ∃ n, T.ls.length = n := ⟨_, rfl⟩
  obtain ⟨nn, hnn⟩ : ∃ n, ns.length = n := ⟨_, rfl⟩
  obtain ⟨nf, hnf⟩ : ∃ n, fs.length = n := ⟨_, rfl⟩
  obtain ⟨q, hq⟩ : ∃ q, T.holdsB = q := ⟨_, rfl⟩
  obtain ⟨R, hR⟩ : ∃ q, T.formedB ns fs = q := ⟨_, rfl⟩
  have hLk := hT.links
  rw [hR, ho, hm, hr, hn, hnl, hnn, hnf]
  rw [Bl.formedB, ho, hm, hr, hn, hnl, hnf, hq] at hR
  rw [ho] at hK
  rw [hn] at hk
  obtain ⟨W0, hW0⟩ : ∃ z, (w.alloc (.cells #[.slice an nn cn, .slice af nf cf] 25)).alloc (.cells #[.int .i64 o, .int .i64 m, .int .i64 r, .slice a n c, .slice al nl cl] 29) = z := ⟨_, rfl⟩
  have A0 : Below w.heap.size w W0 := by rw [← hW0]; exact ((Below.refl _ w).alloc (Nat.le_refl _) _).alloc (by simp) _
  have S0 : W0.heap.size = w.heap.size + 2 := by rw [← hW0]; simp
  have G1 : W0.heap[w.heap.size]? = some (.cells #[.slice an nn cn, .slice af nf cf] 25 (0, 0)) := by rw [← hW0, Below.heap_alloc _ _ _ (by simp)]; exact heap_alloc_new w _
  have G2 : W0.heap[w.heap.size + 1]? = some (.cells #[.int .i64 o, .int .i64 m, .int .i64 r, .slice a n c, .slice al nl cl] 29 (0, 0)) := by
    rw [← hW0]
    have := heap_alloc_new (w.alloc (.cells #[.slice an nn cn, .slice af nf cf] 25)) (.cells #[.int .i64 o, .int .i64 m, .int .i64 r, .slice a n c, .slice al nl cl] 29)
    simpa using this
  have CF : Hid (∀ W, Below W0.heap.size W0 W → (W.cell? ⟨w.heap.size, 0, none⟩ = some (.slice an nn cn) ∧ W.cell? ⟨w.heap.size, 1, none⟩ = some (.slice af nf cf)) ∧ (W.cell? ⟨w.heap.size + 1, 0, none⟩ = some (.int .i64 o) ∧ W.cell? ⟨w.heap.size + 1, 1, none⟩ = some (.int .i64 m) ∧ W.cell? ⟨w.heap.size + 1, 2, none⟩ = some (.int .i64 r) ∧ W.cell? ⟨w.heap.size + 1, 3, none⟩ = some (.slice a n c) ∧ W.cell? ⟨w.heap.size + 1, 4, none⟩ = some (.slice al nl cl)) ∧ Below w.heap.size w W) := fun W hb => by
    have e1 := (hb.block _ (by omega)).trans G1
    have e2 := (hb.block _ (by omega)).trans G2
    exact ⟨⟨by simp [World.cell?, e1], by simp [World.cell?, e1]⟩, ⟨by simp [World.cell?, e2], by simp [World.cell?, e2], by simp [World.cell?, e2], by simp [World.cell?, e2], by simp [World.cell?, e2]⟩, A0.trans (hb.mono (by omega))⟩
  have CH : Hid (∀ W, Below W0.heap.size W0 W → Calls Tryz.prog 47 #[.agg #[.int .i64 o, .int .i64 m, .int .i64 r, .slice a n c, .slice al nl cl]] W fun e w' => e = .returned (.bool q) ∧ Hid (Below W0.heap.size W0 w')) := fun W hb => by
    have h2 := A0.trans (hb.mono A0.size)
    have h := Tryz.bholds_any d B T _ _ W (hT.below (h2.mono hB)) (Nat.le_trans hB h2.size) (by omega)
    rw [ho, hm, hr, hn, hnl, hq] at h
    exact h.mono fun _ _ q => ⟨q.1, hb.trans (q.2.mono hb.size)⟩
  obtain ⟨z, hz⟩ : ∃ z, Bl.splitsB ns fs m n 5 = z := ⟨_, rfl⟩
  rw [hz] at hR
  have CS : Hid (∀ W, Below W0.heap.size W0 W → Calls Tryz.prog 49 #[.agg #[.slice an nn cn, .slice af nf cf], .agg #[.int .i64 o, .int .i64 m, .int .i64 r, .slice a n c, .slice al nl cl], .int .i64 5] W fun e w' => e = .returned (.bool z) ∧ Hid (Below W0.heap.size W0 w')) := fun W hb => by
    have h2 := A0.trans (hb.mono A0.size)
    have h := Tryz.bsplits_any 5 o m r a n c al nl cl an cn af cf B dn ns fs W (hN.below (h2.mono hB)) (Nat.le_trans hB h2.size) hk
    rw [hnn, hnf, hz] at h
    exact h.mono fun _ _ q => ⟨q.1, hb.trans (q.2.mono hb.size)⟩
  clear hz
  have HW0 : Hid _ := hW0
  have BR : Hid (Below W0.heap.size W0 W0) := Below.refl _ _
  have HR : Hid _ := hR
  clear hT hN hB hLk ho hm hr hn hnl hnn hnf hq hR hW0 A0 S0 G1 G2
  subst hK
  by_cases hA : r ≠ 0 ∨ 0 < nl
  · have HF0 : Hid (Below w.heap.size w W0) := (CF.out W0 BR.out).2.2
    have HX : Hid (R = false) := by show _ = _; rw [← HR.out, if_pos (by omega)]
    obtain ⟨f0, f1⟩ | ⟨f0, f1⟩ | ⟨f0, f1⟩ : ((r != 0) = true ∧ ¬ 0 < nl) ∨ ((r != 0) = true ∧ 0 < nl) ∨ ((r != 0) = false ∧ 0 < nl) := by
      by_cases g0 : r = 0 <;> by_cases g1 : 0 < nl <;> simp [g0, g1] <;> omega
    all_goals
      have HFA : Hid _ := f0
      clear hA
      go_enter Tryz.func30, Tryz.ntmps30
      go_upto_region 1 with fail
      rw [HW0.out]
      clear HW0
      obtain ⟨⟨x0, x1⟩, ⟨y0, y1, y2, y3, y4⟩, -⟩ := CF.out W0 BR.out
      go_wp2
      go_ret
      exact ⟨by rw [HX.out]; rfl, HF0.out⟩
  have HG : Hid (¬ (r ≠ 0 ∨ 0 < nl)) := hA
  obtain ⟨f0, f1⟩ : (r != 0) = false ∧ ¬ 0 < nl := by
    by_cases g0 : r = 0 <;> by_cases g1 : 0 < nl <;> simp [g0, g1] <;> omega
  all_goals
    clear hA
    go_enter Tryz.func30, Tryz.ntmps30
    go_upto_region 1 with fail
    rw [HW0.out]
    clear HW0
    obtain ⟨⟨x0, x1⟩, ⟨y0, y1, y2, y3, y4⟩, -⟩ := CF.out W0 BR.out
    go_wp2_with fail
    refine Calls.mono (CH.out _ BR.out) ?_
    rintro e W1 ⟨rfl, B1⟩
    clear x0 x1 y0 y1 y2 y3 y4 CH
    obtain ⟨⟨x0, x1⟩, ⟨y0, y1, y2, y3, y4⟩, HF⟩ := CF.out W1 B1.out
    have HF1 : Hid (Below w.heap.size w W1) := HF
    clear HF
    cases q with
    | false =>
      have HX : Hid (R = false) := by show _ = _; rw [← HR.out, if_pos (.inr (.inr rfl))]
      go_wp2
      go_ret
      exact ⟨by rw [HX.out]; rfl, HF1.out⟩
    | true =>
      have HX : Hid (R = z) := by show _ = _; rw [← HR.out, if_neg (by have := HG.out; simp; omega)]; rfl
      go_wp2_with fail
      refine Calls.mono (CS.out _ B1.out) ?_
      rintro e W2 ⟨rfl, B2⟩
      have HF2 : Hid (Below w.heap.size w W2) := (CF.out W2 B2.out).2.2
      clear CS
      go_wp2
      go_ret
      exact ⟨by rw [HX.out]; rfl, HF2.out⟩

set_option maxRecDepth 20000 in
set_option maxHeartbeats 16000000 in
theorem Tryz.bformed_6 (d dn B : Nat) (T : Bl) (v u : Value) (an : Option Addr) (cn : Nat) (af : Option Addr) (cf : Nat) (ns : List Nd) (fs : List Fl) (w : World) (hT : Bl.Lies w B d v u T) (hN : Nt.Has w B dn an af ns fs) (hB : B ≤ w.heap.size) (hk : T.ks.length ≤ 2147483647) (hK : T.kind = 6) :
    Calls Tryz.prog 30 #[.agg #[.slice an ns.length cn, .slice af fs.length cf], .agg #[.int .i64 T.kind, .int .i64 T.node, .int .i64 T.arg, v, u]] w fun e w' => e = .returned (.bool (T.formedB ns fs)) ∧ Below w.heap.size w w' := by
  obtain ⟨a, c, rfl⟩ := hT.shape
  obtain ⟨al, cl, rfl⟩ := hT.links.shape
  obtain ⟨o, ho⟩ : ∃ o, T.kind = o := ⟨_, rfl⟩
  obtain ⟨m, hm⟩ : ∃ m, T.node = m := ⟨_, rfl⟩
  obtain ⟨r, hr⟩ : ∃ m, T.arg = m := ⟨_, rfl⟩
  obtain ⟨n, hn⟩ : ∃ n, T.ks.length = n := ⟨_, rfl⟩
  obtain ⟨nl, hnl⟩ : ∃ n, T.ls.length = n := ⟨_, rfl⟩
  obtain ⟨nn, hnn⟩ : ∃ n, ns.length = n := ⟨_, rfl⟩
  obtain ⟨nf, hnf⟩ : ∃ n, fs.length = n := ⟨_, rfl⟩
  obtain ⟨q, hq⟩ : ∃ q, T.holdsB = q := ⟨_, rfl⟩
  obtain ⟨R, hR⟩ : ∃ q, T.formedB ns fs = q := ⟨_, rfl⟩
  have hLk := hT.links
  rw [hR, ho, hm, hr, hn, hnl, hnn, hnf]
  rw [Bl.formedB, ho, hm, hr, hn, hnl, hnf, hq] at hR
  rw [ho] at hK
  rw [hn] at hk
  obtain ⟨W0, hW0⟩ : ∃ z, (w.alloc (.cells #[.slice an nn cn, .slice af nf cf] 25)).alloc (.cells #[.int .i64 o, .int .i64 m, .int .i64 r, .slice a n c, .slice al nl cl] 29) = z := ⟨_, rfl⟩
  have A0 : Below w.heap.size w W0 := by rw [← hW0]; exact ((Below.refl _ w).alloc (Nat.le_refl _) _).alloc (by simp) _
  have S0 : W0.heap.size = w.heap.size + 2 := by rw [← hW0]; simp
  have G1 : W0.heap[w.heap.size]? = some (.cells #[.slice an nn cn, .slice af nf cf] 25 (0, 0)) := by rw [← hW0, Below.heap_alloc _ _ _ (by simp)]; exact heap_alloc_new w _
  have G2 : W0.heap[w.heap.size + 1]? = some (.cells #[.int .i64 o, .int .i64 m, .int .i64 r, .slice a n c, .slice al nl cl] 29 (0, 0)) := by
    rw [← hW0]
    have := heap_alloc_new (w.alloc (.cells #[.slice an nn cn, .slice af nf cf] 25)) (.cells #[.int .i64 o, .int .i64 m, .int .i64 r, .slice a n c, .slice al nl cl] 29)
    simpa using this
  have CF : Hid (∀ W, Below W0.heap.size W0 W → (W.cell? ⟨w.heap.size, 0, none⟩ = some (.slice an nn cn) ∧ W.cell? ⟨w.heap.size, 1, none⟩ = some (.slice af nf cf)) ∧ (W.cell? ⟨w.heap.size + 1, 0, none⟩ = some (.int .i64 o) ∧ W.cell? ⟨w.heap.size + 1, 1, none⟩ = some (.int .i64 m) ∧ W.cell? ⟨w.heap.size + 1, 2, none⟩ = some (.int .i64 r) ∧ W.cell? ⟨w.heap.size + 1, 3, none⟩ = some (.slice a n c) ∧ W.cell? ⟨w.heap.size + 1, 4, none⟩ = some (.slice al nl cl)) ∧ Below w.heap.size w W) := fun W hb => by
    have e1 := (hb.block _ (by omega)).trans G1
    have e2 := (hb.block _ (by omega)).trans G2
    exact ⟨⟨by simp [World.cell?, e1], by simp [World.cell?, e1]⟩, ⟨by simp [World.cell?, e2], by simp [World.cell?, e2], by simp [World.cell?, e2], by simp [World.cell?, e2], by simp [World.cell?, e2]⟩, A0.trans (hb.mono (by omega))⟩
  have CH : Hid (∀ W, Below W0.heap.size W0 W → Calls Tryz.prog 47 #[.agg #[.int .i64 o, .int .i64 m, .int .i64 r, .slice a n c, .slice al nl cl]] W fun e w' => e = .returned (.bool q) ∧ Hid (Below W0.heap.size W0 w')) := fun W hb => by
    have h2 := A0.trans (hb.mono A0.size)
    have h := Tryz.bholds_any d B T _ _ W (hT.below (h2.mono hB)) (Nat.le_trans hB h2.size) (by omega)
    rw [ho, hm, hr, hn, hnl, hq] at h
    exact h.mono fun _ _ q => ⟨q.1, hb.trans (q.2.mono hb.size)⟩
  obtain ⟨z, hz⟩ : ∃ z, Bl.splitsB ns fs m n 7 = z := ⟨_, rfl⟩
  rw [hz] at hR
  have CS : Hid (∀ W, Below W0.heap.size W0 W → Calls Tryz.prog 49 #[.agg #[.slice an nn cn, .slice af nf cf], .agg #[.int .i64 o, .int .i64 m, .int .i64 r, .slice a n c, .slice al nl cl], .int .i64 7] W fun e w' => e = .returned (.bool z) ∧ Hid (Below W0.heap.size W0 w')) := fun W hb => by
    have h2 := A0.trans (hb.mono A0.size)
    have h := Tryz.bsplits_any 7 o m r a n c al nl cl an cn af cf B dn ns fs W (hN.below (h2.mono hB)) (Nat.le_trans hB h2.size) hk
    rw [hnn, hnf, hz] at h
    exact h.mono fun _ _ q => ⟨q.1, hb.trans (q.2.mono hb.size)⟩
  clear hz
  have HW0 : Hid _ := hW0
  have BR : Hid (Below W0.heap.size W0 W0) := Below.refl _ _
  have HR : Hid _ := hR
  clear hT hN hB hLk ho hm hr hn hnl hnn hnf hq hR hW0 A0 S0 G1 G2
  subst hK
  by_cases hA : r ≠ 0 ∨ 0 < nl
  · have HF0 : Hid (Below w.heap.size w W0) := (CF.out W0 BR.out).2.2
    have HX : Hid (R = false) := by show _ = _; rw [← HR.out, if_pos (by omega)]
    obtain ⟨f0, f1⟩ | ⟨f0, f1⟩ | ⟨f0, f1⟩ : ((r != 0) = true ∧ ¬ 0 < nl) ∨ ((r != 0) = true ∧ 0 < nl) ∨ ((r != 0) = false ∧ 0 < nl) := by
      by_cases g0 : r = 0 <;> by_cases g1 : 0 < nl <;> simp [g0, g1] <;> omega
    all_goals
      have HFA : Hid _ := f0
      clear hA
      go_enter Tryz.func30, Tryz.ntmps30
      go_upto_region 1 with fail
      rw [HW0.out]
      clear HW0
      obtain ⟨⟨x0, x1⟩, ⟨y0, y1, y2, y3, y4⟩, -⟩ := CF.out W0 BR.out
      go_wp2
      go_ret
      exact ⟨by rw [HX.out]; rfl, HF0.out⟩
  have HG : Hid (¬ (r ≠ 0 ∨ 0 < nl)) := hA
  obtain ⟨f0, f1⟩ : (r != 0) = false ∧ ¬ 0 < nl := by
    by_cases g0 : r = 0 <;> by_cases g1 : 0 < nl <;> simp [g0, g1] <;> omega
  all_goals
    clear hA
    go_enter Tryz.func30, Tryz.ntmps30
    go_upto_region 1 with fail
    rw [HW0.out]
    clear HW0
    obtain ⟨⟨x0, x1⟩, ⟨y0, y1, y2, y3, y4⟩, -⟩ := CF.out W0 BR.out
    go_wp2_with fail
    refine Calls.mono (CH.out _ BR.out) ?_
    rintro e W1 ⟨rfl, B1⟩
    clear x0 x1 y0 y1 y2 y3 y4 CH
    obtain ⟨⟨x0, x1⟩, ⟨y0, y1, y2, y3, y4⟩, HF⟩ := CF.out W1 B1.out
    have HF1 : Hid (Below w.heap.size w W1) := HF
    clear HF
    cases q with
    | false =>
      have HX : Hid (R = false) := by show _ = _; rw [← HR.out, if_pos (.inr (.inr rfl))]
      go_wp2
      go_ret
      exact ⟨by rw [HX.out]; rfl, HF1.out⟩
    | true =>
      have HX : Hid (R = z) := by show _ = _; rw [← HR.out, if_neg (by have := HG.out; simp; omega)]; rfl
      go_wp2_with fail
      refine Calls.mono (CS.out _ B1.out) ?_
      rintro e W2 ⟨rfl, B2⟩
      have HF2 : Hid (Below w.heap.size w W2) := (CF.out W2 B2.out).2.2
      clear CS
      go_wp2
      go_ret
      exact ⟨by rw [HX.out]; rfl, HF2.out⟩

end Go.Proofs

namespace Go.Proofs
open Go.RowKit

set_option maxRecDepth 20000 in
set_option maxHeartbeats 16000000 in
theorem Tryz.bformed_7 (d dn B : Nat) (T : Bl) (v u : Value) (an : Option Addr) (cn : Nat) (af : Option Addr) (cf : Nat) (ns : List Nd) (fs : List Fl) (w : World) (hT : Bl.Lies w B d v u T) (hN : Nt.Has w B dn an af ns fs) (hB : B ≤ w.heap.size) (hk : T.ks.length ≤ 2147483647) (hK : T.kind = 7) :
    Calls Tryz.prog 30 #[.agg #[.slice an ns.length cn, .slice af fs.length cf], .agg #[.int .i64 T.kind, .int .i64 T.node, .int .i64 T.arg, v, u]] w fun e w' => e = .returned (.bool (T.formedB ns fs)) ∧ Below w.heap.size w w' := by
  obtain ⟨a, c, rfl⟩ := hT.shape
  obtain ⟨al, cl, rfl⟩ := hT.links.shape
  obtain ⟨o, ho⟩ : ∃ o, T.kind = o := ⟨_, rfl⟩
  obtain ⟨m, hm⟩ : ∃ m, T.node = m := ⟨_, rfl⟩
  obtain ⟨r, hr⟩ : ∃ m, T.arg = m := ⟨_, rfl⟩
  obtain ⟨n, hn⟩ : ∃ n, T.ks.length = n := ⟨_, rfl⟩
  obtain ⟨nl, hnl⟩ : ∃ n, T.ls.length = n := ⟨_, rfl⟩
  obtain ⟨nn, hnn⟩ : ∃ n, ns.length = n := ⟨_, rfl⟩
  obtain ⟨nf, hnf⟩ : ∃ n, fs.length = n := ⟨_, rfl⟩
  obtain ⟨q, hq⟩ : ∃ q, T.holdsB = q := ⟨_, rfl⟩
  obtain ⟨R, hR⟩ : ∃ q, T.formedB ns fs = q := ⟨_, rfl⟩
  have hLk := hT.links
  rw [hR, ho, hm, hr, hn, hnl, hnn, hnf]
  rw [Bl.formedB, ho, hm, hr, hn, hnl, hnf, hq] at hR
  rw [ho] at hK
  rw [hn] at hk
  obtain ⟨W0, hW0⟩ : ∃ z, (w.alloc (.cells #[.slice an nn cn, .slice af nf cf] 25)).alloc (.cells #[.int .i64 o, .int .i64 m, .int .i64 r, .slice a n c, .slice al nl cl] 29) = z := ⟨_, rfl⟩
  have A0 : Below w.heap.size w W0 := by rw [← hW0]; exact ((Below.refl _ w).alloc (Nat.le_refl _) _).alloc (by simp) _
  have S0 : W0.heap.size = w.heap.size + 2 := by rw [← hW0]; simp
  have G1 : W0.heap[w.heap.size]? = some (.cells #[.slice an nn cn, .slice af nf cf] 25 (0, 0)) := by rw [← hW0, Below.heap_alloc _ _ _ (by simp)]; exact heap_alloc_new w _
  have G2 : W0.heap[w.heap.size + 1]? = some (.cells #[.int .i64 o, .int .i64 m, .int .i64 r, .slice a n c, .slice al nl cl] 29 (0, 0)) := by
    rw [← hW0]
    have := heap_alloc_new (w.alloc (.cells #[.slice an nn cn, .slice af nf cf] 25)) (.cells #[.int .i64 o, .int .i64 m, .int .i64 r, .slice a n c, .slice al nl cl] 29)
    simpa using this
  have CF : Hid (∀ W, Below W0.heap.size W0 W → (W.cell? ⟨w.heap.size, 0, none⟩ = some (.slice an nn cn) ∧ W.cell? ⟨w.heap.size, 1, none⟩ = some (.slice af nf cf)) ∧ (W.cell? ⟨w.heap.size + 1, 0, none⟩ = some (.int .i64 o) ∧ W.cell? ⟨w.heap.size + 1, 1, none⟩ = some (.int .i64 m) ∧ W.cell? ⟨w.heap.size + 1, 2, none⟩ = some (.int .i64 r) ∧ W.cell? ⟨w.heap.size + 1, 3, none⟩ = some (.slice a n c) ∧ W.cell? ⟨w.heap.size + 1, 4, none⟩ = some (.slice al nl cl)) ∧ Below w.heap.size w W) := fun W hb => by
    have e1 := (hb.block _ (by omega)).trans G1
    have e2 := (hb.block _ (by omega)).trans G2
    exact ⟨⟨by simp [World.cell?, e1], by simp [World.cell?, e1]⟩, ⟨by simp [World.cell?, e2], by simp [World.cell?, e2], by simp [World.cell?, e2], by simp [World.cell?, e2], by simp [World.cell?, e2]⟩, A0.trans (hb.mono (by omega))⟩
  have CH : Hid (∀ W, Below W0.heap.size W0 W → Calls Tryz.prog 47 #[.agg #[.int .i64 o, .int .i64 m, .int .i64 r, .slice a n c, .slice al nl cl]] W fun e w' => e = .returned (.bool q) ∧ Hid (Below W0.heap.size W0 w')) := fun W hb => by
    have h2 := A0.trans (hb.mono A0.size)
    have h := Tryz.bholds_any d B T _ _ W (hT.below (h2.mono hB)) (Nat.le_trans hB h2.size) (by omega)
    rw [ho, hm, hr, hn, hnl, hq] at h
    exact h.mono fun _ _ q => ⟨q.1, hb.trans (q.2.mono hb.size)⟩
  obtain ⟨z, hz⟩ : ∃ z, Bl.splitsB ns fs m n 5 = z := ⟨_, rfl⟩
  rw [hz] at hR
  have CS : Hid (∀ W, Below W0.heap.size W0 W → Calls Tryz.prog 49 #[.agg #[.slice an nn cn, .slice af nf cf], .agg #[.int .i64 o, .int .i64 m, .int .i64 r, .slice a n c, .slice al nl cl], .int .i64 5] W fun e w' => e = .returned (.bool z) ∧ Hid (Below W0.heap.size W0 w')) := fun W hb => by
    have h2 := A0.trans (hb.mono A0.size)
    have h := Tryz.bsplits_any 5 o m r a n c al nl cl an cn af cf B dn ns fs W (hN.below (h2.mono hB)) (Nat.le_trans hB h2.size) hk
    rw [hnn, hnf, hz] at h
    exact h.mono fun _ _ q => ⟨q.1, hb.trans (q.2.mono hb.size)⟩
  clear hz
  have HW0 : Hid _ := hW0
  have BR : Hid (Below W0.heap.size W0 W0) := Below.refl _ _
  have HR : Hid _ := hR
  clear hT hN hB hLk ho hm hr hn hnl hnn hnf hq hR hW0 A0 S0 G1 G2
  subst hK
  by_cases hA : 0 < nl
  · have HF0 : Hid (Below w.heap.size w W0) := (CF.out W0 BR.out).2.2
    have HX : Hid (R = false) := by show _ = _; rw [← HR.out, if_pos (by omega)]
    obtain ⟨f0, f1⟩ | ⟨f0, f1⟩ : ((r != 0) = false ∧ 0 < nl) ∨ ((r != 0) = true ∧ 0 < nl) := by
      by_cases g0 : r = 0 <;> by_cases g1 : 0 < nl <;> simp [g0, g1] <;> omega
    all_goals
      have HFA : Hid _ := f0
      clear hA
      go_enter Tryz.func30, Tryz.ntmps30
      go_upto_region 1 with fail
      rw [HW0.out]
      clear HW0
      obtain ⟨⟨x0, x1⟩, ⟨y0, y1, y2, y3, y4⟩, -⟩ := CF.out W0 BR.out
      go_wp2
      go_ret
      exact ⟨by rw [HX.out]; rfl, HF0.out⟩
  have HG : Hid (¬ (0 < nl)) := hA
  obtain ⟨f0, f1⟩ | ⟨f0, f1⟩ : ((r != 0) = false ∧ ¬ 0 < nl) ∨ ((r != 0) = true ∧ ¬ 0 < nl) := by
    by_cases g0 : r = 0 <;> by_cases g1 : 0 < nl <;> simp [g0, g1] <;> omega
  all_goals
    clear hA
    go_enter Tryz.func30, Tryz.ntmps30
    go_upto_region 1 with fail
    rw [HW0.out]
    clear HW0
    obtain ⟨⟨x0, x1⟩, ⟨y0, y1, y2, y3, y4⟩, -⟩ := CF.out W0 BR.out
    go_wp2_with fail
    refine Calls.mono (CH.out _ BR.out) ?_
    rintro e W1 ⟨rfl, B1⟩
    clear x0 x1 y0 y1 y2 y3 y4 CH
    obtain ⟨⟨x0, x1⟩, ⟨y0, y1, y2, y3, y4⟩, HF⟩ := CF.out W1 B1.out
    have HF1 : Hid (Below w.heap.size w W1) := HF
    clear HF
    cases q with
    | false =>
      have HX : Hid (R = false) := by show _ = _; rw [← HR.out, if_pos (.inr (.inr rfl))]
      go_wp2
      go_ret
      exact ⟨by rw [HX.out]; rfl, HF1.out⟩
    | true =>
      have HX : Hid (R = (z && decide (n = 2) && decide (r = 0 ∨ r = 1))) := by show _ = _; rw [← HR.out, if_neg (by have := HG.out; simp; omega)]; rfl
      go_wp2_with fail
      refine Calls.mono (CS.out _ B1.out) ?_
      rintro e W2 ⟨rfl, B2⟩
      clear x0 x1 y0 y1 y2 y3 y4 CS
      obtain ⟨⟨x0, x1⟩, ⟨y0, y1, y2, y3, y4⟩, HF⟩ := CF.out W2 B2.out
      have HF2 : Hid (Below w.heap.size w W2) := HF
      clear HF
      cases z with
      | false =>
        go_wp2
        go_ret
        exact ⟨by rw [HX.out]; rfl, HF2.out⟩
      | true =>
        obtain ⟨g1, g2, hX⟩ | ⟨g1, g2, g3, hX⟩ | ⟨g1, g2, g3, hX⟩ | ⟨g1, hX⟩ : (((n : Int) == 2) = true ∧ (r == 0) = true ∧ (decide (n = 2) && decide (r = 0 ∨ r = 1)) = true) ∨ (((n : Int) == 2) = true ∧ (r == 0) = false ∧ (r == 1) = true ∧ (decide (n = 2) && decide (r = 0 ∨ r = 1)) = true) ∨ (((n : Int) == 2) = true ∧ (r == 0) = false ∧ (r == 1) = false ∧ (decide (n = 2) && decide (r = 0 ∨ r = 1)) = false) ∨ (((n : Int) == 2) = false ∧ (decide (n = 2) && decide (r = 0 ∨ r = 1)) = false) := by
          by_cases g1 : n = 2 <;> by_cases g2 : r = 0 <;> by_cases g3 : r = 1 <;> simp [g1, g2, g3] <;> omega
        all_goals
          rw [Bool.true_and, hX] at HX
          clear hX
          go_wp2
          go_ret
          exact ⟨by rw [HX.out]; rfl, HF2.out⟩

set_option maxRecDepth 20000 in
set_option maxHeartbeats 16000000 in
theorem Tryz.bformed_other (d dn B : Nat) (T : Bl) (v u : Value) (an : Option Addr) (cn : Nat) (af : Option Addr) (cf : Nat) (ns : List Nd) (fs : List Fl) (w : World) (hT : Bl.Lies w B d v u T) (_hN : Nt.Has w B dn an af ns fs) (hB : B ≤ w.heap.size) (hk : T.ks.length ≤ 2147483647) (hK : T.kind < 1 ∨ 10 < T.kind) :
    Calls Tryz.prog 30 #[.agg #[.slice an ns.length cn, .slice af fs.length cf], .agg #[.int .i64 T.kind, .int .i64 T.node, .int .i64 T.arg, v, u]] w fun e w' => e = .returned (.bool (T.formedB ns fs)) ∧ Below w.heap.size w w' := by
  obtain ⟨a, c, rfl⟩ := hT.shape
  obtain ⟨al, cl, rfl⟩ := hT.links.shape
  obtain ⟨o, ho⟩ : ∃ o, T.kind = o := ⟨_, rfl⟩
  obtain ⟨m, hm⟩ : ∃ m, T.node = m := ⟨_, rfl⟩
  obtain ⟨r, hr⟩ : ∃ m, T.arg = m := ⟨_, rfl⟩
  obtain ⟨n, hn⟩ : ∃ n, T.ks.length = n := ⟨_, rfl⟩
  obtain ⟨nl, hnl⟩ : ∃ n, T.ls.length = n := ⟨_, rfl⟩
  obtain ⟨nn, hnn⟩ : ∃ n, ns.length = n := ⟨_, rfl⟩
  obtain ⟨nf, hnf⟩ : ∃ n, fs.length = n := ⟨_, rfl⟩
  obtain ⟨q, hq⟩ : ∃ q, T.holdsB = q := ⟨_, rfl⟩
  obtain ⟨R, hR⟩ : ∃ q, T.formedB ns fs = q := ⟨_, rfl⟩
  have hLk := hT.links
  rw [hR, ho, hm, hr, hn, hnl, hnn, hnf]
  rw [Bl.formedB, ho, hm, hr, hn, hnl, hnf, hq] at hR
  rw [ho] at hK
  rw [hn] at hk
  obtain ⟨W0, hW0⟩ : ∃ z, (w.alloc (.cells #[.slice an nn cn, .slice af nf cf] 25)).alloc (.cells #[.int .i64 o, .int .i64 m, .int .i64 r, .slice a n c, .slice al nl cl] 29) = z := ⟨_, rfl⟩
  have A0 : Below w.heap.size w W0 := by rw [← hW0]; exact ((Below.refl _ w).alloc (Nat.le_refl _) _).alloc (by simp) _
  have S0 : W0.heap.size = w.heap.size + 2 := by rw [← hW0]; simp
  have G1 : W0.heap[w.heap.size]? = some (.cells #[.slice an nn cn, .slice af nf cf] 25 (0, 0)) := by rw [← hW0, Below.heap_alloc _ _ _ (by simp)]; exact heap_alloc_new w _
  have G2 : W0.heap[w.heap.size + 1]? = some (.cells #[.int .i64 o, .int .i64 m, .int .i64 r, .slice a n c, .slice al nl cl] 29 (0, 0)) := by
    rw [← hW0]
    have := heap_alloc_new (w.alloc (.cells #[.slice an nn cn, .slice af nf cf] 25)) (.cells #[.int .i64 o, .int .i64 m, .int .i64 r, .slice a n c, .slice al nl cl] 29)
    simpa using this
  have CF : Hid (∀ W, Below W0.heap.size W0 W → (W.cell? ⟨w.heap.size, 0, none⟩ = some (.slice an nn cn) ∧ W.cell? ⟨w.heap.size, 1, none⟩ = some (.slice af nf cf)) ∧ (W.cell? ⟨w.heap.size + 1, 0, none⟩ = some (.int .i64 o) ∧ W.cell? ⟨w.heap.size + 1, 1, none⟩ = some (.int .i64 m) ∧ W.cell? ⟨w.heap.size + 1, 2, none⟩ = some (.int .i64 r) ∧ W.cell? ⟨w.heap.size + 1, 3, none⟩ = some (.slice a n c) ∧ W.cell? ⟨w.heap.size + 1, 4, none⟩ = some (.slice al nl cl)) ∧ Below w.heap.size w W) := fun W hb => by
    have e1 := (hb.block _ (by omega)).trans G1
    have e2 := (hb.block _ (by omega)).trans G2
    exact ⟨⟨by simp [World.cell?, e1], by simp [World.cell?, e1]⟩, ⟨by simp [World.cell?, e2], by simp [World.cell?, e2], by simp [World.cell?, e2], by simp [World.cell?, e2], by simp [World.cell?, e2]⟩, A0.trans (hb.mono (by omega))⟩
  have CH : Hid (∀ W, Below W0.heap.size W0 W → Calls Tryz.prog 47 #[.agg #[.int .i64 o, .int .i64 m, .int .i64 r, .slice a n c, .slice al nl cl]] W fun e w' => e = .returned (.bool q) ∧ Hid (Below W0.heap.size W0 w')) := fun W hb => by
    have h2 := A0.trans (hb.mono A0.size)
    have h := Tryz.bholds_any d B T _ _ W (hT.below (h2.mono hB)) (Nat.le_trans hB h2.size) (by omega)
    rw [ho, hm, hr, hn, hnl, hq] at h
    exact h.mono fun _ _ q => ⟨q.1, hb.trans (q.2.mono hb.size)⟩
  have HW0 : Hid _ := hW0
  have BR : Hid (Below W0.heap.size W0 W0) := Below.refl _ _
  have HR : Hid _ := hR
  clear hT _hN hB hLk ho hm hr hn hnl hnn hnf hq hR hW0 A0 S0 G1 G2
  have HO : Hid (o < 1 ∨ 10 < o) := hK
  have k1 : (o == 1) = false := by simp; omega
  have k2 : (o == 2) = false := by simp; omega
  have k3 : (o == 3) = false := by simp; omega
  have k4 : (o == 4) = false := by simp; omega
  have k5 : (o == 5) = false := by simp; omega
  have k6 : (o == 6) = false := by simp; omega
  have k7 : (o == 7) = false := by simp; omega
  have k8 : (o == 8) = false := by simp; omega
  have k9 : (o == 9) = false := by simp; omega
  have k10 : (o == 10) = false := by simp; omega
  have l7 : (o != 7) = true := by simp; omega
  have l9 : (o != 9) = true := by simp; omega
  clear hK
  by_cases hA : r ≠ 0 ∨ 0 < nl
  · have HF0 : Hid (Below w.heap.size w W0) := (CF.out W0 BR.out).2.2
    have HX : Hid (R = false) := by show _ = _; rw [← HR.out, if_pos (by have := HO.out; omega)]
    obtain ⟨f0, f1⟩ | ⟨f0, f1⟩ | ⟨f0, f1⟩ : ((r != 0) = true ∧ ¬ 0 < nl) ∨ ((r != 0) = true ∧ 0 < nl) ∨ ((r != 0) = false ∧ 0 < nl) := by
      by_cases g0 : r = 0 <;> by_cases g1 : 0 < nl <;> simp [g0, g1] <;> omega
    all_goals
      have HFA : Hid _ := f0
      clear hA
      go_enter Tryz.func30, Tryz.ntmps30
      go_upto_region 1 with fail
      rw [HW0.out]
      clear HW0
      obtain ⟨⟨x0, x1⟩, ⟨y0, y1, y2, y3, y4⟩, -⟩ := CF.out W0 BR.out
      go_wp2
      go_ret
      exact ⟨by rw [HX.out]; rfl, HF0.out⟩
  have HG : Hid (¬ (r ≠ 0 ∨ 0 < nl)) := hA
  obtain ⟨f0, f1⟩ : (r != 0) = false ∧ ¬ 0 < nl := by
    by_cases g0 : r = 0 <;> by_cases g1 : 0 < nl <;> simp [g0, g1] <;> omega
  all_goals
    clear hA
    go_enter Tryz.func30, Tryz.ntmps30
    go_upto_region 1 with fail
    rw [HW0.out]
    clear HW0
    obtain ⟨⟨x0, x1⟩, ⟨y0, y1, y2, y3, y4⟩, -⟩ := CF.out W0 BR.out
    go_wp2_with fail
    refine Calls.mono (CH.out _ BR.out) ?_
    rintro e W1 ⟨rfl, B1⟩
    clear x0 x1 y0 y1 y2 y3 y4 CH
    obtain ⟨⟨x0, x1⟩, ⟨y0, y1, y2, y3, y4⟩, HF⟩ := CF.out W1 B1.out
    have HF1 : Hid (Below w.heap.size w W1) := HF
    clear HF
    cases q with
    | false =>
      have HX : Hid (R = false) := by show _ = _; rw [← HR.out, if_pos (.inr (.inr rfl))]
      go_wp2
      go_ret
      exact ⟨by rw [HX.out]; rfl, HF1.out⟩
    | true =>
      have HX : Hid (R = false) := by
        show _ = _
        rw [← HR.out, if_neg (by have := HG.out; have := HO.out; simp; omega)]
        have h := HO.out
        rw [if_neg (by omega), if_neg (by omega), if_neg (by omega), if_neg (by omega), if_neg (by omega), if_neg (by omega), if_neg (by omega), if_neg (by omega), if_neg (by omega)]
      go_wp2
      go_ret
      exact ⟨by rw [HX.out]; rfl, HF1.out⟩

end Go.Proofs
