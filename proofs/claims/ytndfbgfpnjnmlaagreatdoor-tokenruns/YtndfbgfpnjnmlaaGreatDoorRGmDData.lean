import Derived.Test.YtndfbgfpnjnmlaaGreatDoorRGmDXor
namespace Go.Proofs
open Go.RowKit Go.Shelf
namespace Gm
theorem D.box {w0 : World} {B b : Nat} {an : Option Addr} {n cn : Nat} {af : Option Addr} {m cf : Nat} {l : List Int} {ss : List (Mv × List Int)} {W : World} (h : D w0 B b an n cn af m cf l ss W) {q : Nat} {cs : Array Value} {z : Nat × Nat} (hq : W.heap[q]? = some (.cells cs 32 z)) (hB : B ≤ q) (o : Nat) (v : Value) : D w0 B b an n cn af m cf l ss (W.setCell ⟨q, o, none⟩ v) := by
 obtain ⟨u, h1, h2⟩ := h.game
 have hlt := h.lt
 have blk : ∀ k, k ≠ q → (W.setCell ⟨q, o, none⟩ v).heap[k]? = W.heap[k]? := fun k hk => Below.heap_setCell _ _ _ _ hk
 refine ⟨⟨u, h1.keep (blk b (by omega)), h2.1, h2.2.imp id fun ⟨g, cap, cur, hv, e1, e2, e3⟩ => ⟨g, cap, cur, hv, e1, (blk g fun e => ?_).trans e2, e3⟩⟩, h.fr.trans ⟨rfl, rfl, rfl, by simp [World.setCell], fun k h3 _ => blk k (by omega)⟩, h.lt, h.le⟩
 rw [e, hq] at e2
 injection e2 with e2
 injection e2 with _ e2
 exact absurd e2 (by decide)
def dataD (l : List Int) (i : Nat) (kd : Int) (x : Nat) (T : Tm) (a c : List Nat) : List (Mv × List Int) :=
 if l.getD (a.headD 0) 0 = 0 then [] else if kd = 3 then more ⟨i, 0, 1, i, 0⟩ (pass (l.set (40 + x) 0) a c) ++ more ⟨i, 1, 1, i, 1⟩ (pass (l.set (40 + x) 1) a c)
 else if (num l T).2 ≠ 0 then fault l i (num l T).2 else more ⟨i, 0, 2, i, 0⟩ (pass (l.set (40 + x) (num l T).1) a c)
def twoD (l : List Int) (i x : Nat) (a c : List Nat) : List (Mv × List Int) := (List.range 2).flatMap fun r : Nat => more ⟨i, (r : Nat), 1, i, (r : Nat)⟩ (pass (l.set (40 + x) (r : Nat)) a c)
end Gm
set_option maxRecDepth 20000 in
set_option maxHeartbeats 32000000 in
theorem Tryz.rdata_any (w0 : World) (B b : Nat) (an : Option Addr) (n cn : Nat) (af : Option Addr) (m cf : Nat) (l : List Int) (ss : List (Mv × List Int)) (i : Nat) (a c : List Nat) (va vc : Value) (X : World) (hG : Gm.D w0 B b an n cn af m cf l ss X) (hl : ss.length ≤ 5000)
    (ha : Gm.Ints X va (a.map fun x : Nat => (x : Int))) (hc : Gm.Ints X vc (c.map fun x : Nat => (x : Int))) (ha4 : ∀ f ∈ a, f < 40) (hc4 : ∀ f ∈ c, f < 40) (hal : a.length ≤ 100) (hcl : c.length ≤ 100) (hS : Gm.Small l) (ha0 : a ≠ [])
    (d : Nat) (ns : List Nd) (hN : Nt.Nds w0 b d an ns) (hn : ns.length = n) (_hn1 : n ≤ 100) (hi : i < ns.length) (x : Nat) (hx : ns[i].a = (x : Int)) (hx4 : x < 4) (hsz : ns[i].t.size ≤ 2147483647) :
    Calls Tryz.prog 44 #[.pointer (some ⟨b, 0, none⟩), .int .i64 i, va, vc] X fun e' w' => e' = .returned (.tuple #[]) ∧ Gm.D w0 B b an n cn af m cf l (ss ++ Gm.dataD l i ns[i].kind x ns[i].t a c) w' ∧ Gm.KeepD X w' := by
  obtain ⟨R, hR⟩ : ∃ R, ss ++ Gm.dataD l i ns[i].kind x ns[i].t a c = R := ⟨_, rfl⟩
  rw [hR]
  obtain ⟨v, hA, hO⟩ := hG.game
  have hll := hA.ll
  have hbX : b < X.heap.size := hA.lt
  have hblt := hG.lt
  have hBX : B ≤ X.heap.size := Nat.le_trans hG.le hG.fr.size
  obtain ⟨g, off, u, han, hgb, c0, c1, c2, c3, c4, hT⟩ := Gm.nds_fr hN hG.lt hG.fr i hi
  subst han
  obtain ⟨ua, uc, rfl⟩ := hT.shape
  obtain ⟨T, hTT⟩ : ∃ z, ns[i].t = z := ⟨_, rfl⟩
  obtain ⟨kd, hkd⟩ : ∃ z, ns[i].kind = z := ⟨_, rfl⟩
  rw [hTT] at c2 c3 c4 hT hsz
  rw [hTT, hkd] at hR
  rw [hkd] at c0
  rw [hx] at c1
  obtain ⟨p1, hp1⟩ : ∃ z, T.op = z := ⟨_, rfl⟩
  obtain ⟨p2, hp2⟩ : ∃ z, T.num = z := ⟨_, rfl⟩
  obtain ⟨un, hun⟩ : ∃ z, T.ks.length = z := ⟨_, rfl⟩
  rw [hp1] at c2
  rw [hp2] at c3
  rw [hun] at c4 hT
  have kb0 := hA.net0
  obtain ⟨W1, hW1⟩ : ∃ z, (X.alloc (.cells #[.int .i64 0, .int .i64 0, .int .i64 0, .int .i64 0, .slice none 0 0] 70)).setRow X.heap.size #[.int .i64 kd, .int .i64 x, .int .i64 p1, .int .i64 p2, .slice ua un uc] = z := ⟨_, rfl⟩
  have Na : (X.alloc (.cells #[.int .i64 0, .int .i64 0, .int .i64 0, .int .i64 0, .slice none 0 0] 70)).heap[X.heap.size]? = some (.cells #[.int .i64 0, .int .i64 0, .int .i64 0, .int .i64 0, .slice none 0 0] 70 (0, 0)) := heap_alloc_new X _
  have N1 : W1.heap[X.heap.size]? = some (.cells #[.int .i64 kd, .int .i64 x, .int .i64 p1, .int .i64 p2, .slice ua un uc] 70 (0, 0)) := by rw [← hW1]; exact setRow_heap _ _ _ _ _ _ Na
  have B1 : Below X.heap.size X W1 := by rw [← hW1]; exact Tk.below_row ((Below.refl _ X).alloc (Nat.le_refl _) _) (Nat.le_refl _) _
  -- the first in
  obtain ⟨aa, ca, rfl, ha'⟩ := id ha
  obtain ⟨ac, cc, rfl, -⟩ := id hc
  obtain ⟨na, hna⟩ : ∃ z, a.length = z := ⟨_, rfl⟩
  obtain ⟨nc, hnc⟩ : ∃ z, c.length = z := ⟨_, rfl⟩
  have hna0 : 0 < na := by rw [← hna]; exact List.length_pos_iff.2 ha0
  obtain ⟨g0, off0, cs0, fr0, h1, h2, h3⟩ := ha' 0 (by rw [List.length_map]; omega)
  subst h1
  obtain ⟨f0, hf0⟩ : ∃ z, a.headD 0 = z := ⟨_, rfl⟩
  have ef0 : (a.map fun x : Nat => (x : Int))[0]'(by rw [List.length_map]; omega) = (f0 : Int) := by
    cases a with
    | nil => exact absurd rfl ha0
    | cons x r =>
      have : x = f0 := by simpa using hf0
      simp [this]
  rw [ef0, Nat.add_zero] at h3
  have hf40 : f0 < 40 := by
    cases a with
    | nil => exact absurd rfl ha0
    | cons x r => rw [← hf0]; exact ha4 x (by simp)
  obtain ⟨y, hy⟩ : ∃ z, l.getD f0 0 = z := ⟨_, rfl⟩
  have hst0 : ∀ j, j < 49 → X.cell? ⟨b, 2 + j, none⟩ = some (.int .i64 (l.getD j 0)) := fun j hj => hA.st j _ (by
    have := Gm.ints_get (t := l) (f := j) (by omega)
    simpa using this)
  have ky : W1.cell? ⟨b, 2 + f0, none⟩ = some (.int .i64 y) := by
    rw [B1.cell (p := ⟨b, 2 + f0, none⟩) hbX, ← hy]; exact hst0 f0 (by omega)
  have hcell0 : W1.cell? ⟨g0, off0, none⟩ = some (.int .i64 f0) := by
    rw [B1.cell (p := ⟨g0, off0, none⟩) (Gm.blk_lt h2)]; exact h3
  have i1 : (f0 : Int) < 40 := by omega
  have i0 : (0 : Int) ≤ f0 := by omega
  have hn0 : (0 : Int) < na := by omega
  have hin : (i : Int) < n := by omega
  have hi0 : (0 : Int) ≤ i := by omega
  have iv1 : (x : Int) < 4 := by omega
  have iv0 : (0 : Int) ≤ x := by omega
  have HRR : Hid ((if y = 0 then ss else if kd = 3 then ss ++ Gm.twoD l i x a c else if (Gm.num l T).2 ≠ 0 then ss ++ Gm.fault l i (Gm.num l T).2 else Gm.passS ss ⟨i, 0, 2, i, 0⟩ (l.set (40 + x) (Gm.num l T).1) a c) = R) := by
    have hxd : Gm.dataD l i kd x T a c = if y = 0 then [] else if kd = 3 then Gm.twoD l i x a c else if (Gm.num l T).2 ≠ 0 then Gm.fault l i (Gm.num l T).2 else Gm.more ⟨i, 0, 2, i, 0⟩ (Gm.pass (l.set (40 + x) (Gm.num l T).1) a c) := by
      unfold Gm.dataD
      rw [hf0, hy]
      have e : Gm.twoD l i x a c = Gm.more ⟨i, 0, 1, i, 0⟩ (Gm.pass (l.set (40 + x) 0) a c) ++ Gm.more ⟨i, 1, 1, i, 1⟩ (Gm.pass (l.set (40 + x) 1) a c) := by
        simp [Gm.twoD, List.range_succ]
      rw [e]
    show _ = R
    rw [← hR, hxd]
    by_cases h : y = 0
    · simp only [if_pos h, List.append_nil]
    · by_cases h' : kd = 3
      · simp only [if_neg h, if_pos h']
      · by_cases h'' : (Gm.num l T).2 = 0
        · simp only [if_neg h, if_neg h', if_neg (show ¬ (Gm.num l T).2 ≠ 0 by simpa using h'')]; rfl
        · simp only [if_neg h, if_neg h', if_pos (show (Gm.num l T).2 ≠ 0 from h'')]
  have hu := Tryz.underlying32
  have hi5 : (Tryz.prog.info? 32).map (·.size) = some (Gm.ints l).length := by rw [Gm.ints_length, hll]; show _ = _; kernel_rfl
  have hi2 : (Tryz.prog.info? 32).map (·.size) = some (Gm.ints l).toArray.size := by simpa using hi5
  have hi3 : (#[.int .i64 0, .int .i64 0, .int .i64 0, .int .i64 0, .int .i64 0, .int .i64 0, .int .i64 0, .int .i64 0, .int .i64 0, .int .i64 0, .int .i64 0, .int .i64 0, .int .i64 0, .int .i64 0, .int .i64 0, .int .i64 0, .int .i64 0, .int .i64 0, .int .i64 0, .int .i64 0, .int .i64 0, .int .i64 0, .int .i64 0, .int .i64 0, .int .i64 0, .int .i64 0, .int .i64 0, .int .i64 0, .int .i64 0, .int .i64 0, .int .i64 0, .int .i64 0, .int .i64 0, .int .i64 0, .int .i64 0, .int .i64 0, .int .i64 0, .int .i64 0, .int .i64 0, .int .i64 0, .int .i64 0, .int .i64 0, .int .i64 0, .int .i64 0, .int .i64 0, .int .i64 0, .int .i64 0, .int .i64 0, .int .i64 0] : Array Value).size = (Gm.ints l).toArray.size := by
    have : (Gm.ints l).toArray.size = 49 := by simpa [Gm.ints_length] using hll
    rw [this]; rfl
  have h1c : (Gm.ints l).toArray.all (·.oneCell') = true := all_oneCell_toArray (Gm.ints_one l)
  have HI : Hid (∀ t : List Int, t.length = 49 → (Tryz.prog.info? 32).map (·.size) = some (Gm.ints t).toArray.size) := fun t ht => by
    have h : (Gm.ints t).toArray.size = 49 := by simpa [Gm.ints_length] using ht
    rw [h]; show _ = _; kernel_rfl
  have HCA : Hid (∀ (W : World) (s' : List (Mv × List Int)), Gm.D w0 B b (some ⟨g, off, none⟩) n cn af m cf l s' W → s'.length ≤ 6000 → Gm.KeepD X W → ∀ (mv : Mv) (z : Int), Calls Tryz.prog 29 #[.pointer (some ⟨b, 0, none⟩), .agg (Gm.stC mv (l.set (40 + x) z)).toArray, .slice (some ⟨g0, off0, none⟩) na ca, .slice ac nc cc] W fun e' w' => e' = .returned (.tuple #[]) ∧ Gm.D w0 B b (some ⟨g, off, none⟩) n cn af m cf l (Gm.passS s' mv (l.set (40 + x) z) a c) w' ∧ Gm.KeepD W w') := fun W s' h hs hk mv z => by
    have h1 := ha.keepD hk
    have h2 := hc.keepD hk
    rw [List.length_map, hna] at h1
    rw [List.length_map, hnc] at h2
    exact Tryz.radd_any w0 B b (some ⟨g, off, none⟩) n cn af m cf l s' mv (l.set (40 + x) z) a c _ _ W h (by omega) h1 h2 ha4 hc4 hal hcl (hS.high (by omega) _) (Gm.take_set (by omega))
  have HG : Hid (Gm.D w0 B b (some ⟨g, off, none⟩) n cn af m cf l ss X ∧ ss.length ≤ 5000 ∧ l.length = 49 ∧ Below X.heap.size X W1 ∧ W1.heap[X.heap.size]? = some (.cells #[.int .i64 kd, .int .i64 x, .int .i64 p1, .int .i64 p2, .slice ua un uc] 70 (0, 0)) ∧ b < X.heap.size ∧ x < 4) := ⟨hG, hl, hll, B1, N1, hbX, hx4⟩
  obtain ⟨x0, hx0⟩ : ∃ z, l.getD 40 0 = z := ⟨_, rfl⟩
  obtain ⟨x1, hx1⟩ : ∃ z, l.getD 41 0 = z := ⟨_, rfl⟩
  obtain ⟨x2, hx2⟩ : ∃ z, l.getD 42 0 = z := ⟨_, rfl⟩
  obtain ⟨x3, hx3⟩ : ∃ z, l.getD 43 0 = z := ⟨_, rfl⟩
  obtain ⟨⟨nv, fe⟩, htr⟩ : ∃ z, T.numR x0 x1 x2 x3 = z := ⟨_, rfl⟩
  have hnum : Gm.num l T = (nv, fe) := by unfold Gm.num; rw [hx0, hx1, hx2, hx3]; exact htr
  rw [hnum] at HRR
  have HST : Hid (∀ V, Below X.heap.size X V → V.rangeAt b 2 (Gm.ints l) ∧ V.cell? ⟨b, 42, none⟩ = some (.int .i64 x0) ∧ V.cell? ⟨b, 43, none⟩ = some (.int .i64 x1) ∧ V.cell? ⟨b, 44, none⟩ = some (.int .i64 x2) ∧ V.cell? ⟨b, 45, none⟩ = some (.int .i64 x3)) := fun V hV => by
    have hcb : ∀ o, V.cell? ⟨b, o, none⟩ = X.cell? ⟨b, o, none⟩ := fun o => hV.cell (p := ⟨b, o, none⟩) hbX
    rw [hcb, hcb, hcb, hcb]
    exact ⟨(hA.keep (hV.block b hbX)).st, by rw [← hx0]; exact hst0 40 (by omega), by rw [← hx1]; exact hst0 41 (by omega), by rw [← hx2]; exact hst0 42 (by omega), by rw [← hx3]; exact hst0 43 (by omega)⟩
  have HCT : Hid (∀ V, Below X.heap.size X V → Calls Tryz.prog 66 #[.agg #[.int .i64 p1, .int .i64 p2, .slice ua un uc], .agg #[.int .i64 x0, .int .i64 x1, .int .i64 x2, .int .i64 x3]] V fun e w' => e = .returned (.tuple #[.int .i64 nv, .int .i64 fe]) ∧ Hid (Below V.heap.size V w')) := fun V hV => by
    have h := Tryz.refNumber_any d T (.slice ua un uc) x0 x1 x2 x3 V ((hT.below (hV.mono (by omega))).wider (by have := hV.size; omega)) hsz
    rw [htr, hp1, hp2] at h
    exact h
  have HFA : Hid (∀ W, Below X.heap.size X W → Calls Tryz.prog 67 #[.pointer (some ⟨b, 0, none⟩), .int .i64 i, .int .i64 fe] W fun e' w' => e' = .returned (.tuple #[]) ∧ Gm.D w0 B b (some ⟨g, off, none⟩) n cn af m cf l (ss ++ Gm.fault l i fe) w' ∧ Gm.KeepD W w') := fun W hW => Tryz.rfault_any w0 B b (some ⟨g, off, none⟩) n cn af m cf l ss i fe W (hG.below hW) (by omega)
  rw [List.length_map, List.length_map, hna, hnc]
  have HW1 : Hid _ := hW1
  clear hG hl ha hc ha4 hc4 hal hcl hS ha0 hN hn _hn1 hi hx hx4 hsz hR hA hO hll hT hTT hkd hp1 hp2 hun hW1 N1 B1 ha' hna hnc h2 h3 hf0 ef0 hf40 hy hst0 hx0 hx1 hx2 hx3 htr hnum hgb hblt hBX
  go_enter Tryz.func44, Tryz.ntmps44
  go_upto_region 1 with (refine wpList_store_row rfl 70 _ _ rfl X.heap.size #[.int .i64 kd, .int .i64 x, .int .i64 p1, .int .i64 p2, .slice ua un uc] rfl rfl 70 _ Na (by kernel_rfl) rfl (by kernel_rfl) ?_; rw [HW1.out])
  clear HW1 Na c0 c1 c2 c3 c4 kb0
  go_quiet (fail)
  obtain ⟨Y, hY⟩ : ∃ z, W1.drewN nq = z := ⟨_, rfl⟩
  have BY : Hid (Below X.heap.size X Y ∧ Y.heap[X.heap.size]? = some (.cells #[.int .i64 kd, .int .i64 x, .int .i64 p1, .int .i64 p2, .slice ua un uc] 70 (0, 0))) := by
    have h : Below W1.heap.size W1 Y := by rw [← hY]; exact ⟨rfl, rfl, rfl, Nat.le_refl _, fun _ _ => rfl⟩
    exact ⟨HG.out.2.2.2.1.trans (h.mono HG.out.2.2.2.1.size), by rw [h.block _ (Gm.blk_lt HG.out.2.2.2.2.1)]; exact HG.out.2.2.2.2.1⟩
  rw [hY]
  clear hY hcell0 ky
  by_cases hy0 : y = 0
  · have e0 : (y == 0) = true := by simpa using hy0
    have HN : Hid (Gm.D w0 B b (some ⟨g, off, none⟩) n cn af m cf l R Y ∧ Gm.KeepD X Y) := by
      have h1 := HRR.out
      rw [if_pos hy0] at h1
      rw [← h1]
      exact ⟨HG.out.1.below BY.out.1, Gm.KeepD.below BY.out.1⟩
    clear HRR hy0
    go_wp2
    exact bodyPost_ret (results_none Tryz.results44 _ _ _) rfl ⟨rfl, HN.out⟩
  have e0 : (y == 0) = false := by simpa using hy0
  have HR2 : Hid ((if kd = 3 then ss ++ Gm.twoD l i x a c else if fe ≠ 0 then ss ++ Gm.fault l i fe else Gm.passS ss ⟨i, 0, 2, i, 0⟩ (l.set (40 + x) nv) a c) = R) := by
    have h1 := HRR.out
    rw [if_neg hy0] at h1
    exact h1
  -- the box of a state
  obtain ⟨W2, hW2⟩ : ∃ z, (Y.alloc (.cells #[.int .i64 0, .int .i64 0, .int .i64 0, .int .i64 0, .int .i64 0, .int .i64 0, .int .i64 0, .int .i64 0, .int .i64 0, .int .i64 0, .int .i64 0, .int .i64 0, .int .i64 0, .int .i64 0, .int .i64 0, .int .i64 0, .int .i64 0, .int .i64 0, .int .i64 0, .int .i64 0, .int .i64 0, .int .i64 0, .int .i64 0, .int .i64 0, .int .i64 0, .int .i64 0, .int .i64 0, .int .i64 0, .int .i64 0, .int .i64 0, .int .i64 0, .int .i64 0, .int .i64 0, .int .i64 0, .int .i64 0, .int .i64 0, .int .i64 0, .int .i64 0, .int .i64 0, .int .i64 0, .int .i64 0, .int .i64 0, .int .i64 0, .int .i64 0, .int .i64 0, .int .i64 0, .int .i64 0, .int .i64 0, .int .i64 0] 32)).setRow Y.heap.size (Gm.ints l).toArray = z := ⟨_, rfl⟩
  have N2a : (Y.alloc (.cells #[.int .i64 0, .int .i64 0, .int .i64 0, .int .i64 0, .int .i64 0, .int .i64 0, .int .i64 0, .int .i64 0, .int .i64 0, .int .i64 0, .int .i64 0, .int .i64 0, .int .i64 0, .int .i64 0, .int .i64 0, .int .i64 0, .int .i64 0, .int .i64 0, .int .i64 0, .int .i64 0, .int .i64 0, .int .i64 0, .int .i64 0, .int .i64 0, .int .i64 0, .int .i64 0, .int .i64 0, .int .i64 0, .int .i64 0, .int .i64 0, .int .i64 0, .int .i64 0, .int .i64 0, .int .i64 0, .int .i64 0, .int .i64 0, .int .i64 0, .int .i64 0, .int .i64 0, .int .i64 0, .int .i64 0, .int .i64 0, .int .i64 0, .int .i64 0, .int .i64 0, .int .i64 0, .int .i64 0, .int .i64 0, .int .i64 0] 32)).heap[Y.heap.size]? = some (.cells #[.int .i64 0, .int .i64 0, .int .i64 0, .int .i64 0, .int .i64 0, .int .i64 0, .int .i64 0, .int .i64 0, .int .i64 0, .int .i64 0, .int .i64 0, .int .i64 0, .int .i64 0, .int .i64 0, .int .i64 0, .int .i64 0, .int .i64 0, .int .i64 0, .int .i64 0, .int .i64 0, .int .i64 0, .int .i64 0, .int .i64 0, .int .i64 0, .int .i64 0, .int .i64 0, .int .i64 0, .int .i64 0, .int .i64 0, .int .i64 0, .int .i64 0, .int .i64 0, .int .i64 0, .int .i64 0, .int .i64 0, .int .i64 0, .int .i64 0, .int .i64 0, .int .i64 0, .int .i64 0, .int .i64 0, .int .i64 0, .int .i64 0, .int .i64 0, .int .i64 0, .int .i64 0, .int .i64 0, .int .i64 0, .int .i64 0] 32 (0, 0)) := heap_alloc_new Y _
  have N2 : W2.heap[Y.heap.size]? = some (.cells (Gm.ints l).toArray 32 (0, 0)) := by rw [← hW2]; exact setRow_heap _ _ _ _ _ _ N2a
  have B2 : Below Y.heap.size Y W2 := by rw [← hW2]; exact Tk.below_row ((Below.refl _ Y).alloc (Nat.le_refl _) _) (Nat.le_refl _) _
  have NB : W2.heap[X.heap.size]? = some (.cells #[.int .i64 kd, .int .i64 x, .int .i64 p1, .int .i64 p2, .slice ua un uc] 70 (0, 0)) := by rw [B2.block _ (Gm.blk_lt BY.out.2)]; exact BY.out.2
  have hstY := (HST.out Y BY.out.1).1
  have HX2 : Hid (Below X.heap.size X W2 ∧ W2.heap[Y.heap.size]? = some (.cells (Gm.ints l).toArray 32 (0, 0)) ∧ W2.heap[X.heap.size]? = some (.cells #[.int .i64 kd, .int .i64 x, .int .i64 p1, .int .i64 p2, .slice ua un uc] 70 (0, 0)) ∧ X.heap.size ≤ Y.heap.size ∧ X.heap.size < Y.heap.size) := ⟨BY.out.1.trans (B2.mono BY.out.1.size), N2, NB, BY.out.1.size, Gm.blk_lt BY.out.2⟩
  have kk : W2.cell? ⟨X.heap.size, 0, none⟩ = some (.int .i64 kd) := by simp [World.cell?, NB]
  have HW2 : Hid _ := hW2
  clear HRR hy0 hW2 N2 B2 NB
  obtain ⟨q, hq⟩ : ∃ z, Y.heap.size = z := ⟨_, rfl⟩
  have HQ : Hid (Y.heap.size = q) := hq
  clear hq
  go_upto_region 3 with (first
    | refine wpList_load_mid rfl 32 _ rfl b 2 rfl (Gm.ints l) _ hstY hu rfl hi5 ?_
    | (refine wpList_store_row rfl 32 _ _ rfl Y.heap.size (Gm.ints l).toArray rfl rfl 32 _ N2a hi2 hi3 h1c ?_; rw [HW2.out]))
  rw [HQ.out] at HX2 ⊢
  clear HW2 N2a hstY hi2 hi3 h1c BY
  by_cases hk3 : kd = 3
  · have e3 : (kd == 3) = true := by simpa using hk3
    have HRT : Hid (ss ++ ((List.range 2).drop 0).flatMap (fun r : Nat => Gm.more ⟨i, (r : Nat), 1, i, (r : Nat)⟩ (Gm.pass (l.set (40 + x) (r : Nat)) a c)) = R) := by
      have h1 := HR2.out
      rw [if_pos hk3] at h1
      exact h1
    clear HR2 hk3 HFA HCT
    go_wp2
    go_loopg [10] 2 (fun gk s10 wr => ∃ (j : Nat) (s' : List (Mv × List Int)) (t : List Int), s10 = .int .i64 j ∧ gk + j = 2 ∧ Hid (s' ++ ((List.range 2).drop j).flatMap (fun r : Nat => Gm.more ⟨i, (r : Nat), 1, i, (r : Nat)⟩ (Gm.pass (l.set (40 + x) (r : Nat)) a c)) = R ∧ Gm.D w0 B b (some ⟨g, off, none⟩) n cn af m cf l s' wr ∧ Gm.KeepD X wr ∧ s'.length ≤ ss.length + j ∧ wr.heap[q]? = some (.cells (Gm.ints t).toArray 32 (0, 0)) ∧ wr.heap[X.heap.size]? = some (.cells #[.int .i64 kd, .int .i64 x, .int .i64 p1, .int .i64 p2, .slice ua un uc] 70 (0, 0)) ∧ t.length = 49 ∧ ∀ z : Int, t.set (40 + x) z = l.set (40 + x) z))
    case atStart => exact ⟨0, ss, l, rfl, by omega, HRT.out, HG.out.1.below HX2.out.1, Gm.KeepD.below HX2.out.1, by omega, HX2.out.2.1, HX2.out.2.2.1, HG.out.2.2.1, fun _ => rfl⟩
    case round =>
      obtain ⟨j, s', t, rfl, hj, HJ⟩ := hrel
      clear HRT kk
      by_cases hlt : j < 2
      · have hd : decide ((j : Int) < 2) = true := decide_eq_true (by omega)
        have hdr : (List.range 2).drop j = j :: (List.range 2).drop (j + 1) := by
          have h1 : j < (List.range 2).length := by simpa using hlt
          rw [List.drop_eq_getElem_cons h1]; simp
        have HGO : Hid (Gm.passS s' ⟨i, (j : Nat), 1, i, (j : Nat)⟩ (l.set (40 + x) (j : Nat)) a c ++ ((List.range 2).drop (j + 1)).flatMap (fun r : Nat => Gm.more ⟨i, (r : Nat), 1, i, (r : Nat)⟩ (Gm.pass (l.set (40 + x) (r : Nat)) a c)) = R ∧ (Gm.passS s' ⟨i, (j : Nat), 1, i, (j : Nat)⟩ (l.set (40 + x) (j : Nat)) a c).length ≤ ss.length + (j + 1)) := by
          refine ⟨?_, ?_⟩
          · have := HJ.out.1
            rw [hdr, List.flatMap_cons, ← List.append_assoc] at this
            exact this
          · unfold Gm.passS
            rw [List.length_append]
            have h1 := HJ.out.2.2.2.1
            have h2 : (Gm.more ⟨i, (j : Nat), 1, i, (j : Nat)⟩ (Gm.pass (l.set (40 + x) (j : Nat)) a c)).length ≤ 1 := by cases Gm.pass (l.set (40 + x) (j : Nat)) a c <;> simp [Gm.more]
            omega
        have k1 : wr.cell? ⟨X.heap.size, 1, none⟩ = some (.int .i64 x) := by have := HJ.out.2.2.2.2.2.1; simp [World.cell?, this]
        have cx : wr.cell? ⟨q, 40 + x, none⟩ = some (.int .i64 (t.getD (40 + x) 0)) := by
          have h1 := HJ.out.2.2.2.2.1
          simp only [World.cell?, h1]
          rw [Gm.ints_get (by have h2 := HJ.out.2.2.2.2.2.2.1; have h3 := HG.out.2.2.2.2.2.2; omega)]
          rfl
        have fx : wr.frozen? ⟨q, 40 + x, none⟩ = false := by simp [World.frozen?, HJ.out.2.2.2.2.1]
        obtain ⟨W5, hW5⟩ : ∃ z, wr.setCell ⟨q, 40 + x, none⟩ (.int .i64 (j : Int)) = z := ⟨_, rfl⟩
        have N5 : W5.heap[q]? = some (.cells (Gm.ints (l.set (40 + x) (j : Int))).toArray 32 (0, 0)) := by
          rw [← hW5, ← HJ.out.2.2.2.2.2.2.2]; exact Gm.put_row HJ.out.2.2.2.2.1
        have HD5 : Hid (Gm.D w0 B b (some ⟨g, off, none⟩) n cn af m cf l s' W5 ∧ Gm.KeepD X W5 ∧ W5.heap[X.heap.size]? = some (.cells #[.int .i64 kd, .int .i64 x, .int .i64 p1, .int .i64 p2, .slice ua un uc] 70 (0, 0))) := by
          have hXq : X.heap.size ≤ q := HX2.out.2.2.2.1
          have hBq : B ≤ q := by have h1 := HG.out.1.le; have h2 := HG.out.1.fr.size; omega
          rw [← hW5]
          refine ⟨HJ.out.2.1.box HJ.out.2.2.2.2.1 hBq _ _, fun g' cs ty fr hg' n1 n2 => (Below.heap_setCell _ _ _ _ (by have := Gm.blk_lt hg'; show g' ≠ q; omega)).trans (HJ.out.2.2.1 g' cs ty fr hg' n1 n2), ?_⟩
          rw [Below.heap_setCell _ _ _ _ (by have := HX2.out.2.2.2.2; show X.heap.size ≠ q; omega)]
          exact HJ.out.2.2.2.2.2.1
        have hsl : (l.set (40 + x) (j : Int)).length = 49 := by simpa using HG.out.2.2.1
        have e5 := HI.out _ hsl
        have hbt := Gm.built_step4 i (j : Nat) 1 i (j : Nat) (l.set (40 + x) (j : Int)) hsl
        have HC : Hid _ := HCA.out W5 s' HD5.out.1 (by have h1 := HJ.out.2.2.2.1; have h2 := HG.out.2.1; omega) HD5.out.2.1 ⟨i, (j : Nat), 1, i, (j : Nat)⟩ (j : Int)
        have HN5 : Hid (W5.heap[q]? = some (.cells (Gm.ints (l.set (40 + x) (j : Int))).toArray 32 (0, 0)) ∧ (l.set (40 + x) (j : Int)).length = 49) := ⟨N5, hsl⟩
        have HW5 : Hid _ := hW5
        clear hW5 hdr HJ hsl
        go_upto_region 8 with fail
        rw [HW5.out]
        clear HW5 k1 cx fx
        go_wp2_with (first
          | refine wpList_load_row rfl 32 _ rfl _ rfl 32 (Gm.ints (l.set (40 + x) (j : Int))).toArray (0, 0) _ N5 hu rfl e5 ?_
          | refine wpList_buildTo rfl 61 _ rfl (some 54) rfl (Gm.stC ⟨i, (j : Nat), 1, i, (j : Nat)⟩ (l.set (40 + x) (j : Int))).toArray (Eq.trans (congrArg (Tryz.prog.built 61) (by kernel_rfl)) hbt) ?_
          | fail)
        refine Calls.mono HC.out ?_
        rintro e W6 ⟨rfl, g6, k6⟩
        have HN : Hid (Gm.passS s' ⟨i, (j : Nat), 1, i, (j : Nat)⟩ (l.set (40 + x) (j : Nat)) a c ++ ((List.range 2).drop (j + 1)).flatMap (fun r : Nat => Gm.more ⟨i, (r : Nat), 1, i, (r : Nat)⟩ (Gm.pass (l.set (40 + x) (r : Nat)) a c)) = R ∧ Gm.D w0 B b (some ⟨g, off, none⟩) n cn af m cf l (Gm.passS s' ⟨i, (j : Nat), 1, i, (j : Nat)⟩ (l.set (40 + x) (j : Nat)) a c) W6 ∧ Gm.KeepD X W6 ∧ (Gm.passS s' ⟨i, (j : Nat), 1, i, (j : Nat)⟩ (l.set (40 + x) (j : Nat)) a c).length ≤ ss.length + (j + 1) ∧ W6.heap[q]? = some (.cells (Gm.ints (l.set (40 + x) (j : Int))).toArray 32 (0, 0)) ∧ W6.heap[X.heap.size]? = some (.cells #[.int .i64 kd, .int .i64 x, .int .i64 p1, .int .i64 p2, .slice ua un uc] 70 (0, 0)) ∧ (l.set (40 + x) (j : Int)).length = 49 ∧ ∀ z : Int, (l.set (40 + x) (j : Int)).set (40 + x) z = l.set (40 + x) z) :=
          ⟨HGO.out.1, g6, HD5.out.2.1.trans k6, HGO.out.2, (k6 _ _ _ _ HN5.out.1 (by decide) (by decide)).trans HN5.out.1, (k6 _ _ _ _ HD5.out.2.2 (by decide) (by decide)).trans HD5.out.2.2, HN5.out.2, fun z => by rw [List.set_set]⟩
        clear g6 k6 HC HGO HD5 HN5 N5 hbt e5
        go_wp2
        go_roundg (gk - 1)
        case measure => omega
        case rel => exact ⟨j + 1, Gm.passS s' ⟨i, (j : Nat), 1, i, (j : Nat)⟩ (l.set (40 + x) (j : Nat)) a c, l.set (40 + x) (j : Int), by go_num, by omega, HN.out⟩
      · obtain rfl : j = 2 := by omega
        have HN : Hid (Gm.D w0 B b (some ⟨g, off, none⟩) n cn af m cf l R wr ∧ Gm.KeepD X wr) := by
          have h1 := HJ.out.1
          rw [List.drop_eq_nil_of_le (by simp), List.flatMap_nil, List.append_nil] at h1
          rw [← h1]
          exact ⟨HJ.out.2.1, HJ.out.2.2.1⟩
        clear HJ
        go_wp2
        exact bodyPost_ret (results_none Tryz.results44 _ _ _) rfl ⟨rfl, HN.out⟩
  · have e3 : (kd == 3) = false := by simpa using hk3
    have HR3 : Hid ((if fe ≠ 0 then ss ++ Gm.fault l i fe else Gm.passS ss ⟨i, 0, 2, i, 0⟩ (l.set (40 + x) nv) a c) = R) := by
      have h1 := HR2.out
      rw [if_neg hk3] at h1
      exact h1
    have CF : Hid (∀ V, Below W2.heap.size W2 V → V.cell? ⟨X.heap.size, 2, none⟩ = some (.int .i64 p1) ∧ V.cell? ⟨X.heap.size, 3, none⟩ = some (.int .i64 p2) ∧ V.cell? ⟨X.heap.size, 4, none⟩ = some (.slice ua un uc) ∧ V.cell? ⟨b, 42, none⟩ = some (.int .i64 x0) ∧ V.cell? ⟨b, 43, none⟩ = some (.int .i64 x1) ∧ V.cell? ⟨b, 44, none⟩ = some (.int .i64 x2) ∧ V.cell? ⟨b, 45, none⟩ = some (.int .i64 x3)) := fun V hV => by
      have hbx : V.heap[X.heap.size]? = some (.cells #[.int .i64 kd, .int .i64 x, .int .i64 p1, .int .i64 p2, .slice ua un uc] 70 (0, 0)) := by rw [hV.block _ (Gm.blk_lt HX2.out.2.2.1)]; exact HX2.out.2.2.1
      exact ⟨by simp [World.cell?, hbx], by simp [World.cell?, hbx], by simp [World.cell?, hbx], (HST.out V (HX2.out.1.trans (hV.mono HX2.out.1.size))).2⟩
    have CT : Hid (∀ V, Below W2.heap.size W2 V → Calls Tryz.prog 66 #[.agg #[.int .i64 p1, .int .i64 p2, .slice ua un uc], .agg #[.int .i64 x0, .int .i64 x1, .int .i64 x2, .int .i64 x3]] V fun e w' => e = .returned (.tuple #[.int .i64 nv, .int .i64 fe]) ∧ Below W2.heap.size W2 w') := fun V hV => (HCT.out V (HX2.out.1.trans (hV.mono HX2.out.1.size))).mono fun _ _ q => ⟨q.1, hV.trans (q.2.out.mono hV.size)⟩
    have BR : Hid (Below W2.heap.size W2 W2) := Below.refl _ _
    clear HR2 hk3 HCT HST
    go_upto_region 9 with fail
    clear kk
    go_region_held3 (fun V => V.cell? ⟨X.heap.size, 2, none⟩ = some (.int .i64 p1) ∧ V.cell? ⟨X.heap.size, 3, none⟩ = some (.int .i64 p2) ∧ V.cell? ⟨X.heap.size, 4, none⟩ = some (.slice ua un uc) ∧ V.cell? ⟨b, 42, none⟩ = some (.int .i64 x0) ∧ V.cell? ⟨b, 43, none⟩ = some (.int .i64 x1) ∧ V.cell? ⟨b, 44, none⟩ = some (.int .i64 x2) ∧ V.cell? ⟨b, 45, none⟩ = some (.int .i64 x3))
      (first | exact CF.out _ B3.out | exact CF.out _ BR.out.drew | exact CF.out _ BR.out)
      (first
      | (go_simp; go_at_call 66; refine Calls.mono (CT.out _ ?_) ?_; (first | exact BR.out | exact BR.out.drew | exact Tk.below_drewN BR.out _); rintro e W3 ⟨rfl, b3⟩; have B3 : Hid (Below W2.heap.size W2 W3) := b3; clear b3))
    all_goals
      rename World => wr
      have HB3 : Hid (Below X.heap.size X wr ∧ wr.heap[q]? = some (.cells (Gm.ints l).toArray 32 (0, 0)) ∧ wr.heap[X.heap.size]? = some (.cells #[.int .i64 kd, .int .i64 x, .int .i64 p1, .int .i64 p2, .slice ua un uc] 70 (0, 0))) :=
        ⟨HX2.out.1.trans (B3.out.mono HX2.out.1.size), by rw [B3.out.block _ (Gm.blk_lt HX2.out.2.1)]; exact HX2.out.2.1, by rw [B3.out.block _ (Gm.blk_lt HX2.out.2.2.1)]; exact HX2.out.2.2.1⟩
      clear CT CF BR B3
      go_simp
      by_cases hfe : fe = 0
      · have e4 : (fe != 0) = false := by simpa using hfe
        have HE : Hid (Gm.passS ss ⟨i, 0, 2, i, 0⟩ (l.set (40 + x) nv) a c = R) := by
          have h1 := HR3.out
          rw [if_neg (by simpa using hfe)] at h1
          exact h1
        have k1 : wr.cell? ⟨X.heap.size, 1, none⟩ = some (.int .i64 x) := by have := HB3.out.2.2; simp [World.cell?, this]
        have cx : wr.cell? ⟨q, 40 + x, none⟩ = some (.int .i64 (l.getD (40 + x) 0)) := by
          have h1 := HB3.out.2.1
          simp only [World.cell?, h1]
          rw [Gm.ints_get (by have h2 := HG.out.2.2.1; have h3 := HG.out.2.2.2.2.2.2; omega)]
          rfl
        have fx : wr.frozen? ⟨q, 40 + x, none⟩ = false := by simp [World.frozen?, HB3.out.2.1]
        obtain ⟨W5, hW5⟩ : ∃ z, wr.setCell ⟨q, 40 + x, none⟩ (.int .i64 nv) = z := ⟨_, rfl⟩
        have N5 : W5.heap[q]? = some (.cells (Gm.ints (l.set (40 + x) nv)).toArray 32 (0, 0)) := by rw [← hW5]; exact Gm.put_row HB3.out.2.1
        have HB5 : Hid (Below X.heap.size X W5) := by show Below _ _ _; rw [← hW5]; exact HB3.out.1.setCell (p := ⟨q, 40 + x, none⟩) HX2.out.2.2.2.1 _
        have hsl : (l.set (40 + x) nv).length = 49 := by simpa using HG.out.2.2.1
        have e5 := HI.out _ hsl
        have hbt := Gm.built_step4 i 0 2 i 0 (l.set (40 + x) nv) hsl
        have HC : Hid _ := HCA.out W5 ss (HG.out.1.below HB5.out) (by have h2 := HG.out.2.1; omega) (Gm.KeepD.below HB5.out) ⟨i, 0, 2, i, 0⟩ nv
        rw [HE.out] at HC
        have HW5 : Hid _ := hW5
        clear hW5 hsl HR3 hfe HE HFA
        go_upto_region 13 with fail
        rw [HW5.out]
        clear HW5 k1 cx fx
        go_wp2_with (first
          | refine wpList_load_row rfl 32 _ rfl _ rfl 32 (Gm.ints (l.set (40 + x) nv)).toArray (0, 0) _ N5 hu rfl e5 ?_
          | refine wpList_buildTo rfl 61 _ rfl (some 85) rfl (Gm.stC ⟨i, 0, 2, i, 0⟩ (l.set (40 + x) nv)).toArray (Eq.trans (congrArg (Tryz.prog.built 61) (by kernel_rfl)) hbt) ?_
          | fail)
        refine Calls.mono HC.out ?_
        rintro e W6 ⟨rfl, g6, k6⟩
        have HN : Hid (Gm.D w0 B b (some ⟨g, off, none⟩) n cn af m cf l R W6 ∧ Gm.KeepD X W6) := ⟨g6, (Gm.KeepD.below HB5.out).trans k6⟩
        clear g6 k6 HC N5 hbt e5
        go_wp2
        go_end0
        exact ⟨rfl, HN.out⟩
      · have e4 : (fe != 0) = true := by simpa using hfe
        have HFC : Hid _ := HFA.out wr HB3.out.1
        have HE : Hid (ss ++ Gm.fault l i fe = R) := by
          have h1 := HR3.out
          rw [if_pos hfe] at h1
          exact h1
        rw [HE.out] at HFC
        clear HR3 HFA hfe HE HCA
        go_wp2_with fail
        refine Calls.mono HFC.out ?_
        rintro e W4 ⟨rfl, g4, k4⟩
        have HN : Hid (Gm.D w0 B b (some ⟨g, off, none⟩) n cn af m cf l R W4 ∧ Gm.KeepD X W4) := ⟨g4, (Gm.KeepD.below HB3.out.1).trans k4⟩
        clear g4 k4 HFC
        go_wp2
        exact bodyPost_ret (results_none Tryz.results44 _ _ _) rfl ⟨rfl, HN.out⟩
end Go.Proofs
namespace Go.Proofs
open Go.RowKit Go.Shelf
def Gm.sumW (xs : List Int) : Int := xs.foldl (fun a x => wrap64 (a + x)) 0
theorem Gm.sumW_take (xs : List Int) (j : Nat) (h : j < xs.length) : Gm.sumW (xs.take (j + 1)) = wrap64 (Gm.sumW (xs.take j) + xs[j]) := by
 unfold Gm.sumW
 rw [List.take_succ_eq_append_getElem h, List.foldl_append]
 rfl
set_option maxRecDepth 20000 in
set_option maxHeartbeats 4000000 in
theorem Tryz.refTokens_any (cs : Array Value) (xs : List Int) (W : World) (hx : ∀ j (h : j < xs.length), cs[j]? = some (.int .i64 xs[j])) (hl : xs.length = 40) :
  Calls Tryz.prog 15 #[.agg cs] W fun e w' => e = .returned (.int .i64 (Gm.sumW xs)) ∧ Below W.heap.size W w' := by
 obtain ⟨r, hr⟩ : ∃ z, Gm.sumW xs = z := ⟨_, rfl⟩
 rw [hr]
 obtain ⟨w1, hw1⟩ : ∃ z, W.alloc (.cells cs 32) = z := ⟨_, rfl⟩
 have A1 : Below W.heap.size W w1 := by rw [← hw1]; exact (Below.refl _ W).alloc (Nat.le_refl _) _
 have N1 : w1.heap[W.heap.size]? = some (.cells cs 32 (0, 0)) := by rw [← hw1]; exact heap_alloc_new W _
 have HX : Hid (∀ j (h : j < 40), ∃ x, w1.cell? ⟨W.heap.size, j, none⟩ = some (.int .i64 x) ∧ Gm.sumW (xs.take (j + 1)) = wrap64 (Gm.sumW (xs.take j) + x)) := fun j h => by
  have hj : j < xs.length := by omega
  refine ⟨xs[j], ?_, Gm.sumW_take xs j hj⟩
  simp only [World.cell?, N1]
  exact hx j hj
 have HR : Hid (Gm.sumW (xs.take 40) = r) := by show _ = _; rw [List.take_of_length_le (by omega)]; exact hr
 have HA : Hid (Below W.heap.size W w1) := A1
 have HW1 : Hid _ := hw1
 clear hw1 A1 N1 hx hl hr
 go_enter Tryz.func15, Tryz.ntmps15
 go_upto_region 1 with fail
 rw [HW1.out]
 go_wp2
 go_loopg [3, 4] 40 (fun gk s3 s4 wr => ∃ (j : Nat) (t : Int), s4 = .int .i64 j ∧ s3 = .int .i64 t ∧ gk + j = 40 ∧ wr = w1 ∧ Hid (Gm.sumW (xs.take j) = t))
 case atStart => exact ⟨0, 0, rfl, rfl, by omega, rfl, rfl⟩
 case round =>
  obtain ⟨j, t, rfl, rfl, hj, rfl, HJ⟩ := hrel
  by_cases hlt : j < 40
  ·have hd : decide ((j : Int) < 40) = true := decide_eq_true (by omega)
   obtain ⟨x, hc, hs⟩ := HX.out j hlt
   have j1 : (j : Int) < 40 := by omega
   have j0 : (0 : Int) ≤ j := by omega
   have HN : Hid (Gm.sumW (xs.take (j + 1)) = wrap64 (t + x)) := by show _ = _; rw [hs, HJ.out]
   clear hs HJ
   go_wp2
   go_roundg (gk - 1)
   case measure => omega
   case rel => exact ⟨j + 1, wrap64 (t + x), by go_num, rfl, by omega, rfl, HN.out⟩
  ·obtain rfl : j = 40 := by omega
   have HE : Hid (t = r) := by show _ = _; rw [← HJ.out]; exact HR.out
   clear HJ
   go_wp2
   go_ret
   exact ⟨by rw [HE.out]; rfl, HA.out⟩
theorem Gm.run_index (cs : Array Value) (j : Nat) (x : Int) (hj : j < 40) (hc : cs[j]? = some (.int .i64 x)) (W : World) : (Instr.index 26 (.agg cs) (.int .i64 (j : Int))).run Tryz.prog W = .ok (.int .i64 x) W := by
 have h1 : (0 : Int) ≤ j ∧ (j : Int) < ((40 : Nat) : Int) := by omega
 have h2 : (j : Int) < 40 := by omega
 simp [Instr.index, run_underlying Tryz.underlying26, asIntOf, part, Tryz.isAgg3, Tryz.sizeOf3, hc, go_sem]
 intro h; omega
set_option maxRecDepth 20000 in
set_option maxHeartbeats 4000000 in
theorem Tryz.tokens_any (cs : Array Value) (xs : List Int) (W : World) (hx : ∀ j (h : j < xs.length), cs[j]? = some (.int .i64 xs[j])) (hl : xs.length = 40) :
  Calls Tryz.prog 14 #[.agg cs] W fun e w' => e = .returned (.int .i64 (Gm.sumW xs)) ∧ Below W.heap.size W w' := by
 obtain ⟨r, hr⟩ : ∃ z, Gm.sumW xs = z := ⟨_, rfl⟩
 rw [hr]
 obtain ⟨w1, hw1⟩ : ∃ z, W.alloc (.cells cs 29) = z := ⟨_, rfl⟩
 have A1 : Below W.heap.size W w1 := by rw [← hw1]; exact (Below.refl _ W).alloc (Nat.le_refl _) _
 have N1 : w1.heap[W.heap.size]? = some (.cells cs 29 (0, 0)) := by rw [← hw1]; exact heap_alloc_new W _
 obtain ⟨ys, hys⟩ : ∃ z, (xs.map fun x => Value.int .i64 x) = z := ⟨_, rfl⟩
 have hyl : ys.length = 40 := by rw [← hys, List.length_map]; exact hl
 have hrg : w1.rangeAt W.heap.size 0 ys := fun j v hv => by
  rw [← hys, List.getElem?_map] at hv
  obtain ⟨x, hx1, rfl⟩ := Option.map_eq_some_iff.1 hv
  obtain ⟨hj, rfl⟩ := List.getElem?_eq_some_iff.1 hx1
  simp only [World.cell?, N1, Nat.zero_add]
  exact hx j hj
 have hi : (Tryz.prog.info? 26).map (·.size) = some ys.length := by rw [hyl]; kernel_rfl
 have hu := Tryz.underlying26
 have HX : Hid (∀ (j : Nat) (h : j < 40), ∃ x, (∀ V : World, (Instr.index 26 (.agg ys.toArray) (.int .i64 (j : Int))).run Tryz.prog V = .ok (.int .i64 x) V) ∧ Gm.sumW (xs.take (j + 1)) = wrap64 (Gm.sumW (xs.take j) + x)) := fun j h => by
  have hj : j < xs.length := by omega
  refine ⟨xs[j], fun V => Gm.run_index ys.toArray j xs[j] h ?_ V, Gm.sumW_take xs j hj⟩
  rw [← hys]
  simp [hj]
 have HR : Hid (Gm.sumW (xs.take 40) = r) := by show _ = _; rw [List.take_of_length_le (by omega)]; exact hr
 have HA : Hid (Below W.heap.size W w1) := A1
 have HW1 : Hid _ := hw1
 clear hw1 A1 N1 hx hl hr hys hyl
 go_enter Tryz.func14, Tryz.ntmps14
 go_upto_region 1 with fail
 rw [HW1.out]
 go_wp2_with (refine wpList_load_mid rfl 26 _ rfl W.heap.size 0 rfl ys _ hrg hu rfl hi ?_)
 go_loopg [3, 5, 8] 40 (fun gk s3 _ s8 wr => ∃ (j : Nat) (t : Int), s8 = .int .i64 j ∧ s3 = .int .i64 t ∧ gk + j = 40 ∧ wr = w1 ∧ Hid (Gm.sumW (xs.take j) = t))
 case atStart => exact ⟨0, 0, rfl, rfl, by omega, rfl, rfl⟩
 case round =>
  obtain ⟨j, t, rfl, rfl, hj, rfl, HJ⟩ := hrel
  by_cases hlt : j < 40
  ·have hd : decide ((j : Int) < 40) = true := decide_eq_true (by omega)
   obtain ⟨x, hc, hs⟩ := HX.out j hlt
   have HN : Hid (Gm.sumW (xs.take (j + 1)) = wrap64 (t + x)) := by show _ = _; rw [hs, HJ.out]
   clear hs HJ
   go_wp2
   go_roundg (gk - 1)
   case measure => omega
   case rel => exact ⟨j + 1, wrap64 (t + x), by go_num, rfl, by omega, rfl, HN.out⟩
  ·obtain rfl : j = 40 := by omega
   have HE : Hid (t = r) := by show _ = _; rw [← HJ.out]; exact HR.out
   clear HJ
   go_wp2
   go_ret
   exact ⟨by rw [HE.out]; rfl, HA.out⟩
end Go.Proofs
