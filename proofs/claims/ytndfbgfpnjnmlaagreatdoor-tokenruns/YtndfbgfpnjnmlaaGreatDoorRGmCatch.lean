import Derived.Test.YtndfbgfpnjnmlaaGreatDoorRGmMerge
import Derived.Deep.RegionHeld3
namespace Go.Proofs
open Go.RowKit Go.Shelf
theorem Gm.put_label {W : World} {q : Nat} {a b c d e x y z : Value} {t : TypeId} {f : Nat × Nat} (h : W.heap[q]? = some (.cells #[a, b, c, d, e] t f)) : (((W.setCell ⟨q, 2, none⟩ x).setCell ⟨q, 3, none⟩ y).setCell ⟨q, 4, none⟩ z).heap[q]? = some (.cells #[a, b, x, y, z] t f) := by
 simp [World.setCell, Array.getElem?_modify, h]
set_option maxRecDepth 20000 in
set_option maxHeartbeats 16000000 in
theorem Tryz.catch_any (w0 : World) (B b : Nat) (an : Option Addr) (n cn : Nat) (af : Option Addr) (m cf : Nat) (l : List Int) (want : Int) (p : List Mv × List Int) (nd ar : Int) (i : Nat) (a c : List Nat) (va vc : Value) (X : World) (hG : Gm.G w0 B b an n cn af m cf l want p.1 p.2 X) (hl : p.1.length ≤ 5000)
   (ha : Gm.Ints X va (a.map fun x : Nat => (x : Int))) (hc : Gm.Ints X vc (c.map fun x : Nat => (x : Int))) (ha4 : ∀ f ∈ a, f < 40) (hc4 : ∀ f ∈ c, f < 40) (hal : a.length ≤ 100) (hcl : c.length ≤ 100) (hS : Gm.Small l)
   (d : Nat) (ns : List Nd) (hN : Nt.Nds w0 b d an ns) (hn : ns.length = n) (_hn1 : n ≤ 100) (hi : i < ns.length) (x : Nat) (hx : ns[i].a = (x : Int)) (hx4 : x ≤ 4) (hQ : ∀ k, k < 4 → 0 ≤ l.getD (44 + k) 0 ∧ l.getD (44 + k) 0 ≤ 3) (hQT : ∀ t, Gm.pass l a c = some t → ∀ k, k < 4 → t.getD (44 + k) 0 = l.getD (44 + k) 0) :
   Calls Tryz.prog 63 #[.pointer (some ⟨b, 0, none⟩), .agg #[.int .i64 nd, .int .i64 ar, .int .i64 0, .int .i64 0, .int .i64 0], .int .i64 i, va, vc] X fun e' w' => e' = .returned (.tuple #[]) ∧ Gm.G w0 B b an n cn af m cf l want (Gm.goes want p (Gm.catchS ns l nd ar i a c)).1 (Gm.goes want p (Gm.catchS ns l nd ar i a c)).2 w' ∧ Gm.KeepI X w' := by
 obtain ⟨R, hR⟩ : ∃ R, Gm.goes want p (Gm.catchS ns l nd ar i a c) = R := ⟨_, rfl⟩
 rw [hR]
 obtain ⟨X1, hX1⟩ : ∃ z, X.alloc (.cells #[.int .i64 nd, .int .i64 ar, .int .i64 0, .int .i64 0, .int .i64 0] 80) = z := ⟨_, rfl⟩
 have A1 : Below X.heap.size X X1 := by rw [← hX1]; exact (Below.refl _ X).alloc (Nat.le_refl _) _
 have N1 : X1.heap[X.heap.size]? = some (.cells #[.int .i64 nd, .int .i64 ar, .int .i64 0, .int .i64 0, .int .i64 0] 80 (0, 0)) := by rw [← hX1]; exact heap_alloc_new X _
 have G1 := hG.below A1
 have HC : Hid _ := G1.pass a c va vc (ha.below A1) (hc.below A1) ha4 hc4 hal hcl hS
 obtain ⟨o, ho⟩ : ∃ z, Gm.pass l a c = z := ⟨_, rfl⟩
 have HO : Hid (Gm.pass l a c = o ∧ l.length = 49 ∧ p.1.length ≤ 5000) := ⟨ho, hS.1, hl⟩
 rw [ho] at HC
 have hsx : (ns[i]?.map Nd.a).getD 0 = (x : Int) := by rw [List.getElem?_eq_getElem hi]; exact hx
 have HRR : Hid (Gm.goes want p (Gm.catchS ns l nd ar i a c) = R ∧ (ns[i]?.map Nd.a).getD 0 = (x : Int)) := ⟨hR, hsx⟩
 have HQQ : Hid ((∀ k, k < 4 → 0 ≤ l.getD (44 + k) 0 ∧ l.getD (44 + k) 0 ≤ 3) ∧ ∀ t, Gm.pass l a c = some t → ∀ k, k < 4 → t.getD (44 + k) 0 = l.getD (44 + k) 0) := ⟨hQ, hQT⟩
 have hin : (i : Int) < n := by omega
 have hi0 : (0 : Int) ≤ i := by omega
 obtain ⟨g, off, gu, han, hgb, -⟩ := hN i hi
 subst han
 have HG : Hid (Gm.G w0 B b (some ⟨g, off, none⟩) n cn af m cf l want p.1 p.2 X ∧ Gm.G w0 B b (some ⟨g, off, none⟩) n cn af m cf l want p.1 p.2 X1 ∧ Below X.heap.size X X1 ∧ X1.heap[X.heap.size]? = some (.cells #[.int .i64 nd, .int .i64 ar, .int .i64 0, .int .i64 0, .int .i64 0] 80 (0, 0))) := ⟨hG, G1, A1, N1⟩
 have HNC : Hid (∀ (W : World) (p' : List Mv × List Int), Gm.G w0 B b (some ⟨g, off, none⟩) n cn af m cf l want p'.1 p'.2 W → W.cell? ⟨g, off + i * 5 + 1, none⟩ = some (.int .i64 (x : Int)) ∧ W.cell? ⟨b, 0, none⟩ = some (.slice (some ⟨g, off, none⟩) n cn)) := fun W p' h => by
   obtain ⟨g', off', u', hga, hgb', k0, k1, -⟩ := Gm.nds_fr hN h.lt h.fr i hi
   simp only [Option.some.injEq, Addr.mk.injEq, and_true] at hga
   obtain ⟨rfl, rfl⟩ := hga
   obtain ⟨v, hA, _⟩ := h.game
   rw [hx] at k1
   exact ⟨k1, hA.net0⟩
 have hu := Tryz.underlying29
 have HI49 : Hid (∀ t : List Int, t.length = 49 → (Tryz.prog.info? 29).map (·.size) = some (Gm.ints t).toArray.size ∧ (#[.int .i64 0, .int .i64 0, .int .i64 0, .int .i64 0, .int .i64 0, .int .i64 0, .int .i64 0, .int .i64 0, .int .i64 0, .int .i64 0, .int .i64 0, .int .i64 0, .int .i64 0, .int .i64 0, .int .i64 0, .int .i64 0, .int .i64 0, .int .i64 0, .int .i64 0, .int .i64 0, .int .i64 0, .int .i64 0, .int .i64 0, .int .i64 0, .int .i64 0, .int .i64 0, .int .i64 0, .int .i64 0, .int .i64 0, .int .i64 0, .int .i64 0, .int .i64 0, .int .i64 0, .int .i64 0, .int .i64 0, .int .i64 0, .int .i64 0, .int .i64 0, .int .i64 0, .int .i64 0, .int .i64 0, .int .i64 0, .int .i64 0, .int .i64 0, .int .i64 0, .int .i64 0, .int .i64 0, .int .i64 0, .int .i64 0] : Array Value).size = (Gm.ints t).toArray.size ∧ (Gm.ints t).toArray.all (·.oneCell') = true) := fun t ht => by
   have h : (Gm.ints t).toArray.size = 49 := by simpa [Gm.ints_length] using ht
   refine ⟨by rw [h]; kernel_rfl, by rw [h]; rfl, all_oneCell_toArray (Gm.ints_one t)⟩
 have HX1 : Hid _ := hX1
 clear hG G1 A1 N1 hX1 hl ha hc ha4 hc4 hal hcl hS ho hR hN hn hx hsx hQ hQT
 cases o with
 | none =>
   obtain ⟨e1, e2, e3⟩ := HI49.out Gm.zeros (by kernel_rfl)
   go_enter Tryz.func63, Tryz.ntmps63
   go_upto_region 1 with fail
   rw [HX1.out]
   go_wp2_with fail
   refine Calls.mono HC.out ?_
   rintro e W2 ⟨rfl, b2⟩
   have N2a : (W2.alloc (.cells #[.int .i64 0, .int .i64 0, .int .i64 0, .int .i64 0, .int .i64 0, .int .i64 0, .int .i64 0, .int .i64 0, .int .i64 0, .int .i64 0, .int .i64 0, .int .i64 0, .int .i64 0, .int .i64 0, .int .i64 0, .int .i64 0, .int .i64 0, .int .i64 0, .int .i64 0, .int .i64 0, .int .i64 0, .int .i64 0, .int .i64 0, .int .i64 0, .int .i64 0, .int .i64 0, .int .i64 0, .int .i64 0, .int .i64 0, .int .i64 0, .int .i64 0, .int .i64 0, .int .i64 0, .int .i64 0, .int .i64 0, .int .i64 0, .int .i64 0, .int .i64 0, .int .i64 0, .int .i64 0, .int .i64 0, .int .i64 0, .int .i64 0, .int .i64 0, .int .i64 0, .int .i64 0, .int .i64 0, .int .i64 0, .int .i64 0] 29)).heap[W2.heap.size]? = some (.cells #[.int .i64 0, .int .i64 0, .int .i64 0, .int .i64 0, .int .i64 0, .int .i64 0, .int .i64 0, .int .i64 0, .int .i64 0, .int .i64 0, .int .i64 0, .int .i64 0, .int .i64 0, .int .i64 0, .int .i64 0, .int .i64 0, .int .i64 0, .int .i64 0, .int .i64 0, .int .i64 0, .int .i64 0, .int .i64 0, .int .i64 0, .int .i64 0, .int .i64 0, .int .i64 0, .int .i64 0, .int .i64 0, .int .i64 0, .int .i64 0, .int .i64 0, .int .i64 0, .int .i64 0, .int .i64 0, .int .i64 0, .int .i64 0, .int .i64 0, .int .i64 0, .int .i64 0, .int .i64 0, .int .i64 0, .int .i64 0, .int .i64 0, .int .i64 0, .int .i64 0, .int .i64 0, .int .i64 0, .int .i64 0, .int .i64 0] 29 (0, 0)) := heap_alloc_new W2 _
   obtain ⟨W3, hW3⟩ : ∃ z, (W2.alloc (.cells #[.int .i64 0, .int .i64 0, .int .i64 0, .int .i64 0, .int .i64 0, .int .i64 0, .int .i64 0, .int .i64 0, .int .i64 0, .int .i64 0, .int .i64 0, .int .i64 0, .int .i64 0, .int .i64 0, .int .i64 0, .int .i64 0, .int .i64 0, .int .i64 0, .int .i64 0, .int .i64 0, .int .i64 0, .int .i64 0, .int .i64 0, .int .i64 0, .int .i64 0, .int .i64 0, .int .i64 0, .int .i64 0, .int .i64 0, .int .i64 0, .int .i64 0, .int .i64 0, .int .i64 0, .int .i64 0, .int .i64 0, .int .i64 0, .int .i64 0, .int .i64 0, .int .i64 0, .int .i64 0, .int .i64 0, .int .i64 0, .int .i64 0, .int .i64 0, .int .i64 0, .int .i64 0, .int .i64 0, .int .i64 0, .int .i64 0] 29)).setRow W2.heap.size (Gm.ints Gm.zeros).toArray = z := ⟨_, rfl⟩
   have B3 : Below X1.heap.size X1 W3 := by rw [← hW3]; exact Tk.below_row (b2.alloc b2.size _) b2.size _
   have HN : Hid (Gm.G w0 B b (some ⟨g, off, none⟩) n cn af m cf l want R.1 R.2 W3 ∧ Gm.KeepI X W3) := by
    have h1 := HRR.out.1
    unfold Gm.catchS at h1
    rw [HO.out.1] at h1
    have h2 : p = R := h1
    rw [← h2]
    exact ⟨HG.out.2.1.below B3, (Gm.KeepI.below HG.out.2.2.1).trans (Gm.KeepI.below B3)⟩
   have HW3 : Hid _ := hW3
   clear b2 B3 hW3 HC
   unfold Gm.passV
   go_upto_region 2 with (refine wpList_store_row rfl 29 _ _ rfl W2.heap.size (Gm.ints Gm.zeros).toArray rfl rfl 29 _ N2a e1 e2 e3 ?_; rw [HW3.out])
   go_wp2
   exact bodyPost_ret (results_none Tryz.results63 _ _ _) rfl ⟨rfl, HN.out⟩
 | some t =>
   have htl : t.length = 49 := by rw [Gm.pass_length HO.out.1]; exact HO.out.2.1
   obtain ⟨e1, e2, e3⟩ := HI49.out t htl
   go_enter Tryz.func63, Tryz.ntmps63
   go_upto_region 1 with fail
   rw [HX1.out]
   go_wp2_with fail
   refine Calls.mono HC.out ?_
   rintro e W2 ⟨rfl, b2⟩
   have N2a : (W2.alloc (.cells #[.int .i64 0, .int .i64 0, .int .i64 0, .int .i64 0, .int .i64 0, .int .i64 0, .int .i64 0, .int .i64 0, .int .i64 0, .int .i64 0, .int .i64 0, .int .i64 0, .int .i64 0, .int .i64 0, .int .i64 0, .int .i64 0, .int .i64 0, .int .i64 0, .int .i64 0, .int .i64 0, .int .i64 0, .int .i64 0, .int .i64 0, .int .i64 0, .int .i64 0, .int .i64 0, .int .i64 0, .int .i64 0, .int .i64 0, .int .i64 0, .int .i64 0, .int .i64 0, .int .i64 0, .int .i64 0, .int .i64 0, .int .i64 0, .int .i64 0, .int .i64 0, .int .i64 0, .int .i64 0, .int .i64 0, .int .i64 0, .int .i64 0, .int .i64 0, .int .i64 0, .int .i64 0, .int .i64 0, .int .i64 0, .int .i64 0] 29)).heap[W2.heap.size]? = some (.cells #[.int .i64 0, .int .i64 0, .int .i64 0, .int .i64 0, .int .i64 0, .int .i64 0, .int .i64 0, .int .i64 0, .int .i64 0, .int .i64 0, .int .i64 0, .int .i64 0, .int .i64 0, .int .i64 0, .int .i64 0, .int .i64 0, .int .i64 0, .int .i64 0, .int .i64 0, .int .i64 0, .int .i64 0, .int .i64 0, .int .i64 0, .int .i64 0, .int .i64 0, .int .i64 0, .int .i64 0, .int .i64 0, .int .i64 0, .int .i64 0, .int .i64 0, .int .i64 0, .int .i64 0, .int .i64 0, .int .i64 0, .int .i64 0, .int .i64 0, .int .i64 0, .int .i64 0, .int .i64 0, .int .i64 0, .int .i64 0, .int .i64 0, .int .i64 0, .int .i64 0, .int .i64 0, .int .i64 0, .int .i64 0, .int .i64 0] 29 (0, 0)) := heap_alloc_new W2 _
   obtain ⟨W3, hW3⟩ : ∃ z, (W2.alloc (.cells #[.int .i64 0, .int .i64 0, .int .i64 0, .int .i64 0, .int .i64 0, .int .i64 0, .int .i64 0, .int .i64 0, .int .i64 0, .int .i64 0, .int .i64 0, .int .i64 0, .int .i64 0, .int .i64 0, .int .i64 0, .int .i64 0, .int .i64 0, .int .i64 0, .int .i64 0, .int .i64 0, .int .i64 0, .int .i64 0, .int .i64 0, .int .i64 0, .int .i64 0, .int .i64 0, .int .i64 0, .int .i64 0, .int .i64 0, .int .i64 0, .int .i64 0, .int .i64 0, .int .i64 0, .int .i64 0, .int .i64 0, .int .i64 0, .int .i64 0, .int .i64 0, .int .i64 0, .int .i64 0, .int .i64 0, .int .i64 0, .int .i64 0, .int .i64 0, .int .i64 0, .int .i64 0, .int .i64 0, .int .i64 0, .int .i64 0] 29)).setRow W2.heap.size (Gm.ints t).toArray = z := ⟨_, rfl⟩
   have N3 : W3.heap[W2.heap.size]? = some (.cells (Gm.ints t).toArray 29 (0, 0)) := by rw [← hW3]; exact setRow_heap _ _ _ _ _ _ N2a
   have B3 : Below X1.heap.size X1 W3 := by rw [← hW3]; exact Tk.below_row (b2.alloc b2.size _) b2.size _
   have HW3 : Hid _ := hW3
   obtain ⟨q, hq⟩ : ∃ z, W2.heap.size = z := ⟨_, rfl⟩
   have HQ : Hid (W2.heap.size = q) := hq
   have HB3 : Hid (Below X1.heap.size X1 W3 ∧ X1.heap.size ≤ q ∧ X.heap.size < X1.heap.size) := ⟨B3, by rw [← hq]; exact b2.size, (Array.getElem?_eq_some_iff.1 HG.out.2.2.2).1⟩
   rw [hq] at N3
   clear b2 B3 hW3 HC hq
   unfold Gm.passV
   go_upto_region 2 with (refine wpList_store_row rfl 29 _ _ rfl W2.heap.size (Gm.ints t).toArray rfl rfl 29 _ N2a e1 e2 e3 ?_; rw [HW3.out])
   rw [HQ.out]
   have HBW3 : Hid (Below X.heap.size X W3) := HG.out.2.2.1.trans (HB3.out.1.mono HG.out.2.2.1.size)
   have NB3 : W3.heap[X.heap.size]? = some (.cells #[.int .i64 nd, .int .i64 ar, .int .i64 0, .int .i64 0, .int .i64 0] 80 (0, 0)) := by rw [HB3.out.1.block _ HB3.out.2.2]; exact HG.out.2.2.2
   obtain ⟨k1, k2⟩ := HNC.out W3 p (HG.out.1.below HBW3.out)
   clear e1 e2 e3
   by_cases hx4' : x = 4
   ·have ex : ((x : Int) == 4) = true := by simp [hx4']
    have HE : Hid (Gm.goes want p [(⟨nd, ar, 4, i, 0⟩, t)] = R) := by
     have h1 := HRR.out.1
     unfold Gm.catchS at h1
     rw [HO.out.1] at h1
     simp only [HRR.out.2] at h1
     rw [if_pos (by omega)] at h1
     exact h1
    have NB := NB3
    have NQ := N3
    have HBW : Hid (Below X.heap.size X W3) := HBW3.out
    clear hx4' NB3 N3
    obtain ⟨W6, hW6⟩ : ∃ z, ((W3.setCell ⟨X.heap.size, 2, none⟩ (.int .i64 4)).setCell ⟨X.heap.size, 3, none⟩ (.int .i64 (i : Int))).setCell ⟨X.heap.size, 4, none⟩ (.int .i64 0) = z := ⟨_, rfl⟩
    have N6 : W6.heap[X.heap.size]? = some (.cells #[.int .i64 nd, .int .i64 ar, .int .i64 4, .int .i64 (i : Int), .int .i64 0] 80 (0, 0)) := by rw [← hW6]; exact Gm.put_label NB
    have NQ6 : W6.heap[q]? = some (.cells (Gm.ints t).toArray 29 (0, 0)) := by
     have hne : q ≠ X.heap.size := by have := HB3.out.2; omega
     rw [← hW6, Below.heap_setCell _ _ _ _ hne, Below.heap_setCell _ _ _ _ hne, Below.heap_setCell _ _ _ _ hne]; exact NQ
    have B6 : Below X.heap.size X W6 := by
     rw [← hW6]
     exact ((HBW.out.setCell (p := ⟨X.heap.size, 2, none⟩) (Nat.le_refl _) _).setCell (p := ⟨X.heap.size, 3, none⟩) (Nat.le_refl _) _).setCell (p := ⟨X.heap.size, 4, none⟩) (Nat.le_refl _) _
    obtain ⟨z2, z3, z4⟩ : W3.cell? ⟨X.heap.size, 2, none⟩ = some (.int .i64 0) ∧ W3.cell? ⟨X.heap.size, 3, none⟩ = some (.int .i64 0) ∧ W3.cell? ⟨X.heap.size, 4, none⟩ = some (.int .i64 0) := by simp [World.cell?, NB]
    obtain ⟨f2, f3, f4⟩ : W3.frozen? ⟨X.heap.size, 2, none⟩ = false ∧ W3.frozen? ⟨X.heap.size, 3, none⟩ = false ∧ W3.frozen? ⟨X.heap.size, 4, none⟩ = false := by simp [World.frozen?, NB]
    have hst : (t).length = 49 := by simpa using htl
    obtain ⟨r1, r2, r3⟩ := HI49.out (t) hst
    have HA : Hid _ := Tryz.add_any w0 B b (some ⟨g, off, none⟩) n cn af m cf l want p.1 p.2 (t) ⟨nd, ar, 4, i, 0⟩ W6 (HG.out.1.below B6) hst (by have := HO.out.2.2; omega)
    have HK6 : Hid (Gm.KeepI X W6) := Gm.KeepI.below B6
    have HW6 : Hid _ := hW6
    have hum := Tryz.underlying80
    clear hW6 B6 NB NQ
    go_upto_region 6 with fail
    rw [HW6.out]
    go_wp2_with (first
     | refine wpList_load_row rfl 29 _ rfl _ rfl 29 (Gm.ints t).toArray (0, 0) _ NQ6 hu rfl r1 ?_
     | refine wpList_load_row rfl 80 _ rfl _ rfl 80 #[.int .i64 nd, .int .i64 ar, .int .i64 4, .int .i64 (i : Int), .int .i64 0] (0, 0) _ N6 hum rfl (by kernel_rfl) ?_
     | fail)
    refine Calls.mono HA.out ?_
    rintro e W7 ⟨rfl, g7, k7⟩
    have HN : Hid (Gm.G w0 B b (some ⟨g, off, none⟩) n cn af m cf l want R.1 R.2 W7 ∧ Gm.KeepI X W7) := by
     rw [← HE.out]
     exact ⟨g7, HK6.out.trans k7⟩
    clear g7 k7 HA
    go_wp2
    exact bodyPost_ret (results_none Tryz.results63 _ _ _) rfl ⟨rfl, HN.out⟩
   ·have ex : ((x : Int) == 4) = false := by simp; omega
    obtain ⟨y, hy⟩ : ∃ z, t.getD (44 + x) 0 = z := ⟨_, rfl⟩
    have hy3 : 0 ≤ y ∧ y ≤ 3 := by rw [← hy, HQQ.out.2 t HO.out.1 x (by omega)]; exact HQQ.out.1 x (by omega)
    have cq : W3.cell? ⟨q, 44 + x, none⟩ = some (.int .i64 y) := by
     simp only [World.cell?, N3]
     rw [Gm.ints_get (by omega), hy]
     rfl
    have fq : W3.frozen? ⟨q, 44 + x, none⟩ = false := by simp [World.frozen?, N3]
    have ix1 : (x : Int) < 4 := by omega
    have ix0 : (0 : Int) ≤ x := by omega
    have HS : Hid (Gm.goes want p (if 0 < y then [((⟨nd, ar, 3, i, 0⟩ : Mv), t.set (44 + x) (y - 1))] else []) = R) := by
     have h1 := HRR.out.1
     unfold Gm.catchS at h1
     rw [HO.out.1] at h1
     simp only [HRR.out.2] at h1
     rw [if_neg (by omega), Int.toNat_natCast, hy] at h1
     exact h1
    by_cases hy0 : 0 < y
    ·have ey : decide (0 < y) = true := decide_eq_true hy0
     have HE : Hid (Gm.goes want p [(⟨nd, ar, 3, i, 0⟩, t.set (44 + x) (y - 1))] = R) := by have h1 := HS.out; rw [if_pos hy0] at h1; exact h1
     have ew : IntKind.i64.wrap (y - 1) = y - 1 := by rw [IntKind.wrap_i64]; omega
     obtain ⟨W5, hW5⟩ : ∃ z, W3.setCell ⟨q, 44 + x, none⟩ (.int .i64 (y - 1)) = z := ⟨_, rfl⟩
     have NQ : W5.heap[q]? = some (.cells (Gm.ints (t.set (44 + x) (y - 1))).toArray 29 (0, 0)) := by rw [← hW5]; exact Gm.put_row N3
     have NB : W5.heap[X.heap.size]? = some (.cells #[.int .i64 nd, .int .i64 ar, .int .i64 0, .int .i64 0, .int .i64 0] 80 (0, 0)) := by rw [← hW5, Below.heap_setCell _ _ _ _ (by have := HB3.out.2; show X.heap.size ≠ q; omega)]; exact NB3
     have HBW : Hid (Below X.heap.size X W5) := by show Below _ _ _; rw [← hW5]; exact HBW3.out.setCell (p := ⟨q, 44 + x, none⟩) (by have := HB3.out.2; show _ ≤ q; omega) _
     have HW5 : Hid _ := hW5
     clear hy0 HS hy hW5 NB3 N3
     obtain ⟨W6, hW6⟩ : ∃ z, ((W5.setCell ⟨X.heap.size, 2, none⟩ (.int .i64 3)).setCell ⟨X.heap.size, 3, none⟩ (.int .i64 (i : Int))).setCell ⟨X.heap.size, 4, none⟩ (.int .i64 0) = z := ⟨_, rfl⟩
     have N6 : W6.heap[X.heap.size]? = some (.cells #[.int .i64 nd, .int .i64 ar, .int .i64 3, .int .i64 (i : Int), .int .i64 0] 80 (0, 0)) := by rw [← hW6]; exact Gm.put_label NB
     have NQ6 : W6.heap[q]? = some (.cells (Gm.ints (t.set (44 + x) (y - 1))).toArray 29 (0, 0)) := by
      have hne : q ≠ X.heap.size := by have := HB3.out.2; omega
      rw [← hW6, Below.heap_setCell _ _ _ _ hne, Below.heap_setCell _ _ _ _ hne, Below.heap_setCell _ _ _ _ hne]; exact NQ
     have B6 : Below X.heap.size X W6 := by
      rw [← hW6]
      exact ((HBW.out.setCell (p := ⟨X.heap.size, 2, none⟩) (Nat.le_refl _) _).setCell (p := ⟨X.heap.size, 3, none⟩) (Nat.le_refl _) _).setCell (p := ⟨X.heap.size, 4, none⟩) (Nat.le_refl _) _
     obtain ⟨z2, z3, z4⟩ : W5.cell? ⟨X.heap.size, 2, none⟩ = some (.int .i64 0) ∧ W5.cell? ⟨X.heap.size, 3, none⟩ = some (.int .i64 0) ∧ W5.cell? ⟨X.heap.size, 4, none⟩ = some (.int .i64 0) := by simp [World.cell?, NB]
     obtain ⟨f2, f3, f4⟩ : W5.frozen? ⟨X.heap.size, 2, none⟩ = false ∧ W5.frozen? ⟨X.heap.size, 3, none⟩ = false ∧ W5.frozen? ⟨X.heap.size, 4, none⟩ = false := by simp [World.frozen?, NB]
     have hst : ((t.set (44 + x) (y - 1))).length = 49 := by simpa using htl
     obtain ⟨r1, r2, r3⟩ := HI49.out ((t.set (44 + x) (y - 1))) hst
     have HA : Hid _ := Tryz.add_any w0 B b (some ⟨g, off, none⟩) n cn af m cf l want p.1 p.2 ((t.set (44 + x) (y - 1))) ⟨nd, ar, 3, i, 0⟩ W6 (HG.out.1.below B6) hst (by have := HO.out.2.2; omega)
     have HK6 : Hid (Gm.KeepI X W6) := Gm.KeepI.below B6
     have HW6 : Hid _ := hW6
     have hum := Tryz.underlying80
     clear hW6 B6 NB NQ
     go_upto_region 9 with fail
     rw [HW5.out]
     go_upto_region 10 with fail
     rw [HW6.out]
     go_wp2_with (first
      | refine wpList_load_row rfl 29 _ rfl _ rfl 29 (Gm.ints (t.set (44 + x) (y - 1))).toArray (0, 0) _ NQ6 hu rfl r1 ?_
      | refine wpList_load_row rfl 80 _ rfl _ rfl 80 #[.int .i64 nd, .int .i64 ar, .int .i64 3, .int .i64 (i : Int), .int .i64 0] (0, 0) _ N6 hum rfl (by kernel_rfl) ?_
      | fail)
     refine Calls.mono HA.out ?_
     rintro e W7 ⟨rfl, g7, k7⟩
     have HN : Hid (Gm.G w0 B b (some ⟨g, off, none⟩) n cn af m cf l want R.1 R.2 W7 ∧ Gm.KeepI X W7) := by
      rw [← HE.out]
      exact ⟨g7, HK6.out.trans k7⟩
     clear g7 k7 HA
     go_wp2
     go_end0
     exact ⟨rfl, HN.out⟩
    ·have ey : decide (0 < y) = false := decide_eq_false hy0
     have HN : Hid (Gm.G w0 B b (some ⟨g, off, none⟩) n cn af m cf l want R.1 R.2 W3 ∧ Gm.KeepI X W3) := by
      have h1 := HS.out
      rw [if_neg hy0] at h1
      have h2 : p = R := h1
      rw [← h2]
      exact ⟨HG.out.1.below HBW3.out, Gm.KeepI.below HBW3.out⟩
     clear hy0 HS hy
     go_wp2
     go_end0
     exact ⟨rfl, HN.out⟩
end Go.Proofs
namespace Go.Proofs
open Go.RowKit Go.Shelf
theorem Gm.ops_fr {w0 W : World} {B b : Nat} (h : Tk.Ops w0) (hb : 0 < b) (hB : b < B) (hf : Gm.Fr B b w0 W) : Tk.Ops W := h.keep (hf.block _ (by omega) (by omega))
set_option maxRecDepth 20000 in
set_option maxHeartbeats 16000000 in
theorem Tryz.chosen_any (w0 : World) (B b : Nat) (an : Option Addr) (n cn : Nat) (af : Option Addr) (m cf : Nat) (l : List Int) (want : Int) (ms : List Mv) (tt : List Int) (a : List Nat) (va : Value) (X : World) (hG : Gm.G w0 B b an n cn af m cf l want ms tt X)
  (ha : Gm.Ints X va (a.map fun x : Nat => (x : Int))) (hal : a.length ≤ 100) (d : Nat) (fs : List Fl) (hF : Nt.Fls w0 b d af fs) (hm : fs.length = m) (_hm1 : m ≤ 100) (haf : ∀ f ∈ a, f < fs.length) (hsz : ∀ x, x ∈ fs → x.c.size ≤ 2147483647) (hO : Tk.Ops w0) (hOb : 0 < b) :
  Calls Tryz.prog 85 #[.pointer (some ⟨b, 0, none⟩), va] X fun e w' => e = .returned (.tuple #[.int .i64 ((Gm.chosen fs l a 0).1 : Nat), .int .i64 (Gm.chosen fs l a 0).2]) ∧ Below X.heap.size X w' := by
 obtain ⟨R, hR⟩ : ∃ R, Gm.chosen fs l a 0 = R := ⟨_, rfl⟩
 rw [hR]
 obtain ⟨r1, r2⟩ := R
 obtain ⟨v, hA, _⟩ := hG.game
 have hlt := hG.lt
 have hle : B ≤ X.heap.size := Nat.le_trans hG.le hG.fr.size
 have hFX : Nt.Fls X b d af fs := Gm.fls_fr hF hG.lt hG.fr
 have hOX : Tk.Ops X := Gm.ops_fr hO hOb hG.lt hG.fr
 obtain ⟨x0, hx0⟩ : ∃ z, l.getD 40 0 = z := ⟨_, rfl⟩
 obtain ⟨x1, hx1⟩ : ∃ z, l.getD 41 0 = z := ⟨_, rfl⟩
 obtain ⟨x2, hx2⟩ : ∃ z, l.getD 42 0 = z := ⟨_, rfl⟩
 obtain ⟨x3, hx3⟩ : ∃ z, l.getD 43 0 = z := ⟨_, rfl⟩
 have hst : ∀ j, j < 49 → X.cell? ⟨b, 2 + j, none⟩ = some (.int .i64 (l.getD j 0)) := fun j hj => hA.st j _ (by
  have := Gm.ints_get (t := l) (f := j) (by have := hA.ll; omega)
  simpa using this)
 have HTR : Hid (∀ T : Tm, Gm.tru l T = T.truR x0 x1 x2 x3) := fun T => by show _ = _; unfold Gm.tru; rw [hx0, hx1, hx2, hx3]
 have HV : Hid (∀ W, Below X.heap.size X W → W.cell? ⟨b, 1, none⟩ = some (.slice af m cf) ∧ W.cell? ⟨b, 42, none⟩ = some (.int .i64 x0) ∧ W.cell? ⟨b, 43, none⟩ = some (.int .i64 x1) ∧ W.cell? ⟨b, 44, none⟩ = some (.int .i64 x2) ∧ W.cell? ⟨b, 45, none⟩ = some (.int .i64 x3)) := fun W hb => by
  have hc : ∀ o, W.cell? ⟨b, o, none⟩ = X.cell? ⟨b, o, none⟩ := fun o => hb.cell (p := ⟨b, o, none⟩) (by show b < _; omega)
  rw [hc, hc, hc, hc, hc]
  exact ⟨hA.net1, by rw [← hx0]; exact hst 40 (by omega), by rw [← hx1]; exact hst 41 (by omega), by rw [← hx2]; exact hst 42 (by omega), by rw [← hx3]; exact hst 43 (by omega)⟩
 obtain ⟨aa, ca, rfl, ha⟩ := ha
 obtain ⟨na, hna⟩ : ∃ z, a.length = z := ⟨_, rfl⟩
 rw [List.length_map, hna]
 have HIA : Hid (∀ W, Below X.heap.size X W → ∀ j, j < na → ∃ (g off f : Nat), a[j]? = some f ∧ f < m ∧ aa = some ⟨g, off, none⟩ ∧ W.cell? ⟨g, off + j, none⟩ = some (.int .i64 f)) := fun W hb j hj => by
  obtain ⟨g, off, cs, fr, h1, h2, h3⟩ := ha j (by rw [List.length_map]; omega)
  have hja : j < a.length := by omega
  refine ⟨g, off, a[j], List.getElem?_eq_getElem hja, by rw [← hm]; exact haf _ (List.getElem_mem hja), h1, ?_⟩
  rw [hb.cell (p := ⟨g, off + j, none⟩) (Gm.blk_lt h2), h3]
  simp
 have HFC : Hid (∀ W, Below X.heap.size X W → ∀ f, f < m → ∃ (g off : Nat) (u : Value) (x : Fl), fs[f]? = some x ∧ af = some ⟨g, off, none⟩ ∧ W.cell? ⟨g, off + f * 6 + 2, none⟩ = some (.bool x.els) ∧ W.cell? ⟨g, off + f * 6 + 3, none⟩ = some (.int .i64 x.c.op) ∧ W.cell? ⟨g, off + f * 6 + 4, none⟩ = some (.int .i64 x.c.num) ∧ W.cell? ⟨g, off + f * 6 + 5, none⟩ = some u ∧ Tm.Lies W b d u x.c ∧ x.c.size ≤ 2147483647 ∧ b ≤ W.heap.size ∧ Tk.Ops W) := fun W hb f hf => by
  have hb' : Below b X W := hb.mono (by omega)
  have hj : f < fs.length := by omega
  obtain ⟨g, off, u, h1, h2, c0, c1, c2, c3, c4, c5, h3⟩ := (hFX.below hb') f hj
  exact ⟨g, off, u, fs[f], List.getElem?_eq_getElem hj, h1, c2, c3, c4, c5, h3, hsz _ (List.getElem_mem hj), by have := hb.size; omega, hOX.below hb hOX.lt⟩
 have HRR : Hid (Gm.chosen fs l a 0 = (r1, r2) ∧ a.length = na ∧ na ≤ 100) := ⟨hR, hna, by omega⟩
 have hna1 : na ≤ 100 := by omega
 clear hG ha hal hF hm haf hsz hO hOb hR hA hlt hle hFX hOX hx0 hx1 hx2 hx3 hst hna
 go_enter Tryz.func85, Tryz.ntmps85
 go_wp2
 go_loopg [6, 8, 9, 10, 13] na (fun gk s6 _ _ _ s13 wr => ∃ (j o : Nat), s6 = .int .i64 o ∧ s13 = .int .i64 j ∧ gk + j = na ∧ Hid (Gm.chosen fs l (a.drop j) o = (r1, r2) ∧ Below X.heap.size X wr))
 case atStart => exact ⟨0, 0, rfl, rfl, by omega, HRR.out.1, Below.refl _ _⟩
 case round =>
  obtain ⟨j, o, rfl, rfl, hj, HJ⟩ := hrel
  by_cases hlt : j < na
  ·have hd : decide ((j : Int) < na) = true := decide_eq_true (by omega)
   obtain ⟨g, off, f, haf, hf4, rfl, hcf⟩ := HIA.out wr HJ.out.2 j hlt
   have hdr : a.drop j = f :: a.drop (j + 1) := by
     obtain ⟨h1, h2⟩ := List.getElem?_eq_some_iff.1 haf
     rw [← h2]; exact List.drop_eq_getElem_cons h1
   obtain ⟨g2, off2, u, x, hxf, rfl, c2, c3, c4, c5, hT, hsz, hbs, hOps⟩ := HFC.out wr HJ.out.2 f hf4
   obtain ⟨k1, k2, k3, k4, k5⟩ := HV.out wr HJ.out.2
   have HTK : Hid ((if x.els = true then Gm.chosen fs l (a.drop (j + 1)) f else if (Gm.tru l x.c).1 = true ∨ (Gm.tru l x.c).2 ≠ 0 then (f, (Gm.tru l x.c).2) else Gm.chosen fs l (a.drop (j + 1)) o) = (r1, r2)) := by
     have := HJ.out.1
     rw [hdr, Gm.chosen, hxf] at this
     exact this
   have HB : Hid (Below X.heap.size X wr) := HJ.out.2
   have i1 : (f : Int) < m := by omega
   have i0 : (0 : Int) ≤ f := by omega
   have j1 : (j : Int) < na := by omega
   have j0 : (0 : Int) ≤ j := by omega
   obtain ⟨el, hel⟩ : ∃ z, x.els = z := ⟨_, rfl⟩
   rw [hel] at c2 HTK
   clear HJ hdr haf hxf hel
   cases el with
   | true =>
     have HN : Hid (Gm.chosen fs l (a.drop (j + 1)) f = (r1, r2)) := by have := HTK.out; rw [if_pos rfl] at this; exact this
     clear HTK hT hsz hbs hOps
     go_wp2
     go_roundg (gk - 1)
     case measure => omega
     case rel => exact ⟨j + 1, f, rfl, by go_num, by omega, HN.out, HB.out⟩
   | false =>
     obtain ⟨⟨is, fe⟩, htr⟩ : ∃ z, x.c.truR x0 x1 x2 x3 = z := ⟨_, rfl⟩
     have CT : Hid (∀ V, Below wr.heap.size wr V → Calls Tryz.prog 99 #[.agg #[.int .i64 x.c.op, .int .i64 x.c.num, u], .agg #[.int .i64 x0, .int .i64 x1, .int .i64 x2, .int .i64 x3]] V fun e w' => e = .returned (.tuple #[.bool is, .int .i64 fe]) ∧ Below wr.heap.size wr w') := fun V hV => by
      have h := Tryz.truthW_any d x.c u x0 x1 x2 x3 V ((hT.below (hV.mono hbs)).wider (Nat.le_trans hbs hV.size)) (hOps.below hV hOps.lt) hsz
      rw [htr] at h
      exact h.mono fun _ _ q => ⟨q.1, hV.trans (q.2.mono hV.size)⟩
     have HTK2 : Hid ((if is = true ∨ fe ≠ 0 then (f, fe) else Gm.chosen fs l (a.drop (j + 1)) o) = (r1, r2)) := by
      have := HTK.out
      rw [if_neg (by simp), HTR.out, htr] at this
      exact this
     obtain ⟨p1, hp1⟩ : ∃ z, x.c.op = z := ⟨_, rfl⟩
     obtain ⟨p2, hp2⟩ : ∃ z, x.c.num = z := ⟨_, rfl⟩
     rw [hp1] at c3 CT
     rw [hp2] at c4 CT
     have CF : Hid (∀ V, Below wr.heap.size wr V → V.cell? ⟨b, 1, none⟩ = some (.slice (some ⟨g2, off2, none⟩) m cf) ∧ V.cell? ⟨g2, off2 + f * 6 + 3, none⟩ = some (.int .i64 p1) ∧ V.cell? ⟨g2, off2 + f * 6 + 4, none⟩ = some (.int .i64 p2) ∧ V.cell? ⟨g2, off2 + f * 6 + 5, none⟩ = some u ∧ V.cell? ⟨b, 42, none⟩ = some (.int .i64 x0) ∧ V.cell? ⟨b, 43, none⟩ = some (.int .i64 x1) ∧ V.cell? ⟨b, 44, none⟩ = some (.int .i64 x2) ∧ V.cell? ⟨b, 45, none⟩ = some (.int .i64 x3)) := fun V hV => by
      have hc : ∀ p : Addr, p.block < wr.heap.size → V.cell? p = wr.cell? p := fun p hp => hV.cell hp
      have hg2 : g2 < wr.heap.size := World.block_lt_of_cell? _ _ c3
      have hb2 : b < wr.heap.size := World.block_lt_of_cell? _ _ k1
      rw [hc _ hb2, hc _ hg2, hc _ hg2, hc _ hg2, hc _ hb2, hc _ hb2, hc _ hb2, hc _ hb2]
      exact ⟨k1, c3, c4, c5, k2, k3, k4, k5⟩
     have BR : Hid (Below wr.heap.size wr wr) := Below.refl _ _
     clear HTK hT hsz hbs hOps htr hp1 hp2
     go_upto_region 7 with fail
     clear hcf c2 c3 c4 c5 k1 k2 k3 k4 k5
     go_region_held3 (fun V => V.cell? ⟨b, 1, none⟩ = some (.slice (some ⟨g2, off2, none⟩) m cf) ∧ V.cell? ⟨g2, off2 + f * 6 + 3, none⟩ = some (.int .i64 p1) ∧ V.cell? ⟨g2, off2 + f * 6 + 4, none⟩ = some (.int .i64 p2) ∧ V.cell? ⟨g2, off2 + f * 6 + 5, none⟩ = some u ∧ V.cell? ⟨b, 42, none⟩ = some (.int .i64 x0) ∧ V.cell? ⟨b, 43, none⟩ = some (.int .i64 x1) ∧ V.cell? ⟨b, 44, none⟩ = some (.int .i64 x2) ∧ V.cell? ⟨b, 45, none⟩ = some (.int .i64 x3))
      (first | exact CF.out _ B3.out | exact CF.out _ BR.out.drew | exact CF.out _ BR.out)
      (first
      | (go_simp; go_at_call 99; refine Calls.mono (CT.out _ ?_) ?_; (first | exact BR.out | exact BR.out.drew | exact Tk.below_drewN BR.out _); rintro e W3 ⟨rfl, b3⟩; have B3 : Hid (Below wr.heap.size wr W3) := b3; clear b3))
     all_goals
      have HB3 : Hid (Below X.heap.size X W3) := HB.out.trans (B3.out.mono HB.out.size)
      clear CT CF BR B3
      go_simp
      cases is with
      | true =>
        have HE : Hid (f = r1 ∧ fe = r2) := by have := HTK2.out; rw [if_pos (Or.inl rfl)] at this; exact Prod.mk.inj this
        clear HTK2
        go_wp2
        go_ret2
        exact ⟨by rw [← HE.out.1, ← HE.out.2]; rfl, HB3.out⟩
      | false =>
        by_cases hfe : fe = 0
        ·have e1 : (fe != 0) = false := by simpa using hfe
         have HN : Hid (Gm.chosen fs l (a.drop (j + 1)) o = (r1, r2)) := by have := HTK2.out; rw [if_neg (by simp [hfe])] at this; exact this
         clear HTK2 hfe
         go_wp2
         go_roundg (gk - 1)
         case measure => omega
         case rel => exact ⟨j + 1, o, rfl, by go_num, by omega, HN.out, HB3.out⟩
        ·have e1 : (fe != 0) = true := by simpa using hfe
         have HE : Hid (f = r1 ∧ fe = r2) := by have := HTK2.out; rw [if_pos (Or.inr hfe)] at this; exact Prod.mk.inj this
         clear HTK2 hfe
         go_wp2
         go_ret2
         exact ⟨by rw [← HE.out.1, ← HE.out.2]; rfl, HB3.out⟩
  ·obtain rfl : j = na := by omega
   have hd : decide ((j : Int) < j) = false := decide_eq_false (by omega)
   have HE : Hid (o = r1 ∧ 0 = r2) := by
     have h1 := HJ.out.1
     rw [List.drop_eq_nil_of_le (by rw [HRR.out.2.1]; exact Nat.le_refl _), Gm.chosen] at h1
     exact Prod.mk.inj h1
   have HB : Hid (Below X.heap.size X wr) := HJ.out.2
   clear HJ
   go_wp2
   go_ret2
   exact ⟨by rw [← HE.out.1, ← HE.out.2]; rfl, HB.out⟩
end Go.Proofs
