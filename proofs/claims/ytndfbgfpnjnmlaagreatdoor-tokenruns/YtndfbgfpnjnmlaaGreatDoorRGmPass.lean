import Derived.Test.YtndfbgfpnjnmlaaGreatDoorRGmModel
namespace Go.Proofs
open Go.RowKit Go.Shelf
theorem Gm.results2 {fn : Func} {p u : Tmp} {ty : TypeId} (h : fn.results = #[.cell p ty, .tmp u]) (tmps : Array Value) (w : World) (q : Nat) (cs : Array Value)
  (hp : tmps.getD p undef = .pointer (some ⟨q, 0, none⟩)) (hr : (loadVar ty ⟨q, 0, none⟩).run Tryz.prog w = .ok (.agg cs) w) :
  (results fn tmps).run Tryz.prog w = .ok (.tuple #[.agg cs, tmps.getD u undef]) w := by
 have hp' : tmps[p]?.getD undef = .pointer (some ⟨q, 0, none⟩) := by simpa using hp
 simp [results, h, hp', asAddr, hr]
def Gm.zeros : List Int := List.replicate 49 0
def Gm.Small (t : List Int) : Prop := t.length = 49 ∧ ∀ f, f < 40 → 0 ≤ t.getD f 0 ∧ t.getD f 0 ≤ 3
def Gm.passV : Option (List Int) → Value
 | none => .tuple #[.agg (Gm.ints Gm.zeros).toArray, .bool false]
 | some t => .tuple #[.agg (Gm.ints t).toArray, .bool true]
theorem Gm.ints_set (t : List Int) (f : Nat) (x : Int) : (Gm.ints t).toArray.setIfInBounds f (.int .i64 x) = (Gm.ints (t.set f x)).toArray := by
 simp [Gm.ints, List.map_set]
theorem Gm.ints_get {t : List Int} {f : Nat} (h : f < t.length) : (Gm.ints t).toArray[f]? = some (.int .i64 (t.getD f 0)) := by
 simp [Gm.ints, List.getElem?_map, List.getElem?_eq_getElem h, List.getD_eq_getElem?_getD]
theorem Gm.getD_set {t : List Int} {f g : Nat} {x : Int} (h : f < t.length) : (t.set f x).getD g 0 = if f = g then x else t.getD g 0 := by
 rw [List.getD_eq_getElem?_getD, List.getElem?_set]
 by_cases hg : f = g
 ·subst hg; simp [h]
 ·simp [hg, List.getD_eq_getElem?_getD]
theorem Gm.Small.set {t : List Int} (h : Gm.Small t) {f : Nat} (hf : f < 40) {x : Int} (h0 : 0 ≤ x) (h3 : x ≤ 3) : Gm.Small (t.set f x) := by
 refine ⟨by simpa using h.1, fun g hg => ?_⟩
 rw [Gm.getD_set (by have := h.1; omega)]
 split
 ·exact ⟨h0, h3⟩
 ·exact h.2 g hg
theorem Gm.put_row {W : World} {q f : Nat} {t : List Int} {ty : TypeId} {x : Int} (h : W.heap[q]? = some (.cells (Gm.ints t).toArray ty (0, 0))) : (W.setCell ⟨q, f, none⟩ (.int .i64 x)).heap[q]? = some (.cells (Gm.ints (t.set f x)).toArray ty (0, 0)) := by
 rw [← Gm.ints_set]
 simp [World.setCell, Array.getElem?_modify, h]
set_option maxRecDepth 20000 in
set_option maxHeartbeats 16000000 in
theorem Tryz.pass_any (b : Nat) (an : Option Addr) (n cn : Nat) (af : Option Addr) (m cf : Nat) (l : List Int) (v : Value) (want : Int) (tt : List Int) (X : World) (hA : Gm.At X b an n cn af m cf l v want tt) (a c : List Nat) (va vc : Value)
  (ha : Gm.Ints X va (a.map fun x : Nat => (x : Int))) (hc : Gm.Ints X vc (c.map fun x : Nat => (x : Int))) (ha4 : ∀ f ∈ a, f < 40) (hc4 : ∀ f ∈ c, f < 40) (hal : a.length ≤ 100) (hcl : c.length ≤ 100) (hS : Gm.Small l) :
  Calls Tryz.prog 61 #[.pointer (some ⟨b, 0, none⟩), va, vc] X fun e w' => e = .returned (Gm.passV (Gm.pass l a c)) ∧ Below X.heap.size X w' := by
 obtain ⟨R, hR⟩ : ∃ R, Gm.pass l a c = R := ⟨_, rfl⟩
 rw [hR]
 obtain ⟨w1, hw1⟩ : ∃ z, X.alloc (.cells #[.int .i64 0, .int .i64 0, .int .i64 0, .int .i64 0, .int .i64 0, .int .i64 0, .int .i64 0, .int .i64 0, .int .i64 0, .int .i64 0, .int .i64 0, .int .i64 0, .int .i64 0, .int .i64 0, .int .i64 0, .int .i64 0, .int .i64 0, .int .i64 0, .int .i64 0, .int .i64 0, .int .i64 0, .int .i64 0, .int .i64 0, .int .i64 0, .int .i64 0, .int .i64 0, .int .i64 0, .int .i64 0, .int .i64 0, .int .i64 0, .int .i64 0, .int .i64 0, .int .i64 0, .int .i64 0, .int .i64 0, .int .i64 0, .int .i64 0, .int .i64 0, .int .i64 0, .int .i64 0, .int .i64 0, .int .i64 0, .int .i64 0, .int .i64 0, .int .i64 0, .int .i64 0, .int .i64 0, .int .i64 0, .int .i64 0] 29) = z := ⟨_, rfl⟩
 have A1 : Below X.heap.size X w1 := by rw [← hw1]; exact (Below.refl _ X).alloc (Nat.le_refl _) _
 have S1 : w1.heap.size = X.heap.size + 1 := by rw [← hw1]; simp
 have N1 : w1.heap[X.heap.size]? = some (.cells #[.int .i64 0, .int .i64 0, .int .i64 0, .int .i64 0, .int .i64 0, .int .i64 0, .int .i64 0, .int .i64 0, .int .i64 0, .int .i64 0, .int .i64 0, .int .i64 0, .int .i64 0, .int .i64 0, .int .i64 0, .int .i64 0, .int .i64 0, .int .i64 0, .int .i64 0, .int .i64 0, .int .i64 0, .int .i64 0, .int .i64 0, .int .i64 0, .int .i64 0, .int .i64 0, .int .i64 0, .int .i64 0, .int .i64 0, .int .i64 0, .int .i64 0, .int .i64 0, .int .i64 0, .int .i64 0, .int .i64 0, .int .i64 0, .int .i64 0, .int .i64 0, .int .i64 0, .int .i64 0, .int .i64 0, .int .i64 0, .int .i64 0, .int .i64 0, .int .i64 0, .int .i64 0, .int .i64 0, .int .i64 0, .int .i64 0] 29 (0, 0)) := by rw [← hw1]; exact heap_alloc_new X _
 obtain ⟨w2, hw2⟩ : ∃ z, (w1.alloc (.cells #[.int .i64 0, .int .i64 0, .int .i64 0, .int .i64 0, .int .i64 0, .int .i64 0, .int .i64 0, .int .i64 0, .int .i64 0, .int .i64 0, .int .i64 0, .int .i64 0, .int .i64 0, .int .i64 0, .int .i64 0, .int .i64 0, .int .i64 0, .int .i64 0, .int .i64 0, .int .i64 0, .int .i64 0, .int .i64 0, .int .i64 0, .int .i64 0, .int .i64 0, .int .i64 0, .int .i64 0, .int .i64 0, .int .i64 0, .int .i64 0, .int .i64 0, .int .i64 0, .int .i64 0, .int .i64 0, .int .i64 0, .int .i64 0, .int .i64 0, .int .i64 0, .int .i64 0, .int .i64 0, .int .i64 0, .int .i64 0, .int .i64 0, .int .i64 0, .int .i64 0, .int .i64 0, .int .i64 0, .int .i64 0, .int .i64 0] 29)).setRow w1.heap.size (Gm.ints l).toArray = z := ⟨_, rfl⟩
 have N2a : (w1.alloc (.cells #[.int .i64 0, .int .i64 0, .int .i64 0, .int .i64 0, .int .i64 0, .int .i64 0, .int .i64 0, .int .i64 0, .int .i64 0, .int .i64 0, .int .i64 0, .int .i64 0, .int .i64 0, .int .i64 0, .int .i64 0, .int .i64 0, .int .i64 0, .int .i64 0, .int .i64 0, .int .i64 0, .int .i64 0, .int .i64 0, .int .i64 0, .int .i64 0, .int .i64 0, .int .i64 0, .int .i64 0, .int .i64 0, .int .i64 0, .int .i64 0, .int .i64 0, .int .i64 0, .int .i64 0, .int .i64 0, .int .i64 0, .int .i64 0, .int .i64 0, .int .i64 0, .int .i64 0, .int .i64 0, .int .i64 0, .int .i64 0, .int .i64 0, .int .i64 0, .int .i64 0, .int .i64 0, .int .i64 0, .int .i64 0, .int .i64 0] 29)).heap[w1.heap.size]? = some (.cells #[.int .i64 0, .int .i64 0, .int .i64 0, .int .i64 0, .int .i64 0, .int .i64 0, .int .i64 0, .int .i64 0, .int .i64 0, .int .i64 0, .int .i64 0, .int .i64 0, .int .i64 0, .int .i64 0, .int .i64 0, .int .i64 0, .int .i64 0, .int .i64 0, .int .i64 0, .int .i64 0, .int .i64 0, .int .i64 0, .int .i64 0, .int .i64 0, .int .i64 0, .int .i64 0, .int .i64 0, .int .i64 0, .int .i64 0, .int .i64 0, .int .i64 0, .int .i64 0, .int .i64 0, .int .i64 0, .int .i64 0, .int .i64 0, .int .i64 0, .int .i64 0, .int .i64 0, .int .i64 0, .int .i64 0, .int .i64 0, .int .i64 0, .int .i64 0, .int .i64 0, .int .i64 0, .int .i64 0, .int .i64 0, .int .i64 0] 29 (0, 0)) := heap_alloc_new w1 _
 have N2 : w2.heap[w1.heap.size]? = some (.cells (Gm.ints l).toArray 29 (0, 0)) := by rw [← hw2]; exact setRow_heap _ _ _ _ _ _ N2a
 have B2 : Below X.heap.size X w2 := by rw [← hw2]; exact Tk.below_row (A1.alloc A1.size _) (by omega) _
 have R2 : w2.heap[X.heap.size]? = some (.cells #[.int .i64 0, .int .i64 0, .int .i64 0, .int .i64 0, .int .i64 0, .int .i64 0, .int .i64 0, .int .i64 0, .int .i64 0, .int .i64 0, .int .i64 0, .int .i64 0, .int .i64 0, .int .i64 0, .int .i64 0, .int .i64 0, .int .i64 0, .int .i64 0, .int .i64 0, .int .i64 0, .int .i64 0, .int .i64 0, .int .i64 0, .int .i64 0, .int .i64 0, .int .i64 0, .int .i64 0, .int .i64 0, .int .i64 0, .int .i64 0, .int .i64 0, .int .i64 0, .int .i64 0, .int .i64 0, .int .i64 0, .int .i64 0, .int .i64 0, .int .i64 0, .int .i64 0, .int .i64 0, .int .i64 0, .int .i64 0, .int .i64 0, .int .i64 0, .int .i64 0, .int .i64 0, .int .i64 0, .int .i64 0, .int .i64 0] 29 (0, 0)) := by
  rw [← hw2, setRow_other _ _ _ _ (by omega), Below.heap_alloc _ _ _ (by omega)]; exact N1
 have hst : w1.rangeAt b 2 (Gm.ints l) := (hA.keep (A1.block b hA.lt)).st
 have hu := Tryz.underlying29
 have hi : (Tryz.prog.info? 29).map (·.size) = some (Gm.ints l).length := by rw [Gm.ints_length, hA.ll]; kernel_rfl
 have hi2 : (Tryz.prog.info? 29).map (·.size) = some (Gm.ints l).toArray.size := by simpa using hi
 have hi3 : (#[.int .i64 0, .int .i64 0, .int .i64 0, .int .i64 0, .int .i64 0, .int .i64 0, .int .i64 0, .int .i64 0, .int .i64 0, .int .i64 0, .int .i64 0, .int .i64 0, .int .i64 0, .int .i64 0, .int .i64 0, .int .i64 0, .int .i64 0, .int .i64 0, .int .i64 0, .int .i64 0, .int .i64 0, .int .i64 0, .int .i64 0, .int .i64 0, .int .i64 0, .int .i64 0, .int .i64 0, .int .i64 0, .int .i64 0, .int .i64 0, .int .i64 0, .int .i64 0, .int .i64 0, .int .i64 0, .int .i64 0, .int .i64 0, .int .i64 0, .int .i64 0, .int .i64 0, .int .i64 0, .int .i64 0, .int .i64 0, .int .i64 0, .int .i64 0, .int .i64 0, .int .i64 0, .int .i64 0, .int .i64 0, .int .i64 0] : Array Value).size = (Gm.ints l).toArray.size := by simp [Gm.ints_length, hA.ll]
 have h1c : (Gm.ints l).toArray.all (·.oneCell') = true := all_oneCell_toArray (Gm.ints_one l)
 obtain ⟨aa, ca, rfl, ha⟩ := ha
 obtain ⟨ac, cc, rfl, hc⟩ := hc
 obtain ⟨na, hna⟩ : ∃ z, a.length = z := ⟨_, rfl⟩
 obtain ⟨nc, hnc⟩ : ∃ z, c.length = z := ⟨_, rfl⟩
 rw [List.length_map, List.length_map, hna, hnc]
 have HIA : Hid (∀ W, Below X.heap.size X W → ∀ j, j < na → ∃ (g off f : Nat), a[j]? = some f ∧ f < 40 ∧ aa = some ⟨g, off, none⟩ ∧ W.cell? ⟨g, off + j, none⟩ = some (.int .i64 f)) := fun W hb j hj => by
  obtain ⟨g, off, cs, fr, h1, h2, h3⟩ := ha j (by rw [List.length_map]; omega)
  have hja : j < a.length := by omega
  refine ⟨g, off, a[j], List.getElem?_eq_getElem hja, ha4 _ (List.getElem_mem hja), h1, ?_⟩
  rw [hb.cell (p := ⟨g, off + j, none⟩) (Gm.blk_lt h2), h3]
  simp
 have HIC : Hid (∀ W, Below X.heap.size X W → ∀ j, j < nc → ∃ (g off f : Nat), c[j]? = some f ∧ f < 40 ∧ ac = some ⟨g, off, none⟩ ∧ W.cell? ⟨g, off + j, none⟩ = some (.int .i64 f)) := fun W hb j hj => by
  obtain ⟨g, off, cs, fr, h1, h2, h3⟩ := hc j (by rw [List.length_map]; omega)
  have hja : j < c.length := by omega
  refine ⟨g, off, c[j], List.getElem?_eq_getElem hja, hc4 _ (List.getElem_mem hja), h1, ?_⟩
  rw [hb.cell (p := ⟨g, off + j, none⟩) (Gm.blk_lt h2), h3]
  simp
 have HB0 : Hid (Gm.Small l ∧ Below X.heap.size X w2 ∧ w2.heap[w1.heap.size]? = some (.cells (Gm.ints l).toArray 29 (0, 0)) ∧ w2.heap[X.heap.size]? = some (.cells #[.int .i64 0, .int .i64 0, .int .i64 0, .int .i64 0, .int .i64 0, .int .i64 0, .int .i64 0, .int .i64 0, .int .i64 0, .int .i64 0, .int .i64 0, .int .i64 0, .int .i64 0, .int .i64 0, .int .i64 0, .int .i64 0, .int .i64 0, .int .i64 0, .int .i64 0, .int .i64 0, .int .i64 0, .int .i64 0, .int .i64 0, .int .i64 0, .int .i64 0, .int .i64 0, .int .i64 0, .int .i64 0, .int .i64 0, .int .i64 0, .int .i64 0, .int .i64 0, .int .i64 0, .int .i64 0, .int .i64 0, .int .i64 0, .int .i64 0, .int .i64 0, .int .i64 0, .int .i64 0, .int .i64 0, .int .i64 0, .int .i64 0, .int .i64 0, .int .i64 0, .int .i64 0, .int .i64 0, .int .i64 0, .int .i64 0] 29 (0, 0))) := ⟨hS, B2, N2, R2⟩
 have hna1 : na ≤ 100 := by omega
 have hnc1 : nc ≤ 100 := by omega
 have HI49 : Hid ((Tryz.prog.info? 29).map (·.size) = some 49) := by show _ = _; kernel_rfl
 have HW1 : Hid _ := hw1
 have HW2 : Hid _ := hw2
 have HR : Hid (Gm.pass l a c = R ∧ a.length = na ∧ c.length = nc) := ⟨hR, hna, hnc⟩
 have HSZ : Hid (w1.heap.size = X.heap.size + 1) := S1
 obtain ⟨q, hq⟩ : ∃ z, w1.heap.size = z := ⟨_, rfl⟩
 have HQ : Hid (q = X.heap.size + 1) := by show _ = _; omega
 have HQ2 : Hid (w1.heap.size = q) := hq
 clear hq hw1 hw2 A1 S1 N1 B2 N2 R2 hR hna hnc ha hc ha4 hc4 hA hS
 go_enter Tryz.func61, Tryz.ntmps61
 go_upto_region 1 with fail
 rw [HW1.out]
 go_upto_region 2 with (first
  | refine wpList_load_mid rfl 29 _ rfl b 2 rfl (Gm.ints l) _ hst hu rfl hi ?_
  | (refine wpList_store_row rfl 29 _ _ rfl w1.heap.size (Gm.ints l).toArray rfl rfl 29 _ N2a hi2 hi3 h1c ?_; rw [HW2.out]))
 rw [HQ2.out]
 go_wp2
 go_loopg [10, 19] na (fun gk _ s19 wr => ∃ (j : Nat) (t : List Int), s19 = .int .i64 j ∧ gk + j = na ∧ Hid (Gm.take l a = Gm.take t (a.drop j) ∧ Gm.Small t ∧ Below X.heap.size X wr ∧ wr.heap[q]? = some (.cells (Gm.ints t).toArray 29 (0, 0)) ∧ wr.heap[X.heap.size]? = some (.cells #[.int .i64 0, .int .i64 0, .int .i64 0, .int .i64 0, .int .i64 0, .int .i64 0, .int .i64 0, .int .i64 0, .int .i64 0, .int .i64 0, .int .i64 0, .int .i64 0, .int .i64 0, .int .i64 0, .int .i64 0, .int .i64 0, .int .i64 0, .int .i64 0, .int .i64 0, .int .i64 0, .int .i64 0, .int .i64 0, .int .i64 0, .int .i64 0, .int .i64 0, .int .i64 0, .int .i64 0, .int .i64 0, .int .i64 0, .int .i64 0, .int .i64 0, .int .i64 0, .int .i64 0, .int .i64 0, .int .i64 0, .int .i64 0, .int .i64 0, .int .i64 0, .int .i64 0, .int .i64 0, .int .i64 0, .int .i64 0, .int .i64 0, .int .i64 0, .int .i64 0, .int .i64 0, .int .i64 0, .int .i64 0, .int .i64 0] 29 (0, 0))))
 case atStart => exact ⟨0, l, rfl, by omega, rfl, HB0.out.1, HB0.out.2.1, by rw [← HQ2.out]; exact HB0.out.2.2.1, HB0.out.2.2.2⟩
 case round =>
  obtain ⟨j, t, rfl, hj, HJ⟩ := hrel
  clear HB0 HW1 HW2
  have HB : Hid (Below X.heap.size X wr) := HJ.out.2.2.1
  have NR := HJ.out.2.2.2.2
  by_cases hlt : j < na
  ·have hd : decide ((j : Int) < na) = true := decide_eq_true (by omega)
   obtain ⟨g, off, f, haf, hf4, rfl, hcf⟩ := HIA.out wr HB.out j hlt
   have hdr : a.drop j = f :: a.drop (j + 1) := by
    obtain ⟨h1, h2⟩ := List.getElem?_eq_some_iff.1 haf
    rw [← h2]; exact List.drop_eq_getElem_cons h1
   obtain ⟨x, hx⟩ : ∃ z, t.getD f 0 = z := ⟨_, rfl⟩
   have hbx := HJ.out.2.1.2 f hf4
   rw [hx] at hbx
   have cx : wr.cell? ⟨q, f, none⟩ = some (.int .i64 x) := by
    have h1 := HJ.out.2.2.2.1
    simp only [World.cell?, h1]
    rw [Gm.ints_get (by have := HJ.out.2.1.1; omega), hx]
    rfl
   have fx : wr.frozen? ⟨q, f, none⟩ = false := by simp [World.frozen?, HJ.out.2.2.2.1]
   have i1 : (f : Int) < 40 := by omega
   have i0 : (0 : Int) ≤ f := by omega
   have j1 : (j : Int) < na := by omega
   have j0 : (0 : Int) ≤ j := by omega
   have HTK : Hid (Gm.take l a = if x = 0 then none else Gm.take (t.set f (x - 1)) (a.drop (j + 1))) := by show _ = _; rw [HJ.out.1, hdr, Gm.take, hx]
   by_cases hx0 : x = 0
   ·have ex : (x == 0) = true := by simp [hx0]
    have HE : Hid (R = none) := by
     show _ = _
     rw [← HR.out.1]; unfold Gm.pass; rw [HTK.out, if_pos hx0]
    clear HJ hx hx0 hbx haf hdr HTK
    go_wp2_with (refine wpList_store_row rfl 29 _ _ rfl X.heap.size #[.int .i64 0, .int .i64 0, .int .i64 0, .int .i64 0, .int .i64 0, .int .i64 0, .int .i64 0, .int .i64 0, .int .i64 0, .int .i64 0, .int .i64 0, .int .i64 0, .int .i64 0, .int .i64 0, .int .i64 0, .int .i64 0, .int .i64 0, .int .i64 0, .int .i64 0, .int .i64 0, .int .i64 0, .int .i64 0, .int .i64 0, .int .i64 0, .int .i64 0, .int .i64 0, .int .i64 0, .int .i64 0, .int .i64 0, .int .i64 0, .int .i64 0, .int .i64 0, .int .i64 0, .int .i64 0, .int .i64 0, .int .i64 0, .int .i64 0, .int .i64 0, .int .i64 0, .int .i64 0, .int .i64 0, .int .i64 0, .int .i64 0, .int .i64 0, .int .i64 0, .int .i64 0, .int .i64 0, .int .i64 0, .int .i64 0] rfl rfl 29 _ NR (by kernel_rfl) rfl (by kernel_rfl) ?_)
    refine bodyPost_ret (Gm.results2 Tryz.results61 _ _ X.heap.size #[.int .i64 0, .int .i64 0, .int .i64 0, .int .i64 0, .int .i64 0, .int .i64 0, .int .i64 0, .int .i64 0, .int .i64 0, .int .i64 0, .int .i64 0, .int .i64 0, .int .i64 0, .int .i64 0, .int .i64 0, .int .i64 0, .int .i64 0, .int .i64 0, .int .i64 0, .int .i64 0, .int .i64 0, .int .i64 0, .int .i64 0, .int .i64 0, .int .i64 0, .int .i64 0, .int .i64 0, .int .i64 0, .int .i64 0, .int .i64 0, .int .i64 0, .int .i64 0, .int .i64 0, .int .i64 0, .int .i64 0, .int .i64 0, .int .i64 0, .int .i64 0, .int .i64 0, .int .i64 0, .int .i64 0, .int .i64 0, .int .i64 0, .int .i64 0, .int .i64 0, .int .i64 0, .int .i64 0, .int .i64 0, .int .i64 0] rfl (run_loadVar_row _ X.heap.size 29 29 #[.int .i64 0, .int .i64 0, .int .i64 0, .int .i64 0, .int .i64 0, .int .i64 0, .int .i64 0, .int .i64 0, .int .i64 0, .int .i64 0, .int .i64 0, .int .i64 0, .int .i64 0, .int .i64 0, .int .i64 0, .int .i64 0, .int .i64 0, .int .i64 0, .int .i64 0, .int .i64 0, .int .i64 0, .int .i64 0, .int .i64 0, .int .i64 0, .int .i64 0, .int .i64 0, .int .i64 0, .int .i64 0, .int .i64 0, .int .i64 0, .int .i64 0, .int .i64 0, .int .i64 0, .int .i64 0, .int .i64 0, .int .i64 0, .int .i64 0, .int .i64 0, .int .i64 0, .int .i64 0, .int .i64 0, .int .i64 0, .int .i64 0, .int .i64 0, .int .i64 0, .int .i64 0, .int .i64 0, .int .i64 0, .int .i64 0] (0, 0) _ (setRow_heap _ _ _ _ _ _ NR) hu rfl (by kernel_rfl))) rfl ⟨?_, Tk.below_row HB.out (Nat.le_refl _) _⟩
    rw [HE.out]
    rfl
   ·have ex : (x == 0) = false := by simpa using hx0
    have HN : Hid (Gm.take l a = Gm.take (t.set f (x - 1)) (a.drop (j + 1)) ∧ Gm.Small (t.set f (x - 1)) ∧ Below X.heap.size X (wr.setCell ⟨q, f, none⟩ (.int .i64 (x - 1))) ∧ (wr.setCell ⟨q, f, none⟩ (.int .i64 (x - 1))).heap[q]? = some (.cells (Gm.ints (t.set f (x - 1))).toArray 29 (0, 0)) ∧ (wr.setCell ⟨q, f, none⟩ (.int .i64 (x - 1))).heap[X.heap.size]? = some (.cells #[.int .i64 0, .int .i64 0, .int .i64 0, .int .i64 0, .int .i64 0, .int .i64 0, .int .i64 0, .int .i64 0, .int .i64 0, .int .i64 0, .int .i64 0, .int .i64 0, .int .i64 0, .int .i64 0, .int .i64 0, .int .i64 0, .int .i64 0, .int .i64 0, .int .i64 0, .int .i64 0, .int .i64 0, .int .i64 0, .int .i64 0, .int .i64 0, .int .i64 0, .int .i64 0, .int .i64 0, .int .i64 0, .int .i64 0, .int .i64 0, .int .i64 0, .int .i64 0, .int .i64 0, .int .i64 0, .int .i64 0, .int .i64 0, .int .i64 0, .int .i64 0, .int .i64 0, .int .i64 0, .int .i64 0, .int .i64 0, .int .i64 0, .int .i64 0, .int .i64 0, .int .i64 0, .int .i64 0, .int .i64 0, .int .i64 0] 29 (0, 0))) := by
     have hqs := HQ.out
     refine ⟨by rw [HTK.out, if_neg hx0], HJ.out.2.1.set hf4 (by omega) (by omega), HB.out.setCell (p := ⟨q, f, none⟩) (by show _ ≤ q; omega) _, Gm.put_row HJ.out.2.2.2.1, ?_⟩
     rw [Below.heap_setCell _ _ _ _ (by show X.heap.size ≠ q; omega)]; exact NR
    have ew : IntKind.i64.wrap (x - 1) = x - 1 := by rw [IntKind.wrap_i64]; omega
    clear HJ hx hx0 haf hdr HTK NR HB
    go_wp2
    go_roundg (gk - 1)
    case measure => omega
    case rel => exact ⟨j + 1, t.set f (x - 1), by go_num, by omega, HN.out⟩
  ·obtain rfl : j = na := by omega
   have hd : decide ((j : Int) < j) = false := decide_eq_false (by omega)
   have HT : Hid (Gm.take l a = some t) := by show _ = _; rw [HJ.out.1, List.drop_eq_nil_of_le (by rw [HR.out.2.1]; exact Nat.le_refl _), Gm.take]
   have HJ2 : Hid (Gm.put t c = R ∧ Gm.Small t ∧ Below X.heap.size X wr ∧ wr.heap[q]? = some (.cells (Gm.ints t).toArray 29 (0, 0)) ∧ wr.heap[X.heap.size]? = some (.cells #[.int .i64 0, .int .i64 0, .int .i64 0, .int .i64 0, .int .i64 0, .int .i64 0, .int .i64 0, .int .i64 0, .int .i64 0, .int .i64 0, .int .i64 0, .int .i64 0, .int .i64 0, .int .i64 0, .int .i64 0, .int .i64 0, .int .i64 0, .int .i64 0, .int .i64 0, .int .i64 0, .int .i64 0, .int .i64 0, .int .i64 0, .int .i64 0, .int .i64 0, .int .i64 0, .int .i64 0, .int .i64 0, .int .i64 0, .int .i64 0, .int .i64 0, .int .i64 0, .int .i64 0, .int .i64 0, .int .i64 0, .int .i64 0, .int .i64 0, .int .i64 0, .int .i64 0, .int .i64 0, .int .i64 0, .int .i64 0, .int .i64 0, .int .i64 0, .int .i64 0, .int .i64 0, .int .i64 0, .int .i64 0, .int .i64 0] 29 (0, 0))) := ⟨by rw [← HR.out.1]; unfold Gm.pass; rw [HT.out], HJ.out.2⟩
   clear HJ HT HB NR
   go_wp2
   go_loopg [12, 39] nc (fun gk _ s39 wi => ∃ (k : Nat) (u : List Int), s39 = .int .i64 k ∧ gk + k = nc ∧ Hid (Gm.put u (c.drop k) = R ∧ Gm.Small u ∧ Below X.heap.size X wi ∧ wi.heap[q]? = some (.cells (Gm.ints u).toArray 29 (0, 0)) ∧ wi.heap[X.heap.size]? = some (.cells #[.int .i64 0, .int .i64 0, .int .i64 0, .int .i64 0, .int .i64 0, .int .i64 0, .int .i64 0, .int .i64 0, .int .i64 0, .int .i64 0, .int .i64 0, .int .i64 0, .int .i64 0, .int .i64 0, .int .i64 0, .int .i64 0, .int .i64 0, .int .i64 0, .int .i64 0, .int .i64 0, .int .i64 0, .int .i64 0, .int .i64 0, .int .i64 0, .int .i64 0, .int .i64 0, .int .i64 0, .int .i64 0, .int .i64 0, .int .i64 0, .int .i64 0, .int .i64 0, .int .i64 0, .int .i64 0, .int .i64 0, .int .i64 0, .int .i64 0, .int .i64 0, .int .i64 0, .int .i64 0, .int .i64 0, .int .i64 0, .int .i64 0, .int .i64 0, .int .i64 0, .int .i64 0, .int .i64 0, .int .i64 0, .int .i64 0] 29 (0, 0))))
   case atStart => exact ⟨0, t, rfl, by omega, HJ2.out⟩
   case round =>
    obtain ⟨k, u, rfl, hk, HJ⟩ := hrel
    clear HJ2
    rename World => wi
    have HB : Hid (Below X.heap.size X wi) := HJ.out.2.2.1
    have NR := HJ.out.2.2.2.2
    by_cases hltk : k < nc
    ·have hd2 : decide ((k : Int) < nc) = true := decide_eq_true (by omega)
     obtain ⟨g, off, f, haf, hf4, rfl, hcf⟩ := HIC.out wi HB.out k hltk
     have hdr : c.drop k = f :: c.drop (k + 1) := by
      obtain ⟨h1, h2⟩ := List.getElem?_eq_some_iff.1 haf
      rw [← h2]; exact List.drop_eq_getElem_cons h1
     obtain ⟨x, hx⟩ : ∃ z, u.getD f 0 = z := ⟨_, rfl⟩
     have hbx := HJ.out.2.1.2 f hf4
     rw [hx] at hbx
     have cx : wi.cell? ⟨q, f, none⟩ = some (.int .i64 x) := by
      have h1 := HJ.out.2.2.2.1
      simp only [World.cell?, h1]
      rw [Gm.ints_get (by have := HJ.out.2.1.1; omega), hx]
      rfl
     have fx : wi.frozen? ⟨q, f, none⟩ = false := by simp [World.frozen?, HJ.out.2.2.2.1]
     have i1 : (f : Int) < 40 := by omega
     have i0 : (0 : Int) ≤ f := by omega
     have j1 : (k : Int) < nc := by omega
     have j0 : (0 : Int) ≤ k := by omega
     have HTK : Hid ((if x = 3 then none else Gm.put (u.set f (x + 1)) (c.drop (k + 1))) = R) := by show _ = _; rw [← HJ.out.1, hdr, Gm.put, hx]
     by_cases hx0 : x = 3
     ·have ex : (x == 3) = true := by simp [hx0]
      have HE : Hid (R = none) := by
       show _ = _
       rw [← HTK.out, if_pos hx0]
      clear HJ hx hx0 hbx haf hdr HTK
      go_wp2_with (refine wpList_store_row rfl 29 _ _ rfl X.heap.size #[.int .i64 0, .int .i64 0, .int .i64 0, .int .i64 0, .int .i64 0, .int .i64 0, .int .i64 0, .int .i64 0, .int .i64 0, .int .i64 0, .int .i64 0, .int .i64 0, .int .i64 0, .int .i64 0, .int .i64 0, .int .i64 0, .int .i64 0, .int .i64 0, .int .i64 0, .int .i64 0, .int .i64 0, .int .i64 0, .int .i64 0, .int .i64 0, .int .i64 0, .int .i64 0, .int .i64 0, .int .i64 0, .int .i64 0, .int .i64 0, .int .i64 0, .int .i64 0, .int .i64 0, .int .i64 0, .int .i64 0, .int .i64 0, .int .i64 0, .int .i64 0, .int .i64 0, .int .i64 0, .int .i64 0, .int .i64 0, .int .i64 0, .int .i64 0, .int .i64 0, .int .i64 0, .int .i64 0, .int .i64 0, .int .i64 0] rfl rfl 29 _ NR (by kernel_rfl) rfl (by kernel_rfl) ?_)
      refine bodyPost_ret (Gm.results2 Tryz.results61 _ _ X.heap.size #[.int .i64 0, .int .i64 0, .int .i64 0, .int .i64 0, .int .i64 0, .int .i64 0, .int .i64 0, .int .i64 0, .int .i64 0, .int .i64 0, .int .i64 0, .int .i64 0, .int .i64 0, .int .i64 0, .int .i64 0, .int .i64 0, .int .i64 0, .int .i64 0, .int .i64 0, .int .i64 0, .int .i64 0, .int .i64 0, .int .i64 0, .int .i64 0, .int .i64 0, .int .i64 0, .int .i64 0, .int .i64 0, .int .i64 0, .int .i64 0, .int .i64 0, .int .i64 0, .int .i64 0, .int .i64 0, .int .i64 0, .int .i64 0, .int .i64 0, .int .i64 0, .int .i64 0, .int .i64 0, .int .i64 0, .int .i64 0, .int .i64 0, .int .i64 0, .int .i64 0, .int .i64 0, .int .i64 0, .int .i64 0, .int .i64 0] rfl (run_loadVar_row _ X.heap.size 29 29 #[.int .i64 0, .int .i64 0, .int .i64 0, .int .i64 0, .int .i64 0, .int .i64 0, .int .i64 0, .int .i64 0, .int .i64 0, .int .i64 0, .int .i64 0, .int .i64 0, .int .i64 0, .int .i64 0, .int .i64 0, .int .i64 0, .int .i64 0, .int .i64 0, .int .i64 0, .int .i64 0, .int .i64 0, .int .i64 0, .int .i64 0, .int .i64 0, .int .i64 0, .int .i64 0, .int .i64 0, .int .i64 0, .int .i64 0, .int .i64 0, .int .i64 0, .int .i64 0, .int .i64 0, .int .i64 0, .int .i64 0, .int .i64 0, .int .i64 0, .int .i64 0, .int .i64 0, .int .i64 0, .int .i64 0, .int .i64 0, .int .i64 0, .int .i64 0, .int .i64 0, .int .i64 0, .int .i64 0, .int .i64 0, .int .i64 0] (0, 0) _ (setRow_heap _ _ _ _ _ _ NR) hu rfl (by kernel_rfl))) rfl ⟨?_, Tk.below_row HB.out (Nat.le_refl _) _⟩
      rw [HE.out]
      rfl
     ·have ex : (x == 3) = false := by simpa using hx0
      have HN : Hid (Gm.put (u.set f (x + 1)) (c.drop (k + 1)) = R ∧ Gm.Small (u.set f (x + 1)) ∧ Below X.heap.size X (wi.setCell ⟨q, f, none⟩ (.int .i64 (x + 1))) ∧ (wi.setCell ⟨q, f, none⟩ (.int .i64 (x + 1))).heap[q]? = some (.cells (Gm.ints (u.set f (x + 1))).toArray 29 (0, 0)) ∧ (wi.setCell ⟨q, f, none⟩ (.int .i64 (x + 1))).heap[X.heap.size]? = some (.cells #[.int .i64 0, .int .i64 0, .int .i64 0, .int .i64 0, .int .i64 0, .int .i64 0, .int .i64 0, .int .i64 0, .int .i64 0, .int .i64 0, .int .i64 0, .int .i64 0, .int .i64 0, .int .i64 0, .int .i64 0, .int .i64 0, .int .i64 0, .int .i64 0, .int .i64 0, .int .i64 0, .int .i64 0, .int .i64 0, .int .i64 0, .int .i64 0, .int .i64 0, .int .i64 0, .int .i64 0, .int .i64 0, .int .i64 0, .int .i64 0, .int .i64 0, .int .i64 0, .int .i64 0, .int .i64 0, .int .i64 0, .int .i64 0, .int .i64 0, .int .i64 0, .int .i64 0, .int .i64 0, .int .i64 0, .int .i64 0, .int .i64 0, .int .i64 0, .int .i64 0, .int .i64 0, .int .i64 0, .int .i64 0, .int .i64 0] 29 (0, 0))) := by
       have hqs := HQ.out
       refine ⟨by rw [← HTK.out, if_neg hx0], HJ.out.2.1.set hf4 (by omega) (by omega), HB.out.setCell (p := ⟨q, f, none⟩) (by show _ ≤ q; omega) _, Gm.put_row HJ.out.2.2.2.1, ?_⟩
       rw [Below.heap_setCell _ _ _ _ (by show X.heap.size ≠ q; omega)]; exact NR
      have ew : IntKind.i64.wrap (x + 1) = x + 1 := by rw [IntKind.wrap_i64]; omega
      clear HJ hx hx0 haf hdr HTK NR HB
      go_wp2
      go_roundg (gk - 1)
      case measure => omega
      case rel => exact ⟨k + 1, u.set f (x + 1), by go_num, by omega, HN.out⟩
    ·obtain rfl : k = nc := by omega
     have hd2 : decide ((k : Int) < k) = false := decide_eq_false (by omega)
     have HE : Hid (R = some u) := by show _ = _; rw [← HJ.out.1, List.drop_eq_nil_of_le (by rw [HR.out.2.2]; exact Nat.le_refl _), Gm.put]
     have NU := HJ.out.2.2.2.1
     have hiu : (Tryz.prog.info? 29).map (·.size) = some (Gm.ints u).toArray.size := by
      have : (Gm.ints u).toArray.size = 49 := by simpa [Gm.ints_length] using HJ.out.2.1.1
      rw [this]; exact HI49.out
     have hiz : (#[.int .i64 0, .int .i64 0, .int .i64 0, .int .i64 0, .int .i64 0, .int .i64 0, .int .i64 0, .int .i64 0, .int .i64 0, .int .i64 0, .int .i64 0, .int .i64 0, .int .i64 0, .int .i64 0, .int .i64 0, .int .i64 0, .int .i64 0, .int .i64 0, .int .i64 0, .int .i64 0, .int .i64 0, .int .i64 0, .int .i64 0, .int .i64 0, .int .i64 0, .int .i64 0, .int .i64 0, .int .i64 0, .int .i64 0, .int .i64 0, .int .i64 0, .int .i64 0, .int .i64 0, .int .i64 0, .int .i64 0, .int .i64 0, .int .i64 0, .int .i64 0, .int .i64 0, .int .i64 0, .int .i64 0, .int .i64 0, .int .i64 0, .int .i64 0, .int .i64 0, .int .i64 0, .int .i64 0, .int .i64 0, .int .i64 0] : Array Value).size = (Gm.ints u).toArray.size := by
      have : (Gm.ints u).toArray.size = 49 := by simpa [Gm.ints_length] using HJ.out.2.1.1
      rw [this]; rfl
     have h1u : (Gm.ints u).toArray.all (·.oneCell') = true := all_oneCell_toArray (Gm.ints_one u)
     clear HJ
     go_wp2_with (first
      | refine wpList_load_row rfl 29 _ rfl _ rfl 29 (Gm.ints u).toArray (0, 0) _ NU hu rfl hiu ?_
      | refine wpList_store_row rfl 29 _ _ rfl X.heap.size (Gm.ints u).toArray rfl rfl 29 _ NR hiu hiz h1u ?_)
     refine bodyPost_ret (Gm.results2 Tryz.results61 _ _ X.heap.size (Gm.ints u).toArray rfl (run_loadVar_row _ X.heap.size 29 29 (Gm.ints u).toArray (0, 0) _ (setRow_heap _ _ _ _ _ _ NR) hu rfl hiu)) rfl ⟨?_, Tk.below_row HB.out (Nat.le_refl _) _⟩
     rw [HE.out]
     rfl
end Go.Proofs
