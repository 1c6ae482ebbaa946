import Derived.Test.YtndfbgfpnjnmlaaGreatDoorRGmCatch
namespace Go.Proofs
open Go.RowKit Go.Shelf
namespace Gm
def bools (l : List Bool) : List Value := l.map fun x => .bool x
theorem bools_length (l : List Bool) : (bools l).length = l.length := by simp [bools]
theorem bools_one (l : List Bool) : ∀ v ∈ bools l, v.oneCell' = true := fun v hv => by
 obtain ⟨x, _, rfl⟩ := List.mem_map.1 hv
 rfl
theorem bools_get {t : List Bool} {f : Nat} (h : f < t.length) : (bools t).toArray[f]? = some (.bool (t.getD f false)) := by
 simp [bools, List.getElem?_map, List.getElem?_eq_getElem h, List.getD_eq_getElem?_getD]
theorem put_bool {W : World} {q f : Nat} {t : List Bool} {ty : TypeId} {x : Bool} (h : W.heap[q]? = some (.cells (bools t).toArray ty (0, 0))) : (W.setCell ⟨q, f, none⟩ (.bool x)).heap[q]? = some (.cells (bools (t.set f x)).toArray ty (0, 0)) := by
 have e : (bools t).toArray.setIfInBounds f (.bool x) = (bools (t.set f x)).toArray := by simp [bools, List.map_set]
 rw [← e]
 simp [World.setCell, Array.getElem?_modify, h]
def reachL (fs : List Fl) (l : List Int) (k : Nat) : List Bool := (List.range 24).map fun i => (List.range k).any fun f => decide (0 < l.getD f 0) && decide (toOf fs f = i)
theorem reachL_length (fs : List Fl) (l : List Int) (k : Nat) : (reachL fs l k).length = 24 := by simp [reachL]
theorem reachL_get (fs : List Fl) (l : List Int) (i : Nat) (h : i < 24) : (reachL fs l fs.length).getD i false = reachedB fs l i := by
 simp [reachL, reachedB, List.getD_eq_getElem?_getD, List.getElem?_map, List.getElem?_range h]
theorem reachL_at (fs : List Fl) (l : List Int) (k i : Nat) : (reachL fs l k)[i]? = if i < 24 then some ((List.range k).any fun f => decide (0 < l.getD f 0) && decide (toOf fs f = i)) else none := by
 unfold reachL
 rw [List.getElem?_map]
 by_cases h : i < 24
 ·rw [if_pos h, List.getElem?_range h]; rfl
 ·rw [if_neg h, List.getElem?_eq_none (by simp; omega)]; rfl
theorem reach_step (fs : List Fl) (l : List Int) (j t : Nat) (ht : toOf fs j = t) (h24 : t < 24) : reachL fs l (j + 1) = if 0 < l.getD j 0 then (reachL fs l j).set t true else reachL fs l j := by
 apply List.ext_getElem?
 intro i
 have e1 : ((List.range (j + 1)).any fun f => decide (0 < l.getD f 0) && decide (toOf fs f = i)) = ((List.range j).any (fun f => decide (0 < l.getD f 0) && decide (toOf fs f = i)) || (decide (0 < l.getD j 0) && decide (t = i))) := by
  rw [List.range_succ, List.any_append, List.any_cons, List.any_nil, Bool.or_false, ht]
 rw [reachL_at, e1]
 by_cases h0 : 0 < l.getD j 0
 ·rw [if_pos h0, List.getElem?_set, reachL_at, reachL_length, decide_eq_true h0, Bool.true_and]
  by_cases hti : t = i
  ·subst hti
   simp [h24]
  ·rw [if_neg hti, decide_eq_false hti, Bool.or_false]
 ·rw [if_neg h0, reachL_at, decide_eq_false h0, Bool.false_and, Bool.or_false]
theorem run_indexB (cs : Array Value) (j : Nat) (x : Bool) (hj : j < 24) (hc : cs[j]? = some (.bool x)) (W : World) : (Instr.index 102 (.agg cs) (.int .i64 (j : Int))).run Tryz.prog W = .ok (.bool x) W := by
 have h1 : (0 : Int) ≤ j ∧ (j : Int) < ((24 : Nat) : Int) := by omega
 have h2 : (j : Int) < 24 := by omega
 simp [Instr.index, run_underlying Tryz.underlying102, asIntOf, part, Tryz.isAgg4, Tryz.sizeOf4, hc, go_sem]
 intro h; omega
end Gm
set_option maxRecDepth 20000 in
set_option maxHeartbeats 16000000 in
theorem Tryz.reached_any (an : Option Addr) (n cn : Nat) (af : Option Addr) (m cf : Nat) (l : List Int) (X : World) (d : Nat) (fs : List Fl) (hF : Nt.Fls X X.heap.size d af fs) (hm : fs.length = m) (hm1 : m ≤ 40) (hll : l.length = 49) (hto : ∀ f, f ∈ fs → 0 ≤ f.to ∧ f.to < 24) :
  Calls Tryz.prog 40 #[.agg #[.slice an n cn, .slice af m cf], .agg (Gm.ints l).toArray] X fun e w' => e = .returned (.agg (Gm.bools (Gm.reachL fs l m)).toArray) ∧ Below X.heap.size X w' := by
 obtain ⟨w1, hw1⟩ : ∃ z, (((X.alloc (.cells #[.slice an n cn, .slice af m cf] 25)).alloc (.cells (Gm.ints l).toArray 29)).alloc (.cells #[.bool false, .bool false, .bool false, .bool false, .bool false, .bool false, .bool false, .bool false, .bool false, .bool false, .bool false, .bool false, .bool false, .bool false, .bool false, .bool false, .bool false, .bool false, .bool false, .bool false, .bool false, .bool false, .bool false, .bool false] 102)).alloc (.cells #[.bool false, .bool false, .bool false, .bool false, .bool false, .bool false, .bool false, .bool false, .bool false, .bool false, .bool false, .bool false, .bool false, .bool false, .bool false, .bool false, .bool false, .bool false, .bool false, .bool false, .bool false, .bool false, .bool false, .bool false] 102) = z := ⟨_, rfl⟩
 have A1 : Below X.heap.size X w1 := by rw [← hw1]; exact ((((Below.refl _ X).alloc (Nat.le_refl _) _).alloc (by simp) _).alloc (by simp; omega) _).alloc (by simp; omega) _
 have P0 : w1.heap[X.heap.size]? = some (.cells #[.slice an n cn, .slice af m cf] 25 (0, 0)) := by
  rw [← hw1, Below.heap_alloc _ _ _ (by simp; omega), Below.heap_alloc _ _ _ (by simp; omega), Below.heap_alloc _ _ _ (by simp)]; exact heap_alloc_new X _
 have P1 : w1.heap[X.heap.size + 1]? = some (.cells (Gm.ints l).toArray 29 (0, 0)) := by
  rw [← hw1, Below.heap_alloc _ _ _ (by simp), Below.heap_alloc _ _ _ (by simp)]
  have := heap_alloc_new (X.alloc (.cells #[.slice an n cn, .slice af m cf] 25)) (.cells (Gm.ints l).toArray 29)
  simpa using this
 have P2 : w1.heap[X.heap.size + 1 + 1]? = some (.cells #[.bool false, .bool false, .bool false, .bool false, .bool false, .bool false, .bool false, .bool false, .bool false, .bool false, .bool false, .bool false, .bool false, .bool false, .bool false, .bool false, .bool false, .bool false, .bool false, .bool false, .bool false, .bool false, .bool false, .bool false] 102 (0, 0)) := by
  rw [← hw1, Below.heap_alloc _ _ _ (by simp)]
  have := heap_alloc_new ((X.alloc (.cells #[.slice an n cn, .slice af m cf] 25)).alloc (.cells (Gm.ints l).toArray 29)) (.cells #[.bool false, .bool false, .bool false, .bool false, .bool false, .bool false, .bool false, .bool false, .bool false, .bool false, .bool false, .bool false, .bool false, .bool false, .bool false, .bool false, .bool false, .bool false, .bool false, .bool false, .bool false, .bool false, .bool false, .bool false] 102)
  simpa using this
 have P3 : w1.heap[X.heap.size + 1 + 1 + 1]? = some (.cells (Gm.bools (Gm.reachL fs l 0)).toArray 102 (0, 0)) := by
  rw [← hw1]
  have := heap_alloc_new (((X.alloc (.cells #[.slice an n cn, .slice af m cf] 25)).alloc (.cells (Gm.ints l).toArray 29)).alloc (.cells #[.bool false, .bool false, .bool false, .bool false, .bool false, .bool false, .bool false, .bool false, .bool false, .bool false, .bool false, .bool false, .bool false, .bool false, .bool false, .bool false, .bool false, .bool false, .bool false, .bool false, .bool false, .bool false, .bool false, .bool false] 102)) (.cells #[.bool false, .bool false, .bool false, .bool false, .bool false, .bool false, .bool false, .bool false, .bool false, .bool false, .bool false, .bool false, .bool false, .bool false, .bool false, .bool false, .bool false, .bool false, .bool false, .bool false, .bool false, .bool false, .bool false, .bool false] 102)
  have e : (Gm.bools (Gm.reachL fs l 0)).toArray = #[.bool false, .bool false, .bool false, .bool false, .bool false, .bool false, .bool false, .bool false, .bool false, .bool false, .bool false, .bool false, .bool false, .bool false, .bool false, .bool false, .bool false, .bool false, .bool false, .bool false, .bool false, .bool false, .bool false, .bool false] := rfl
  rw [e]
  simpa using this
 have HFC : Hid (∀ W, Below X.heap.size X W → ∀ f, f < m → ∃ (g off : Nat) (ua : Option Addr) (un uc : Nat) (x : Fl) (t : Nat), af = some ⟨g, off, none⟩ ∧ Gm.toOf fs f = t ∧ t < 24 ∧ W.cell? ⟨g, off + f * 6, none⟩ = some (.int .i64 x.fr) ∧ W.cell? ⟨g, off + f * 6 + 1, none⟩ = some (.int .i64 t) ∧ W.cell? ⟨g, off + f * 6 + 2, none⟩ = some (.bool x.els) ∧ W.cell? ⟨g, off + f * 6 + 3, none⟩ = some (.int .i64 x.c.op) ∧ W.cell? ⟨g, off + f * 6 + 4, none⟩ = some (.int .i64 x.c.num) ∧ W.cell? ⟨g, off + f * 6 + 5, none⟩ = some (.slice ua un uc)) := fun W hb f hf => by
  have hj : f < fs.length := by omega
  obtain ⟨g, off, u, h1, h2, c0, c1, c2, c3, c4, c5, h3⟩ := (hF.below hb) f hj
  obtain ⟨ua, uc, rfl⟩ := h3.shape
  have ht := hto _ (List.getElem_mem hj)
  have et : fs[f].to = ((Gm.toOf fs f : Nat) : Int) := by
   unfold Gm.toOf
   rw [List.getElem?_eq_getElem hj]
   show _ = ((fs[f].to.toNat : Nat) : Int)
   omega
  refine ⟨g, off, ua, _, uc, fs[f], Gm.toOf fs f, h1, rfl, by omega, c0, ?_, c2, c3, c4, c5⟩
  rw [← et]; exact c1
 have HP : Hid (w1.heap[X.heap.size]? = some (.cells #[.slice an n cn, .slice af m cf] 25 (0, 0)) ∧ w1.heap[X.heap.size + 1]? = some (.cells (Gm.ints l).toArray 29 (0, 0)) ∧ w1.heap[X.heap.size + 1 + 1]? = some (.cells #[.bool false, .bool false, .bool false, .bool false, .bool false, .bool false, .bool false, .bool false, .bool false, .bool false, .bool false, .bool false, .bool false, .bool false, .bool false, .bool false, .bool false, .bool false, .bool false, .bool false, .bool false, .bool false, .bool false, .bool false] 102 (0, 0)) ∧ w1.heap[X.heap.size + 1 + 1 + 1]? = some (.cells (Gm.bools (Gm.reachL fs l 0)).toArray 102 (0, 0)) ∧ Below X.heap.size X w1) := ⟨P0, P1, P2, P3, A1⟩
 have HLL : Hid (l.length = 49) := hll
 have hu := Tryz.underlying102
 have HI : Hid (∀ bs : List Bool, bs.length = 24 → (Tryz.prog.info? 102).map (·.size) = some (Gm.bools bs).toArray.size ∧ (#[.bool false, .bool false, .bool false, .bool false, .bool false, .bool false, .bool false, .bool false, .bool false, .bool false, .bool false, .bool false, .bool false, .bool false, .bool false, .bool false, .bool false, .bool false, .bool false, .bool false, .bool false, .bool false, .bool false, .bool false] : Array Value).size = (Gm.bools bs).toArray.size ∧ (Gm.bools bs).toArray.all (·.oneCell') = true) := fun t ht => by
  have h : (Gm.bools t).toArray.size = 24 := by simpa [Gm.bools_length] using ht
  refine ⟨by rw [h]; kernel_rfl, by rw [h]; rfl, all_oneCell_toArray (Gm.bools_one t)⟩
 have HW1 : Hid _ := hw1
 have g1 : w1.cell? ⟨X.heap.size, 1, none⟩ = some (.slice af m cf) := by simp [World.cell?, P0]
 clear hw1 A1 P0 P1 P2 P3 hF hm hll hto
 go_enter Tryz.func40, Tryz.ntmps40
 go_upto_region 2 with fail
 rw [HW1.out]
 clear HW1
 go_wp2
 go_loopg [6, 7, 11] m (fun gk _ _ s11 wr => ∃ (j : Nat), s11 = .int .i64 j ∧ gk + j = m ∧ Hid (wr.heap[X.heap.size + 1]? = some (.cells (Gm.ints l).toArray 29 (0, 0)) ∧ wr.heap[X.heap.size + 1 + 1]? = some (.cells #[.bool false, .bool false, .bool false, .bool false, .bool false, .bool false, .bool false, .bool false, .bool false, .bool false, .bool false, .bool false, .bool false, .bool false, .bool false, .bool false, .bool false, .bool false, .bool false, .bool false, .bool false, .bool false, .bool false, .bool false] 102 (0, 0)) ∧ wr.heap[X.heap.size + 1 + 1 + 1]? = some (.cells (Gm.bools (Gm.reachL fs l j)).toArray 102 (0, 0)) ∧ Below X.heap.size X wr))
 case atStart => exact ⟨0, rfl, by omega, HP.out.2⟩
 case round =>
  obtain ⟨j, rfl, hj, HJ⟩ := hrel
  clear HP g1
  by_cases hlt : j < m
  ·have hd : decide ((j : Int) < m) = true := decide_eq_true (by omega)
   obtain ⟨g, off, ua, un, uc, x, t, rfl, ht, ht24, c0, c1, c2, c3, c4, c5⟩ := HFC.out wr HJ.out.2.2.2 j hlt
   obtain ⟨f0, hf0⟩ : ∃ z, x.fr = z := ⟨_, rfl⟩
   obtain ⟨f2, hf2⟩ : ∃ z, x.els = z := ⟨_, rfl⟩
   obtain ⟨f3, hf3⟩ : ∃ z, x.c.op = z := ⟨_, rfl⟩
   obtain ⟨f4, hf4⟩ : ∃ z, x.c.num = z := ⟨_, rfl⟩
   rw [hf0] at c0
   rw [hf2] at c2
   rw [hf3] at c3
   rw [hf4] at c4
   clear hf0 hf2 hf3 hf4
   obtain ⟨y, hy⟩ : ∃ z, l.getD j 0 = z := ⟨_, rfl⟩
   have HST : Hid (Gm.reachL fs l (j + 1) = if 0 < y then (Gm.reachL fs l j).set t true else Gm.reachL fs l j) := by show _ = _; rw [← hy]; exact Gm.reach_step fs l j t ht ht24
   obtain ⟨W1, hW1⟩ : ∃ z, (wr.alloc (.cells #[.int .i64 0, .int .i64 0, .bool false, .int .i64 0, .int .i64 0, .slice none 0 0] 73)).setRow wr.heap.size #[.int .i64 f0, .int .i64 t, .bool f2, .int .i64 f3, .int .i64 f4, .slice ua un uc] = z := ⟨_, rfl⟩
   have Na : (wr.alloc (.cells #[.int .i64 0, .int .i64 0, .bool false, .int .i64 0, .int .i64 0, .slice none 0 0] 73)).heap[wr.heap.size]? = some (.cells #[.int .i64 0, .int .i64 0, .bool false, .int .i64 0, .int .i64 0, .slice none 0 0] 73 (0, 0)) := heap_alloc_new wr _
   have N1 : W1.heap[wr.heap.size]? = some (.cells #[.int .i64 f0, .int .i64 t, .bool f2, .int .i64 f3, .int .i64 f4, .slice ua un uc] 73 (0, 0)) := by rw [← hW1]; exact setRow_heap _ _ _ _ _ _ Na
   have hB1 : Below wr.heap.size wr W1 := by rw [← hW1]; exact Tk.below_row ((Below.refl _ wr).alloc (Nat.le_refl _) _) (Nat.le_refl _) _
   have HJ1 : Hid (W1.heap[X.heap.size + 1]? = some (.cells (Gm.ints l).toArray 29 (0, 0)) ∧ W1.heap[X.heap.size + 1 + 1]? = some (.cells #[.bool false, .bool false, .bool false, .bool false, .bool false, .bool false, .bool false, .bool false, .bool false, .bool false, .bool false, .bool false, .bool false, .bool false, .bool false, .bool false, .bool false, .bool false, .bool false, .bool false, .bool false, .bool false, .bool false, .bool false] 102 (0, 0)) ∧ W1.heap[X.heap.size + 1 + 1 + 1]? = some (.cells (Gm.bools (Gm.reachL fs l j)).toArray 102 (0, 0)) ∧ Below X.heap.size X W1) := by
    obtain ⟨h1, h2, h3, h4⟩ := HJ.out
    refine ⟨?_, ?_, ?_, h4.trans (hB1.mono h4.size)⟩
    ·rw [hB1.block _ (Gm.blk_lt h1)]; exact h1
    ·rw [hB1.block _ (Gm.blk_lt h2)]; exact h2
    ·rw [hB1.block _ (Gm.blk_lt h3)]; exact h3
   have k1 : W1.cell? ⟨X.heap.size + 1, j, none⟩ = some (.int .i64 y) := by
    have h1 := HJ1.out.1
    simp only [World.cell?, h1]
    rw [Gm.ints_get (by have := HLL.out; omega), hy]
    rfl
   have k2 : W1.cell? ⟨wr.heap.size, 1, none⟩ = some (.int .i64 t) := by simp [World.cell?, N1]
   have k3 : W1.cell? ⟨X.heap.size + 1 + 1 + 1, t, none⟩ = some (.bool ((Gm.reachL fs l j).getD t false)) := by
    have h1 := HJ1.out.2.2.1
    simp only [World.cell?, h1]
    rw [Gm.bools_get (by rw [Gm.reachL_length]; exact ht24)]
    rfl
   have k4 : W1.frozen? ⟨X.heap.size + 1 + 1 + 1, t, none⟩ = false := by simp [World.frozen?, HJ1.out.2.2.1]
   have j1 : (j : Int) < m := by omega
   have j2 : (j : Int) < 40 := by omega
   have j0 : (0 : Int) ≤ j := by omega
   have i1 : (t : Int) < 24 := by omega
   have i0 : (0 : Int) ≤ t := by omega
   have HW1 : Hid _ := hW1
   clear hW1 N1 hB1 ht hy HJ
   go_upto_region 5 with (refine wpList_store_row rfl 73 _ _ rfl wr.heap.size #[.int .i64 f0, .int .i64 t, .bool f2, .int .i64 f3, .int .i64 f4, .slice ua un uc] rfl rfl 73 _ Na (by kernel_rfl) rfl (by kernel_rfl) ?_; rw [HW1.out])
   clear Na c0 c1 c2 c3 c4 c5
   by_cases hy0 : 0 < y
   ·have e0 : decide (0 < y) = true := decide_eq_true hy0
    have HN : Hid ((W1.setCell ⟨X.heap.size + 1 + 1 + 1, t, none⟩ (.bool true)).heap[X.heap.size + 1]? = some (.cells (Gm.ints l).toArray 29 (0, 0)) ∧ (W1.setCell ⟨X.heap.size + 1 + 1 + 1, t, none⟩ (.bool true)).heap[X.heap.size + 1 + 1]? = some (.cells #[.bool false, .bool false, .bool false, .bool false, .bool false, .bool false, .bool false, .bool false, .bool false, .bool false, .bool false, .bool false, .bool false, .bool false, .bool false, .bool false, .bool false, .bool false, .bool false, .bool false, .bool false, .bool false, .bool false, .bool false] 102 (0, 0)) ∧ (W1.setCell ⟨X.heap.size + 1 + 1 + 1, t, none⟩ (.bool true)).heap[X.heap.size + 1 + 1 + 1]? = some (.cells (Gm.bools (Gm.reachL fs l (j + 1))).toArray 102 (0, 0)) ∧ Below X.heap.size X (W1.setCell ⟨X.heap.size + 1 + 1 + 1, t, none⟩ (.bool true))) := by
     obtain ⟨h1, h2, h3, h4⟩ := HJ1.out
     refine ⟨?_, ?_, ?_, h4.setCell (p := ⟨X.heap.size + 1 + 1 + 1, t, none⟩) (by show _ ≤ X.heap.size + 1 + 1 + 1; omega) _⟩
     ·rw [Below.heap_setCell _ _ _ _ (by show X.heap.size + 1 ≠ X.heap.size + 1 + 1 + 1; omega)]; exact h1
     ·rw [Below.heap_setCell _ _ _ _ (by show X.heap.size + 1 + 1 ≠ X.heap.size + 1 + 1 + 1; omega)]; exact h2
     ·rw [HST.out, if_pos hy0]; exact Gm.put_bool h3
    clear HJ1 HST hy0
    go_wp2
    go_roundg (gk - 1)
    case measure => omega
    case rel => exact ⟨j + 1, by go_num, by omega, HN.out⟩
   ·have e0 : decide (0 < y) = false := decide_eq_false hy0
    have HN : Hid (W1.heap[X.heap.size + 1]? = some (.cells (Gm.ints l).toArray 29 (0, 0)) ∧ W1.heap[X.heap.size + 1 + 1]? = some (.cells #[.bool false, .bool false, .bool false, .bool false, .bool false, .bool false, .bool false, .bool false, .bool false, .bool false, .bool false, .bool false, .bool false, .bool false, .bool false, .bool false, .bool false, .bool false, .bool false, .bool false, .bool false, .bool false, .bool false, .bool false] 102 (0, 0)) ∧ W1.heap[X.heap.size + 1 + 1 + 1]? = some (.cells (Gm.bools (Gm.reachL fs l (j + 1))).toArray 102 (0, 0)) ∧ Below X.heap.size X W1) := by
     obtain ⟨h1, h2, h3, h4⟩ := HJ1.out
     exact ⟨h1, h2, by rw [HST.out, if_neg hy0]; exact h3, h4⟩
    clear HJ1 HST hy0
    go_wp2
    go_roundg (gk - 1)
    case measure => omega
    case rel => exact ⟨j + 1, by go_num, by omega, HN.out⟩
  ·obtain rfl : j = m := by omega
   have hd : decide ((j : Int) < j) = false := decide_eq_false (by omega)
   obtain ⟨bs, hbs⟩ : ∃ z, Gm.reachL fs l j = z := ⟨_, rfl⟩
   have hb24 : bs.length = 24 := by rw [← hbs]; exact Gm.reachL_length _ _ _
   have HB : Hid (Below X.heap.size X wr ∧ Gm.reachL fs l j = bs) := ⟨HJ.out.2.2.2, hbs⟩
   have N2 := HJ.out.2.1
   have N3 := HJ.out.2.2.1
   rw [hbs] at N3
   obtain ⟨e1, e2, e3⟩ := HI.out bs hb24
   clear HJ hbs
   go_wp2_with (first
    | refine wpList_load_row rfl 102 _ rfl _ rfl 102 (Gm.bools bs).toArray (0, 0) _ N3 hu rfl e1 ?_
    | refine wpList_store_row rfl 102 _ _ rfl (X.heap.size + 1 + 1) (Gm.bools bs).toArray rfl rfl 102 _ N2 e1 e2 e3 ?_)
   refine bodyPost_ret (v := .agg (Gm.bools bs).toArray) (results_cell_row Tryz.results40 _ _ (X.heap.size + 1 + 1) 102 (Gm.bools bs).toArray (0, 0) _ rfl (setRow_heap _ _ _ _ _ _ N2) hu rfl e1) rfl ⟨by rw [HB.out.2], Tk.below_row HB.out.1 (by omega) _⟩
end Go.Proofs
namespace Go.Proofs
open Go.RowKit Go.Shelf
set_option maxRecDepth 20000 in
set_option maxHeartbeats 16000000 in
theorem Tryz.arrivals_any (w0 : World) (B b : Nat) (an : Option Addr) (n cn : Nat) (af : Option Addr) (m cf : Nat) (l : List Int) (want : Int) (p : List Mv × List Int) (X : World) (hG : Gm.G w0 B b an n cn af m cf l want p.1 p.2 X) (hl : p.1.length ≤ 5000)
  (d : Nat) (ns : List Nd) (hN : Nt.Nds w0 b d an ns) (hn : ns.length = n) (hn1 : n ≤ 100) (hQ : ∀ k, k < 4 → 0 ≤ l.getD (44 + k) 0 ∧ l.getD (44 + k) 0 ≤ 3) :
  Calls Tryz.prog 42 #[.pointer (some ⟨b, 0, none⟩)] X fun e' w' => e' = .returned (.tuple #[]) ∧ Gm.G w0 B b an n cn af m cf l want (Gm.goes want p ((List.range 4).flatMap fun k => Gm.arriveS ns l k)).1 (Gm.goes want p ((List.range 4).flatMap fun k => Gm.arriveS ns l k)).2 w' := by
 obtain ⟨R, hR⟩ : ∃ R, Gm.goes want p ((List.range 4).flatMap fun k => Gm.arriveS ns l k) = R := ⟨_, rfl⟩
 rw [hR]
 have H0 : Hid (Gm.goes want p (((List.range 4).drop 0).flatMap fun k => Gm.arriveS ns l k) = R ∧ Gm.G w0 B b an n cn af m cf l want p.1 p.2 X ∧ p.1.length ≤ 5000 + 0) := ⟨hR, hG, hl⟩
 have HLL : Hid (l.length = 49) := by obtain ⟨v, hA, _⟩ := hG.game; exact hA.ll
 have HC : Hid (∀ (W : World) (p' : List Mv × List Int) (j : Nat), Gm.G w0 B b an n cn af m cf l want p'.1 p'.2 W → Calls Tryz.prog 65 #[.agg #[.slice an n cn, .slice af m cf], .int .i64 (j : Int)] W fun e w' => e = .returned (.bool (Nt.awaitsB ns (j : Int))) ∧ Below W.heap.size W w') := fun W p' j h => by
  have h1 := Gm.nds_fr hN h.lt h.fr
  have hb : b < W.heap.size := by obtain ⟨v, hA, _⟩ := h.game; exact hA.lt
  have h2 := Tryz.awaits_any (j : Int) an cn d af m cf ns W (h1.wider (by omega)) (by omega)
  rw [hn] at h2
  exact h2
 have HQQ : Hid (∀ k, k < 4 → 0 ≤ l.getD (44 + k) 0 ∧ l.getD (44 + k) 0 ≤ 3) := hQ
 have HCELL : Hid (∀ (W : World) (p' : List Mv × List Int), Gm.G w0 B b an n cn af m cf l want p'.1 p'.2 W → W.cell? ⟨b, 0, none⟩ = some (.slice an n cn) ∧ W.cell? ⟨b, 1, none⟩ = some (.slice af m cf) ∧ W.rangeAt b 2 (Gm.ints l) ∧ ∀ j, j < 4 → W.cell? ⟨b, 46 + j, none⟩ = some (.int .i64 (l.getD (44 + j) 0))) := fun W p' h => by
  obtain ⟨v, hA, _⟩ := h.game
  refine ⟨hA.net0, hA.net1, hA.st, fun j hj => ?_⟩
  have h1 := hA.st (44 + j) (.int .i64 (l.getD (44 + j) 0)) (by have h2 := Gm.ints_get (t := l) (f := 44 + j) (by have := hA.ll; omega); simpa using h2)
  have e : 2 + (44 + j) = 46 + j := by omega
  rw [e] at h1
  exact h1
 have hu := Tryz.underlying29
 have HI49 : Hid (∀ t : List Int, t.length = 49 → (Tryz.prog.info? 29).map (·.size) = some (Gm.ints t).toArray.size ∧ (#[.int .i64 0, .int .i64 0, .int .i64 0, .int .i64 0, .int .i64 0, .int .i64 0, .int .i64 0, .int .i64 0, .int .i64 0, .int .i64 0, .int .i64 0, .int .i64 0, .int .i64 0, .int .i64 0, .int .i64 0, .int .i64 0, .int .i64 0, .int .i64 0, .int .i64 0, .int .i64 0, .int .i64 0, .int .i64 0, .int .i64 0, .int .i64 0, .int .i64 0, .int .i64 0, .int .i64 0, .int .i64 0, .int .i64 0, .int .i64 0, .int .i64 0, .int .i64 0, .int .i64 0, .int .i64 0, .int .i64 0, .int .i64 0, .int .i64 0, .int .i64 0, .int .i64 0, .int .i64 0, .int .i64 0, .int .i64 0, .int .i64 0, .int .i64 0, .int .i64 0, .int .i64 0, .int .i64 0, .int .i64 0, .int .i64 0] : Array Value).size = (Gm.ints t).toArray.size ∧ (Gm.ints t).toArray.all (·.oneCell') = true) := fun t ht => by
  have h : (Gm.ints t).toArray.size = 49 := by simpa [Gm.ints_length] using ht
  refine ⟨by rw [h]; kernel_rfl, by rw [h]; rfl, all_oneCell_toArray (Gm.ints_one t)⟩
 clear hR hG hl hN hn hQ
 go_enter Tryz.func42, Tryz.ntmps42
 go_wp2
 go_loopg [2, 3, 4] 4 (fun gk _ _ s4 wr => ∃ (j : Nat) (p' : List Mv × List Int), s4 = .int .i64 j ∧ gk + j = 4 ∧ Hid (Gm.goes want p' (((List.range 4).drop j).flatMap fun k => Gm.arriveS ns l k) = R ∧ Gm.G w0 B b an n cn af m cf l want p'.1 p'.2 wr ∧ p'.1.length ≤ 5000 + j))
 case atStart => exact ⟨0, p, rfl, by omega, H0.out⟩
 case round =>
  obtain ⟨j, p', rfl, hj, HJ⟩ := hrel
  clear H0
  by_cases hlt : j < 4
  ·have hd : decide ((j : Int) < 4) = true := decide_eq_true (by omega)
   have hdr : (List.range 4).drop j = j :: (List.range 4).drop (j + 1) := by rw [List.drop_eq_getElem_cons (by simpa using hlt)]; simp
   have HGO : Hid (Gm.goes want p' (Gm.arriveS ns l j ++ ((List.range 4).drop (j + 1)).flatMap fun k => Gm.arriveS ns l k) = R) := by
    have h1 := HJ.out.1
    rw [hdr, List.flatMap_cons] at h1
    exact h1
   obtain ⟨c0, c1, -, c3⟩ := HCELL.out wr p' HJ.out.2.1
   have HCA := HC.out wr p' j HJ.out.2.1
   obtain ⟨aw, haw⟩ : ∃ z, Nt.awaitsB ns (j : Int) = z := ⟨_, rfl⟩
   rw [haw] at HCA
   have HCB : Hid _ := HCA
   have HAW : Hid (Nt.awaitsB ns (j : Int) = aw) := haw
   obtain ⟨y, hy⟩ : ∃ z, l.getD (44 + j) 0 = z := ⟨_, rfl⟩
   have hy3 : 0 ≤ y ∧ y ≤ 3 := by rw [← hy]; exact HQQ.out j hlt
   have HY : Hid (l.getD (44 + j) 0 = y) := hy
   have j1 : (j : Int) < 4 := by omega
   have j0 : (0 : Int) ≤ j := by omega
   have HGJ : Hid (Gm.G w0 B b an n cn af m cf l want p'.1 p'.2 wr ∧ p'.1.length ≤ 5000 + j) := ⟨HJ.out.2.1, HJ.out.2.2⟩
   clear hdr HCA haw hy c3 HJ
   go_wp2_with fail
   refine Calls.mono HCB.out ?_
   rintro e W2 ⟨rfl, b2⟩
   have G2 := HGJ.out.1.below b2
   have HG2 : Hid (Gm.G w0 B b an n cn af m cf l want p'.1 p'.2 W2) := G2
   obtain ⟨c0', c1', hst, c3⟩ := HCELL.out W2 p' G2
   have cq := c3 j hlt
   rw [HY.out] at cq
   clear c0 c1 c3 G2 b2 HCB
   by_cases hgo : aw = true ∧ y < 3
   ·obtain ⟨rfl, hy2⟩ := hgo
    have ey : decide (y < 3) = true := decide_eq_true hy2
    obtain ⟨e1, e2, e3⟩ := HI49.out l HLL.out
    have hi : (Tryz.prog.info? 29).map (·.size) = some (Gm.ints l).length := by simpa using e1
    have N3a : (W2.alloc (.cells #[.int .i64 0, .int .i64 0, .int .i64 0, .int .i64 0, .int .i64 0, .int .i64 0, .int .i64 0, .int .i64 0, .int .i64 0, .int .i64 0, .int .i64 0, .int .i64 0, .int .i64 0, .int .i64 0, .int .i64 0, .int .i64 0, .int .i64 0, .int .i64 0, .int .i64 0, .int .i64 0, .int .i64 0, .int .i64 0, .int .i64 0, .int .i64 0, .int .i64 0, .int .i64 0, .int .i64 0, .int .i64 0, .int .i64 0, .int .i64 0, .int .i64 0, .int .i64 0, .int .i64 0, .int .i64 0, .int .i64 0, .int .i64 0, .int .i64 0, .int .i64 0, .int .i64 0, .int .i64 0, .int .i64 0, .int .i64 0, .int .i64 0, .int .i64 0, .int .i64 0, .int .i64 0, .int .i64 0, .int .i64 0, .int .i64 0] 29)).heap[W2.heap.size]? = some (.cells #[.int .i64 0, .int .i64 0, .int .i64 0, .int .i64 0, .int .i64 0, .int .i64 0, .int .i64 0, .int .i64 0, .int .i64 0, .int .i64 0, .int .i64 0, .int .i64 0, .int .i64 0, .int .i64 0, .int .i64 0, .int .i64 0, .int .i64 0, .int .i64 0, .int .i64 0, .int .i64 0, .int .i64 0, .int .i64 0, .int .i64 0, .int .i64 0, .int .i64 0, .int .i64 0, .int .i64 0, .int .i64 0, .int .i64 0, .int .i64 0, .int .i64 0, .int .i64 0, .int .i64 0, .int .i64 0, .int .i64 0, .int .i64 0, .int .i64 0, .int .i64 0, .int .i64 0, .int .i64 0, .int .i64 0, .int .i64 0, .int .i64 0, .int .i64 0, .int .i64 0, .int .i64 0, .int .i64 0, .int .i64 0, .int .i64 0] 29 (0, 0)) := heap_alloc_new W2 _
    obtain ⟨W3, hW3⟩ : ∃ z, (W2.alloc (.cells #[.int .i64 0, .int .i64 0, .int .i64 0, .int .i64 0, .int .i64 0, .int .i64 0, .int .i64 0, .int .i64 0, .int .i64 0, .int .i64 0, .int .i64 0, .int .i64 0, .int .i64 0, .int .i64 0, .int .i64 0, .int .i64 0, .int .i64 0, .int .i64 0, .int .i64 0, .int .i64 0, .int .i64 0, .int .i64 0, .int .i64 0, .int .i64 0, .int .i64 0, .int .i64 0, .int .i64 0, .int .i64 0, .int .i64 0, .int .i64 0, .int .i64 0, .int .i64 0, .int .i64 0, .int .i64 0, .int .i64 0, .int .i64 0, .int .i64 0, .int .i64 0, .int .i64 0, .int .i64 0, .int .i64 0, .int .i64 0, .int .i64 0, .int .i64 0, .int .i64 0, .int .i64 0, .int .i64 0, .int .i64 0, .int .i64 0] 29)).setRow W2.heap.size (Gm.ints l).toArray = z := ⟨_, rfl⟩
    have N3 : W3.heap[W2.heap.size]? = some (.cells (Gm.ints l).toArray 29 (0, 0)) := by rw [← hW3]; exact setRow_heap _ _ _ _ _ _ N3a
    have B3 : Below W2.heap.size W2 W3 := by rw [← hW3]; exact Tk.below_row ((Below.refl _ W2).alloc (Nat.le_refl _) _) (Nat.le_refl _) _
    have cy : W3.cell? ⟨W2.heap.size, 44 + j, none⟩ = some (.int .i64 y) := by
     simp only [World.cell?, N3]
     rw [Gm.ints_get (by have := HLL.out; omega), HY.out]
     rfl
    have fy : W3.frozen? ⟨W2.heap.size, 44 + j, none⟩ = false := by simp [World.frozen?, N3]
    have ew : IntKind.i64.wrap (y + 1) = y + 1 := by rw [IntKind.wrap_i64]; omega
    obtain ⟨W4, hW4⟩ : ∃ z, W3.setCell ⟨W2.heap.size, 44 + j, none⟩ (.int .i64 (y + 1)) = z := ⟨_, rfl⟩
    have N4 : W4.heap[W2.heap.size]? = some (.cells (Gm.ints (l.set (44 + j) (y + 1))).toArray 29 (0, 0)) := by rw [← hW4]; exact Gm.put_row N3
    have B4 : Below W2.heap.size W2 W4 := by rw [← hW4]; exact B3.setCell (p := ⟨W2.heap.size, 44 + j, none⟩) (Nat.le_refl _) _
    have hsl : (l.set (44 + j) (y + 1)).length = 49 := by simpa using HLL.out
    obtain ⟨r1, r2, r3⟩ := HI49.out _ hsl
    have HA : Hid _ := Tryz.add_any w0 B b an n cn af m cf l want p'.1 p'.2 (l.set (44 + j) (y + 1)) ⟨-1, (j : Nat), 5, 0, (j : Nat)⟩ W4 (HG2.out.below B4) hsl (by have := HGJ.out.2; omega)
    have HE : Hid (Gm.goes want (p'.1 ++ [(⟨-1, (j : Nat), 5, 0, (j : Nat)⟩ : Mv)], if (p'.1.length : Int) = want then l.set (44 + j) (y + 1) else p'.2) (((List.range 4).drop (j + 1)).flatMap fun k => Gm.arriveS ns l k) = R) := by
     have h1 := HGO.out
     unfold Gm.arriveS at h1
     rw [if_pos ⟨HAW.out, by rw [HY.out]; exact hy2⟩, HY.out] at h1
     exact h1
    have HW3 : Hid _ := hW3
    have HW4 : Hid _ := hW4
    clear hW3 hW4 N3 B3 B4 hy2 HGO
    go_upto_region 5 with (first
     | refine wpList_load_mid rfl 29 _ rfl b 2 rfl (Gm.ints l) _ hst hu rfl hi ?_
     | (refine wpList_store_row rfl 29 _ _ rfl W2.heap.size (Gm.ints l).toArray rfl rfl 29 _ N3a e1 e2 e3 ?_; rw [HW3.out]))
    go_upto_region 6 with fail
    rw [HW4.out]
    go_wp2_with (first
     | refine wpList_load_row rfl 29 _ rfl _ rfl 29 (Gm.ints (l.set (44 + j) (y + 1))).toArray (0, 0) _ N4 hu rfl r1 ?_
     | fail)
    refine Calls.mono HA.out ?_
    rintro e W5 ⟨rfl, g5, k5⟩
    have HN : Hid (Gm.G w0 B b an n cn af m cf l want (p'.1 ++ [(⟨-1, (j : Nat), 5, 0, (j : Nat)⟩ : Mv)]) (if (p'.1.length : Int) = want then l.set (44 + j) (y + 1) else p'.2) W5 ∧ (p'.1 ++ [(⟨-1, (j : Nat), 5, 0, (j : Nat)⟩ : Mv)]).length ≤ 5000 + (j + 1)) := ⟨g5, by have := HGJ.out.2; simp; omega⟩
    clear g5 k5 HA
    go_wp2
    go_roundg (gk - 1)
    case measure => omega
    case rel => exact ⟨j + 1, (p'.1 ++ [(⟨-1, (j : Nat), 5, 0, (j : Nat)⟩ : Mv)], if (p'.1.length : Int) = want then l.set (44 + j) (y + 1) else p'.2), by go_num, by omega, HE.out, HN.out.1, HN.out.2⟩
   ·have HN : Hid (Gm.goes want p' (((List.range 4).drop (j + 1)).flatMap fun k => Gm.arriveS ns l k) = R ∧ Gm.G w0 B b an n cn af m cf l want p'.1 p'.2 W2 ∧ p'.1.length ≤ 5000 + (j + 1)) := by
     have h1 := HGO.out
     unfold Gm.arriveS at h1
     rw [if_neg (by rw [HAW.out, HY.out]; exact hgo)] at h1
     exact ⟨h1, HG2.out, by have := HGJ.out.2; omega⟩
    have tst : aw = false ∨ (aw = true ∧ decide (y < 3) = false) := by
     cases aw with
     | false => exact .inl rfl
     | true => exact .inr ⟨rfl, decide_eq_false fun h => hgo ⟨rfl, h⟩⟩
    clear hgo HGO
    rcases tst with rfl | ⟨rfl, ey⟩
    all_goals
     go_wp2
     go_roundg (gk - 1)
     case measure => omega
     case rel => exact ⟨j + 1, p', by go_num, by omega, HN.out⟩
  ·obtain rfl : j = 4 := by omega
   have HN : Hid (Gm.G w0 B b an n cn af m cf l want R.1 R.2 wr) := by
    have h1 := HJ.out.1
    have h2 : p' = R := h1
    rw [← h2]
    exact HJ.out.2.1
   clear HJ
   go_wp2
   go_end0
   exact ⟨rfl, HN.out⟩
end Go.Proofs
