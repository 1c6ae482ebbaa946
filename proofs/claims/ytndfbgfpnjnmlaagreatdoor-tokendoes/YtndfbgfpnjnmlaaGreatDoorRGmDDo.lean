import Derived.Test.YtndfbgfpnjnmlaaGreatDoorRGmLine
import Derived.Laws.StructEq
namespace Go.Proofs
open Go.RowKit Go.Shelf
namespace Gm
def dnC (p : List Int × (Int × Int × Int) × Int) : List Value := ints p.1 ++ [.int .i64 p.2.1.1, .int .i64 p.2.1.2.1, .int .i64 p.2.1.2.2, .int .i64 p.2.2]
theorem dnC_length {p : List Int × (Int × Int × Int) × Int} (h : p.1.length = 49) : (dnC p).length = 53 := by simp [dnC, ints_length, h]
theorem dnC_one (p : List Int × (Int × Int × Int) × Int) : ∀ v ∈ dnC p, v.oneCell' = true := fun v hv => by
 rcases List.mem_append.1 hv with h | h
 ·exact ints_one _ v h
 ·simp only [List.mem_cons, List.not_mem_nil, or_false] at h
  rcases h with rfl | rfl | rfl | rfl <;> rfl
theorem built_done1 (e : Int) : Tryz.prog.built 50 [(2, .int .i64 e)] = some (dnC (zeros, (0, 0, 0), e)).toArray := by kernel_rfl
theorem built_done (t : List Int) (h : t.length = 49) (a b c : Int) : Tryz.prog.built 50 [(0, .agg (ints t).toArray), (1, .agg #[.int .i64 a, .int .i64 b, .int .i64 c]), (2, .int .i64 0)] = some (dnC (t, (a, b, c), 0)).toArray := by
 exact match t, h with
 | x0 :: x1 :: x2 :: x3 :: x4 :: x5 :: x6 :: x7 :: x8 :: x9 :: x10 :: x11 :: x12 :: x13 :: x14 :: x15 :: x16 :: x17 :: x18 :: x19 :: x20 :: x21 :: x22 :: x23 :: x24 :: x25 :: x26 :: x27 :: x28 :: x29 :: x30 :: x31 :: x32 :: x33 :: x34 :: x35 :: x36 :: x37 :: x38 :: x39 :: x40 :: x41 :: x42 :: x43 :: x44 :: x45 :: x46 :: x47 :: x48 :: [], _ => by show _ = _; kernel_rfl
end Gm
set_option maxRecDepth 20000 in
set_option maxHeartbeats 16000000 in
theorem Tryz.rDo_any (an : Option Addr) (n cn : Nat) (af : Option Addr) (m cf : Nat) (l : List Int) (i : Int) (X : World) (d : Nat) (ns : List Nd) (fs : List Fl) (hH : Nt.Has X X.heap.size d an af ns fs) (hn : ns.length = n) (hm : fs.length = m) (hll : l.length = 49) :
  Calls Tryz.prog 17 #[.agg #[.slice an n cn, .slice af m cf], .agg (Gm.ints l).toArray, .int .i64 i] X fun e w' => e = .returned (.agg (Gm.dnC (Gm.doR (Gm.checkE ns fs l) (Gm.stepsD ns fs l) i)).toArray) ∧ Below X.heap.size X w' := by
 obtain ⟨w1, hw1⟩ : ∃ z, ((X.alloc (.cells #[.slice an n cn, .slice af m cf] 25)).alloc (.cells (Gm.ints l).toArray 32)).alloc (.cells #[.int .i64 0, .int .i64 0, .int .i64 0, .int .i64 0, .int .i64 0, .int .i64 0, .int .i64 0, .int .i64 0, .int .i64 0, .int .i64 0, .int .i64 0, .int .i64 0, .int .i64 0, .int .i64 0, .int .i64 0, .int .i64 0, .int .i64 0, .int .i64 0, .int .i64 0, .int .i64 0, .int .i64 0, .int .i64 0, .int .i64 0, .int .i64 0, .int .i64 0, .int .i64 0, .int .i64 0, .int .i64 0, .int .i64 0, .int .i64 0, .int .i64 0, .int .i64 0, .int .i64 0, .int .i64 0, .int .i64 0, .int .i64 0, .int .i64 0, .int .i64 0, .int .i64 0, .int .i64 0, .int .i64 0, .int .i64 0, .int .i64 0, .int .i64 0, .int .i64 0, .int .i64 0, .int .i64 0, .int .i64 0, .int .i64 0, .int .i64 0, .int .i64 0, .int .i64 0, .int .i64 0] 50) = z := ⟨_, rfl⟩
 have A1 : Below X.heap.size X w1 := by rw [← hw1]; exact (((Below.refl _ X).alloc (Nat.le_refl _) _).alloc (by simp) _).alloc (by simp; omega) _
 have P0 : w1.heap[X.heap.size]? = some (.cells #[.slice an n cn, .slice af m cf] 25 (0, 0)) := by
  rw [← hw1, Below.heap_alloc _ _ _ (by simp; omega), Below.heap_alloc _ _ _ (by simp)]; exact heap_alloc_new X _
 have P1 : w1.heap[X.heap.size + 1]? = some (.cells (Gm.ints l).toArray 32 (0, 0)) := by
  rw [← hw1, Below.heap_alloc _ _ _ (by simp)]
  have := heap_alloc_new (X.alloc (.cells #[.slice an n cn, .slice af m cf] 25)) (.cells (Gm.ints l).toArray 32)
  simpa using this
 have P2 : w1.heap[X.heap.size + 1 + 1]? = some (.cells #[.int .i64 0, .int .i64 0, .int .i64 0, .int .i64 0, .int .i64 0, .int .i64 0, .int .i64 0, .int .i64 0, .int .i64 0, .int .i64 0, .int .i64 0, .int .i64 0, .int .i64 0, .int .i64 0, .int .i64 0, .int .i64 0, .int .i64 0, .int .i64 0, .int .i64 0, .int .i64 0, .int .i64 0, .int .i64 0, .int .i64 0, .int .i64 0, .int .i64 0, .int .i64 0, .int .i64 0, .int .i64 0, .int .i64 0, .int .i64 0, .int .i64 0, .int .i64 0, .int .i64 0, .int .i64 0, .int .i64 0, .int .i64 0, .int .i64 0, .int .i64 0, .int .i64 0, .int .i64 0, .int .i64 0, .int .i64 0, .int .i64 0, .int .i64 0, .int .i64 0, .int .i64 0, .int .i64 0, .int .i64 0, .int .i64 0, .int .i64 0, .int .i64 0, .int .i64 0, .int .i64 0] 50 (0, 0)) := by
  rw [← hw1]
  have := heap_alloc_new ((X.alloc (.cells #[.slice an n cn, .slice af m cf] 25)).alloc (.cells (Gm.ints l).toArray 32)) (.cells #[.int .i64 0, .int .i64 0, .int .i64 0, .int .i64 0, .int .i64 0, .int .i64 0, .int .i64 0, .int .i64 0, .int .i64 0, .int .i64 0, .int .i64 0, .int .i64 0, .int .i64 0, .int .i64 0, .int .i64 0, .int .i64 0, .int .i64 0, .int .i64 0, .int .i64 0, .int .i64 0, .int .i64 0, .int .i64 0, .int .i64 0, .int .i64 0, .int .i64 0, .int .i64 0, .int .i64 0, .int .i64 0, .int .i64 0, .int .i64 0, .int .i64 0, .int .i64 0, .int .i64 0, .int .i64 0, .int .i64 0, .int .i64 0, .int .i64 0, .int .i64 0, .int .i64 0, .int .i64 0, .int .i64 0, .int .i64 0, .int .i64 0, .int .i64 0, .int .i64 0, .int .i64 0, .int .i64 0, .int .i64 0, .int .i64 0, .int .i64 0, .int .i64 0, .int .i64 0, .int .i64 0] 50)
  simpa using this
 have hu := Tryz.underlying32
 have huD := Tryz.underlying50
 have e1 : (Tryz.prog.info? 32).map (·.size) = some (Gm.ints l).toArray.size := by
  have h : (Gm.ints l).toArray.size = 49 := by simpa [Gm.ints_length] using hll
  rw [h]; show _ = _; kernel_rfl
 have HD : Hid (∀ p : List Int × (Int × Int × Int) × Int, p.1.length = 49 → (Tryz.prog.info? 50).map (·.size) = some (Gm.dnC p).toArray.size ∧ (#[.int .i64 0, .int .i64 0, .int .i64 0, .int .i64 0, .int .i64 0, .int .i64 0, .int .i64 0, .int .i64 0, .int .i64 0, .int .i64 0, .int .i64 0, .int .i64 0, .int .i64 0, .int .i64 0, .int .i64 0, .int .i64 0, .int .i64 0, .int .i64 0, .int .i64 0, .int .i64 0, .int .i64 0, .int .i64 0, .int .i64 0, .int .i64 0, .int .i64 0, .int .i64 0, .int .i64 0, .int .i64 0, .int .i64 0, .int .i64 0, .int .i64 0, .int .i64 0, .int .i64 0, .int .i64 0, .int .i64 0, .int .i64 0, .int .i64 0, .int .i64 0, .int .i64 0, .int .i64 0, .int .i64 0, .int .i64 0, .int .i64 0, .int .i64 0, .int .i64 0, .int .i64 0, .int .i64 0, .int .i64 0, .int .i64 0, .int .i64 0, .int .i64 0, .int .i64 0, .int .i64 0] : Array Value).size = (Gm.dnC p).toArray.size ∧ (Gm.dnC p).toArray.all (·.oneCell') = true) := fun p hp => by
  have h : (Gm.dnC p).toArray.size = 53 := by simpa using Gm.dnC_length hp
  exact ⟨by rw [h]; show _ = _; kernel_rfl, by rw [h]; rfl, all_oneCell_toArray (Gm.dnC_one p)⟩
 have k0 : w1.cell? ⟨X.heap.size, 0, none⟩ = some (.slice an n cn) := by simp [World.cell?, P0]
 have k1 : w1.cell? ⟨X.heap.size, 1, none⟩ = some (.slice af m cf) := by simp [World.cell?, P0]
 have CC : Hid _ := Tryz.rtCheck_any an n cn af m cf l w1 d ns fs ((hH.below A1).wider A1.size) hn hm hll
 obtain ⟨ce, hce⟩ : ∃ z, Gm.checkE ns fs l = z := ⟨_, rfl⟩
 rw [hce] at CC
 obtain ⟨ss, hss⟩ : ∃ z, Gm.stepsD ns fs l = z := ⟨_, rfl⟩
 have hW49 : Gm.W49 ss := by rw [← hss]; exact Gm.steps_49 ns fs hll
 rw [hce, hss]
 obtain ⟨R, hR⟩ : ∃ z, Gm.doR ce ss i = z := ⟨_, rfl⟩
 rw [hR]
 have HBOX : Hid (∀ W, Below w1.heap.size w1 W → W.cell? ⟨X.heap.size, 0, none⟩ = some (.slice an n cn) ∧ W.cell? ⟨X.heap.size, 1, none⟩ = some (.slice af m cf) ∧ W.heap[X.heap.size + 1]? = some (.cells (Gm.ints l).toArray 32 (0, 0)) ∧ W.heap[X.heap.size + 1 + 1]? = some (.cells #[.int .i64 0, .int .i64 0, .int .i64 0, .int .i64 0, .int .i64 0, .int .i64 0, .int .i64 0, .int .i64 0, .int .i64 0, .int .i64 0, .int .i64 0, .int .i64 0, .int .i64 0, .int .i64 0, .int .i64 0, .int .i64 0, .int .i64 0, .int .i64 0, .int .i64 0, .int .i64 0, .int .i64 0, .int .i64 0, .int .i64 0, .int .i64 0, .int .i64 0, .int .i64 0, .int .i64 0, .int .i64 0, .int .i64 0, .int .i64 0, .int .i64 0, .int .i64 0, .int .i64 0, .int .i64 0, .int .i64 0, .int .i64 0, .int .i64 0, .int .i64 0, .int .i64 0, .int .i64 0, .int .i64 0, .int .i64 0, .int .i64 0, .int .i64 0, .int .i64 0, .int .i64 0, .int .i64 0, .int .i64 0, .int .i64 0, .int .i64 0, .int .i64 0, .int .i64 0, .int .i64 0] 50 (0, 0)) ∧ Below X.heap.size X W) := fun W hW => by
  have h0 : W.heap[X.heap.size]? = some (.cells #[.slice an n cn, .slice af m cf] 25 (0, 0)) := by rw [hW.block _ (Gm.blk_lt P0)]; exact P0
  exact ⟨by simp [World.cell?, h0], by simp [World.cell?, h0], by rw [hW.block _ (Gm.blk_lt P1)]; exact P1, by rw [hW.block _ (Gm.blk_lt P2)]; exact P2, A1.trans (hW.mono A1.size)⟩
 have HCS : Hid (∀ W, Below w1.heap.size w1 W → Calls Tryz.prog 13 #[.agg #[.slice an n cn, .slice af m cf], .agg (Gm.ints l).toArray] W fun e w' => ∃ v, e = .returned v ∧ Hid (w'.ownsRow W.heap.size 61 54 v ss.length (Gm.stL ss) ∧ Below w1.heap.size w1 w')) := fun W hW => by
  have hXW : Below X.heap.size X W := A1.trans (hW.mono A1.size)
  have h := Tryz.rSteps_any an n cn af m cf l W d ns fs ((hH.below hXW).wider hXW.size) hn hm hll
  rw [hss] at h
  exact h.mono fun e w' ⟨v, hv, q⟩ => ⟨v, hv, q.out.1, hW.trans (q.out.2.mono hW.size)⟩
 have HW1 : Hid _ := hw1
 have hz49 : Gm.zeros.length = 49 := rfl
 by_cases hc0 : ce = 0
 case neg =>
  have e0 : (ce != 0) = true := by simpa using hc0
  have HE : Hid ((Gm.zeros, (0, 0, 0), ce) = R) := by
   show _ = _
   rw [← hR]; unfold Gm.doR; rw [if_pos hc0]
  obtain ⟨f1, f2, f3⟩ := HD.out (Gm.zeros, (0, 0, 0), ce) hz49
  have hbt := Gm.built_done1 ce
  clear hw1 P0 A1 hce hR hH hn hm hll hc0 P2 HCS hss hW49 hz49
  go_enter Tryz.func17, Tryz.ntmps17
  go_upto_region 1 with fail
  rw [HW1.out]
  clear HW1
  go_wp2_with (first
   | refine wpList_load_row rfl 32 _ rfl _ rfl 32 (Gm.ints l).toArray (0, 0) _ P1 hu rfl e1 ?_
   | fail)
  refine Calls.mono CC.out ?_
  rintro e W2 ⟨rfl, b2⟩
  obtain ⟨-, -, -, N2, hBX⟩ := HBOX.out W2 b2
  have HBX : Hid (Below X.heap.size X W2) := hBX
  clear b2 P1 k0 k1 CC hBX
  go_upto_region 3 with fail
  go_wp2_with (first
   | refine wpList_buildTo rfl 50 _ rfl (some 15) rfl (Gm.dnC (Gm.zeros, (0, 0, 0), ce)).toArray (Eq.trans (congrArg (Tryz.prog.built 50) (by kernel_rfl)) hbt) ?_
   | refine wpList_store_row rfl 50 _ _ rfl (X.heap.size + 1 + 1) (Gm.dnC (Gm.zeros, (0, 0, 0), ce)).toArray rfl rfl 50 _ N2 f1 f2 f3 ?_
   | fail)
  exact bodyPost_ret (v := .agg (Gm.dnC (Gm.zeros, (0, 0, 0), ce)).toArray) (results_cell_row Tryz.results17 _ _ (X.heap.size + 1 + 1) 50 (Gm.dnC (Gm.zeros, (0, 0, 0), ce)).toArray (0, 0) _ rfl (setRow_heap _ _ _ _ _ _ N2) huD rfl f1) rfl ⟨by rw [HE.out], Tk.below_row HBX.out (by omega) _⟩
 case pos =>
 have e0 : (ce != 0) = false := by simpa using hc0
 obtain ⟨ln, hln⟩ : ∃ z, ss.length = z := ⟨_, rfl⟩
 rw [hln] at HCS
 have HRX : Hid ((if i < 0 ∨ (ln : Int) ≤ i then (Gm.zeros, ((0 : Int), (0 : Int), (0 : Int)), (6 : Int)) else match ss[i.toNat]? with | none => (Gm.zeros, (0, 0, 0), 6) | some p => (p.2, (p.1.k, p.1.ln, p.1.la), 0)) = R) := by
  show _ = _
  rw [← hR]; unfold Gm.doR
  rw [if_neg (show ¬ ce ≠ 0 by simpa using hc0), hln]
  rfl
 have HLN : Hid (ss.length = ln ∧ Gm.W49 ss) := ⟨hln, hW49⟩
 clear hw1 P0 A1 hce hR hH hn hm hll hc0 P2 hss hW49 hln
 go_enter Tryz.func17, Tryz.ntmps17
 go_upto_region 1 with fail
 rw [HW1.out]
 clear HW1
 go_wp2_with (first
  | refine wpList_load_row rfl 32 _ rfl _ rfl 32 (Gm.ints l).toArray (0, 0) _ P1 hu rfl e1 ?_
  | fail)
 refine Calls.mono CC.out ?_
 rintro e W2 ⟨rfl, b2⟩
 obtain ⟨j0, j1, PP, -, -⟩ := HBOX.out W2 b2
 have HX2 : Hid (X.heap.size + 1 + 1 < W2.heap.size) := Gm.blk_lt (HBOX.out W2 b2).2.2.2.1
 have HC2 : Hid _ := HCS.out W2 b2
 clear b2 P1 k0 k1 CC HCS
 go_wp2_with (first
  | refine wpList_load_row rfl 32 _ rfl _ rfl 32 (Gm.ints l).toArray (0, 0) _ PP hu rfl e1 ?_
  | fail)
 refine Calls.mono HC2.out ?_
 rintro e W3 ⟨v, rfl, H3⟩
 obtain ⟨va, vc, rfl⟩ := Rk.own_shape H3.out.1
 obtain ⟨-, -, -, N2, hBX⟩ := HBOX.out W3 H3.out.2
 have HBX : Hid (Below X.heap.size X W3) := hBX
 clear j0 j1 PP HC2 hBX
 obtain ⟨f1, f2, f3⟩ := HD.out (Gm.zeros, (0, 0, 0), 6) hz49
 have hbt := Gm.built_done1 6
 by_cases hi0 : i < 0
 ·have d0 : decide (i < 0) = true := decide_eq_true hi0
  have HE : Hid ((Gm.zeros, (0, 0, 0), 6) = R) := by
   have h := HRX.out
   rw [if_pos (.inl hi0)] at h
   exact h
  clear hi0 HRX
  go_upto_region 6 with fail
  go_wp2_with (first
   | refine wpList_buildTo rfl 50 _ rfl (some 27) rfl (Gm.dnC (Gm.zeros, (0, 0, 0), 6)).toArray (Eq.trans (congrArg (Tryz.prog.built 50) (by kernel_rfl)) hbt) ?_
   | refine wpList_store_row rfl 50 _ _ rfl (X.heap.size + 1 + 1) (Gm.dnC (Gm.zeros, (0, 0, 0), 6)).toArray rfl rfl 50 _ N2 f1 f2 f3 ?_
   | fail)
  exact bodyPost_ret (v := .agg (Gm.dnC (Gm.zeros, (0, 0, 0), 6)).toArray) (results_cell_row Tryz.results17 _ _ (X.heap.size + 1 + 1) 50 (Gm.dnC (Gm.zeros, (0, 0, 0), 6)).toArray (0, 0) _ rfl (setRow_heap _ _ _ _ _ _ N2) huD rfl f1) rfl ⟨by rw [HE.out], Tk.below_row HBX.out (by omega) _⟩
 have d0 : decide (i < 0) = false := decide_eq_false hi0
 by_cases hil : (ln : Int) ≤ i
 ·have d1 : decide ((ln : Int) ≤ i) = true := decide_eq_true hil
  have HE : Hid ((Gm.zeros, (0, 0, 0), 6) = R) := by
   have h := HRX.out
   rw [if_pos (.inr hil)] at h
   exact h
  clear hi0 HRX hil
  go_upto_region 6 with fail
  go_wp2_with (first
   | refine wpList_buildTo rfl 50 _ rfl (some 27) rfl (Gm.dnC (Gm.zeros, (0, 0, 0), 6)).toArray (Eq.trans (congrArg (Tryz.prog.built 50) (by kernel_rfl)) hbt) ?_
   | refine wpList_store_row rfl 50 _ _ rfl (X.heap.size + 1 + 1) (Gm.dnC (Gm.zeros, (0, 0, 0), 6)).toArray rfl rfl 50 _ N2 f1 f2 f3 ?_
   | fail)
  exact bodyPost_ret (v := .agg (Gm.dnC (Gm.zeros, (0, 0, 0), 6)).toArray) (results_cell_row Tryz.results17 _ _ (X.heap.size + 1 + 1) 50 (Gm.dnC (Gm.zeros, (0, 0, 0), 6)).toArray (0, 0) _ rfl (setRow_heap _ _ _ _ _ _ N2) huD rfl f1) rfl ⟨by rw [HE.out], Tk.below_row HBX.out (by omega) _⟩
 have d1 : decide ((ln : Int) ≤ i) = false := decide_eq_false hil
 obtain ⟨k, rfl⟩ : ∃ k : Nat, i = (k : Int) := ⟨i.toNat, by omega⟩
 have hkl : k < ln := by omega
 have hks : k < ss.length := by rw [HLN.out.1]; exact hkl
 obtain ⟨⟨⟨q1, q2, q3, q4, q5⟩, ts⟩, hsk⟩ : ∃ z, ss[k] = z := ⟨_, rfl⟩
 have hts : ts.length = 49 := by have := HLN.out.2 _ (List.getElem_mem hks); rw [hsk] at this; exact this
 have HE : Hid ((ts, (q3, q4, q5), 0) = R) := by
  have h := HRX.out
  rw [if_neg (by omega), Int.toNat_natCast, List.getElem?_eq_getElem hks, hsk] at h
  exact h
 clear f1 f2 f3 hbt
 obtain ⟨f1, f2, f3⟩ := HD.out (ts, (q3, q4, q5), 0) hts
 have hbt := Gm.built_done ts hts q3 q4 q5
 have h3o := H3.out.1
 rw [← HLN.out.1] at h3o
 obtain ⟨gv, c3, ev, hcell⟩ := Gm.own_cell h3o (by omega)
 obtain ⟨rfl, -, -⟩ := Value.slice.inj ev
 have hst : ∀ o x, o < 54 → (Gm.stC ⟨q1, q2, q3, q4, q5⟩ ts)[o]? = some x → W3.cell? ⟨gv, k * 54 + o, none⟩ = some x := fun o x ho hx => hcell _ _ (by
  rw [Gm.stL_get _ HLN.out.2 k o hks ho, hsk]; exact hx)
 have m2 : W3.cell? ⟨gv, k * 54 + 2, none⟩ = some (.int .i64 q3) := hst 2 _ (by omega) rfl
 have m3 : W3.cell? ⟨gv, k * 54 + 3, none⟩ = some (.int .i64 q4) := hst 3 _ (by omega) rfl
 have m4 : W3.cell? ⟨gv, k * 54 + 4, none⟩ = some (.int .i64 q5) := hst 4 _ (by omega) rfl
 have mr : W3.rangeAt gv (k * 54 + 5) (Gm.ints ts) := fun j x hx => by
  have hj : j < 49 := by
   have := (List.getElem?_eq_some_iff.1 hx).1
   rw [Gm.ints_length, hts] at this; exact this
  have := hst (5 + j) x (by omega) (by
   show (Gm.mvC _ ++ Gm.ints ts)[5 + j]? = some x
   rw [List.getElem?_append_right (by show 5 ≤ 5 + j; omega)]
   show (Gm.ints ts)[5 + j - 5]? = some x
   rw [show 5 + j - 5 = j by omega]; exact hx)
  rw [show k * 54 + (5 + j) = k * 54 + 5 + j by omega] at this
  exact this
 have es : (Tryz.prog.info? 32).map (·.size) = some (Gm.ints ts).length := by rw [Gm.ints_length, hts]; show _ = _; kernel_rfl
 have hk1 : (k : Int) < ln := by omega
 have hk0 : (0 : Int) ≤ k := by omega
 have N2d : W3.drew.heap[X.heap.size + 1 + 1]? = some (.cells #[.int .i64 0, .int .i64 0, .int .i64 0, .int .i64 0, .int .i64 0, .int .i64 0, .int .i64 0, .int .i64 0, .int .i64 0, .int .i64 0, .int .i64 0, .int .i64 0, .int .i64 0, .int .i64 0, .int .i64 0, .int .i64 0, .int .i64 0, .int .i64 0, .int .i64 0, .int .i64 0, .int .i64 0, .int .i64 0, .int .i64 0, .int .i64 0, .int .i64 0, .int .i64 0, .int .i64 0, .int .i64 0, .int .i64 0, .int .i64 0, .int .i64 0, .int .i64 0, .int .i64 0, .int .i64 0, .int .i64 0, .int .i64 0, .int .i64 0, .int .i64 0, .int .i64 0, .int .i64 0, .int .i64 0, .int .i64 0, .int .i64 0, .int .i64 0, .int .i64 0, .int .i64 0, .int .i64 0, .int .i64 0, .int .i64 0, .int .i64 0, .int .i64 0, .int .i64 0, .int .i64 0] 50 (0, 0)) := N2
 have HS0 : Hid (W3.rangeAt gv (k * 54 + 5) (Gm.ints ts) ∧ W3.cell? ⟨gv, k * 54 + 2, none⟩ = some (.int .i64 q3) ∧ W3.cell? ⟨gv, k * 54 + 3, none⟩ = some (.int .i64 q4) ∧ W3.cell? ⟨gv, k * 54 + 4, none⟩ = some (.int .i64 q5)) := ⟨mr, m2, m3, m4⟩
 have hgv : W2.heap.size ≤ gv := by
  rcases H3.out.1.2 with ⟨h, -⟩ | ⟨g, cap, cur, e, hB, -⟩
  ·cases h
  ·obtain ⟨e1', -, -⟩ := Value.slice.inj e
   injection e1' with e2
   injection e2 with e3
   omega
 have hne : gv ≠ X.heap.size + 1 + 1 := by have := HX2.out; omega
 have HKS : Hid (∀ vs, (W3.drew.setRow (X.heap.size + 1 + 1) vs).rangeAt gv (k * 54 + 5) (Gm.ints ts) ∧ (W3.drew.setRow (X.heap.size + 1 + 1) vs).cell? ⟨gv, k * 54 + 2, none⟩ = some (.int .i64 q3) ∧ (W3.drew.setRow (X.heap.size + 1 + 1) vs).cell? ⟨gv, k * 54 + 3, none⟩ = some (.int .i64 q4) ∧ (W3.drew.setRow (X.heap.size + 1 + 1) vs).cell? ⟨gv, k * 54 + 4, none⟩ = some (.int .i64 q5)) := fun vs => by
  have h : ∀ o, (W3.drew.setRow (X.heap.size + 1 + 1) vs).cell? ⟨gv, o, none⟩ = W3.cell? ⟨gv, o, none⟩ := fun o => World.cell?_of_block (w := W3) (a := ⟨gv, o, none⟩) (setRow_other _ _ _ _ hne)
  exact ⟨fun j x hx => by rw [h]; exact mr j x hx, by rw [h]; exact m2, by rw [h]; exact m3, by rw [h]; exact m4⟩
 clear hi0 hil HRX hkl hks hsk hst hcell h3o ev N2 mr m2 m3 m4 hgv hne
 go_upto_region 7 with fail
 refine wp_region_held_drew (S := (fun V => V.rangeAt gv (k * 54 + 5) (Gm.ints ts) ∧ V.cell? ⟨gv, k * 54 + 2, none⟩ = some (.int .i64 q3) ∧ V.cell? ⟨gv, k * 54 + 3, none⟩ = some (.int .i64 q4) ∧ V.cell? ⟨gv, k * 54 + 4, none⟩ = some (.int .i64 q5))) (by kernel_rfl) ?_ (fun hHeld => ?_)
 ·exact HS0.out
 refine Nt.takeS (v := ?va0) 0 28 rfl rfl (by kernel_rfl) (by kernel_rfl) (by kernel_rfl) (fun _ _ _ h => h) (Or.inl ⟨by rfl, ?ya0⟩) hHeld ?ra0
 case ya0 => (intro w hSw; (try dsimp only at hSw); go_simp; all_goals (with_reducible rfl))
 simp only [List.set_cons_succ, List.set_cons_zero]
 refine Nt.takeS (v := ?va1) 1 29 rfl rfl (by kernel_rfl) (by kernel_rfl) (by kernel_rfl) (fun _ _ _ h => h) (Or.inl ⟨by rfl, ?ya1⟩) hHeld ?ra1
 case ya1 => (intro w hSw; (try dsimp only at hSw); go_simp; all_goals (with_reducible rfl))
 simp only [List.set_cons_succ, List.set_cons_zero]
 refine Nt.takeS (v := ?va2) 2 30 rfl rfl (by kernel_rfl) (by kernel_rfl) (by kernel_rfl) (fun _ _ _ h => h) (Or.inl ⟨by rfl, ?ya2⟩) hHeld ?ra2
 case ya2 => (intro w hSw; (try dsimp only at hSw); go_simp; all_goals (with_reducible rfl))
 simp only [List.set_cons_succ, List.set_cons_zero]
 refine Nt.takeS (v := ?va3) 3 31 rfl rfl (by kernel_rfl) (by kernel_rfl) (by kernel_rfl) (fun _ _ _ h => h) (Or.inl ⟨by rfl, ?ya3⟩) hHeld ?ra3
 case ya3 => (intro w hSw; (try dsimp only at hSw); go_simp; all_goals (with_reducible rfl))
 simp only [List.set_cons_succ, List.set_cons_zero]
 refine Nt.takeS 4 32 rfl rfl (by kernel_rfl) (by kernel_rfl) (by kernel_rfl) (fun _ _ _ h => h) (yieldsIf_load_mid (by rfl) _ _ rfl _ _ rfl (Gm.ints ts) _ (fun _ hw => hw.1) hu rfl es) hHeld ?_
 simp only [List.set_cons_succ, List.set_cons_zero]
 refine Nt.takeS (v := ?va5) 5 33 rfl rfl (by kernel_rfl) (by kernel_rfl) (by kernel_rfl) (fun _ _ _ h => h) (Or.inl ⟨by rfl, ?ya5⟩) hHeld ?ra5
 case ya5 => (intro w hSw; (try dsimp only at hSw); go_simp; all_goals (with_reducible rfl))
 simp only [List.set_cons_succ, List.set_cons_zero]
 refine Nt.takeS (v := ?va6) 6 34 rfl rfl (by kernel_rfl) (by kernel_rfl) (by kernel_rfl) (fun _ _ _ h => h) (Or.inl ⟨by rfl, ?ya6⟩) hHeld ?ra6
 case ya6 => (intro w hSw; (try dsimp only at hSw); go_simp; all_goals (with_reducible rfl))
 simp only [List.set_cons_succ, List.set_cons_zero]
 refine Nt.takeS (v := ?va7) 7 35 rfl rfl (by kernel_rfl) (by kernel_rfl) (by kernel_rfl) (fun _ _ _ h => h) (Or.inl ⟨by rfl, ?ya7⟩) hHeld ?ra7
 case ya7 => (intro w hSw; (try dsimp only at hSw); go_simp; all_goals (with_reducible rfl))
 simp only [List.set_cons_succ, List.set_cons_zero]
 refine Nt.takeS (v := ?va8) 8 36 rfl rfl (by kernel_rfl) (by kernel_rfl) (by kernel_rfl) (fun _ _ _ h => h) (Or.inl ⟨by rfl, ?ya8⟩) hHeld ?ra8
 case ya8 => (intro w hSw; (try dsimp only at hSw); go_simp; all_goals (with_reducible rfl))
 simp only [List.set_cons_succ, List.set_cons_zero]
 refine Nt.takeS (v := ?va9) 9 37 rfl rfl (by kernel_rfl) (by kernel_rfl) (by kernel_rfl) (fun _ _ _ h => h) (Or.inl ⟨by rfl, ?ya9⟩) hHeld ?ra9
 case ya9 => (intro w hSw; (try dsimp only at hSw); go_simp; all_goals (with_reducible rfl))
 simp only [List.set_cons_succ, List.set_cons_zero]
 refine Nt.takeS 10 38 rfl rfl (by kernel_rfl) (by kernel_rfl) (by kernel_rfl) (fun _ _ _ h => h) (Gm.yields_build (by rfl) 50 _ rfl (Gm.dnC (ts, (q3, q4, q5), 0)).toArray (Eq.trans (congrArg (Tryz.prog.built 50) (by kernel_rfl)) hbt)) hHeld ?_
 simp only [List.set_cons_succ, List.set_cons_zero]
 refine wpAnyH_ready (rs := [11]) (by kernel_rfl) (by simp) ?_
 refine AllReadyH.cons rfl (fun K hK => ?_) AllReadyH.nil
 refine Gm.step_row rfl 50 _ _ rfl (X.heap.size + 1 + 1) (Gm.dnC (ts, (q3, q4, q5), 0)).toArray rfl rfl 50 _ N2d f1 f2 f3 ?_
 refine hK.out _ _ ?_ (fun hTe => ?_)
 ·exact HKS.out _
 clear hK K
 refine wpAnyH_done (by kernel_rfl) ?_ _
 go_wp2_with fail
 exact bodyPost_ret (v := .agg (Gm.dnC (ts, (q3, q4, q5), 0)).toArray) (results_cell_row Tryz.results17 _ _ (X.heap.size + 1 + 1) 50 (Gm.dnC (ts, (q3, q4, q5), 0)).toArray (0, 0) _ rfl (setRow_heap _ _ _ _ _ _ N2d) huD rfl f1) rfl ⟨by rw [HE.out], Tk.below_row HBX.out.drew (by omega) _⟩
end Go.Proofs
namespace Go.Proofs
open Go.RowKit Go.ChangeShapes Go.WideShapes
theorem Gm.items_self (cs : Array Value) (d : Nat) (W : World) : ∀ (is : List Nat), (∀ j ∈ is, ∃ x : Int, cs[j]? = some (.int .i64 x)) → (Op.eqItems (d + 1) 3 1 cs cs is).run Tryz.prog W = .ok true W
 | [], _ => by simp [Op.eqItems]
 | j :: is, h => by
   obtain ⟨x, hx⟩ := h j List.mem_cons_self
   have h1 := Gm.part_int cs j x hx W
   have ih := Gm.items_self cs d W is fun k hk => h k (List.mem_cons_of_mem _ hk)
   rw [Op.eqItems]
   simp only [Sem.run_bind, Nat.mul_one, h1, Result.andThen_ok, Gm.int_eq d]
   first | exact ih | simpa using ih
theorem Gm.row_self40 (cs : Array Value) (d : Nat) (W : World) (h : ∀ j, j < 40 → ∃ x : Int, cs[j]? = some (.int .i64 x)) : (Op.equalIn (d + 2) 26 (.agg cs) (.agg cs)).run Tryz.prog W = .ok true W := by
 obtain ⟨i, hi⟩ := Gm.info_int
 rw [run_equalIn_array W (d + 1) _ _ Tryz.underlying26 hi, Gm.cells_int]
 exact Gm.items_self cs d W _ fun j hj => h j (List.mem_range.1 hj)
theorem Gm.row_self4 (cs : Array Value) (d : Nat) (W : World) (h : ∀ j, j < 4 → ∃ x : Int, cs[j]? = some (.int .i64 x)) : (Op.equalIn (d + 2) 27 (.agg cs) (.agg cs)).run Tryz.prog W = .ok true W := by
 obtain ⟨i, hi⟩ := Gm.info_int
 rw [run_equalIn_array W (d + 1) _ _ Tryz.underlying27 hi, Gm.cells_int]
 exact Gm.items_self cs d W _ fun j hj => h j (List.mem_range.1 hj)
theorem Gm.part40 (cs : Array Value) (o : Nat) (W : World) : (part 26 cs o).run Tryz.prog W = .ok (.agg (cs.extract o (o + 40))) W := by
 simp [part, Tryz.isAgg26, Tryz.sizeOf26, go_sem]
theorem Gm.part4 (cs : Array Value) (o : Nat) (W : World) : (part 27 cs o).run Tryz.prog W = .ok (.agg (cs.extract o (o + 4))) W := by
 simp [part, Tryz.isAgg27, Tryz.sizeOf27, go_sem]
theorem Gm.ints_extract {t : List Int} (h : t.length = 49) (o k j : Nat) (hj : j < k) (hk : o + k ≤ 49) : ∃ x : Int, ((Gm.ints t).toArray.extract o (o + k))[j]? = some (.int .i64 x) := by
 refine ⟨t.getD (o + j) 0, ?_⟩
 have hs : (Gm.ints t).toArray.size = 49 := by simpa [Gm.ints_length] using h
 rw [Array.getElem?_extract, if_pos (by rw [hs]; omega)]
 exact Gm.ints_get (by omega)
theorem Gm.eqFields_cons (d : Nat) (xs : Array Value) (f : Field) (fs : List Field) (W : World) (a : Value) (hn : f.name ≠ "_") (hp : (part f.type xs f.offset).run Tryz.prog W = .ok a W) (hq : (Op.equalIn d f.type a a).run Tryz.prog W = .ok true W) :
  (Op.eqFields d xs xs (f :: fs)).run Tryz.prog W = (Op.eqFields d xs xs fs).run Tryz.prog W := by
 rw [Op.eqFields, if_pos hn]
 simp only [Sem.run_bind, hp, Result.andThen_ok, hq]
 rfl
set_option maxRecDepth 20000 in
theorem Gm.st_eq (t : List Int) (h : t.length = 49) (W : World) : (Op.equalIn 10000 32 (.agg (Gm.ints t).toArray) (.agg (Gm.ints t).toArray)).run Tryz.prog W = .ok true W := by
 show (Op.equalIn (9999 + 1) 32 _ _).run Tryz.prog W = _
 rw [run_equalIn_struct W 9999 _ _ _ (by kernel_rfl) (by kernel_rfl)]
 have p0 : (part 26 (Gm.ints t).toArray 0).run Tryz.prog W = .ok (.agg ((Gm.ints t).toArray.extract 0 40)) W := Gm.part40 _ 0 W
 have p1 : (part 27 (Gm.ints t).toArray 40).run Tryz.prog W = .ok (.agg ((Gm.ints t).toArray.extract 40 44)) W := Gm.part4 _ 40 W
 have p2 : (part 27 (Gm.ints t).toArray 44).run Tryz.prog W = .ok (.agg ((Gm.ints t).toArray.extract 44 48)) W := Gm.part4 _ 44 W
 have p3 := Gm.part_int (Gm.ints t).toArray 48 _ (Gm.ints_get (by omega)) W
 have q0 : (Op.equalIn 9999 26 (.agg ((Gm.ints t).toArray.extract 0 40)) (.agg ((Gm.ints t).toArray.extract 0 40))).run Tryz.prog W = .ok true W := Gm.row_self40 _ 9997 W fun j hj => Gm.ints_extract h 0 40 j hj (by omega)
 have q1 : (Op.equalIn 9999 27 (.agg ((Gm.ints t).toArray.extract 40 44)) (.agg ((Gm.ints t).toArray.extract 40 44))).run Tryz.prog W = .ok true W := Gm.row_self4 _ 9997 W fun j hj => Gm.ints_extract h 40 4 j hj (by omega)
 have q2 : (Op.equalIn 9999 27 (.agg ((Gm.ints t).toArray.extract 44 48)) (.agg ((Gm.ints t).toArray.extract 44 48))).run Tryz.prog W = .ok true W := Gm.row_self4 _ 9997 W fun j hj => Gm.ints_extract h 44 4 j hj (by omega)
 have q3 : (Op.equalIn 9999 3 (.int .i64 (t.getD 48 0)) (.int .i64 (t.getD 48 0))).run Tryz.prog W = .ok true W := by
  have := Gm.int_eq 9998 (t.getD 48 0) (t.getD 48 0) W
  simpa using this
 obtain ⟨cs, hcs⟩ : ∃ z, (Gm.ints t).toArray = z := ⟨_, rfl⟩
 obtain ⟨x, hx⟩ : ∃ z, t.getD 48 0 = z := ⟨_, rfl⟩
 rw [hcs] at p0 p1 p2 p3 q0 q1 q2 ⊢
 rw [hx] at p3 q3
 unfold Program.fieldsOf
 rw [Tryz.underlying32]
 change (Op.eqFields 9999 cs cs (_ :: _ :: _ :: _ :: [])).run Tryz.prog W = _
 refine (Gm.eqFields_cons 9999 cs _ _ W _ (by decide) p0 q0).trans ?_
 refine (Gm.eqFields_cons 9999 cs _ _ W _ (by decide) p1 q1).trans ?_
 refine (Gm.eqFields_cons 9999 cs _ _ W _ (by decide) p2 q2).trans ?_
 refine (Gm.eqFields_cons 9999 cs _ _ W _ (by decide) p3 q3).trans ?_
 rfl
end Go.Proofs
