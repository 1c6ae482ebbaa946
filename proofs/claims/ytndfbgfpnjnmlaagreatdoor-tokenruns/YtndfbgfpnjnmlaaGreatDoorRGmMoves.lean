import Derived.Test.YtndfbgfpnjnmlaaGreatDoorRGmCheck
namespace Go.Proofs
open Go.RowKit Go.Shelf
namespace Gm
noncomputable def allS (ns : List Nd) (fs : List Fl) (l : List Int) : List (Mv × List Int) := if checkE ns fs l ≠ 0 then [] else stepsL ns fs l
theorem check_ok {ns : List Nd} {fs : List Fl} {l : List Int} (hl : l.length = 49) (h : checkE ns fs l = 0) : Rt ns fs ∧ Small l ∧ (∀ k, k < 4 → 0 ≤ l.getD (44 + k) 0 ∧ l.getD (44 + k) 0 ≤ 3) := by
 unfold checkE at h
 split at h
 ·cases h
 ·next h1 =>
  split at h
  ·next h2 =>
   refine ⟨Rt.of (by simpa using h1), ⟨hl, fun f hf => ?_⟩, fun k hk => ?_⟩
   ·unfold stateB at h2
    simp only [Bool.and_eq_true] at h2
    have := List.all_eq_true.1 h2.1.1.1.1 f (List.mem_range.2 hf)
    simp only [Bool.and_eq_true, decide_eq_true_eq] at this
    refine ⟨this.1, ?_⟩
    have h3 := this.2
    split at h3 <;> omega
   ·unfold stateB at h2
    simp only [Bool.and_eq_true] at h2
    have := List.all_eq_true.1 h2.1.1.1.2 k (List.mem_range.2 hk)
    simpa using this
  ·cases h
end Gm
set_option maxRecDepth 20000 in
set_option maxHeartbeats 16000000 in
theorem Tryz.tMoves_any (an : Option Addr) (n cn : Nat) (af : Option Addr) (m cf : Nat) (l : List Int) (X : World) (d : Nat) (ns : List Nd) (fs : List Fl) (hH : Nt.Has X X.heap.size d an af ns fs) (hn : ns.length = n) (hm : fs.length = m) (hll : l.length = 49) (hO : Tk.Ops X) :
  Calls Tryz.prog 12 #[.agg #[.slice an n cn, .slice af m cf], .agg (Gm.ints l).toArray] X fun e w' => ∃ v, e = .returned v ∧ Hid (w'.ownsRow X.heap.size 80 5 v ((Gm.allS ns fs l).map (·.1)).length (Gm.mvs ((Gm.allS ns fs l).map (·.1))) ∧ Below X.heap.size X w') := by
 obtain ⟨w1, hw1⟩ : ∃ z, (X.alloc (.cells #[.slice an n cn, .slice af m cf] 25)).alloc (.cells (Gm.ints l).toArray 29) = z := ⟨_, rfl⟩
 have P0 : w1.heap[X.heap.size]? = some (.cells #[.slice an n cn, .slice af m cf] 25 (0, 0)) := by
  rw [← hw1, Below.heap_alloc _ _ _ (by simp)]; exact heap_alloc_new X _
 have P1 : w1.heap[X.heap.size + 1]? = some (.cells (Gm.ints l).toArray 29 (0, 0)) := by
  rw [← hw1]
  have := heap_alloc_new (X.alloc (.cells #[.slice an n cn, .slice af m cf] 25)) (.cells (Gm.ints l).toArray 29)
  simpa using this
 have A1 : Below X.heap.size X w1 := by rw [← hw1]; exact ((Below.refl _ X).alloc (Nat.le_refl _) _).alloc (by simp) _
 have hu := Tryz.underlying29
 have e1 : (Tryz.prog.info? 29).map (·.size) = some (Gm.ints l).toArray.size := by
  have h : (Gm.ints l).toArray.size = 49 := by simpa [Gm.ints_length] using hll
  rw [h]; show _ = _; kernel_rfl
 have k0 : w1.cell? ⟨X.heap.size, 0, none⟩ = some (.slice an n cn) := by simp [World.cell?, P0]
 have k1 : w1.cell? ⟨X.heap.size, 1, none⟩ = some (.slice af m cf) := by simp [World.cell?, P0]
 have CC : Hid _ := Tryz.tCheck_any an n cn af m cf l w1 d ns fs ((hH.below A1).wider A1.size) hn hm hll (hO.below A1 hO.lt)
 obtain ⟨ce, hce⟩ : ∃ z, Gm.checkE ns fs l = z := ⟨_, rfl⟩
 rw [hce] at CC
 obtain ⟨ms, hms⟩ : ∃ z, (Gm.allS ns fs l).map (·.1) = z := ⟨_, rfl⟩
 rw [hms]
 have HA : Hid (Below X.heap.size X w1) := A1
 have HW1 : Hid _ := hw1
 by_cases hc0 : ce = 0
 ·have e0 : (ce != 0) = false := by simpa using hc0
  obtain ⟨hRt, hS, hQ⟩ := Gm.check_ok hll (by rw [hce]; exact hc0)
  have HCP : Hid (∀ W, Below w1.heap.size w1 W → Calls Tryz.prog 27 #[.agg #[.slice an n cn, .slice af m cf], .agg (Gm.ints l).toArray, .int .i64 (-1)] W fun e w' => ∃ (b : Nat) (v : Value), e = .returned (.pointer (some ⟨b, 0, none⟩)) ∧ Hid (w'.cell? ⟨b, 51, none⟩ = some v ∧ w'.ownsRow X.heap.size 80 5 v ms.length (Gm.mvs ms) ∧ Below X.heap.size X w')) := fun W hW => by
   have hXW : Below X.heap.size X W := A1.trans (hW.mono A1.size)
   refine (Tryz.play_any an n cn af m cf l (-1) W d ns fs ((hH.below hXW).wider hXW.size) hn hm hRt hS hQ (hO.below hXW hO.lt)).mono fun e w' ⟨b, v, he, h⟩ => ⟨b, v, he, h.out.1.mv, ?_, hXW.trans (h.out.2.2.1.mono hXW.size)⟩
   have h2 := h.out.2.1
   rw [Gm.goes_moves, List.nil_append] at h2
   have e3 : (Gm.stepsL ns fs l).map (·.1) = ms := by
    rw [← hms]; unfold Gm.allS; rw [hce, if_neg (by simpa using hc0)]
   rw [e3] at h2
   exact Nt.own_lower h2 hXW.size
  clear hw1 P0 A1 hce hms hH hn hm hll hO hRt hS hQ hc0
  go_enter Tryz.func12, Tryz.ntmps12
  go_upto_region 1 with fail
  rw [HW1.out]
  clear HW1
  go_wp2_with (first
   | refine wpList_load_row rfl 29 _ rfl _ rfl 29 (Gm.ints l).toArray (0, 0) _ P1 hu rfl e1 ?_
   | fail)
  refine Calls.mono CC.out ?_
  rintro e W2 ⟨rfl, b2⟩
  have P2 : W2.heap[X.heap.size + 1]? = some (.cells (Gm.ints l).toArray 29 (0, 0)) := by rw [b2.block _ (Gm.blk_lt P1)]; exact P1
  have j0 : W2.cell? ⟨X.heap.size, 0, none⟩ = some (.slice an n cn) := by rw [b2.cell (p := ⟨X.heap.size, 0, none⟩) (World.block_lt_of_cell? _ _ k0)]; exact k0
  have j1 : W2.cell? ⟨X.heap.size, 1, none⟩ = some (.slice af m cf) := by rw [b2.cell (p := ⟨X.heap.size, 1, none⟩) (World.block_lt_of_cell? _ _ k1)]; exact k1
  have HP2 : Hid _ := HCP.out W2 b2
  clear b2 P1 k0 k1 CC HCP
  go_wp2_with (first
   | refine wpList_load_row rfl 29 _ rfl _ rfl 29 (Gm.ints l).toArray (0, 0) _ P2 hu rfl e1 ?_
   | fail)
  refine Calls.mono HP2.out ?_
  rintro e W3 ⟨b, v, rfl, H3⟩
  have c51 := H3.out.1
  clear P2 j0 j1
  go_wp2
  go_ret
  first | exact ⟨_, rfl, H3.out.2⟩ | exact H3.out.2
 ·have e0 : (ce != 0) = true := by simpa using hc0
  have HM : Hid (ms = []) := by show _ = _; rw [← hms]; unfold Gm.allS; rw [hce, if_pos hc0]; rfl
  clear hw1 P0 A1 hce hms hH hn hm hll hO hc0
  go_enter Tryz.func12, Tryz.ntmps12
  go_upto_region 1 with fail
  rw [HW1.out]
  clear HW1
  go_wp2_with (first
   | refine wpList_load_row rfl 29 _ rfl _ rfl 29 (Gm.ints l).toArray (0, 0) _ P1 hu rfl e1 ?_
   | fail)
  refine Calls.mono CC.out ?_
  rintro e W2 ⟨rfl, b2⟩
  have HB : Hid (W2.ownsRow X.heap.size 80 5 (.slice none 0 0) ms.length (Gm.mvs ms) ∧ Below X.heap.size X W2) := by
   rw [HM.out]
   exact ⟨⟨rfl, .inl ⟨rfl, rfl⟩⟩, HA.out.trans (b2.mono HA.out.size)⟩
  clear b2 P1 k0 k1 CC
  go_wp2
  go_ret
  first | exact ⟨_, rfl, HB.out⟩ | exact HB.out
end Go.Proofs
namespace Go.Proofs
open Go.RowKit Go.Shelf
namespace Gm
def ones (t : List Int) (a : List Nat) : List Int := a.foldl (fun t f => t.set f 1) t
def startL (ns : List Nd) (fs : List Fl) : List Int := ones zeros (Nt.outsL fs (Nt.firstI ns 1))
noncomputable def startS (ns : List Nd) (fs : List Fl) : List Int := if (Nt.checkN ns fs).1 ≠ 0 then zeros else startL ns fs
noncomputable def startE (ns : List Nd) (fs : List Fl) : Int := if (Nt.checkN ns fs).1 ≠ 0 then 4 else 0
end Gm
set_option maxRecDepth 20000 in
set_option maxHeartbeats 16000000 in
theorem Tryz.tStart_any (an : Option Addr) (n cn : Nat) (af : Option Addr) (m cf : Nat) (X : World) (d : Nat) (ns : List Nd) (fs : List Fl) (hH : Nt.Has X X.heap.size d an af ns fs) (hn : ns.length = n) (hm : fs.length = m) (hO : Tk.Ops X) :
  Calls Tryz.prog 18 #[.agg #[.slice an n cn, .slice af m cf]] X fun e w' => e = .returned (.tuple #[.agg (Gm.ints (Gm.startS ns fs)).toArray, .int .i64 (Gm.startE ns fs)]) ∧ Below X.heap.size X w' := by
 obtain ⟨w1, hw1⟩ : ∃ z, (X.alloc (.cells #[.slice an n cn, .slice af m cf] 25)).alloc (.cells #[.int .i64 0, .int .i64 0, .int .i64 0, .int .i64 0, .int .i64 0, .int .i64 0, .int .i64 0, .int .i64 0, .int .i64 0, .int .i64 0, .int .i64 0, .int .i64 0, .int .i64 0, .int .i64 0, .int .i64 0, .int .i64 0, .int .i64 0, .int .i64 0, .int .i64 0, .int .i64 0, .int .i64 0, .int .i64 0, .int .i64 0, .int .i64 0, .int .i64 0, .int .i64 0, .int .i64 0, .int .i64 0, .int .i64 0, .int .i64 0, .int .i64 0, .int .i64 0, .int .i64 0, .int .i64 0, .int .i64 0, .int .i64 0, .int .i64 0, .int .i64 0, .int .i64 0, .int .i64 0, .int .i64 0, .int .i64 0, .int .i64 0, .int .i64 0, .int .i64 0, .int .i64 0, .int .i64 0, .int .i64 0, .int .i64 0] 29) = z := ⟨_, rfl⟩
 have P0 : w1.heap[X.heap.size]? = some (.cells #[.slice an n cn, .slice af m cf] 25 (0, 0)) := by
  rw [← hw1, Below.heap_alloc _ _ _ (by simp)]; exact heap_alloc_new X _
 have P1 : w1.heap[X.heap.size + 1]? = some (.cells #[.int .i64 0, .int .i64 0, .int .i64 0, .int .i64 0, .int .i64 0, .int .i64 0, .int .i64 0, .int .i64 0, .int .i64 0, .int .i64 0, .int .i64 0, .int .i64 0, .int .i64 0, .int .i64 0, .int .i64 0, .int .i64 0, .int .i64 0, .int .i64 0, .int .i64 0, .int .i64 0, .int .i64 0, .int .i64 0, .int .i64 0, .int .i64 0, .int .i64 0, .int .i64 0, .int .i64 0, .int .i64 0, .int .i64 0, .int .i64 0, .int .i64 0, .int .i64 0, .int .i64 0, .int .i64 0, .int .i64 0, .int .i64 0, .int .i64 0, .int .i64 0, .int .i64 0, .int .i64 0, .int .i64 0, .int .i64 0, .int .i64 0, .int .i64 0, .int .i64 0, .int .i64 0, .int .i64 0, .int .i64 0, .int .i64 0] 29 (0, 0)) := by
  rw [← hw1]
  have := heap_alloc_new (X.alloc (.cells #[.slice an n cn, .slice af m cf] 25)) (.cells #[.int .i64 0, .int .i64 0, .int .i64 0, .int .i64 0, .int .i64 0, .int .i64 0, .int .i64 0, .int .i64 0, .int .i64 0, .int .i64 0, .int .i64 0, .int .i64 0, .int .i64 0, .int .i64 0, .int .i64 0, .int .i64 0, .int .i64 0, .int .i64 0, .int .i64 0, .int .i64 0, .int .i64 0, .int .i64 0, .int .i64 0, .int .i64 0, .int .i64 0, .int .i64 0, .int .i64 0, .int .i64 0, .int .i64 0, .int .i64 0, .int .i64 0, .int .i64 0, .int .i64 0, .int .i64 0, .int .i64 0, .int .i64 0, .int .i64 0, .int .i64 0, .int .i64 0, .int .i64 0, .int .i64 0, .int .i64 0, .int .i64 0, .int .i64 0, .int .i64 0, .int .i64 0, .int .i64 0, .int .i64 0, .int .i64 0] 29)
  simpa using this
 have A1 : Below X.heap.size X w1 := by rw [← hw1]; exact ((Below.refl _ X).alloc (Nat.le_refl _) _).alloc (by simp) _
 have k0 : w1.cell? ⟨X.heap.size, 0, none⟩ = some (.slice an n cn) := by simp [World.cell?, P0]
 have k1 : w1.cell? ⟨X.heap.size, 1, none⟩ = some (.slice af m cf) := by simp [World.cell?, P0]
 have CN : Hid _ := Tryz.nCheck_any an cn af cf d ns fs w1 ((hH.below A1).wider A1.size) (hO.below A1 hO.lt)
 rw [hn, hm] at CN
 obtain ⟨ru, hru⟩ : ∃ z, Nt.checkN ns fs = z := ⟨_, rfl⟩
 obtain ⟨r, q⟩ := ru
 rw [hru] at CN
 obtain ⟨R, hR⟩ : ∃ z, Gm.startS ns fs = z := ⟨_, rfl⟩
 obtain ⟨E, hE⟩ : ∃ z, Gm.startE ns fs = z := ⟨_, rfl⟩
 rw [hR, hE]
 have hu := Tryz.underlying29
 have HA : Hid (Below X.heap.size X w1) := A1
 have HW1 : Hid _ := hw1
 have HBOX : Hid (∀ W, Below w1.heap.size w1 W → W.cell? ⟨X.heap.size, 0, none⟩ = some (.slice an n cn) ∧ W.cell? ⟨X.heap.size, 1, none⟩ = some (.slice af m cf) ∧ W.heap[X.heap.size + 1]? = some (.cells #[.int .i64 0, .int .i64 0, .int .i64 0, .int .i64 0, .int .i64 0, .int .i64 0, .int .i64 0, .int .i64 0, .int .i64 0, .int .i64 0, .int .i64 0, .int .i64 0, .int .i64 0, .int .i64 0, .int .i64 0, .int .i64 0, .int .i64 0, .int .i64 0, .int .i64 0, .int .i64 0, .int .i64 0, .int .i64 0, .int .i64 0, .int .i64 0, .int .i64 0, .int .i64 0, .int .i64 0, .int .i64 0, .int .i64 0, .int .i64 0, .int .i64 0, .int .i64 0, .int .i64 0, .int .i64 0, .int .i64 0, .int .i64 0, .int .i64 0, .int .i64 0, .int .i64 0, .int .i64 0, .int .i64 0, .int .i64 0, .int .i64 0, .int .i64 0, .int .i64 0, .int .i64 0, .int .i64 0, .int .i64 0, .int .i64 0] 29 (0, 0)) ∧ Below X.heap.size X W) := fun W hW => by
  have h0 : W.heap[X.heap.size]? = some (.cells #[.slice an n cn, .slice af m cf] 25 (0, 0)) := by rw [hW.block _ (Gm.blk_lt P0)]; exact P0
  exact ⟨by simp [World.cell?, h0], by simp [World.cell?, h0], by rw [hW.block _ (Gm.blk_lt P1)]; exact P1, A1.trans (hW.mono A1.size)⟩
 by_cases hr : r = 0
 ·have e0 : ((r : Int) != 0) = false := by simp [hr]
  have hRt := Gm.Rt.of (show (Nt.checkN ns fs).1 = 0 by rw [hru]; exact hr)
  have hf40 := hRt.f40
  obtain ⟨si, hsi⟩ : ∃ z, Nt.firstI ns 1 = z := ⟨_, rfl⟩
  obtain ⟨L, hL⟩ : ∃ z, Nt.outsL fs si = z := ⟨_, rfl⟩
  have HRR : Hid (Gm.ones Gm.zeros (L.drop 0) = R ∧ E = 0) := by
   refine ⟨?_, ?_⟩
   ·rw [← hR]; unfold Gm.startS Gm.startL; rw [hru, if_neg (show ¬ (r, q).1 ≠ 0 by simpa using hr), hsi, hL]; rfl
   ·rw [← hE]; unfold Gm.startE; rw [hru, if_neg (show ¬ (r, q).1 ≠ 0 by simpa using hr)]
  have CS : Hid (∀ W, Below w1.heap.size w1 W → Calls Tryz.prog 31 #[.agg #[.slice an n cn, .slice af m cf]] W fun e w' => e = .returned (.int .i64 si) ∧ Hid (Below w1.heap.size w1 w' ∧ Below W.heap.size W w')) := fun W hW => by
   have hXW : Below X.heap.size X W := A1.trans (hW.mono A1.size)
   have h := Tryz.nStart_any an cn d af m cf ns W ((hH.nds.below hXW).wider hXW.size) hH.nlen
   rw [hn, hsi] at h
   exact h.mono fun _ _ q => ⟨q.1, hW.trans (q.2.mono hW.size), q.2⟩
  have CO : Hid (∀ W, Below w1.heap.size w1 W → Calls Tryz.prog 30 #[.agg #[.slice an n cn, .slice af m cf], .int .i64 si] W fun e w' => ∃ a c, e = .returned (.slice a L.length c) ∧ Hid (Below w1.heap.size w1 w' ∧ Below W.heap.size W w' ∧ Gm.Ints w' (.slice a L.length c) (L.map fun x : Nat => (x : Int)))) := fun W hW => by
   have hXW : Below X.heap.size X W := A1.trans (hW.mono A1.size)
   have h := Gm.outs_call ((hH.fls.below hXW).wider (Nat.le_refl _)) hXW.size (by omega) an n cn cf si W (Below.refl _ _)
   rw [hm, hL] at h
   refine h.mono fun e w' ⟨v, hv, hh⟩ => ?_
   obtain ⟨a, c, rfl, h3⟩ := id hh.out.2.2
   rw [List.length_map] at hv hh
   exact ⟨a, c, hv, hW.trans (hh.out.1.mono hW.size), hh.out.1, hh.out.2.2⟩
  have HL : Hid ((∀ f ∈ L, f < 40) ∧ L.length ≤ 100) := by
   refine ⟨fun f hf => ?_, ?_⟩
   ·rw [← hL] at hf; have := Gm.outs_lt hf; omega
   ·rw [← hL]; have := Gm.outs_len fs si; omega
  have HI49 : Hid (∀ t : List Int, t.length = 49 → (Tryz.prog.info? 29).map (·.size) = some (Gm.ints t).toArray.size ∧ (#[.int .i64 0, .int .i64 0, .int .i64 0, .int .i64 0, .int .i64 0, .int .i64 0, .int .i64 0, .int .i64 0, .int .i64 0, .int .i64 0, .int .i64 0, .int .i64 0, .int .i64 0, .int .i64 0, .int .i64 0, .int .i64 0, .int .i64 0, .int .i64 0, .int .i64 0, .int .i64 0, .int .i64 0, .int .i64 0, .int .i64 0, .int .i64 0, .int .i64 0, .int .i64 0, .int .i64 0, .int .i64 0, .int .i64 0, .int .i64 0, .int .i64 0, .int .i64 0, .int .i64 0, .int .i64 0, .int .i64 0, .int .i64 0, .int .i64 0, .int .i64 0, .int .i64 0, .int .i64 0, .int .i64 0, .int .i64 0, .int .i64 0, .int .i64 0, .int .i64 0, .int .i64 0, .int .i64 0, .int .i64 0, .int .i64 0] : Array Value).size = (Gm.ints t).toArray.size ∧ (Gm.ints t).toArray.all (·.oneCell') = true) := fun t ht => by
   have h : (Gm.ints t).toArray.size = 49 := by simpa [Gm.ints_length] using ht
   refine ⟨by rw [h]; kernel_rfl, by rw [h]; rfl, all_oneCell_toArray (Gm.ints_one t)⟩
  clear hw1 P0 P1 A1 hru hR hE hH hn hm hO hr hRt hf40 hsi hL
  go_enter Tryz.func18, Tryz.ntmps18
  go_upto_region 1 with fail
  rw [HW1.out]
  clear HW1
  go_wp2_with fail
  refine Calls.mono CN.out ?_
  rintro e W2 ⟨rfl, b2⟩
  obtain ⟨wi, hwi⟩ : ∃ z, W2.alloc (.cells #[.int .i64 0, .int .i64 0, .int .i64 0, .int .i64 0, .int .i64 0, .int .i64 0, .int .i64 0, .int .i64 0, .int .i64 0, .int .i64 0, .int .i64 0, .int .i64 0, .int .i64 0, .int .i64 0, .int .i64 0, .int .i64 0, .int .i64 0, .int .i64 0, .int .i64 0, .int .i64 0, .int .i64 0, .int .i64 0, .int .i64 0, .int .i64 0, .int .i64 0, .int .i64 0, .int .i64 0, .int .i64 0, .int .i64 0, .int .i64 0, .int .i64 0, .int .i64 0, .int .i64 0, .int .i64 0, .int .i64 0, .int .i64 0, .int .i64 0, .int .i64 0, .int .i64 0, .int .i64 0, .int .i64 0, .int .i64 0, .int .i64 0, .int .i64 0, .int .i64 0, .int .i64 0, .int .i64 0, .int .i64 0, .int .i64 0] 29) = z := ⟨_, rfl⟩
  have Nq : wi.heap[W2.heap.size]? = some (.cells (Gm.ints Gm.zeros).toArray 29 (0, 0)) := by rw [← hwi]; exact heap_alloc_new W2 _
  have Bi : Below W2.heap.size W2 wi := by rw [← hwi]; exact (Below.refl _ W2).alloc (Nat.le_refl _) _
  have HBI : Hid (Below w1.heap.size w1 wi ∧ wi.heap[W2.heap.size]? = some (.cells (Gm.ints Gm.zeros).toArray 29 (0, 0)) ∧ w1.heap.size ≤ W2.heap.size) := ⟨b2.trans (Bi.mono b2.size), Nq, b2.size⟩
  have HWI : Hid _ := hwi
  clear b2 CN k0 k1 hwi Nq Bi
  go_upto_region 5 with fail
  rw [HWI.out]
  clear HWI
  refine wp_region_held_drew (S := (fun V => V.cell? ⟨X.heap.size, 0, none⟩ = some (.slice an n cn) ∧ V.cell? ⟨X.heap.size, 1, none⟩ = some (.slice af m cf))) (by kernel_rfl) ?_ (fun hHeld => ?_)
  ·exact ⟨(HBOX.out _ HBI.out.1.drew).1, (HBOX.out _ HBI.out.1.drew).2.1⟩
  refine Nt.takeS (v := ?va0) 0 17 rfl rfl (by kernel_rfl) (by kernel_rfl) (by kernel_rfl) (fun _ _ _ h => h) (Or.inl ⟨by rfl, ?ya0⟩) hHeld ?ra0
  case ya0 => (intro w hSw; (try dsimp only at hSw); go_simp; all_goals (with_reducible rfl))
  simp only [List.set_cons_succ, List.set_cons_zero]
  refine Nt.takeS (v := ?va1) 1 18 rfl rfl (by kernel_rfl) (by kernel_rfl) (by kernel_rfl) (fun _ _ _ h => h) (Or.inl ⟨by rfl, ?ya1⟩) hHeld ?ra1
  case ya1 => (intro w hSw; (try dsimp only at hSw); go_simp; all_goals (with_reducible rfl))
  simp only [List.set_cons_succ, List.set_cons_zero]
  refine Nt.takeS (v := ?va5) 5 22 rfl rfl (by kernel_rfl) (by kernel_rfl) (by kernel_rfl) (fun _ _ _ h => h) (Or.inl ⟨by rfl, ?ya5⟩) hHeld ?ra5
  case ya5 => (intro w hSw; (try dsimp only at hSw); go_simp; all_goals (with_reducible rfl))
  simp only [List.set_cons_succ, List.set_cons_zero]
  refine wpAnyH_ready (rs := [2]) (by kernel_rfl) (by simp) ?_
  refine AllReadyH.cons rfl (fun K hK => ?_) AllReadyH.nil
  go_simp
  go_at_call 31
  refine Calls.mono (CS.out _ HBI.out.1.drew) ?_
  rintro e W5 ⟨rfl, H5⟩
  go_wp2_with fail
  refine hK.out _ _ ?_ (fun hTe => ?_)
  ·exact ⟨(HBOX.out _ H5.out.1).1, (HBOX.out _ H5.out.1).2.1⟩
  clear hK K
  first | refine Nt.normS 19 rfl ?_ | skip
  first | (simp only [List.set_cons_succ, List.set_cons_zero]) | skip
  refine wpAnyH_ready (rs := [3]) (by kernel_rfl) (by simp) ?_
  refine AllReadyH.cons rfl (fun K hK => ?_) AllReadyH.nil
  go_simp
  go_at_call 30
  refine Calls.mono (CO.out _ H5.out.1) ?_
  rintro e W6 ⟨a6, c6, rfl, H6⟩
  go_wp2_with fail
  refine hK.out _ _ ?_ (fun hTf => ?_)
  ·exact ⟨(HBOX.out _ H6.out.1).1, (HBOX.out _ H6.out.1).2.1⟩
  clear hK K
  first | refine Nt.normS 20 rfl ?_ | skip
  first | (simp only [List.set_cons_succ, List.set_cons_zero]) | skip
  refine Nt.takeS (v := ?vb4) 4 21 rfl rfl (by kernel_rfl) (by kernel_rfl) (by kernel_rfl) (fun _ _ _ h => h) (Or.inl ⟨by rfl, ?yb4⟩) hTf ?rb4
  case yb4 => (intro w hSw; (try dsimp only at hSw); go_simp; all_goals (with_reducible rfl))
  simp only [List.set_cons_succ, List.set_cons_zero]
  refine wpAnyH_done (by kernel_rfl) ?_ _
  obtain ⟨qb, hqb⟩ : ∃ z, W2.heap.size = z := ⟨_, rfl⟩
  have HS : Hid (Gm.ones Gm.zeros (L.drop 0) = R ∧ Below w1.heap.size w1 W6 ∧ W6.heap[qb]? = some (.cells (Gm.ints Gm.zeros).toArray 29 (0, 0)) ∧ w1.heap.size ≤ qb) := by
   refine ⟨HRR.out.1, H6.out.1, ?_, by rw [← hqb]; exact HBI.out.2.2⟩
   rw [H6.out.2.1.block _ (Nat.lt_of_lt_of_le (Gm.blk_lt (by rw [← hqb]; exact HBI.out.2.1)) H5.out.2.size), H5.out.2.block _ (Gm.blk_lt (by rw [← hqb]; exact HBI.out.2.1)), ← hqb]
   exact HBI.out.2.1
  have HIA : Hid (∀ W : World, (∀ (g : Nat) (cs : Array Value) (fr : Nat × Nat), W6.heap[g]? = some (Obj.cells cs 3 fr) → W.heap[g]? = W6.heap[g]?) → ∀ j, j < L.length → ∃ (g off f : Nat), L[j]? = some f ∧ f < 40 ∧ a6 = some ⟨g, off, none⟩ ∧ W.cell? ⟨g, off + j, none⟩ = some (.int .i64 f)) := fun W hk j hj => by
   obtain ⟨a', c', hs, ha⟩ := H6.out.2.2
   obtain ⟨rfl, -, -⟩ := Value.slice.inj hs
   obtain ⟨g, off, cs, fr, h1, h2, h3⟩ := ha j (by rw [List.length_map]; exact hj)
   refine ⟨g, off, L[j], List.getElem?_eq_getElem hj, HL.out.1 _ (List.getElem_mem hj), h1, ?_⟩
   rw [World.cell?_of_block (w := W6) (a := ⟨g, off + j, none⟩) (hk g cs fr h2), h3]
   simp
  have HQB : Hid (W2.heap.size = qb) := hqb
  rw [HQB.out]
  obtain ⟨na, hna⟩ : ∃ z, L.length = z := ⟨_, rfl⟩
  rw [hna] at HIA
  rw [hna]
  have hna1 : na ≤ 100 := by rw [← hna]; exact HL.out.2
  have HNA : Hid (L.length = na) := hna
  clear hqb HQB H5 H6 HBI hna CS CO
  go_wp2
  go_loopg [8, 22] na (fun gk _ s22 wr => ∃ (j : Nat) (t : List Int), s22 = .int .i64 j ∧ gk + j = na ∧ Hid (Gm.ones t (L.drop j) = R ∧ Below w1.heap.size w1 wr ∧ wr.heap[qb]? = some (.cells (Gm.ints t).toArray 29 (0, 0)) ∧ t.length = 49 ∧ ∀ (g : Nat) (cs : Array Value) (fr : Nat × Nat), W6.heap[g]? = some (Obj.cells cs 3 fr) → wr.heap[g]? = W6.heap[g]?))
  case atStart => exact ⟨0, Gm.zeros, rfl, by omega, HS.out.1, HS.out.2.1, HS.out.2.2.1, rfl, fun _ _ _ _ => rfl⟩
  case round =>
   obtain ⟨j, t, rfl, hj, HJ⟩ := hrel
   by_cases hlt : j < na
   ·have hd : decide ((j : Int) < na) = true := decide_eq_true (by omega)
    obtain ⟨g, off, f, haf, hf4, rfl, hcf⟩ := HIA.out wr HJ.out.2.2.2.2 j hlt
    have hdr : L.drop j = f :: L.drop (j + 1) := by
     obtain ⟨h1, h2⟩ := List.getElem?_eq_some_iff.1 haf
     rw [← h2]; exact List.drop_eq_getElem_cons h1
    have cx : wr.cell? ⟨qb, f, none⟩ = some (.int .i64 (t.getD f 0)) := by
     have h1 := HJ.out.2.2.1
     simp only [World.cell?, h1]
     rw [Gm.ints_get (by have := HJ.out.2.2.2.1; omega)]
     rfl
    have fx : wr.frozen? ⟨qb, f, none⟩ = false := by simp [World.frozen?, HJ.out.2.2.1]
    have i1 : (f : Int) < 40 := by omega
    have i0 : (0 : Int) ≤ f := by omega
    have j1 : (j : Int) < na := by omega
    have j0 : (0 : Int) ≤ j := by omega
    have HN : Hid (Gm.ones (t.set f 1) (L.drop (j + 1)) = R ∧ Below w1.heap.size w1 (wr.setCell ⟨qb, f, none⟩ (.int .i64 1)) ∧ (wr.setCell ⟨qb, f, none⟩ (.int .i64 1)).heap[qb]? = some (.cells (Gm.ints (t.set f 1)).toArray 29 (0, 0)) ∧ (t.set f 1).length = 49 ∧ ∀ (g : Nat) (cs : Array Value) (fr : Nat × Nat), W6.heap[g]? = some (Obj.cells cs 3 fr) → (wr.setCell ⟨qb, f, none⟩ (.int .i64 1)).heap[g]? = W6.heap[g]?) := by
     refine ⟨?_, HJ.out.2.1.setCell (p := ⟨qb, f, none⟩) HS.out.2.2.2 _, Gm.put_row HJ.out.2.2.1, by simpa using HJ.out.2.2.2.1, fun g' cs fr hg' => ?_⟩
     ·have := HJ.out.1
      rw [hdr] at this
      exact this
     ·rw [Below.heap_setCell _ _ _ _ (fun e => ?_)]
      ·exact HJ.out.2.2.2.2 g' cs fr hg'
      ·have h1 := HJ.out.2.2.2.2 g' cs fr hg'
       have e' : g' = qb := e
       rw [e', HJ.out.2.2.1, ← e', hg'] at h1
       injection h1 with h1
       injection h1 with _ h1
       exact absurd h1 (by decide)
    clear HJ hdr haf
    go_wp2
    go_roundg (gk - 1)
    case measure => omega
    case rel => exact ⟨j + 1, t.set f 1, by go_num, by omega, HN.out⟩
   ·obtain rfl : j = na := by omega
    have hd : decide ((j : Int) < j) = false := decide_eq_false (by omega)
    have HE : Hid (t = R ∧ 0 = E) := by
     have h1 := HJ.out.1
     rw [List.drop_eq_nil_of_le (by rw [HNA.out]; exact Nat.le_refl _)] at h1
     exact ⟨h1, HRR.out.2.symm⟩
    have NU := HJ.out.2.2.1
    obtain ⟨k0, k1, NR, hBX⟩ := HBOX.out wr HJ.out.2.1
    have HBX : Hid (Below X.heap.size X wr) := hBX
    obtain ⟨e1, e2, e3⟩ := HI49.out t HJ.out.2.2.2.1
    clear HJ k0 k1 hBX
    go_wp2_with (first
     | refine wpList_load_row rfl 29 _ rfl _ rfl 29 (Gm.ints t).toArray (0, 0) _ NU hu rfl e1 ?_
     | refine wpList_store_row rfl 29 _ _ rfl (X.heap.size + 1) (Gm.ints t).toArray rfl rfl 29 _ NR e1 e2 e3 ?_)
    refine bodyPost_ret (Gm.results2 Tryz.results18 _ _ (X.heap.size + 1) (Gm.ints t).toArray rfl (run_loadVar_row _ (X.heap.size + 1) 29 29 (Gm.ints t).toArray (0, 0) _ (setRow_heap _ _ _ _ _ _ NR) hu rfl e1)) rfl ⟨?_, Tk.below_row HBX.out (by omega) _⟩
    rw [← HE.out.1, ← HE.out.2]
    rfl
 ·have e0 : ((r : Int) != 0) = true := by simpa using hr
  have HE : Hid (Gm.zeros = R ∧ 4 = E) := by
   refine ⟨?_, ?_⟩
   ·rw [← hR]; unfold Gm.startS; rw [hru, if_pos (show (r, q).1 ≠ 0 from hr)]
   ·rw [← hE]; unfold Gm.startE; rw [hru, if_pos (show (r, q).1 ≠ 0 from hr)]
  clear hw1 P0 P1 A1 hru hR hE hH hn hm hO hr
  go_enter Tryz.func18, Tryz.ntmps18
  go_upto_region 1 with fail
  rw [HW1.out]
  clear HW1
  go_wp2_with fail
  refine Calls.mono CN.out ?_
  rintro e W2 ⟨rfl, b2⟩
  obtain ⟨-, -, NR, hBX⟩ := HBOX.out W2 b2
  have HBX : Hid (Below X.heap.size X W2) := hBX
  clear b2 CN k0 k1 hBX
  go_wp2_with (refine wpList_store_row rfl 29 _ _ rfl (X.heap.size + 1) #[.int .i64 0, .int .i64 0, .int .i64 0, .int .i64 0, .int .i64 0, .int .i64 0, .int .i64 0, .int .i64 0, .int .i64 0, .int .i64 0, .int .i64 0, .int .i64 0, .int .i64 0, .int .i64 0, .int .i64 0, .int .i64 0, .int .i64 0, .int .i64 0, .int .i64 0, .int .i64 0, .int .i64 0, .int .i64 0, .int .i64 0, .int .i64 0, .int .i64 0, .int .i64 0, .int .i64 0, .int .i64 0, .int .i64 0, .int .i64 0, .int .i64 0, .int .i64 0, .int .i64 0, .int .i64 0, .int .i64 0, .int .i64 0, .int .i64 0, .int .i64 0, .int .i64 0, .int .i64 0, .int .i64 0, .int .i64 0, .int .i64 0, .int .i64 0, .int .i64 0, .int .i64 0, .int .i64 0, .int .i64 0, .int .i64 0] rfl rfl 29 _ NR (by kernel_rfl) rfl (by kernel_rfl) ?_)
  refine bodyPost_ret (Gm.results2 Tryz.results18 _ _ (X.heap.size + 1) #[.int .i64 0, .int .i64 0, .int .i64 0, .int .i64 0, .int .i64 0, .int .i64 0, .int .i64 0, .int .i64 0, .int .i64 0, .int .i64 0, .int .i64 0, .int .i64 0, .int .i64 0, .int .i64 0, .int .i64 0, .int .i64 0, .int .i64 0, .int .i64 0, .int .i64 0, .int .i64 0, .int .i64 0, .int .i64 0, .int .i64 0, .int .i64 0, .int .i64 0, .int .i64 0, .int .i64 0, .int .i64 0, .int .i64 0, .int .i64 0, .int .i64 0, .int .i64 0, .int .i64 0, .int .i64 0, .int .i64 0, .int .i64 0, .int .i64 0, .int .i64 0, .int .i64 0, .int .i64 0, .int .i64 0, .int .i64 0, .int .i64 0, .int .i64 0, .int .i64 0, .int .i64 0, .int .i64 0, .int .i64 0, .int .i64 0] rfl (run_loadVar_row _ (X.heap.size + 1) 29 29 #[.int .i64 0, .int .i64 0, .int .i64 0, .int .i64 0, .int .i64 0, .int .i64 0, .int .i64 0, .int .i64 0, .int .i64 0, .int .i64 0, .int .i64 0, .int .i64 0, .int .i64 0, .int .i64 0, .int .i64 0, .int .i64 0, .int .i64 0, .int .i64 0, .int .i64 0, .int .i64 0, .int .i64 0, .int .i64 0, .int .i64 0, .int .i64 0, .int .i64 0, .int .i64 0, .int .i64 0, .int .i64 0, .int .i64 0, .int .i64 0, .int .i64 0, .int .i64 0, .int .i64 0, .int .i64 0, .int .i64 0, .int .i64 0, .int .i64 0, .int .i64 0, .int .i64 0, .int .i64 0, .int .i64 0, .int .i64 0, .int .i64 0, .int .i64 0, .int .i64 0, .int .i64 0, .int .i64 0, .int .i64 0, .int .i64 0] (0, 0) _ (setRow_heap _ _ _ _ _ _ NR) hu rfl (by kernel_rfl))) rfl ⟨?_, Tk.below_row HBX.out (by omega) _⟩
  rw [← HE.out.1, ← HE.out.2]
  rfl
end Go.Proofs
