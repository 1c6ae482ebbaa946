import Derived.Test.YtdghjgiakblfmaaGreatDoorRAcCheck
namespace Go.Proofs
open Go.RowKit Go.Shelf
def Dd.ints (l : List Int) : List Value := l.map fun n => .int .i64 n
def Dd.row (l : List Int) : Array Value := (Dd.ints l).toArray
theorem Dd.row_size (l : List Int) : (Dd.row l).size = l.length := by simp [Dd.row, Dd.ints]
theorem Dd.row_get {l : List Int} {i : Nat} (h : i < l.length) : (Dd.row l)[i]? = some (.int .i64 (l.getD i 0)) := by
 simp [Dd.row, Dd.ints, List.getElem?_map, List.getElem?_eq_getElem h, List.getD_eq_getElem?_getD]
theorem Dd.row_set (l : List Int) (i : Nat) (x : Int) : (Dd.row l).setIfInBounds i (.int .i64 x) = Dd.row (l.set i x) := by simp [Dd.row, Dd.ints, List.map_set]
theorem Dd.row_one (l : List Int) : (Dd.row l).all (·.oneCell') = true := by
 rw [Array.all_eq_true]
 intro i hi
 simp [Dd.row, Dd.ints, Value.oneCell']
theorem Dd.zero_row : Tryz.zeroCells41 = Dd.row Dd.zeros := by kernel_rfl
theorem Dd.zeros_length : Dd.zeros.length = 104 := by simp [Dd.zeros]
theorem Dd.info : (Tryz.prog.info? 41).map (·.size) = some 104 := by kernel_rfl
theorem Dd.info_row {l : List Int} (h : l.length = 104) : (Tryz.prog.info? 41).map (·.size) = some (Dd.row l).size := by rw [Dd.row_size, h]; exact Dd.info
structure Dd.At (W : World) (g : Nat) (l : List Int) : Prop where
 h : W.heap[g]? = some (.cells (Dd.row l) 41 (0, 0))
 len : l.length = 104
theorem Dd.At.lt {W : World} {g : Nat} {l : List Int} (h : Dd.At W g l) : g < W.heap.size := (Array.getElem?_eq_some_iff.1 h.h).1
theorem Dd.At.cell {W : World} {g : Nat} {l : List Int} (h : Dd.At W g l) (i : Nat) (hi : i < 104) : W.cell? ⟨g, i, none⟩ = some (.int .i64 (l.getD i 0)) := by
 have h1 := h.h
 simp only [World.cell?, h1]
 rw [Dd.row_get (by rw [h.len]; exact hi)]
 rfl
theorem Dd.At.frozen {W : World} {g : Nat} {l : List Int} (h : Dd.At W g l) (i : Nat) : W.frozen? ⟨g, i, none⟩ = false := by
 have h1 := h.h
 simp [World.frozen?, h1]
theorem Dd.At.put {W : World} {g : Nat} {l : List Int} (h : Dd.At W g l) (i : Nat) (x : Int) : Dd.At (W.setCell ⟨g, i, none⟩ (.int .i64 x)) g (l.set i x) := by
 refine ⟨?_, by rw [List.length_set]; exact h.len⟩
 have h1 := h.h
 rw [← Dd.row_set]
 simp [World.setCell, Array.getElem?_modify, h1]
theorem Dd.At.keep {W W' : World} {g : Nat} {l : List Int} (h : Dd.At W g l) (hk : W'.heap[g]? = W.heap[g]?) : Dd.At W' g l := ⟨hk.trans h.h, h.len⟩
theorem Dd.At.below {W W' : World} {g B : Nat} {l : List Int} (h : Dd.At W g l) (hb : Below B W W') (hg : g < B) : Dd.At W' g l := h.keep (hb.block g hg)
theorem Dd.At.new (W : World) {l : List Int} (h : l.length = 104) : Dd.At (W.alloc (.cells (Dd.row l) 41)) W.heap.size l := ⟨heap_alloc_new W _, h⟩
theorem Dd.At.setRow {W : World} {g : Nat} {l : List Int} (h : Dd.At W g l) {t : List Int} (ht : t.length = 104) : Dd.At (W.setRow g (Dd.row t)) g t := ⟨setRow_heap _ _ _ _ _ _ h.h, ht⟩
theorem Dd.results2 {fn : Func} {p u : Tmp} {ty : TypeId} (h : fn.results = #[.cell p ty, .tmp u]) (tmps : Array Value) (w : World) (q : Nat) (cs : Array Value)
  (hp : tmps.getD p undef = .pointer (some ⟨q, 0, none⟩)) (hr : (loadVar ty ⟨q, 0, none⟩).run Tryz.prog w = .ok (.agg cs) w) :
  (results fn tmps).run Tryz.prog w = .ok (.tuple #[.agg cs, tmps.getD u undef]) w := by
 have hp' : tmps[p]?.getD undef = .pointer (some ⟨q, 0, none⟩) := by simpa using hp
 simp [results, h, hp', asAddr, hr]
def Dd.Bx (W : World) (g : Nat) (xs : Array Value) : Prop := W.heap[g]? = some (.cells xs 32 (0, 0))
theorem Dd.Bx.lt {W : World} {g : Nat} {xs : Array Value} (h : Dd.Bx W g xs) : g < W.heap.size := (Array.getElem?_eq_some_iff.1 h).1
theorem Dd.Bx.below {W W' : World} {g B : Nat} {xs : Array Value} (h : Dd.Bx W g xs) (hb : Below B W W') (hg : g < B) : Dd.Bx W' g xs := (hb.block g hg).trans h
theorem Dd.Bx.keep {W W' : World} {g : Nat} {xs : Array Value} (h : Dd.Bx W g xs) (hk : W'.heap[g]? = W.heap[g]?) : Dd.Bx W' g xs := hk.trans h
structure Dd.Fr (w : World) (xs : Array Value) (l r : List Int) (W : World) : Prop where
 bx : Dd.Bx W w.heap.size xs
 st : Dd.At W (w.heap.size + 1) l
 rs : Dd.At W (w.heap.size + 1 + 1) r
 bel : Below w.heap.size w W
theorem Dd.Fr.new (w : World) (xs : Array Value) {l : List Int} (h : l.length = 104) : Dd.Fr w xs l Dd.zeros (((w.alloc (.cells xs 32)).alloc (.cells (Dd.row l) 41)).alloc (.cells Tryz.zeroCells41 41)) := by
 have h0 : Dd.Bx (w.alloc (.cells xs 32)) w.heap.size xs := heap_alloc_new w _
 have h1 := Dd.At.new (w.alloc (.cells xs 32)) h
 have h2 := Dd.At.new ((w.alloc (.cells xs 32)).alloc (.cells (Dd.row l) 41)) Dd.zeros_length
 rw [Dd.zero_row]
 rw [show (w.alloc (.cells xs 32)).heap.size = w.heap.size + 1 by simp] at h1
 rw [show ((w.alloc (.cells xs 32)).alloc (.cells (Dd.row l) 41)).heap.size = w.heap.size + 1 + 1 by simp] at h2
 refine ⟨(h0.keep (Below.heap_alloc _ _ _ h0.lt)).keep (Below.heap_alloc _ _ _ (by simp; omega)), h1.keep (Below.heap_alloc _ _ _ h1.lt), h2, ?_⟩
 exact (((Below.refl _ w).alloc (Nat.le_refl _) _).alloc (by simp) _).alloc (by simp; omega) _
theorem Dd.Fr.below {w W W' : World} {xs : Array Value} {l r : List Int} (h : Dd.Fr w xs l r W) (hb : Below W.heap.size W W') : Dd.Fr w xs l r W' :=
 ⟨h.bx.below hb h.bx.lt, h.st.below hb h.st.lt, h.rs.below hb h.rs.lt, h.bel.trans (hb.mono h.bel.size)⟩
theorem Dd.Fr.put {w W : World} {xs : Array Value} {l r : List Int} (h : Dd.Fr w xs l r W) (i : Nat) (x : Int) : Dd.Fr w xs (l.set i x) r (W.setCell ⟨w.heap.size + 1, i, none⟩ (.int .i64 x)) :=
 ⟨h.bx.keep (Below.heap_setCell _ _ _ _ (by show w.heap.size ≠ w.heap.size + 1; omega)), h.st.put i x, h.rs.keep (Below.heap_setCell _ _ _ _ (by show w.heap.size + 1 + 1 ≠ w.heap.size + 1; omega)), h.bel.setCell (p := ⟨w.heap.size + 1, i, none⟩) (by show w.heap.size ≤ w.heap.size + 1; omega) _⟩
theorem Dd.Fr.setS {w W : World} {xs : Array Value} {l r : List Int} (h : Dd.Fr w xs l r W) {t : List Int} (ht : t.length = 104) : Dd.Fr w xs t r (W.setRow (w.heap.size + 1) (Dd.row t)) :=
 ⟨h.bx.keep (setRow_other _ _ _ _ (by omega)), h.st.setRow ht, h.rs.keep (setRow_other _ _ _ _ (by omega)), Tk.below_row h.bel (by omega) _⟩
theorem Dd.Fr.setR {w W : World} {xs : Array Value} {l r : List Int} (h : Dd.Fr w xs l r W) {t : List Int} (ht : t.length = 104) : Dd.Fr w xs l t (W.setRow (w.heap.size + 1 + 1) (Dd.row t)) :=
 ⟨h.bx.keep (setRow_other _ _ _ _ (by omega)), h.st.keep (setRow_other _ _ _ _ (by omega)), h.rs.setRow ht, Tk.below_row h.bel (by omega) _⟩
theorem Dd.Fr.cs {w W : World} {x0 x1 x2 x3 x4 x5 x6 x7 x8 x9 x10 x11 : Value} {l r : List Int} (h : Dd.Fr w #[x0, x1, x2, x3, x4, x5, x6, x7, x8, x9, x10, x11] l r W) :
  W.cell? ⟨w.heap.size, 0, none⟩ = some x0 ∧ W.cell? ⟨w.heap.size, 1, none⟩ = some x1 ∧ W.cell? ⟨w.heap.size, 2, none⟩ = some x2 ∧ W.cell? ⟨w.heap.size, 3, none⟩ = some x3 ∧ W.cell? ⟨w.heap.size, 4, none⟩ = some x4 ∧ W.cell? ⟨w.heap.size, 5, none⟩ = some x5 ∧ W.cell? ⟨w.heap.size, 6, none⟩ = some x6 ∧ W.cell? ⟨w.heap.size, 7, none⟩ = some x7 ∧ W.cell? ⟨w.heap.size, 8, none⟩ = some x8 ∧ W.cell? ⟨w.heap.size, 9, none⟩ = some x9 ∧ W.cell? ⟨w.heap.size, 10, none⟩ = some x10 ∧ W.cell? ⟨w.heap.size, 11, none⟩ = some x11 := by
 have := h.bx
 unfold Dd.Bx at this
 simp [World.cell?, this]
end Go.Proofs
namespace Go.Proofs
open Go.RowKit Go.Shelf
set_option maxRecDepth 20000 in
set_option maxHeartbeats 8000000 in
theorem Tryz.left_any (x0 x1 x2 x3 x4 x5 x6 x7 x8 x10 x11 : Value) (la : Option Addr) (m lc : Nat) (ls : List (Int × Int)) (l : List Int) (fr how : Int) (w : World) (hL : Ac.Lks w w.heap.size la ls) (hl : l.length = 104) (hm : ls.length = m) (h40 : m ≤ 40) :
  Calls Tryz.prog 28 #[.agg #[x0, x1, x2, x3, x4, x5, x6, x7, x8, .slice la m lc, x10, x11], .agg (Dd.row l), .int .i64 fr, .int .i64 how] w fun e w' => e = .returned (.agg (Dd.row (Dd.left ls l fr how))) ∧ Below w.heap.size w w' := by
 obtain ⟨R, hR⟩ : ∃ R, Dd.left ls l fr how = R := ⟨_, rfl⟩
 rw [hR]
 obtain ⟨w1, hw1⟩ : ∃ z, (((w.alloc (.cells #[x0, x1, x2, x3, x4, x5, x6, x7, x8, .slice la m lc, x10, x11] 32)).alloc (.cells (Dd.row l) 41)).alloc (.cells Tryz.zeroCells41 41)) = z := ⟨_, rfl⟩
 have F1 := Dd.Fr.new w #[x0, x1, x2, x3, x4, x5, x6, x7, x8, .slice la m lc, x10, x11] hl
 rw [hw1] at F1
 have H1 : Hid _ := hw1
 have HF : Hid (Dd.Fr w #[x0, x1, x2, x3, x4, x5, x6, x7, x8, .slice la m lc, x10, x11] (Dd.leftK ls fr how 0 l) Dd.zeros w1) := F1
 have HL : Hid (Ac.Lks w w.heap.size la ls ∧ ls.length = m ∧ Dd.leftK ls fr how m l = R) := ⟨hL, hm, by rw [← hm]; exact hR⟩
 have c9 := F1.cs.2.2.2.2.2.2.2.2.2.1
 clear hw1 F1 hL hm hR hl
 go_enter Tryz.func28, Tryz.ntmps28
 go_upto_region 1 with fail
 rw [H1.out]
 go_wp2
 go_loopg [9, 14] m (fun gk _ s14 wr => ∃ j : Nat, gk + j = m ∧ s14 = .int .i64 j ∧ Hid (Dd.Fr w #[x0, x1, x2, x3, x4, x5, x6, x7, x8, .slice la m lc, x10, x11] (Dd.leftK ls fr how j l) Dd.zeros wr))
 case atStart => exact ⟨0, by omega, rfl, HF.out⟩
 case round =>
  obtain ⟨j, hj, rfl, HJ⟩ := hrel
  clear c9
  by_cases hlt : j < m
  ·have hd : decide ((j : Int) < m) = true := decide_eq_true (by omega)
   have hjl : j < ls.length := by rw [HL.out.2.1]; exact hlt
   obtain ⟨q, off, rfl, hq, d0, d1⟩ := HL.out.1 j hjl
   obtain ⟨x, hx⟩ : ∃ x, ls[j] = x := ⟨_, rfl⟩
   obtain ⟨a, b⟩ := x
   rw [hx] at d0 d1
   have j0 : (0 : Int) ≤ j := by omega
   have j1 : (j : Int) < m := by omega
   have j2 : (j : Int) < 40 := by omega
   have e0 : wr.cell? ⟨q, off + j * 2, none⟩ = some (.int .i64 a) := by rw [HJ.out.bel.cell (p := ⟨q, off + j * 2, none⟩) hq]; exact d0
   have e1 : wr.cell? ⟨q, off + j * 2 + 1, none⟩ = some (.int .i64 b) := by rw [HJ.out.bel.cell (p := ⟨q, off + j * 2 + 1, none⟩) hq]; exact d1
   obtain ⟨w2, hw2⟩ : ∃ z, wr.alloc (.cells #[.int .i64 a, .int .i64 b] 80) = z := ⟨_, rfl⟩
   have B2 : Below wr.heap.size wr w2 := by rw [← hw2]; exact (Below.refl _ wr).alloc (Nat.le_refl _) _
   have F2 := HJ.out.below B2
   have HF2 : Hid _ := F2
   have HX : Hid (ls[j]? = some (a, b)) := by show _ = _; rw [List.getElem?_eq_getElem hjl, hx]
   have N2 : w2.heap[wr.heap.size]? = some (.cells #[.int .i64 a, .int .i64 b] 80 (0, 0)) := by rw [← hw2]; exact heap_alloc_new wr _
   have k0 : w2.cell? ⟨wr.heap.size, 0, none⟩ = some (.int .i64 a) := by simp [World.cell?, N2]
   have f0 : w2.frozen? ⟨w.heap.size + 1, j, none⟩ = false := F2.st.frozen j
   have s0 := F2.st.cell j (by omega)
   have HW2 : Hid _ := hw2
   clear d0 d1 hx hjl hq hw2 B2 F2 N2 HJ
   by_cases ha : a = fr
   ·have he : (a == fr) = true := by simpa using ha
    have HN : Hid (Dd.Fr w #[x0, x1, x2, x3, x4, x5, x6, x7, x8, .slice (some ⟨q, off, none⟩) m lc, x10, x11] (Dd.leftK ls fr how (j + 1) l) Dd.zeros (w2.setCell ⟨w.heap.size + 1, j, none⟩ (.int .i64 how))) := by
     have := HF2.out.put j how
     rw [Dd.leftK, if_pos (by rw [HX.out, ← ha]; rfl)]
     exact this
    clear ha
    go_upto_region 4 with fail
    rw [HW2.out]
    go_wp2
    go_roundg (gk - 1)
    case measure => omega
    case rel => exact ⟨j + 1, by omega, by go_num, HN.out⟩
   ·have he : (a == fr) = false := by simpa using ha
    have HN : Hid (Dd.Fr w #[x0, x1, x2, x3, x4, x5, x6, x7, x8, .slice (some ⟨q, off, none⟩) m lc, x10, x11] (Dd.leftK ls fr how (j + 1) l) Dd.zeros w2) := by
     rw [Dd.leftK, if_neg (by rw [HX.out]; exact fun h => ha (Option.some.inj h))]
     exact HF2.out
    clear ha
    go_upto_region 4 with fail
    rw [HW2.out]
    go_wp2
    go_roundg (gk - 1)
    case measure => omega
    case rel => exact ⟨j + 1, by omega, by go_num, HN.out⟩
  ·have hd : decide ((j : Int) < m) = false := decide_eq_false (by omega)
   obtain rfl : j = m := by omega
   obtain ⟨s, hs⟩ : ∃ s, Dd.leftK ls fr how j l = s := ⟨_, rfl⟩
   have HR : Hid (s = R) := by show _ = _; rw [← hs]; exact HL.out.2.2
   rw [hs] at HJ
   have NU := HJ.out.st.h
   have NR := HJ.out.rs.h
   have hu := Tryz.underlying41
   have e1 := Dd.info_row HJ.out.st.len
   have e2 : (Dd.row Dd.zeros).size = (Dd.row s).size := by rw [Dd.row_size, Dd.row_size, HJ.out.st.len, Dd.zeros_length]
   have e3 := Dd.row_one s
   have HX : Hid (Below w.heap.size w wr) := HJ.out.bel
   clear hs HJ
   go_wp2_with (first
    | refine wpList_load_row rfl 41 _ rfl _ rfl 41 (Dd.row s) (0, 0) _ NU hu rfl e1 ?_
    | refine wpList_store_row rfl 41 _ _ rfl (w.heap.size + 1 + 1) (Dd.row s) rfl rfl 41 _ NR e1 e2 e3 ?_)
   refine bodyPost_ret (v := .agg (Dd.row s)) (results_cell_row Tryz.results28 _ _ (w.heap.size + 1 + 1) 41 (Dd.row s) (0, 0) _ rfl (setRow_heap _ _ _ _ _ _ NR) hu rfl e1) rfl ⟨by rw [HR.out], Tk.below_row HX.out (by omega) _⟩
end Go.Proofs
namespace Go.Proofs
open Go.RowKit Go.Shelf
theorem Dd.info_act : (Tryz.prog.info? 32).map (·.size) = some 12 := by kernel_rfl
set_option maxRecDepth 20000 in
set_option maxHeartbeats 8000000 in
theorem Tryz.ended_any (x0 x1 x2 x3 x4 x5 x6 x7 x8 x10 x11 : Value) (la : Option Addr) (m lc : Nat) (ls : List (Int × Int)) (l : List Int) (kid : Nat) (how : Int) (w : World) (hL : Ac.Lks w w.heap.size la ls) (hl : l.length = 104) (hm : ls.length = m) (h40 : m ≤ 40) (hk : kid < 64) :
  Calls Tryz.prog 33 #[.agg #[x0, x1, x2, x3, x4, x5, x6, x7, x8, .slice la m lc, x10, x11], .agg (Dd.row l), .int .i64 kid, .int .i64 how] w fun e w' => e = .returned (.agg (Dd.row (Dd.ended ls l kid how))) ∧ Below w.heap.size w w' := by
 obtain ⟨R, hR⟩ : ∃ R, Dd.ended ls l kid how = R := ⟨_, rfl⟩
 have hRl : R.length = 104 := by rw [← hR, Dd.ended_length]; exact hl
 rw [hR]
 obtain ⟨w1, hw1⟩ : ∃ z, (((w.alloc (.cells #[x0, x1, x2, x3, x4, x5, x6, x7, x8, .slice la m lc, x10, x11] 32)).alloc (.cells (Dd.row l) 41)).alloc (.cells Tryz.zeroCells41 41)) = z := ⟨_, rfl⟩
 have F1 := Dd.Fr.new w #[x0, x1, x2, x3, x4, x5, x6, x7, x8, .slice la m lc, x10, x11] hl
 rw [hw1] at F1
 have H1 : Hid _ := hw1
 have f1 := F1.st.frozen (40 + kid)
 have s1 := F1.st.cell (40 + kid) (by omega)
 obtain ⟨w2, hw2⟩ : ∃ z, w1.setCell ⟨w.heap.size + 1, 40 + kid, none⟩ (.int .i64 how) = z := ⟨_, rfl⟩
 have F2 := F1.put (40 + kid) how
 rw [hw2] at F2
 obtain ⟨s, hs⟩ : ∃ s, l.set (40 + kid) how = s := ⟨_, rfl⟩
 rw [hs] at F2
 have hsl : s.length = 104 := by rw [← hs, List.length_set]; exact hl
 have NA := F2.bx
 unfold Dd.Bx at NA
 have NS := F2.st.h
 have NR := F2.rs.h
 have HC : Hid (∀ h : Int, Calls Tryz.prog 28 #[.agg #[x0, x1, x2, x3, x4, x5, x6, x7, x8, .slice la m lc, x10, x11], .agg (Dd.row s), .int .i64 kid, .int .i64 h] w2 fun e w' => e = .returned (.agg (Dd.row (Dd.left ls s kid h))) ∧ Below w2.heap.size w2 w') := fun h => by
  refine Tryz.left_any x0 x1 x2 x3 x4 x5 x6 x7 x8 x10 x11 la m lc ls s kid h w2 ?_ hsl hm h40
  exact (hL.keep F2.bel.block).wider F2.bel.size
 have HF2 : Hid (Dd.Fr w #[x0, x1, x2, x3, x4, x5, x6, x7, x8, .slice la m lc, x10, x11] s Dd.zeros w2) := F2
 have HR : Hid (Dd.left ls s kid (if how = 2 then 1 else 2) = R ∧ R.length = 104) := ⟨by rw [← hR, Dd.ended, hs], hRl⟩
 have HW2 : Hid _ := hw2
 have ha := Tryz.underlying32
 have hu := Tryz.underlying41
 have ia : (Tryz.prog.info? 32).map (·.size) = some (#[x0, x1, x2, x3, x4, x5, x6, x7, x8, .slice la m lc, x10, x11] : Array Value).size := Dd.info_act
 have is := Dd.info_row hsl
 have k0 : (0 : Int) ≤ kid := by omega
 have k1 : (kid : Int) < 64 := by omega
 clear hL hl hm h40 hk hR hRl hw1 F1 hw2 F2 hs hsl
 by_cases hh : how = 2
 ·have he : (how == 2) = true := by simpa using hh
  have HR2 : Hid (Dd.left ls s kid 1 = R ∧ R.length = 104) := by
   have := HR.out
   rw [if_pos hh] at this
   exact this
  clear HR hh
  go_enter Tryz.func33, Tryz.ntmps33
  go_upto_region 1 with fail
  rw [H1.out]
  go_upto_region 2 with fail
  rw [HW2.out]
  go_wp2_with (first
   | refine wpList_load_row rfl 32 _ rfl _ rfl 32 _ (0, 0) _ NA ha rfl ia ?_
   | refine wpList_load_row rfl 41 _ rfl _ rfl 41 (Dd.row s) (0, 0) _ NS hu rfl is ?_)
  refine Calls.mono (HC.out 1) ?_
  rintro e W3 ⟨rfl, hb3⟩
  have F3 := HF2.out.below hb3
  obtain ⟨t, ht⟩ : ∃ t, Dd.left ls s kid 1 = t := ⟨_, rfl⟩
  obtain ⟨htR, htl⟩ := HR2.out
  rw [ht] at htR
  subst htR
  rw [ht]
  have NR3 := F3.rs.h
  have e1 := Dd.info_row htl
  have e2 : (Dd.row Dd.zeros).size = (Dd.row t).size := by rw [Dd.row_size, Dd.row_size, htl, Dd.zeros_length]
  have e3 := Dd.row_one t
  have HX : Hid (Below w.heap.size w W3) := F3.bel
  clear ht htl F3 hb3 HC HF2 HR2 NA NS NR ia is
  go_wp2_with (refine wpList_store_row rfl 41 _ _ rfl (w.heap.size + 1 + 1) (Dd.row t) rfl rfl 41 _ NR3 e1 e2 e3 ?_)
  exact bodyPost_ret (v := .agg (Dd.row t)) (results_cell_row Tryz.results33 _ _ (w.heap.size + 1 + 1) 41 (Dd.row t) (0, 0) _ rfl (setRow_heap _ _ _ _ _ _ NR3) hu rfl e1) rfl ⟨rfl, Tk.below_row HX.out (by omega) _⟩
 ·have he : (how == 2) = false := by simpa using hh
  have HR2 : Hid (Dd.left ls s kid 2 = R ∧ R.length = 104) := by
   have := HR.out
   rw [if_neg hh] at this
   exact this
  clear HR hh
  go_enter Tryz.func33, Tryz.ntmps33
  go_upto_region 1 with fail
  rw [H1.out]
  go_upto_region 2 with fail
  rw [HW2.out]
  go_wp2_with (first
   | refine wpList_load_row rfl 32 _ rfl _ rfl 32 _ (0, 0) _ NA ha rfl ia ?_
   | refine wpList_load_row rfl 41 _ rfl _ rfl 41 (Dd.row s) (0, 0) _ NS hu rfl is ?_)
  refine Calls.mono (HC.out 2) ?_
  rintro e W3 ⟨rfl, hb3⟩
  have F3 := HF2.out.below hb3
  obtain ⟨t, ht⟩ : ∃ t, Dd.left ls s kid 2 = t := ⟨_, rfl⟩
  obtain ⟨htR, htl⟩ := HR2.out
  rw [ht] at htR
  subst htR
  rw [ht]
  have NR3 := F3.rs.h
  have e1 := Dd.info_row htl
  have e2 : (Dd.row Dd.zeros).size = (Dd.row t).size := by rw [Dd.row_size, Dd.row_size, htl, Dd.zeros_length]
  have e3 := Dd.row_one t
  have HX : Hid (Below w.heap.size w W3) := F3.bel
  clear ht htl F3 hb3 HC HF2 HR2 NA NS NR ia is
  go_wp2_with (refine wpList_store_row rfl 41 _ _ rfl (w.heap.size + 1 + 1) (Dd.row t) rfl rfl 41 _ NR3 e1 e2 e3 ?_)
  exact bodyPost_ret (v := .agg (Dd.row t)) (results_cell_row Tryz.results33 _ _ (w.heap.size + 1 + 1) 41 (Dd.row t) (0, 0) _ rfl (setRow_heap _ _ _ _ _ _ NR3) hu rfl e1) rfl ⟨rfl, Tk.below_row HX.out (by omega) _⟩
end Go.Proofs
