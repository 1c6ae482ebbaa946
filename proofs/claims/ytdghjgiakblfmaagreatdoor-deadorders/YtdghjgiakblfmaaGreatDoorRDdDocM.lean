import Derived.Test.YtdghjgiakblfmaaGreatDoorRDdInv
import Derived.Test.YtdghjgiakblfmaaGreatDoorRAcWays
import Derived.Deep.Slices
import Derived.Test.YtdghjgiakblfmaaGreatDoorRNtPlaces
import Derived.Test.YtdghjgiakblfmaaGreatDoorRows
import Derived.ProofKit
import Derived.OpenShut
namespace Go.Proofs
namespace Dd
def outsD (ls : List (Int × Int)) (kid : Int) : List Nat := (List.range ls.length).filter fun i => decide (((ls[i]?).map Prod.fst) = some kid)
def countD (ls : List (Int × Int)) (s : List Int) (kid : Int) : Nat → Nat × Nat × Nat
 | 0 => (0, 0, 0)
 | k + 1 => if (ls[k]?).map Prod.snd = some kid then ((countD ls s kid k).1 + (if s.getD k 0 = 1 then 1 else 0), (countD ls s kid k).2.1 + (if s.getD k 0 = 2 then 1 else 0), (countD ls s kid k).2.2 + 1) else countD ls s kid k
def livesD (kk : List (Int × Int)) (k : Nat) (c : Nat × Nat × Nat) : Bool := if gateB kk k = true ∧ doesI kk k = 2 then decide (c.1 = c.2.2) else decide (0 < c.1)
def fateD (ls kk : List (Int × Int)) (s : List Int) (k : Nat) : List Int :=
 if livesD kk k (countD ls s k ls.length) = false then ended ls s k 3 else if Auto kk k then ended ls s k 2 else s.set (40 + k) 1
def oneK (ls kk : List (Int × Int)) (s : List Int) : Nat → Option (List Int)
 | 0 => none
 | k + 1 => match oneK ls kk s k with
   | some t => some t
   | none => if s.getD (40 + k) 0 ≠ 0 ∨ (countD ls s k ls.length).1 + (countD ls s k ls.length).2.1 < (countD ls s k ls.length).2.2 then none else some (fateD ls kk s k)
def settledF (ls kk : List (Int × Int)) : Nat → List Int → List Int
 | 0, s => s
 | f + 1, s => settledF ls kk f ((oneK ls kk s kk.length).getD s)
def Val (ls : List (Int × Int)) (s : List Int) : Prop := s.length = 104 ∧ ∀ i, i < ls.length → s.getD i 0 = 0 ∨ s.getD i 0 = 1 ∨ s.getD i 0 = 2
def HasIn (ls kk : List (Int × Int)) : Prop := ∀ k : Nat, k < kk.length → ∃ i, i < ls.length ∧ (ls[i]?).map Prod.snd = some (k : Int)
end Dd
end Go.Proofs
namespace Go.Proofs
open Go.RowKit Go.Shelf
def Dd.ints (l : List Int) : List Value := l.map fun n => .int .i64 n
def Dd.row (l : List Int) : Array Value := (Dd.ints l).toArray
theorem Dd.row_size (l : List Int) : (Dd.row l).size = l.length := by simp [Dd.row, Dd.ints]
theorem Dd.row_get {l : List Int} {i : Nat} (h : i < l.length) : (Dd.row l)[i]? = some (.int .i64 (l.getD i 0)) := by
 simp [Dd.row, Dd.ints, List.getElem?_map, List.getElem?_eq_getElem h, List.getD_eq_getElem?_getD]
theorem Dd.row_set (l : List Int) (i : Nat) (x : Int) : (Dd.row l).setIfInBounds i (.int .i64 x) = Dd.row (l.set i x) := by simp [Dd.row, Dd.ints, List.map_set]
theorem Dd.row_one (l : List Int) : (Dd.row l).all (·.oneCell') = true := by
 rw [Array.all_eq_true]
 intro i hi
 simp [Dd.row, Dd.ints, Value.oneCell']
theorem Dd.zero_row : Tryz.zeroCells41 = Dd.row Dd.zeros := by kernel_rfl
theorem Dd.zeros_length : Dd.zeros.length = 104 := by simp [Dd.zeros]
theorem Dd.info : (Tryz.prog.info? 41).map (·.size) = some 104 := by kernel_rfl
theorem Dd.info_row {l : List Int} (h : l.length = 104) : (Tryz.prog.info? 41).map (·.size) = some (Dd.row l).size := by rw [Dd.row_size, h]; exact Dd.info
structure Dd.At (W : World) (g : Nat) (l : List Int) : Prop where
 h : W.heap[g]? = some (.cells (Dd.row l) 41 (0, 0))
 len : l.length = 104
theorem Dd.At.lt {W : World} {g : Nat} {l : List Int} (h : Dd.At W g l) : g < W.heap.size := (Array.getElem?_eq_some_iff.1 h.h).1
theorem Dd.At.cell {W : World} {g : Nat} {l : List Int} (h : Dd.At W g l) (i : Nat) (hi : i < 104) : W.cell? ⟨g, i, none⟩ = some (.int .i64 (l.getD i 0)) := by
 have h1 := h.h
 simp only [World.cell?, h1]
 rw [Dd.row_get (by rw [h.len]; exact hi)]
 rfl
theorem Dd.At.frozen {W : World} {g : Nat} {l : List Int} (h : Dd.At W g l) (i : Nat) : W.frozen? ⟨g, i, none⟩ = false := by
 have h1 := h.h
 simp [World.frozen?, h1]
theorem Dd.At.put {W : World} {g : Nat} {l : List Int} (h : Dd.At W g l) (i : Nat) (x : Int) : Dd.At (W.setCell ⟨g, i, none⟩ (.int .i64 x)) g (l.set i x) := by
 refine ⟨?_, by rw [List.length_set]; exact h.len⟩
 have h1 := h.h
 rw [← Dd.row_set]
 simp [World.setCell, Array.getElem?_modify, h1]
theorem Dd.At.keep {W W' : World} {g : Nat} {l : List Int} (h : Dd.At W g l) (hk : W'.heap[g]? = W.heap[g]?) : Dd.At W' g l := ⟨hk.trans h.h, h.len⟩
theorem Dd.At.below {W W' : World} {g B : Nat} {l : List Int} (h : Dd.At W g l) (hb : Below B W W') (hg : g < B) : Dd.At W' g l := h.keep (hb.block g hg)
theorem Dd.At.new (W : World) {l : List Int} (h : l.length = 104) : Dd.At (W.alloc (.cells (Dd.row l) 41)) W.heap.size l := ⟨heap_alloc_new W _, h⟩
theorem Dd.At.setRow {W : World} {g : Nat} {l : List Int} (h : Dd.At W g l) {t : List Int} (ht : t.length = 104) : Dd.At (W.setRow g (Dd.row t)) g t := ⟨setRow_heap _ _ _ _ _ _ h.h, ht⟩
theorem Dd.results2 {fn : Func} {p u : Tmp} {ty : TypeId} (h : fn.results = #[.cell p ty, .tmp u]) (tmps : Array Value) (w : World) (q : Nat) (cs : Array Value)
  (hp : tmps.getD p undef = .pointer (some ⟨q, 0, none⟩)) (hr : (loadVar ty ⟨q, 0, none⟩).run Tryz.prog w = .ok (.agg cs) w) :
  (results fn tmps).run Tryz.prog w = .ok (.tuple #[.agg cs, tmps.getD u undef]) w := by
 have hp' : tmps[p]?.getD undef = .pointer (some ⟨q, 0, none⟩) := by simpa using hp
 simp [results, h, hp', asAddr, hr]
def Dd.Bx (W : World) (g : Nat) (xs : Array Value) : Prop := W.heap[g]? = some (.cells xs 32 (0, 0))
theorem Dd.Bx.lt {W : World} {g : Nat} {xs : Array Value} (h : Dd.Bx W g xs) : g < W.heap.size := (Array.getElem?_eq_some_iff.1 h).1
theorem Dd.Bx.below {W W' : World} {g B : Nat} {xs : Array Value} (h : Dd.Bx W g xs) (hb : Below B W W') (hg : g < B) : Dd.Bx W' g xs := (hb.block g hg).trans h
theorem Dd.Bx.keep {W W' : World} {g : Nat} {xs : Array Value} (h : Dd.Bx W g xs) (hk : W'.heap[g]? = W.heap[g]?) : Dd.Bx W' g xs := hk.trans h
structure Dd.Fr (w : World) (xs : Array Value) (l r : List Int) (W : World) : Prop where
 bx : Dd.Bx W w.heap.size xs
 st : Dd.At W (w.heap.size + 1) l
 rs : Dd.At W (w.heap.size + 1 + 1) r
 bel : Below w.heap.size w W
theorem Dd.Fr.new (w : World) (xs : Array Value) {l : List Int} (h : l.length = 104) : Dd.Fr w xs l Dd.zeros (((w.alloc (.cells xs 32)).alloc (.cells (Dd.row l) 41)).alloc (.cells Tryz.zeroCells41 41)) := by
 have h0 : Dd.Bx (w.alloc (.cells xs 32)) w.heap.size xs := heap_alloc_new w _
 have h1 := Dd.At.new (w.alloc (.cells xs 32)) h
 have h2 := Dd.At.new ((w.alloc (.cells xs 32)).alloc (.cells (Dd.row l) 41)) Dd.zeros_length
 rw [Dd.zero_row]
 rw [show (w.alloc (.cells xs 32)).heap.size = w.heap.size + 1 by simp] at h1
 rw [show ((w.alloc (.cells xs 32)).alloc (.cells (Dd.row l) 41)).heap.size = w.heap.size + 1 + 1 by simp] at h2
 refine ⟨(h0.keep (Below.heap_alloc _ _ _ h0.lt)).keep (Below.heap_alloc _ _ _ (by simp; omega)), h1.keep (Below.heap_alloc _ _ _ h1.lt), h2, ?_⟩
 exact (((Below.refl _ w).alloc (Nat.le_refl _) _).alloc (by simp) _).alloc (by simp; omega) _
theorem Dd.Fr.below {w W W' : World} {xs : Array Value} {l r : List Int} (h : Dd.Fr w xs l r W) (hb : Below W.heap.size W W') : Dd.Fr w xs l r W' :=
 ⟨h.bx.below hb h.bx.lt, h.st.below hb h.st.lt, h.rs.below hb h.rs.lt, h.bel.trans (hb.mono h.bel.size)⟩
theorem Dd.Fr.put {w W : World} {xs : Array Value} {l r : List Int} (h : Dd.Fr w xs l r W) (i : Nat) (x : Int) : Dd.Fr w xs (l.set i x) r (W.setCell ⟨w.heap.size + 1, i, none⟩ (.int .i64 x)) :=
 ⟨h.bx.keep (Below.heap_setCell _ _ _ _ (by show w.heap.size ≠ w.heap.size + 1; omega)), h.st.put i x, h.rs.keep (Below.heap_setCell _ _ _ _ (by show w.heap.size + 1 + 1 ≠ w.heap.size + 1; omega)), h.bel.setCell (p := ⟨w.heap.size + 1, i, none⟩) (by show w.heap.size ≤ w.heap.size + 1; omega) _⟩
theorem Dd.Fr.setS {w W : World} {xs : Array Value} {l r : List Int} (h : Dd.Fr w xs l r W) {t : List Int} (ht : t.length = 104) : Dd.Fr w xs t r (W.setRow (w.heap.size + 1) (Dd.row t)) :=
 ⟨h.bx.keep (setRow_other _ _ _ _ (by omega)), h.st.setRow ht, h.rs.keep (setRow_other _ _ _ _ (by omega)), Tk.below_row h.bel (by omega) _⟩
theorem Dd.Fr.setR {w W : World} {xs : Array Value} {l r : List Int} (h : Dd.Fr w xs l r W) {t : List Int} (ht : t.length = 104) : Dd.Fr w xs l t (W.setRow (w.heap.size + 1 + 1) (Dd.row t)) :=
 ⟨h.bx.keep (setRow_other _ _ _ _ (by omega)), h.st.keep (setRow_other _ _ _ _ (by omega)), h.rs.setRow ht, Tk.below_row h.bel (by omega) _⟩
theorem Dd.Fr.cs {w W : World} {x0 x1 x2 x3 x4 x5 x6 x7 x8 x9 x10 x11 : Value} {l r : List Int} (h : Dd.Fr w #[x0, x1, x2, x3, x4, x5, x6, x7, x8, x9, x10, x11] l r W) :
  W.cell? ⟨w.heap.size, 0, none⟩ = some x0 ∧ W.cell? ⟨w.heap.size, 1, none⟩ = some x1 ∧ W.cell? ⟨w.heap.size, 2, none⟩ = some x2 ∧ W.cell? ⟨w.heap.size, 3, none⟩ = some x3 ∧ W.cell? ⟨w.heap.size, 4, none⟩ = some x4 ∧ W.cell? ⟨w.heap.size, 5, none⟩ = some x5 ∧ W.cell? ⟨w.heap.size, 6, none⟩ = some x6 ∧ W.cell? ⟨w.heap.size, 7, none⟩ = some x7 ∧ W.cell? ⟨w.heap.size, 8, none⟩ = some x8 ∧ W.cell? ⟨w.heap.size, 9, none⟩ = some x9 ∧ W.cell? ⟨w.heap.size, 10, none⟩ = some x10 ∧ W.cell? ⟨w.heap.size, 11, none⟩ = some x11 := by
 have := h.bx
 unfold Dd.Bx at this
 simp [World.cell?, this]
end Go.Proofs
namespace Go.Proofs
open Go.RowKit Go.Shelf
set_option maxRecDepth 20000 in
set_option maxHeartbeats 8000000 in
theorem Tryz.left_any (x0 x1 x2 x3 x4 x5 x6 x7 x8 x10 x11 : Value) (la : Option Addr) (m lc : Nat) (ls : List (Int × Int)) (l : List Int) (fr how : Int) (w : World) (hL : Ac.Lks w w.heap.size la ls) (hl : l.length = 104) (hm : ls.length = m) (h40 : m ≤ 40) :
  Calls Tryz.prog 28 #[.agg #[x0, x1, x2, x3, x4, x5, x6, x7, x8, .slice la m lc, x10, x11], .agg (Dd.row l), .int .i64 fr, .int .i64 how] w fun e w' => e = .returned (.agg (Dd.row (Dd.left ls l fr how))) ∧ Below w.heap.size w w' := by
 obtain ⟨R, hR⟩ : ∃ R, Dd.left ls l fr how = R := ⟨_, rfl⟩
 rw [hR]
 obtain ⟨w1, hw1⟩ : ∃ z, (((w.alloc (.cells #[x0, x1, x2, x3, x4, x5, x6, x7, x8, .slice la m lc, x10, x11] 32)).alloc (.cells (Dd.row l) 41)).alloc (.cells Tryz.zeroCells41 41)) = z := ⟨_, rfl⟩
 have F1 := Dd.Fr.new w #[x0, x1, x2, x3, x4, x5, x6, x7, x8, .slice la m lc, x10, x11] hl
 rw [hw1] at F1
 have H1 : Hid _ := hw1
 have HF : Hid (Dd.Fr w #[x0, x1, x2, x3, x4, x5, x6, x7, x8, .slice la m lc, x10, x11] (Dd.leftK ls fr how 0 l) Dd.zeros w1) := F1
 have HL : Hid (Ac.Lks w w.heap.size la ls ∧ ls.length = m ∧ Dd.leftK ls fr how m l = R) := ⟨hL, hm, by rw [← hm]; exact hR⟩
 have c9 := F1.cs.2.2.2.2.2.2.2.2.2.1
 clear hw1 F1 hL hm hR hl
 go_enter Tryz.func28, Tryz.ntmps28
 go_upto_region 1 with fail
 rw [H1.out]
 go_wp2
 go_loopg [9, 14] m (fun gk _ s14 wr => ∃ j : Nat, gk + j = m ∧ s14 = .int .i64 j ∧ Hid (Dd.Fr w #[x0, x1, x2, x3, x4, x5, x6, x7, x8, .slice la m lc, x10, x11] (Dd.leftK ls fr how j l) Dd.zeros wr))
 case atStart => exact ⟨0, by omega, rfl, HF.out⟩
 case round =>
  obtain ⟨j, hj, rfl, HJ⟩ := hrel
  clear c9
  by_cases hlt : j < m
  ·have hd : decide ((j : Int) < m) = true := decide_eq_true (by omega)
   have hjl : j < ls.length := by rw [HL.out.2.1]; exact hlt
   obtain ⟨q, off, rfl, hq, d0, d1⟩ := HL.out.1 j hjl
   obtain ⟨x, hx⟩ : ∃ x, ls[j] = x := ⟨_, rfl⟩
   obtain ⟨a, b⟩ := x
   rw [hx] at d0 d1
   have j0 : (0 : Int) ≤ j := by omega
   have j1 : (j : Int) < m := by omega
   have j2 : (j : Int) < 40 := by omega
   have e0 : wr.cell? ⟨q, off + j * 2, none⟩ = some (.int .i64 a) := by rw [HJ.out.bel.cell (p := ⟨q, off + j * 2, none⟩) hq]; exact d0
   have e1 : wr.cell? ⟨q, off + j * 2 + 1, none⟩ = some (.int .i64 b) := by rw [HJ.out.bel.cell (p := ⟨q, off + j * 2 + 1, none⟩) hq]; exact d1
   obtain ⟨w2, hw2⟩ : ∃ z, wr.alloc (.cells #[.int .i64 a, .int .i64 b] 80) = z := ⟨_, rfl⟩
   have B2 : Below wr.heap.size wr w2 := by rw [← hw2]; exact (Below.refl _ wr).alloc (Nat.le_refl _) _
   have F2 := HJ.out.below B2
   have HF2 : Hid _ := F2
   have HX : Hid (ls[j]? = some (a, b)) := by show _ = _; rw [List.getElem?_eq_getElem hjl, hx]
   have N2 : w2.heap[wr.heap.size]? = some (.cells #[.int .i64 a, .int .i64 b] 80 (0, 0)) := by rw [← hw2]; exact heap_alloc_new wr _
   have k0 : w2.cell? ⟨wr.heap.size, 0, none⟩ = some (.int .i64 a) := by simp [World.cell?, N2]
   have f0 : w2.frozen? ⟨w.heap.size + 1, j, none⟩ = false := F2.st.frozen j
   have s0 := F2.st.cell j (by omega)
   have HW2 : Hid _ := hw2
   clear d0 d1 hx hjl hq hw2 B2 F2 N2 HJ
   by_cases ha : a = fr
   ·have he : (a == fr) = true := by simpa using ha
    have HN : Hid (Dd.Fr w #[x0, x1, x2, x3, x4, x5, x6, x7, x8, .slice (some ⟨q, off, none⟩) m lc, x10, x11] (Dd.leftK ls fr how (j + 1) l) Dd.zeros (w2.setCell ⟨w.heap.size + 1, j, none⟩ (.int .i64 how))) := by
     have := HF2.out.put j how
     rw [Dd.leftK, if_pos (by rw [HX.out, ← ha]; rfl)]
     exact this
    clear ha
    go_upto_region 4 with fail
    rw [HW2.out]
    go_wp2
    go_roundg (gk - 1)
    case measure => omega
    case rel => exact ⟨j + 1, by omega, by go_num, HN.out⟩
   ·have he : (a == fr) = false := by simpa using ha
    have HN : Hid (Dd.Fr w #[x0, x1, x2, x3, x4, x5, x6, x7, x8, .slice (some ⟨q, off, none⟩) m lc, x10, x11] (Dd.leftK ls fr how (j + 1) l) Dd.zeros w2) := by
     rw [Dd.leftK, if_neg (by rw [HX.out]; exact fun h => ha (Option.some.inj h))]
     exact HF2.out
    clear ha
    go_upto_region 4 with fail
    rw [HW2.out]
    go_wp2
    go_roundg (gk - 1)
    case measure => omega
    case rel => exact ⟨j + 1, by omega, by go_num, HN.out⟩
  ·have hd : decide ((j : Int) < m) = false := decide_eq_false (by omega)
   obtain rfl : j = m := by omega
   obtain ⟨s, hs⟩ : ∃ s, Dd.leftK ls fr how j l = s := ⟨_, rfl⟩
   have HR : Hid (s = R) := by show _ = _; rw [← hs]; exact HL.out.2.2
   rw [hs] at HJ
   have NU := HJ.out.st.h
   have NR := HJ.out.rs.h
   have hu := Tryz.underlying41
   have e1 := Dd.info_row HJ.out.st.len
   have e2 : (Dd.row Dd.zeros).size = (Dd.row s).size := by rw [Dd.row_size, Dd.row_size, HJ.out.st.len, Dd.zeros_length]
   have e3 := Dd.row_one s
   have HX : Hid (Below w.heap.size w wr) := HJ.out.bel
   clear hs HJ
   go_wp2_with (first
    | refine wpList_load_row rfl 41 _ rfl _ rfl 41 (Dd.row s) (0, 0) _ NU hu rfl e1 ?_
    | refine wpList_store_row rfl 41 _ _ rfl (w.heap.size + 1 + 1) (Dd.row s) rfl rfl 41 _ NR e1 e2 e3 ?_)
   refine bodyPost_ret (v := .agg (Dd.row s)) (results_cell_row Tryz.results28 _ _ (w.heap.size + 1 + 1) 41 (Dd.row s) (0, 0) _ rfl (setRow_heap _ _ _ _ _ _ NR) hu rfl e1) rfl ⟨by rw [HR.out], Tk.below_row HX.out (by omega) _⟩
end Go.Proofs
namespace Go.Proofs
open Go.RowKit Go.Shelf
def Gm.heldB (xs : List Int) (most : Int) : Bool := xs.all fun x => decide (0 ≤ x) && decide (x ≤ most)
set_option maxRecDepth 20000 in
set_option maxHeartbeats 4000000 in
theorem Tryz.upto_any (g off c : Nat) (xs : List Int) (most : Int) (W : World) (hx : ∀ j (h : j < xs.length), W.cell? ⟨g, off + j, none⟩ = some (.int .i64 xs[j])) (hl : xs.length ≤ 1000) :
  Calls Tryz.prog 45 #[.int .i64 most, .slice (some ⟨g, off, none⟩) xs.length c] W fun e w' => e = .returned (.bool (Gm.heldB xs most)) ∧ w' = W := by
 obtain ⟨n, hn⟩ : ∃ z, xs.length = z := ⟨_, rfl⟩
 obtain ⟨r, hr⟩ : ∃ z, Gm.heldB xs most = z := ⟨_, rfl⟩
 rw [hn, hr]
 have HX : Hid (∀ j (h : j < n), ∃ x, W.cell? ⟨g, off + j, none⟩ = some (.int .i64 x) ∧ xs[j]? = some x) := fun j h => ⟨_, hx j (by omega), List.getElem?_eq_getElem (by omega)⟩
 have HR : Hid (xs.all (fun x => decide (0 ≤ x) && decide (x ≤ most)) = r ∧ xs.length = n) := ⟨hr, hn⟩
 have hn1 : n ≤ 1000 := by omega
 clear hx hn hr hl
 go_enter Tryz.func45, Tryz.ntmps45
 go_wp2
 go_loopg [6, 9] n (fun gk _ s9 wr => ∃ j : Nat, s9 = .int .i64 j ∧ gk + j = n ∧ wr = W ∧ Hid ((xs.drop j).all (fun x => decide (0 ≤ x) && decide (x ≤ most)) = r))
 case atStart => exact ⟨0, rfl, by omega, rfl, HR.out.1⟩
 case round =>
  obtain ⟨j, rfl, hj, rfl, HJ⟩ := hrel
  by_cases hlt : j < n
  ·have hd : decide ((j : Int) < n) = true := decide_eq_true (by omega)
   obtain ⟨x, hc, hxj⟩ := HX.out j hlt
   have hdr : xs.drop j = x :: xs.drop (j + 1) := by
    obtain ⟨h1, h2⟩ := List.getElem?_eq_some_iff.1 hxj
    rw [← h2]; exact List.drop_eq_getElem_cons h1
   have j1 : (j : Int) < n := by omega
   have j0 : (0 : Int) ≤ j := by omega
   have HA : Hid ((decide (0 ≤ x) && decide (x ≤ most) && (xs.drop (j + 1)).all (fun x => decide (0 ≤ x) && decide (x ≤ most))) = r) := by
    have := HJ.out
    rw [hdr, List.all_cons] at this
    exact this
   clear hdr hxj HJ
   by_cases hx0 : x < 0
   ·have e1 : decide (x < 0) = true := decide_eq_true hx0
    have HE : Hid (r = false) := by show _ = _; rw [← HA.out, decide_eq_false (by omega : ¬ 0 ≤ x)]; rfl
    clear HA hx0
    go_wp2
    go_ret
    exact ⟨by rw [HE.out]; rfl, rfl⟩
   ·have e1 : decide (x < 0) = false := decide_eq_false hx0
    by_cases hxm : most < x
    ·have e2 : decide (most < x) = true := decide_eq_true hxm
     have HE : Hid (r = false) := by show _ = _; rw [← HA.out, decide_eq_false (by omega : ¬ x ≤ most)]; simp
     clear HA hx0 hxm
     go_wp2
     go_ret
     exact ⟨by rw [HE.out]; rfl, rfl⟩
    ·have e2 : decide (most < x) = false := decide_eq_false hxm
     have HN : Hid ((xs.drop (j + 1)).all (fun x => decide (0 ≤ x) && decide (x ≤ most)) = r) := by
      show _ = _
      rw [← HA.out, decide_eq_true (by omega : 0 ≤ x), decide_eq_true (by omega : x ≤ most)]; simp
     clear HA hx0 hxm
     go_wp2
     go_roundg (gk - 1)
     case measure => omega
     case rel => exact ⟨j + 1, by go_num, by omega, rfl, HN.out⟩
  ·obtain rfl : j = n := by omega
   have hd : decide ((j : Int) < j) = false := decide_eq_false (by omega)
   have HE : Hid (r = true) := by show _ = _; rw [← HJ.out, List.drop_eq_nil_of_le (by rw [HR.out.2]; exact Nat.le_refl _)]; rfl
   clear HJ
   go_wp2
   go_ret
   exact ⟨by rw [HE.out]; rfl, rfl⟩
set_option maxRecDepth 20000 in
set_option maxHeartbeats 4000000 in
theorem Tryz.filled_any (g off : Nat) (xs : List Int) (m : Nat) (most : Int) (W : World) (hx : ∀ j (h : j < xs.length), W.cell? ⟨g, off + j, none⟩ = some (.int .i64 xs[j])) (hl : xs.length ≤ 1000) (hm : m ≤ xs.length) :
   Calls Tryz.prog 34 #[.slice (some ⟨g, off, none⟩) xs.length xs.length, .int .i64 m, .int .i64 most] W fun e w' => e = .returned (.bool (Gm.heldB (xs.take m) most && Gm.heldB (xs.drop m) 0)) ∧ w' = W := by
 have h1 := Tryz.upto_any g off xs.length (xs.take m) most W (fun j hj => by rw [List.getElem_take]; exact hx j (by have := List.length_take_le m xs; simp at hj; omega)) (by simp; omega)
 have h2 := Tryz.upto_any g (off + m) (xs.length - m) (xs.drop m) 0 W (fun j hj => by rw [List.getElem_drop]; have := hx (m + j) (by simp at hj; omega); rw [← Nat.add_assoc] at this; exact this) (by simp; omega)
 have h3 := Tryz.upto_any g off 0 [] 0 W (fun j hj => by simp at hj) (by simp)
 obtain ⟨r1, hr1⟩ : ∃ z, Gm.heldB (xs.take m) most = z := ⟨_, rfl⟩
 obtain ⟨r2, hr2⟩ : ∃ z, Gm.heldB (xs.drop m) 0 = z := ⟨_, rfl⟩
 have e1 : (xs.take m).length = m := by simp; omega
 have e2 : (xs.drop m).length = xs.length - m := by simp
 have e3 : Gm.heldB [] 0 = true := rfl
 rw [hr1, e1] at h1
 rw [hr2, e2] at h2
 rw [e3] at h3
 rw [hr1, hr2]
 obtain ⟨n, hn⟩ : ∃ z, xs.length = z := ⟨_, rfl⟩
 rw [hn] at h1 h2 hm hl ⊢
 have m0 : (0 : Int) ≤ m := by omega
 have m1 : (m : Int) ≤ n := by omega
 have H1 : Hid _ := h1
 have H2 : Hid _ := h2
 have H3 : Hid _ := h3
 have HE : Hid (n = m → r2 = true) := fun e => by
   show _ = _
   rw [← hr2, List.drop_eq_nil_of_le (by omega)]; rfl
 clear h1 h2 h3 hr1 hr2 e1 e2 e3 hx hn
 cases r1 with
 | false =>
   go_enter Tryz.func34, Tryz.ntmps34
   go_wp2_with fail
   refine Calls.mono H1.out ?_
   rintro e W1 ⟨rfl, rfl⟩
   go_wp2
   go_ret
   exact ⟨rfl, rfl⟩
 | true =>
   by_cases hnm : n = m
   ·have := HE.out hnm
    subst hnm
    subst this
    clear H2 HE
    go_enter Tryz.func34, Tryz.ntmps34
    go_wp2_with fail
    refine Calls.mono H1.out ?_
    rintro e W1 ⟨rfl, rfl⟩
    go_wp2_with fail
    refine Calls.mono H3.out ?_
    rintro e W1 ⟨rfl, rfl⟩
    go_wp2
    go_ret
    exact ⟨rfl, rfl⟩
   ·clear H3 HE
    go_enter Tryz.func34, Tryz.ntmps34
    go_wp2_with fail
    refine Calls.mono H1.out ?_
    rintro e W1 ⟨rfl, rfl⟩
    go_wp2_with fail
    refine Calls.mono H2.out ?_
    rintro e W1 ⟨rfl, rfl⟩
    go_wp2
    go_ret
    exact ⟨rfl, rfl⟩
end Go.Proofs
namespace Go.Proofs
open Go
theorem Nt.put_some (ts : List Value) (ds : List Deferred) (d : Tmp) (v : Value) : Act.put ⟨ts.toArray, ds⟩ (some d) v = ⟨(ts.set d v).toArray, ds⟩ := by
 simp [Act.put]
theorem Nt.takeS {P : Program} {md : Region.Mode} {ops : Array Oper} {Q : Exit → Act → World → Prop} {S : World → Prop} (i : Nat) {oi : Oper} {v : Value} {fuel : Nat} {listed : Array Bool} {ts : List Value} {ds : List Deferred} {w : World} (d : Tmp) (hi : ops[i]? = some oi) (hd : oi.dst = some d)
  (hs : Region.noSelect ops = true) (hf : Region.free md ops listed i = true) (hr : (Region.ready md ops listed).contains i = true)
  (hQ : ∀ c a w, Q (.panic c) (a.put oi.dst v) w → Q (.panic c) a w) (hy : YieldsIf P ops S oi v ⟨ts.toArray, ds⟩) (hS : S w)
  (h : wpAnyH P md ops Q S fuel (listed.setIfInBounds i true) ⟨(ts.set d v).toArray, ds⟩ w) : wpAnyH P md ops Q S (fuel + 1) listed ⟨ts.toArray, ds⟩ w :=
 wpAnyH_take hi hs hf hr hQ hy hS (by rw [hd, Nt.put_some]; exact h)
end Go.Proofs
namespace Go.Proofs.YtdghjgiakblfmaaGreatDoor
open Go.ChangeShapes Go.WideShapes Go.ChangeAt Go.RowKit
theorem gOps : Tryz.prog.globalNamed "treenail/term.operators" = some 0 := by kernel_rfl
theorem gOpsType : (Tryz.prog.globals[0]?).map (·.type) = some 158 := by kernel_rfl
theorem cellsOps : Tryz.prog.cellsOf 158 = 75 := by kernel_rfl
theorem cellsOp : Tryz.prog.cellsOf 157 = 5 := by kernel_rfl
theorem cellsInt' : Tryz.prog.cellsOf 3 = 1 := by kernel_rfl
theorem cellsString' : Tryz.prog.cellsOf 9 = 1 := by kernel_rfl
theorem list5' {α : Type} {l : List α} (h : l.length = 5) : ∃ a b c d e, l = [a, b, c, d, e] := by
 match l, h with
 | [a, b, c, d, e], _ => exact ⟨a, b, c, d, e, rfl⟩
theorem op_one {H : Type} {enc : TypeId × Value → H} {W : World} {base : Nat} {sp : Nat → Bool} {held : Bool} {fuel : Nat} {cs : List Value} {x : DataW H × List MemPlace} {t : List UInt8} {n1 n2 n3 n4 : Int}
  (h : DataW.trod enc Tryz.prog W base sp held fuel 157 cs = some x) (hx : x.1 = .agg [.lit (.string t), .lit (.int .i64 n1), .lit (.int .i64 n2), .lit (.int .i64 n3), .lit (.int .i64 n4)]) :
  cs = [.string ⟨t.toArray⟩, .int .i64 n1, .int .i64 n2, .int .i64 n3, .int .i64 n4] := by
 obtain ⟨ys, n, _, hx', hl, hy, hf⟩ := DataW.trod_struct Tryz.underlying157 h
 rw [cellsOp] at hl
 have hy : ys.length = 5 := hy
 obtain ⟨c0, c1, c2, c3, c4, rfl⟩ := list5' hl
 obtain ⟨y0, y1, y2, y3, y4, rfl⟩ := list5' hy
 have g0 : DataW.trod enc Tryz.prog W base sp held n 9 (([c0, c1, c2, c3, c4].drop 0).take (Tryz.prog.cellsOf 9)) = [y0, y1, y2, y3, y4][0]? := hf 0 _ rfl
 have g1 : DataW.trod enc Tryz.prog W base sp held n 3 (([c0, c1, c2, c3, c4].drop 1).take (Tryz.prog.cellsOf 3)) = [y0, y1, y2, y3, y4][1]? := hf 1 _ rfl
 have g2 : DataW.trod enc Tryz.prog W base sp held n 3 (([c0, c1, c2, c3, c4].drop 2).take (Tryz.prog.cellsOf 3)) = [y0, y1, y2, y3, y4][2]? := hf 2 _ rfl
 have g3 : DataW.trod enc Tryz.prog W base sp held n 3 (([c0, c1, c2, c3, c4].drop 3).take (Tryz.prog.cellsOf 3)) = [y0, y1, y2, y3, y4][3]? := hf 3 _ rfl
 have g4 : DataW.trod enc Tryz.prog W base sp held n 3 (([c0, c1, c2, c3, c4].drop 4).take (Tryz.prog.cellsOf 3)) = [y0, y1, y2, y3, y4][4]? := hf 4 _ rfl
 rw [cellsString'] at g0
 rw [cellsInt'] at g1 g2 g3 g4
 obtain ⟨s, e0, d0, _⟩ := DataW.trod_string Tryz.underlying9 g0
 obtain ⟨m1, e1, d1, _⟩ := DataW.trod_int Tryz.underlying3 g1
 obtain ⟨m2, e2, d2, _⟩ := DataW.trod_int Tryz.underlying3 g2
 obtain ⟨m3, e3, d3, _⟩ := DataW.trod_int Tryz.underlying3 g3
 obtain ⟨m4, e4, d4, _⟩ := DataW.trod_int Tryz.underlying3 g4
 obtain rfl : c0 = .string s := (List.cons.inj e0).1
 obtain rfl : c1 = .int .i64 m1 := (List.cons.inj e1).1
 obtain rfl : c2 = .int .i64 m2 := (List.cons.inj e2).1
 obtain rfl : c3 = .int .i64 m3 := (List.cons.inj e3).1
 obtain rfl : c4 = .int .i64 m4 := (List.cons.inj e4).1
 rw [hx'] at hx
 rw [d0, d1, d2, d3, d4] at hx
 simp only [List.map_cons, List.map_nil, DataW.agg.injEq, List.cons.injEq, DataW.lit.injEq, Lit.int.injEq, Lit.string.injEq, and_true, true_and] at hx
 obtain ⟨rfl, rfl, rfl, rfl, rfl⟩ := hx
 rfl
theorem ops_of_laid {W : World} (h : laidMet Tryz.prog [("treenail/term.operators", Rows.laid_treenail_term_operators)] W) : Tk.Ops W := by
 obtain ⟨ps, ⟨g', t', cs, fuel, p, q, hg', ht', hvar, hd, _, _⟩, _⟩ := h
 obtain rfl := Option.some.inj (gOps.symm.trans hg')
 obtain rfl := Option.some.inj (gOpsType.symm.trans ht')
 obtain ⟨xs, m, rfl, hx, hl, hxl, hf⟩ := DataW.trod_array Tryz.underlying158 hd
 rw [cellsOps] at hl
 simp only [cellsOp] at hf
 have hx1 := congrArg Prod.fst hx
 have hlen : xs.length = 15 := hxl
 simp only [Rows.laid_treenail_term_operators, DataW.agg.injEq] at hx1
 have row : ∀ (i : Nat) (t : List UInt8) (n1 n2 n3 n4 : Int), i < 15 → (xs.map (·.1))[i]? = some (.agg [.lit (.string t), .lit (.int .i64 n1), .lit (.int .i64 n2), .lit (.int .i64 n3), .lit (.int .i64 n4)]) →
   (cs.toList.drop (i * 5)).take 5 = [.string ⟨t.toArray⟩, .int .i64 n1, .int .i64 n2, .int .i64 n3, .int .i64 n4] := by
  intro i t n1 n2 n3 n4 hi hL
  obtain ⟨x, hxi⟩ : ∃ x, xs[i]? = some x := ⟨xs[i]'(by omega), List.getElem?_eq_getElem (by omega)⟩
  rw [List.getElem?_map, hxi] at hL
  exact op_one (x := x) ((hf i hi).trans hxi) (by simpa using hL)
 have step : ∀ n, cs.toList.drop n = (cs.toList.drop n).take 5 ++ cs.toList.drop (n + 5) := fun n => by
  have := (List.take_append_drop 5 (cs.toList.drop n)).symm
  rw [List.drop_drop] at this
  exact this
 have r0 := row 0 [] 0 0 0 0 (by decide) (by rw [← hx1]; rfl)
 have r1 := row 1 [] 0 0 1099511627776 1 (by decide) (by rw [← hx1]; rfl)
 have r2 := row 2 [36] 0 0 3 1 (by decide) (by rw [← hx1]; rfl)
 have r3 := row 3 [110, 101, 103] 1 1 0 1 (by decide) (by rw [← hx1]; rfl)
 have r4 := row 4 [110, 111, 116] 1 2 0 2 (by decide) (by rw [← hx1]; rfl)
 have r5 := row 5 [97, 100, 100] 2 1 0 1 (by decide) (by rw [← hx1]; rfl)
 have r6 := row 6 [115, 117, 98] 2 1 0 1 (by decide) (by rw [← hx1]; rfl)
 have r7 := row 7 [109, 117, 108] 2 1 0 1 (by decide) (by rw [← hx1]; rfl)
 have r8 := row 8 [100, 105, 118] 2 1 0 1 (by decide) (by rw [← hx1]; rfl)
 have r9 := row 9 [109, 111, 100] 2 1 0 1 (by decide) (by rw [← hx1]; rfl)
 have r10 := row 10 [101, 113] 2 1 0 2 (by decide) (by rw [← hx1]; rfl)
 have r11 := row 11 [108, 116] 2 1 0 2 (by decide) (by rw [← hx1]; rfl)
 have r12 := row 12 [108, 101] 2 1 0 2 (by decide) (by rw [← hx1]; rfl)
 have r13 := row 13 [97, 110, 100] 2 2 0 2 (by decide) (by rw [← hx1]; rfl)
 have r14 := row 14 [111, 114] 2 2 0 2 (by decide) (by rw [← hx1]; rfl)
 have hca : cs = Tk.opVals := by
  apply Array.toList_inj.1
  have h0 : cs.toList = cs.toList.drop 0 := rfl
  have h75 : cs.toList.drop 75 = [] := List.drop_eq_nil_iff.2 (by omega)
  rw [h0, step 0, step 5, step 10, step 15, step 20, step 25, step 30, step 35, step 40, step 45, step 50, step 55, step 60, step 65, step 70, h75]
  have q0 : (cs.toList.drop 0).take 5 = _ := r0
  have q1 : (cs.toList.drop 5).take 5 = _ := r1
  have q2 : (cs.toList.drop 10).take 5 = _ := r2
  have q3 : (cs.toList.drop 15).take 5 = _ := r3
  have q4 : (cs.toList.drop 20).take 5 = _ := r4
  have q5 : (cs.toList.drop 25).take 5 = _ := r5
  have q6 : (cs.toList.drop 30).take 5 = _ := r6
  have q7 : (cs.toList.drop 35).take 5 = _ := r7
  have q8 : (cs.toList.drop 40).take 5 = _ := r8
  have q9 : (cs.toList.drop 45).take 5 = _ := r9
  have q10 : (cs.toList.drop 50).take 5 = _ := r10
  have q11 : (cs.toList.drop 55).take 5 = _ := r11
  have q12 : (cs.toList.drop 60).take 5 = _ := r12
  have q13 : (cs.toList.drop 65).take 5 = _ := r13
  have q14 : (cs.toList.drop 70).take 5 = _ := r14
  rw [q0, q1, q2, q3, q4, q5, q6, q7, q8, q9, q10, q11, q12, q13, q14]
  rfl
 subst hca
 simp only [World.var?, gOps, Option.bind_some] at hvar
 split at hvar
 ·rename_i cs' t fz hh
  obtain rfl := Option.some.inj hvar
  exact ⟨t, fz, hh⟩
 ·cases hvar
end Go.Proofs.YtdghjgiakblfmaaGreatDoor
