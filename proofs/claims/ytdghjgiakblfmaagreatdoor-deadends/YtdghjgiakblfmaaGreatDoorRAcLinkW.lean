import Derived.Test.YtdghjgiakblfmaaGreatDoorRRqMark
import Derived.Great.BuildSlice
namespace Go.Proofs
open Go.RowKit Go.Shelf
theorem Ak.infoAct : (Tryz.prog.info? 32).map (fun i => (i.zero, i.size, i.bytes)) = some (some (.agg #[.int .i64 0, .int .i64 0, .int .i64 0, .int .i64 0, .int .i64 0, .int .i64 0, .slice none 0 0, .slice none 0 0, .slice none 0 0, .slice none 0 0, .slice none 0 0, .slice none 0 0]), 12, 192) := by kernel_rfl
theorem Ak.infoEdge : (Tryz.prog.info? 128).map (fun i => (i.zero, i.size, i.bytes)) = some (some (.agg #[.int .i64 0, .int .i64 0]), 2, 16) := by kernel_rfl
theorem Ak.flat_len {f : Nat → List Value} (hf : ∀ j, (f j).length = 12) (n : Nat) : ((List.range n).flatMap f).length = n * 12 := by
 induction n with
 | zero => rfl
 | succ n ih => rw [List.range_succ, List.flatMap_append, List.length_append, ih]; simp [hf]; omega
theorem Ak.flat_at {f : Nat → List Value} (hf : ∀ j, (f j).length = 12) (n j i : Nat) (hj : j < n) (hi : i < 12) : ((List.range n).flatMap f)[j * 12 + i]? = (f j)[i]? := by
 induction n with
 | zero => omega
 | succ n ih =>
   rw [List.range_succ, List.flatMap_append]
   rcases Nat.lt_or_ge j n with h | h
   ·rw [List.getElem?_append_left (by rw [Ak.flat_len hf]; omega)]
    exact ih h
   ·have : j = n := by omega
    subst this
    rw [List.getElem?_append_right (by rw [Ak.flat_len hf]; omega), Ak.flat_len hf]
    simp
def Ac.kcells (T : Ac) (U : Nat → Ac.Vs) : List Value := (List.range T.ks.length).flatMap fun j => (Ac.row ((T.ks[j]?).getD (.mk 0 0 0 0 (.mk 0 0 []) [] [] [] [] [])) (U j)).toList
theorem Ac.kcells_len (T : Ac) (U : Nat → Ac.Vs) : (T.kcells U).length = T.ks.length * 12 := Ak.flat_len (fun _ => rfl) _
theorem Ac.kcells_at (T : Ac) (U : Nat → Ac.Vs) (j i : Nat) (hj : j < T.ks.length) (hi : i < 12) : (T.kcells U)[j * 12 + i]? = some ((Ac.row T.ks[j] (U j))[i]'(by simpa [Ac.row] using hi)) := by
 unfold Ac.kcells
 rw [Ak.flat_at (fun _ => rfl) _ j i hj hi, List.getElem?_eq_getElem hj]
 simp only [Option.getD_some, Array.getElem?_toList]
 rw [Array.getElem?_eq_getElem (by simpa [Ac.row] using hi)]
theorem Ac.kcells_one {w : World} {B e d : Nat} {T : Ac} {U : Nat → Ac.Vs} (h : ∀ j (h : j < T.ks.length), Ac.Lies w B e d (U j) T.ks[j]) : ∀ u ∈ T.kcells U, u.oneCell' = true := by
 intro u hu
 obtain ⟨j, hj, hu⟩ := List.mem_flatMap.1 hu
 have hj' := List.mem_range.1 hj
 have h1 := (h j hj').ones
 rw [List.getElem?_eq_getElem hj'] at hu
 rw [Array.all_eq_true_iff_forall_mem] at h1
 exact h1 u (by simpa using hu)
def Ak.Ats (w : World) (g : Nat) (l : List Nat) : Prop := w.heap[g]? = some (.cells (l.map fun i : Nat => Value.int .i64 (i : Int)).toArray 3 (0, 0))
theorem Ak.Ats.lt {w : World} {g : Nat} {l : List Nat} (h : Ak.Ats w g l) : g < w.heap.size := (Array.getElem?_eq_some_iff.1 h).1
theorem Ak.Ats.cell {w : World} {g : Nat} {l : List Nat} (h : Ak.Ats w g l) (j x : Nat) (hj : l[j]? = some x) : w.cell? ⟨g, j, none⟩ = some (.int .i64 (x : Int)) := by
 unfold Ak.Ats at h
 simp [World.cell?, h, hj]
theorem Ak.Ats.frozen {w : World} {g : Nat} {l : List Nat} (h : Ak.Ats w g l) (j : Nat) : w.frozen? ⟨g, j, none⟩ = false := by
 unfold Ak.Ats at h
 simp [World.frozen?, h]
theorem Ak.Ats.put {w : World} {g : Nat} {l : List Nat} (h : Ak.Ats w g l) (j x : Nat) : Ak.Ats (w.setCell ⟨g, j, none⟩ (.int .i64 (x : Int))) g (l.set j x) := by
 unfold Ak.Ats at *
 simp [World.setCell, Array.getElem?_modify, h, List.map_set]
theorem Ak.Ats.keep {w w' : World} {g : Nat} {l : List Nat} (h : Ak.Ats w g l) (hk : w'.heap[g]? = w.heap[g]?) : Ak.Ats w' g l := by unfold Ak.Ats; rw [hk]; exact h
def Ak.irow (n : Nat) : Array Value := ((List.replicate n 0).map fun i : Nat => Value.int .i64 (i : Int)).toArray
theorem Ak.infoIntA : (Tryz.prog.info? 3).map (fun i => (i.zero, i.size, i.bytes)) = some (some (.int .i64 0), 1, 8) := by kernel_rfl
theorem Ak.make_ints (n : Nat) (hn : n ≤ 2000) (w : World) : (Instr.makeSlice 51 (.int .i64 (n : Int)) (.int .i64 (n : Int))).run Tryz.prog w = .ok (.slice (some ⟨w.heap.size, 0, none⟩) n n) (w.alloc (.cells (Ak.irow n) 3)) := by
 have h := run_make_row' (P := Tryz.prog) 51 3 (.int .i64 0) 8 Tryz.underlying51 Ak.infoIntA rfl .i64 .i64 n (by omega) (by omega) w
 rw [h, show madeCells #[Value.int .i64 0] n = Ak.irow n from ?_]
 apply Array.toList_inj.1
 rw [toList_madeCells_one]
 simp [Ak.irow]
theorem Ak.ats_new (w : World) (n : Nat) : Ak.Ats (w.alloc (.cells (Ak.irow n) 3)) w.heap.size (List.replicate n 0) := heap_alloc_new w _
theorem Ac.insL_nil (n : Nat) : Ac.insL [] n = List.replicate (n + 1) 0 := by
 unfold Ac.insL
 rw [List.eq_replicate_iff]
 exact ⟨by simp, by simp⟩
theorem Ac.outsL_nil (n : Nat) : Ac.outsL [] n = List.replicate (n + 1) 0 := by
 unfold Ac.outsL
 rw [List.eq_replicate_iff]
 exact ⟨by simp, by simp⟩
def Ak.ecells (es : List (Int × Int)) : List Value := es.flatMap fun e => [.int .i64 e.1, .int .i64 e.2]
theorem Ak.ecells_at (es : List (Int × Int)) (j : Nat) (hj : j < es.length) : (Ak.ecells es)[j * 2]? = some (.int .i64 es[j].1) ∧ (Ak.ecells es)[j * 2 + 1]? = some (.int .i64 es[j].2) := by
 induction es generalizing j with
 | nil => simp at hj
 | cons a r ih =>
   have hc : Ak.ecells (a :: r) = .int .i64 a.1 :: .int .i64 a.2 :: Ak.ecells r := rfl
   rw [hc]
   cases j with
   | zero => simp
   | succ i =>
     have := ih i (by simpa using hj)
     rw [show (i + 1) * 2 = i * 2 + 1 + 1 by omega]
     simpa using this
theorem Ak.eds_of_own {w : World} {B m c : Nat} {a : Option Addr} {es : List (Int × Int)} (h : w.ownsRow B 128 2 (.slice a m c) es.length (Ak.ecells es)) : Rk.Eds w w.heap.size a es := by
 intro j hj
 rcases h.2 with ⟨e, hn⟩ | ⟨g, cap, cur, e, h3, h4, h5, h6, h7, h8⟩
 ·omega
 ·simp only [Value.slice.injEq] at e
  obtain ⟨rfl, -, rfl⟩ := e
  have hk := Ak.ecells_at es j hj
  rw [← h8, List.getElem?_take, List.getElem?_take, if_pos (by omega), if_pos (by omega), Array.getElem?_toList, Array.getElem?_toList] at hk
  refine ⟨g, 0, rfl, (Array.getElem?_eq_some_iff.1 h4).1, ?_, ?_⟩
  ·simp only [World.cell?, h4, Nat.zero_add]; exact hk.1
  ·simp only [World.cell?, h4, Nat.zero_add]; exact hk.2
theorem Ak.own_shape {w : World} {B : Nat} {e : TypeId} {size : Nat} {v : Value} {n : Nat} {cs : List Value} (h : w.ownsRow B e size v n cs) : ∃ a c, v = .slice a n c := by
 rcases h.2 with ⟨rfl, rfl⟩ | ⟨g, cap, cur, rfl, _⟩
 ·exact ⟨none, 0, rfl⟩
 ·exact ⟨_, _, rfl⟩
theorem Tryz.round_free (n : Nat) (a : Option Addr) (c : Nat) (rs : List (Int × Int)) (w : World) (hE : Rk.Eds w w.heap.size a rs) (hm : rs.length ≤ 1000000) :
  Calls Tryz.prog 79 #[.int .i64 (n : Int), .slice a rs.length c] w fun e w' => ∃ la ln lc err, e = .returned (.tuple #[.slice la ln lc, .int .i64 err]) ∧ (decide (err = 0) && decide (ln = 0)) = Ac.freeB n rs ∧ Below w.heap.size w w' := by
 unfold Ac.freeB
 split
 ·next h =>
  refine (Tryz.round_err n _ a c rs w hE (by omega) rfl h).mono fun e w' ⟨h1, h2⟩ => ⟨none, 0, 0, Rk.chk n rs, h1, ?_, h2⟩
  simp [h]
 ·next h =>
  have h0 : Rk.chk n rs = 0 := Decidable.not_not.1 h
  obtain ⟨k, es, hk1, hk, rfl, hl, hes⟩ := Rk.chk_ok h0
  obtain rfl : n = k := by omega
  have key := Tryz.round_ok n a c es w hk hes hE (by rw [Rk.up_length] at hm; omega) h0
  have hd : ((Rk.up es).map fun e => (e.1.toNat, e.2.toNat)) = es := by
   rw [Rk.up, List.map_map]
   exact (List.map_congr_left fun e _ => by simp).trans (List.map_id es)
  rw [Rk.up_length, hd]
  refine key.mono fun e w' ⟨v, he, hown, hb⟩ => ?_
  obtain ⟨la, lc, rfl⟩ := Ak.own_shape hown
  refine ⟨la, _, lc, 0, he, ?_, hb⟩
  rw [decide_eq_true rfl, Bool.true_and]
  cases (List.range n).filter (fun i => Rk.lead es i i) <;> rfl
def Ac.V0 : Ac.Vs := ⟨.slice none 0 0, .slice none 0 0, .slice none 0 0, .slice none 0 0, .slice none 0 0, .slice none 0 0⟩
def Ac.UA (U : Nat → Ac.Vs) (i : Nat) : Ac.Vs := if i = 0 then Ac.V0 else U (i - 1)
theorem Ak.zero_own (w : World) : (w.alloc (.cells #[.int .i64 0, .int .i64 0, .int .i64 0, .int .i64 0, .int .i64 0, .int .i64 0, .slice none 0 0, .slice none 0 0, .slice none 0 0, .slice none 0 0, .slice none 0 0, .slice none 0 0] 32)).ownsRow w.heap.size 32 12 (.slice (some ⟨w.heap.size, 0, none⟩) 1 1) 1 [.int .i64 0, .int .i64 0, .int .i64 0, .int .i64 0, .int .i64 0, .int .i64 0, .slice none 0 0, .slice none 0 0, .slice none 0 0, .slice none 0 0, .slice none 0 0, .slice none 0 0] :=
 ⟨rfl, .inr ⟨w.heap.size, 1, #[.int .i64 0, .int .i64 0, .int .i64 0, .int .i64 0, .int .i64 0, .int .i64 0, .slice none 0 0, .slice none 0 0, .slice none 0 0, .slice none 0 0, .slice none 0 0, .slice none 0 0], rfl, Nat.le_refl _, heap_alloc_new w _, Nat.le_refl _, by unfold maxLen; omega, rfl, rfl⟩⟩
theorem Ak.rows_of {W : World} {B n c gk : Nat} {T : Ac} {U : Nat → Ac.Vs} (h : W.ownsRow B 32 12 (.slice (some ⟨gk, 0, none⟩) (1 + n) c) (1 + n) ([.int .i64 0, .int .i64 0, .int .i64 0, .int .i64 0, .int .i64 0, .int .i64 0, .slice none 0 0, .slice none 0 0, .slice none 0 0, .slice none 0 0, .slice none 0 0, .slice none 0 0] ++ T.kcells U)) (_hn : T.ks.length = n) : ∀ i (hi : i < T.around.length), Ac.Row W gk (i * 12) (Ac.row T.around[i] (Ac.UA U i)) := by
 intro i hi k hk
 have hk12 : k < 12 := by simpa [Ac.row] using hk
 have hc := h.cells (g := gk) rfl (i * 12 + k)
 rw [Go.WideShapes.add_plain, Nat.zero_add] at hc
 apply hc
 cases i with
 | zero =>
   rw [Nat.zero_mul, Nat.zero_add, List.getElem?_append_left (by simpa using hk12)]
   rcases (by omega : k = 0 ∨ k = 1 ∨ k = 2 ∨ k = 3 ∨ k = 4 ∨ k = 5 ∨ k = 6 ∨ k = 7 ∨ k = 8 ∨ k = 9 ∨ k = 10 ∨ k = 11) with rfl | rfl | rfl | rfl | rfl | rfl | rfl | rfl | rfl | rfl | rfl | rfl <;> rfl
 | succ i =>
   have hi' : i < T.ks.length := by simpa [Ac.around] using hi
   rw [List.getElem?_append_right (by simp; omega)]
   have e1 : (i + 1) * 12 + k - ([.int .i64 0, .int .i64 0, .int .i64 0, .int .i64 0, .int .i64 0, .int .i64 0, .slice none 0 0, .slice none 0 0, .slice none 0 0, .slice none 0 0, .slice none 0 0, .slice none 0 0] : List Value).length = i * 12 + k := by simp; omega
   rw [e1, Ac.kcells_at T U i k hi' hk12]
   rfl
end Go.Proofs
