import Derived.Test.YtndfbgfpnjnmlaaGreatDoorRGmRight
import Derived.Laws.StructEq
import Derived.Test.YtndfbgfpnjnmlaaGreatDoorRGmMoves
import Derived.Test.YtndfbgfpnjnmlaaGreatDoorRGmDSteps
import Derived.Test.YtndfbgfpnjnmlaaGreatDoorRGmLine
namespace Go.Proofs
open Go.RowKit Go.ChangeShapes Go.WideShapes
theorem Gm.items_self (cs : Array Value) (d : Nat) (W : World) : ∀ (is : List Nat), (∀ j ∈ is, ∃ x : Int, cs[j]? = some (.int .i64 x)) → (Op.eqItems (d + 1) 3 1 cs cs is).run Tryz.prog W = .ok true W
 | [], _ => by simp [Op.eqItems]
 | j :: is, h => by
   obtain ⟨x, hx⟩ := h j List.mem_cons_self
   have h1 := Gm.part_int cs j x hx W
   have ih := Gm.items_self cs d W is fun k hk => h k (List.mem_cons_of_mem _ hk)
   rw [Op.eqItems]
   simp only [Sem.run_bind, Nat.mul_one, h1, Result.andThen_ok, Gm.int_eq d]
   first | exact ih | simpa using ih
theorem Gm.row_self40 (cs : Array Value) (d : Nat) (W : World) (h : ∀ j, j < 40 → ∃ x : Int, cs[j]? = some (.int .i64 x)) : (Op.equalIn (d + 2) 26 (.agg cs) (.agg cs)).run Tryz.prog W = .ok true W := by
 obtain ⟨i, hi⟩ := Gm.info_int
 rw [run_equalIn_array W (d + 1) _ _ Tryz.underlying26 hi, Gm.cells_int]
 exact Gm.items_self cs d W _ fun j hj => h j (List.mem_range.1 hj)
theorem Gm.row_self4 (cs : Array Value) (d : Nat) (W : World) (h : ∀ j, j < 4 → ∃ x : Int, cs[j]? = some (.int .i64 x)) : (Op.equalIn (d + 2) 27 (.agg cs) (.agg cs)).run Tryz.prog W = .ok true W := by
 obtain ⟨i, hi⟩ := Gm.info_int
 rw [run_equalIn_array W (d + 1) _ _ Tryz.underlying27 hi, Gm.cells_int]
 exact Gm.items_self cs d W _ fun j hj => h j (List.mem_range.1 hj)
theorem Gm.part40 (cs : Array Value) (o : Nat) (W : World) : (part 26 cs o).run Tryz.prog W = .ok (.agg (cs.extract o (o + 40))) W := by
 simp [part, Tryz.isAgg26, Tryz.sizeOf26, go_sem]
theorem Gm.part4 (cs : Array Value) (o : Nat) (W : World) : (part 27 cs o).run Tryz.prog W = .ok (.agg (cs.extract o (o + 4))) W := by
 simp [part, Tryz.isAgg27, Tryz.sizeOf27, go_sem]
theorem Gm.ints_extract {t : List Int} (h : t.length = 49) (o k j : Nat) (hj : j < k) (hk : o + k ≤ 49) : ∃ x : Int, ((Gm.ints t).toArray.extract o (o + k))[j]? = some (.int .i64 x) := by
 refine ⟨t.getD (o + j) 0, ?_⟩
 have hs : (Gm.ints t).toArray.size = 49 := by simpa [Gm.ints_length] using h
 rw [Array.getElem?_extract, if_pos (by rw [hs]; omega)]
 exact Gm.ints_get (by omega)
theorem Gm.eqFields_cons (d : Nat) (xs : Array Value) (f : Field) (fs : List Field) (W : World) (a : Value) (hn : f.name ≠ "_") (hp : (part f.type xs f.offset).run Tryz.prog W = .ok a W) (hq : (Op.equalIn d f.type a a).run Tryz.prog W = .ok true W) :
  (Op.eqFields d xs xs (f :: fs)).run Tryz.prog W = (Op.eqFields d xs xs fs).run Tryz.prog W := by
 rw [Op.eqFields, if_pos hn]
 simp only [Sem.run_bind, hp, Result.andThen_ok, hq]
 rfl
set_option maxRecDepth 20000 in
theorem Gm.st_eq (t : List Int) (h : t.length = 49) (W : World) : (Op.equalIn 10000 32 (.agg (Gm.ints t).toArray) (.agg (Gm.ints t).toArray)).run Tryz.prog W = .ok true W := by
 show (Op.equalIn (9999 + 1) 32 _ _).run Tryz.prog W = _
 rw [run_equalIn_struct W 9999 _ _ _ (by kernel_rfl) (by kernel_rfl)]
 have p0 : (part 26 (Gm.ints t).toArray 0).run Tryz.prog W = .ok (.agg ((Gm.ints t).toArray.extract 0 40)) W := Gm.part40 _ 0 W
 have p1 : (part 27 (Gm.ints t).toArray 40).run Tryz.prog W = .ok (.agg ((Gm.ints t).toArray.extract 40 44)) W := Gm.part4 _ 40 W
 have p2 : (part 27 (Gm.ints t).toArray 44).run Tryz.prog W = .ok (.agg ((Gm.ints t).toArray.extract 44 48)) W := Gm.part4 _ 44 W
 have p3 := Gm.part_int (Gm.ints t).toArray 48 _ (Gm.ints_get (by omega)) W
 have q0 : (Op.equalIn 9999 26 (.agg ((Gm.ints t).toArray.extract 0 40)) (.agg ((Gm.ints t).toArray.extract 0 40))).run Tryz.prog W = .ok true W := Gm.row_self40 _ 9997 W fun j hj => Gm.ints_extract h 0 40 j hj (by omega)
 have q1 : (Op.equalIn 9999 27 (.agg ((Gm.ints t).toArray.extract 40 44)) (.agg ((Gm.ints t).toArray.extract 40 44))).run Tryz.prog W = .ok true W := Gm.row_self4 _ 9997 W fun j hj => Gm.ints_extract h 40 4 j hj (by omega)
 have q2 : (Op.equalIn 9999 27 (.agg ((Gm.ints t).toArray.extract 44 48)) (.agg ((Gm.ints t).toArray.extract 44 48))).run Tryz.prog W = .ok true W := Gm.row_self4 _ 9997 W fun j hj => Gm.ints_extract h 44 4 j hj (by omega)
 have q3 : (Op.equalIn 9999 3 (.int .i64 (t.getD 48 0)) (.int .i64 (t.getD 48 0))).run Tryz.prog W = .ok true W := by
  have := Gm.int_eq 9998 (t.getD 48 0) (t.getD 48 0) W
  simpa using this
 obtain ⟨cs, hcs⟩ : ∃ z, (Gm.ints t).toArray = z := ⟨_, rfl⟩
 obtain ⟨x, hx⟩ : ∃ z, t.getD 48 0 = z := ⟨_, rfl⟩
 rw [hcs] at p0 p1 p2 p3 q0 q1 q2 ⊢
 rw [hx] at p3 q3
 unfold Program.fieldsOf
 rw [Tryz.underlying32]
 change (Op.eqFields 9999 cs cs (_ :: _ :: _ :: _ :: [])).run Tryz.prog W = _
 refine (Gm.eqFields_cons 9999 cs _ _ W _ (by decide) p0 q0).trans ?_
 refine (Gm.eqFields_cons 9999 cs _ _ W _ (by decide) p1 q1).trans ?_
 refine (Gm.eqFields_cons 9999 cs _ _ W _ (by decide) p2 q2).trans ?_
 refine (Gm.eqFields_cons 9999 cs _ _ W _ (by decide) p3 q3).trans ?_
 rfl
end Go.Proofs
namespace Go.Proofs
open Go.RowKit Go.Shelf
theorem Gm.start_one {ns : List Nd} {fs : List Fl} (h : Gm.Rt ns fs) : ∃ f, Nt.outsL fs (Nt.firstI ns 1) = [f] ∧ f < fs.length := by
 obtain ⟨i, hi, hk, he⟩ : ∃ i : Nat, ∃ hi : i < ns.length, ns[i].kind = 1 ∧ Nt.firstI ns 1 = (i : Int) := by
  have h0 := h.lost.1
  unfold Nt.firstI at h0 ⊢
  split at h0
  ·next j hj =>
   obtain ⟨h1, h2, _⟩ := List.findIdx?_eq_some_iff_getElem.1 hj
   exact ⟨j, h1, by simpa using h2, rfl⟩
  ·omega
 have hj := h.join hi
 rw [hk] at hj
 simp only [Nt.joinB, if_true, decide_eq_true_eq] at hj
 rw [he]
 obtain ⟨f, hf⟩ := List.length_eq_one_iff.1 hj.2
 exact ⟨f, hf, Gm.outs_lt (by rw [hf]; simp)⟩
theorem Gm.three (X : World) (o1 o2 o3 : Obj) : (((X.alloc o1).alloc o2).alloc o3).heap.size = X.heap.size + 3 ∧ (((X.alloc o1).alloc o2).alloc o3).heap[X.heap.size]? = some o1 ∧ (((X.alloc o1).alloc o2).alloc o3).heap[X.heap.size + 1]? = some o2 ∧ (((X.alloc o1).alloc o2).alloc o3).heap[X.heap.size + 1 + 1]? = some o3 ∧ Below X.heap.size X (((X.alloc o1).alloc o2).alloc o3) := by
 refine ⟨by simp, ?_, ?_, ?_, (((Below.refl _ X).alloc (Nat.le_refl _) _).alloc (by simp) _).alloc (by simp; omega) _⟩
 ·rw [Below.heap_alloc _ _ _ (by simp; omega), Below.heap_alloc _ _ _ (by simp)]; exact heap_alloc_new X _
 ·rw [Below.heap_alloc _ _ _ (by simp)]
  have := heap_alloc_new (X.alloc o1) o2
  simpa using this
 ·have := heap_alloc_new ((X.alloc o1).alloc o2) o3
  simpa using this
set_option maxRecDepth 20000 in
set_option maxHeartbeats 16000000 in
theorem Tryz.rStart_any (an : Option Addr) (n cn : Nat) (af : Option Addr) (m cf : Nat) (X : World) (d : Nat) (ns : List Nd) (fs : List Fl) (hH : Nt.Has X X.heap.size d an af ns fs) (hn : ns.length = n) (hm : fs.length = m) (hr : (Nt.checkN ns fs).1 = 0) :
  Calls Tryz.prog 20 #[.agg #[.slice an n cn, .slice af m cf]] X fun e w' => e = .returned (.agg (Gm.ints (Gm.startL ns fs)).toArray) ∧ Below X.heap.size X w' := by
 have hRt := Gm.Rt.of hr
 have hf40 := hRt.f40
 obtain ⟨f, hf, hfl⟩ := Gm.start_one hRt
 obtain ⟨si, hsi⟩ : ∃ z, Nt.firstI ns 1 = z := ⟨_, rfl⟩
 rw [hsi] at hf
 have hst : Gm.startL ns fs = Gm.zeros.set f 1 := by unfold Gm.startL; rw [hsi, hf]; rfl
 rw [hst]
 obtain ⟨w1, hw1⟩ : ∃ z, (((X.alloc (.cells #[.slice an n cn, .slice af m cf] 25)).alloc (.cells #[.int .i64 0, .int .i64 0, .int .i64 0, .int .i64 0, .int .i64 0, .int .i64 0, .int .i64 0, .int .i64 0, .int .i64 0, .int .i64 0, .int .i64 0, .int .i64 0, .int .i64 0, .int .i64 0, .int .i64 0, .int .i64 0, .int .i64 0, .int .i64 0, .int .i64 0, .int .i64 0, .int .i64 0, .int .i64 0, .int .i64 0, .int .i64 0, .int .i64 0, .int .i64 0, .int .i64 0, .int .i64 0, .int .i64 0, .int .i64 0, .int .i64 0, .int .i64 0, .int .i64 0, .int .i64 0, .int .i64 0, .int .i64 0, .int .i64 0, .int .i64 0, .int .i64 0, .int .i64 0, .int .i64 0, .int .i64 0, .int .i64 0, .int .i64 0, .int .i64 0, .int .i64 0, .int .i64 0, .int .i64 0, .int .i64 0] 32)).alloc (.cells #[.int .i64 0, .int .i64 0, .int .i64 0, .int .i64 0, .int .i64 0, .int .i64 0, .int .i64 0, .int .i64 0, .int .i64 0, .int .i64 0, .int .i64 0, .int .i64 0, .int .i64 0, .int .i64 0, .int .i64 0, .int .i64 0, .int .i64 0, .int .i64 0, .int .i64 0, .int .i64 0, .int .i64 0, .int .i64 0, .int .i64 0, .int .i64 0, .int .i64 0, .int .i64 0, .int .i64 0, .int .i64 0, .int .i64 0, .int .i64 0, .int .i64 0, .int .i64 0, .int .i64 0, .int .i64 0, .int .i64 0, .int .i64 0, .int .i64 0, .int .i64 0, .int .i64 0, .int .i64 0, .int .i64 0, .int .i64 0, .int .i64 0, .int .i64 0, .int .i64 0, .int .i64 0, .int .i64 0, .int .i64 0, .int .i64 0] 32)).setRow (X.heap.size + 1 + 1) #[.int .i64 0, .int .i64 0, .int .i64 0, .int .i64 0, .int .i64 0, .int .i64 0, .int .i64 0, .int .i64 0, .int .i64 0, .int .i64 0, .int .i64 0, .int .i64 0, .int .i64 0, .int .i64 0, .int .i64 0, .int .i64 0, .int .i64 0, .int .i64 0, .int .i64 0, .int .i64 0, .int .i64 0, .int .i64 0, .int .i64 0, .int .i64 0, .int .i64 0, .int .i64 0, .int .i64 0, .int .i64 0, .int .i64 0, .int .i64 0, .int .i64 0, .int .i64 0, .int .i64 0, .int .i64 0, .int .i64 0, .int .i64 0, .int .i64 0, .int .i64 0, .int .i64 0, .int .i64 0, .int .i64 0, .int .i64 0, .int .i64 0, .int .i64 0, .int .i64 0, .int .i64 0, .int .i64 0, .int .i64 0, .int .i64 0] = z := ⟨_, rfl⟩
 obtain ⟨s1, P0, P1, P2, A1⟩ := Gm.three X (.cells #[.slice an n cn, .slice af m cf] 25) (.cells #[.int .i64 0, .int .i64 0, .int .i64 0, .int .i64 0, .int .i64 0, .int .i64 0, .int .i64 0, .int .i64 0, .int .i64 0, .int .i64 0, .int .i64 0, .int .i64 0, .int .i64 0, .int .i64 0, .int .i64 0, .int .i64 0, .int .i64 0, .int .i64 0, .int .i64 0, .int .i64 0, .int .i64 0, .int .i64 0, .int .i64 0, .int .i64 0, .int .i64 0, .int .i64 0, .int .i64 0, .int .i64 0, .int .i64 0, .int .i64 0, .int .i64 0, .int .i64 0, .int .i64 0, .int .i64 0, .int .i64 0, .int .i64 0, .int .i64 0, .int .i64 0, .int .i64 0, .int .i64 0, .int .i64 0, .int .i64 0, .int .i64 0, .int .i64 0, .int .i64 0, .int .i64 0, .int .i64 0, .int .i64 0, .int .i64 0] 32) (.cells #[.int .i64 0, .int .i64 0, .int .i64 0, .int .i64 0, .int .i64 0, .int .i64 0, .int .i64 0, .int .i64 0, .int .i64 0, .int .i64 0, .int .i64 0, .int .i64 0, .int .i64 0, .int .i64 0, .int .i64 0, .int .i64 0, .int .i64 0, .int .i64 0, .int .i64 0, .int .i64 0, .int .i64 0, .int .i64 0, .int .i64 0, .int .i64 0, .int .i64 0, .int .i64 0, .int .i64 0, .int .i64 0, .int .i64 0, .int .i64 0, .int .i64 0, .int .i64 0, .int .i64 0, .int .i64 0, .int .i64 0, .int .i64 0, .int .i64 0, .int .i64 0, .int .i64 0, .int .i64 0, .int .i64 0, .int .i64 0, .int .i64 0, .int .i64 0, .int .i64 0, .int .i64 0, .int .i64 0, .int .i64 0, .int .i64 0] 32)
 have N0 := P2
 have u1 : (Tryz.prog.info? 32).map (·.size) = some (#[.int .i64 0, .int .i64 0, .int .i64 0, .int .i64 0, .int .i64 0, .int .i64 0, .int .i64 0, .int .i64 0, .int .i64 0, .int .i64 0, .int .i64 0, .int .i64 0, .int .i64 0, .int .i64 0, .int .i64 0, .int .i64 0, .int .i64 0, .int .i64 0, .int .i64 0, .int .i64 0, .int .i64 0, .int .i64 0, .int .i64 0, .int .i64 0, .int .i64 0, .int .i64 0, .int .i64 0, .int .i64 0, .int .i64 0, .int .i64 0, .int .i64 0, .int .i64 0, .int .i64 0, .int .i64 0, .int .i64 0, .int .i64 0, .int .i64 0, .int .i64 0, .int .i64 0, .int .i64 0, .int .i64 0, .int .i64 0, .int .i64 0, .int .i64 0, .int .i64 0, .int .i64 0, .int .i64 0, .int .i64 0, .int .i64 0] : Array Value).size := by kernel_rfl
 have u3 : (#[.int .i64 0, .int .i64 0, .int .i64 0, .int .i64 0, .int .i64 0, .int .i64 0, .int .i64 0, .int .i64 0, .int .i64 0, .int .i64 0, .int .i64 0, .int .i64 0, .int .i64 0, .int .i64 0, .int .i64 0, .int .i64 0, .int .i64 0, .int .i64 0, .int .i64 0, .int .i64 0, .int .i64 0, .int .i64 0, .int .i64 0, .int .i64 0, .int .i64 0, .int .i64 0, .int .i64 0, .int .i64 0, .int .i64 0, .int .i64 0, .int .i64 0, .int .i64 0, .int .i64 0, .int .i64 0, .int .i64 0, .int .i64 0, .int .i64 0, .int .i64 0, .int .i64 0, .int .i64 0, .int .i64 0, .int .i64 0, .int .i64 0, .int .i64 0, .int .i64 0, .int .i64 0, .int .i64 0, .int .i64 0, .int .i64 0] : Array Value).all (·.oneCell') = true := by kernel_rfl
 replace s1 : w1.heap.size = X.heap.size + 3 := by rw [← hw1, setRow_size]; exact s1
 replace P0 : w1.heap[X.heap.size]? = some (.cells #[.slice an n cn, .slice af m cf] 25 (0, 0)) := by rw [← hw1, setRow_other _ _ _ _ (by omega)]; exact P0
 replace P1 : w1.heap[X.heap.size + 1]? = some (.cells (Gm.ints Gm.zeros).toArray 32 (0, 0)) := by rw [← hw1, setRow_other _ _ _ _ (by omega)]; exact P1
 replace P2 : w1.heap[X.heap.size + 1 + 1]? = some (.cells (Gm.ints Gm.zeros).toArray 32 (0, 0)) := by rw [← hw1]; exact setRow_heap _ _ _ _ _ _ P2
 replace A1 : Below X.heap.size X w1 := by rw [← hw1]; exact Tk.below_row A1 (by omega) _
 have HBOX : Hid (∀ W, Below w1.heap.size w1 W → W.cell? ⟨X.heap.size, 0, none⟩ = some (.slice an n cn) ∧ W.cell? ⟨X.heap.size, 1, none⟩ = some (.slice af m cf)) := fun W hW => by
  have h0 := (hW.block X.heap.size (by omega)).trans P0
  simp [World.cell?, h0]
 have hu := Tryz.underlying32
 have HW1 : Hid _ := hw1
 have CF : Hid (∀ W, Below w1.heap.size w1 W → Calls Tryz.prog 34 #[.agg #[.slice an n cn, .slice af m cf], .int .i64 1] W fun e w' => e = .returned (.int .i64 si) ∧ Hid (Below w1.heap.size w1 w')) := fun W hW => by
  have hXW : Below X.heap.size X W := A1.trans (hW.mono A1.size)
  have h := Tryz.rFirst_any 1 an cn d af m cf ns W ((hH.nds.below hXW).wider hXW.size) hH.nlen
  rw [hn, hsi] at h
  exact h.mono fun _ _ q => ⟨q.1, hW.trans (q.2.mono hW.size)⟩
 have CO : Hid (∀ W, Below w1.heap.size w1 W → Calls Tryz.prog 37 #[.agg #[.slice an n cn, .slice af m cf], .int .i64 si] W fun e w' => ∃ a c, e = .returned (.slice a 1 c) ∧ Hid (Below w1.heap.size w1 w') ∧ ∃ g, a = some ⟨g, 0, none⟩ ∧ w'.cell? ⟨g, 0, none⟩ = some (.int .i64 f)) := fun W hW => by
  have hXW : Below X.heap.size X W := A1.trans (hW.mono A1.size)
  have h := Tryz.rOuts_any si an n cn af cf d fs W ((hH.fls.below hXW).wider hXW.size) (by omega)
  rw [hm, hf] at h
  refine h.mono fun e w' ⟨v, hv, ho, hb⟩ => ?_
  rcases ho.2 with ⟨_, hz⟩ | ⟨g, cap, cur, rfl, h3, h4, h5, _, h6, h7⟩
  ·cases hz
  ·refine ⟨_, _, hv, hW.trans (hb.mono hW.size), g, rfl, ?_⟩
   have h8 : cur[0]? = some (.int .i64 f) := by
    have := congrArg (fun l => l[0]?) h7
    simpa [Rk.nums, List.getElem?_take] using this
   simp only [World.cell?, h4]
   exact h8
 have HZ : Hid (∀ W, Below w1.heap.size w1 W → W.cell? ⟨X.heap.size + 1 + 1, f, none⟩ = some (.int .i64 0) ∧ W.frozen? ⟨X.heap.size + 1 + 1, f, none⟩ = false) := fun W hW => by
  have h0 := (hW.block (X.heap.size + 1 + 1) (by omega)).trans P2
  refine ⟨?_, by simp [World.frozen?, h0]⟩
  simp only [World.cell?, h0]
  rw [Gm.ints_get (by show f < 49; omega)]
  have : Gm.zeros.getD f 0 = 0 := by
   have h : ∀ k : Fin 49, Gm.zeros.getD k.val 0 = 0 := by decide
   exact h ⟨f, by omega⟩
  rw [this]
  rfl
 have HBX2 : Hid (∀ W, Below w1.heap.size w1 W → ((W.setCell ⟨X.heap.size + 1 + 1, f, none⟩ (.int .i64 1)).cell? ⟨X.heap.size, 0, none⟩ = some (.slice an n cn) ∧ (W.setCell ⟨X.heap.size + 1 + 1, f, none⟩ (.int .i64 1)).cell? ⟨X.heap.size, 1, none⟩ = some (.slice af m cf))) := fun W hW => by
  have h0 := (Below.heap_setCell W ⟨X.heap.size + 1 + 1, f, none⟩ (.int .i64 1) X.heap.size (by show X.heap.size ≠ X.heap.size + 1 + 1; omega)).trans ((hW.block X.heap.size (by omega)).trans P0)
  simp [World.cell?, h0]
 have HEND : Hid (∀ W, Below w1.heap.size w1 W → (W.setCell ⟨X.heap.size + 1 + 1, f, none⟩ (.int .i64 1)).heap[X.heap.size + 1 + 1]? = some (.cells (Gm.ints (Gm.zeros.set f 1)).toArray 32 (0, 0)) ∧ (W.setCell ⟨X.heap.size + 1 + 1, f, none⟩ (.int .i64 1)).heap[X.heap.size + 1]? = some (.cells (Gm.ints Gm.zeros).toArray 32 (0, 0)) ∧ Below X.heap.size X (W.setCell ⟨X.heap.size + 1 + 1, f, none⟩ (.int .i64 1))) := fun W hW => by
  refine ⟨Gm.put_row ((hW.block (X.heap.size + 1 + 1) (by omega)).trans P2), (Below.heap_setCell W ⟨X.heap.size + 1 + 1, f, none⟩ (.int .i64 1) (X.heap.size + 1) (by show X.heap.size + 1 ≠ X.heap.size + 1 + 1; omega)).trans ((hW.block (X.heap.size + 1) (by omega)).trans P1), (A1.trans (hW.mono A1.size)).setCell (p := ⟨X.heap.size + 1 + 1, f, none⟩) (by show X.heap.size ≤ X.heap.size + 1 + 1; omega) _⟩
 have i1 : (f : Int) < 40 := by omega
 have i0 : (0 : Int) ≤ f := by omega
 have e0 : (Tryz.prog.info? 32).map (·.size) = some (Gm.ints (Gm.zeros.set f 1)).toArray.size := by
  rw [show (Gm.ints (Gm.zeros.set f 1)).toArray.size = 49 by simp [Gm.ints_length, Gm.zeros]]
  kernel_rfl
 have e2 : (Gm.ints Gm.zeros).toArray.size = (Gm.ints (Gm.zeros.set f 1)).toArray.size := by simp [Gm.ints_length]
 have e3 : (Gm.ints (Gm.zeros.set f 1)).toArray.all (·.oneCell') = true := all_oneCell_toArray (Gm.ints_one _)
 obtain ⟨R, hR⟩ : ∃ z, Gm.zeros.set f 1 = z := ⟨_, rfl⟩
 rw [hR] at HEND e0 e2 e3 ⊢
 clear P0 P1 P2 A1 hH hn hm hr hRt hf40 hf hfl hsi hst hw1 s1 hR
 go_enter Tryz.func20, Tryz.ntmps20
 go_upto_region 2 with (refine wpList_store_row rfl 32 _ _ rfl (X.heap.size + 1 + 1) #[.int .i64 0, .int .i64 0, .int .i64 0, .int .i64 0, .int .i64 0, .int .i64 0, .int .i64 0, .int .i64 0, .int .i64 0, .int .i64 0, .int .i64 0, .int .i64 0, .int .i64 0, .int .i64 0, .int .i64 0, .int .i64 0, .int .i64 0, .int .i64 0, .int .i64 0, .int .i64 0, .int .i64 0, .int .i64 0, .int .i64 0, .int .i64 0, .int .i64 0, .int .i64 0, .int .i64 0, .int .i64 0, .int .i64 0, .int .i64 0, .int .i64 0, .int .i64 0, .int .i64 0, .int .i64 0, .int .i64 0, .int .i64 0, .int .i64 0, .int .i64 0, .int .i64 0, .int .i64 0, .int .i64 0, .int .i64 0, .int .i64 0, .int .i64 0, .int .i64 0, .int .i64 0, .int .i64 0, .int .i64 0, .int .i64 0] rfl rfl 32 _ N0 u1 rfl u3 ?_)
 rw [HW1.out]
 clear HW1 N0 u1 u3
 refine wp_region_held_drew (S := (fun V => V.cell? ⟨X.heap.size, 0, none⟩ = some (.slice an n cn) ∧ V.cell? ⟨X.heap.size, 1, none⟩ = some (.slice af m cf))) (by kernel_rfl) ?_ (fun hHeld => ?_)
 ·exact HBOX.out _ (Below.refl _ _).drew
 refine Nt.takeS (v := ?va0) 0 5 rfl rfl (by kernel_rfl) (by kernel_rfl) (by kernel_rfl) (fun _ _ _ h => h) (Or.inl ⟨by rfl, ?ya0⟩) hHeld ?ra0
 case ya0 => (intro w hSw; (try dsimp only at hSw); go_simp; all_goals (with_reducible rfl))
 simp only [List.set_cons_succ, List.set_cons_zero]
 refine Nt.takeS (v := ?va1) 1 6 rfl rfl (by kernel_rfl) (by kernel_rfl) (by kernel_rfl) (fun _ _ _ h => h) (Or.inl ⟨by rfl, ?ya1⟩) hHeld ?ra1
 case ya1 => (intro w hSw; (try dsimp only at hSw); go_simp; all_goals (with_reducible rfl))
 simp only [List.set_cons_succ, List.set_cons_zero]
 refine Nt.takeS (v := ?va6) 6 11 rfl rfl (by kernel_rfl) (by kernel_rfl) (by kernel_rfl) (fun _ _ _ h => h) (Or.inl ⟨by rfl, ?ya6⟩) hHeld ?ra6
 case ya6 => (intro w hSw; (try dsimp only at hSw); go_simp; all_goals (with_reducible rfl))
 simp only [List.set_cons_succ, List.set_cons_zero]
 refine wpAnyH_ready (rs := [2]) (by kernel_rfl) (by simp) ?_
 refine AllReadyH.cons rfl (fun K hK => ?_) AllReadyH.nil
 go_simp
 go_at_call 34
 refine Calls.mono (CF.out _ (Below.refl _ _).drew) ?_
 rintro e W5 ⟨rfl, H5⟩
 go_wp2_with fail
 refine hK.out _ _ ?_ (fun hTe => ?_)
 ·exact HBOX.out _ H5.out
 clear hK K
 first | refine Nt.normS 7 rfl ?_ | skip
 first | (simp only [List.set_cons_succ, List.set_cons_zero]) | skip
 refine wpAnyH_ready (rs := [3]) (by kernel_rfl) (by simp) ?_
 refine AllReadyH.cons rfl (fun K hK => ?_) AllReadyH.nil
 go_simp
 go_at_call 37
 refine Calls.mono (CO.out _ H5.out) ?_
 rintro e W6 ⟨a6, c6, rfl, H6, x6⟩
 obtain ⟨g6, rfl, y6⟩ := x6
 go_wp2_with fail
 refine hK.out _ _ ?_ (fun hTf => ?_)
 ·exact HBOX.out _ H6.out
 clear hK K
 first | refine Nt.normS 8 rfl ?_ | skip
 first | (simp only [List.set_cons_succ, List.set_cons_zero]) | skip
 refine wpAnyH_ready (rs := [4]) (by kernel_rfl) (by simp) ?_
 refine AllReadyH.cons rfl (fun K hK => ?_) AllReadyH.nil
 go_simp
 refine hK.out _ _ ?_ (fun hTg => ?_)
 ·exact HBOX.out _ H6.out
 clear hK K
 first | refine Nt.normS 9 rfl ?_ | skip
 first | (simp only [List.set_cons_succ, List.set_cons_zero]) | skip
 refine wpAnyH_ready (rs := [5]) (by kernel_rfl) (by simp) ?_
 refine AllReadyH.cons rfl (fun K hK => ?_) AllReadyH.nil
 go_simp
 refine hK.out _ _ ?_ (fun hTh => ?_)
 ·exact HBOX.out _ H6.out
 clear hK K
 first | refine Nt.normS 10 rfl ?_ | skip
 first | (simp only [List.set_cons_succ, List.set_cons_zero]) | skip
 refine wpAnyH_ready (rs := [7]) (by kernel_rfl) (by simp) ?_
 refine AllReadyH.cons rfl (fun K hK => ?_) AllReadyH.nil
 go_simp
 refine hK.out _ _ ?_ (fun hTi => ?_)
 ·exact HBOX.out _ H6.out
 clear hK K
 first | refine Nt.normS 12 rfl ?_ | skip
 first | (simp only [List.set_cons_succ, List.set_cons_zero]) | skip
 have z6 := HZ.out W6 H6.out
 obtain ⟨z6c, z6f⟩ := z6
 refine wpAnyH_ready (rs := [8]) (by kernel_rfl) (by simp) ?_
 refine AllReadyH.cons rfl (fun K hK => ?_) AllReadyH.nil
 go_simp
 refine hK.out _ _ ?_ (fun hTj => ?_)
 ·exact HBX2.out W6 H6.out
 clear hK K
 refine wpAnyH_done (by kernel_rfl) ?_ _
 obtain ⟨NU, NR, B7⟩ := HEND.out W6 H6.out
 obtain ⟨W7, hW7⟩ : ∃ z, W6.setCell ⟨X.heap.size + 1 + 1, f, none⟩ (.int .i64 1) = z := ⟨_, rfl⟩
 rw [hW7] at NU NR B7 ⊢
 have HB7 : Hid _ := B7
 clear B7 hW7
 go_wp2_with (first
  | refine wpList_load_row rfl 32 _ rfl _ rfl 32 (Gm.ints R).toArray (0, 0) _ NU hu rfl e0 ?_
  | refine wpList_store_row rfl 32 _ _ rfl (X.heap.size + 1) (Gm.ints R).toArray rfl rfl 32 _ NR e0 e2 e3 ?_)
 exact bodyPost_ret (v := .agg (Gm.ints R).toArray) (results_cell_row Tryz.results20 _ _ (X.heap.size + 1) 32 (Gm.ints R).toArray (0, 0) _ rfl (setRow_heap _ _ _ _ _ _ NR) hu rfl e0) rfl ⟨rfl, Tk.below_row HB7.out (by omega) _⟩
end Go.Proofs
