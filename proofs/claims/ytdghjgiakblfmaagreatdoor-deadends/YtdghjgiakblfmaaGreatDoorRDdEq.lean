import Derived.Test.YtdghjgiakblfmaaGreatDoorRDdMem
import Derived.ChangeKeysEq
import Derived.Laws.StructEq
namespace Go.Proofs
open Go.RowKit Go.ChangeShapes Go.WideShapes
set_option maxRecDepth 20000 in
theorem Dd.info_int : ∃ i, Tryz.prog.info? 3 = some i := ⟨_, rfl⟩
theorem Dd.cells_int : Tryz.prog.cellsOf 3 = 1 := by kernel_rfl
theorem Dd.int_eq (d : Nat) (a b : Int) (W : World) : (Op.equalIn (d + 1) 3 (.int .i64 a) (.int .i64 b)).run Tryz.prog W = .ok (decide (a = b)) W := by
 by_cases h : a = b <;> simp [Op.equalIn, go_sem, h]
theorem Dd.part_int (cs : Array Value) (j : Nat) (x : Int) (hc : cs[j]? = some (.int .i64 x)) (W : World) : (part 3 cs j).run Tryz.prog W = .ok (.int .i64 x) W := by
 simp [part, Tryz.isAgg3, hc, go_sem]
theorem Dd.items_eq (d : Nat) (xs ys : Array Value) (f g : Nat → Int) (W : World) : ∀ (is : List Nat), (∀ j ∈ is, xs[j]? = some (.int .i64 (f j)) ∧ ys[j]? = some (.int .i64 (g j))) → (Op.eqItems (d + 1) 3 1 xs ys is).run Tryz.prog W = .ok (is.all fun j => decide (f j = g j)) W
 | [], _ => by simp [Op.eqItems]
 | j :: is, h => by
   obtain ⟨hx, hy⟩ := h j List.mem_cons_self
   have h1 := Dd.part_int xs j _ hx W
   have h2 := Dd.part_int ys j _ hy W
   have ih := Dd.items_eq d xs ys f g W is fun k hk => h k (List.mem_cons_of_mem _ hk)
   rw [Op.eqItems]
   simp only [Sem.run_bind, Nat.mul_one, h1, h2, Result.andThen_ok, Dd.int_eq d]
   by_cases he : f j = g j
   ·simp only [he, decide_true, List.all_cons, Bool.true_and]
    first | exact ih | simpa using ih
   ·have hf : decide (f j = g j) = false := decide_eq_false he
    simp only [hf, List.all_cons, Bool.false_and]
    rfl
theorem Dd.arr_eq40 (d : Nat) (xs ys : Array Value) (f g : Nat → Int) (W : World) (h : ∀ j, j < 40 → xs[j]? = some (.int .i64 (f j)) ∧ ys[j]? = some (.int .i64 (g j))) : (Op.equalIn (d + 2) 38 (.agg xs) (.agg ys)).run Tryz.prog W = .ok ((List.range 40).all fun j => decide (f j = g j)) W := by
 obtain ⟨i, hi⟩ := Dd.info_int
 rw [run_equalIn_array W (d + 1) _ _ Tryz.underlying38 hi, Dd.cells_int]
 exact Dd.items_eq d xs ys f g W _ fun j hj => h j (List.mem_range.1 hj)
theorem Dd.arr_eq64 (d : Nat) (xs ys : Array Value) (f g : Nat → Int) (W : World) (h : ∀ j, j < 64 → xs[j]? = some (.int .i64 (f j)) ∧ ys[j]? = some (.int .i64 (g j))) : (Op.equalIn (d + 2) 39 (.agg xs) (.agg ys)).run Tryz.prog W = .ok ((List.range 64).all fun j => decide (f j = g j)) W := by
 obtain ⟨i, hi⟩ := Dd.info_int
 rw [run_equalIn_array W (d + 1) _ _ Tryz.underlying39 hi, Dd.cells_int]
 exact Dd.items_eq d xs ys f g W _ fun j hj => h j (List.mem_range.1 hj)
theorem Dd.part40 (cs : Array Value) (o : Nat) (W : World) : (part 38 cs o).run Tryz.prog W = .ok (.agg (cs.extract o (o + 40))) W := by
 simp [part, Tryz.isAgg38, Tryz.sizeOf38, go_sem]
theorem Dd.part64 (cs : Array Value) (o : Nat) (W : World) : (part 39 cs o).run Tryz.prog W = .ok (.agg (cs.extract o (o + 64))) W := by
 simp [part, Tryz.isAgg39, Tryz.sizeOf39, go_sem]
theorem Dd.row_extract {t : List Int} (h : t.length = 104) (o k j : Nat) (hj : j < k) (hk : o + k ≤ 104) : ((Dd.row t).extract o (o + k))[j]? = some (.int .i64 (t.getD (o + j) 0)) := by
 have hs : (Dd.row t).size = 104 := by rw [Dd.row_size]; exact h
 rw [Array.getElem?_extract, if_pos (by rw [hs]; omega)]
 exact Dd.row_get (by omega)
theorem Dd.eqFields_cons (d : Nat) (xs ys : Array Value) (f : Field) (fs : List Field) (W : World) (a b : Value) (e : Bool) (hn : f.name ≠ "_") (hp : (part f.type xs f.offset).run Tryz.prog W = .ok a W) (hq : (part f.type ys f.offset).run Tryz.prog W = .ok b W) (he : (Op.equalIn d f.type a b).run Tryz.prog W = .ok e W) :
  (Op.eqFields d xs ys (f :: fs)).run Tryz.prog W = if e = true then (Op.eqFields d xs ys fs).run Tryz.prog W else .ok false W := by
 rw [Op.eqFields, if_pos hn]
 simp only [Sem.run_bind, hp, hq, Result.andThen_ok, he]
 cases e <;> rfl
set_option maxRecDepth 20000 in
theorem Dd.st_eq_raw (s t : List Int) (hs : s.length = 104) (ht : t.length = 104) (W : World) : (Op.equalIn 10000 41 (.agg (Dd.row s)) (.agg (Dd.row t))).run Tryz.prog W = .ok ((List.range 40).all (fun j => decide (s.getD (0 + j) 0 = t.getD (0 + j) 0)) && (List.range 64).all (fun j => decide (s.getD (40 + j) 0 = t.getD (40 + j) 0))) W := by
 show (Op.equalIn (9999 + 1) 41 _ _).run Tryz.prog W = _
 rw [run_equalIn_struct W 9999 _ _ _ (by kernel_rfl) (by kernel_rfl)]
 have p0 : (part 38 (Dd.row s) 0).run Tryz.prog W = .ok (.agg ((Dd.row s).extract 0 (0 + 40))) W := Dd.part40 _ 0 W
 have p1 : (part 39 (Dd.row s) 40).run Tryz.prog W = .ok (.agg ((Dd.row s).extract 40 (40 + 64))) W := Dd.part64 _ 40 W
 have q0 : (part 38 (Dd.row t) 0).run Tryz.prog W = .ok (.agg ((Dd.row t).extract 0 (0 + 40))) W := Dd.part40 _ 0 W
 have q1 : (part 39 (Dd.row t) 40).run Tryz.prog W = .ok (.agg ((Dd.row t).extract 40 (40 + 64))) W := Dd.part64 _ 40 W
 have r0 := Dd.arr_eq40 9997 ((Dd.row s).extract 0 (0 + 40)) ((Dd.row t).extract 0 (0 + 40)) (fun j => s.getD (0 + j) 0) (fun j => t.getD (0 + j) 0) W fun j hj => ⟨Dd.row_extract hs 0 40 j hj (by omega), Dd.row_extract ht 0 40 j hj (by omega)⟩
 have r1 := Dd.arr_eq64 9997 ((Dd.row s).extract 40 (40 + 64)) ((Dd.row t).extract 40 (40 + 64)) (fun j => s.getD (40 + j) 0) (fun j => t.getD (40 + j) 0) W fun j hj => ⟨Dd.row_extract hs 40 64 j hj (by omega), Dd.row_extract ht 40 64 j hj (by omega)⟩
 obtain ⟨e0, he0⟩ : ∃ z, ((List.range 40).all fun j => decide (s.getD (0 + j) 0 = t.getD (0 + j) 0)) = z := ⟨_, rfl⟩
 obtain ⟨e1, he1⟩ : ∃ z, ((List.range 64).all fun j => decide (s.getD (40 + j) 0 = t.getD (40 + j) 0)) = z := ⟨_, rfl⟩
 rw [he0] at r0 ⊢
 rw [he1] at r1 ⊢
 obtain ⟨cs, hcs⟩ : ∃ z, Dd.row s = z := ⟨_, rfl⟩
 obtain ⟨ct, hct⟩ : ∃ z, Dd.row t = z := ⟨_, rfl⟩
 rw [hcs] at p0 p1 r0 r1 ⊢
 rw [hct] at q0 q1 r0 r1 ⊢
 unfold Program.fieldsOf
 rw [Tryz.underlying41]
 change (Op.eqFields 9999 cs ct (_ :: _ :: [])).run Tryz.prog W = _
 refine (Dd.eqFields_cons 9999 cs ct _ _ W _ _ e0 (by decide) p0 q0 r0).trans ?_
 cases e0 with
 | false => rfl
 | true =>
   rw [if_pos rfl]
   refine (Dd.eqFields_cons 9999 cs ct _ _ W _ _ e1 (by decide) p1 q1 r1).trans ?_
   cases e1 <;> rfl
theorem Dd.st_eq (s t : List Int) (hs : s.length = 104) (ht : t.length = 104) (W : World) : (Op.equalIn 10000 41 (.agg (Dd.row s)) (.agg (Dd.row t))).run Tryz.prog W = .ok (decide (s = t)) W := by
 rw [Dd.st_eq_raw s t hs ht W]
 congr 1
 rw [Bool.eq_iff_iff, Bool.and_eq_true, decide_eq_true_iff, List.all_eq_true, List.all_eq_true]
 constructor
 ·rintro ⟨h1, h2⟩
  refine Dd.ext hs ht fun i hi => ?_
  by_cases q : i < 40
  ·have := of_decide_eq_true (h1 i (List.mem_range.2 q))
   rwa [Nat.zero_add] at this
  ·have := of_decide_eq_true (h2 (i - 40) (List.mem_range.2 (by omega)))
   rwa [show 40 + (i - 40) = i by omega] at this
 ·rintro rfl
  exact ⟨fun _ _ => decide_eq_true rfl, fun _ _ => decide_eq_true rfl⟩
end Go.Proofs
