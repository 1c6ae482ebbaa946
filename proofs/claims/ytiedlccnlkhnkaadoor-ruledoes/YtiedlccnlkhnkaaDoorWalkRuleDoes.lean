/-
  The walk of RuleDoes: what any rule makes of any tokens, and whether it can.
-/
import Derived.Test.YtiedlccnlkhnkaaDoorAllRuRef
import Derived.Test.YtiedlccnlkhnkaaDoorAllRuLine
import Derived.ChangeKeysEq
namespace Go.Proofs
open Go.RowKit Go.Shelf

/-- A whole row stored, as a step of a drawn region. -/
theorem Ru.step_row {P : Program} {ops : Array Oper} {o : Oper} {a : Act} {w : World} {K : Act → World → Prop} {Q : Exit → Act → World → Prop} {E : Prop}
    (hg : o.guard = none) (ty : TypeId) (x y : Operand) (hop : o.op = .store ty x y) (g : Nat) (cells : Array Value) (hx : a.eval x = .pointer (some ⟨g, 0, none⟩)) (hy : a.eval y = .agg cells)
    (t : TypeId) (old : Array Value) (hgb : w.heap[g]? = some (.cells old t (0, 0))) (hi : (P.info? ty).map (·.size) = some cells.size) (hold : old.size = cells.size) (h1 : cells.all (·.oneCell') = true)
    (hK : K (a.put o.dst undef) (w.setRow g cells)) : if Region.wanted o (yielded ops a.tmps) = true then Oper.wp P o a w K Q else E := by
  have hw : Region.wanted o (yielded ops a.tmps) = true := by simp [Region.wanted, hg]
  rw [if_pos hw]
  exact wp_store_row ty x y hop g cells hx hy t old hgb hi hold h1 hK

set_option maxRecDepth 20000 in
set_option maxHeartbeats 4000000 in
theorem Tryd.ref14_any (kd nd : Int) (a1 : Option Addr) (n1 c1 : Nat) (a2 : Option Addr) (n2 c2 : Nat) (w : World) :
    Calls Tryd.prog 22 #[.agg #[.int .i64 kd, .int .i64 nd, .slice a1 n1 c1, .slice a2 n2 c2]] w fun e w' => e = .returned (.agg #[.int .i64 kd, .int .i64 nd, .slice a1 n1 c1, .slice a2 n2 c2]) ∧ Below w.heap.size w w' := by
  obtain ⟨w2, hw2⟩ : ∃ x, (w.alloc (.cells #[.int .i64 kd, .int .i64 nd, .slice a1 n1 c1, .slice a2 n2 c2] 53)).alloc (.cells #[.int .i64 0, .int .i64 0, .slice none 0 0, .slice none 0 0] 54) = x := ⟨_, rfl⟩
  have A2 : Below w.heap.size w w2 := by rw [← hw2]; exact ((Below.refl _ w).alloc (Nat.le_refl _) _).alloc (by simp) _
  have N1 : w2.heap[w.heap.size]? = some (.cells #[.int .i64 kd, .int .i64 nd, .slice a1 n1 c1, .slice a2 n2 c2] 53 (0, 0)) := by
    rw [← hw2, Below.heap_alloc _ _ _ (by simp)]
    exact heap_alloc_new w _
  have N2 : w2.heap[w.heap.size + 1]? = some (.cells #[.int .i64 0, .int .i64 0, .slice none 0 0, .slice none 0 0] 54 (0, 0)) := by
    have := heap_alloc_new (w.alloc (.cells #[.int .i64 kd, .int .i64 nd, .slice a1 n1 c1, .slice a2 n2 c2] 53)) (.cells #[.int .i64 0, .int .i64 0, .slice none 0 0, .slice none 0 0] 54)
    rw [← hw2]
    simpa using this
  have c0 : w2.cell? ⟨w.heap.size, 0, none⟩ = some (.int .i64 kd) := by simp [World.cell?, N1]
  have c1' : w2.cell? ⟨w.heap.size, 1, none⟩ = some (.int .i64 nd) := by simp [World.cell?, N1]
  have c2' : w2.cell? ⟨w.heap.size, 2, none⟩ = some (.slice a1 n1 c1) := by simp [World.cell?, N1]
  have c3 : w2.cell? ⟨w.heap.size, 3, none⟩ = some (.slice a2 n2 c2) := by simp [World.cell?, N1]
  have hu := Tryd.underlying54
  have HA : Hid (Below w.heap.size w w2 ∧ (w.alloc (.cells #[.int .i64 kd, .int .i64 nd, .slice a1 n1 c1, .slice a2 n2 c2] 53)).alloc (.cells #[.int .i64 0, .int .i64 0, .slice none 0 0, .slice none 0 0] 54) = w2) := ⟨A2, hw2⟩
  clear A2 hw2 N1
  go_enter Tryd.func22, Tryd.ntmps22
  go_upto_region 1 with fail
  rw [HA.out.2]
  go_wp2_with (refine wpList_store_row rfl 54 _ _ rfl (w.heap.size + 1) #[.int .i64 kd, .int .i64 nd, .slice a1 n1 c1, .slice a2 n2 c2] rfl rfl 54 _ N2 (by kernel_rfl) rfl (by kernel_rfl) ?_)
  exact bodyPost_ret (v := .agg #[.int .i64 kd, .int .i64 nd, .slice a1 n1 c1, .slice a2 n2 c2]) (results_cell_row Tryd.results22 _ _ (w.heap.size + 1) 54 #[.int .i64 kd, .int .i64 nd, .slice a1 n1 c1, .slice a2 n2 c2] (0, 0) _ rfl (setRow_heap _ _ _ _ _ _ N2) hu rfl (by kernel_rfl)) rfl ⟨rfl, Tk.below_row HA.out.1 (by omega) _⟩

theorem Ru.gives_fit {l : List Int} : ∀ {T R : List Int}, Ru.Fit T → (∀ f, f ∈ l → Ru.noB f = false) → l.foldlM Ru.giveW T = some R → Ru.Fit R := by
  induction l with
  | nil => intro T R h _ hr; simp at hr; rw [← hr]; exact h
  | cons f l ih =>
    intro T R h hn hr
    rw [List.foldlM_cons] at hr
    cases ht : Ru.giveW T f with
    | none => rw [ht] at hr; cases hr
    | some T' =>
      rw [ht] at hr
      exact ih (Ru.give_fit h (hn f (by simp)) ht) (fun g hg => hn g (by simp [hg])) hr
theorem Ru.do_fit {T ne gi : List Int} (h : Ru.Fit T) : Ru.Fit (Ru.doP T ne gi).1 := by
  unfold Ru.doP
  cases hb : (ne.any Ru.noB || gi.any Ru.noB) with
  | true => exact Ru.zs_fit
  | false =>
    cases hw : Ru.without T ne with
    | none => exact Ru.zs_fit
    | some T1 =>
      cases hg : gi.foldlM Ru.giveW T1 with
      | none => rw [Ru.doR_full hg]; exact Ru.zs_fit
      | some T2 =>
        rw [Ru.doR_ok hg]
        refine Ru.gives_fit (Ru.without_fit h hw) (fun f hf => ?_) hg
        have h2 := (Bool.or_eq_false_iff.1 hb).2
        simpa using List.any_eq_false.1 h2 f hf

/-- Two arrays of the same numbers are equal to Go. -/
theorem Ru.int_eq (d : Nat) (a : Int) (W : World) : (Op.equalIn (d + 1) 3 (.int .i64 a) (.int .i64 a)).run Tryd.prog W = .ok true W := by
  simp [Op.equalIn, go_sem]

namespace YtiedlccnlkhnkaaDoor.RuleDoes
theorem part_at (T : List Int) (j : Nat) (hj : j < T.length) (W : World) : (part 3 (Ru.arr T) j).run Tryd.prog W = .ok (.int .i64 T[j]) W := by
  have h := Tryd.isAgg3
  have hg : (Ru.arr T)[j]? = some (.int .i64 T[j]) := by simp [Ru.arr, hj]
  simp [part, Sem.run_bind, h, hg]
theorem items_eq (T : List Int) (W : World) : ∀ l : List Nat, (∀ j, j ∈ l → j < T.length) → (Op.eqItems 9999 3 1 (Ru.arr T) (Ru.arr T) l).run Tryd.prog W = .ok true W
  | [], _ => by simp [Op.eqItems]
  | j :: l, h => by
    have hj := h j (by simp)
    have ih := items_eq T W l fun i hi => h i (by simp [hi])
    have hp := part_at T j hj W
    have he : (Op.equalIn 9999 3 (.int .i64 T[j]) (.int .i64 T[j])).run Tryd.prog W = .ok true W := Ru.int_eq 9998 _ W
    simp only [Op.eqItems, Sem.run_bind, Nat.mul_one, hp, Result.andThen_ok, he]
    simpa using ih
set_option maxRecDepth 20000 in
theorem arr_eq (T : List Int) (hT : T.length = 40) (W : World) : (binOp BinOp.eql 56 (.agg (Ru.arr T)) (.agg (Ru.arr T))).run Tryd.prog W = .ok (.bool true) W := by
  have h1 := Tryd.underlying56
  obtain ⟨i, hi⟩ : ∃ i, Tryd.prog.info? 3 = some i := ⟨_, rfl⟩
  have he : (Op.equal 56 (.agg (Ru.arr T)) (.agg (Ru.arr T))).run Tryd.prog W = .ok true W := by
    show (Op.equalIn (9999 + 1) 56 _ _).run Tryd.prog W = _
    rw [run_equalIn_array W 9999 _ _ h1 hi, show Tryd.prog.cellsOf 3 = 1 by kernel_rfl]
    exact items_eq T W _ fun j hj => by rw [hT]; exact List.mem_range.1 hj
  unfold binOp
  simp [he]

set_option maxRecDepth 20000 in
set_option maxHeartbeats 16000000 in
theorem walk (kd nd : Int) (T ne gi : List Int) (a1 : Option Addr) (n1 c1 : Nat) (a2 : Option Addr) (n2 c2 : Nat) (w : World) (hT : Ru.Fit T) (hu1 : Ru.Nums w (.slice a1 n1 c1) ne) (hu2 : Ru.Nums w (.slice a2 n2 c2) gi) (hO : Tk.Ops w) :
    Calls Tryd.prog 6 #[.agg #[.int .i64 kd, .int .i64 nd, .slice a1 n1 c1, .slice a2 n2 c2], .agg (Ru.arr T)] w fun e w' => e = .returned (.bool true) ∧ Below w.heap.size w w' := by
  obtain ⟨cs, hcs⟩ : ∃ cs, (T.map fun x => Value.int .i64 x) = cs := ⟨_, rfl⟩
  have hA : Ru.arr T = cs.toArray := by rw [← hcs]; rfl
  rw [hA]
  have hln1 : ne.length = n1 := by
    obtain ⟨_, _, hv, -⟩ := id hu1
    simp only [Value.slice.injEq] at hv
    exact hv.2.1.symm
  have hln2 : gi.length = n2 := by
    obtain ⟨_, _, hv, -⟩ := id hu2
    simp only [Value.slice.injEq] at hv
    exact hv.2.1.symm
  obtain ⟨w2, hw2⟩ : ∃ x, (w.alloc (.cells #[.int .i64 kd, .int .i64 nd, .slice a1 n1 c1, .slice a2 n2 c2] 53)).alloc (.cells cs.toArray 56) = x := ⟨_, rfl⟩
  have A2 : Below w.heap.size w w2 := by rw [← hw2]; exact ((Below.refl _ w).alloc (Nat.le_refl _) _).alloc (by simp) _
  have N1 : w2.heap[w.heap.size]? = some (.cells #[.int .i64 kd, .int .i64 nd, .slice a1 n1 c1, .slice a2 n2 c2] 53 (0, 0)) := by
    rw [← hw2, Below.heap_alloc _ _ _ (by simp)]
    exact heap_alloc_new w _
  have N2 : w2.heap[w.heap.size + 1]? = some (.cells cs.toArray 56 (0, 0)) := by
    have := heap_alloc_new (w.alloc (.cells #[.int .i64 kd, .int .i64 nd, .slice a1 n1 c1, .slice a2 n2 c2] 53)) (.cells cs.toArray 56)
    rw [← hw2]
    simpa using this
  have HOP : Hid (Tk.Ops w) := hO
  have HLN : Hid (∀ W, Below w.heap.size w W → Calls Tryd.prog 16 #[] W fun e w' => e = .returned (.bool true) ∧ Hid (Below w.heap.size w w')) := fun W hb => (Tryd.line14_any W (hO.below hb hO.lt)).mono fun e w' h => ⟨h.1, hb.trans (h.2.mono hb.size)⟩
  have H2 : Hid ((w.alloc (.cells #[.int .i64 kd, .int .i64 nd, .slice a1 n1 c1, .slice a2 n2 c2] 53)).alloc (.cells cs.toArray 56) = w2) := hw2
  have HA : Hid (Below w.heap.size w w2) := A2
  obtain ⟨q2, q3⟩ := Ru.box4 N1
  clear hw2
  by_cases hbig : 200 < n1 ∨ 200 < n2
  · obtain h1 | ⟨h1, h2⟩ : decide ((200 : Int) < n1) = true ∨ (decide ((200 : Int) < n1) = false ∧ decide ((200 : Int) < n2) = true) := by simp; omega
    all_goals
      clear hbig N1 N2 hT hu1 hu2 hO A2 hA hcs hln1 hln2
      go_enter Tryd.func6, Tryd.ntmps6
      go_upto_region 1 with fail
      rw [H2.out]
      go_wp2_with fail
      refine Calls.mono (HLN.out w2 HA.out) ?_
      rintro e W2 ⟨rfl, B2⟩
      clear HLN
      go_wp2
      go_ret
      exact ⟨rfl, B2.out⟩
  have h1 : decide ((200 : Int) < n1) = false := decide_eq_false (by omega)
  have h2 : decide ((200 : Int) < n2) = false := decide_eq_false (by omega)
  have hl1 : ne.length ≤ 1000000 := by omega
  have hl2 : gi.length ≤ 1000000 := by omega
  obtain ⟨D, hD⟩ : ∃ D, Ru.doP T ne gi = D := ⟨_, rfl⟩
  have hDF : Ru.Fit D.1 := by rw [← hD]; exact Ru.do_fit hT
  obtain ⟨csd, hcsd⟩ : ∃ cs, (D.1.map fun x => Value.int .i64 x) = cs := ⟨_, rfl⟩
  have hAD : Ru.arr D.1 = csd.toArray := by rw [← hcsd]; rfl
  obtain ⟨D2, hD2⟩ : ∃ z, D.2 = z := ⟨_, rfl⟩
  have CD1 : Hid (Calls Tryd.prog 20 #[.agg #[.int .i64 kd, .int .i64 nd, .slice a1 n1 c1, .slice a2 n2 c2], .agg cs.toArray] w2 fun e w' => e = .returned (.tuple #[.agg csd.toArray, .int .i64 D2]) ∧ Below w2.heap.size w2 w') := by
    have h := Tryd.do_any kd nd T (.slice a1 n1 c1) (.slice a2 n2 c2) ne gi w2 hT (hu1.below A2) (hu2.below A2) hl1 hl2
    rw [hD, hAD, hD2, hA] at h
    exact h
  have hi : (Tryd.prog.info? 56).map (·.size) = some cs.length := by
    have := hT.info
    rw [hA] at this
    simpa using this
  have hid : (Tryd.prog.info? 56).map (·.size) = some csd.length := by
    have := hDF.info
    rw [hAD] at this
    simpa using this
  have hia : (Tryd.prog.info? 56).map (·.size) = some cs.toArray.size := by rw [← hA]; exact hT.info
  have hjd : (Tryd.prog.info? 56).map (·.size) = some csd.toArray.size := by rw [← hAD]; exact hDF.info
  have hjd1 : (#[.int .i64 0, .int .i64 0, .int .i64 0, .int .i64 0, .int .i64 0, .int .i64 0, .int .i64 0, .int .i64 0, .int .i64 0, .int .i64 0, .int .i64 0, .int .i64 0, .int .i64 0, .int .i64 0, .int .i64 0, .int .i64 0, .int .i64 0, .int .i64 0, .int .i64 0, .int .i64 0, .int .i64 0, .int .i64 0, .int .i64 0, .int .i64 0, .int .i64 0, .int .i64 0, .int .i64 0, .int .i64 0, .int .i64 0, .int .i64 0, .int .i64 0, .int .i64 0, .int .i64 0, .int .i64 0, .int .i64 0, .int .i64 0, .int .i64 0, .int .i64 0, .int .i64 0, .int .i64 0] : Array Value).size = csd.toArray.size := by rw [← hAD, Ru.arr_size, hDF.1]; kernel_rfl
  have hjd2 : csd.toArray.all (·.oneCell') = true := by rw [← hAD]; exact Ru.arr_all _
  have hu := Tryd.underlying56
  have huR := Tryd.underlying53
  have hq : ∀ W : World, (binOp BinOp.eql 56 (.agg csd.toArray) (.agg csd.toArray)).run Tryd.prog W = .ok (.bool true) W := fun W => by rw [← hAD]; exact arr_eq D.1 hDF.1 W
  have HC : Hid (Ru.Fit T ∧ Ru.Nums w2 (.slice a1 n1 c1) ne ∧ Ru.Nums w2 (.slice a2 n2 c2) gi ∧ ne.length ≤ 1000000 ∧ gi.length ≤ 1000000 ∧ Ru.arr T = cs.toArray ∧ Ru.arr D.1 = csd.toArray ∧ Ru.doP T ne gi = D ∧ D.2 = D2) := ⟨hT, hu1.below A2, hu2.below A2, hl1, hl2, hA, hAD, hD, hD2⟩
  have HRG : Hid (∀ W b, Ru.Arr W b T → W.rangeAt b 0 cs) := fun W b h => by have := Ru.range_of h; rwa [hcs] at this
  have HRD : Hid (∀ W b, Ru.Arr W b D.1 → W.rangeAt b 0 csd) := fun W b h => by have := Ru.range_of h; rwa [hcsd] at this
  have HN : Hid (w2.heap[w.heap.size]? = some (.cells #[.int .i64 kd, .int .i64 nd, .slice a1 n1 c1, .slice a2 n2 c2] 53 (0, 0)) ∧ Ru.Arr w2 (w.heap.size + 1) T) := ⟨N1, by unfold Ru.Arr; rw [hA]; exact N2⟩
  have HAD : Hid (∀ (W : World) (b : Nat), W.heap[b]? = some (.cells #[.int .i64 0, .int .i64 0, .int .i64 0, .int .i64 0, .int .i64 0, .int .i64 0, .int .i64 0, .int .i64 0, .int .i64 0, .int .i64 0, .int .i64 0, .int .i64 0, .int .i64 0, .int .i64 0, .int .i64 0, .int .i64 0, .int .i64 0, .int .i64 0, .int .i64 0, .int .i64 0, .int .i64 0, .int .i64 0, .int .i64 0, .int .i64 0, .int .i64 0, .int .i64 0, .int .i64 0, .int .i64 0, .int .i64 0, .int .i64 0, .int .i64 0, .int .i64 0, .int .i64 0, .int .i64 0, .int .i64 0, .int .i64 0, .int .i64 0, .int .i64 0, .int .i64 0, .int .i64 0] 56 (0, 0)) → Ru.Arr (W.setRow b csd.toArray) b D.1) := fun W b h => by
    unfold Ru.Arr
    rw [hAD]
    exact setRow_heap _ _ _ _ _ _ h
  clear hbig hT hu1 hu2 hO A2 hA hcs hln1 hln2 hl1 hl2 hD hDF hcsd hAD hD2
  go_enter Tryd.func6, Tryd.ntmps6
  go_upto_region 1 with fail
  rw [H2.out]
  go_upto_region 3 with fail
  go_wp2_with (first | refine wpList_load_row rfl 53 _ rfl _ rfl 53 #[.int .i64 kd, .int .i64 nd, .slice a1 n1 c1, .slice a2 n2 c2] (0, 0) _ N1 huR rfl (by kernel_rfl) ?_ | refine wpList_load_row rfl 56 _ rfl _ rfl 56 cs.toArray (0, 0) _ N2 hu rfl hia ?_ | fail)
  refine Calls.mono CD1.out ?_
  rintro e W3 ⟨rfl, hb3⟩
  clear CD1 H2 q2 q3 N1 N2
  obtain ⟨W4, hW4⟩ : ∃ x, (W3.alloc (.cells #[.int .i64 0, .int .i64 0, .int .i64 0, .int .i64 0, .int .i64 0, .int .i64 0, .int .i64 0, .int .i64 0, .int .i64 0, .int .i64 0, .int .i64 0, .int .i64 0, .int .i64 0, .int .i64 0, .int .i64 0, .int .i64 0, .int .i64 0, .int .i64 0, .int .i64 0, .int .i64 0, .int .i64 0, .int .i64 0, .int .i64 0, .int .i64 0, .int .i64 0, .int .i64 0, .int .i64 0, .int .i64 0, .int .i64 0, .int .i64 0, .int .i64 0, .int .i64 0, .int .i64 0, .int .i64 0, .int .i64 0, .int .i64 0, .int .i64 0, .int .i64 0, .int .i64 0, .int .i64 0] 56)).setRow W3.heap.size csd.toArray = x := ⟨_, rfl⟩
  have N3 := heap_alloc_new W3 (.cells #[.int .i64 0, .int .i64 0, .int .i64 0, .int .i64 0, .int .i64 0, .int .i64 0, .int .i64 0, .int .i64 0, .int .i64 0, .int .i64 0, .int .i64 0, .int .i64 0, .int .i64 0, .int .i64 0, .int .i64 0, .int .i64 0, .int .i64 0, .int .i64 0, .int .i64 0, .int .i64 0, .int .i64 0, .int .i64 0, .int .i64 0, .int .i64 0, .int .i64 0, .int .i64 0, .int .i64 0, .int .i64 0, .int .i64 0, .int .i64 0, .int .i64 0, .int .i64 0, .int .i64 0, .int .i64 0, .int .i64 0, .int .i64 0, .int .i64 0, .int .i64 0, .int .i64 0, .int .i64 0] 56)
  have B24 : Below w2.heap.size w2 W4 := by rw [← hW4]; exact hb3.trans ((Tk.below_row ((Below.refl _ W3).alloc (Nat.le_refl _) _) (Nat.le_refl _) _).mono hb3.size)
  have R4 : Ru.Arr W4 W3.heap.size D.1 := by rw [← hW4]; exact HAD.out _ _ N3
  have H4 : Hid ((W3.alloc (.cells #[.int .i64 0, .int .i64 0, .int .i64 0, .int .i64 0, .int .i64 0, .int .i64 0, .int .i64 0, .int .i64 0, .int .i64 0, .int .i64 0, .int .i64 0, .int .i64 0, .int .i64 0, .int .i64 0, .int .i64 0, .int .i64 0, .int .i64 0, .int .i64 0, .int .i64 0, .int .i64 0, .int .i64 0, .int .i64 0, .int .i64 0, .int .i64 0, .int .i64 0, .int .i64 0, .int .i64 0, .int .i64 0, .int .i64 0, .int .i64 0, .int .i64 0, .int .i64 0, .int .i64 0, .int .i64 0, .int .i64 0, .int .i64 0, .int .i64 0, .int .i64 0, .int .i64 0, .int .i64 0] 56)).setRow W3.heap.size csd.toArray = W4) := hW4
  have HB : Hid (Below w2.heap.size w2 W4 ∧ Ru.Arr W4 W3.heap.size D.1) := ⟨B24, R4⟩
  have HT : Hid (∀ W, Below W4.heap.size W4 W → Below w2.heap.size w2 W) := fun W hb => B24.trans (hb.mono B24.size)
  have CF : Hid (∀ W, Below W4.heap.size W4 W → W.cell? ⟨w.heap.size, 0, none⟩ = some (.int .i64 kd) ∧ W.cell? ⟨w.heap.size, 1, none⟩ = some (.int .i64 nd) ∧ W.cell? ⟨w.heap.size, 2, none⟩ = some (.slice a1 n1 c1) ∧ W.cell? ⟨w.heap.size, 3, none⟩ = some (.slice a2 n2 c2) ∧ W.rangeAt (w.heap.size + 1) 0 cs) := fun W hb => by
    have hbw := HT.out W hb
    have e1 : W.heap[w.heap.size]? = some (.cells #[.int .i64 kd, .int .i64 nd, .slice a1 n1 c1, .slice a2 n2 c2] 53 (0, 0)) := by rw [hbw.block _ (Ru.lt_of HN.out.1)]; exact HN.out.1
    refine ⟨by simp [World.cell?, e1], by simp [World.cell?, e1], by simp [World.cell?, e1], by simp [World.cell?, e1], HRG.out _ _ (HN.out.2.below hbw HN.out.2.lt)⟩
  have CR : Hid (∀ W, Below W4.heap.size W4 W → Calls Tryd.prog 22 #[.agg #[.int .i64 kd, .int .i64 nd, .slice a1 n1 c1, .slice a2 n2 c2]] W fun e w' => e = .returned (.agg #[.int .i64 kd, .int .i64 nd, .slice a1 n1 c1, .slice a2 n2 c2]) ∧ Hid (Below W4.heap.size W4 w') ∧ Hid (∀ (b : Nat) (o : Obj), W.heap[b]? = some o → w'.heap[b]? = some o)) := fun W hb => (Tryd.ref14_any kd nd a1 n1 c1 a2 n2 c2 W).mono fun e w' h => ⟨h.1, hb.trans (h.2.mono hb.size), fun b o ho => by rw [h.2.block b (Ru.lt_of ho)]; exact ho⟩
  have CD : Hid (∀ W, Below W4.heap.size W4 W → Calls Tryd.prog 21 #[.agg #[.int .i64 kd, .int .i64 nd, .slice a1 n1 c1, .slice a2 n2 c2], .agg cs.toArray] W fun e w' => e = .returned (.tuple #[.agg csd.toArray, .int .i64 D2]) ∧ Hid (Below W4.heap.size W4 w') ∧ Hid (∀ (b : Nat) (o : Obj), W.heap[b]? = some o → w'.heap[b]? = some o)) := fun W hb => by
    obtain ⟨f1, f2, f3, f4, f5, f6, f7, f8, f9⟩ := HC.out
    have hbw := HT.out W hb
    have h := Tryd.rdo_any kd nd T (.slice a1 n1 c1) (.slice a2 n2 c2) ne gi W f1 (f2.below hbw) (f3.below hbw) f4 f5
    rw [f8, f7, f9, f6] at h
    exact h.mono fun e w' h => ⟨h.1, hb.trans (h.2.mono hb.size), fun b o ho => by rw [h.2.block b (Ru.lt_of ho)]; exact ho⟩
  have BR : Hid (Below W4.heap.size W4 W4) := Below.refl _ _
  clear hb3 hW4 B24 R4 HN
  go_upto_region 4 with (refine wpList_store_row rfl 56 _ _ rfl W3.heap.size csd.toArray rfl rfl 56 _ N3 hjd hjd1 hjd2 ?_; rw [H4.out])
  go_cut [7, 8] (fun s7 s8 wx => ∃ b : Nat, s7 = .pointer (some ⟨b, 0, none⟩) ∧ s8 = .int .i64 D2 ∧ Hid (Below W4.heap.size W4 wx ∧ W4.heap.size ≤ b ∧ Ru.Arr wx b D.1))
  case first =>
    clear HLN HA HT HRD HB HC N3 H4 HRG
    refine wp_region_held_drew (S := fun W => W.cell? ⟨w.heap.size, 0, none⟩ = some (.int .i64 kd) ∧ W.cell? ⟨w.heap.size, 1, none⟩ = some (.int .i64 nd) ∧ W.cell? ⟨w.heap.size, 2, none⟩ = some (.slice a1 n1 c1) ∧ W.cell? ⟨w.heap.size, 3, none⟩ = some (.slice a2 n2 c2) ∧ W.rangeAt (w.heap.size + 1) 0 cs) (by kernel_rfl) ?_ (fun hHeld => ?_)
    · exact CF.out _ BR.out.drew
    refine Ru.takeS (v := ?va0) 0 27 rfl rfl (by kernel_rfl) (by kernel_rfl) (by kernel_rfl) (fun _ _ _ h => h) (Or.inl ⟨by rfl, ?ya0⟩) hHeld ?ra0
    case ya0 => (intro w hSw; (try dsimp only at hSw); go_simp; all_goals (with_reducible rfl))
    simp only [List.set_cons_succ, List.set_cons_zero]
    refine Ru.takeS 2 29 rfl rfl (by kernel_rfl) (by kernel_rfl) (by kernel_rfl) (fun _ _ _ h => h) (yieldsIf_load_mid (by rfl) _ _ rfl _ _ rfl cs _ (fun _ hw => hw.2.2.2.2) hu rfl hi) hHeld ?_
    simp only [List.set_cons_succ, List.set_cons_zero]
    refine wpAnyH_ready (rs := [1, 7]) (by kernel_rfl) (by simp) ?_
    refine AllReadyH.cons rfl (fun K hK => ?_) (AllReadyH.cons rfl (fun K hK => ?_) AllReadyH.nil)
    · go_simp
      go_at_call 22
      refine Calls.mono (CR.out _ BR.out.drew) ?_
      rintro e W5 ⟨rfl, B5, B5b⟩
      go_wp2_with fail
      refine hK.out _ _ ?_ (fun hA => ?_)
      · exact CF.out _ B5.out
      clear hK K
      first | refine Ru.normS 28 rfl ?_ | skip
      first | (simp only [List.set_cons_succ, List.set_cons_zero]) | skip
      refine wpAnyH_ready (rs := [3, 7]) (by kernel_rfl) (by simp) ?_
      refine AllReadyH.cons rfl (fun K hK => ?_) (AllReadyH.cons rfl (fun K hK => ?_) AllReadyH.nil)
      · go_simp
        go_at_call 21
        refine Calls.mono (CD.out _ B5.out) ?_
        rintro e W6 ⟨rfl, B6, O6⟩
        go_wp2_with fail
        refine hK.out _ _ ?_ (fun hB => ?_)
        · exact CF.out _ B6.out
        clear hK K
        first | refine Ru.normS 30 rfl ?_ | skip
        first | (simp only [List.set_cons_succ, List.set_cons_zero]) | skip
        refine Ru.takeS (v := ?vb4) 4 26 rfl rfl (by kernel_rfl) (by kernel_rfl) (by kernel_rfl) (fun _ _ _ h => h) (Or.inl ⟨by rfl, ?yb4⟩) hB ?rb4
        case yb4 => (intro w hSw; (try dsimp only at hSw); go_simp; all_goals (with_reducible rfl))
        simp only [List.set_cons_succ, List.set_cons_zero]
        refine Ru.takeS (v := ?vb5) 5 31 rfl rfl (by kernel_rfl) (by kernel_rfl) (by kernel_rfl) (fun _ _ _ h => h) (Or.inl ⟨by rfl, ?yb5⟩) hB ?rb5
        case yb5 => (intro w hSw; (try dsimp only at hSw); go_simp; all_goals (with_reducible rfl))
        simp only [List.set_cons_succ, List.set_cons_zero]
        refine Ru.takeS (v := ?vb6) 6 32 rfl rfl (by kernel_rfl) (by kernel_rfl) (by kernel_rfl) (fun _ _ _ h => h) (Or.inl ⟨by rfl, ?yb6⟩) hB ?rb6
        case yb6 => (intro w hSw; (try dsimp only at hSw); go_simp; all_goals (with_reducible rfl))
        simp only [List.set_cons_succ, List.set_cons_zero]
        refine wpAnyH_ready (rs := [7]) (by kernel_rfl) (by simp) ?_
        refine AllReadyH.cons rfl (fun K hK => ?_) AllReadyH.nil
        go_simp
        refine hK.out _ _ ?_ (fun hC => ?_)
        · exact CF.out _ (Nt.al B6.out _)
        clear hK K
        first | refine Ru.normS 7 rfl ?_ | skip
        first | (simp only [List.set_cons_succ, List.set_cons_zero]) | skip
        refine wpAnyH_ready (rs := [8]) (by kernel_rfl) (by simp) ?_
        refine AllReadyH.cons rfl (fun K hK => ?_) AllReadyH.nil
        refine Ru.step_row rfl 56 (.tmp 7) (.tmp 31) rfl W6.heap.size csd.toArray rfl rfl 56 _ (heap_alloc_new W6 _) hjd hjd1 hjd2 ?_
        refine hK.out _ _ ?_ (fun hE => ?_)
        · exact CF.out _ (Nt.sr (Nt.al B6.out _) _ _ B6.out.size)
        clear hK K
        skip
        refine Ru.takeS (v := ?vb9) 9 8 rfl rfl (by kernel_rfl) (by kernel_rfl) (by kernel_rfl) (fun _ _ _ h => h) (Or.inl ⟨by rfl, ?yb9⟩) hE ?rb9
        case yb9 => (intro w hSw; (try dsimp only at hSw); go_simp; all_goals (with_reducible rfl))
        simp only [List.set_cons_succ, List.set_cons_zero]
        refine wpAnyH_done (by kernel_rfl) ?_ _
        go_wp2_with fail
        go_meet
        exact ⟨W6.heap.size, rfl, rfl, Nt.sr (Nt.al B6.out _) _ _ B6.out.size, B6.out.size, HAD.out _ _ (heap_alloc_new W6 _)⟩
      · go_simp
        refine hK.out _ _ ?_ (fun hB => ?_)
        · exact CF.out _ (Nt.al B5.out _)
        clear hK K
        first | refine Ru.normS 7 rfl ?_ | skip
        first | (simp only [List.set_cons_succ, List.set_cons_zero]) | skip
        refine wpAnyH_ready (rs := [3]) (by kernel_rfl) (by simp) ?_
        refine AllReadyH.cons rfl (fun K hK => ?_) AllReadyH.nil
        go_simp
        go_at_call 21
        refine Calls.mono (CD.out _ (Nt.al B5.out _)) ?_
        rintro e W6 ⟨rfl, B6, O6⟩
        go_wp2_with fail
        refine hK.out _ _ ?_ (fun hC => ?_)
        · exact CF.out _ B6.out
        clear hK K
        first | refine Ru.normS 30 rfl ?_ | skip
        first | (simp only [List.set_cons_succ, List.set_cons_zero]) | skip
        refine Ru.takeS (v := ?vc4) 4 26 rfl rfl (by kernel_rfl) (by kernel_rfl) (by kernel_rfl) (fun _ _ _ h => h) (Or.inl ⟨by rfl, ?yc4⟩) hC ?rc4
        case yc4 => (intro w hSw; (try dsimp only at hSw); go_simp; all_goals (with_reducible rfl))
        simp only [List.set_cons_succ, List.set_cons_zero]
        refine Ru.takeS (v := ?vc5) 5 31 rfl rfl (by kernel_rfl) (by kernel_rfl) (by kernel_rfl) (fun _ _ _ h => h) (Or.inl ⟨by rfl, ?yc5⟩) hC ?rc5
        case yc5 => (intro w hSw; (try dsimp only at hSw); go_simp; all_goals (with_reducible rfl))
        simp only [List.set_cons_succ, List.set_cons_zero]
        refine Ru.takeS (v := ?vc6) 6 32 rfl rfl (by kernel_rfl) (by kernel_rfl) (by kernel_rfl) (fun _ _ _ h => h) (Or.inl ⟨by rfl, ?yc6⟩) hC ?rc6
        case yc6 => (intro w hSw; (try dsimp only at hSw); go_simp; all_goals (with_reducible rfl))
        simp only [List.set_cons_succ, List.set_cons_zero]
        refine wpAnyH_ready (rs := [8]) (by kernel_rfl) (by simp) ?_
        refine AllReadyH.cons rfl (fun K hK => ?_) AllReadyH.nil
        refine Ru.step_row rfl 56 (.tmp 7) (.tmp 31) rfl W5.heap.size csd.toArray rfl rfl 56 _ (O6.out _ _ (heap_alloc_new W5 _)) hjd hjd1 hjd2 ?_
        refine hK.out _ _ ?_ (fun hE => ?_)
        · exact CF.out _ (Nt.sr B6.out _ _ B5.out.size)
        clear hK K
        skip
        refine Ru.takeS (v := ?vc9) 9 8 rfl rfl (by kernel_rfl) (by kernel_rfl) (by kernel_rfl) (fun _ _ _ h => h) (Or.inl ⟨by rfl, ?yc9⟩) hE ?rc9
        case yc9 => (intro w hSw; (try dsimp only at hSw); go_simp; all_goals (with_reducible rfl))
        simp only [List.set_cons_succ, List.set_cons_zero]
        refine wpAnyH_done (by kernel_rfl) ?_ _
        go_wp2_with fail
        go_meet
        exact ⟨W5.heap.size, rfl, rfl, Nt.sr B6.out _ _ B5.out.size, B5.out.size, HAD.out _ _ (O6.out _ _ (heap_alloc_new W5 _))⟩
    · go_simp
      refine hK.out _ _ ?_ (fun hA => ?_)
      · exact CF.out _ (Nt.al BR.out.drew _)
      clear hK K
      first | refine Ru.normS 7 rfl ?_ | skip
      first | (simp only [List.set_cons_succ, List.set_cons_zero]) | skip
      refine wpAnyH_ready (rs := [1]) (by kernel_rfl) (by simp) ?_
      refine AllReadyH.cons rfl (fun K hK => ?_) AllReadyH.nil
      go_simp
      go_at_call 22
      refine Calls.mono (CR.out _ (Nt.al BR.out.drew _)) ?_
      rintro e W5 ⟨rfl, B5, B5b⟩
      go_wp2_with fail
      refine hK.out _ _ ?_ (fun hB => ?_)
      · exact CF.out _ B5.out
      clear hK K
      first | refine Ru.normS 28 rfl ?_ | skip
      first | (simp only [List.set_cons_succ, List.set_cons_zero]) | skip
      refine wpAnyH_ready (rs := [3]) (by kernel_rfl) (by simp) ?_
      refine AllReadyH.cons rfl (fun K hK => ?_) AllReadyH.nil
      go_simp
      go_at_call 21
      refine Calls.mono (CD.out _ B5.out) ?_
      rintro e W6 ⟨rfl, B6, O6⟩
      go_wp2_with fail
      refine hK.out _ _ ?_ (fun hC => ?_)
      · exact CF.out _ B6.out
      clear hK K
      first | refine Ru.normS 30 rfl ?_ | skip
      first | (simp only [List.set_cons_succ, List.set_cons_zero]) | skip
      refine Ru.takeS (v := ?vd4) 4 26 rfl rfl (by kernel_rfl) (by kernel_rfl) (by kernel_rfl) (fun _ _ _ h => h) (Or.inl ⟨by rfl, ?yd4⟩) hC ?rd4
      case yd4 => (intro w hSw; (try dsimp only at hSw); go_simp; all_goals (with_reducible rfl))
      simp only [List.set_cons_succ, List.set_cons_zero]
      refine Ru.takeS (v := ?vd5) 5 31 rfl rfl (by kernel_rfl) (by kernel_rfl) (by kernel_rfl) (fun _ _ _ h => h) (Or.inl ⟨by rfl, ?yd5⟩) hC ?rd5
      case yd5 => (intro w hSw; (try dsimp only at hSw); go_simp; all_goals (with_reducible rfl))
      simp only [List.set_cons_succ, List.set_cons_zero]
      refine Ru.takeS (v := ?vd6) 6 32 rfl rfl (by kernel_rfl) (by kernel_rfl) (by kernel_rfl) (fun _ _ _ h => h) (Or.inl ⟨by rfl, ?yd6⟩) hC ?rd6
      case yd6 => (intro w hSw; (try dsimp only at hSw); go_simp; all_goals (with_reducible rfl))
      simp only [List.set_cons_succ, List.set_cons_zero]
      refine wpAnyH_ready (rs := [8]) (by kernel_rfl) (by simp) ?_
      refine AllReadyH.cons rfl (fun K hK => ?_) AllReadyH.nil
      refine Ru.step_row rfl 56 (.tmp 7) (.tmp 31) rfl W4.heap.size csd.toArray rfl rfl 56 _ (O6.out _ _ (B5b.out _ _ (heap_alloc_new W4.drew _))) hjd hjd1 hjd2 ?_
      refine hK.out _ _ ?_ (fun hE => ?_)
      · exact CF.out _ (Nt.sr B6.out _ _ (Nat.le_refl _))
      clear hK K
      skip
      refine Ru.takeS (v := ?vd9) 9 8 rfl rfl (by kernel_rfl) (by kernel_rfl) (by kernel_rfl) (fun _ _ _ h => h) (Or.inl ⟨by rfl, ?yd9⟩) hE ?rd9
      case yd9 => (intro w hSw; (try dsimp only at hSw); go_simp; all_goals (with_reducible rfl))
      simp only [List.set_cons_succ, List.set_cons_zero]
      refine wpAnyH_done (by kernel_rfl) ?_ _
      go_wp2_with fail
      go_meet
      exact ⟨W4.heap.size, rfl, rfl, Nt.sr B6.out _ _ (Nat.le_refl _), Nat.le_refl _, HAD.out _ _ (O6.out _ _ (B5b.out _ _ (heap_alloc_new W4.drew _)))⟩
  case rest =>
  rename World => wc
  obtain ⟨b7, rfl, rfl, HG⟩ := hcut
  have HT2 : Hid (∀ W, Below wc.heap.size wc W → Below W4.heap.size W4 W) := fun W hb => HG.out.1.trans (hb.mono HG.out.1.size)
  have CG : Hid (∀ W, Below wc.heap.size wc W → W.cell? ⟨w.heap.size, 0, none⟩ = some (.int .i64 kd) ∧ W.cell? ⟨w.heap.size, 1, none⟩ = some (.int .i64 nd) ∧ W.cell? ⟨w.heap.size, 2, none⟩ = some (.slice a1 n1 c1) ∧ W.cell? ⟨w.heap.size, 3, none⟩ = some (.slice a2 n2 c2) ∧ W.rangeAt (w.heap.size + 1) 0 cs ∧ W.rangeAt W3.heap.size 0 csd ∧ W.rangeAt b7 0 csd) := fun W hb => by
    have hbw := HT2.out W hb
    obtain ⟨e0, e1, e2, e3, e4⟩ := CF.out W hbw
    refine ⟨e0, e1, e2, e3, e4, HRD.out _ _ ?_, HRD.out _ _ (HG.out.2.2.below hb HG.out.2.2.lt)⟩
    exact HB.out.2.below hbw HB.out.2.lt
  obtain ⟨r, hr⟩ : ∃ r, (Ru.without T ne).isSome = r := ⟨_, rfl⟩
  have CC : Hid (∀ W, Below wc.heap.size wc W → Calls Tryd.prog 23 #[.agg #[.int .i64 kd, .int .i64 nd, .slice a1 n1 c1, .slice a2 n2 c2], .agg cs.toArray] W fun e w' => e = .returned (.bool r) ∧ Hid (Below wc.heap.size wc w')) := fun W hb => by
    obtain ⟨f1, f2, f3, f4, f5, f6, f7, f8, f9⟩ := HC.out
    have hbw := HT.out W (HT2.out W hb)
    have h := Tryd.can_any kd nd T (.slice a1 n1 c1) a2 n2 c2 ne W f1 (f2.below hbw) f4
    rw [hr, f6] at h
    exact h.mono fun e w' h => ⟨h.1, hb.trans (h.2.mono hb.size)⟩
  have CR2 : Hid (∀ W, Below wc.heap.size wc W → Calls Tryd.prog 22 #[.agg #[.int .i64 kd, .int .i64 nd, .slice a1 n1 c1, .slice a2 n2 c2]] W fun e w' => e = .returned (.agg #[.int .i64 kd, .int .i64 nd, .slice a1 n1 c1, .slice a2 n2 c2]) ∧ Hid (Below wc.heap.size wc w')) := fun W hb => (Tryd.ref14_any kd nd a1 n1 c1 a2 n2 c2 W).mono fun e w' h => ⟨h.1, hb.trans (h.2.mono hb.size)⟩
  have CC2 : Hid (∀ W, Below wc.heap.size wc W → Calls Tryd.prog 24 #[.agg #[.int .i64 kd, .int .i64 nd, .slice a1 n1 c1, .slice a2 n2 c2], .agg cs.toArray] W fun e w' => e = .returned (.bool r) ∧ Hid (Below wc.heap.size wc w')) := fun W hb => by
    obtain ⟨f1, f2, f3, f4, f5, f6, f7, f8, f9⟩ := HC.out
    have hbw := HT.out W (HT2.out W hb)
    have h := Tryd.rcan_any kd nd T (.slice a1 n1 c1) a2 n2 c2 ne W f1 (f2.below hbw) f4
    rw [hr, f6] at h
    exact h.mono fun e w' h => ⟨h.1, hb.trans (h.2.mono hb.size)⟩
  have HW : Hid (∀ W, Below wc.heap.size wc W → Below w.heap.size w W) := fun W hb => HA.out.trans ((HT.out W (HT2.out W hb)).mono HA.out.size)
  have CL : Hid (∀ W, Below wc.heap.size wc W → Calls Tryd.prog 16 #[] W fun e w' => e = .returned (.bool true) ∧ Hid (Below wc.heap.size wc w')) := fun W hb => (Tryd.line14_any W ((HOP.out.below (HW.out W hb) HOP.out.lt))).mono fun e w' h => ⟨h.1, hb.trans (h.2.mono hb.size)⟩
  have BC : Hid (Below wc.heap.size wc wc) := Below.refl _ _
  have hdd : (D2 == D2) = true := by simp
  have hrr : (r == r) = true := by simp
  clear HLN HT HRG HRD HB HC N3 H4 CF CR CD BR HT2 hr HAD HG
  go_upto_region 5 with fail
  refine wp_region_held_drew (S := fun W => W.cell? ⟨w.heap.size, 0, none⟩ = some (.int .i64 kd) ∧ W.cell? ⟨w.heap.size, 1, none⟩ = some (.int .i64 nd) ∧ W.cell? ⟨w.heap.size, 2, none⟩ = some (.slice a1 n1 c1) ∧ W.cell? ⟨w.heap.size, 3, none⟩ = some (.slice a2 n2 c2) ∧ W.rangeAt (w.heap.size + 1) 0 cs ∧ W.rangeAt W3.heap.size 0 csd ∧ W.rangeAt b7 0 csd) (by kernel_rfl) ?_ (fun hH => ?_)
  · exact CG.out _ BC.out.drew
  refine Ru.takeS 0 33 rfl rfl (by kernel_rfl) (by kernel_rfl) (by kernel_rfl) (fun _ _ _ h => h) (yieldsIf_load_mid (by rfl) _ _ rfl _ _ rfl csd _ (fun _ hw => hw.2.2.2.2.2.1) hu rfl hid) hH ?_
  simp only [List.set_cons_succ, List.set_cons_zero]
  refine Ru.takeS 1 34 rfl rfl (by kernel_rfl) (by kernel_rfl) (by kernel_rfl) (fun _ _ _ h => h) (yieldsIf_load_mid (by rfl) _ _ rfl _ _ rfl csd _ (fun _ hw => hw.2.2.2.2.2.2) hu rfl hid) hH ?_
  simp only [List.set_cons_succ, List.set_cons_zero]
  refine Ru.takeS (v := ?ve2) 2 35 rfl rfl (by kernel_rfl) (by kernel_rfl) (by kernel_rfl) (fun _ _ _ h => h) (Or.inl ⟨by rfl, ?ye2⟩) hH ?re2
  case ye2 => (intro w hSw; (try dsimp only at hSw); go_simp; all_goals (with_reducible rfl))
  simp only [List.set_cons_succ, List.set_cons_zero]
  refine Ru.takeS (v := ?ve3) 3 36 rfl rfl (by kernel_rfl) (by kernel_rfl) (by kernel_rfl) (fun _ _ _ h => h) (Or.inl ⟨by rfl, ?ye3⟩) hH ?re3
  case ye3 => (intro w hSw; (try dsimp only at hSw); go_simp; all_goals (with_reducible rfl))
  simp only [List.set_cons_succ, List.set_cons_zero]
  refine Ru.takeS (v := ?ve4) 4 37 rfl rfl (by kernel_rfl) (by kernel_rfl) (by kernel_rfl) (fun _ _ _ h => h) (Or.inl ⟨by rfl, ?ye4⟩) hH ?re4
  case ye4 => (intro w hSw; (try dsimp only at hSw); go_simp; all_goals (with_reducible rfl))
  simp only [List.set_cons_succ, List.set_cons_zero]
  refine Ru.takeS (v := ?ve5) 5 38 rfl rfl (by kernel_rfl) (by kernel_rfl) (by kernel_rfl) (fun _ _ _ h => h) (Or.inl ⟨by rfl, ?ye5⟩) hH ?re5
  case ye5 => (intro w hSw; (try dsimp only at hSw); go_simp; all_goals (with_reducible rfl))
  simp only [List.set_cons_succ, List.set_cons_zero]
  refine Ru.takeS (v := ?ve6) 6 39 rfl rfl (by kernel_rfl) (by kernel_rfl) (by kernel_rfl) (fun _ _ _ h => h) (Or.inl ⟨by rfl, ?ye6⟩) hH ?re6
  case ye6 => (intro w hSw; (try dsimp only at hSw); go_simp; all_goals (with_reducible rfl))
  simp only [List.set_cons_succ, List.set_cons_zero]
  refine Ru.takeS (v := ?ve7) 7 40 rfl rfl (by kernel_rfl) (by kernel_rfl) (by kernel_rfl) (fun _ _ _ h => h) (Or.inl ⟨by rfl, ?ye7⟩) hH ?re7
  case ye7 => (intro w hSw; (try dsimp only at hSw); go_simp; all_goals (with_reducible rfl))
  simp only [List.set_cons_succ, List.set_cons_zero]
  refine Ru.takeS (v := ?ve8) 8 41 rfl rfl (by kernel_rfl) (by kernel_rfl) (by kernel_rfl) (fun _ _ _ h => h) (Or.inl ⟨by rfl, ?ye8⟩) hH ?re8
  case ye8 => (intro w hSw; (try dsimp only at hSw); go_simp; all_goals (with_reducible rfl))
  simp only [List.set_cons_succ, List.set_cons_zero]
  refine Ru.takeS (v := ?ve9) 9 42 rfl rfl (by kernel_rfl) (by kernel_rfl) (by kernel_rfl) (fun _ _ _ h => h) (Or.inl ⟨by rfl, ?ye9⟩) hH ?re9
  case ye9 => (intro w hSw; (try dsimp only at hSw); go_simp; all_goals (with_reducible rfl))
  simp only [List.set_cons_succ, List.set_cons_zero]
  refine Ru.takeS 10 43 rfl rfl (by kernel_rfl) (by kernel_rfl) (by kernel_rfl) (fun _ _ _ h => h) (yieldsIf_load_mid (by rfl) _ _ rfl _ _ rfl cs _ (fun _ hw => hw.2.2.2.2.1) hu rfl hi) hH ?_
  simp only [List.set_cons_succ, List.set_cons_zero]
  refine Ru.takeS (v := ?ve12) 12 45 rfl rfl (by kernel_rfl) (by kernel_rfl) (by kernel_rfl) (fun _ _ _ h => h) (Or.inl ⟨by rfl, ?ye12⟩) hH ?re12
  case ye12 => (intro w hSw; (try dsimp only at hSw); go_simp; all_goals (with_reducible rfl))
  simp only [List.set_cons_succ, List.set_cons_zero]
  refine Ru.takeS 14 47 rfl rfl (by kernel_rfl) (by kernel_rfl) (by kernel_rfl) (fun _ _ _ h => h) (yieldsIf_load_mid (by rfl) _ _ rfl _ _ rfl cs _ (fun _ hw => hw.2.2.2.2.1) hu rfl hi) hH ?_
  simp only [List.set_cons_succ, List.set_cons_zero]
  refine wpAnyH_ready (rs := [11]) (by kernel_rfl) (by simp) ?_
  refine AllReadyH.cons rfl (fun K hK => ?_) AllReadyH.nil
  go_simp
  go_at_call 23
  refine Calls.mono (CC.out _ BC.out.drew) ?_
  rintro e X1 ⟨rfl, Y1⟩
  go_wp2_with fail
  refine hK.out _ _ ?_ (fun hH11 => ?_)
  · exact CG.out _ Y1.out
  clear hK K
  first | refine Ru.normS 44 rfl ?_ | skip
  first | (simp only [List.set_cons_succ, List.set_cons_zero]) | skip
  refine wpAnyH_ready (rs := [13]) (by kernel_rfl) (by simp) ?_
  refine AllReadyH.cons rfl (fun K hK => ?_) AllReadyH.nil
  go_simp
  go_at_call 22
  refine Calls.mono (CR2.out _ Y1.out) ?_
  rintro e X2 ⟨rfl, Y2⟩
  go_wp2_with fail
  refine hK.out _ _ ?_ (fun hH13 => ?_)
  · exact CG.out _ Y2.out
  clear hK K
  first | refine Ru.normS 46 rfl ?_ | skip
  first | (simp only [List.set_cons_succ, List.set_cons_zero]) | skip
  refine wpAnyH_ready (rs := [15]) (by kernel_rfl) (by simp) ?_
  refine AllReadyH.cons rfl (fun K hK => ?_) AllReadyH.nil
  go_simp
  go_at_call 24
  refine Calls.mono (CC2.out _ Y2.out) ?_
  rintro e X3 ⟨rfl, Y3⟩
  go_wp2_with fail
  refine hK.out _ _ ?_ (fun hH15 => ?_)
  · exact CG.out _ Y3.out
  clear hK K
  first | refine Ru.normS 48 rfl ?_ | skip
  first | (simp only [List.set_cons_succ, List.set_cons_zero]) | skip
  refine Ru.takeS (v := ?ve16) 16 49 rfl rfl (by kernel_rfl) (by kernel_rfl) (by kernel_rfl) (fun _ _ _ h => h) (Or.inl ⟨by rfl, ?ye16⟩) hH15 ?re16
  case ye16 => (intro w hSw; (try dsimp only at hSw); go_simp; all_goals (with_reducible rfl))
  simp only [List.set_cons_succ, List.set_cons_zero]
  refine Ru.takeS (v := ?ve17) 17 50 rfl rfl (by kernel_rfl) (by kernel_rfl) (by kernel_rfl) (fun _ _ _ h => h) (Or.inl ⟨by rfl, ?ye17⟩) hH15 ?re17
  case ye17 => (intro w hSw; (try dsimp only at hSw); go_simp; all_goals (with_reducible rfl))
  simp only [List.set_cons_succ, List.set_cons_zero]
  refine Ru.takeS (v := ?ve18) 18 51 rfl rfl (by kernel_rfl) (by kernel_rfl) (by kernel_rfl) (fun _ _ _ h => h) (Or.inl ⟨by rfl, ?ye18⟩) hH15 ?re18
  case ye18 => (intro w hSw; (try dsimp only at hSw); go_simp; all_goals (with_reducible rfl))
  simp only [List.set_cons_succ, List.set_cons_zero]
  refine wpAnyH_ready (rs := [19]) (by kernel_rfl) (by simp) ?_
  refine AllReadyH.cons rfl (fun K hK => ?_) AllReadyH.nil
  go_simp
  go_at_call 16
  refine Calls.mono (CL.out _ Y3.out) ?_
  rintro e X4 ⟨rfl, Y4⟩
  go_wp2_with fail
  refine hK.out _ _ ?_ (fun hH19 => ?_)
  · exact CG.out _ Y4.out
  clear hK K
  first | refine Ru.normS 52 rfl ?_ | skip
  first | (simp only [List.set_cons_succ, List.set_cons_zero]) | skip
  refine Ru.takeS (v := ?ve20) 20 53 rfl rfl (by kernel_rfl) (by kernel_rfl) (by kernel_rfl) (fun _ _ _ h => h) (Or.inl ⟨by rfl, ?ye20⟩) hH19 ?re20
  case ye20 => (intro w hSw; (try dsimp only at hSw); go_simp; all_goals (with_reducible rfl))
  simp only [List.set_cons_succ, List.set_cons_zero]
  refine Ru.takeS (v := ?ve21) 21 4 rfl rfl (by kernel_rfl) (by kernel_rfl) (by kernel_rfl) (fun _ _ _ h => h) (Or.inl ⟨by rfl, ?ye21⟩) hH19 ?re21
  case ye21 => (intro w hSw; (try dsimp only at hSw); go_simp; all_goals (with_reducible rfl))
  simp only [List.set_cons_succ, List.set_cons_zero]
  refine wpAnyH_done (by kernel_rfl) ?_ _
  go_wp2
  go_ret
  exact ⟨rfl, HW.out _ Y4.out⟩

end YtiedlccnlkhnkaaDoor.RuleDoes
end Go.Proofs
