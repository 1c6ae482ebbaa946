/-
  Proved here: of every web and all picks that can be arguments, whatever is finished and chosen, the web comes to a state in which no kid runs, none waits, and no link is open, in as many steps as it has kids at most, and what is settled stays so, as the statement asks, and the statement's example holds (DeadEnds, promises 19.3 and 19.4), whatever memory the call begins in; no condition beyond the row's own.
-/
import Derived.Test.YtdghjgiakblfmaaGreatDoorRows
import Derived.OpenShut
import Derived.Test.YtdghjgiakblfmaaGreatDoorRWalkDeadEnds
import Derived.Test.YtdghjgiakblfmaaGreatDoorCards
import Derived.Test.YtdghjgiakblfmaaGreatDoorTie
import Derived.Deep.DeepHandedRow
namespace Go.Proofs.YtdghjgiakblfmaaGreatDoor
open Go.ChangeShapes Go.WideShapes Go.ChangeAt Go.RowKit
theorem gOps : Tryz.prog.globalNamed "treenail/term.operators" = some 0 := by kernel_rfl
theorem gOpsType : (Tryz.prog.globals[0]?).map (·.type) = some 158 := by kernel_rfl
theorem cellsOps : Tryz.prog.cellsOf 158 = 75 := by kernel_rfl
theorem cellsOp : Tryz.prog.cellsOf 157 = 5 := by kernel_rfl
theorem cellsInt' : Tryz.prog.cellsOf 3 = 1 := by kernel_rfl
theorem cellsString' : Tryz.prog.cellsOf 9 = 1 := by kernel_rfl
theorem list5' {α : Type} {l : List α} (h : l.length = 5) : ∃ a b c d e, l = [a, b, c, d, e] := by
 match l, h with
 | [a, b, c, d, e], _ => exact ⟨a, b, c, d, e, rfl⟩
theorem op_one {H : Type} {enc : TypeId × Value → H} {W : World} {base : Nat} {sp : Nat → Bool} {held : Bool} {fuel : Nat} {cs : List Value} {x : DataW H × List MemPlace} {t : List UInt8} {n1 n2 n3 n4 : Int}
  (h : DataW.trod enc Tryz.prog W base sp held fuel 157 cs = some x) (hx : x.1 = .agg [.lit (.string t), .lit (.int .i64 n1), .lit (.int .i64 n2), .lit (.int .i64 n3), .lit (.int .i64 n4)]) :
  cs = [.string ⟨t.toArray⟩, .int .i64 n1, .int .i64 n2, .int .i64 n3, .int .i64 n4] := by
 obtain ⟨ys, n, _, hx', hl, hy, hf⟩ := DataW.trod_struct Tryz.underlying157 h
 rw [cellsOp] at hl
 have hy : ys.length = 5 := hy
 obtain ⟨c0, c1, c2, c3, c4, rfl⟩ := list5' hl
 obtain ⟨y0, y1, y2, y3, y4, rfl⟩ := list5' hy
 have g0 : DataW.trod enc Tryz.prog W base sp held n 9 (([c0, c1, c2, c3, c4].drop 0).take (Tryz.prog.cellsOf 9)) = [y0, y1, y2, y3, y4][0]? := hf 0 _ rfl
 have g1 : DataW.trod enc Tryz.prog W base sp held n 3 (([c0, c1, c2, c3, c4].drop 1).take (Tryz.prog.cellsOf 3)) = [y0, y1, y2, y3, y4][1]? := hf 1 _ rfl
 have g2 : DataW.trod enc Tryz.prog W base sp held n 3 (([c0, c1, c2, c3, c4].drop 2).take (Tryz.prog.cellsOf 3)) = [y0, y1, y2, y3, y4][2]? := hf 2 _ rfl
 have g3 : DataW.trod enc Tryz.prog W base sp held n 3 (([c0, c1, c2, c3, c4].drop 3).take (Tryz.prog.cellsOf 3)) = [y0, y1, y2, y3, y4][3]? := hf 3 _ rfl
 have g4 : DataW.trod enc Tryz.prog W base sp held n 3 (([c0, c1, c2, c3, c4].drop 4).take (Tryz.prog.cellsOf 3)) = [y0, y1, y2, y3, y4][4]? := hf 4 _ rfl
 rw [cellsString'] at g0
 rw [cellsInt'] at g1 g2 g3 g4
 obtain ⟨s, e0, d0, _⟩ := DataW.trod_string Tryz.underlying9 g0
 obtain ⟨m1, e1, d1, _⟩ := DataW.trod_int Tryz.underlying3 g1
 obtain ⟨m2, e2, d2, _⟩ := DataW.trod_int Tryz.underlying3 g2
 obtain ⟨m3, e3, d3, _⟩ := DataW.trod_int Tryz.underlying3 g3
 obtain ⟨m4, e4, d4, _⟩ := DataW.trod_int Tryz.underlying3 g4
 obtain rfl : c0 = .string s := (List.cons.inj e0).1
 obtain rfl : c1 = .int .i64 m1 := (List.cons.inj e1).1
 obtain rfl : c2 = .int .i64 m2 := (List.cons.inj e2).1
 obtain rfl : c3 = .int .i64 m3 := (List.cons.inj e3).1
 obtain rfl : c4 = .int .i64 m4 := (List.cons.inj e4).1
 rw [hx'] at hx
 rw [d0, d1, d2, d3, d4] at hx
 simp only [List.map_cons, List.map_nil, DataW.agg.injEq, List.cons.injEq, DataW.lit.injEq, Lit.int.injEq, Lit.string.injEq, and_true, true_and] at hx
 obtain ⟨rfl, rfl, rfl, rfl, rfl⟩ := hx
 rfl
theorem ops_of_laid {W : World} (h : laidMet Tryz.prog [("treenail/term.operators", Rows.laid_treenail_term_operators)] W) : Tk.Ops W := by
 obtain ⟨ps, ⟨g', t', cs, fuel, p, q, hg', ht', hvar, hd, _, _⟩, _⟩ := h
 obtain rfl := Option.some.inj (gOps.symm.trans hg')
 obtain rfl := Option.some.inj (gOpsType.symm.trans ht')
 obtain ⟨xs, m, rfl, hx, hl, hxl, hf⟩ := DataW.trod_array Tryz.underlying158 hd
 rw [cellsOps] at hl
 simp only [cellsOp] at hf
 have hx1 := congrArg Prod.fst hx
 have hlen : xs.length = 15 := hxl
 simp only [Rows.laid_treenail_term_operators, DataW.agg.injEq] at hx1
 have row : ∀ (i : Nat) (t : List UInt8) (n1 n2 n3 n4 : Int), i < 15 → (xs.map (·.1))[i]? = some (.agg [.lit (.string t), .lit (.int .i64 n1), .lit (.int .i64 n2), .lit (.int .i64 n3), .lit (.int .i64 n4)]) →
   (cs.toList.drop (i * 5)).take 5 = [.string ⟨t.toArray⟩, .int .i64 n1, .int .i64 n2, .int .i64 n3, .int .i64 n4] := by
  intro i t n1 n2 n3 n4 hi hL
  obtain ⟨x, hxi⟩ : ∃ x, xs[i]? = some x := ⟨xs[i]'(by omega), List.getElem?_eq_getElem (by omega)⟩
  rw [List.getElem?_map, hxi] at hL
  exact op_one (x := x) ((hf i hi).trans hxi) (by simpa using hL)
 have step : ∀ n, cs.toList.drop n = (cs.toList.drop n).take 5 ++ cs.toList.drop (n + 5) := fun n => by
  have := (List.take_append_drop 5 (cs.toList.drop n)).symm
  rw [List.drop_drop] at this
  exact this
 have r0 := row 0 [] 0 0 0 0 (by decide) (by rw [← hx1]; rfl)
 have r1 := row 1 [] 0 0 1099511627776 1 (by decide) (by rw [← hx1]; rfl)
 have r2 := row 2 [36] 0 0 3 1 (by decide) (by rw [← hx1]; rfl)
 have r3 := row 3 [110, 101, 103] 1 1 0 1 (by decide) (by rw [← hx1]; rfl)
 have r4 := row 4 [110, 111, 116] 1 2 0 2 (by decide) (by rw [← hx1]; rfl)
 have r5 := row 5 [97, 100, 100] 2 1 0 1 (by decide) (by rw [← hx1]; rfl)
 have r6 := row 6 [115, 117, 98] 2 1 0 1 (by decide) (by rw [← hx1]; rfl)
 have r7 := row 7 [109, 117, 108] 2 1 0 1 (by decide) (by rw [← hx1]; rfl)
 have r8 := row 8 [100, 105, 118] 2 1 0 1 (by decide) (by rw [← hx1]; rfl)
 have r9 := row 9 [109, 111, 100] 2 1 0 1 (by decide) (by rw [← hx1]; rfl)
 have r10 := row 10 [101, 113] 2 1 0 2 (by decide) (by rw [← hx1]; rfl)
 have r11 := row 11 [108, 116] 2 1 0 2 (by decide) (by rw [← hx1]; rfl)
 have r12 := row 12 [108, 101] 2 1 0 2 (by decide) (by rw [← hx1]; rfl)
 have r13 := row 13 [97, 110, 100] 2 2 0 2 (by decide) (by rw [← hx1]; rfl)
 have r14 := row 14 [111, 114] 2 2 0 2 (by decide) (by rw [← hx1]; rfl)
 have hca : cs = Tk.opVals := by
  apply Array.toList_inj.1
  have h0 : cs.toList = cs.toList.drop 0 := rfl
  have h75 : cs.toList.drop 75 = [] := List.drop_eq_nil_iff.2 (by omega)
  rw [h0, step 0, step 5, step 10, step 15, step 20, step 25, step 30, step 35, step 40, step 45, step 50, step 55, step 60, step 65, step 70, h75]
  have q0 : (cs.toList.drop 0).take 5 = _ := r0
  have q1 : (cs.toList.drop 5).take 5 = _ := r1
  have q2 : (cs.toList.drop 10).take 5 = _ := r2
  have q3 : (cs.toList.drop 15).take 5 = _ := r3
  have q4 : (cs.toList.drop 20).take 5 = _ := r4
  have q5 : (cs.toList.drop 25).take 5 = _ := r5
  have q6 : (cs.toList.drop 30).take 5 = _ := r6
  have q7 : (cs.toList.drop 35).take 5 = _ := r7
  have q8 : (cs.toList.drop 40).take 5 = _ := r8
  have q9 : (cs.toList.drop 45).take 5 = _ := r9
  have q10 : (cs.toList.drop 50).take 5 = _ := r10
  have q11 : (cs.toList.drop 55).take 5 = _ := r11
  have q12 : (cs.toList.drop 60).take 5 = _ := r12
  have q13 : (cs.toList.drop 65).take 5 = _ := r13
  have q14 : (cs.toList.drop 70).take 5 = _ := r14
  rw [q0, q1, q2, q3, q4, q5, q6, q7, q8, q9, q10, q11, q12, q13, q14]
  rfl
 subst hca
 simp only [World.var?, gOps, Option.bind_some] at hvar
 split at hvar
 ·rename_i cs' t fz hh
  obtain rfl := Option.some.inj hvar
  exact ⟨t, fz, hh⟩
 ·cases hvar
end Go.Proofs.YtdghjgiakblfmaaGreatDoor
namespace Go.Proofs.YtdghjgiakblfmaaGreatDoor.DeadEnds
open Go.ChangeShapes Go.WideShapes Go.ChangeAt Go.RowKit
theorem own : ownKnob Tryz.prog.godebug = none := by kernel_rfl
set_option maxRecDepth 100000 in
theorem contract (H : Type) (enc : TypeId × Value → H) (W : World) (base : Nat) (args : Array Value) (ds gs : List (DataW H)) (before : List MemPlace) (vt : List TypeId)
  (hval : ∀ (j : Nat) t v, Tryz.f7.params[j]? = some t → args[j]? = some v → Value.okWide Tryz.prog W .any base t v)
  (hW : DataW.Whole enc Tryz.prog Tryz.f7.params.toList Rows.deadEndsSpec.vars false W args.toList ds gs before)
  (hwt : (DataW.weightsEach Tryz.prog (Tryz.f7.params.toList ++ vt) (ds ++ gs)).all (· ≤ reachBytes) = true) (hL : laidMetH Tryz.prog Rows.deadEndsRow.laid W) :
  Calls Tryz.prog 7 args W fun e W' => ∃ v, e = .returned v ∧ Rows.deadEndsSpec.post enc Tryz.prog Tryz.f7 false true false false W args v W' := by
 have hW' := hW
 obtain ⟨p, q, hA0, hV, rfl, hfz, hnd⟩ := hW
 have hA : DataW.TrodAll enc Tryz.prog W 0 (fun _ => true) true Tryz.f7.params.toList args.toList ds p := hA0
 obtain ⟨rfl, rfl⟩ := trodVars_none hV
 have hlt : ∀ x ∈ p, x.block < W.heap.size := fun x hx => hW'.lt x (List.mem_append_left _ hx)
 have hargs : ∀ W', Below W.heap.size W W' → DataW.TrodAll enc Tryz.prog W' 0 (fun b => decide (b < W.heap.size)) true Tryz.f7.params.toList args.toList ds p := fun W' hb => Fk.trodAll_below hb (by kernel_rfl) hA0 hlt
 rw [Tryz.params7] at hA hval hwt
 clear hA0
 obtain ⟨v0, vs0, d0, ds0, p0, q0, hargs0, rfl, rfl, h0, r0⟩ := trodAll_cons hA
 obtain ⟨v1, vs1, d1, ds1, p1, q1, rfl, rfl, rfl, h1, r1⟩ := trodAll_cons r0
 obtain ⟨rfl, rfl, rfl⟩ := trodAll_nil r1
 obtain rfl : args = #[v0, v1] := by cases args; simp_all
 obtain ⟨T, V, e, dd, rfl, hT⟩ := Ac.open_act (hval 0 32 v0 rfl rfl) h0
 obtain ⟨pa, pc, ps, rfl, hP⟩ := Dd.open_nums (hval 1 51 v1 rfl rfl) h1
 refine (walk T V e dd pa pc ps W hT hP (ops_of_laid hL)).mono fun e W' ⟨he, hb⟩ => ?_
 subst he
 exact ⟨_, rfl, _, _, _, [], _, [], hW', trodAll_cons_mk (shut_bool Tryz.underlying4 _) trodAll_mk0, hargs W' hb, rfl, hb.frame _, fun h => by cases h⟩
/- The witness's world: the settled one, the tables holding what their initialisers lay. -/
noncomputable def laidWorld (os : Os) : World := { World.holding Tryz.prog os ⟨#[], #[], []⟩ with heap := (World.holding Tryz.prog os ⟨#[], #[], []⟩).heap.modify 0 fun | .cells _ t frozen => .cells Tk.opVals t frozen | o => o }
theorem laid_met (os : Os) : laidMet Tryz.prog Rows.deadEndsRow.laid ((laidWorld os).forCall (fun _ _ => 0) ⟨#[], #[.agg #[.int .i64 0, .int .i64 0, .int .i64 0, .int .i64 0, .int .i64 0, .int .i64 0, .slice none 0 0, .slice none 0 0, .slice none 0 0, .slice none 0 0, .slice none 0 0, .slice none 0 0], .slice none 0 0], []⟩).memory :=
 laidMet_of_run' 8 (by kernel_rfl) (by kernel_rfl)
theorem reads (os : Os) {H : Type} (enc : TypeId × Value → H) : ∃ places, DataW.whole enc Tryz.prog ((laidWorld os).forCall (fun _ _ => 0) ⟨#[], #[.agg #[.int .i64 0, .int .i64 0, .int .i64 0, .int .i64 0, .int .i64 0, .int .i64 0, .slice none 0 0, .slice none 0 0, .slice none 0 0, .slice none 0 0, .slice none 0 0, .slice none 0 0], .slice none 0 0], []⟩).memory Tryz.f7.params.toList Rows.deadEndsSpec.vars false (#[.agg #[.int .i64 0, .int .i64 0, .int .i64 0, .int .i64 0, .int .i64 0, .int .i64 0, .slice none 0 0, .slice none 0 0, .slice none 0 0, .slice none 0 0, .slice none 0 0, .slice none 0 0], .slice none 0 0] : Array Value).toList 8 = some ([.agg [.lit (.int .i64 0), .lit (.int .i64 0), .lit (.int .i64 0), .lit (.int .i64 0), .agg [.lit (.int .i64 0), .lit (.int .i64 0), .nil], .nil, .nil, .nil, .agg [.nil, .nil]], .nil], [], places) :=
 ⟨[], by kernel_rfl⟩
set_option maxRecDepth 100000 in
theorem lifted (os : Os) (started : os.Started) (H : Type) (enc : TypeId × Value → H) (F : Stop.Interp) :
  ReturnsInHanded {} Tryz.checked os 7 .any ((OpenSpec.ofChange Rows.deadEndsSpec).preRow enc Tryz.prog Tryz.f7 Rows.deadEndsRow.domain false Rows.deadEndsRow.laid) (((OpenSpec.ofChange Rows.deadEndsSpec).at F).post enc Tryz.prog Tryz.f7 false true false false) := by
 obtain ⟨places, hx⟩ := reads os enc
 refine returnsInHanded_of_row (C := Tryz.checked) (s := OpenSpec.ofChange Rows.deadEndsSpec) own started (by kernel_rfl) Tryz.func7
  (witness_row_at (enc := enc) (C := Tryz.checked) false (laidWorld os) #[.agg #[.int .i64 0, .int .i64 0, .int .i64 0, .int .i64 0, .int .i64 0, .int .i64 0, .slice none 0 0, .slice none 0 0, .slice none 0 0, .slice none 0 0, .slice none 0 0, .slice none 0 0], .slice none 0 0] rfl (by kernel_rfl) (by kernel_rfl) (by kernel_rfl)
   (OpenSpec.preRow_of_cond 8 hx (by kernel_rfl) (fun k hk => by cases hk) (by kernel_rfl) (laid_met os))) ?_
 intro W base args ds gs before hval hW _ _ hwt hL _ _
 exact contract H enc W base args ds gs before _ hval hW hwt hL
theorem said : Rows.DeadEndsSaid :=
 OpenClaim.holds_of_cond 7 Tryz.f7 rfl rfl rfl rfl rfl rfl rfl ⟨rfl, rfl, rfl, rfl, rfl⟩ rfl rfl rfl rfl rfl (by kernel_rfl) Tryz.func7 (by kernel_rfl)
  (of_decide_eq_true (by kernel_rfl)) (by unfold Func.isWrapper; first | (rw [if_pos (by decide +kernel)]; kernel_rfl) | (rw [if_neg (by decide +kernel)]; exact ⟨rfl, rfl⟩))
  (fun os started H enc _ F => by rw [OpenClaim.pre_eq_preRow]; exact lifted os started H enc F)
theorem plain (f : FuncId) (fn : Func) (hf : Tryz.pinned.checked.prog.funcNamed "treenail/treenaillaw19.DeadEnds" = some f) (hfn : Tryz.pinned.checked.prog.funcs[f]? = some fn) :
  false = Tryz.pinned.checked.prog.looks [] ∧ ∀ (j : Nat) t, fn.params[j]? = some t → Tryz.pinned.checked.prog.wantsStandIn t = false := by
 obtain rfl : f = 7 := Option.some.inj ((show Tryz.prog.funcNamed "treenail/treenaillaw19.DeadEnds" = some 7 by kernel_rfl).symm.trans hf) |>.symm
 obtain rfl : fn = Tryz.f7 := (Option.some.inj (Tryz.func7.symm.trans hfn)).symm
 refine ⟨by kernel_rfl, fun j t ht => ?_⟩
 have hall : (Tryz.f7.params.toList.all fun t => Tryz.prog.wantsStandIn t == false) = true := by kernel_rfl
 have := List.all_eq_true.1 hall t (Array.mem_toList_iff.2 (Array.mem_of_getElem? ht))
 exact (show Tryz.prog.wantsStandIn t = false by simpa using this)
theorem card : Rows.DeadEndsCardSaid :=
 Claim7.holds_tied_plain_at .later [] _ _ _ _ said (fun _ h => by cases h) (by kernel_rfl) (fun _ h => by cases h) deadEnds_row_tie rfl ⟨rfl, rfl⟩ (by kernel_rfl) rfl plain (by kernel_rfl)
end Go.Proofs.YtdghjgiakblfmaaGreatDoor.DeadEnds
namespace Go.Proofs.YtdghjgiakblfmaaGreatDoor
theorem deadEnds_card : Rows.DeadEndsCardSaid := DeadEnds.card
end Go.Proofs.YtdghjgiakblfmaaGreatDoor
