import Derived.Test.YtehmmfmofdgheaaDoorAllTChk
import Derived.Test.YtehmmfmofdgheaaDoorRows
import Derived.ProofKit
import Derived.OpenShut
import Derived.Test.YtehmmfmofdgheaaDoorIxToks
import Derived.Lib.LaidTab
import Derived.Lib.ItoaNum
import Derived.Lib.AppendIntMem
/-
  From the rows' list of what the table of operators reads as to what its cells hold.
-/
namespace Go.Proofs.YtehmmfmofdgheaaDoor
open Go.ChangeShapes Go.WideShapes Go.ChangeAt Go.RowKit

theorem gOps : Tryd.prog.globalNamed "treenail/term.operators" = some 1 := by kernel_rfl
theorem gOpsType : (Tryd.prog.globals[1]?).map (·.type) = some 111 := by kernel_rfl
theorem cellsOps : Tryd.prog.cellsOf 111 = 75 := by kernel_rfl
theorem cellsOp : Tryd.prog.cellsOf 110 = 5 := by kernel_rfl
theorem cellsInt' : Tryd.prog.cellsOf 3 = 1 := by kernel_rfl
theorem cellsString' : Tryd.prog.cellsOf 9 = 1 := by kernel_rfl

theorem list5' {α : Type} {l : List α} (h : l.length = 5) : ∃ a b c d e, l = [a, b, c, d, e] := by
  match l, h with
  | [a, b, c, d, e], _ => exact ⟨a, b, c, d, e, rfl⟩

/-- One operator's five cells. -/
theorem op_one {H : Type} {enc : TypeId × Value → H} {W : World} {base : Nat} {sp : Nat → Bool} {held : Bool} {fuel : Nat} {cs : List Value} {x : DataW H × List MemPlace} {t : List UInt8} {n1 n2 n3 n4 : Int}
    (h : DataW.trod enc Tryd.prog W base sp held fuel 110 cs = some x) (hx : x.1 = .agg [.lit (.string t), .lit (.int .i64 n1), .lit (.int .i64 n2), .lit (.int .i64 n3), .lit (.int .i64 n4)]) :
    cs = [.string ⟨t.toArray⟩, .int .i64 n1, .int .i64 n2, .int .i64 n3, .int .i64 n4] := by
  obtain ⟨ys, n, _, hx', hl, hy, hf⟩ := DataW.trod_struct Tryd.underlying110 h
  rw [cellsOp] at hl
  have hy : ys.length = 5 := hy
  obtain ⟨c0, c1, c2, c3, c4, rfl⟩ := list5' hl
  obtain ⟨y0, y1, y2, y3, y4, rfl⟩ := list5' hy
  have g0 : DataW.trod enc Tryd.prog W base sp held n 9 (([c0, c1, c2, c3, c4].drop 0).take (Tryd.prog.cellsOf 9)) = [y0, y1, y2, y3, y4][0]? := hf 0 _ rfl
  have g1 : DataW.trod enc Tryd.prog W base sp held n 3 (([c0, c1, c2, c3, c4].drop 1).take (Tryd.prog.cellsOf 3)) = [y0, y1, y2, y3, y4][1]? := hf 1 _ rfl
  have g2 : DataW.trod enc Tryd.prog W base sp held n 3 (([c0, c1, c2, c3, c4].drop 2).take (Tryd.prog.cellsOf 3)) = [y0, y1, y2, y3, y4][2]? := hf 2 _ rfl
  have g3 : DataW.trod enc Tryd.prog W base sp held n 3 (([c0, c1, c2, c3, c4].drop 3).take (Tryd.prog.cellsOf 3)) = [y0, y1, y2, y3, y4][3]? := hf 3 _ rfl
  have g4 : DataW.trod enc Tryd.prog W base sp held n 3 (([c0, c1, c2, c3, c4].drop 4).take (Tryd.prog.cellsOf 3)) = [y0, y1, y2, y3, y4][4]? := hf 4 _ rfl
  rw [cellsString'] at g0
  rw [cellsInt'] at g1 g2 g3 g4
  obtain ⟨s, e0, d0, _⟩ := DataW.trod_string Tryd.underlying9 g0
  obtain ⟨m1, e1, d1, _⟩ := DataW.trod_int Tryd.underlying3 g1
  obtain ⟨m2, e2, d2, _⟩ := DataW.trod_int Tryd.underlying3 g2
  obtain ⟨m3, e3, d3, _⟩ := DataW.trod_int Tryd.underlying3 g3
  obtain ⟨m4, e4, d4, _⟩ := DataW.trod_int Tryd.underlying3 g4
  obtain rfl : c0 = .string s := (List.cons.inj e0).1
  obtain rfl : c1 = .int .i64 m1 := (List.cons.inj e1).1
  obtain rfl : c2 = .int .i64 m2 := (List.cons.inj e2).1
  obtain rfl : c3 = .int .i64 m3 := (List.cons.inj e3).1
  obtain rfl : c4 = .int .i64 m4 := (List.cons.inj e4).1
  rw [hx'] at hx
  rw [d0, d1, d2, d3, d4] at hx
  simp only [List.map_cons, List.map_nil, DataW.agg.injEq, List.cons.injEq, DataW.lit.injEq, Lit.int.injEq, Lit.string.injEq, and_true, true_and] at hx
  obtain ⟨rfl, rfl, rfl, rfl, rfl⟩ := hx
  rfl

theorem ops_of_laid {W : World} (h : laidMet Tryd.prog [("treenail/term.operators", Rows.laid_treenail_term_operators)] W) : Tk.Ops W := by
  obtain ⟨ps, ⟨g', t', cs, fuel, p, q, hg', ht', hvar, hd, _, _⟩, _⟩ := h
  obtain rfl := Option.some.inj (gOps.symm.trans hg')
  obtain rfl := Option.some.inj (gOpsType.symm.trans ht')
  obtain ⟨xs, m, rfl, hx, hl, hxl, hf⟩ := DataW.trod_array Tryd.underlying111 hd
  rw [cellsOps] at hl
  simp only [cellsOp] at hf
  have hx1 := congrArg Prod.fst hx
  have hlen : xs.length = 15 := hxl
  simp only [Rows.laid_treenail_term_operators, DataW.agg.injEq] at hx1
  have row : ∀ (i : Nat) (t : List UInt8) (n1 n2 n3 n4 : Int), i < 15 → (xs.map (·.1))[i]? = some (.agg [.lit (.string t), .lit (.int .i64 n1), .lit (.int .i64 n2), .lit (.int .i64 n3), .lit (.int .i64 n4)]) →
      (cs.toList.drop (i * 5)).take 5 = [.string ⟨t.toArray⟩, .int .i64 n1, .int .i64 n2, .int .i64 n3, .int .i64 n4] := by
    intro i t n1 n2 n3 n4 hi hL
    obtain ⟨x, hxi⟩ : ∃ x, xs[i]? = some x := ⟨xs[i]'(by omega), List.getElem?_eq_getElem (by omega)⟩
    rw [List.getElem?_map, hxi] at hL
    exact op_one (x := x) ((hf i hi).trans hxi) (by simpa using hL)
  have step : ∀ n, cs.toList.drop n = (cs.toList.drop n).take 5 ++ cs.toList.drop (n + 5) := fun n => by
    have := (List.take_append_drop 5 (cs.toList.drop n)).symm
    rw [List.drop_drop] at this
    exact this
  have r0 := row 0 [] 0 0 0 0 (by decide) (by rw [← hx1]; rfl)
  have r1 := row 1 [] 0 0 1099511627776 1 (by decide) (by rw [← hx1]; rfl)
  have r2 := row 2 [36] 0 0 3 1 (by decide) (by rw [← hx1]; rfl)
  have r3 := row 3 [110, 101, 103] 1 1 0 1 (by decide) (by rw [← hx1]; rfl)
  have r4 := row 4 [110, 111, 116] 1 2 0 2 (by decide) (by rw [← hx1]; rfl)
  have r5 := row 5 [97, 100, 100] 2 1 0 1 (by decide) (by rw [← hx1]; rfl)
  have r6 := row 6 [115, 117, 98] 2 1 0 1 (by decide) (by rw [← hx1]; rfl)
  have r7 := row 7 [109, 117, 108] 2 1 0 1 (by decide) (by rw [← hx1]; rfl)
  have r8 := row 8 [100, 105, 118] 2 1 0 1 (by decide) (by rw [← hx1]; rfl)
  have r9 := row 9 [109, 111, 100] 2 1 0 1 (by decide) (by rw [← hx1]; rfl)
  have r10 := row 10 [101, 113] 2 1 0 2 (by decide) (by rw [← hx1]; rfl)
  have r11 := row 11 [108, 116] 2 1 0 2 (by decide) (by rw [← hx1]; rfl)
  have r12 := row 12 [108, 101] 2 1 0 2 (by decide) (by rw [← hx1]; rfl)
  have r13 := row 13 [97, 110, 100] 2 2 0 2 (by decide) (by rw [← hx1]; rfl)
  have r14 := row 14 [111, 114] 2 2 0 2 (by decide) (by rw [← hx1]; rfl)
  have hca : cs = Tk.opVals := by
    apply Array.toList_inj.1
    have h0 : cs.toList = cs.toList.drop 0 := rfl
    have h75 : cs.toList.drop 75 = [] := List.drop_eq_nil_iff.2 (by omega)
    rw [h0, step 0, step 5, step 10, step 15, step 20, step 25, step 30, step 35, step 40, step 45, step 50, step 55, step 60, step 65, step 70, h75]
    have q0 : (cs.toList.drop 0).take 5 = _ := r0
    have q1 : (cs.toList.drop 5).take 5 = _ := r1
    have q2 : (cs.toList.drop 10).take 5 = _ := r2
    have q3 : (cs.toList.drop 15).take 5 = _ := r3
    have q4 : (cs.toList.drop 20).take 5 = _ := r4
    have q5 : (cs.toList.drop 25).take 5 = _ := r5
    have q6 : (cs.toList.drop 30).take 5 = _ := r6
    have q7 : (cs.toList.drop 35).take 5 = _ := r7
    have q8 : (cs.toList.drop 40).take 5 = _ := r8
    have q9 : (cs.toList.drop 45).take 5 = _ := r9
    have q10 : (cs.toList.drop 50).take 5 = _ := r10
    have q11 : (cs.toList.drop 55).take 5 = _ := r11
    have q12 : (cs.toList.drop 60).take 5 = _ := r12
    have q13 : (cs.toList.drop 65).take 5 = _ := r13
    have q14 : (cs.toList.drop 70).take 5 = _ := r14
    rw [q0, q1, q2, q3, q4, q5, q6, q7, q8, q9, q10, q11, q12, q13, q14]
    rfl
  subst hca
  simp only [World.var?, gOps, Option.bind_some] at hvar
  split at hvar
  · rename_i cs' t fz hh
    obtain rfl := Option.some.inj hvar
    exact ⟨t, fz, hh⟩
  · cases hvar

end Go.Proofs.YtehmmfmofdgheaaDoor

/-
  infix: from the rows' list of six tables to what they hold; the witness's world.
-/
namespace Go.Proofs.YtehmmfmofdgheaaDoor
open Go.ChangeShapes Go.WideShapes Go.ChangeAt Go.RowKit

theorem gIOps : Tryd.prog.globalNamed "treenail/infix.operators" = some 2 := by kernel_rfl
theorem gIOpsType : (Tryd.prog.globals[2]?).map (·.type) = some 113 := by kernel_rfl
theorem cellsIOps : Tryd.prog.cellsOf 113 = 75 := by kernel_rfl
theorem cellsIOp : Tryd.prog.cellsOf 88 = 5 := by kernel_rfl
theorem cellsBool' : Tryd.prog.cellsOf 4 = 1 := by kernel_rfl
theorem gISt : Tryd.prog.globalNamed "treenail/infix.stands" = some 0 := by kernel_rfl
theorem gIStType : (Tryd.prog.globals[0]?).map (·.type) = some 81 := by kernel_rfl
theorem cellsISt : Tryd.prog.cellsOf 81 = 8 := by kernel_rfl

/-- One operator's five cells. -/
theorem iop_one {H : Type} {enc : TypeId × Value → H} {W : World} {base : Nat} {sp : Nat → Bool} {held : Bool} {fuel : Nat} {cs : List Value} {x : DataW H × List MemPlace} {t : List UInt8} {n1 n2 : Int} {b1 b2 : Bool}
    (h : DataW.trod enc Tryd.prog W base sp held fuel 88 cs = some x) (hx : x.1 = .agg [.lit (.int .i64 n1), .lit (.string t), .lit (.int .i64 n2), .lit (.bool b1), .lit (.bool b2)]) :
    cs = [.int .i64 n1, .string ⟨t.toArray⟩, .int .i64 n2, .bool b1, .bool b2] := by
  obtain ⟨ys, n, _, hx', hl, hy, hf⟩ := DataW.trod_struct Tryd.underlying88 h
  rw [cellsIOp] at hl
  have hy : ys.length = 5 := hy
  obtain ⟨c0, c1, c2, c3, c4, rfl⟩ := list5' hl
  obtain ⟨y0, y1, y2, y3, y4, rfl⟩ := list5' hy
  have g0 : DataW.trod enc Tryd.prog W base sp held n 3 (([c0, c1, c2, c3, c4].drop 0).take (Tryd.prog.cellsOf 3)) = [y0, y1, y2, y3, y4][0]? := hf 0 _ rfl
  have g1 : DataW.trod enc Tryd.prog W base sp held n 9 (([c0, c1, c2, c3, c4].drop 1).take (Tryd.prog.cellsOf 9)) = [y0, y1, y2, y3, y4][1]? := hf 1 _ rfl
  have g2 : DataW.trod enc Tryd.prog W base sp held n 3 (([c0, c1, c2, c3, c4].drop 2).take (Tryd.prog.cellsOf 3)) = [y0, y1, y2, y3, y4][2]? := hf 2 _ rfl
  have g3 : DataW.trod enc Tryd.prog W base sp held n 4 (([c0, c1, c2, c3, c4].drop 3).take (Tryd.prog.cellsOf 4)) = [y0, y1, y2, y3, y4][3]? := hf 3 _ rfl
  have g4 : DataW.trod enc Tryd.prog W base sp held n 4 (([c0, c1, c2, c3, c4].drop 4).take (Tryd.prog.cellsOf 4)) = [y0, y1, y2, y3, y4][4]? := hf 4 _ rfl
  rw [cellsString'] at g1
  rw [cellsInt'] at g0 g2
  rw [cellsBool'] at g3 g4
  obtain ⟨m1, e0, d0, _⟩ := DataW.trod_int Tryd.underlying3 g0
  obtain ⟨s, e1, d1, _⟩ := DataW.trod_string Tryd.underlying9 g1
  obtain ⟨m2, e2, d2, _⟩ := DataW.trod_int Tryd.underlying3 g2
  obtain ⟨m3, e3, d3⟩ := DataW.trod_bool Tryd.underlying4 g3
  obtain ⟨m4, e4, d4⟩ := DataW.trod_bool Tryd.underlying4 g4
  obtain rfl : c0 = .int .i64 m1 := (List.cons.inj e0).1
  obtain rfl : c1 = .string s := (List.cons.inj e1).1
  obtain rfl : c2 = .int .i64 m2 := (List.cons.inj e2).1
  obtain rfl : c3 = .bool m3 := (List.cons.inj e3).1
  obtain rfl : c4 = .bool m4 := (List.cons.inj e4).1
  rw [hx'] at hx
  rw [d0, d1, d2, d3, d4] at hx
  simp only [List.map_cons, List.map_nil, DataW.agg.injEq, List.cons.injEq, DataW.lit.injEq, Lit.int.injEq, Lit.string.injEq, Lit.bool.injEq, and_true, true_and] at hx
  obtain ⟨rfl, rfl, rfl, rfl, rfl⟩ := hx
  rfl

theorem iops_of_laid {W : World} (h : laidMet Tryd.prog [("treenail/infix.operators", Rows.laid_treenail_infix_operators)] W) : ∃ t fz, W.heap[2]? = some (.cells Ix.opVals t fz) := by
  obtain ⟨ps, ⟨g', t', cs, fuel, p, q, hg', ht', hvar, hd, _, _⟩, _⟩ := h
  obtain rfl := Option.some.inj (gIOps.symm.trans hg')
  obtain rfl := Option.some.inj (gIOpsType.symm.trans ht')
  obtain ⟨xs, m, rfl, hx, hl, hxl, hf⟩ := DataW.trod_array Tryd.underlying113 hd
  rw [cellsIOps] at hl
  simp only [cellsIOp] at hf
  have hx1 := congrArg Prod.fst hx
  have hlen : xs.length = 15 := hxl
  simp only [Rows.laid_treenail_infix_operators, DataW.agg.injEq] at hx1
  have row : ∀ (i : Nat) (n1 : Int) (t : List UInt8) (n2 : Int) (b1 b2 : Bool), i < 15 → (xs.map (·.1))[i]? = some (.agg [.lit (.int .i64 n1), .lit (.string t), .lit (.int .i64 n2), .lit (.bool b1), .lit (.bool b2)]) →
      (cs.toList.drop (i * 5)).take 5 = [.int .i64 n1, .string ⟨t.toArray⟩, .int .i64 n2, .bool b1, .bool b2] := by
    intro i n1 t n2 b1 b2 hi hL
    obtain ⟨x, hxi⟩ : ∃ x, xs[i]? = some x := ⟨xs[i]'(by omega), List.getElem?_eq_getElem (by omega)⟩
    rw [List.getElem?_map, hxi] at hL
    exact iop_one (x := x) ((hf i hi).trans hxi) (by simpa using hL)
  have step : ∀ n, cs.toList.drop n = (cs.toList.drop n).take 5 ++ cs.toList.drop (n + 5) := fun n => by
    have := (List.take_append_drop 5 (cs.toList.drop n)).symm
    rw [List.drop_drop] at this
    exact this
  have r0 := row 0 7 [45] 3 false false (by decide) (by rw [← hx1]; rfl)
  have r1 := row 1 6 [42] 7 false false (by decide) (by rw [← hx1]; rfl)
  have r2 := row 2 6 [47] 8 false false (by decide) (by rw [← hx1]; rfl)
  have r3 := row 3 6 [37] 9 false false (by decide) (by rw [← hx1]; rfl)
  have r4 := row 4 5 [43] 5 false false (by decide) (by rw [← hx1]; rfl)
  have r5 := row 5 5 [45] 6 false false (by decide) (by rw [← hx1]; rfl)
  have r6 := row 6 4 [61] 10 false false (by decide) (by rw [← hx1]; rfl)
  have r7 := row 7 4 [33, 61] 10 false true (by decide) (by rw [← hx1]; rfl)
  have r8 := row 8 4 [60] 11 false false (by decide) (by rw [← hx1]; rfl)
  have r9 := row 9 4 [60, 61] 12 false false (by decide) (by rw [← hx1]; rfl)
  have r10 := row 10 4 [62] 11 true false (by decide) (by rw [← hx1]; rfl)
  have r11 := row 11 4 [62, 61] 12 true false (by decide) (by rw [← hx1]; rfl)
  have r12 := row 12 3 [110, 111, 116] 4 false false (by decide) (by rw [← hx1]; rfl)
  have r13 := row 13 2 [97, 110, 100] 13 false false (by decide) (by rw [← hx1]; rfl)
  have r14 := row 14 1 [111, 114] 14 false false (by decide) (by rw [← hx1]; rfl)
  have hca : cs = Ix.opVals := by
    apply Array.toList_inj.1
    have h0 : cs.toList = cs.toList.drop 0 := rfl
    have h75 : cs.toList.drop 75 = [] := List.drop_eq_nil_iff.2 (by omega)
    rw [h0, step 0, step 5, step 10, step 15, step 20, step 25, step 30, step 35, step 40, step 45, step 50, step 55, step 60, step 65, step 70, h75]
    have q0 : (cs.toList.drop 0).take 5 = _ := r0
    have q1 : (cs.toList.drop 5).take 5 = _ := r1
    have q2 : (cs.toList.drop 10).take 5 = _ := r2
    have q3 : (cs.toList.drop 15).take 5 = _ := r3
    have q4 : (cs.toList.drop 20).take 5 = _ := r4
    have q5 : (cs.toList.drop 25).take 5 = _ := r5
    have q6 : (cs.toList.drop 30).take 5 = _ := r6
    have q7 : (cs.toList.drop 35).take 5 = _ := r7
    have q8 : (cs.toList.drop 40).take 5 = _ := r8
    have q9 : (cs.toList.drop 45).take 5 = _ := r9
    have q10 : (cs.toList.drop 50).take 5 = _ := r10
    have q11 : (cs.toList.drop 55).take 5 = _ := r11
    have q12 : (cs.toList.drop 60).take 5 = _ := r12
    have q13 : (cs.toList.drop 65).take 5 = _ := r13
    have q14 : (cs.toList.drop 70).take 5 = _ := r14
    rw [q0, q1, q2, q3, q4, q5, q6, q7, q8, q9, q10, q11, q12, q13, q14]
    rfl
  subst hca
  simp only [World.var?, gIOps, Option.bind_some] at hvar
  split at hvar
  · rename_i cs' t fz hh
    obtain rfl := Option.some.inj hvar
    exact ⟨t, fz, hh⟩
  · cases hvar

theorem ist_of_laid {W : World} (h : laidMet Tryd.prog [("treenail/infix.stands", Rows.laid_treenail_infix_stands)] W) : ∃ t fz, W.heap[0]? = some (.cells Ix.standVals t fz) := by
  obtain ⟨ps, ⟨g', t', cs, fuel, p, q, hg', ht', hvar, hd, _, _⟩, _⟩ := h
  obtain rfl := Option.some.inj (gISt.symm.trans hg')
  obtain rfl := Option.some.inj (gIStType.symm.trans ht')
  obtain ⟨xs, m, rfl, hx, hl, hxl, hf⟩ := DataW.trod_array Tryd.underlying81 hd
  rw [cellsISt] at hl
  simp only [cellsInt'] at hf
  have hx1 := congrArg Prod.fst hx
  have hlen : xs.length = 8 := hxl
  simp only [Rows.laid_treenail_infix_stands, DataW.agg.injEq] at hx1
  have row : ∀ (i : Nat) (t : Int), i < 8 → (xs.map (·.1))[i]? = some (.lit (.int .i64 t)) → cs.toList[i]? = some (.int .i64 t) := by
    intro i t hi hL
    obtain ⟨x, hxi⟩ : ∃ x, xs[i]? = some x := ⟨xs[i]'(by omega), List.getElem?_eq_getElem (by omega)⟩
    rw [List.getElem?_map, hxi] at hL
    obtain ⟨s, e0, d0, _⟩ := DataW.trod_int Tryd.underlying3 ((hf i hi).trans hxi)
    have hL2 : x.1 = .lit (.int .i64 t) := by simpa using hL
    rw [d0] at hL2
    simp only [DataW.lit.injEq, Lit.int.injEq, true_and] at hL2
    subst hL2
    have h1 : cs.toList[i]? = ((cs.toList.drop (i * 1)).take 1)[0]? := by rw [List.getElem?_take, if_pos (by omega), List.getElem?_drop]; simp
    rw [h1, e0]
    rfl
  have hca : cs = Ix.standVals := by
    apply Array.toList_inj.1
    apply List.ext_getElem?
    intro i
    by_cases hi : i < 8
    · have hr : ∀ t, (xs.map (·.1))[i]? = some (.lit (.int .i64 t)) → cs.toList[i]? = some (.int .i64 t) := fun t => row i t hi
      obtain rfl | rfl | rfl | rfl | rfl | rfl | rfl | rfl : i = 0 ∨ i = 1 ∨ i = 2 ∨ i = 3 ∨ i = 4 ∨ i = 5 ∨ i = 6 ∨ i = 7 := by omega
      all_goals exact hr _ (by rw [← hx1]; rfl)
    · rw [List.getElem?_eq_none (by omega), List.getElem?_eq_none (by simp [Ix.standVals]; omega)]
  subst hca
  simp only [World.var?, gISt, Option.bind_some] at hvar
  split at hvar
  · rename_i cs' t fz hh
    obtain rfl := Option.some.inj hvar
    exact ⟨t, fz, hh⟩
  · cases hvar

/-- What is listed behind the first is met too. -/
theorem laid_rest {P : Program} {x : String × DataW Unit} {r : List (String × DataW Unit)} {w : World} (h : laidMet P (x :: r) w) : laidMet P r w := by
  obtain ⟨ps, hv, hnd, hrows⟩ := h
  obtain ⟨g, t, cs, fuel, p, q, _, _, _, _, hq, rfl⟩ := hv
  exact ⟨q, hq, List.Nodup.sublist (List.sublist_append_right _ _) hnd, fun b off hm => hrows b off (List.mem_append_right _ hm)⟩
/-- What is listed first is met by itself. -/
theorem laid_first {P : Program} {x : String × DataW Unit} {r : List (String × DataW Unit)} {w : World} (h : laidMet P (x :: r) w) : laidMet P [x] w := by
  obtain ⟨ps, hv, hnd, hrows⟩ := h
  obtain ⟨g, t, cs, fuel, p, q, h1, h2, h3, h4, _, rfl⟩ := hv
  refine ⟨_, ⟨g, t, cs, fuel, p, [], h1, h2, h3, h4, rfl, rfl⟩, ?_, fun b off hm => hrows b off ?_⟩
  · rw [List.append_nil]; exact List.Nodup.sublist (List.sublist_append_left _ _) hnd
  · rw [List.append_nil] at hm; exact List.mem_append_left _ hm
abbrev tables : List (String × DataW Unit) := [("math/bits.deBruijn32tab", Rows.laid_math_bits_deBruijn32tab), ("math/bits.deBruijn64tab", Rows.laid_math_bits_deBruijn64tab), ("internal/strconv.uint64pow10", Rows.laid_internal_strconv_uint64pow10), ("treenail/term.operators", Rows.laid_treenail_term_operators), ("treenail/infix.stands", Rows.laid_treenail_infix_stands), ("treenail/infix.operators", Rows.laid_treenail_infix_operators)]
theorem ops_of_tables {W : World} (h : laidMet Tryd.prog tables W) : Tk.Ops W := ops_of_laid (laid_first (laid_rest (laid_rest (laid_rest h))))
theorem itabs_of_tables {W : World} (h : laidMet Tryd.prog tables W) : Ix.Tabs W := ⟨iops_of_laid (laid_rest (laid_rest (laid_rest (laid_rest (laid_rest h))))), ist_of_laid (laid_first (laid_rest (laid_rest (laid_rest (laid_rest h)))))⟩
theorem pow10_eq : (Rows.laid_internal_strconv_uint64pow10 : DataW Unit) = Lib.tabData .u64 Lib.pow10Tab := by kernel_rfl
theorem gPow : Tryd.prog.globalNamed "internal/strconv.uint64pow10" = some 3 := by kernel_rfl
theorem gPowType : (Tryd.prog.globals[3]?).map (·.type) = some 137 := by kernel_rfl
theorem pow_of_tables {W : World} (h : laidMet Tryd.prog tables W) : Lib.TabBelow Tryd.prog W.heap.size W "internal/strconv.uint64pow10" .u64 Lib.pow10Tab := by
  have h2 := laid_rest (laid_rest h)
  rw [pow10_eq] at h2
  exact Lib.tabBelow_of_tabIs (Lib.tabIs_of_head gPow gPowType Tryd.underlying137 Tryd.underlying126 (by kernel_rfl) (by kernel_rfl) h2)

def pow10Vals : Array Value := #[.int .u64 1, .int .u64 10, .int .u64 100, .int .u64 1000, .int .u64 10000, .int .u64 100000, .int .u64 1000000, .int .u64 10000000, .int .u64 100000000, .int .u64 1000000000, .int .u64 10000000000, .int .u64 100000000000, .int .u64 1000000000000, .int .u64 10000000000000, .int .u64 100000000000000, .int .u64 1000000000000000, .int .u64 10000000000000000, .int .u64 100000000000000000, .int .u64 1000000000000000000, .int .u64 10000000000000000000]
def b32Vals : Array Value := (#[0, 1, 28, 2, 29, 14, 24, 3, 30, 22, 20, 15, 25, 17, 4, 8, 31, 27, 13, 23, 21, 19, 16, 7, 26, 12, 18, 6, 11, 5, 10, 9] : Array Int).map (.int .u8 ·)
def b64Vals : Array Value := (#[0, 1, 56, 2, 57, 49, 28, 3, 61, 58, 42, 50, 38, 29, 17, 4, 62, 47, 59, 36, 45, 43, 51, 22, 53, 39, 33, 30, 24, 18, 12, 5, 63, 55, 48, 27, 60, 41, 37, 16, 46, 35, 44, 21, 52, 32, 23, 11, 54, 26, 40, 15, 34, 20, 31, 10, 25, 14, 19, 9, 13, 8, 7, 6] : Array Int).map (.int .u8 ·)
/-- The witness's world: the settled one, the tables holding what their initialisers lay. -/
def putVals (h : Array Obj) (g : Nat) (vs : Array Value) : Array Obj := h.modify g fun | .cells _ t frozen => .cells vs t frozen | o => o
noncomputable def laidWorld (os : Os) : World :=
  { World.holding Tryd.prog os ⟨#[], #[], []⟩ with heap := putVals (putVals (putVals (putVals (putVals (putVals (World.holding Tryd.prog os ⟨#[], #[], []⟩).heap 1 Tk.opVals) 3 pow10Vals) 4 b32Vals) 5 b64Vals) 2 Ix.opVals) 0 Ix.standVals }

end Go.Proofs.YtehmmfmofdgheaaDoor
