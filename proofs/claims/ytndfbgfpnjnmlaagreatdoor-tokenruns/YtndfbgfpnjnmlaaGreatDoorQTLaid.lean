/-
  Proved here: of every process and every row of picks, a whole run from the start on, its moves picked, goes as the document tells it: each state, each label (TokenRuns, promise 7.1), whatever memory the call begins in; no condition beyond the row's own.
-/
import Derived.Test.YtndfbgfpnjnmlaaGreatDoorRAllTChk
import Derived.Test.YtndfbgfpnjnmlaaGreatDoorRows
import Derived.ProofKit
import Derived.OpenShut
import Derived.Test.YtndfbgfpnjnmlaaGreatDoorRTmModel
import Derived.Deep.Slices
import Derived.Test.YtndfbgfpnjnmlaaGreatDoorChecked
import Derived.Carry
import Derived.WalkKit
import Derived.SizedLaws
import Derived.Test.YtndfbgfpnjnmlaaGreatDoorQWalkTokenRuns
import Derived.Lib.SmallJoins
import Derived.Test.YtndfbgfpnjnmlaaGreatDoorCards
import Derived.Test.YtndfbgfpnjnmlaaGreatDoorTie
import Derived.Deep.DeepHandedRow
namespace Go.Proofs.YtndfbgfpnjnmlaaGreatDoor
open Go.ChangeShapes Go.WideShapes Go.ChangeAt Go.RowKit
theorem gOps : Tryz.prog.globalNamed "treenail/term.operators" = some 0 := by kernel_rfl
theorem gOpsType : (Tryz.prog.globals[0]?).map (·.type) = some 154 := by kernel_rfl
theorem cellsOps : Tryz.prog.cellsOf 154 = 75 := by kernel_rfl
theorem cellsOp : Tryz.prog.cellsOf 153 = 5 := by kernel_rfl
theorem cellsInt' : Tryz.prog.cellsOf 3 = 1 := by kernel_rfl
theorem cellsString' : Tryz.prog.cellsOf 9 = 1 := by kernel_rfl
theorem list5' {α : Type} {l : List α} (h : l.length = 5) : ∃ a b c d e, l = [a, b, c, d, e] := by
 match l, h with
 | [a, b, c, d, e], _ => exact ⟨a, b, c, d, e, rfl⟩
theorem op_one {H : Type} {enc : TypeId × Value → H} {W : World} {base : Nat} {sp : Nat → Bool} {held : Bool} {fuel : Nat} {cs : List Value} {x : DataW H × List MemPlace} {t : List UInt8} {n1 n2 n3 n4 : Int}
  (h : DataW.trod enc Tryz.prog W base sp held fuel 153 cs = some x) (hx : x.1 = .agg [.lit (.string t), .lit (.int .i64 n1), .lit (.int .i64 n2), .lit (.int .i64 n3), .lit (.int .i64 n4)]) :
  cs = [.string ⟨t.toArray⟩, .int .i64 n1, .int .i64 n2, .int .i64 n3, .int .i64 n4] := by
 obtain ⟨ys, n, _, hx', hl, hy, hf⟩ := DataW.trod_struct Tryz.underlying153 h
 rw [cellsOp] at hl
 have hy : ys.length = 5 := hy
 obtain ⟨c0, c1, c2, c3, c4, rfl⟩ := list5' hl
 obtain ⟨y0, y1, y2, y3, y4, rfl⟩ := list5' hy
 have g0 : DataW.trod enc Tryz.prog W base sp held n 9 (([c0, c1, c2, c3, c4].drop 0).take (Tryz.prog.cellsOf 9)) = [y0, y1, y2, y3, y4][0]? := hf 0 _ rfl
 have g1 : DataW.trod enc Tryz.prog W base sp held n 3 (([c0, c1, c2, c3, c4].drop 1).take (Tryz.prog.cellsOf 3)) = [y0, y1, y2, y3, y4][1]? := hf 1 _ rfl
 have g2 : DataW.trod enc Tryz.prog W base sp held n 3 (([c0, c1, c2, c3, c4].drop 2).take (Tryz.prog.cellsOf 3)) = [y0, y1, y2, y3, y4][2]? := hf 2 _ rfl
 have g3 : DataW.trod enc Tryz.prog W base sp held n 3 (([c0, c1, c2, c3, c4].drop 3).take (Tryz.prog.cellsOf 3)) = [y0, y1, y2, y3, y4][3]? := hf 3 _ rfl
 have g4 : DataW.trod enc Tryz.prog W base sp held n 3 (([c0, c1, c2, c3, c4].drop 4).take (Tryz.prog.cellsOf 3)) = [y0, y1, y2, y3, y4][4]? := hf 4 _ rfl
 rw [cellsString'] at g0
 rw [cellsInt'] at g1 g2 g3 g4
 obtain ⟨s, e0, d0, _⟩ := DataW.trod_string Tryz.underlying9 g0
 obtain ⟨m1, e1, d1, _⟩ := DataW.trod_int Tryz.underlying3 g1
 obtain ⟨m2, e2, d2, _⟩ := DataW.trod_int Tryz.underlying3 g2
 obtain ⟨m3, e3, d3, _⟩ := DataW.trod_int Tryz.underlying3 g3
 obtain ⟨m4, e4, d4, _⟩ := DataW.trod_int Tryz.underlying3 g4
 obtain rfl : c0 = .string s := (List.cons.inj e0).1
 obtain rfl : c1 = .int .i64 m1 := (List.cons.inj e1).1
 obtain rfl : c2 = .int .i64 m2 := (List.cons.inj e2).1
 obtain rfl : c3 = .int .i64 m3 := (List.cons.inj e3).1
 obtain rfl : c4 = .int .i64 m4 := (List.cons.inj e4).1
 rw [hx'] at hx
 rw [d0, d1, d2, d3, d4] at hx
 simp only [List.map_cons, List.map_nil, DataW.agg.injEq, List.cons.injEq, DataW.lit.injEq, Lit.int.injEq, Lit.string.injEq, and_true, true_and] at hx
 obtain ⟨rfl, rfl, rfl, rfl, rfl⟩ := hx
 rfl
theorem ops_of_laid {W : World} (h : laidMet Tryz.prog [("treenail/term.operators", Rows.laid_treenail_term_operators)] W) : Tk.Ops W := by
 obtain ⟨ps, ⟨g', t', cs, fuel, p, q, hg', ht', hvar, hd, _, _⟩, _⟩ := h
 obtain rfl := Option.some.inj (gOps.symm.trans hg')
 obtain rfl := Option.some.inj (gOpsType.symm.trans ht')
 obtain ⟨xs, m, rfl, hx, hl, hxl, hf⟩ := DataW.trod_array Tryz.underlying154 hd
 rw [cellsOps] at hl
 simp only [cellsOp] at hf
 have hx1 := congrArg Prod.fst hx
 have hlen : xs.length = 15 := hxl
 simp only [Rows.laid_treenail_term_operators, DataW.agg.injEq] at hx1
 have row : ∀ (i : Nat) (t : List UInt8) (n1 n2 n3 n4 : Int), i < 15 → (xs.map (·.1))[i]? = some (.agg [.lit (.string t), .lit (.int .i64 n1), .lit (.int .i64 n2), .lit (.int .i64 n3), .lit (.int .i64 n4)]) →
   (cs.toList.drop (i * 5)).take 5 = [.string ⟨t.toArray⟩, .int .i64 n1, .int .i64 n2, .int .i64 n3, .int .i64 n4] := by
  intro i t n1 n2 n3 n4 hi hL
  obtain ⟨x, hxi⟩ : ∃ x, xs[i]? = some x := ⟨xs[i]'(by omega), List.getElem?_eq_getElem (by omega)⟩
  rw [List.getElem?_map, hxi] at hL
  exact op_one (x := x) ((hf i hi).trans hxi) (by simpa using hL)
 have step : ∀ n, cs.toList.drop n = (cs.toList.drop n).take 5 ++ cs.toList.drop (n + 5) := fun n => by
  have := (List.take_append_drop 5 (cs.toList.drop n)).symm
  rw [List.drop_drop] at this
  exact this
 have r0 := row 0 [] 0 0 0 0 (by decide) (by rw [← hx1]; rfl)
 have r1 := row 1 [] 0 0 1099511627776 1 (by decide) (by rw [← hx1]; rfl)
 have r2 := row 2 [36] 0 0 3 1 (by decide) (by rw [← hx1]; rfl)
 have r3 := row 3 [110, 101, 103] 1 1 0 1 (by decide) (by rw [← hx1]; rfl)
 have r4 := row 4 [110, 111, 116] 1 2 0 2 (by decide) (by rw [← hx1]; rfl)
 have r5 := row 5 [97, 100, 100] 2 1 0 1 (by decide) (by rw [← hx1]; rfl)
 have r6 := row 6 [115, 117, 98] 2 1 0 1 (by decide) (by rw [← hx1]; rfl)
 have r7 := row 7 [109, 117, 108] 2 1 0 1 (by decide) (by rw [← hx1]; rfl)
 have r8 := row 8 [100, 105, 118] 2 1 0 1 (by decide) (by rw [← hx1]; rfl)
 have r9 := row 9 [109, 111, 100] 2 1 0 1 (by decide) (by rw [← hx1]; rfl)
 have r10 := row 10 [101, 113] 2 1 0 2 (by decide) (by rw [← hx1]; rfl)
 have r11 := row 11 [108, 116] 2 1 0 2 (by decide) (by rw [← hx1]; rfl)
 have r12 := row 12 [108, 101] 2 1 0 2 (by decide) (by rw [← hx1]; rfl)
 have r13 := row 13 [97, 110, 100] 2 2 0 2 (by decide) (by rw [← hx1]; rfl)
 have r14 := row 14 [111, 114] 2 2 0 2 (by decide) (by rw [← hx1]; rfl)
 have hca : cs = Tk.opVals := by
  apply Array.toList_inj.1
  have h0 : cs.toList = cs.toList.drop 0 := rfl
  have h75 : cs.toList.drop 75 = [] := List.drop_eq_nil_iff.2 (by omega)
  rw [h0, step 0, step 5, step 10, step 15, step 20, step 25, step 30, step 35, step 40, step 45, step 50, step 55, step 60, step 65, step 70, h75]
  have q0 : (cs.toList.drop 0).take 5 = _ := r0
  have q1 : (cs.toList.drop 5).take 5 = _ := r1
  have q2 : (cs.toList.drop 10).take 5 = _ := r2
  have q3 : (cs.toList.drop 15).take 5 = _ := r3
  have q4 : (cs.toList.drop 20).take 5 = _ := r4
  have q5 : (cs.toList.drop 25).take 5 = _ := r5
  have q6 : (cs.toList.drop 30).take 5 = _ := r6
  have q7 : (cs.toList.drop 35).take 5 = _ := r7
  have q8 : (cs.toList.drop 40).take 5 = _ := r8
  have q9 : (cs.toList.drop 45).take 5 = _ := r9
  have q10 : (cs.toList.drop 50).take 5 = _ := r10
  have q11 : (cs.toList.drop 55).take 5 = _ := r11
  have q12 : (cs.toList.drop 60).take 5 = _ := r12
  have q13 : (cs.toList.drop 65).take 5 = _ := r13
  have q14 : (cs.toList.drop 70).take 5 = _ := r14
  rw [q0, q1, q2, q3, q4, q5, q6, q7, q8, q9, q10, q11, q12, q13, q14]
  rfl
 subst hca
 simp only [World.var?, gOps, Option.bind_some] at hvar
 split at hvar
 ·rename_i cs' t fz hh
  obtain rfl := Option.some.inj hvar
  exact ⟨t, fz, hh⟩
 ·cases hvar
end Go.Proofs.YtndfbgfpnjnmlaaGreatDoor
namespace Go.Proofs
open Go.RowKit Go.ChangeShapes Go.WideShapes Go.Deep
instance : Inhabited Tm := ⟨.mk 0 0 []⟩
theorem Tm.Lies.more {w : World} {B : Nat} : ∀ {d : Nat} {v : Value} {T : Tm}, Tm.Lies w B d v T → Tm.Lies w B (d + 1) v T
 | 0, _, _, h => h.elim
 | d + 1, v, T, h => by
   obtain ⟨a, cap, hv, h⟩ := h
   refine ⟨a, cap, hv, h.elim .inl fun ⟨g, off, ha, hg, hr⟩ => .inr ⟨g, off, ha, hg, fun j hj => ?_⟩⟩
   obtain ⟨u, h0, h1, h2, h3⟩ := hr j hj
   exact ⟨u, h0, h1, h2, Tm.Lies.more h3⟩
theorem Tk.cellsTerm : Tryz.prog.cellsOf 68 = 3 := by kernel_rfl
theorem Tk.cellsInt1 : Tryz.prog.cellsOf 3 = 1 := by kernel_rfl
theorem Tk.cellsTerms : Tryz.prog.cellsOf 66 = 1 := by kernel_rfl
theorem Tk.list3 {α : Type} {l : List α} (h : l.length = 3) : ∃ a b c, l = [a, b, c] := by
 match l, h with
 | [a, b, c], _ => exact ⟨a, b, c, rfl⟩
theorem Tk.cell_lt {w : World} {a : Addr} {v : Value} (h : w.cell? a = some v) : a.block < w.heap.size := by
 rcases Nat.lt_or_ge a.block w.heap.size with h1 | h1
 ·exact h1
 ·unfold World.cell? at h
  simp [h1] at h
theorem Tm.open_term {H : Type} {enc : TypeId × Value → H} {w : World} {spare : Nat → Bool} {held : Bool} : ∀ (fuel : Nat) (cs : List Value) (x : DataW H × List MemPlace), DataW.trod enc Tryz.prog w 0 spare held fuel 68 cs = some x →
   ∃ (T : Tm) (v : Value), cs = [.int .i64 T.op, .int .i64 T.num, v] ∧ Tm.Lies w w.heap.size fuel v T := by
 intro fuel
 induction fuel using Nat.strongRecOn with
 | _ fuel ih =>
   intro cs x h
   obtain ⟨ys, n, rfl, hx, hl, hy, hf⟩ := DataW.trod_struct Tryz.underlying68 h
   rw [Tk.cellsTerm] at hl
   have hy : ys.length = 3 := hy
   obtain ⟨c0, c1, c2, rfl⟩ := Tk.list3 hl
   obtain ⟨y0, y1, y2, rfl⟩ := Tk.list3 hy
   have g0 : DataW.trod enc Tryz.prog w 0 spare held n 3 (([c0, c1, c2].drop 0).take (Tryz.prog.cellsOf 3)) = [y0, y1, y2][0]? := hf 0 _ rfl
   have g1 : DataW.trod enc Tryz.prog w 0 spare held n 3 (([c0, c1, c2].drop 1).take (Tryz.prog.cellsOf 3)) = [y0, y1, y2][1]? := hf 1 _ rfl
   have g2 : DataW.trod enc Tryz.prog w 0 spare held n 66 (([c0, c1, c2].drop 2).take (Tryz.prog.cellsOf 66)) = [y0, y1, y2][2]? := hf 2 _ rfl
   rw [Tk.cellsInt1] at g0 g1
   rw [Tk.cellsTerms] at g2
   obtain ⟨o, e0, _⟩ := DataW.trod_int Tryz.underlying3 g0
   obtain ⟨m, e1, _⟩ := DataW.trod_int Tryz.underlying3 g1
   obtain rfl : c0 = .int .i64 o := (List.cons.inj e0).1
   obtain rfl : c1 = .int .i64 m := (List.cons.inj e1).1
   rcases DataW.trod_slice Tryz.underlying66 g2 with ⟨e2, _⟩ | ⟨a, len, cap, elems, rest, n', hn', e2, _, _, hlc, _, hlen, hel, _, _⟩
   ·obtain rfl : c2 = .slice none 0 0 := (List.cons.inj e2).1
    exact ⟨.mk o m [], .slice none 0 0, rfl, none, 0, rfl, .inl rfl⟩
   ·obtain rfl : c2 = .slice (some a) len cap := (List.cons.inj e2).1
    subst hn'
    have each : ∀ i, i < len → ∃ q : Tm, ∃ u, w.cell? (a.add (i * 3)) = some (.int .i64 q.op) ∧ w.cell? ((a.add (i * 3)).add 1) = some (.int .i64 q.num) ∧ w.cell? ((a.add (i * 3)).add 2) = some u ∧ Tm.Lies w w.heap.size n' u q := by
     intro i hi
     have h1 := hel i hi
     rw [Tk.cellsTerm, List.getElem?_eq_getElem (by omega)] at h1
     obtain ⟨cs', h2, h3⟩ := Option.bind_eq_some_iff.1 h1
     obtain ⟨q, u, rfl, hq⟩ := ih n' (by omega) cs' _ h3
     obtain ⟨_, hl3, hc⟩ := World.cells?_some h2
     exact ⟨q, u, by simpa [Addr.add] using hc 0 (by simp), by simpa using hc 1 (by simp), by simpa using hc 2 (by simp), hq⟩
    obtain ⟨q, hq⟩ := choose_lt each
    have hlen' : ((List.range len).map q).length = len := by simp
    have hget : ∀ j (h : j < ((List.range len).map q).length), ((List.range len).map q)[j] = q j := fun j h => by simp
    refine ⟨.mk o m ((List.range len).map q), .slice (some a) len cap, rfl, some a, cap, by rw [show (Tm.mk o m ((List.range len).map q)).ks = (List.range len).map q from rfl, hlen'], ?_⟩
    by_cases hz : len = 0
    ·subst hz; exact .inl rfl
    ·obtain ⟨g, off, spot⟩ := a
     obtain ⟨_, h0, _⟩ := hq 0 (by omega)
     have hspot : spot = none := by simpa [Addr.add] using World.cell?_spot h0
     subst hspot
     have hg : g < w.heap.size := by
      have := Tk.cell_lt h0
      simpa [Addr.add] using this
     refine .inr ⟨g, off, rfl, hg, fun j hj => ?_⟩
     have hj' : j < ((List.range len).map q).length := hj
     show ∃ u, w.cell? ⟨g, off + j * 3, none⟩ = some (.int .i64 (((List.range len).map q)[j]'hj').op) ∧ w.cell? ⟨g, off + j * 3 + 1, none⟩ = some (.int .i64 (((List.range len).map q)[j]'hj').num) ∧ w.cell? ⟨g, off + j * 3 + 2, none⟩ = some u ∧ Tm.Lies w w.heap.size (n' + 1) u (((List.range len).map q)[j]'hj')
     rw [hget j hj']
     rw [hlen'] at hj'
     obtain ⟨u, p0, p1, p2, p3⟩ := hq j hj'
     have ea : ∀ (c k : Nat), ((⟨g, off, none⟩ : Addr).add c).add k = ⟨g, off + c + k, none⟩ := fun c k => by rw [Go.WideShapes.add_plain, Go.WideShapes.add_plain]
     rw [Go.WideShapes.add_plain] at p0
     rw [ea] at p1 p2
     exact ⟨u, p0, p1, p2, p3.more⟩
end Go.Proofs
namespace Go.Proofs
open Go.RowKit Go.ChangeShapes Go.WideShapes
theorem Fk.laidOut : laidOutB Tryz.prog = true := by kernel_rfl
theorem Fk.trodAll_below' {H : Type} {enc : TypeId × Value → H} {P : Program} (hl : laidOutB P = true) {W W' : World} (hb : Below W.heap.size W W') : ∀ {ts : List TypeId} {vs : List Value} {ds : List (DataW H)} {ps : List MemPlace},
   (ts.all fun t => P.readableRec t && decide (t < P.types.size)) = true → DataW.TrodAll enc P W 0 (fun _ => true) true ts vs ds ps → (∀ x ∈ ps, x.block < W.heap.size) →
   DataW.TrodAll enc P W' 0 (fun b => decide (b < W.heap.size)) true ts vs ds ps
 | [], [], [], _, _, h, _ => h
 | t :: _, _ :: _, _ :: _, _, hT, ⟨p, q, h1, h2, e⟩, hs => by
   simp only [List.all_cons, Bool.and_eq_true, decide_eq_true_eq] at hT
   exact ⟨p, q, Below.trod hl hT.1.1 hT.1.2 h1 hb (fun x hx => hs x (by rw [e]; exact List.mem_append_left _ hx)),
    Fk.trodAll_below' hl hb hT.2 h2 (fun x hx => hs x (by rw [e]; exact List.mem_append_right _ hx)), e⟩
theorem Fk.trodAll_below {H : Type} {enc : TypeId × Value → H} {W W' : World} (hb : Below W.heap.size W W') {ts : List TypeId} {vs : List Value} {ds : List (DataW H)} {ps : List MemPlace}
 (hT : (ts.all fun t => Tryz.prog.readableRec t && decide (t < Tryz.prog.types.size)) = true) (h : DataW.TrodAll enc Tryz.prog W 0 (fun _ => true) true ts vs ds ps) (hs : ∀ x ∈ ps, x.block < W.heap.size) :
 DataW.TrodAll enc Tryz.prog W' 0 (fun b => decide (b < W.heap.size)) true ts vs ds ps := Fk.trodAll_below' Fk.laidOut hb hT h hs
theorem Fk.sized {H : Type} {ts : List TypeId} {ds : List (DataW H)} (h : (DataW.weightsEach Tryz.prog ts ds).all (· ≤ reachBytes) = true) {j : Nat} {t : TypeId} {d : DataW H} (ht : ts[j]? = some t) (hd : ds[j]? = some d) :
  ∀ n ∈ d.weights Tryz.prog t, n ≤ reachBytes := fun n hn => by
 have := List.all_eq_true.1 h n (DataW.weights_mem_each ht hd n hn)
 simpa using this
end Go.Proofs
namespace Go.Proofs
open Go.RowKit Go.ChangeShapes Go.WideShapes Go.Deep
theorem Tm.Lies.up {w : World} {B : Nat} {d e : Nat} {v : Value} {T : Tm} (h : Tm.Lies w B d v T) (he : d ≤ e) : Tm.Lies w B e v T := by
 induction he with
 | refl => exact h
 | step _ ih => exact ih.more
theorem Nt.cellsNode : Tryz.prog.cellsOf 70 = 5 := by kernel_rfl
theorem Nt.cellsFlow : Tryz.prog.cellsOf 73 = 6 := by kernel_rfl
theorem Nt.cellsNet : Tryz.prog.cellsOf 25 = 2 := by kernel_rfl
theorem Nt.cellsBool : Tryz.prog.cellsOf 4 = 1 := by kernel_rfl
theorem Nt.cellsNodes : Tryz.prog.cellsOf 22 = 1 := by kernel_rfl
theorem Nt.cellsFlows : Tryz.prog.cellsOf 23 = 1 := by kernel_rfl
theorem Nt.list2 {α : Type} {l : List α} (h : l.length = 2) : ∃ a b, l = [a, b] := by
 match l, h with
 | [a, b], _ => exact ⟨a, b, rfl⟩
theorem Nt.list4 {α : Type} {l : List α} (h : l.length = 4) : ∃ a b c d, l = [a, b, c, d] := by
 match l, h with
 | [a, b, c, d], _ => exact ⟨a, b, c, d, rfl⟩
theorem Nt.list5 {α : Type} {l : List α} (h : l.length = 5) : ∃ a b c d e, l = [a, b, c, d, e] := by
 match l, h with
 | [a, b, c, d, e], _ => exact ⟨a, b, c, d, e, rfl⟩
theorem Nt.list6 {α : Type} {l : List α} (h : l.length = 6) : ∃ a b c d e f, l = [a, b, c, d, e, f] := by
 match l, h with
 | [a, b, c, d, e, f], _ => exact ⟨a, b, c, d, e, f, rfl⟩
section
variable {H : Type} {enc : TypeId × Value → H} {w : World} {spare : Nat → Bool} {held : Bool}
theorem Nt.open_node (fuel : Nat) (cs : List Value) (x : DataW H × List MemPlace) (h : DataW.trod enc Tryz.prog w 0 spare held fuel 70 cs = some x) :
  ∃ (X : Nd) (v : Value), cs = [.int .i64 X.kind, .int .i64 X.a, .int .i64 X.t.op, .int .i64 X.t.num, v] ∧ Tm.Lies w w.heap.size fuel v X.t := by
 obtain ⟨ys, n, rfl, hx, hl, hy, hf⟩ := DataW.trod_struct Tryz.underlying70 h
 rw [Nt.cellsNode] at hl
 have hy : ys.length = 3 := hy
 obtain ⟨c0, c1, c2, c3, c4, rfl⟩ := Nt.list5 hl
 obtain ⟨y0, y1, y2, rfl⟩ := Tk.list3 hy
 have g0 : DataW.trod enc Tryz.prog w 0 spare held n 3 (([c0, c1, c2, c3, c4].drop 0).take (Tryz.prog.cellsOf 3)) = [y0, y1, y2][0]? := hf 0 _ rfl
 have g1 : DataW.trod enc Tryz.prog w 0 spare held n 3 (([c0, c1, c2, c3, c4].drop 1).take (Tryz.prog.cellsOf 3)) = [y0, y1, y2][1]? := hf 1 _ rfl
 have g2 : DataW.trod enc Tryz.prog w 0 spare held n 68 (([c0, c1, c2, c3, c4].drop 2).take (Tryz.prog.cellsOf 68)) = [y0, y1, y2][2]? := hf 2 _ rfl
 rw [Tk.cellsInt1] at g0 g1
 rw [Tk.cellsTerm] at g2
 obtain ⟨o, e0, _⟩ := DataW.trod_int Tryz.underlying3 g0
 obtain ⟨m, e1, _⟩ := DataW.trod_int Tryz.underlying3 g1
 obtain rfl : c0 = .int .i64 o := (List.cons.inj e0).1
 obtain rfl : c1 = .int .i64 m := (List.cons.inj e1).1
 obtain ⟨T, v, hcs, hT⟩ := Tm.open_term n _ _ g2
 have h3 : [c2, c3, c4] = [.int .i64 T.op, .int .i64 T.num, v] := hcs
 simp only [List.cons.injEq, and_true] at h3
 obtain ⟨rfl, rfl, rfl⟩ := h3
 exact ⟨⟨o, m, T⟩, c4, rfl, hT.up (by omega)⟩
theorem Nt.open_flow (fuel : Nat) (cs : List Value) (x : DataW H × List MemPlace) (h : DataW.trod enc Tryz.prog w 0 spare held fuel 73 cs = some x) :
  ∃ (X : Fl) (v : Value), cs = [.int .i64 X.fr, .int .i64 X.to, .bool X.els, .int .i64 X.c.op, .int .i64 X.c.num, v] ∧ Tm.Lies w w.heap.size fuel v X.c := by
 obtain ⟨ys, n, rfl, hx, hl, hy, hf⟩ := DataW.trod_struct Tryz.underlying73 h
 rw [Nt.cellsFlow] at hl
 have hy : ys.length = 4 := hy
 obtain ⟨c0, c1, c2, c3, c4, c5, rfl⟩ := Nt.list6 hl
 obtain ⟨y0, y1, y2, y3, rfl⟩ := Nt.list4 hy
 have g0 : DataW.trod enc Tryz.prog w 0 spare held n 3 (([c0, c1, c2, c3, c4, c5].drop 0).take (Tryz.prog.cellsOf 3)) = [y0, y1, y2, y3][0]? := hf 0 _ rfl
 have g1 : DataW.trod enc Tryz.prog w 0 spare held n 3 (([c0, c1, c2, c3, c4, c5].drop 1).take (Tryz.prog.cellsOf 3)) = [y0, y1, y2, y3][1]? := hf 1 _ rfl
 have g2 : DataW.trod enc Tryz.prog w 0 spare held n 4 (([c0, c1, c2, c3, c4, c5].drop 2).take (Tryz.prog.cellsOf 4)) = [y0, y1, y2, y3][2]? := hf 2 _ rfl
 have g3 : DataW.trod enc Tryz.prog w 0 spare held n 68 (([c0, c1, c2, c3, c4, c5].drop 3).take (Tryz.prog.cellsOf 68)) = [y0, y1, y2, y3][3]? := hf 3 _ rfl
 rw [Tk.cellsInt1] at g0 g1
 rw [Nt.cellsBool] at g2
 rw [Tk.cellsTerm] at g3
 obtain ⟨o, e0, _⟩ := DataW.trod_int Tryz.underlying3 g0
 obtain ⟨m, e1, _⟩ := DataW.trod_int Tryz.underlying3 g1
 obtain ⟨b, e2, _⟩ := DataW.trod_bool Tryz.underlying4 g2
 obtain rfl : c0 = .int .i64 o := (List.cons.inj e0).1
 obtain rfl : c1 = .int .i64 m := (List.cons.inj e1).1
 obtain rfl : c2 = .bool b := (List.cons.inj e2).1
 obtain ⟨T, v, hcs, hT⟩ := Tm.open_term n _ _ g3
 have h3 : [c3, c4, c5] = [.int .i64 T.op, .int .i64 T.num, v] := hcs
 simp only [List.cons.injEq, and_true] at h3
 obtain ⟨rfl, rfl, rfl⟩ := h3
 exact ⟨⟨o, m, b, T⟩, c5, rfl, hT.up (by omega)⟩
theorem Nt.open_nodes (fuel : Nat) (c : Value) (x : DataW H × List MemPlace) (h : DataW.trod enc Tryz.prog w 0 spare held fuel 22 [c] = some x) : ∃ a cap ns, c = .slice a (ns : List Nd).length cap ∧ Nt.Nds w w.heap.size fuel a ns := by
 rcases DataW.trod_slice Tryz.underlying22 h with ⟨e2, _⟩ | ⟨a, len, cap, elems, rest, n', hn', e2, _, _, hlc, _, hlen, hel, _, _⟩
 ·obtain rfl : c = .slice none 0 0 := (List.cons.inj e2).1
  exact ⟨none, 0, [], rfl, fun j hj => by simp at hj⟩
 ·obtain rfl : c = .slice (some a) len cap := (List.cons.inj e2).1
  subst hn'
  have each : ∀ i, i < len → ∃ q : Nd, ∃ u, w.cell? (a.add (i * 5)) = some (.int .i64 q.kind) ∧ w.cell? ((a.add (i * 5)).add 1) = some (.int .i64 q.a) ∧ w.cell? ((a.add (i * 5)).add 2) = some (.int .i64 q.t.op) ∧ w.cell? ((a.add (i * 5)).add 3) = some (.int .i64 q.t.num) ∧ w.cell? ((a.add (i * 5)).add 4) = some u ∧ Tm.Lies w w.heap.size n' u q.t := by
   intro i hi
   have h1 := hel i hi
   rw [Nt.cellsNode, List.getElem?_eq_getElem (by omega)] at h1
   obtain ⟨cs', h2, h3⟩ := Option.bind_eq_some_iff.1 h1
   obtain ⟨q, u, rfl, hq⟩ := Nt.open_node n' cs' _ h3
   obtain ⟨_, hl3, hc⟩ := World.cells?_some h2
   exact ⟨q, u, by simpa [Addr.add] using hc 0 (by simp), by simpa using hc 1 (by simp), by simpa using hc 2 (by simp), by simpa using hc 3 (by simp), by simpa using hc 4 (by simp), hq⟩
  by_cases hz : len = 0
  ·subst hz
   exact ⟨some a, cap, [], rfl, fun j hj => by simp at hj⟩
  ·haveI : Inhabited Nd := ⟨⟨0, 0, .mk 0 0 []⟩⟩
   obtain ⟨q, hq⟩ := choose_lt each
   have hlen' : ((List.range len).map q).length = len := by simp
   refine ⟨some a, cap, (List.range len).map q, by rw [hlen'], fun j hj => ?_⟩
   obtain ⟨g, off, spot⟩ := a
   obtain ⟨_, h0, _⟩ := hq 0 (by omega)
   have hspot : spot = none := by simpa [Addr.add] using World.cell?_spot h0
   subst hspot
   have hg : g < w.heap.size := by
    have := Tk.cell_lt h0
    simpa [Addr.add] using this
   have hget : ((List.range len).map q)[j] = q j := by simp
   rw [hget]
   rw [hlen'] at hj
   obtain ⟨u, p0, p1, p2, p3, p4, p5⟩ := hq j hj
   have ea : ∀ (c k : Nat), ((⟨g, off, none⟩ : Addr).add c).add k = ⟨g, off + c + k, none⟩ := fun c k => by rw [Go.WideShapes.add_plain, Go.WideShapes.add_plain]
   rw [Go.WideShapes.add_plain] at p0
   rw [ea] at p1 p2 p3 p4
   exact ⟨g, off, u, rfl, hg, p0, p1, p2, p3, p4, p5.up (by omega)⟩
theorem Nt.open_flows (fuel : Nat) (c : Value) (x : DataW H × List MemPlace) (h : DataW.trod enc Tryz.prog w 0 spare held fuel 23 [c] = some x) : ∃ a cap fs, c = .slice a (fs : List Fl).length cap ∧ Nt.Fls w w.heap.size fuel a fs := by
 rcases DataW.trod_slice Tryz.underlying23 h with ⟨e2, _⟩ | ⟨a, len, cap, elems, rest, n', hn', e2, _, _, hlc, _, hlen, hel, _, _⟩
 ·obtain rfl : c = .slice none 0 0 := (List.cons.inj e2).1
  exact ⟨none, 0, [], rfl, fun j hj => by simp at hj⟩
 ·obtain rfl : c = .slice (some a) len cap := (List.cons.inj e2).1
  subst hn'
  have each : ∀ i, i < len → ∃ q : Fl, ∃ u, w.cell? (a.add (i * 6)) = some (.int .i64 q.fr) ∧ w.cell? ((a.add (i * 6)).add 1) = some (.int .i64 q.to) ∧ w.cell? ((a.add (i * 6)).add 2) = some (.bool q.els) ∧ w.cell? ((a.add (i * 6)).add 3) = some (.int .i64 q.c.op) ∧ w.cell? ((a.add (i * 6)).add 4) = some (.int .i64 q.c.num) ∧ w.cell? ((a.add (i * 6)).add 5) = some u ∧ Tm.Lies w w.heap.size n' u q.c := by
   intro i hi
   have h1 := hel i hi
   rw [Nt.cellsFlow, List.getElem?_eq_getElem (by omega)] at h1
   obtain ⟨cs', h2, h3⟩ := Option.bind_eq_some_iff.1 h1
   obtain ⟨q, u, rfl, hq⟩ := Nt.open_flow n' cs' _ h3
   obtain ⟨_, hl3, hc⟩ := World.cells?_some h2
   exact ⟨q, u, by simpa [Addr.add] using hc 0 (by simp), by simpa using hc 1 (by simp), by simpa using hc 2 (by simp), by simpa using hc 3 (by simp), by simpa using hc 4 (by simp), by simpa using hc 5 (by simp), hq⟩
  by_cases hz : len = 0
  ·subst hz
   exact ⟨some a, cap, [], rfl, fun j hj => by simp at hj⟩
  ·haveI : Inhabited Fl := ⟨⟨0, 0, false, .mk 0 0 []⟩⟩
   obtain ⟨q, hq⟩ := choose_lt each
   have hlen' : ((List.range len).map q).length = len := by simp
   refine ⟨some a, cap, (List.range len).map q, by rw [hlen'], fun j hj => ?_⟩
   obtain ⟨g, off, spot⟩ := a
   obtain ⟨_, h0, _⟩ := hq 0 (by omega)
   have hspot : spot = none := by simpa [Addr.add] using World.cell?_spot h0
   subst hspot
   have hg : g < w.heap.size := by
    have := Tk.cell_lt h0
    simpa [Addr.add] using this
   have hget : ((List.range len).map q)[j] = q j := by simp
   rw [hget]
   rw [hlen'] at hj
   obtain ⟨u, p0, p1, p2, p3, p4, p5, p6⟩ := hq j hj
   have ea : ∀ (c k : Nat), ((⟨g, off, none⟩ : Addr).add c).add k = ⟨g, off + c + k, none⟩ := fun c k => by rw [Go.WideShapes.add_plain, Go.WideShapes.add_plain]
   rw [Go.WideShapes.add_plain] at p0
   rw [ea] at p1 p2 p3 p4 p5
   exact ⟨g, off, u, rfl, hg, p0, p1, p2, p3, p4, p5, p6.up (by omega)⟩
set_option maxRecDepth 20000 in
theorem Nt.open_net {r : Go.Reach} {b0 : Nat} {v : Value} {d : DataW H} {ps : List MemPlace} (hval : Value.okWide Tryz.prog w r b0 25 v) (h : DataW.Trod enc Tryz.prog w 0 spare held 25 v d ps) :
  ∃ an cn af cf ns fs fuel, v = .agg #[.slice an (ns : List Nd).length cn, .slice af (fs : List Fl).length cf] ∧ Nt.Nds w w.heap.size fuel an ns ∧ Nt.Fls w w.heap.size fuel af fs := by
 obtain ⟨cs, rfl, _⟩ := okWide_struct Tryz.underlying25 hval
 obtain ⟨fuel, hf0⟩ := h
 obtain ⟨ys, n, rfl, hx, hl, hy, hf⟩ := DataW.trod_struct Tryz.underlying25 hf0
 rw [Nt.cellsNet] at hl
 have hy : ys.length = 2 := hy
 obtain ⟨c0, c1, hcs⟩ := Nt.list2 hl
 obtain ⟨y0, y1, rfl⟩ := Nt.list2 hy
 have g0 : DataW.trod enc Tryz.prog w 0 spare held n 22 (((Value.agg cs).cells.toList.drop 0).take (Tryz.prog.cellsOf 22)) = [y0, y1][0]? := hf 0 _ rfl
 have g1 : DataW.trod enc Tryz.prog w 0 spare held n 23 (((Value.agg cs).cells.toList.drop 1).take (Tryz.prog.cellsOf 23)) = [y0, y1][1]? := hf 1 _ rfl
 rw [Nt.cellsNodes, hcs] at g0
 rw [Nt.cellsFlows, hcs] at g1
 obtain ⟨an, cn, ns, rfl, hN⟩ := Nt.open_nodes n c0 _ g0
 obtain ⟨af, cf, fs, rfl, hF⟩ := Nt.open_flows n c1 _ g1
 have hcs' : cs = #[.slice an ns.length cn, .slice af fs.length cf] := by
  have : cs.toList = [.slice an ns.length cn, .slice af fs.length cf] := hcs
  cases cs
  simp_all
 exact ⟨an, cn, af, cf, ns, fs, n, by rw [hcs'], hN, hF⟩
end
end Go.Proofs
namespace Go.Proofs.YtndfbgfpnjnmlaaGreatDoor.TokenRuns
open Go.ChangeShapes Go.WideShapes Go.ChangeAt Go.RowKit Go.Deep
section
variable {H : Type} {enc : TypeId × Value → H} {w : World} {spare : Nat → Bool} {held : Bool}
theorem cellsInt : Tryz.prog.cellsOf 3 = 1 := by kernel_rfl
set_option maxRecDepth 20000 in
theorem open_picks {base b0 : Nat} {r : Go.Reach} {v : Value} {d : DataW H} {ps : List MemPlace} (hval : Value.okWide Tryz.prog w r b0 53 v) (h : DataW.Trod enc Tryz.prog w base spare held 53 v d ps) :
  ∃ a c l, v = .slice a (l : List Int).length c ∧ Pk w w.heap.size a l := by
 obtain ⟨a0, l0, c0, rfl⟩ := okWide_slice Tryz.underlying53 hval
 obtain ⟨fuel, h⟩ := h
 rcases DataW.trod_slice Tryz.underlying53 h with ⟨e2, _⟩ | ⟨a, len, cap, elems, rest, n', hn', e2, _, _, hlc, _, hlen, hel, _, _⟩
 ·have e3 : Value.slice a0 l0 c0 = .slice none 0 0 := by simpa [Value.cells] using e2
  exact ⟨none, 0, [], e3, fun j hj => by simp at hj⟩
 ·have e3 : Value.slice a0 l0 c0 = .slice (some a) len cap := by simpa [Value.cells] using e2
  have each : ∀ i, i < len → ∃ q : Int, w.cell? (a.add i) = some (.int .i64 q) := by
   intro i hi
   have h1 := hel i hi
   rw [cellsInt, List.getElem?_eq_getElem (by omega), Nat.mul_one] at h1
   obtain ⟨cs', h2, h3⟩ := Option.bind_eq_some_iff.1 h1
   obtain ⟨q, rfl, _⟩ := DataW.trod_int Tryz.underlying3 h3
   obtain ⟨_, hl3, hc⟩ := World.cells?_some h2
   exact ⟨q, by simpa [Addr.add] using hc 0 (by simp)⟩
  obtain ⟨q, hq⟩ := choose_lt each
  have hlen' : ((List.range len).map q).length = len := by simp
  refine ⟨some a, cap, (List.range len).map q, by rw [hlen']; exact e3, fun j hj => ?_⟩
  rw [hlen'] at hj
  have hget : ((List.range len).map q)[j]'(by rw [hlen']; exact hj) = q j := by simp
  rw [hget]
  have p0 := hq j hj
  have p00 := hq 0 (by omega)
  obtain ⟨g, off, spot⟩ := a
  have hspot : spot = none := by simpa [Addr.add] using World.cell?_spot p00
  subst hspot
  rw [Go.WideShapes.add_plain] at p0
  exact ⟨g, off, rfl, World.block_lt_of_cell? _ _ p0, p0⟩
end
theorem own : ownKnob Tryz.prog.godebug = none := by kernel_rfl
set_option maxRecDepth 100000 in
theorem contract (H : Type) (enc : TypeId × Value → H) (W : World) (base : Nat) (args : Array Value) (ds gs : List (DataW H)) (before : List MemPlace) (vt : List TypeId)
  (hval : ∀ (j : Nat) t v, Tryz.f5.params[j]? = some t → args[j]? = some v → Value.okWide Tryz.prog W .any base t v)
  (hW : DataW.Whole enc Tryz.prog Tryz.f5.params.toList Rows.tokenRunsSpec.vars false W args.toList ds gs before)
  (hwt : (DataW.weightsEach Tryz.prog (Tryz.f5.params.toList ++ vt) (ds ++ gs)).all (· ≤ reachBytes) = true) (hL : laidMetH Tryz.prog Rows.tokenRunsRow.laid W) :
  Calls Tryz.prog 5 args W fun e W' => ∃ v, e = .returned v ∧ Rows.tokenRunsSpec.post enc Tryz.prog Tryz.f5 false true false false W args v W' := by
 have hW' := hW
 obtain ⟨p, q, hA0, hV, rfl, hfz, hnd⟩ := hW
 have hA : DataW.TrodAll enc Tryz.prog W 0 (fun _ => true) true Tryz.f5.params.toList args.toList ds p := hA0
 obtain ⟨rfl, rfl⟩ := trodVars_none hV
 have hlt : ∀ x ∈ p, x.block < W.heap.size := fun x hx => hW'.lt x (List.mem_append_left _ hx)
 have hargs : ∀ W', Below W.heap.size W W' → DataW.TrodAll enc Tryz.prog W' 0 (fun b => decide (b < W.heap.size)) true Tryz.f5.params.toList args.toList ds p := fun W' hb => Fk.trodAll_below hb (by kernel_rfl) hA0 hlt
 rw [Tryz.params5] at hA hval hwt
 clear hA0
 obtain ⟨v0, vs0, d0, ds0, p0, q0, hargs0, rfl, rfl, h0, r0⟩ := trodAll_cons hA
 obtain ⟨v1, vs1, d1, ds1, p1, q1, rfl, rfl, rfl, h1, r1⟩ := trodAll_cons r0
 obtain ⟨rfl, rfl, rfl⟩ := trodAll_nil r1
 obtain rfl : args = #[v0, v1] := by cases args; simp_all
 obtain ⟨an, cn, af, cf, ns, fs, fuel, rfl, hN, hF⟩ := Nt.open_net (hval 0 25 v0 rfl rfl) h0
 obtain ⟨ap, cp, l, rfl, hl⟩ := open_picks (hval 1 53 v1 rfl rfl) h1
 refine (walk an cn af cf ap cp ns fs l fuel W hN hF hl (ops_of_laid hL)).mono fun e W' ⟨he, hb⟩ => ?_
 subst he
 exact ⟨_, rfl, _, _, _, [], _, [], hW', trodAll_cons_mk (shut_bool Tryz.underlying4 _) trodAll_mk0, hargs W' hb, rfl, hb.frame _, fun h => by cases h⟩
/- The witness's world: the settled one, the tables holding what their initialisers lay. -/
noncomputable def laidWorld (os : Os) : World := { World.holding Tryz.prog os ⟨#[], #[], []⟩ with heap := (World.holding Tryz.prog os ⟨#[], #[], []⟩).heap.modify 0 fun | .cells _ t frozen => .cells Tk.opVals t frozen | o => o }
theorem laid_met (os : Os) : laidMet Tryz.prog Rows.tokenRunsRow.laid ((laidWorld os).forCall (fun _ _ => 0) ⟨#[], #[.agg #[.slice none 0 0, .slice none 0 0], .slice none 0 0], []⟩).memory :=
 laidMet_of_run' 8 (by kernel_rfl) (by kernel_rfl)
theorem reads (os : Os) {H : Type} (enc : TypeId × Value → H) : ∃ places, DataW.whole enc Tryz.prog ((laidWorld os).forCall (fun _ _ => 0) ⟨#[], #[.agg #[.slice none 0 0, .slice none 0 0], .slice none 0 0], []⟩).memory Tryz.f5.params.toList Rows.tokenRunsSpec.vars false (#[.agg #[.slice none 0 0, .slice none 0 0], .slice none 0 0] : Array Value).toList 8 = some ([.agg [.nil, .nil], .nil], [], places) :=
 ⟨[], by kernel_rfl⟩
set_option maxRecDepth 100000 in
theorem lifted (os : Os) (started : os.Started) (H : Type) (enc : TypeId × Value → H) (F : Stop.Interp) :
  ReturnsInHanded {} Tryz.checked os 5 .any ((OpenSpec.ofChange Rows.tokenRunsSpec).preRow enc Tryz.prog Tryz.f5 Rows.tokenRunsRow.domain false Rows.tokenRunsRow.laid) (((OpenSpec.ofChange Rows.tokenRunsSpec).at F).post enc Tryz.prog Tryz.f5 false true false false) := by
 obtain ⟨places, hx⟩ := reads os enc
 refine returnsInHanded_of_row (C := Tryz.checked) (s := OpenSpec.ofChange Rows.tokenRunsSpec) own started (by kernel_rfl) Tryz.func5
  (witness_row_at (enc := enc) (C := Tryz.checked) false (laidWorld os) #[.agg #[.slice none 0 0, .slice none 0 0], .slice none 0 0] rfl (by kernel_rfl) (by kernel_rfl) (by kernel_rfl)
   (OpenSpec.preRow_of_cond 8 hx (by kernel_rfl) (fun k hk => by cases hk) (by kernel_rfl) (laid_met os))) ?_
 intro W base args ds gs before hval hW _ _ hwt hL _ _
 exact contract H enc W base args ds gs before _ hval hW hwt hL
theorem said : Rows.TokenRunsSaid :=
 OpenClaim.holds_of_cond 5 Tryz.f5 rfl rfl rfl rfl rfl rfl rfl ⟨rfl, rfl, rfl, rfl, rfl⟩ rfl rfl rfl rfl rfl (by kernel_rfl) Tryz.func5 (by kernel_rfl)
  (of_decide_eq_true (by kernel_rfl)) (by unfold Func.isWrapper; first | (rw [if_pos (by decide +kernel)]; kernel_rfl) | (rw [if_neg (by decide +kernel)]; exact ⟨rfl, rfl⟩))
  (fun os started H enc _ F => by rw [OpenClaim.pre_eq_preRow]; exact lifted os started H enc F)
theorem plain (f : FuncId) (fn : Func) (hf : Tryz.pinned.checked.prog.funcNamed "treenail/treenaillaw07.TokenRuns" = some f) (hfn : Tryz.pinned.checked.prog.funcs[f]? = some fn) :
  false = Tryz.pinned.checked.prog.looks [] ∧ ∀ (j : Nat) t, fn.params[j]? = some t → Tryz.pinned.checked.prog.wantsStandIn t = false := by
 obtain rfl : f = 5 := Option.some.inj ((show Tryz.prog.funcNamed "treenail/treenaillaw07.TokenRuns" = some 5 by kernel_rfl).symm.trans hf) |>.symm
 obtain rfl : fn = Tryz.f5 := (Option.some.inj (Tryz.func5.symm.trans hfn)).symm
 refine ⟨by kernel_rfl, fun j t ht => ?_⟩
 have hall : (Tryz.f5.params.toList.all fun t => Tryz.prog.wantsStandIn t == false) = true := by kernel_rfl
 have := List.all_eq_true.1 hall t (Array.mem_toList_iff.2 (Array.mem_of_getElem? ht))
 exact (show Tryz.prog.wantsStandIn t = false by simpa using this)
theorem card : Rows.TokenRunsCardSaid :=
 Claim7.holds_tied_plain_at .later [] _ _ _ _ said (fun _ h => by cases h) (by kernel_rfl) (fun _ h => by cases h) tokenRuns_row_tie rfl ⟨rfl, rfl⟩ (by kernel_rfl) rfl plain (by kernel_rfl)
end Go.Proofs.YtndfbgfpnjnmlaaGreatDoor.TokenRuns
namespace Go.Proofs.YtndfbgfpnjnmlaaGreatDoor
theorem tokenRuns_card : Rows.TokenRunsCardSaid := TokenRuns.card
end Go.Proofs.YtndfbgfpnjnmlaaGreatDoor
