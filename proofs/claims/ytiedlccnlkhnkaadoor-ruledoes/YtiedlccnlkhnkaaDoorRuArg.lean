/-
  A rule that came in, an array of forty numbers that came in.
-/
import Derived.Test.YtiedlccnlkhnkaaDoorAllRuDo
import Derived.Test.YtiedlccnlkhnkaaDoorTArg
import Derived.Test.YtiedlccnlkhnkaaDoorFrameKit
import Derived.OpenShut
import Derived.Deep.Slices
namespace Go.Proofs
open Go.RowKit Go.ChangeShapes Go.WideShapes Go.Deep

section
variable {H : Type} {enc : TypeId × Value → H} {w : World} {spare : Nat → Bool} {held : Bool}

theorem Ru.cellsInt : Tryd.prog.cellsOf 3 = 1 := by kernel_rfl
theorem Ru.cellsInts : Tryd.prog.cellsOf 51 = 1 := by kernel_rfl
theorem Ru.cellsRule : Tryd.prog.cellsOf 53 = 4 := by kernel_rfl
theorem Ru.cellsArr : Tryd.prog.cellsOf 56 = 40 := by kernel_rfl
theorem Ru.list4 {α : Type} {l : List α} (h : l.length = 4) : ∃ a b c d, l = [a, b, c, d] := by
  match l, h with
  | [a, b, c, d], _ => exact ⟨a, b, c, d, rfl⟩
theorem Ru.cell_block {w : World} {a : Addr} {v : Value} (h : w.cell? a = some v) : ∃ o, w.heap[a.block]? = some o := by
  unfold World.cell? at h
  cases hb : w.heap[a.block]? with
  | none => simp [hb] at h
  | some o => exact ⟨o, rfl⟩

theorem Ru.open_nums (fuel : Nat) (c : Value) (x : DataW H × List MemPlace) (h : DataW.trod enc Tryd.prog w 0 spare held fuel 51 [c] = some x) : ∃ a n cap l, c = .slice a n cap ∧ Ru.Nums w (.slice a n cap) l := by
  rcases DataW.trod_slice Tryd.underlying51 h with ⟨e2, _⟩ | ⟨a, len, cap, elems, rest, n', hn', e2, _, _, hlc, _, hlen, hel, _, _⟩
  · obtain rfl : c = .slice none 0 0 := (List.cons.inj e2).1
    exact ⟨none, 0, 0, [], rfl, none, 0, rfl, fun j hj => by simp at hj⟩
  · obtain rfl : c = .slice (some a) len cap := (List.cons.inj e2).1
    subst hn'
    have each : ∀ i, i < len → ∃ q : Int, w.cell? (a.add i) = some (.int .i64 q) := by
      intro i hi
      have h1 := hel i hi
      rw [Ru.cellsInt, List.getElem?_eq_getElem (by omega), Nat.mul_one] at h1
      obtain ⟨cs', h2, h3⟩ := Option.bind_eq_some_iff.1 h1
      obtain ⟨q, rfl, _⟩ := DataW.trod_int Tryd.underlying3 h3
      obtain ⟨_, hl3, hc⟩ := World.cells?_some h2
      exact ⟨q, by simpa [Addr.add] using hc 0 (by simp)⟩
    by_cases hz : len = 0
    · subst hz
      exact ⟨some a, 0, cap, [], rfl, some a, cap, rfl, fun j hj => by simp at hj⟩
    · obtain ⟨q, hq⟩ := choose_lt each
      have hlen' : ((List.range len).map q).length = len := by simp
      refine ⟨some a, len, cap, (List.range len).map q, rfl, some a, cap, by rw [hlen'], fun j hj => ?_⟩
      obtain ⟨g, off, spot⟩ := a
      have h0 := hq 0 (by omega)
      have hspot : spot = none := by simpa [Addr.add] using World.cell?_spot h0
      subst hspot
      have hget : ((List.range len).map q)[j] = q j := by simp
      rw [hget]
      rw [hlen'] at hj
      have hj' := hq j hj
      rw [Go.WideShapes.add_plain] at hj'
      obtain ⟨o, ho⟩ := Ru.cell_block hj'
      exact ⟨g, off, o, (), rfl, ho, hj'⟩

set_option maxRecDepth 20000 in
/-- A rule that came in. -/
theorem Ru.open_rule {r : Go.Reach} {b0 : Nat} {v : Value} {d : DataW H} {ps : List MemPlace} (hval : Value.okWide Tryd.prog w r b0 53 v) (h : DataW.Trod enc Tryd.prog w 0 spare held 53 v d ps) :
    ∃ kd nd a1 n1 c1 a2 n2 c2 ne gi, v = .agg #[.int .i64 kd, .int .i64 nd, .slice a1 n1 c1, .slice a2 n2 c2] ∧ Ru.Nums w (.slice a1 n1 c1) ne ∧ Ru.Nums w (.slice a2 n2 c2) gi := by
  obtain ⟨cs, rfl, _⟩ := okWide_struct Tryd.underlying53 hval
  obtain ⟨fuel, hf0⟩ := h
  obtain ⟨ys, n, rfl, hx, hl, hy, hf⟩ := DataW.trod_struct Tryd.underlying53 hf0
  rw [Ru.cellsRule] at hl
  have hy : ys.length = 4 := hy
  obtain ⟨c0, c1, c2, c3, hcs⟩ := Ru.list4 hl
  obtain ⟨y0, y1, y2, y3, rfl⟩ := Ru.list4 hy
  have g0 : DataW.trod enc Tryd.prog w 0 spare held n 3 (((Value.agg cs).cells.toList.drop 0).take (Tryd.prog.cellsOf 3)) = [y0, y1, y2, y3][0]? := hf 0 _ rfl
  have g1 : DataW.trod enc Tryd.prog w 0 spare held n 3 (((Value.agg cs).cells.toList.drop 1).take (Tryd.prog.cellsOf 3)) = [y0, y1, y2, y3][1]? := hf 1 _ rfl
  have g2 : DataW.trod enc Tryd.prog w 0 spare held n 51 (((Value.agg cs).cells.toList.drop 2).take (Tryd.prog.cellsOf 51)) = [y0, y1, y2, y3][2]? := hf 2 _ rfl
  have g3 : DataW.trod enc Tryd.prog w 0 spare held n 51 (((Value.agg cs).cells.toList.drop 3).take (Tryd.prog.cellsOf 51)) = [y0, y1, y2, y3][3]? := hf 3 _ rfl
  rw [Ru.cellsInt, hcs] at g0 g1
  rw [Ru.cellsInts, hcs] at g2 g3
  obtain ⟨kd, e0, _⟩ := DataW.trod_int Tryd.underlying3 g0
  obtain ⟨nd, e1, _⟩ := DataW.trod_int Tryd.underlying3 g1
  obtain rfl : c0 = .int .i64 kd := (List.cons.inj e0).1
  obtain rfl : c1 = .int .i64 nd := (List.cons.inj e1).1
  obtain ⟨a1, n1, k1, ne, rfl, hN1⟩ := Ru.open_nums n c2 _ g2
  obtain ⟨a2, n2, k2, gi, rfl, hN2⟩ := Ru.open_nums n c3 _ g3
  have hcs' : cs = #[.int .i64 kd, .int .i64 nd, .slice a1 n1 k1, .slice a2 n2 k2] := by
    have : cs.toList = [.int .i64 kd, .int .i64 nd, .slice a1 n1 k1, .slice a2 n2 k2] := hcs
    cases cs
    simp_all
  exact ⟨kd, nd, a1, n1, k1, a2, n2, k2, ne, gi, by rw [hcs'], hN1, hN2⟩

set_option maxRecDepth 20000 in
/-- Forty numbers that came in. -/
theorem Ru.open_arr {r : Go.Reach} {b0 base : Nat} {v : Value} {d : DataW H} {ps : List MemPlace} (hval : Value.okWide Tryd.prog w r b0 56 v) (h : DataW.Trod enc Tryd.prog w base spare held 56 v d ps) : ∃ T, v = .agg (Ru.arr T) ∧ Ru.Fit T := by
  obtain ⟨cs, rfl, hs⟩ : ∃ cs, v = .agg cs ∧ cs.size = Tryd.prog.cellsOf 56 := by
    simp only [Value.okWide, Tryd.underlying56] at hval
    obtain ⟨cs, h1, h2, _⟩ := hval
    exact ⟨cs, h1, h2⟩
  rw [Ru.cellsArr] at hs
  obtain ⟨fuel, hf⟩ := h
  obtain ⟨xs, m, _, _, _, hxl, hx⟩ := DataW.trod_array Tryd.underlying56 hf
  rw [Ru.cellsInt] at hx
  have each : ∀ i, i < 40 → ∃ q : Int, cs.toList[i]? = some (.int .i64 q) ∧ (Lit.int .i64 q).wf = true := by
    intro i hi
    have h1 := hx i hi
    rw [Nat.mul_one, List.getElem?_eq_getElem (by omega)] at h1
    obtain ⟨q, e, _, hw⟩ := DataW.trod_int Tryd.underlying3 h1
    have hil : i < cs.toList.length := by rw [Array.length_toList]; omega
    have e2 : (cs.toList.drop i).take 1 = [cs.toList[i]] := by
      rw [List.drop_eq_getElem_cons hil]
      rfl
    have e3 : [cs.toList[i]] = [Value.int .i64 q] := e2.symm.trans e
    exact ⟨q, by rw [List.getElem?_eq_getElem hil, (List.cons.inj e3).1], hw⟩
  obtain ⟨q, hq⟩ := choose_lt each
  refine ⟨(List.range 40).map q, ?_, by simp, fun x hx => ?_⟩
  · congr 1
    apply Array.ext'
    unfold Ru.arr
    apply List.ext_getElem?
    intro i
    by_cases hi : i < 40
    · rw [(hq i hi).1]
      simp [hi]
    · rw [List.getElem?_eq_none (by rw [Array.length_toList]; omega), List.getElem?_eq_none (by simp; omega)]
  · obtain ⟨i, hi, rfl⟩ := List.mem_map.1 hx
    have := (hq i (List.mem_range.1 hi)).2
    simp [Lit.wf] at this
    have hm : IntKind.i64.min = -9223372036854775808 := by kernel_rfl
    rw [hm] at this
    exact this

end
end Go.Proofs
