/-
  A step, and steps, that came in, as they are read.
-/
import Derived.Test.YtclpdhjchnbolaaCkTwo
import Derived.Test.YtclpdhjchnbolaaFrameKit
import Derived.Deep.Slices
import Derived.Lib.SmallJoins
import Derived.OpenShut
namespace Go.Proofs
open Go.RowKit Go.ChangeShapes Go.WideShapes Go.Deep

/-- A step: what, which key, which message. -/
abbrev Ck.Stp := Int × Int × Int
/-- Steps in memory, in blocks below B. -/
def Ck.Sts (w : World) (B : Nat) (a : Option Addr) (l : List Ck.Stp) : Prop := ∀ j (h : j < l.length), ∃ g off, a = some ⟨g, off, none⟩ ∧ g < B ∧ w.cell? ⟨g, off + j * 3, none⟩ = some (.int .i64 l[j].1) ∧ w.cell? ⟨g, off + j * 3 + 1, none⟩ = some (.int .i64 l[j].2.1) ∧ w.cell? ⟨g, off + j * 3 + 2, none⟩ = some (.int .i64 l[j].2.2) ∧ (Lit.int .i64 l[j].2.1).wf = true

section
variable {H : Type} {enc : TypeId × Value → H} {w : World} {spare : Nat → Bool} {held : Bool}
theorem Ck.cellsStep : Try.prog.cellsOf 31 = 3 := by kernel_rfl
theorem Ck.cellsInt : Try.prog.cellsOf 3 = 1 := by kernel_rfl
theorem Ck.list3 {α : Type} {l : List α} (h : l.length = 3) : ∃ a b c, l = [a, b, c] := by
  match l, h with
  | [a, b, c], _ => exact ⟨a, b, c, rfl⟩
theorem Ck.cell_lt {w : World} {a : Addr} {v : Value} (h : w.cell? a = some v) : a.block < w.heap.size := by
  rcases Nat.lt_or_ge a.block w.heap.size with h1 | h1
  · exact h1
  · unfold World.cell? at h
    simp [h1] at h
theorem Ck.open_stp {base fuel : Nat} {cs : List Value} {x : DataW H × List MemPlace} (h : DataW.trod enc Try.prog w base spare held fuel 31 cs = some x) :
    ∃ y : Ck.Stp, cs = [.int .i64 y.1, .int .i64 y.2.1, .int .i64 y.2.2] ∧ (Lit.int .i64 y.2.1).wf = true := by
  obtain ⟨ys, n, rfl, hx, hl, hy, hf⟩ := DataW.trod_struct Try.underlying31 h
  rw [Ck.cellsStep] at hl
  have hy : ys.length = 3 := hy
  obtain ⟨c0, c1, c2, rfl⟩ := Ck.list3 hl
  obtain ⟨y0, y1, y2, rfl⟩ := Ck.list3 hy
  have g0 : DataW.trod enc Try.prog w base spare held n 3 (([c0, c1, c2].drop 0).take (Try.prog.cellsOf 3)) = [y0, y1, y2][0]? := hf 0 _ rfl
  have g1 : DataW.trod enc Try.prog w base spare held n 3 (([c0, c1, c2].drop 1).take (Try.prog.cellsOf 3)) = [y0, y1, y2][1]? := hf 1 _ rfl
  have g2 : DataW.trod enc Try.prog w base spare held n 3 (([c0, c1, c2].drop 2).take (Try.prog.cellsOf 3)) = [y0, y1, y2][2]? := hf 2 _ rfl
  rw [Ck.cellsInt] at g0 g1 g2
  obtain ⟨m0, e0, _, _⟩ := DataW.trod_int Try.underlying3 g0
  obtain ⟨m1, e1, _, w1⟩ := DataW.trod_int Try.underlying3 g1
  obtain ⟨m2, e2, _, _⟩ := DataW.trod_int Try.underlying3 g2
  obtain rfl : c0 = .int .i64 m0 := (List.cons.inj e0).1
  obtain rfl : c1 = .int .i64 m1 := (List.cons.inj e1).1
  obtain rfl : c2 = .int .i64 m2 := (List.cons.inj e2).1
  exact ⟨(m0, m1, m2), rfl, w1⟩
theorem Ck.open_step {base b0 : Nat} {r : Go.Reach} {v : Value} {d : DataW H} {ps : List MemPlace} (hval : Value.okWide Try.prog w r b0 31 v) (h : DataW.Trod enc Try.prog w base spare held 31 v d ps) :
    ∃ y : Ck.Stp, v = .agg #[.int .i64 y.1, .int .i64 y.2.1, .int .i64 y.2.2] ∧ (Lit.int .i64 y.2.1).wf = true := by
  obtain ⟨cs, rfl, _⟩ : ∃ cs, v = .agg cs ∧ cs.size = Try.prog.cellsOf 31 := by
    simp only [Value.okWide, Try.underlying31] at hval
    obtain ⟨cs, h1, h2, _⟩ := hval
    exact ⟨cs, h1, h2⟩
  obtain ⟨fuel, hf⟩ := h
  obtain ⟨y, hy, hw⟩ := Ck.open_stp hf
  refine ⟨y, ?_, hw⟩
  have e : cs = #[.int .i64 y.1, .int .i64 y.2.1, .int .i64 y.2.2] := by
    have : cs.toList = [.int .i64 y.1, .int .i64 y.2.1, .int .i64 y.2.2] := hy
    rw [← Array.toArray_toList (xs := cs), this]
  rw [e]
theorem Ck.open_steps {base b0 : Nat} {r : Go.Reach} {v : Value} {d : DataW H} {ps : List MemPlace} (hval : Value.okWide Try.prog w r b0 22 v) (h : DataW.Trod enc Try.prog w base spare held 22 v d ps) :
    ∃ a c l, v = .slice a (l : List Ck.Stp).length c ∧ Ck.Sts w w.heap.size a l ∧ l.length ≤ c := by
  obtain ⟨a0, l0, c0, rfl⟩ := okWide_slice Try.underlying22 hval
  obtain ⟨fuel, h⟩ := h
  rcases DataW.trod_slice Try.underlying22 h with ⟨e2, _⟩ | ⟨a, len, cap, elems, rest, n', hn', e2, _, _, hlc, _, hlen, hel, _, _⟩
  · have e3 : Value.slice a0 l0 c0 = .slice none 0 0 := by simpa [Value.cells] using e2
    exact ⟨none, 0, [], e3, fun j hj => by simp at hj, by simp⟩
  · have e3 : Value.slice a0 l0 c0 = .slice (some a) len cap := by simpa [Value.cells] using e2
    have each : ∀ i, i < len → ∃ q : Ck.Stp, w.cell? (a.add (i * 3)) = some (.int .i64 q.1) ∧ w.cell? ((a.add (i * 3)).add 1) = some (.int .i64 q.2.1) ∧ w.cell? ((a.add (i * 3)).add 2) = some (.int .i64 q.2.2) ∧ (Lit.int .i64 q.2.1).wf = true := by
      intro i hi
      have h1 := hel i hi
      rw [Ck.cellsStep, List.getElem?_eq_getElem (by omega)] at h1
      obtain ⟨cs', h2, h3⟩ := Option.bind_eq_some_iff.1 h1
      obtain ⟨q, rfl, hq⟩ := Ck.open_stp h3
      obtain ⟨_, hl3, hc⟩ := World.cells?_some h2
      exact ⟨q, by simpa [Addr.add] using hc 0 (by simp), by simpa using hc 1 (by simp), by simpa using hc 2 (by simp), hq⟩
    obtain ⟨q, hq⟩ := choose_lt each
    have hlen' : ((List.range len).map q).length = len := by simp
    refine ⟨some a, cap, (List.range len).map q, by rw [hlen']; exact e3, fun j hj => ?_, by rw [hlen']; exact hlc⟩
    rw [hlen'] at hj
    have hget : ((List.range len).map q)[j]'(by rw [hlen']; exact hj) = q j := by simp
    rw [hget]
    obtain ⟨p0, p1, p2, p3⟩ := hq j hj
    obtain ⟨g, off, spot⟩ := a
    obtain ⟨z0, _⟩ := hq 0 (by omega)
    have hspot : spot = none := by simpa [Addr.add] using World.cell?_spot z0
    subst hspot
    have hg : g < w.heap.size := by
      have := Ck.cell_lt z0
      simpa [Addr.add] using this
    have ea : ∀ (c k : Nat), ((⟨g, off, none⟩ : Addr).add c).add k = ⟨g, off + c + k, none⟩ := fun c k => by rw [Go.WideShapes.add_plain, Go.WideShapes.add_plain]
    rw [Go.WideShapes.add_plain] at p0
    rw [ea] at p1 p2
    exact ⟨g, off, rfl, hg, p0, p1, p2, p3⟩
theorem Ck.open_nums {base b0 : Nat} {r : Go.Reach} {v : Value} {d : DataW H} {ps : List MemPlace} (hval : Value.okWide Try.prog w r b0 37 v) (h : DataW.Trod enc Try.prog w base spare held 37 v d ps) :
    ∃ a c l, v = .slice a (l : List Int).length c ∧ Ck.Nums w w.heap.size a l := by
  obtain ⟨a0, l0, c0, rfl⟩ := okWide_slice Try.underlying37 hval
  obtain ⟨fuel, h⟩ := h
  rcases DataW.trod_slice Try.underlying37 h with ⟨e2, _⟩ | ⟨a, len, cap, elems, rest, n', hn', e2, _, _, hlc, _, hlen, hel, _, _⟩
  · have e3 : Value.slice a0 l0 c0 = .slice none 0 0 := by simpa [Value.cells] using e2
    exact ⟨none, 0, [], e3, fun j hj => by simp at hj⟩
  · have e3 : Value.slice a0 l0 c0 = .slice (some a) len cap := by simpa [Value.cells] using e2
    have each : ∀ i, i < len → ∃ q : Int, w.cell? (a.add (i * 1)) = some (.int .i64 q) := by
      intro i hi
      have h1 := hel i hi
      rw [Ck.cellsInt, List.getElem?_eq_getElem (by omega)] at h1
      obtain ⟨cs', h2, h3⟩ := Option.bind_eq_some_iff.1 h1
      obtain ⟨q, e, _, _⟩ := DataW.trod_int Try.underlying3 h3
      subst e
      obtain ⟨_, hl3, hc⟩ := World.cells?_some h2
      exact ⟨q, by simpa [Addr.add] using hc 0 (by simp)⟩
    obtain ⟨q, hq⟩ := choose_lt each
    have hlen' : ((List.range len).map q).length = len := by simp
    refine ⟨some a, cap, (List.range len).map q, by rw [hlen']; exact e3, fun j hj => ?_⟩
    rw [hlen'] at hj
    have hget : ((List.range len).map q)[j]'(by rw [hlen']; exact hj) = q j := by simp
    rw [hget]
    have p0 := hq j hj
    obtain ⟨g, off, spot⟩ := a
    have z0 := hq 0 (by omega)
    have hspot : spot = none := by simpa [Addr.add] using World.cell?_spot z0
    subst hspot
    have hg : g < w.heap.size := by
      have := Ck.cell_lt z0
      simpa [Addr.add] using this
    rw [Go.WideShapes.add_plain, Nat.mul_one] at p0
    exact ⟨g, off, rfl, hg, p0⟩
end

end Go.Proofs
