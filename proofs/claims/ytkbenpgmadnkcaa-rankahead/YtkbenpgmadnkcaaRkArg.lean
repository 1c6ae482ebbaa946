/-
  Edges that came in, as they are read, and how many they can be.
-/
import Derived.Test.YtkbenpgmadnkcaaRkAll
import Derived.Test.YtkbenpgmadnkcaaFrameKit
import Derived.Deep.SlicePairs
import Derived.Lib.SmallJoins
import Derived.SizedLaws
namespace Go.Proofs
open Go.RowKit Go.ChangeShapes Go.WideShapes Go.Deep

section
variable {H : Type} {enc : TypeId × Value → H} {w : World} {spare : Nat → Bool} {held : Bool}

theorem Rk.cellsEdge : Try.prog.cellsOf 45 = 2 := by kernel_rfl
theorem Rk.cellsInt : Try.prog.cellsOf 3 = 1 := by kernel_rfl
theorem Rk.bytesEdge : Try.prog.bytesOf 45 = 16 := by kernel_rfl
theorem Rk.cell_lt {w : World} {a : Addr} {v : Value} (h : w.cell? a = some v) : a.block < w.heap.size := by
  rcases Nat.lt_or_ge a.block w.heap.size with h1 | h1
  · exact h1
  · unfold World.cell? at h
    simp [h1] at h

theorem Rk.open_edges {base b0 : Nat} {r : Go.Reach} {v : Value} {d : DataW H} {ps : List MemPlace} (hval : Value.okWide Try.prog w r b0 22 v) (h : DataW.Trod enc Try.prog w base spare held 22 v d ps) :
    ∃ a c rs, v = .slice a (rs : List (Int × Int)).length c ∧ Rk.Eds w w.heap.size a rs ∧ ((∀ n ∈ d.weights Try.prog 22, n ≤ reachBytes) → rs.length ≤ 1000000000000000) := by
  obtain ⟨a0, l0, c0, rfl⟩ := okWide_slice Try.underlying22 hval
  obtain ⟨fuel, h⟩ := h
  rcases open_slice_pairs Try.underlying22 Try.underlying45 Rk.cellsEdge rfl rfl Rk.cellsInt Rk.cellsInt h with ⟨hv, _⟩ | ⟨a, len, cap, m, n, V0, V1, D0, D1, P0, P1, hv, _, hl, hm, hmm, hx0, hx⟩
  · have hv' : Value.slice a0 l0 c0 = .slice none 0 0 := by simpa [Value.cells] using hv
    exact ⟨none, 0, [], hv', fun j hj => by simp at hj, fun _ => by simp⟩
  · have hv' : Value.slice a0 l0 c0 = .slice (some a) len cap := by simpa [Value.cells] using hv
    have hlm : len ≤ m := by rw [hmm]; split <;> omega
    have each : ∀ i, i < len → ∃ q : Int × Int, w.cell? (a.add (i * 2)) = some (.int .i64 q.1) ∧ w.cell? (a.add (i * 2 + 1)) = some (.int .i64 q.2) := by
      intro i hi
      obtain ⟨h0, h1, g0, g1⟩ := hx i (by omega)
      obtain ⟨s0, e0, d0, _⟩ := DataW.trod_int Try.underlying3 g0
      obtain ⟨s1, e1, d1, _⟩ := DataW.trod_int Try.underlying3 g1
      simp only [List.cons.injEq, and_true] at e0 e1
      exact ⟨(s0, s1), by rw [h0, e0], by rw [h1, e1]⟩
    obtain ⟨q, hq⟩ := choose_lt each
    have hlen : ((List.range len).map q).length = len := by simp
    refine ⟨some a, cap, (List.range len).map q, by rw [hlen]; exact hv', fun j hj => ?_, fun hw => ?_⟩
    · have hget : ((List.range len).map q)[j] = q j := by simp
      rw [hget]
      rw [hlen] at hj
      obtain ⟨g, off, spot⟩ := a
      have h0 := (hq 0 (by omega)).1
      have hspot : spot = none := by simpa [Addr.add] using World.cell?_spot h0
      subst hspot
      have hg : g < w.heap.size := by
        have := Rk.cell_lt h0
        simpa [Addr.add] using this
      have := hq j hj
      exact ⟨g, off, rfl, hg, by rw [← add_plain]; exact this.1, by rw [Nat.add_assoc, ← add_plain]; exact this.2⟩
    · have hd : d = .slice ((List.range len).map fun i => .agg [D0 i, D1 i]) ((List.range (m - len)).map fun j => .agg [D0 (len + j), D1 (len + j)]) := congrArg Prod.fst hx0
      have := hw ((((List.range len).map fun i => DataW.agg [D0 i, D1 i]).length + ((List.range (m - len)).map fun j => DataW.agg [D0 (len + j), D1 (len + j)]).length) * Try.prog.bytesOf 45) (by rw [hd]; simp [DataW.weights, Try.underlying22])
      rw [Rk.bytesEdge] at this
      simp only [List.length_map, List.length_range] at this
      have hr := reachBytes_lt
      rw [hlen]; omega

end
end Go.Proofs
