/-
  An array of two ints that came in.
-/
import Derived.Test.YteeanikildmmnaaDoorTArrEq
namespace Go.Proofs
open Go.RowKit

theorem Tk.cells_arr2 : Tryd.prog.cellsOf 48 = 2 := by kernel_rfl
theorem Tk.array2 {α : Type} {cs : Array α} (h : cs.size = 2) : ∃ a b, cs = #[a, b] := by
  obtain ⟨l⟩ := cs
  match l, h with
  | [a, b], _ => exact ⟨a, b, rfl⟩
theorem Tk.list2 {α : Type} {l : List α} (h : l.length = 2) : ∃ a b, l = [a, b] := by
  match l, h with
  | [a, b], _ => exact ⟨a, b, rfl⟩
theorem Tk.open_arr2 {H : Type} {enc : TypeId × Value → H} {W : World} {spare : Nat → Bool} {held : Bool} {r : Reach} {base b0 : Nat} {v : Value} {dd : DataW H} {p : List MemPlace}
    (hv : Value.okWide Tryd.prog W r b0 48 v) (h : DataW.Trod enc Tryd.prog W base spare held 48 v dd p) : ∃ x0 x1, v = .agg #[.int .i64 x0, .int .i64 x1] := by
  obtain ⟨cs, rfl, hs⟩ : ∃ cs, v = .agg cs ∧ cs.size = Tryd.prog.cellsOf 48 := by
    simp only [Value.okWide, Tryd.underlying48] at hv
    obtain ⟨cs, h1, h2, _⟩ := hv
    exact ⟨cs, h1, h2⟩
  rw [Tk.cells_arr2] at hs
  obtain ⟨c0, c1, rfl⟩ := Tk.array2 hs
  obtain ⟨fuel, hf⟩ := h
  obtain ⟨xs, m, _, _, _, hxl, hx⟩ := DataW.trod_array Tryd.underlying48 hf
  obtain ⟨y0, y1, rfl⟩ := Tk.list2 hxl
  rw [Tk.cells_int] at hx
  have g0 : DataW.trod enc Tryd.prog W base spare held m 3 [c0] = some y0 := hx 0 (by decide)
  have g1 : DataW.trod enc Tryd.prog W base spare held m 3 [c1] = some y1 := hx 1 (by decide)
  obtain ⟨n0, e0, _⟩ := DataW.trod_int Tryd.underlying3 g0
  obtain ⟨n1, e1, _⟩ := DataW.trod_int Tryd.underlying3 g1
  rw [(List.cons.inj e0).1, (List.cons.inj e1).1]
  exact ⟨n0, n1, rfl⟩

end Go.Proofs
