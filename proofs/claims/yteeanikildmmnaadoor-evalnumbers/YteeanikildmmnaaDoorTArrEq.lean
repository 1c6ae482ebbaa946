/-
  Two equal arrays of four numbers are the same to Go; an array of four numbers that came in.
-/
import Derived.Test.YteeanikildmmnaaDoorTHalves
import Derived.ChangeKeysEq
import Derived.OpenShut
namespace Go.Proofs
open Go.RowKit Go.ChangeShapes Go.WideShapes

theorem Tk.int_eq (d : Nat) (a : Int) (W : World) : (Op.equalIn (d + 1) 3 (.int .i64 a) (.int .i64 a)).run Tryd.prog W = .ok true W := by
  simp [Op.equalIn, go_sem]
theorem Tk.guard_arr : Tryd.prog.eqGuardType Tryd.prog.depth 25 = false := by kernel_rfl
theorem Tk.info_int : ∃ i, Tryd.prog.info? 3 = some i := ⟨_, rfl⟩
theorem Tk.cells_int : Tryd.prog.cellsOf 3 = 1 := by kernel_rfl
theorem Tk.cells_arr : Tryd.prog.cellsOf 25 = 4 := by kernel_rfl
theorem Tk.arr_eq (y0 y1 y2 y3 : Int) (W : World) : (Op.equal 25 (.agg #[.int .i64 y0, .int .i64 y1, .int .i64 y2, .int .i64 y3]) (.agg #[.int .i64 y0, .int .i64 y1, .int .i64 y2, .int .i64 y3])).run Tryd.prog W = .ok true W := by
  have h1 := Tryd.underlying25
  obtain ⟨i, hi⟩ := Tk.info_int
  show (Op.equalIn (9999 + 1) 25 _ _).run Tryd.prog W = _
  rw [run_equalIn_array W 9999 _ _ h1 hi, Tk.cells_int]
  have hp0 : ∀ W : World, (part 3 #[.int .i64 y0, .int .i64 y1, .int .i64 y2, .int .i64 y3] 0).run Tryd.prog W = .ok (.int .i64 y0) W := fun _ => by kernel_rfl
  have hp1 : ∀ W : World, (part 3 #[.int .i64 y0, .int .i64 y1, .int .i64 y2, .int .i64 y3] 1).run Tryd.prog W = .ok (.int .i64 y1) W := fun _ => by kernel_rfl
  have hp2 : ∀ W : World, (part 3 #[.int .i64 y0, .int .i64 y1, .int .i64 y2, .int .i64 y3] 2).run Tryd.prog W = .ok (.int .i64 y2) W := fun _ => by kernel_rfl
  have hp3 : ∀ W : World, (part 3 #[.int .i64 y0, .int .i64 y1, .int .i64 y2, .int .i64 y3] 3).run Tryd.prog W = .ok (.int .i64 y3) W := fun _ => by kernel_rfl
  have he : ∀ (a : Int) (W : World), (Op.equalIn 9999 3 (.int .i64 a) (.int .i64 a)).run Tryd.prog W = .ok true W := fun a W => Tk.int_eq 9998 a W
  simp [List.range, List.range.loop, Op.eqItems, Sem.run_bind, hp0, hp1, hp2, hp3, he]

theorem Tk.array4 {α : Type} {cs : Array α} (h : cs.size = 4) : ∃ a b c d, cs = #[a, b, c, d] := by
  obtain ⟨l⟩ := cs
  match l, h with
  | [a, b, c, d], _ => exact ⟨a, b, c, d, rfl⟩
theorem Tk.list4 {α : Type} {l : List α} (h : l.length = 4) : ∃ a b c d, l = [a, b, c, d] := by
  match l, h with
  | [a, b, c, d], _ => exact ⟨a, b, c, d, rfl⟩

theorem Tk.open_arr4 {H : Type} {enc : TypeId × Value → H} {W : World} {spare : Nat → Bool} {held : Bool} {r : Reach} {base b0 : Nat} {v : Value} {dd : DataW H} {p : List MemPlace}
    (hv : Value.okWide Tryd.prog W r b0 25 v) (h : DataW.Trod enc Tryd.prog W base spare held 25 v dd p) : ∃ x0 x1 x2 x3, v = .agg #[.int .i64 x0, .int .i64 x1, .int .i64 x2, .int .i64 x3] := by
  obtain ⟨cs, rfl, hs⟩ : ∃ cs, v = .agg cs ∧ cs.size = Tryd.prog.cellsOf 25 := by
    simp only [Value.okWide, Tryd.underlying25] at hv
    obtain ⟨cs, h1, h2, _⟩ := hv
    exact ⟨cs, h1, h2⟩
  rw [Tk.cells_arr] at hs
  obtain ⟨c0, c1, c2, c3, rfl⟩ := Tk.array4 hs
  obtain ⟨fuel, hf⟩ := h
  obtain ⟨xs, m, _, _, _, hxl, hx⟩ := DataW.trod_array Tryd.underlying25 hf
  obtain ⟨y0, y1, y2, y3, rfl⟩ := Tk.list4 hxl
  rw [Tk.cells_int] at hx
  have g0 : DataW.trod enc Tryd.prog W base spare held m 3 [c0] = some y0 := hx 0 (by decide)
  have g1 : DataW.trod enc Tryd.prog W base spare held m 3 [c1] = some y1 := hx 1 (by decide)
  have g2 : DataW.trod enc Tryd.prog W base spare held m 3 [c2] = some y2 := hx 2 (by decide)
  have g3 : DataW.trod enc Tryd.prog W base spare held m 3 [c3] = some y3 := hx 3 (by decide)
  obtain ⟨n0, e0, _⟩ := DataW.trod_int Tryd.underlying3 g0
  obtain ⟨n1, e1, _⟩ := DataW.trod_int Tryd.underlying3 g1
  obtain ⟨n2, e2, _⟩ := DataW.trod_int Tryd.underlying3 g2
  obtain ⟨n3, e3, _⟩ := DataW.trod_int Tryd.underlying3 g3
  rw [(List.cons.inj e0).1, (List.cons.inj e1).1, (List.cons.inj e2).1, (List.cons.inj e3).1]
  exact ⟨n0, n1, n2, n3, rfl⟩

end Go.Proofs
