/-
  Two equal arrays of four numbers are the same to Go.
-/
import Derived.Test.YtdclfmmmlicaaaaPsModel
import Derived.ChangeKeysEq
namespace Go.Proofs
open Go.RowKit Go.ChangeShapes Go.WideShapes

theorem Ps.int_eq (d : Nat) (a : Int) (W : World) : (Op.equalIn (d + 1) 3 (.int .i64 a) (.int .i64 a)).run Try.prog W = .ok true W := by
  simp [Op.equalIn, go_sem]
theorem Ps.guard_arr : Try.prog.eqGuardType Try.prog.depth 33 = false := by kernel_rfl
theorem Ps.info_int : ∃ i, Try.prog.info? 3 = some i := ⟨_, rfl⟩
theorem Ps.cells_int : Try.prog.cellsOf 3 = 1 := by kernel_rfl
theorem Ps.cells_arr : Try.prog.cellsOf 33 = 4 := by kernel_rfl
theorem Ps.arr_eq (y0 y1 y2 y3 : Int) (W : World) : (Op.equal 33 (.agg #[.int .i64 y0, .int .i64 y1, .int .i64 y2, .int .i64 y3]) (.agg #[.int .i64 y0, .int .i64 y1, .int .i64 y2, .int .i64 y3])).run Try.prog W = .ok true W := by
  have h1 := Try.underlying33
  obtain ⟨i, hi⟩ := Ps.info_int
  show (Op.equalIn (9999 + 1) 33 _ _).run Try.prog W = _
  rw [run_equalIn_array W 9999 _ _ h1 hi, Ps.cells_int]
  have hp0 : ∀ W : World, (part 3 #[.int .i64 y0, .int .i64 y1, .int .i64 y2, .int .i64 y3] 0).run Try.prog W = .ok (.int .i64 y0) W := fun _ => by kernel_rfl
  have hp1 : ∀ W : World, (part 3 #[.int .i64 y0, .int .i64 y1, .int .i64 y2, .int .i64 y3] 1).run Try.prog W = .ok (.int .i64 y1) W := fun _ => by kernel_rfl
  have hp2 : ∀ W : World, (part 3 #[.int .i64 y0, .int .i64 y1, .int .i64 y2, .int .i64 y3] 2).run Try.prog W = .ok (.int .i64 y2) W := fun _ => by kernel_rfl
  have hp3 : ∀ W : World, (part 3 #[.int .i64 y0, .int .i64 y1, .int .i64 y2, .int .i64 y3] 3).run Try.prog W = .ok (.int .i64 y3) W := fun _ => by kernel_rfl
  have he : ∀ (a : Int) (W : World), (Op.equalIn 9999 3 (.int .i64 a) (.int .i64 a)).run Try.prog W = .ok true W := fun a W => Ps.int_eq 9998 a W
  simp [List.range, List.range.loop, Op.eqItems, Sem.run_bind, hp0, hp1, hp2, hp3, he]

end Go.Proofs
