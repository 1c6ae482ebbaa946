/-
  What is done, without one of it; undo of a scope that may.
-/
import Derived.Test.YtkjjeoblmcljnaaScDone
import Derived.Shelf.SlicesE.DeleteFunc
namespace Go.Proofs
open Go.RowKit Go.Shelf Go.Sort

def Try.delA_ren : Go.Shelf.Ren := ⟨fun | 6 => 48 | 10 => 43 | n => n, fun | 0 => 0 | 3 => 3 | 4 => 4 | 22 => 44 | 23 => 3 | 25 => 58 | n => n, fun | n => n⟩
theorem Try.delA : Go.Proofs.SlLaysH.n10 Try.prog Try.delA_ren := {
  mixed := by kernel_rfl
  f6 := ⟨Try.f48.name, by decide, Try.func48.trans (congrArg some (by kernel_rfl))⟩
  f10 := ⟨Try.f43.name, by decide, Try.func43.trans (congrArg some (by kernel_rfl))⟩
  t0 := Try.underlying0
  a0 := Try.isAgg0
  z0 := Try.sizeOf0
  v0 := Try.zeroValue0
  t3 := Try.underlying3
  a3 := Try.isAgg3
  z3 := Try.sizeOf3
  v3 := Try.zeroValue3
  t4 := Try.underlying4
  a4 := Try.isAgg4
  z4 := Try.sizeOf4
  v4 := Try.zeroValue4
  t22 := Try.underlying44
  a22 := Try.isAgg44
  z22 := Try.sizeOf44
  v22 := Try.zeroValue44
  a23 := Try.isAgg3
  z23 := Try.sizeOf3
  t25 := Try.underlying58
  a25 := Try.isAgg58
  z25 := Try.sizeOf58
  v25 := Try.zeroValue58 }

theorem Try.undo1_gives (bx : Nat) (i x : Int) (W : World) (h : W.cell? ⟨bx, 0, none⟩ = some (.int .i64 i)) : FnGives Try.prog 44 #[.pointer (some ⟨bx, 0, none⟩)] #[encZ x] (.bool (x == i)) W := by
  have hz : encZ x = .int .i64 x := rfl
  unfold FnGives
  rw [hz]
  go_enter Try.func44, Try.ntmps44
  go_wp2
  go_ret
  exact ⟨rfl, 0, rfl⟩

/-- What is done without one. -/
theorem Try.del_any {r gp gs cp : Nat} {vd : Value} {a b c : Int} {D : List Int} (bx : Nat) (i : Int) (hD : D ≠ []) (h8 : D.length ≤ 8) (w : World) (h : Sc.At r gp gs cp vd a b c D w) (hb : w.cell? ⟨bx, 0, none⟩ = some (.int .i64 i)) (hne : vd.ownBlock ≠ some bx) :
    Calls Try.prog 43 #[vd, .func (.func 44) #[] #[.pointer (some ⟨bx, 0, none⟩)]] w fun e w' => ∃ v', e = .returned v' ∧ w'.ownsRow 0 3 1 v' (D.filter fun x => !(x == i)).length ((D.filter fun x => !(x == i)).map encZ) ∧ v'.ownBlock = vd.ownBlock ∧ Tk.But (fun x => vd.ownBlock = some x) w w' := by
  have hlt : bx < w.heap.size := by
    rcases Nat.lt_or_ge bx w.heap.size with h1 | h1
    · exact h1
    · unfold World.cell? at hb
      simp [h1] at hb
  rcases h.done.2 with ⟨e, hn⟩ | ⟨g, cap, cur, rfl, h3, h4, h5, h5', h6, h7⟩
  · exact absurd (List.eq_nil_of_length_eq_zero hn) hD
  have hgb : g ≠ bx := fun e => hne (by rw [e]; rfl)
  have hcur : ∀ j, j < D.length → w.cell? ⟨g, j, none⟩ = (D.map encZ)[j]? := fun j hj => by
    rw [← h7, List.getElem?_take, if_pos (by omega), Array.getElem?_toList]
    simp only [World.cell?, h4]
    rfl
  have hH : Holds encZ w g 0 D.toArray := fun j hj => by
    have hj' : j < D.length := by simpa using hj
    refine ⟨?_, by simp [World.frozen?, h4]⟩
    rw [Nat.zero_add, hcur j hj']
    simp [hj']
  have eg : ∀ args w, (callFunc 44 args).run Try.prog w = .ok (.enter 44 args) w := enters_of Try.func44 (by kernel_rfl) rfl
  have hcon := AnyE.slices_DeleteFunc Try.delA encZ (fun _ => rfl) (fun x => x == i) 44 #[.pointer (some ⟨bx, 0, none⟩)] eg 0 Try.zeroValue3 g 0 cap D.toArray w
    (fun W x hbl => Try.undo1_gives bx i x W ((hbl.cell (p := ⟨bx, 0, none⟩) hlt).trans hb))
    (fun n os dk x _ => Try.undo1_gives bx i x _ (by
      unfold sortWorld
      rw [Sort.cell?_grow _ _ _ (by show bx < (putRow _ _ _ _ _).heap.size; rw [size_putRow]; exact hlt), Sort.cell?_putRow_other _ _ g 0 _ _ (Or.inl (Ne.symm hgb))]
      exact hb)) hH (by simp; omega) (by simpa using h5)
  change Calls Try.prog 43 _ _ _ at hcon
  have hsz : D.toArray.size = D.length := by simp
  rw [hsz] at hcon
  refine hcon.mono ?_
  have hle := List.length_filter_le (fun x => !(x == i)) D
  rintro e w' ⟨rfl, q, rfl⟩
  refine ⟨_, rfl, ?_, rfl, ⟨rfl, rfl, rfl, by rw [size_putRow]; exact Nat.le_refl _, fun k hk he => ?_⟩⟩
  · show World.ownsRow _ 0 3 1 _ _ _
    simp only []
    generalize hF : (D.filter fun x => !(x == i)) = F at hle ⊢
    refine ⟨by simp, .inr ⟨g, cap, putCells encZ 0 (F ++ List.replicate (D.length - F.length) 0).toArray cur, rfl, h3, ?_, by omega, h5', by simpa [putCells] using h6, ?_⟩⟩
    · simp [putRow, mapBlock, Array.getElem?_modify, h4, onCells]
    · apply List.ext_getElem?
      intro k
      rw [List.getElem?_take, Array.getElem?_toList]
      simp only [putCells, Array.getElem?_mapIdx, List.getElem?_map, Nat.mul_one]
      by_cases hk : k < F.length
      · have hkc : k < cur.size := by rw [h6]; omega
        rw [if_pos hk, Array.getElem?_eq_getElem hkc, List.getElem?_eq_getElem hk]
        simp only [Option.map_some, Nat.sub_zero]
        rw [if_pos ⟨by omega, by simp; omega⟩]
        congr 2
        rw [getElem!_pos _ k (by simp; omega)]
        simp [List.getElem_append_left hk]
      · rw [if_neg hk, List.getElem?_eq_none (by omega)]
        rfl
  · simp only [putRow, mapBlock, Sort.heap_ahead, Array.getElem?_modify]
    rw [if_neg (fun e => he (by rw [e]; rfl))]

end Go.Proofs
