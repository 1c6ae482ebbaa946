/-
  The contract of the statements' small case: halves.
-/
import Derived.Test.YteeanikildmmnaaDoorTNumberW
import Derived.Test.YteeanikildmmnaaDoorTSet
namespace Go.Proofs
open Go.RowKit

/-- Seven by minus two. -/
def Tk.halfT : Tm := .mk 8 0 [.mk 1 7 [], .mk 3 0 [.mk 1 2 []]]
theorem Tk.halfT_num : Tk.halfT.numR 0 0 0 0 = (-3, 0) := by decide
theorem Tk.half_lies (w W : World) (hs : w.heap.size + 3 < W.heap.size) (h1 : W.heap[w.heap.size + 1]? = some (.cells #[.int .i64 1, .int .i64 2, .slice none 0 0] 24 (0, 0)))
    (h3 : W.heap[w.heap.size + 3]? = some (.cells #[.int .i64 1, .int .i64 7, .slice none 0 0, .int .i64 3, .int .i64 0, .slice (some ⟨w.heap.size + 1, 0, none⟩) 1 1] 24 (0, 0))) :
    Tm.Lies W W.heap.size 3 (.slice (some ⟨w.heap.size + 3, 0, none⟩) 2 2) Tk.halfT := by
  refine ⟨_, 2, rfl, .inr ⟨w.heap.size + 3, 0, rfl, hs, fun j hj => ?_⟩⟩
  have hj' : j < 2 := hj
  obtain rfl | rfl : j = 0 ∨ j = 1 := by omega
  · exact ⟨.slice none 0 0, by simp [World.cell?, h3, Tk.halfT, Tm.ks, Tm.op], by simp [World.cell?, h3, Tk.halfT, Tm.ks, Tm.num], by simp [World.cell?, h3], ⟨none, 0, rfl, .inl rfl⟩⟩
  · refine ⟨.slice (some ⟨w.heap.size + 1, 0, none⟩) 1 1, by simp [World.cell?, h3, Tk.halfT, Tm.ks, Tm.op], by simp [World.cell?, h3, Tk.halfT, Tm.ks, Tm.num], by simp [World.cell?, h3], ⟨_, 1, rfl, .inr ⟨w.heap.size + 1, 0, rfl, by omega, fun i hi => ?_⟩⟩⟩
    have hi' : i < 1 := hi
    obtain rfl : i = 0 := by omega
    exact ⟨.slice none 0 0, by simp [World.cell?, h1, Tk.halfT, Tm.ks, Tm.op], by simp [World.cell?, h1, Tk.halfT, Tm.ks, Tm.num], by simp [World.cell?, h1], ⟨none, 0, rfl, .inl rfl⟩⟩

set_option maxHeartbeats 4000000 in
theorem Tryd.halves_true (w : World) (hO : Tk.Ops w) :
    Calls Tryd.prog 9 #[] w fun e w' => e = .returned (.bool true) ∧ Below w.heap.size w w' := by
  obtain ⟨wa, hwa⟩ : ∃ x, w.alloc (.cells #[.int .i64 1, .int .i64 7, .slice none 0 0] 24) = x := ⟨_, rfl⟩
  obtain ⟨wb, hwb⟩ : ∃ x, wa.alloc (.cells #[.int .i64 1, .int .i64 2, .slice none 0 0] 24) = x := ⟨_, rfl⟩
  obtain ⟨wc, hwc⟩ : ∃ x, wb.alloc (.cells #[.int .i64 3, .int .i64 0, .slice (some ⟨w.heap.size + 1, 0, none⟩) 1 1] 24) = x := ⟨_, rfl⟩
  obtain ⟨wd, hwd⟩ : ∃ x, wc.alloc (.cells #[.int .i64 1, .int .i64 7, .slice none 0 0, .int .i64 3, .int .i64 0, .slice (some ⟨w.heap.size + 1, 0, none⟩) 1 1] 24) = x := ⟨_, rfl⟩
  have sa : wa.heap.size = w.heap.size + 1 := by rw [← hwa]; simp
  have sb : wb.heap.size = w.heap.size + 2 := by rw [← hwb]; simp [sa]
  have sc : wc.heap.size = w.heap.size + 3 := by rw [← hwc]; simp [sb]
  have sd : wd.heap.size = w.heap.size + 4 := by rw [← hwd]; simp [sc]
  have B0 : Below w.heap.size w wd := by
    rw [← hwd, ← hwc, ← hwb, ← hwa]
    exact ((((Below.refl _ w).alloc (Nat.le_refl _) _).alloc (by simp) _).alloc (by simp; omega) _).alloc (by simp; omega) _
  have h1 : wd.heap[w.heap.size + 1]? = some (.cells #[.int .i64 1, .int .i64 2, .slice none 0 0] 24 (0, 0)) := by
    rw [← hwd, Below.heap_alloc _ _ _ (by omega), ← hwc, Below.heap_alloc _ _ _ (by omega), ← hwb]
    have := heap_alloc_new wa (.cells #[.int .i64 1, .int .i64 2, .slice none 0 0] 24)
    rw [sa] at this
    exact this
  have h3 : wd.heap[w.heap.size + 3]? = some (.cells #[.int .i64 1, .int .i64 7, .slice none 0 0, .int .i64 3, .int .i64 0, .slice (some ⟨w.heap.size + 1, 0, none⟩) 1 1] 24 (0, 0)) := by
    rw [← hwd]
    have := heap_alloc_new wc (.cells #[.int .i64 1, .int .i64 7, .slice none 0 0, .int .i64 3, .int .i64 0, .slice (some ⟨w.heap.size + 1, 0, none⟩) 1 1] 24)
    rw [sc] at this
    exact this
  have hc := Tryd.numberW_any 3 Tk.halfT (.slice (some ⟨w.heap.size + 3, 0, none⟩) 2 2) 0 0 0 0 wd (Tk.half_lies w wd (by omega) h1 h3) (hO.below B0 hO.lt) (by decide)
  rw [Tk.halfT_num, show Tk.halfT.op = 8 from rfl, show Tk.halfT.num = 0 from rfl] at hc
  have HC : Hid _ := hc
  have HB : Hid (Below w.heap.size w wd) := B0
  have HE : Hid (wd = (((w.alloc (.cells #[.int .i64 1, .int .i64 7, .slice none 0 0] 24)).alloc (.cells #[.int .i64 1, .int .i64 2, .slice none 0 0] 24)).alloc (.cells #[.int .i64 3, .int .i64 0, .slice (some ⟨w.heap.size + 1, 0, none⟩) 1 1] 24)).alloc (.cells #[.int .i64 1, .int .i64 7, .slice none 0 0, .int .i64 3, .int .i64 0, .slice (some ⟨w.heap.size + 1, 0, none⟩) 1 1] 24)) := by show _ = _; rw [hwa, hwb, hwc, hwd]
  have hset : ∀ W, Calls Tryd.prog 14 #[.agg #[.int .i64 0, .int .i64 0, .int .i64 0, .int .i64 0], .int .i64 1, .int .i64 5] W fun e w' => e = .returned (.tuple #[.agg #[.int .i64 0, .int .i64 5, .int .i64 0, .int .i64 0], .int .i64 0]) ∧ Below W.heap.size W w' := fun W => Tryd.set_any 0 0 0 0 1 5 W
  have hfits : ∀ W, Calls Tryd.prog 16 #[.agg #[.int .i64 0, .int .i64 5, .int .i64 0, .int .i64 0]] W fun e w' => e = .returned (.bool true) ∧ Below W.heap.size W w' := fun W => Tryd.fits_any 0 5 0 0 W
  have HS : Hid _ := hset
  have HF : Hid _ := hfits
  clear hwa hwb hwc hwd sa sb sc sd B0 h1 h3 hc hO hset hfits
  go_enter Tryd.func9, Tryd.ntmps9
  go_wp2_with fail
  rw [← HE.out]
  refine Calls.mono HC.out ?_
  rintro e W1 ⟨rfl, b1⟩
  have B1 : Hid (Below w.heap.size w W1) := HB.out.trans (b1.mono HB.out.size)
  clear b1 HC HE
  go_wp2_with fail
  refine Calls.mono (HS.out _) ?_
  rintro e W2 ⟨rfl, b2⟩
  have B2 : Hid (Below w.heap.size w W2) := B1.out.trans (b2.mono B1.out.size)
  have B2a : Hid (Below w.heap.size w (W2.alloc (.cells #[.int .i64 0, .int .i64 5, .int .i64 0, .int .i64 0] 25))) := B2.out.alloc B2.out.size _
  clear b2 HS
  go_wp2_with fail
  refine Calls.mono (HF.out _) ?_
  rintro e W3 ⟨rfl, b3⟩
  have B3 : Hid (Below w.heap.size w W3) := B2a.out.trans (b3.mono B2a.out.size)
  clear b3 HF
  go_wp2
  go_ret
  exact ⟨rfl, B3.out⟩

end Go.Proofs
