/-
  A clock's alarms put in their order; where one is.
-/
import Derived.Test.YtclpdhjchnbolaaCkCmp
import Derived.Shelf.SlSortCmp.NoneTotal
import Derived.Shelf.SlicesQ.IndexFunc
namespace Go.Proofs
open Go.RowKit Go.Shelf Go.Sort

def Try.sortA_ren : Go.Shelf.Ren := ⟨fun | 6 => 29 | 15 => 37 | 14 => 36 | 28 => 49 | 29 => 50 | 20 => 41 | 21 => 42 | 22 => 43 | 23 => 44 | 24 => 45 | 25 => 46 | 26 => 47 | 27 => 48 | 46 => 52 | 47 => 53 | 48 => 54 | 49 => 55 | 50 => 56 | 57 => 57 | n => n, fun | 22 => 55 | 24 => 62 | 25 => 64 | 3 => 3 | 39 => 74 | 0 => 0 | 53 => 85 | 55 => 87 | 4 => 4 | 46 => 79 | 45 => 78 | 50 => 34 | 5 => 5 | 9 => 9 | 66 => 88 | 70 => 92 | 76 => 94 | 77 => 95 | n => n, fun | n => n⟩
theorem Try.sortA : Go.Proofs.SlLaysF0.n6 Try.prog Try.sortA_ren := {
  mixed := by kernel_rfl
  f6 := ⟨Try.f29.name, by decide, Try.func29.trans (congrArg some (by kernel_rfl))⟩
  f14 := ⟨Try.f36.name, by decide, Try.func36.trans (congrArg some (by kernel_rfl))⟩
  f15 := Try.func37.trans (congrArg some (by kernel_rfl))
  f20 := ⟨Try.f41.name, by decide, Try.func41.trans (congrArg some (by kernel_rfl))⟩
  f21 := ⟨Try.f42.name, by decide, Try.func42.trans (congrArg some (by kernel_rfl))⟩
  f22 := ⟨Try.f43.name, by decide, Try.func43.trans (congrArg some (by kernel_rfl))⟩
  f23 := ⟨Try.f44.name, by decide, Try.func44.trans (congrArg some (by kernel_rfl))⟩
  f24 := ⟨Try.f45.name, by decide, Try.func45.trans (congrArg some (by kernel_rfl))⟩
  f25 := ⟨Try.f46.name, by decide, Try.func46.trans (congrArg some (by kernel_rfl))⟩
  f26 := ⟨Try.f47.name, by decide, Try.func47.trans (congrArg some (by kernel_rfl))⟩
  f27 := ⟨Try.f48.name, by decide, Try.func48.trans (congrArg some (by kernel_rfl))⟩
  f28 := Try.func49.trans (congrArg some (by kernel_rfl))
  f29 := Try.func50.trans (congrArg some (by kernel_rfl))
  f46 := ⟨Try.f52.name, by decide, Try.func52.trans (congrArg some (by kernel_rfl))⟩
  f47 := Try.func53.trans (congrArg some (by kernel_rfl))
  f48 := Try.func54.trans (congrArg some (by kernel_rfl))
  f49 := ⟨Try.f55.name, by decide, Try.func55.trans (congrArg some (by kernel_rfl))⟩
  f50 := ⟨Try.f56.name, by decide, Try.func56.trans (congrArg some (by kernel_rfl))⟩
  f57 := ⟨Try.f57.name, by decide, Try.func57.trans (congrArg some (by kernel_rfl))⟩
  t0 := Try.underlying0
  a0 := Try.isAgg0
  z0 := Try.sizeOf0
  v0 := Try.zeroValue0
  t3 := Try.underlying3
  a3 := Try.isAgg3
  z3 := Try.sizeOf3
  v3 := Try.zeroValue3
  t4 := Try.underlying4
  a4 := Try.isAgg4
  z4 := Try.sizeOf4
  v4 := Try.zeroValue4
  t5 := Try.underlying5
  a5 := Try.isAgg5
  z5 := Try.sizeOf5
  v5 := Try.zeroValue5
  t9 := Try.underlying9
  a9 := Try.isAgg9
  z9 := Try.sizeOf9
  v9 := Try.zeroValue9
  t22 := Try.underlying55
  a22 := Try.isAgg55
  z22 := Try.sizeOf55
  v22 := Try.zeroValue55
  t25 := Try.underlying64
  a25 := Try.isAgg64
  z25 := Try.sizeOf64
  v25 := Try.zeroValue64
  t39 := Try.underlying74
  a39 := Try.isAgg74
  z39 := Try.sizeOf74
  v39 := Try.zeroValue74
  t45 := Try.underlying78
  a45 := Try.isAgg78
  z45 := Try.sizeOf78
  v45 := Try.zeroValue78
  t46 := Try.underlying79
  a46 := Try.isAgg79
  z46 := Try.sizeOf79
  v46 := Try.zeroValue79
  t50 := Try.underlying34
  a50 := Try.isAgg34
  z50 := Try.sizeOf34
  v50 := Try.zeroValue34
  t53 := Try.underlying85
  a53 := Try.isAgg85
  z53 := Try.sizeOf85
  v53 := Try.zeroValue85
  t55 := Try.underlying87
  a55 := Try.isAgg87
  z55 := Try.sizeOf87
  v55 := Try.zeroValue87
  t66 := Try.underlying88
  a66 := Try.isAgg88
  z66 := Try.sizeOf88
  v66 := Try.zeroValue88
  t70 := Try.underlying92
  a70 := Try.isAgg92
  z70 := Try.sizeOf92
  v70 := Try.zeroValue92
  t76 := Try.underlying94
  a76 := Try.isAgg94
  z76 := Try.sizeOf94
  v76 := Try.zeroValue94
  t77 := Try.underlying95
  a77 := Try.isAgg95
  z77 := Try.sizeOf95
  v77 := Try.zeroValue95 }
def Try.idxA_ren : Go.Shelf.Ren := ⟨fun | 6 => 34 | n => n, fun | 22 => 55 | 23 => 62 | 25 => 71 | 3 => 3 | 0 => 0 | 4 => 4 | n => n, fun | n => n⟩
theorem Try.idxA : Go.Proofs.SlLaysH0.n6 Try.prog Try.idxA_ren := {
  mixed := by kernel_rfl
  f6 := ⟨Try.f34.name, by decide, Try.func34.trans (congrArg some (by kernel_rfl))⟩
  t0 := Try.underlying0
  a0 := Try.isAgg0
  z0 := Try.sizeOf0
  v0 := Try.zeroValue0
  t3 := Try.underlying3
  a3 := Try.isAgg3
  z3 := Try.sizeOf3
  v3 := Try.zeroValue3
  t4 := Try.underlying4
  a4 := Try.isAgg4
  z4 := Try.sizeOf4
  v4 := Try.zeroValue4
  t22 := Try.underlying55
  a22 := Try.isAgg55
  z22 := Try.sizeOf55
  v22 := Try.zeroValue55
  t25 := Try.underlying71
  a25 := Try.isAgg71
  z25 := Try.sizeOf71
  v25 := Try.zeroValue71 }
theorem Ck.ltOf_cf (a b : Ck.Al) : ltOf Ck.cf a b = Ck.lt a b := by
  unfold ltOf Ck.cf Ck.orI Ck.lt Ck.cmp
  by_cases h1 : a.2 < b.2
  · simp [h1]
  · by_cases h2 : b.2 < a.2
    · have : ¬ a.2 = b.2 := by omega
      simp [h1, h2, this]
    · have h3 : a.2 = b.2 := by omega
      by_cases h4 : a.1 < b.1
      · simp [h3, h4]
      · by_cases h5 : b.1 < a.1 <;> simp [h3, h4, h5]
theorem Ck.swo : SWO (ltOf Ck.cf) where
  irrefl x := by rw [Ck.ltOf_cf]; simp [Ck.lt]
  trans x y z h1 h2 := by rw [Ck.ltOf_cf] at *; simp [Ck.lt] at *; omega
  ntrans x y z h1 h2 := by rw [Ck.ltOf_cf] at *; simp [Ck.lt] at *; omega
theorem Ck.tot (x y : Ck.Al) (h1 : ltOf Ck.cf x y = false) (h2 : ltOf Ck.cf y x = false) : x = y := by
  rw [Ck.ltOf_cf] at *
  obtain ⟨a, b⟩ := x
  obtain ⟨c, d⟩ := y
  simp [Ck.lt] at h1 h2
  have : b = d := by omega
  subst this
  have : a = c := by omega
  subst this
  rfl

/-- Alarms in their order. -/
def Ck.sort (L : List Ck.Al) : List Ck.Al := L.mergeSort fun x y => !Ck.lt y x
theorem Ck.sort_perm (L : List Ck.Al) : (Ck.sort L).Perm L := List.mergeSort_perm _ _
theorem Ck.sort_length (L : List Ck.Al) : (Ck.sort L).length = L.length := (Ck.sort_perm L).length_eq

theorem Ck.cells_at (M : List Ck.Al) (i : Nat) (hi : i < M.length) : (Ck.cells M)[i * 2]? = some (.int .i64 M[i].1) ∧ (Ck.cells M)[i * 2 + 1]? = some (.int .i64 M[i].2) := by
  induction M generalizing i with
  | nil => simp at hi
  | cons a r ih =>
    have hc : Ck.cells (a :: r) = .int .i64 a.1 :: .int .i64 a.2 :: Ck.cells r := rfl
    rw [hc]
    cases i with
    | zero => simp
    | succ i =>
      have := ih i (by simpa using hi)
      rw [show (i + 1) * 2 = i * 2 + 1 + 1 by omega]
      simpa using this
theorem Ck.flat (L : List Ck.Al) : (flatK Ck.enc 2 L.toArray).toList = Ck.cells L := by
  apply List.ext_getElem?
  intro t
  by_cases ht : t < L.length * 2
  · have h1 : (flatK Ck.enc 2 L.toArray)[t]? = some (flatK Ck.enc 2 L.toArray)[t]! := by
      have hs : t < (flatK Ck.enc 2 L.toArray).size := by simpa using ht
      rw [getElem!_pos _ t hs]
      exact Array.getElem?_eq_getElem hs
    rw [Array.getElem?_toList, h1, get_flatK _ _ _ t (by simpa using ht)]
    have hq : t / 2 < L.length := by omega
    have hL : L.toArray[t / 2]! = L[t / 2] := by
      rw [getElem!_pos _ (t / 2) (by simpa using hq)]
      simp
    rw [hL]
    have hc := Ck.cells_at L (t / 2) hq
    rcases (by omega : t % 2 = 0 ∨ t % 2 = 1) with h | h
    · rw [h]
      conv => rhs; rw [show t = t / 2 * 2 by omega, hc.1]
      simp [Ck.enc]
    · rw [h]
      conv => rhs; rw [show t = t / 2 * 2 + 1 by omega, hc.2]
      simp [Ck.enc]
  · rw [List.getElem?_eq_none (by simp; omega), List.getElem?_eq_none (by rw [Ck.cells_length]; omega)]

theorem Ck.cmpLays (blk off size : Nat) (w : World) : CmpLays Try.prog 30 #[] Ck.enc 2 Ck.cf blk off size w :=
  fun _ _ _ _ x y => (Try.alarmCmp_any x y _).mono fun _ _ ⟨he, q, o1, o2, o3, hw⟩ => ⟨he, q, #[o1, o2, o3], by
    rw [hw, alloc_eq_grow, alloc_eq_grow, alloc_eq_grow]
    simp only [grow, World.drewN, Array.append_assoc]
    rfl⟩

theorem Try.sort_any {B g cap : Nat} {L : List Ck.Al} (w : World) (h : w.ownsRow B 62 2 (.slice (some ⟨g, 0, none⟩) L.length cap) L.length (Ck.cells L)) (h64 : L.length ≤ 100) :
    Calls Try.prog 29 #[.slice (some ⟨g, 0, none⟩) L.length cap, .func (.func 30) #[] #[]] w fun e w' => e = .returned (.tuple #[]) ∧ w'.ownsRow B 62 2 (.slice (some ⟨g, 0, none⟩) L.length cap) L.length (Ck.cells (Ck.sort L)) ∧ Tk.But (fun x => x = g) w w' := by
  rcases h.2 with ⟨e, _⟩ | ⟨g', cap', cur, e, h3, h4, h5, h6, h7, h8⟩
  · cases e
  simp only [Value.slice.injEq, Option.some.injEq, Addr.mk.injEq] at e
  obtain ⟨⟨rfl, -, -⟩, -, rfl⟩ := e
  have hlt := (Array.getElem?_eq_some_iff.1 h4).1
  have hH : HoldsK Ck.enc 2 w g 0 L.toArray := by
    intro j hj
    have hj' : j < L.length * 2 := by simpa using hj
    refine ⟨?_, by simp [World.frozen?, h4]⟩
    rw [Nat.zero_add]
    have hs : j < (flatK Ck.enc 2 L.toArray).size := by simpa using hj'
    rw [getElem!_pos _ j hs]
    have h9 : (Ck.cells L)[j]? = some (flatK Ck.enc 2 L.toArray)[j] := by
      rw [← Ck.flat, Array.getElem?_toList]
      exact Array.getElem?_eq_getElem hs
    rw [← h8, List.getElem?_take, if_pos hj', Array.getElem?_toList] at h9
    simp only [World.cell?, h4]
    exact h9
  have eg : ∀ args w, (callFunc 30 args).run Try.prog w = .ok (.enter 30 args) w := enters_of Try.func30 (by kernel_rfl) rfl
  have hcon := AnyQ.slices_SortFunc_total Try.sortA 2 Try.isAgg62 Try.sizeOf62 Ck.enc (fun _ => rfl) (fun x v hv => by simp [Ck.enc] at hv; rcases hv with rfl | rfl <;> rfl) Ck.cf Ck.swo 30 #[] g 0 cap L.toArray w eg (Ck.cmpLays g 0 _ w) hH hlt (by simp; omega) Ck.tot
  change Calls Try.prog 29 _ _ _ at hcon
  have hsz : L.toArray.size = L.length := by simp
  have hso : (L.toArray.toList.mergeSort fun x y => !(ltOf Ck.cf) y x) = Ck.sort L := by
    unfold Ck.sort
    simp only [Ck.ltOf_cf]
  rw [hsz, hso] at hcon
  refine hcon.mono ?_
  rintro e w' ⟨rfl, n, os, rfl⟩
  have hkeep : (putRowK Ck.enc 2 (Sort.ahead w n) g 0 (Ck.sort L).toArray).heap[g]? = some (.cells (putCells id 0 (flatK Ck.enc 2 (Ck.sort L).toArray) cur) 62 (0, 0)) := by
    simp [putRowK, putRow, mapBlock, Array.getElem?_modify, h4, onCells]
  have hsize : (putRowK Ck.enc 2 (Sort.ahead w n) g 0 (Ck.sort L).toArray).heap.size = w.heap.size := by
    simp [putRowK, putRow, mapBlock]
  refine ⟨rfl, ⟨by rw [Ck.cells_length, Ck.sort_length], .inr ⟨g, cap, putCells id 0 (flatK Ck.enc 2 (Ck.sort L).toArray) cur, rfl, h3, ?_, h5, h6, ?_, ?_⟩⟩, ⟨rfl, rfl, rfl, ?_, fun k hk he => ?_⟩⟩
  · show (grow _ _).heap[g]? = _
    simp only [grow]
    rw [Array.getElem?_append_left (by rw [hsize]; exact hlt)]
    exact hkeep
  · simpa [putCells] using h7
  · apply List.ext_getElem?
    intro k
    rw [List.getElem?_take, Array.getElem?_toList]
    have hcl : (flatK Ck.enc 2 (Ck.sort L).toArray).size = L.length * 2 := by simp [Ck.sort_length]
    by_cases hk : k < L.length * 2
    · rw [if_pos hk]
      have hkc : k < cur.size := by rw [h7]; omega
      have hs : k < (flatK Ck.enc 2 (Ck.sort L).toArray).size := by rw [hcl]; exact hk
      simp only [putCells, Array.getElem?_mapIdx]
      rw [Array.getElem?_eq_getElem hkc]
      simp only [Option.map_some, Nat.sub_zero]
      rw [if_pos ⟨by omega, by rw [hcl]; omega⟩, ← Ck.flat, Array.getElem?_toList, Array.getElem?_eq_getElem hs, getElem!_pos _ k hs]
      rfl
    · rw [if_neg hk, List.getElem?_eq_none (by rw [Ck.cells_length, Ck.sort_length]; omega)]
  · show _ ≤ (grow _ _).heap.size
    simp only [grow, Array.size_append]
    rw [hsize]
    omega
  · show (grow _ _).heap[k]? = _
    simp only [grow]
    rw [Array.getElem?_append_left (by rw [hsize]; exact hk)]
    simp only [putRowK, putRow, mapBlock, Array.getElem?_modify]
    rw [if_neg (fun e => he e.symm)]
    rfl

end Go.Proofs
