/-
  The keys of an office, rising, and an office's copy. (The layings were printed by the shelf's own command; the numbers are marks.)
-/
import Derived.Test.YtdclfmmmlicaaaaPsOpen
import Derived.Shelf.SortM.Plain
import Derived.Shelf.SortM.SortNone
namespace Go.Proofs
open Go.RowKit Go.Shelf Go.Maps Go.Sort

def Try.keysA_ren : Go.Shelf.Ren := ⟨fun | 7 => 25 | 10 => 30 | n => n, fun | 23 => 49 | 26 => 3 | 3 => 53 | 28 => 57 | 0 => 0 | 27 => 56 | 33 => 63 | 4 => 4 | n => n, fun | n => n⟩
theorem Try.keysA : Go.Proofs.SlLaysZI.n7 Try.prog Try.keysA_ren := {
  mixed := by kernel_rfl
  f7 := ⟨Try.f25.name, by decide, Try.func25.trans (congrArg some (by kernel_rfl))⟩
  f10 := ⟨Try.f30.name, by decide, Try.func30.trans (congrArg some (by kernel_rfl))⟩
  t0 := Try.underlying0
  a0 := Try.isAgg0
  z0 := Try.sizeOf0
  v0 := Try.zeroValue0
  t4 := Try.underlying4
  a4 := Try.isAgg4
  z4 := Try.sizeOf4
  v4 := Try.zeroValue4
  t23 := Try.underlying49
  a23 := Try.isAgg49
  z23 := Try.sizeOf49
  v23 := Try.zeroValue49
  t26 := Try.underlying3
  a26 := Try.isAgg3
  z26 := Try.sizeOf3
  v26 := Try.zeroValue3
  t27 := Try.underlying56
  a27 := Try.isAgg56
  z27 := Try.sizeOf56
  v27 := Try.zeroValue56
  t28 := Try.underlying57
  a28 := Try.isAgg57
  z28 := Try.sizeOf57
  v28 := Try.zeroValue57
  t33 := Try.underlying63
  a33 := Try.isAgg63
  z33 := Try.sizeOf63
  v33 := Try.zeroValue63 }
def Try.sortedA_ren : Go.Shelf.Ren := ⟨fun | 6 => 24 | 8 => 28 | 9 => 29 | 11 => 32 | 13 => 34 | 12 => 33 | 23 => 44 | 24 => 45 | 14 => 35 | 15 => 36 | 16 => 37 | 17 => 38 | 18 => 39 | 19 => 40 | 20 => 41 | 21 => 42 | 22 => 43 | 25 => 46 | 26 => 47 | 27 => 48 | 28 => 49 | 29 => 50 | 30 => 51 | 31 => 52 | n => n, fun | 26 => 3 | 28 => 57 | 24 => 39 | 0 => 0 | 3 => 3 | 37 => 68 | 48 => 79 | 50 => 81 | 4 => 4 | 40 => 71 | 39 => 70 | 45 => 76 | 5 => 5 | 9 => 9 | 51 => 82 | 55 => 86 | 57 => 88 | 58 => 89 | 33 => 63 | n => n, fun | n => n⟩
theorem Try.sortedA : Go.Proofs.SlLaysZI.n6 Try.prog Try.sortedA_ren := {
  mixed := by kernel_rfl
  f6 := ⟨Try.f24.name, by decide, Try.func24.trans (congrArg some (by kernel_rfl))⟩
  f8 := ⟨Try.f28.name, by decide, Try.func28.trans (congrArg some (by kernel_rfl))⟩
  f11 := ⟨Try.f32.name, by decide, Try.func32.trans (congrArg some (by kernel_rfl))⟩
  t0 := Try.underlying0
  a0 := Try.isAgg0
  z0 := Try.sizeOf0
  v0 := Try.zeroValue0
  t24 := Try.underlying39
  a24 := Try.isAgg39
  z24 := Try.sizeOf39
  v24 := Try.zeroValue39
  t26 := Try.underlying3
  a26 := Try.isAgg3
  z26 := Try.sizeOf3
  v26 := Try.zeroValue3
  t28 := Try.underlying57
  a28 := Try.isAgg57
  z28 := Try.sizeOf57
  v28 := Try.zeroValue57
  i26 := by kernel_rfl }
def Try.sortA_ren : Go.Shelf.Ren := ⟨fun | 5 => 29 | 8 => 34 | 7 => 33 | 19 => 44 | 20 => 45 | 10 => 35 | 11 => 36 | 12 => 37 | 13 => 38 | 14 => 39 | 15 => 40 | 16 => 41 | 17 => 42 | 18 => 43 | 30 => 46 | 31 => 47 | 32 => 48 | 33 => 49 | 34 => 50 | 35 => 51 | 40 => 52 | n => n, fun | 23 => 39 | 25 => 3 | 3 => 3 | 32 => 68 | 22 => 39 | 0 => 0 | 44 => 79 | 46 => 81 | 4 => 4 | 36 => 71 | 35 => 70 | 41 => 76 | 5 => 5 | 9 => 9 | 53 => 82 | 57 => 86 | 63 => 88 | 64 => 89 | n => n, fun | n => n⟩
theorem Try.sortA : Go.Proofs.SlLaysM.n5 Try.prog Try.sortA_ren := {
  mixed := by kernel_rfl
  f5 := ⟨Try.f29.name, by decide, Try.func29.trans (congrArg some (by kernel_rfl))⟩
  f7 := ⟨Try.f33.name, by decide, Try.func33.trans (congrArg some (by kernel_rfl))⟩
  f8 := Try.func34.trans (congrArg some (by kernel_rfl))
  f10 := ⟨Try.f35.name, by decide, Try.func35.trans (congrArg some (by kernel_rfl))⟩
  f11 := ⟨Try.f36.name, by decide, Try.func36.trans (congrArg some (by kernel_rfl))⟩
  f12 := ⟨Try.f37.name, by decide, Try.func37.trans (congrArg some (by kernel_rfl))⟩
  f13 := ⟨Try.f38.name, by decide, Try.func38.trans (congrArg some (by kernel_rfl))⟩
  f14 := ⟨Try.f39.name, by decide, Try.func39.trans (congrArg some (by kernel_rfl))⟩
  f15 := ⟨Try.f40.name, by decide, Try.func40.trans (congrArg some (by kernel_rfl))⟩
  f16 := ⟨Try.f41.name, by decide, Try.func41.trans (congrArg some (by kernel_rfl))⟩
  f17 := ⟨Try.f42.name, by decide, Try.func42.trans (congrArg some (by kernel_rfl))⟩
  f18 := ⟨Try.f43.name, by decide, Try.func43.trans (congrArg some (by kernel_rfl))⟩
  f19 := Try.func44.trans (congrArg some (by kernel_rfl))
  f20 := Try.func45.trans (congrArg some (by kernel_rfl))
  f30 := ⟨Try.f46.name, by decide, Try.func46.trans (congrArg some (by kernel_rfl))⟩
  f31 := Try.func47.trans (congrArg some (by kernel_rfl))
  f32 := Try.func48.trans (congrArg some (by kernel_rfl))
  f33 := ⟨Try.f49.name, by decide, Try.func49.trans (congrArg some (by kernel_rfl))⟩
  f34 := ⟨Try.f50.name, by decide, Try.func50.trans (congrArg some (by kernel_rfl))⟩
  f35 := ⟨Try.f51.name, by decide, Try.func51.trans (congrArg some (by kernel_rfl))⟩
  f40 := ⟨Try.f52.name, by decide, Try.func52.trans (congrArg some (by kernel_rfl))⟩
  t0 := Try.underlying0
  a0 := Try.isAgg0
  z0 := Try.sizeOf0
  v0 := Try.zeroValue0
  t3 := Try.underlying3
  a3 := Try.isAgg3
  z3 := Try.sizeOf3
  v3 := Try.zeroValue3
  t4 := Try.underlying4
  a4 := Try.isAgg4
  z4 := Try.sizeOf4
  v4 := Try.zeroValue4
  t5 := Try.underlying5
  a5 := Try.isAgg5
  z5 := Try.sizeOf5
  v5 := Try.zeroValue5
  t9 := Try.underlying9
  a9 := Try.isAgg9
  z9 := Try.sizeOf9
  v9 := Try.zeroValue9
  t22 := Try.underlying39
  a22 := Try.isAgg39
  z22 := Try.sizeOf39
  v22 := Try.zeroValue39
  t23 := Try.underlying39
  a23 := Try.isAgg39
  z23 := Try.sizeOf39
  v23 := Try.zeroValue39
  t25 := Try.underlying3
  a25 := Try.isAgg3
  z25 := Try.sizeOf3
  v25 := Try.zeroValue3
  t32 := Try.underlying68
  a32 := Try.isAgg68
  z32 := Try.sizeOf68
  v32 := Try.zeroValue68
  t35 := Try.underlying70
  a35 := Try.isAgg70
  z35 := Try.sizeOf70
  v35 := Try.zeroValue70
  t36 := Try.underlying71
  a36 := Try.isAgg71
  z36 := Try.sizeOf71
  v36 := Try.zeroValue71
  t41 := Try.underlying76
  a41 := Try.isAgg76
  z41 := Try.sizeOf76
  v41 := Try.zeroValue76
  t44 := Try.underlying79
  a44 := Try.isAgg79
  z44 := Try.sizeOf79
  v44 := Try.zeroValue79
  t46 := Try.underlying81
  a46 := Try.isAgg81
  z46 := Try.sizeOf81
  v46 := Try.zeroValue81
  t53 := Try.underlying82
  a53 := Try.isAgg82
  z53 := Try.sizeOf82
  v53 := Try.zeroValue82
  t57 := Try.underlying86
  a57 := Try.isAgg86
  z57 := Try.sizeOf86
  v57 := Try.zeroValue86
  t63 := Try.underlying88
  a63 := Try.isAgg88
  z63 := Try.sizeOf88
  v63 := Try.zeroValue88
  t64 := Try.underlying89
  a64 := Try.isAgg89
  z64 := Try.sizeOf89
  v64 := Try.zeroValue89 }

def Try.cloneA_ren : Go.Shelf.Ren := ⟨fun | 5 => 26 | 7 => 31 | n => n, fun | 4 => 4 | 20 => 20 | 23 => 49 | 25 => 3 | 3 => 53 | n => n, fun | n => n⟩
theorem Try.cloneA : Go.Proofs.SlLaysW.n5 Try.prog Try.cloneA_ren := {
  mixed := by kernel_rfl
  f5 := ⟨Try.f26.name, by decide, Try.func26.trans (congrArg some (by kernel_rfl))⟩
  f7 := Try.func31.trans (congrArg some (by kernel_rfl))
  t4 := Try.underlying4
  a4 := Try.isAgg4
  z4 := Try.sizeOf4
  v4 := Try.zeroValue4
  t20 := Try.underlying20
  a20 := Try.isAgg20
  z20 := Try.sizeOf20
  v20 := Try.zeroValue20
  t23 := Try.underlying49
  a23 := Try.isAgg49
  z23 := Try.sizeOf49
  v23 := Try.zeroValue49 }

theorem Try.sortsA (m : Nat) : AnyZI.SortsIn Try.prog Try.sortedA_ren Fence.wide m :=
  ⟨fun blk off cap ss W hH hblk hsz => callsIn_wide.2 (AnyM.slices_Sort_int Try.sortA blk off cap ss W hH hblk hsz),
   fun p cap W => callsIn_wide.2 (AnyM.slices_Sort_int_none Try.sortA p cap W)⟩

theorem Try.keys_any (mb : Option Nat) (W : World) : Calls Try.prog 25 #[.map mb] W fun e w' => e = .returned (.func (.func 30) #[] #[.pointer (some ⟨W.heap.size, 0, none⟩)]) ∧ w' = W.alloc (.cells #[.map mb] 49) :=
  (callsIn_wide (n := 5)).1 (AnyZI.keys_in Try.keysA Fence.wide 5 trivial rfl mb W)

theorem Ps.sorted_of {w : World} {c : Value} {S : List Int → Prop} {n : Nat} (hn : n ≤ 2147483647) (hseq : SeqGives Fence.wide 2 Try.prog 30 #[.pointer (some ⟨w.heap.size, 0, none⟩)] encZ S n (w.alloc (.cells #[c] 49))) :
    Calls Try.prog 24 #[.func (.func 30) #[] #[.pointer (some ⟨w.heap.size, 0, none⟩)]] (w.alloc (.cells #[c] 49)) fun e w' => ∃ (v : Value) (ss : List Int), e = .returned v ∧ S ss ∧
      w'.ownsRow w.heap.size 3 1 v ss.length ((ss.mergeSort (fun x y => decide (x ≤ y))).map encZ) ∧ Below w.heap.size w w' := by
  have cS := AnyZI.sorted_in Try.sortedA Fence.wide 5 trivial trivial trivial trivial rfl (by omega) (Try.sortsA _) (enters_of Try.func29 (by kernel_rfl) rfl) 30 #[.pointer (some ⟨w.heap.size, 0, none⟩)] trivial (enters_of Try.func30 (by kernel_rfl) rfl) _ _ (by unfold maxLen; omega) (by omega) _ hseq
  change CallsIn _ _ Try.prog 24 _ _ _ at cS
  refine Calls.mono ((callsIn_wide (n := 5)).1 cS) ?_
  rintro e w' ⟨v, ss, rfl, hS, hrow, _, hb⟩
  refine ⟨v, ss, rfl, hS, ?_, ((Below.refl _ w).alloc (Nat.le_refl _) _).trans (hb.mono (by simp))⟩
  exact ownsRow_base_a hrow (by simp)

/-- An office's keys, rising. -/
def Ps.keysS (M : Ps.Ofc) : List Int := (Ps.key M).mergeSort fun x y => decide (x ≤ y)
theorem Ps.sort_lt {ss : List Int} (hn : ss.Nodup) : (ss.mergeSort (fun x y => decide (x ≤ y))).Pairwise (· < ·) := by
  have h1 : (ss.mergeSort (fun x y => decide (x ≤ y))).Pairwise (fun x y => decide (x ≤ y) = true) := List.pairwise_mergeSort (fun a b c h1 h2 => by simp only [decide_eq_true_eq] at *; omega) (fun a b => by simp only [Bool.or_eq_true, decide_eq_true_eq]; omega) ss
  have h2 : (ss.mergeSort (fun x y => decide (x ≤ y))).Nodup := ((List.mergeSort_perm ss _).nodup_iff).2 hn
  have h3 := List.Pairwise.and h1 h2
  refine h3.imp ?_
  intro a b ⟨h4, h5⟩
  simp only [decide_eq_true_eq] at h4
  omega
theorem Ps.rising_eq : ∀ {a b : List Int}, a.Pairwise (· < ·) → b.Pairwise (· < ·) → (∀ x, x ∈ a ↔ x ∈ b) → a = b
  | [], [], _, _, _ => rfl
  | [], y :: b, _, _, h => by have := (h y).2 (by simp); cases this
  | x :: a, [], _, _, h => by have := (h x).1 (by simp); cases this
  | x :: a, y :: b, ha, hb, h => by
    rw [List.pairwise_cons] at ha hb
    have hxy : x = y := by
      rcases List.mem_cons.1 ((h x).1 (by simp)) with e | e
      · exact e
      · rcases List.mem_cons.1 ((h y).2 (by simp)) with e' | e'
        · exact e'.symm
        · have := hb.1 x e
          have := ha.1 y e'
          omega
    subst hxy
    rw [Ps.rising_eq ha.2 hb.2 fun z => ?_]
    constructor
    · intro hz
      rcases List.mem_cons.1 ((h z).1 (by simp [hz])) with e | e
      · subst e
        have := ha.1 z hz
        omega
      · exact e
    · intro hz
      rcases List.mem_cons.1 ((h z).2 (by simp [hz])) with e | e
      · subst e
        have := hb.1 z hz
        omega
      · exact e
theorem Ps.keysS_of {M : Ps.Ofc} (hn : (Ps.key M).Nodup) {ss : List Int} (hp : ss.Perm (Ps.key M)) : ss.mergeSort (fun x y => decide (x ≤ y)) = Ps.keysS M :=
  Ps.rising_eq (Ps.sort_lt (hp.nodup_iff.2 hn)) (Ps.sort_lt hn) fun x => by
    rw [(List.mergeSort_perm ss _).mem_iff, Ps.keysS, (List.mergeSort_perm _ _).mem_iff, hp.mem_iff]
theorem Ps.keysS_length (M : Ps.Ofc) : (Ps.keysS M).length = M.length := by simp [Ps.keysS, Ps.key]
theorem Ps.keysS_mem {M : Ps.Ofc} {x : Int} : x ∈ Ps.keysS M ↔ Ps.has M x = true := by
  rw [Ps.keysS, (List.mergeSort_perm _ _).mem_iff, Ps.has_iff]

set_option maxRecDepth 20000 in
theorem Try.pKeys_any (o : Nat) (pm : Option Nat) (M : Ps.Ofc) (w : World) (h : Ps.At o pm M w) (hlen : M.length ≤ 8) :
    Calls Try.prog 13 #[.pointer (some ⟨o, 0, none⟩)] w fun e w' => ∃ v, e = .returned v ∧ w'.ownsRow w.heap.size 3 1 v M.length ((Ps.keysS M).map encZ) ∧ Below w.heap.size w w' := by
  have c0 := h.cell
  have h3 := h.alloc (.cells #[.map pm] 49)
  have C2 : Calls Try.prog 24 #[.func (.func 30) #[] #[.pointer (some ⟨w.heap.size, 0, none⟩)]] (w.alloc (.cells #[.map pm] 49)) fun e w' => ∃ v, e = .returned v ∧ w'.ownsRow w.heap.size 3 1 v M.length ((Ps.keysS M).map encZ) ∧ Below w.heap.size w w' := by
    have tail : ∀ (S : List Int → Prop) (n : Nat), n ≤ 2147483647 → (∀ ss, S ss → ss.Perm (Ps.key M)) → SeqGives Fence.wide 2 Try.prog 30 #[.pointer (some ⟨w.heap.size, 0, none⟩)] encZ S n (w.alloc (.cells #[.map pm] 49)) → Calls Try.prog 24 #[.func (.func 30) #[] #[.pointer (some ⟨w.heap.size, 0, none⟩)]] (w.alloc (.cells #[.map pm] 49)) fun e w' => ∃ v, e = .returned v ∧ w'.ownsRow w.heap.size 3 1 v M.length ((Ps.keysS M).map encZ) ∧ Below w.heap.size w w' := by
      intro S n hn hS hseq
      refine (Ps.sorted_of hn hseq).mono ?_
      rintro e w' ⟨v, ss, rfl, hs, hrow, hb⟩
      have hp := hS ss hs
      rw [Ps.keysS_of h.nodup hp] at hrow
      have hl : ss.length = M.length := by rw [hp.length_eq]; simp [Ps.key]
      rw [hl] at hrow
      exact ⟨v, rfl, hrow, hb⟩
    cases pm with
    | none =>
      have hM := h.2.1 rfl
      refine tail (fun ss => ss = []) 0 (by omega) (fun ss e => by rw [e, hM]; exact List.Perm.refl _) ?_
      exact AnyZI.keys_gives_nil (ρ := Try.keysA_ren) { Try.keysA with } Fence.wide _ trivial rfl w.heap.size _ (by simp) (by simp)
    | some b =>
      obtain ⟨D, hown, hi⟩ := h3.2.2 b rfl
      refine tail (fun ss => ss.Perm (Go.intKeys D)) (Maps.size D) (by rw [hi.size]; omega) (fun ss e => e.trans hi.keys) ?_
      exact AnyZI.keys_gives (ρ := Try.keysA_ren) { Try.keysA with } Fence.wide _ trivial rfl (by omega) w.heap.size b M.length D _ (by simp) (by simp) hown
  have HC : Hid _ := C2
  clear C2 h h3
  go_enter Try.func13, Try.ntmps13
  go_wp2_with fail
  refine (Try.keys_any pm w).mono ?_
  rintro e W2 ⟨rfl, rfl⟩
  go_wp2_with fail
  refine Calls.mono HC.out ?_
  rintro e W3 ⟨v, rfl, hrow, hb⟩
  have HR : Hid (W3.ownsRow w.heap.size 3 1 v M.length ((Ps.keysS M).map encZ) ∧ Below w.heap.size w W3) := ⟨hrow, hb⟩
  clear hrow hb HC
  go_wp2
  go_ret
  exact ⟨v, rfl, HR.out.1, HR.out.2⟩

theorem Try.pCopy_any (o : Nat) (pm : Option Nat) (M : Ps.Ofc) (w : World) (h : Ps.At o pm M w) :
    Calls Try.prog 14 #[.pointer (some ⟨o, 0, none⟩)] w fun e w' => ∃ q pm', e = .returned (.pointer (some ⟨q, 0, none⟩)) ∧ Ps.At q pm' M w' ∧ w.heap.size ≤ q ∧ (∀ b, pm' = some b → w.heap.size ≤ b) ∧ Below w.heap.size w w' := by
  have c0 := h.cell
  have C2 : Calls Try.prog 26 #[.map pm] w fun e w' => ∃ pm', e = .returned (.map pm') ∧ (pm' = none → M = []) ∧ (∀ b, pm' = some b → w.heap.size ≤ b ∧ ∃ D, w'.ownsMap Try.prog 3 Ps.R b M.length D ∧ Ps.Is D M) ∧ Below w.heap.size w w' := by
    cases pm with
    | none =>
      refine (AnyW.maps_Clone_nil Try.cloneA w).mono ?_
      rintro e w' ⟨rfl, rfl⟩
      exact ⟨none, rfl, h.2.1, (fun b hb => by cases hb), Below.refl _ _⟩
    | some b =>
      obtain ⟨D, hown, hi⟩ := h.2.2 b rfl
      refine (AnyW.maps_Clone_owns Try.cloneA 3 Ps.R b M.length D w hown).mono ?_
      rintro e w' ⟨rfl, h1, _, hb⟩
      refine ⟨some w.heap.size, rfl, (fun e => by cases e), fun b' hb' => ?_, hb⟩
      cases hb'
      exact ⟨Nat.le_refl _, D, h1, hi⟩
  have HC : Hid _ := C2
  clear C2 h
  go_enter Try.func14, Try.ntmps14
  go_wp2_with fail
  refine Calls.mono HC.out ?_
  rintro e W3 ⟨pm', rfl, h1, h2, hb⟩
  have HR : Hid ((pm' = none → M = []) ∧ (∀ b, pm' = some b → w.heap.size ≤ b ∧ ∃ D, W3.ownsMap Try.prog 3 Ps.R b M.length D ∧ Ps.Is D M) ∧ Below w.heap.size w W3) := ⟨h1, h2, hb⟩
  clear h1 h2 hb HC
  go_wp2
  go_ret
  refine ⟨W3.heap.size, pm', rfl, ⟨heap_alloc_new _ _, HR.out.1, fun b hb => ?_⟩, HR.out.2.2.size, fun b hb => (HR.out.2.1 b hb).1, HR.out.2.2.alloc HR.out.2.2.size _⟩
  obtain ⟨_, D, h3, h4⟩ := HR.out.2.1 b hb
  exact ⟨D, h3.alloc _, h4⟩

end Go.Proofs
