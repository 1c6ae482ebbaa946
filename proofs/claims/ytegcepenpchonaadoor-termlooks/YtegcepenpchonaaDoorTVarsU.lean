/-
  The contract of Vars.
-/
import Derived.Test.YtegcepenpchonaaDoorTVarsT
namespace Go.Proofs
open Go.RowKit Go.Shelf Go.Maps Go.Sort

theorem Tryd.sortsA (m : Nat) : AnyZI.SortsIn Tryd.prog Tryd.sortedA_ren Fence.wide m :=
  ⟨fun blk off cap ss W hH hblk hsz => callsIn_wide.2 (AnyM.slices_Sort_int Tryd.sortA blk off cap ss W hH hblk hsz),
   fun p cap W => callsIn_wide.2 (AnyM.slices_Sort_int_none Tryd.sortA p cap W)⟩

theorem Tryd.keys_any (mb : Option Nat) (W : World) : Calls Tryd.prog 34 #[.map mb] W fun e w' => e = .returned (.func (.func 57) #[] #[.pointer (some ⟨W.heap.size, 0, none⟩)]) ∧ w' = W.alloc (.cells #[.map mb] 66) :=
  (callsIn_wide (n := 5)).1 (AnyZI.keys_in Tryd.keysA Fence.wide 5 trivial rfl mb W)

theorem Tryd.sorted_any (b nn : Nat) (D0 : DataW Unit) (w : World) (hown : w.ownsMap Tryd.prog 3 (unitElem (H := Unit)) b nn D0) (hmax : Maps.size D0 ≤ 2147483647) :
    Calls Tryd.prog 33 #[.func (.func 57) #[] #[.pointer (some ⟨w.heap.size, 0, none⟩)]] (w.alloc (.cells #[.map (some b)] 66)) fun e w' => ∃ (v : Value) (ss : List Int), e = .returned v ∧ ss.Perm (Go.intKeys D0) ∧
      w'.ownsRow w.heap.size 3 1 v ss.length ((ss.mergeSort (fun x y => decide (x ≤ y))).map encZ) ∧ Below w.heap.size w w' := by
  have hbl := hown.lt
  have hseq : SeqGives Fence.wide 2 Tryd.prog 57 #[.pointer (some ⟨w.heap.size, 0, none⟩)] encZ (fun ss => ss.Perm (Go.intKeys D0)) (Maps.size D0) (w.alloc (.cells #[.map (some b)] 66)) :=
    AnyZI.keys_gives (ρ := Tryd.keysA_ren) { Tryd.keysA with } Fence.wide _ trivial rfl (by omega) w.heap.size b nn D0 _ (by simp) (by simp) (by
      obtain ⟨es, clock, hb, Ft, hs, hD⟩ := hown
      exact ⟨es, clock, (Below.heap_alloc _ _ b hbl).trans hb, Ft, hs, hD⟩)
  have cS := AnyZI.sorted_in Tryd.sortedA Fence.wide 5 trivial trivial trivial trivial rfl (by omega) (Tryd.sortsA _) (enters_of Tryd.func56 (by kernel_rfl) rfl) 57 #[.pointer (some ⟨w.heap.size, 0, none⟩)] trivial (enters_of Tryd.func57 (by kernel_rfl) rfl) _ _ (by unfold maxLen; omega) (by omega) _ hseq
  change CallsIn _ _ Tryd.prog 33 _ _ _ at cS
  refine Calls.mono ((callsIn_wide (n := 5)).1 cS) ?_
  rintro e w' ⟨v, ss, rfl, hS, hrow, _, hb⟩
  refine ⟨v, ss, rfl, hS, ?_, ((Below.refl _ w).alloc (Nat.le_refl _) _).trans (hb.mono (by simp))⟩
  exact ownsRow_base_a hrow (by simp)

theorem Tk.sorted_lt {ss : List Int} (hn : ss.Nodup) : (ss.mergeSort (fun x y => decide (x ≤ y))).Pairwise (· < ·) := by
  have h1 : (ss.mergeSort (fun x y => decide (x ≤ y))).Pairwise (fun x y => decide (x ≤ y) = true) := List.pairwise_mergeSort (fun a b c h1 h2 => by simp only [decide_eq_true_eq] at *; omega) (fun a b => by simp only [Bool.or_eq_true, decide_eq_true_eq]; omega) ss
  have h2 : (ss.mergeSort (fun x y => decide (x ≤ y))).Nodup := ((List.mergeSort_perm ss _).nodup_iff).2 hn
  have h3 := List.Pairwise.and h1 h2
  refine h3.imp ?_
  intro a b ⟨h4, h5⟩
  simp only [decide_eq_true_eq] at h4
  omega

set_option maxRecDepth 20000 in
set_option maxHeartbeats 4000000 in
theorem Tryd.vars_any (d : Nat) (T : Tm) (v : Value) (w : World) (hT : Tm.Lies w w.heap.size d v T) (h0 : 0 < w.heap.size) (hwf : T.wfT) (hsz : T.size ≤ 2147483647) (hdp : T.depth ≤ 1000) :
    Calls Tryd.prog 17 #[.agg #[.int .i64 T.op, .int .i64 T.num, v]] w fun e w' => ∃ (u : Value) (l : List Int), e = .returned u ∧ w'.ownsRow w.heap.size 3 1 u l.length (l.map encZ) ∧ (∀ x, x ∈ l ↔ T.has x = true) ∧ l.Pairwise (· < ·) ∧ l.length ≤ 2147483647 ∧ Below w.heap.size w w' := by
  have hmm := @run_makeMap Tryd.prog
  obtain ⟨a, cap, rfl⟩ := hT.shape
  obtain ⟨o, ho⟩ : ∃ o, T.op = o := ⟨_, rfl⟩
  obtain ⟨m, hm⟩ : ∃ m, T.num = m := ⟨_, rfl⟩
  obtain ⟨n, hn⟩ : ∃ n, T.ks.length = n := ⟨_, rfl⟩
  rw [ho, hm, hn]
  rw [hn] at hT
  obtain ⟨w3, hw3⟩ : ∃ x, ((w.alloc (.cells #[.int .i64 o, .int .i64 m, .slice a n cap] 24)).alloc (.map #[] 0)).alloc (.cells #[.map (some (w.heap.size + 1))] 66) = x := ⟨_, rfl⟩
  have hs3 : w3.heap.size = w.heap.size + 3 := by rw [← hw3]; simp
  have A3 : Below w.heap.size w w3 := by rw [← hw3]; exact (((Below.refl _ w).alloc (Nat.le_refl _) _).alloc (by simp) _).alloc (by simp; omega) _
  have F3 : Tk.Fd (w.heap.size + 1 + 1) (w.heap.size + 1) [] w3 := by
    rw [← hw3]
    refine ⟨?_, 0, .map [], ?_, Nat.le_refl _, Tk.keys_nil⟩
    · have := heap_alloc_new ((w.alloc (.cells #[.int .i64 o, .int .i64 m, .slice a n cap] 24)).alloc (.map #[] 0)) (.cells #[.map (some (w.heap.size + 1))] 66)
      simpa [Tk.Mb] using this
    · have := (World.ownsMap_made (H := Unit) (w.alloc (.cells #[.int .i64 o, .int .i64 m, .slice a n cap] 24)) Tryd.prog 3 (unitElem (H := Unit))).alloc (.cells #[.map (some (w.heap.size + 1))] 66)
      simpa using this
  have h1 := Tryd.show_any (B := w.heap.size) d T (.slice a n cap) [] w3 (Tk.does_vars (w.heap.size + 1 + 1) (w.heap.size + 1) w3.heap.size (by omega) (by omega)) (fun k hk => by omega) (hT.below A3) h0 A3.size F3 hsz hdp (Tm.ok_vars [] T hwf (by simpa using hsz))
  obtain ⟨L, hL⟩ : ∃ L, Tm.foldT (fun (l : List Int) op n _ => if op = 2 then l ++ [n] else l) [] T = L := ⟨_, rfl⟩
  have hLm : (∀ x, x ∈ L ↔ T.has x = true) ∧ L.length ≤ T.size := by
    have := Tm.fold_vars [] T
    rw [hL] at this
    simpa using this
  rw [ho, hm, hL] at h1
  have H1 : Hid _ := h1
  have HL : Hid ((∀ x, x ∈ L ↔ T.has x = true) ∧ L.length ≤ 2147483647) := ⟨hLm.1, by omega⟩
  have HA : Hid (Below w.heap.size w w3 ∧ w3.heap.size = w.heap.size + 3) := ⟨A3, hs3⟩
  have HW3 : Hid (((w.alloc (.cells #[.int .i64 o, .int .i64 m, .slice a n cap] 24)).alloc (.map #[] 0)).alloc (.cells #[.map (some (w.heap.size + 1))] 66) = w3) := hw3
  clear hT hwf hsz hdp ho hm hn hw3 A3 F3 h1 hL hLm hs3
  go_enter Tryd.func17, Tryd.ntmps17
  go_wp2_with fail
  rw [HW3.out]
  refine Calls.mono H1.out ?_
  rintro e W1 ⟨rfl, hb, hF⟩
  have c0 := hF.1.c0
  obtain ⟨_, nn, D, hown, hnn, hk⟩ := hF
  have HB : Hid (Below w.heap.size w W1) := HA.out.1.trans (hb.below HA.out.1.size (by intro k hk; show ¬ k = w.heap.size + 1; omega))
  have HD : Hid (W1.ownsMap Tryd.prog 3 (unitElem (H := Unit)) (w.heap.size + 1) nn D ∧ nn ≤ L.length ∧ Tk.Keys D L) := ⟨hown, hnn, hk⟩
  clear hb H1 HW3 hown hnn hk hmm
  go_wp2_with fail
  refine (Tryd.keys_any (some (w.heap.size + 1)) W1).mono ?_
  rintro e W2 ⟨rfl, hW2⟩
  subst hW2
  go_wp2_with fail
  refine (Tryd.sorted_any (w.heap.size + 1) nn D W1 HD.out.1 ?_).mono ?_
  · have := HD.out.1.size_le
    have := HD.out.2.1
    have := HL.out.2
    omega
  rintro e W3 ⟨u, ss, rfl, hp, hrow, hb3⟩
  obtain ⟨es, rfl, k1, k2, k3⟩ := HD.out.2.2
  have hshape : ∃ au cu, u = .slice au ss.length cu := by
    rcases hrow.2 with ⟨h1, h2⟩ | ⟨g, cap, cur, hv, _⟩
    · exact ⟨none, 0, by rw [h1, h2]⟩
    · exact ⟨_, _, hv⟩
  obtain ⟨au, cu, rfl⟩ := hshape
  have HR : Hid (W3.ownsRow W1.heap.size 3 1 (.slice au ss.length cu) ss.length ((ss.mergeSort (fun x y => decide (x ≤ y))).map encZ) ∧ Below W1.heap.size W1 W3) := ⟨hrow, hb3⟩
  have HP : Hid (ss.Perm (es.map fun p => Go.intOf p.1)) := hp
  clear hrow hb3 hp
  go_wp2
  go_ret
  refine ⟨_, ss.mergeSort (fun x y => decide (x ≤ y)), rfl, ?_, fun x => ?_, Tk.sorted_lt (HP.out.nodup_iff.2 k2), ?_, HB.out.trans (HR.out.2.mono HB.out.size)⟩
  · rw [List.length_mergeSort]
    exact ownsRow_base_a HR.out.1 HB.out.size
  · rw [(List.mergeSort_perm ss _).mem_iff, HP.out.mem_iff, k3 x]
    exact HL.out.1 x
  · rw [List.length_mergeSort, HP.out.length_eq, List.length_map]
    have h1 := HD.out.1.size_le
    have h2 := HD.out.2.1
    have h3 := HL.out.2
    have h4 : es.length ≤ nn := h1
    omega

end Go.Proofs
