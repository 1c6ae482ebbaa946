/-
  Enter at the example's scopes; the closures of isOf; a sort of nothing.
-/
import Derived.Test.YtkjjeoblmcljnaaScMem
namespace Go.Proofs
open Go.RowKit Go.Shelf Go.Sort

theorem Sc.At.put {r gp gs cp : Nat} {vd : Value} {a b c a' b' c' : Int} {D : List Int} {w w' : World} (h : Sc.At r gp gs cp vd a b c D w) (hs : w'.heap[gs]? = some (.cells #[.int .i64 a', .int .i64 b', .int .i64 c'] 3 (0, 0))) (hb : Tk.But (fun x => x = gs) w w') : Sc.At r gp gs cp vd a' b' c' D w' := by
  obtain ⟨l1, l2, l3, l4⟩ := h.lts
  obtain ⟨cur, hp, hc⟩ := h.plan
  have n1 : r ≠ gs := fun e => by
    have := h.run
    rw [e, h.sts] at this
    simp at this
  have n2 : gp ≠ gs := fun e => by
    rw [e, h.sts] at hp
    simp at hp
  refine ⟨(hb.block _ l1 n1).trans h.run, ⟨cur, (hb.block _ l2 n2).trans hp, hc⟩, hs, ⟨h.done.1, ?_⟩, h.far⟩
  rcases h.done.2 with hn | ⟨g', cap, cur, e, h3, h4, h5⟩
  · exact .inl hn
  · refine .inr ⟨g', cap, cur, e, h3, (hb.block _ (l4 g' (by rw [e]; rfl)) (fun e' => ?_)).trans h4, h5⟩
    subst e'
    exact h.far (by rw [e]; rfl)
theorem Sc.At.set {r gp gs cp : Nat} {vd : Value} {a b c : Int} {D : List Int} {w : World} (h : Sc.At r gp gs cp vd a b c D w) (x : Int) : Sc.At r gp gs cp vd x b c D (w.setCell ⟨gs, 0, none⟩ (.int .i64 x)) ∧ Sc.At r gp gs cp vd a x c D (w.setCell ⟨gs, 1, none⟩ (.int .i64 x)) ∧ Sc.At r gp gs cp vd a b x D (w.setCell ⟨gs, 2, none⟩ (.int .i64 x)) := by
  have hs := h.sts
  have hb : ∀ o v, Tk.But (fun x => x = gs) w (w.setCell ⟨gs, o, none⟩ v) := fun o v => (Tk.But.refl (fun x => x = gs) w).setCell (E := fun x => x = gs) (p := ⟨gs, o, none⟩) rfl v
  refine ⟨h.put ?_ (hb _ _), h.put ?_ (hb _ _), h.put ?_ (hb _ _)⟩
  · simp [World.setCell, Array.getElem?_modify, hs]
  · simp [World.setCell, Array.getElem?_modify, hs]
  · simp [World.setCell, Array.getElem?_modify, hs]

def Sc.par (k : Nat) : Int := if k = 0 then -1 else 0
set_option maxRecDepth 20000 in
theorem Try.isOf1_any {r gp gs cp : Nat} {vd : Value} {a b c : Int} {D : List Int} (k i b1 b2 : Nat) (hk : k < 3) (hi : i < 3) (w : World) (h : Sc.At r gp gs cp vd a b c D w) (q1 : w.cell? ⟨b1, 0, none⟩ = some (.pointer (some ⟨r, 0, none⟩))) (q2 : w.cell? ⟨b2, 0, none⟩ = some (.int .i64 i)) :
    Calls Try.prog 39 #[.int .i64 k, .pointer (some ⟨b1, 0, none⟩), .pointer (some ⟨b2, 0, none⟩)] w fun e w' => e = .returned (.bool (decide (Sc.par k = (i : Int)))) ∧ Below w.heap.size w w' := by
  have c0 := h.c0.1
  have p0 : w.cell? ⟨gp, 0, none⟩ = some (.int .i64 (-1)) := h.pls 0 (by omega)
  have p1 : w.cell? ⟨gp, 3, none⟩ = some (.int .i64 0) := h.pls 3 (by omega)
  have p2 : w.cell? ⟨gp, 6, none⟩ = some (.int .i64 0) := h.pls 6 (by omega)
  clear h
  obtain rfl | rfl | rfl : k = 0 ∨ k = 1 ∨ k = 2 := by omega
  all_goals
    obtain rfl | rfl | rfl : i = 0 ∨ i = 1 ∨ i = 2 := by omega
    all_goals
      clear hk hi
      go_enter Try.func39, Try.ntmps39
      go_wp2
      go_quiet (fail)
      go_wp2
      go_ret
      exact ⟨rfl, Tk.below_drewN (Below.refl _ _) _⟩

set_option maxRecDepth 20000 in
theorem Try.sEnter_1 {r gp gs cp : Nat} {vd : Value} {c : Int} {D : List Int} (w : World) (h : Sc.At r gp gs cp vd 1 0 c D w) : Calls Try.prog 19 #[.pointer (some ⟨r, 0, none⟩), .int .i64 1] w fun e w' => e = .returned (.int .i64 0) ∧ Sc.At r gp gs cp vd 1 1 c D w' ∧ Tk.But (fun x => x = gs) w w' := by
  have C : Hid _ := Try.sHas_any 1 (by omega) w h
  have c0 := h.c0.1
  have c1 := h.c0.2.1
  obtain ⟨s0, s1, s2, sf⟩ := h.st
  have p1 : w.cell? ⟨gp, 3, none⟩ = some (.int .i64 0) := h.pls 3 (by omega)
  have H : Hid (Sc.At r gp gs cp vd 1 0 c D w) := h
  clear h
  go_enter Try.func19, Try.ntmps19
  go_wp2_with fail
  refine Calls.mono C.out ?_
  rintro e W ⟨rfl, hW⟩
  obtain rfl := hW.symm
  go_upto_region 4 with fail
  go_quiet (fail)
  obtain ⟨V, hV⟩ : ∃ y, w.drewN nq = y := ⟨_, rfl⟩
  have c1' : V.cell? ⟨r, 1, none⟩ = some (.slice (some ⟨gs, 0, none⟩) 3 3) := by rw [← hV]; exact c1
  have s1' : V.cell? ⟨gs, 1, none⟩ = some (.int .i64 0) := by rw [← hV]; exact s1
  have sf' : ∀ o, V.frozen? ⟨gs, o, none⟩ = false := by rw [← hV]; exact sf
  have HV : Hid (Sc.At r gp gs cp vd 1 0 c D V ∧ Tk.But (fun x => x = gs) w V) := by
    rw [← hV]
    exact ⟨H.out.below (Tk.below_drewN (Below.refl _ _) _), (Tk.But.refl _ w).drewN _⟩
  rw [hV]
  clear hV c0 c1 s0 s1 s2 sf p1 C
  go_wp2
  go_ret
  exact ⟨rfl, (HV.out.1.set 1).2.1, HV.out.2.setCell (E := fun x => x = gs) (p := ⟨gs, 1, none⟩) rfl _⟩
set_option maxRecDepth 20000 in
theorem Try.sEnter_2 {r gp gs cp : Nat} {vd : Value} {b : Int} {D : List Int} (w : World) (h : Sc.At r gp gs cp vd 1 b 0 D w) : Calls Try.prog 19 #[.pointer (some ⟨r, 0, none⟩), .int .i64 2] w fun e w' => e = .returned (.int .i64 0) ∧ Sc.At r gp gs cp vd 1 b 1 D w' ∧ Tk.But (fun x => x = gs) w w' := by
  have C : Hid _ := Try.sHas_any 2 (by omega) w h
  have c0 := h.c0.1
  have c1 := h.c0.2.1
  obtain ⟨s0, s1, s2, sf⟩ := h.st
  have p1 : w.cell? ⟨gp, 6, none⟩ = some (.int .i64 0) := h.pls 6 (by omega)
  have H : Hid (Sc.At r gp gs cp vd 1 b 0 D w) := h
  clear h
  go_enter Try.func19, Try.ntmps19
  go_wp2_with fail
  refine Calls.mono C.out ?_
  rintro e W ⟨rfl, hW⟩
  obtain rfl := hW.symm
  go_upto_region 4 with fail
  go_quiet (fail)
  obtain ⟨V, hV⟩ : ∃ y, w.drewN nq = y := ⟨_, rfl⟩
  have c1' : V.cell? ⟨r, 1, none⟩ = some (.slice (some ⟨gs, 0, none⟩) 3 3) := by rw [← hV]; exact c1
  have s1' : V.cell? ⟨gs, 2, none⟩ = some (.int .i64 0) := by rw [← hV]; exact s2
  have sf' : ∀ o, V.frozen? ⟨gs, o, none⟩ = false := by rw [← hV]; exact sf
  have HV : Hid (Sc.At r gp gs cp vd 1 b 0 D V ∧ Tk.But (fun x => x = gs) w V) := by
    rw [← hV]
    exact ⟨H.out.below (Tk.below_drewN (Below.refl _ _) _), (Tk.But.refl _ w).drewN _⟩
  rw [hV]
  clear hV c0 c1 s0 s1 s2 sf p1 C
  go_wp2
  go_ret
  exact ⟨rfl, (HV.out.1.set 1).2.2, HV.out.2.setCell (E := fun x => x = gs) (p := ⟨gs, 2, none⟩) rfl _⟩

set_option maxRecDepth 100000 in
set_option maxHeartbeats 1600000 in
theorem Try.bitsLen_0 (w : World) : Calls Try.prog 46 #[.int .u64 0] w fun e w' => e = .returned (.int .i64 0) ∧ w' = w := by
  have C : Calls Try.prog 58 #[.int .u64 0] w fun e w' => e = .returned (.int .i64 0) ∧ w' = w := by
    go_enter Try.func58, Try.ntmps58
    go_wp2
    go_ret
    exact ⟨by kernel_rfl, rfl⟩
  go_enter Try.func46, Try.ntmps46
  go_wp2_with fail
  refine Calls.mono C ?_
  rintro e W ⟨rfl, hW⟩
  obtain rfl := hW.symm
  go_wp2
  go_ret
  exact ⟨rfl, rfl⟩
set_option maxRecDepth 100000 in
set_option maxHeartbeats 1600000 in
theorem Try.bitsLen_2 (w : World) : Calls Try.prog 46 #[.int .u64 2] w fun e w' => e = .returned (.int .i64 2) ∧ w' = w := by
  have C : Calls Try.prog 58 #[.int .u64 2] w fun e w' => e = .returned (.int .i64 2) ∧ w' = w := by
    go_enter Try.func58, Try.ntmps58
    go_wp2
    go_ret
    exact ⟨by kernel_rfl, rfl⟩
  go_enter Try.func46, Try.ntmps46
  go_wp2_with fail
  refine Calls.mono C ?_
  rintro e W ⟨rfl, hW⟩
  obtain rfl := hW.symm
  go_wp2
  go_ret
  exact ⟨rfl, rfl⟩

theorem Try.ins_none (f : Value) (w : World) : Calls Try.prog 49 #[.slice none 0 0, .int .i64 0, .int .i64 0, f] w fun e w' => e = .returned (.tuple #[]) ∧ w' = w := by
  go_enter Try.func49, Try.ntmps49
  go_wp2
  refine wp_loop_rounds 1 ?_
  rw [rounds_succ]
  go_wp2
  go_end0
  exact ⟨rfl, rfl⟩
theorem Try.pdq_none (f : Value) (w : World) : Calls Try.prog 45 #[.slice none 0 0, .int .i64 0, .int .i64 0, .int .i64 0, f] w fun e w' => e = .returned (.tuple #[]) ∧ w' = w := by
  go_enter Try.func45, Try.ntmps45
  go_wp2
  refine wp_loop_rounds 1 ?_
  rw [rounds_succ]
  go_wp2_with fail
  refine Calls.mono (Try.ins_none f w) ?_
  rintro e W ⟨rfl, hW⟩
  obtain rfl := hW.symm
  go_wp2
  refine bodyPost_ret (results_none Try.results45 _ _ _) rfl ?_
  exact ⟨rfl, rfl⟩
theorem Try.sort_none (f : Value) (w : World) : Calls Try.prog 38 #[.slice none 0 0, f] w fun e w' => e = .returned (.tuple #[]) ∧ w' = w := by
  go_enter Try.func38, Try.ntmps38
  go_wp2_with fail
  refine Calls.mono (Try.bitsLen_0 w) ?_
  rintro e W ⟨rfl, hW⟩
  obtain rfl := hW.symm
  go_wp2_with fail
  refine Calls.mono (Try.pdq_none f w) ?_
  rintro e W ⟨rfl, hW⟩
  obtain rfl := hW.symm
  go_wp2
  go_end0
  exact ⟨rfl, rfl⟩

end Go.Proofs
