/-
  A sort of two.
-/
import Derived.Test.YtkjjeoblmcljnaaScSort
import Derived.Test.YtkjjeoblmcljnaaNtTake
import Derived.Deep.RegionHeld3
namespace Go.Proofs
open Go.RowKit Go.Shelf Go.Sort

/-- A list of two numbers, in a block of its own. -/
def Sc.Pr (r gp gs gl : Nat) (vd : Value) (x y : Int) (w : World) : Prop := w.cell? ⟨gl, 0, none⟩ = some (.int .i64 x) ∧ w.cell? ⟨gl, 1, none⟩ = some (.int .i64 y) ∧ (∀ o, w.frozen? ⟨gl, o, none⟩ = false) ∧ gl < w.heap.size ∧ gl ≠ r ∧ gl ≠ gp ∧ gl ≠ gs ∧ vd.ownBlock ≠ some gl

theorem Sc.At.but {r gp gs cp : Nat} {vd : Value} {a b c : Int} {D : List Int} {E : Nat → Prop} {w w' : World} (h : Sc.At r gp gs cp vd a b c D w) (hb : Tk.But E w w') (n1 : ¬ E r) (n2 : ¬ E gp) (n3 : ¬ E gs) (n4 : ∀ g, vd.ownBlock = some g → ¬ E g) : Sc.At r gp gs cp vd a b c D w' := by
  obtain ⟨l1, l2, l3, l4⟩ := h.lts
  obtain ⟨cur, hp, hc⟩ := h.plan
  refine ⟨(hb.block _ l1 n1).trans h.run, ⟨cur, (hb.block _ l2 n2).trans hp, hc⟩, (hb.block _ l3 n3).trans h.sts, ⟨h.done.1, ?_⟩, h.far⟩
  rcases h.done.2 with hn | ⟨g', cap, cur, e, h3, h4, h5⟩
  · exact .inl hn
  · exact .inr ⟨g', cap, cur, e, h3, (hb.block _ (l4 g' (by rw [e]; rfl)) (n4 g' (by rw [e]; rfl))).trans h4, h5⟩

set_option maxRecDepth 20000 in
set_option maxHeartbeats 3200000 in
theorem Try.ins_two {r gp gs cp : Nat} {vd : Value} {a b c : Int} (gl cl : Nat) (w : World) (h : Sc.At r gp gs cp vd a b c [1, 2] w) (hp : Sc.Pr r gp gs gl vd 1 2 w) :
    Calls Try.prog 49 #[.slice (some ⟨gl, 0, none⟩) 2 cl, .int .i64 0, .int .i64 2, .func (.func 36) #[.pointer (some ⟨r, 0, none⟩)] #[]] w fun e w' => e = .returned (.tuple #[]) ∧ w'.cell? ⟨gl, 0, none⟩ = some (.int .i64 2) ∧ w'.cell? ⟨gl, 1, none⟩ = some (.int .i64 1) ∧ Tk.But (fun x => x = gl) w w' := by
  obtain ⟨c0, c1, f0, hl, _⟩ := hp
  have SB : Hid (∀ W, Below w.heap.size w W → W.cell? ⟨gl, 0, none⟩ = some (.int .i64 1) ∧ W.cell? ⟨gl, 1, none⟩ = some (.int .i64 2)) := fun W hb => ⟨(hb.cell (p := ⟨gl, 0, none⟩) hl).trans c0, (hb.cell (p := ⟨gl, 1, none⟩) hl).trans c1⟩
  have SF : Hid (∀ W, Below w.heap.size w W → ∀ o, W.frozen? ⟨gl, o, none⟩ = false) := fun W hb o => (World.frozen?_of_block (hb.block gl hl)).trans (f0 o)
  have CL : Hid (∀ W, Below w.heap.size w W → Calls Try.prog 36 #[.pointer (some ⟨r, 0, none⟩), .int .i64 2, .int .i64 1] W fun e w' => e = .returned (.int .i64 (-1)) ∧ Hid (Below w.heap.size w w')) := fun W hb => (Try.later_21 W (h.below hb)).mono fun e w' q => ⟨q.1, hb.trans (q.2.mono hb.size)⟩
  have hw10 : IntKind.i64.wrap ((1 : Int) - 1) = 0 := by decide
  have hw00 : IntKind.i64.wrap (0 : Int) = 0 := by decide
  clear h c0 c1 f0 hl
  go_enter Try.func49, Try.ntmps49
  go_wp2
  refine wp_loop_rounds 2 ?_
  rw [rounds_succ]
  go_wp2
  refine wp_loop_rounds 2 ?_
  rw [rounds_succ]
  go_wp2
  refine wp_region_held_drew (S := (fun W => W.cell? ⟨gl, 0, none⟩ = some (.int .i64 1) ∧ W.cell? ⟨gl, 1, none⟩ = some (.int .i64 2))) (by kernel_rfl) ?_ (fun hHeld => ?_)
  · exact SB.out _ (Below.refl _ w).drew
  refine Nt.takeS (v := ?vt0) 0 18 rfl rfl (by kernel_rfl) (by kernel_rfl) (by kernel_rfl) (fun _ _ _ h => h) (Or.inl ⟨by rfl, ?yt0⟩) hHeld ?rt0
  case yt0 => (intro w hSw; (try dsimp only at hSw); go_simp; all_goals (with_reducible rfl))
  simp only [List.set_cons_succ, List.set_cons_zero]
  refine Nt.takeS (v := ?vt1) 1 19 rfl rfl (by kernel_rfl) (by kernel_rfl) (by kernel_rfl) (fun _ _ _ h => h) (Or.inl ⟨by rfl, ?yt1⟩) hHeld ?rt1
  case yt1 => (intro w hSw; (try dsimp only at hSw); go_simp; all_goals (with_reducible rfl))
  simp only [List.set_cons_succ, List.set_cons_zero]
  refine Nt.takeS (v := ?vt2) 2 20 rfl rfl (by kernel_rfl) (by kernel_rfl) (by kernel_rfl) (fun _ _ _ h => h) (Or.inl ⟨by rfl, ?yt2⟩) hHeld ?rt2
  case yt2 => (intro w hSw; (try dsimp only at hSw); go_simp; all_goals (with_reducible rfl))
  simp only [List.set_cons_succ, List.set_cons_zero]
  refine Nt.takeS (v := ?vt3) 3 21 rfl rfl (by kernel_rfl) (by kernel_rfl) (by kernel_rfl) (fun _ _ _ h => h) (Or.inl ⟨by rfl, ?yt3⟩) hHeld ?rt3
  case yt3 => (intro w hSw; (try dsimp only at hSw); go_simp; all_goals (with_reducible rfl))
  simp only [List.set_cons_succ, List.set_cons_zero]
  refine Nt.takeS (v := ?vt4) 4 22 rfl rfl (by kernel_rfl) (by kernel_rfl) (by kernel_rfl) (fun _ _ _ h => h) (Or.inl ⟨by rfl, ?yt4⟩) hHeld ?rt4
  case yt4 => (intro w hSw; (try dsimp only at hSw); go_simp; all_goals (with_reducible rfl))
  simp only [List.set_cons_succ, List.set_cons_zero]
  refine Nt.takeS (v := ?vt5) 5 23 rfl rfl (by kernel_rfl) (by kernel_rfl) (by kernel_rfl) (fun _ _ _ h => h) (Or.inl ⟨by rfl, ?yt5⟩) hHeld ?rt5
  case yt5 => (intro w hSw; (try dsimp only at hSw); go_simp; all_goals (with_reducible rfl))
  simp only [List.set_cons_succ, List.set_cons_zero]
  refine Nt.takeS (v := ?vt6) 6 24 rfl rfl (by kernel_rfl) (by kernel_rfl) (by kernel_rfl) (fun _ _ _ h => h) (Or.inl ⟨by rfl, ?yt6⟩) hHeld ?rt6
  case yt6 => (intro w hSw; (try dsimp only at hSw); go_simp; all_goals (with_reducible rfl))
  simp only [List.set_cons_succ, List.set_cons_zero]
  refine Nt.takeS (v := ?vt7) 7 25 rfl rfl (by kernel_rfl) (by kernel_rfl) (by kernel_rfl) (fun _ _ _ h => h) (Or.inl ⟨by rfl, ?yt7⟩) hHeld ?rt7
  case yt7 => (intro w hSw; (try dsimp only at hSw); go_simp; all_goals (with_reducible rfl))
  simp only [List.set_cons_succ, List.set_cons_zero]
  refine Nt.takeS (v := ?vt8) 8 26 rfl rfl (by kernel_rfl) (by kernel_rfl) (by kernel_rfl) (fun _ _ _ h => h) (Or.inl ⟨by rfl, ?yt8⟩) hHeld ?rt8
  case yt8 => (intro w hSw; (try dsimp only at hSw); go_simp; all_goals (with_reducible rfl))
  simp only [List.set_cons_succ, List.set_cons_zero]
  refine Nt.takeS (v := ?vt9) 9 27 rfl rfl (by kernel_rfl) (by kernel_rfl) (by kernel_rfl) (fun _ _ _ h => h) (Or.inl ⟨by rfl, ?yt9⟩) hHeld ?rt9
  case yt9 => (intro w hSw; (try dsimp only at hSw); go_simp; all_goals (with_reducible rfl))
  simp only [List.set_cons_succ, List.set_cons_zero]
  refine Nt.takeS (v := ?vt10) 10 28 rfl rfl (by kernel_rfl) (by kernel_rfl) (by kernel_rfl) (fun _ _ _ h => h) (Or.inl ⟨by rfl, ?yt10⟩) hHeld ?rt10
  case yt10 => (intro w hSw; (try dsimp only at hSw); go_simp; all_goals (with_reducible rfl))
  simp only [List.set_cons_succ, List.set_cons_zero]
  refine Nt.takeS (v := ?vt11) 11 29 rfl rfl (by kernel_rfl) (by kernel_rfl) (by kernel_rfl) (fun _ _ _ h => h) (Or.inl ⟨by rfl, ?yt11⟩) hHeld ?rt11
  case yt11 => (intro w hSw; (try dsimp only at hSw); go_simp; all_goals (with_reducible rfl))
  simp only [List.set_cons_succ, List.set_cons_zero]
  refine Nt.takeS (v := ?vt12) 12 30 rfl rfl (by kernel_rfl) (by kernel_rfl) (by kernel_rfl) (fun _ _ _ h => h) (Or.inl ⟨by rfl, ?yt12⟩) hHeld ?rt12
  case yt12 => (intro w hSw; (try dsimp only at hSw); go_simp; all_goals (with_reducible rfl))
  simp only [List.set_cons_succ, List.set_cons_zero]
  refine Nt.takeS (v := ?vt13) 13 31 rfl rfl (by kernel_rfl) (by kernel_rfl) (by kernel_rfl) (fun _ _ _ h => h) (Or.inl ⟨by rfl, ?yt13⟩) hHeld ?rt13
  case yt13 => (intro w hSw; (try dsimp only at hSw); go_simp; all_goals (with_reducible rfl))
  simp only [List.set_cons_succ, List.set_cons_zero]
  refine wpAnyH_ready (rs := [14]) (by kernel_rfl) (by simp) ?_
  refine AllReadyH.cons rfl (fun K hK => ?_) AllReadyH.nil
  rw [if_pos (by rfl)]
  go_simp
  go_at_call 36
  refine Calls.mono (CL.out _ (Below.refl _ w).drew) ?_
  rintro e W1 ⟨rfl, B1⟩
  go_wp2_with fail
  refine hK.out _ _ ?_ (fun hTc => ?_)
  · exact SB.out _ B1.out
  clear hK K
  first | refine Nt.normS 32 rfl ?_ | skip
  first | (simp only [List.set_cons_succ, List.set_cons_zero]) | skip
  refine Nt.takeS (v := ?vu15) 15 33 rfl rfl (by kernel_rfl) (by kernel_rfl) (by kernel_rfl) (fun _ _ _ h => h) (Or.inl ⟨by rfl, ?yu15⟩) hTc ?ru15
  case yu15 => (intro w hSw; (try dsimp only at hSw); go_simp; all_goals (with_reducible rfl))
  simp only [List.set_cons_succ, List.set_cons_zero]
  refine Nt.takeS (v := ?vu16) 16 34 rfl rfl (by kernel_rfl) (by kernel_rfl) (by kernel_rfl) (fun _ _ _ h => h) (Or.inl ⟨by rfl, ?yu16⟩) hTc ?ru16
  case yu16 => (intro w hSw; (try dsimp only at hSw); go_simp; all_goals (with_reducible rfl))
  simp only [List.set_cons_succ, List.set_cons_zero]
  refine wpAnyH_done (by kernel_rfl) ?_ _
  have m0 := (SB.out _ B1.out).1
  have m1 := (SB.out _ B1.out).2
  have mf := SF.out _ B1.out
  have HB1 : Hid (Below w.heap.size w W1) := B1
  clear SB SF CL
  go_upto_region 6 with fail
  have m0' : W1.drew.cell? ⟨gl, 0, none⟩ = some (.int .i64 1) := m0
  have m1' : W1.drew.cell? ⟨gl, 1, none⟩ = some (.int .i64 2) := m1
  have mf' : ∀ o, W1.drew.frozen? ⟨gl, o, none⟩ = false := mf
  have FW : Hid (((W1.setCell ⟨gl, 1, none⟩ (.int .i64 1)).setCell ⟨gl, 0, none⟩ (.int .i64 2)).cell? ⟨gl, 0, none⟩ = some (.int .i64 2) ∧ ((W1.setCell ⟨gl, 1, none⟩ (.int .i64 1)).setCell ⟨gl, 0, none⟩ (.int .i64 2)).cell? ⟨gl, 1, none⟩ = some (.int .i64 1)) := by
    have e0 : (W1.setCell ⟨gl, 1, none⟩ (.int .i64 1)).cell? ⟨gl, 0, none⟩ = some (.int .i64 1) := (World.cell?_setCell_other _ ⟨gl, 1, none⟩ ⟨gl, 0, none⟩ _ (by simp)).trans m0
    have e1 : (W1.setCell ⟨gl, 1, none⟩ (.int .i64 1)).cell? ⟨gl, 1, none⟩ = some (.int .i64 1) := World.cell?_setCell_same' _ _ _ (by rw [m1]; rfl)
    exact ⟨World.cell?_setCell_same' _ _ _ (by rw [e0]; rfl), (World.cell?_setCell_other _ ⟨gl, 0, none⟩ ⟨gl, 1, none⟩ _ (by simp)).trans e1⟩
  go_region_law (fail)
  all_goals
    go_wp2
    rw [rounds_succ]
    go_wp2
    go_quiet (fail)
    go_wp2
    rw [rounds_succ]
    go_wp2
    go_end0
    refine ⟨rfl, ?_, ?_, ?_⟩
    · exact FW.out.1
    · exact FW.out.2
    · exact ((((Tk.But.of_below HB1.out).setCell (E := fun x => x = gl) (p := ⟨gl, 1, none⟩) rfl _).setCell (E := fun x => x = gl) (p := ⟨gl, 0, none⟩) rfl _).drewN _)

set_option maxRecDepth 20000 in
theorem Try.pdq_two {r gp gs cp : Nat} {vd : Value} {a b c : Int} (gl cl : Nat) (w : World) (h : Sc.At r gp gs cp vd a b c [1, 2] w) (hp : Sc.Pr r gp gs gl vd 1 2 w) :
    Calls Try.prog 45 #[.slice (some ⟨gl, 0, none⟩) 2 cl, .int .i64 0, .int .i64 2, .int .i64 2, .func (.func 36) #[.pointer (some ⟨r, 0, none⟩)] #[]] w fun e w' => e = .returned (.tuple #[]) ∧ w'.cell? ⟨gl, 0, none⟩ = some (.int .i64 2) ∧ w'.cell? ⟨gl, 1, none⟩ = some (.int .i64 1) ∧ Tk.But (fun x => x = gl) w w' := by
  have C : Hid _ := Try.ins_two gl cl w h hp
  clear h hp
  go_enter Try.func45, Try.ntmps45
  go_wp2
  refine wp_loop_rounds 1 ?_
  rw [rounds_succ]
  go_wp2_with fail
  refine Calls.mono C.out ?_
  rintro e W ⟨rfl, q0, q1, q2⟩
  have HQ : Hid (W.cell? ⟨gl, 0, none⟩ = some (.int .i64 2) ∧ W.cell? ⟨gl, 1, none⟩ = some (.int .i64 1) ∧ Tk.But (fun x => x = gl) w W) := ⟨q0, q1, q2⟩
  clear q0 q1 q2 C
  go_wp2
  exact bodyPost_ret (results_none Try.results45 _ _ _) rfl ⟨rfl, HQ.out⟩
set_option maxRecDepth 20000 in
theorem Try.sort_two {r gp gs cp : Nat} {vd : Value} {a b c : Int} (gl cl : Nat) (w : World) (h : Sc.At r gp gs cp vd a b c [1, 2] w) (hp : Sc.Pr r gp gs gl vd 1 2 w) :
    Calls Try.prog 38 #[.slice (some ⟨gl, 0, none⟩) 2 cl, .func (.func 36) #[.pointer (some ⟨r, 0, none⟩)] #[]] w fun e w' => e = .returned (.tuple #[]) ∧ w'.cell? ⟨gl, 0, none⟩ = some (.int .i64 2) ∧ w'.cell? ⟨gl, 1, none⟩ = some (.int .i64 1) ∧ Tk.But (fun x => x = gl) w w' := by
  have C : Hid _ := Try.pdq_two gl cl w h hp
  clear h hp
  go_enter Try.func38, Try.ntmps38
  go_wp2_with fail
  refine Calls.mono (Try.bitsLen_2 w) ?_
  rintro e W ⟨rfl, hW⟩
  obtain rfl := hW.symm
  go_wp2_with fail
  refine Calls.mono C.out ?_
  rintro e W ⟨rfl, q0, q1, q2⟩
  have HQ : Hid (W.cell? ⟨gl, 0, none⟩ = some (.int .i64 2) ∧ W.cell? ⟨gl, 1, none⟩ = some (.int .i64 1) ∧ Tk.But (fun x => x = gl) w W) := ⟨q0, q1, q2⟩
  clear q0 q1 q2 C
  go_wp2
  go_end0
  exact ⟨rfl, HQ.out⟩

end Go.Proofs
