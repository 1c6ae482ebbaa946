/-
  The statements' example line: a start, a task, an end.
-/
import Derived.Test.YtmpejbdmamgepaaDoorNtAll
import Derived.Test.YtmpejbdmamgepaaDoorAllNtTwoB
namespace Go.Proofs
open Go.RowKit Go.Shelf

def Nt.lineN : List Nd := [⟨1, 0, .mk 0 0 []⟩, ⟨3, 0, .mk 0 0 []⟩, ⟨2, 0, .mk 0 0 []⟩]
def Nt.lineF : List Fl := [⟨0, 1, false, .mk 0 0 []⟩, ⟨1, 2, false, .mk 0 0 []⟩]
theorem Nt.line_met1 : ∀ i, i < 3 → Rk.met (Nt.edges Nt.lineF) 0 i = true := by
  have h := Nt.sweeps_met (es := Nt.edges Nt.lineF) (n := 3) (a := 0) (by decide) (by omega)
  have h2 : Rk.sweeps (Nt.edges Nt.lineF) 3 ((List.replicate 3 false).set 0 true) = [true, true, true] := by kernel_rfl
  rw [h2] at h
  intro i hi
  have := congrArg (fun l => l[i]?) h
  simp only [List.getElem?_map, List.getElem?_range hi, Option.map_some] at this
  match i, hi, this with
  | 0, _, t => simpa using t.symm
  | 1, _, t => simpa using t.symm
  | 2, _, t => simpa using t.symm
theorem Nt.line_met2 : ∀ i, i < 3 → Rk.met (Nt.edges Nt.lineF) i 2 = true := by
  have h := Nt.sweeps_met (es := Nt.back (Nt.edges Nt.lineF)) (n := 3) (a := 2) (by decide) (by omega)
  have h2 : Rk.sweeps (Nt.back (Nt.edges Nt.lineF)) 3 ((List.replicate 3 false).set 2 true) = [true, true, true] := by kernel_rfl
  rw [h2] at h
  intro i hi
  rw [← Nt.met_back]
  have := congrArg (fun l => l[i]?) h
  simp only [List.getElem?_map, List.getElem?_range hi, Option.map_some] at this
  match i, hi, this with
  | 0, _, t => simpa using t.symm
  | 1, _, t => simpa using t.symm
  | 2, _, t => simpa using t.symm
theorem Nt.line_check : Nt.checkN Nt.lineN Nt.lineF = (0, 0) := by
  have h : Nt.broken Nt.lineN Nt.lineF = (0, []) := Nt.broken_none fun i hi => by
    match i, hi with
    | 0, _ => show Nt.wrong1 Nt.lineN Nt.lineF = []; kernel_rfl
    | 1, _ => show Nt.wrong2 Nt.lineN Nt.lineF = []; kernel_rfl
    | 2, _ => show Nt.wrong3 Nt.lineN Nt.lineF = []; kernel_rfl
    | 3, _ =>
      show Nt.wrong4 Nt.lineN Nt.lineF = []
      unfold Nt.wrong4
      rw [List.filter_eq_nil_iff]
      intro i hi
      have hi3 : i < 3 := List.mem_range.1 hi
      have h1 : Nt.firstI Nt.lineN 1 = 0 := by kernel_rfl
      have h2 : Nt.firstI Nt.lineN 2 = 2 := by kernel_rfl
      unfold Nt.roadB
      rw [h1, h2]
      show ¬ (!(Rk.met (Nt.edges Nt.lineF) 0 i && Rk.met (Nt.edges Nt.lineF) i 2)) = true
      rw [Nt.line_met1 i hi3, Nt.line_met2 i hi3]
      simp
  rw [Nt.checkN, h]
  rfl
theorem Nt.line_check2 : Nt.checkN Nt.lineN (Nt.lineF.take 1) = (3, 1) := by
  have h : Nt.broken Nt.lineN (Nt.lineF.take 1) = (2 + 1, Nt.wrongAt Nt.lineN (Nt.lineF.take 1) 2) := Nt.broken_at (by omega) (fun i hi => by
    match i, hi with
    | 0, _ => show Nt.wrong1 Nt.lineN (Nt.lineF.take 1) = []; kernel_rfl
    | 1, _ => show Nt.wrong2 Nt.lineN (Nt.lineF.take 1) = []; kernel_rfl) (by
    have : Nt.wrongAt Nt.lineN (Nt.lineF.take 1) 2 = [1, 2] := by kernel_rfl
    rw [this]
    simp)
  have h3 : Nt.wrongAt Nt.lineN (Nt.lineF.take 1) 2 = [1, 2] := by kernel_rfl
  rw [Nt.checkN, h, h3]
  rfl
theorem Nt.line_outs : Nt.outsL Nt.lineF 1 = [1] := by kernel_rfl
theorem Nt.line_end : Nt.firstI Nt.lineN 2 = 2 := by kernel_rfl

theorem Nt.line_has {w : World} {gn gf : Nat} (hn : w.heap[gn]? = some (.cells #[.int .i64 1, .int .i64 0, .int .i64 0, .int .i64 0, .slice none 0 0, .int .i64 3, .int .i64 0, .int .i64 0, .int .i64 0, .slice none 0 0, .int .i64 2, .int .i64 0, .int .i64 0, .int .i64 0, .slice none 0 0] 37 (0, 0)))
    (hf : w.heap[gf]? = some (.cells #[.int .i64 0, .int .i64 1, .bool false, .int .i64 0, .int .i64 0, .slice none 0 0, .int .i64 1, .int .i64 2, .bool false, .int .i64 0, .int .i64 0, .slice none 0 0] 47 (0, 0))) (k : Nat) : Nt.Has w w.heap.size 1 (some ⟨gn, 0, none⟩) (some ⟨gf, 0, none⟩) Nt.lineN (Nt.lineF.take k) := by
  have hln := Nt.lt_of hn
  have hlf := Nt.lt_of hf
  have hfl : ∀ x, x ∈ Nt.lineF.take k → x ∈ Nt.lineF := fun x hx => List.mem_of_mem_take hx
  refine ⟨fun j hj => ?_, fun j hj => ?_, by decide, Nat.le_trans (List.length_take_le' _ _) (by decide), fun x hx => ?_, fun x hx => ?_⟩
  · have hj3 : j < 3 := hj
    match j, hj3 with
    | 0, _ => exact ⟨gn, 0, .slice none 0 0, rfl, hln, by unfold World.cell?; rw [hn]; rfl, by unfold World.cell?; rw [hn]; rfl, by unfold World.cell?; rw [hn]; rfl, by unfold World.cell?; rw [hn]; rfl, by unfold World.cell?; rw [hn]; rfl, ⟨none, 0, rfl, .inl rfl⟩⟩
    | 1, _ => exact ⟨gn, 0, .slice none 0 0, rfl, hln, by unfold World.cell?; rw [hn]; rfl, by unfold World.cell?; rw [hn]; rfl, by unfold World.cell?; rw [hn]; rfl, by unfold World.cell?; rw [hn]; rfl, by unfold World.cell?; rw [hn]; rfl, ⟨none, 0, rfl, .inl rfl⟩⟩
    | 2, _ => exact ⟨gn, 0, .slice none 0 0, rfl, hln, by unfold World.cell?; rw [hn]; rfl, by unfold World.cell?; rw [hn]; rfl, by unfold World.cell?; rw [hn]; rfl, by unfold World.cell?; rw [hn]; rfl, by unfold World.cell?; rw [hn]; rfl, ⟨none, 0, rfl, .inl rfl⟩⟩
  · have hj2 : j < 2 := by have : (Nt.lineF.take k).length ≤ 2 := Nat.le_trans (List.length_take_le' _ _) (by decide); omega
    have hg : (Nt.lineF.take k)[j] = Nt.lineF[j]'hj2 := List.getElem_take
    rw [hg]
    match j, hj2 with
    | 0, _ => exact ⟨gf, 0, .slice none 0 0, rfl, hlf, by unfold World.cell?; rw [hf]; rfl, by unfold World.cell?; rw [hf]; rfl, by unfold World.cell?; rw [hf]; rfl, by unfold World.cell?; rw [hf]; rfl, by unfold World.cell?; rw [hf]; rfl, by unfold World.cell?; rw [hf]; rfl, ⟨none, 0, rfl, .inl rfl⟩⟩
    | 1, _ => exact ⟨gf, 0, .slice none 0 0, rfl, hlf, by unfold World.cell?; rw [hf]; rfl, by unfold World.cell?; rw [hf]; rfl, by unfold World.cell?; rw [hf]; rfl, by unfold World.cell?; rw [hf]; rfl, by unfold World.cell?; rw [hf]; rfl, by unfold World.cell?; rw [hf]; rfl, ⟨none, 0, rfl, .inl rfl⟩⟩
  · simp only [Nt.lineN, List.mem_cons, List.not_mem_nil, or_false] at hx
    rcases hx with rfl | rfl | rfl <;> simp [Tm.size, Tm.sizes]
  · have hx := hfl x hx
    simp only [Nt.lineF, List.mem_cons, List.not_mem_nil, or_false] at hx
    rcases hx with rfl | rfl <;> simp [Tm.size, Tm.sizes]

set_option maxRecDepth 20000 in
set_option maxHeartbeats 8000000 in
theorem Tryd.line_any (w : World) (hO : Tk.Ops w) : Calls Tryd.prog 10 #[] w fun e w' => e = .returned (.bool true) ∧ Below w.heap.size w w' := by
  obtain ⟨w1, hw1⟩ : ∃ x, ((w.alloc (.cells #[.int .i64 1, .int .i64 0, .int .i64 0, .int .i64 0, .slice none 0 0, .int .i64 3, .int .i64 0, .int .i64 0, .int .i64 0, .slice none 0 0, .int .i64 2, .int .i64 0, .int .i64 0, .int .i64 0, .slice none 0 0] 37)).alloc (.cells #[.int .i64 0, .int .i64 1, .bool false, .int .i64 0, .int .i64 0, .slice none 0 0, .int .i64 1, .int .i64 2, .bool false, .int .i64 0, .int .i64 0, .slice none 0 0] 47)).alloc (.cells #[.slice (some ⟨w.heap.size, 0, none⟩) 3 3, .slice (some ⟨w.heap.size + 1, 0, none⟩) 2 2] 25) = x := ⟨_, rfl⟩
  have A1 : Below w.heap.size w w1 := by rw [← hw1]; exact (((Below.refl _ w).alloc (Nat.le_refl _) _).alloc (by simp) _).alloc (by simp; omega) _
  have G0 : w1.heap[w.heap.size]? = some (.cells #[.int .i64 1, .int .i64 0, .int .i64 0, .int .i64 0, .slice none 0 0, .int .i64 3, .int .i64 0, .int .i64 0, .int .i64 0, .slice none 0 0, .int .i64 2, .int .i64 0, .int .i64 0, .int .i64 0, .slice none 0 0] 37 (0, 0)) := by
    rw [← hw1, Below.heap_alloc _ _ _ (by simp; omega), Below.heap_alloc _ _ _ (by simp)]; exact heap_alloc_new w _
  have G1 : w1.heap[w.heap.size + 1]? = some (.cells #[.int .i64 0, .int .i64 1, .bool false, .int .i64 0, .int .i64 0, .slice none 0 0, .int .i64 1, .int .i64 2, .bool false, .int .i64 0, .int .i64 0, .slice none 0 0] 47 (0, 0)) := by
    rw [← hw1, Below.heap_alloc _ _ _ (by simp)]
    have := heap_alloc_new (w.alloc (.cells #[.int .i64 1, .int .i64 0, .int .i64 0, .int .i64 0, .slice none 0 0, .int .i64 3, .int .i64 0, .int .i64 0, .int .i64 0, .slice none 0 0, .int .i64 2, .int .i64 0, .int .i64 0, .int .i64 0, .slice none 0 0] 37)) (.cells #[.int .i64 0, .int .i64 1, .bool false, .int .i64 0, .int .i64 0, .slice none 0 0, .int .i64 1, .int .i64 2, .bool false, .int .i64 0, .int .i64 0, .slice none 0 0] 47)
    simpa using this
  have G2 : w1.heap[w.heap.size + 1 + 1]? = some (.cells #[.slice (some ⟨w.heap.size, 0, none⟩) 3 3, .slice (some ⟨w.heap.size + 1, 0, none⟩) 2 2] 25 (0, 0)) := by
    rw [← hw1]
    have := heap_alloc_new ((w.alloc (.cells #[.int .i64 1, .int .i64 0, .int .i64 0, .int .i64 0, .slice none 0 0, .int .i64 3, .int .i64 0, .int .i64 0, .int .i64 0, .slice none 0 0, .int .i64 2, .int .i64 0, .int .i64 0, .int .i64 0, .slice none 0 0] 37)).alloc (.cells #[.int .i64 0, .int .i64 1, .bool false, .int .i64 0, .int .i64 0, .slice none 0 0, .int .i64 1, .int .i64 2, .bool false, .int .i64 0, .int .i64 0, .slice none 0 0] 47)) (.cells #[.slice (some ⟨w.heap.size, 0, none⟩) 3 3, .slice (some ⟨w.heap.size + 1, 0, none⟩) 2 2] 25)
    simpa using this
  -- each world that keeps the first two blocks holds the example
  have HX : Hid (∀ W, Below (w.heap.size + 1 + 1) w1 W → Tk.Ops W ∧ ∀ k, Nt.Has W W.heap.size 1 (some ⟨w.heap.size, 0, none⟩) (some ⟨w.heap.size + 1, 0, none⟩) Nt.lineN (Nt.lineF.take k)) := fun W hb =>
    ⟨(hO.below A1 hO.lt).below hb (by have := hO.lt; omega), Nt.line_has (by rw [hb.block _ (by omega)]; exact G0) (by rw [hb.block _ (by omega)]; exact G1)⟩
  have C1 : Hid (∀ W, Below (w.heap.size + 1 + 1) w1 W → Calls Tryd.prog 11 #[.agg #[.slice (some ⟨w.heap.size, 0, none⟩) 3 3, .slice (some ⟨w.heap.size + 1, 0, none⟩) 2 2]] W fun e w' => e = .returned (.tuple #[.int .i64 0, .int .i64 0]) ∧ Hid (Below W.heap.size W w')) := fun W hb => by
    have h := Tryd.nCheck_any (some ⟨w.heap.size, 0, none⟩) 3 (some ⟨w.heap.size + 1, 0, none⟩) 2 1 Nt.lineN (Nt.lineF.take 2) W ((HX.out W hb).2 2) (HX.out W hb).1
    rw [show Nt.lineF.take 2 = Nt.lineF from rfl, Nt.line_check] at h
    exact h
  have C2 : Hid (∀ W, Below (w.heap.size + 1 + 1) w1 W → Calls Tryd.prog 16 #[.agg #[.slice (some ⟨w.heap.size, 0, none⟩) 3 3, .slice (some ⟨w.heap.size + 1, 0, none⟩) 2 2], .int .i64 1] W fun e w' => ∃ g c, e = .returned (.slice (some ⟨g, 0, none⟩) 1 c) ∧ Hid (Below W.heap.size W w' ∧ W.heap.size ≤ g ∧ g < w'.heap.size ∧ w'.cell? ⟨g, 0, none⟩ = some (.int .i64 1))) := fun W hb => by
    have h := Tryd.nOuts_any 1 (some ⟨w.heap.size, 0, none⟩) 3 3 (some ⟨w.heap.size + 1, 0, none⟩) 2 1 (Nt.lineF.take 2) W ((HX.out W hb).2 2).fls (by decide)
    rw [show Nt.lineF.take 2 = Nt.lineF from rfl, Nt.line_outs] at h
    refine h.mono fun e w' ⟨v, hv, ho, hbb⟩ => ?_
    obtain ⟨a, c, rfl, hcs⟩ := Nt.own_cellA ho
    obtain ⟨g, rfl, hg, hc⟩ := hcs 0 1 rfl
    rcases ho.2 with ⟨h1, _⟩ | ⟨g', cap, cur, h1, h2, _⟩
    · simp at h1
    · simp only [Value.slice.injEq, Option.some.injEq, Addr.mk.injEq, and_true] at h1
      exact ⟨g, c, hv, hbb, by omega, hg, hc⟩
  have C3 : Hid (∀ W, Below (w.heap.size + 1 + 1) w1 W → Calls Tryd.prog 11 #[.agg #[.slice (some ⟨w.heap.size, 0, none⟩) 3 3, .slice (some ⟨w.heap.size + 1, 0, none⟩) 1 2]] W fun e w' => e = .returned (.tuple #[.int .i64 3, .int .i64 1]) ∧ Hid (Below W.heap.size W w')) := fun W hb => by
    have h := Tryd.nCheck_any (some ⟨w.heap.size, 0, none⟩) 3 (some ⟨w.heap.size + 1, 0, none⟩) 2 1 Nt.lineN (Nt.lineF.take 1) W ((HX.out W hb).2 1) (HX.out W hb).1
    rw [Nt.line_check2] at h
    exact h
  have C4 : Hid (∀ W, Below (w.heap.size + 1 + 1) w1 W → Calls Tryd.prog 20 #[.agg #[.slice (some ⟨w.heap.size, 0, none⟩) 3 3, .slice (some ⟨w.heap.size + 1, 0, none⟩) 1 2]] W fun e w' => e = .returned (.int .i64 2) ∧ Hid (Below W.heap.size W w')) := fun W hb => by
    have h := Tryd.nEnd_any (some ⟨w.heap.size, 0, none⟩) 3 1 (some ⟨w.heap.size + 1, 0, none⟩) 1 2 Nt.lineN W ((HX.out W hb).2 2).nds (by decide)
    rw [Nt.line_end] at h
    exact h
  have H1 : Hid (((w.alloc (.cells #[.int .i64 1, .int .i64 0, .int .i64 0, .int .i64 0, .slice none 0 0, .int .i64 3, .int .i64 0, .int .i64 0, .int .i64 0, .slice none 0 0, .int .i64 2, .int .i64 0, .int .i64 0, .int .i64 0, .slice none 0 0] 37)).alloc (.cells #[.int .i64 0, .int .i64 1, .bool false, .int .i64 0, .int .i64 0, .slice none 0 0, .int .i64 1, .int .i64 2, .bool false, .int .i64 0, .int .i64 0, .slice none 0 0] 47)).alloc (.cells #[.slice (some ⟨w.heap.size, 0, none⟩) 3 3, .slice (some ⟨w.heap.size + 1, 0, none⟩) 2 2] 25) = w1) := hw1
  have HA : Hid (Below w.heap.size w w1 ∧ w1.heap[w.heap.size + 1 + 1]? = some (.cells #[.slice (some ⟨w.heap.size, 0, none⟩) 3 3, .slice (some ⟨w.heap.size + 1, 0, none⟩) 2 2] 25 (0, 0)) ∧ w.heap.size + 1 + 1 < w1.heap.size) := ⟨A1, G2, Nt.lt_of G2⟩
  clear hw1 A1 G0 G1 G2 hO HX
  go_enter Tryd.func10, Tryd.ntmps10
  go_upto_region 2 with fail
  rw [H1.out]
  obtain ⟨p0, p1⟩ := Nt.box2 HA.out.2.1
  go_wp2_with fail
  refine Calls.mono (C1.out w1 (Below.refl _ _)) ?_
  rintro e W1 ⟨rfl, B1⟩
  clear p0 p1
  have X1 : Hid (Below (w.heap.size + 1 + 1) w1 W1) := B1.out.mono (by have := HA.out.2.2; omega)
  have Y1 : W1.heap[w.heap.size + 1 + 1]? = some (.cells #[.slice (some ⟨w.heap.size, 0, none⟩) 3 3, .slice (some ⟨w.heap.size + 1, 0, none⟩) 2 2] 25 (0, 0)) := by rw [B1.out.block _ HA.out.2.2]; exact HA.out.2.1
  obtain ⟨p0, p1⟩ := Nt.box2 Y1
  have HY1 : Hid _ := Y1
  clear Y1
  go_wp2_with fail
  refine Calls.mono (C2.out W1 X1.out) ?_
  rintro e W2 ⟨gl, cl, rfl, B2⟩
  clear p0 p1
  have hs1 := Nt.lt_of HY1.out
  have Y2 : W2.heap[w.heap.size + 1 + 1]? = some (.cells #[.slice (some ⟨w.heap.size, 0, none⟩) 3 3, .slice (some ⟨w.heap.size + 1, 0, none⟩) 2 2] 25 (0, 0)) := by rw [B2.out.1.block _ hs1]; exact HY1.out
  obtain ⟨p0, p1⟩ := Nt.box2 Y2
  have fz : W2.frozen? ⟨w.heap.size + 1 + 1, 1, none⟩ = false := by simp [World.frozen?, Y2]
  obtain ⟨W3, hW3⟩ : ∃ z, W2.setCell ⟨w.heap.size + 1 + 1, 1, none⟩ (.slice (some ⟨w.heap.size + 1, 0, none⟩) 1 2) = z := ⟨_, rfl⟩
  have HW3 : Hid (W2.setCell ⟨w.heap.size + 1 + 1, 1, none⟩ (.slice (some ⟨w.heap.size + 1, 0, none⟩) 1 2) = W3) := hW3
  have X2 : Below (w.heap.size + 1 + 1) w1 W2 := X1.out.trans (B2.out.1.mono (by omega))
  have X3 : Hid (Below (w.heap.size + 1 + 1) w1 W3) := by show Below _ _ _; rw [← hW3]; exact X2.setCell (p := ⟨w.heap.size + 1 + 1, 1, none⟩) (Nat.le_refl _) _
  have Y3 : Hid (W3.heap[w.heap.size + 1 + 1]? = some (.cells #[.slice (some ⟨w.heap.size, 0, none⟩) 3 3, .slice (some ⟨w.heap.size + 1, 0, none⟩) 1 2] 25 (0, 0))) := by
    show _ = _
    rw [← hW3]
    simp [World.setCell, Array.getElem?_modify, Y2]
  have Z3 : Hid (gl < W3.heap.size ∧ W3.cell? ⟨gl, 0, none⟩ = some (.int .i64 1)) := by
    have hne : gl ≠ w.heap.size + 1 + 1 := by have := B2.out.2.1; omega
    refine ⟨by rw [← hW3]; simpa using B2.out.2.2.1, ?_⟩
    rw [← hW3, World.cell?_of_block (w := W2) (Below.heap_setCell _ _ _ _ hne)]
    exact B2.out.2.2.2
  clear Y2 hW3 X2 hs1
  go_upto_region 5 with fail
  rw [HW3.out]
  clear p0 p1 fz
  obtain ⟨p0, p1⟩ := Nt.box2 Y3.out
  go_wp2_with fail
  refine Calls.mono (C3.out W3 X3.out) ?_
  rintro e W4 ⟨rfl, B4⟩
  clear p0 p1
  have Y4 : W4.heap[w.heap.size + 1 + 1]? = some (.cells #[.slice (some ⟨w.heap.size, 0, none⟩) 3 3, .slice (some ⟨w.heap.size + 1, 0, none⟩) 1 2] 25 (0, 0)) := by rw [B4.out.block _ (Nt.lt_of Y3.out)]; exact Y3.out
  obtain ⟨p0, p1⟩ := Nt.box2 Y4
  have z4 : W4.cell? ⟨gl, 0, none⟩ = some (.int .i64 1) := by rw [B4.out.cell (p := ⟨gl, 0, none⟩) Z3.out.1]; exact Z3.out.2
  have X4 : Hid (Below (w.heap.size + 1 + 1) w1 W4) := X3.out.trans (B4.out.mono (by have := Nt.lt_of Y3.out; omega))
  clear Y4
  go_wp2_with fail
  refine Calls.mono (C4.out W4 X4.out) ?_
  rintro e W5 ⟨rfl, B5⟩
  have X5 : Hid (Below w.heap.size w W5) := HA.out.1.trans ((X4.out.trans (B5.out.mono (by have := X4.out.size; have := HA.out.2.2; omega))).mono (by omega))
  clear p0 p1 z4
  go_wp2
  go_ret
  exact ⟨rfl, X5.out⟩

end Go.Proofs
