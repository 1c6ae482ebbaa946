/-
  Set: an alarm more, in its order.
-/
import Derived.Test.YtclpdhjchnbolaaCkDue
import Derived.Deep.AppendLies
import Derived.Deep.RegionLaw
namespace Go.Proofs
open Go.RowKit Go.Shelf Go.Sort

theorem Ck.at_op {P : Program} {ops : Array Oper} {o : Oper} {a : Act} {w : World} {K : Act → World → Prop} {Q : Exit → Act → World → Prop} {E : Prop} (x : Op) (_hop : o.op = x)
    (h : if Region.wanted o (yielded ops a.tmps) = true then Oper.wp P o a w K Q else E) : if Region.wanted o (yielded ops a.tmps) = true then Oper.wp P o a w K Q else E := h
/-- Is there an alarm of it? -/
def Ck.has (L : List Ck.Al) (id : Int) : Bool := L.any fun a => a.1 == id
theorem Ck.has_no {L : List Ck.Al} {id : Int} (h : ∀ a ∈ L, a.1 ≠ id) : Ck.has L id = false := by
  simp only [Ck.has, List.any_eq_false, beq_iff_eq]
  exact h
theorem Ck.has_yes {L : List Ck.Al} {id : Int} {i : Nat} (h : i < L.length) (e : L[i].1 = id) : Ck.has L id = true := by
  simp only [Ck.has, List.any_eq_true, beq_iff_eq]
  exact ⟨_, List.getElem_mem h, e⟩
/-- Set's answer, and the alarms behind it. -/
def Ck.setE (now : Int) (L : List Ck.Al) (id n : Int) : Int := if id < 0 ∨ Ck.time n = false then 1 else if Ck.has L id = true then 8 else if 64 ≤ L.length then 5 else if Ck.time (now + n) = false then 40 else 0
def Ck.setL (now : Int) (L : List Ck.Al) (id n : Int) : List Ck.Al := if Ck.setE now L id n = 0 then Ck.sort (L ++ [(id, now + n)]) else L
theorem Ck.infoAl : (Try.prog.info? 62).map (fun i => (i.zero, i.size, i.bytes)) = some (some (.agg #[.int .i64 0, .int .i64 0]), 2, 16) := by kernel_rfl
theorem Ck.cells_snoc (L : List Ck.Al) (a : Ck.Al) : Ck.cells (L ++ [a]) = Ck.cells L ++ [.int .i64 a.1, .int .i64 a.2] := by
  simp [Ck.cells, Ck.enc]
/-- Another row. -/
theorem Ck.At.rerow {B c : Nat} {v v' : Value} {now : Int} {L L' : List Ck.Al} {w w' : World} (h : Ck.At B c v now L w) (hb : w'.heap[c]? = w.heap[c]?) (ho : w'.ownsRow B 62 2 v' L'.length (Ck.cells L')) : Ck.At B c v' now L' (w'.setCell ⟨c, 1, none⟩ v') := by
  have hc := hb.trans h.blk
  refine ⟨h.low, by simp [World.setCell, Array.getElem?_modify, hc], ho.1, ?_⟩
  rcases ho.2 with hn | ⟨g, cap, cur, rfl, h3, h4, h5⟩
  · exact .inl hn
  · refine .inr ⟨g, cap, cur, rfl, h3, (Below.heap_setCell _ _ _ _ (fun e => ?_)).trans h4, h5⟩
    have e' : g = c := e
    rw [e', hc] at h4
    simp at h4

set_option maxRecDepth 20000 in
set_option maxHeartbeats 4000000 in
theorem Try.cSet_ok {B c : Nat} {v : Value} {now : Int} {L : List Ck.Al} (id n : Int) (w : World) (h : Ck.At B c v now L w) (ho : Ck.Ok now L) (hid : 0 ≤ id) (hn : Ck.time n = true) (hh : Ck.has L id = false) (h64 : L.length < 64) (ht : Ck.time (now + n) = true) : Calls Try.prog 18 #[.pointer (some ⟨c, 0, none⟩), .int .i64 id, .int .i64 n] w fun e w' => e = .returned (.int .i64 0) ∧ ∃ v', Ck.At B c v' now (Ck.sort (L ++ [(id, now + n)])) w' ∧ (∀ g, v'.ownBlock = some g → v.ownBlock = some g ∨ w.heap.size ≤ g) ∧ Tk.But (fun x => x = c ∨ v.ownBlock = some x) w w' := by
  obtain ⟨i0, hi, hz0, hz1, hz2⟩ := info_parts Ck.infoAl
  have hr := Ck.time_iff.1 hn
  have hnow := ho.now
  have hwr : IntKind.i64.wrap (now + n) = now + n := Go.IntWalk.i64_in _ (by omega)
  obtain ⟨t, hte⟩ : ∃ t, now + n = t := ⟨_, rfl⟩
  rw [hte] at ht hwr ⊢
  have CT : Hid (∀ W : World, Calls Try.prog 28 #[.int .i64 n] W fun e w' => e = .returned (.bool true) ∧ w' = W) := fun W => by have := Try.cIsTime_any n W; rw [hn] at this; exact this
  have CU : Hid (∀ W : World, Calls Try.prog 28 #[.int .i64 t] W fun e w' => e = .returned (.bool true) ∧ w' = W) := fun W => by have := Try.cIsTime_any t W; rw [ht] at this; exact this
  have CF : Hid _ := Try.find_any id w h (by omega)
  have d0 : decide (id < 0) = false := decide_eq_false (by omega)
  obtain ⟨m, hm⟩ : ∃ m, L.length = m := ⟨_, rfl⟩
  obtain ⟨va, vc, hv⟩ := h.shape
  rw [hm] at hv
  subst hv
  have dm : decide ((64 : Int) ≤ m) = false := decide_eq_false (by omega)
  have dm' : decide (64 ≤ m) = false := decide_eq_false (by omega)
  have hmb : m ≤ 64 := by omega
  have H : Hid (Ck.At B c (.slice va m vc) now L w ∧ Ck.Ok now L ∧ Ck.has L id = false ∧ L.length = m) := ⟨h, ho, hh, hm⟩
  have HT : Hid (now + n = t) := hte
  clear h ho hh hm hn ht hr hnow hid h64
  go_enter Try.func18, Try.ntmps18
  go_wp2_with fail
  refine Calls.mono (CT.out _) ?_
  rintro e W0 ⟨rfl, hW⟩
  obtain rfl := hW.symm
  clear hW
  go_wp2_with fail
  refine Calls.mono CF.out ?_
  rintro e W1 ⟨⟨r, rfl, hx⟩, hb1⟩
  obtain rfl : r = -1 := by
    rcases hx with ⟨e, _⟩ | ⟨i, hil, _, e⟩
    · exact e
    · have := Ck.has_yes hil e
      rw [H.out.2.2.1] at this
      cases this
  have h1 := H.out.1.below hb1 (Nat.le_refl _)
  have c1 := h1.c1
  have CN : Hid _ := Try.cNow_any c now W1 h1.c0
  have HK : Hid ((W1.alloc (.cells #[.int .i64 0, .int .i64 0] 62)).heap[W1.heap.size]? = some (.cells #[.int .i64 0, .int .i64 0] 62 (0, 0))) := heap_alloc_new W1 _
  obtain ⟨V0, hV0⟩ : ∃ z, (W1.alloc (.cells #[.int .i64 0, .int .i64 0] 62)).setRow W1.heap.size #[.int .i64 id, .int .i64 t] = z := ⟨_, rfl⟩
  have HV0 : Hid _ := hV0
  have GV : V0.heap[W1.heap.size]? = some (.cells #[.int .i64 id, .int .i64 t] 62 (0, 0)) := by show _ = _; rw [← hV0]; exact setRow_heap _ _ _ _ _ _ HK.out
  have BV : Below W1.heap.size W1 V0 := by
    rw [← hV0]
    exact ((Below.refl _ W1).alloc (Nat.le_refl _) _).trans ⟨rfl, rfl, rfl, by simp [World.setRow], fun k hk => setRow_other _ _ _ _ (by omega)⟩
  have bw0 : Below w.heap.size w V0 := hb1.trans (BV.mono hb1.size)
  have a0 := H.out.1.below bw0 (Nat.le_refl _)
  obtain ⟨V4, hV4⟩ : ∃ z, V0.alloc (.cells #[.int .i64 id, .int .i64 t] 62) = z := ⟨_, rfl⟩
  have b4 : Below V0.heap.size V0 V4 := by rw [← hV4]; exact (Below.refl _ _).alloc (Nat.le_refl _) _
  have bw4 : Below w.heap.size w V4 := bw0.trans (b4.mono bw0.size)
  have a4 := H.out.1.below bw4 (Nat.le_refl _)
  have n4 : V4.heap[V0.heap.size]? = some (.cells #[.int .i64 id, .int .i64 t] 62 (0, 0)) := by rw [← hV4]; exact heap_alloc_new _ _
  have s4 : V4.heap.size = V0.heap.size + 1 := by rw [← hV4]; simp
  have HW4 : Hid (V0.alloc (.cells #[.int .i64 id, .int .i64 t] 62) = V4) := hV4
  have v0 : V0.cell? ⟨W1.heap.size, 0, none⟩ = some (.int .i64 id) := by simp [World.cell?, GV]
  have v1 : V0.cell? ⟨W1.heap.size, 1, none⟩ = some (.int .i64 t) := by simp [World.cell?, GV]
  have OW : Hid (V4.ownsRow B 62 2 (.slice va m vc) m (Ck.cells L)) := by
    have := a4.row
    rw [H.out.2.2.2] at this
    exact this
  have c10 := a0.c1
  have NW : Hid (∀ j u, [Value.int .i64 id, Value.int .i64 t][j]? = some u → V4.cell? ((⟨V0.heap.size, 0, none⟩ : Addr).add j) = some u) := World.news_of_block n4
  have HQ : Hid (Ck.At B c (.slice va m vc) now L V4 ∧ Below w.heap.size w V4 ∧ V4.heap.size = V0.heap.size + 1 ∧ w.heap.size ≤ V0.heap.size ∧ some c ≠ (Value.slice va m vc).ownBlock ∧ c < V4.heap.size) := ⟨a4, bw4, s4, bw0.size, fun e => a4.far e.symm, a4.lt⟩
  have BM : Hid (m + 1 ≤ maxLen ∧ (m + 1) * 16 ≤ 140737488355328 ∧ B ≤ V4.heap.size) := ⟨by unfold maxLen; omega, by omega, by have := a4.low; have := a4.lt; omega⟩
  have c14 : (V0.alloc (.cells #[.int .i64 id, .int .i64 t] 62)).cell? ⟨c, 1, none⟩ = some (.slice va m vc) := by rw [hV4]; exact a4.c1
  clear hV0 GV BV bw0 a0 hV4 b4 bw4 a4 n4 s4 h1 hx hb1
  go_wp2_with fail
  refine Calls.mono CN.out ?_
  rintro e W2 ⟨rfl, hW⟩
  obtain rfl := hW.symm
  clear hW
  go_upto_region 10 with (refine wpList_store_row rfl 62 _ _ rfl W1.heap.size #[.int .i64 id, .int .i64 t] rfl rfl 62 _ HK.out (by kernel_rfl) rfl (by kernel_rfl) ?_)
  rw [HV0.out]
  go_wp2_with fail
  refine Calls.mono (CU.out _) ?_
  rintro e W3 ⟨rfl, hW⟩
  obtain rfl := hW.symm
  clear hW
  go_upto_region 12 with fail
  go_region_law (first
    | ((with_reducible refine Ck.at_op (Op.call { callee := Callee.builtin Builtin.append, args := #[.tmp 41, .tmp 43], argTypes := #[55, 55] }) ?hop ?_); (case hop => with_reducible rfl); rw [HW4.out]; refine step_append_lies _ rfl (.tmp 41) (.tmp 43) 55 rfl B 62 i0 (.agg #[.int .i64 0, .int .i64 0]) 2 16 Try.underlying55 hi hz0 hz1 hz2 rfl (by decide) (.slice va m vc) m (Ck.cells L) (by simp [Act.eval]) (by exact OW.out) ⟨V0.heap.size, 0, none⟩ 1 1 [.int .i64 id, .int .i64 t] (by simp [Act.eval]) rfl (by exact NW.out) (by intro u hu; simp at hu; rcases hu with rfl | rfl <;> rfl) (by decide) (by exact BM.out.1) (by exact BM.out.2.1) (by exact BM.out.2.2) _ rfl ?_; intro g cap w5 own5 hgrow hloc hlt; have c25 : w5.cell? ⟨c, 1, none⟩ = some (.slice va m vc) := (hgrow.cell_far ⟨c, 1, none⟩ HQ.out.2.2.2.2.2 HQ.out.2.2.2.2.1).trans HQ.out.1.c1; have z25 : w5.frozen? ⟨c, 1, none⟩ = false := (hgrow.frozen_far ⟨c, 1, none⟩ HQ.out.2.2.2.2.2 HQ.out.2.2.2.2.1).trans (HQ.out.1.fz 1))
    | fail)
  all_goals
    have bg : Tk.But (fun x => (Value.slice va m vc).ownBlock = some x) V4 w5 := ⟨hgrow.os, hgrow.tape, hgrow.output, hgrow.size, fun j hj he => hgrow.block j hj (fun e => he e.symm)⟩
    have own6 : w5.ownsRow B 62 2 (.slice (some ⟨g, 0, none⟩) (m + 1) cap) (L ++ [(id, t)]).length (Ck.cells (L ++ [(id, t)])) := by
      rw [List.length_append, Ck.cells_snoc, H.out.2.2.2]
      exact own5
    have a6 := HQ.out.1.rerow (bg.block c HQ.out.2.2.2.2.2 (fun e => HQ.out.2.2.2.2.1 e.symm)) own6
    obtain ⟨W6, hW6⟩ : ∃ y, w5.setCell ⟨c, 1, none⟩ (.slice (some ⟨g, 0, none⟩) (m + 1) cap) = y := ⟨_, rfl⟩
    have b6 : Tk.But (fun x => x = c ∨ (Value.slice va m vc).ownBlock = some x) w W6 := by
      rw [← hW6]
      exact Tk.But.setCell (p := ⟨c, 1, none⟩) ((Tk.But.of_below HQ.out.2.1).trans ⟨bg.os, bg.tape, bg.output, bg.size, fun j hj he => bg.block j hj (fun e => he (.inr e))⟩) (.inl rfl) _
    rw [hW6] at a6
    have hln : (L ++ [(id, t)]).length = m + 1 := by rw [List.length_append, H.out.2.2.2]; rfl
    have CS : Hid _ := Try.sort_any (B := B) (g := g) (cap := cap) (L := L ++ [(id, t)]) W6 (by have := a6.row; rw [hln] at this ⊢; exact this) (by omega)
    rw [hln] at CS
    have c16 := a6.c1
    have HL : Hid ((L ++ [(id, t)]).length = m + 1 ∧ ((Value.slice va m vc).ownBlock = some g ∨ w.heap.size ≤ g)) := ⟨hln, hloc.imp_right fun e => by have := HQ.out.2.2.1; have := HQ.out.2.2.2.1; have e' : g = V4.heap.size := e; omega⟩
    have A6 : Hid (Ck.At B c (.slice (some ⟨g, 0, none⟩) (m + 1) cap) now (L ++ [(id, t)]) W6 ∧ Tk.But (fun x => x = c ∨ (Value.slice va m vc).ownBlock = some x) w W6) := ⟨a6, b6⟩
    have HW6 : Hid (w5.setCell ⟨c, 1, none⟩ (.slice (some ⟨g, 0, none⟩) (m + 1) cap) = W6) := hW6
    clear bg own6 a6 b6 hln hW6 hgrow hloc hlt own5 c25 z25
    rw [HW6.out]
    go_wp2_with fail
    refine Calls.mono CS.out ?_
    rintro e W7 ⟨rfl, own7, but7⟩
    have HZ : Hid (Ck.At B c (.slice (some ⟨g, 0, none⟩) (m + 1) cap) now (Ck.sort (L ++ [(id, t)])) W7 ∧ Tk.But (fun x => x = g) W6 W7) := by
      refine ⟨⟨A6.out.1.low, (but7.block c A6.out.1.lt (fun e => A6.out.1.far (by rw [e]; rfl))).trans A6.out.1.blk, ?_⟩, but7⟩
      rw [Ck.sort_length, HL.out.1]
      exact own7
    clear own7 but7
    go_wp2
    go_ret
    refine ⟨rfl, _, HZ.out.1, fun g' hg' => ?_, ?_⟩
    · have e' : g = g' := by simpa [Value.ownBlock] using hg'
      subst e'
      exact HL.out.2
    · refine ⟨HZ.out.2.os.trans A6.out.2.os, HZ.out.2.tape.trans A6.out.2.tape, HZ.out.2.output.trans A6.out.2.output, Nat.le_trans A6.out.2.size HZ.out.2.size, fun j hj he => (HZ.out.2.block j (Nat.lt_of_lt_of_le hj A6.out.2.size) (fun e => ?_)).trans (A6.out.2.block j hj he)⟩
      subst e
      rcases HL.out.2 with h1 | h1
      · exact he (.inr h1)
      · omega

end Go.Proofs
