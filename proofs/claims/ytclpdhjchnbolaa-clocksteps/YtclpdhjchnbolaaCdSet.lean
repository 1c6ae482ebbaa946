/-
  The document's Set.
-/
import Derived.Test.YtclpdhjchnbolaaCdMem
namespace Go.Proofs
open Go.RowKit Go.Shelf Go.Sort

theorem Cd.infoAl : (Try.prog.info? 40).map (fun i => (i.zero, i.size, i.bytes)) = some (some (.agg #[.int .i64 0, .int .i64 0]), 2, 16) := by kernel_rfl
/-- The alarms behind the document's Set. -/
def Cd.setL (now : Int) (M : List Ck.Al) (id n : Int) : List Ck.Al := if Ck.setE now M id n = 0 then M ++ [(id, now + n)] else M

set_option maxRecDepth 20000 in
set_option maxHeartbeats 4000000 in
theorem Try.rSet_any {B q : Nat} {v : Value} {now : Int} {M : List Ck.Al} (id n : Int) (w : World) (h : Cd.At B q v now M w) (ho : Ck.Ok now M) : Calls Try.prog 22 #[.pointer (some ⟨q, 0, none⟩), .int .i64 id, .int .i64 n] w fun e w' => e = .returned (.int .i64 (Ck.setE now M id n)) ∧ ∃ v', Cd.At B q v' now (Cd.setL now M id n) w' ∧ (∀ g, v'.ownBlock = some g → v.ownBlock = some g ∨ w.heap.size ≤ g) ∧ Tk.But (fun x => x = q ∨ v.ownBlock = some x) w w' := by
  have H : Hid (Cd.At B q v now M w ∧ Ck.Ok now M) := ⟨h, ho⟩
  by_cases h0 : id < 0
  · have e1 : Ck.setE now M id n = 1 := by unfold Ck.setE; rw [if_pos (.inl h0)]
    have e2 : Cd.setL now M id n = M := by unfold Cd.setL; rw [e1, if_neg (by omega)]
    rw [e1, e2]
    have d : decide (id < 0) = true := decide_eq_true h0
    clear h ho h0 e1 e2
    go_enter Try.func22, Try.ntmps22
    go_wp2
    go_ret
    exact ⟨rfl, _, H.out.1, fun g hg => .inl hg, Tk.But.refl _ _⟩
  have d0 : decide (id < 0) = false := decide_eq_false h0
  by_cases hn0 : n < 0
  · have tf : Ck.time n = false := by unfold Ck.time; simp; omega
    have e1 : Ck.setE now M id n = 1 := by unfold Ck.setE; rw [if_pos (.inr tf)]
    have e2 : Cd.setL now M id n = M := by unfold Cd.setL; rw [e1, if_neg (by omega)]
    rw [e1, e2]
    have d : decide (n < 0) = true := decide_eq_true hn0
    clear h ho h0 hn0 e1 e2 tf
    go_enter Try.func22, Try.ntmps22
    go_wp2
    go_ret
    exact ⟨rfl, _, H.out.1, fun g hg => .inl hg, Tk.But.refl _ _⟩
  have d1 : decide (n < 0) = false := decide_eq_false hn0
  by_cases hn1 : 1099511627776 < n
  · have tf : Ck.time n = false := by unfold Ck.time; simp; omega
    have e1 : Ck.setE now M id n = 1 := by unfold Ck.setE; rw [if_pos (.inr tf)]
    have e2 : Cd.setL now M id n = M := by unfold Cd.setL; rw [e1, if_neg (by omega)]
    rw [e1, e2]
    have d : decide (1099511627776 < n) = true := decide_eq_true hn1
    clear h ho h0 hn0 hn1 e1 e2 tf
    go_enter Try.func22, Try.ntmps22
    go_wp2
    go_ret
    exact ⟨rfl, _, H.out.1, fun g hg => .inl hg, Tk.But.refl _ _⟩
  have d2 : decide (1099511627776 < n) = false := decide_eq_false hn1
  have tt : Ck.time n = true := Ck.time_iff.2 (by omega)
  have hor : ¬ (id < 0 ∨ Ck.time n = false) := by rw [tt]; simp; omega
  have CF : Hid _ := Try.rAt_any id w h ho.len
  obtain ⟨m, hm⟩ : ∃ m, M.length = m := ⟨_, rfl⟩
  obtain ⟨va, vc, hv⟩ := h.shape
  rw [hm] at hv
  subst hv
  cases hh : Ck.has M id with
  | true =>
    have e1 : Ck.setE now M id n = 8 := by unfold Ck.setE; rw [if_neg hor, if_pos hh]
    have e2 : Cd.setL now M id n = M := by unfold Cd.setL; rw [e1, if_neg (by omega)]
    rw [e1, e2]
    have HH : Hid (Ck.has M id = true) := hh
    clear h ho h0 e1 e2 hor hh hn0 hn1 tt hm
    go_enter Try.func22, Try.ntmps22
    go_wp2_with fail
    refine Calls.mono CF.out ?_
    rintro e W1 ⟨⟨r, rfl, hx⟩, hb1⟩
    obtain ⟨i, hr⟩ : ∃ i : Nat, r = i := by
      rcases hx with ⟨_, e⟩ | ⟨i, _, e, _⟩
      · have := Ck.has_no e
        rw [HH.out] at this
        cases this
      · exact ⟨i, e⟩
    subst hr
    have d3 : decide ((0 : Int) ≤ i) = true := decide_eq_true (by omega)
    have HB : Hid (Below w.heap.size w W1) := hb1
    clear hx hb1
    go_wp2
    go_ret
    exact ⟨rfl, _, H.out.1.below HB.out (Nat.le_refl _), fun g hg => .inl hg, Tk.But.of_below HB.out⟩
  | false =>
    have HH : Hid (Ck.has M id = false ∧ M.length = m) := ⟨hh, hm⟩
    have no : ∀ {r : Int}, Ck.Ix M id r → r = -1 := fun hx => by
      rcases hx with ⟨e, _⟩ | ⟨i, hil, _, e⟩
      · exact e
      · have := Ck.has_yes hil e
        rw [hh] at this
        cases this
    have NO : Hid (∀ r : Int, Ck.Ix M id r → r = -1) := fun r => no
    by_cases h64 : 63 < m
    · have e1 : Ck.setE now M id n = 5 := by unfold Ck.setE; rw [if_neg hor, if_neg (by rw [hh]; decide), if_pos (by omega)]
      have e2 : Cd.setL now M id n = M := by unfold Cd.setL; rw [e1, if_neg (by omega)]
      rw [e1, e2]
      have dm : decide ((63 : Int) < m) = true := decide_eq_true (by omega)
      have dm' : decide (63 < m) = true := decide_eq_true h64
      clear h ho h0 e1 e2 hor hh hn0 hn1 tt hm h64 no
      go_enter Try.func22, Try.ntmps22
      go_wp2_with fail
      refine Calls.mono CF.out ?_
      rintro e W1 ⟨⟨r, rfl, hx⟩, hb1⟩
      obtain rfl := NO.out r hx
      have HB : Hid (Below w.heap.size w W1) := hb1
      have c1 := (H.out.1.below hb1 (Nat.le_refl _)).c1
      clear hx hb1
      go_wp2
      go_ret
      exact ⟨rfl, _, H.out.1.below HB.out (Nat.le_refl _), fun g hg => .inl hg, Tk.But.of_below HB.out⟩
    · have dm : decide ((63 : Int) < m) = false := decide_eq_false (by omega)
      have dm' : decide (63 < m) = false := decide_eq_false h64
      have hnow := ho.now
      have hwr : IntKind.i64.wrap (now + n) = now + n := Go.IntWalk.i64_in _ (by omega)
      by_cases ht : 1099511627776 < now + n
      · have tf : Ck.time (now + n) = false := by unfold Ck.time; simp; omega
        have e1 : Ck.setE now M id n = 40 := by unfold Ck.setE; rw [if_neg hor, if_neg (by rw [hh]; decide), if_neg (by omega), if_pos tf]
        have e2 : Cd.setL now M id n = M := by unfold Cd.setL; rw [e1, if_neg (by omega)]
        rw [e1, e2]
        have dt : decide (1099511627776 < now + n) = true := decide_eq_true ht
        clear h ho h0 e1 e2 hor hh hn0 hn1 tt hm h64 no ht tf hnow
        go_enter Try.func22, Try.ntmps22
        go_wp2_with fail
        refine Calls.mono CF.out ?_
        rintro e W1 ⟨⟨r, rfl, hx⟩, hb1⟩
        obtain rfl := NO.out r hx
        have HB : Hid (Below w.heap.size w W1) := hb1
        have c1 := (H.out.1.below hb1 (Nat.le_refl _)).c1
        have c0 := (H.out.1.below hb1 (Nat.le_refl _)).c0
        clear hx hb1
        go_wp2
        go_ret
        exact ⟨rfl, _, H.out.1.below HB.out (Nat.le_refl _), fun g hg => .inl hg, Tk.But.of_below HB.out⟩
      · have tf : Ck.time (now + n) = true := Ck.time_iff.2 (by omega)
        have e1 : Ck.setE now M id n = 0 := by unfold Ck.setE; rw [if_neg hor, if_neg (by rw [hh]; decide), if_neg (by omega), if_neg (by rw [tf]; decide)]
        have e2 : Cd.setL now M id n = M ++ [(id, now + n)] := by unfold Cd.setL; rw [e1, if_pos rfl]
        rw [e1, e2]
        have dt : decide (1099511627776 < now + n) = false := decide_eq_false ht
        obtain ⟨i0, hi, hz0, hz1, hz2⟩ := info_parts Cd.infoAl
        obtain ⟨t, hte⟩ : ∃ t, now + n = t := ⟨_, rfl⟩
        rw [hte] at dt hwr ⊢
        have hm64 : m ≤ 64 := by omega
        clear h ho h0 e1 e2 hor hh hn0 hn1 tt hm h64 no ht tf hnow
        go_enter Try.func22, Try.ntmps22
        go_wp2_with fail
        refine Calls.mono CF.out ?_
        rintro e V0 ⟨⟨r, rfl, hx⟩, bw0⟩
        obtain rfl := NO.out r hx
        have a0 := H.out.1.below bw0 (Nat.le_refl _)
        have c10 := a0.c1
        have c00 := a0.c0
        obtain ⟨V4, hV4⟩ : ∃ z, V0.alloc (.cells #[.int .i64 id, .int .i64 t] 40) = z := ⟨_, rfl⟩
        have b4 : Below V0.heap.size V0 V4 := by rw [← hV4]; exact (Below.refl _ _).alloc (Nat.le_refl _) _
        have bw4 : Below w.heap.size w V4 := bw0.trans (b4.mono bw0.size)
        have a4 := H.out.1.below bw4 (Nat.le_refl _)
        have n4 : V4.heap[V0.heap.size]? = some (.cells #[.int .i64 id, .int .i64 t] 40 (0, 0)) := by rw [← hV4]; exact heap_alloc_new _ _
        have s4 : V4.heap.size = V0.heap.size + 1 := by rw [← hV4]; simp
        have HW4 : Hid (V0.alloc (.cells #[.int .i64 id, .int .i64 t] 40) = V4) := hV4
        have OW : Hid (V4.ownsRow B 40 2 (.slice va m vc) m (Ck.cells M)) := by
          have := a4.row
          rw [HH.out.2] at this
          exact this
        have NW : Hid (∀ j u, [Value.int .i64 id, Value.int .i64 t][j]? = some u → V4.cell? ((⟨V0.heap.size, 0, none⟩ : Addr).add j) = some u) := World.news_of_block n4
        have HQ : Hid (Cd.At B q (.slice va m vc) now M V4 ∧ Below w.heap.size w V4 ∧ V4.heap.size = V0.heap.size + 1 ∧ w.heap.size ≤ V0.heap.size ∧ some q ≠ (Value.slice va m vc).ownBlock ∧ q < V4.heap.size) := ⟨a4, bw4, s4, bw0.size, fun e => a4.far e.symm, a4.lt⟩
        have BM : Hid (m + 1 ≤ maxLen ∧ (m + 1) * 16 ≤ 140737488355328 ∧ B ≤ V4.heap.size) := ⟨by unfold maxLen; omega, by omega, by have := a4.low; have := a4.lt; omega⟩
        have c14 : (V0.alloc (.cells #[.int .i64 id, .int .i64 t] 40)).cell? ⟨q, 1, none⟩ = some (.slice va m vc) := by rw [hV4]; exact a4.c1
        clear hV4 bw0 a0 b4 bw4 a4 n4 s4 hx
        go_upto_region 9 with fail
        go_region_law (first
          | ((with_reducible refine Ck.at_op (Op.call { callee := Callee.builtin Builtin.append, args := #[.tmp 38, .tmp 47], argTypes := #[27, 27] }) ?hop ?_); (case hop => with_reducible rfl); rw [HW4.out]; refine step_append_lies _ rfl (.tmp 38) (.tmp 47) 27 rfl B 40 i0 (.agg #[.int .i64 0, .int .i64 0]) 2 16 Try.underlying27 hi hz0 hz1 hz2 rfl (by decide) (.slice va m vc) m (Ck.cells M) (by simp [Act.eval]) (by exact OW.out) ⟨V0.heap.size, 0, none⟩ 1 1 [.int .i64 id, .int .i64 t] (by simp [Act.eval]) rfl (by exact NW.out) (by intro u hu; simp at hu; rcases hu with rfl | rfl <;> rfl) (by decide) (by exact BM.out.1) (by exact BM.out.2.1) (by exact BM.out.2.2) _ rfl ?_; intro g cap w5 own5 hgrow hloc hlt; have c25 : w5.cell? ⟨q, 1, none⟩ = some (.slice va m vc) := (hgrow.cell_far ⟨q, 1, none⟩ HQ.out.2.2.2.2.2 HQ.out.2.2.2.2.1).trans HQ.out.1.c1; have z25 : w5.frozen? ⟨q, 1, none⟩ = false := (hgrow.frozen_far ⟨q, 1, none⟩ HQ.out.2.2.2.2.2 HQ.out.2.2.2.2.1).trans (HQ.out.1.fz 1))
          | fail)
        all_goals
          have bg : Tk.But (fun x => (Value.slice va m vc).ownBlock = some x) V4 w5 := ⟨hgrow.os, hgrow.tape, hgrow.output, hgrow.size, fun j hj he => hgrow.block j hj (fun e => he e.symm)⟩
          have own6 : w5.ownsRow B 40 2 (.slice (some ⟨g, 0, none⟩) (m + 1) cap) (M ++ [(id, t)]).length (Ck.cells (M ++ [(id, t)])) := by
            rw [List.length_append, Ck.cells_snoc, HH.out.2]
            exact own5
          have a6 := HQ.out.1.rerow (bg.block q HQ.out.2.2.2.2.2 (fun e => HQ.out.2.2.2.2.1 e.symm)) own6
          have b6 : Tk.But (fun x => x = q ∨ (Value.slice va m vc).ownBlock = some x) w (w5.setCell ⟨q, 1, none⟩ (.slice (some ⟨g, 0, none⟩) (m + 1) cap)) :=
            Tk.But.setCell (p := ⟨q, 1, none⟩) ((Tk.But.of_below HQ.out.2.1).trans ⟨bg.os, bg.tape, bg.output, bg.size, fun j hj he => bg.block j hj (fun e => he (.inr e))⟩) (.inl rfl) _
          have A6 : Hid (Cd.At B q (.slice (some ⟨g, 0, none⟩) (m + 1) cap) now (M ++ [(id, t)]) (w5.setCell ⟨q, 1, none⟩ (.slice (some ⟨g, 0, none⟩) (m + 1) cap)) ∧ Tk.But (fun x => x = q ∨ (Value.slice va m vc).ownBlock = some x) w (w5.setCell ⟨q, 1, none⟩ (.slice (some ⟨g, 0, none⟩) (m + 1) cap)) ∧ ((Value.slice va m vc).ownBlock = some g ∨ w.heap.size ≤ g)) := ⟨a6, b6, hloc.imp_right fun e => by have := HQ.out.2.2.1; have := HQ.out.2.2.2.1; have e' : g = V4.heap.size := e; omega⟩
          clear bg own6 a6 b6 hgrow hloc hlt own5 c25 z25
          go_wp2
          go_ret
          refine ⟨rfl, _, A6.out.1, fun g' hg' => ?_, A6.out.2.1⟩
          have e' : g = g' := by simpa [Value.ownBlock] using hg'
          subst e'
          exact A6.out.2.2

end Go.Proofs
