/-
  The contract of the parser's begin, at the start.
-/
import Derived.Test.YtbcafacolohgbaaDoorTrBegin2
import Derived.Deep.DeepCutAuto
namespace Go.Proofs
open Go.RowKit
open Go.Proofs.Mk

set_option maxHeartbeats 8000000 in
set_option maxRecDepth 20000 in
theorem Tryd.begin_start (bp B : Nat) (kd at_ : Int) (nm tx : ByteArray) (aa : Option Addr) (al ac : Nat) (w : World)
    (hp : w.heap[bp]? = some (.cells #[.slice none 0 0, .slice none 0 0] 76 (0, 0))) (hB : B ≤ w.heap.size) :
    Calls Tryd.prog 46 #[.pointer (some ⟨bp, 0, none⟩), .agg #[.int .i64 kd, .int .i64 at_, .string nm, .slice aa al ac, .string tx]] w fun e w' => e = .returned (.int .i64 0) ∧ Tr.Begun bp B 0 0 (.slice none 0 0) (.slice none 0 0) [] [] nm (.slice aa al ac) w w' := by
  have A0 : Hid (Below w.heap.size w (w.alloc (.cells #[.int .i64 kd, .int .i64 at_, .string nm, .slice aa al ac, .string tx] 78))) := (Below.refl _ w).alloc (Nat.le_refl _) _
  obtain ⟨W5, hw0⟩ : ∃ x, w.alloc (.cells #[.int .i64 kd, .int .i64 at_, .string nm, .slice aa al ac, .string tx] 78) = x := ⟨_, rfl⟩
  have HW : Hid (w.alloc (.cells #[.int .i64 kd, .int .i64 at_, .string nm, .slice aa al ac, .string tx] 78) = W5) := hw0
  have B5 : Hid (Below w.heap.size w W5) := by show Below _ _ _; rw [← hw0]; exact A0.out
  have HP : Hid _ := hp
  have HM5 : Hid (W5.heap[w.heap.size]? = some (.cells #[.int .i64 kd, .int .i64 at_, .string nm, .slice aa al ac, .string tx] 78 (0, 0))) := by show _ = _; rw [← hw0]; exact heap_alloc_new w _
  obtain ⟨i0, hi, hz0, hz1, hz2⟩ := info_parts Tryd.infoIntR
  have HE : Hid (w.ownsRow B 25 4 (.slice none 0 0) 0 []) := World.ownsRow_nil _ _ _ _
  have HO : Hid (w.ownsRow B 3 1 (.slice none 0 0) 0 []) := World.ownsRow_nil _ _ _ _
  have P5 := (B5.out.block bp (Array.getElem?_eq_some_iff.1 HP.out).1).trans HP.out
  have HP5 : Hid _ := P5
  have j0 : W5.cell? ⟨bp, 0, none⟩ = some (.slice none 0 0) := by simp [World.cell?, P5]
  have j1 : W5.cell? ⟨bp, 1, none⟩ = some (.slice none 0 0) := by simp [World.cell?, P5]
  have J : Hid (W5.cell? ⟨bp, 0, none⟩ = some (.slice none 0 0) ∧ W5.cell? ⟨bp, 1, none⟩ = some (.slice none 0 0)) := ⟨j0, j1⟩
  have E5 : Hid (W5.ownsRow B 25 4 (.slice none 0 0) 0 []) := World.ownsRow_nil _ _ _ _
  have O5 : Hid (W5.ownsRow B 3 1 (.slice none 0 0) 0 []) := World.ownsRow_nil _ _ _ _
  have L5 : Hid (B ≤ W5.heap.size) := Nat.le_trans hB B5.out.size
  clear hw0 A0 hp P5
  go_enter Tryd.func46, Tryd.ntmps46
  go_wp2_with fail
  rw [HW.out]
  clear HW
  refine (Tryd.over_any bp _ _ 0 _ 0 _ false _ J.out.1 J.out.2 rfl).mono ?_
  rintro e W5 ⟨rfl, rfl⟩
  go_wp2_with fail
  refine (Tryd.inside_any bp _ 0 _ false _ J.out.2 rfl).mono ?_
  rintro e W5 ⟨rfl, rfl⟩
  go_wp2_with fail
  refine (Tryd.inside_any bp _ 0 _ false _ J.out.2 rfl).mono ?_
  rintro e W5 ⟨rfl, rfl⟩
  go_upto_region 5 with fail
  have s0 : B ≤ (W5.alloc (.cells #[.int .i64 0] 3)).heap.size := by have := L5.out; simp; omega
  have OW : Hid ((W5.alloc (.cells #[.int .i64 0] 3)).ownsRow B 3 1 (.slice none 0 0) 0 []) := World.ownsRow_nil _ _ _ _
  have F6 : Hid (∀ W6 : World, (W5.alloc (.cells #[.int .i64 0] 3)).grownBy W6 none → W6.cell? ⟨bp, 1, none⟩ = some (.slice none 0 0) ∧ W6.frozen? ⟨bp, 1, none⟩ = false ∧ W6.heap[bp]? = some (.cells #[.slice none 0 0, .slice none 0 0] 76 (0, 0))) := fun W6 h => by
    have hl := (Array.getElem?_eq_some_iff.1 HP5.out).1
    have h6 := (h.block bp (by simp; omega) (by simp)).trans ((Below.heap_alloc _ _ _ hl).trans HP5.out)
    exact ⟨by simp [World.cell?, h6], by simp [World.frozen?, h6], h6⟩
  have lbp : bp < W5.heap.size := (Array.getElem?_eq_some_iff.1 HP5.out).1
  have v0 : (W5.alloc (.cells #[.int .i64 0] 3)).cell? ⟨bp, 0, none⟩ = some (.slice none 0 0) := by rw [World.cell?_of_block (w := W5) (Below.heap_alloc _ _ _ lbp)]; exact j0
  have v1 : (W5.alloc (.cells #[.int .i64 0] 3)).cell? ⟨bp, 1, none⟩ = some (.slice none 0 0) := by rw [World.cell?_of_block (w := W5) (Below.heap_alloc _ _ _ lbp)]; exact j1
  go_region_law (first
    | ((with_reducible refine Tr.at_op (Op.call { callee := Callee.builtin Builtin.append, args := #[.tmp 38, .tmp 44], argTypes := #[74, 74] }) ?hop ?_); (case hop => with_reducible rfl); go_loud (refine step_append_lies _ rfl (.tmp 38) (.tmp 44) 74 rfl B 3 i0 (.int .i64 0) 1 8 Tryd.underlying74 hi hz0 hz1 hz2 rfl (by decide) (.slice none 0 0) 0 [] (by simp [Act.eval]) (by exact OW.out) ⟨W5.heap.size, 0, none⟩ 1 1 [.int .i64 0] (by simp [Act.eval]) rfl (by exact World.news_of_block (heap_alloc_new W5 (.cells #[.int .i64 0] 3))) (by simp [Value.oneCell']) (by decide) (by unfold maxLen; omega) (by omega) (by exact s0) (W5.heap.size + 1) (by simp) ?_); intro g6 c6 W6 o6 q6 hg6 hl6; obtain ⟨z0, z1, z2⟩ := F6.out W6 (by exact ⟨q6.os, q6.tape, q6.output, q6.size, q6.block⟩))
    | fail)
  all_goals
    obtain ⟨W7, hW7⟩ : ∃ x, W6.setCell ⟨bp, 1, none⟩ (.slice (some ⟨g6, 0, none⟩) (0 + 1) c6) = x := ⟨_, rfl⟩
    have hr6 : ∀ k, k < W5.heap.size → k ≠ bp → W7.heap[k]? = W5.heap[k]? := fun k h1 h3 => by
      rw [← hW7, Below.heap_setCell _ _ _ _ (by show k ≠ bp; exact h3), q6.block k (by simp [World.drew]; omega) (by simp [Value.ownBlock])]
      exact Below.heap_alloc _ _ _ h1
    have Z6 : W5.heap.size + 1 ≤ W7.heap.size := by have := q6.size; rw [← hW7]; simp [World.drew, World.setCell] at this ⊢; omega
    have U6 : W7.os = w.os ∧ W7.tape = w.tape ∧ W7.output = w.output := by
      rw [← hW7]
      exact ⟨q6.os.trans B5.out.os, q6.tape.trans B5.out.tape, q6.output.trans B5.out.output⟩
    have hgb : g6 ≠ bp := by
      rcases hg6 with h | h
      · cases h
      · omega
    have P7 : W7.heap[bp]? = some (.cells #[.slice none 0 0, .slice (some ⟨g6, 0, none⟩) (0 + 1) c6] 76 (0, 0)) := by rw [← hW7]; simp [World.setCell, Array.getElem?_modify, z2]
    have E7 : W7.ownsRow B 25 4 (.slice none 0 0) 0 [] := World.ownsRow_nil _ _ _ _
    have O7 : W7.ownsRow B 3 1 (.slice (some ⟨g6, 0, none⟩) (0 + 1) c6) (0 + 1) ([] ++ [.int .i64 (0 : Nat)]) := Tr.own_kept o6 fun k hk => by
      have e : g6 = k := Option.some.inj hk
      subst e
      rw [← hW7]
      exact Below.heap_setCell _ _ _ _ hgb
    have M7 : W7.heap[w.heap.size]? = some (.cells #[.int .i64 kd, .int .i64 at_, .string nm, .slice aa al ac, .string tx] 78 (0, 0)) := by
      have hl := (Array.getElem?_eq_some_iff.1 HP.out).1
      rw [hr6 _ (Array.getElem?_eq_some_iff.1 HM5.out).1 (by omega)]
      exact HM5.out
    have m2 : W7.cell? ⟨w.heap.size, 2, none⟩ = some (.string nm) := by simp [World.cell?, M7]
    have m3 : W7.cell? ⟨w.heap.size, 3, none⟩ = some (.slice aa al ac) := by simp [World.cell?, M7]
    have CL : Hid (∀ W : World, W.heap = (W7.alloc (.cells #[.string nm, .slice aa al ac, .slice none 0 0, .string ⟨#[]⟩] 25)).heap → W.os = w.os ∧ W.tape = w.tape ∧ W.output = w.output →
        Calls Tryd.prog 70 #[.pointer (some ⟨bp, 0, none⟩), .slice (some ⟨W7.heap.size, 0, none⟩) 1 1] W fun e w' => e = .returned (.tuple #[]) ∧ Tr.Begun bp B 0 0 (.slice none 0 0) (.slice none 0 0) [] [] nm (.slice aa al ac) w w') := by
      intro W hh ho
      have A8 : Below W7.heap.size W7 (W7.alloc (.cells #[.string nm, .slice aa al ac, .slice none 0 0, .string ⟨#[]⟩] 25)) := (Below.refl _ W7).alloc (Nat.le_refl _) _
      have hk : ∀ k, k < W7.heap.size → W.heap[k]? = W7.heap[k]? := fun k hk => by rw [hh]; exact A8.block k hk
      have hs : W.heap.size = W7.heap.size + 1 := by rw [hh]; simp
      have hz := B5.out.size
      refine (Tryd.push_any bp B W7.heap.size 0 _ (.slice (some ⟨g6, 0, none⟩) (0 + 1) c6) [] (.string nm) (.slice aa al ac) (.slice none 0 0) (.string ⟨#[]⟩) W ((hk _ (by omega)).trans P7) (by omega)
        (Tr.own_kept E7 fun k h => hk k (Tr.row_lt E7 h).2) (by rw [hh]; exact heap_alloc_new W7 _) (by intro u hu; simp at hu; rcases hu with rfl | rfl | rfl | rfl <;> rfl) (by omega)).mono ?_
      rintro e w' ⟨rfl, hb, g, c, hg, hp', ho'⟩
      have hg7 := Tr.row_lt O7 (k := g6) rfl
      refine ⟨rfl, ⟨hb.os.trans ho.1, hb.tape.trans ho.2.1, hb.output.trans ho.2.2, by have := hb.size; omega, fun k hk1 he => ?_⟩, g, c, g6, c6, hg.imp id (fun h => by omega), hg6.imp id (fun h => by omega), hp', ho', Tr.own_kept O7 fun k hk1 => ?_⟩
      · have he1 : k ≠ bp := fun e => he (.inl e)
        rw [hb.block k (by omega) (by rintro (h | h); exact he1 h; cases h), hk k (by omega), hr6 k (by omega) he1]
        exact B5.out.block k hk1
      · have e : g6 = k := Option.some.inj hk1
        subst e
        rw [hb.block g6 (by omega) (by
          rintro (h | h)
          · exact hgb h
          · cases h)]
        exact hk g6 hg7.2
    have HU : Hid (W7.os = w.os ∧ W7.tape = w.tape ∧ W7.output = w.output) := U6
    rw [hW7]
    clear o6 q6 hg6 hl6 z0 z1 z2 hW7 hr6 U6 P7 E7 O7 M7 F6 OW s0 v0 v1 j0 j1 hi hz0 hz1 hz2
    go_upto_region 6 with fail
    go_region_with (first | (go_at_call 70; refine Calls.mono (CL.out _ rfl (by exact HU.out)) ?_; rintro e W9 ⟨rfl, h9⟩) | fail)
    all_goals
      have H9 : Hid _ := h9
      clear h9
      go_wp2
      go_ret
      exact ⟨rfl, H9.out⟩

end Go.Proofs
