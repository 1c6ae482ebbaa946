/-
  The contract of the parser's begin, where it begins an element.
-/
import Derived.Test.YtbcafacolohgbaaDoorAllTrStep
import Derived.Deep.DeepCutAuto
namespace Go.Proofs
open Go.RowKit
open Go.Proofs.Mk

/-- What begin leaves. -/
def Tr.Begun (bp B n m : Nat) (vE vO : Value) (cs os : List Value) (nm : ByteArray) (va : Value) (w w' : World) : Prop :=
  Tk.But (fun k => k = bp ∨ vE.ownBlock = some k ∨ vO.ownBlock = some k) w w' ∧ ∃ g c g' c', (vE.ownBlock = some g ∨ w.heap.size ≤ g) ∧ (vO.ownBlock = some g' ∨ w.heap.size ≤ g') ∧
    w'.heap[bp]? = some (.cells #[.slice (some ⟨g, 0, none⟩) (n + 1) c, .slice (some ⟨g', 0, none⟩) (m + 1) c'] 76 (0, 0)) ∧
    w'.ownsRow B 25 4 (.slice (some ⟨g, 0, none⟩) (n + 1) c) (n + 1) (cs ++ [.string nm, va, .slice none 0 0, .string ⟨#[]⟩]) ∧
    w'.ownsRow B 3 1 (.slice (some ⟨g', 0, none⟩) (m + 1) c') (m + 1) (os ++ [.int .i64 n])

set_option maxHeartbeats 8000000 in
set_option maxRecDepth 20000 in
theorem Tryd.begin_ok (bp B gE cE gO cO n m p : Nat) (ht : ByteArray) (kd at_ : Int) (nm tx : ByteArray) (aa : Option Addr) (al ac : Nat) (cs os : List Value) (w : World) (hI : Tr.In bp gE cE gO cO n m p ht w) (hem : ht.data.toList = []) (h24 : m + 1 ≠ 24) (h64 : n ≠ p + 1 + 64)
    (hp : w.heap[bp]? = some (.cells #[.slice (some ⟨gE, 0, none⟩) n cE, .slice (some ⟨gO, 0, none⟩) (m + 1) cO] 76 (0, 0))) (hB : B ≤ w.heap.size)
    (hE : w.ownsRow B 25 4 (.slice (some ⟨gE, 0, none⟩) n cE) n cs) (hO : w.ownsRow B 3 1 (.slice (some ⟨gO, 0, none⟩) (m + 1) cO) (m + 1) os) :
    Calls Tryd.prog 46 #[.pointer (some ⟨bp, 0, none⟩), .agg #[.int .i64 kd, .int .i64 at_, .string nm, .slice aa al ac, .string tx]] w fun e w' => e = .returned (.int .i64 0) ∧ Tr.Begun bp B n (m + 1) (.slice (some ⟨gE, 0, none⟩) n cE) (.slice (some ⟨gO, 0, none⟩) (m + 1) cO) cs os nm (.slice aa al ac) w w' := by
  have A0 : Hid (Below w.heap.size w (w.alloc (.cells #[.int .i64 kd, .int .i64 at_, .string nm, .slice aa al ac, .string tx] 78))) := (Below.refl _ w).alloc (Nat.le_refl _) _
  have hI0 := hI.heap A0.out
  obtain ⟨w0, hw0⟩ : ∃ x, w.alloc (.cells #[.int .i64 kd, .int .i64 at_, .string nm, .slice aa al ac, .string tx] 78) = x := ⟨_, rfl⟩
  rw [hw0] at hI0
  have HI : Hid _ := hI0
  have HW : Hid (w.alloc (.cells #[.int .i64 kd, .int .i64 at_, .string nm, .slice aa al ac, .string tx] 78) = w0) := hw0
  have he : ht.toList.isEmpty = true := by rw [Lib.toList_data]; simpa using hem
  have HA : Hid (Below w.heap.size w w0) := by show Below _ _ _; rw [← hw0]; exact A0.out
  have hd : (((m : Int) + 1) == 24) = false := beq_eq_false_iff_ne.2 (by omega)
  have HK : Hid (n ≠ p + 1 + 64) := h64
  have HP : Hid _ := hp
  have HE : Hid _ := hE
  have HO : Hid _ := hO
  have HWX : Hid (w0.heap[w.heap.size]? = some (.cells #[.int .i64 kd, .int .i64 at_, .string nm, .slice aa al ac, .string tx] 78 (0, 0))) := by show _ = _; rw [← hw0]; exact heap_alloc_new w _
  obtain ⟨i0, hi, hz0, hz1, hz2⟩ := info_parts Tryd.infoIntR
  clear hI hI0 hw0 hem A0 h24 h64 hp hE hO
  go_enter Tryd.func46, Tryd.ntmps46
  go_wp2_with fail
  rw [HW.out]
  refine (Tryd.over_any bp _ _ (m + 1) _ n _ false _ HI.out.h0 HI.out.h1 (by simp)).mono ?_
  rintro e W1 ⟨rfl, rfl⟩
  go_wp2_with fail
  refine (Tryd.inside_any bp _ (m + 1) _ true _ HI.out.h1 (by simp)).mono ?_
  rintro e W2 ⟨rfl, rfl⟩
  go_wp2_with fail
  refine (Tryd.innermost_any bp gE cE gO cO n m p _ HI.out.h0 HI.out.h1 HI.out.h2 HI.out.hp HI.out.hn HI.out.hm).mono ?_
  rintro e W3 ⟨rfl, b3, hh⟩
  have k3 := (HI.out.heap b3).h3
  have k1 := (HI.out.heap b3).h1
  have HI3 : Hid _ := HI.out.heap b3
  have B3 : Hid (Below w.heap.size w W3) := HA.out.trans (b3.mono HA.out.size)
  clear HW
  go_wp2_with fail
  refine (Tryd.inside_any bp _ (m + 1) _ true _ HI3.out.h1 (by simp)).mono ?_
  rintro e W4 ⟨rfl, rfl⟩
  go_wp2_with fail
  refine (Tryd.pkids_any bp gE cE gO cO n m p _ HI3.out.h0 HI3.out.h1 HI3.out.h2 HI3.out.hp HI3.out.hn HI3.out.hm).mono ?_
  rintro e W5 ⟨rfl, b5, hh5⟩
  have B5 : Hid (Below w.heap.size w W5) := B3.out.trans (b5.mono B3.out.size)
  have M5 := (b5.block _ (by have := b3.size; have := (Array.getElem?_eq_some_iff.1 HWX.out).1; omega)).trans ((b3.block _ (Array.getElem?_eq_some_iff.1 HWX.out).1).trans HWX.out)
  have HM5 : Hid _ := M5
  have hk5 : (((n : Int) - p - 1) == 64) = false := beq_eq_false_iff_ne.2 (by have := HK.out; have := HI3.out.hp; omega)
  have P5 := (B5.out.block bp (Array.getElem?_eq_some_iff.1 HP.out).1).trans HP.out
  have HP5 : Hid _ := P5
  have j0 : W5.cell? ⟨bp, 0, none⟩ = some (.slice (some ⟨gE, 0, none⟩) n cE) := by simp [World.cell?, P5]
  have j1 : W5.cell? ⟨bp, 1, none⟩ = some (.slice (some ⟨gO, 0, none⟩) (m + 1) cO) := by simp [World.cell?, P5]
  have E5 : Hid _ := Tr.own_kept HE.out fun k hk => B5.out.block k (Tr.row_lt HE.out hk).2
  have O5 : Hid _ := Tr.own_kept HO.out fun k hk => B5.out.block k (Tr.row_lt HO.out hk).2
  have hnb := HI3.out.hn
  have hmb := HI3.out.hm
  have L5 : Hid (B ≤ W5.heap.size) := Nat.le_trans hB B5.out.size
  clear b5 hh5 P5 HI k1 k3 b3 hh M5
  go_upto_region 5 with fail
  have s0 : B ≤ (W5.alloc (.cells #[.int .i64 n] 3)).heap.size := by have := L5.out; simp; omega
  have OW : Hid ((W5.alloc (.cells #[.int .i64 n] 3)).ownsRow B 3 1 (.slice (some ⟨gO, 0, none⟩) (m + 1) cO) (m + 1) os) := World.ownsRow.alloc (by exact O5.out) _
  have hng : bp ≠ gO := fun e => Tr.row_ne HO.out HP.out (by decide) (by rw [e]; rfl)
  have F6 : Hid (∀ W6 : World, (W5.alloc (.cells #[.int .i64 n] 3)).grownBy W6 (some gO) → W6.cell? ⟨bp, 1, none⟩ = some (.slice (some ⟨gO, 0, none⟩) (m + 1) cO) ∧ W6.frozen? ⟨bp, 1, none⟩ = false ∧ W6.heap[bp]? = some (.cells #[.slice (some ⟨gE, 0, none⟩) n cE, .slice (some ⟨gO, 0, none⟩) (m + 1) cO] 76 (0, 0))) := fun W6 h => by
    have hl := (Array.getElem?_eq_some_iff.1 HP5.out).1
    have h6 := (h.block bp (by simp; omega) (by intro e; exact hng (Option.some.inj e))).trans ((Below.heap_alloc _ _ _ hl).trans HP5.out)
    exact ⟨by simp [World.cell?, h6], by simp [World.frozen?, h6], h6⟩
  have lbp : bp < W5.heap.size := (Array.getElem?_eq_some_iff.1 HP5.out).1
  have v0 : (W5.alloc (.cells #[.int .i64 n] 3)).cell? ⟨bp, 0, none⟩ = some (.slice (some ⟨gE, 0, none⟩) n cE) := by rw [World.cell?_of_block (w := W5) (Below.heap_alloc _ _ _ lbp)]; exact j0
  have v1 : (W5.alloc (.cells #[.int .i64 n] 3)).cell? ⟨bp, 1, none⟩ = some (.slice (some ⟨gO, 0, none⟩) (m + 1) cO) := by rw [World.cell?_of_block (w := W5) (Below.heap_alloc _ _ _ lbp)]; exact j1
  go_region_law (first
    | ((with_reducible refine Tr.at_op (Op.call { callee := Callee.builtin Builtin.append, args := #[.tmp 38, .tmp 44], argTypes := #[74, 74] }) ?hop ?_); (case hop => with_reducible rfl); go_loud (refine step_append_lies _ rfl (.tmp 38) (.tmp 44) 74 rfl B 3 i0 (.int .i64 0) 1 8 Tryd.underlying74 hi hz0 hz1 hz2 rfl (by decide) (.slice (some ⟨gO, 0, none⟩) (m + 1) cO) (m + 1) os (by simp [Act.eval]) (by exact OW.out) ⟨W5.heap.size, 0, none⟩ 1 1 [.int .i64 n] (by simp [Act.eval]) rfl (by exact World.news_of_block (heap_alloc_new W5 (.cells #[.int .i64 n] 3))) (by simp [Value.oneCell']) (by decide) (by unfold maxLen; omega) (by omega) (by exact s0) (W5.heap.size + 1) (by simp) ?_); intro g6 c6 W6 o6 q6 hg6 hl6; obtain ⟨z0, z1, z2⟩ := F6.out W6 (by exact ⟨q6.os, q6.tape, q6.output, q6.size, q6.block⟩))
    | fail)
  all_goals
    obtain ⟨W7, hW7⟩ : ∃ x, W6.setCell ⟨bp, 1, none⟩ (.slice (some ⟨g6, 0, none⟩) (m + 1 + 1) c6) = x := ⟨_, rfl⟩
    have hr6 : ∀ k, k < W5.heap.size → k ≠ gO → k ≠ bp → W7.heap[k]? = W5.heap[k]? := fun k h1 h2 h3 => by
      rw [← hW7, Below.heap_setCell _ _ _ _ (by show k ≠ bp; exact h3), q6.block k (by simp [World.drew]; omega) (by intro e; exact h2 (Option.some.inj e))]
      exact Below.heap_alloc _ _ _ h1
    have Z6 : W5.heap.size + 1 ≤ W7.heap.size := by have := q6.size; rw [← hW7]; simp [World.drew, World.setCell] at this ⊢; omega
    have U6 : W7.os = w.os ∧ W7.tape = w.tape ∧ W7.output = w.output := by
      rw [← hW7]
      exact ⟨q6.os.trans B5.out.os, q6.tape.trans B5.out.tape, q6.output.trans B5.out.output⟩
    have hgb : g6 ≠ bp := by
      rcases hg6 with h | h
      · intro e; subst e; exact hng (Option.some.inj h).symm
      · omega
    have P7 : W7.heap[bp]? = some (.cells #[.slice (some ⟨gE, 0, none⟩) n cE, .slice (some ⟨g6, 0, none⟩) (m + 1 + 1) c6] 76 (0, 0)) := by rw [← hW7]; simp [World.setCell, Array.getElem?_modify, z2]
    have hgEO : gE ≠ gO := fun e => Tr.rows_ne E5.out O5.out (by decide) (k := gE) rfl (by rw [e]; rfl)
    have hgEb : gE ≠ bp := fun e => Tr.row_ne HE.out HP.out (by decide) (by rw [e]; rfl)
    have E7 : W7.ownsRow B 25 4 (.slice (some ⟨gE, 0, none⟩) n cE) n cs := Tr.own_kept E5.out fun k hk => by
      have e : gE = k := Option.some.inj hk
      subst e
      exact hr6 gE (Tr.row_lt E5.out rfl).2 hgEO hgEb
    have O7 : W7.ownsRow B 3 1 (.slice (some ⟨g6, 0, none⟩) (m + 1 + 1) c6) (m + 1 + 1) (os ++ [.int .i64 n]) := Tr.own_kept o6 fun k hk => by
      have e : g6 = k := Option.some.inj hk
      subst e
      rw [← hW7]
      exact Below.heap_setCell _ _ _ _ hgb
    have M7 : W7.heap[w.heap.size]? = some (.cells #[.int .i64 kd, .int .i64 at_, .string nm, .slice aa al ac, .string tx] 78 (0, 0)) := by
      have hl := (Array.getElem?_eq_some_iff.1 HP.out).1
      rw [hr6 _ (Array.getElem?_eq_some_iff.1 HM5.out).1 (by intro e; exact Tr.row_ne O5.out HM5.out (by decide) (by rw [e]; rfl)) (by omega)]
      exact HM5.out
    have m2 : W7.cell? ⟨w.heap.size, 2, none⟩ = some (.string nm) := by simp [World.cell?, M7]
    have m3 : W7.cell? ⟨w.heap.size, 3, none⟩ = some (.slice aa al ac) := by simp [World.cell?, M7]
    have CL : Hid (∀ W : World, W.heap = (W7.alloc (.cells #[.string nm, .slice aa al ac, .slice none 0 0, .string ⟨#[]⟩] 25)).heap → W.os = w.os ∧ W.tape = w.tape ∧ W.output = w.output →
        Calls Tryd.prog 70 #[.pointer (some ⟨bp, 0, none⟩), .slice (some ⟨W7.heap.size, 0, none⟩) 1 1] W fun e w' => e = .returned (.tuple #[]) ∧ Tr.Begun bp B n (m + 1) (.slice (some ⟨gE, 0, none⟩) n cE) (.slice (some ⟨gO, 0, none⟩) (m + 1) cO) cs os nm (.slice aa al ac) w w') := by
      intro W hh ho
      have A8 : Below W7.heap.size W7 (W7.alloc (.cells #[.string nm, .slice aa al ac, .slice none 0 0, .string ⟨#[]⟩] 25)) := (Below.refl _ W7).alloc (Nat.le_refl _) _
      have hk : ∀ k, k < W7.heap.size → W.heap[k]? = W7.heap[k]? := fun k hk => by rw [hh]; exact A8.block k hk
      have hs : W.heap.size = W7.heap.size + 1 := by rw [hh]; simp
      have hz := B5.out.size
      refine (Tryd.push_any bp B W7.heap.size n _ (.slice (some ⟨g6, 0, none⟩) (m + 1 + 1) c6) cs (.string nm) (.slice aa al ac) (.slice none 0 0) (.string ⟨#[]⟩) W ((hk _ (by omega)).trans P7) (by omega)
        (Tr.own_kept E7 fun k h => hk k (Tr.row_lt E7 h).2) (by rw [hh]; exact heap_alloc_new W7 _) (by intro u hu; simp at hu; rcases hu with rfl | rfl | rfl | rfl <;> rfl) hnb).mono ?_
      rintro e w' ⟨rfl, hb, g, c, hg, hp', ho'⟩
      have hg7 := Tr.row_lt O7 (k := g6) rfl
      refine ⟨rfl, ⟨hb.os.trans ho.1, hb.tape.trans ho.2.1, hb.output.trans ho.2.2, by have := hb.size; omega, fun k hk1 he => ?_⟩, g, c, g6, c6, hg.imp id (fun h => by omega), hg6.imp id (fun h => by omega), hp', ho', Tr.own_kept O7 fun k hk1 => ?_⟩
      · have he1 : k ≠ bp := fun e => he (.inl e)
        have he2 : k ≠ gE := fun e => he (.inr (.inl (by rw [e]; rfl)))
        have he3 : k ≠ gO := fun e => he (.inr (.inr (by rw [e]; rfl)))
        rw [hb.block k (by omega) (by rintro (h | h); exact he1 h; exact he2 (Option.some.inj h).symm), hk k (by omega), hr6 k (by omega) he3 he1]
        exact B5.out.block k hk1
      · have e : g6 = k := Option.some.inj hk1
        subst e
        rw [hb.block g6 (by omega) (by
          rintro (h | h)
          · exact hgb h
          · exact Tr.rows_ne O7 E7 (by decide) (k := g6) rfl h)]
        exact hk g6 hg7.2
    have HU : Hid (W7.os = w.os ∧ W7.tape = w.tape ∧ W7.output = w.output) := U6
    rw [hW7]
    clear o6 q6 hg6 hl6 z0 z1 z2 hW7 hr6 U6 P7 E7 O7 M7 F6 OW s0 v0 v1 j0 j1 hk5 he hd hi hz0 hz1 hz2
    go_upto_region 6 with fail
    go_region_with (first | (go_at_call 70; refine Calls.mono (CL.out _ rfl (by exact HU.out)) ?_; rintro e W9 ⟨rfl, h9⟩) | fail)
    all_goals
      have H9 : Hid _ := h9
      clear h9
      go_wp2
      go_ret
      exact ⟨rfl, H9.out⟩

end Go.Proofs
