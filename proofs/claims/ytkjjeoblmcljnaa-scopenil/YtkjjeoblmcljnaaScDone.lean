/-
  parts of two that are done, the later one first.
-/
import Derived.Test.YtkjjeoblmcljnaaScTwo
namespace Go.Proofs
open Go.RowKit Go.Shelf Go.Sort

def Sc.ls (k : Nat) : List Int := if k ≤ 1 then [] else if k = 2 then [1] else [1, 2]

set_option maxRecDepth 20000 in
set_option maxHeartbeats 3200000 in
theorem Try.parts_two {r gp gs cp : Nat} {vd : Value} (b1 b2 : Nat) (w : World) (h : Sc.At r gp gs cp vd 1 2 2 [1, 2] w) (q1 : w.cell? ⟨b1, 0, none⟩ = some (.pointer (some ⟨r, 0, none⟩))) (q2 : w.cell? ⟨b2, 0, none⟩ = some (.int .i64 0)) (l1 : b1 < w.heap.size) (l2 : b2 < w.heap.size) :
    Calls Try.prog 29 #[.pointer (some ⟨r, 0, none⟩), .int .i64 2, .func (.func 39) #[] #[.pointer (some ⟨b1, 0, none⟩), .pointer (some ⟨b2, 0, none⟩)], .func (.func 36) #[.pointer (some ⟨r, 0, none⟩)] #[]] w fun e w' => ∃ gl cl, e = .returned (.slice (some ⟨gl, 0, none⟩) 2 cl) ∧ w'.cell? ⟨gl, 0, none⟩ = some (.int .i64 2) ∧ w'.cell? ⟨gl, 1, none⟩ = some (.int .i64 1) ∧ w.heap.size ≤ gl ∧ Below w.heap.size w w' := by
  obtain ⟨i0, hi, hz0, hz1, hz2⟩ := info_parts Sc.infoInt
  have c1 := h.c0.2.1
  have H : Hid (Sc.At r gp gs cp vd 1 2 2 [1, 2] w ∧ w.cell? ⟨b1, 0, none⟩ = some (.pointer (some ⟨r, 0, none⟩)) ∧ w.cell? ⟨b2, 0, none⟩ = some (.int .i64 0)) := ⟨h, q1, q2⟩
  clear h q1 q2
  go_enter Try.func29, Try.ntmps29
  go_wp2
  go_loopg [9, 17] 3 (fun gk s9 s wr => ∃ (k : Nat) (va : Option Addr) (m vc : Nat), gk + k = 3 ∧ s9 = .slice va m vc ∧ s = .int .i64 k ∧ Hid (m = (Sc.ls k).length ∧ wr.ownsRow w.heap.size 3 1 (.slice va m vc) m ((Sc.ls k).map encZ) ∧ Below w.heap.size w wr))
  case atStart => exact ⟨0, none, 0, 0, by omega, rfl, rfl, rfl, ⟨rfl, .inl ⟨rfl, rfl⟩⟩, Below.refl _ _⟩
  case round =>
    obtain ⟨k, va, m, vc, hk, rfl, rfl, HB⟩ := hrel
    by_cases hlt : k < 3
    · have hd : decide ((k : Int) < 3) = true := decide_eq_true (by omega)
      have hd' : decide (k < 3) = true := decide_eq_true hlt
      have k1 : (k : Int) < 3 := by omega
      have k2 : (0 : Int) ≤ k := by omega
      have At := H.out.1.below HB.out.2.2
      have sk := At.sel k hlt
      by_cases hs : k = 0
      · subst hs
        have HN : Hid (m = (Sc.ls 1).length ∧ wr.ownsRow w.heap.size 3 1 (.slice va m vc) m ((Sc.ls 1).map encZ) ∧ Below w.heap.size w wr) := HB.out
        have sk' : wr.cell? ⟨gs, 0, none⟩ = some (.int .i64 1) := sk
        clear At sk
        go_wp2
        go_roundg (gk - 1)
        case measure => omega
        case rel => exact ⟨1, va, m, vc, by omega, rfl, by go_num, HN.out⟩
      · have sk' : wr.cell? ⟨gs, k, none⟩ = some (.int .i64 2) := by
          rw [sk]
          obtain rfl | rfl : k = 1 ∨ k = 2 := by omega
          all_goals rfl
        have C := Try.isOf1_any k 0 b1 b2 hlt (by omega) wr At ((HB.out.2.2.cell (p := ⟨b1, 0, none⟩) l1).trans H.out.2.1) ((HB.out.2.2.cell (p := ⟨b2, 0, none⟩) l2).trans H.out.2.2)
        have ep : decide (Sc.par k = ((0 : Nat) : Int)) = true := by
          obtain rfl | rfl : k = 1 ∨ k = 2 := by omega
          all_goals rfl
        rw [ep] at C
        have HC : Hid _ := C
        have hls : Sc.ls (k + 1) = Sc.ls k ++ [(k : Int)] := by
          obtain rfl | rfl : k = 1 ∨ k = 2 := by omega
          all_goals rfl
        have HLS : Hid (Sc.ls (k + 1) = Sc.ls k ++ [(k : Int)]) := hls
        have hm2 : m ≤ 2 := by
          rw [HB.out.1]
          obtain rfl | rfl : k = 1 ∨ k = 2 := by omega
          all_goals decide
        clear At C sk ep hs hls
        go_wp2_with fail
        refine Calls.mono HC.out ?_
        rintro e W ⟨rfl, hb⟩
        have own1 : W.ownsRow w.heap.size 3 1 (.slice va m vc) m ((Sc.ls k).map encZ) := by
          refine ⟨HB.out.2.1.1, ?_⟩
          rcases HB.out.2.1.2 with hn | ⟨g, cap, cur, e, h3, h4, h5⟩
          · exact .inl hn
          · exact .inr ⟨g, cap, cur, e, h3, (hb.block g (Array.getElem?_eq_some_iff.1 h4).1).trans h4, h5⟩
        have hbw : Below w.heap.size w W := HB.out.2.2.trans (hb.mono HB.out.2.2.size)
        obtain ⟨W2, hW2⟩ : ∃ y, W.alloc (.cells #[.int .i64 k] 3) = y := ⟨_, rfl⟩
        have own2 : W2.ownsRow w.heap.size 3 1 (.slice va m vc) m ((Sc.ls k).map encZ) := by rw [← hW2]; exact own1.alloc _
        have n2 : W2.heap[W.heap.size]? = some (.cells #[.int .i64 k] 3 (0, 0)) := by rw [← hW2]; exact heap_alloc_new _ _
        have b2 : Below w.heap.size w W2 := by rw [← hW2]; exact hbw.alloc hbw.size _
        have HW2 : Hid (W.alloc (.cells #[.int .i64 k] 3) = W2) := hW2
        have HB2 : Hid (Below w.heap.size w W2) := b2
        have bs := b2.size
        clear hb own1 hbw hW2 b2 HC
        go_wp2_with (at_builtin; rw [HW2.out]; refine wpList_append_lies _ rfl _ _ 44 rfl w.heap.size 3 i0 (.int .i64 0) 1 8 Try.underlying44 hi hz0 hz1 hz2 rfl (by decide) (.slice va m vc) m ((Sc.ls k).map encZ) rfl own2 ⟨W.heap.size, 0, none⟩ 1 1 [.int .i64 k] rfl rfl (World.news_of_block n2) (by intro u hu; rw [List.mem_singleton.1 hu]; rfl) (by decide) (by unfold maxLen; omega) (by omega) bs _ rfl ?_; intro g cap w5 own5 hgrow hloc hlt5)
        go_roundg (gk - 1)
        case measure => omega
        case rel =>
          refine ⟨k + 1, some ⟨g, 0, none⟩, m + 1, cap, by omega, rfl, by go_num, ?_, ?_, ?_⟩
          · rw [HLS.out, List.length_append, ← HB.out.1]
            rfl
          · rw [HLS.out, List.map_append]
            exact own5
          · refine HB2.out.trans ⟨hgrow.os, hgrow.tape, hgrow.output, hgrow.size, fun j hj => hgrow.block j (by have := HB2.out.size; omega) (fun e => ?_)⟩
            rcases own2.2 with ⟨e', _⟩ | ⟨g', cap', cur, e', h3, _⟩
            · rw [e'] at e
              cases e
            · rw [e'] at e
              have : g' = j := by simpa [Value.ownBlock] using e.symm
              omega
    · have hd : decide ((k : Int) < 3) = false := decide_eq_false (by omega)
      have hd' : decide (k < 3) = false := decide_eq_false hlt
      obtain rfl : k = 3 := by omega
      have hm : m = 2 := HB.out.1
      subst hm
      obtain ⟨gl, hva, cl0, cl1, clf, hgl, hwl⟩ : ∃ gl, va = some ⟨gl, 0, none⟩ ∧ wr.cell? ⟨gl, 0, none⟩ = some (.int .i64 1) ∧ wr.cell? ⟨gl, 1, none⟩ = some (.int .i64 2) ∧ (∀ o, wr.frozen? ⟨gl, o, none⟩ = false) ∧ gl < wr.heap.size ∧ w.heap.size ≤ gl := by
        rcases HB.out.2.1.2 with ⟨_, hn⟩ | ⟨g, cap, cur, e, h3, h4, h5, _, h6, h7⟩
        · cases hn
        · have hg : ∀ j, j < 2 → wr.cell? ⟨g, j, none⟩ = ([1, 2].map encZ)[j]? := fun j hj => by
            have h7' : cur.toList.take 2 = [1, 2].map encZ := h7
            rw [← h7', List.getElem?_take, if_pos hj, Array.getElem?_toList]
            simp only [World.cell?, h4]
            rfl
          exact ⟨g, (Value.slice.inj e).1, hg 0 (by omega), hg 1 (by omega), fun o => by simp [World.frozen?, h4], (Array.getElem?_eq_some_iff.1 h4).1, h3⟩
      subst hva
      have At := H.out.1.below HB.out.2.2
      have lt := H.out.1.lts
      have C : Hid _ := Try.sort_two gl vc wr At ⟨cl0, cl1, clf, hgl, by omega, by omega, by omega, fun e => by have := lt.2.2.2 gl e; omega⟩
      have HG : Hid (w.heap.size ≤ gl) := hwl
      clear At lt cl0 cl1 clf hgl hwl
      go_wp2_with fail
      refine Calls.mono C.out ?_
      rintro e W ⟨rfl, z0, z1, hb⟩
      have HZ : Hid (W.cell? ⟨gl, 0, none⟩ = some (.int .i64 2) ∧ W.cell? ⟨gl, 1, none⟩ = some (.int .i64 1) ∧ Below w.heap.size w W) := ⟨z0, z1, HB.out.2.2.trans (hb.below HB.out.2.2.size (fun j hj e => by have := HG.out; omega))⟩
      clear z0 z1 hb C
      go_wp2
      go_ret
      exact ⟨gl, vc, rfl, HZ.out.1, HZ.out.2.1, HG.out, HZ.out.2.2⟩

end Go.Proofs
