/-
  The contract of the statements' ref: a mark as the document has it.
-/
import Derived.Test.YtjijfbcmhjcfaaaDoorRefRead
namespace Go.Proofs
open Go.RowKit
open Go.Proofs.Mk

/-- The blocks that ref goes on with. -/
structure Mk.FS (w : World) (kd at_ : Int) (nm tx : ByteArray) (vb : Value) (xs : List (ByteArray × ByteArray)) (X : World) : Prop where
  res : X.heap[w.heap.size + 1]? = some (.cells #[.int .i64 0, .int .i64 0, .string ⟨#[]⟩, .slice none 0 0, .string ⟨#[]⟩] 34 (0, 0))
  out : X.heap[w.heap.size + 1 + 1]? = some (.cells #[.int .i64 kd, .int .i64 at_, .string nm, vb, .string tx] 34 (0, 0))
  own : X.ownsRow (w.heap.size + 3) 72 2 vb xs.length (Mk.attrCells xs)
  below : Below w.heap.size w X

theorem Mk.FS.size {w : World} {kd at_ : Int} {nm tx : ByteArray} {vb : Value} {xs : List (ByteArray × ByteArray)} {X : World} (h : Mk.FS w kd at_ nm tx vb xs X) : w.heap.size + 1 + 1 < X.heap.size := (Array.getElem?_eq_some_iff.1 h.out).1
theorem Mk.FS.push {w : World} {kd at_ : Int} {nm tx : ByteArray} {vb v6 : Value} {xs : List (ByteArray × ByteArray)} {a : ByteArray × ByteArray} {X W6 : World} (h : Mk.FS w kd at_ nm tx vb xs X)
    (o6 : W6.ownsRow (w.heap.size + 3) 72 2 v6 (xs.length + 1) (Mk.attrCells xs ++ [.string a.1, .string a.2])) (g6 : X.grownBy W6 vb.ownBlock) :
    W6.heap[w.heap.size + 1 + 1]? = some (.cells #[.int .i64 kd, .int .i64 at_, .string nm, vb, .string tx] 34 (0, 0)) ∧ Mk.FS w kd at_ nm tx v6 (xs ++ [a]) (W6.setCell ⟨w.heap.size + 1 + 1, 3, none⟩ v6) := by
  have hz := h.size
  have hrow := h.own.lt
  have hout : W6.heap[w.heap.size + 1 + 1]? = some (.cells #[.int .i64 kd, .int .i64 at_, .string nm, vb, .string tx] 34 (0, 0)) := by
    rw [g6.block _ hz (by intro e; have := (hrow _ e.symm).1; omega)]; exact h.out
  refine ⟨hout, ?_, ?_, ?_, ?_⟩
  · rw [Below.heap_setCell _ _ _ _ (by show _ ≠ w.heap.size + 1 + 1; omega), g6.block _ (by omega) (by intro e; have := (hrow _ e.symm).1; omega)]; exact h.res
  · simp [World.setCell, Array.getElem?_modify, hout]
  · rw [Mk.attrCells_append, List.length_append]
    exact ownsRow_setCell_below o6 (by show w.heap.size + 1 + 1 < _; omega) _
  · exact (h.below.trans ⟨g6.os, g6.tape, g6.output, g6.size, fun j hj => g6.block j (by omega) (by intro e; have := (hrow _ e.symm).1; omega)⟩).setCell (by show _ ≤ w.heap.size + 1 + 1; omega) _
theorem Mk.FS.alloc {w : World} {kd at_ : Int} {nm tx : ByteArray} {vb : Value} {xs : List (ByteArray × ByteArray)} {X : World} (h : Mk.FS w kd at_ nm tx vb xs X) (o : Obj) : Mk.FS w kd at_ nm tx vb xs (X.alloc o) := by
  have hz := h.size
  exact ⟨by rw [Lib.alloc_old _ _ _ (by omega)]; exact h.res, by rw [Lib.alloc_old _ _ _ hz]; exact h.out, h.own.alloc o, h.below.alloc h.below.size o⟩

set_option maxRecDepth 100000 in
set_option maxHeartbeats 4000000 in
theorem Tryd.lawref_some (kd at_ : Int) (nm tx : ByteArray) (g off cap : Nat) (xs : List (ByteArray × ByteArray)) (w : World) (hcap : xs.length ≤ cap) (hg : g < w.heap.size) (hlen : xs.length ≤ 1000000)
    (hr : ∀ j (h : j < xs.length), w.cell? ⟨g, off + j * 2, none⟩ = some (.string xs[j].1) ∧ w.cell? ⟨g, off + j * 2 + 1, none⟩ = some (.string xs[j].2)) :
    Calls Tryd.prog 12 #[.agg #[.int .i64 kd, .int .i64 at_, .string nm, .slice (some ⟨g, off, none⟩) xs.length cap, .string tx]] w fun e w' => Below w.heap.size w w' ∧ ∃ vb, e = .returned (.agg #[.int .i64 kd, .int .i64 at_, .string nm, vb, .string tx]) ∧ w'.ownsRow w.heap.size 72 2 vb xs.length (Mk.attrCells xs) := by
  have HR : Hid (∀ j (h : j < xs.length), w.cell? ⟨g, off + j * 2, none⟩ = some (.string xs[j].1) ∧ w.cell? ⟨g, off + j * 2 + 1, none⟩ = some (.string xs[j].2)) := hr
  clear hr
  obtain ⟨i0, hi, hz0, hz1, hz2⟩ := info_parts Tryd.infoRAttr
  go_enter Tryd.func12, Tryd.ntmps12
  go_wp2
  go_loopg [18] xs.length (fun n i wr => ∃ (k : Nat) (ys : List (ByteArray × ByteArray)) (vb : Value), n + k = xs.length ∧ i = .int .i64 k ∧ ys = xs.take k ∧ Mk.FS w kd at_ nm tx vb ys wr)
  case atStart =>
    refine ⟨0, [], .slice none 0 0, by omega, rfl, rfl, ?_, ?_, World.ownsRow_nil _ _ _ _, (((Below.refl _ w).alloc (Nat.le_refl _) _).alloc (by simp) _).alloc (by simp; omega) _⟩
    · rw [Lib.alloc_old _ _ _ (by simp)]
      have := heap_alloc_new (w.alloc (.cells #[.int .i64 kd, .int .i64 at_, .string nm, .slice (some ⟨g, off, none⟩) xs.length cap, .string tx] 27)) (.cells #[.int .i64 0, .int .i64 0, .string ⟨#[]⟩, .slice none 0 0, .string ⟨#[]⟩] 34)
      simpa using this
    · have := heap_alloc_new ((w.alloc (.cells #[.int .i64 kd, .int .i64 at_, .string nm, .slice (some ⟨g, off, none⟩) xs.length cap, .string tx] 27)).alloc (.cells #[.int .i64 0, .int .i64 0, .string ⟨#[]⟩, .slice none 0 0, .string ⟨#[]⟩] 34)) (.cells #[.int .i64 kd, .int .i64 at_, .string nm, .slice none 0 0, .string tx] 34)
      simpa using this
  case round =>
    obtain ⟨k, ys, vb, hn, rfl, hys, hfs⟩ := hrel
    have hyl : ys.length ≤ 1000000 := by rw [hys, List.length_take]; omega
    have HY : Hid (ys = xs.take k) := hys
    clear hys
    have hzf := hfs.size
    obtain ⟨av, cv, hva⟩ := Mk.own_shape hfs.own
    subst hva
    have HF : Hid (Mk.FS w kd at_ nm tx (.slice av ys.length cv) ys wr) := hfs
    clear hfs
    by_cases hk : k < xs.length
    · have hd : decide ((k : Int) < xs.length) = true := decide_eq_true (by omega)
      have hq := HR.out k hk
      have hc0 : wr.cell? ⟨g, off + k * 2, none⟩ = some (.string xs[k].1) := by rw [HF.out.below.cell (p := ⟨g, off + k * 2, none⟩) hg]; exact hq.1
      have hc1 : wr.cell? ⟨g, off + k * 2 + 1, none⟩ = some (.string xs[k].2) := by rw [HF.out.below.cell (p := ⟨g, off + k * 2 + 1, none⟩) hg]; exact hq.2
      have hob := HF.out.out
      have co : wr.cell? ⟨w.heap.size + 1 + 1, 3, none⟩ = some (.slice av ys.length cv) := by simp [World.cell?, hob]
      have own3 := (HF.out.alloc (.cells #[.string xs[k].1, .string xs[k].2] 67)).own
      clear hq hob
      go_wp2_with (at_builtin; refine wpList_append_own _ rfl _ _ 32 rfl (w.heap.size + 3) 72 i0 _ 2 32 Tryd.underlying32 hi hz0 hz1 hz2 rfl (by decide) _ _ _ rfl (own3.alloc _) ⟨wr.heap.size + 1, 0, none⟩ 1 1 [.string xs[k].1, .string xs[k].2] rfl rfl ?c1 ?c2 ?c3 ?c4 ?c5 ?_)
      case c1 =>
        intro j u hj
        match j, hj with
        | 0, hj => simp at hj; subst hj; simp [Addr.add]
        | 1, hj => simp at hj; subst hj; simp [Addr.add]
      case c2 => intro u hu; simp at hu; rcases hu with rfl | rfl <;> rfl
      case c3 => unfold maxLen; omega
      case c4 => omega
      case c5 => simp; omega
      intro v6 W6 O6 g6 _
      obtain ⟨a6, c6, rfl⟩ := Mk.own_shape O6
      obtain ⟨m6, p6⟩ := Mk.FS.push (a := xs[k]) ((HF.out.alloc (.cells #[.string xs[k].1, .string xs[k].2] 67)).alloc (.cells #[.string xs[k].1, .string xs[k].2] 72)) O6 g6
      have z6 : w.heap.size + 1 + 1 < W6.heap.size := (Array.getElem?_eq_some_iff.1 m6).1
      have k60 : W6.cell? ⟨w.heap.size + 1 + 1, 3, none⟩ = some (.slice av ys.length cv) := by simp [World.cell?, m6]
      have k61 : W6.frozen? ⟨w.heap.size + 1 + 1, 3, none⟩ = false := by simp [World.frozen?, m6]
      have P6 : Hid (Mk.FS w kd at_ nm tx (.slice a6 (ys.length + 1) c6) (xs.take (k + 1)) (W6.setCell ⟨w.heap.size + 1 + 1, 3, none⟩ (.slice a6 (ys.length + 1) c6))) := by
        rw [List.take_succ_eq_append_getElem hk, ← HY.out]
        exact p6
      clear m6 p6 O6 g6 own3
      go_wp2
      go_roundg (gk - 1)
      case measure => omega
      case rel => exact ⟨k + 1, _, _, by omega, by go_num, rfl, P6.out⟩
    · have hd : decide ((k : Int) < xs.length) = false := decide_eq_false (by omega)
      obtain rfl : ys = xs := HY.out.trans (List.take_of_length_le (by omega))
      have hu34 := Tryd.underlying34
      clear HY
      go_wp2_with (first | (refine wpList_load_row rfl 34 _ rfl _ rfl 34 _ (0, 0) _ HF.out.out hu34 rfl (by kernel_rfl) ?_) | (refine wpList_store_row rfl 34 _ _ rfl (w.heap.size + 1) _ rfl rfl 34 #[.int .i64 0, .int .i64 0, .string ⟨#[]⟩, .slice none 0 0, .string ⟨#[]⟩] (by exact HF.out.res) (by kernel_rfl) rfl (by kernel_rfl) ?_))
      refine bodyPost_ret (v := .agg #[.int .i64 kd, .int .i64 at_, .string nm, .slice av ys.length cv, .string tx]) (results_cell_row Tryd.results12 _ _ (w.heap.size + 1) 34 #[.int .i64 kd, .int .i64 at_, .string nm, .slice av ys.length cv, .string tx] (0, 0) _ rfl (setRow_heap _ _ _ _ _ _ HF.out.res) Tryd.underlying34 rfl (by kernel_rfl)) rfl ⟨Mk.below_setRow HF.out.below (by omega) _, _, rfl, Mk.own_base (Mk.own_setRow HF.out.own (by omega) _) (by omega)⟩

set_option maxHeartbeats 2000000 in
theorem Tryd.lawref_nil (kd at_ : Int) (nm tx : ByteArray) (a : Option Addr) (c : Nat) (w : World) :
    Calls Tryd.prog 12 #[.agg #[.int .i64 kd, .int .i64 at_, .string nm, .slice a 0 c, .string tx]] w fun e w' => Below w.heap.size w w' ∧ ∃ vb, e = .returned (.agg #[.int .i64 kd, .int .i64 at_, .string nm, vb, .string tx]) ∧ w'.ownsRow w.heap.size 72 2 vb 0 [] := by
  go_enter Tryd.func12, Tryd.ntmps12
  go_wp2
  refine wp_loop_rounds 1 ?_
  rw [rounds_succ]
  go_wp2
  refine bodyPost_ret (v := .agg #[.int .i64 kd, .int .i64 at_, .string nm, .slice none 0 0, .string tx]) (by simp [results, Tryd.results12, go_sem]) rfl ⟨?_, _, rfl, World.ownsRow_nil _ _ _ _⟩
  exact (((Below.refl _ w).alloc (Nat.le_refl _) _).alloc (by simp) _).alloc (by simp; omega) _

theorem Tryd.lawref_any (kd at_ : Int) (nm tx : ByteArray) (v : Value) (xs : List (ByteArray × ByteArray)) (w : World) (h : Mk.AttrsAt w v xs) (hlen : xs.length ≤ 1000000) :
    Calls Tryd.prog 12 #[.agg #[.int .i64 kd, .int .i64 at_, .string nm, v, .string tx]] w fun e w' => Below w.heap.size w w' ∧ ∃ vb, e = .returned (.agg #[.int .i64 kd, .int .i64 at_, .string nm, vb, .string tx]) ∧ w'.ownsRow w.heap.size 72 2 vb xs.length (Mk.attrCells xs) := by
  rcases h with ⟨a, c, rfl, rfl⟩ | ⟨g, off, cap, rfl, hc, hg, hr⟩
  · exact Tryd.lawref_nil kd at_ nm tx a c w
  · exact Tryd.lawref_some kd at_ nm tx g off cap xs w hc hg hlen hr

end Go.Proofs
