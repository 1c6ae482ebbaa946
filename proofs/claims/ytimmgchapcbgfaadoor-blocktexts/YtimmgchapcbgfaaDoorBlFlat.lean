/-
  write of the kinds without kids.
-/
import Derived.Test.YtimmgchapcbgfaaDoorBlText
namespace Go.Proofs
open Go.RowKit

set_option maxRecDepth 20000 in
set_option maxHeartbeats 8000000 in
theorem Tryd.bwrite_mark (k n r : Int) (hk : k = 1 ∨ k = 10) (a : Option Addr) (len c : Nat) (al : Option Addr) (nl cl : Nat) (B : Nat) (out : List UInt8) (sv : Value) (w : World) (hB : B ≤ w.heap.size)
    (hown : w.ownsRow B 5 1 sv out.length (Lib.byteCells out)) (hlen : out.length ≤ 900000000) :
    Calls Tryd.prog 15 #[sv, .agg #[.int .i64 k, .int .i64 n, .int .i64 r, .slice a len c, .slice al nl cl]] w fun e w' => ∃ v', e = .returned v' ∧ Hid (Bk.Out B (out ++ (if k = 1 then [45] else [42])) v' w w') := by
  obtain ⟨i0, hi, hz0, hz1, hz2⟩ := info_parts Tryd.infoByte
  obtain ⟨w0, hw0⟩ : ∃ x, w.alloc (.cells #[.int .i64 k, .int .i64 n, .int .i64 r, .slice a len c, .slice al nl cl] 25) = x := ⟨_, rfl⟩
  have Y0 : Hid (Bk.Out B out sv w w0) := by
    show Bk.Out _ _ _ _ _
    rw [← hw0]
    exact Bk.Out.alloc ⟨hown, Below.refl _ _, Lib.OthersKept.refl _ _ _⟩ hB _
  obtain ⟨sa, sc, rfl⟩ := Tk.own_shape hown
  have HB : Hid (B ≤ w.heap.size) := hB
  have HW0 : Hid (w.alloc (.cells #[.int .i64 k, .int .i64 n, .int .i64 r, .slice a len c, .slice al nl cl] 25) = w0) := hw0
  have BE : Hid (∀ z : Int, out.length + 1 ≤ maxLen ∧ (out.length + 1) * 1 ≤ 140737488355328 ∧ B ≤ (w0.alloc (.cells #[.int .u8 z] 5)).heap.size) := fun z => ⟨by unfold maxLen; omega, by omega, (Y0.out.alloc hB _).size hB⟩
  clear hown hw0 hB
  rcases hk with rfl | rfl
  · go_enter Tryd.func15, Tryd.ntmps15
    go_upto_region 3 with fail
    rw [HW0.out]
    clear HW0
    go_wp2_with (at_builtin; refine wpList_append_own _ rfl _ _ 49 rfl B 5 i0 (.int .u8 0) 1 1 Tryd.underlying49 hi hz0 hz1 hz2 rfl (by decide) (.slice sa out.length sc) out.length (Lib.byteCells out) rfl (Y0.out.own.alloc _) ⟨w0.heap.size, 0, none⟩ 1 1 [.int .u8 45] rfl rfl (Tk.one_cell w0 45 5) (Tk.one_one 45) (BE.out 45).1 (BE.out 45).2.1 (BE.out 45).2.2 ?_)
    intro v5 W5 q5 g5 _
    have Y5 : Hid (Bk.Out B (out ++ [45]) v5 w W5) := Y0.out.byte HB.out 45 q5 g5
    clear q5 g5
    go_wp2
    go_ret
    exact ⟨_, rfl, Y5.out⟩
  · go_enter Tryd.func15, Tryd.ntmps15
    go_upto_region 5 with fail
    rw [HW0.out]
    clear HW0
    go_wp2_with (at_builtin; refine wpList_append_own _ rfl _ _ 49 rfl B 5 i0 (.int .u8 0) 1 1 Tryd.underlying49 hi hz0 hz1 hz2 rfl (by decide) (.slice sa out.length sc) out.length (Lib.byteCells out) rfl (Y0.out.own.alloc _) ⟨w0.heap.size, 0, none⟩ 1 1 [.int .u8 42] rfl rfl (Tk.one_cell w0 42 5) (Tk.one_one 42) (BE.out 42).1 (BE.out 42).2.1 (BE.out 42).2.2 ?_)
    intro v5 W5 q5 g5 _
    have Y5 : Hid (Bk.Out B (out ++ [42]) v5 w W5) := Y0.out.byte HB.out 42 q5 g5
    clear q5 g5
    go_wp2
    go_ret
    exact ⟨_, rfl, Y5.out⟩

set_option maxRecDepth 20000 in
set_option maxHeartbeats 8000000 in
theorem Tryd.bwrite_leaf (n r : Int) (h0 : 0 ≤ n) (h1 : n ≤ 9223372036854775807) (a : Option Addr) (len c : Nat) (al : Option Addr) (nl cl : Nat) (B : Nat) (out : List UInt8) (sv : Value) (w : World) (hB : B ≤ w.heap.size)
    (hT : Lib.TabBelow Tryd.prog B w "internal/strconv.uint64pow10" .u64 Lib.pow10Tab) (hown : w.ownsRow B 5 1 sv out.length (Lib.byteCells out)) (hlen : out.length ≤ 900000000) :
    Calls Tryd.prog 15 #[sv, .agg #[.int .i64 2, .int .i64 n, .int .i64 r, .slice a len c, .slice al nl cl]] w fun e w' => ∃ v', e = .returned v' ∧ Hid (Bk.Out B (out ++ Lib.itoa n) v' w w') := by
  obtain ⟨w0, hw0⟩ : ∃ x, w.alloc (.cells #[.int .i64 2, .int .i64 n, .int .i64 r, .slice a len c, .slice al nl cl] 25) = x := ⟨_, rfl⟩
  have Y0 : Hid (Bk.Out B out sv w w0) := by
    show Bk.Out _ _ _ _ _
    rw [← hw0]
    exact Bk.Out.alloc ⟨hown, Below.refl _ _, Lib.OthersKept.refl _ _ _⟩ hB _
  have NC : Hid (Calls Tryd.prog 27 #[sv, .int .i64 n] w0 fun e w' => ∃ a m c, e = .returned (.slice a m c) ∧ Hid (m = (out ++ Lib.itoa n).length ∧ Bk.Out B (out ++ Lib.itoa n) (.slice a m c) w w' ∧ Lib.OthersKept 5 none w0 w')) := Y0.out.num hB n (by omega) h1 hT (by omega)
  obtain ⟨sa, sc, rfl⟩ := Tk.own_shape hown
  have HW0 : Hid (w.alloc (.cells #[.int .i64 2, .int .i64 n, .int .i64 r, .slice a len c, .slice al nl cl] 25) = w0) := hw0
  have C0 : w0.cell? ⟨w.heap.size, 1, none⟩ = some (.int .i64 n) := by
    have := heap_alloc_new w (.cells #[.int .i64 2, .int .i64 n, .int .i64 r, .slice a len c, .slice al nl cl] 25)
    rw [hw0] at this
    simp [World.cell?, this]
  clear hown hw0 hB hT hlen
  go_enter Tryd.func15, Tryd.ntmps15
  go_upto_region 9 with fail
  rw [HW0.out]
  clear HW0
  go_wp2_with (go_at_call 27; refine Calls.mono NC.out ?_; rintro e W2 ⟨a2, m2, c2, rfl, X2⟩)
  go_ret
  exact ⟨_, rfl, X2.out.2.1⟩

set_option maxRecDepth 20000 in
set_option maxHeartbeats 8000000 in
theorem Tryd.bwrite_gate (n r : Int) (h0 : 0 ≤ n) (h1 : n ≤ 9223372036854775807) (a : Option Addr) (len c : Nat) (al : Option Addr) (nl cl : Nat) (B : Nat) (out : List UInt8) (sv : Value) (w : World) (hB : B ≤ w.heap.size)
    (hT : Lib.TabBelow Tryd.prog B w "internal/strconv.uint64pow10" .u64 Lib.pow10Tab) (hown : w.ownsRow B 5 1 sv out.length (Lib.byteCells out)) (hlen : out.length ≤ 900000000) :
    Calls Tryd.prog 15 #[sv, .agg #[.int .i64 8, .int .i64 n, .int .i64 r, .slice a len c, .slice al nl cl]] w fun e w' => ∃ v', e = .returned v' ∧ Hid (Bk.Out B (out ++ 103 :: Lib.itoa n) v' w w') := by
  obtain ⟨i0, hi, hz0, hz1, hz2⟩ := info_parts Tryd.infoByte
  obtain ⟨w0, hw0⟩ : ∃ x, w.alloc (.cells #[.int .i64 8, .int .i64 n, .int .i64 r, .slice a len c, .slice al nl cl] 25) = x := ⟨_, rfl⟩
  have A0 : Below B w w0 := by rw [← hw0]; exact (Below.refl _ w).alloc hB _
  have O0 : Hid (Lib.OthersKept 5 none w w0) := by show Lib.OthersKept _ _ _ _; rw [← hw0]; exact (Lib.OthersKept.refl _ _ w).alloc _
  have C0 : w0.heap[w.heap.size]? = some (.cells #[.int .i64 8, .int .i64 n, .int .i64 r, .slice a len c, .slice al nl cl] 25 (0, 0)) := by rw [← hw0]; exact heap_alloc_new w _
  have OW : w0.ownsRow B 5 1 sv out.length (Lib.byteCells out) := by rw [← hw0]; exact hown.alloc _
  have CF : Hid (∀ W, Lib.OthersKept 5 none w0 W → W.cell? ⟨w.heap.size, 1, none⟩ = some (.int .i64 n)) := fun W hb => by
    have e1 := hb _ _ C0 (by simp) (by intro c fz h; simp at h)
    simp [World.cell?, e1]
  obtain ⟨sa, sc, rfl⟩ := Tk.own_shape hown
  have KR : Hid (Lib.OthersKept 5 none w0 w0) := Lib.OthersKept.refl _ _ _
  have Y : Hid (Bk.Byte 103 n 103 B out sa sc w w0) := Bk.byte_of 103 n (by omega) h1 B out sa sc w w0 A0 OW hB hT (by omega)
  have HW0 : Hid (w.alloc (.cells #[.int .i64 8, .int .i64 n, .int .i64 r, .slice a len c, .slice al nl cl] 25) = w0) := hw0
  clear hT hown hw0 A0 C0 OW hlen
  go_enter Tryd.func15, Tryd.ntmps15
  go_upto_region 7 with fail
  rw [HW0.out]
  go_region_held3 (fun W => W.cell? ⟨w.heap.size, 1, none⟩ = some (.int .i64 n))
    (first | exact CF.out _ H2.out.2.2 | exact CF.out _ K1.out | exact CF.out _ Y.out.kept | exact CF.out _ Y.out.kept.drew | exact CF.out _ KR.out.drew | exact CF.out _ KR.out)
    (first
    | ((with_reducible refine Tk.at_op (Op.call { callee := Callee.builtin Builtin.append, args := #[.tmp 21, .tmp 22], argTypes := #[49, 49] }) ?hop ?_); (case hop => with_reducible rfl); refine Tk.step_own rfl (.tmp 21) (.tmp 22) 49 rfl B 5 i0 (.int .u8 0) 1 1 Tryd.underlying49 hi hz0 hz1 hz2 rfl (by decide) (.slice sa out.length sc) out.length (Lib.byteCells out) (by simp [Act.eval]) (by exact Y.out.own) ⟨w0.heap.size, 0, none⟩ 1 1 [.int .u8 103] (by simp [Act.eval]) rfl (by exact Tk.one_cell w0 103 5) (Tk.one_one 103) (by exact Y.out.bound.1) (by exact Y.out.bound.2) (by exact Y.out.le) ?_; intro v1 W1 q1 g1; have K1 : Hid (Lib.OthersKept 5 none w0 W1) := Y.out.grown W1 g1)
    | (go_simp; go_at_call 27; refine Calls.mono (Y.out.num _ _ (by exact q1) (by exact g1)) ?_; rintro e W2 ⟨v2, rfl, H2⟩))
  clear CF KR Y
  go_simp
  go_wp2
  go_ret
  exact ⟨v2, rfl, H2.out.1, H2.out.2.1, O0.out.trans H2.out.2.2⟩

end Go.Proofs
