/-
  The contract of write: of leaves.
-/
import Derived.Test.YtehmmfmofdgheaaDoorTmText
import Derived.Test.YtehmmfmofdgheaaDoorTStep
import Derived.Deep.DeepCutAuto
namespace Go.Proofs
open Go.RowKit

theorem Tryd.infoByte : (Tryd.prog.info? 5).map (fun i => (i.zero, i.size, i.bytes)) = some (some (.int .u8 0), 1, 1) := by kernel_rfl

set_option maxHeartbeats 4000000 in
theorem Tryd.write_leaf (o : Nat) (ho : o = 1 ∨ o = 2) (n : Int) (hn0 : 0 ≤ n) (hn1 : n ≤ 1099511627776) (a : Option Addr) (len cap : Nat) (B : Nat) (out : List UInt8) (sv : Value) (w : World) (hB : B ≤ w.heap.size) (hO : Tk.Ops w) (h0 : 1 < B)
    (hT : Lib.TabBelow Tryd.prog B w "internal/strconv.uint64pow10" .u64 Lib.pow10Tab) (hown : w.ownsRow B 5 1 sv out.length (Lib.byteCells out)) (hlen : out.length ≤ 1000000000) :
    Calls Tryd.prog 42 #[sv, .agg #[.int .i64 o, .int .i64 n, .slice a len cap]] w fun e w' => ∃ v' bs, e = .returned v' ∧ w'.ownsRow B 5 1 v' bs.length (Lib.byteCells bs) ∧ Below B w w' ∧ bs = out ++ (Tm.opText o ++ Lib.itoa n) := by
  obtain ⟨i0, hi, hz0, hz1, hz2⟩ := info_parts Tryd.infoByte
  have o1 : 1 ≤ o := by omega
  have o2 : o ≤ 14 := by omega
  have ix : (o : Int) < 15 := by omega
  have A0 : Below B w (w.alloc (.cells #[.int .i64 o, .int .i64 n, .slice a len cap] 37)) := (Below.refl _ w).alloc hB _
  have O1 : Tk.Ops (w.alloc (.cells #[.int .i64 o, .int .i64 n, .slice a len cap] 37)) := hO.below A0 h0
  obtain ⟨tx', c0', c1, c2, c3, c4⟩ := O1.cells o o1 o2
  have c0 := O1.text o o1 o2
  obtain ⟨tx, htx⟩ : ∃ t, Tm.opText o = t := ⟨_, rfl⟩
  have htl : tx.length ≤ 3 := by rw [← htx]; exact Tm.opText_le _
  have hk0 : Tm.kidsOf o = 0 := by unfold Tm.kidsOf; rw [if_pos (by omega)]
  obtain ⟨mm, hm⟩ : ∃ m, Tm.mostOf o = m := ⟨_, rfl⟩
  obtain ⟨aa, ha⟩ : ∃ m, Tm.askedOf o = m := ⟨_, rfl⟩
  obtain ⟨ii, hi'⟩ : ∃ m, Tm.isOf o = m := ⟨_, rfl⟩
  rw [htx] at c0
  rw [hk0] at c1
  have c1 : (w.alloc (.cells #[.int .i64 o, .int .i64 n, .slice a len cap] 37)).cell? ⟨1, o * 5 + 1, none⟩ = some (.int .i64 0) := c1
  rw [ha] at c2
  rw [hm] at c3
  rw [hi'] at c4
  obtain ⟨w0, hw0⟩ : ∃ x, (w.alloc (.cells #[.int .i64 o, .int .i64 n, .slice a len cap] 37)).alloc (.cells #[.string ⟨tx.toArray⟩, .int .i64 0, .int .i64 aa, .int .i64 mm, .int .i64 ii] 110) = x := ⟨_, rfl⟩
  have A1 : Hid (Below B w w0) := by show Below _ _ _; rw [← hw0]; exact A0.alloc (by simp; omega) _
  have OW : Hid (w0.ownsRow B 5 1 sv out.length (Lib.byteCells out)) := by show World.ownsRow _ _ _ _ _ _ _; rw [← hw0]; exact (hown.alloc _).alloc _
  have HT : Hid (Lib.TabBelow Tryd.prog B w "internal/strconv.uint64pow10" .u64 Lib.pow10Tab) := hT
  have HW0 : Hid ((w.alloc (.cells #[.int .i64 o, .int .i64 n, .slice a len cap] 37)).alloc (.cells #[.string ⟨tx.toArray⟩, .int .i64 0, .int .i64 aa, .int .i64 mm, .int .i64 ii] 110) = w0) := hw0
  have HX : Hid (Tm.opText o = tx) := htx
  have K2 : Hid (w0.heap[w.heap.size]? = some (.cells #[.int .i64 o, .int .i64 n, .slice a len cap] 37 (0, 0))) := by show _ = _; rw [← hw0, Below.heap_alloc _ _ _ (by simp)]; exact heap_alloc_new w _
  have K3 : Hid (w0.heap[w.heap.size + 1]? = some (.cells #[.string ⟨tx.toArray⟩, .int .i64 0, .int .i64 aa, .int .i64 mm, .int .i64 ii] 110 (0, 0))) := by
    show _ = _
    rw [← hw0]
    have := heap_alloc_new (w.alloc (.cells #[.int .i64 o, .int .i64 n, .slice a len cap] 37)) (.cells #[.string ⟨tx.toArray⟩, .int .i64 0, .int .i64 aa, .int .i64 mm, .int .i64 ii] 110)
    simpa using this
  have K0 : Hid (w0.cell? ⟨w.heap.size + 1, 0, none⟩ = some (.string ⟨tx.toArray⟩)) := by show _ = _; have := K3.out; simp [World.cell?, this]
  have K1 : Hid (w0.cell? ⟨w.heap.size, 1, none⟩ = some (.int .i64 n)) := by show _ = _; have := K2.out; simp [World.cell?, this]
  have KN : Hid (some w.heap.size ≠ sv.ownBlock) := Tk.row_ne OW.out K2.out (by decide)
  have F1 : Hid (∀ W1 : World, (∀ k, k < w0.heap.size → some k ≠ sv.ownBlock → W1.heap[k]? = w0.heap[k]?) → W1.cell? ⟨w.heap.size, 1, none⟩ = some (.int .i64 n)) := fun W1 hb => by
    have h1 := (hb _ (Array.getElem?_eq_some_iff.1 K2.out).1 KN.out).trans K2.out
    simp [World.cell?, h1]
  have htl' : (⟨tx.toArray⟩ : ByteArray).size = tx.length := by simp [ByteArray.size]
  have L1 : Hid (out.length + (⟨tx.toArray⟩ : ByteArray).size ≤ maxLen) := by show _ ≤ _; rw [htl']; unfold maxLen; omega
  have L2 : Hid (out.length + (⟨tx.toArray⟩ : ByteArray).size ≤ 140737488355328) := by show _ ≤ _; rw [htl']; omega
  have L3 : Hid (B ≤ w0.heap.size) := by show _ ≤ _; have := A1.out.size; omega
  have L4 : Hid (w.heap.size < w0.heap.size) := (Array.getElem?_eq_some_iff.1 K2.out).1
  have L5 : Hid (out.length + (⟨tx.toArray⟩ : ByteArray).size + 21 ≤ 140737488355328) := by show _ ≤ _; rw [htl']; omega
  clear htx c0' hw0 hT hown A0 O1 hk0 hm ha hi' htl'
  go_enter Tryd.func42, Tryd.ntmps42
  go_upto_region 3 with fail
  rw [HW0.out]
  clear HW0 c0 c1 c2 c3 c4
  have s0 := K0.out
  have s1 := K1.out
  go_region_law (first
    | (go_simp; go_at_call 68; refine (Tryd.appendInt B (out.length + (⟨tx.toArray⟩ : ByteArray).size) n (by omega) (by omega) v1 _ _ (by exact q1) (by exact Nat.le_trans L3.out g1.size) (by exact L5.out) (by exact HT.out.on (Tk.below_grown (w := w0.drew) A1.out.drew L3.out OW.out g1))).mono ?_; rintro e W2 ⟨v2, rfl, q2, b2, -⟩)
    | ((with_reducible refine Tk.at_op (Op.call { callee := Callee.builtin Builtin.append, args := #[.tmp 15, .tmp 17], argTypes := #[71, 9] }) ?hop ?_); (case hop => with_reducible rfl); refine Tk.step_str rfl (.tmp 15) (.tmp 17) 71 9 rfl B 5 i0 Tryd.underlying71 Tryd.underlying9 hi hz0 hz1 hz2 sv out.length (Lib.byteCells out) (by simp [Act.eval]) (by exact OW.out) ⟨tx.toArray⟩ (by simp [Act.eval]) (by exact L1.out) (by exact L2.out) (by exact L3.out) ?_; intro v1 W1 q1 g1; have f1 := F1.out W1 (by exact g1.block))
    | fail)
  all_goals
    have BB : Hid (Below B w W2) := (Tk.below_grown (w := w0.drew) A1.out.drew L3.out OW.out g1).trans b2
    have QQ : Hid (W2.ownsRow B 5 1 v2 (out ++ (tx ++ Lib.itoa n)).length (Lib.byteCells (out ++ (tx ++ Lib.itoa n)))) := Tk.own_eq q2 (by simp [ByteArray.size]; omega) (by rw [Tk.str_cells, Lib.byteCells_append, Lib.byteCells_append, List.append_assoc])
    clear q1 g1 q2 b2 f1
    go_wp2
    go_ret
    exact ⟨v2, _, rfl, QQ.out, BB.out, by rw [HX.out]⟩

end Go.Proofs
