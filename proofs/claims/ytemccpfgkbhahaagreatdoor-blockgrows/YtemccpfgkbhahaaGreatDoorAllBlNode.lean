/-
  number: a number's digits behind other bytes; a byte, then a number. · writeNode: a block's node behind other bytes.
-/
import Derived.Test.YtemccpfgkbhahaaGreatDoorSteps
import Derived.Test.YtemccpfgkbhahaaGreatDoorAIShelf
import Derived.Test.YtemccpfgkbhahaaGreatDoorBlModel
import Derived.Deep.DeepCutAuto
import Derived.Lib.Hide
import Derived.Deep.RegionHeld3
namespace Go.Proofs
open Go.RowKit

theorem Tryz.infoByte : (Tryz.prog.info? 5).map (fun i => (i.zero, i.size, i.bytes)) = some (some (.int .u8 0), 1, 1) := by kernel_rfl

set_option maxHeartbeats 4000000 in
theorem Tryz.number_any (n : Int) (h0 : -9223372036854775808 ≤ n) (h1 : n ≤ 9223372036854775807) (B : Nat) (out : List UInt8) (sv : Value) (w : World) (hB : B ≤ w.heap.size)
    (hT : Lib.TabBelow Tryz.prog B w "internal/strconv.uint64pow10" .u64 Lib.pow10Tab) (hown : w.ownsRow B 5 1 sv out.length (Lib.byteCells out)) (hlen : out.length ≤ 1000000000) :
    Calls Tryz.prog 39 #[sv, .int .i64 n] w fun e w' => ∃ v', e = .returned v' ∧ w'.ownsRow B 5 1 v' (out ++ Lib.itoa n).length (Lib.byteCells (out ++ Lib.itoa n)) ∧ Below B w w' ∧ Lib.OthersKept 5 none w w' := by
  have h := Tryz.appendInt B out.length n h0 h1 sv (Lib.byteCells out) w hown hB (by omega) hT
  obtain ⟨a, c, rfl⟩ := Tk.own_shape hown
  have HC : Hid _ := h
  clear h hown hT
  go_enter Tryz.func39, Tryz.ntmps39
  go_wp2_with fail
  refine Calls.mono HC.out ?_
  rintro e W ⟨v', rfl, q, hb, ho⟩
  have X : Hid (W.ownsRow B 5 1 v' (out ++ Lib.itoa n).length (Lib.byteCells (out ++ Lib.itoa n)) ∧ Below B w W ∧ Lib.OthersKept 5 none w W) := ⟨Tk.own_eq q (by simp) (by rw [Lib.byteCells_append]), hb, ho⟩
  clear q hb ho HC
  go_wp2
  go_ret
  exact ⟨v', rfl, X.out⟩

end Go.Proofs

namespace Go.Proofs
open Go.RowKit

theorem Tk.one_cell (w : World) (c : Int) (k : Nat) : ∀ j u, [Value.int .u8 c][j]? = some u → (w.alloc (.cells #[.int .u8 c] k)).cell? ((⟨w.heap.size, 0, none⟩ : Addr).add j) = some u := by
  intro j u hj
  match j, hj with
  | 0, hj => simp at hj; subst hj; simp [Addr.add]
theorem Tk.one_one (c : Int) : ∀ u ∈ [Value.int .u8 c], u.oneCell' = true := by
  intro u hu
  simp at hu
  subst hu
  rfl

/-- A byte's row behind w0, then what append and number do with it. -/
structure Bk.Byte (c : Int) (n : Int) (ch : UInt8) (B : Nat) (out : List UInt8) (sa : Option Addr) (sc : Nat) (w w0 : World) : Prop where
  own : (w0.alloc (.cells #[.int .u8 c] 5)).ownsRow B 5 1 (.slice sa out.length sc) out.length (Lib.byteCells out)
  le : B ≤ (w0.alloc (.cells #[.int .u8 c] 5)).heap.size
  kept : Lib.OthersKept 5 none w0 (w0.alloc (.cells #[.int .u8 c] 5))
  bound : out.length + 1 ≤ maxLen ∧ (out.length + 1) * 1 ≤ 140737488355328
  grown : ∀ W1, (w0.alloc (.cells #[.int .u8 c] 5)).drew.grownBy W1 (Value.slice sa out.length sc).ownBlock → Lib.OthersKept 5 none w0 W1
  num : ∀ v1 W1, W1.ownsRow B 5 1 v1 (out.length + 1) (Lib.byteCells out ++ [.int .u8 c]) → (w0.alloc (.cells #[.int .u8 c] 5)).drew.grownBy W1 (Value.slice sa out.length sc).ownBlock →
      Calls Tryz.prog 39 #[v1, .int .i64 n] W1 fun e w' => ∃ v', e = .returned v' ∧ Hid (w'.ownsRow B 5 1 v' (out ++ ch :: Lib.itoa n).length (Lib.byteCells (out ++ ch :: Lib.itoa n)) ∧ Below B w w' ∧ Lib.OthersKept 5 none w0 w')

theorem Bk.byte_of (ch : UInt8) (n : Int) (h0 : -9223372036854775808 ≤ n) (h1 : n ≤ 9223372036854775807) (B : Nat) (out : List UInt8) (sa : Option Addr) (sc : Nat) (w w0 : World) (A0 : Below B w w0) (OW : w0.ownsRow B 5 1 (.slice sa out.length sc) out.length (Lib.byteCells out)) (hB : B ≤ w.heap.size)
    (hT : Lib.TabBelow Tryz.prog B w "internal/strconv.uint64pow10" .u64 Lib.pow10Tab) (hlen : out.length ≤ 900000000) : Bk.Byte (ch.toNat : Int) n ch B out sa sc w w0 := by
  have HB0 : B ≤ w0.heap.size := by have := A0.size; omega
  have AB : Below B w (w0.alloc (.cells #[.int .u8 (ch.toNat : Int)] 5)) := A0.alloc HB0 _
  have OB := OW.alloc (.cells #[.int .u8 (ch.toNat : Int)] 5)
  have LB : B ≤ (w0.alloc (.cells #[.int .u8 (ch.toNat : Int)] 5)).heap.size := by have := AB.size; omega
  have KB : Lib.OthersKept 5 none w0 (w0.alloc (.cells #[.int .u8 (ch.toNat : Int)] 5)) := (Lib.OthersKept.refl _ _ _).alloc _
  refine ⟨OB, LB, KB, by unfold maxLen; omega, fun W1 g1 => KB.drew.grown g1 (Lib.ownsRow_kind OB.drew), fun v1 W1 q1 g1 => ?_⟩
  have B1 : Below B w W1 := Tk.below_grown (w := (w0.alloc (.cells #[.int .u8 (ch.toNat : Int)] 5)).drew) AB.drew LB OB g1
  have K1 : Lib.OthersKept 5 none w0 W1 := KB.drew.grown g1 (Lib.ownsRow_kind OB.drew)
  have h := Tryz.number_any n h0 h1 B (out ++ [ch]) v1 W1 (Nat.le_trans LB g1.size) (hT.on B1) (Tk.own_eq q1 (by simp) (by rw [Lib.byteCells_append]; simp [Lib.byteCells])) (by simp; omega)
  refine h.mono ?_
  rintro e w' ⟨v', he, q2, b2, o2⟩
  exact ⟨v', he, Tk.own_eq q2 (by simp) (by simp), B1.trans b2, K1.trans o2⟩

/-- What is written of the node. -/
def Bl.nodeL (k n r : Int) : List UInt8 := if k = 4 ∨ k = 5 ∨ k = 6 then 58 :: Lib.itoa n else if k = 7 then 58 :: (Lib.itoa n ++ 47 :: Lib.itoa r) else []

set_option maxRecDepth 20000 in
set_option maxHeartbeats 8000000 in
theorem Tryz.writeNode_one (k n r : Int) (hk : k = 4 ∨ k = 5 ∨ k = 6) (h0 : 0 ≤ n) (h1 : n ≤ 9223372036854775807) (a : Option Addr) (len c : Nat) (al : Option Addr) (nl cl : Nat) (B : Nat) (out : List UInt8) (sv : Value) (w : World) (hB : B ≤ w.heap.size)
    (hT : Lib.TabBelow Tryz.prog B w "internal/strconv.uint64pow10" .u64 Lib.pow10Tab) (hown : w.ownsRow B 5 1 sv out.length (Lib.byteCells out)) (hlen : out.length ≤ 900000000) :
    Calls Tryz.prog 40 #[sv, .agg #[.int .i64 k, .int .i64 n, .int .i64 r, .slice a len c, .slice al nl cl]] w fun e w' => ∃ v', e = .returned v' ∧ w'.ownsRow B 5 1 v' (out ++ 58 :: Lib.itoa n).length (Lib.byteCells (out ++ 58 :: Lib.itoa n)) ∧ Below B w w' ∧ Lib.OthersKept 5 none w w' := by
  obtain ⟨i0, hi, hz0, hz1, hz2⟩ := info_parts Tryz.infoByte
  obtain ⟨w0, hw0⟩ : ∃ x, w.alloc (.cells #[.int .i64 k, .int .i64 n, .int .i64 r, .slice a len c, .slice al nl cl] 29) = x := ⟨_, rfl⟩
  have A0 : Below B w w0 := by rw [← hw0]; exact (Below.refl _ w).alloc hB _
  have O0 : Lib.OthersKept 5 none w w0 := by rw [← hw0]; exact (Lib.OthersKept.refl _ _ w).alloc _
  have C0 : w0.heap[w.heap.size]? = some (.cells #[.int .i64 k, .int .i64 n, .int .i64 r, .slice a len c, .slice al nl cl] 29 (0, 0)) := by rw [← hw0]; exact heap_alloc_new w _
  have OW : w0.ownsRow B 5 1 sv out.length (Lib.byteCells out) := by rw [← hw0]; exact hown.alloc _
  have CF : Hid (∀ W, Lib.OthersKept 5 none w0 W → W.cell? ⟨w.heap.size, 1, none⟩ = some (.int .i64 n) ∧ W.cell? ⟨w.heap.size, 2, none⟩ = some (.int .i64 r)) := fun W hb => by
    have e1 := hb _ _ C0 (by simp) (by intro c fz h; simp at h)
    exact ⟨by simp [World.cell?, e1], by simp [World.cell?, e1]⟩
  obtain ⟨sa, sc, rfl⟩ := Tk.own_shape hown
  have KR : Hid (Lib.OthersKept 5 none w0 w0) := Lib.OthersKept.refl _ _ _
  have c0 : w0.cell? ⟨w.heap.size, 0, none⟩ = some (.int .i64 k) := by simp [World.cell?, C0]
  have HB0 : Hid (B ≤ w0.heap.size) := by show _ ≤ _; have := A0.size; omega
  have OB : Hid ((w0.alloc (.cells #[.int .u8 58] 5)).ownsRow B 5 1 (.slice sa out.length sc) out.length (Lib.byteCells out)) := OW.alloc _
  have AB : Hid (Below B w (w0.alloc (.cells #[.int .u8 58] 5))) := A0.alloc HB0.out _
  have LB : Hid (B ≤ (w0.alloc (.cells #[.int .u8 58] 5)).heap.size) := by show _ ≤ _; have := AB.out.size; omega
  have KB : Hid (Lib.OthersKept 5 none w0 (w0.alloc (.cells #[.int .u8 58] 5))) := KR.out.alloc _
  have HL : Hid (out.length + 1 ≤ maxLen ∧ (out.length + 1) * 1 ≤ 140737488355328) := by show _ ∧ _; unfold maxLen; omega
  have HN : Hid (∀ v1 W1, W1.ownsRow B 5 1 v1 (out.length + 1) (Lib.byteCells out ++ [.int .u8 58]) → (w0.alloc (.cells #[.int .u8 58] 5)).drew.grownBy W1 (Value.slice sa out.length sc).ownBlock →
      Calls Tryz.prog 39 #[v1, .int .i64 n] W1 fun e w' => ∃ v', e = .returned v' ∧ Hid (w'.ownsRow B 5 1 v' (out ++ 58 :: Lib.itoa n).length (Lib.byteCells (out ++ 58 :: Lib.itoa n)) ∧ Below B w w' ∧ Lib.OthersKept 5 none w w' ∧ Lib.OthersKept 5 none w0 w')) := fun v1 W1 q1 g1 => by
    have B1 : Below B w W1 := Tk.below_grown (w := (w0.alloc (.cells #[.int .u8 58] 5)).drew) AB.out.drew LB.out OB.out g1
    have K1 : Lib.OthersKept 5 none w0 W1 := KB.out.drew.grown g1 (Lib.ownsRow_kind OB.out.drew)
    have h := Tryz.number_any n (by omega) h1 B (out ++ [58]) v1 W1 (Nat.le_trans LB.out g1.size) (hT.on B1) (Tk.own_eq q1 (by simp) (by rw [Lib.byteCells_append]; simp [Lib.byteCells])) (by simp; omega)
    refine h.mono ?_
    rintro e w' ⟨v', he, q2, b2, o2⟩
    have K2 := K1.trans o2
    exact ⟨v', he, Tk.own_eq q2 (by simp) (by simp), B1.trans b2, O0.trans K2, K2⟩
  have HW0 : Hid (w.alloc (.cells #[.int .i64 k, .int .i64 n, .int .i64 r, .slice a len c, .slice al nl cl] 29) = w0) := hw0
  have KG : Hid (∀ W1, (w0.alloc (.cells #[.int .u8 58] 5)).drew.grownBy W1 (Value.slice sa out.length sc).ownBlock → Lib.OthersKept 5 none w0 W1) := fun W1 g1 => KB.out.drew.grown g1 (Lib.ownsRow_kind OB.out.drew)
  clear hT hown hw0 A0 O0 C0 OW AB
  rcases hk with rfl | rfl | rfl
  all_goals
    go_enter Tryz.func40, Tryz.ntmps40
    go_upto_region 5 with fail
    rw [HW0.out]
    go_region_held3 (fun W => W.cell? ⟨w.heap.size, 1, none⟩ = some (.int .i64 n) ∧ W.cell? ⟨w.heap.size, 2, none⟩ = some (.int .i64 r))
      (first | exact CF.out _ H2.out.2.2.2 | exact CF.out _ K1.out | exact CF.out _ KB.out | exact CF.out _ KB.out.drew | exact CF.out _ KR.out.drew | exact CF.out _ KR.out)
      (first
      | ((with_reducible refine Tk.at_op (Op.call { callee := Callee.builtin Builtin.append, args := #[.tmp 11, .tmp 12], argTypes := #[66, 66] }) ?hop ?_); (case hop => with_reducible rfl); refine Tk.step_own rfl (.tmp 11) (.tmp 12) 66 rfl B 5 i0 (.int .u8 0) 1 1 Tryz.underlying66 hi hz0 hz1 hz2 rfl (by decide) (.slice sa out.length sc) out.length (Lib.byteCells out) (by simp [Act.eval]) (by exact OB.out) ⟨w0.heap.size, 0, none⟩ 1 1 [.int .u8 58] (by simp [Act.eval]) rfl (by exact Tk.one_cell w0 58 5) (Tk.one_one 58) (by exact HL.out.1) (by exact HL.out.2) (by exact LB.out) ?_; intro v1 W1 q1 g1; have K1 : Hid (Lib.OthersKept 5 none w0 W1) := KG.out W1 g1)
      | (go_simp; go_at_call 39; refine Calls.mono (HN.out _ _ (by exact q1) (by exact g1)) ?_; rintro e W2 ⟨v2, rfl, H2⟩))
    clear CF HN KG KB KR
    go_simp
    go_wp2
    go_ret
    exact ⟨v2, rfl, H2.out.1, H2.out.2.1, H2.out.2.2.1⟩

set_option maxRecDepth 20000 in
set_option maxHeartbeats 8000000 in
theorem Tryz.writeNode_two (n r : Int) (h0 : 0 ≤ n) (h1 : n ≤ 9223372036854775807) (r0 : 0 ≤ r) (r1 : r ≤ 9223372036854775807) (a : Option Addr) (len c : Nat) (al : Option Addr) (nl cl : Nat) (B : Nat) (out : List UInt8) (sv : Value) (w : World) (hB : B ≤ w.heap.size)
    (hT : Lib.TabBelow Tryz.prog B w "internal/strconv.uint64pow10" .u64 Lib.pow10Tab) (hown : w.ownsRow B 5 1 sv out.length (Lib.byteCells out)) (hlen : (out ++ 58 :: Lib.itoa n).length ≤ 900000000) :
    Calls Tryz.prog 40 #[sv, .agg #[.int .i64 7, .int .i64 n, .int .i64 r, .slice a len c, .slice al nl cl]] w fun e w' => ∃ v', e = .returned v' ∧ w'.ownsRow B 5 1 v' ((out ++ 58 :: Lib.itoa n) ++ 47 :: Lib.itoa r).length (Lib.byteCells ((out ++ 58 :: Lib.itoa n) ++ 47 :: Lib.itoa r)) ∧ Below B w w' ∧ Lib.OthersKept 5 none w w' := by
  obtain ⟨i0, hi, hz0, hz1, hz2⟩ := info_parts Tryz.infoByte
  obtain ⟨w0, hw0⟩ : ∃ x, w.alloc (.cells #[.int .i64 7, .int .i64 n, .int .i64 r, .slice a len c, .slice al nl cl] 29) = x := ⟨_, rfl⟩
  have A0 : Below B w w0 := by rw [← hw0]; exact (Below.refl _ w).alloc hB _
  have O0 : Hid (Lib.OthersKept 5 none w w0) := by show Lib.OthersKept _ _ _ _; rw [← hw0]; exact (Lib.OthersKept.refl _ _ w).alloc _
  have C0 : w0.heap[w.heap.size]? = some (.cells #[.int .i64 7, .int .i64 n, .int .i64 r, .slice a len c, .slice al nl cl] 29 (0, 0)) := by rw [← hw0]; exact heap_alloc_new w _
  have OW : w0.ownsRow B 5 1 sv out.length (Lib.byteCells out) := by rw [← hw0]; exact hown.alloc _
  have CF : Hid (∀ W, Lib.OthersKept 5 none w0 W → W.cell? ⟨w.heap.size, 1, none⟩ = some (.int .i64 n) ∧ W.cell? ⟨w.heap.size, 2, none⟩ = some (.int .i64 r)) := fun W hb => by
    have e1 := hb _ _ C0 (by simp) (by intro c fz h; simp at h)
    exact ⟨by simp [World.cell?, e1], by simp [World.cell?, e1]⟩
  obtain ⟨sa, sc, rfl⟩ := Tk.own_shape hown
  have KR : Hid (Lib.OthersKept 5 none w0 w0) := Lib.OthersKept.refl _ _ _
  have c0 : w0.cell? ⟨w.heap.size, 0, none⟩ = some (.int .i64 7) := by simp [World.cell?, C0]
  have Y : Hid (Bk.Byte 58 n 58 B out sa sc w w0) := Bk.byte_of 58 n (by omega) h1 B out sa sc w w0 A0 OW hB hT (by simp at hlen; omega)
  obtain ⟨out2, ho2⟩ : ∃ o, out ++ 58 :: Lib.itoa n = o := ⟨_, rfl⟩
  rw [ho2] at hlen ⊢
  have HO2 : Hid (out ++ 58 :: Lib.itoa n = out2) := ho2
  have HT : Hid (Lib.TabBelow Tryz.prog B w "internal/strconv.uint64pow10" .u64 Lib.pow10Tab ∧ B ≤ w.heap.size ∧ out2.length ≤ 900000000) := ⟨hT, hB, hlen⟩
  have HW0 : Hid (w.alloc (.cells #[.int .i64 7, .int .i64 n, .int .i64 r, .slice a len c, .slice al nl cl] 29) = w0) := hw0
  clear hT hown hw0 A0 C0 OW hlen ho2
  go_enter Tryz.func40, Tryz.ntmps40
  go_upto_region 7 with fail
  rw [HW0.out]
  go_region_held3 (fun W => W.cell? ⟨w.heap.size, 1, none⟩ = some (.int .i64 n) ∧ W.cell? ⟨w.heap.size, 2, none⟩ = some (.int .i64 r))
    (first | exact CF.out _ H2.out.2.2 | exact CF.out _ K1.out | exact CF.out _ Y.out.kept | exact CF.out _ Y.out.kept.drew | exact CF.out _ KR.out.drew | exact CF.out _ KR.out)
    (first
    | ((with_reducible refine Tk.at_op (Op.call { callee := Callee.builtin Builtin.append, args := #[.tmp 19, .tmp 20], argTypes := #[66, 66] }) ?hop ?_); (case hop => with_reducible rfl); refine Tk.step_own rfl (.tmp 19) (.tmp 20) 66 rfl B 5 i0 (.int .u8 0) 1 1 Tryz.underlying66 hi hz0 hz1 hz2 rfl (by decide) (.slice sa out.length sc) out.length (Lib.byteCells out) (by simp [Act.eval]) (by exact Y.out.own) ⟨w0.heap.size, 0, none⟩ 1 1 [.int .u8 58] (by simp [Act.eval]) rfl (by exact Tk.one_cell w0 58 5) (Tk.one_one 58) (by exact Y.out.bound.1) (by exact Y.out.bound.2) (by exact Y.out.le) ?_; intro v1 W1 q1 g1; have K1 : Hid (Lib.OthersKept 5 none w0 W1) := Y.out.grown W1 g1)
    | (go_simp; go_at_call 39; refine Calls.mono (Y.out.num _ _ (by exact q1) (by exact g1)) ?_; rintro e W2 ⟨v2, rfl, H2⟩))
  rw [HO2.out] at H2
  obtain ⟨sa2, sc2, rfl⟩ := Tk.own_shape H2.out.1
  have Z : Hid (Bk.Byte 47 r 47 B out2 sa2 sc2 w W2) := Bk.byte_of 47 r (by omega) r1 B out2 sa2 sc2 w W2 H2.out.2.1 H2.out.1 HT.out.2.1 HT.out.1 HT.out.2.2
  have KR2 : Hid (Lib.OthersKept 5 none w0 W2) := H2.out.2.2
  clear HO2 K1 g1 q1 Y KR
  go_simp
  go_upto_region 8 with fail
  go_region_held3 (fun W => W.cell? ⟨w.heap.size, 1, none⟩ = some (.int .i64 n) ∧ W.cell? ⟨w.heap.size, 2, none⟩ = some (.int .i64 r))
    (first | exact CF.out _ (KR2.out.trans H3.out.2.2) | exact CF.out _ (KR2.out.trans K1.out) | exact CF.out _ (KR2.out.trans Z.out.kept) | exact CF.out _ (KR2.out.trans Z.out.kept.drew) | exact CF.out _ KR2.out.drew | exact CF.out _ KR2.out)
    (first
    | ((with_reducible refine Tk.at_op (Op.call { callee := Callee.builtin Builtin.append, args := #[.tmp 25, .tmp 26], argTypes := #[66, 66] }) ?hop ?_); (case hop => with_reducible rfl); refine Tk.step_own rfl (.tmp 25) (.tmp 26) 66 rfl B 5 i0 (.int .u8 0) 1 1 Tryz.underlying66 hi hz0 hz1 hz2 rfl (by decide) (.slice sa2 out2.length sc2) out2.length (Lib.byteCells out2) (by simp [Act.eval]) (by exact Z.out.own) ⟨W2.heap.size, 0, none⟩ 1 1 [.int .u8 47] (by simp [Act.eval]) rfl (by exact Tk.one_cell W2 47 5) (Tk.one_one 47) (by exact Z.out.bound.1) (by exact Z.out.bound.2) (by exact Z.out.le) ?_; intro v1 W1 q1 g1; have K1 : Hid (Lib.OthersKept 5 none W2 W1) := Z.out.grown W1 g1)
    | (go_simp; go_at_call 39; refine Calls.mono (Z.out.num _ _ (by exact q1) (by exact g1)) ?_; rintro e W3 ⟨v3, rfl, H3⟩))
  clear CF Z K1 g1 q1
  go_simp
  go_wp2
  go_ret
  exact ⟨v3, rfl, H3.out.1, H3.out.2.1, O0.out.trans (KR2.out.trans H3.out.2.2)⟩

end Go.Proofs
