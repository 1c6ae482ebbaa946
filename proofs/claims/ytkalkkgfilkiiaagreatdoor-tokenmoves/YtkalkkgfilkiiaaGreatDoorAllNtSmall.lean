/-
  isZero, isOf, isNode, and the document's none and of: what is told of one term, or one number.
-/
import Derived.Test.YtkalkkgfilkiiaaGreatDoorAllTmModel
import Derived.Test.YtkalkkgfilkiiaaGreatDoorAllTChk
import Derived.Test.YtkalkkgfilkiiaaGreatDoorAllTRefChk
import Derived.Lib.Hide
namespace Go.Proofs
open Go.RowKit

set_option maxHeartbeats 1600000 in
theorem Tryz.isZero_any (T : Tm) (a : Option Addr) (cap : Nat) (w : World) :
    Calls Tryz.prog 95 #[.agg #[.int .i64 T.op, .int .i64 T.num, .slice a T.ks.length cap]] w fun e w' => e = .returned (.bool (Nt.zeroB T)) ∧ Below w.heap.size w w' := by
  obtain ⟨o, ho⟩ : ∃ o, T.op = o := ⟨_, rfl⟩
  obtain ⟨m, hm⟩ : ∃ m, T.num = m := ⟨_, rfl⟩
  obtain ⟨n, hn⟩ : ∃ n, T.ks.length = n := ⟨_, rfl⟩
  obtain ⟨b, hb⟩ : ∃ b, Nt.zeroB T = b := ⟨_, rfl⟩
  rw [hb, ho, hm, hn]
  have B0 : Hid (Below w.heap.size w (w.alloc (.cells #[.int .i64 o, .int .i64 m, .slice a n cap] 68))) := (Below.refl _ w).alloc (Nat.le_refl _) _
  have HB : Hid ((decide (o = 0) && decide (m = 0) && decide (n = 0)) = b) := by show _ = _; rw [← hb, Nt.zeroB, ho, hm, hn]
  clear hb ho hm hn
  by_cases h0 : o = 0 <;> by_cases h1 : m = 0 <;> by_cases h2 : n = 0
  all_goals
    have e0 : (o == 0) = decide (o = 0) := rfl
    have e1 : (m == 0) = decide (m = 0) := rfl
    have e2 : ((n : Int) == 0) = decide (n = 0) := by rw [show ((n : Int) == 0) = decide ((n : Int) = 0) from rfl]; exact decide_eq_decide.2 (by omega)
    simp only [h0, h1, h2, decide_true, decide_false] at e0 e1 e2 HB
    try subst h0
    try subst h1
    try subst h2
    go_enter Tryz.func95, Tryz.ntmps95
    go_wp2
    go_ret
    exact ⟨Tk.ret_bool (by rw [← HB.out]; first | rfl | simp), B0.out⟩

set_option maxHeartbeats 1600000 in
theorem Tryz.rnone_any (T : Tm) (a : Option Addr) (cap : Nat) (w : World) :
    Calls Tryz.prog 51 #[.agg #[.int .i64 T.op, .int .i64 T.num, .slice a T.ks.length cap]] w fun e w' => e = .returned (.bool (Nt.zeroB T)) ∧ Below w.heap.size w w' := by
  obtain ⟨o, ho⟩ : ∃ o, T.op = o := ⟨_, rfl⟩
  obtain ⟨m, hm⟩ : ∃ m, T.num = m := ⟨_, rfl⟩
  obtain ⟨n, hn⟩ : ∃ n, T.ks.length = n := ⟨_, rfl⟩
  obtain ⟨b, hb⟩ : ∃ b, Nt.zeroB T = b := ⟨_, rfl⟩
  rw [hb, ho, hm, hn]
  have B0 : Hid (Below w.heap.size w (w.alloc (.cells #[.int .i64 o, .int .i64 m, .slice a n cap] 68))) := (Below.refl _ w).alloc (Nat.le_refl _) _
  have HB : Hid ((decide (o = 0) && decide (m = 0) && decide (n = 0)) = b) := by show _ = _; rw [← hb, Nt.zeroB, ho, hm, hn]
  clear hb ho hm hn
  by_cases h0 : o = 0 <;> by_cases h1 : m = 0 <;> by_cases h2 : n = 0
  all_goals
    have e0 : (o == 0) = decide (o = 0) := rfl
    have e1 : (m == 0) = decide (m = 0) := rfl
    have e2 : ((n : Int) == 0) = decide (n = 0) := by rw [show ((n : Int) == 0) = decide ((n : Int) = 0) from rfl]; exact decide_eq_decide.2 (by omega)
    simp only [h0, h1, h2, decide_true, decide_false] at e0 e1 e2 HB
    try subst h0
    try subst h1
    try subst h2
    go_enter Tryz.func51, Tryz.ntmps51
    go_wp2
    go_ret
    exact ⟨Tk.ret_bool (by rw [← HB.out]; first | rfl | simp), B0.out⟩

set_option maxHeartbeats 1600000 in
theorem Tryz.isNode_any (i : Int) (an : Option Addr) (n cn : Nat) (af : Option Addr) (m cf : Nat) (w : World) :
    Calls Tryz.prog 76 #[.agg #[.slice an n cn, .slice af m cf], .int .i64 i] w fun e w' => e = .returned (.bool (Nt.isNodeB n i)) ∧ Below w.heap.size w w' := by
  have B0 : Hid (Below w.heap.size w (w.alloc (.cells #[.slice an n cn, .slice af m cf] 25))) := (Below.refl _ w).alloc (Nat.le_refl _) _
  by_cases h0 : 0 ≤ i <;> by_cases h1 : i < n
  all_goals
    have e0 : decide (0 ≤ i) = decide (0 ≤ i) := rfl
    have e1 : decide (i < (n : Int)) = decide (i < (n : Int)) := rfl
    have HB : Hid (Nt.isNodeB n i = (decide (0 ≤ i) && decide (i < (n : Int)))) := rfl
    conv at e0 => rhs; simp only [h0, decide_true, decide_false]
    conv at e1 => rhs; simp only [h1, decide_true, decide_false]
    rw [e0, e1] at HB
    clear h0 h1
    go_enter Tryz.func76, Tryz.ntmps76
    go_wp2
    go_ret
    exact ⟨Tk.ret_bool (by rw [HB.out]; rfl), B0.out⟩

set_option maxHeartbeats 1600000 in
theorem Tryz.isOf_any (k : Int) (d : Nat) (T : Tm) (v : Value) (w : World) (hT : Tm.Lies w w.heap.size d v T) (hO : Tk.Ops w) (hsz : T.size ≤ 2147483647) :
    Calls Tryz.prog 94 #[.int .i64 k, .agg #[.int .i64 T.op, .int .i64 T.num, v]] w fun e w' => e = .returned (.bool (Nt.ofB T k)) ∧ Below w.heap.size w w' := by
  obtain ⟨a, cap, rfl⟩ := hT.shape
  have A0 : Below w.heap.size w (w.alloc (.cells #[.int .i64 T.op, .int .i64 T.num, .slice a T.ks.length cap] 68)) := (Below.refl _ w).alloc (Nat.le_refl _) _
  have hc := Tryz.check_any d T (.slice a T.ks.length cap) _ ((hT.below A0).wider A0.size) (hO.below A0 hO.lt) hsz
  obtain ⟨o, ho⟩ : ∃ o, T.op = o := ⟨_, rfl⟩
  obtain ⟨m, hm⟩ : ∃ m, T.num = m := ⟨_, rfl⟩
  obtain ⟨n, hn⟩ : ∃ n, T.ks.length = n := ⟨_, rfl⟩
  obtain ⟨b, hb⟩ : ∃ b, Nt.ofB T k = b := ⟨_, rfl⟩
  obtain ⟨q, hq⟩ : ∃ q, T.checkR = q := ⟨_, rfl⟩
  rw [ho, hm, hn, hq] at hc
  rw [ho, hm, hn] at A0
  rw [hb, ho, hm, hn]
  obtain ⟨q0, q1⟩ := q
  have HC : Hid _ := hc
  have HA : Hid _ := A0
  have HB : Hid ((decide (q1 = 0) && decide (q0 = k)) = b) := by show _ = _; rw [← hb, Nt.ofB, hq]
  clear hc A0 hT hO hsz ho hm hn hb hq
  by_cases h0 : q1 = 0 <;> by_cases h1 : q0 = k
  all_goals
    have e0 : (q1 == 0) = decide (q1 = 0) := rfl
    have e1 : (q0 == k) = decide (q0 = k) := rfl
    simp only [h0, h1, decide_true, decide_false] at e0 e1 HB
    try subst h0
    try subst h1
    go_enter Tryz.func94, Tryz.ntmps94
    go_wp2_with fail
    refine Calls.mono HC.out ?_
    rintro e W1 ⟨rfl, hb1⟩
    have B1 : Hid (Below w.heap.size w W1) := HA.out.trans (hb1.mono HA.out.size)
    clear hb1 HC
    go_wp2
    go_ret
    exact ⟨Tk.ret_bool (by rw [← HB.out]; first | rfl | simp), B1.out⟩

set_option maxHeartbeats 1600000 in
theorem Tryz.rof_any (k : Int) (d : Nat) (T : Tm) (v : Value) (w : World) (hT : Tm.Lies w w.heap.size d v T) (hsz : T.size ≤ 2147483647) :
    Calls Tryz.prog 50 #[.agg #[.int .i64 T.op, .int .i64 T.num, v], .int .i64 k] w fun e w' => e = .returned (.bool (Nt.ofB T k)) ∧ Below w.heap.size w w' := by
  obtain ⟨a, cap, rfl⟩ := hT.shape
  have A0 : Below w.heap.size w (w.alloc (.cells #[.int .i64 T.op, .int .i64 T.num, .slice a T.ks.length cap] 68)) := (Below.refl _ w).alloc (Nat.le_refl _) _
  have hc := Tryz.refCheck_any d T (.slice a T.ks.length cap) _ ((hT.below A0).wider A0.size) hsz
  obtain ⟨o, ho⟩ : ∃ o, T.op = o := ⟨_, rfl⟩
  obtain ⟨m, hm⟩ : ∃ m, T.num = m := ⟨_, rfl⟩
  obtain ⟨n, hn⟩ : ∃ n, T.ks.length = n := ⟨_, rfl⟩
  obtain ⟨b, hb⟩ : ∃ b, Nt.ofB T k = b := ⟨_, rfl⟩
  obtain ⟨q, hq⟩ : ∃ q, T.checkR = q := ⟨_, rfl⟩
  rw [ho, hm, hn, hq] at hc
  rw [ho, hm, hn] at A0
  rw [hb, ho, hm, hn]
  obtain ⟨q0, q1⟩ := q
  have HC : Hid _ := hc
  have HA : Hid _ := A0
  have HB : Hid ((decide (q1 = 0) && decide (q0 = k)) = b) := by show _ = _; rw [← hb, Nt.ofB, hq]
  clear hc A0 hT hsz ho hm hn hb hq
  by_cases h0 : q1 = 0 <;> by_cases h1 : q0 = k
  all_goals
    have e0 : (q1 == 0) = decide (q1 = 0) := rfl
    have e1 : (q0 == k) = decide (q0 = k) := rfl
    simp only [h0, h1, decide_true, decide_false] at e0 e1 HB
    try subst h0
    try subst h1
    go_enter Tryz.func50, Tryz.ntmps50
    go_wp2_with fail
    refine Calls.mono HC.out ?_
    rintro e W1 ⟨rfl, hb1⟩
    have B1 : Hid (Below w.heap.size w W1) := HA.out.trans (hb1.mono HA.out.size)
    clear hb1 HC
    go_wp2
    go_ret
    exact ⟨Tk.ret_bool (by rw [← HB.out]; first | rfl | simp), B1.out⟩

end Go.Proofs

namespace Go.Proofs


end Go.Proofs
