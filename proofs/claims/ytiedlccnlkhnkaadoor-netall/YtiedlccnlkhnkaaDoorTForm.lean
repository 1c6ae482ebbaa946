/-
  The table of operators in memory; the contract of formed.
-/
import Derived.Test.YtiedlccnlkhnkaaDoorTOps
namespace Go.Proofs
open Go.RowKit

/-- What the table's initialiser lays. -/
def Tk.opVals : Array Value := #[.string ⟨#[]⟩, .int .i64 0, .int .i64 0, .int .i64 0, .int .i64 0, .string ⟨#[]⟩, .int .i64 0, .int .i64 0, .int .i64 1099511627776, .int .i64 1, .string ⟨#[36]⟩, .int .i64 0, .int .i64 0, .int .i64 3, .int .i64 1, .string ⟨#[110, 101, 103]⟩, .int .i64 1, .int .i64 1, .int .i64 0, .int .i64 1, .string ⟨#[110, 111, 116]⟩, .int .i64 1, .int .i64 2, .int .i64 0, .int .i64 2, .string ⟨#[97, 100, 100]⟩, .int .i64 2, .int .i64 1, .int .i64 0, .int .i64 1, .string ⟨#[115, 117, 98]⟩, .int .i64 2, .int .i64 1, .int .i64 0, .int .i64 1, .string ⟨#[109, 117, 108]⟩, .int .i64 2, .int .i64 1, .int .i64 0, .int .i64 1, .string ⟨#[100, 105, 118]⟩, .int .i64 2, .int .i64 1, .int .i64 0, .int .i64 1, .string ⟨#[109, 111, 100]⟩, .int .i64 2, .int .i64 1, .int .i64 0, .int .i64 1, .string ⟨#[101, 113]⟩, .int .i64 2, .int .i64 1, .int .i64 0, .int .i64 2, .string ⟨#[108, 116]⟩, .int .i64 2, .int .i64 1, .int .i64 0, .int .i64 2, .string ⟨#[108, 101]⟩, .int .i64 2, .int .i64 1, .int .i64 0, .int .i64 2, .string ⟨#[97, 110, 100]⟩, .int .i64 2, .int .i64 2, .int .i64 0, .int .i64 2, .string ⟨#[111, 114]⟩, .int .i64 2, .int .i64 2, .int .i64 0, .int .i64 2]
/-- The table lies in block 0 as its initialiser lays it. -/
def Tk.Ops (w : World) : Prop := ∃ t fz, w.heap[0]? = some (.cells Tk.opVals t fz)
theorem Tk.Ops.lt {w : World} (h : Tk.Ops w) : 0 < w.heap.size := by
  obtain ⟨t, fz, h⟩ := h
  exact (Array.getElem?_eq_some_iff.1 h).1
theorem Tk.Ops.keep {w w' : World} (h : Tk.Ops w) (hk : w'.heap[0]? = w.heap[0]?) : Tk.Ops w' := by
  obtain ⟨t, fz, h⟩ := h
  exact ⟨t, fz, by rw [hk]; exact h⟩
theorem Tk.Ops.below {w w' : World} {B : Nat} (h : Tk.Ops w) (hb : Below B w w') (hB : 0 < B) : Tk.Ops w' := h.keep (hb.block 0 hB)

/-- One operator's five cells. -/
theorem Tk.Ops.cells {w : World} (h : Tk.Ops w) (o : Nat) (h1 : 1 ≤ o) (h2 : o ≤ 14) : ∃ tx : ByteArray, w.cell? ⟨0, o * 5, none⟩ = some (.string tx) ∧ w.cell? ⟨0, o * 5 + 1, none⟩ = some (.int .i64 (Tm.kidsOf o)) ∧
    w.cell? ⟨0, o * 5 + 2, none⟩ = some (.int .i64 (Tm.askedOf o)) ∧ w.cell? ⟨0, o * 5 + 3, none⟩ = some (.int .i64 (Tm.mostOf o)) ∧ w.cell? ⟨0, o * 5 + 4, none⟩ = some (.int .i64 (Tm.isOf o)) := by
  obtain ⟨t, fz, h⟩ := h
  obtain rfl | rfl | rfl | rfl | rfl | rfl | rfl | rfl | rfl | rfl | rfl | rfl | rfl | rfl : o = 1 ∨ o = 2 ∨ o = 3 ∨ o = 4 ∨ o = 5 ∨ o = 6 ∨ o = 7 ∨ o = 8 ∨ o = 9 ∨ o = 10 ∨ o = 11 ∨ o = 12 ∨ o = 13 ∨ o = 14 := by omega
  all_goals exact ⟨_, by simp only [World.cell?, h]; rfl, by simp only [World.cell?, h]; rfl, by simp only [World.cell?, h]; rfl, by simp only [World.cell?, h]; rfl, by simp only [World.cell?, h]; rfl⟩

set_option maxHeartbeats 1600000 in
theorem Tryd.formed_any (op n : Int) (a : Option Addr) (len c : Nat) (w : World) (hO : Tk.Ops w) :
    Calls Tryd.prog 94 #[.agg #[.int .i64 op, .int .i64 n, .slice a len c]] w fun e w' => e = .returned (.bool (Tm.formedB op n len)) ∧ Below w.heap.size w w' := by
  have B0 : Hid (Below w.heap.size w (w.alloc (.cells #[.int .i64 op, .int .i64 n, .slice a len c] 32))) := (Below.refl _ w).alloc (Nat.le_refl _) _
  by_cases h1 : op < 1
  · have d1 : decide (op < 1) = true := decide_eq_true h1
    have HF : Hid (Tm.formedB op n len = false) := by simp [Hid, Tm.formedB]; omega
    clear h1
    go_enter Tryd.func94, Tryd.ntmps94
    go_wp2
    go_ret
    exact ⟨Tk.ret_bool HF.out.symm, B0.out⟩
  · have d1 : decide (op < 1) = false := decide_eq_false h1
    by_cases h2 : 14 < op
    · have d2 : decide (14 < op) = true := decide_eq_true h2
      have HF : Hid (Tm.formedB op n len = false) := by simp [Hid, Tm.formedB]; omega
      clear h1 h2
      go_enter Tryd.func94, Tryd.ntmps94
      go_wp2
      go_ret
      exact ⟨Tk.ret_bool HF.out.symm, B0.out⟩
    · have d2 : decide (14 < op) = false := decide_eq_false h2
      obtain ⟨o, rfl⟩ : ∃ o : Nat, op = o := ⟨op.toNat, by omega⟩
      have o1 : 1 ≤ o := by omega
      have o2 : o ≤ 14 := by omega
      have ix : (o : Int) < 15 := by omega
      have O1 : Tk.Ops (w.alloc (.cells #[.int .i64 o, .int .i64 n, .slice a len c] 32)) := hO.below B0.out hO.lt
      obtain ⟨tx, c0, c1, c2, c3, c4⟩ := O1.cells o o1 o2
      obtain ⟨kk, hk⟩ : ∃ k, Tm.kidsOf o = k := ⟨_, rfl⟩
      obtain ⟨mm, hm⟩ : ∃ m, Tm.mostOf o = m := ⟨_, rfl⟩
      obtain ⟨aa, ha⟩ : ∃ m, Tm.askedOf o = m := ⟨_, rfl⟩
      obtain ⟨ii, hi⟩ : ∃ m, Tm.isOf o = m := ⟨_, rfl⟩
      have HF : Hid (Tm.formedB o n len = decide (len = kk ∧ 0 ≤ n ∧ n ≤ mm)) := by
        show Tm.formedB o n len = _
        rw [Bool.eq_iff_iff]
        simp [Tm.formedB, hk, hm]
        omega
      rw [hk] at c1
      rw [ha] at c2
      rw [hm] at c3
      rw [hi] at c4
      clear hk hm ha hi h1 h2 hO O1
      have B1 : Hid (Below w.heap.size w ((w.alloc (.cells #[.int .i64 o, .int .i64 n, .slice a len c] 32)).alloc (.cells #[.string tx, .int .i64 kk, .int .i64 aa, .int .i64 mm, .int .i64 ii] 121))) := B0.out.alloc (by simp) _
      by_cases k1 : len = kk
      · subst k1
        by_cases k2 : 0 ≤ n
        · have d3 : decide (0 ≤ n) = true := decide_eq_true k2
          by_cases k3 : n ≤ mm
          · have d4 : decide (n ≤ mm) = true := decide_eq_true k3
            have HG : Hid (Tm.formedB o n len = true) := by show _ = _; rw [HF.out]; simp [k2, k3]
            clear k2 k3 HF
            go_enter Tryd.func94, Tryd.ntmps94
            go_wp2
            go_ret
            exact ⟨Tk.ret_bool HG.out.symm, B1.out⟩
          · have d4 : decide (n ≤ mm) = false := decide_eq_false k3
            have HG : Hid (Tm.formedB o n len = false) := by show _ = _; rw [HF.out]; simp [k3]
            clear k2 k3 HF
            go_enter Tryd.func94, Tryd.ntmps94
            go_wp2
            go_ret
            exact ⟨Tk.ret_bool HG.out.symm, B1.out⟩
        · have d3 : decide (0 ≤ n) = false := decide_eq_false k2
          have HG : Hid (Tm.formedB o n len = false) := by show _ = _; rw [HF.out]; simp [k2]
          clear k2 HF
          go_enter Tryd.func94, Tryd.ntmps94
          go_wp2
          go_ret
          exact ⟨Tk.ret_bool HG.out.symm, B1.out⟩
      · have d3 : ((len : Int) == (kk : Int)) = false := by simp; omega
        have HG : Hid (Tm.formedB o n len = false) := by show _ = _; rw [HF.out]; simp [k1]
        clear k1 HF
        go_enter Tryd.func94, Tryd.ntmps94
        go_wp2
        go_ret
        exact ⟨Tk.ret_bool HG.out.symm, B1.out⟩

end Go.Proofs
