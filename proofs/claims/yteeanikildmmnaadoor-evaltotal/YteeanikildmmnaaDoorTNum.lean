/-
  The contract of number.
-/
import Derived.Test.YteeanikildmmnaaDoorTBoth
namespace Go.Proofs
open Go.RowKit

set_option maxHeartbeats 4000000 in
theorem Tryd.num_leaf1 (x0 x1 x2 x3 n : Int) (a : Option Addr) (len cap : Nat) (w : World) :
    Calls Tryd.prog 21 #[.agg #[.int .i64 1, .int .i64 n, .slice a len cap], .agg #[.int .i64 x0, .int .i64 x1, .int .i64 x2, .int .i64 x3]] w fun e w' => e = .returned (.tuple #[.int .i64 n, .int .i64 0]) ∧ Below w.heap.size w w' := by
  go_enter Tryd.func21, Tryd.ntmps21
  go_wp2
  go_ret2
  exact ⟨rfl, ((Below.refl _ w).alloc (Nat.le_refl _) _).alloc (by simp) _⟩

set_option maxHeartbeats 4000000 in
theorem Tryd.num_leaf2 (x0 x1 x2 x3 n : Int) (a : Option Addr) (len cap : Nat) (w : World) (h : 0 ≤ n ∧ n ≤ 3) :
    Calls Tryd.prog 21 #[.agg #[.int .i64 2, .int .i64 n, .slice a len cap], .agg #[.int .i64 x0, .int .i64 x1, .int .i64 x2, .int .i64 x3]] w fun e w' => e = .returned (.tuple #[.int .i64 (Tk.vget x0 x1 x2 x3 n), .int .i64 0]) ∧ Below w.heap.size w w' := by
  obtain rfl | rfl | rfl | rfl : n = 0 ∨ n = 1 ∨ n = 2 ∨ n = 3 := by omega
  all_goals
    go_enter Tryd.func21, Tryd.ntmps21
    go_wp2
    go_ret2
    exact ⟨by simp [Tk.vget], ((Below.refl _ w).alloc (Nat.le_refl _) _).alloc (by simp) _⟩

set_option maxHeartbeats 4000000 in
theorem Tryd.num_neg (x0 x1 x2 x3 : Int) (d : Nat) (hN : Tk.NumOk x0 x1 x2 x3 d) (k : Tm) (v : Value) (w : World) (hT : Tm.Lies w w.heap.size (d + 1) v (.mk 3 0 [k])) (hk : k.allForm = true)
    (tk : k.typedB = true) (ik : Tm.isOf k.op = 1) (hg : Tm.Good 1 (k.val (Tk.vget x0 x1 x2 x3))) :
    Calls Tryd.prog 21 #[.agg #[.int .i64 3, .int .i64 0, v], .agg #[.int .i64 x0, .int .i64 x1, .int .i64 x2, .int .i64 x3]] w fun e w' =>
      e = .returned (.tuple #[.int .i64 (-(k.val (Tk.vget x0 x1 x2 x3)).1), .int .i64 (k.val (Tk.vget x0 x1 x2 x3)).2.2]) ∧ Below w.heap.size w w' := by
  obtain ⟨a, cap, rfl⟩ := hT.shape
  obtain ⟨g, off, u, rfl, hg', q0, q1, q2, q3⟩ := hT.kid 0 (by simp [Tm.ks])
  simp only [Tm.ks, List.getElem_cons_zero, List.length_cons, List.length_nil] at *
  obtain ⟨au, cu, rfl⟩ := q3.shape
  obtain ⟨nk, hnk⟩ : ∃ n, k.ks.length = n := ⟨_, rfl⟩
  obtain ⟨ok, hok⟩ : ∃ n, k.op = n := ⟨_, rfl⟩
  obtain ⟨mk', hmk⟩ : ∃ n, k.num = n := ⟨_, rfl⟩
  obtain ⟨va, hva⟩ : ∃ n, k.val (Tk.vget x0 x1 x2 x3) = n := ⟨_, rfl⟩
  rw [hnk] at q2 q3
  rw [hok] at q0
  rw [hmk] at q1
  rw [hva]
  rw [hva] at hg
  have hb := Tk.isNum_iff.1 hg.1
  have CK : Hid (∀ W, Below w.heap.size w W → Calls Tryd.prog 21 #[.agg #[.int .i64 ok, .int .i64 mk', .slice au nk cu], .agg #[.int .i64 x0, .int .i64 x1, .int .i64 x2, .int .i64 x3]] W fun e w' => e = .returned (.tuple #[.int .i64 va.1, .int .i64 va.2.2]) ∧ Below w.heap.size w w') := by
    intro W hW
    have := hN k (.slice au nk cu) W ((q3.below hW).wider hW.size) hk tk ik
    rw [hok, hmk, hva] at this
    exact this.mono fun e w' ⟨he, hb⟩ => ⟨he, hW.trans (hb.mono hW.size)⟩
  obtain ⟨a1, ab, a3⟩ := va
  simp only at hb
  obtain ⟨b1, b2⟩ := hb
  have A0 : Hid (Below w.heap.size w ((w.alloc (.cells #[.int .i64 3, .int .i64 0, .slice (some ⟨g, off, none⟩) 1 cap] 24)).alloc (.cells #[.int .i64 x0, .int .i64 x1, .int .i64 x2, .int .i64 x3] 25))) := ((Below.refl _ w).alloc (Nat.le_refl _) _).alloc (by simp) _
  have hc : ∀ p, ((w.alloc (.cells #[.int .i64 3, .int .i64 0, .slice (some ⟨g, off, none⟩) 1 cap] 24)).alloc (.cells #[.int .i64 x0, .int .i64 x1, .int .i64 x2, .int .i64 x3] 25)).cell? ⟨g, p, none⟩ = w.cell? ⟨g, p, none⟩ := fun p => A0.out.cell (p := ⟨g, p, none⟩) hg'
  have k0 : ((w.alloc (.cells #[.int .i64 3, .int .i64 0, .slice (some ⟨g, off, none⟩) 1 cap] 24)).alloc (.cells #[.int .i64 x0, .int .i64 x1, .int .i64 x2, .int .i64 x3] 25)).cell? ⟨g, off, none⟩ = some (.int .i64 ok) := by rw [hc]; simpa using q0
  have k1 : ((w.alloc (.cells #[.int .i64 3, .int .i64 0, .slice (some ⟨g, off, none⟩) 1 cap] 24)).alloc (.cells #[.int .i64 x0, .int .i64 x1, .int .i64 x2, .int .i64 x3] 25)).cell? ⟨g, off + 1, none⟩ = some (.int .i64 mk') := by rw [hc]; simpa using q1
  have k2 : ((w.alloc (.cells #[.int .i64 3, .int .i64 0, .slice (some ⟨g, off, none⟩) 1 cap] 24)).alloc (.cells #[.int .i64 x0, .int .i64 x1, .int .i64 x2, .int .i64 x3] 25)).cell? ⟨g, off + 2, none⟩ = some (.slice au nk cu) := by rw [hc]; simpa using q2
  clear hT q0 q1 q2 q3 hg' hva hok hmk hnk hk tk ik hN hc hg
  go_enter Tryd.func21, Tryd.ntmps21
  go_wp2
  go_region_with (first | (go_at_call 21; refine Calls.mono (CK.out _ (by first | exact A0.out | exact A0.out.drew | exact Tk.below_drewN A0.out _)) ?_; rintro e W3 ⟨rfl, b3⟩) | fail)
  all_goals
    have B3 : Hid (Below w.heap.size w W3) := b3
    clear b3
    go_wp2
    go_ret2
    exact ⟨rfl, B3.out⟩

end Go.Proofs
