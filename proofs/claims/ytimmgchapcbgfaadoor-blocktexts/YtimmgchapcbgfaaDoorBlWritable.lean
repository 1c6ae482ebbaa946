/-
  writable: ContainsFunc over links, and what is written of a block by itself.
-/
import Derived.Test.YtimmgchapcbgfaaDoorBlWays
namespace Go.Proofs
open Go.RowKit Go.Shelf

/-- Is one of a link's numbers less than -1? -/
def Bl.lowL (l : Int × Int × Int) : Bool := decide (min (min l.1 l.2.1) l.2.2 < -1)
/-- Can a block be written, its kids aside? -/
def Bl.writB (k n r : Int) (ls : List (Int × Int × Int)) : Bool := decide (1 ≤ k ∧ k ≤ 10 ∧ 0 ≤ n ∧ 0 ≤ r) && !ls.any Bl.lowL

set_option maxRecDepth 20000 in
set_option maxHeartbeats 2000000 in
theorem Tryd.lowLink_any (x y z : Int) (w : World) : Calls Tryd.prog 26 #[.agg #[.int .i64 x, .int .i64 y, .int .i64 z]] w fun e w' => e = .returned (.bool (Bl.lowL (x, y, z))) ∧ Below w.heap.size w w' := by
  have B0 : Hid (Below w.heap.size w (w.alloc (.cells #[.int .i64 x, .int .i64 y, .int .i64 z] 46))) := (Below.refl _ w).alloc (Nat.le_refl _) _
  obtain ⟨b, hb⟩ : ∃ b, Bl.lowL (x, y, z) = b := ⟨_, rfl⟩
  rw [hb]
  have HB : Hid (Bl.lowL (x, y, z) = b) := hb
  clear hb
  go_enter Tryd.func26, Tryd.ntmps26
  go_wp2
  all_goals
    go_ret
    refine ⟨Tk.ret_bool ?_, B0.out⟩
    rw [← HB.out, Bl.lowL]
    refine decide_eq_decide.2 ?_
    first | omega | (simp only [*, if_true] at *; omega) | (split at * <;> omega)

set_option maxRecDepth 20000 in
set_option maxHeartbeats 2000000 in
theorem Tryd.lowIndex_any (a : Option Addr) (c B : Nat) (es : List (Int × Int × Int)) (w : World) (hE : Bl.Lk w B (.slice a es.length c) es) (hB : B ≤ w.heap.size) (hn : es.length ≤ 2147483647) :
    Calls Tryd.prog 35 #[.slice a es.length c, .func (.func 26) #[] #[]] w fun e w' => (∃ k : Int, e = .returned (.int .i64 k) ∧ decide (0 ≤ k) = es.any Bl.lowL) ∧ Below w.heap.size w w' := by
  obtain ⟨n, hnn⟩ : ∃ n, es.length = n := ⟨_, rfl⟩
  rw [hnn] at hn hE ⊢
  have HE : Hid (Bl.Lk w B (.slice a n c) es ∧ es.length = n ∧ B ≤ w.heap.size) := ⟨hE, hnn, hB⟩
  clear hE hnn hB
  go_enter Tryd.func35, Tryd.ntmps35
  go_wp2
  go_loopg [5, 8] n (fun gk _ s8 wr => ∃ k : Nat, gk + k = n ∧ s8 = .int .i64 k ∧ Hid (Below w.heap.size w wr ∧ (es.take k).any Bl.lowL = false))
  case atStart => exact ⟨0, by omega, rfl, Below.refl _ w, by simp⟩
  case round =>
    obtain ⟨k, hk, rfl, HB⟩ := hrel
    by_cases hlt : k < n
    · have hd : decide ((k : Int) < n) = true := decide_eq_true (by omega)
      have hkl : k < es.length := by rw [HE.out.2.1]; exact hlt
      obtain ⟨a', c', hv, hl⟩ := HE.out.1
      obtain ⟨rfl, -, -⟩ := Value.slice.inj hv
      obtain ⟨q, off, rfl, hq, h0, h1, h2⟩ := hl k hkl
      obtain ⟨x, hx⟩ : ∃ x, es[k] = x := ⟨_, rfl⟩
      obtain ⟨x0, x1, x2⟩ := x
      rw [hx] at h0 h1 h2
      have hqs : q < w.heap.size := by have := HE.out.2.2; omega
      have hc0 : wr.cell? ⟨q, off + k * 3, none⟩ = some (.int .i64 x0) := by rw [HB.out.1.cell (p := ⟨q, off + k * 3, none⟩) hqs]; exact h0
      have hc1 : wr.cell? ⟨q, off + k * 3 + 1, none⟩ = some (.int .i64 x1) := by rw [HB.out.1.cell (p := ⟨q, off + k * 3 + 1, none⟩) hqs]; exact h1
      have hc2 : wr.cell? ⟨q, off + k * 3 + 2, none⟩ = some (.int .i64 x2) := by rw [HB.out.1.cell (p := ⟨q, off + k * 3 + 2, none⟩) hqs]; exact h2
      have HX : Hid (es[k] = (x0, x1, x2)) := hx
      have hcall := Tryd.lowLink_any x0 x1 x2 wr
      have hu := Tryd.underlying46
      clear h0 h1 h2 hx hq hqs hl hv
      cases hq : Bl.lowL (x0, x1, x2) with
      | true =>
        rw [hq] at hcall
        have HQ : Hid (Bl.lowL (x0, x1, x2) = true) := hq
        have HC : Hid _ := hcall
        clear hq hcall
        go_wp2_with fail
        refine Calls.mono HC.out ?_
        rintro e w' ⟨rfl, hb'⟩
        have HW : Hid (Below w.heap.size w w') := HB.out.1.trans (hb'.mono HB.out.1.size)
        clear hb' HC
        go_wp2
        go_ret
        refine ⟨⟨k, rfl, ?_⟩, HW.out⟩
        rw [decide_eq_true (by omega)]
        exact (List.any_eq_true.2 ⟨es[k], List.getElem_mem hkl, by rw [HX.out]; exact HQ.out⟩).symm
      | false =>
        rw [hq] at hcall
        have HQ : Hid (Bl.lowL (x0, x1, x2) = false) := hq
        have HC : Hid _ := hcall
        clear hq hcall
        go_wp2_with fail
        refine Calls.mono HC.out ?_
        rintro e w' ⟨rfl, hb'⟩
        have HW : Hid (Below w.heap.size w w') := HB.out.1.trans (hb'.mono HB.out.1.size)
        clear hb' HC
        go_wp2
        go_roundg (gk - 1)
        case measure => omega
        case rel =>
          refine ⟨k + 1, by omega, by go_num, HW.out, ?_⟩
          rw [Tm.take_snoc _ _ hkl, List.any_append, HB.out.2, HX.out]
          simp [HQ.out]
    · have hd : decide ((k : Int) < n) = false := decide_eq_false (by omega)
      go_wp2
      go_ret
      refine ⟨⟨-1, rfl, ?_⟩, HB.out.1⟩
      have := HB.out.2
      rw [List.take_of_length_le (by rw [HE.out.2.1]; omega)] at this
      rw [this]
      rfl

set_option maxHeartbeats 2000000 in
theorem Tryd.lowContains_any (a : Option Addr) (c B : Nat) (es : List (Int × Int × Int)) (w : World) (hE : Bl.Lk w B (.slice a es.length c) es) (hB : B ≤ w.heap.size) (hn : es.length ≤ 2147483647) :
    Calls Tryd.prog 25 #[.slice a es.length c, .func (.func 26) #[] #[]] w fun e w' => e = .returned (.bool (es.any Bl.lowL)) ∧ Below w.heap.size w w' := by
  have HC : Hid _ := Tryd.lowIndex_any a c B es w hE hB hn
  obtain ⟨q, hq⟩ : ∃ q, es.any Bl.lowL = q := ⟨_, rfl⟩
  rw [hq] at HC ⊢
  clear hE hB hq
  go_enter Tryd.func25, Tryd.ntmps25
  go_wp2_with fail
  refine Calls.mono HC.out ?_
  rintro e W1 ⟨⟨k, rfl, hk⟩, hb⟩
  have HB : Hid (Below w.heap.size w W1) := hb
  have HK : Hid (decide (0 ≤ k) = q) := hk
  clear hb hk HC
  go_wp2
  go_ret
  exact ⟨Tk.ret_bool HK.out, HB.out⟩

set_option maxRecDepth 20000 in
set_option maxHeartbeats 2000000 in
theorem Tryd.writable_any (k n r : Int) (a : Option Addr) (len c : Nat) (al : Option Addr) (cl B : Nat) (ls : List (Int × Int × Int)) (w : World) (hE : Bl.Lk w B (.slice al ls.length cl) ls) (hB : B ≤ w.heap.size) (hn : ls.length ≤ 2147483647) :
    Calls Tryd.prog 14 #[.agg #[.int .i64 k, .int .i64 n, .int .i64 r, .slice a len c, .slice al ls.length cl]] w fun e w' => e = .returned (.bool (Bl.writB k n r ls)) ∧ Below w.heap.size w w' := by
  have A0 : Below w.heap.size w (w.alloc (.cells #[.int .i64 k, .int .i64 n, .int .i64 r, .slice a len c, .slice al ls.length cl] 25)) := (Below.refl _ w).alloc (Nat.le_refl _) _
  have hcall := Tryd.lowContains_any al cl B ls _ (hE.below (A0.mono hB)) (Nat.le_trans hB A0.size) hn
  obtain ⟨nl, hnl⟩ : ∃ n, ls.length = n := ⟨_, rfl⟩
  obtain ⟨q, hq⟩ : ∃ q, ls.any Bl.lowL = q := ⟨_, rfl⟩
  obtain ⟨b, hb⟩ : ∃ b, Bl.writB k n r ls = b := ⟨_, rfl⟩
  rw [hnl] at hcall A0 ⊢
  rw [hq] at hcall
  rw [hb]
  have HC : Hid _ := hcall
  have HA : Hid _ := A0
  have HB : Hid (Bl.writB k n r ls = b ∧ ls.any Bl.lowL = q) := ⟨hb, hq⟩
  clear hcall A0 hE hB hn hnl hq hb
  have hcase : (decide (k < 1) = false ∧ decide (10 < k) = false ∧ decide (n < 0) = false ∧ decide (r < 0) = false) ∨ decide (k < 1) = true ∨ (decide (k < 1) = false ∧ decide (10 < k) = true) ∨ (decide (k < 1) = false ∧ decide (10 < k) = false ∧ decide (n < 0) = true) ∨ (decide (k < 1) = false ∧ decide (10 < k) = false ∧ decide (n < 0) = false ∧ decide (r < 0) = true) := by
    simp; omega
  rcases hcase with ⟨e0, e1, e2, e3⟩ | e0 | ⟨e0, e1⟩ | ⟨e0, e1, e2⟩ | ⟨e0, e1, e2, e3⟩
  · have HD : Hid (b = !q) := by
      show b = !q
      have h := HB.out
      rw [← h.1, ← h.2, Bl.writB, decide_eq_true (by simp at e0 e1 e2 e3; omega), Bool.true_and]
    go_enter Tryd.func14, Tryd.ntmps14
    go_wp2_with fail
    refine Calls.mono HC.out ?_
    rintro e W1 ⟨rfl, hb'⟩
    have HW : Hid (Below w.heap.size w W1) := HA.out.trans (hb'.mono HA.out.size)
    clear hb' HC
    go_wp2
    go_ret
    exact ⟨Tk.ret_bool HD.out.symm, HW.out⟩
  all_goals
    have HD : Hid (b = false) := by
      show b = false
      rw [← HB.out.1, Bl.writB, decide_eq_false (by simp at *; omega), Bool.false_and]
    clear HC
    go_enter Tryd.func14, Tryd.ntmps14
    go_wp2
    go_ret
    exact ⟨Tk.ret_bool HD.out.symm, HA.out⟩

end Go.Proofs
