/-
  The program's office in memory: a map behind a pointer; looking a key up; New, Waiting, reach.
-/
import Derived.Test.YtdclfmmmlicaaaaPsModel
import Derived.Great.BuildSlice
namespace Go.Proofs
open Go.RowKit Go.Shelf Go.Maps

theorem Ps.law : Keyed Try.prog 3 := int_keyed Try.underlying3
theorem Ps.zero (w : World) : (zeroValue 53).run Try.prog w = .ok (Bx.val Bx.none) w := by kernel_rfl

/-- An office of the program, its map in block pm. -/
def Ps.At (o : Nat) (pm : Option Nat) (M : Ps.Ofc) (w : World) : Prop :=
  w.heap[o]? = some (.cells #[.map pm] 51 (0, 0)) ∧ (pm = none → M = []) ∧ ∀ b, pm = some b → ∃ D, w.ownsMap Try.prog 3 Ps.R b M.length D ∧ Ps.Is D M

theorem Ps.tight {w : World} {b n : Nat} {D : DataW Bx} {M : Ps.Ofc} (h : w.ownsMap Try.prog 3 Ps.R b n D) (hi : Ps.Is D M) : w.ownsMap Try.prog 3 Ps.R b M.length D := by
  have hs := hi.size
  obtain ⟨es, clock, hb, F, _, rfl⟩ := h
  refine ⟨es, clock, hb, F, ?_, rfl⟩
  rw [Maps.size_eq, length_sorted] at hs
  simp at hs
  omega
theorem Ps.At.lt {o : Nat} {pm : Option Nat} {M : Ps.Ofc} {w : World} (h : Ps.At o pm M w) : o < w.heap.size := (Array.getElem?_eq_some_iff.1 h.1).1
theorem Ps.At.mlt {o b : Nat} {M : Ps.Ofc} {w : World} (h : Ps.At o (some b) M w) : b < w.heap.size := by
  obtain ⟨D, hD, _⟩ := h.2.2 b rfl
  exact hD.lt
theorem Ps.At.ne {o b : Nat} {M : Ps.Ofc} {w : World} (h : Ps.At o (some b) M w) : b ≠ o := by
  obtain ⟨D, ⟨es, clock, hb, _⟩, _⟩ := h.2.2 b rfl
  intro e
  rw [e, h.1] at hb
  cases hb
theorem Ps.At.nodup {o : Nat} {pm : Option Nat} {M : Ps.Ofc} {w : World} (h : Ps.At o pm M w) : (Ps.key M).Nodup := by
  cases pm with
  | none => rw [h.2.1 rfl]; simp [Ps.key]
  | some b =>
    obtain ⟨D, _, hi⟩ := h.2.2 b rfl
    exact hi.1
theorem Ps.At.keep {o : Nat} {pm : Option Nat} {M : Ps.Ofc} {w w' : World} (h : Ps.At o pm M w) (h1 : w'.heap[o]? = w.heap[o]?) (h2 : ∀ b, pm = some b → w'.heap[b]? = w.heap[b]?) : Ps.At o pm M w' := by
  refine ⟨h1.trans h.1, h.2.1, fun b hb => ?_⟩
  obtain ⟨D, ⟨es, clock, hh, hr⟩, hi⟩ := h.2.2 b hb
  exact ⟨D, ⟨es, clock, (h2 b hb).trans hh, hr⟩, hi⟩
theorem Ps.At.but {E : Nat → Prop} {o : Nat} {pm : Option Nat} {M : Ps.Ofc} {w w' : World} (h : Ps.At o pm M w) (hb : Tk.But E w w') (h1 : ¬ E o) (h2 : ∀ b, pm = some b → ¬ E b) : Ps.At o pm M w' :=
  h.keep (hb.block o h.lt h1) fun b e => by
    subst e
    exact hb.block b h.mlt (h2 b rfl)
theorem Ps.At.below {B : Nat} {o : Nat} {pm : Option Nat} {M : Ps.Ofc} {w w' : World} (h : Ps.At o pm M w) (hb : Below B w w') (hB : w.heap.size ≤ B) : Ps.At o pm M w' :=
  h.keep (hb.block o (by have := h.lt; omega)) fun b e => by
    subst e
    exact hb.block b (by have := h.mlt; omega)
theorem Ps.At.alloc {o : Nat} {pm : Option Nat} {M : Ps.Ofc} {w : World} (h : Ps.At o pm M w) (x : Obj) : Ps.At o pm M (w.alloc x) := h.below ((Below.refl w.heap.size w).alloc (Nat.le_refl _) x) (Nat.le_refl _)
theorem Ps.At.cell {o : Nat} {pm : Option Nat} {M : Ps.Ofc} {w : World} (h : Ps.At o pm M w) : w.cell? ⟨o, 0, none⟩ = some (.map pm) := by simp [World.cell?, h.1]
theorem Ps.At.look {o : Nat} {pm : Option Nat} {M : Ps.Ofc} {w : World} (h : Ps.At o pm M w) {k : Int} (hk : (Lit.int .i64 k).wf = true) {a b c d : Int} {r : Bool} (hg : Ps.get M k = (a, b, c, d)) (hh : Ps.has M k = r) :
    (Instr.lookup 49 (.map pm) (.int .i64 k) true).run Try.prog w = .ok (.tuple #[.agg #[.int .i64 a, .int .i64 b, .int .i64 c, .int .i64 d], .bool r]) w := by
  have hkey : keyOf Try.prog 3 (.int .i64 k) = some (.int .i64 k) := keyOf_int_mk Try.underlying3 hk
  cases pm with
  | none =>
    have hM := h.2.1 rfl
    subst hM
    have e1 : ((0, 0, 0, 0) : Bx) = (a, b, c, d) := hg
    have e2 : false = r := hh
    rw [Maps.look_nil true Ps.law Try.underlying49 (Ps.zero w) hkey]
    simp only [Prod.mk.injEq] at e1
    obtain ⟨rfl, rfl, rfl, rfl⟩ := e1
    subst e2
    rfl
  | some m =>
    obtain ⟨D, hD, hi⟩ := h.2.2 m rfl
    obtain ⟨v, ps, hrun, hv⟩ := hD.look_ok Ps.law Try.underlying49 (Ps.zero w) (Ps.R_val Bx.none) hkey
    obtain ⟨x, rfl, hx⟩ := Ps.R_inv hv
    rw [hi.atKey k] at hx
    simp only [Prod.mk.injEq, DataW.held.injEq] at hx
    rw [hi.has k, hh] at hrun
    rw [hrun, ← hx.1, hg]
    rfl

/-- Results: a box and another thing. -/
theorem Ps.results_box {fn : Func} {p u : Tmp} (h : fn.results = #[.cell p 53, .tmp u]) (tmps : Array Value) (w : World) (q : Nat) (a b c d : Value)
    (hp : tmps.getD p undef = .pointer (some ⟨q, 0, none⟩)) (hq : w.heap[q]? = some (.cells #[a, b, c, d] 53 (0, 0))) :
    (results fn tmps).run Try.prog w = .ok (.tuple #[.agg #[a, b, c, d], tmps.getD u undef]) w := by
  have hp' : tmps[p]?.getD undef = .pointer (some ⟨q, 0, none⟩) := by simpa using hp
  have hr := run_loadVar_row (P := Try.prog) w q 53 53 #[a, b, c, d] (0, 0) _ hq Try.underlying53 rfl (by kernel_rfl)
  simp [results, h, hp', asAddr, hr]
theorem Ps.results_arr {fn : Func} {p u : Tmp} (h : fn.results = #[.cell p 33, .tmp u]) (tmps : Array Value) (w : World) (q : Nat) (a b c d : Value)
    (hp : tmps.getD p undef = .pointer (some ⟨q, 0, none⟩)) (hq : w.heap[q]? = some (.cells #[a, b, c, d] 33 (0, 0))) :
    (results fn tmps).run Try.prog w = .ok (.tuple #[.agg #[a, b, c, d], tmps.getD u undef]) w := by
  have hp' : tmps[p]?.getD undef = .pointer (some ⟨q, 0, none⟩) := by simpa using hp
  have hr := run_loadVar_row (P := Try.prog) w q 33 33 #[a, b, c, d] (0, 0) _ hq Try.underlying33 rfl (by kernel_rfl)
  simp [results, h, hp', asAddr, hr]

theorem Try.pNew_any (w : World) : Calls Try.prog 8 #[] w fun e w' => e = .returned (.pointer (some ⟨w.heap.size, 0, none⟩)) ∧ Ps.At w.heap.size none [] w' ∧ Below w.heap.size w w' := by
  have A0 : Below w.heap.size w (w.alloc (.cells #[.map none] 51)) := (Below.refl _ w).alloc (Nat.le_refl _) _
  go_enter Try.func8, Try.ntmps8
  go_wp2
  go_ret
  refine ⟨rfl, ⟨heap_alloc_new _ _, fun _ => rfl, fun b hb => by cases hb⟩, A0⟩

set_option maxRecDepth 20000 in
theorem Try.pWaiting_any (o : Nat) (pm : Option Nat) (M : Ps.Ofc) (k : Int) (hk : (Lit.int .i64 k).wf = true) (w : World) (h : Ps.At o pm M w) :
    Calls Try.prog 11 #[.pointer (some ⟨o, 0, none⟩), .int .i64 k] w fun e w' => e = .returned (.tuple #[Bx.val (Ps.get M k), .bool (Ps.has M k)]) ∧ Below w.heap.size w w' := by
  obtain ⟨⟨a, b, c, d⟩, hg⟩ : ∃ x, Ps.get M k = x := ⟨_, rfl⟩
  obtain ⟨r, hr⟩ : ∃ x, Ps.has M k = x := ⟨_, rfl⟩
  have A0 : Below w.heap.size w (w.alloc (.cells #[.int .i64 0, .int .i64 0, .int .i64 0, .int .i64 0] 33)) := (Below.refl _ w).alloc (Nat.le_refl _) _
  have h0 := h.alloc (.cells #[.int .i64 0, .int .i64 0, .int .i64 0, .int .i64 0] 33)
  have c0 := h0.cell
  have hl := h0.look hk hg hr
  have HA : Hid (Below w.heap.size w (w.alloc (.cells #[.int .i64 0, .int .i64 0, .int .i64 0, .int .i64 0] 33))) := A0
  rw [hg, hr]
  clear hg hr h h0 A0
  go_enter Try.func11, Try.ntmps11
  go_wp2
  refine bodyPost_ret (Ps.results_arr Try.results11 _ _ w.heap.size _ _ _ _ rfl ((Below.heap_alloc _ _ _ (by simp)).trans (heap_alloc_new _ _))) rfl ⟨rfl, ?_⟩
  exact ((Below.refl _ w).alloc (Nat.le_refl _) _).alloc (by simp) _

/-- What reach tells. -/
def Ps.reachE (M : Ps.Ofc) (k m : Int) : Int := if m < 0 ∨ 4 ≤ m then 1 else if Ps.has M k = true then 0 else 6
def Ps.reachB (M : Ps.Ofc) (k m : Int) : Bx := if Ps.reachE M k m = 0 then Ps.get M k else Bx.none

set_option maxRecDepth 20000 in
theorem Try.pReach_any (o : Nat) (pm : Option Nat) (M : Ps.Ofc) (k m : Int) (hk : (Lit.int .i64 k).wf = true) (w : World) (h : Ps.At o pm M w) :
    Calls Try.prog 27 #[.pointer (some ⟨o, 0, none⟩), .int .i64 k, .int .i64 m] w fun e w' => e = .returned (.tuple #[Bx.val (Ps.reachB M k m), .int .i64 (Ps.reachE M k m)]) ∧ Below w.heap.size w w' := by
  obtain ⟨⟨a, b, c, d⟩, hg⟩ : ∃ x, Ps.get M k = x := ⟨_, rfl⟩
  have h0 := h.alloc (.cells #[.int .i64 0, .int .i64 0, .int .i64 0, .int .i64 0] 53)
  have c0 := h0.cell
  by_cases h1 : m < 0
  · have e1 : Ps.reachE M k m = 1 := by unfold Ps.reachE; rw [if_pos (Or.inl h1)]
    have e2 : Ps.reachB M k m = Bx.none := by unfold Ps.reachB; rw [e1, if_neg (by omega)]
    rw [e1, e2]
    have d1 : decide (m < 0) = true := decide_eq_true h1
    clear h0 h hg e1 e2 h1
    go_enter Try.func27, Try.ntmps27
    go_wp2
    refine bodyPost_ret (Ps.results_box Try.results27 _ _ w.heap.size _ _ _ _ rfl (heap_alloc_new _ _)) rfl ⟨rfl, ?_⟩
    exact (Below.refl _ w).alloc (Nat.le_refl _) _
  · have d1 : decide (m < 0) = false := decide_eq_false h1
    by_cases h2 : 4 ≤ m
    · have e1 : Ps.reachE M k m = 1 := by unfold Ps.reachE; rw [if_pos (Or.inr h2)]
      have e2 : Ps.reachB M k m = Bx.none := by unfold Ps.reachB; rw [e1, if_neg (by omega)]
      rw [e1, e2]
      have d2 : decide (4 ≤ m) = true := decide_eq_true h2
      clear h0 h hg e1 e2 h1 h2
      go_enter Try.func27, Try.ntmps27
      go_wp2
      refine bodyPost_ret (Ps.results_box Try.results27 _ _ w.heap.size _ _ _ _ rfl (heap_alloc_new _ _)) rfl ⟨rfl, ?_⟩
      exact (Below.refl _ w).alloc (Nat.le_refl _) _
    · have d2 : decide (4 ≤ m) = false := decide_eq_false h2
      have hor : ¬ (m < 0 ∨ 4 ≤ m) := by omega
      cases hh : Ps.has M k
      · have e1 : Ps.reachE M k m = 6 := by unfold Ps.reachE; rw [if_neg hor, hh]; rfl
        have e2 : Ps.reachB M k m = Bx.none := by unfold Ps.reachB; rw [e1, if_neg (by omega)]
        have hl := h0.look hk hg hh
        rw [e1, e2]
        clear h0 h hg e1 e2 h1 h2 hh hor
        go_enter Try.func27, Try.ntmps27
        go_wp2
        refine bodyPost_ret (Ps.results_box Try.results27 _ _ w.heap.size _ _ _ _ rfl ((Below.heap_alloc _ _ _ (by simp)).trans (heap_alloc_new _ _))) rfl ⟨rfl, ?_⟩
        exact ((Below.refl _ w).alloc (Nat.le_refl _) _).alloc (by simp) _
      · have e1 : Ps.reachE M k m = 0 := by unfold Ps.reachE; rw [if_neg hor, hh]; rfl
        have e2 : Ps.reachB M k m = (a, b, c, d) := by unfold Ps.reachB; rw [e1, if_pos rfl, hg]
        have hl := h0.look hk hg hh
        rw [e1, e2]
        clear h0 h hg e1 e2 h1 h2 hh hor
        go_enter Try.func27, Try.ntmps27
        go_wp2
        refine bodyPost_ret (Ps.results_box Try.results27 _ _ w.heap.size _ _ _ _ rfl ((Below.heap_alloc _ _ _ (by simp)).trans (heap_alloc_new _ _))) rfl ⟨rfl, ?_⟩
        exact ((Below.refl _ w).alloc (Nat.le_refl _) _).alloc (by simp) _

end Go.Proofs
