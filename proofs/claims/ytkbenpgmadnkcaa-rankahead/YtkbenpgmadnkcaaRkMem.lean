/-
  Marks and edges in memory; the contracts of within, IndexFunc and ContainsFunc.
-/
import Derived.Test.YtkbenpgmadnkcaaTmModel
import Derived.Test.YtkbenpgmadnkcaaRkOrder
import Derived.Shelf.Abstract
namespace Go.Proofs
open Go.RowKit Go.Shelf

/-- Marks in a block of their own. -/
def Rk.Bits (w : World) (g : Nat) (bs : List Bool) : Prop := w.heap[g]? = some (.cells (bs.map Value.bool).toArray 4 (0, 0))
theorem Rk.Bits.lt {w : World} {g : Nat} {bs : List Bool} (h : Rk.Bits w g bs) : g < w.heap.size := (Array.getElem?_eq_some_iff.1 h).1
theorem Rk.Bits.cell {w : World} {g : Nat} {bs : List Bool} (h : Rk.Bits w g bs) (j : Nat) (b : Bool) (hj : bs[j]? = some b) : w.cell? ⟨g, j, none⟩ = some (.bool b) := by
  unfold Rk.Bits at h
  simp [World.cell?, h, hj]
theorem Rk.Bits.frozen {w : World} {g : Nat} {bs : List Bool} (h : Rk.Bits w g bs) (j : Nat) : w.frozen? ⟨g, j, none⟩ = false := by
  unfold Rk.Bits at h
  simp [World.frozen?, h]
theorem Rk.Bits.put {w : World} {g : Nat} {bs : List Bool} (h : Rk.Bits w g bs) (j : Nat) (b : Bool) : Rk.Bits (w.setCell ⟨g, j, none⟩ (.bool b)) g (bs.set j b) := by
  unfold Rk.Bits at *
  simp [World.setCell, Array.getElem?_modify, h]
theorem Rk.Bits.keep {w w' : World} {g : Nat} {bs : List Bool} (h : Rk.Bits w g bs) (hk : w'.heap[g]? = w.heap[g]?) : Rk.Bits w' g bs := by unfold Rk.Bits; rw [hk]; exact h
theorem Rk.Bits.below {w w' : World} {g B : Nat} {bs : List Bool} (h : Rk.Bits w g bs) (hb : Below B w w') (hg : g < B) : Rk.Bits w' g bs := h.keep (hb.block g hg)

/-- Edges in blocks below B. -/
def Rk.Eds (w : World) (B : Nat) (a : Option Addr) (es : List (Int × Int)) : Prop :=
  ∀ j (h : j < es.length), ∃ g off, a = some ⟨g, off, none⟩ ∧ g < B ∧ w.cell? ⟨g, off + j * 2, none⟩ = some (.int .i64 es[j].1) ∧ w.cell? ⟨g, off + j * 2 + 1, none⟩ = some (.int .i64 es[j].2)
theorem Rk.Eds.below {w w' : World} {B : Nat} {a : Option Addr} {es : List (Int × Int)} (h : Rk.Eds w B a es) (hb : Below B w w') : Rk.Eds w' B a es := fun j hj => by
  obtain ⟨g, off, h1, h2, h3, h4⟩ := h j hj
  exact ⟨g, off, h1, h2, by rw [hb.cell (p := ⟨g, off + j * 2, none⟩) h2]; exact h3, by rw [hb.cell (p := ⟨g, off + j * 2 + 1, none⟩) h2]; exact h4⟩
theorem Rk.Eds.wider {w : World} {B B' : Nat} {a : Option Addr} {es : List (Int × Int)} (h : Rk.Eds w B a es) (hB : B ≤ B') : Rk.Eds w B' a es := fun j hj => by
  obtain ⟨g, off, h1, h2, h3⟩ := h j hj
  exact ⟨g, off, h1, by omega, h3⟩
/-- Numbers from nought on as Go has them. -/
def Rk.up (es : List (Nat × Nat)) : List (Int × Int) := es.map fun e => ((e.1 : Int), (e.2 : Int))
theorem Rk.up_length (es : List (Nat × Nat)) : (Rk.up es).length = es.length := by simp [Rk.up]
theorem Rk.up_get (es : List (Nat × Nat)) (j : Nat) (h : j < (Rk.up es).length) : (Rk.up es)[j] = (((es[j]'(by simpa [Rk.up] using h)).1 : Int), ((es[j]'(by simpa [Rk.up] using h)).2 : Int)) := by simp [Rk.up]

/-- What is asked of a predicate over edges: it answers, and what lay there stays. -/
def Rk.Pred (g : Nat) (lb : Array Value) (p : Int × Int → Bool) (es : List (Int × Int)) (w : World) : Prop :=
  ∀ (W : World) (x y : Int), (x, y) ∈ es → Below w.heap.size w W → Calls Try.prog g (#[.agg #[.int .i64 x, .int .i64 y]] ++ lb) W fun e w' => e = .returned (.bool (p (x, y))) ∧ Below w.heap.size w w'

set_option maxHeartbeats 2000000 in
theorem Try.index_any (p : Int × Int → Bool) (g : Nat) (lb : Array Value) (eg : ∀ args w, (callFunc g args).run Try.prog w = .ok (.enter g args) w) (a : Option Addr) (c : Nat) (es : List (Int × Int)) (w : World)
    (hp : Rk.Pred g lb p es w) (hE : Rk.Eds w w.heap.size a es) (hn : es.length ≤ 1000000000000000) :
    Calls Try.prog 35 #[.slice a es.length c, .func (.func g) #[] lb] w fun e w' => (∃ k : Int, e = .returned (.int .i64 k) ∧ decide (0 ≤ k) = es.any p) ∧ Below w.heap.size w w' := by
  obtain ⟨n, hnn⟩ : ∃ n, es.length = n := ⟨_, rfl⟩
  rw [hnn] at hn ⊢
  have HP : Hid (Rk.Pred g lb p es w) := hp
  have HE : Hid (Rk.Eds w w.heap.size a es ∧ es.length = n) := ⟨hE, hnn⟩
  clear hp hE hnn
  go_enter Try.func35, Try.ntmps35
  go_wp2
  go_loopg [5, 8] n (fun gk _ s8 wr => ∃ k : Nat, gk + k = n ∧ s8 = .int .i64 k ∧ Hid (Below w.heap.size w wr ∧ (es.take k).any p = false))
  case atStart => exact ⟨0, by omega, rfl, Below.refl _ w, by simp⟩
  case round =>
    obtain ⟨k, hk, rfl, HB⟩ := hrel
    by_cases hlt : k < n
    · have hd : decide ((k : Int) < n) = true := decide_eq_true (by omega)
      have hkl : k < es.length := by rw [HE.out.2]; exact hlt
      obtain ⟨q, off, rfl, hq, h0, h1⟩ := HE.out.1 k hkl
      obtain ⟨x, hx⟩ : ∃ x, es[k] = x := ⟨_, rfl⟩
      obtain ⟨x0, x1⟩ := x
      rw [hx] at h0 h1
      have hc0 : wr.cell? ⟨q, off + k * 2, none⟩ = some (.int .i64 x0) := by rw [HB.out.1.cell (p := ⟨q, off + k * 2, none⟩) hq]; exact h0
      have hc1 : wr.cell? ⟨q, off + k * 2 + 1, none⟩ = some (.int .i64 x1) := by rw [HB.out.1.cell (p := ⟨q, off + k * 2 + 1, none⟩) hq]; exact h1
      have HX : Hid (es[k] = (x0, x1)) := hx
      have hcall := HP.out wr x0 x1 (by rw [← hx]; exact List.getElem_mem hkl) HB.out.1
      clear h0 h1 hx hq
      have hu := Try.underlying45
      cases hq : p (x0, x1) with
      | true =>
        rw [hq] at hcall
        have HQ : Hid (p (x0, x1) = true) := hq
        clear hq
        go_wp2_with (go_at_fn g; refine hcall.mono ?_; rintro e w' ⟨rfl, hb'⟩)
        go_ret
        refine ⟨⟨k, rfl, ?_⟩, hb'⟩
        rw [decide_eq_true (by omega)]
        exact (List.any_eq_true.2 ⟨es[k], List.getElem_mem hkl, by rw [HX.out]; exact HQ.out⟩).symm
      | false =>
        rw [hq] at hcall
        have HQ : Hid (p (x0, x1) = false) := hq
        clear hq
        go_wp2_with (go_at_fn g; refine hcall.mono ?_; rintro e w' ⟨rfl, hb'⟩)
        go_roundg (gk - 1)
        case measure => omega
        case rel =>
          refine ⟨k + 1, by omega, by go_num, hb', ?_⟩
          rw [Tm.take_snoc _ _ hkl, List.any_append, HB.out.2, HX.out]
          simp [HQ.out]
    · have hd : decide ((k : Int) < n) = false := decide_eq_false (by omega)
      go_wp2
      go_ret
      refine ⟨⟨-1, rfl, ?_⟩, HB.out.1⟩
      have := HB.out.2
      rw [List.take_of_length_le (by rw [HE.out.2]; omega)] at this
      rw [this]
      rfl

set_option maxHeartbeats 2000000 in
theorem Try.contains_any (p : Int × Int → Bool) (g : Nat) (lb : Array Value) (eg : ∀ args w, (callFunc g args).run Try.prog w = .ok (.enter g args) w) (a : Option Addr) (c : Nat) (es : List (Int × Int)) (w : World)
    (hp : Rk.Pred g lb p es w) (hE : Rk.Eds w w.heap.size a es) (hn : es.length ≤ 1000000000000000) :
    Calls Try.prog 28 #[.slice a es.length c, .func (.func g) #[] lb] w fun e w' => e = .returned (.bool (es.any p)) ∧ Below w.heap.size w w' := by
  have HC : Hid _ := Try.index_any p g lb eg a c es w hp hE hn
  obtain ⟨q, hq⟩ : ∃ q, es.any p = q := ⟨_, rfl⟩
  rw [hq] at HC ⊢
  clear hp hE hq
  go_enter Try.func28, Try.ntmps28
  go_wp2_with fail
  refine Calls.mono HC.out ?_
  rintro e W1 ⟨⟨k, rfl, hk⟩, hb⟩
  have HB : Hid (Below w.heap.size w W1) := hb
  have HK : Hid (decide (0 ≤ k) = q) := hk
  clear hb hk HC
  go_wp2
  go_ret
  exact ⟨Tk.ret_bool HK.out, HB.out⟩

set_option maxHeartbeats 2000000 in
theorem Try.within_any (n i : Int) (w : World) : Calls Try.prog 21 #[.int .i64 n, .int .i64 i] w fun e w' => e = .returned (.bool (decide (0 ≤ i) && decide (i < n))) ∧ w' = w := by
  cases h1 : decide (0 ≤ i) <;> cases h2 : decide (i < n)
  all_goals
    go_enter Try.func21, Try.ntmps21
    go_wp2
    go_ret
    exact ⟨rfl, rfl⟩

end Go.Proofs
