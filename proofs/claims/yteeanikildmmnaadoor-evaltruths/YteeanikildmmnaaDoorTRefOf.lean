/-
  The contract of the document's Of: what its parts share; leaves.
-/
import Derived.Test.YteeanikildmmnaaDoorTmVal
import Derived.Deep.DeepCutAuto
namespace Go.Proofs
open Go.RowKit

/-- Of answers right of terms of so many levels. -/
def Tk.OfOk (x0 x1 x2 x3 : Int) (d : Nat) : Prop := ∀ (T : Tm) (v : Value) (w : World), Tm.Lies w w.heap.size d v T → T.allForm = true → T.typedB = true →
  Calls Tryd.prog 23 #[.agg #[.int .i64 T.op, .int .i64 T.num, v], .agg #[.int .i64 x0, .int .i64 x1, .int .i64 x2, .int .i64 x3]] w fun e w' =>
    e = .returned (.agg #[.int .i64 (T.val (Tk.vget x0 x1 x2 x3)).1, .bool (T.val (Tk.vget x0 x1 x2 x3)).2.1, .int .i64 (T.val (Tk.vget x0 x1 x2 x3)).2.2]) ∧ Below w.heap.size w w'

theorem Tk.below_setRow {B : Nat} {a w : World} (h : Below B a w) {g : Nat} (hg : B ≤ g) (cs : Array Value) : Below B a (w.setRow g cs) :=
  h.trans ⟨rfl, rfl, rfl, by simp [World.setRow], fun k hk => by
    simp only [World.setRow, Array.getElem?_modify]
    rw [if_neg (by omega)]⟩
theorem Tk.below_setCell {B : Nat} {a w : World} (h : Below B a w) {p : Addr} (hp : B ≤ p.block) (u : Value) : Below B a (w.setCell p u) :=
  h.trans ⟨rfl, rfl, rfl, by simp [World.setCell], fun k hk => Below.heap_setCell _ _ _ _ (by omega)⟩
theorem Tk.set3 {W : World} {q : Nat} {x y z a b c : Value} {T : TypeId} (h : W.heap[q]? = some (.cells #[x, y, z] T (0, 0))) :
    (((W.setCell ⟨q, 0, none⟩ a).setCell ⟨q, 1, none⟩ b).setCell ⟨q, 2, none⟩ c).heap[q]? = some (.cells #[a, b, c] T (0, 0)) := by
  simp [World.setCell, Array.getElem?_modify, h]
/-- What lies behind the first kid's call: its answer in block q. -/
structure Tk.Got1 (w w0 : World) (a1 : Int) (ab : Bool) (a3 : Int) (q : Nat) (W : World) : Prop where
  bw : Below w.heap.size w W
  b0 : Below w0.heap.size w0 W
  ge : w0.heap.size ≤ q
  box : W.heap[q]? = some (.cells #[.int .i64 a1, .bool ab, .int .i64 a3] 54 (0, 0))
theorem Tk.Got1.late {w w0 W3 : World} {a1 a3 : Int} {ab : Bool} (hw : w.heap.size ≤ w0.heap.size) (h1 : Below w.heap.size w W3) (h2 : Below w0.heap.size w0 W3) :
    Tk.Got1 w w0 a1 ab a3 W3.heap.size (W3.alloc (.cells #[.int .i64 a1, .bool ab, .int .i64 a3] 54)) :=
  ⟨h1.alloc (Nat.le_trans hw h2.size) _, h2.alloc h2.size _, h2.size, heap_alloc_new W3 _⟩
theorem Tk.Got1.early {w w0 W3 : World} {a1 a3 : Int} {ab : Bool} (hw : w.heap.size ≤ w0.heap.size) (h1 : Below w.heap.size w W3) (h2 : Below w0.heap.size w0 W3)
    (h3 : W3.heap[w0.heap.size]? = some (.cells #[.int .i64 0, .bool false, .int .i64 0] 54 (0, 0))) :
    Tk.Got1 w w0 a1 ab a3 w0.heap.size (((W3.setCell ⟨w0.heap.size, 0, none⟩ (.int .i64 a1)).setCell ⟨w0.heap.size, 1, none⟩ (.bool ab)).setCell ⟨w0.heap.size, 2, none⟩ (.int .i64 a3)) :=
  ⟨Tk.below_setCell (Tk.below_setCell (Tk.below_setCell h1 hw _) hw _) hw _, Tk.below_setCell (Tk.below_setCell (Tk.below_setCell h2 (Nat.le_refl _) _) (Nat.le_refl _) _) (Nat.le_refl _) _, Nat.le_refl _, Tk.set3 h3⟩

set_option maxHeartbeats 4000000 in
theorem Tryd.of_leaf1 (x0 x1 x2 x3 n : Int) (a : Option Addr) (len cap : Nat) (w : World) (r : Int × Bool × Int) (hr : r = (n, false, 0)) :
    Calls Tryd.prog 23 #[.agg #[.int .i64 1, .int .i64 n, .slice a len cap], .agg #[.int .i64 x0, .int .i64 x1, .int .i64 x2, .int .i64 x3]] w fun e w' => e = .returned (.agg #[.int .i64 r.1, .bool r.2.1, .int .i64 r.2.2]) ∧ Below w.heap.size w w' := by
  have HR : Hid (r = (n, false, 0)) := hr
  clear hr
  go_enter Tryd.func23, Tryd.ntmps23
  go_wp2
  refine bodyPost_ret (v := .agg #[.int .i64 n, .bool false, .int .i64 0]) (by simp [results, Tryd.results23, go_sem]) rfl ⟨Tk.ret_val (by rw [HR.out]) (by rw [HR.out]) (by rw [HR.out]), ?_⟩
  exact (((Below.refl _ w).alloc (Nat.le_refl _) _).alloc (by simp) _).alloc (by simp; omega) _

set_option maxHeartbeats 4000000 in
theorem Tryd.of_leaf2 (x0 x1 x2 x3 n : Int) (a : Option Addr) (len cap : Nat) (w : World) (h : 0 ≤ n ∧ n ≤ 3) (r : Int × Bool × Int) (hr : r = (Tk.vget x0 x1 x2 x3 n, false, 0)) :
    Calls Tryd.prog 23 #[.agg #[.int .i64 2, .int .i64 n, .slice a len cap], .agg #[.int .i64 x0, .int .i64 x1, .int .i64 x2, .int .i64 x3]] w fun e w' => e = .returned (.agg #[.int .i64 r.1, .bool r.2.1, .int .i64 r.2.2]) ∧ Below w.heap.size w w' := by
  have HR : Hid (r = (Tk.vget x0 x1 x2 x3 n, false, 0)) := hr
  clear hr
  obtain rfl | rfl | rfl | rfl : n = 0 ∨ n = 1 ∨ n = 2 ∨ n = 3 := by omega
  all_goals
    go_enter Tryd.func23, Tryd.ntmps23
    go_wp2
    refine bodyPost_ret (v := .agg #[.int .i64 r.1, .bool false, .int .i64 0]) (by rw [HR.out]; simp [results, Tryd.results23, go_sem, Tk.vget]) rfl ⟨Tk.ret_val rfl (by rw [HR.out]) (by rw [HR.out]), ?_⟩
    exact (((Below.refl _ w).alloc (Nat.le_refl _) _).alloc (by simp) _).alloc (by simp; omega) _

end Go.Proofs
