/-
  The contracts of free and take.
-/
import Derived.Test.YtkbenpgmadnkcaaRkRounds
namespace Go.Proofs
open Go.RowKit Go.Shelf

theorem Rk.enters_free : ∀ args w, (callFunc 37 args).run Try.prog w = .ok (.enter 37 args) w := enters_of Try.func37 (by kernel_rfl) rfl

/-- Does an edge lead to i from one that is not taken? -/
def Rk.stopB (tk : List Bool) (i : Nat) (x : Int × Int) : Bool := decide (x.2 = (i : Int)) && !(tk[x.1.toNat]?.getD false)
theorem Rk.stop_any (es : List (Nat × Nat)) (tk : List Bool) (i : Nat) : (!(Rk.up es).any (Rk.stopB tk i)) = Rk.freeB es tk i := by
  unfold Rk.freeB
  congr 1
  rw [Rk.up, List.any_map]
  congr 1
  funext e
  simp only [Function.comp_apply, Rk.stopB, Int.toNat_natCast]
  congr 1
  exact decide_eq_decide.2 (by omega)

set_option maxHeartbeats 2000000 in
theorem Rk.free_pred (bi bt g n i c : Nat) (tk : List Bool) (es : List (Nat × Nat)) (w : World) (hes : ∀ e, e ∈ es → e.1 < n ∧ e.2 < n) (hl : tk.length = n) (hbi : bi < w.heap.size) (hbt : bt < w.heap.size) (hci : w.cell? ⟨bi, 0, none⟩ = some (.int .i64 i)) (hct : w.cell? ⟨bt, 0, none⟩ = some (.slice (some ⟨g, 0, none⟩) n c))
    (hb : Rk.Bits w g tk) : Rk.Pred 37 #[.pointer (some ⟨bi, 0, none⟩), .pointer (some ⟨bt, 0, none⟩)] (Rk.stopB tk i) (Rk.up es) w := by
  intro W x y hxy hW
  show Calls Try.prog 37 #[.agg #[.int .i64 x, .int .i64 y], .pointer (some ⟨bi, 0, none⟩), .pointer (some ⟨bt, 0, none⟩)] W _
  obtain ⟨e, he, hee⟩ := List.mem_map.1 hxy
  obtain ⟨x, y⟩ := e
  simp only [Prod.mk.injEq] at hee
  obtain ⟨rfl, rfl⟩ := hee
  obtain ⟨hx, hy⟩ : x < n ∧ y < n := hes _ he
  have B0 : Hid (Below w.heap.size w (W.alloc (.cells #[.int .i64 x, .int .i64 y] 45))) := hW.alloc hW.size _
  have ci : W.cell? ⟨bi, 0, none⟩ = some (.int .i64 i) := (hW.cell (p := ⟨bi, 0, none⟩) hbi).trans hci
  have cm : W.cell? ⟨bt, 0, none⟩ = some (.slice (some ⟨g, 0, none⟩) n c) := (hW.cell (p := ⟨bt, 0, none⟩) hbt).trans hct
  obtain ⟨q, hq⟩ : ∃ q, tk[x]? = some q := ⟨_, List.getElem?_eq_getElem (by rw [hl]; exact hx)⟩
  have cx : W.cell? ⟨g, x, none⟩ = some (.bool q) := (hb.below hW hb.lt).cell x _ hq
  have hz := hW.size
  have z1 : bi < W.heap.size := by omega
  have z2 : bt < W.heap.size := by omega
  have z3 : g < W.heap.size := by have := hb.lt; omega
  have hx' : (x : Int) < n := by omega
  have HR : Hid (Rk.stopB tk i ((x : Int), (y : Int)) = (decide ((y : Int) = i) && !q)) := by
    show Rk.stopB tk i ((x : Int), (y : Int)) = _
    simp only [Rk.stopB, Int.toNat_natCast, hq, Option.getD_some]
  rw [HR.out]
  clear hW hb hci hct hq HR hxy he hes hl
  by_cases hyi : y = i
  · subst hyi
    go_enter Try.func37, Try.ntmps37
    go_wp2
    go_ret
    exact ⟨by simp, B0.out⟩
  · have hd : ((y : Int) == (i : Int)) = false := by simp; omega
    have hd2 : decide ((y : Int) = (i : Int)) = false := by simp; omega
    rw [hd2]
    clear hyi hd2
    go_enter Try.func37, Try.ntmps37
    go_wp2
    go_ret
    exact ⟨by simp, B0.out⟩

set_option maxHeartbeats 4000000 in
theorem Try.free_any (g n i c cl : Nat) (tk : List Bool) (a : Option Addr) (es : List (Nat × Nat)) (w : World) (hes : ∀ e, e ∈ es → e.1 < n ∧ e.2 < n) (hl : tk.length = n) (hb : Rk.Bits w g tk) (hE : Rk.Eds w w.heap.size a (Rk.up es)) (hm : es.length ≤ 1000000000000000) :
    Calls Try.prog 36 #[.slice a es.length cl, .slice (some ⟨g, 0, none⟩) n c, .int .i64 i] w fun e w' => e = .returned (.bool (Rk.freeB es tk i)) ∧ Below w.heap.size w w' := by
  have A0 : Below w.heap.size w ((w.alloc (.cells #[.slice (some ⟨g, 0, none⟩) n c] 43)).alloc (.cells #[.int .i64 i] 3)) := ((Below.refl _ w).alloc (Nat.le_refl _) _).alloc (by simp) _
  have HP := Rk.free_pred (w.heap.size + 1) w.heap.size g n i c tk es ((w.alloc (.cells #[.slice (some ⟨g, 0, none⟩) n c] 43)).alloc (.cells #[.int .i64 i] 3)) hes hl (by simp) (by simp; omega) (by simp) (by simp) (hb.below A0 hb.lt)
  have hc := Try.contains_any (Rk.stopB tk i) 37 #[.pointer (some ⟨w.heap.size + 1, 0, none⟩), .pointer (some ⟨w.heap.size, 0, none⟩)] Rk.enters_free a cl (Rk.up es) _ HP ((hE.below A0).wider A0.size) (by rw [Rk.up_length]; exact hm)
  rw [Rk.up_length] at hc
  obtain ⟨q, hq⟩ : ∃ q, (Rk.up es).any (Rk.stopB tk i) = q := ⟨_, rfl⟩
  rw [← Rk.stop_any, hq]
  rw [hq] at hc
  have HC : Hid _ := hc
  have HA : Hid _ := A0
  clear hE hb hes hl hm A0 HP hc hq
  go_enter Try.func36, Try.ntmps36
  go_wp2_with fail
  refine Calls.mono HC.out ?_
  rintro e W1 ⟨rfl, hb1⟩
  go_wp2
  go_ret
  exact ⟨rfl, HA.out.trans (hb1.mono HA.out.size)⟩

end Go.Proofs
