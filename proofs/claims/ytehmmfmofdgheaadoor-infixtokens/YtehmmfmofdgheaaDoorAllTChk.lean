/-
  The contracts of the document's small functions on operators; returns of numbers. · The table of operators in memory; the contract of formed. · Going through a term (nest.Way's through, at terms), whatever is handed on, as long as it answers true: one contract over what it is handed. · The contracts of way, Through and checkForm. · The contract of typed, of terms of right form. · The contract of term.Check.
-/
import Derived.Test.YtehmmfmofdgheaaDoorTmModel
import Derived.Shelf.Abstract
import Derived.Deep.DeepCutAuto
import Derived.Deep.RegionLaw
namespace Go.Proofs
open Go.RowKit

theorem Tk.ret_ii {a b c d : Int} (h : a = c) (h' : b = d) : Ending.returned (.tuple #[.int .i64 a, .int .i64 b]) = .returned (.tuple #[.int .i64 c, .int .i64 d]) := by rw [h, h']
theorem Tk.ret_int {a b : Int} (h : a = b) : Ending.returned (.int .i64 a) = .returned (.int .i64 b) := by rw [h]

set_option maxHeartbeats 400000 in
theorem Tryd.refKids_any (op : Int) (w : World) :
    Calls Tryd.prog 77 #[.int .i64 op] w fun e w' => e = .returned (.int .i64 (Tm.kidsOf op)) ∧ w' = w := by
  by_cases h1 : op < 3
  · go_enter Tryd.func77, Tryd.ntmps77
    go_wp2
    go_ret
    exact ⟨Tk.ret_int (by unfold Tm.kidsOf; (repeat' split) <;> omega), rfl⟩
  · by_cases h2 : op < 5
    all_goals
      go_enter Tryd.func77, Tryd.ntmps77
      go_wp2
      go_ret
      exact ⟨Tk.ret_int (by unfold Tm.kidsOf; (repeat' split) <;> omega), rfl⟩

end Go.Proofs

namespace Go.Proofs
open Go.RowKit

/-- What the table's initialiser lays. -/
def Tk.opVals : Array Value := #[.string ⟨#[]⟩, .int .i64 0, .int .i64 0, .int .i64 0, .int .i64 0, .string ⟨#[]⟩, .int .i64 0, .int .i64 0, .int .i64 1099511627776, .int .i64 1, .string ⟨#[36]⟩, .int .i64 0, .int .i64 0, .int .i64 3, .int .i64 1, .string ⟨#[110, 101, 103]⟩, .int .i64 1, .int .i64 1, .int .i64 0, .int .i64 1, .string ⟨#[110, 111, 116]⟩, .int .i64 1, .int .i64 2, .int .i64 0, .int .i64 2, .string ⟨#[97, 100, 100]⟩, .int .i64 2, .int .i64 1, .int .i64 0, .int .i64 1, .string ⟨#[115, 117, 98]⟩, .int .i64 2, .int .i64 1, .int .i64 0, .int .i64 1, .string ⟨#[109, 117, 108]⟩, .int .i64 2, .int .i64 1, .int .i64 0, .int .i64 1, .string ⟨#[100, 105, 118]⟩, .int .i64 2, .int .i64 1, .int .i64 0, .int .i64 1, .string ⟨#[109, 111, 100]⟩, .int .i64 2, .int .i64 1, .int .i64 0, .int .i64 1, .string ⟨#[101, 113]⟩, .int .i64 2, .int .i64 1, .int .i64 0, .int .i64 2, .string ⟨#[108, 116]⟩, .int .i64 2, .int .i64 1, .int .i64 0, .int .i64 2, .string ⟨#[108, 101]⟩, .int .i64 2, .int .i64 1, .int .i64 0, .int .i64 2, .string ⟨#[97, 110, 100]⟩, .int .i64 2, .int .i64 2, .int .i64 0, .int .i64 2, .string ⟨#[111, 114]⟩, .int .i64 2, .int .i64 2, .int .i64 0, .int .i64 2]
/-- The table lies in block 0 as its initialiser lays it. -/
def Tk.Ops (w : World) : Prop := ∃ t fz, w.heap[1]? = some (.cells Tk.opVals t fz)
theorem Tk.Ops.lt {w : World} (h : Tk.Ops w) : 1 < w.heap.size := by
  obtain ⟨t, fz, h⟩ := h
  exact (Array.getElem?_eq_some_iff.1 h).1
theorem Tk.Ops.keep {w w' : World} (h : Tk.Ops w) (hk : w'.heap[1]? = w.heap[1]?) : Tk.Ops w' := by
  obtain ⟨t, fz, h⟩ := h
  exact ⟨t, fz, by rw [hk]; exact h⟩
theorem Tk.Ops.below {w w' : World} {B : Nat} (h : Tk.Ops w) (hb : Below B w w') (hB : 1 < B) : Tk.Ops w' := h.keep (hb.block 1 hB)

/-- One operator's five cells. -/
theorem Tk.Ops.cells {w : World} (h : Tk.Ops w) (o : Nat) (h1 : 1 ≤ o) (h2 : o ≤ 14) : ∃ tx : ByteArray, w.cell? ⟨1, o * 5, none⟩ = some (.string tx) ∧ w.cell? ⟨1, o * 5 + 1, none⟩ = some (.int .i64 (Tm.kidsOf o)) ∧
    w.cell? ⟨1, o * 5 + 2, none⟩ = some (.int .i64 (Tm.askedOf o)) ∧ w.cell? ⟨1, o * 5 + 3, none⟩ = some (.int .i64 (Tm.mostOf o)) ∧ w.cell? ⟨1, o * 5 + 4, none⟩ = some (.int .i64 (Tm.isOf o)) := by
  obtain ⟨t, fz, h⟩ := h
  obtain rfl | rfl | rfl | rfl | rfl | rfl | rfl | rfl | rfl | rfl | rfl | rfl | rfl | rfl : o = 1 ∨ o = 2 ∨ o = 3 ∨ o = 4 ∨ o = 5 ∨ o = 6 ∨ o = 7 ∨ o = 8 ∨ o = 9 ∨ o = 10 ∨ o = 11 ∨ o = 12 ∨ o = 13 ∨ o = 14 := by omega
  all_goals exact ⟨_, by simp only [World.cell?, h]; rfl, by simp only [World.cell?, h]; rfl, by simp only [World.cell?, h]; rfl, by simp only [World.cell?, h]; rfl, by simp only [World.cell?, h]; rfl⟩

set_option maxHeartbeats 1600000 in
theorem Tryd.formed_any (op n : Int) (a : Option Addr) (len c : Nat) (w : World) (hO : Tk.Ops w) :
    Calls Tryd.prog 67 #[.agg #[.int .i64 op, .int .i64 n, .slice a len c]] w fun e w' => e = .returned (.bool (Tm.formedB op n len)) ∧ Below w.heap.size w w' := by
  have B0 : Hid (Below w.heap.size w (w.alloc (.cells #[.int .i64 op, .int .i64 n, .slice a len c] 37))) := (Below.refl _ w).alloc (Nat.le_refl _) _
  by_cases h1 : op < 1
  · have d1 : decide (op < 1) = true := decide_eq_true h1
    have HF : Hid (Tm.formedB op n len = false) := by simp [Hid, Tm.formedB]; omega
    clear h1
    go_enter Tryd.func67, Tryd.ntmps67
    go_wp2
    go_ret
    exact ⟨Tk.ret_bool HF.out.symm, B0.out⟩
  · have d1 : decide (op < 1) = false := decide_eq_false h1
    by_cases h2 : 14 < op
    · have d2 : decide (14 < op) = true := decide_eq_true h2
      have HF : Hid (Tm.formedB op n len = false) := by simp [Hid, Tm.formedB]; omega
      clear h1 h2
      go_enter Tryd.func67, Tryd.ntmps67
      go_wp2
      go_ret
      exact ⟨Tk.ret_bool HF.out.symm, B0.out⟩
    · have d2 : decide (14 < op) = false := decide_eq_false h2
      obtain ⟨o, rfl⟩ : ∃ o : Nat, op = o := ⟨op.toNat, by omega⟩
      have o1 : 1 ≤ o := by omega
      have o2 : o ≤ 14 := by omega
      have ix : (o : Int) < 15 := by omega
      have O1 : Tk.Ops (w.alloc (.cells #[.int .i64 o, .int .i64 n, .slice a len c] 37)) := hO.below B0.out hO.lt
      obtain ⟨tx, c0, c1, c2, c3, c4⟩ := O1.cells o o1 o2
      obtain ⟨kk, hk⟩ : ∃ k, Tm.kidsOf o = k := ⟨_, rfl⟩
      obtain ⟨mm, hm⟩ : ∃ m, Tm.mostOf o = m := ⟨_, rfl⟩
      obtain ⟨aa, ha⟩ : ∃ m, Tm.askedOf o = m := ⟨_, rfl⟩
      obtain ⟨ii, hi⟩ : ∃ m, Tm.isOf o = m := ⟨_, rfl⟩
      have HF : Hid (Tm.formedB o n len = decide (len = kk ∧ 0 ≤ n ∧ n ≤ mm)) := by
        show Tm.formedB o n len = _
        rw [Bool.eq_iff_iff]
        simp [Tm.formedB, hk, hm]
        omega
      rw [hk] at c1
      rw [ha] at c2
      rw [hm] at c3
      rw [hi] at c4
      clear hk hm ha hi h1 h2 hO O1
      have B1 : Hid (Below w.heap.size w ((w.alloc (.cells #[.int .i64 o, .int .i64 n, .slice a len c] 37)).alloc (.cells #[.string tx, .int .i64 kk, .int .i64 aa, .int .i64 mm, .int .i64 ii] 110))) := B0.out.alloc (by simp) _
      by_cases k1 : len = kk
      · subst k1
        by_cases k2 : 0 ≤ n
        · have d3 : decide (0 ≤ n) = true := decide_eq_true k2
          by_cases k3 : n ≤ mm
          · have d4 : decide (n ≤ mm) = true := decide_eq_true k3
            have HG : Hid (Tm.formedB o n len = true) := by show _ = _; rw [HF.out]; simp [k2, k3]
            clear k2 k3 HF
            go_enter Tryd.func67, Tryd.ntmps67
            go_wp2
            go_ret
            exact ⟨Tk.ret_bool HG.out.symm, B1.out⟩
          · have d4 : decide (n ≤ mm) = false := decide_eq_false k3
            have HG : Hid (Tm.formedB o n len = false) := by show _ = _; rw [HF.out]; simp [k3]
            clear k2 k3 HF
            go_enter Tryd.func67, Tryd.ntmps67
            go_wp2
            go_ret
            exact ⟨Tk.ret_bool HG.out.symm, B1.out⟩
        · have d3 : decide (0 ≤ n) = false := decide_eq_false k2
          have HG : Hid (Tm.formedB o n len = false) := by show _ = _; rw [HF.out]; simp [k2]
          clear k2 HF
          go_enter Tryd.func67, Tryd.ntmps67
          go_wp2
          go_ret
          exact ⟨Tk.ret_bool HG.out.symm, B1.out⟩
      · have d3 : ((len : Int) == (kk : Int)) = false := by simp; omega
        have HG : Hid (Tm.formedB o n len = false) := by show _ = _; rw [HF.out]; simp [k1]
        clear k1 HF
        go_enter Tryd.func67, Tryd.ntmps67
        go_wp2
        go_ret
        exact ⟨Tk.ret_bool HG.out.symm, B1.out⟩

end Go.Proofs

namespace Go.Proofs
open Go.RowKit Go.Shelf

/-- The way in block b: what it goes by, and how many things are left. -/
def Tk.Wy (b : Nat) (lv k : Nat) (w : World) : Prop := w.heap[b]? = some (.cells #[.func (.func 80) #[] #[], .int .i64 lv, .int .i64 k] 107 (0, 0))
/-- A truth in block b. -/
def Tk.Rt (b : Nat) (r : Bool) (w : World) : Prop := w.heap[b]? = some (.cells #[.bool r] 4 (0, 0))
theorem Tk.Wy.lt {b lv k : Nat} {w : World} (h : Tk.Wy b lv k w) : b < w.heap.size := (Array.getElem?_eq_some_iff.1 h).1
theorem Tk.Wy.c0 {b lv k : Nat} {w : World} (h : Tk.Wy b lv k w) : w.cell? ⟨b, 0, none⟩ = some (.func (.func 80) #[] #[]) := by simp only [Tk.Wy] at h; simp [World.cell?, h]
theorem Tk.Wy.c2 {b lv k : Nat} {w : World} (h : Tk.Wy b lv k w) : w.cell? ⟨b, 2, none⟩ = some (.int .i64 k) := by simp only [Tk.Wy] at h; simp [World.cell?, h]
theorem Tk.Wy.f2 {b lv k : Nat} {w : World} (h : Tk.Wy b lv k w) : w.frozen? ⟨b, 2, none⟩ = false := by simp only [Tk.Wy] at h; simp [World.frozen?, h]
theorem Tk.Wy.put {b lv k : Nat} {w : World} (h : Tk.Wy b lv k w) (k' : Nat) : Tk.Wy b lv k' (w.setCell ⟨b, 2, none⟩ (.int .i64 k')) := by
  unfold Tk.Wy at *
  simp [World.setCell, Array.getElem?_modify, h]
theorem Tk.Wy.keep {b lv k : Nat} {w w' : World} (h : Tk.Wy b lv k w) (hk : w'.heap[b]? = w.heap[b]?) : Tk.Wy b lv k w' := by unfold Tk.Wy; rw [hk]; exact h
theorem Tk.Rt.c0 {b : Nat} {r : Bool} {w : World} (h : Tk.Rt b r w) : w.cell? ⟨b, 0, none⟩ = some (.bool r) := by simp only [Tk.Rt] at h; simp [World.cell?, h]
theorem Tk.Rt.f0 {b : Nat} {r : Bool} {w : World} (h : Tk.Rt b r w) : w.frozen? ⟨b, 0, none⟩ = false := by simp only [Tk.Rt] at h; simp [World.frozen?, h]
theorem Tk.Rt.lt {b : Nat} {r : Bool} {w : World} (h : Tk.Rt b r w) : b < w.heap.size := (Array.getElem?_eq_some_iff.1 h).1
theorem Tk.Rt.put {b : Nat} {r : Bool} {w : World} (h : Tk.Rt b r w) (r' : Bool) : Tk.Rt b r' (w.setCell ⟨b, 0, none⟩ (.bool r')) := by
  unfold Tk.Rt at *
  simp [World.setCell, Array.getElem?_modify, h]
theorem Tk.Rt.keep {b : Nat} {r : Bool} {w w' : World} (h : Tk.Rt b r w) (hk : w'.heap[b]? = w.heap[b]?) : Tk.Rt b r w' := by unfold Tk.Rt; rw [hk]; exact h

set_option maxHeartbeats 800000 in
theorem Tryd.wenter_no (b : Nat) (w : World) :
    Calls Tryd.prog 86 #[.pointer (some ⟨b, 0, none⟩), .int .i64 0] w fun e w' => e = .returned (.bool false) ∧ w' = w := by
  go_enter Tryd.func86, Tryd.ntmps86
  go_wp2
  go_ret
  exact ⟨rfl, rfl⟩

set_option maxHeartbeats 800000 in
theorem Tryd.wenter_yes (b lv k L : Nat) (w : World) (h : Tk.Wy b lv (k + 1) w) (hk : k ≤ 2147483647) :
    Calls Tryd.prog 86 #[.pointer (some ⟨b, 0, none⟩), .int .i64 ((L : Int) + 1)] w fun e w' => e = .returned (.bool true) ∧ w' = w.setCell ⟨b, 2, none⟩ (.int .i64 k) := by
  have c2 := h.c2
  have f2 := h.f2
  have e1 : decide (((L : Int) + 1) ≤ 0) = false := decide_eq_false (by omega)
  have e2 : decide (((k + 1 : Nat) : Int) ≤ 0) = false := decide_eq_false (by omega)
  have e3 : ((k + 1 : Nat) : Int) - 1 = k := by omega
  go_enter Tryd.func86, Tryd.ntmps86
  go_wp2
  go_ret
  exact ⟨rfl, rfl⟩

set_option maxHeartbeats 800000 in
theorem Tryd.kidsOf_any (op n : Int) (a : Option Addr) (len c : Nat) (w : World) :
    Calls Tryd.prog 80 #[.agg #[.int .i64 op, .int .i64 n, .slice a len c]] w fun e w' => e = .returned (.slice a len c) ∧ Below w.heap.size w w' := by
  have B0 : Hid (Below w.heap.size w (w.alloc (.cells #[.int .i64 op, .int .i64 n, .slice a len c] 37))) := (Below.refl _ w).alloc (Nat.le_refl _) _
  go_enter Tryd.func80, Tryd.ntmps80
  go_wp2
  go_ret
  exact ⟨rfl, B0.out⟩

mutual
/-- What a step comes to over a term, then over all in it. -/
def Tm.foldT {σ : Type} (step : σ → Int → Int → Nat → σ) : σ → Tm → σ | s, .mk o n ks => Tm.foldL step (step s o n ks.length) ks
def Tm.foldL {σ : Type} (step : σ → Int → Int → Nat → σ) : σ → List Tm → σ | s, [] => s | s, k :: r => Tm.foldL step (Tm.foldT step s k) r
end
theorem Tm.foldT_eq {σ : Type} (step : σ → Int → Int → Nat → σ) (s : σ) (T : Tm) : Tm.foldT step s T = Tm.foldL step (step s T.op T.num T.ks.length) T.ks := by cases T; simp only [Tm.foldT, Tm.op, Tm.num, Tm.ks]
theorem Tm.foldL_snoc {σ : Type} (step : σ → Int → Int → Nat → σ) : ∀ (s : σ) (l : List Tm) (a : Tm), Tm.foldL step s (l ++ [a]) = Tm.foldT step (Tm.foldL step s l) a
  | _, [], _ => by simp only [List.nil_append, Tm.foldL]
  | s, k :: r, a => by
    rw [List.cons_append, Tm.foldL, Tm.foldL]
    exact Tm.foldL_snoc step _ r a

mutual
/-- Does it hold of each state on the way through a term? -/
def Tm.okT {σ : Type} (ok : σ → Int → Int → Nat → Prop) (step : σ → Int → Int → Nat → σ) : σ → Tm → Prop | s, .mk o n ks => ok s o n ks.length ∧ Tm.okL ok step (step s o n ks.length) ks
def Tm.okL {σ : Type} (ok : σ → Int → Int → Nat → Prop) (step : σ → Int → Int → Nat → σ) : σ → List Tm → Prop | _, [] => True | s, k :: r => Tm.okT ok step s k ∧ Tm.okL ok step (Tm.foldT step s k) r
end
theorem Tm.okT_eq {σ : Type} (ok : σ → Int → Int → Nat → Prop) (step : σ → Int → Int → Nat → σ) (s : σ) (T : Tm) : Tm.okT ok step s T ↔ ok s T.op T.num T.ks.length ∧ Tm.okL ok step (step s T.op T.num T.ks.length) T.ks := by cases T; simp only [Tm.okT, Tm.op, Tm.num, Tm.ks]
theorem Tm.okL_get {σ : Type} (ok : σ → Int → Int → Nat → Prop) (step : σ → Int → Int → Nat → σ) : ∀ (s : σ) (l : List Tm), Tm.okL ok step s l → ∀ (j : Nat) (h : j < l.length), Tm.okT ok step (Tm.foldL step s (l.take j)) l[j]
  | _, [], _, j, h => by simp at h
  | s, k :: r, ho, 0, _ => by
    rw [Tm.okL] at ho
    simpa [Tm.foldL] using ho.1
  | s, k :: r, ho, j + 1, h => by
    rw [Tm.okL] at ho
    have := Tm.okL_get ok step _ r ho.2 j (by simpa using h)
    simpa [Tm.foldL] using this
mutual
theorem Tm.okT_all {σ : Type} {ok : σ → Int → Int → Nat → Prop} {step : σ → Int → Int → Nat → σ} (h : ∀ s o n l, ok s o n l) : ∀ (s : σ) (T : Tm), Tm.okT ok step s T
  | s, .mk o n ks => by rw [Tm.okT]; exact ⟨h s _ _ _, Tm.okL_all h _ ks⟩
theorem Tm.okL_all {σ : Type} {ok : σ → Int → Int → Nat → Prop} {step : σ → Int → Int → Nat → σ} (h : ∀ s o n l, ok s o n l) : ∀ (s : σ) (l : List Tm), Tm.okL ok step s l
  | s, [] => by rw [Tm.okL]; trivial
  | s, k :: r => by rw [Tm.okL]; exact ⟨Tm.okT_all h s k, Tm.okL_all h _ r⟩
end

/-- What is asked of what is handed on: in a world that holds the state s it answers true, and holds the next state; it writes blocks of E alone. -/
structure Tk.Shown {σ : Type} (ok : σ → Int → Int → Nat → Prop) (g : Nat) (lb : Array Value) (Inv : σ → World → Prop) (step : σ → Int → Int → Nat → σ) (E : Nat → Prop) (B bw : Nat) : Prop where
  enters : ∀ args w, (callFunc g args).run Tryd.prog w = .ok (.enter g args) w
  calls : ∀ (s : σ) (W : World) (op n : Int) (a : Option Addr) (len c : Nat), ok s op n len → Inv s W → Calls Tryd.prog g (#[.agg #[.int .i64 op, .int .i64 n, .slice a len c]] ++ lb) W fun e w' => e = .returned (.bool true) ∧ Inv (step s op n len) w' ∧ Tk.But E W w'
  keeps : ∀ (s : σ) (W W' : World), Inv s W → Tk.But (fun k => k = bw) W W' → Inv s W'
  above : ∀ k, E k → B ≤ k
  not_bw : ¬ E bw

/-- What through comes to. -/
def Tk.ThruEnd {σ : Type} (Inv : σ → World → Prop) (step : σ → Int → Int → Nat → σ) (E : Nat → Prop) (T : Tm) (L lv left : Nat) (s : σ) (bw : Nat) (w : World) (e : Ending) (w' : World) : Prop :=
  Tk.But (fun k => k = bw ∨ E k) w w' ∧ ((T.depth ≤ L ∧ e = .returned (.bool true) ∧ Tk.Wy bw lv (left - T.size) w' ∧ Inv (Tm.foldT step s T) w') ∨ (L < T.depth ∧ e = .returned (.bool false)))

set_option maxRecDepth 20000 in
set_option maxHeartbeats 8000000 in
theorem Tryd.thru_any {σ : Type} {ok : σ → Int → Int → Nat → Prop} {g : Nat} {lb : Array Value} {Inv : σ → World → Prop} {step : σ → Int → Int → Nat → σ} {E : Nat → Prop} {B bw : Nat} (hS : Tk.Shown ok g lb Inv step E B bw) (lv : Nat) : ∀ (d L : Nat) (T : Tm) (v : Value) (left : Nat) (s : σ) (w : World), Tm.Lies w B d v T → 0 < B → B ≤ bw → B ≤ w.heap.size → Tk.Wy bw lv left w → Inv s w → (∀ k, E k → k < w.heap.size) → T.size ≤ left → left ≤ 2147483647 → L ≤ 1000 → Tm.okT ok step s T →
    Calls Tryd.prog 79 #[.pointer (some ⟨bw, 0, none⟩), .agg #[.int .i64 T.op, .int .i64 T.num, v], .int .i64 L, .func (.func g) #[] lb] w (Tk.ThruEnd Inv step E T L lv left s bw w) := by
  intro d
  induction d with
  | zero => intro L T v left s w h; exact h.elim
  | succ d ih =>
    intro L T v left s w hT hB hbw hBs hW hI hEw hsz hleft hL hok
    obtain ⟨a, cap, rfl⟩ := hT.shape
    obtain ⟨o, ho⟩ : ∃ o, T.op = o := ⟨_, rfl⟩
    obtain ⟨m, hm⟩ : ∃ m, T.num = m := ⟨_, rfl⟩
    obtain ⟨n, hn⟩ : ∃ n, T.ks.length = n := ⟨_, rfl⟩
    rw [ho, hm, hn]
    rw [hn] at hT
    cases L with
    | zero =>
      go_enter Tryd.func79, Tryd.ntmps79
      go_wp2_with fail
      refine (Tryd.wenter_no bw _).mono ?_
      rintro e W1 ⟨rfl, rfl⟩
      go_wp2
      go_ret
      exact ⟨Tk.But.of_below ((Below.refl _ w).alloc (Nat.le_refl _) _), .inr ⟨by rw [T.depth_eq]; omega, rfl⟩⟩
    | succ L =>
      obtain ⟨k, rfl⟩ : ∃ k, left = k + 1 := ⟨left - 1, by have := T.size_pos; omega⟩
      have A0 : Hid (Below w.heap.size w (w.alloc (.cells #[.int .i64 o, .int .i64 m, .slice a n cap] 37))) := (Below.refl _ w).alloc (Nat.le_refl _) _
      have W0 : Tk.Wy bw lv (k + 1) (w.alloc (.cells #[.int .i64 o, .int .i64 m, .slice a n cap] 37)) := hW.keep (A0.out.block bw hW.lt)
      have HT : Hid (Tm.Lies w B (d + 1) (.slice a n cap) T) := hT
      have HW : Hid (Tk.Wy bw lv (k + 1) w) := hW
      have HV : Hid (Inv s w) := hI
      have HM : Hid (T.op = o ∧ T.num = m ∧ T.ks.length = n) := ⟨ho, hm, hn⟩
      have HN : Hid (0 < B ∧ B ≤ bw ∧ B ≤ w.heap.size ∧ T.size ≤ k + 1 ∧ k + 1 ≤ 2147483647 ∧ L + 1 ≤ 1000 ∧ (∀ k, E k → k < w.heap.size)) := ⟨hB, hbw, hBs, hsz, hleft, hL, hEw⟩
      have HI : Hid _ := ih
      have HS : Hid (Tk.Shown ok g lb Inv step E B bw) := hS
      have HOK : Hid (ok s o m n ∧ Tm.okL ok step (step s o m n) T.ks) := by
        have h := (Tm.okT_eq ok step s T).1 hok
        rw [ho, hm, hn] at h
        exact h
      have eg := hS.enters
      have hLb : L ≤ 1000 := by omega
      have hnb : n ≤ 2147483647 := by have h1 := Tm.length_le_sizes T.ks; have h2 := T.size_eq; omega
      clear ih hT hW hI ho hm hn hB hbw hBs hsz hleft hL hEw hS hok
      go_enter Tryd.func79, Tryd.ntmps79
      have hu := Tryd.underlying37
      go_wp2_with fail
      refine (Tryd.wenter_yes bw lv k L _ W0 (by have := HN.out; omega)).mono ?_
      rintro e W1 ⟨rfl, hw1⟩
      have X1 : Hid (Tk.But (fun k => k = bw) w W1) := by
        show Tk.But _ _ _
        rw [hw1]
        exact (Tk.But.of_below A0.out).setCell (E := fun k => k = bw) (p := ⟨bw, 2, none⟩) rfl _
      have W1k : Hid (Tk.Wy bw lv k W1) := by show Tk.Wy _ _ _ _; rw [hw1]; exact W0.put k
      have hbx : W1.heap[w.heap.size]? = some (.cells #[.int .i64 o, .int .i64 m, .slice a n cap] 37 (0, 0)) := by
        rw [hw1, Below.heap_setCell _ _ _ _ (by have := HW.out.lt; show w.heap.size ≠ bw; omega)]
        exact heap_alloc_new w _
      have V1 : Hid (Inv s W1) := HS.out.keeps s w W1 HV.out X1.out
      clear W0 hw1
      have hcall := HS.out.calls s W1 o m a n cap HOK.out.1 V1.out
      have p0 : W1.cell? ⟨w.heap.size, 0, none⟩ = some (.int .i64 o) := by simp [World.cell?, hbx]
      have p1 : W1.cell? ⟨w.heap.size, 1, none⟩ = some (.int .i64 m) := by simp [World.cell?, hbx]
      have p2 : W1.cell? ⟨w.heap.size, 2, none⟩ = some (.slice a n cap) := by simp [World.cell?, hbx]
      go_wp2_with (first | (go_at_fn g; refine hcall.mono ?_; rintro e W2 ⟨rfl, hV2, hb2⟩) | fail)
      have X2 : Hid (Tk.But (fun k => k = bw ∨ E k) w W2) := ⟨hb2.os.trans X1.out.os, hb2.tape.trans X1.out.tape, hb2.output.trans X1.out.output, Nat.le_trans X1.out.size hb2.size, fun i hi he => by
        rw [hb2.block i (Nat.lt_of_lt_of_le hi X1.out.size) (fun e => he (.inr e))]
        exact X1.out.block i hi (fun e => he (.inl e))⟩
      have W2k : Tk.Wy bw lv k W2 := W1k.out.keep (hb2.block bw W1k.out.lt HS.out.not_bw)
      have V2 : Hid (Inv (step s o m n) W2) := hV2
      have h2 : W2.heap[w.heap.size]? = some (.cells #[.int .i64 o, .int .i64 m, .slice a n cap] 37 (0, 0)) := by
        rw [hb2.block _ (Array.getElem?_eq_some_iff.1 hbx).1 (by intro e; have := HN.out.2.2.2.2.2.2 _ e; omega)]
        exact hbx
      have q0 : W2.cell? ⟨w.heap.size, 0, none⟩ = some (.int .i64 o) := by simp [World.cell?, h2]
      have q1 : W2.cell? ⟨w.heap.size, 1, none⟩ = some (.int .i64 m) := by simp [World.cell?, h2]
      have q2 : W2.cell? ⟨w.heap.size, 2, none⟩ = some (.slice a n cap) := by simp [World.cell?, h2]
      have qk := W2k.c0
      have HWK : Hid (Tk.Wy bw lv k W2) := W2k
      have CK : Hid (∀ W, Below W2.heap.size W2 W → Calls Tryd.prog 80 #[.agg #[.int .i64 o, .int .i64 m, .slice a n cap]] W fun e w' => e = .returned (.slice a n cap) ∧ Hid (Below W2.heap.size W2 w')) := fun W hb =>
        (Tryd.kidsOf_any o m a n cap W).mono fun _ _ h => ⟨h.1, hb.trans (h.2.mono hb.size)⟩
      have BR : Hid (Below W2.heap.size W2 W2) := Below.refl _ _
      have ST : Hid (∀ W, Below W2.heap.size W2 W → Tk.But (fun k => k = bw ∨ E k) w W ∧ Tk.Wy bw lv k W ∧ Inv (step s o m n) W) := fun W hb =>
        ⟨X2.out.trans (Tk.But.of_below hb), HWK.out.keep (hb.block bw HWK.out.lt), HS.out.keeps _ _ _ V2.out (Tk.But.of_below hb)⟩
      clear hbx hV2 hb2 h2 X1 W1k V1 p0 p1 p2 hcall W2k
      go_region_law (first
        | (go_simp; go_at_call 80; refine Calls.mono (CK.out _ ?_) ?_; (first | exact BR.out | exact BR.out.drew); rintro e W3 ⟨rfl, B3⟩)
        | (go_simp; go_at_fn 80; refine Calls.mono (CK.out _ ?_) ?_; (first | exact BR.out | exact BR.out.drew); rintro e W3 ⟨rfl, B3⟩)
        | fail)
      all_goals
        have HB3 : Hid (Below W2.heap.size W2 W3) := B3
        clear q0 q1 q2 qk CK BR X2 V2 HWK eg
        go_simp
        go_wp2
        go_loopg [28] n (fun gk i wr => ∃ j : Nat, gk + j = n ∧ i = .int .i64 j ∧ Hid (Tk.But (fun k => k = bw ∨ E k) w wr ∧ Tk.Wy bw lv (k - Tm.sizes (T.ks.take j)) wr ∧ Inv (Tm.foldL step (step s o m n) (T.ks.take j)) wr ∧ Tm.depths (T.ks.take j) ≤ L))
        case atStart =>
          have h3 := ST.out _ (by first | exact HB3.out | exact HB3.out.drew)
          exact ⟨0, by omega, rfl, h3.1, by simpa [Tm.sizes] using h3.2.1, by simpa [Tm.foldL] using h3.2.2, by simp [Tm.depths]⟩
        case round =>
          obtain ⟨j, hj, rfl, HJ⟩ := hrel
          clear ST HB3
          by_cases hjn : j < n
          · have hd : decide ((j : Int) < n) = true := decide_eq_true (by omega)
            have hjk : j < T.ks.length := by rw [HM.out.2.2]; exact hjn
            obtain ⟨g', off, u, rfl, hg, q0, q1, q2, q3⟩ := HT.out.kid j hjk
            obtain ⟨x, hx⟩ : ∃ x, T.ks[j] = x := ⟨_, rfl⟩
            rw [hx] at q0 q1 q3
            obtain ⟨au, cu, rfl⟩ := q3.shape
            obtain ⟨nx, hnx⟩ : ∃ n, x.ks.length = n := ⟨_, rfl⟩
            rw [hnx] at q2 q3
            obtain ⟨y0, hy0⟩ : ∃ y, x.op = y := ⟨_, rfl⟩
            obtain ⟨y1, hy1⟩ : ∃ y, x.num = y := ⟨_, rfl⟩
            rw [hy0] at q0
            rw [hy1] at q1
            have hE : ∀ i, i < B → ¬ (i = bw ∨ E i) := fun i hi h => by
              rcases h with h | h
              · have := HN.out.2.1; omega
              · have := HS.out.above i h; omega
            have hc : ∀ p, wr.cell? ⟨g', p, none⟩ = w.cell? ⟨g', p, none⟩ := fun p => World.cell?_of_block (w := w) (HJ.out.1.block g' (by have := HN.out; omega) (hE g' hg))
            have hc0 : wr.cell? ⟨g', off + j * 3, none⟩ = some (.int .i64 y0) := by rw [hc]; exact q0
            have hc1 : wr.cell? ⟨g', off + j * 3 + 1, none⟩ = some (.int .i64 y1) := by rw [hc]; exact q1
            have hc2' : wr.cell? ⟨g', off + j * 3 + 2, none⟩ = some (.slice au nx cu) := by rw [hc]; exact q2
            have HY : Hid (T.ks[j] = x ∧ x.op = y0 ∧ x.num = y1) := ⟨hx, hy0, hy1⟩
            have HL : Hid (Tm.Lies w B d (.slice au nx cu) x) := q3
            clear hc q0 q1 q2 q3 hx hy0 hy1 hnx
            have BA : Hid (Tk.But (fun k => k = bw ∨ E k) w (wr.alloc (.cells #[.int .i64 y0, .int .i64 y1, .slice au nx cu] 37))) := HJ.out.1.alloc _
            have hcall := HI.out L x (.slice au nx cu) (k - Tm.sizes (T.ks.take j)) (Tm.foldL step (step s o m n) (T.ks.take j)) (wr.alloc (.cells #[.int .i64 y0, .int .i64 y1, .slice au nx cu] 37))
              (HL.out.keep fun i hi => BA.out.block i (by have := HN.out; omega) (hE i hi)) HN.out.1 HN.out.2.1 (by have := HN.out; have := BA.out.size; omega)
              (HJ.out.2.1.keep (Below.heap_alloc _ _ _ HJ.out.2.1.lt)) (HS.out.keeps _ _ _ HJ.out.2.2.1 ((Tk.But.refl _ _).alloc _)) (fun i hi => by have := HN.out.2.2.2.2.2.2 i hi; have := BA.out.size; omega)
              (by have h1 := Tm.sizes_get T.ks j hjk; rw [HY.out.1] at h1; have h2 := T.size_eq; have := HN.out; omega) (by have := HN.out; omega) (by have := HN.out; omega) (by have h := Tm.okL_get ok step _ T.ks HOK.out.2 j hjk; rw [HY.out.1] at h; exact h)
            rw [HY.out.2.1, HY.out.2.2] at hcall
            have HCL : Hid _ := hcall
            clear hcall
            go_wp2_with fail
            refine Calls.mono HCL.out ?_
            rintro e W4 ⟨hb3, ⟨hdp, rfl, hw3, hr3⟩ | ⟨hdp, rfl⟩⟩
            · have B3 : Hid (Tk.But (fun k => k = bw ∨ E k) w W4) := BA.out.trans hb3
              have H3 : Hid (Tk.Wy bw lv (k - Tm.sizes (T.ks.take j) - x.size) W4 ∧ Inv (Tm.foldT step (Tm.foldL step (step s o m n) (T.ks.take j)) x) W4 ∧ x.depth ≤ L) := ⟨hw3, hr3, hdp⟩
              clear hb3 hw3 hr3 hdp HCL
              go_wp2
              go_roundg (gk - 1)
              case measure => omega
              case rel =>
                refine ⟨j + 1, by omega, by go_num, B3.out, ?_, ?_, ?_⟩
                · rw [Tm.sizes_take _ _ hjk, HY.out.1, ← Nat.sub_sub]; exact H3.out.1
                · rw [Tm.take_snoc _ _ hjk, Tm.foldL_snoc, HY.out.1]; exact H3.out.2.1
                · rw [Tm.depths_take _ _ hjk, HY.out.1]; have := HJ.out.2.2.2; have := H3.out.2.2; omega
            · have B3 : Hid (Tk.But (fun k => k = bw ∨ E k) w W4) := BA.out.trans hb3
              have H3 : Hid (L < x.depth) := hdp
              clear hb3 hdp HCL
              go_wp2
              go_ret
              refine ⟨B3.out, .inr ⟨?_, rfl⟩⟩
              have h1 := Tm.depths_get T.ks j hjk
              rw [HY.out.1] at h1
              have := H3.out
              rw [T.depth_eq]
              omega
          · have hd : decide ((j : Int) < n) = false := decide_eq_false (by omega)
            go_wp2
            go_ret
            have hall : T.ks.take j = T.ks := List.take_of_length_le (by rw [HM.out.2.2]; omega)
            have HZ := HJ.out
            rw [hall] at HZ
            refine ⟨HZ.1, .inl ⟨by rw [T.depth_eq]; have := HZ.2.2.2; omega, rfl, ?_, ?_⟩⟩
            · rw [T.size_eq, show k + 1 - (Tm.sizes T.ks + 1) = k - Tm.sizes T.ks by omega]; exact HZ.2.1
            · rw [Tm.foldT_eq, HM.out.1, HM.out.2.1, HM.out.2.2]; exact HZ.2.2.1

end Go.Proofs

namespace Go.Proofs
open Go.RowKit Go.Shelf

theorem Tk.below_row {B : Nat} {a w : World} (h : Below B a w) {g : Nat} (hg : B ≤ g) (cs : Array Value) : Below B a (w.setRow g cs) :=
  h.trans ⟨rfl, rfl, rfl, by simp [World.setRow], fun k hk => by
    simp only [World.setRow, Array.getElem?_modify]
    rw [if_neg (by omega)]⟩

set_option maxHeartbeats 800000 in
theorem Tryd.way_any (L : Int) (w : World) : Calls Tryd.prog 65 #[.int .i64 L] w fun e w' => e = .returned (.agg #[.func (.func 80) #[] #[], .int .i64 L, .int .i64 2147483647]) ∧ Below w.heap.size w w' := by
  have hbk := heap_alloc_new w (.cells #[.nilFunc, .int .i64 0, .int .i64 0] 107)
  have B0 : Hid (Below w.heap.size w (w.alloc (.cells #[.nilFunc, .int .i64 0, .int .i64 0] 107))) := (Below.refl _ w).alloc (Nat.le_refl _) _
  have HK : Hid _ := hbk
  go_enter Tryd.func65, Tryd.ntmps65
  go_wp2_with (refine wpList_store_row rfl 107 _ _ rfl w.heap.size _ rfl rfl 107 #[.nilFunc, .int .i64 0, .int .i64 0] (by exact HK.out) (by kernel_rfl) rfl (by kernel_rfl) ?_)
  refine bodyPost_ret (v := .agg #[.func (.func 80) #[] #[], .int .i64 L, .int .i64 2147483647]) (results_cell_row Tryd.results65 _ _ w.heap.size 107 #[.func (.func 80) #[] #[], .int .i64 L, .int .i64 2147483647] (0, 0) _ rfl (setRow_heap _ _ _ _ _ _ HK.out) Tryd.underlying107 rfl (by kernel_rfl)) rfl ⟨rfl, ?_⟩
  exact Tk.below_row B0.out (Nat.le_refl _) _

set_option maxRecDepth 20000 in
set_option maxHeartbeats 4000000 in
theorem Tryd.through_any {σ : Type} {ok : σ → Int → Int → Nat → Prop} {g : Nat} {lb : Array Value} {Inv : σ → World → Prop} {step : σ → Int → Int → Nat → σ} {E : Nat → Prop} {B : Nat} (d L : Nat) (T : Tm) (v : Value) (s : σ) (w : World) (hS : Tk.Shown ok g lb Inv step E B w.heap.size) (hT : Tm.Lies w B d v T) (hB : 0 < B) (hBs : B ≤ w.heap.size) (hI : Inv s w) (hE : ∀ k, E k → k < w.heap.size) (hsz : T.size ≤ 2147483647) (hL : L ≤ 1000) (hok : Tm.okT ok step s T) :
    Calls Tryd.prog 64 #[.agg #[.func (.func 80) #[] #[], .int .i64 L, .int .i64 2147483647], .agg #[.int .i64 T.op, .int .i64 T.num, v], .func (.func g) #[] lb] w fun e w' =>
      Tk.But E w w' ∧ ((T.depth ≤ L ∧ e = .returned (.bool true) ∧ Inv (Tm.foldT step s T) w') ∨ (L < T.depth ∧ e = .returned (.bool false))) := by
  obtain ⟨a, cap, rfl⟩ := hT.shape
  obtain ⟨o, ho⟩ : ∃ o, T.op = o := ⟨_, rfl⟩
  obtain ⟨m, hm⟩ : ∃ m, T.num = m := ⟨_, rfl⟩
  obtain ⟨n, hn⟩ : ∃ n, T.ks.length = n := ⟨_, rfl⟩
  rw [ho, hm, hn]
  rw [hn] at hT
  obtain ⟨w1, hw1⟩ : ∃ x, (w.alloc (.cells #[.func (.func 80) #[] #[], .int .i64 L, .int .i64 2147483647] 107)).alloc (.cells #[.int .i64 o, .int .i64 m, .slice a n cap] 37) = x := ⟨_, rfl⟩
  have A1 : Below w.heap.size w w1 := by rw [← hw1]; exact ((Below.refl _ w).alloc (Nat.le_refl _) _).alloc (by simp) _
  have hWy : Tk.Wy w.heap.size L 2147483647 w1 := by
    rw [← hw1]
    exact Tk.Wy.keep (heap_alloc_new w _) (Below.heap_alloc _ _ _ (by simp))
  have hcall := Tryd.thru_any hS L d L T (.slice a n cap) 2147483647 s w1 (hT.below (A1.mono hBs)) hB hBs (Nat.le_trans hBs A1.size) hWy (hS.keeps s w w1 hI (Tk.But.of_below A1)) (fun k hk => Nat.lt_of_lt_of_le (hE k hk) A1.size) hsz (Nat.le_refl _) hL hok
  rw [ho, hm] at hcall
  have HC : Hid _ := hcall
  have HA : Hid (Below w.heap.size w w1) := A1
  have H1 : Hid ((w.alloc (.cells #[.func (.func 80) #[] #[], .int .i64 L, .int .i64 2147483647] 107)).alloc (.cells #[.int .i64 o, .int .i64 m, .slice a n cap] 37) = w1) := hw1
  clear hcall A1 hT hI ho hm hn hw1 hWy hS hE hok
  go_enter Tryd.func64, Tryd.ntmps64
  go_wp2_with fail
  rw [H1.out]
  refine Calls.mono HC.out ?_
  rintro e W1 ⟨hb, ⟨hdp, rfl, _, hr⟩ | ⟨hdp, rfl⟩⟩
  · have X : Hid (Tk.But E w W1 ∧ T.depth ≤ L ∧ Inv (Tm.foldT step s T) W1) := ⟨⟨hb.os.trans HA.out.os, hb.tape.trans HA.out.tape, hb.output.trans HA.out.output, Nat.le_trans HA.out.size hb.size, fun i hi he => by
        rw [hb.block i (Nat.lt_of_lt_of_le hi HA.out.size) (by rintro (h | h); omega; exact he h)]; exact HA.out.block i hi⟩, hdp, hr⟩
    clear hb hdp hr
    go_wp2
    go_ret
    exact ⟨X.out.1, .inl ⟨X.out.2.1, rfl, X.out.2.2⟩⟩
  · have X : Hid (Tk.But E w W1 ∧ L < T.depth) := ⟨⟨hb.os.trans HA.out.os, hb.tape.trans HA.out.tape, hb.output.trans HA.out.output, Nat.le_trans HA.out.size hb.size, fun i hi he => by
        rw [hb.block i (Nat.lt_of_lt_of_le hi HA.out.size) (by rintro (h | h); omega; exact he h)]; exact HA.out.block i hi⟩, hdp⟩
    clear hb hdp
    go_wp2
    go_ret
    exact ⟨X.out.1, .inr ⟨X.out.2, rfl⟩⟩

set_option maxHeartbeats 800000 in
theorem Tryd.closure_any (op n : Int) (a : Option Addr) (len c : Nat) (b : Nat) (r : Bool) (w : World) (h : Tk.Rt b r w) (hO : Tk.Ops w) :
    Calls Tryd.prog 66 #[.agg #[.int .i64 op, .int .i64 n, .slice a len c], .pointer (some ⟨b, 0, none⟩)] w fun e w' => e = .returned (.bool true) ∧ Tk.Rt b (r && Tm.formedB op n len) w' ∧ Tk.But (fun k => k = b) w w' := by
  have A0 : Below w.heap.size w (w.alloc (.cells #[.int .i64 op, .int .i64 n, .slice a len c] 37)) := (Below.refl _ w).alloc (Nat.le_refl _) _
  have R0 : Tk.Rt b r (w.alloc (.cells #[.int .i64 op, .int .i64 n, .slice a len c] 37)) := h.keep (A0.block b h.lt)
  have c0 := R0.c0
  have f0 := R0.f0
  have HR : Hid (Tk.Rt b r (w.alloc (.cells #[.int .i64 op, .int .i64 n, .slice a len c] 37))) := R0
  have HA : Hid (Below w.heap.size w (w.alloc (.cells #[.int .i64 op, .int .i64 n, .slice a len c] 37))) := A0
  have HO : Hid (Tk.Ops (w.alloc (.cells #[.int .i64 op, .int .i64 n, .slice a len c] 37))) := hO.below A0 hO.lt
  clear R0 A0 hO
  cases r
  · go_enter Tryd.func66, Tryd.ntmps66
    go_wp2
    go_ret
    exact ⟨rfl, HR.out.put false, ((Tk.But.of_below HA.out).setCell (E := fun k => k = b) (p := ⟨b, 0, none⟩) rfl _)⟩
  · go_enter Tryd.func66, Tryd.ntmps66
    go_wp2_with fail
    refine (Tryd.formed_any op n a len c _ (by exact HO.out)).mono ?_
    rintro e W1 ⟨rfl, b1⟩
    have R1 : Tk.Rt b true W1 := HR.out.keep (b1.block b HR.out.lt)
    have c1 := R1.c0
    have f1 := R1.f0
    go_wp2
    go_ret
    exact ⟨rfl, by simpa using R1.put (Tm.formedB op n len), (((Tk.But.of_below HA.out).trans (Tk.But.of_below b1)).setCell (E := fun k => k = b) (p := ⟨b, 0, none⟩) rfl _)⟩

mutual
theorem Tm.fold_form : ∀ (r : Bool) (T : Tm), Tm.foldT (fun r o n l => r && Tm.formedB o n l) r T = (r && T.allForm)
  | r, .mk o n ks => by
    rw [Tm.foldT, Tm.fold_forms _ ks, Tm.allForm, Bool.and_assoc]
theorem Tm.fold_forms : ∀ (r : Bool) (l : List Tm), Tm.foldL (fun r o n l => r && Tm.formedB o n l) r l = (r && Tm.allForms l)
  | r, [] => by simp [Tm.foldL, Tm.allForms]
  | r, k :: l => by
    rw [Tm.foldL, Tm.fold_form r k, Tm.fold_forms _ l, Tm.allForms, Bool.and_assoc]
end

theorem Tk.shown_form (br B bw : Nat) (hB : 1 < B) (hbr : B ≤ br) (hbw : B ≤ bw) (hne : br ≠ bw) :
    Tk.Shown (fun _ _ _ _ => True) 66 #[.pointer (some ⟨br, 0, none⟩)] (fun r W => Tk.Rt br r W ∧ Tk.Ops W) (fun r o n l => r && Tm.formedB o n l) (fun k => k = br) B bw where
  enters := enters_of Tryd.func66 (by kernel_rfl) rfl
  calls := fun r W op n a len c _ h => (Tryd.closure_any op n a len c br r W h.1 h.2).mono fun _ _ q => ⟨q.1, ⟨q.2.1, h.2.keep (q.2.2.block 1 h.2.lt (by omega))⟩, q.2.2⟩
  keeps := fun r W W' h hb => ⟨h.1.keep (hb.block br h.1.lt hne), h.2.keep (hb.block 1 h.2.lt (by omega))⟩
  above := fun k hk => by omega
  not_bw := fun h => hne h.symm

/-- checkForm's answer. -/
def Tm.wrongR (T : Tm) : Int := if 24 < T.depth then 2 else if T.allForm = false then 4 else 0

set_option maxRecDepth 20000 in
set_option maxHeartbeats 1600000 in
theorem Tryd.checkForm_any (d : Nat) (T : Tm) (v : Value) (w : World) (hT : Tm.Lies w w.heap.size d v T) (hO : Tk.Ops w) (hsz : T.size ≤ 2147483647) :
    Calls Tryd.prog 41 #[.agg #[.int .i64 T.op, .int .i64 T.num, v]] w fun e w' => e = .returned (.int .i64 T.wrongR) ∧ Below w.heap.size w w' := by
  obtain ⟨a, cap, rfl⟩ := hT.shape
  obtain ⟨o, ho⟩ : ∃ o, T.op = o := ⟨_, rfl⟩
  obtain ⟨m, hm⟩ : ∃ m, T.num = m := ⟨_, rfl⟩
  obtain ⟨n, hn⟩ : ∃ n, T.ks.length = n := ⟨_, rfl⟩
  rw [ho, hm, hn]
  rw [hn] at hT
  obtain ⟨w1, hw1⟩ : ∃ x, (w.alloc (.cells #[.int .i64 o, .int .i64 m, .slice a n cap] 37)).alloc (.cells #[.bool true] 4) = x := ⟨_, rfl⟩
  have hs1 : w1.heap.size = w.heap.size + 2 := by rw [← hw1]; simp
  have A1 : Below w.heap.size w w1 := by rw [← hw1]; exact ((Below.refl _ w).alloc (Nat.le_refl _) _).alloc (by simp) _
  have hR : Tk.Rt (w.heap.size + 1) true w1 := by
    rw [← hw1]
    have := heap_alloc_new (w.alloc (.cells #[.int .i64 o, .int .i64 m, .slice a n cap] 37)) (.cells #[.bool true] 4)
    simpa [Tk.Rt] using this
  have CW : Hid (∀ W, Below w1.heap.size w1 W → Calls Tryd.prog 65 #[.int .i64 24] W fun e w' => e = .returned (.agg #[.func (.func 80) #[] #[], .int .i64 24, .int .i64 2147483647]) ∧ Hid (Below w1.heap.size w1 w') ∧ w'.cell? ⟨w.heap.size, 0, none⟩ = some (.int .i64 o) ∧ w'.cell? ⟨w.heap.size, 1, none⟩ = some (.int .i64 m) ∧ w'.cell? ⟨w.heap.size, 2, none⟩ = some (.slice a n cap)) := fun W hb =>
    (Tryd.way_any 24 W).mono fun _ w' h => by
      have hb' : Below w1.heap.size w1 w' := hb.trans (h.2.mono hb.size)
      refine ⟨h.1, hb', ?_, ?_, ?_⟩
      · rw [hb'.cell (p := ⟨w.heap.size, 0, none⟩) (by show w.heap.size < _; omega), ← hw1]; simp
      · rw [hb'.cell (p := ⟨w.heap.size, 1, none⟩) (by show w.heap.size < _; omega), ← hw1]; simp
      · rw [hb'.cell (p := ⟨w.heap.size, 2, none⟩) (by show w.heap.size < _; omega), ← hw1]; simp
  have CT : Hid (∀ W, Below w1.heap.size w1 W → Calls Tryd.prog 64 #[.agg #[.func (.func 80) #[] #[], .int .i64 24, .int .i64 2147483647], .agg #[.int .i64 o, .int .i64 m, .slice a n cap], .func (.func 66) #[] #[.pointer (some ⟨w.heap.size + 1, 0, none⟩)]] W fun e w' =>
      ∃ b, e = .returned (.bool b) ∧ Hid (Below w.heap.size w w' ∧ b = decide (T.depth ≤ 24) ∧ (T.depth ≤ 24 → w'.cell? ⟨w.heap.size + 1, 0, none⟩ = some (.bool T.allForm)))) := fun W hb => by
    have hcall := Tryd.through_any d 24 T (.slice a n cap) true W (Tk.shown_form (w.heap.size + 1) w.heap.size W.heap.size hO.lt (by omega) (by have := hb.size; omega) (by have := hb.size; omega)) ((hT.below A1).below (hb.mono (by omega))) (Nat.zero_lt_of_lt hO.lt) (by have := hb.size; omega)
      ⟨hR.keep (hb.block _ (by omega)), (hO.below A1 hO.lt).keep (hb.block 1 (by have := hO.lt; omega))⟩ (fun k hk => by have := hb.size; omega) hsz (by decide) (Tm.okT_all (fun _ _ _ _ => trivial) _ _)
    rw [ho, hm, Tm.fold_form] at hcall
    refine hcall.mono ?_
    rintro e w' ⟨hbt, ⟨hdp, rfl, hr⟩ | ⟨hdp, rfl⟩⟩
    · refine ⟨true, rfl, (A1.trans (hb.mono (by omega))).trans (hbt.below (by have := hb.size; omega) (fun k hk => by omega)), (decide_eq_true hdp).symm, fun _ => ?_⟩
      have := hr.1.c0
      simpa using this
    · exact ⟨false, rfl, (A1.trans (hb.mono (by omega))).trans (hbt.below (by have := hb.size; omega) (fun k hk => by omega)), (decide_eq_false (by omega)).symm, fun h => by omega⟩
  have H1 : Hid ((w.alloc (.cells #[.int .i64 o, .int .i64 m, .slice a n cap] 37)).alloc (.cells #[.bool true] 4) = w1) := hw1
  have hq0 : w1.cell? ⟨w.heap.size, 0, none⟩ = some (.int .i64 o) := by rw [← hw1]; simp
  have hq1 : w1.cell? ⟨w.heap.size, 1, none⟩ = some (.int .i64 m) := by rw [← hw1]; simp
  have hq2 : w1.cell? ⟨w.heap.size, 2, none⟩ = some (.slice a n cap) := by rw [← hw1]; simp
  have BR : Hid (Below w1.heap.size w1 w1) := Below.refl _ _
  clear A1 hT hO hR ho hm hn hw1
  go_enter Tryd.func41, Tryd.ntmps41
  go_upto_region 2 with fail
  rw [H1.out]
  go_region_law (first
    | (go_simp; go_at_call 65; refine Calls.mono (CW.out _ ?_) ?_; (first | exact BR.out | exact BR.out.drew | exact Tk.below_drewN BR.out _); rintro e W2 ⟨rfl, B2, k0, k1, k2⟩)
    | (go_simp; go_at_call 64; refine Calls.mono (CT.out _ ?_) ?_; (first | exact B2.out | exact B2.out.drew | exact Tk.below_drewN B2.out _); rintro e W3 ⟨b, rfl, H3⟩)
    | fail)
  all_goals
    clear CW CT BR B2 k0 k1 k2 hq0 hq1 hq2
    go_simp
    by_cases hdp : T.depth ≤ 24
    · obtain rfl : b = true := by rw [H3.out.2.1]; exact decide_eq_true hdp
      have hc := H3.out.2.2 hdp
      cases hf : T.allForm
      · rw [hf] at hc
        have HF : Hid (T.wrongR = 4) := by
          show _ = _
          unfold Tm.wrongR
          rw [if_neg (by omega), if_pos hf]
        clear hf hdp
        go_wp2
        go_ret
        exact ⟨by rw [HF.out]; rfl, by first | exact H3.out.1 | exact H3.out.1.drew⟩
      · rw [hf] at hc
        have HF : Hid (T.wrongR = 0) := by
          show _ = _
          unfold Tm.wrongR
          rw [if_neg (by omega), hf]
          rfl
        clear hf hdp
        go_wp2
        go_ret
        exact ⟨by rw [HF.out]; rfl, by first | exact H3.out.1 | exact H3.out.1.drew⟩
    · obtain rfl : b = false := by rw [H3.out.2.1]; exact decide_eq_false hdp
      have HF : Hid (T.wrongR = 2) := by
        show _ = _
        unfold Tm.wrongR
        rw [if_pos (by omega)]
      clear hdp
      go_wp2
      go_ret
      exact ⟨by rw [HF.out]; rfl, by first | exact H3.out.1 | exact H3.out.1.drew⟩

end Go.Proofs

namespace Go.Proofs
open Go.RowKit

theorem Tm.op_range {T : Tm} (h : T.allForm = true) : ∃ o : Nat, T.op = o ∧ 1 ≤ o ∧ o ≤ 14 := by
  have := (Tm.formed_of_all h).1
  simp only [Tm.formedB, decide_eq_true_eq] at this
  exact ⟨T.op.toNat, by omega, by omega, by omega⟩
theorem Tm.len_le {T : Tm} (h : T.allForm = true) : T.ks.length ≤ 2 := by
  have := (Tm.formed_of_all h).1
  simp only [Tm.formedB, decide_eq_true_eq] at this
  have h2 : Tm.kidsOf T.op ≤ 2 := by unfold Tm.kidsOf; (repeat' split) <;> omega
  omega

end Go.Proofs

namespace Go.Proofs
open Go.RowKit

theorem Tm.checkR_wrong {T : Tm} (h : T.wrongR ≠ 0) : T.checkR = (0, T.wrongR) := by
  unfold Tm.wrongR at h ⊢
  unfold Tm.checkR
  split
  · rfl
  · split
    · rfl
    · rename_i h1 h2
      rw [if_neg h1, if_neg h2] at h
      exact absurd rfl h
theorem Tm.wrong_zero {T : Tm} (h : T.wrongR = 0) : ¬ 24 < T.depth ∧ T.allForm = true := by
  unfold Tm.wrongR at h
  split at h
  · cases h
  · split at h
    · cases h
    · rename_i h1 h2
      exact ⟨h1, by simpa using h2⟩
theorem Tm.checkR_right {T : Tm} (h : T.wrongR = 0) : T.checkR = if T.typedB = false then (0, 30) else (Tm.isOf T.op, 0) := by
  obtain ⟨h1, h2⟩ := Tm.wrong_zero h
  unfold Tm.checkR
  rw [if_neg h1, h2]
  rfl

end Go.Proofs
