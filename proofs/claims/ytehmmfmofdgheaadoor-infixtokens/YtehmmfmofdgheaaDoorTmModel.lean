/-
  Terms: plain mathematics (what they are, what is right of them, what they come to), and how a term lies in memory.
-/
import Derived.Test.YtehmmfmofdgheaaDoorChecked
import Derived.WalkKit
import Derived.WalkLawsBesides
import Derived.WalkSpells
import Derived.Deep.LoopGhost
import Derived.Outline
import Derived.BigQuiet
import Derived.Deep.QuietTactic
import Derived.Deep.RegionWith
import Derived.BigCall
namespace Go.Proofs
open Go.RowKit

inductive Tm where
  | mk (op num : Int) (ks : List Tm)

namespace Tm
def op : Tm → Int | mk o _ _ => o
def num : Tm → Int | mk _ n _ => n
def ks : Tm → List Tm | mk _ _ k => k

mutual
def size : Tm → Nat | mk _ _ ks => sizes ks + 1
def sizes : List Tm → Nat | [] => 0 | k :: r => size k + sizes r
end
mutual
def depth : Tm → Nat | mk _ _ ks => depths ks + 1
def depths : List Tm → Nat | [] => 0 | k :: r => max (depth k) (depths r)
end

def kidsOf (op : Int) : Nat := if op < 3 then 0 else if op < 5 then 1 else 2
def mostOf (op : Int) : Int := if op = 1 then 1099511627776 else if op = 2 then 3 else 0
def isOf (op : Int) : Int := if op = 4 ∨ 10 ≤ op then 2 else 1
def askedOf (op : Int) : Int := if op < 3 then 0 else if op = 4 ∨ 13 ≤ op then 2 else 1
def formedB (op n : Int) (len : Nat) : Bool := decide (1 ≤ op ∧ op ≤ 14 ∧ len = kidsOf op ∧ 0 ≤ n ∧ n ≤ mostOf op)

mutual
def allForm : Tm → Bool | mk op n ks => formedB op n ks.length && allForms ks
def allForms : List Tm → Bool | [] => true | k :: r => allForm k && allForms r
end
mutual
def typedB : Tm → Bool | mk op _ ks => typeds op ks
def typeds (o : Int) : List Tm → Bool | [] => true | k :: r => (isOf k.op == askedOf o) && typedB k && typeds o r
end

/-- Check's answer. -/
def checkR (T : Tm) : Int × Int := if 24 < T.depth then (0, 2) else if T.allForm = false then (0, 4) else if T.typedB = false then (0, 30) else (isOf T.op, 0)

theorem sizes_snoc (l : List Tm) (a : Tm) : sizes (l ++ [a]) = sizes l + a.size := by
  induction l with
  | nil => simp [sizes]
  | cons k r ih => simp only [List.cons_append, sizes, ih]; omega
theorem depths_snoc (l : List Tm) (a : Tm) : depths (l ++ [a]) = max (depths l) a.depth := by
  induction l with
  | nil => simp [depths]
  | cons k r ih => simp only [List.cons_append, depths, ih]; omega
theorem allForms_snoc (l : List Tm) (a : Tm) : allForms (l ++ [a]) = (allForms l && a.allForm) := by
  induction l with
  | nil => simp [allForms]
  | cons k r ih => simp only [List.cons_append, allForms, ih, Bool.and_assoc]
theorem typeds_snoc (o : Int) (l : List Tm) (a : Tm) : typeds o (l ++ [a]) = (typeds o l && ((isOf a.op == askedOf o) && a.typedB)) := by
  induction l with
  | nil => simp [typeds]
  | cons k r ih => simp only [List.cons_append, typeds, ih, Bool.and_assoc]

theorem take_snoc {α : Type} (l : List α) (k : Nat) (h : k < l.length) : l.take (k + 1) = l.take k ++ [l[k]] := by
  rw [List.take_succ_eq_append_getElem h]

theorem sizes_take (l : List Tm) (k : Nat) (h : k < l.length) : sizes (l.take (k + 1)) = sizes (l.take k) + l[k].size := by rw [take_snoc l k h, sizes_snoc]
theorem depths_take (l : List Tm) (k : Nat) (h : k < l.length) : depths (l.take (k + 1)) = max (depths (l.take k)) l[k].depth := by rw [take_snoc l k h, depths_snoc]
theorem allForms_take (l : List Tm) (k : Nat) (h : k < l.length) : allForms (l.take (k + 1)) = (allForms (l.take k) && l[k].allForm) := by rw [take_snoc l k h, allForms_snoc]
theorem typeds_take (o : Int) (l : List Tm) (k : Nat) (h : k < l.length) : typeds o (l.take (k + 1)) = (typeds o (l.take k) && ((isOf l[k].op == askedOf o) && l[k].typedB)) := by rw [take_snoc l k h, typeds_snoc]

theorem sizes_le (l : List Tm) : ∀ k, sizes (l.take k) ≤ sizes l := by
  induction l with
  | nil => simp [sizes]
  | cons a r ih =>
    intro k
    cases k with
    | zero => simp [sizes]
    | succ k => simp only [List.take_succ_cons, sizes]; have := ih k; omega
theorem depths_get (l : List Tm) : ∀ k (h : k < l.length), l[k].depth ≤ depths l := by
  induction l with
  | nil => intro k h; simp at h
  | cons a r ih =>
    intro k h
    cases k with
    | zero => simp only [List.getElem_cons_zero, depths]; omega
    | succ k => simp only [List.getElem_cons_succ, depths]; have := ih k (by simpa using h); omega
theorem allForms_get (l : List Tm) (hl : allForms l = true) : ∀ k (h : k < l.length), l[k].allForm = true := by
  induction l with
  | nil => intro k h; simp at h
  | cons a r ih =>
    simp only [allForms, Bool.and_eq_true] at hl
    intro k h
    cases k with
    | zero => simpa using hl.1
    | succ k => simpa using ih hl.2 k (by simpa using h)
theorem typeds_get (o : Int) (l : List Tm) (hl : typeds o l = true) : ∀ k (h : k < l.length), isOf l[k].op = askedOf o ∧ l[k].typedB = true := by
  induction l with
  | nil => intro k h; simp at h
  | cons a r ih =>
    simp only [typeds, Bool.and_eq_true, beq_iff_eq] at hl
    intro k h
    cases k with
    | zero => simpa using hl.1
    | succ k => simpa using ih hl.2 k (by simpa using h)
theorem size_pos (T : Tm) : 1 ≤ T.size := by cases T; simp [size]
theorem sizes_get (l : List Tm) (k : Nat) (h : k < l.length) : sizes (l.take k) + l[k].size ≤ sizes l := by rw [← sizes_take l k h]; exact sizes_le _ _
theorem length_le_sizes (l : List Tm) : l.length ≤ sizes l := by
  induction l with
  | nil => simp [sizes]
  | cons a r ih => have := size_pos a; simp only [List.length_cons, sizes]; omega
theorem formed_of_all {T : Tm} (h : T.allForm = true) : formedB T.op T.num T.ks.length = true ∧ allForms T.ks = true := by
  cases T; simpa [allForm, op, num, ks] using h
mutual
theorem depth_le_size : ∀ T : Tm, T.depth ≤ T.size
  | mk _ _ ks => by simp only [depth, size]; have := depths_le_sizes ks; omega
theorem depths_le_sizes : ∀ l : List Tm, depths l ≤ sizes l
  | [] => by simp [depths, sizes]
  | k :: r => by simp only [depths, sizes]; have := depth_le_size k; have := depths_le_sizes r; omega
end
theorem size_eq (T : Tm) : T.size = sizes T.ks + 1 := by cases T; rfl
theorem depth_eq (T : Tm) : T.depth = depths T.ks + 1 := by cases T; rfl
theorem allForm_eq (T : Tm) : T.allForm = (formedB T.op T.num T.ks.length && allForms T.ks) := by cases T; rfl
theorem typedB_eq (T : Tm) : T.typedB = typeds T.op T.ks := by cases T; rfl

/-- A term's kids in memory: the slice v; all blocks lie below B; d bounds the levels. -/
def Lies (w : World) (B : Nat) : Nat → Value → Tm → Prop
  | 0, _, _ => False
  | d + 1, v, T => ∃ a cap, v = .slice a T.ks.length cap ∧ (T.ks = [] ∨ ∃ g off, a = some ⟨g, off, none⟩ ∧ g < B ∧
      ∀ j (h : j < T.ks.length), ∃ u, w.cell? ⟨g, off + j * 3, none⟩ = some (.int .i64 T.ks[j].op) ∧ w.cell? ⟨g, off + j * 3 + 1, none⟩ = some (.int .i64 T.ks[j].num) ∧
        w.cell? ⟨g, off + j * 3 + 2, none⟩ = some u ∧ Lies w B d u T.ks[j])

theorem Lies.keep {w w' : World} {B : Nat} (hk : ∀ k, k < B → w'.heap[k]? = w.heap[k]?) : ∀ {d : Nat} {v : Value} {T : Tm}, Lies w B d v T → Lies w' B d v T
  | 0, _, _, h => h.elim
  | d + 1, v, T, h => by
    obtain ⟨a, cap, hv, h⟩ := h
    refine ⟨a, cap, hv, h.elim .inl fun ⟨g, off, ha, hg, hr⟩ => .inr ⟨g, off, ha, hg, fun j hj => ?_⟩⟩
    obtain ⟨u, h0, h1, h2, h3⟩ := hr j hj
    have hc : ∀ o, w'.cell? ⟨g, o, none⟩ = w.cell? ⟨g, o, none⟩ := fun o => World.cell?_of_block (w := w) (hk g hg)
    exact ⟨u, by rw [hc]; exact h0, by rw [hc]; exact h1, by rw [hc]; exact h2, Lies.keep hk h3⟩
theorem Lies.below {w w' : World} {B : Nat} (hb : Below B w w') {d : Nat} {v : Value} {T : Tm} (h : Lies w B d v T) : Lies w' B d v T := h.keep hb.block
theorem Lies.wider {w : World} {B B' : Nat} (hB : B ≤ B') : ∀ {d : Nat} {v : Value} {T : Tm}, Lies w B d v T → Lies w B' d v T
  | 0, _, _, h => h.elim
  | d + 1, v, T, h => by
    obtain ⟨a, cap, hv, h⟩ := h
    refine ⟨a, cap, hv, h.elim .inl fun ⟨g, off, ha, hg, hr⟩ => .inr ⟨g, off, ha, by omega, fun j hj => ?_⟩⟩
    obtain ⟨u, h0, h1, h2, h3⟩ := hr j hj
    exact ⟨u, h0, h1, h2, Lies.wider hB h3⟩
theorem Lies.shape {w : World} {B d : Nat} {v : Value} {T : Tm} (h : Lies w B d v T) : ∃ a cap, v = .slice a T.ks.length cap := by
  cases d with
  | zero => exact h.elim
  | succ d => obtain ⟨a, cap, hv, _⟩ := h; exact ⟨a, cap, hv⟩
/-- The kid number j. -/
theorem Lies.kid {w : World} {B d : Nat} {a : Option Addr} {n cap : Nat} {T : Tm} (h : Lies w B (d + 1) (.slice a n cap) T) (j : Nat) (hj : j < T.ks.length) :
    ∃ g off u, a = some ⟨g, off, none⟩ ∧ g < B ∧ w.cell? ⟨g, off + j * 3, none⟩ = some (.int .i64 T.ks[j].op) ∧ w.cell? ⟨g, off + j * 3 + 1, none⟩ = some (.int .i64 T.ks[j].num) ∧
        w.cell? ⟨g, off + j * 3 + 2, none⟩ = some u ∧ Lies w B d u T.ks[j] := by
  obtain ⟨a', cap', hv, h⟩ := h
  obtain ⟨rfl, _, _⟩ := Value.slice.inj hv
  rcases h with h | ⟨g, off, ha, hg, hr⟩
  · rw [h] at hj; simp at hj
  · obtain ⟨u, h0, h1, h2, h3⟩ := hr j hj
    exact ⟨g, off, u, ha, hg, h0, h1, h2, h3⟩
end Tm

/-- Worlds that part in blocks of E and in new blocks alone. -/
structure Tk.But (E : Nat → Prop) (w w' : World) : Prop where
  os : w'.os = w.os
  tape : w'.tape = w.tape
  output : w'.output = w.output
  size : w.heap.size ≤ w'.heap.size
  block : ∀ k, k < w.heap.size → ¬ E k → w'.heap[k]? = w.heap[k]?
theorem Tk.But.refl (E : Nat → Prop) (w : World) : Tk.But E w w := ⟨rfl, rfl, rfl, Nat.le_refl _, fun _ _ _ => rfl⟩
theorem Tk.But.trans {E : Nat → Prop} {a b c : World} (h : Tk.But E a b) (k : Tk.But E b c) : Tk.But E a c :=
  ⟨k.os.trans h.os, k.tape.trans h.tape, k.output.trans h.output, Nat.le_trans h.size k.size, fun i hi he => (k.block i (Nat.lt_of_lt_of_le hi h.size) he).trans (h.block i hi he)⟩
theorem Tk.But.of_below {E : Nat → Prop} {w w' : World} (h : Below w.heap.size w w') : Tk.But E w w' := ⟨h.os, h.tape, h.output, h.size, fun k hk _ => h.block k hk⟩
theorem Tk.But.below {E : Nat → Prop} {w w' : World} {B : Nat} (h : Tk.But E w w') (hB : B ≤ w.heap.size) (hE : ∀ k, k < B → ¬ E k) : Below B w w' := ⟨h.os, h.tape, h.output, h.size, fun k hk => h.block k (by omega) (hE k hk)⟩
theorem Tk.But.alloc {E : Nat → Prop} {a w : World} (h : Tk.But E a w) (o : Obj) : Tk.But E a (w.alloc o) := h.trans ⟨rfl, rfl, rfl, by simp, fun k hk _ => Below.heap_alloc _ _ _ hk⟩
theorem Tk.But.setCell {E : Nat → Prop} {a w : World} (h : Tk.But E a w) {p : Addr} (hp : E p.block) (u : Value) : Tk.But E a (w.setCell p u) :=
  h.trans ⟨rfl, rfl, rfl, by simp [World.setCell], fun k _ he => Below.heap_setCell _ _ _ _ (fun e => he (e ▸ hp))⟩
theorem Tk.But.drewN {E : Nat → Prop} {a w : World} (h : Tk.But E a w) (n : Nat) : Tk.But E a (w.drewN n) := ⟨h.os, h.tape, h.output, h.size, h.block⟩
theorem Tk.below_drewN {B : Nat} {a w : World} (h : Below B a w) (n : Nat) : Below B a (w.drewN n) := ⟨h.os, h.tape, h.output, h.size, h.block⟩
theorem Tk.ret_bool {a b : Bool} (h : a = b) : Ending.returned (.bool a) = .returned (.bool b) := by rw [h]

theorem Tk.row3 {W : World} {q : Nat} {x y z : Value} {T : TypeId} (h : W.heap[q]? = some (.cells #[x, y, z] T (0, 0))) :
    (W.cell? ⟨q, 0, none⟩ = some x ∧ W.cell? ⟨q, 1, none⟩ = some y ∧ W.cell? ⟨q, 2, none⟩ = some z) ∧ (W.frozen? ⟨q, 0, none⟩ = false ∧ W.frozen? ⟨q, 1, none⟩ = false ∧ W.frozen? ⟨q, 2, none⟩ = false) := by
  simp [World.cell?, World.frozen?, h]
theorem Tm.eq_iff (S T : Tm) : S = T ↔ S.op = T.op ∧ S.num = T.num ∧ S.ks = T.ks := by
  cases S; cases T
  simp only [Tm.mk.injEq, Tm.op, Tm.num, Tm.ks]

end Go.Proofs
