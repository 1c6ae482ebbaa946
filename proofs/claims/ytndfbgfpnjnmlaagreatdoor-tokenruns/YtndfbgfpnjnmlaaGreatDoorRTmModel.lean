import Derived.Test.YtndfbgfpnjnmlaaGreatDoorChecked
import Derived.WalkKit
import Derived.WalkLawsBesides
import Derived.WalkSpells
import Derived.Deep.LoopGhost
import Derived.Outline
import Derived.BigQuiet
import Derived.Deep.QuietTactic
import Derived.Deep.RegionWith
import Derived.BigCall
import Derived.Test.YtndfbgfpnjnmlaaGreatDoorProg
import Derived.Shelf.Abstract
namespace Go.Proofs
open Go.RowKit
inductive Tm where
 | mk (op num : Int) (ks : List Tm)
namespace Tm
def op : Tm → Int | mk o _ _ => o
def num : Tm → Int | mk _ n _ => n
def ks : Tm → List Tm | mk _ _ k => k
mutual
def size : Tm → Nat | mk _ _ ks => sizes ks + 1
def sizes : List Tm → Nat | [] => 0 | k :: r => size k + sizes r
end
mutual
def depth : Tm → Nat | mk _ _ ks => depths ks + 1
def depths : List Tm → Nat | [] => 0 | k :: r => max (depth k) (depths r)
end
def kidsOf (op : Int) : Nat := if op < 3 then 0 else if op < 5 then 1 else 2
def mostOf (op : Int) : Int := if op = 1 then 1099511627776 else if op = 2 then 3 else 0
def isOf (op : Int) : Int := if op = 4 ∨ 10 ≤ op then 2 else 1
def askedOf (op : Int) : Int := if op < 3 then 0 else if op = 4 ∨ 13 ≤ op then 2 else 1
def formedB (op n : Int) (len : Nat) : Bool := decide (1 ≤ op ∧ op ≤ 14 ∧ len = kidsOf op ∧ 0 ≤ n ∧ n ≤ mostOf op)
mutual
def allForm : Tm → Bool | mk op n ks => formedB op n ks.length && allForms ks
def allForms : List Tm → Bool | [] => true | k :: r => allForm k && allForms r
end
mutual
def typedB : Tm → Bool | mk op _ ks => typeds op ks
def typeds (o : Int) : List Tm → Bool | [] => true | k :: r => (isOf k.op == askedOf o) && typedB k && typeds o r
end
def checkR (T : Tm) : Int × Int := if 24 < T.depth then (0, 2) else if T.allForm = false then (0, 4) else if T.typedB = false then (0, 30) else (isOf T.op, 0)
theorem sizes_snoc (l : List Tm) (a : Tm) : sizes (l ++ [a]) = sizes l + a.size := by
 induction l with
 | nil => simp [sizes]
 | cons k r ih => simp only [List.cons_append, sizes, ih]; omega
theorem depths_snoc (l : List Tm) (a : Tm) : depths (l ++ [a]) = max (depths l) a.depth := by
 induction l with
 | nil => simp [depths]
 | cons k r ih => simp only [List.cons_append, depths, ih]; omega
theorem allForms_snoc (l : List Tm) (a : Tm) : allForms (l ++ [a]) = (allForms l && a.allForm) := by
 induction l with
 | nil => simp [allForms]
 | cons k r ih => simp only [List.cons_append, allForms, ih, Bool.and_assoc]
theorem typeds_snoc (o : Int) (l : List Tm) (a : Tm) : typeds o (l ++ [a]) = (typeds o l && ((isOf a.op == askedOf o) && a.typedB)) := by
 induction l with
 | nil => simp [typeds]
 | cons k r ih => simp only [List.cons_append, typeds, ih, Bool.and_assoc]
theorem take_snoc {α : Type} (l : List α) (k : Nat) (h : k < l.length) : l.take (k + 1) = l.take k ++ [l[k]] := by
 rw [List.take_succ_eq_append_getElem h]
theorem sizes_take (l : List Tm) (k : Nat) (h : k < l.length) : sizes (l.take (k + 1)) = sizes (l.take k) + l[k].size := by rw [take_snoc l k h, sizes_snoc]
theorem depths_take (l : List Tm) (k : Nat) (h : k < l.length) : depths (l.take (k + 1)) = max (depths (l.take k)) l[k].depth := by rw [take_snoc l k h, depths_snoc]
theorem allForms_take (l : List Tm) (k : Nat) (h : k < l.length) : allForms (l.take (k + 1)) = (allForms (l.take k) && l[k].allForm) := by rw [take_snoc l k h, allForms_snoc]
theorem typeds_take (o : Int) (l : List Tm) (k : Nat) (h : k < l.length) : typeds o (l.take (k + 1)) = (typeds o (l.take k) && ((isOf l[k].op == askedOf o) && l[k].typedB)) := by rw [take_snoc l k h, typeds_snoc]
theorem sizes_le (l : List Tm) : ∀ k, sizes (l.take k) ≤ sizes l := by
 induction l with
 | nil => simp [sizes]
 | cons a r ih =>
   intro k
   cases k with
   | zero => simp [sizes]
   | succ k => simp only [List.take_succ_cons, sizes]; have := ih k; omega
theorem depths_get (l : List Tm) : ∀ k (h : k < l.length), l[k].depth ≤ depths l := by
 induction l with
 | nil => intro k h; simp at h
 | cons a r ih =>
   intro k h
   cases k with
   | zero => simp only [List.getElem_cons_zero, depths]; omega
   | succ k => simp only [List.getElem_cons_succ, depths]; have := ih k (by simpa using h); omega
theorem allForms_get (l : List Tm) (hl : allForms l = true) : ∀ k (h : k < l.length), l[k].allForm = true := by
 induction l with
 | nil => intro k h; simp at h
 | cons a r ih =>
   simp only [allForms, Bool.and_eq_true] at hl
   intro k h
   cases k with
   | zero => simpa using hl.1
   | succ k => simpa using ih hl.2 k (by simpa using h)
theorem typeds_get (o : Int) (l : List Tm) (hl : typeds o l = true) : ∀ k (h : k < l.length), isOf l[k].op = askedOf o ∧ l[k].typedB = true := by
 induction l with
 | nil => intro k h; simp at h
 | cons a r ih =>
   simp only [typeds, Bool.and_eq_true, beq_iff_eq] at hl
   intro k h
   cases k with
   | zero => simpa using hl.1
   | succ k => simpa using ih hl.2 k (by simpa using h)
theorem size_pos (T : Tm) : 1 ≤ T.size := by cases T; simp [size]
theorem sizes_get (l : List Tm) (k : Nat) (h : k < l.length) : sizes (l.take k) + l[k].size ≤ sizes l := by rw [← sizes_take l k h]; exact sizes_le _ _
theorem length_le_sizes (l : List Tm) : l.length ≤ sizes l := by
 induction l with
 | nil => simp [sizes]
 | cons a r ih => have := size_pos a; simp only [List.length_cons, sizes]; omega
theorem formed_of_all {T : Tm} (h : T.allForm = true) : formedB T.op T.num T.ks.length = true ∧ allForms T.ks = true := by
 cases T; simpa [allForm, op, num, ks] using h
mutual
theorem depth_le_size : ∀ T : Tm, T.depth ≤ T.size
 | mk _ _ ks => by simp only [depth, size]; have := depths_le_sizes ks; omega
theorem depths_le_sizes : ∀ l : List Tm, depths l ≤ sizes l
 | [] => by simp [depths, sizes]
 | k :: r => by simp only [depths, sizes]; have := depth_le_size k; have := depths_le_sizes r; omega
end
theorem size_eq (T : Tm) : T.size = sizes T.ks + 1 := by cases T; rfl
theorem depth_eq (T : Tm) : T.depth = depths T.ks + 1 := by cases T; rfl
theorem allForm_eq (T : Tm) : T.allForm = (formedB T.op T.num T.ks.length && allForms T.ks) := by cases T; rfl
theorem typedB_eq (T : Tm) : T.typedB = typeds T.op T.ks := by cases T; rfl
def Lies (w : World) (B : Nat) : Nat → Value → Tm → Prop
 | 0, _, _ => False
 | d + 1, v, T => ∃ a cap, v = .slice a T.ks.length cap ∧ (T.ks = [] ∨ ∃ g off, a = some ⟨g, off, none⟩ ∧ g < B ∧
  ∀ j (h : j < T.ks.length), ∃ u, w.cell? ⟨g, off + j * 3, none⟩ = some (.int .i64 T.ks[j].op) ∧ w.cell? ⟨g, off + j * 3 + 1, none⟩ = some (.int .i64 T.ks[j].num) ∧
   w.cell? ⟨g, off + j * 3 + 2, none⟩ = some u ∧ Lies w B d u T.ks[j])
theorem Lies.keep {w w' : World} {B : Nat} (hk : ∀ k, k < B → w'.heap[k]? = w.heap[k]?) : ∀ {d : Nat} {v : Value} {T : Tm}, Lies w B d v T → Lies w' B d v T
 | 0, _, _, h => h.elim
 | d + 1, v, T, h => by
   obtain ⟨a, cap, hv, h⟩ := h
   refine ⟨a, cap, hv, h.elim .inl fun ⟨g, off, ha, hg, hr⟩ => .inr ⟨g, off, ha, hg, fun j hj => ?_⟩⟩
   obtain ⟨u, h0, h1, h2, h3⟩ := hr j hj
   have hc : ∀ o, w'.cell? ⟨g, o, none⟩ = w.cell? ⟨g, o, none⟩ := fun o => World.cell?_of_block (w := w) (hk g hg)
   exact ⟨u, by rw [hc]; exact h0, by rw [hc]; exact h1, by rw [hc]; exact h2, Lies.keep hk h3⟩
theorem Lies.below {w w' : World} {B : Nat} (hb : Below B w w') {d : Nat} {v : Value} {T : Tm} (h : Lies w B d v T) : Lies w' B d v T := h.keep hb.block
theorem Lies.wider {w : World} {B B' : Nat} (hB : B ≤ B') : ∀ {d : Nat} {v : Value} {T : Tm}, Lies w B d v T → Lies w B' d v T
 | 0, _, _, h => h.elim
 | d + 1, v, T, h => by
   obtain ⟨a, cap, hv, h⟩ := h
   refine ⟨a, cap, hv, h.elim .inl fun ⟨g, off, ha, hg, hr⟩ => .inr ⟨g, off, ha, by omega, fun j hj => ?_⟩⟩
   obtain ⟨u, h0, h1, h2, h3⟩ := hr j hj
   exact ⟨u, h0, h1, h2, Lies.wider hB h3⟩
theorem Lies.shape {w : World} {B d : Nat} {v : Value} {T : Tm} (h : Lies w B d v T) : ∃ a cap, v = .slice a T.ks.length cap := by
 cases d with
 | zero => exact h.elim
 | succ d => obtain ⟨a, cap, hv, _⟩ := h; exact ⟨a, cap, hv⟩
theorem Lies.kid {w : World} {B d : Nat} {a : Option Addr} {n cap : Nat} {T : Tm} (h : Lies w B (d + 1) (.slice a n cap) T) (j : Nat) (hj : j < T.ks.length) :
  ∃ g off u, a = some ⟨g, off, none⟩ ∧ g < B ∧ w.cell? ⟨g, off + j * 3, none⟩ = some (.int .i64 T.ks[j].op) ∧ w.cell? ⟨g, off + j * 3 + 1, none⟩ = some (.int .i64 T.ks[j].num) ∧
   w.cell? ⟨g, off + j * 3 + 2, none⟩ = some u ∧ Lies w B d u T.ks[j] := by
 obtain ⟨a', cap', hv, h⟩ := h
 obtain ⟨rfl, _, _⟩ := Value.slice.inj hv
 rcases h with h | ⟨g, off, ha, hg, hr⟩
 ·rw [h] at hj; simp at hj
 ·obtain ⟨u, h0, h1, h2, h3⟩ := hr j hj
  exact ⟨g, off, u, ha, hg, h0, h1, h2, h3⟩
end Tm
structure Tk.But (E : Nat → Prop) (w w' : World) : Prop where
 os : w'.os = w.os
 tape : w'.tape = w.tape
 output : w'.output = w.output
 size : w.heap.size ≤ w'.heap.size
 block : ∀ k, k < w.heap.size → ¬ E k → w'.heap[k]? = w.heap[k]?
theorem Tk.But.refl (E : Nat → Prop) (w : World) : Tk.But E w w := ⟨rfl, rfl, rfl, Nat.le_refl _, fun _ _ _ => rfl⟩
theorem Tk.But.trans {E : Nat → Prop} {a b c : World} (h : Tk.But E a b) (k : Tk.But E b c) : Tk.But E a c :=
 ⟨k.os.trans h.os, k.tape.trans h.tape, k.output.trans h.output, Nat.le_trans h.size k.size, fun i hi he => (k.block i (Nat.lt_of_lt_of_le hi h.size) he).trans (h.block i hi he)⟩
theorem Tk.But.of_below {E : Nat → Prop} {w w' : World} (h : Below w.heap.size w w') : Tk.But E w w' := ⟨h.os, h.tape, h.output, h.size, fun k hk _ => h.block k hk⟩
theorem Tk.But.below {E : Nat → Prop} {w w' : World} {B : Nat} (h : Tk.But E w w') (hB : B ≤ w.heap.size) (hE : ∀ k, k < B → ¬ E k) : Below B w w' := ⟨h.os, h.tape, h.output, h.size, fun k hk => h.block k (by omega) (hE k hk)⟩
theorem Tk.But.alloc {E : Nat → Prop} {a w : World} (h : Tk.But E a w) (o : Obj) : Tk.But E a (w.alloc o) := h.trans ⟨rfl, rfl, rfl, by simp, fun k hk _ => Below.heap_alloc _ _ _ hk⟩
theorem Tk.But.setCell {E : Nat → Prop} {a w : World} (h : Tk.But E a w) {p : Addr} (hp : E p.block) (u : Value) : Tk.But E a (w.setCell p u) :=
 h.trans ⟨rfl, rfl, rfl, by simp [World.setCell], fun k _ he => Below.heap_setCell _ _ _ _ (fun e => he (e ▸ hp))⟩
theorem Tk.below_drewN {B : Nat} {a w : World} (h : Below B a w) (n : Nat) : Below B a (w.drewN n) := ⟨h.os, h.tape, h.output, h.size, h.block⟩
theorem Tk.ret_bool {a b : Bool} (h : a = b) : Ending.returned (.bool a) = .returned (.bool b) := by rw [h]
end Go.Proofs
namespace Go.Proofs
inductive Rk.Reach (es : List (Nat × Nat)) : Nat → Nat → Prop
 | refl (a : Nat) : Rk.Reach es a a
 | step {a b c : Nat} : Rk.Reach es a b → (b, c) ∈ es → Rk.Reach es a c
def Rk.Leads (es : List (Nat × Nat)) (a c : Nat) : Prop := ∃ b, Rk.Reach es a b ∧ (b, c) ∈ es
theorem Rk.Reach.trans {es : List (Nat × Nat)} {a b c : Nat} (h : Rk.Reach es a b) (k : Rk.Reach es b c) : Rk.Reach es a c := by
 induction k with
 | refl => exact h
 | step _ m ih => exact ih.step m
theorem Rk.Reach.back {es : List (Nat × Nat)} {a b : Nat} (h : Rk.Reach es a b) : Rk.Reach (es.map fun e => (e.2, e.1)) b a := by
 induction h with
 | refl => exact .refl _
 | step h m ih =>
   refine Rk.Reach.trans (.step (.refl _) (List.mem_map.2 ⟨_, m, rfl⟩)) ih
theorem Rk.back_iff (es : List (Nat × Nat)) (a b : Nat) : Rk.Reach (es.map fun e => (e.2, e.1)) b a ↔ Rk.Reach es a b := by
 constructor
 ·intro h
  have := h.back
  rwa [List.map_map, show ((fun e : Nat × Nat => (e.2, e.1)) ∘ fun e : Nat × Nat => (e.2, e.1)) = id from rfl, List.map_id] at this
 ·exact Rk.Reach.back
open Classical in
noncomputable def Rk.met (es : List (Nat × Nat)) (a b : Nat) : Bool := decide (Rk.Reach es a b)
open Classical in
noncomputable def Rk.lead (es : List (Nat × Nat)) (a b : Nat) : Bool := decide (Rk.Leads es a b)
theorem Rk.met_iff (es : List (Nat × Nat)) (a b : Nat) : Rk.met es a b = true ↔ Rk.Reach es a b := by simp [Rk.met]
abbrev Rk.on (bs : List Bool) (i : Nat) : Prop := bs[i]? = some true
theorem Rk.on_set {bs : List Bool} {i j : Nat} (hj : j < bs.length) : Rk.on (bs.set j true) i ↔ i = j ∨ Rk.on bs i := by
 unfold Rk.on
 rw [List.getElem?_set]
 by_cases h : j = i
 ·subst h
  simp [hj]
 ·simp [h]
  omega
def Rk.Way (es : List (Nat × Nat)) (n a : Nat) (bs : List Bool) : Prop := bs.length = n ∧ Rk.on bs a ∧ ∀ i, Rk.on bs i → Rk.Reach es a i
def Rk.Shut (es : List (Nat × Nat)) (bs : List Bool) : Prop := ∀ e, e ∈ es → Rk.on bs e.1 → Rk.on bs e.2
theorem Rk.Way.done {es : List (Nat × Nat)} {n a : Nat} {bs : List Bool} (h : Rk.Way es n a bs) (hs : Rk.Shut es bs) : bs = (List.range n).map (Rk.met es a) := by
 have hc : ∀ i, Rk.Reach es a i → Rk.on bs i := by
  intro i hi
  induction hi with
  | refl => exact h.2.1
  | step _ m ih => exact hs _ m ih
 apply List.ext_getElem?
 intro i
 by_cases hi : i < n
 ·rw [List.getElem?_map, List.getElem?_range hi]
  have hl : i < bs.length := by rw [h.1]; exact hi
  rw [List.getElem?_eq_getElem hl]
  show some _ = some _
  congr 1
  rw [Bool.eq_iff_iff, Rk.met_iff]
  constructor
  ·intro hb
   exact h.2.2 i (by unfold Rk.on; rw [List.getElem?_eq_getElem hl, hb])
  ·intro hr
   have := hc i hr
   unfold Rk.on at this
   rw [List.getElem?_eq_getElem hl] at this
   exact Option.some.inj this
 ·rw [List.getElem?_eq_none (by rw [h.1]; omega), List.getElem?_eq_none (by simp; omega)]
theorem Rk.Way.mark {es : List (Nat × Nat)} {n a x y : Nat} {bs : List Bool} (h : Rk.Way es n a bs) (m : (x, y) ∈ es) (hx : Rk.on bs x) (hy : y < n) : Rk.Way es n a (bs.set y true) := by
 have hl : y < bs.length := by rw [h.1]; exact hy
 refine ⟨by simpa using h.1, (Rk.on_set hl).2 (.inr h.2.1), fun i hi => ?_⟩
 rcases (Rk.on_set hl).1 hi with rfl | hi
 ·exact (h.2.2 x hx).step m
 ·exact h.2.2 i hi
theorem Rk.Way.start (es : List (Nat × Nat)) {n a : Nat} (ha : a < n) : Rk.Way es n a ((List.replicate n false).set a true) := by
 have hl : a < (List.replicate n false).length := by simpa using ha
 refine ⟨by simp, (Rk.on_set hl).2 (.inl rfl), fun i hi => ?_⟩
 rcases (Rk.on_set hl).1 hi with rfl | hi
 ·exact .refl _
 ·unfold Rk.on at hi
  rw [List.getElem?_replicate] at hi
  split at hi <;> simp at hi
def Rk.left (bs : List Bool) : Nat := bs.countP fun b => !b
theorem Rk.left_le (bs : List Bool) : Rk.left bs ≤ bs.length := List.countP_le_length
def Rk.sweep : List (Nat × Nat) → List Bool → List Bool
 | [], bs => bs
 | e :: es, bs => Rk.sweep es (if bs[e.1]? = some true then bs.set e.2 true else bs)
theorem Rk.sweep_length : ∀ (es : List (Nat × Nat)) (bs : List Bool), (Rk.sweep es bs).length = bs.length
 | [], _ => rfl
 | e :: es, bs => by
   rw [Rk.sweep, Rk.sweep_length es]
   split <;> simp
theorem Rk.one_keeps (bs : List Bool) (x y i : Nat) (h : Rk.on bs i) : Rk.on (if bs[x]? = some true then bs.set y true else bs) i := by
 split
 ·unfold Rk.on at *
  rw [List.getElem?_set]
  have hl : i < bs.length := (List.getElem?_eq_some_iff.1 h).1
  split
  ·subst_vars; simp [hl]
  ·exact h
 ·exact h
theorem Rk.sweep_keeps : ∀ (es : List (Nat × Nat)) (bs : List Bool) (i : Nat), Rk.on bs i → Rk.on (Rk.sweep es bs) i
 | [], _, _, h => h
 | e :: es, bs, i, h => Rk.sweep_keeps es _ i (Rk.one_keeps bs e.1 e.2 i h)
theorem Rk.sweep_does : ∀ (es : List (Nat × Nat)) (bs : List Bool) (e : Nat × Nat), e ∈ es → e.2 < bs.length → Rk.on bs e.1 → Rk.on (Rk.sweep es bs) e.2
 | [], _, _, h, _, _ => by simp at h
 | f :: es, bs, e, h, hl, ho => by
   rcases List.mem_cons.1 h with rfl | h
   ·rw [Rk.sweep]
    refine Rk.sweep_keeps es _ _ ?_
    rw [if_pos ho]
    exact (Rk.on_set hl).2 (.inl rfl)
   ·rw [Rk.sweep]
    refine Rk.sweep_does es _ e h ?_ (Rk.one_keeps bs f.1 f.2 e.1 ho)
    split <;> simpa using hl
def Rk.sweeps (es : List (Nat × Nat)) : Nat → List Bool → List Bool
 | 0, bs => bs
 | k + 1, bs => Rk.sweeps es k (Rk.sweep es bs)
theorem Rk.left_mono : ∀ (bs cs : List Bool), bs.length = cs.length → (∀ i, Rk.on bs i → Rk.on cs i) → Rk.left cs ≤ Rk.left bs ∧ (Rk.left cs = Rk.left bs → cs = bs)
 | [], [], _, _ => by simp
 | [], c :: cs, h, _ => by simp at h
 | b :: bs, [], h, _ => by simp at h
 | b :: bs, c :: cs, h, hk => by
   have ih := Rk.left_mono bs cs (by simpa using h) (fun i hi => by simpa [Rk.on] using hk (i + 1) (by simpa [Rk.on] using hi))
   have h0 := hk 0
   unfold Rk.left at *
   cases b <;> cases c <;> simp [Rk.on] at h0 ⊢ <;> first | exact ih | skip
   constructor
   ·omega
   ·omega
theorem Rk.sweeps_shut {es : List (Nat × Nat)} : ∀ (k : Nat) (bs : List Bool), (∀ e, e ∈ es → e.2 < bs.length) → Rk.left bs ≤ k → Rk.Shut es (Rk.sweeps es k bs)
 | 0, bs, hl, hk => by
   intro e he _
   have h0 : Rk.left bs = 0 := by omega
   unfold Rk.left at h0
   rw [List.countP_eq_zero] at h0
   have hb := hl e he
   show Rk.on bs e.2
   unfold Rk.on
   rw [List.getElem?_eq_getElem hb]
   have := h0 _ (List.getElem_mem hb)
   simpa using this
 | k + 1, bs, hl, hk => by
   have hm := Rk.left_mono bs (Rk.sweep es bs) (Rk.sweep_length es bs).symm (Rk.sweep_keeps es bs)
   by_cases he : Rk.left (Rk.sweep es bs) = Rk.left bs
   ·have hs := hm.2 he
    have hsh : Rk.Shut es bs := fun e hm ho => by
     have := Rk.sweep_does es bs e hm (hl e hm) ho
     rwa [hs] at this
    have hfix : ∀ j, Rk.sweeps es j bs = bs := by
     intro j
     induction j with
     | zero => rfl
     | succ j ih => rw [Rk.sweeps, hs, ih]
    rw [hfix]
    exact hsh
   ·rw [Rk.sweeps]
    exact Rk.sweeps_shut k _ (fun e h => by rw [Rk.sweep_length]; exact hl e h) (by omega)
def Rk.first (a : Nat) : List (Nat × Nat) → List Bool → List Bool
 | [], bs => bs
 | e :: es, bs => Rk.first a es (if e.1 = a then bs.set e.2 true else bs)
end Go.Proofs
namespace Go.Proofs
open Go.RowKit
structure Nd where
 kind : Int
 a : Int
 t : Tm
structure Fl where
 fr : Int
 to : Int
 els : Bool
 c : Tm
namespace Nt
def zeroB (T : Tm) : Bool := decide (T.op = 0) && decide (T.num = 0) && decide (T.ks.length = 0)
def ofB (T : Tm) (k : Int) : Bool := decide (T.checkR.2 = 0) && decide (T.checkR.1 = k)
def mostN (k : Int) : Int := if k = 3 ∨ k = 4 then 3 else if k = 8 then 4 else 0
def oneB (x : Nd) : Bool := decide (1 ≤ x.kind ∧ x.kind ≤ 8 ∧ 0 ≤ x.a ∧ x.a ≤ mostN x.kind) && (if x.kind = 4 then ofB x.t 1 else zeroB x.t)
def isNodeB (n : Nat) (i : Int) : Bool := decide (0 ≤ i) && decide (i < n)
def kindAt (ns : List Nd) (i : Nat) : Int := (ns[i]?.map Nd.kind).getD 0
def outsN (fs : List Fl) (i : Int) : Nat := fs.countP fun f => decide (f.fr = i)
def insN (fs : List Fl) (i : Int) : Nat := fs.countP fun f => decide (f.to = i)
def elsesN (fs : List Fl) (i : Int) : Nat := fs.countP fun f => decide (f.fr = i) && f.els
def othersN (ns : List Nd) (fs : List Fl) (i : Int) : Nat := fs.countP fun f => decide (f.fr = i) && !decide (kindAt ns f.to.toNat = 8)
def outsL (fs : List Fl) (i : Int) : List Nat := (List.range fs.length).filter fun k => decide ((fs[k]?.map Fl.fr) = some i)
def insL (fs : List Fl) (i : Int) : List Nat := (List.range fs.length).filter fun k => decide ((fs[k]?.map Fl.to) = some i)
def chosenB (ns : List Nd) (fs : List Fl) (f : Fl) : Bool := decide (kindAt ns f.fr.toNat = 5) && decide (2 ≤ outsN fs f.fr)
def condB (f : Fl) (ch : Bool) : Bool := if ch = true ∧ f.els = false then ofB f.c 2 else (ch == f.els) && zeroB f.c
def twoB (ns : List Nd) (fs : List Fl) (f : Fl) : Bool := isNodeB ns.length f.fr && isNodeB ns.length f.to && !decide (f.fr = f.to) && condB f (chosenB ns fs f)
def joinB (k : Int) (a b el ot : Nat) : Bool :=
 if k = 1 then decide (a = 0 ∧ b = 1) else if k = 2 then decide (a = 1 ∧ b = 0) else if k = 5 then decide ((a = 1 ∧ 2 ≤ b ∧ el = 1) ∨ (2 ≤ a ∧ b = 1))
 else if k = 6 then decide ((a = 1 ∧ 2 ≤ b) ∨ (2 ≤ a ∧ b = 1)) else if k = 7 then decide (a = 1 ∧ 2 ≤ b ∧ ot = 0) else decide (a = 1 ∧ b = 1)
def threeB (ns : List Nd) (fs : List Fl) (i : Nat) : Bool := joinB (kindAt ns i) (insN fs i) (outsN fs i) (elsesN fs i) (othersN ns fs i)
def firstI (ns : List Nd) (k : Int) : Int := match ns.findIdx? (fun x => decide (x.kind = k)) with
 | some i => (i : Int)
 | none => -1
def jointB (ns : List Nd) (fs : List Fl) (i : Nat) : Bool := threeB ns fs i && !(decide (kindAt ns i = 1) && !decide ((i : Int) = firstI ns 1)) && !(decide (kindAt ns i = 2) && !decide ((i : Int) = firstI ns 2))
def edges (fs : List Fl) : List (Nat × Nat) := fs.map fun f => (f.fr.toNat, f.to.toNat)
noncomputable def roadB (ns : List Nd) (fs : List Fl) (i : Nat) : Bool := Rk.met (edges fs) (firstI ns 1).toNat i && Rk.met (edges fs) i (firstI ns 2).toNat
def hugeB (ns : List Nd) (fs : List Fl) : Bool := decide (24 < ns.length) || decide (40 < fs.length)
def wrong1 (ns : List Nd) (fs : List Fl) : List Nat := if hugeB ns fs = true then [0] else (List.range ns.length).filter fun i => !((ns[i]?.map oneB).getD true)
def wrong2 (ns : List Nd) (fs : List Fl) : List Nat := (List.range fs.length).filter fun i => !((fs[i]?.map (twoB ns fs)).getD true)
def lostB (ns : List Nd) : Bool := decide (firstI ns 1 < 0) || decide (firstI ns 2 < 0)
def wrong3 (ns : List Nd) (fs : List Fl) : List Nat := ((List.range ns.length).filter fun i => !jointB ns fs i) ++ if lostB ns = true then [ns.length] else []
noncomputable def wrong4 (ns : List Nd) (fs : List Fl) : List Nat := (List.range ns.length).filter fun i => !roadB ns fs i
noncomputable def broken (ns : List Nd) (fs : List Fl) : Nat × List Nat :=
 if (wrong1 ns fs).isEmpty = false then (1, wrong1 ns fs) else if (wrong2 ns fs).isEmpty = false then (2, wrong2 ns fs) else if (wrong3 ns fs).isEmpty = false then (3, wrong3 ns fs)
 else if (wrong4 ns fs).isEmpty = false then (4, wrong4 ns fs) else (0, [])
noncomputable def checkN (ns : List Nd) (fs : List Fl) : Nat × Nat := ((broken ns fs).1, (broken ns fs).2.headD 0)
theorem filter_take {α : Type} (p : α → Bool) (l : List α) : ∀ k, k ≤ l.length → ((List.range k).filter fun j => ((l[j]?.map p).getD false)).length = (l.take k).countP p := by
 intro k
 induction k with
 | zero => simp
 | succ k ih =>
   intro hk
   rw [List.range_succ, List.filter_append, List.length_append, ih (by omega), Tm.take_snoc l k (by omega), List.countP_append]
   congr 1
   have hk' : k < l.length := by omega
   cases hp : p l[k] <;> simp [hk', hp]
theorem filter_len {α : Type} (p : α → Bool) (l : List α) : ((List.range l.length).filter fun k => ((l[k]?.map p).getD false)).length = l.countP p := by
 rw [filter_take p l l.length (Nat.le_refl _), List.take_length]
theorem outsL_eq (fs : List Fl) (i : Int) : outsL fs i = (List.range fs.length).filter fun k => ((fs[k]?.map fun f => decide (f.fr = i)).getD false) := by
 refine List.filter_congr fun k hk => ?_
 rw [List.getElem?_eq_getElem (List.mem_range.1 hk)]
 simp
theorem insL_eq (fs : List Fl) (i : Int) : insL fs i = (List.range fs.length).filter fun k => ((fs[k]?.map fun f => decide (f.to = i)).getD false) := by
 refine List.filter_congr fun k hk => ?_
 rw [List.getElem?_eq_getElem (List.mem_range.1 hk)]
 simp
theorem outsL_len (fs : List Fl) (i : Int) : (outsL fs i).length = outsN fs i := by rw [outsL_eq, filter_len]; rfl
theorem insL_len (fs : List Fl) (i : Int) : (insL fs i).length = insN fs i := by rw [insL_eq, filter_len]; rfl
theorem kindAt_get (ns : List Nd) (i : Nat) (h : i < ns.length) : kindAt ns i = ns[i].kind := by simp [kindAt, List.getElem?_eq_getElem h]
theorem filter_nil {n : Nat} {p : Nat → Bool} (h : ((List.range n).filter p).isEmpty = true) : ∀ i, i < n → p i = false := by
 intro i hi
 rw [List.isEmpty_iff, List.filter_eq_nil_iff] at h
 simpa using h i (List.mem_range.2 hi)
theorem one_keeps {ns : List Nd} {fs : List Fl} (h : (wrong1 ns fs).isEmpty = true) : ns.length ≤ 24 ∧ fs.length ≤ 40 := by
 unfold wrong1 at h
 split at h
 ·simp at h
 ·next hh => simpa [hugeB, Nat.not_lt] using hh
theorem two_keeps {ns : List Nd} {fs : List Fl} (h : (wrong2 ns fs).isEmpty = true) : ∀ f, f ∈ fs → 0 ≤ f.fr ∧ f.fr < ns.length ∧ 0 ≤ f.to ∧ f.to < ns.length ∧ twoB ns fs f = true := by
 intro f hf
 obtain ⟨i, hi, rfl⟩ := List.mem_iff_getElem.1 hf
 have := filter_nil h i hi
 rw [List.getElem?_eq_getElem hi] at this
 have h2 : twoB ns fs fs[i] = true := by simpa using this
 refine ⟨?_, ?_, ?_, ?_, h2⟩ <;> simp [twoB, isNodeB] at h2 <;> omega
theorem three_keeps {ns : List Nd} {fs : List Fl} (h : (wrong3 ns fs).isEmpty = true) : 0 ≤ firstI ns 1 ∧ 0 ≤ firstI ns 2 := by
 unfold wrong3 at h
 split at h
 ·simp at h
 ·next hh => simp [lostB] at hh; exact hh
theorem firstI_lt (ns : List Nd) (k : Int) : firstI ns k < ns.length := by
 unfold firstI
 split
 ·next i h =>
  have := (List.findIdx?_eq_some_iff_getElem.1 h).1
  omega
 ·omega
def Nds (w : World) (B d : Nat) (a : Option Addr) (ns : List Nd) : Prop := ∀ j (h : j < ns.length), ∃ g off u, a = some ⟨g, off, none⟩ ∧ g < B ∧ w.cell? ⟨g, off + j * 5, none⟩ = some (.int .i64 ns[j].kind) ∧ w.cell? ⟨g, off + j * 5 + 1, none⟩ = some (.int .i64 ns[j].a) ∧
 w.cell? ⟨g, off + j * 5 + 2, none⟩ = some (.int .i64 ns[j].t.op) ∧ w.cell? ⟨g, off + j * 5 + 3, none⟩ = some (.int .i64 ns[j].t.num) ∧ w.cell? ⟨g, off + j * 5 + 4, none⟩ = some u ∧ Tm.Lies w B d u ns[j].t
def Fls (w : World) (B d : Nat) (a : Option Addr) (fs : List Fl) : Prop := ∀ j (h : j < fs.length), ∃ g off u, a = some ⟨g, off, none⟩ ∧ g < B ∧ w.cell? ⟨g, off + j * 6, none⟩ = some (.int .i64 fs[j].fr) ∧ w.cell? ⟨g, off + j * 6 + 1, none⟩ = some (.int .i64 fs[j].to) ∧
 w.cell? ⟨g, off + j * 6 + 2, none⟩ = some (.bool fs[j].els) ∧ w.cell? ⟨g, off + j * 6 + 3, none⟩ = some (.int .i64 fs[j].c.op) ∧ w.cell? ⟨g, off + j * 6 + 4, none⟩ = some (.int .i64 fs[j].c.num) ∧ w.cell? ⟨g, off + j * 6 + 5, none⟩ = some u ∧ Tm.Lies w B d u fs[j].c
theorem Nds.below {w w' : World} {B d : Nat} {a : Option Addr} {ns : List Nd} (h : Nds w B d a ns) (hb : Below B w w') : Nds w' B d a ns := fun j hj => by
 obtain ⟨g, off, u, h1, h2, c0, c1, c2, c3, c4, h3⟩ := h j hj
 have hc : ∀ o, w'.cell? ⟨g, o, none⟩ = w.cell? ⟨g, o, none⟩ := fun o => hb.cell (p := ⟨g, o, none⟩) h2
 exact ⟨g, off, u, h1, h2, by rw [hc]; exact c0, by rw [hc]; exact c1, by rw [hc]; exact c2, by rw [hc]; exact c3, by rw [hc]; exact c4, h3.below hb⟩
theorem Fls.below {w w' : World} {B d : Nat} {a : Option Addr} {fs : List Fl} (h : Fls w B d a fs) (hb : Below B w w') : Fls w' B d a fs := fun j hj => by
 obtain ⟨g, off, u, h1, h2, c0, c1, c2, c3, c4, c5, h3⟩ := h j hj
 have hc : ∀ o, w'.cell? ⟨g, o, none⟩ = w.cell? ⟨g, o, none⟩ := fun o => hb.cell (p := ⟨g, o, none⟩) h2
 exact ⟨g, off, u, h1, h2, by rw [hc]; exact c0, by rw [hc]; exact c1, by rw [hc]; exact c2, by rw [hc]; exact c3, by rw [hc]; exact c4, by rw [hc]; exact c5, h3.below hb⟩
theorem Nds.wider {w : World} {B B' d : Nat} {a : Option Addr} {ns : List Nd} (h : Nds w B d a ns) (hB : B ≤ B') : Nds w B' d a ns := fun j hj => by
 obtain ⟨g, off, u, h1, h2, c0, c1, c2, c3, c4, h3⟩ := h j hj
 exact ⟨g, off, u, h1, by omega, c0, c1, c2, c3, c4, h3.wider hB⟩
theorem Fls.wider {w : World} {B B' d : Nat} {a : Option Addr} {fs : List Fl} (h : Fls w B d a fs) (hB : B ≤ B') : Fls w B' d a fs := fun j hj => by
 obtain ⟨g, off, u, h1, h2, c0, c1, c2, c3, c4, c5, h3⟩ := h j hj
 exact ⟨g, off, u, h1, by omega, c0, c1, c2, c3, c4, c5, h3.wider hB⟩
end Nt
structure Nt.Has (w : World) (B d : Nat) (an af : Option Addr) (ns : List Nd) (fs : List Fl) : Prop where
 nds : Nt.Nds w B d an ns
 fls : Nt.Fls w B d af fs
 nlen : ns.length ≤ 100
 flen : fs.length ≤ 100
 nsz : ∀ x, x ∈ ns → x.t.size ≤ 2147483647
 fsz : ∀ x, x ∈ fs → x.c.size ≤ 2147483647
theorem Nt.Has.below {w w' : World} {B d : Nat} {an af : Option Addr} {ns : List Nd} {fs : List Fl} (h : Nt.Has w B d an af ns fs) (hb : Below B w w') : Nt.Has w' B d an af ns fs := ⟨h.nds.below hb, h.fls.below hb, h.nlen, h.flen, h.nsz, h.fsz⟩
theorem Nt.Has.wider {w : World} {B B' d : Nat} {an af : Option Addr} {ns : List Nd} {fs : List Fl} (h : Nt.Has w B d an af ns fs) (hB : B ≤ B') : Nt.Has w B' d an af ns fs := ⟨h.nds.wider hB, h.fls.wider hB, h.nlen, h.flen, h.nsz, h.fsz⟩
end Go.Proofs
namespace Go.Proofs
open Go.RowKit Go.Shelf
theorem Tryz.infoIntR : (Tryz.prog.info? 3).map (fun i => (i.zero, i.size, i.bytes)) = some (some (.int .i64 0), 1, 8) := by kernel_rfl
def Rk.nums (l : List Nat) : List Value := l.map fun i : Nat => Value.int .i64 (i : Int)
theorem Rk.nums_snoc (l : List Nat) (i : Nat) : Rk.nums (l ++ [i]) = Rk.nums l ++ [.int .i64 (i : Int)] := by simp [Rk.nums]
theorem Rk.own_shape {w : World} {B : Nat} {e : TypeId} {size : Nat} {v : Value} {n : Nat} {cs : List Value} (h : w.ownsRow B e size v n cs) : ∃ a c, v = .slice a n c := by
 rcases h.2 with ⟨rfl, rfl⟩ | ⟨g, cap, cur, rfl, _⟩
 ·exact ⟨none, 0, rfl⟩
 ·exact ⟨_, _, rfl⟩
theorem Rk.own_below {w w' : World} {B : Nat} {e : TypeId} {size : Nat} {v : Value} {n : Nat} {cs : List Value} (h : w.ownsRow B e size v n cs) (hb : Below w.heap.size w w') : w'.ownsRow B e size v n cs := by
 rcases h with ⟨hl, h | ⟨g, cap, cur, rfl, hB, hg, h4⟩⟩
 ·exact ⟨hl, .inl h⟩
 ·exact ⟨hl, .inr ⟨g, cap, cur, rfl, hB, by rw [hb.block g (Array.getElem?_eq_some_iff.1 hg).1]; exact hg, h4⟩⟩
theorem Rk.below_grown {B : Nat} {a w w' : World} {v : Value} {e : TypeId} {size n : Nat} {cs : List Value} (h : Below B a w) (hB : B ≤ w.heap.size) (ho : w.ownsRow B e size v n cs) (hg : w.grownBy w' v.ownBlock) : Below B a w' :=
 h.trans ⟨hg.os, hg.tape, hg.output, hg.size, fun j hj => hg.block j (by omega) (by
  intro he
  rcases ho.2 with ⟨rfl, _⟩ | ⟨g, cap, cur, rfl, h1, _⟩
  ·simp [Value.ownBlock] at he
  ·simp [Value.ownBlock] at he
   omega)⟩
theorem Rk.one_cell (w : World) (i : Int) (t : TypeId) : ∀ j u, [Value.int .i64 i][j]? = some u → (w.alloc (.cells #[.int .i64 i] t)).cell? ((⟨w.heap.size, 0, none⟩ : Addr).add j) = some u := by
 intro j u hj
 match j, hj with
 | 0, hj => simp at hj; subst hj; simp [Addr.add]
theorem Rk.one_one (i : Int) : ∀ u ∈ [Value.int .i64 i], u.oneCell' = true := by intro u hu; simp at hu; subst hu; rfl
def Rk.Hold (g : Nat) (lb : Array Value) (p : Nat → Bool) (n : Nat) (w : World) : Prop :=
 ∀ (W : World) (i : Nat), i < n → Below w.heap.size w W → Calls Tryz.prog g (#[.int .i64 (i : Int)] ++ lb) W fun e w' => e = .returned (.bool (p i)) ∧ Below W.heap.size W w'
set_option maxHeartbeats 4000000 in
theorem Tryz.places_any (p : Nat → Bool) (g : Nat) (lb : Array Value) (eg : ∀ args w, (callFunc g args).run Tryz.prog w = .ok (.enter g args) w) (n : Nat) (w : World) (hp : Rk.Hold g lb p n w) (hn : n ≤ 1000) :
  Calls Tryz.prog 47 #[.int .i64 n, .func (.func g) #[] lb] w fun e w' => ∃ v, e = .returned v ∧ w'.ownsRow w.heap.size 3 1 v ((List.range n).filter p).length (Rk.nums ((List.range n).filter p)) ∧ Below w.heap.size w w' := by
 obtain ⟨i0, hi, hz0, hz1, hz2⟩ := info_parts Tryz.infoIntR
 have HP : Hid _ := hp
 clear hp
 go_enter Tryz.func47, Tryz.ntmps47
 go_wp2
 go_loopg [5, 8] n (fun gk s5 s8 wr => ∃ (k r : Nat) (L : List Nat), gk + k = n ∧ s8 = .int .i64 k ∧ r ≤ k ∧ Hid (L = (List.range k).filter p ∧ L.length = r ∧ Below w.heap.size w wr) ∧ wr.ownsRow w.heap.size 3 1 s5 r (Rk.nums L))
 case atStart => exact ⟨0, 0, [], by omega, rfl, Nat.le_refl _, ⟨rfl, rfl, Below.refl _ w⟩, World.ownsRow_nil _ _ _ _⟩
 case round =>
  obtain ⟨k, r, L, hk, rfl, hr, HB, hown⟩ := hrel
  obtain ⟨av, cv, rfl⟩ := Rk.own_shape hown
  by_cases hlt : k < n
  ·have hd : decide ((k : Int) < n) = true := decide_eq_true (by omega)
   have hcall := HP.out wr k hlt HB.out.2.2
   have HF : Hid ((List.range (k + 1)).filter p = L ++ if p k = true then [k] else []) := by
     show _ = _
     rw [List.range_succ, List.filter_append, ← HB.out.1]
     cases hq : p k <;> simp [hq]
   cases hq : p k with
   | false =>
     rw [hq] at hcall HF
     clear hq
     go_wp2_with (go_at_fn g; refine hcall.mono ?_; rintro e w1 ⟨rfl, hb⟩)
     go_roundg (gk - 1)
     case measure => omega
     case rel =>
      refine ⟨k + 1, r, L, by omega, by go_num, by omega, ⟨?_, HB.out.2.1, HB.out.2.2.trans (hb.mono HB.out.2.2.size)⟩, Rk.own_below hown hb⟩
      rw [HF.out]; simp
   | true =>
     rw [hq] at hcall HF
     clear hq
     go_wp2_with (first
      | (go_at_fn g; refine hcall.mono ?_; rintro e W1 ⟨rfl, hb⟩; have own1 := Rk.own_below hown hb; have B1 : Hid (Below w.heap.size w W1) := HB.out.2.2.trans (hb.mono HB.out.2.2.size); have hs1 : w.heap.size ≤ W1.heap.size := B1.out.size; clear hb hown hcall)
      | (at_builtin; refine wpList_append_own _ rfl _ _ 53 rfl w.heap.size 3 i0 (.int .i64 0) 1 8 Tryz.underlying53 hi hz0 hz1 hz2 rfl (by decide) _ _ _ rfl (own1.alloc _) ⟨W1.heap.size, 0, none⟩ 1 1 [.int .i64 k] rfl rfl (Rk.one_cell W1 k 3) (Rk.one_one k) ?c3 ?c4 ?c5 ?_))
     case c3 => unfold maxLen; omega
     case c4 => omega
     case c5 => simp; omega
     intro v' W2 own2 g2 _
     obtain ⟨a2, c2, rfl⟩ := Rk.own_shape own2
     go_wp2
     go_roundg (gk - 1)
     case measure => omega
     case rel =>
      refine ⟨k + 1, r + 1, L ++ [k], by omega, by go_num, by omega, ⟨?_, by simp [HB.out.2.1], Rk.below_grown (B1.out.alloc hs1 _) (by simp; omega) (own1.alloc _) g2⟩, ?_⟩
      ·rw [HF.out]; simp
      ·rw [Rk.nums_snoc]; exact own2
  ·have hd : decide ((k : Int) < n) = false := decide_eq_false (by omega)
   go_wp2
   go_ret
   obtain rfl : k = n := by omega
   rw [← HB.out.1, HB.out.2.1]
   exact ⟨_, rfl, hown, HB.out.2.2⟩
end Go.Proofs
