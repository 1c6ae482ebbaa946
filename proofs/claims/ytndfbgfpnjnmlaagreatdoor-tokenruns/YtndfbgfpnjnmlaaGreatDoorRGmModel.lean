import Derived.Test.YtndfbgfpnjnmlaaGreatDoorRTJunctO
import Derived.Test.YtndfbgfpnjnmlaaGreatDoorRAllNtTwoB
import Derived.Deep.MidRow
namespace Go.Proofs
open Go.RowKit Go.Shelf
structure Mv where
 node : Int
 arg : Int
 k : Int
 ln : Int
 la : Int
namespace Gm
def take : List Int → List Nat → Option (List Int)
 | l, [] => some l
 | l, f :: r => if l.getD f 0 = 0 then none else take (l.set f (l.getD f 0 - 1)) r
def put : List Int → List Nat → Option (List Int)
 | l, [] => some l
 | l, f :: r => if l.getD f 0 = 3 then none else put (l.set f (l.getD f 0 + 1)) r
def pass (l : List Int) (a b : List Nat) : Option (List Int) := match take l a with
 | none => none
 | some t => put t b
def num (l : List Int) (T : Tm) : Int × Int := T.numR (l.getD 40 0) (l.getD 41 0) (l.getD 42 0) (l.getD 43 0)
def tru (l : List Int) (T : Tm) : Bool × Int := T.truR (l.getD 40 0) (l.getD 41 0) (l.getD 42 0) (l.getD 43 0)
def chosen (fs : List Fl) (l : List Int) : List Nat → Nat → Nat × Int
 | [], o => (o, 0)
 | f :: r, o => match fs[f]? with
   | none => (o, 0)
   | some x => if x.els = true then chosen fs l r f else if (tru l x.c).1 = true ∨ (tru l x.c).2 ≠ 0 then (f, (tru l x.c).2) else chosen fs l r o
def fault (l : List Int) (i : Nat) (e : Int) : List (Mv × List Int) := [(⟨i, 0, 6, i, e⟩, l.set 48 2)]
def catchS (ns : List Nd) (l : List Int) (nd ar : Int) (i : Nat) (a b : List Nat) : List (Mv × List Int) := match pass l a b with
 | none => []
 | some t =>
   let m := ((ns[i]?.map Nd.a).getD 0)
   if m = 4 then [(⟨nd, ar, 4, i, 0⟩, t)] else if 0 < t.getD (44 + m.toNat) 0 then [(⟨nd, ar, 3, i, 0⟩, t.set (44 + m.toNat) (t.getD (44 + m.toNat) 0 - 1))] else []
def quietB (l : List Int) : Bool := (l.take 40).all fun x => decide (x = 0)
def endS (l : List Int) (i : Nat) (a : List Nat) : List (Mv × List Int) := match pass l a [] with
 | none => []
 | some t => if quietB t = true then [(⟨i, 0, 7, 0, 0⟩, t.set 48 1)] else [(⟨i, 0, 0, 0, 0⟩, t)]
def taskS (l : List Int) (i : Nat) (x : Int) (a b : List Nat) : List (Mv × List Int) := match pass l a b with
 | none => []
 | some t => [(⟨i, 0, 1, i, 0⟩, t.set (40 + x.toNat) 0), (⟨i, 1, 1, i, 1⟩, t.set (40 + x.toNat) 1)]
def assignS (l : List Int) (i : Nat) (x : Int) (T : Tm) (a b : List Nat) : List (Mv × List Int) :=
 if (num l T).2 ≠ 0 then fault l i (num l T).2 else match pass l a b with
  | none => []
  | some t => [(⟨i, 0, 2, i, 0⟩, t.set (40 + x.toNat) (num l T).1)]
def chooseS (fs : List Fl) (l : List Int) (i : Nat) (a b : List Nat) : List (Mv × List Int) :=
 if (chosen fs l b 0).2 ≠ 0 then fault l i (chosen fs l b 0).2 else match pass l a [(chosen fs l b 0).1] with
  | none => []
  | some t => [(⟨i, ((chosen fs l b 0).1 : Nat), 0, 0, 0⟩, t)]
def mergeS (l : List Int) (i : Nat) (b : List Nat) : List Nat → List (Mv × List Int)
 | [] => []
 | f :: r => (match pass l [f] b with | none => [] | some t => [(⟨i, (f : Nat), 0, 0, 0⟩, t)]) ++ mergeS l i b r
def andS (l : List Int) (i : Nat) (a b : List Nat) : List (Mv × List Int) := match pass l a b with
 | none => []
 | some t => [(⟨i, 0, 0, 0, 0⟩, t)]
def toOf (fs : List Fl) (f : Nat) : Nat := ((fs[f]?.map Fl.to).getD 0).toNat
def eventS (ns : List Nd) (fs : List Fl) (l : List Int) (i : Nat) (a : List Nat) : List Nat → List (Mv × List Int)
 | [] => []
 | f :: r => catchS ns l i (f : Nat) (toOf fs f) a (Nt.outsL fs (toOf fs f)) ++ eventS ns fs l i a r
def nodeS (ns : List Nd) (fs : List Fl) (l : List Int) (i : Nat) : List (Mv × List Int) :=
 match ns[i]? with
 | none => []
 | some x =>
   let a := Nt.insL fs i
   let b := Nt.outsL fs i
   if x.kind = 3 then taskS l i x.a a b else if x.kind = 4 then assignS l i x.a x.t a b else if x.kind = 5 then (if 1 < b.length then chooseS fs l i a b else mergeS l i b a)
   else if x.kind = 6 then andS l i a b else if x.kind = 7 then eventS ns fs l i a b else if x.kind = 8 then catchS ns l i 0 i a b else if x.kind = 2 then endS l i a else []
def reachedB (fs : List Fl) (l : List Int) (i : Nat) : Bool := (List.range fs.length).any fun f => decide (0 < l.getD f 0) && decide (toOf fs f = i)
def arriveS (ns : List Nd) (l : List Int) (m : Nat) : List (Mv × List Int) := if Nt.awaitsB ns (m : Nat) = true ∧ l.getD (44 + m) 0 < 3 then [(⟨-1, (m : Nat), 5, 0, (m : Nat)⟩, l.set (44 + m) (l.getD (44 + m) 0 + 1))] else []
def stepsL (ns : List Nd) (fs : List Fl) (l : List Int) : List (Mv × List Int) :=
 if l.getD 48 0 ≠ 0 then [] else ((List.range 24).flatMap fun i => if reachedB fs l i = true then nodeS ns fs l i else []) ++ (List.range 4).flatMap fun m => arriveS ns l m
def stateB (fs : List Fl) (l : List Int) : Bool := ((List.range 40).all fun i => decide (0 ≤ l.getD i 0) && decide (l.getD i 0 ≤ if i < fs.length then 3 else 0)) && ((List.range 4).all fun i => decide (0 ≤ l.getD (44 + i) 0) && decide (l.getD (44 + i) 0 ≤ 3)) &&
 Tk.fitsB (l.getD 40 0) (l.getD 41 0) (l.getD 42 0) (l.getD 43 0) && decide (0 ≤ l.getD 48 0) && decide (l.getD 48 0 ≤ 2)
noncomputable def checkE (ns : List Nd) (fs : List Fl) (l : List Int) : Int := if (Nt.checkN ns fs).1 ≠ 0 then 4 else if stateB fs l = true then 0 else 1
theorem take_length : ∀ (a : List Nat) (l t : List Int), take l a = some t → t.length = l.length
 | [], l, t, h => by simp only [take, Option.some.injEq] at h; rw [h]
 | f :: r, l, t, h => by
   rw [take] at h
   split at h
   ·cases h
   ·have := take_length r _ _ h; simpa using this
theorem put_length : ∀ (a : List Nat) (l t : List Int), put l a = some t → t.length = l.length
 | [], l, t, h => by simp only [put, Option.some.injEq] at h; rw [h]
 | f :: r, l, t, h => by
   rw [put] at h
   split at h
   ·cases h
   ·have := put_length r _ _ h; simpa using this
theorem pass_length {l t : List Int} {a b : List Nat} (h : pass l a b = some t) : t.length = l.length := by
 unfold pass at h
 cases ht : take l a with
 | none => rw [ht] at h; cases h
 | some u => rw [ht] at h; rw [put_length b u t h, take_length a l u ht]
def ints (l : List Int) : List Value := l.map fun x => .int .i64 x
def mvC (m : Mv) : List Value := [.int .i64 m.node, .int .i64 m.arg, .int .i64 m.k, .int .i64 m.ln, .int .i64 m.la]
def mvs (ms : List Mv) : List Value := ms.flatMap mvC
theorem ints_length (l : List Int) : (ints l).length = l.length := by simp [ints]
theorem ints_one (l : List Int) : ∀ v ∈ ints l, v.oneCell' = true := fun v hv => by
 obtain ⟨x, _, rfl⟩ := List.mem_map.1 hv
 rfl
theorem mvs_append (a b : List Mv) : mvs (a ++ b) = mvs a ++ mvs b := by simp [mvs]
structure At (X : World) (b : Nat) (an : Option Addr) (n cn : Nat) (af : Option Addr) (m cf : Nat) (l : List Int) (v : Value) (want : Int) (tt : List Int) : Prop where
 net0 : X.cell? ⟨b, 0, none⟩ = some (.slice an n cn)
 net1 : X.cell? ⟨b, 1, none⟩ = some (.slice af m cf)
 st : X.rangeAt b 2 (ints l)
 mv : X.cell? ⟨b, 51, none⟩ = some v
 wa : X.cell? ⟨b, 52, none⟩ = some (.int .i64 want)
 en : X.rangeAt b 53 (ints tt)
 th : X.there b 0 102
 ty : ∃ cs, X.heap[b]? = some (.cells cs 82 (0, 0))
 ll : l.length = 49
 tl : tt.length = 49
theorem At.lt {X : World} {b : Nat} {an : Option Addr} {n cn : Nat} {af : Option Addr} {m cf : Nat} {l : List Int} {v : Value} {want : Int} {tt : List Int} (h : At X b an n cn af m cf l v want tt) : b < X.heap.size := World.block_lt_of_cell? _ _ h.net0
theorem At.keep {X X' : World} {b : Nat} {an : Option Addr} {n cn : Nat} {af : Option Addr} {m cf : Nat} {l : List Int} {v : Value} {want : Int} {tt : List Int} (h : At X b an n cn af m cf l v want tt) (hb : X'.heap[b]? = X.heap[b]?) : At X' b an n cn af m cf l v want tt := by
 have hc : ∀ o, X'.cell? ⟨b, o, none⟩ = X.cell? ⟨b, o, none⟩ := fun o => World.cell?_of_block (w := X) hb
 have hf : ∀ o, X'.frozen? ⟨b, o, none⟩ = X.frozen? ⟨b, o, none⟩ := fun o => by simp [World.frozen?, hb]
 exact ⟨by rw [hc]; exact h.net0, by rw [hc]; exact h.net1, fun j u hj => by rw [hc]; exact h.st j u hj, by rw [hc]; exact h.mv, by rw [hc]; exact h.wa, fun j u hj => by rw [hc]; exact h.en j u hj, fun j hj => by rw [hc, hf]; exact h.th j hj, by obtain ⟨cs, e⟩ := h.ty; exact ⟨cs, hb.trans e⟩, h.ll, h.tl⟩
theorem set_type {X : World} {b o : Nat} {u : Value} {cs : Array Value} {ty : TypeId} (h : X.heap[b]? = some (.cells cs ty (0, 0))) : (X.setCell ⟨b, o, none⟩ u).heap[b]? = some (.cells (cs.setIfInBounds o u) ty (0, 0)) := by
 simp [World.setCell, Array.getElem?_modify, h]
theorem sets_type {b : Nat} {ty : TypeId} : ∀ (vs : List Value) (o : Nat) (X : World) (cs : Array Value), X.heap[b]? = some (.cells cs ty (0, 0)) → ∃ cs', (X.setCells b o vs).heap[b]? = some (.cells cs' ty (0, 0))
 | [], _, _, cs, h => ⟨cs, h⟩
 | v :: r, o, X, cs, h => by
   rw [World.setCells]
   exact sets_type r (o + 1) _ _ (set_type h)
theorem At.moves {X : World} {b : Nat} {an : Option Addr} {n cn : Nat} {af : Option Addr} {m cf : Nat} {l : List Int} {v : Value} {want : Int} {tt : List Int} (h : At X b an n cn af m cf l v want tt) (u : Value) : At (X.setCell ⟨b, 51, none⟩ u) b an n cn af m cf l u want tt := by
 have ho : ∀ o, o ≠ 51 → (X.setCell ⟨b, 51, none⟩ u).cell? ⟨b, o, none⟩ = X.cell? ⟨b, o, none⟩ := fun o h => World.cell?_setCell_other _ _ _ _ (fun e => h (by injection e with _ e2 _; exact e2.symm))
 refine ⟨by rw [ho _ (by omega)]; exact h.net0, by rw [ho _ (by omega)]; exact h.net1, fun j w hj => ?_, World.cell?_setCell_same _ _ _ h.mv, by rw [ho _ (by omega)]; exact h.wa, fun j w hj => by rw [ho _ (by omega)]; exact h.en j w hj, fun j hj => ?_, by obtain ⟨cs, e⟩ := h.ty; exact ⟨_, set_type e⟩, h.ll, h.tl⟩
 ·have hl := (List.getElem?_eq_some_iff.1 hj).1
  rw [ints_length, h.ll] at hl
  rw [ho _ (by omega)]; exact h.st j w hj
 ·have h1 := World.there_setCells h.th b 51 [u] j hj
  simpa [World.setCells] using h1
theorem At.leads {X : World} {b : Nat} {an : Option Addr} {n cn : Nat} {af : Option Addr} {m cf : Nat} {l : List Int} {v : Value} {want : Int} {tt : List Int} (h : At X b an n cn af m cf l v want tt) (t : List Int) (ht : t.length = 49) : At (X.setCells b 53 (ints t)) b an n cn af m cf l v want t := by
 have ho : ∀ o, o < 53 → (X.setCells b 53 (ints t)).cell? ⟨b, o, none⟩ = X.cell? ⟨b, o, none⟩ := fun o h => World.cell?_setCells_out b (ints t) 53 X ⟨b, o, none⟩ fun _ _ => .inl (by show o < 53; omega)
 have hth : X.there b 53 (ints t).length := fun j hj => by
  rw [ints_length, ht] at hj
  have := h.th (53 + j) (by omega)
  simpa using this
 refine ⟨by rw [ho _ (by omega)]; exact h.net0, by rw [ho _ (by omega)]; exact h.net1, fun j w hj => ?_, by rw [ho _ (by omega)]; exact h.mv, by rw [ho _ (by omega)]; exact h.wa, World.rangeAt_setCells_same X b 53 (ints t) hth, World.there_setCells h.th b 53 (ints t), by obtain ⟨cs, e⟩ := h.ty; exact sets_type (ints t) 53 X cs e, h.ll, ht⟩
 have hl := (List.getElem?_eq_some_iff.1 hj).1
 rw [ints_length, h.ll] at hl
 rw [ho _ (by omega)]; exact h.st j w hj
end Gm
end Go.Proofs
namespace Go.Proofs
open Go.RowKit Go.Shelf
def Gm.Ints (X : World) (u : Value) (l : List Int) : Prop := ∃ a c, u = .slice a l.length c ∧ ∀ j (h : j < l.length), ∃ g off cs fr, a = some ⟨g, off, none⟩ ∧ X.heap[g]? = some (.cells cs 3 fr) ∧ X.cell? ⟨g, off + j, none⟩ = some (.int .i64 l[j])
theorem Gm.Ints.keep {X X' : World} {u : Value} {l : List Int} (h : Gm.Ints X u l) (hk : ∀ (g : Nat) (cs : Array Value) (fr : Nat × Nat), X.heap[g]? = some (Obj.cells cs 3 fr) → X'.heap[g]? = X.heap[g]?) : Gm.Ints X' u l := by
 obtain ⟨a, c, hu, h⟩ := h
 refine ⟨a, c, hu, fun j hj => ?_⟩
 obtain ⟨g, off, cs, fr, h1, h2, h3⟩ := h j hj
 have := hk g cs fr h2
 exact ⟨g, off, cs, fr, h1, this.trans h2, by rw [World.cell?_of_block (w := X) (a := ⟨g, off + j, none⟩) this]; exact h3⟩
theorem Gm.blk_lt {X : World} {g : Nat} {o : Obj} (h : X.heap[g]? = some o) : g < X.heap.size := (Array.getElem?_eq_some_iff.1 h).1
theorem Gm.Ints.below {X X' : World} {u : Value} {l : List Int} (h : Gm.Ints X u l) (hb : Below X.heap.size X X') : Gm.Ints X' u l := h.keep fun g _ _ hg => hb.block g (Gm.blk_lt hg)
theorem Gm.ints_own {X : World} {B : Nat} {v : Value} {l : List Int} (h : X.ownsRow B 3 1 v l.length (l.map fun n => .int .i64 n)) : Gm.Ints X v l := by
 rcases h with ⟨hl, ⟨hv, hn⟩ | ⟨g, cap, cur, hv, hB, hg, h4, h5, h6, h7⟩⟩
 ·exact ⟨none, 0, by rw [hv, hn], fun j hj => by omega⟩
 ·refine ⟨some ⟨g, 0, none⟩, cap, hv, fun j hj => ⟨g, 0, cur, (0, 0), rfl, hg, ?_⟩⟩
  rw [Nat.zero_add]
  simp only [World.cell?, hg]
  have h8 : (l.map fun n => Value.int .i64 n)[j]? = some (.int .i64 l[j]) := by simp [hj]
  rw [← h7, List.getElem?_take] at h8
  split at h8
  ·rw [Array.getElem?_toList] at h8; exact h8
  ·simp at h8
theorem Gm.ints_nums {X : World} {B : Nat} {v : Value} {l : List Nat} (h : X.ownsRow B 3 1 v l.length (Rk.nums l)) : Gm.Ints X v (l.map fun n : Nat => (n : Int)) := by
 refine Gm.ints_own (B := B) ?_
 have e : ((l.map fun n : Nat => (n : Int)).map fun n => Value.int .i64 n) = Rk.nums l := by simp [Rk.nums]
 rw [e, List.length_map]
 exact h
theorem Gm.ints_nil (X : World) : Gm.Ints X (.slice none 0 0) [] := ⟨none, 0, rfl, fun j hj => by simp at hj⟩
end Go.Proofs
