/-
  The contract of the reader's branch, out of term's one level below.
-/
import Derived.Test.YtehmmfmofdgheaaDoorTLeaf
import Derived.Deep.DeepCutAuto
namespace Go.Proofs
open Go.RowKit

namespace Tm
/-- As Lies, with all blocks from A on. -/
def LiesIn (w : World) (A B : Nat) : Nat → Value → Tm → Prop
  | 0, _, _ => False
  | d + 1, v, T => ∃ a cap, v = .slice a T.ks.length cap ∧ (T.ks = [] ∨ ∃ g off, a = some ⟨g, off, none⟩ ∧ A ≤ g ∧ g < B ∧
      ∀ j (h : j < T.ks.length), ∃ u, w.cell? ⟨g, off + j * 3, none⟩ = some (.int .i64 T.ks[j].op) ∧ w.cell? ⟨g, off + j * 3 + 1, none⟩ = some (.int .i64 T.ks[j].num) ∧
        w.cell? ⟨g, off + j * 3 + 2, none⟩ = some u ∧ LiesIn w A B d u T.ks[j])
theorem LiesIn.keep {w w' : World} {A B : Nat} (hk : ∀ k, A ≤ k → k < B → w'.heap[k]? = w.heap[k]?) : ∀ {d : Nat} {v : Value} {T : Tm}, LiesIn w A B d v T → LiesIn w' A B d v T
  | 0, _, _, h => h.elim
  | d + 1, v, T, h => by
    obtain ⟨a, cap, hv, h⟩ := h
    refine ⟨a, cap, hv, h.elim .inl fun ⟨g, off, ha, hA, hg, hr⟩ => .inr ⟨g, off, ha, hA, hg, fun j hj => ?_⟩⟩
    obtain ⟨u, h0, h1, h2, h3⟩ := hr j hj
    have hc : ∀ o, w'.cell? ⟨g, o, none⟩ = w.cell? ⟨g, o, none⟩ := fun o => World.cell?_of_block (w := w) (hk g hA hg)
    exact ⟨u, by rw [hc]; exact h0, by rw [hc]; exact h1, by rw [hc]; exact h2, LiesIn.keep hk h3⟩
theorem LiesIn.wider {w : World} {A A' B B' : Nat} (hA : A' ≤ A) (hB : B ≤ B') : ∀ {d : Nat} {v : Value} {T : Tm}, LiesIn w A B d v T → LiesIn w A' B' d v T
  | 0, _, _, h => h.elim
  | d + 1, v, T, h => by
    obtain ⟨a, cap, hv, h⟩ := h
    refine ⟨a, cap, hv, h.elim .inl fun ⟨g, off, ha, hg, hg', hr⟩ => .inr ⟨g, off, ha, by omega, by omega, fun j hj => ?_⟩⟩
    obtain ⟨u, h0, h1, h2, h3⟩ := hr j hj
    exact ⟨u, h0, h1, h2, LiesIn.wider hA hB h3⟩
theorem LiesIn.lies {w : World} {A B : Nat} : ∀ {d : Nat} {v : Value} {T : Tm}, LiesIn w A B d v T → Lies w B d v T
  | 0, _, _, h => h.elim
  | d + 1, v, T, h => by
    obtain ⟨a, cap, hv, h⟩ := h
    refine ⟨a, cap, hv, h.elim .inl fun ⟨g, off, ha, _, hg', hr⟩ => .inr ⟨g, off, ha, hg', fun j hj => ?_⟩⟩
    obtain ⟨u, h0, h1, h2, h3⟩ := hr j hj
    exact ⟨u, h0, h1, h2, LiesIn.lies h3⟩
end Tm

/-- What term and branch answer. -/
def Tk.Read (L b : Nat) (o : Option (Tm × List UInt8)) (w : World) (e : Ending) (w' : World) : Prop :=
  ∃ (op n : Int) (a : Option Addr) (len cap : Nat), e = .returned (.tuple #[.agg #[.int .i64 op, .int .i64 n, .slice a len cap], .bool o.isSome]) ∧ Tk.But (fun k => k = b) w w' ∧
    ∀ T r, o = some (T, r) → op = T.op ∧ n = T.num ∧ Tk.Rd b r w' ∧ r.length ≤ 20000 ∧ Tm.LiesIn w' w.heap.size w'.heap.size L (.slice a len cap) T
def Tk.TermC (L : Nat) : Prop := ∀ (b : Nat) (l : List UInt8) (w : World), Tk.Rd b l w → Tk.Ops w → 1 < b → l.length ≤ 20000 → Calls Tryd.prog 74 #[.pointer (some ⟨b, 0, none⟩), .int .i64 L] w fun e w' => Tk.Read L b (Tk.termF L l) w e w'

/-- Kids so far: the block g of kk terms holds ts first. -/
structure Tk.Kb (L kk g A : Nat) (ts : List Tm) (w : World) : Prop where
  box : ∃ cs t, w.heap[g]? = some (.cells cs t (0, 0)) ∧ cs.size = 3 * kk
  kids : ∀ j (h : j < ts.length), ∃ a n c, w.cell? ⟨g, j * 3, none⟩ = some (.int .i64 ts[j].op) ∧ w.cell? ⟨g, j * 3 + 1, none⟩ = some (.int .i64 ts[j].num) ∧ w.cell? ⟨g, j * 3 + 2, none⟩ = some (.slice a n c) ∧ Tm.LiesIn w A w.heap.size L (.slice a n c) ts[j]
theorem Tk.Kb.keep {L kk g A b : Nat} {ts : List Tm} {w w' : World} (h : Tk.Kb L kk g A ts w) (hg : g < w.heap.size) (hb : g ≠ b) (hA : b < A) (hB : Tk.But (fun k => k = b) w w') : Tk.Kb L kk g A ts w' := by
  have hgg := hB.block g hg hb
  refine ⟨?_, fun j hj => ?_⟩
  · obtain ⟨cs, t, h1, h2⟩ := h.box
    exact ⟨cs, t, by rw [hgg]; exact h1, h2⟩
  · obtain ⟨a, n, c, h0, h1, h2, h3⟩ := h.kids j hj
    have hc : ∀ o, w'.cell? ⟨g, o, none⟩ = w.cell? ⟨g, o, none⟩ := fun o => World.cell?_of_block (w := w) hgg
    exact ⟨a, n, c, by rw [hc]; exact h0, by rw [hc]; exact h1, by rw [hc]; exact h2, (h3.keep fun k hk hk' => hB.block k hk' (by omega)).wider (Nat.le_refl _) hB.size⟩
theorem Tk.Kb.at_ {L kk g A : Nat} {ts : List Tm} {w : World} (h : Tk.Kb L kk g A ts w) (k : Nat) (hk : k < kk) : (∃ x y z, w.cell? ⟨g, k * 3, none⟩ = some x ∧ w.cell? ⟨g, k * 3 + 1, none⟩ = some y ∧ w.cell? ⟨g, k * 3 + 2, none⟩ = some z) ∧
    w.frozen? ⟨g, k * 3, none⟩ = false ∧ w.frozen? ⟨g, k * 3 + 1, none⟩ = false ∧ w.frozen? ⟨g, k * 3 + 2, none⟩ = false := by
  obtain ⟨cs, t, h1, h2⟩ := h.box
  have e : ∀ o, o < cs.size → w.cell? ⟨g, o, none⟩ = some (cs.getD o undef) := fun o ho => by simp [World.cell?, h1, ho]
  exact ⟨⟨_, _, _, e _ (by omega), e _ (by omega), e _ (by omega)⟩, by simp [World.frozen?, h1], by simp [World.frozen?, h1], by simp [World.frozen?, h1]⟩
theorem Tk.set3_old (cs : Array Value) (p o : Nat) (x y z : Value) (h : o < p) : (((cs.setIfInBounds p x).setIfInBounds (p + 1) y).setIfInBounds (p + 2) z)[o]? = cs[o]? := by
  rw [Array.getElem?_setIfInBounds_ne (by omega), Array.getElem?_setIfInBounds_ne (by omega), Array.getElem?_setIfInBounds_ne (by omega)]
theorem Tk.set3_0 (cs : Array Value) (p : Nat) (x y z : Value) (h : p + 2 < cs.size) : (((cs.setIfInBounds p x).setIfInBounds (p + 1) y).setIfInBounds (p + 2) z)[p]? = some x := by
  rw [Array.getElem?_setIfInBounds_ne (by omega), Array.getElem?_setIfInBounds_ne (by omega), Array.getElem?_setIfInBounds_self_of_lt (by omega)]
theorem Tk.set3_1 (cs : Array Value) (p : Nat) (x y z : Value) (h : p + 2 < cs.size) : (((cs.setIfInBounds p x).setIfInBounds (p + 1) y).setIfInBounds (p + 2) z)[p + 1]? = some y := by
  rw [Array.getElem?_setIfInBounds_ne (by omega), Array.getElem?_setIfInBounds_self_of_lt (by rw [Array.size_setIfInBounds]; omega)]
theorem Tk.set3_2 (cs : Array Value) (p : Nat) (x y z : Value) (h : p + 2 < cs.size) : (((cs.setIfInBounds p x).setIfInBounds (p + 1) y).setIfInBounds (p + 2) z)[p + 2]? = some z := by
  rw [Array.getElem?_setIfInBounds_self_of_lt (by rw [Array.size_setIfInBounds, Array.size_setIfInBounds]; omega)]
theorem Tk.Kb.put {L kk g A : Nat} {ts : List Tm} {w : World} (h : Tk.Kb L kk g A ts w) (hk : ts.length < kk) (hA : g < A) {a : Option Addr} {n c : Nat} {T : Tm} (hT : Tm.LiesIn w A w.heap.size L (.slice a n c) T) :
    Tk.Kb L kk g A (ts ++ [T]) (((w.setCell ⟨g, ts.length * 3, none⟩ (.int .i64 T.op)).setCell ⟨g, ts.length * 3 + 1, none⟩ (.int .i64 T.num)).setCell ⟨g, ts.length * 3 + 2, none⟩ (.slice a n c)) := by
  obtain ⟨cs, t, h1, h2⟩ := h.box
  obtain ⟨w3, hw3⟩ : ∃ w3, w3 = ((w.setCell ⟨g, ts.length * 3, none⟩ (.int .i64 T.op)).setCell ⟨g, ts.length * 3 + 1, none⟩ (.int .i64 T.num)).setCell ⟨g, ts.length * 3 + 2, none⟩ (.slice a n c) := ⟨_, rfl⟩
  have hb : w3.heap[g]? = some (.cells (((cs.setIfInBounds (ts.length * 3) (.int .i64 T.op)).setIfInBounds (ts.length * 3 + 1) (.int .i64 T.num)).setIfInBounds (ts.length * 3 + 2) (.slice a n c)) t (0, 0)) := by
    rw [hw3]
    simp [World.setCell, Array.getElem?_modify, h1]
  have ho : ∀ k, k ≠ g → w3.heap[k]? = w.heap[k]? := fun k hk => by
    rw [hw3]
    simp [World.setCell, Array.getElem?_modify, Ne.symm hk]
  have hs : w3.heap.size = w.heap.size := by rw [hw3]; simp [World.setCell]
  rw [← hw3]
  have hc : ∀ o, w.cell? ⟨g, o, none⟩ = cs[o]? := fun o => by simp [World.cell?, h1]
  have hc3 : ∀ o, w3.cell? ⟨g, o, none⟩ = (((cs.setIfInBounds (ts.length * 3) (.int .i64 T.op)).setIfInBounds (ts.length * 3 + 1) (.int .i64 T.num)).setIfInBounds (ts.length * 3 + 2) (.slice a n c))[o]? := fun o => by simp [World.cell?, hb]
  refine ⟨⟨_, _, hb, by simpa using h2⟩, fun j hj => ?_⟩
  simp only [List.length_append, List.length_cons, List.length_nil] at hj
  by_cases e : j < ts.length
  · obtain ⟨a', n', c', k0, k1, k2, k3⟩ := h.kids j e
    rw [hc] at k0 k1 k2
    rw [List.getElem_append_left e]
    refine ⟨a', n', c', ?_, ?_, ?_, by rw [hs]; exact k3.keep fun k hk _ => ho k (by omega)⟩
    · rw [hc3, Tk.set3_old _ _ _ _ _ _ (by omega)]; exact k0
    · rw [hc3, Tk.set3_old _ _ _ _ _ _ (by omega)]; exact k1
    · rw [hc3, Tk.set3_old _ _ _ _ _ _ (by omega)]; exact k2
  · obtain rfl : j = ts.length := by omega
    rw [List.getElem_concat_length rfl]
    refine ⟨a, n, c, ?_, ?_, ?_, by rw [hs]; exact hT.keep fun k hk _ => ho k (by omega)⟩
    · rw [hc3, Tk.set3_0 _ _ _ _ _ (by omega)]
    · rw [hc3, Tk.set3_1 _ _ _ _ _ (by omega)]
    · rw [hc3, Tk.set3_2 _ _ _ _ _ (by omega)]

theorem Tk.But.setNew {E : Nat → Prop} {a w : World} (h : Tk.But E a w) {p : Addr} (hp : a.heap.size ≤ p.block) (u : Value) : Tk.But E a (w.setCell p u) :=
  ⟨h.os, h.tape, h.output, by have := h.size; simp [World.setCell]; exact this, fun k hk he => (Below.heap_setCell _ _ _ _ (by omega)).trans (h.block k hk he)⟩
theorem Tk.kidsF_end (f : List UInt8 → Option (Tm × List UInt8)) (l : List UInt8) (ts : List Tm) : (Tk.kidsF f 0 l).map (fun p => (ts ++ p.1, p.2)) = some (ts, l) := by
  simp [Tk.kidsF]
theorem Tk.kidsF_no (f : List UInt8 → Option (Tm × List UInt8)) (m : Nat) (l : List UInt8) (ts : List Tm) (h : Lib.hasPrefix l [32] = false) : (Tk.kidsF f (m + 1) l).map (fun p => (ts ++ p.1, p.2)) = none := by
  simp [Tk.kidsF, h]
theorem Tk.kidsF_none (f : List UInt8 → Option (Tm × List UInt8)) (m : Nat) (l : List UInt8) (ts : List Tm) (h' : f (l.drop 1) = none) : (Tk.kidsF f (m + 1) l).map (fun p => (ts ++ p.1, p.2)) = none := by
  rw [Tk.kidsF, h']; split <;> rfl
theorem Tk.kidsF_some (f : List UInt8 → Option (Tm × List UInt8)) (m : Nat) (l : List UInt8) (ts : List Tm) (T : Tm) (r : List UInt8) (h : Lib.hasPrefix l [32] = true) (h' : f (l.drop 1) = some (T, r)) :
    (Tk.kidsF f (m + 1) l).map (fun p => (ts ++ p.1, p.2)) = (Tk.kidsF f m r).map (fun p => ((ts ++ [T]) ++ p.1, p.2)) := by
  rw [Tk.kidsF, h', h, if_neg (by decide)]
  cases hq : Tk.kidsF f m r with
  | none => simp only [hq]; rfl
  | some p => obtain ⟨x, y⟩ := p; simp [hq]
theorem Tk.Kb.same {L kk g A : Nat} {ts : List Tm} {w w' : World} (h : Tk.Kb L kk g A ts w) (hh : w'.heap = w.heap) : Tk.Kb L kk g A ts w' := by
  refine ⟨?_, fun j hj => ?_⟩
  · rw [hh]; exact h.box
  · obtain ⟨a, n, c, h0, h1, h2, h3⟩ := h.kids j hj
    have hc : ∀ o, w'.cell? ⟨g, o, none⟩ = w.cell? ⟨g, o, none⟩ := fun o => World.cell?_of_block (w := w) (by rw [hh])
    exact ⟨a, n, c, by rw [hc]; exact h0, by rw [hc]; exact h1, by rw [hc]; exact h2, by rw [hh]; exact h3.keep fun k _ _ => by rw [hh]⟩

theorem Tk.Kb.high {L kk g A : Nat} {ts : List Tm} {w w' : World} (h : Tk.Kb L kk g A ts w) (hA : g ≤ A) (he : ∀ k, g ≤ k → w'.heap[k]? = w.heap[k]?) (hs : w.heap.size ≤ w'.heap.size) : Tk.Kb L kk g A ts w' := by
  refine ⟨?_, fun j hj => ?_⟩
  · rw [he g (Nat.le_refl _)]; exact h.box
  · obtain ⟨a, n, c, h0, h1, h2, h3⟩ := h.kids j hj
    have hc : ∀ o, w'.cell? ⟨g, o, none⟩ = w.cell? ⟨g, o, none⟩ := fun o => World.cell?_of_block (w := w) (he g (Nat.le_refl _))
    exact ⟨a, n, c, by rw [hc]; exact h0, by rw [hc]; exact h1, by rw [hc]; exact h2, (h3.keep fun k hk _ => he k (by omega)).wider (Nat.le_refl _) hs⟩
theorem Tk.Kb.lies {L kk g A A' : Nat} {ts : List Tm} {w : World} {op : Int} (h : Tk.Kb L kk g A ts w) (hk : ts.length = kk) (hg : g < w.heap.size) (h1 : A' ≤ g) (h2 : A' ≤ A) : Tm.LiesIn w A' w.heap.size (L + 1) (.slice (some ⟨g, 0, none⟩) kk kk) (.mk op 0 ts) := by
  subst hk
  refine ⟨_, _, rfl, .inr ⟨g, 0, rfl, h1, hg, fun j hj => ?_⟩⟩
  obtain ⟨a, n, c, k0, k1, k2, k3⟩ := h.kids j hj
  rw [Nat.zero_add]
  exact ⟨_, k0, k1, k2, k3.wider h2 (Nat.le_refl _)⟩

/-- What holds ahead of a round of branch. -/
structure Tk.BrAt (L b kk op : Nat) (w W2 : World) (f0 : Option (List Tm × List UInt8)) (ts : List Tm) (lr : List UInt8) (wr : World) : Prop where
  rd : Tk.Rd b lr wr
  len : lr.length ≤ 20000
  kb : Tk.Kb L kk W2.heap.size (W2.heap.size + 2) ts wr
  eq : f0 = (Tk.kidsF (Tk.termF L) (kk - ts.length) lr).map (fun p => (ts ++ p.1, p.2))
  but : Tk.But (fun k => k = b) w wr
  ops : Tk.Ops wr
  res : wr.heap[w.heap.size]? = some (.cells #[.int .i64 0, .int .i64 0, .slice none 0 0] 37 (0, 0))
  var : wr.heap[W2.heap.size + 1]? = some (.cells #[.int .i64 op, .int .i64 0, .slice (some ⟨W2.heap.size, 0, none⟩) kk kk] 37 (0, 0))
  big : W2.heap.size + 2 ≤ wr.heap.size

theorem Tryd.make_kids (kk : Nat) (h1 : 1 ≤ kk) (h2 : kk ≤ 2) : ∃ cs : Array Value, cs.size = 3 * kk ∧ ∀ w : World, (Instr.makeSlice 35 (.int .i64 kk) (.int .i64 kk)).run Tryd.prog w = .ok (.slice (some ⟨w.heap.size, 0, none⟩) kk kk) (w.alloc (.cells cs 37)) := by
  obtain rfl | rfl : kk = 1 ∨ kk = 2 := by omega
  · exact ⟨#[.int .i64 0, .int .i64 0, .slice none 0 0], rfl, fun _ => by kernel_rfl⟩
  · exact ⟨#[.int .i64 0, .int .i64 0, .slice none 0 0, .int .i64 0, .int .i64 0, .slice none 0 0], rfl, fun _ => by kernel_rfl⟩

set_option maxHeartbeats 4000000 in
set_option maxRecDepth 20000 in
theorem Tryd.branch_any (L : Nat) (hTC : Tk.TermC L) (b : Nat) (l : List UInt8) (w : World) (hR : Tk.Rd b l w) (hO : Tk.Ops w) (hb0 : 1 < b) (hl : l.length ≤ 20000) (hL : L ≤ 100) :
    Calls Tryd.prog 83 #[.pointer (some ⟨b, 0, none⟩), .int .i64 ((L : Int) + 1)] w fun e w' => Tk.Read (L + 1) b
      (if Tk.namedL (Tk.wordL l) = 0 then none else
        match Tk.kidsF (Tk.termF L) (Tm.kidsOf (Tk.namedL (Tk.wordL l))) (l.drop (Tk.wordL l).length) with
        | none => none
        | some (ks, r) => if Lib.hasPrefix r [41] = true then some (.mk (Tk.namedL (Tk.wordL l)) 0 ks, r.drop 1) else none) w e w' := by
  have HTC : Hid (Tk.TermC L) := hTC
  have HB0 : Hid (Tk.But (fun k => k = b) w (w.alloc (.cells #[.int .i64 0, .int .i64 0, .slice none 0 0] 37))) := (Tk.But.refl _ w).alloc _
  have HR0 : Hid (Tk.Rd b l (w.alloc (.cells #[.int .i64 0, .int .i64 0, .slice none 0 0] 37))) := hR.keep (Below.heap_alloc _ _ _ hR.lt)
  have HO0 : Hid (Tk.Ops (w.alloc (.cells #[.int .i64 0, .int .i64 0, .slice none 0 0] 37))) := hO.keep (Below.heap_alloc _ _ _ hO.lt)
  have HN0 : Hid ((w.alloc (.cells #[.int .i64 0, .int .i64 0, .slice none 0 0] 37)).heap[w.heap.size]? = some (.cells #[.int .i64 0, .int .i64 0, .slice none 0 0] 37 (0, 0))) := heap_alloc_new w _
  have HS0 : Hid ((w.alloc (.cells #[.int .i64 0, .int .i64 0, .slice none 0 0] 37)).heap.size = w.heap.size + 1) := by show _ = _; simp
  have HLT : Hid (b < w.heap.size) := hR.lt
  have HB : Hid (1 < b) := hb0
  have HL : Hid (l.length ≤ 20000) := hl
  have H1 : Hid (∀ W, Tk.Rd b l W → Calls Tryd.prog 85 #[.pointer (some ⟨b, 0, none⟩)] W fun e w' => e = .returned (.string ⟨(Tk.wordL l).toArray⟩) ∧ Tk.Rd b (l.drop (Tk.wordL l).length) w' ∧ Tk.But (fun k => k = b) W w') := fun W h => Tryd.word_any b l W h hl
  obtain ⟨wd, hwd⟩ : ∃ x, Tk.wordL l = x := ⟨_, rfl⟩
  obtain ⟨l1, hl1⟩ : ∃ x, l.drop wd.length = x := ⟨_, rfl⟩
  rw [hwd, hl1] at H1 ⊢
  have H2 : Hid (∀ W, Tk.Ops W → Calls Tryd.prog 89 #[.string ⟨wd.toArray⟩] W fun e w' => e = .returned (.int .i64 (Tk.namedL wd)) ∧ Below W.heap.size W w') := fun W h => Tryd.named_any wd W h
  obtain ⟨s1, hs1⟩ : ∃ s : ByteArray, s = ⟨wd.toArray⟩ := ⟨_, rfl⟩
  have hnr := Tk.named_range wd
  obtain ⟨op, hop⟩ : ∃ x, Tk.namedL wd = x := ⟨_, rfl⟩
  rw [← hs1] at H1 H2
  rw [hop] at H2 hnr ⊢
  have HL1 : Hid (l1.length ≤ 20000) := by show _ ≤ _; rw [← hl1, List.length_drop]; omega
  obtain ⟨o, ho⟩ : ∃ x, (if op = 0 then none else
        match Tk.kidsF (Tk.termF L) (Tm.kidsOf op) l1 with
        | none => none
        | some (ks, r) => if Lib.hasPrefix r [41] = true then some (Tm.mk op 0 ks, r.drop 1) else none) = x := ⟨_, rfl⟩
  have HQ : Hid (_ = o) := ho
  rw [ho]
  clear hTC hR hO hb0 hl hwd hl1 hs1 hop ho
  go_enter Tryd.func83, Tryd.ntmps83
  go_wp2_with fail
  refine Calls.mono (H1.out _ HR0.out) ?_
  rintro e W1 ⟨rfl, hr1, hb1⟩
  have HR1 : Hid (Tk.Rd b l1 W1) := hr1
  have HB1 : Hid (Tk.But (fun k => k = b) w W1) := HB0.out.trans hb1
  have HO1 : Hid (Tk.Ops W1) := HO0.out.keep (hb1.block 1 HO0.out.lt (by have := HB.out; omega))
  have HN1 : Hid (W1.heap[w.heap.size]? = some (.cells #[.int .i64 0, .int .i64 0, .slice none 0 0] 37 (0, 0))) := (hb1.block w.heap.size (by have := HS0.out; omega) (by have := HLT.out; omega)).trans HN0.out
  clear hr1 hb1
  go_wp2_with fail
  refine Calls.mono (H2.out _ HO1.out) ?_
  rintro e W2 ⟨rfl, hb2⟩
  have HR2 : Hid (Tk.Rd b l1 W2) := HR1.out.keep (hb2.block b HR1.out.lt)
  have HB2 : Hid (Tk.But (fun k => k = b) w W2) := HB1.out.trans (Tk.But.of_below hb2)
  have HO2 : Hid (Tk.Ops W2) := HO1.out.keep (hb2.block 1 HO1.out.lt)
  have HN2 : Hid (W2.heap[w.heap.size]? = some (.cells #[.int .i64 0, .int .i64 0, .slice none 0 0] 37 (0, 0))) := (hb2.block w.heap.size (Array.getElem?_eq_some_iff.1 HN1.out).1).trans HN1.out
  clear hb2
  by_cases hz : op = 0
  · have HE : Hid (none = o) := by have := HQ.out; rw [if_pos hz] at this; exact this
    clear HQ
    subst hz
    obtain ⟨⟨z0, z1, z2⟩, y0, y1, y2⟩ := Tk.row3 HN2.out
    go_wp2
    refine bodyPost_ret (Tk.results_term Tryd.results83 _ _ w.heap.size _ _ _ rfl (Tk.put3 HN2.out)) rfl ?_
    rw [← HE.out]
    exact ⟨_, _, _, _, _, rfl, ((HB2.out.setNew (Nat.le_refl _) _).setNew (Nat.le_refl _) _).setNew (Nat.le_refl _) _, fun T r h => by cases h⟩
  · have ho3 : 3 ≤ op := by omega
    have ho14 : op ≤ 14 := by omega
    obtain ⟨tx, c0, c1, c2, c3, c4⟩ := HO2.out.cells op (by omega) ho14
    have hk : Tm.kidsOf op = 1 ∨ Tm.kidsOf op = 2 := by unfold Tm.kidsOf; (repeat' split) <;> omega
    obtain ⟨kk, hkk⟩ : ∃ x, Tm.kidsOf op = x := ⟨_, rfl⟩
    rw [hkk] at c1 hk
    have hk1 : 1 ≤ kk := by omega
    have hk2 : kk ≤ 2 := by omega
    obtain ⟨cs, hcs, hmk⟩ := Tryd.make_kids kk hk1 hk2
    clear hk hnr
    have HW2 : Hid (w.heap.size < W2.heap.size) := (Array.getElem?_eq_some_iff.1 HN2.out).1
    have HBlt : Hid (b < W2.heap.size) := HR2.out.lt
    obtain ⟨f0, hf0⟩ : ∃ x, Tk.kidsF (Tk.termF L) kk l1 = x := ⟨_, rfl⟩
    have HZ : Hid (op ≠ 0) := hz
    have hz2 : ((op : Int) == 0) = false := by simpa using hz
    rw [if_neg hz, hkk, hf0] at HQ
    have HI : Hid (Tk.BrAt L b kk op w W2 f0 [] l1 ((W2.alloc (.cells cs 37)).alloc (.cells #[.int .i64 op, .int .i64 0, .slice (some ⟨W2.heap.size, 0, none⟩) kk kk] 37))) := by
      have e : ∀ k, k < W2.heap.size → ((W2.alloc (.cells cs 37)).alloc (.cells #[.int .i64 op, .int .i64 0, .slice (some ⟨W2.heap.size, 0, none⟩) kk kk] 37)).heap[k]? = W2.heap[k]? := fun k hk =>
        (Below.heap_alloc _ _ _ (by simp; omega)).trans (Below.heap_alloc _ _ _ hk)
      refine ⟨HR2.out.keep (e b HBlt.out), HL1.out, ⟨⟨cs, 37, ?_, hcs⟩, fun j hj => by simp at hj⟩, ?_, (HB2.out.alloc _).alloc _, HO2.out.keep (e 1 HO2.out.lt), (e _ HW2.out).trans HN2.out, ?_, by simp⟩
      · exact (Below.heap_alloc _ _ _ (by simp)).trans (heap_alloc_new W2 _)
      · rw [← hf0]
        cases hq : Tk.kidsF (Tk.termF L) kk l1 with
        | none => simp
        | some p => simp
      · have := heap_alloc_new (W2.alloc (.cells cs 37)) (.cells #[.int .i64 op, .int .i64 0, .slice (some ⟨W2.heap.size, 0, none⟩) kk kk] 37)
        simpa using this
    clear hcs hz hf0 HR2 HB2 HO2 HN2 HR1 HB1 HO1 HN1 hkk
    go_wp2
    clear c0 c1 c2 c3 c4 hmk HR0 HB0 HO0 HN0 H1 H2
    go_loopg [27] kk (fun gk i wr => ∃ (k : Nat) (ts : List Tm) (lr : List UInt8), gk + k = kk ∧ i = .int .i64 k ∧ ts.length = k ∧ Hid (Tk.BrAt L b kk op w W2 f0 ts lr wr))
    case atStart => exact ⟨0, [], l1, by omega, rfl, rfl, HI.out⟩
    case round =>
      obtain ⟨k, ts, lr, hgk, rfl, hts, HX⟩ := hrel
      by_cases hk : k < kk
      · have HS : Hid (∀ W, Tk.Rd b lr W → Calls Tryd.prog 82 #[.pointer (some ⟨b, 0, none⟩), .string ⟨#[32]⟩] W fun e w' => e = .returned (.bool (Lib.hasPrefix lr [32])) ∧ Tk.Rd b (Lib.trimPrefix lr [32]) w' ∧ Tk.But (fun k => k = b) W w') := fun W h => Tryd.skip_any b lr ⟨#[32]⟩ W h
        go_wp2_with fail
        refine Calls.mono (HS.out _ HX.out.rd) ?_
        rintro e W3 ⟨rfl, r3, b3⟩
        have HB3 : Hid (Tk.But (fun k => k = b) w W3) := HX.out.but.trans b3
        have HKB3 : Hid (Tk.Kb L kk W2.heap.size (W2.heap.size + 2) ts W3) := HX.out.kb.keep (by have := HX.out.big; omega) (by have := HBlt.out; omega) (by have := HBlt.out; omega) b3
        have HN3 : Hid (W3.heap[w.heap.size]? = some (.cells #[.int .i64 0, .int .i64 0, .slice none 0 0] 37 (0, 0))) := (b3.block _ (Array.getElem?_eq_some_iff.1 HX.out.res).1 (by have := HLT.out; omega)).trans HX.out.res
        have HV3 : Hid (W3.heap[W2.heap.size + 1]? = some (.cells #[.int .i64 op, .int .i64 0, .slice (some ⟨W2.heap.size, 0, none⟩) kk kk] 37 (0, 0))) := (b3.block _ (Array.getElem?_eq_some_iff.1 HX.out.var).1 (by have := HBlt.out; omega)).trans HX.out.var
        have HO3 : Hid (Tk.Ops W3) := HX.out.ops.keep (b3.block 1 HX.out.ops.lt (by have := HB.out; omega))
        have HG3 : Hid (W2.heap.size + 2 ≤ W3.heap.size) := Nat.le_trans HX.out.big b3.size
        have HR3 : Hid (Tk.Rd b (Lib.trimPrefix lr [32]) W3) := r3
        clear r3 b3
        obtain ⟨m, hm⟩ : ∃ m, kk - k = m + 1 := ⟨kk - k - 1, by omega⟩
        cases hp : Lib.hasPrefix lr [32]
        · have HE : Hid (none = o) := by
            have h1 := HX.out.eq
            rw [hts, hm, Tk.kidsF_no _ _ _ _ hp] at h1
            have := HQ.out
            rw [h1] at this
            exact this
          obtain ⟨⟨z0, z1, z2⟩, y0, y1, y2⟩ := Tk.row3 HN3.out
          go_wp2
          refine bodyPost_ret (Tk.results_term Tryd.results83 _ _ w.heap.size _ _ _ rfl (Tk.put3 HN3.out)) rfl ?_
          rw [← HE.out]
          exact ⟨_, _, _, _, _, rfl, ((HB3.out.setNew (Nat.le_refl _) _).setNew (Nat.le_refl _) _).setNew (Nat.le_refl _) _, fun T r h => by cases h⟩
        · have HR3' : Hid (Tk.Rd b (lr.drop 1) W3) := by
            have h1 := HR3.out
            unfold Lib.trimPrefix at h1
            rw [if_pos hp] at h1
            exact h1
          have HC : Hid _ := HTC.out b (lr.drop 1) W3 HR3'.out HO3.out HB.out (by have := HX.out.len; rw [List.length_drop]; omega)
          have HP : Hid (Lib.hasPrefix lr [32] = true) := hp
          clear hp
          go_wp2_with fail
          refine Calls.mono HC.out ?_
          rintro e W4 ⟨op', n', a', len', cap', rfl, b4, h4⟩
          have HB4 : Hid (Tk.But (fun k => k = b) w (W4.alloc (.cells #[.int .i64 op', .int .i64 n', .slice a' len' cap'] 37))) := (HB3.out.trans b4).alloc _
          have e4 : ∀ k, k < W3.heap.size → k ≠ b → (W4.alloc (.cells #[.int .i64 op', .int .i64 n', .slice a' len' cap'] 37)).heap[k]? = W3.heap[k]? := fun k hk hne => (Below.heap_alloc _ _ _ (Nat.lt_of_lt_of_le hk b4.size)).trans (b4.block k hk hne)
          have HN4 : Hid _ := (e4 _ (Array.getElem?_eq_some_iff.1 HN3.out).1 (by have := HLT.out; omega)).trans HN3.out
          obtain ⟨⟨z0, z1, z2⟩, y0, y1, y2⟩ := Tk.row3 HN4.out
          cases hq : Tk.termF L (lr.drop 1) with
          | none =>
            have HE : Hid (none = o) := by
              have h1 := HX.out.eq
              rw [hts, hm, Tk.kidsF_none _ _ _ _ hq] at h1
              have := HQ.out
              rw [h1] at this
              exact this
            simp only [Option.isSome_none]
            go_wp2
            refine bodyPost_ret (Tk.results_term Tryd.results83 _ _ w.heap.size _ _ _ rfl (Tk.put3 HN4.out)) rfl ?_
            rw [← HE.out]
            exact ⟨_, _, _, _, _, rfl, ((HB4.out.setNew (Nat.le_refl _) _).setNew (Nat.le_refl _) _).setNew (Nat.le_refl _) _, fun T r h => by cases h⟩
          | some p =>
            obtain ⟨T, r⟩ := p
            obtain ⟨rfl, rfl, hr4, hlen4, hlies⟩ := h4 T r hq
            have HV4 : Hid _ := (e4 _ (Array.getElem?_eq_some_iff.1 HV3.out).1 (by have := HBlt.out; omega)).trans HV3.out
            obtain ⟨⟨v0, v1, v2⟩, _⟩ := Tk.row3 HV4.out
            have HKB4 : Hid (Tk.Kb L kk W2.heap.size (W2.heap.size + 2) ts (W4.alloc (.cells #[.int .i64 T.op, .int .i64 T.num, .slice a' len' cap'] 37))) := HKB3.out.keep (by have := HG3.out; omega) (by have := HBlt.out; omega) (by have := HBlt.out; omega) (b4.alloc _)
            obtain ⟨⟨x0, x1, x2, k0, k1, k2⟩, q0, q1, q2⟩ := HKB4.out.at_ k hk
            have HE : Hid (f0 = (Tk.kidsF (Tk.termF L) m r).map (fun p => ((ts ++ [T]) ++ p.1, p.2))) := by
              have h1 := HX.out.eq
              rw [hts, hm, Tk.kidsF_some _ _ _ _ _ _ HP.out hq] at h1
              exact h1
            simp only [Option.isSome_some]
            go_wp2
            go_roundg (gk - 1)
            case measure => omega
            case rel =>
              subst hts
              have e5 : ∀ q, q ≠ W2.heap.size → ((((W4.alloc (.cells #[.int .i64 T.op, .int .i64 T.num, .slice a' len' cap'] 37)).setCell ⟨W2.heap.size, ts.length * 3, none⟩ (.int .i64 T.op)).setCell ⟨W2.heap.size, ts.length * 3 + 1, none⟩ (.int .i64 T.num)).setCell ⟨W2.heap.size, ts.length * 3 + 2, none⟩ (.slice a' len' cap')).heap[q]? = (W4.alloc (.cells #[.int .i64 T.op, .int .i64 T.num, .slice a' len' cap'] 37)).heap[q]? := fun q hq =>
                (Below.heap_setCell _ _ _ _ hq).trans ((Below.heap_setCell _ _ _ _ hq).trans (Below.heap_setCell _ _ _ _ hq))
              have hlt := HLT.out
              have hblt := HBlt.out
              have hw2 := HW2.out
              have hg3 := HG3.out
              have hz4 := b4.size
              refine ⟨ts.length + 1, ts ++ [T], r, by omega, by go_num, by simp, ⟨?_, hlen4, ?_, ?_, ?_, ?_, ?_, ?_, ?_⟩⟩
              · exact hr4.keep ((e5 b (by omega)).trans (Below.heap_alloc _ _ _ hr4.lt))
              · exact HKB4.out.put hk (by omega) ((hlies.keep fun q _ hq => Below.heap_alloc _ _ _ hq).wider hg3 (by simp))
              · rw [show kk - (ts ++ [T]).length = m by simp; omega]; exact HE.out
              · exact ((HB4.out.setNew (by show _ ≤ W2.heap.size; omega) _).setNew (by show _ ≤ W2.heap.size; omega) _).setNew (by show _ ≤ W2.heap.size; omega) _
              · exact HO3.out.keep ((e5 1 (by omega)).trans (e4 1 HO3.out.lt (by have := HB.out; omega)))
              · exact (e5 _ (by omega)).trans HN4.out
              · exact (e5 _ (by omega)).trans HV4.out
              · simp [World.setCell]; omega
      · have HEQ : Hid (f0 = some (ts, lr)) := by
          have h1 := HX.out.eq
          rw [show kk - ts.length = 0 by omega, Tk.kidsF_end] at h1
          exact h1
        have HQ2 : Hid ((if Lib.hasPrefix lr [41] = true then some (Tm.mk op 0 ts, lr.drop 1) else none) = o) := by
          have := HQ.out
          rw [HEQ.out] at this
          exact this
        obtain ⟨⟨v0, v1, v2⟩, _⟩ := Tk.row3 HX.out.var
        obtain ⟨hp, hhp⟩ : ∃ x, Lib.hasPrefix lr [41] = x := ⟨_, rfl⟩
        have CL : Hid (∀ W, W.heap = wr.heap → Tk.But (fun k => k = b) w W → Calls Tryd.prog 82 #[.pointer (some ⟨b, 0, none⟩), .string ⟨#[41]⟩] W fun e w' => e = .returned (.bool hp) ∧ Tk.Rd b (Lib.trimPrefix lr [41]) w' ∧ Tk.But (fun k => k = b) w w' ∧
            Tk.Kb L kk W2.heap.size (W2.heap.size + 2) ts w' ∧ w'.heap[w.heap.size]? = some (.cells #[.int .i64 0, .int .i64 0, .slice none 0 0] 37 (0, 0)) ∧ ((w'.cell? ⟨w.heap.size, 0, none⟩ = some (.int .i64 0) ∧ w'.cell? ⟨w.heap.size, 1, none⟩ = some (.int .i64 0) ∧ w'.cell? ⟨w.heap.size, 2, none⟩ = some (.slice none 0 0)) ∧ (w'.frozen? ⟨w.heap.size, 0, none⟩ = false ∧ w'.frozen? ⟨w.heap.size, 1, none⟩ = false ∧ w'.frozen? ⟨w.heap.size, 2, none⟩ = false)) ∧
            (w'.cell? ⟨W2.heap.size + 1, 0, none⟩ = some (.int .i64 op) ∧ w'.cell? ⟨W2.heap.size + 1, 1, none⟩ = some (.int .i64 0) ∧ w'.cell? ⟨W2.heap.size + 1, 2, none⟩ = some (.slice (some ⟨W2.heap.size, 0, none⟩) kk kk)) ∧ W2.heap.size + 2 ≤ w'.heap.size) := by
          intro W hW hbW
          have hlt := HLT.out
          have hblt := HBlt.out
          have hrd : Tk.Rd b lr W := HX.out.rd.keep (by rw [hW])
          refine (Tryd.skip_any b lr ⟨#[41]⟩ W hrd).mono fun e w' ⟨he, h1, h2⟩ => ?_
          have hres : W.heap[w.heap.size]? = _ := (show W.heap[w.heap.size]? = wr.heap[w.heap.size]? by rw [hW]).trans HX.out.res
          have hvar : W.heap[W2.heap.size + 1]? = _ := (show W.heap[W2.heap.size + 1]? = wr.heap[W2.heap.size + 1]? by rw [hW]).trans HX.out.var
          have hbig : W2.heap.size + 2 ≤ W.heap.size := by rw [hW]; exact HX.out.big
          have hres' := (h2.block _ (Array.getElem?_eq_some_iff.1 hres).1 (by omega)).trans hres
          have hvar' := (h2.block _ (Array.getElem?_eq_some_iff.1 hvar).1 (by omega)).trans hvar
          refine ⟨he.trans (by rw [← hhp]), h1, hbW.trans h2, (HX.out.kb.same hW).keep (by omega) (by omega) (by omega) h2, hres', Tk.row3 hres', (Tk.row3 hvar').1, Nat.le_trans hbig h2.size⟩
        have HBW : Hid (Tk.But (fun k => k = b) w wr) := HX.out.but
        go_upto_region 15 with fail
        go_region_with (first | (go_at_call 82; refine Calls.mono (CL.out _ rfl (by first | exact HBW.out | exact HBW.out.drewN _)) ?_; rintro e W5 ⟨rfl, r5, b5, k5, n5, ⟨⟨z0, z1, z2⟩, y0, y1, y2⟩, ⟨x0, x1, x2⟩, g5⟩) | fail)
        all_goals
          have R5 : Hid (Tk.Rd b (Lib.trimPrefix lr [41]) W5) := r5
          have B5 : Hid (Tk.But (fun k => k = b) w W5) := b5
          have K5 : Hid (Tk.Kb L kk W2.heap.size (W2.heap.size + 2) ts W5) := k5
          have N5 : Hid (W5.heap[w.heap.size]? = some (.cells #[.int .i64 0, .int .i64 0, .slice none 0 0] 37 (0, 0))) := n5
          have G5 : Hid (W2.heap.size + 2 ≤ W5.heap.size) := g5
          clear r5 b5 k5 n5 g5
          go_wp2
          refine bodyPost_ret (Tk.results_term Tryd.results83 _ _ w.heap.size _ _ _ rfl (Tk.put3 N5.out)) rfl ?_
          have hw2 := HW2.out
          have hblt := HLT.out
          have hg5 := G5.out
          have e6 : ∀ q, q ≠ w.heap.size → (((W5.setCell ⟨w.heap.size, 0, none⟩ (.int .i64 op)).setCell ⟨w.heap.size, 1, none⟩ (.int .i64 0)).setCell ⟨w.heap.size, 2, none⟩ (.slice (some ⟨W2.heap.size, 0, none⟩) kk kk)).heap[q]? = W5.heap[q]? := fun q hq =>
            (Below.heap_setCell _ _ _ _ hq).trans ((Below.heap_setCell _ _ _ _ hq).trans (Below.heap_setCell _ _ _ _ hq))
          have s6 : (((W5.setCell ⟨w.heap.size, 0, none⟩ (.int .i64 op)).setCell ⟨w.heap.size, 1, none⟩ (.int .i64 0)).setCell ⟨w.heap.size, 2, none⟩ (.slice (some ⟨W2.heap.size, 0, none⟩) kk kk)).heap.size = W5.heap.size := by simp [World.setCell]
          have ho := HQ2.out
          rw [hhp] at ho
          rw [← ho]
          refine ⟨op, 0, some ⟨W2.heap.size, 0, none⟩, kk, kk, ?_, ((B5.out.setNew (Nat.le_refl _) _).setNew (Nat.le_refl _) _).setNew (Nat.le_refl _) _, fun T r h => ?_⟩
          · cases hp <;> rfl
          · cases hp with
            | false => simp at h
            | true =>
              simp only [if_true, Option.some.injEq, Prod.mk.injEq] at h
              obtain ⟨rfl, rfl⟩ := h
              have r5 := R5.out
              unfold Lib.trimPrefix at r5
              rw [if_pos hhp] at r5
              exact ⟨rfl, rfl, r5.keep (e6 b (by omega)), by have := HX.out.len; rw [List.length_drop]; omega, (K5.out.high (by omega) (fun q hq => e6 q (by omega)) (by rw [s6]; omega)).lies (by omega) (by rw [s6]; omega) (by omega) (by omega)⟩

end Go.Proofs
