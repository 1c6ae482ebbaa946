/-
  The program's clock and the document's side by side; does: a step, done by both.
-/
import Derived.Test.YtclpdhjchnbolaaCsMath
import Derived.Deep.RegionHeld3
namespace Go.Proofs
open Go.RowKit Go.Shelf Go.Sort

/-- A clock of the one is none of the other's, nor is a row. -/
theorem Cs.far {B B' c q : Nat} {v u : Value} {now now' : Int} {L M : List Ck.Al} {w : World} (h : Ck.At B c v now L w) (k : Cd.At B' q u now' M w) : c ≠ q ∧ v.ownBlock ≠ some q ∧ u.ownBlock ≠ some c ∧ ∀ g, v.ownBlock = some g → u.ownBlock ≠ some g := by
  have rv : ∀ g, v.ownBlock = some g → ∃ cur f, w.heap[g]? = some (.cells cur 62 f) := fun g e => by
    rcases h.row.2 with ⟨rfl, _⟩ | ⟨g', cap, cur, rfl, _, h4, _⟩
    · cases e
    · have : g' = g := by simpa [Value.ownBlock] using e
      subst this
      exact ⟨_, _, h4⟩
  have ru : ∀ g, u.ownBlock = some g → ∃ cur f, w.heap[g]? = some (.cells cur 40 f) := fun g e => by
    rcases k.row.2 with ⟨rfl, _⟩ | ⟨g', cap, cur, rfl, _, h4, _⟩
    · cases e
    · have : g' = g := by simpa [Value.ownBlock] using e
      subst this
      exact ⟨_, _, h4⟩
  refine ⟨fun e => ?_, fun e => ?_, fun e => ?_, fun g e e2 => ?_⟩
  · have h1 := h.blk
    rw [e, k.blk] at h1
    simp at h1
  · obtain ⟨cur, f, h1⟩ := rv _ e
    rw [k.blk] at h1
    simp at h1
  · obtain ⟨cur, f, h1⟩ := ru _ e
    rw [h.blk] at h1
    simp at h1
  · obtain ⟨cur, f, h1⟩ := rv _ e
    obtain ⟨cur', f', h2⟩ := ru _ e2
    rw [h1] at h2
    simp at h2
theorem Cs.stepA {B B' c q : Nat} {v u : Value} {now now' : Int} {L M : List Ck.Al} {w w' : World} (h : Ck.At B c v now L w) (k : Cd.At B' q u now' M w) (hb : Tk.But (fun x => x = c ∨ v.ownBlock = some x) w w') : Cd.At B' q u now' M w' := by
  obtain ⟨h1, h2, h3, h4⟩ := Cs.far h k
  refine k.but hb (by rintro (e | e); exact h1 e.symm; exact h2 e) fun b e => ?_
  rintro (e2 | e2)
  · exact h3 (by rw [e, e2])
  · exact h4 b e2 e
theorem Cs.stepB {B B' c q : Nat} {v u : Value} {now now' : Int} {L M : List Ck.Al} {w w' : World} (h : Ck.At B c v now L w) (k : Cd.At B' q u now' M w) (hb : Tk.But (fun x => x = q ∨ u.ownBlock = some x) w w') : Ck.At B c v now L w' := by
  obtain ⟨h1, h2, h3, h4⟩ := Cs.far h k
  refine h.but hb (by rintro (e | e); exact h1 e; exact h3 e) fun b e => ?_
  rintro (e2 | e2)
  · exact h2 (by rw [e, e2])
  · exact h4 b e e2
theorem Cs.belowA {B c : Nat} {v : Value} {now : Int} {L : List Ck.Al} {w w' : World} (h : Ck.At B c v now L w) (hb : Tk.But (fun x => x = c ∨ v.ownBlock = some x) w w') : Below B w w' := h.belowB hb
theorem Cs.belowD {B q : Nat} {u : Value} {now : Int} {M : List Ck.Al} {w w' : World} (h : Cd.At B q u now M w) (hb : Tk.But (fun x => x = q ∨ u.ownBlock = some x) w w') : Below B w w' := by
  refine hb.below (by have := h.low; have := h.lt; omega) fun k hk => ?_
  rintro (e | e)
  · have := h.low
    omega
  · have := (h.row.lt k e).1
    omega
theorem Cs.But.row {c : Nat} {v : Value} {w w' : World} (h : Tk.But (fun x => x = c) w w') : Tk.But (fun x => x = c ∨ v.ownBlock = some x) w w' := ⟨h.os, h.tape, h.output, h.size, fun k hk he => h.block k hk (fun e => he (.inl e))⟩
theorem Cs.ok_sort {now : Int} {M : List Ck.Al} (h : Ck.Ok now M) : Ck.Ok now (Ck.sort M) := ⟨h.now, fun a ha => h.at' a ((Ck.sort_perm M).mem_iff.1 ha), by rw [Ck.sort_length]; exact h.len⟩

/-- Both clocks, with the same time and the same alarms. -/
def Cs.Two (B c q : Nat) (now : Int) (M : List Ck.Al) (w : World) : Prop := Cs.apart M ∧ Ck.Ok now M ∧ ∃ v u, Ck.At B c v now (Ck.sort M) w ∧ Cd.At B q u now M w
theorem Cs.Two.below {B c q : Nat} {now : Int} {M : List Ck.Al} {w w' : World} (h : Cs.Two B c q now M w) (hb : Below w.heap.size w w') : Cs.Two B c q now M w' := by
  obtain ⟨h1, h2, v, u, h3, h4⟩ := h
  exact ⟨h1, h2, v, u, h3.below hb (Nat.le_refl _), h4.below hb (Nat.le_refl _)⟩
theorem Cs.Two.low {B c q : Nat} {now : Int} {M : List Ck.Al} {w : World} (h : Cs.Two B c q now M w) : B ≤ w.heap.size := by
  obtain ⟨_, _, v, u, h3, _⟩ := h
  have := h3.low
  have := h3.lt
  omega
theorem Cs.Two.cd {B c q : Nat} {now : Int} {M : List Ck.Al} {w : World} (h : Cs.Two B c q now M w) : w.cell? ⟨q, 0, none⟩ = some (.int .i64 now) := by
  obtain ⟨_, _, v, u, _, h4⟩ := h
  exact h4.c0
theorem Cs.Two.cc {B c q : Nat} {now : Int} {M : List Ck.Al} {w : World} (h : Cs.Two B c q now M w) : w.cell? ⟨c, 0, none⟩ = some (.int .i64 now) := by
  obtain ⟨_, _, v, u, h3, _⟩ := h
  exact h3.c0
theorem Cs.set_ok {now : Int} {M : List Ck.Al} (h : Ck.Ok now M) (id n : Int) : Ck.Ok now (Cd.setL now M id n) := by
  have h1 := (Cs.ok_sort h).set id n
  rw [Cs.setL_sort] at h1
  exact ⟨h1.now, fun a ha => h1.at' a ((Ck.sort_perm _).mem_iff.2 ha), by have := h1.len; rw [Ck.sort_length] at this; exact this⟩
theorem Cs.drop_ok {now : Int} {M M' : List Ck.Al} (h : Ck.Ok now M) (hl : M'.length ≤ M.length) (hm : ∀ a ∈ M', a ∈ M) : Ck.Ok now M' := ⟨h.now, fun a ha => h.at' a (hm a ha), Nat.le_trans hl h.len⟩
/-- What does tells, and what it leaves. -/
def Cs.Did (B c q : Nat) (w : World) (e : Ending) (w' : World) : Prop := e = .returned (.bool true) ∧ Below B w w' ∧ ∃ now M, Cs.Two B c q now M w'
theorem Cs.undrew {E : Nat → Prop} {w w' : World} (h : Tk.But E w.drew w') : Tk.But E w w' := ⟨h.os, h.tape, h.output, h.size, h.block⟩

/-- What is known ahead of does' two calls. -/
structure Cs.Pre (B c q : Nat) (v u : Value) (now : Int) (M : List Ck.Al) (s0 s1 s2 : Int) (w w0 : World) : Prop where
  ap : Cs.apart M
  ok : Ck.Ok now M
  a : Ck.At B c v now (Ck.sort M) w0
  b : Cd.At B q u now M w0
  bel : Below w.heap.size w w0
  low : B ≤ w.heap.size
  lc : c < w.heap.size
  lq : q < w.heap.size
  lv : ∀ g, v.ownBlock = some g → g < w.heap.size
  lu : ∀ g, u.ownBlock = some g → g < w.heap.size
  box : w0.heap[w.heap.size]? = some (.cells #[.int .i64 s0, .int .i64 s1, .int .i64 s2] 31 (0, 0))
theorem Cs.Pre.mk' {B c q : Nat} {now : Int} {M : List Ck.Al} {w : World} (h : Cs.Two B c q now M w) (s0 s1 s2 : Int) : ∃ v u, Cs.Pre B c q v u now M s0 s1 s2 w (w.alloc (.cells #[.int .i64 s0, .int .i64 s1, .int .i64 s2] 31)) := by
  have hl := h.low
  obtain ⟨h1, h2, v, u, h3, h4⟩ := h
  exact ⟨v, u, h1, h2, h3.alloc _, h4.alloc _, (Below.refl _ w).alloc (Nat.le_refl _) _, hl, h3.lt, h4.lt, fun g e => h3.rlt g e, fun g e => h4.rlt g e, heap_alloc_new _ _⟩
theorem Cs.Pre.box1 {B c q : Nat} {v u : Value} {now : Int} {M : List Ck.Al} {s0 s1 s2 : Int} {w w0 W1 : World} (h : Cs.Pre B c q v u now M s0 s1 s2 w w0) (h1 : Tk.But (fun x => x = c ∨ v.ownBlock = some x) w0 W1) : W1.heap[w.heap.size]? = w0.heap[w.heap.size]? := by
  refine h1.block _ (Array.getElem?_eq_some_iff.1 h.box).1 ?_
  rintro (e | e)
  · have := h.lc
    omega
  · have := h.lv _ e
    omega
theorem Cs.Pre.box2 {B c q : Nat} {v u : Value} {now : Int} {M : List Ck.Al} {s0 s1 s2 : Int} {w w0 W1 W2 : World} (h : Cs.Pre B c q v u now M s0 s1 s2 w w0) (h1 : Tk.But (fun x => x = c ∨ v.ownBlock = some x) w0 W1) (h2 : Tk.But (fun x => x = q ∨ u.ownBlock = some x) W1 W2) : W2.heap[w.heap.size]? = w0.heap[w.heap.size]? := by
  refine (h2.block _ (by have := (Array.getElem?_eq_some_iff.1 h.box).1; have := h1.size; omega) ?_).trans (h.box1 h1)
  rintro (e | e)
  · have := h.lq
    omega
  · have := h.lu _ e
    omega
theorem Cs.Pre.done {B c q : Nat} {v u v' u' : Value} {now now' : Int} {M M' : List Ck.Al} {s0 s1 s2 : Int} {w w0 W1 W2 : World} (h : Cs.Pre B c q v u now M s0 s1 s2 w w0) (h1 : Tk.But (fun x => x = c ∨ v.ownBlock = some x) w0 W1) (a1 : Ck.At B c v' now' (Ck.sort M') W1) (h2 : Tk.But (fun x => x = q ∨ u.ownBlock = some x) W1 W2) (b2 : Cd.At B q u' now' M' W2) (ap : Cs.apart M') (ok : Ck.Ok now' M') : Cs.Did B c q w (.returned (.bool true)) W2 := by
  have d1 := Cs.stepA h.a h.b h1
  refine ⟨rfl, ((h.bel.mono h.low).trans (Cs.belowA h.a h1)).trans (Cs.belowD d1 h2), now', M', ap, ok, v', u', Cs.stepB a1 d1 h2, b2⟩

set_option maxRecDepth 20000 in
set_option maxHeartbeats 4000000 in
theorem Try.does_set {B c q : Nat} {now : Int} {M : List Ck.Al} (s0 s1 s2 : Int) (hs : s0 = 0 ∨ s0 = 1 ∨ s0 = 2) (w : World) (h : Cs.Two B c q now M w) : Calls Try.prog 10 #[.pointer (some ⟨c, 0, none⟩), .pointer (some ⟨q, 0, none⟩), .agg #[.int .i64 s0, .int .i64 s1, .int .i64 s2]] w fun e w' => Cs.Did B c q w e w' := by
  obtain ⟨w0, hw0⟩ : ∃ x, w.alloc (.cells #[.int .i64 s0, .int .i64 s1, .int .i64 s2] 31) = x := ⟨_, rfl⟩
  obtain ⟨v, u, hP⟩ := Cs.Pre.mk' h s0 s1 s2
  rw [hw0] at hP
  have P : Hid (Cs.Pre B c q v u now M s0 s1 s2 w w0) := hP
  have SB : Hid (∀ W : World, W.heap[w.heap.size]? = w0.heap[w.heap.size]? → W.cell? ⟨w.heap.size, 0, none⟩ = some (.int .i64 s0) ∧ W.cell? ⟨w.heap.size, 1, none⟩ = some (.int .i64 s1) ∧ W.cell? ⟨w.heap.size, 2, none⟩ = some (.int .i64 s2)) := fun W e => by
    rw [hP.box] at e
    simp [World.cell?, e]
  have CA : Hid (∀ W : World, W.heap = w0.heap → W.os = w0.os → W.tape = w0.tape → W.output = w0.output → Calls Try.prog 18 #[.pointer (some ⟨c, 0, none⟩), .int .i64 s1, .int .i64 s2] W fun e w' => e = .returned (.int .i64 (Ck.setE now M s1 s2)) ∧ Tk.But (fun x => x = c ∨ v.ownBlock = some x) w0 w' ∧ ∃ v', Ck.At B c v' now (Ck.sort (Cd.setL now M s1 s2)) w') := fun W e1 e2 e3 e4 => by
    refine Calls.mono (Try.cSet_any s1 s2 W (hP.a.keep (by rw [e1]) (fun b _ => by rw [e1])) (Cs.ok_sort hP.ok)) fun e w' ⟨h1, v', h2, _, h4⟩ => ?_
    rw [Cs.setE_sort] at h1
    rw [Cs.setL_sort] at h2
    exact ⟨h1, ⟨h4.os.trans e2, h4.tape.trans e3, h4.output.trans e4, by rw [← e1]; exact h4.size, fun k hk he => by rw [← e1]; exact h4.block k (by rw [e1]; exact hk) he⟩, v', h2⟩
  have HW0 : Hid (w.alloc (.cells #[.int .i64 s0, .int .i64 s1, .int .i64 s2] 31) = w0) := hw0
  obtain ⟨r, hr⟩ : ∃ r, Ck.setE now M s1 s2 = r := ⟨_, rfl⟩
  rw [hr] at CA
  have HR : Hid (Ck.setE now M s1 s2 = r) := hr
  have e0 : w0.cell? ⟨w.heap.size, 0, none⟩ = some (.int .i64 s0) := (SB.out w0 rfl).1
  clear h hP hw0 hr
  rcases hs with rfl | rfl | rfl
  all_goals
    go_enter Try.func10, Try.ntmps10
    go_upto_region 1 with fail
    rw [HW0.out]
    go_upto_region 5 with fail
    clear HW0
    go_region_held3 (fun W => W.cell? ⟨w.heap.size, 1, none⟩ = some (.int .i64 s1) ∧ W.cell? ⟨w.heap.size, 2, none⟩ = some (.int .i64 s2))
      (first | exact (SB.out _ (P.out.box2 K1.out.1 K2.out.1)).2 | exact (SB.out _ (P.out.box1 K1.out.1)).2 | exact (SB.out _ rfl).2)
      (first
      | (go_simp; go_at_call 18; refine Calls.mono (CA.out _ rfl rfl rfl rfl) ?_; rintro e W1 ⟨rfl, hb1, v1, ha1⟩; have K1 : Hid (Tk.But (fun x => x = c ∨ v.ownBlock = some x) w0 W1 ∧ Ck.At B c v1 now (Ck.sort (Cd.setL now M s1 s2)) W1) := ⟨hb1, ha1⟩; clear hb1 ha1)
      | (go_simp; go_at_call 22; refine Calls.mono (Try.rSet_any s1 s2 _ (Cs.stepA P.out.a P.out.b K1.out.1) P.out.ok) ?_; rintro e W2 ⟨rfl, u2, hb2, -, hc2⟩; have K2 : Hid (Tk.But (fun x => x = q ∨ u.ownBlock = some x) W1 W2 ∧ Cd.At B q u2 now (Cd.setL now M s1 s2) W2) := ⟨hc2, hb2⟩; rw [HR.out]; clear hc2 hb2))
    go_simp
    go_wp2
    go_ret
    exact P.out.done K1.out.1 K1.out.2 K2.out.1 K2.out.2 (Cs.apart_set P.out.ap s1 s2) (Cs.set_ok P.out.ok s1 s2)

end Go.Proofs
