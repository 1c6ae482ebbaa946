import Derived.ChangeKeysEq
import Derived.Test.YtndfbgfpnjnmlaaGreatDoorRGmMerge
namespace Go.Proofs
open Go.RowKit Go.Shelf
namespace Gm
structure Rt (ns : List Nd) (fs : List Fl) : Prop where
 n24 : ns.length ≤ 24
 f40 : fs.length ≤ 40
 one : ∀ x, x ∈ ns → Nt.oneB x = true
 two : ∀ f, f ∈ fs → Nt.twoB ns fs f = true
 three : ∀ i, i < ns.length → Nt.jointB ns fs i = true
 lost : 0 ≤ Nt.firstI ns 1 ∧ 0 ≤ Nt.firstI ns 2
theorem Rt.of {ns : List Nd} {fs : List Fl} (h : (Nt.checkN ns fs).1 = 0) : Rt ns fs := by
 unfold Nt.checkN at h
 have h1 : (Nt.broken ns fs).1 = 0 := h
 unfold Nt.broken at h1
 split at h1
 ·exact absurd h1 (by simp)
 ·next e1 =>
  split at h1
  ·exact absurd h1 (by simp)
  ·next e2 =>
   split at h1
   ·exact absurd h1 (by simp)
   ·next e3 =>
    have e1' : (Nt.wrong1 ns fs).isEmpty = true := by simpa using e1
    have e2' : (Nt.wrong2 ns fs).isEmpty = true := by simpa using e2
    have e3' : (Nt.wrong3 ns fs).isEmpty = true := by simpa using e3
    obtain ⟨k1, k2⟩ := Nt.one_keeps e1'
    refine ⟨k1, k2, ?_, fun f hf => (Nt.two_keeps e2' f hf).2.2.2.2, ?_, Nt.three_keeps e3'⟩
    ·intro x hx
     obtain ⟨i, hi, rfl⟩ := List.getElem_of_mem hx
     unfold Nt.wrong1 at e1'
     split at e1'
     ·simp at e1'
     ·have := Nt.filter_nil e1' i hi
      rw [List.getElem?_eq_getElem hi] at this
      simpa using this
    ·intro i hi
     unfold Nt.wrong3 at e3'
     rw [List.isEmpty_iff, List.append_eq_nil_iff] at e3'
     have := Nt.filter_nil (List.isEmpty_iff.2 e3'.1) i hi
     simpa using this
theorem Rt.var {ns : List Nd} {fs : List Fl} (h : Rt ns fs) {i : Nat} (hi : i < ns.length) (hk : ns[i].kind = 3 ∨ ns[i].kind = 4) : ∃ x : Nat, ns[i].a = (x : Int) ∧ x < 4 := by
 have := h.one _ (List.getElem_mem hi)
 simp only [Nt.oneB, Bool.and_eq_true, decide_eq_true_eq] at this
 obtain ⟨⟨_, _, h1, h2⟩, _⟩ := this
 rw [Nt.mostN, if_pos hk] at h2
 exact ⟨ns[i].a.toNat, by omega, by omega⟩
theorem Rt.msg {ns : List Nd} {fs : List Fl} (h : Rt ns fs) {i : Nat} (hi : i < ns.length) (hk : ns[i].kind = 8) : ∃ x : Nat, ns[i].a = (x : Int) ∧ x ≤ 4 := by
 have := h.one _ (List.getElem_mem hi)
 simp only [Nt.oneB, Bool.and_eq_true, decide_eq_true_eq] at this
 obtain ⟨⟨_, _, h1, h2⟩, _⟩ := this
 rw [Nt.mostN, if_neg (by omega), if_pos hk] at h2
 exact ⟨ns[i].a.toNat, by omega, by omega⟩
theorem Rt.ends {ns : List Nd} {fs : List Fl} (h : Rt ns fs) {f : Fl} (hf : f ∈ fs) : 0 ≤ f.fr ∧ f.fr < ns.length ∧ 0 ≤ f.to ∧ f.to < ns.length := by
 have := h.two f hf
 simp only [Nt.twoB, Nt.isNodeB, Bool.and_eq_true, decide_eq_true_eq] at this
 exact ⟨this.1.1.1.1, this.1.1.1.2, this.1.1.2.1, this.1.1.2.2⟩
theorem Rt.toB {ns : List Nd} {fs : List Fl} (h : Rt ns fs) {f : Fl} (hf : f ∈ fs) : 0 ≤ f.to ∧ f.to < 24 := by
 have h1 := h.ends hf
 have h2 := h.n24
 omega
theorem Rt.toL {ns : List Nd} {fs : List Fl} (h : Rt ns fs) {f : Nat} (hf : f < fs.length) : Gm.toOf fs f < ns.length ∧ fs[f].to = ((Gm.toOf fs f : Nat) : Int) := by
 have h1 := h.ends (List.getElem_mem hf)
 unfold Gm.toOf
 rw [List.getElem?_eq_getElem hf]
 show fs[f].to.toNat < _ ∧ fs[f].to = ((fs[f].to.toNat : Nat) : Int)
 omega
theorem outs_lt {fs : List Fl} {i : Int} {f : Nat} (h : f ∈ Nt.outsL fs i) : f < fs.length := List.mem_range.1 (List.mem_filter.1 h).1
theorem ins_lt {fs : List Fl} {i : Int} {f : Nat} (h : f ∈ Nt.insL fs i) : f < fs.length := List.mem_range.1 (List.mem_filter.1 h).1
theorem outs_len (fs : List Fl) (i : Int) : (Nt.outsL fs i).length ≤ fs.length := by
 have := List.length_filter_le (fun k => decide ((fs[k]?.map Fl.fr) = some i)) (List.range fs.length)
 simpa [Nt.outsL] using this
theorem ins_len (fs : List Fl) (i : Int) : (Nt.insL fs i).length ≤ fs.length := by
 have := List.length_filter_le (fun k => decide ((fs[k]?.map Fl.to) = some i)) (List.range fs.length)
 simpa [Nt.insL] using this
theorem outs_fr {fs : List Fl} {i : Int} {f : Nat} (h : f ∈ Nt.outsL fs i) (hf : f < fs.length) : fs[f].fr = i := by
 have := (List.mem_filter.1 h).2
 rw [List.getElem?_eq_getElem hf] at this
 simpa using this
theorem ins_to {fs : List Fl} {i : Int} {f : Nat} (h : f ∈ Nt.insL fs i) (hf : f < fs.length) : fs[f].to = i := by
 have := (List.mem_filter.1 h).2
 rw [List.getElem?_eq_getElem hf] at this
 simpa using this
theorem Rt.join {ns : List Nd} {fs : List Fl} (h : Rt ns fs) {i : Nat} (hi : i < ns.length) : Nt.joinB ns[i].kind (Nt.insL fs i).length (Nt.outsL fs i).length (Nt.elsesN fs i) (Nt.othersN ns fs i) = true := by
 have := h.three i hi
 simp only [Nt.jointB, Nt.threeB, Bool.and_eq_true] at this
 rw [Nt.insL_len, Nt.outsL_len, ← Nt.kindAt_get ns i hi]
 exact this.1.1
theorem Rt.event {ns : List Nd} {fs : List Fl} (h : Rt ns fs) {i : Nat} (hi : i < ns.length) (hk : ns[i].kind = 7) {f : Nat} (hf : f ∈ Nt.outsL fs i) : ∃ ht : Gm.toOf fs f < ns.length, ns[Gm.toOf fs f].kind = 8 := by
 have hl := outs_lt hf
 obtain ⟨h1, h2⟩ := h.toL hl
 refine ⟨h1, ?_⟩
 have hj := h.join hi
 rw [hk] at hj
 simp [Nt.joinB] at hj
 have h0 : Nt.othersN ns fs i = 0 := hj.2.2
 unfold Nt.othersN at h0
 rw [List.countP_eq_zero] at h0
 have h3 := h0 _ (List.getElem_mem hl)
 have e1 : fs[f].fr = (i : Int) := outs_fr hf hl
 have e2 : fs[f].to.toNat = Gm.toOf fs f := by omega
 rw [e2] at h3
 simp only [e1, decide_true, Bool.true_and, Bool.not_eq_true', decide_eq_false_iff_not, Classical.not_not] at h3
 rw [← Nt.kindAt_get ns _ h1]
 exact h3
theorem take_keep {k : Nat} (hk : 40 ≤ k) : ∀ (a : List Nat) (l t : List Int), l.length = 49 → (∀ f ∈ a, f < 40) → take l a = some t → t.getD k 0 = l.getD k 0
 | [], l, t, _, _, h => by simp only [take, Option.some.injEq] at h; rw [h]
 | f :: r, l, t, hl, hf, h => by
   rw [take] at h
   split at h
   ·cases h
   ·rw [take_keep hk r _ t (by simpa using hl) (fun g hg => hf g (by simp [hg])) h, getD_set (by have := hf f (by simp); omega), if_neg (by have := hf f (by simp); omega)]
theorem put_keep {k : Nat} (hk : 40 ≤ k) : ∀ (a : List Nat) (l t : List Int), l.length = 49 → (∀ f ∈ a, f < 40) → put l a = some t → t.getD k 0 = l.getD k 0
 | [], l, t, _, _, h => by simp only [put, Option.some.injEq] at h; rw [h]
 | f :: r, l, t, hl, hf, h => by
   rw [put] at h
   split at h
   ·cases h
   ·rw [put_keep hk r _ t (by simpa using hl) (fun g hg => hf g (by simp [hg])) h, getD_set (by have := hf f (by simp); omega), if_neg (by have := hf f (by simp); omega)]
theorem pass_keep {k : Nat} (hk : 40 ≤ k) {l t : List Int} {a b : List Nat} (hl : l.length = 49) (ha : ∀ f ∈ a, f < 40) (hb : ∀ f ∈ b, f < 40) (h : pass l a b = some t) : t.getD k 0 = l.getD k 0 := by
 unfold pass at h
 cases ht : take l a with
 | none => rw [ht] at h; cases h
 | some u =>
   rw [ht] at h
   rw [put_keep hk b u t (by rw [take_length a l u ht]; exact hl) hb h, take_keep hk a l u hl ha ht]
end Gm
end Go.Proofs
namespace Go.Proofs
open Go.RowKit Go.ChangeShapes Go.WideShapes
set_option maxRecDepth 20000 in
theorem Gm.info_int : ∃ i, Tryz.prog.info? 3 = some i := ⟨_, rfl⟩
theorem Gm.cells_int : Tryz.prog.cellsOf 3 = 1 := by kernel_rfl
theorem Gm.int_eq (d : Nat) (a b : Int) (W : World) : (Op.equalIn (d + 1) 3 (.int .i64 a) (.int .i64 b)).run Tryz.prog W = .ok (decide (a = b)) W := by
 by_cases h : a = b <;> simp [Op.equalIn, go_sem, h]
theorem Gm.part_int (cs : Array Value) (j : Nat) (x : Int) (hc : cs[j]? = some (.int .i64 x)) (W : World) : (part 3 cs j).run Tryz.prog W = .ok (.int .i64 x) W := by
 simp [part, Tryz.isAgg3, hc, go_sem]
theorem Gm.items_eq (xs ys : List Int) (W : World) : ∀ (is : List Nat), (∀ j ∈ is, j < xs.length ∧ j < ys.length) → (Op.eqItems 9999 3 1 (Gm.ints xs).toArray (Gm.ints ys).toArray is).run Tryz.prog W = .ok (is.all fun j => decide (xs.getD j 0 = ys.getD j 0)) W
 | [], _ => by simp [Op.eqItems]
 | j :: is, h => by
   have hj := h j List.mem_cons_self
   have h1 := Gm.part_int (Gm.ints xs).toArray j _ (Gm.ints_get hj.1) W
   have h2 := Gm.part_int (Gm.ints ys).toArray j _ (Gm.ints_get hj.2) W
   have ih := Gm.items_eq xs ys W is fun k hk => h k (List.mem_cons_of_mem _ hk)
   rw [Op.eqItems]
   simp only [Sem.run_bind, Nat.mul_one, h1, h2, Result.andThen_ok, Gm.int_eq 9998]
   by_cases he : xs.getD j 0 = ys.getD j 0
   ·simp only [he, decide_true, List.all_cons, Bool.true_and]
    first | exact ih | simpa using ih
   ·have hf : decide (xs.getD j 0 = ys.getD j 0) = false := decide_eq_false he
    simp only [hf, List.all_cons, Bool.false_and]
    rfl
theorem Gm.arr_eq (xs ys : List Int) (hx : xs.length = 40) (hy : ys.length = 40) (W : World) : (Op.equalIn 10000 26 (.agg (Gm.ints xs).toArray) (.agg (Gm.ints ys).toArray)).run Tryz.prog W = .ok ((List.range 40).all fun j => decide (xs.getD j 0 = ys.getD j 0)) W := by
 obtain ⟨i, hi⟩ := Gm.info_int
 show (Op.equalIn (9999 + 1) 26 _ _).run Tryz.prog W = _
 rw [run_equalIn_array W 9999 _ _ Tryz.underlying26 hi, Gm.cells_int]
 exact Gm.items_eq xs ys W (List.range 40) fun j hj => by have := List.mem_range.1 hj; omega
end Go.Proofs
namespace Go.Proofs
open Go.RowKit Go.Shelf
theorem Gm.all_zero (t : List Int) (h : t.length = 49) : ((List.range 40).all fun j => decide ((t.take 40).getD j 0 = (List.replicate 40 (0 : Int)).getD j 0)) = Gm.quietB t := by
 rw [Bool.eq_iff_iff]
 unfold Gm.quietB
 simp only [List.all_eq_true, List.mem_range, decide_eq_true_eq]
 constructor
 ·intro h1 x hx
  obtain ⟨j, hj, rfl⟩ := List.getElem_of_mem hx
  have hj4 : j < 40 := by simp at hj; omega
  have := h1 j hj4
  rw [List.getD_eq_getElem?_getD, List.getD_eq_getElem?_getD, List.getElem?_eq_getElem hj, List.getElem?_replicate] at this
  simpa [hj4] using this
 ·intro h1 j hj
  have hj4 : j < (t.take 40).length := by simp; omega
  rw [List.getD_eq_getElem?_getD, List.getD_eq_getElem?_getD, List.getElem?_eq_getElem hj4, List.getElem?_replicate]
  simpa [hj] using h1 _ (List.getElem_mem hj4)
theorem Gm.arr_zero (t : List Int) (h : t.length = 49) (W : World) : (Op.equalIn 10000 26 (.agg (Gm.ints (t.take 40)).toArray) (.agg #[.int .i64 0, .int .i64 0, .int .i64 0, .int .i64 0, .int .i64 0, .int .i64 0, .int .i64 0, .int .i64 0, .int .i64 0, .int .i64 0, .int .i64 0, .int .i64 0, .int .i64 0, .int .i64 0, .int .i64 0, .int .i64 0, .int .i64 0, .int .i64 0, .int .i64 0, .int .i64 0, .int .i64 0, .int .i64 0, .int .i64 0, .int .i64 0, .int .i64 0, .int .i64 0, .int .i64 0, .int .i64 0, .int .i64 0, .int .i64 0, .int .i64 0, .int .i64 0, .int .i64 0, .int .i64 0, .int .i64 0, .int .i64 0, .int .i64 0, .int .i64 0, .int .i64 0, .int .i64 0])).run Tryz.prog W = .ok (Gm.quietB t) W := by
 rw [← Gm.all_zero t h]
 exact Gm.arr_eq (t.take 40) (List.replicate 40 0) (by simp; omega) (by simp) W
set_option maxRecDepth 20000 in
set_option maxHeartbeats 16000000 in
theorem Tryz.end_any (w0 : World) (B b : Nat) (an : Option Addr) (n cn : Nat) (af : Option Addr) (m cf : Nat) (l : List Int) (want : Int) (p : List Mv × List Int) (i : Nat) (a : List Nat) (va : Value) (X : World) (hG : Gm.G w0 B b an n cn af m cf l want p.1 p.2 X) (hl : p.1.length ≤ 5000)
   (ha : Gm.Ints X va (a.map fun x : Nat => (x : Int))) (ha4 : ∀ f ∈ a, f < 40) (hal : a.length ≤ 100) (hS : Gm.Small l) :
   Calls Tryz.prog 64 #[.pointer (some ⟨b, 0, none⟩), .int .i64 i, va] X fun e' w' => e' = .returned (.tuple #[]) ∧ Gm.G w0 B b an n cn af m cf l want (Gm.goes want p (Gm.endS l i a)).1 (Gm.goes want p (Gm.endS l i a)).2 w' ∧ Gm.KeepI X w' := by
 obtain ⟨R, hR⟩ : ∃ R, Gm.goes want p (Gm.endS l i a) = R := ⟨_, rfl⟩
 rw [hR]
 have HC : Hid _ := hG.pass a [] va (.slice none 0 0) ha ⟨none, 0, rfl, fun k hk => absurd hk (by simp)⟩ ha4 (by simp) hal (by simp) hS
 obtain ⟨o, ho⟩ : ∃ z, Gm.pass l a [] = z := ⟨_, rfl⟩
 have HO : Hid (Gm.pass l a [] = o ∧ l.length = 49 ∧ p.1.length ≤ 5000) := ⟨ho, hS.1, hl⟩
 rw [ho] at HC
 have HRR : Hid (Gm.goes want p (Gm.endS l i a) = R) := hR
 have HG : Hid (Gm.G w0 B b an n cn af m cf l want p.1 p.2 X) := hG
 have hu := Tryz.underlying29
 have HI49 : Hid (∀ t : List Int, t.length = 49 → (Tryz.prog.info? 29).map (·.size) = some (Gm.ints t).toArray.size ∧ (#[.int .i64 0, .int .i64 0, .int .i64 0, .int .i64 0, .int .i64 0, .int .i64 0, .int .i64 0, .int .i64 0, .int .i64 0, .int .i64 0, .int .i64 0, .int .i64 0, .int .i64 0, .int .i64 0, .int .i64 0, .int .i64 0, .int .i64 0, .int .i64 0, .int .i64 0, .int .i64 0, .int .i64 0, .int .i64 0, .int .i64 0, .int .i64 0, .int .i64 0, .int .i64 0, .int .i64 0, .int .i64 0, .int .i64 0, .int .i64 0, .int .i64 0, .int .i64 0, .int .i64 0, .int .i64 0, .int .i64 0, .int .i64 0, .int .i64 0, .int .i64 0, .int .i64 0, .int .i64 0, .int .i64 0, .int .i64 0, .int .i64 0, .int .i64 0, .int .i64 0, .int .i64 0, .int .i64 0, .int .i64 0, .int .i64 0] : Array Value).size = (Gm.ints t).toArray.size ∧ (Gm.ints t).toArray.all (·.oneCell') = true) := fun t ht => by
   have h : (Gm.ints t).toArray.size = 49 := by simpa [Gm.ints_length] using ht
   refine ⟨by rw [h]; kernel_rfl, by rw [h]; rfl, all_oneCell_toArray (Gm.ints_one t)⟩
 clear hG hl ha ha4 hal hS ho hR
 cases o with
 | none =>
   obtain ⟨e1, e2, e3⟩ := HI49.out Gm.zeros (by kernel_rfl)
   go_enter Tryz.func64, Tryz.ntmps64
   go_wp2_with fail
   refine Calls.mono HC.out ?_
   rintro e W2 ⟨rfl, b2⟩
   have N2a : (W2.alloc (.cells #[.int .i64 0, .int .i64 0, .int .i64 0, .int .i64 0, .int .i64 0, .int .i64 0, .int .i64 0, .int .i64 0, .int .i64 0, .int .i64 0, .int .i64 0, .int .i64 0, .int .i64 0, .int .i64 0, .int .i64 0, .int .i64 0, .int .i64 0, .int .i64 0, .int .i64 0, .int .i64 0, .int .i64 0, .int .i64 0, .int .i64 0, .int .i64 0, .int .i64 0, .int .i64 0, .int .i64 0, .int .i64 0, .int .i64 0, .int .i64 0, .int .i64 0, .int .i64 0, .int .i64 0, .int .i64 0, .int .i64 0, .int .i64 0, .int .i64 0, .int .i64 0, .int .i64 0, .int .i64 0, .int .i64 0, .int .i64 0, .int .i64 0, .int .i64 0, .int .i64 0, .int .i64 0, .int .i64 0, .int .i64 0, .int .i64 0] 29)).heap[W2.heap.size]? = some (.cells #[.int .i64 0, .int .i64 0, .int .i64 0, .int .i64 0, .int .i64 0, .int .i64 0, .int .i64 0, .int .i64 0, .int .i64 0, .int .i64 0, .int .i64 0, .int .i64 0, .int .i64 0, .int .i64 0, .int .i64 0, .int .i64 0, .int .i64 0, .int .i64 0, .int .i64 0, .int .i64 0, .int .i64 0, .int .i64 0, .int .i64 0, .int .i64 0, .int .i64 0, .int .i64 0, .int .i64 0, .int .i64 0, .int .i64 0, .int .i64 0, .int .i64 0, .int .i64 0, .int .i64 0, .int .i64 0, .int .i64 0, .int .i64 0, .int .i64 0, .int .i64 0, .int .i64 0, .int .i64 0, .int .i64 0, .int .i64 0, .int .i64 0, .int .i64 0, .int .i64 0, .int .i64 0, .int .i64 0, .int .i64 0, .int .i64 0] 29 (0, 0)) := heap_alloc_new W2 _
   obtain ⟨W3, hW3⟩ : ∃ z, (W2.alloc (.cells #[.int .i64 0, .int .i64 0, .int .i64 0, .int .i64 0, .int .i64 0, .int .i64 0, .int .i64 0, .int .i64 0, .int .i64 0, .int .i64 0, .int .i64 0, .int .i64 0, .int .i64 0, .int .i64 0, .int .i64 0, .int .i64 0, .int .i64 0, .int .i64 0, .int .i64 0, .int .i64 0, .int .i64 0, .int .i64 0, .int .i64 0, .int .i64 0, .int .i64 0, .int .i64 0, .int .i64 0, .int .i64 0, .int .i64 0, .int .i64 0, .int .i64 0, .int .i64 0, .int .i64 0, .int .i64 0, .int .i64 0, .int .i64 0, .int .i64 0, .int .i64 0, .int .i64 0, .int .i64 0, .int .i64 0, .int .i64 0, .int .i64 0, .int .i64 0, .int .i64 0, .int .i64 0, .int .i64 0, .int .i64 0, .int .i64 0] 29)).setRow W2.heap.size (Gm.ints Gm.zeros).toArray = z := ⟨_, rfl⟩
   have B3 : Below X.heap.size X W3 := by rw [← hW3]; exact Tk.below_row (b2.alloc b2.size _) b2.size _
   have HN : Hid (Gm.G w0 B b an n cn af m cf l want R.1 R.2 W3 ∧ Gm.KeepI X W3) := by
     have h1 := HRR.out
     unfold Gm.endS at h1
     rw [HO.out.1] at h1
     have h2 : p = R := h1
     rw [← h2]
     exact ⟨HG.out.below B3, Gm.KeepI.below B3⟩
   have HW3 : Hid _ := hW3
   clear b2 B3 hW3 HC
   unfold Gm.passV
   go_upto_region 1 with (refine wpList_store_row rfl 29 _ _ rfl W2.heap.size (Gm.ints Gm.zeros).toArray rfl rfl 29 _ N2a e1 e2 e3 ?_; rw [HW3.out])
   go_wp2
   exact bodyPost_ret (results_none Tryz.results64 _ _ _) rfl ⟨rfl, HN.out⟩
 | some t =>
   have htl : t.length = 49 := by rw [Gm.pass_length HO.out.1]; exact HO.out.2.1
   obtain ⟨e1, e2, e3⟩ := HI49.out t htl
   go_enter Tryz.func64, Tryz.ntmps64
   go_wp2_with fail
   refine Calls.mono HC.out ?_
   rintro e W2 ⟨rfl, b2⟩
   have N2a : (W2.alloc (.cells #[.int .i64 0, .int .i64 0, .int .i64 0, .int .i64 0, .int .i64 0, .int .i64 0, .int .i64 0, .int .i64 0, .int .i64 0, .int .i64 0, .int .i64 0, .int .i64 0, .int .i64 0, .int .i64 0, .int .i64 0, .int .i64 0, .int .i64 0, .int .i64 0, .int .i64 0, .int .i64 0, .int .i64 0, .int .i64 0, .int .i64 0, .int .i64 0, .int .i64 0, .int .i64 0, .int .i64 0, .int .i64 0, .int .i64 0, .int .i64 0, .int .i64 0, .int .i64 0, .int .i64 0, .int .i64 0, .int .i64 0, .int .i64 0, .int .i64 0, .int .i64 0, .int .i64 0, .int .i64 0, .int .i64 0, .int .i64 0, .int .i64 0, .int .i64 0, .int .i64 0, .int .i64 0, .int .i64 0, .int .i64 0, .int .i64 0] 29)).heap[W2.heap.size]? = some (.cells #[.int .i64 0, .int .i64 0, .int .i64 0, .int .i64 0, .int .i64 0, .int .i64 0, .int .i64 0, .int .i64 0, .int .i64 0, .int .i64 0, .int .i64 0, .int .i64 0, .int .i64 0, .int .i64 0, .int .i64 0, .int .i64 0, .int .i64 0, .int .i64 0, .int .i64 0, .int .i64 0, .int .i64 0, .int .i64 0, .int .i64 0, .int .i64 0, .int .i64 0, .int .i64 0, .int .i64 0, .int .i64 0, .int .i64 0, .int .i64 0, .int .i64 0, .int .i64 0, .int .i64 0, .int .i64 0, .int .i64 0, .int .i64 0, .int .i64 0, .int .i64 0, .int .i64 0, .int .i64 0, .int .i64 0, .int .i64 0, .int .i64 0, .int .i64 0, .int .i64 0, .int .i64 0, .int .i64 0, .int .i64 0, .int .i64 0] 29 (0, 0)) := heap_alloc_new W2 _
   obtain ⟨W3, hW3⟩ : ∃ z, (W2.alloc (.cells #[.int .i64 0, .int .i64 0, .int .i64 0, .int .i64 0, .int .i64 0, .int .i64 0, .int .i64 0, .int .i64 0, .int .i64 0, .int .i64 0, .int .i64 0, .int .i64 0, .int .i64 0, .int .i64 0, .int .i64 0, .int .i64 0, .int .i64 0, .int .i64 0, .int .i64 0, .int .i64 0, .int .i64 0, .int .i64 0, .int .i64 0, .int .i64 0, .int .i64 0, .int .i64 0, .int .i64 0, .int .i64 0, .int .i64 0, .int .i64 0, .int .i64 0, .int .i64 0, .int .i64 0, .int .i64 0, .int .i64 0, .int .i64 0, .int .i64 0, .int .i64 0, .int .i64 0, .int .i64 0, .int .i64 0, .int .i64 0, .int .i64 0, .int .i64 0, .int .i64 0, .int .i64 0, .int .i64 0, .int .i64 0, .int .i64 0] 29)).setRow W2.heap.size (Gm.ints t).toArray = z := ⟨_, rfl⟩
   have N3 : W3.heap[W2.heap.size]? = some (.cells (Gm.ints t).toArray 29 (0, 0)) := by rw [← hW3]; exact setRow_heap _ _ _ _ _ _ N2a
   have B3 : Below X.heap.size X W3 := by rw [← hW3]; exact Tk.below_row (b2.alloc b2.size _) b2.size _
   have HN : Hid (Gm.goes want p (if Gm.quietB t = true then [(⟨i, 0, 7, 0, 0⟩, t.set 48 1)] else [(⟨i, 0, 0, 0, 0⟩, t)]) = R ∧ Gm.G w0 B b an n cn af m cf l want p.1 p.2 W3 ∧ Gm.KeepI X W3 ∧ t.length = 49 ∧ p.1.length ≤ 5000) := by
     have h1 := HRR.out
     unfold Gm.endS at h1
     rw [HO.out.1] at h1
     exact ⟨h1, HG.out.below B3, Gm.KeepI.below B3, htl, HO.out.2.2⟩
   have HB3 : Hid (Below X.heap.size X W3 ∧ X.heap.size ≤ W2.heap.size ∧ Gm.G w0 B b an n cn af m cf l want p.1 p.2 X) := ⟨B3, b2.size, HG.out⟩
   have HW3 : Hid _ := hW3
   clear b2 B3 hW3 HC HO HRR HG
   unfold Gm.passV
   go_upto_region 1 with (refine wpList_store_row rfl 29 _ _ rfl W2.heap.size (Gm.ints t).toArray rfl rfl 29 _ N2a e1 e2 e3 ?_; rw [HW3.out])
   obtain ⟨W4, hW4⟩ : ∃ z, W3.alloc (.cells #[.int .i64 i, .int .i64 0, .int .i64 0, .int .i64 0, .int .i64 0] 80) = z := ⟨_, rfl⟩
   have N4 : W4.heap[W3.heap.size]? = some (.cells #[.int .i64 i, .int .i64 0, .int .i64 0, .int .i64 0, .int .i64 0] 80 (0, 0)) := by rw [← hW4]; exact heap_alloc_new W3 _
   have hq3 : W2.heap.size < W3.heap.size := by
     have := (Array.getElem?_eq_some_iff.1 N3).1
     exact this
   have P4 : W4.heap[W2.heap.size]? = some (.cells (Gm.ints t).toArray 29 (0, 0)) := by rw [← hW4, Below.heap_alloc _ _ _ hq3]; exact N3
   have HR : W4.rangeAt W2.heap.size 0 (Gm.ints (t.take 40)) := fun j v hv => by
     simp only [World.cell?, P4, Nat.zero_add]
     simp only [Gm.ints, List.getElem?_map, List.getElem?_take, List.getElem?_toArray] at hv ⊢
     split at hv
     ·rw [hv]; first | done | rfl | simp
     ·simp at hv
   have hi40 : (Tryz.prog.info? 26).map (·.size) = some (Gm.ints (t.take 40)).length := by rw [Gm.ints_length, List.length_take, htl]; kernel_rfl
   have hu40 := Tryz.underlying26
   have HW4 : Hid _ := hW4
   clear hW4
   have HZ : Hid _ := Gm.arr_zero t htl W4
   have hth : (W3.alloc (.cells #[.int .i64 0, .int .i64 0, .int .i64 0, .int .i64 0, .int .i64 0] 80)).heap.size = W3.heap.size + 1 := by simp
   clear N2a N3 e2 HI49 HW3
   go_upto_region 3 with fail
   clear hth
   go_upto_region 4 with (first
     | (rw [HW4.out]; refine wpList_load_mid rfl 26 _ rfl W2.heap.size 0 rfl (Gm.ints (t.take 40)) _ HR hu40 rfl hi40 ?_)
     | refine wpList_load_mid rfl 26 _ rfl W2.heap.size 0 rfl (Gm.ints (t.take 40)) _ HR hu40 rfl hi40 ?_
     | fail)
   rw [HZ.out]
   clear HR hu40 hi40 HZ
   obtain ⟨qb, hqb⟩ : ∃ z, Gm.quietB t = z := ⟨_, rfl⟩
   rw [hqb] at HN ⊢
   cases qb with
   | true =>
     obtain ⟨W5, hW5⟩ : ∃ z, W4.setCells W3.heap.size 2 [.int .i64 7, .int .i64 0, .int .i64 0] = z := ⟨_, rfl⟩
     have hne : W3.heap.size ≠ W2.heap.size := by omega
     have N5 : W5.heap[W3.heap.size]? = some (.cells #[.int .i64 i, .int .i64 0, .int .i64 7, .int .i64 0, .int .i64 0] 80 (0, 0)) := by
      rw [← hW5]; simp [World.setCells, World.setCell, Array.getElem?_modify, N4]
     have P5 : W5.heap[W2.heap.size]? = some (.cells (Gm.ints t).toArray 29 (0, 0)) := by
      rw [← hW5]; simp [World.setCells, World.setCell, Array.getElem?_modify, P4, hne]
     have T4 : W4.there W3.heap.size 2 3 := fun j hj => by
      match j, hj with
      | 0, _ => simp [World.cell?, World.frozen?, N4]
      | 1, _ => simp [World.cell?, World.frozen?, N4]
      | 2, _ => simp [World.cell?, World.frozen?, N4]
     have i3 : (Tryz.prog.info? 46).map (·.size) = some 3 := by kernel_rfl
     have h13 : (#[.int .i64 7, .int .i64 0, .int .i64 0] : Array Value).all (·.oneCell') = true := all_oneCell_toArray (Gm.ints_one [7, 0, 0])
     have hB5 : Below X.heap.size X W5 := by
      rw [← hW5]
      have h3 : X.heap.size ≤ W3.heap.size := by have := HB3.out.2.1; omega
      have h4 : Below X.heap.size X W4 := by rw [← HW4.out]; exact HB3.out.1.alloc h3 _
      exact ((h4.setCell (p := ⟨W3.heap.size, 2, none⟩) h3 _).setCell (p := ⟨W3.heap.size, 3, none⟩) h3 _).setCell (p := ⟨W3.heap.size, 4, none⟩) h3 _
     obtain ⟨W6, hW6⟩ : ∃ z, W5.setCell ⟨W2.heap.size, 48, none⟩ (.int .i64 1) = z := ⟨_, rfl⟩
     have N6 : W6.heap[W3.heap.size]? = some (.cells #[.int .i64 i, .int .i64 0, .int .i64 7, .int .i64 0, .int .i64 0] 80 (0, 0)) := by
      rw [← hW6, Below.heap_setCell _ _ _ _ hne]; exact N5
     have P6 : W6.heap[W2.heap.size]? = some (.cells (Gm.ints (t.set 48 1)).toArray 29 (0, 0)) := by rw [← hW6]; exact Gm.put_row P5
     have hB6 : Below X.heap.size X W6 := by rw [← hW6]; exact hB5.setCell (p := ⟨W2.heap.size, 48, none⟩) HB3.out.2.1 _
     have c48 : W5.cell? ⟨W2.heap.size, 48, none⟩ = some (.int .i64 (t.getD 48 0)) := by
      simp only [World.cell?, P5]
      rw [Gm.ints_get (by omega)]
      rfl
     have f48 : W5.frozen? ⟨W2.heap.size, 48, none⟩ = false := by simp [World.frozen?, P5]
     have e6 : (Tryz.prog.info? 29).map (·.size) = some (Gm.ints (t.set 48 1)).toArray.size := by
      have : (Gm.ints (t.set 48 1)).toArray.size = (Gm.ints t).toArray.size := by simp [Gm.ints]
      rw [this]; exact e1
     have um := Tryz.underlying80
     have im : (Tryz.prog.info? 80).map (·.size) = some 5 := by kernel_rfl
     have HC : Hid _ := Tryz.add_any w0 B b an n cn af m cf l want p.1 p.2 (t.set 48 1) ⟨i, 0, 7, 0, 0⟩ W6 (HB3.out.2.2.below hB6) (by simpa using htl) (by have := HN.out.2.2.2.2; omega)
     have HK6 : Hid (Gm.KeepI X W6) := Gm.KeepI.below hB6
     have HW5 : Hid _ := hW5
     have HW6 : Hid _ := hW6
     clear hW5 hW6 hB5 hB6 N4 P4 N5 P5 hne hq3
     go_upto_region 4 with fail
     go_upto_region 5 with (refine wpList_store_mid rfl 46 _ _ rfl W3.heap.size 2 #[.int .i64 7, .int .i64 0, .int .i64 0] rfl rfl T4 i3 h13 ?_; change wpList _ _ _ _ _ (World.setCells W4 W3.heap.size 2 [.int .i64 7, .int .i64 0, .int .i64 0]); rw [HW5.out])
     go_upto_region 6 with fail
     rw [HW6.out]
     go_wp2_with (first
      | refine wpList_load_row rfl 80 _ rfl _ rfl 80 _ (0, 0) _ N6 um rfl im ?_
      | refine wpList_load_row rfl 29 _ rfl _ rfl 29 (Gm.ints (t.set 48 1)).toArray (0, 0) _ P6 hu rfl e6 ?_
      | fail)
     refine Calls.mono HC.out ?_
     rintro e' W7 ⟨rfl, g7, k7⟩
     have HE : Hid (Gm.G w0 B b an n cn af m cf l want R.1 R.2 W7 ∧ Gm.KeepI X W7) := by
      have h1 := HN.out.1
      have h2 : Gm.goes want p [(⟨i, 0, 7, 0, 0⟩, t.set 48 1)] = R := by simpa using h1
      rw [← h2]
      exact ⟨g7, HK6.out.trans k7⟩
     clear g7 k7 HC
     go_wp2
     go_end0
     exact ⟨rfl, HE.out⟩
   | false =>
     have um := Tryz.underlying80
     have im : (Tryz.prog.info? 80).map (·.size) = some 5 := by kernel_rfl
     have hB4 : Below X.heap.size X W4 := by
      have h3 : X.heap.size ≤ W3.heap.size := by have := HB3.out.2.1; omega
      rw [← HW4.out]; exact HB3.out.1.alloc h3 _
     have HC : Hid _ := Tryz.add_any w0 B b an n cn af m cf l want p.1 p.2 t ⟨i, 0, 0, 0, 0⟩ W4 (HB3.out.2.2.below hB4) htl (by have := HN.out.2.2.2.2; omega)
     have HK4 : Hid (Gm.KeepI X W4) := Gm.KeepI.below hB4
     clear hB4 hq3
     go_wp2_with (first
      | refine wpList_load_row rfl 80 _ rfl _ rfl 80 _ (0, 0) _ N4 um rfl im ?_
      | refine wpList_load_row rfl 29 _ rfl _ rfl 29 (Gm.ints t).toArray (0, 0) _ P4 hu rfl e1 ?_
      | fail)
     refine Calls.mono HC.out ?_
     rintro e' W7 ⟨rfl, g7, k7⟩
     have HE : Hid (Gm.G w0 B b an n cn af m cf l want R.1 R.2 W7 ∧ Gm.KeepI X W7) := by
      have h1 := HN.out.1
      have h2 : Gm.goes want p [(⟨i, 0, 0, 0, 0⟩, t)] = R := by simpa using h1
      rw [← h2]
      exact ⟨g7, HK4.out.trans k7⟩
     clear g7 k7 HC
     go_wp2
     go_end0
     exact ⟨rfl, HE.out⟩
end Go.Proofs
