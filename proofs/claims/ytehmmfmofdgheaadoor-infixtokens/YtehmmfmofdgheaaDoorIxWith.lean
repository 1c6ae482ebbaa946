/-
  infix: the contracts of the operator's taken and of with.
-/
import Derived.Test.YtehmmfmofdgheaaDoorIxOper
import Derived.BigQuiet
namespace Go.Proofs
open Go.RowKit

namespace Ix
/-- A term is written with this operator. -/
def takB (o : Op) (T : Tm) : Bool := if o.de then (T.op == 4 && ((k0 T).op == o.op && !o.sw)) else (T.op == o.op && !o.sw)
def withO (T : Tm) : Option Op := ops.find? fun o => takB o T
theorem with_hit (T : Tm) (k : Nat) (hk : k < 15) (h : takB (opN k) T = true) (hn : ∀ j, j < k → takB (opN j) T = false) : withO T = some (opN k) := by
  have hg : ∀ j (h : j < 15), opN j = ops[j]'h := fun j h => by
    unfold opN
    rw [List.getD_eq_getElem?_getD, List.getElem?_eq_getElem (by exact h), Option.getD_some]
  unfold withO
  rw [List.find?_eq_some_iff_getElem]
  refine ⟨h, k, hk, (hg k hk).symm, fun j hj => ?_⟩
  have := hn j hj
  rw [hg j (by omega)] at this
  exact congrArg (!·) this
theorem with_none (T : Tm) (hn : ∀ j, j < 15 → takB (opN j) T = false) : withO T = none := by
  unfold withO
  rw [List.find?_eq_none]
  intro o ho
  obtain ⟨j, hj, rfl⟩ := List.getElem_of_mem ho
  have := hn j hj
  unfold opN at this
  rw [List.getD_eq_getElem?_getD, List.getElem?_eq_getElem hj, Option.getD_some] at this
  rw [this]; decide
/-- What an operator takes of a term: its kids, or its kid's. -/
def Kids (w : World) (B : Nat) (o : Op) (T : Tm) (v kv : Value) : Prop := if o.de then ∃ d, Tm.Lies w B d kv (k0 T) else kv = v
end Ix

theorem Ix.below_row {B : Nat} {a w : World} (h : Below B a w) {g : Nat} (hg : B ≤ g) (cs : Array Value) : Below B a (w.setRow g cs) :=
  ⟨h.os, h.tape, h.output, by simpa [World.setRow] using h.size, fun k hk => (Ix.setRow_other (by omega) cs).trans (h.block k hk)⟩

set_option maxHeartbeats 8000000 in
set_option maxRecDepth 20000 in
theorem Tryd.taken_any (o : Ix.Op) (d B : Nat) (T : Tm) (v : Value) (w : World) (hT : Tm.Lies w B d v T) (hB : B ≤ w.heap.size) (hk : T.op = 4 → T.ks.length = 1) :
    Calls Tryd.prog 73 #[.agg (Ix.opRow o), .agg #[.int .i64 T.op, .int .i64 T.num, v]] w fun e w' => (∃ (a : Option Addr) (n c : Nat), e = .returned (.tuple #[.slice a n c, .bool (Ix.takB o T)]) ∧ (Ix.takB o T = true → Ix.Kids w B o T v (.slice a n c))) ∧ Below w.heap.size w w' := by
  obtain ⟨d, rfl⟩ : ∃ k, d = k + 1 := by
    cases d with
    | zero => exact hT.elim
    | succ d => exact ⟨d, rfl⟩
  obtain ⟨a, cap, rfl⟩ := hT.shape
  obtain ⟨orow, otx, oop, osw, ode⟩ := o
  obtain ⟨tx, htx⟩ : ∃ s : ByteArray, s = ⟨otx.toArray⟩ := ⟨_, rfl⟩
  simp only [Ix.opRow]
  rw [← htx]
  obtain ⟨tp, hto⟩ : ∃ z, T.op = z := ⟨_, rfl⟩
  obtain ⟨tn, htn⟩ : ∃ z, T.num = z := ⟨_, rfl⟩
  obtain ⟨n, hn⟩ : ∃ z, T.ks.length = z := ⟨_, rfl⟩
  rw [hto, htn, hn]
  obtain ⟨w1, hw1⟩ : ∃ x, w.alloc (.cells #[.int .i64 orow, .string tx, .int .i64 oop, .bool osw, .bool ode] 88) = x := ⟨_, rfl⟩
  obtain ⟨w2, hw2⟩ : ∃ x, w1.alloc (.cells #[.int .i64 tp, .int .i64 tn, .slice a n cap] 37) = x := ⟨_, rfl⟩
  have s1 : w1.heap.size = w.heap.size + 1 := by rw [← hw1]; simp
  have HW : Hid (w.alloc (.cells #[.int .i64 orow, .string tx, .int .i64 oop, .bool osw, .bool ode] 88) = w1 ∧ w1.alloc (.cells #[.int .i64 tp, .int .i64 tn, .slice a n cap] 37) = w2 ∧ w1.heap.size = w.heap.size + 1) := ⟨hw1, hw2, s1⟩
  have B2 : Hid (Below w.heap.size w w2) := by rw [← hw2, ← hw1]; exact ((Below.refl _ w).alloc (Nat.le_refl _) _).alloc (by simp) _
  have O2 : w2.heap[w.heap.size]? = some (.cells #[.int .i64 orow, .string tx, .int .i64 oop, .bool osw, .bool ode] 88 (0, 0)) := by rw [← hw2, Below.heap_alloc _ _ _ (by omega), ← hw1]; exact heap_alloc_new w _
  have T2 : w2.heap[w.heap.size + 1]? = some (.cells #[.int .i64 tp, .int .i64 tn, .slice a n cap] 37 (0, 0)) := by rw [← hw2, ← s1]; exact heap_alloc_new w1 _
  have HO2 : Hid _ := O2
  have HT2 : Hid (w2.heap[w.heap.size + 1]? = some (.cells #[.int .i64 tp, .int .i64 tn, .slice a n cap] 37 (0, 0))) := T2
  obtain ⟨⟨z0, z1, z2, z3, z4⟩, -⟩ := Ix.row5 O2
  obtain ⟨⟨x0, x1, x2⟩, y0, y1, y2⟩ := Tk.row3 T2
  cases ode with
  | false =>
    have HR : Hid (Ix.takB ⟨orow, otx, oop, osw, false⟩ T = (tp == oop && !osw)) := by show _ = _; unfold Ix.takB; rw [← hto]; rfl
    clear hw1 hw2 s1 O2 T2 hto htn hn hT htx hk
    obtain ⟨eb, heb⟩ : ∃ z, (tp == oop) = z := ⟨_, rfl⟩
    have HEB : Hid ((tp == oop) = eb) := heb
    cases eb with
    | true =>
      have HR2 : Hid (Ix.takB ⟨orow, otx, oop, osw, false⟩ T = !osw) := by show _ = _; rw [HR.out, HEB.out]; rfl
      go_enter Tryd.func73, Tryd.ntmps73
      go_upto_region 1 with fail
      rw [HW.out.1, HW.out.2.1]
      go_upto_region 5 with fail
      go_quiet (fail)
      go_wp2
      go_ret2
      exact ⟨⟨a, n, cap, by rw [HR2.out]; rfl, fun _ => rfl⟩, Tk.below_drewN B2.out _⟩
    | false =>
      have HR2 : Hid (Ix.takB ⟨orow, otx, oop, osw, false⟩ T = false) := by show _ = _; rw [HR.out, HEB.out]; rfl
      go_enter Tryd.func73, Tryd.ntmps73
      go_upto_region 1 with fail
      rw [HW.out.1, HW.out.2.1]
      go_upto_region 5 with fail
      go_quiet (fail)
      go_wp2
      go_ret2
      exact ⟨⟨a, n, cap, by rw [HR2.out]; rfl, fun _ => rfl⟩, Tk.below_drewN B2.out _⟩
  | true =>
    by_cases h4 : tp = 4
    · have hk1 := hk (by rw [hto]; exact h4)
      rw [hn] at hk1
      subst hk1 h4
      obtain ⟨g, off, u, rfl, hg, q0, q1, q2, q3⟩ := hT.kid 0 (by rw [hn]; omega)
      obtain ⟨x, hx⟩ : ∃ x, T.ks[0]'(by rw [hn]; omega) = x := ⟨_, rfl⟩
      rw [hx] at q0 q1 q3
      have hx0 : Ix.k0 T = x := by unfold Ix.k0; rw [List.getD_eq_getElem?_getD, List.getElem?_eq_getElem (by rw [hn]; omega), Option.getD_some]; exact hx
      obtain ⟨au, cu, rfl⟩ := q3.shape
      obtain ⟨xo, hxo⟩ : ∃ z, x.op = z := ⟨_, rfl⟩
      obtain ⟨xn, hxn⟩ : ∃ z, x.num = z := ⟨_, rfl⟩
      obtain ⟨xl, hxl⟩ : ∃ z, x.ks.length = z := ⟨_, rfl⟩
      rw [hxl] at q2 q3
      rw [hxo] at q0
      rw [hxn] at q1
      simp only [Nat.zero_mul, Nat.add_zero] at q0 q1 q2
      have hc : ∀ p, w2.cell? ⟨g, p, none⟩ = w.cell? ⟨g, p, none⟩ := fun p => B2.out.cell (p := ⟨g, p, none⟩) (by show g < _; omega)
      have c0 : w2.cell? ⟨g, off, none⟩ = some (.int .i64 xo) := by rw [hc]; exact q0
      have c1 : w2.cell? ⟨g, off + 1, none⟩ = some (.int .i64 xn) := by rw [hc]; exact q1
      have c2 : w2.cell? ⟨g, off + 2, none⟩ = some (.slice au xl cu) := by rw [hc]; exact q2
      have HK : Hid (∃ d, Tm.Lies w B d (.slice au xl cu) (Ix.k0 T)) := ⟨_, by rw [hx0]; exact q3⟩
      obtain ⟨eb, heb⟩ : ∃ z, (xo == oop) = z := ⟨_, rfl⟩
      have HEB : Hid ((xo == oop) = eb) := heb
      have HR : Hid (Ix.takB ⟨orow, otx, oop, osw, true⟩ T = (eb && !osw)) := by show _ = _; unfold Ix.takB; rw [hto, hx0, hxo, heb]; rfl
      obtain ⟨w3, hw3⟩ : ∃ z, ((w2.setCell ⟨w.heap.size + 1, 0, none⟩ (.int .i64 xo)).setCell ⟨w.heap.size + 1, 1, none⟩ (.int .i64 xn)).setCell ⟨w.heap.size + 1, 2, none⟩ (.slice au xl cu) = z := ⟨_, rfl⟩
      have HW3 : Hid (((w2.setCell ⟨w.heap.size + 1, 0, none⟩ (.int .i64 xo)).setCell ⟨w.heap.size + 1, 1, none⟩ (.int .i64 xn)).setCell ⟨w.heap.size + 1, 2, none⟩ (.slice au xl cu) = w3) := hw3
      have B3 : Hid (Below w.heap.size w w3) := by rw [← hw3]; exact Tk.bsetCell (Tk.bsetCell (Tk.bsetCell B2.out (Nat.le_succ _) _) (Nat.le_succ _) _) (Nat.le_succ _) _
      have O3 : w3.heap[w.heap.size]? = some (.cells #[.int .i64 orow, .string tx, .int .i64 oop, .bool osw, .bool true] 88 (0, 0)) := by
        rw [← hw3, Below.heap_setCell _ _ _ _ (by simp), Below.heap_setCell _ _ _ _ (by simp), Below.heap_setCell _ _ _ _ (by simp)]; exact O2
      have T3 : w3.heap[w.heap.size + 1]? = some (.cells #[.int .i64 xo, .int .i64 xn, .slice au xl cu] 37 (0, 0)) := by rw [← hw3]; exact Tk.put3 T2
      have HO3 : Hid _ := O3
      have HT3 : Hid _ := T3
      clear hw1 hw2 s1 O2 T2 hto htn hn hT htx hk hx hxo hxn hxl q0 q1 q2 q3 hc hw3 O3 T3 heb hx0
      go_enter Tryd.func73, Tryd.ntmps73
      go_upto_region 1 with fail
      rw [HW.out.1, HW.out.2.1]
      go_upto_region 5 with fail
      rw [HW3.out]
      clear c0 c1 c2 x0 x1 x2 y0 y1 y2 z0 z1 z2 z3 z4
      obtain ⟨⟨z0, z1, z2, z3, z4⟩, -⟩ := Ix.row5 HO3.out
      obtain ⟨⟨x0, x1, x2⟩, -⟩ := Tk.row3 HT3.out
      cases eb with
      | true =>
        have e1 : (xo == oop) = true := HEB.out
        go_quiet (fail)
        go_wp2
        go_ret2
        exact ⟨⟨au, xl, cu, by rw [HR.out]; rfl, fun _ => HK.out⟩, Tk.below_drewN B3.out _⟩
      | false =>
        have e1 : (xo == oop) = false := HEB.out
        go_quiet (fail)
        go_wp2
        go_ret2
        exact ⟨⟨au, xl, cu, by rw [HR.out]; rfl, fun _ => HK.out⟩, Tk.below_drewN B3.out _⟩
    · have e1 : (tp == 4) = false := by simpa using h4
      have HR : Hid (Ix.takB ⟨orow, otx, oop, osw, true⟩ T = false) := by show _ = _; unfold Ix.takB; rw [hto, e1]; rfl
      clear hw1 hw2 s1 O2 T2 hto htn hn hT htx hk h4
      go_enter Tryd.func73, Tryd.ntmps73
      go_upto_region 1 with fail
      rw [HW.out.1, HW.out.2.1]
      go_wp2
      go_ret2
      exact ⟨⟨none, 0, 0, by rw [HR.out]; rfl, fun h => by rw [HR.out] at h; cases h⟩, B2.out⟩

namespace Ix
def opEight : Array Value := #[.int .i64 8, .string ⟨#[]⟩, .int .i64 0, .bool false, .bool false]
def withRow (o : Option Op) : Array Value := match o with | some o => opRow o | none => opEight
/-- What with answers. -/
def Withd (B : Nat) (T : Tm) (v : Value) (w : World) (e : Ending) (w' : World) : Prop := ∃ (a : Option Addr) (n c : Nat), e = .returned (.tuple #[.agg (withRow (withO T)), .slice a n c]) ∧ Below w.heap.size w w' ∧ (∀ o, withO T = some o → Kids w B o T v (.slice a n c)) ∧ (withO T = none → n = 0)
theorem Kids.back {w w' : World} {B : Nat} {o : Op} {T : Tm} {v kv : Value} (h : Kids w' B o T v kv) (hb : ∀ k, k < B → w.heap[k]? = w'.heap[k]?) : Kids w B o T v kv := by
  unfold Kids at *
  split
  · rename_i hd
    rw [if_pos hd] at h
    obtain ⟨d, h⟩ := h
    exact ⟨d, h.keep hb⟩
  · rename_i hd
    rw [if_neg hd] at h
    exact h
end Ix

set_option maxHeartbeats 8000000 in
set_option maxRecDepth 20000 in
theorem Tryd.with_any (d B : Nat) (T : Tm) (v : Value) (w : World) (hT : Tm.Lies w B d v T) (hB : B ≤ w.heap.size) (hk : T.op = 4 → T.ks.length = 1) (hI : Ix.Tabs w) :
    Calls Tryd.prog 50 #[.agg #[.int .i64 T.op, .int .i64 T.num, v]] w fun e w' => Ix.Withd B T v w e w' := by
  have HTK : Hid (∀ (o : Ix.Op) (W : World), Below w.heap.size w W → Calls Tryd.prog 73 #[.agg (Ix.opRow o), .agg #[.int .i64 T.op, .int .i64 T.num, v]] W fun e w' => (∃ (a : Option Addr) (n c : Nat), e = .returned (.tuple #[.slice a n c, .bool (Ix.takB o T)]) ∧ (Ix.takB o T = true → Ix.Kids w B o T v (.slice a n c))) ∧ Below W.heap.size W w') := fun o W hW => by
    refine (Tryd.taken_any o d B T v W (hT.keep fun k hk => hW.block k (by omega)) (by have := hW.size; omega) hk).mono fun e w' ⟨⟨a, n, c, h1, h2⟩, h3⟩ => ⟨⟨a, n, c, h1, fun h => (h2 h).back fun k hk => (hW.block k (by omega)).symm⟩, h3⟩
  obtain ⟨a0, cap0, rfl⟩ := hT.shape
  obtain ⟨tp, htp⟩ : ∃ z, T.op = z := ⟨_, rfl⟩
  obtain ⟨tn, htn⟩ : ∃ z, T.num = z := ⟨_, rfl⟩
  obtain ⟨n0, hn0⟩ : ∃ z, T.ks.length = z := ⟨_, rfl⟩
  rw [htp, htn, hn0] at HTK ⊢
  obtain ⟨w1, hw1⟩ : ∃ x, w.alloc (.cells #[.int .i64 tp, .int .i64 tn, .slice a0 n0 cap0] 37) = x := ⟨_, rfl⟩
  obtain ⟨w2, hw2⟩ : ∃ x, w1.alloc (.cells #[.int .i64 0, .string ⟨#[]⟩, .int .i64 0, .bool false, .bool false] 88) = x := ⟨_, rfl⟩
  have s1 : w1.heap.size = w.heap.size + 1 := by rw [← hw1]; simp
  have HW : Hid (w.alloc (.cells #[.int .i64 tp, .int .i64 tn, .slice a0 n0 cap0] 37) = w1 ∧ w1.alloc (.cells #[.int .i64 0, .string ⟨#[]⟩, .int .i64 0, .bool false, .bool false] 88) = w2) := ⟨hw1, hw2⟩
  have HB2 : Hid (Below w.heap.size w w2) := by rw [← hw2, ← hw1]; exact ((Below.refl _ w).alloc (Nat.le_refl _) _).alloc (by simp) _
  have HT2 : Hid (w2.heap[w.heap.size]? = some (.cells #[.int .i64 tp, .int .i64 tn, .slice a0 n0 cap0] 37 (0, 0))) := by rw [← hw2, Below.heap_alloc _ _ _ (by omega), ← hw1]; exact heap_alloc_new w _
  have HR2 : Hid (w2.heap[w.heap.size + 1]? = some (.cells #[.int .i64 0, .string ⟨#[]⟩, .int .i64 0, .bool false, .bool false] 88 (0, 0))) := by rw [← hw2, ← s1]; exact heap_alloc_new w1 _
  obtain ⟨⟨t, fz, hE0⟩, _⟩ := hI
  have hE : w2.heap[2]? = some (.cells Ix.opVals t fz) := (HB2.out.block _ (Array.getElem?_eq_some_iff.1 hE0).1).trans hE0
  have hu := Tryd.underlying113
  clear hT hk htp htn hn0 hw1 hw2 s1 hE0
  go_enter Tryd.func50, Tryd.ntmps50
  go_upto_region 1 with fail
  rw [HW.out.1, HW.out.2]
  go_wp2_with (refine wpList_load_row rfl 113 _ rfl 2 rfl t Ix.opVals fz _ hE hu rfl (by kernel_rfl) ?_)
  clear hE
  go_loopg [9] 15 (fun g i wr => ∃ k : Nat, g + k = 15 ∧ i = .int .i64 k ∧ Hid (Below w.heap.size w wr ∧ wr.heap[w.heap.size]? = some (.cells #[.int .i64 tp, .int .i64 tn, .slice a0 n0 cap0] 37 (0, 0)) ∧ wr.heap[w.heap.size + 1]? = some (.cells #[.int .i64 0, .string ⟨#[]⟩, .int .i64 0, .bool false, .bool false] 88 (0, 0)) ∧ ∀ j : Nat, j < k → Ix.takB (Ix.opN j) T = false))
  case atStart => exact ⟨0, by omega, rfl, HB2.out, HT2.out, HR2.out, fun j hj => by omega⟩
  case round =>
    obtain ⟨k, hg, rfl, HI⟩ := hrel
    by_cases hk : k < 15
    · have ix := Ix.ops_index k hk
      obtain ⟨o, ho⟩ : ∃ o, Ix.opN k = o := ⟨_, rfl⟩
      have HO : Hid (Ix.opN k = o) := ho
      rw [ho] at ix
      obtain ⟨orow, otx, oop, osw, ode⟩ := o
      obtain ⟨tx, htx⟩ : ∃ s : ByteArray, s = ⟨otx.toArray⟩ := ⟨_, rfl⟩
      simp only [Ix.opRow] at ix
      rw [← htx] at ix
      have HTX : Hid (tx = ⟨otx.toArray⟩) := htx
      obtain ⟨W1, hW1⟩ : ∃ z, wr.alloc (.cells #[.int .i64 orow, .string tx, .int .i64 oop, .bool osw, .bool ode] 88) = z := ⟨_, rfl⟩
      have HW1 : Hid (wr.alloc (.cells #[.int .i64 orow, .string tx, .int .i64 oop, .bool osw, .bool ode] 88) = W1) := hW1
      have hlt1 := (Array.getElem?_eq_some_iff.1 HI.out.2.2.1).1
      have B1 : Hid (Below wr.heap.size wr W1) := by rw [← hW1]; exact (Below.refl _ wr).alloc (Nat.le_refl _) _
      have N1 : Hid (W1.heap[wr.heap.size]? = some (.cells #[.int .i64 orow, .string tx, .int .i64 oop, .bool osw, .bool ode] 88 (0, 0))) := by rw [← hW1]; exact heap_alloc_new wr _
      have T1 : Hid (W1.heap[w.heap.size]? = some (.cells #[.int .i64 tp, .int .i64 tn, .slice a0 n0 cap0] 37 (0, 0))) := (B1.out.block _ (by omega)).trans HI.out.2.1
      have R1 : Hid (W1.heap[w.heap.size + 1]? = some (.cells #[.int .i64 0, .string ⟨#[]⟩, .int .i64 0, .bool false, .bool false] 88 (0, 0))) := (B1.out.block _ hlt1).trans HI.out.2.2.1
      have BW1 : Hid (Below w.heap.size w W1) := HI.out.1.trans (B1.out.mono HI.out.1.size)
      have h1 := HTK.out ⟨orow, otx, oop, osw, ode⟩ W1 BW1.out
      simp only [Ix.opRow] at h1
      rw [← htx] at h1
      obtain ⟨tb, htb⟩ : ∃ z, Ix.takB ⟨orow, otx, oop, osw, ode⟩ T = z := ⟨_, rfl⟩
      rw [htb] at h1
      have H1 : Hid _ := h1
      have HB : Hid (Ix.takB ⟨orow, otx, oop, osw, ode⟩ T = tb) := htb
      obtain ⟨⟨z0, z1, z2, z3, z4⟩, -⟩ := Ix.row5 N1.out
      obtain ⟨⟨x0, x1, x2⟩, -⟩ := Tk.row3 T1.out
      clear ho htx hW1 hlt1 h1 htb
      go_upto_region 4 with fail
      rw [HW1.out]
      go_wp2_with fail
      refine Calls.mono H1.out ?_
      rintro e W2 ⟨⟨a2, n2, c2, rfl, hkd⟩, b2⟩
      have HKD : Hid (tb = true → Ix.Kids w B ⟨orow, otx, oop, osw, ode⟩ T (.slice a0 n0 cap0) (.slice a2 n2 c2)) := hkd
      have N2 : Hid (W2.heap[wr.heap.size]? = some (.cells #[.int .i64 orow, .string tx, .int .i64 oop, .bool osw, .bool ode] 88 (0, 0))) := (b2.block _ (Array.getElem?_eq_some_iff.1 N1.out).1).trans N1.out
      have T2 : Hid (W2.heap[w.heap.size]? = some (.cells #[.int .i64 tp, .int .i64 tn, .slice a0 n0 cap0] 37 (0, 0))) := (b2.block _ (Array.getElem?_eq_some_iff.1 T1.out).1).trans T1.out
      have R2 : Hid (W2.heap[w.heap.size + 1]? = some (.cells #[.int .i64 0, .string ⟨#[]⟩, .int .i64 0, .bool false, .bool false] 88 (0, 0))) := (b2.block _ (Array.getElem?_eq_some_iff.1 R1.out).1).trans R1.out
      have BW2 : Hid (Below w.heap.size w W2) := BW1.out.trans (b2.mono BW1.out.size)
      obtain ⟨⟨z0, z1, z2, z3, z4⟩, -⟩ := Ix.row5 N2.out
      clear hkd b2
      cases tb with
      | true =>
        have HF : Hid (Ix.withO T = some ⟨orow, otx, oop, osw, ode⟩) := by
          have := Ix.with_hit T k hk (by rw [HO.out]; exact HB.out) HI.out.2.2.2
          rw [HO.out] at this
          exact this
        go_wp2_with (refine wpList_store_row rfl 88 _ _ rfl (w.heap.size + 1) #[.int .i64 orow, .string tx, .int .i64 oop, .bool osw, .bool ode] rfl rfl 88 _ R2.out (by kernel_rfl) rfl (by kernel_rfl) ?_)
        refine bodyPost_ret (Ix.results_op Tryd.results50 _ _ (w.heap.size + 1) #[.int .i64 orow, .string tx, .int .i64 oop, .bool osw, .bool ode] rfl (setRow_heap _ _ _ _ _ _ R2.out) rfl) rfl ?_
        refine ⟨a2, n2, c2, by rw [HF.out, HTX.out]; rfl, Ix.below_row BW2.out (Nat.le_succ _) _, fun o ho => ?_, fun h => by rw [HF.out] at h; cases h⟩
        rw [HF.out] at ho
        obtain rfl := Option.some.inj ho
        exact HKD.out (by first | rfl | trivial)
      | false =>
        go_wp2
        go_roundg (gk - 1)
        case measure => omega
        case rel =>
          refine ⟨k + 1, by omega, by go_num, BW2.out, T2.out, R2.out, fun j hj => ?_⟩
          by_cases e : j = k
          · subst e; rw [HO.out]; exact HB.out
          · exact HI.out.2.2.2 j (by omega)
    · have HF : Hid (Ix.withO T = none) := Ix.with_none T fun j hj => HI.out.2.2.2 j (by omega)
      go_wp2_with (refine wpList_store_row rfl 88 _ _ rfl (w.heap.size + 1) Ix.opEight rfl rfl 88 _ HI.out.2.2.1 (by kernel_rfl) rfl (by kernel_rfl) ?_)
      refine bodyPost_ret (Ix.results_op Tryd.results50 _ _ (w.heap.size + 1) Ix.opEight rfl (setRow_heap _ _ _ _ _ _ HI.out.2.2.1) rfl) rfl ?_
      exact ⟨none, 0, 0, by rw [HF.out]; rfl, Ix.below_row HI.out.1 (Nat.le_succ _) _, (fun o ho => by rw [HF.out] at ho; cases ho), fun _ => rfl⟩

end Go.Proofs
