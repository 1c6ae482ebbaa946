/-
  Rows of bytes that grow: where they lie afterwards, and what stays as it was.
-/
import Derived.Test.YtehmmfmofdgheaaDoorTStep
import Derived.Maps.AppendAt
namespace Go.Proofs
open Go.RowKit

namespace Ix
/-- A row of bytes of the call's own. -/
def R (B : Nat) (w : World) (v : Value) (l : List UInt8) : Prop := w.ownsRow B 5 1 v l.length (Lib.byteCells l)
/-- Memory grows, and the row v becomes the row v': other blocks stay, and none of them becomes the row's. -/
structure Gr (w : World) (v : Value) (w' : World) (v' : Value) : Prop where
  os : w'.os = w.os
  tape : w'.tape = w.tape
  output : w'.output = w.output
  size : w.heap.size ≤ w'.heap.size
  block : ∀ k, k < w.heap.size → v.ownBlock ≠ some k → w'.heap[k]? = w.heap[k]? ∧ v'.ownBlock ≠ some k
theorem Gr.refl (w : World) (v : Value) : Gr w v w v := ⟨rfl, rfl, rfl, Nat.le_refl _, fun _ _ h => ⟨rfl, h⟩⟩
theorem Gr.trans {a b c : World} {u v x : Value} (h : Gr a u b v) (k : Gr b v c x) : Gr a u c x :=
  ⟨k.os.trans h.os, k.tape.trans h.tape, k.output.trans h.output, Nat.le_trans h.size k.size, fun j h1 h2 => by
    obtain ⟨p, q⟩ := h.block j h1 h2
    obtain ⟨p', q'⟩ := k.block j (Nat.lt_of_lt_of_le h1 h.size) q
    exact ⟨p'.trans p, q'⟩⟩
theorem Gr.below {w w' : World} (h : Below w.heap.size w w') (v : Value) : Gr w v w' v := ⟨h.os, h.tape, h.output, h.size, fun k h1 h2 => ⟨h.block k h1, h2⟩⟩
theorem Gr.alloc (w : World) (v : Value) (o : Obj) : Gr w v (w.alloc o) v := Gr.below ((Below.refl _ w).alloc (Nat.le_refl _) _) v
theorem Gr.drew (w : World) (v : Value) : Gr w v w.drew v := ⟨rfl, rfl, rfl, Nat.le_refl _, fun _ _ h => ⟨rfl, h⟩⟩
theorem Gr.heap {w w' : World} {v v' : Value} (h : Gr w v w' v') {k : Nat} {o : Obj} (ho : w.heap[k]? = some o) (hne : v.ownBlock ≠ some k) : w'.heap[k]? = some o := (h.block k (Array.getElem?_eq_some_iff.1 ho).1 hne).1.trans ho
theorem Gr.low {w w' : World} {v v' : Value} {B : Nat} {l : List UInt8} (h : Gr w v w' v') (hr : R B w v l) (hB : B ≤ w.heap.size) : Below B w w' :=
  ⟨h.os, h.tape, h.output, h.size, fun k hk => (h.block k (by omega) (fun e => by have := (World.ownsRow.lt hr k e).1; omega)).1⟩
theorem R.lt {B : Nat} {w : World} {v : Value} {l : List UInt8} (h : R B w v l) {k : Nat} (e : v.ownBlock = some k) : B ≤ k ∧ k < w.heap.size := World.ownsRow.lt h k e
theorem R.ne {B : Nat} {w : World} {v : Value} {l : List UInt8} (h : R B w v l) {k : Nat} (hk : w.heap.size ≤ k) : v.ownBlock ≠ some k := fun e => by have := (h.lt e).2; omega
theorem R.alloc {B : Nat} {w : World} {v : Value} {l : List UInt8} (h : R B w v l) (o : Obj) : R B (w.alloc o) v l := World.ownsRow.alloc h o
theorem R.keep {B : Nat} {w w' : World} {v : Value} {l : List UInt8} (h : R B w v l) (hb : Below w.heap.size w w') : R B w' v l := by
  rcases h with ⟨hl, h | ⟨g, cap, cur, rfl, hB2, hg, h4⟩⟩
  · exact ⟨hl, .inl h⟩
  · exact ⟨hl, .inr ⟨g, cap, cur, rfl, hB2, by rw [hb.block g (Array.getElem?_eq_some_iff.1 hg).1]; exact hg, h4⟩⟩
/-- A block of another type isn't the row's. -/
theorem R.ne_of {B : Nat} {w : World} {v : Value} {l : List UInt8} (h : R B w v l) {g : Nat} {c : Array Value} {t : TypeId} {fz : Nat × Nat} (hg : w.heap[g]? = some (.cells c t fz)) (hne : t ≠ 5) : v.ownBlock ≠ some g := fun e => Tk.row_ne h hg hne e.symm
def byte (c : Int) : Obj := .cells #[.int .u8 c] 5
theorem byte_new (w : World) (c : Int) : (w.alloc (byte c)).heap[w.heap.size]? = some (byte c) := heap_alloc_new w _
theorem byte_cell {w : World} {q : Nat} {c : Int} (h : w.heap[q]? = some (byte c)) : ∀ j u, [Value.int .u8 c][j]? = some u → w.cell? ((⟨q, 0, none⟩ : Addr).add j) = some u := by
  intro j u hj
  match j, hj with
  | 0, hj =>
    simp at hj; subst hj
    simp [Addr.add, World.cell?, h, byte]
theorem infoB : (Tryd.prog.info? 5).map (fun i => (i.zero, i.size, i.bytes)) = some (some (.int .u8 0), 1, 1) := by kernel_rfl
/-- A byte more. -/
theorem app_byte {B : Nat} {w : World} {v : Value} {l : List UInt8} (ty : TypeId) (h : R B w v l) (q : Nat) (cp : Nat) (c : UInt8) (hq : w.heap[q]? = some (byte c.toNat)) (hl : l.length + 1 ≤ 2000000000) (hB : B ≤ w.heap.size) :
    ∃ v' w', (Builtin.append_ #[71, 71] ty #[v, .slice (some ⟨q, 0, none⟩) 1 cp]).run Tryd.prog w = .ok v' w' ∧ R B w' v' (l ++ [c]) ∧ Gr w v w' v' := by
  obtain ⟨i0, hi, hz0, hz1, hz2⟩ := info_parts infoB
  obtain ⟨v', w', hr, h2, h3, _, h5⟩ := run_append_own_at (P := Tryd.prog) w B 71 ty 5 i0 (.int .u8 0) 1 1 Tryd.underlying71 hi hz0 hz1 hz2 rfl (by decide) v l.length (Lib.byteCells l) h ⟨q, 0, none⟩ 1 cp [.int .u8 c.toNat] rfl (byte_cell hq) (by intro u hu; simp at hu; subst hu; rfl) (by unfold maxLen; omega) (by omega) hB
  refine ⟨v', w', hr, ?_, ⟨h3.os, h3.tape, h3.output, h3.size, fun k h1 h2 => ⟨h3.block k h1 (fun e => h2 e.symm), fun e => ?_⟩⟩⟩
  · unfold R
    rw [Lib.byteCells_append, List.length_append]
    exact h2
  · rcases h5 with h5 | h5
    · exact h2 (h5.symm.trans e)
    · rw [h5] at e; injection e with e; omega
theorem R.lower {B B' : Nat} {w : World} {v : Value} {l : List UInt8} (h : R B w v l) (hB : B' ≤ B) : R B' w v l := by
  rcases h with ⟨hl, h | ⟨g, cap, cur, rfl, hB2, hg, h4⟩⟩
  · exact ⟨hl, .inl h⟩
  · exact ⟨hl, .inr ⟨g, cap, cur, rfl, Nat.le_trans hB hB2, hg, h4⟩⟩
/-- A text more. -/
theorem app_text {B : Nat} {w : World} {v : Value} {l : List UInt8} (ty : TypeId) (h : R B w v l) (t : List UInt8) (hl : l.length + t.length ≤ 2000000000) (hB : B ≤ w.heap.size) :
    ∃ v' w', (Builtin.append_ #[71, 9] ty #[v, .string ⟨t.toArray⟩]).run Tryd.prog w = .ok v' w' ∧ R B w' v' (l ++ t) ∧ Gr w v w' v' := by
  obtain ⟨i0, hi, hz0, hz1, hz2⟩ := info_parts infoB
  have hsz : (⟨t.toArray⟩ : ByteArray).size = t.length := by simp [ByteArray.size]
  have fin : ∀ (B0 : Nat), R B0 w v l → B0 ≤ w.heap.size → ∃ v' w', (Builtin.append_ #[71, 9] ty #[v, .string ⟨t.toArray⟩]).run Tryd.prog w = .ok v' w' ∧ R B0 w' v' (l ++ t) ∧ w.grownBy w' v.ownBlock := fun B0 h0 hB0 => by
    obtain ⟨v', w', hr, h2, h3, _⟩ := Lib.run_append_own_string (P := Tryd.prog) w B0 71 9 ty 5 i0 Tryd.underlying71 Tryd.underlying9 hi hz0 hz1 hz2 v l.length (Lib.byteCells l) h0 ⟨t.toArray⟩ (by unfold maxLen; omega) (by omega) hB0
    refine ⟨v', w', hr, ?_, h3⟩
    unfold R
    rw [Lib.byteCells_append, List.length_append, ← Tk.str_cells t, ← hsz]
    exact h2
  obtain ⟨v', w', hr, h2, h3⟩ := fin B h hB
  have loc : v'.ownBlock = none ∨ v'.ownBlock = v.ownBlock ∨ ∃ g, v'.ownBlock = some g ∧ w.heap.size ≤ g := by
    have hh := h
    rcases h with ⟨hx, ⟨rfl, hn⟩ | ⟨g, cap, cur, rfl, hB2, hg, hnc, hcm, hcs, htake⟩⟩
    · have hl0 : l = [] := List.length_eq_zero_iff.1 hn
      subst hl0
      obtain ⟨v2, w2, hr2, h4, _⟩ := fin w.heap.size (World.ownsRow_nil _ _ _ _) (Nat.le_refl _)
      obtain ⟨rfl, rfl⟩ : v' = v2 ∧ w' = w2 := by
        have := hr.symm.trans hr2
        injection this with e1 e2
        exact ⟨e1, e2⟩
      cases hv : v'.ownBlock with
      | none => exact .inl rfl
      | some g => exact .inr (.inr ⟨g, rfl, (h4.lt hv).1⟩)
    · by_cases hroom : l.length + t.length ≤ cap
      · have hr2 := Lib.run_append_room_string (P := Tryd.prog) w 71 9 ty 5 i0 Tryd.underlying71 Tryd.underlying9 hi hz1 g l.length cap cur hg ⟨t.toArray⟩ (by omega) (by omega)
        have := hr.symm.trans hr2
        injection this with e1 e2
        right; left
        rw [e1]
        rfl
      · have holds : ∀ j u, (Lib.byteCells l)[j]? = some u → w.cell? ((⟨g, 0, none⟩ : Addr).add j) = some u := World.ownsRow.cells hh (g := g) rfl
        have hr2 := Lib.run_append_grow_string (P := Tryd.prog) w 71 9 ty 5 i0 (.int .u8 0) Tryd.underlying71 Tryd.underlying9 hi hz0 ⟨g, 0, none⟩ l.length cap (Lib.byteCells l) (by rw [hz1]; exact hx) holds ⟨t.toArray⟩ (by omega) (by omega) (growslice_fits (by omega) (by rw [hz2]; omega))
        have := hr.symm.trans hr2
        injection this with e1 e2
        right; right
        exact ⟨w.heap.size, by rw [e1]; rfl, Nat.le_refl _⟩
  refine ⟨v', w', hr, h2, ⟨h3.os, h3.tape, h3.output, h3.size, fun k h1 h2 => ⟨h3.block k h1 (fun e => h2 e.symm), fun e => ?_⟩⟩⟩
  rcases loc with h5 | h5 | ⟨g, h5, h6⟩
  · rw [h5] at e; cases e
  · exact h2 (h5.symm.trans e)
  · rw [h5] at e; injection e with e; omega

/-- append of a byte as a step of a region that draws its order. -/
theorem step_byte {ops : Array Oper} {o : Oper} {a : Act} {w : World} {K : Act → World → Prop} {Q : Exit → Act → World → Prop} {E : Prop}
    (hg : o.guard = none) (s x : Operand) (hop : o.op = Op.call { callee := Callee.builtin Builtin.append, args := #[s, x], argTypes := #[71, 71] })
    {B : Nat} {v : Value} {l : List UInt8} (hs : a.eval s = v) (h : R B w v l) (q cp : Nat) (c : UInt8) (hx : a.eval x = .slice (some ⟨q, 0, none⟩) 1 cp) (hq : w.heap[q]? = some (byte c.toNat)) (hl : l.length + 1 ≤ 2000000000) (hB : B ≤ w.heap.size)
    (hK : ∀ v' w', R B w' v' (l ++ [c]) → Gr w v w' v' → K (a.put o.dst v') w') :
    if Region.wanted o (yielded ops a.tmps) = true then Oper.wp Tryd.prog o a w K Q else E := by
  rw [if_pos (by simp [Region.wanted, hg])]
  obtain ⟨v', w', hr, h2, h3⟩ := app_byte o.type h q cp c hq hl hB
  unfold Oper.wp
  simp [execOp, hop, resolve, invoke, builtin, hs, hx, hr, Result.andThen]
  exact hK v' w' h2 h3
theorem step_text {ops : Array Oper} {o : Oper} {a : Act} {w : World} {K : Act → World → Prop} {Q : Exit → Act → World → Prop} {E : Prop}
    (hg : o.guard = none) (s x : Operand) (hop : o.op = Op.call { callee := Callee.builtin Builtin.append, args := #[s, x], argTypes := #[71, 9] })
    {B : Nat} {v : Value} {l : List UInt8} (hs : a.eval s = v) (h : R B w v l) (t : List UInt8) (hx : a.eval x = .string ⟨t.toArray⟩) (hl : l.length + t.length ≤ 2000000000) (hB : B ≤ w.heap.size)
    (hK : ∀ v' w', R B w' v' (l ++ t) → Gr w v w' v' → K (a.put o.dst v') w') :
    if Region.wanted o (yielded ops a.tmps) = true then Oper.wp Tryd.prog o a w K Q else E := by
  rw [if_pos (by simp [Region.wanted, hg])]
  obtain ⟨v', w', hr, h2, h3⟩ := app_text o.type h t hl hB
  unfold Oper.wp
  simp [execOp, hop, resolve, invoke, builtin, hs, hx, hr, Result.andThen]
  exact hK v' w' h2 h3
/-- The same where the order is fixed. -/
theorem list_byte {ops : Array Oper} {rest : List Oper} {o : Oper} {a : Act} {w : World} {Q : Exit → Act → World → Prop} (hg : o.guard = none) (s x : Operand) (hop : o.op = Op.call { callee := Callee.builtin Builtin.append, args := #[s, x], argTypes := #[71, 71] })
    {B : Nat} {v : Value} {l : List UInt8} (hs : a.eval s = v) (h : R B w v l) (q cp : Nat) (c : UInt8) (hx : a.eval x = .slice (some ⟨q, 0, none⟩) 1 cp) (hq : w.heap[q]? = some (byte c.toNat)) (hl : l.length + 1 ≤ 2000000000) (hB : B ≤ w.heap.size)
    (hK : ∀ v' w', R B w' v' (l ++ [c]) → Gr w v w' v' → wpList Tryd.prog ops Q rest (a.put o.dst v') w') : wpList Tryd.prog ops Q (o :: rest) a w := by
  refine wpList_plain hg fun K hKK => ?_
  obtain ⟨v', w', hr, h2, h3⟩ := app_byte o.type h q cp c hq hl hB
  unfold Oper.wp execOp
  simp only [hop, resolve, invoke, builtin, Sem.run_bind, Sem.run_pure, Result.andThen_ok, List.map_toArray, List.map_cons, List.map_nil, hs, hx, hr]
  exact hKK _ _ (hK v' w' h2 h3)
theorem list_text {ops : Array Oper} {rest : List Oper} {o : Oper} {a : Act} {w : World} {Q : Exit → Act → World → Prop} (hg : o.guard = none) (s x : Operand) (hop : o.op = Op.call { callee := Callee.builtin Builtin.append, args := #[s, x], argTypes := #[71, 9] })
    {B : Nat} {v : Value} {l : List UInt8} (hs : a.eval s = v) (h : R B w v l) (t : List UInt8) (hx : a.eval x = .string ⟨t.toArray⟩) (hl : l.length + t.length ≤ 2000000000) (hB : B ≤ w.heap.size)
    (hK : ∀ v' w', R B w' v' (l ++ t) → Gr w v w' v' → wpList Tryd.prog ops Q rest (a.put o.dst v') w') : wpList Tryd.prog ops Q (o :: rest) a w := by
  refine wpList_plain hg fun K hKK => ?_
  obtain ⟨v', w', hr, h2, h3⟩ := app_text o.type h t hl hB
  unfold Oper.wp execOp
  simp only [hop, resolve, invoke, builtin, Sem.run_bind, Sem.run_pure, Result.andThen_ok, List.map_toArray, List.map_cons, List.map_nil, hs, hx, hr]
  exact hKK _ _ (hK v' w' h2 h3)
end Ix

end Go.Proofs
