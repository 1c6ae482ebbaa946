import Derived.Test.YtdghjgiakblfmaaGreatDoorRAcTwice
namespace Go.Proofs
open Go.RowKit Go.Shelf
theorem Dd.load_want {ops : Array Oper} {rest : List Oper} {o : Oper} {a : Act} {w : World} {Q : Exit → Act → World → Prop} (hw : Region.wanted o (yielded ops a.tmps) = true) (ty : TypeId) (x : Operand) (ho : o.op = .load ty x)
  (b p : Nat) (hx : a.eval x = .pointer (some ⟨b, p, none⟩)) (cs : List Value) (d : TypeDesc) (hr : w.rangeAt b p cs) (hu : Tryz.prog.underlying ty = some d) (hd : d.isRow = true) (hi : (Tryz.prog.info? ty).map (·.size) = some cs.length)
  (h : wpList Tryz.prog ops Q rest (a.put o.dst (.agg cs.toArray)) w) : wpList Tryz.prog ops Q (o :: rest) a w :=
 wpList_step fun K hK => by
  simp only [hw, if_true]
  unfold Oper.wp execOp
  simp only [ho, hx, Instr.loadAt, Instr.sureAddr, Sem.run_bind, Sem.run_pure, Result.andThen_ok, run_loadVar_mid w b p ty cs d hr hu hd hi]
  exact hK _ _ h
theorem Dd.ints_len {l : List Int} (h : l.length = 104) : (Tryz.prog.info? 41).map (·.size) = some (Dd.ints l).length := by
 have := Dd.info_row h
 rw [Dd.row_size] at this
 rw [this]
 simp [Dd.ints]
structure Dd.ExAt (w w1 : World) : Prop where
 a : w1.heap[w.heap.size]? = some (.cells #[.int .i64 2, .int .i64 0, .slice none 0 0, .int .i64 2, .int .i64 0, .slice none 0 0] 24 (0, 0))
 t : w1.heap[w.heap.size + 1]? = some (.cells #[.int .i64 10, .int .i64 0, .slice (some ⟨w.heap.size, 0, none⟩) 2 2] 24 (0, 0))
 c : w1.heap[w.heap.size + 1 + 1]? = some (.cells #[.int .i64 10, .int .i64 0, .slice (some ⟨w.heap.size, 0, none⟩) 2 2, .int .i64 0, .int .i64 0, .slice none 0 0] 24 (0, 0))
 k : w1.heap[w.heap.size + 1 + 1 + 1]? = some (.cells #[.int .i64 12, .int .i64 0, .int .i64 3, .int .i64 1, .int .i64 0, .int .i64 0, .slice none 0 0, .slice (some ⟨w.heap.size + 1 + 1, 0, none⟩) 2 2, .slice none 0 0, .slice none 0 0, .slice none 0 0, .slice none 0 0, .int .i64 5, .int .i64 1, .int .i64 0, .int .i64 0, .int .i64 0, .int .i64 0, .slice none 0 0, .slice none 0 0, .slice none 0 0, .slice none 0 0, .slice none 0 0, .slice none 0 0, .int .i64 12, .int .i64 2, .int .i64 4, .int .i64 0, .int .i64 0, .int .i64 0, .slice none 0 0, .slice none 0 0, .slice none 0 0, .slice none 0 0, .slice none 0 0, .slice none 0 0] 32 (0, 0))
 l : w1.heap[w.heap.size + 1 + 1 + 1 + 1]? = some (.cells #[.int .i64 (-1), .int .i64 0, .int .i64 0, .int .i64 1, .int .i64 0, .int .i64 2, .int .i64 1, .int .i64 2, .int .i64 2, .int .i64 (-1)] 80 (0, 0))
 r : w1.heap[w.heap.size + 1 + 1 + 1 + 1 + 1]? = some (.cells #[.int .i64 13, .int .i64 0, .int .i64 0, .int .i64 0, .int .i64 0, .int .i64 0, .slice none 0 0, .slice none 0 0, .slice (some ⟨w.heap.size + 1 + 1 + 1, 0, none⟩) 3 3, .slice (some ⟨w.heap.size + 1 + 1 + 1 + 1, 0, none⟩) 5 5, .slice none 0 0, .slice none 0 0] 32 (0, 0))
 bel : Below w.heap.size w w1
theorem Dd.ex_at (w : World) : Dd.ExAt w ((((((w.alloc (.cells #[.int .i64 2, .int .i64 0, .slice none 0 0, .int .i64 2, .int .i64 0, .slice none 0 0] 24)).alloc (.cells #[.int .i64 10, .int .i64 0, .slice (some ⟨w.heap.size, 0, none⟩) 2 2] 24)).alloc (.cells #[.int .i64 10, .int .i64 0, .slice (some ⟨w.heap.size, 0, none⟩) 2 2, .int .i64 0, .int .i64 0, .slice none 0 0] 24)).alloc (.cells #[.int .i64 12, .int .i64 0, .int .i64 3, .int .i64 1, .int .i64 0, .int .i64 0, .slice none 0 0, .slice (some ⟨w.heap.size + 1 + 1, 0, none⟩) 2 2, .slice none 0 0, .slice none 0 0, .slice none 0 0, .slice none 0 0, .int .i64 5, .int .i64 1, .int .i64 0, .int .i64 0, .int .i64 0, .int .i64 0, .slice none 0 0, .slice none 0 0, .slice none 0 0, .slice none 0 0, .slice none 0 0, .slice none 0 0, .int .i64 12, .int .i64 2, .int .i64 4, .int .i64 0, .int .i64 0, .int .i64 0, .slice none 0 0, .slice none 0 0, .slice none 0 0, .slice none 0 0, .slice none 0 0, .slice none 0 0] 32)).alloc (.cells #[.int .i64 (-1), .int .i64 0, .int .i64 0, .int .i64 1, .int .i64 0, .int .i64 2, .int .i64 1, .int .i64 2, .int .i64 2, .int .i64 (-1)] 80)).alloc (.cells #[.int .i64 13, .int .i64 0, .int .i64 0, .int .i64 0, .int .i64 0, .int .i64 0, .slice none 0 0, .slice none 0 0, .slice (some ⟨w.heap.size + 1 + 1 + 1, 0, none⟩) 3 3, .slice (some ⟨w.heap.size + 1 + 1 + 1 + 1, 0, none⟩) 5 5, .slice none 0 0, .slice none 0 0] 32)) := by
 obtain ⟨v0, hv0⟩ : ∃ z, w.alloc (.cells #[.int .i64 2, .int .i64 0, .slice none 0 0, .int .i64 2, .int .i64 0, .slice none 0 0] 24) = z := ⟨_, rfl⟩
 obtain ⟨v1, hv1⟩ : ∃ z, v0.alloc (.cells #[.int .i64 10, .int .i64 0, .slice (some ⟨w.heap.size, 0, none⟩) 2 2] 24) = z := ⟨_, rfl⟩
 obtain ⟨v2, hv2⟩ : ∃ z, v1.alloc (.cells #[.int .i64 10, .int .i64 0, .slice (some ⟨w.heap.size, 0, none⟩) 2 2, .int .i64 0, .int .i64 0, .slice none 0 0] 24) = z := ⟨_, rfl⟩
 obtain ⟨v3, hv3⟩ : ∃ z, v2.alloc (.cells #[.int .i64 12, .int .i64 0, .int .i64 3, .int .i64 1, .int .i64 0, .int .i64 0, .slice none 0 0, .slice (some ⟨w.heap.size + 1 + 1, 0, none⟩) 2 2, .slice none 0 0, .slice none 0 0, .slice none 0 0, .slice none 0 0, .int .i64 5, .int .i64 1, .int .i64 0, .int .i64 0, .int .i64 0, .int .i64 0, .slice none 0 0, .slice none 0 0, .slice none 0 0, .slice none 0 0, .slice none 0 0, .slice none 0 0, .int .i64 12, .int .i64 2, .int .i64 4, .int .i64 0, .int .i64 0, .int .i64 0, .slice none 0 0, .slice none 0 0, .slice none 0 0, .slice none 0 0, .slice none 0 0, .slice none 0 0] 32) = z := ⟨_, rfl⟩
 obtain ⟨v4, hv4⟩ : ∃ z, v3.alloc (.cells #[.int .i64 (-1), .int .i64 0, .int .i64 0, .int .i64 1, .int .i64 0, .int .i64 2, .int .i64 1, .int .i64 2, .int .i64 2, .int .i64 (-1)] 80) = z := ⟨_, rfl⟩
 obtain ⟨v5, hv5⟩ : ∃ z, v4.alloc (.cells #[.int .i64 13, .int .i64 0, .int .i64 0, .int .i64 0, .int .i64 0, .int .i64 0, .slice none 0 0, .slice none 0 0, .slice (some ⟨w.heap.size + 1 + 1 + 1, 0, none⟩) 3 3, .slice (some ⟨w.heap.size + 1 + 1 + 1 + 1, 0, none⟩) 5 5, .slice none 0 0, .slice none 0 0] 32) = z := ⟨_, rfl⟩
 have z0 : v0.heap.size = w.heap.size + 1 := by rw [← hv0]; simp
 have z1 : v1.heap.size = w.heap.size + 1 + 1 := by rw [← hv1]; simp [z0]
 have z2 : v2.heap.size = w.heap.size + 1 + 1 + 1 := by rw [← hv2]; simp [z1]
 have z3 : v3.heap.size = w.heap.size + 1 + 1 + 1 + 1 := by rw [← hv3]; simp [z2]
 have z4 : v4.heap.size = w.heap.size + 1 + 1 + 1 + 1 + 1 := by rw [← hv4]; simp [z3]
 have z5 : v5.heap.size = w.heap.size + 1 + 1 + 1 + 1 + 1 + 1 := by rw [← hv5]; simp [z4]
 have b0 : Below w.heap.size w v0 := by rw [← hv0]; exact (Below.refl _ w).alloc (Nat.le_refl _) _
 have n0 : v0.heap[w.heap.size]? = some (.cells #[.int .i64 2, .int .i64 0, .slice none 0 0, .int .i64 2, .int .i64 0, .slice none 0 0] 24 (0, 0)) := by rw [← hv0]; have := heap_alloc_new w (.cells #[.int .i64 2, .int .i64 0, .slice none 0 0, .int .i64 2, .int .i64 0, .slice none 0 0] 24); exact this
 have b1 : Below v0.heap.size v0 v1 := by rw [← hv1]; exact (Below.refl _ v0).alloc (Nat.le_refl _) _
 have n1 : v1.heap[w.heap.size + 1]? = some (.cells #[.int .i64 10, .int .i64 0, .slice (some ⟨w.heap.size, 0, none⟩) 2 2] 24 (0, 0)) := by rw [← hv1]; have := heap_alloc_new v0 (.cells #[.int .i64 10, .int .i64 0, .slice (some ⟨w.heap.size, 0, none⟩) 2 2] 24); rw [z0] at this; exact this
 have b2 : Below v1.heap.size v1 v2 := by rw [← hv2]; exact (Below.refl _ v1).alloc (Nat.le_refl _) _
 have n2 : v2.heap[w.heap.size + 1 + 1]? = some (.cells #[.int .i64 10, .int .i64 0, .slice (some ⟨w.heap.size, 0, none⟩) 2 2, .int .i64 0, .int .i64 0, .slice none 0 0] 24 (0, 0)) := by rw [← hv2]; have := heap_alloc_new v1 (.cells #[.int .i64 10, .int .i64 0, .slice (some ⟨w.heap.size, 0, none⟩) 2 2, .int .i64 0, .int .i64 0, .slice none 0 0] 24); rw [z1] at this; exact this
 have b3 : Below v2.heap.size v2 v3 := by rw [← hv3]; exact (Below.refl _ v2).alloc (Nat.le_refl _) _
 have n3 : v3.heap[w.heap.size + 1 + 1 + 1]? = some (.cells #[.int .i64 12, .int .i64 0, .int .i64 3, .int .i64 1, .int .i64 0, .int .i64 0, .slice none 0 0, .slice (some ⟨w.heap.size + 1 + 1, 0, none⟩) 2 2, .slice none 0 0, .slice none 0 0, .slice none 0 0, .slice none 0 0, .int .i64 5, .int .i64 1, .int .i64 0, .int .i64 0, .int .i64 0, .int .i64 0, .slice none 0 0, .slice none 0 0, .slice none 0 0, .slice none 0 0, .slice none 0 0, .slice none 0 0, .int .i64 12, .int .i64 2, .int .i64 4, .int .i64 0, .int .i64 0, .int .i64 0, .slice none 0 0, .slice none 0 0, .slice none 0 0, .slice none 0 0, .slice none 0 0, .slice none 0 0] 32 (0, 0)) := by rw [← hv3]; have := heap_alloc_new v2 (.cells #[.int .i64 12, .int .i64 0, .int .i64 3, .int .i64 1, .int .i64 0, .int .i64 0, .slice none 0 0, .slice (some ⟨w.heap.size + 1 + 1, 0, none⟩) 2 2, .slice none 0 0, .slice none 0 0, .slice none 0 0, .slice none 0 0, .int .i64 5, .int .i64 1, .int .i64 0, .int .i64 0, .int .i64 0, .int .i64 0, .slice none 0 0, .slice none 0 0, .slice none 0 0, .slice none 0 0, .slice none 0 0, .slice none 0 0, .int .i64 12, .int .i64 2, .int .i64 4, .int .i64 0, .int .i64 0, .int .i64 0, .slice none 0 0, .slice none 0 0, .slice none 0 0, .slice none 0 0, .slice none 0 0, .slice none 0 0] 32); rw [z2] at this; exact this
 have b4 : Below v3.heap.size v3 v4 := by rw [← hv4]; exact (Below.refl _ v3).alloc (Nat.le_refl _) _
 have n4 : v4.heap[w.heap.size + 1 + 1 + 1 + 1]? = some (.cells #[.int .i64 (-1), .int .i64 0, .int .i64 0, .int .i64 1, .int .i64 0, .int .i64 2, .int .i64 1, .int .i64 2, .int .i64 2, .int .i64 (-1)] 80 (0, 0)) := by rw [← hv4]; have := heap_alloc_new v3 (.cells #[.int .i64 (-1), .int .i64 0, .int .i64 0, .int .i64 1, .int .i64 0, .int .i64 2, .int .i64 1, .int .i64 2, .int .i64 2, .int .i64 (-1)] 80); rw [z3] at this; exact this
 have b5 : Below v4.heap.size v4 v5 := by rw [← hv5]; exact (Below.refl _ v4).alloc (Nat.le_refl _) _
 have n5 : v5.heap[w.heap.size + 1 + 1 + 1 + 1 + 1]? = some (.cells #[.int .i64 13, .int .i64 0, .int .i64 0, .int .i64 0, .int .i64 0, .int .i64 0, .slice none 0 0, .slice none 0 0, .slice (some ⟨w.heap.size + 1 + 1 + 1, 0, none⟩) 3 3, .slice (some ⟨w.heap.size + 1 + 1 + 1 + 1, 0, none⟩) 5 5, .slice none 0 0, .slice none 0 0] 32 (0, 0)) := by rw [← hv5]; have := heap_alloc_new v4 (.cells #[.int .i64 13, .int .i64 0, .int .i64 0, .int .i64 0, .int .i64 0, .int .i64 0, .slice none 0 0, .slice none 0 0, .slice (some ⟨w.heap.size + 1 + 1 + 1, 0, none⟩) 3 3, .slice (some ⟨w.heap.size + 1 + 1 + 1 + 1, 0, none⟩) 5 5, .slice none 0 0, .slice none 0 0] 32); rw [z4] at this; exact this
 rw [hv0, hv1, hv2, hv3, hv4, hv5]
 have bb : Below w.heap.size w v5 := ((((b0.trans (b1.mono (by omega))).trans (b2.mono (by omega))).trans (b3.mono (by omega))).trans (b4.mono (by omega))).trans (b5.mono (by omega))
 exact ⟨((b5.block _ (by omega)).trans ((b4.block _ (by omega)).trans ((b3.block _ (by omega)).trans ((b2.block _ (by omega)).trans ((b1.block _ (by omega)).trans n0))))), ((b5.block _ (by omega)).trans ((b4.block _ (by omega)).trans ((b3.block _ (by omega)).trans ((b2.block _ (by omega)).trans n1)))), ((b5.block _ (by omega)).trans ((b4.block _ (by omega)).trans ((b3.block _ (by omega)).trans n2))), ((b5.block _ (by omega)).trans ((b4.block _ (by omega)).trans n3)), ((b5.block _ (by omega)).trans n4), n5, bb⟩
theorem Dd.ex_row {w1 : World} {g o : Nat} {cs r : Array Value} {ty : TypeId} {fr : Nat × Nat} (h : w1.heap[g]? = some (.cells cs ty fr)) (hr : ∀ i (hi : i < r.size), cs[o + i]? = some r[i]) : Ac.Row w1 g o r := fun i hi => by
 simp only [World.cell?, h]
 rw [hr i hi]
 rfl
theorem Dd.ex_lies {w w1 : World} (h : Dd.ExAt w w1) : Ac.Lies w1 w1.heap.size 2 2 ⟨.slice none 0 0, .slice none 0 0, .slice (some ⟨w.heap.size + 1 + 1 + 1, 0, none⟩) 3 3, .slice (some ⟨w.heap.size + 1 + 1 + 1 + 1, 0, none⟩) 5 5, .slice none 0 0, .slice none 0 0⟩ Dd.exT := by
 have lt : ∀ {k : Nat} {o : Obj}, w1.heap[k]? = some o → k < w1.heap.size := fun h => (Array.getElem?_eq_some_iff.1 h).1
 have ly : Tm.Lies w1 w1.heap.size 2 (.slice (some ⟨w.heap.size, 0, none⟩) 2 2) Dd.exY := ⟨_, _, rfl, .inr ⟨w.heap.size, 0, rfl, lt h.a, fun j hj => by
  match j, hj with
  | 0, _ => exact ⟨.slice none 0 0, by simp only [World.cell?, h.a]; rfl, by simp only [World.cell?, h.a]; rfl, by simp only [World.cell?, h.a]; rfl, ⟨none, 0, rfl, .inl rfl⟩⟩
  | 1, _ => exact ⟨.slice none 0 0, by simp only [World.cell?, h.a]; rfl, by simp only [World.cell?, h.a]; rfl, by simp only [World.cell?, h.a]; rfl, ⟨none, 0, rfl, .inl rfl⟩⟩⟩⟩
 have l0 : Ac.Lies w1 w1.heap.size 2 1 ⟨.slice none 0 0, .slice (some ⟨w.heap.size + 1 + 1, 0, none⟩) 2 2, .slice none 0 0, .slice none 0 0, .slice none 0 0, .slice none 0 0⟩ Dd.ex0 := ⟨⟨Tm.lies_any w1 _ 1, ⟨_, _, rfl, fun j hj => by
  match j, hj with
  | 0, _ => exact ⟨w.heap.size + 1 + 1, 0, _, rfl, lt h.c, by simp only [World.cell?, h.c]; rfl, by simp only [World.cell?, h.c]; rfl, by simp only [World.cell?, h.c]; rfl, ly⟩
  | 1, _ => exact ⟨w.heap.size + 1 + 1, 0, _, rfl, lt h.c, by simp only [World.cell?, h.c]; rfl, by simp only [World.cell?, h.c]; rfl, by simp only [World.cell?, h.c]; rfl, Tm.lies_any w1 _ 1⟩⟩, ⟨none, 0, rfl, fun j h => absurd h (Nat.not_lt_zero j)⟩, ⟨none, 0, rfl, fun j h => absurd h (Nat.not_lt_zero j)⟩, ⟨none, 0, rfl, fun j h => absurd h (Nat.not_lt_zero j)⟩⟩, none, 0, rfl, fun j hj => absurd hj (Nat.not_lt_zero j)⟩
 have l1 : Ac.Lies w1 w1.heap.size 2 1 ⟨.slice none 0 0, .slice none 0 0, .slice none 0 0, .slice none 0 0, .slice none 0 0, .slice none 0 0⟩ Dd.ex1 := ⟨⟨Tm.lies_any w1 _ 1, ⟨none, 0, rfl, fun j h => absurd h (Nat.not_lt_zero j)⟩, ⟨none, 0, rfl, fun j h => absurd h (Nat.not_lt_zero j)⟩, ⟨none, 0, rfl, fun j h => absurd h (Nat.not_lt_zero j)⟩, ⟨none, 0, rfl, fun j h => absurd h (Nat.not_lt_zero j)⟩⟩, none, 0, rfl, fun j hj => absurd hj (Nat.not_lt_zero j)⟩
 have l2 : Ac.Lies w1 w1.heap.size 2 1 ⟨.slice none 0 0, .slice none 0 0, .slice none 0 0, .slice none 0 0, .slice none 0 0, .slice none 0 0⟩ Dd.ex2 := ⟨⟨Tm.lies_any w1 _ 1, ⟨none, 0, rfl, fun j h => absurd h (Nat.not_lt_zero j)⟩, ⟨none, 0, rfl, fun j h => absurd h (Nat.not_lt_zero j)⟩, ⟨none, 0, rfl, fun j h => absurd h (Nat.not_lt_zero j)⟩, ⟨none, 0, rfl, fun j h => absurd h (Nat.not_lt_zero j)⟩⟩, none, 0, rfl, fun j hj => absurd hj (Nat.not_lt_zero j)⟩
 have i12 : ∀ {i : Nat}, i < 12 → i = 0 ∨ i = 1 ∨ i = 2 ∨ i = 3 ∨ i = 4 ∨ i = 5 ∨ i = 6 ∨ i = 7 ∨ i = 8 ∨ i = 9 ∨ i = 10 ∨ i = 11 := by omega
 refine ⟨⟨Tm.lies_any w1 _ 1, ⟨none, 0, rfl, fun j h => absurd h (Nat.not_lt_zero j)⟩, ⟨_, _, rfl, fun j hj => by
  match j, hj with
  | 0, _ => exact ⟨w.heap.size + 1 + 1 + 1 + 1, 0, rfl, lt h.l, by simp only [World.cell?, h.l]; rfl, by simp only [World.cell?, h.l]; rfl⟩
  | 1, _ => exact ⟨w.heap.size + 1 + 1 + 1 + 1, 0, rfl, lt h.l, by simp only [World.cell?, h.l]; rfl, by simp only [World.cell?, h.l]; rfl⟩
  | 2, _ => exact ⟨w.heap.size + 1 + 1 + 1 + 1, 0, rfl, lt h.l, by simp only [World.cell?, h.l]; rfl, by simp only [World.cell?, h.l]; rfl⟩
  | 3, _ => exact ⟨w.heap.size + 1 + 1 + 1 + 1, 0, rfl, lt h.l, by simp only [World.cell?, h.l]; rfl, by simp only [World.cell?, h.l]; rfl⟩
  | 4, _ => exact ⟨w.heap.size + 1 + 1 + 1 + 1, 0, rfl, lt h.l, by simp only [World.cell?, h.l]; rfl, by simp only [World.cell?, h.l]; rfl⟩⟩, ⟨none, 0, rfl, fun j h => absurd h (Nat.not_lt_zero j)⟩, ⟨none, 0, rfl, fun j h => absurd h (Nat.not_lt_zero j)⟩⟩, _, _, rfl, fun j hj => ?_⟩
 match j, hj with
 | 0, _ => exact ⟨w.heap.size + 1 + 1 + 1, 0, ⟨.slice none 0 0, .slice (some ⟨w.heap.size + 1 + 1, 0, none⟩) 2 2, .slice none 0 0, .slice none 0 0, .slice none 0 0, .slice none 0 0⟩, rfl, lt h.k, Dd.ex_row h.k (fun i hi => by rcases i12 hi with rfl | rfl | rfl | rfl | rfl | rfl | rfl | rfl | rfl | rfl | rfl | rfl <;> rfl), l0⟩
 | 1, _ => exact ⟨w.heap.size + 1 + 1 + 1, 0, ⟨.slice none 0 0, .slice none 0 0, .slice none 0 0, .slice none 0 0, .slice none 0 0, .slice none 0 0⟩, rfl, lt h.k, Dd.ex_row h.k (fun i hi => by rcases i12 hi with rfl | rfl | rfl | rfl | rfl | rfl | rfl | rfl | rfl | rfl | rfl | rfl <;> rfl), l1⟩
 | 2, _ => exact ⟨w.heap.size + 1 + 1 + 1, 0, ⟨.slice none 0 0, .slice none 0 0, .slice none 0 0, .slice none 0 0, .slice none 0 0, .slice none 0 0⟩, rfl, lt h.k, Dd.ex_row h.k (fun i hi => by rcases i12 hi with rfl | rfl | rfl | rfl | rfl | rfl | rfl | rfl | rfl | rfl | rfl | rfl <;> rfl), l2⟩
theorem Dd.ex_ctx {w w1 : World} (h : Dd.ExAt w w1) (hO : Tk.Ops w) : Dd.Ctx w1 #[.int .i64 13, .int .i64 0, .int .i64 0, .int .i64 0, .int .i64 0, .int .i64 0, .slice none 0 0, .slice none 0 0, .slice (some ⟨w.heap.size + 1 + 1 + 1, 0, none⟩) 3 3, .slice (some ⟨w.heap.size + 1 + 1 + 1 + 1, 0, none⟩) 5 5, .slice none 0 0, .slice none 0 0] true Dd.exL Dd.exK := by
 have := Dd.ctx 2 2 Dd.exT ⟨.slice none 0 0, .slice none 0 0, .slice (some ⟨w.heap.size + 1 + 1 + 1, 0, none⟩) 3 3, .slice (some ⟨w.heap.size + 1 + 1 + 1 + 1, 0, none⟩) 5 5, .slice none 0 0, .slice none 0 0⟩ w1 (Dd.ex_lies h) (by have := (Array.getElem?_eq_some_iff.1 h.a).1; omega) (by decide) Dd.ex_fit (hO.below h.bel hO.lt)
 rw [Dd.ex_web] at this
 exact this
set_option maxRecDepth 20000 in
set_option maxHeartbeats 16000000 in
theorem Tryz.skips_any (w : World) (hO : Tk.Ops w) : Calls Tryz.prog 10 #[] w fun e w' => e = .returned (.bool true) ∧ Below w.heap.size w w' := by
 have hat := Dd.ex_at w
 obtain ⟨w1, hw1⟩ : ∃ z, ((((((w.alloc (.cells #[.int .i64 2, .int .i64 0, .slice none 0 0, .int .i64 2, .int .i64 0, .slice none 0 0] 24)).alloc (.cells #[.int .i64 10, .int .i64 0, .slice (some ⟨w.heap.size, 0, none⟩) 2 2] 24)).alloc (.cells #[.int .i64 10, .int .i64 0, .slice (some ⟨w.heap.size, 0, none⟩) 2 2, .int .i64 0, .int .i64 0, .slice none 0 0] 24)).alloc (.cells #[.int .i64 12, .int .i64 0, .int .i64 3, .int .i64 1, .int .i64 0, .int .i64 0, .slice none 0 0, .slice (some ⟨w.heap.size + 1 + 1, 0, none⟩) 2 2, .slice none 0 0, .slice none 0 0, .slice none 0 0, .slice none 0 0, .int .i64 5, .int .i64 1, .int .i64 0, .int .i64 0, .int .i64 0, .int .i64 0, .slice none 0 0, .slice none 0 0, .slice none 0 0, .slice none 0 0, .slice none 0 0, .slice none 0 0, .int .i64 12, .int .i64 2, .int .i64 4, .int .i64 0, .int .i64 0, .int .i64 0, .slice none 0 0, .slice none 0 0, .slice none 0 0, .slice none 0 0, .slice none 0 0, .slice none 0 0] 32)).alloc (.cells #[.int .i64 (-1), .int .i64 0, .int .i64 0, .int .i64 1, .int .i64 0, .int .i64 2, .int .i64 1, .int .i64 2, .int .i64 2, .int .i64 (-1)] 80)).alloc (.cells #[.int .i64 13, .int .i64 0, .int .i64 0, .int .i64 0, .int .i64 0, .int .i64 0, .slice none 0 0, .slice none 0 0, .slice (some ⟨w.heap.size + 1 + 1 + 1, 0, none⟩) 3 3, .slice (some ⟨w.heap.size + 1 + 1 + 1 + 1, 0, none⟩) 5 5, .slice none 0 0, .slice none 0 0] 32)) = z := ⟨_, rfl⟩
 rw [hw1] at hat
 have cx := Dd.ex_ctx hat hO
 have H1 : Hid _ := hw1
 have CX : Hid _ := cx
 obtain ⟨q, hq⟩ : ∃ q, w.heap.size + 1 + 1 + 1 + 1 + 1 = q := ⟨_, rfl⟩
 have HQ : Hid (w.heap.size + 1 + 1 + 1 + 1 + 1 = q) := hq
 have NR0 := hat.r
 rw [hq] at NR0
 obtain ⟨xs, hxs⟩ : ∃ xs, (#[.int .i64 13, .int .i64 0, .int .i64 0, .int .i64 0, .int .i64 0, .int .i64 0, .slice none 0 0, .slice none 0 0, .slice (some ⟨w.heap.size + 1 + 1 + 1, 0, none⟩) 3 3, .slice (some ⟨w.heap.size + 1 + 1 + 1 + 1, 0, none⟩) 5 5, .slice none 0 0, .slice none 0 0] : Array Value) = xs := ⟨_, rfl⟩
 have HXS : Hid ((#[.int .i64 13, .int .i64 0, .int .i64 0, .int .i64 0, .int .i64 0, .int .i64 0, .slice none 0 0, .slice none 0 0, .slice (some ⟨w.heap.size + 1 + 1 + 1, 0, none⟩) 3 3, .slice (some ⟨w.heap.size + 1 + 1 + 1 + 1, 0, none⟩) 5 5, .slice none 0 0, .slice none 0 0] : Array Value) = xs) := hxs
 rw [hxs] at NR0 CX
 have HB : Hid (Below w.heap.size w w1 ∧ w1.heap[q]? = some (.cells xs 32 (0, 0))) := ⟨hat.bel, NR0⟩
 have lx : xs.size = 12 := by rw [← hxs]; rfl
 have ha := Tryz.underlying32
 have hu := Tryz.underlying41
 have ia : (Tryz.prog.info? 32).map (·.size) = some xs.size := by rw [lx]; exact Dd.info_act
 have HAX : Hid (∀ W, Below w1.heap.size w1 W → W.heap[q]? = some (.cells xs 32 (0, 0)) ∧ Below w.heap.size w W ∧ W.rangeAt q 0 xs.toList) := fun W hb => by
  have h := (hb.block q (Array.getElem?_eq_some_iff.1 HB.out.2).1).trans HB.out.2
  refine ⟨h, HB.out.1.trans (hb.mono HB.out.1.size), fun j v hv => ?_⟩
  rw [Nat.zero_add]
  simp only [World.cell?, h]
  simpa using hv
 have ial : (Tryz.prog.info? 32).map (·.size) = some xs.toList.length := by rw [ia]; simp
 obtain ⟨S0, hS0⟩ : ∃ z, Dd.exS = z := ⟨_, rfl⟩
 obtain ⟨S1, hS1⟩ : ∃ z, Dd.exS1 = z := ⟨_, rfl⟩
 have l0 : S0.length = 104 := by rw [← hS0]; exact Dd.exS_length
 have l1 : S1.length = 104 := by rw [← hS1]; exact Dd.exS1_length
 have C1 : Hid (∀ W, Below w1.heap.size w1 W → Calls Tryz.prog 11 #[.agg xs] W fun e w' => e = .returned (.tuple #[.agg (Dd.row S0), .int .i64 0]) ∧ Below W.heap.size W w') := fun W hb => by
  have h := CX.out.start W hb
  rw [Dd.ex_start, hS0] at h
  exact h
 have C2 : Hid (∀ W, Below w1.heap.size w1 W → Calls Tryz.prog 23 #[.agg xs, .agg (Dd.row S0), .int .i64 0, .int .i64 1] W fun e w' => e = .returned (.tuple #[.agg (Dd.row S1), .int .i64 0]) ∧ Below W.heap.size W w') := fun W hb => by
  have h := CX.out.choose W S0 0 1 hb l0 (by omega) (by omega)
  rw [← hS0, Dd.ex_choose, hS1] at h
  rw [← hS0]
  exact h
 have C3 : Hid (∀ W, Below w1.heap.size w1 W → Calls Tryz.prog 14 #[.agg xs, .agg (Dd.row S0)] W fun e w' => ∃ a c, e = .returned (.slice a 1 c) ∧ Below W.heap.size W w') := fun W hb => by
  have h := CX.out.running W S0 hb l0
  refine h.mono fun e w' hh => ?_
  obtain ⟨v, hv, how, hbb⟩ := hh
  rw [← hS0, Dd.ex_run] at how
  obtain ⟨a, c, rfl⟩ := Rk.own_shape how
  exact ⟨a, c, hv, hbb⟩
 have C4 : Hid (∀ W, Below w1.heap.size w1 W → Calls Tryz.prog 21 #[.agg xs, .agg (Dd.row S1)] W fun e w' => e = .returned (.bool true) ∧ Below W.heap.size W w') := fun W hb => by
  have h := CX.out.over W S1 hb l1
  rw [← hS1, Dd.ex_over1] at h
  rw [← hS1]
  exact h
 have C5 : Hid (∀ W, Below w1.heap.size w1 W → Calls Tryz.prog 21 #[.agg xs, .agg (Dd.row S0)] W fun e w' => e = .returned (.bool false) ∧ Below W.heap.size W w') := fun W hb => by
  have h := CX.out.over W S0 hb l0
  rw [← hS0, Dd.ex_over0] at h
  rw [← hS0]
  exact h
 have HS : Hid (S1.getD (40 + 1) 0 = 3) := by show _ = _; rw [← hS1]; exact Dd.ex_skip
 have i0 := Dd.info_row l0
 have i1 := Dd.info_row l1
 have o0 := Dd.row_one S0
 have o1 := Dd.row_one S1
 have z0 : (Tryz.zeroCells41).size = (Dd.row S0).size := by rw [Dd.zero_row, Dd.row_size, Dd.row_size, l0, Dd.zeros_length]
 have z1 : (Tryz.zeroCells41).size = (Dd.row S1).size := by rw [Dd.zero_row, Dd.row_size, Dd.row_size, l1, Dd.zeros_length]
 have j0 := Dd.ints_len l0
 have j1 := Dd.ints_len l1
 have HL : Hid (S0.length = 104 ∧ S1.length = 104) := ⟨l0, l1⟩
 clear hat hw1 cx hq hxs hS0 hS1 l0 l1 lx CX hO HB
 go_enter Tryz.func10, Tryz.ntmps10
 go_upto_region 3 with fail
 rw [H1.out, HQ.out]
 clear H1
 go_wp2_with (refine wpList_load_row rfl 32 _ rfl _ rfl 32 _ (0, 0) _ NR0 ha rfl ia ?_)
 refine Calls.mono (C1.out _ (Below.refl _ _)) ?_
 rintro e W2 ⟨rfl, hb2⟩
 have NZ2 : (W2.alloc (.cells Tryz.zeroCells41 41)).heap[W2.heap.size]? = some (.cells Tryz.zeroCells41 41 (0, 0)) := heap_alloc_new W2 _
 obtain ⟨W3, hW3⟩ : ∃ z, (W2.alloc (.cells Tryz.zeroCells41 41)).setRow W2.heap.size (Dd.row S0) = z := ⟨_, rfl⟩
 have A3 : Dd.At W3 W2.heap.size S0 := by rw [← hW3]; exact ⟨setRow_heap _ _ _ _ _ _ NZ2, HL.out.1⟩
 have B3 : Below W2.heap.size W2 W3 := by rw [← hW3]; exact Tk.below_row ((Below.refl _ W2).alloc (Nat.le_refl _) _) (Nat.le_refl _) _
 have HB3 : Hid (Below w1.heap.size w1 W3) := hb2.trans (B3.mono hb2.size)
 have HW3 : Hid _ := hW3
 obtain ⟨p, hp⟩ : ∃ p, W2.heap.size = p := ⟨_, rfl⟩
 rw [hp] at A3
 have HP : Hid (W2.heap.size = p) := hp
 have HA3 : Hid (Dd.At W3 p S0) := A3
 clear NR0 hb2 hW3 hp A3 B3
 go_upto_region 4 with (refine wpList_store_row rfl 41 _ _ rfl W2.heap.size (Dd.row S0) rfl rfl 41 _ NZ2 i0 z0 o0 ?_)
 rw [HW3.out, HP.out]
 clear HW3 NZ2 HP
 have NA3 := (HAX.out W3 HB3.out).1
 have NS3 := HA3.out.h
 go_wp2_with (first
  | refine wpList_load_row rfl 32 _ rfl _ rfl 32 _ (0, 0) _ NA3 ha rfl ia ?_
  | refine wpList_load_row rfl 41 _ rfl _ rfl 41 (Dd.row S0) (0, 0) _ NS3 hu rfl i0 ?_)
 refine Calls.mono (C2.out _ HB3.out) ?_
 rintro e W4 ⟨rfl, hb4⟩
 have NZ4 : (W4.alloc (.cells Tryz.zeroCells41 41)).heap[W4.heap.size]? = some (.cells Tryz.zeroCells41 41 (0, 0)) := heap_alloc_new W4 _
 obtain ⟨W5, hW5⟩ : ∃ z, (W4.alloc (.cells Tryz.zeroCells41 41)).setRow W4.heap.size (Dd.row S1) = z := ⟨_, rfl⟩
 have A5 : Dd.At W5 W4.heap.size S1 := by rw [← hW5]; exact ⟨setRow_heap _ _ _ _ _ _ NZ4, HL.out.2⟩
 have B5 : Below W4.heap.size W4 W5 := by rw [← hW5]; exact Tk.below_row ((Below.refl _ W4).alloc (Nat.le_refl _) _) (Nat.le_refl _) _
 have B45 : Below W3.heap.size W3 W5 := hb4.trans (B5.mono hb4.size)
 have HB5 : Hid (Below w1.heap.size w1 W5 ∧ Dd.At W5 p S0) := ⟨HB3.out.trans (B45.mono HB3.out.size), HA3.out.below B45 HA3.out.lt⟩
 have HW5 : Hid _ := hW5
 obtain ⟨p5, hp5⟩ : ∃ p, W4.heap.size = p := ⟨_, rfl⟩
 rw [hp5] at A5
 have HP5 : Hid (W4.heap.size = p5) := hp5
 have HA5 : Hid (Dd.At W5 p5 S1) := A5
 clear NA3 NS3 hb4 hW5 hp5 A5 B5 B45
 go_upto_region 5 with (refine wpList_store_row rfl 41 _ _ rfl W4.heap.size (Dd.row S1) rfl rfl 41 _ NZ4 i1 z1 o1 ?_)
 rw [HW5.out, HP5.out]
 clear HW5 NZ4 HP5
 have NA5 := (HAX.out W5 HB5.out.1).1
 have NS5 := HB5.out.2.h
 go_wp2_with (first
  | refine wpList_load_row rfl 32 _ rfl _ rfl 32 _ (0, 0) _ NA5 ha rfl ia ?_
  | refine wpList_load_row rfl 41 _ rfl _ rfl 41 (Dd.row S0) (0, 0) _ NS5 hu rfl i0 ?_)
 refine Calls.mono (C3.out _ HB5.out.1) ?_
 rintro e W6 ⟨a6, c6, rfl, hb6⟩
 have HB6 : Hid (Below w1.heap.size w1 W6 ∧ Dd.At W6 p S0 ∧ Dd.At W6 p5 S1) := ⟨HB5.out.1.trans (hb6.mono HB5.out.1.size), HB5.out.2.below hb6 HB5.out.2.lt, HA5.out.below hb6 HA5.out.lt⟩
 clear NA5 NS5 hb6
 have k1 := HB6.out.2.2.cell (40 + 1) (by omega)
 rw [HS.out] at k1
 have RA6 := (HAX.out W6 HB6.out.1).2.2
 have RS6 := Dd.range_st HB6.out.2.2
 go_wp2_with (first
  | refine Dd.load_want (by rfl) 32 _ rfl q 0 rfl xs.toList _ RA6 ha rfl ial ?_
  | refine Dd.load_want (by rfl) 41 _ rfl p5 0 rfl (Dd.ints S1) _ RS6 hu rfl j1 ?_
  | fail)
 refine Calls.mono (C4.out W6 HB6.out.1) ?_
 rintro e W7 ⟨rfl, hb7⟩
 have HB7 : Hid (Below w1.heap.size w1 W7 ∧ Dd.At W7 p S0) := ⟨HB6.out.1.trans (hb7.mono HB6.out.1.size), HB6.out.2.1.below hb7 HB6.out.2.1.lt⟩
 clear k1 RA6 RS6 hb7
 have RA7 := (HAX.out W7 HB7.out.1).2.2
 have RS7 := Dd.range_st HB7.out.2
 go_wp2_with (first
  | refine Dd.load_want (by rfl) 32 _ rfl q 0 rfl xs.toList _ RA7 ha rfl ial ?_
  | refine Dd.load_want (by rfl) 41 _ rfl p 0 rfl (Dd.ints S0) _ RS7 hu rfl j0 ?_
  | fail)
 refine Calls.mono (C5.out W7 HB7.out.1) ?_
 rintro e W8 ⟨rfl, hb8⟩
 have HB8 : Hid (Below w.heap.size w W8) := (HAX.out W8 (HB7.out.1.trans (hb8.mono HB7.out.1.size))).2.1
 clear RA7 RS7 hb8
 go_wp2
 go_ret
 exact ⟨rfl, HB8.out⟩
end Go.Proofs
