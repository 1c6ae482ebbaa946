import Derived.Test.YtehmmfmofdgheaaDoorIxOper
/-
  infix: the contract of slices.Reverse of two terms.
-/
namespace Go.Proofs
open Go.RowKit

theorem Ix.row6 {W : World} {q : Nat} {a b c d e f : Value} {T : TypeId} (h : W.heap[q]? = some (.cells #[a, b, c, d, e, f] T (0, 0))) :
    (W.cell? ⟨q, 0, none⟩ = some a ∧ W.cell? ⟨q, 1, none⟩ = some b ∧ W.cell? ⟨q, 2, none⟩ = some c ∧ W.cell? ⟨q, 3, none⟩ = some d ∧ W.cell? ⟨q, 4, none⟩ = some e ∧ W.cell? ⟨q, 5, none⟩ = some f) ∧
      (W.frozen? ⟨q, 0, none⟩ = false ∧ W.frozen? ⟨q, 1, none⟩ = false ∧ W.frozen? ⟨q, 2, none⟩ = false ∧ W.frozen? ⟨q, 3, none⟩ = false ∧ W.frozen? ⟨q, 4, none⟩ = false ∧ W.frozen? ⟨q, 5, none⟩ = false) := by
  simp [World.cell?, World.frozen?, h]

theorem Ix.put_at {W : World} {q k : Nat} {cs : Array Value} {T : TypeId} {v : Value} (h : W.heap[q]? = some (.cells cs T (0, 0))) : (W.setCell ⟨q, k, none⟩ v).heap[q]? = some (.cells (cs.setIfInBounds k v) T (0, 0)) := by
  simp [World.setCell, Array.getElem?_modify, h]
theorem Ix.swap6 {W : World} {q : Nat} {a b c d e f a' b' c' d' e' f' : Value} {T : TypeId} (h : W.heap[q]? = some (.cells #[a, b, c, d, e, f] T (0, 0))) :
    ((((((W.setCell ⟨q, 0, none⟩ a').setCell ⟨q, 1, none⟩ b').setCell ⟨q, 2, none⟩ c').setCell ⟨q, 3, none⟩ d').setCell ⟨q, 4, none⟩ e').setCell ⟨q, 5, none⟩ f').heap[q]? = some (.cells #[a', b', c', d', e', f'] T (0, 0)) :=
  Ix.put_at (Ix.put_at (Ix.put_at (Ix.put_at (Ix.put_at (Ix.put_at h)))))

theorem Ix.but_set {q : Nat} {W W' : World} (h : Tk.But (fun k => k = q) W W') (k : Nat) (v : Value) : Tk.But (fun k => k = q) W (W'.setCell ⟨q, k, none⟩ v) := h.setCell (E := fun k => k = q) (p := ⟨q, k, none⟩) rfl v
theorem Ix.but_drew {E : Nat → Prop} {a w : World} (h : Tk.But E a w) : Tk.But E a w.drew := ⟨h.os, h.tape, h.output, h.size, h.block⟩
theorem Ix.heap_drew (w : World) : w.drew.heap = w.heap := rfl
theorem Ix.but6 (W : World) (q : Nat) (a b c d e f : Value) : Tk.But (fun k => k = q) W ((((((W.setCell ⟨q, 0, none⟩ a).setCell ⟨q, 1, none⟩ b).setCell ⟨q, 2, none⟩ c).setCell ⟨q, 3, none⟩ d).setCell ⟨q, 4, none⟩ e).setCell ⟨q, 5, none⟩ f) :=
  Ix.but_set (Ix.but_set (Ix.but_set (Ix.but_set (Ix.but_set (Ix.but_set (Tk.But.refl _ W) 0 a) 1 b) 2 c) 3 d) 4 e) 5 f

set_option maxHeartbeats 8000000 in
set_option maxRecDepth 20000 in
theorem Tryd.reverse_two (g : Nat) (x0 x1 y0 y1 : Int) (a b : Option Addr) (n c m d : Nat) (w : World) (h : w.heap[g]? = some (.cells #[.int .i64 x0, .int .i64 x1, .slice a n c, .int .i64 y0, .int .i64 y1, .slice b m d] 37 (0, 0))) :
    Calls Tryd.prog 78 #[.slice (some ⟨g, 0, none⟩) 2 2] w fun e w' => (∃ v, e = .returned v) ∧ Tk.But (fun k => k = g) w w' ∧ w'.heap[g]? = some (.cells #[.int .i64 y0, .int .i64 y1, .slice b m d, .int .i64 x0, .int .i64 x1, .slice a n c] 37 (0, 0)) := by
  obtain ⟨⟨z0, z1, z2, z3, z4, z5⟩, f0, f1, f2, f3, f4, f5⟩ := Ix.row6 h
  have H : Hid _ := h
  clear h
  go_enter Tryd.func78, Tryd.ntmps78
  go_wp2
  refine wp_loop_rounds 2 ?_
  rw [rounds_succ]
  go_upto_region 3 with fail
  go_region_law (fail)
  all_goals
    go_wp2
    rw [rounds_succ]
    go_wp2
    refine bodyPost_end (results_none Tryd.results78 _ _ _) rfl ?_
    have hb := Ix.but6 w g (.int .i64 y0) (.int .i64 y1) (.slice b m d) (.int .i64 x0) (.int .i64 x1) (.slice a n c)
    have hs := Ix.swap6 (a' := .int .i64 y0) (b' := .int .i64 y1) (c' := .slice b m d) (d' := .int .i64 x0) (e' := .int .i64 x1) (f' := .slice a n c) H.out
    exact And.intro ⟨_, rfl⟩ (And.intro (Ix.but_drew hb) ((congrArg (·[g]?) (Ix.heap_drew _)).trans hs))

end Go.Proofs

/-
  infix: the contracts of the operator's of.
-/
namespace Go.Proofs
open Go.RowKit

theorem Ix.set3_other (w : World) (q : Nat) {k : Nat} (hk : k ≠ q) {x y z : Value} : (((w.setCell ⟨q, 0, none⟩ x).setCell ⟨q, 1, none⟩ y).setCell ⟨q, 2, none⟩ z).heap[k]? = w.heap[k]? :=
  (Below.heap_setCell _ _ _ _ hk).trans ((Below.heap_setCell _ _ _ _ hk).trans (Below.heap_setCell _ _ _ _ hk))
theorem Ix.but3 {E : Nat → Prop} {a w : World} (h : Tk.But E a w) (q : Nat) (hq : a.heap.size ≤ q) (x y z : Value) : Tk.But E a (((w.setCell ⟨q, 0, none⟩ x).setCell ⟨q, 1, none⟩ y).setCell ⟨q, 2, none⟩ z) :=
  ⟨h.os, h.tape, h.output, by have := h.size; simpa [World.setCell] using this, fun k hk hne => (Ix.set3_other w q (by omega)).trans (h.block k hk hne)⟩
theorem Ix.results_term1 {fn : Func} {p : Tmp} (h : fn.results = #[.cell p 37]) (tmps : Array Value) (w : World) (q : Nat) (a b c : Value)
    (hp : tmps.getD p undef = .pointer (some ⟨q, 0, none⟩)) (hq : w.heap[q]? = some (.cells #[a, b, c] 37 (0, 0))) :
    (results fn tmps).run Tryd.prog w = .ok (.agg #[a, b, c]) w := results_cell_row h tmps w q 37 #[a, b, c] (0, 0) _ hp hq Tryd.underlying37 rfl (by kernel_rfl)

set_option maxHeartbeats 4000000 in
set_option maxRecDepth 20000 in
theorem Tryd.of_one (r o : Int) (tx : ByteArray) (a : Option Addr) (n c : Nat) (w : World) :
    Calls Tryd.prog 63 #[.agg #[.int .i64 r, .string tx, .int .i64 o, .bool false, .bool false], .slice a n c] w fun e w' => e = .returned (.agg #[.int .i64 o, .int .i64 0, .slice a n c]) ∧ Below w.heap.size w w' := by
  obtain ⟨w1, hw1⟩ : ∃ x, w.alloc (.cells #[.int .i64 r, .string tx, .int .i64 o, .bool false, .bool false] 88) = x := ⟨_, rfl⟩
  obtain ⟨w2, hw2⟩ : ∃ x, w1.alloc (.cells #[.int .i64 0, .int .i64 0, .slice none 0 0] 37) = x := ⟨_, rfl⟩
  have HW1 : Hid (w.alloc (.cells #[.int .i64 r, .string tx, .int .i64 o, .bool false, .bool false] 88) = w1 ∧ w1.alloc (.cells #[.int .i64 0, .int .i64 0, .slice none 0 0] 37) = w2) := ⟨hw1, hw2⟩
  have s1 : w1.heap.size = w.heap.size + 1 := by rw [← hw1]; simp
  have HS1 : Hid (w1.heap.size = w.heap.size + 1) := s1
  have N1 : w1.heap[w.heap.size]? = some (.cells #[.int .i64 r, .string tx, .int .i64 o, .bool false, .bool false] 88 (0, 0)) := by rw [← hw1]; exact heap_alloc_new w _
  have N2 : Hid (w2.heap[w.heap.size]? = some (.cells #[.int .i64 r, .string tx, .int .i64 o, .bool false, .bool false] 88 (0, 0))) := by rw [← hw2, Below.heap_alloc _ _ _ (by omega)]; exact N1
  have R2 : Hid (w2.heap[w.heap.size + 1]? = some (.cells #[.int .i64 0, .int .i64 0, .slice none 0 0] 37 (0, 0))) := by rw [← hw2, ← s1]; exact heap_alloc_new w1 _
  have B2 : Hid (Below w.heap.size w w2) := by rw [← hw2, ← hw1]; exact ((Below.refl _ w).alloc (Nat.le_refl _) _).alloc (by simp) _
  clear hw1 hw2 s1 N1
  go_enter Tryd.func63, Tryd.ntmps63
  go_upto_region 1 with fail
  rw [HW1.out.1, HW1.out.2]
  obtain ⟨⟨z0, z1, z2, z3, z4⟩, -⟩ := Ix.row5 N2.out
  obtain ⟨⟨x0, x1, x2⟩, y0, y1, y2⟩ := Tk.row3 R2.out
  have X3 : Hid ((w2.alloc (.cells #[.int .i64 o, .int .i64 0, .slice a n c] 37)).heap[w.heap.size + 1]? = some (.cells #[.int .i64 0, .int .i64 0, .slice none 0 0] 37 (0, 0))) := (Below.heap_alloc _ _ _ (Array.getElem?_eq_some_iff.1 R2.out).1).trans R2.out
  have N3 : Hid ((w2.alloc (.cells #[.int .i64 o, .int .i64 0, .slice a n c] 37)).heap[w.heap.size]? = some (.cells #[.int .i64 r, .string tx, .int .i64 o, .bool false, .bool false] 88 (0, 0))) := (Below.heap_alloc _ _ _ (Array.getElem?_eq_some_iff.1 N2.out).1).trans N2.out
  obtain ⟨⟨v0, v1, v2, v3, v4⟩, -⟩ := Ix.row5 N3.out
  obtain ⟨⟨t0, t1, t2⟩, s0, s1, s2⟩ := Tk.row3 X3.out
  go_wp2
  refine bodyPost_ret (Ix.results_term1 Tryd.results63 _ _ (w.heap.size + 1) _ _ _ rfl (Tk.put3 X3.out)) rfl ?_
  exact ⟨rfl, Tk.bsetCell (Tk.bsetCell (Tk.bsetCell (B2.out.alloc B2.out.size _) (Nat.le_succ _) _) (Nat.le_succ _) _) (Nat.le_succ _) _⟩

/-- What of makes of two. -/
structure Ix.Of2 (g : Nat) (o : Int) (sw de : Bool) (xs ys : Array Value) (w : World) (e : Ending) (w' : World) : Prop where
  but : Tk.But (fun k => k = g) w w'
  cells : w'.heap[g]? = some (.cells (if sw then ys ++ xs else xs ++ ys) 37 (0, 0))
  plain : de = false → e = .returned (.agg #[.int .i64 o, .int .i64 0, .slice (some ⟨g, 0, none⟩) 2 2])
  denied : de = true → ∃ q, w.heap.size ≤ q ∧ w'.heap[q]? = some (.cells #[.int .i64 o, .int .i64 0, .slice (some ⟨g, 0, none⟩) 2 2] 37 (0, 0)) ∧ e = .returned (.agg #[.int .i64 4, .int .i64 0, .slice (some ⟨q, 0, none⟩) 1 1])

set_option maxHeartbeats 4000000 in
set_option maxRecDepth 20000 in
theorem Tryd.of_two (g : Nat) (x0 x1 y0 y1 : Int) (a b : Option Addr) (n c m d : Nat) (r o : Int) (tx : ByteArray) (sw de : Bool) (w : World)
    (h : w.heap[g]? = some (.cells #[.int .i64 x0, .int .i64 x1, .slice a n c, .int .i64 y0, .int .i64 y1, .slice b m d] 37 (0, 0))) :
    Calls Tryd.prog 63 #[.agg #[.int .i64 r, .string tx, .int .i64 o, .bool sw, .bool de], .slice (some ⟨g, 0, none⟩) 2 2] w fun e w' => Ix.Of2 g o sw de #[.int .i64 x0, .int .i64 x1, .slice a n c] #[.int .i64 y0, .int .i64 y1, .slice b m d] w e w' := by
  obtain ⟨w1, hw1⟩ : ∃ x, w.alloc (.cells #[.int .i64 r, .string tx, .int .i64 o, .bool sw, .bool de] 88) = x := ⟨_, rfl⟩
  obtain ⟨w2, hw2⟩ : ∃ x, w1.alloc (.cells #[.int .i64 0, .int .i64 0, .slice none 0 0] 37) = x := ⟨_, rfl⟩
  have HW1 : Hid (w.alloc (.cells #[.int .i64 r, .string tx, .int .i64 o, .bool sw, .bool de] 88) = w1 ∧ w1.alloc (.cells #[.int .i64 0, .int .i64 0, .slice none 0 0] 37) = w2) := ⟨hw1, hw2⟩
  have s1 : w1.heap.size = w.heap.size + 1 := by rw [← hw1]; simp
  have HS1 : Hid (w1.heap.size = w.heap.size + 1) := s1
  have N1 : w1.heap[w.heap.size]? = some (.cells #[.int .i64 r, .string tx, .int .i64 o, .bool sw, .bool de] 88 (0, 0)) := by rw [← hw1]; exact heap_alloc_new w _
  have N2 : Hid (w2.heap[w.heap.size]? = some (.cells #[.int .i64 r, .string tx, .int .i64 o, .bool sw, .bool de] 88 (0, 0))) := by rw [← hw2, Below.heap_alloc _ _ _ (by omega)]; exact N1
  have R2 : Hid (w2.heap[w.heap.size + 1]? = some (.cells #[.int .i64 0, .int .i64 0, .slice none 0 0] 37 (0, 0))) := by rw [← hw2, ← s1]; exact heap_alloc_new w1 _
  have B2 : Hid (Tk.But (fun k => k = g) w w2) := by rw [← hw2, ← hw1]; exact ((Tk.But.refl _ w).alloc _).alloc _
  have S2 : Hid (w2.heap.size = w.heap.size + 2) := by show _ = _; rw [← hw2]; simp; omega
  have hlt := (Array.getElem?_eq_some_iff.1 h).1
  have G2 : Hid (w2.heap[g]? = some (.cells #[.int .i64 x0, .int .i64 x1, .slice a n c, .int .i64 y0, .int .i64 y1, .slice b m d] 37 (0, 0)) ∧ g < w.heap.size) := ⟨by rw [← hw2, Below.heap_alloc _ _ _ (by omega), ← hw1, Below.heap_alloc _ _ _ hlt]; exact h, hlt⟩
  clear hw1 hw2 s1 N1 h hlt
  have HC : Hid (∀ (W : World), Tk.But (fun k => k = g) w W → W.heap[w.heap.size]? = some (.cells #[.int .i64 r, .string tx, .int .i64 o, .bool sw, .bool de] 88 (0, 0)) → True) := fun _ _ _ => trivial
  clear HC
  go_enter Tryd.func63, Tryd.ntmps63
  go_upto_region 1 with fail
  rw [HW1.out.1, HW1.out.2]
  obtain ⟨⟨z0, z1, z2, z3, z4⟩, -⟩ := Ix.row5 N2.out
  go_upto_if 7 with fail
  go_cut [] from 8 to 9 (fun wx => Hid (Tk.But (fun k => k = g) w wx ∧ w.heap.size + 2 ≤ wx.heap.size ∧ wx.heap[g]? = some (.cells (if sw then #[.int .i64 y0, .int .i64 y1, .slice b m d, .int .i64 x0, .int .i64 x1, .slice a n c] else #[.int .i64 x0, .int .i64 x1, .slice a n c, .int .i64 y0, .int .i64 y1, .slice b m d]) 37 (0, 0)) ∧
    wx.heap[w.heap.size]? = some (.cells #[.int .i64 r, .string tx, .int .i64 o, .bool sw, .bool de] 88 (0, 0)) ∧ wx.heap[w.heap.size + 1]? = some (.cells #[.int .i64 0, .int .i64 0, .slice none 0 0] 37 (0, 0))))
  case first =>
    cases sw with
    | false =>
      go_wp2_with fail
      go_meet
      exact ⟨B2.out, Nat.le_of_eq S2.out.symm, G2.out.1, N2.out, R2.out⟩
    | true =>
      have H1 : Hid _ := Tryd.reverse_two g x0 x1 y0 y1 a b n c m d w2 G2.out.1
      go_wp2_with fail
      refine Calls.mono H1.out ?_
      rintro e W3 ⟨⟨v, rfl⟩, b3, h3⟩
      have HH : Hid (Tk.But (fun k => k = g) w2 W3 ∧ W3.heap[g]? = some (.cells #[.int .i64 y0, .int .i64 y1, .slice b m d, .int .i64 x0, .int .i64 x1, .slice a n c] 37 (0, 0))) := ⟨b3, h3⟩
      clear b3 h3
      go_wp2_with fail
      go_meet
      have h1 := HH.out.1
      have h2 := S2.out
      have h3 := G2.out.2
      exact ⟨B2.out.trans h1, by have := h1.size; omega, HH.out.2, (h1.block _ (by omega) (by omega)).trans N2.out, (h1.block _ (by omega) (by omega)).trans R2.out⟩
  case rest =>
  rename World => W5
  have H5 : Hid _ := hcut
  clear hcut
  obtain ⟨⟨z0, z1, z2, z3, z4⟩, -⟩ := Ix.row5 H5.out.2.2.2.1
  have B6 : Hid (Tk.But (fun k => k = g) w (W5.alloc (.cells #[.int .i64 o, .int .i64 0, .slice (some ⟨g, 0, none⟩) 2 2] 37))) := H5.out.1.alloc _
  have hg5 : g < W5.heap.size := (Array.getElem?_eq_some_iff.1 H5.out.2.2.1).1
  have HG5 : Hid (g < W5.heap.size) := hg5
  have N6 : Hid ((W5.alloc (.cells #[.int .i64 o, .int .i64 0, .slice (some ⟨g, 0, none⟩) 2 2] 37)).heap[w.heap.size]? = some (.cells #[.int .i64 r, .string tx, .int .i64 o, .bool sw, .bool de] 88 (0, 0))) := (Below.heap_alloc _ _ _ (by have := H5.out.2.1; omega)).trans H5.out.2.2.2.1
  have X6 : Hid ((W5.alloc (.cells #[.int .i64 o, .int .i64 0, .slice (some ⟨g, 0, none⟩) 2 2] 37)).heap[w.heap.size + 1]? = some (.cells #[.int .i64 0, .int .i64 0, .slice none 0 0] 37 (0, 0))) := (Below.heap_alloc _ _ _ (by have := H5.out.2.1; omega)).trans H5.out.2.2.2.2
  have G6 : Hid ((W5.alloc (.cells #[.int .i64 o, .int .i64 0, .slice (some ⟨g, 0, none⟩) 2 2] 37)).heap[g]? = _) := (Below.heap_alloc _ _ _ hg5).trans H5.out.2.2.1
  obtain ⟨⟨v0, v1, v2, v3, v4⟩, -⟩ := Ix.row5 N6.out
  obtain ⟨⟨t0, t1, t2⟩, s0, s1, s2⟩ := Tk.row3 X6.out
  clear hg5
  cases de with
  | false =>
    go_wp2
    refine bodyPost_ret (Ix.results_term1 Tryd.results63 _ _ (w.heap.size + 1) _ _ _ rfl (Tk.put3 X6.out)) rfl ?_
    have hne : w.heap.size + 1 ≠ g := by have := G2.out.2; omega
    refine ⟨Ix.but3 B6.out _ (Nat.le_succ _) _ _ _, ?_, fun _ => rfl, fun h => by cases h⟩
    rw [Ix.set3_other _ _ hne.symm, G6.out]
    cases sw <;> rfl
  | true =>
    have D6 : Hid ((W5.alloc (.cells #[.int .i64 o, .int .i64 0, .slice (some ⟨g, 0, none⟩) 2 2] 37)).heap[W5.heap.size]? = some (.cells #[.int .i64 o, .int .i64 0, .slice (some ⟨g, 0, none⟩) 2 2] 37 (0, 0))) := heap_alloc_new W5 _
    obtain ⟨W6, hW6⟩ : ∃ x, W5.alloc (.cells #[.int .i64 o, .int .i64 0, .slice (some ⟨g, 0, none⟩) 2 2] 37) = x := ⟨_, rfl⟩
    have S6 : Hid (W6.heap.size = W5.heap.size + 1) := by show _ = _; rw [← hW6]; simp
    rw [hW6] at B6 N6 X6 G6 D6 v0 v1 v2 v3 v4 t0 t1 t2 s0 s1 s2
    have HW6 : Hid (W5.alloc (.cells #[.int .i64 o, .int .i64 0, .slice (some ⟨g, 0, none⟩) 2 2] 37) = W6) := hW6
    have X7 : Hid ((W6.alloc (.cells #[.int .i64 o, .int .i64 0, .slice (some ⟨g, 0, none⟩) 2 2] 37)).heap[w.heap.size + 1]? = some (.cells #[.int .i64 0, .int .i64 0, .slice none 0 0] 37 (0, 0))) := (Below.heap_alloc _ _ _ (Array.getElem?_eq_some_iff.1 X6.out).1).trans X6.out
    have G7 : Hid ((W6.alloc (.cells #[.int .i64 o, .int .i64 0, .slice (some ⟨g, 0, none⟩) 2 2] 37)).heap[g]? = _) := (Below.heap_alloc _ _ _ (Array.getElem?_eq_some_iff.1 G6.out).1).trans G6.out
    have D7 : Hid ((W6.alloc (.cells #[.int .i64 o, .int .i64 0, .slice (some ⟨g, 0, none⟩) 2 2] 37)).heap[W6.heap.size]? = some (.cells #[.int .i64 o, .int .i64 0, .slice (some ⟨g, 0, none⟩) 2 2] 37 (0, 0))) := heap_alloc_new W6 _
    have B7 : Hid (Tk.But (fun k => k = g) w (W6.alloc (.cells #[.int .i64 o, .int .i64 0, .slice (some ⟨g, 0, none⟩) 2 2] 37))) := B6.out.alloc _
    obtain ⟨⟨d0, d1, d2⟩, -⟩ := Tk.row3 D6.out
    obtain ⟨⟨p0, p1, p2⟩, q0, q1, q2⟩ := Tk.row3 X7.out
    clear hW6
    go_upto_region 4 with fail
    rw [HW6.out]
    go_wp2
    refine bodyPost_ret (Ix.results_term1 Tryd.results63 _ _ (w.heap.size + 1) _ _ _ rfl (Tk.put3 X7.out)) rfl ?_
    have hne : w.heap.size + 1 ≠ g := by have := G2.out.2; omega
    have h5 := H5.out.2.1
    have h6 := S6.out
    refine ⟨Ix.but3 B7.out _ (Nat.le_succ _) _ _ _, ?_, (fun h => by cases h), fun _ => ⟨W6.heap.size, by omega, (Ix.set3_other _ _ (by omega)).trans D7.out, rfl⟩⟩
    rw [Ix.set3_other _ _ hne.symm, G7.out]
    cases sw <;> rfl

end Go.Proofs
