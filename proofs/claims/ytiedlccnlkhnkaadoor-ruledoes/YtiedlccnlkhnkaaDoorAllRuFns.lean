/-
  Rules: a rule as plain data, rows of rules in memory; Clone of numbers, lay, each; the functions that rules hands to each.
-/
import Derived.Test.YtiedlccnlkhnkaaDoorNtIns
import Derived.Deep.AppendLies
import Derived.Test.YtiedlccnlkhnkaaDoorTOps
import Derived.Test.YtiedlccnlkhnkaaDoorNtCount
import Derived.Lib.Hide
import Derived.Deep.RegionHeld3
namespace Go.Proofs
open Go.RowKit Go.Shelf

/-- A rule. -/
structure Ru where
  kd : Int
  nd : Int
  ne : List Int
  gi : List Int

/-- Numbers that a slice holds, in a block of numbers. -/
def Ru.Ints (X : World) (u : Value) (l : List Int) : Prop := ∃ a c, u = .slice a l.length c ∧ ∀ j (h : j < l.length), ∃ g off cs fr, a = some ⟨g, off, none⟩ ∧ X.heap[g]? = some (.cells cs 3 fr) ∧ X.cell? ⟨g, off + j, none⟩ = some (.int .i64 l[j])
theorem Ru.Ints.keep {X X' : World} {u : Value} {l : List Int} (h : Ru.Ints X u l) (hk : ∀ (g : Nat) (cs : Array Value) (fr : Nat × Nat), X.heap[g]? = some (Obj.cells cs 3 fr) → X'.heap[g]? = X.heap[g]?) : Ru.Ints X' u l := by
  obtain ⟨a, c, hu, h⟩ := h
  refine ⟨a, c, hu, fun j hj => ?_⟩
  obtain ⟨g, off, cs, fr, h1, h2, h3⟩ := h j hj
  have := hk g cs fr h2
  exact ⟨g, off, cs, fr, h1, this.trans h2, by rw [World.cell?_of_block (w := X) (a := ⟨g, off + j, none⟩) this]; exact h3⟩
theorem Ru.lt_of {X : World} {g : Nat} {o : Obj} (h : X.heap[g]? = some o) : g < X.heap.size := (Array.getElem?_eq_some_iff.1 h).1
theorem Ru.Ints.below {X X' : World} {u : Value} {l : List Int} (h : Ru.Ints X u l) (hb : Below X.heap.size X X') : Ru.Ints X' u l := h.keep fun g _ _ hg => hb.block g (Ru.lt_of hg)
theorem Ru.Ints.grown {X X' : World} {u : Value} {l : List Int} (h : Ru.Ints X u l) {B : Nat} {T : TypeId} {size : Nat} {v : Value} {n : Nat} {cs : List Value} (hT : T ≠ 3) (ho : X.ownsRow B T size v n cs) (hg : X.grownBy X' v.ownBlock) : Ru.Ints X' u l :=
  h.keep fun g cs' fr h2 => hg.block g (Ru.lt_of h2) fun e => by
    rcases ho.2 with ⟨hv, -⟩ | ⟨g', cap, cur, hv, -, hg', -⟩
    · rw [hv] at e; simp [Value.ownBlock] at e
    · rw [hv] at e
      simp only [Value.ownBlock, Option.some.injEq] at e
      subst e
      rw [hg'] at h2
      simp only [Option.some.injEq, Obj.cells.injEq] at h2
      exact hT h2.2.1
theorem Ru.ints_own {X : World} {B : Nat} {v : Value} {l : List Int} (h : X.ownsRow B 3 1 v l.length (l.map fun n => .int .i64 n)) : Ru.Ints X v l := by
  rcases h with ⟨hl, ⟨hv, hn⟩ | ⟨g, cap, cur, hv, hB, hg, h4, h5, h6, h7⟩⟩
  · exact ⟨none, 0, by rw [hv, hn], fun j hj => by omega⟩
  · refine ⟨some ⟨g, 0, none⟩, cap, hv, fun j hj => ⟨g, 0, cur, (0, 0), rfl, hg, ?_⟩⟩
    rw [Nat.zero_add]
    simp only [World.cell?, hg]
    have h8 : (l.map fun n => Value.int .i64 n)[j]? = some (.int .i64 l[j]) := by simp [hj]
    rw [← h7, List.getElem?_take] at h8
    split at h8
    · rw [Array.getElem?_toList] at h8; exact h8
    · simp at h8
theorem Ru.ints_nums {X : World} {B : Nat} {v : Value} {l : List Nat} (h : X.ownsRow B 3 1 v l.length (Rk.nums l)) : Ru.Ints X v (l.map fun n : Nat => (n : Int)) := by
  refine Ru.ints_own (B := B) ?_
  have e : ((l.map fun n : Nat => (n : Int)).map fun n => Value.int .i64 n) = Rk.nums l := by simp [Rk.nums]
  rw [e, List.length_map]
  exact h
theorem Ru.ints_nil (X : World) : Ru.Ints X (.slice none 0 0) [] := ⟨none, 0, rfl, fun j hj => by simp at hj⟩

/-- The cells of rules. -/
def Ru.cells (qs : List (Ru × Value × Value)) : List Value := qs.flatMap fun q => [.int .i64 q.1.kd, .int .i64 q.1.nd, q.2.1, q.2.2]
theorem Ru.cells_append (qs rs : List (Ru × Value × Value)) : Ru.cells (qs ++ rs) = Ru.cells qs ++ Ru.cells rs := by simp [Ru.cells]
theorem Ru.cells_length (qs : List (Ru × Value × Value)) : (Ru.cells qs).length = qs.length * 4 := by
  induction qs with
  | nil => rfl
  | cons q r ih =>
    have : Ru.cells (q :: r) = [.int .i64 q.1.kd, .int .i64 q.1.nd, q.2.1, q.2.2] ++ Ru.cells r := by simp [Ru.cells]
    rw [this, List.length_append, ih]
    simp
    omega
theorem Ru.cells_at (qs : List (Ru × Value × Value)) (j : Nat) (h : j < qs.length) : (Ru.cells qs)[j * 4]? = some (.int .i64 qs[j].1.kd) ∧ (Ru.cells qs)[j * 4 + 1]? = some (.int .i64 qs[j].1.nd) ∧ (Ru.cells qs)[j * 4 + 2]? = some qs[j].2.1 ∧ (Ru.cells qs)[j * 4 + 3]? = some qs[j].2.2 := by
  induction qs generalizing j with
  | nil => simp at h
  | cons q r ih =>
    cases j with
    | zero => simp [Ru.cells]
    | succ j =>
      have := ih j (by simpa using h)
      have e : Ru.cells (q :: r) = [.int .i64 q.1.kd, .int .i64 q.1.nd, q.2.1, q.2.2] ++ Ru.cells r := by simp [Ru.cells]
      rw [e]
      rw [List.getElem?_append_right (by simp; omega), List.getElem?_append_right (by simp; omega), List.getElem?_append_right (by simp; omega), List.getElem?_append_right (by simp; omega)]
      simp only [List.length_cons, List.length_nil, List.getElem_cons_succ]
      rw [show (j + 1) * 4 - 4 = j * 4 by omega, show (j + 1) * 4 + 1 - 4 = j * 4 + 1 by omega, show (j + 1) * 4 + 2 - 4 = j * 4 + 2 by omega, show (j + 1) * 4 + 3 - 4 = j * 4 + 3 by omega]
      exact this
theorem Ru.cells_one {X : World} {qs : List (Ru × Value × Value)} (h : ∀ q, q ∈ qs → Ru.Ints X q.2.1 q.1.ne ∧ Ru.Ints X q.2.2 q.1.gi) : ∀ u, u ∈ Ru.cells qs → u.oneCell' = true := by
  intro u hu
  simp only [Ru.cells, List.mem_flatMap, List.mem_cons, List.not_mem_nil, or_false] at hu
  obtain ⟨q, hq, e⟩ := hu
  obtain ⟨⟨_, _, e1, -⟩, ⟨_, _, e2, -⟩⟩ := h q hq
  rcases e with rfl | rfl | rfl | rfl
  · rfl
  · rfl
  · rw [e1]; rfl
  · rw [e2]; rfl

/-- A row of rules of the call's own. -/
def Ru.Row (T : TypeId) (B : Nat) (X : World) (v : Value) (rs : List Ru) : Prop := ∃ qs : List (Ru × Value × Value), qs.map (·.1) = rs ∧ X.ownsRow B T 4 v qs.length (Ru.cells qs) ∧ ∀ q, q ∈ qs → Ru.Ints X q.2.1 q.1.ne ∧ Ru.Ints X q.2.2 q.1.gi
theorem Ru.row_nil (T : TypeId) (B : Nat) (X : World) : Ru.Row T B X (.slice none 0 0) [] := ⟨[], rfl, World.ownsRow_nil X B T 4, fun q hq => by simp at hq⟩
theorem Ru.own_below {X X' : World} {T : TypeId} {B size : Nat} {v : Value} {n : Nat} {cs : List Value} (h : X.ownsRow B T size v n cs) (hb : Below X.heap.size X X') : X'.ownsRow B T size v n cs := by
  rcases h with ⟨hl, h | ⟨g, cap, cur, rfl, hB2, hg, h4⟩⟩
  · exact ⟨hl, .inl h⟩
  · exact ⟨hl, .inr ⟨g, cap, cur, rfl, hB2, by rw [hb.block g (Ru.lt_of hg)]; exact hg, h4⟩⟩
theorem Ru.Row.below {T : TypeId} {B : Nat} {X X' : World} {v : Value} {rs : List Ru} (h : Ru.Row T B X v rs) (hb : Below X.heap.size X X') : Ru.Row T B X' v rs := by
  obtain ⟨qs, h1, h2, h3⟩ := h
  exact ⟨qs, h1, Ru.own_below h2 hb, fun q hq => ⟨(h3 q hq).1.below hb, (h3 q hq).2.below hb⟩⟩
theorem Ru.Row.lower {T : TypeId} {B B' : Nat} {X : World} {v : Value} {rs : List Ru} (h : Ru.Row T B X v rs) (hB : B' ≤ B) : Ru.Row T B' X v rs := by
  obtain ⟨qs, h1, h2, h3⟩ := h
  exact ⟨qs, h1, Nt.own_lower h2 hB, h3⟩
/-- What one finds at a place of such a row. -/
theorem Ru.Row.at {T : TypeId} {B : Nat} {X : World} {v : Value} {rs : List Ru} (h : Ru.Row T B X v rs) : ∃ a c, v = .slice a rs.length c ∧ ∀ j (hj : j < rs.length), ∃ g u1 u2, a = some ⟨g, 0, none⟩ ∧ g < X.heap.size ∧ X.cell? ⟨g, j * 4, none⟩ = some (.int .i64 rs[j].kd) ∧ X.cell? ⟨g, j * 4 + 1, none⟩ = some (.int .i64 rs[j].nd) ∧ X.cell? ⟨g, j * 4 + 2, none⟩ = some u1 ∧ X.cell? ⟨g, j * 4 + 3, none⟩ = some u2 ∧ Ru.Ints X u1 rs[j].ne ∧ Ru.Ints X u2 rs[j].gi := by
  obtain ⟨qs, rfl, h2, h3⟩ := h
  rcases h2 with ⟨hl, ⟨hv, hn⟩ | ⟨g, cap, cur, hv, hB, hg, h4, h5, h6, h7⟩⟩
  · exact ⟨none, 0, by rw [hv, List.length_map, hn], fun j hj => by rw [List.length_map] at hj; omega⟩
  · refine ⟨some ⟨g, 0, none⟩, cap, by rw [hv, List.length_map], fun j hj => ?_⟩
    rw [List.length_map] at hj
    have hx : ∀ k u, (Ru.cells qs)[k]? = some u → X.cell? ⟨g, k, none⟩ = some u := fun k u hk => by
      simp only [World.cell?, hg]
      rw [← h7, List.getElem?_take] at hk
      split at hk
      · rw [Array.getElem?_toList] at hk; exact hk
      · simp at hk
    obtain ⟨c0, c1, c2, c3⟩ := Ru.cells_at qs j hj
    have hm := h3 qs[j] (List.getElem_mem hj)
    refine ⟨g, qs[j].2.1, qs[j].2.2, rfl, Ru.lt_of hg, ?_, ?_, hx _ _ c2, hx _ _ c3, ?_, ?_⟩
    · rw [List.getElem_map]; exact hx _ _ c0
    · rw [List.getElem_map]; exact hx _ _ c1
    · rw [List.getElem_map]; exact hm.1
    · rw [List.getElem_map]; exact hm.2
/-- What a call that makes one rule comes to. -/
def Ru.One (r : Ru) (w : World) (e : Ending) (w' : World) : Prop := ∃ u1 u2, e = .returned (.agg #[.int .i64 r.kd, .int .i64 r.nd, u1, u2]) ∧ Ru.Ints w' u1 r.ne ∧ Ru.Ints w' u2 r.gi ∧ Below w.heap.size w w'
/-- A row grows. -/
theorem Ru.Row.push {T : TypeId} {B : Nat} {X X' : World} {v v' : Value} {n m : Nat} {cs ns : List Value} {qs ps : List (Ru × Value × Value)} (hT : T ≠ 3)
    (h : X.ownsRow B T 4 v n cs) (hn : n = qs.length) (hc : cs = Ru.cells qs) (hm : m = ps.length) (hp : ns = Ru.cells ps)
    (h1 : ∀ q, q ∈ qs → Ru.Ints X q.2.1 q.1.ne ∧ Ru.Ints X q.2.2 q.1.gi) (h2 : ∀ q, q ∈ ps → Ru.Ints X q.2.1 q.1.ne ∧ Ru.Ints X q.2.2 q.1.gi)
    (ho : X'.ownsRow B T 4 v' (n + m) (cs ++ ns)) (hg : X.grownBy X' v.ownBlock) : Ru.Row T B X' v' (qs.map (·.1) ++ ps.map (·.1)) := by
  refine ⟨qs ++ ps, by simp, ?_, fun q hq => ?_⟩
  · rw [Ru.cells_append, List.length_append, ← hc, ← hp, ← hn, ← hm]
    exact ho
  · rcases List.mem_append.1 hq with hq | hq
    · exact ⟨(h1 q hq).1.grown hT h hg, (h1 q hq).2.grown hT h hg⟩
    · exact ⟨(h2 q hq).1.grown hT h hg, (h2 q hq).2.grown hT h hg⟩

end Go.Proofs

namespace Go.Proofs
open Go.RowKit Go.Shelf

set_option maxRecDepth 20000 in
set_option maxHeartbeats 4000000 in
theorem Tryd.clone_any (u : Value) (l : List Int) (w : World) (hu : Ru.Ints w u l) (hl : l.length ≤ 1000000) :
    Calls Tryd.prog 82 #[u] w fun e w' => ∃ u', e = .returned u' ∧ Hid (Ru.Ints w' u' l ∧ Below w.heap.size w w') := by
  obtain ⟨i0, hi, hz0, hz1, hz2⟩ := info_parts Tryd.infoIntR
  obtain ⟨a, c, rfl, hc⟩ := hu
  obtain ⟨n, hn⟩ : ∃ n, l.length = n := ⟨_, rfl⟩
  cases a with
  | none =>
    have h0 : n = 0 := by
      rcases Nat.eq_zero_or_pos n with h | h
      · exact h
      · obtain ⟨_, _, _, _, h, _⟩ := hc 0 (by omega)
        cases h
    obtain rfl : l = [] := List.eq_nil_of_length_eq_zero (by omega)
    have hq : ∀ W : World, (binOp BinOp.eql 51 (.slice none 0 c) (.slice none 0 0)).run Tryd.prog W = .ok (.bool true) W := fun _ => by kernel_rfl
    clear hc hn hi hz0 hz1 hz2 h0
    go_enter Tryd.func82, Tryd.ntmps82
    go_wp2
    go_ret
    exact ⟨_, rfl, Ru.ints_nil w, Below.refl _ w⟩
  | some ad =>
    rw [hn]
    have HC : Hid (∀ j v, (l.map fun x => Value.int .i64 x)[j]? = some v → (w.alloc (.cells #[] 3)).cell? (ad.add j) = some v) := fun j v hv => by
      rw [List.getElem?_map] at hv
      by_cases hj : j < l.length
      · obtain ⟨g, off, cs, fr, h1, h2, h3⟩ := hc j hj
        obtain rfl := Option.some.inj h1
        rw [List.getElem?_eq_getElem hj] at hv
        simp only [Option.map_some, Option.some.injEq] at hv
        subst hv
        have hb : Below w.heap.size w (w.alloc (.cells #[] 3)) := (Below.refl _ w).alloc (Nat.le_refl _) _
        rw [show (⟨g, off, none⟩ : Addr).add j = ⟨g, off + j, none⟩ by simp [Addr.add]]
        rw [hb.cell (p := ⟨g, off + j, none⟩) (Ru.lt_of h2)]
        exact h3
      · rw [List.getElem?_eq_none (by omega)] at hv
        simp at hv
    have H1 : Hid (∀ v, v ∈ (l.map fun x => Value.int .i64 x) → v.oneCell' = true) := fun v hv => by
      obtain ⟨x, -, rfl⟩ := List.mem_map.1 hv
      rfl
    have HO : Hid ((w.alloc (.cells #[] 3)).ownsRow w.heap.size 3 1 (.slice (some ⟨w.heap.size, 0, none⟩) 0 0) 0 []) := World.ownsRow_made w #[] 0 (Nat.le_refl _) (by unfold maxLen; omega) rfl
    have HL : Hid ((l.map fun x => Value.int .i64 x).length = n * 1) := by show _ = _; rw [List.length_map, hn, Nat.mul_one]
    have HN : Hid (l.length = n) := hn
    have hn' : n ≤ 1000000 := by omega
    have hq : ∀ W : World, (binOp BinOp.eql 51 (.slice (some ad) n c) (.slice none 0 0)).run Tryd.prog W = .ok (.bool false) W := fun _ => by kernel_rfl
    clear hc hn hl
    go_enter Tryd.func82, Tryd.ntmps82
    go_wp2_with (at_builtin; refine wpList_append_own _ rfl _ _ 51 rfl w.heap.size 3 i0 (.int .i64 0) 1 8 Tryd.underlying51 hi hz0 hz1 hz2 rfl (by decide) _ 0 [] rfl HO.out ad n c (l.map fun x => Value.int .i64 x) rfl HL.out HC.out H1.out ?c3 ?c4 ?c5 ?_)
    case c3 => unfold maxLen; omega
    case c4 => omega
    case c5 => simp
    intro v' W2 own2 g2 _
    obtain ⟨a2, c2, rfl⟩ := Rk.own_shape own2
    have HB : Hid (Below w.heap.size w W2) := Rk.below_grown ((Below.refl _ w).alloc (Nat.le_refl _) _) (by simp) HO.out g2
    have HV : Hid (Ru.Ints W2 (.slice a2 n c2) l) := by
      refine Ru.ints_own (B := w.heap.size) ?_
      rw [HN.out]
      exact own2
    clear own2 g2
    go_wp2
    go_ret
    exact ⟨_, rfl, HV.out, HB.out⟩

theorem Ru.Ints.row {X : World} {u : Value} {l : List Int} (h : Ru.Ints X u l) {b : Nat} {old : Array Value} {T : TypeId} {f0 : Nat × Nat} (hT : T ≠ 3) (hb : X.heap[b]? = some (.cells old T f0)) (cs : Array Value) : Ru.Ints (X.setRow b cs) u l :=
  h.keep fun g cs' fr h2 => by
    have : b ≠ g := fun e => by
      subst e
      rw [hb] at h2
      simp only [Option.some.injEq, Obj.cells.injEq] at h2
      exact hT h2.2.1
    simp only [World.setRow, Array.getElem?_modify]
    rw [if_neg this]

set_option maxRecDepth 20000 in
set_option maxHeartbeats 4000000 in
theorem Tryd.lay_any (kd nd : Int) (u1 u2 : Value) (l1 l2 : List Int) (w : World) (h1 : Ru.Ints w u1 l1) (h2 : Ru.Ints w u2 l2) (hl1 : l1.length ≤ 1000000) (hl2 : l2.length ≤ 1000000) :
    Calls Tryd.prog 69 #[.int .i64 kd, .int .i64 nd, u1, u2] w fun e w' => Ru.One ⟨kd, nd, l1, l2⟩ w e w' := by
  obtain ⟨w1, hw1⟩ : ∃ x, w.alloc (.cells #[.int .i64 0, .int .i64 0, .slice none 0 0, .slice none 0 0] 53) = x := ⟨_, rfl⟩
  have A1 : Below w.heap.size w w1 := by rw [← hw1]; exact (Below.refl _ w).alloc (Nat.le_refl _) _
  have N1 : w1.heap[w.heap.size]? = some (.cells #[.int .i64 0, .int .i64 0, .slice none 0 0, .slice none 0 0] 53 (0, 0)) := by rw [← hw1]; exact heap_alloc_new w _
  have C1 : Hid _ := Tryd.clone_any u1 l1 w1 (h1.below A1) hl1
  have C2 : Hid (∀ W, Below w1.heap.size w1 W → Calls Tryd.prog 82 #[u2] W fun e w' => ∃ u', e = .returned u' ∧ Hid (Ru.Ints w' u' l2 ∧ Below W.heap.size W w')) := fun W hb => Tryd.clone_any u2 l2 W ((h2.below A1).below hb) hl2
  have HA : Hid (Below w.heap.size w w1 ∧ w1.heap[w.heap.size]? = some (.cells #[.int .i64 0, .int .i64 0, .slice none 0 0, .slice none 0 0] 53 (0, 0)) ∧ w.alloc (.cells #[.int .i64 0, .int .i64 0, .slice none 0 0, .slice none 0 0] 53) = w1) := ⟨A1, N1, hw1⟩
  clear h1 h2 hl1 hl2 A1 N1 hw1
  go_enter Tryd.func69, Tryd.ntmps69
  go_wp2_with fail
  rw [HA.out.2.2]
  refine Calls.mono C1.out ?_
  rintro e W1 ⟨v1, rfl, X1⟩
  obtain ⟨a1, c1, e1, -⟩ := X1.out.1
  obtain ⟨n1, hn1⟩ : ∃ n, l1.length = n := ⟨_, rfl⟩
  rw [hn1] at e1
  subst e1
  clear hn1
  go_wp2_with fail
  refine Calls.mono (C2.out _ X1.out.2) ?_
  rintro e W2 ⟨v2, rfl, X2⟩
  obtain ⟨a2, c2, e2, -⟩ := X2.out.1
  obtain ⟨n2, hn2⟩ : ∃ n, l2.length = n := ⟨_, rfl⟩
  rw [hn2] at e2
  subst e2
  have HV1 : Hid (Ru.Ints W2 (.slice a1 n1 c1) l1) := X1.out.1.below X2.out.2
  have HV2 : Hid (Ru.Ints W2 (.slice a2 n2 c2) l2) := X2.out.1
  have N2 : W2.heap[w.heap.size]? = some (.cells #[.int .i64 0, .int .i64 0, .slice none 0 0, .slice none 0 0] 53 (0, 0)) := by
    have hlt := Ru.lt_of HA.out.2.1
    rw [X2.out.2.block _ (by have := X1.out.2.size; omega), X1.out.2.block _ hlt]
    exact HA.out.2.1
  have HB : Hid (Below w.heap.size w W2) := (HA.out.1.trans (X1.out.2.mono HA.out.1.size)).trans (X2.out.2.mono (by have := HA.out.1.size; have := X1.out.2.size; omega))
  clear hn2
  have hu := Tryd.underlying53
  go_wp2_with (refine wpList_store_row rfl 53 _ _ rfl w.heap.size #[.int .i64 kd, .int .i64 nd, .slice a1 n1 c1, .slice a2 n2 c2] rfl rfl 53 _ N2 (by kernel_rfl) rfl (by kernel_rfl) ?_)
  refine bodyPost_ret (v := .agg #[.int .i64 kd, .int .i64 nd, .slice a1 n1 c1, .slice a2 n2 c2]) (results_cell_row Tryd.results69 _ _ w.heap.size 53 #[.int .i64 kd, .int .i64 nd, .slice a1 n1 c1, .slice a2 n2 c2] (0, 0) _ rfl (setRow_heap _ _ _ _ _ _ N2) hu rfl (by kernel_rfl)) rfl ⟨_, _, rfl, HV1.out.row (by decide) N2 _, HV2.out.row (by decide) N2 _, Tk.below_row HB.out (Nat.le_refl _) _⟩

/-- What is asked of what is handed to each. -/
def Ru.Makes (g : Nat) (lb : Array Value) (F : Nat → Ru) (l : List Nat) (w : World) : Prop :=
  ∀ (W : World) (i : Nat), i ∈ l → Below w.heap.size w W → Calls Tryd.prog g (#[.int .i64 (i : Int)] ++ lb) W fun e w' => Ru.One (F i) W e w'

theorem Tryd.infoRule : (Tryd.prog.info? 53).map (fun i => (i.zero, i.size, i.bytes)) = some (some (.agg #[.int .i64 0, .int .i64 0, .slice none 0 0, .slice none 0 0]), 4, 64) := by kernel_rfl

set_option maxRecDepth 20000 in
set_option maxHeartbeats 4000000 in
theorem Tryd.each_any (F : Nat → Ru) (g : Nat) (lb : Array Value) (_eg : ∀ args w, (callFunc g args).run Tryd.prog w = .ok (.enter g args) w) (u : Value) (l : List Nat) (w : World) (hu : Ru.Ints w u (l.map fun n : Nat => (n : Int))) (hp : Ru.Makes g lb F l w) (hl : l.length ≤ 1000) :
    Calls Tryd.prog 70 #[u, .func (.func g) #[] lb] w fun e w' => ∃ v, e = .returned v ∧ Hid (Ru.Row 53 w.heap.size w' v (l.map F) ∧ Below w.heap.size w w') := by
  obtain ⟨i0, hi, hz0, hz1, hz2⟩ := info_parts Tryd.infoRule
  obtain ⟨a, c, rfl, hc⟩ := hu
  obtain ⟨n, hn⟩ : ∃ n, l.length = n := ⟨_, rfl⟩
  rw [List.length_map, hn]
  have hn3 : n ≤ 1000 := by omega
  have HC : Hid (∀ j (h : j < l.length), ∃ g off cs fr, a = some ⟨g, off, none⟩ ∧ w.heap[g]? = some (Obj.cells cs 3 fr) ∧ w.cell? ⟨g, off + j, none⟩ = some (.int .i64 (l[j] : Int))) := fun j hj => by
    obtain ⟨g, off, cs, fr, h1, h2, h3⟩ := hc j (by rw [List.length_map]; exact hj)
    exact ⟨g, off, cs, fr, h1, h2, by rw [h3]; simp⟩
  have HP : Hid (Ru.Makes g lb F l w ∧ l.length = n) := ⟨hp, hn⟩
  clear hp hc hn hl
  go_enter Tryd.func70, Tryd.ntmps70
  go_wp2
  go_loopg [5, 10] n (fun gk s5 s10 wr => ∃ (k : Nat) (qs : List (Ru × Value × Value)), gk + k = n ∧ s10 = .int .i64 k ∧ Hid (qs.map (·.1) = (l.take k).map F ∧ qs.length = k ∧ Below w.heap.size w wr ∧ ∀ q, q ∈ qs → Ru.Ints wr q.2.1 q.1.ne ∧ Ru.Ints wr q.2.2 q.1.gi) ∧ wr.ownsRow w.heap.size 53 4 s5 k (Ru.cells qs))
  case atStart => exact ⟨0, [], by omega, rfl, ⟨rfl, rfl, Below.refl _ w, fun q hq => by simp at hq⟩, World.ownsRow_nil _ _ _ _⟩
  case round =>
    obtain ⟨k, qs, hk, rfl, HB, hown⟩ := hrel
    obtain ⟨av, cv, rfl⟩ := Rk.own_shape hown
    by_cases hlt : k < n
    · have hd : decide ((k : Int) < n) = true := decide_eq_true (by omega)
      have hkl : k < l.length := by rw [HP.out.2]; exact hlt
      obtain ⟨b, off, cs, fr, rfl, hb2, hb3⟩ := HC.out k hkl
      have hb4 : wr.cell? ⟨b, off + k, none⟩ = some (.int .i64 (l[k] : Int)) := by rw [HB.out.2.2.1.cell (p := ⟨b, off + k, none⟩) (Ru.lt_of hb2)]; exact hb3
      obtain ⟨x, hx⟩ : ∃ x, l[k] = x := ⟨_, rfl⟩
      have hcall : Hid _ := HP.out.1 wr l[k] (List.getElem_mem hkl) HB.out.2.2.1
      rw [hx] at hb4 hcall
      have HX : Hid (l[k] = x) := hx
      have HO : Hid (wr.ownsRow w.heap.size 53 4 (.slice av k cv) k (Ru.cells qs)) := hown
      clear hb2 hb3 hx hown
      go_wp2_with fail
      refine Calls.mono hcall.out ?_
      rintro e W1 ⟨u1, u2, rfl, I1, I2, BB⟩
      have HI : Hid (Ru.Ints W1 u1 (F x).ne ∧ Ru.Ints W1 u2 (F x).gi ∧ Below wr.heap.size wr W1) := ⟨I1, I2, BB⟩
      obtain ⟨a1, c1, e1, -⟩ := I1
      obtain ⟨a2, c2, e2, -⟩ := I2
      obtain ⟨n1, hn1⟩ : ∃ n, (F x).ne.length = n := ⟨_, rfl⟩
      obtain ⟨n2, hn2⟩ : ∃ n, (F x).gi.length = n := ⟨_, rfl⟩
      rw [hn1] at e1
      rw [hn2] at e2
      obtain ⟨k0, hk0⟩ : ∃ z, (F x).kd = z := ⟨_, rfl⟩
      obtain ⟨k1, hk1⟩ : ∃ z, (F x).nd = z := ⟨_, rfl⟩
      rw [hk0, hk1]
      subst e1 e2
      have HF : Hid ((F x).kd = k0 ∧ (F x).nd = k1) := ⟨hk0, hk1⟩
      have own1 := Ru.own_below HO.out HI.out.2.2
      have hs1 : w.heap.size ≤ W1.heap.size := Nat.le_trans HB.out.2.2.1.size HI.out.2.2.size
      clear hn1 hn2 hk0 hk1 BB hcall
      have hnw : ∀ j u, [Value.int .i64 k0, .int .i64 k1, .slice a1 n1 c1, .slice a2 n2 c2][j]? = some u → (W1.alloc (.cells #[.int .i64 k0, .int .i64 k1, .slice a1 n1 c1, .slice a2 n2 c2] 53)).cell? ((⟨W1.heap.size, 0, none⟩ : Addr).add j) = some u := by
        intro j u hj
        match j, hj with
        | 0, hj => simp at hj; subst hj; simp [Addr.add]
        | 1, hj => simp at hj; subst hj; simp [Addr.add]
        | 2, hj => simp at hj; subst hj; simp [Addr.add]
        | 3, hj => simp at hj; subst hj; simp [Addr.add]
      have hon : ∀ u ∈ [Value.int .i64 k0, .int .i64 k1, .slice a1 n1 c1, .slice a2 n2 c2], u.oneCell' = true := by
        intro u hu
        simp only [List.mem_cons, List.not_mem_nil, or_false] at hu
        rcases hu with rfl | rfl | rfl | rfl <;> rfl
      go_wp2_with (at_builtin; refine wpList_append_own _ rfl _ _ 44 rfl w.heap.size 53 i0 (.agg #[.int .i64 0, .int .i64 0, .slice none 0 0, .slice none 0 0]) 4 64 Tryd.underlying44 hi hz0 hz1 hz2 rfl (by decide) _ _ _ rfl (own1.alloc _) ⟨W1.heap.size, 0, none⟩ 1 1 [.int .i64 k0, .int .i64 k1, .slice a1 n1 c1, .slice a2 n2 c2] rfl rfl hnw hon ?c3 ?c4 ?c5 ?_)
      case c3 => unfold maxLen; omega
      case c4 => omega
      case c5 => simp; omega
      intro v' W2 own2 g2 _
      obtain ⟨a2', c2', rfl⟩ := Rk.own_shape own2
      have hA : Below W1.heap.size W1 (W1.alloc (.cells #[.int .i64 k0, .int .i64 k1, .slice a1 n1 c1, .slice a2 n2 c2] 53)) := (Below.refl _ W1).alloc (Nat.le_refl _) _
      have HN : Hid (∀ q, q ∈ qs ++ [(F x, .slice a1 n1 c1, .slice a2 n2 c2)] → Ru.Ints W2 q.2.1 q.1.ne ∧ Ru.Ints W2 q.2.2 q.1.gi) := fun q hq => by
        rcases List.mem_append.1 hq with hq | hq
        · have := HB.out.2.2.2 q hq
          exact ⟨((this.1.below HI.out.2.2).below hA).grown (by decide) (own1.alloc _) g2, ((this.2.below HI.out.2.2).below hA).grown (by decide) (own1.alloc _) g2⟩
        · simp only [List.mem_cons, List.not_mem_nil, or_false] at hq
          subst hq
          exact ⟨(HI.out.1.below hA).grown (by decide) (own1.alloc _) g2, (HI.out.2.1.below hA).grown (by decide) (own1.alloc _) g2⟩
      have HBB : Hid (Below w.heap.size w W2) := Rk.below_grown ((HB.out.2.2.1.trans (HI.out.2.2.mono HB.out.2.2.1.size)).alloc hs1 _) (by simp; omega) (own1.alloc _) g2
      go_wp2
      go_roundg (gk - 1)
      case measure => omega
      case rel =>
        refine ⟨k + 1, qs ++ [(F x, .slice a1 n1 c1, .slice a2 n2 c2)], by omega, by go_num, ⟨?_, by simp [HB.out.2.1], HBB.out, HN.out⟩, ?_⟩
        · rw [List.map_append, HB.out.1, Tm.take_snoc _ _ hkl, List.map_append, HX.out]
          rfl
        · rw [Ru.cells_append]
          have e : Ru.cells [(F x, Value.slice a1 n1 c1, Value.slice a2 n2 c2)] = [.int .i64 k0, .int .i64 k1, .slice a1 n1 c1, .slice a2 n2 c2] := by simp [Ru.cells, HF.out.1, HF.out.2]
          rw [e]
          exact own2
    · have hd : decide ((k : Int) < n) = false := decide_eq_false (by omega)
      go_wp2
      go_ret
      obtain rfl : k = n := by omega
      refine ⟨_, rfl, ⟨qs, ?_, by rw [HB.out.2.1]; exact hown, HB.out.2.2.2⟩, HB.out.2.2.1⟩
      rw [HB.out.1, List.take_of_length_le (by rw [HP.out.2]; omega)]

end Go.Proofs

namespace Go.Proofs
open Go.RowKit Go.Shelf

/-- A rule of flows by their numbers. -/
def Ru.of (kd : Int) (i : Nat) (ne gi : List Nat) : Ru := ⟨kd, i, ne.map fun n : Nat => (n : Int), gi.map fun n : Nat => (n : Int)⟩
/-- A block that is to hold a rule, zero yet. -/
def Ru.Zero (X : World) (b : Nat) : Prop := X.heap[b]? = some (.cells #[.int .i64 0, .int .i64 0, .slice none 0 0, .slice none 0 0] 53 (0, 0))
theorem Ru.Zero.below {X X' : World} {b : Nat} (h : Ru.Zero X b) (hb : Below X.heap.size X X') : Ru.Zero X' b := by
  unfold Ru.Zero at *
  rw [hb.block _ (Ru.lt_of h)]
  exact h
theorem Ru.ints_one (X : World) (x : Int) : Ru.Ints (X.alloc (.cells #[.int .i64 x] 3)) (.slice (some ⟨X.heap.size, 0, none⟩) 1 1) [x] := by
  refine ⟨some ⟨X.heap.size, 0, none⟩, 1, rfl, fun j hj => ?_⟩
  have hj0 : j = 0 := by simp at hj; exact hj
  subst hj0
  exact ⟨X.heap.size, 0, #[.int .i64 x], (0, 0), rfl, heap_alloc_new X _, by unfold World.cell?; rw [show (⟨X.heap.size, 0 + 0, none⟩ : Addr).block = X.heap.size from rfl, heap_alloc_new X]; rfl⟩
/-- What a call that makes a rule comes to, its shape told. -/
theorem Ru.One.shape {r : Ru} {w w' : World} {e : Ending} (h : Ru.One r w e w') : ∃ a1 n1 c1 a2 n2 c2, e = .returned (.agg #[.int .i64 r.kd, .int .i64 r.nd, .slice a1 n1 c1, .slice a2 n2 c2]) ∧ Hid (Ru.Ints w' (.slice a1 n1 c1) r.ne ∧ Ru.Ints w' (.slice a2 n2 c2) r.gi ∧ Below w.heap.size w w') := by
  obtain ⟨u1, u2, rfl, I1, I2, B⟩ := h
  have J1 := I1
  have J2 := I2
  obtain ⟨a1, c1, rfl, -⟩ := J1
  obtain ⟨a2, c2, rfl, -⟩ := J2
  exact ⟨_, _, _, _, _, _, rfl, I1, I2, B⟩
/-- The answer's block, filled. -/
theorem Ru.ends {r : Ru} {w w0 W : World} {v2 v3 : Value} (hw : w.heap.size ≤ w0.heap.size) (h0 : Below w.heap.size w w0) (hz : Ru.Zero w0 w.heap.size) (hb : Below w0.heap.size w0 W) (h2 : Ru.Ints W v2 r.ne) (h3 : Ru.Ints W v3 r.gi) :
    Ru.One r w (.returned (.agg #[.int .i64 r.kd, .int .i64 r.nd, v2, v3])) (W.setRow w.heap.size #[.int .i64 r.kd, .int .i64 r.nd, v2, v3]) :=
  ⟨_, _, rfl, h2.row (by decide) (hz.below hb) _, h3.row (by decide) (hz.below hb) _, Tk.below_row (h0.trans (hb.mono hw)) (Nat.le_refl _) _⟩

theorem Ru.bset {B : Nat} {a w : World} (h : Below B a w) {b o : Nat} (hb : B ≤ b) (v : Value) : Below B a (w.setCell ⟨b, o, none⟩ v) :=
  h.trans ⟨rfl, rfl, rfl, by simp [World.setCell], fun k hk => Below.heap_setCell _ _ _ _ (by show k ≠ b; omega)⟩
/-- A rule stored cell by cell. -/
def Ru.put4 (X : World) (b : Nat) (v0 v1 v2 v3 : Value) : World := (((X.setCell ⟨b, 0, none⟩ v0).setCell ⟨b, 1, none⟩ v1).setCell ⟨b, 2, none⟩ v2).setCell ⟨b, 3, none⟩ v3
theorem Ru.put4_heap {X : World} {b : Nat} (h : Ru.Zero X b) (v0 v1 v2 v3 : Value) : (Ru.put4 X b v0 v1 v2 v3).heap[b]? = some (.cells #[v0, v1, v2, v3] 53 (0, 0)) := by
  unfold Ru.Zero at h
  simp [Ru.put4, World.setCell, Array.getElem?_modify, h]
theorem Ru.put4_other {X : World} {b k : Nat} (hk : k ≠ b) (v0 v1 v2 v3 : Value) : (Ru.put4 X b v0 v1 v2 v3).heap[k]? = X.heap[k]? := by
  unfold Ru.put4
  rw [Below.heap_setCell _ _ _ _ hk, Below.heap_setCell _ _ _ _ hk, Below.heap_setCell _ _ _ _ hk, Below.heap_setCell _ _ _ _ hk]
theorem Ru.put4_ints {X : World} {b : Nat} (h : Ru.Zero X b) (v0 v1 v2 v3 : Value) {u : Value} {l : List Int} (hu : Ru.Ints X u l) : Ru.Ints (Ru.put4 X b v0 v1 v2 v3) u l :=
  hu.keep fun g cs fr hg => Ru.put4_other (fun e => by
    subst e
    unfold Ru.Zero at h
    rw [h] at hg
    simp only [Option.some.injEq, Obj.cells.injEq] at hg
    exact absurd hg.2.1 (by decide)) ..
theorem Ru.put4_below {X w : World} {B b : Nat} (h : Below B w X) (hb : B ≤ b) (v0 v1 v2 v3 : Value) : Below B w (Ru.put4 X b v0 v1 v2 v3) := Ru.bset (Ru.bset (Ru.bset (Ru.bset h hb _) hb _) hb _) hb _
theorem Ru.zero_cells {X : World} {b : Nat} (h : Ru.Zero X b) : X.cell? ⟨b, 0, none⟩ = some (.int .i64 0) ∧ X.cell? ⟨b, 1, none⟩ = some (.int .i64 0) ∧ X.cell? ⟨b, 2, none⟩ = some (.slice none 0 0) ∧ X.cell? ⟨b, 3, none⟩ = some (.slice none 0 0) ∧ X.frozen? ⟨b, 0, none⟩ = false ∧ X.frozen? ⟨b, 1, none⟩ = false ∧ X.frozen? ⟨b, 2, none⟩ = false ∧ X.frozen? ⟨b, 3, none⟩ = false := by
  unfold Ru.Zero at h
  refine ⟨?_, ?_, ?_, ?_, ?_, ?_, ?_, ?_⟩ <;> simp [World.cell?, World.frozen?, h]

set_option maxRecDepth 20000 in
set_option maxHeartbeats 4000000 in
theorem Tryd.rules2_any (f i : Nat) (bi bs : Nat) (u : Value) (ins : List Nat) (w : World) (hbi : bi < w.heap.size) (hbs : bs < w.heap.size) (ci : w.cell? ⟨bi, 0, none⟩ = some (.int .i64 i)) (cs : w.cell? ⟨bs, 0, none⟩ = some u) (hu : Ru.Ints w u (ins.map fun n : Nat => (n : Int))) (hl : ins.length ≤ 1000) :
    Calls Tryd.prog 72 #[.int .i64 f, .pointer (some ⟨bi, 0, none⟩), .pointer (some ⟨bs, 0, none⟩)] w fun e w' => Ru.One (Ru.of 2 i ins [f]) w e w' := by
  obtain ⟨w1, hw1⟩ : ∃ x, w.alloc (.cells #[.int .i64 0, .int .i64 0, .slice none 0 0, .slice none 0 0] 53) = x := ⟨_, rfl⟩
  obtain ⟨w2, hw2⟩ : ∃ x, w1.alloc (.cells #[.int .i64 f] 3) = x := ⟨_, rfl⟩
  have A1 : Below w.heap.size w w1 := by rw [← hw1]; exact (Below.refl _ w).alloc (Nat.le_refl _) _
  have A2 : Below w1.heap.size w1 w2 := by rw [← hw2]; exact (Below.refl _ w1).alloc (Nat.le_refl _) _
  have Z1 : Ru.Zero w1 w.heap.size := by unfold Ru.Zero; rw [← hw1]; exact heap_alloc_new w _
  have ci1 : w1.cell? ⟨bi, 0, none⟩ = some (.int .i64 i) := by rw [A1.cell (p := ⟨bi, 0, none⟩) hbi]; exact ci
  have cs1 : w1.cell? ⟨bs, 0, none⟩ = some u := by rw [A1.cell (p := ⟨bs, 0, none⟩) hbs]; exact cs
  have I2 : Ru.Ints w2 (.slice (some ⟨w1.heap.size, 0, none⟩) 1 1) ([f].map fun n : Nat => (n : Int)) := by rw [← hw2]; exact Ru.ints_one w1 f
  have hs2 : w1.heap.size ≤ w2.heap.size := A2.size
  have hL : Hid (Calls Tryd.prog 69 #[.int .i64 2, .int .i64 i, u, .slice (some ⟨w1.heap.size, 0, none⟩) 1 1] w2 fun e w' => Ru.One (Ru.of 2 i ins [f]) w2 e w') := Tryd.lay_any 2 i u (.slice (some ⟨w1.heap.size, 0, none⟩) 1 1) _ _ w2 ((hu.below A1).below A2) I2 (by simp; omega) (by simp)
  have HA : Hid (Below w.heap.size w w2 ∧ Ru.Zero w2 w.heap.size) := ⟨A1.trans (A2.mono A1.size), Z1.below A2⟩
  have H1 : Hid (w.alloc (.cells #[.int .i64 0, .int .i64 0, .slice none 0 0, .slice none 0 0] 53) = w1) := hw1
  have H2 : Hid (w1.alloc (.cells #[.int .i64 f] 3) = w2) := hw2
  obtain ⟨ua, uc, rfl, -⟩ := hu
  rw [List.length_map] at cs1 hL
  obtain ⟨n, hn⟩ : ∃ n, ins.length = n := ⟨_, rfl⟩
  rw [hn] at cs1 hL
  rw [List.length_map, hn] at cs
  have hu := Tryd.underlying53
  clear A1 A2 Z1 hw1 hw2 I2 hn hl hbi hbs ci cs
  go_enter Tryd.func72, Tryd.ntmps72
  go_upto_region 1 with fail
  rw [H1.out]
  go_wp2_with fail
  rw [H2.out]
  refine Calls.mono hL.out ?_
  intro e W h
  obtain ⟨a1, n1, c1, a2, n2, c2, rfl, X⟩ := h.shape
  have N2 : Ru.Zero W w.heap.size := HA.out.2.below X.out.2.2
  clear h
  unfold Ru.Zero at N2
  simp only [Ru.of]
  go_wp2_with (refine wpList_store_row rfl 53 _ _ rfl w.heap.size #[.int .i64 2, .int .i64 i, .slice a1 n1 c1, .slice a2 n2 c2] rfl rfl 53 _ N2 (by kernel_rfl) rfl (by kernel_rfl) ?_)
  exact bodyPost_ret (v := .agg #[.int .i64 2, .int .i64 i, .slice a1 n1 c1, .slice a2 n2 c2]) (results_cell_row Tryd.results72 _ _ w.heap.size 53 #[.int .i64 2, .int .i64 i, .slice a1 n1 c1, .slice a2 n2 c2] (0, 0) _ rfl (setRow_heap _ _ _ _ _ _ N2) hu rfl (by kernel_rfl)) rfl (Ru.ends (r := Ru.of 2 i ins [f]) HA.out.1.size HA.out.1 HA.out.2 X.out.2.2 X.out.1 X.out.2.1)


set_option maxRecDepth 20000 in
set_option maxHeartbeats 4000000 in
theorem Tryd.rules3_any (f i : Nat) (bi bs : Nat) (u : Value) (ins : List Nat) (w : World) (hbi : bi < w.heap.size) (hbs : bs < w.heap.size) (ci : w.cell? ⟨bi, 0, none⟩ = some (.int .i64 i)) (cs : w.cell? ⟨bs, 0, none⟩ = some u) (hu : Ru.Ints w u (ins.map fun n : Nat => (n : Int))) (hl : ins.length ≤ 1000) :
    Calls Tryd.prog 73 #[.int .i64 f, .pointer (some ⟨bi, 0, none⟩), .pointer (some ⟨bs, 0, none⟩)] w fun e w' => Ru.One (Ru.of 1 i [f] ins) w e w' := by
  obtain ⟨w1, hw1⟩ : ∃ x, w.alloc (.cells #[.int .i64 0, .int .i64 0, .slice none 0 0, .slice none 0 0] 53) = x := ⟨_, rfl⟩
  obtain ⟨w2, hw2⟩ : ∃ x, w1.alloc (.cells #[.int .i64 f] 3) = x := ⟨_, rfl⟩
  have A1 : Below w.heap.size w w1 := by rw [← hw1]; exact (Below.refl _ w).alloc (Nat.le_refl _) _
  have A2 : Below w1.heap.size w1 w2 := by rw [← hw2]; exact (Below.refl _ w1).alloc (Nat.le_refl _) _
  have Z1 : Ru.Zero w1 w.heap.size := by unfold Ru.Zero; rw [← hw1]; exact heap_alloc_new w _
  have ci1 : w1.cell? ⟨bi, 0, none⟩ = some (.int .i64 i) := by rw [A1.cell (p := ⟨bi, 0, none⟩) hbi]; exact ci
  have cs1 : w1.cell? ⟨bs, 0, none⟩ = some u := by rw [A1.cell (p := ⟨bs, 0, none⟩) hbs]; exact cs
  have I2 : Ru.Ints w2 (.slice (some ⟨w1.heap.size, 0, none⟩) 1 1) ([f].map fun n : Nat => (n : Int)) := by rw [← hw2]; exact Ru.ints_one w1 f
  have hs2 : w1.heap.size ≤ w2.heap.size := A2.size
  have hL : Hid (Calls Tryd.prog 69 #[.int .i64 1, .int .i64 i, .slice (some ⟨w1.heap.size, 0, none⟩) 1 1, u] w2 fun e w' => Ru.One (Ru.of 1 i [f] ins) w2 e w') := Tryd.lay_any 1 i (.slice (some ⟨w1.heap.size, 0, none⟩) 1 1) u _ _ w2 I2 ((hu.below A1).below A2) (by simp) (by simp; omega)
  have HA : Hid (Below w.heap.size w w2 ∧ Ru.Zero w2 w.heap.size) := ⟨A1.trans (A2.mono A1.size), Z1.below A2⟩
  have cs2 : (w1.alloc (.cells #[.int .i64 f] 3)).cell? ⟨bs, 0, none⟩ = some u := by rw [hw2, A2.cell (p := ⟨bs, 0, none⟩) (Nat.lt_of_lt_of_le hbs A1.size)]; exact cs1
  have H1 : Hid (w.alloc (.cells #[.int .i64 0, .int .i64 0, .slice none 0 0, .slice none 0 0] 53) = w1) := hw1
  have H2 : Hid (w1.alloc (.cells #[.int .i64 f] 3) = w2) := hw2
  obtain ⟨ua, uc, rfl, -⟩ := hu
  rw [List.length_map] at cs1 hL cs2
  obtain ⟨n, hn⟩ : ∃ n, ins.length = n := ⟨_, rfl⟩
  rw [hn] at cs1 hL cs2
  rw [List.length_map, hn] at cs
  have hu := Tryd.underlying53
  clear A1 A2 Z1 hw1 hw2 I2 hn hl hbi hbs ci cs
  go_enter Tryd.func73, Tryd.ntmps73
  go_upto_region 1 with fail
  rw [H1.out]
  go_wp2_with fail
  rw [H2.out]
  refine Calls.mono hL.out ?_
  intro e W h
  obtain ⟨a1, n1, c1, a2, n2, c2, rfl, X⟩ := h.shape
  have N2 : Ru.Zero W w.heap.size := HA.out.2.below X.out.2.2
  clear h
  unfold Ru.Zero at N2
  simp only [Ru.of]
  go_wp2_with (refine wpList_store_row rfl 53 _ _ rfl w.heap.size #[.int .i64 1, .int .i64 i, .slice a1 n1 c1, .slice a2 n2 c2] rfl rfl 53 _ N2 (by kernel_rfl) rfl (by kernel_rfl) ?_)
  exact bodyPost_ret (v := .agg #[.int .i64 1, .int .i64 i, .slice a1 n1 c1, .slice a2 n2 c2]) (results_cell_row Tryd.results73 _ _ w.heap.size 53 #[.int .i64 1, .int .i64 i, .slice a1 n1 c1, .slice a2 n2 c2] (0, 0) _ rfl (setRow_heap _ _ _ _ _ _ N2) hu rfl (by kernel_rfl)) rfl (Ru.ends (r := Ru.of 1 i [f] ins) HA.out.1.size HA.out.1 HA.out.2 X.out.2.2 X.out.1 X.out.2.1)


/-- Where a flow leads. -/
def Ru.toAt (fs : List Fl) (f : Nat) : Int := (fs[f]?.map Fl.to).getD 0

set_option maxRecDepth 20000 in
set_option maxHeartbeats 8000000 in
theorem Tryd.rules1_any (f i : Nat) (bi bs bn : Nat) (u : Value) (ins : List Nat) (an : Option Addr) (n cn : Nat) (af : Option Addr) (cf d : Nat) (fs : List Fl) (w : World) (hbi : bi < w.heap.size) (hbs : bs < w.heap.size) (hbn : bn < w.heap.size) (ci : w.cell? ⟨bi, 0, none⟩ = some (.int .i64 i)) (cs : w.cell? ⟨bs, 0, none⟩ = some u)
    (n0 : w.cell? ⟨bn, 0, none⟩ = some (.slice an n cn)) (n1 : w.cell? ⟨bn, 1, none⟩ = some (.slice af fs.length cf)) (hu : Ru.Ints w u (ins.map fun n : Nat => (n : Int))) (hl : ins.length ≤ 1000) (hF : Nt.Fls w w.heap.size d af fs) (hlf : fs.length ≤ 100) (hf : f < fs.length) :
    Calls Tryd.prog 71 #[.int .i64 f, .pointer (some ⟨bi, 0, none⟩), .pointer (some ⟨bs, 0, none⟩), .pointer (some ⟨bn, 0, none⟩)] w fun e w' => Ru.One (Ru.of 3 i ins (Nt.outsL fs (Ru.toAt fs f))) w e w' := by
  obtain ⟨w1, hw1⟩ : ∃ x, w.alloc (.cells #[.int .i64 0, .int .i64 0, .slice none 0 0, .slice none 0 0] 53) = x := ⟨_, rfl⟩
  have A1 : Below w.heap.size w w1 := by rw [← hw1]; exact (Below.refl _ w).alloc (Nat.le_refl _) _
  have Z1 : Ru.Zero w1 w.heap.size := by unfold Ru.Zero; rw [← hw1]; exact heap_alloc_new w _
  obtain ⟨g, off, u', hga, hg, q0, q1, -⟩ := hF f hf
  obtain ⟨t, ht⟩ : ∃ t, fs[f].to = t := ⟨_, rfl⟩
  rw [ht] at q1
  have hta : Ru.toAt fs f = t := by rw [Ru.toAt, List.getElem?_eq_getElem hf]; exact ht
  rw [hta]
  obtain ⟨m, hm⟩ : ∃ m, fs.length = m := ⟨_, rfl⟩
  rw [hm] at n1
  obtain ⟨outs, ho⟩ : ∃ l, Nt.outsL fs t = l := ⟨_, rfl⟩
  rw [ho]
  have hol : outs.length ≤ 100 := by
    rw [← ho, Nt.outsL]
    exact Nat.le_trans (List.length_filter_le _ _) (by rw [List.length_range]; exact hlf)
  obtain ⟨r, hr⟩ : ∃ n, outs.length = n := ⟨_, rfl⟩
  have CO : Hid (∀ W, Below w1.heap.size w1 W → Calls Tryd.prog 29 #[.agg #[.slice an n cn, .slice af m cf], .int .i64 t] W fun e w' => ∃ a c, e = .returned (.slice a r c) ∧ Hid (Below w1.heap.size w1 w' ∧ Ru.Ints w' (.slice a r c) (outs.map fun n : Nat => (n : Int)))) := fun W hb => by
    have hbw : Below w.heap.size w W := A1.trans (hb.mono A1.size)
    have h := Tryd.nOuts_any t an n cn af cf d fs W ((hF.below hbw).wider hbw.size) hlf
    rw [ho, hm] at h
    refine h.mono fun e w' ⟨v, hv, hown, hbb⟩ => ?_
    have hI := Ru.ints_nums hown
    obtain ⟨a, c, rfl, -⟩ := id hI
    rw [List.length_map, hr] at hI hv
    exact ⟨a, c, hv, hb.trans (hbb.mono hb.size), hI⟩
  obtain ⟨ua, uc, hue, -⟩ := id hu
  rw [List.length_map] at hue
  obtain ⟨k, hk⟩ : ∃ n, ins.length = n := ⟨_, rfl⟩
  rw [hk] at hue
  subst hue
  have CL : Hid (∀ (W : World) (a : Option Addr) (c : Nat), Hid (Below w1.heap.size w1 W ∧ Ru.Ints W (.slice a r c) (outs.map fun n : Nat => (n : Int))) → Calls Tryd.prog 69 #[.int .i64 3, .int .i64 i, .slice ua k uc, .slice a r c] W fun e w' => ∃ a1 n1 c1 a2 n2 c2, e = .returned (.agg #[.int .i64 3, .int .i64 i, .slice a1 n1 c1, .slice a2 n2 c2]) ∧ Hid (Ru.Ints w' (.slice a1 n1 c1) (ins.map fun n : Nat => (n : Int)) ∧ Ru.Ints w' (.slice a2 n2 c2) (outs.map fun n : Nat => (n : Int)) ∧ Below w1.heap.size w1 w')) := fun W a c X => by
    have h := Tryd.lay_any 3 i (.slice ua k uc) (.slice a r c) _ _ W ((hu.below A1).below X.out.1) X.out.2 (by simp; omega) (by simp; omega)
    refine h.mono fun e w' h => ?_
    obtain ⟨a1, n1, c1, a2, n2, c2, he, X2⟩ := h.shape
    exact ⟨a1, n1, c1, a2, n2, c2, he, X2.out.1, X2.out.2.1, X.out.1.trans (X2.out.2.2.mono X.out.1.size)⟩
  have CF : Hid (∀ W, Below w.heap.size w W → W.cell? ⟨bi, 0, none⟩ = some (.int .i64 i) ∧ W.cell? ⟨bs, 0, none⟩ = some (.slice ua k uc) ∧ W.cell? ⟨bn, 0, none⟩ = some (.slice an n cn) ∧ W.cell? ⟨bn, 1, none⟩ = some (.slice af m cf) ∧ W.cell? ⟨g, off + f * 6 + 1, none⟩ = some (.int .i64 t)) := fun W hbw => by
    exact ⟨by rw [hbw.cell (p := ⟨bi, 0, none⟩) hbi]; exact ci, by rw [hbw.cell (p := ⟨bs, 0, none⟩) hbs]; exact cs, by rw [hbw.cell (p := ⟨bn, 0, none⟩) hbn]; exact n0, by rw [hbw.cell (p := ⟨bn, 1, none⟩) hbn]; exact n1, by rw [hbw.cell (p := ⟨g, off + f * 6 + 1, none⟩) hg]; exact q1⟩
  have HT : Hid (∀ W, Below w1.heap.size w1 W → Below w.heap.size w W) := fun W hb => A1.trans (hb.mono A1.size)
  have HZ : Hid (∀ W, Below w1.heap.size w1 W → Ru.Zero W w.heap.size) := fun W hb => Z1.below hb
  have HA : Hid (Below w.heap.size w w1 ∧ Ru.Zero w1 w.heap.size) := ⟨A1, Z1⟩
  have H1 : Hid (w.alloc (.cells #[.int .i64 0, .int .i64 0, .slice none 0 0, .slice none 0 0] 53) = w1) := hw1
  have BR : Hid (Below w1.heap.size w1 w1) := Below.refl _ _
  have hf0 : (0 : Int) ≤ f := by omega
  have hfm : (f : Int) < m := by omega
  have huR := Tryd.underlying53
  subst hga
  clear hu hF hw1 A1 Z1 hta ho hm hr hk hol hl hlf hf hbi hbs hbn ci cs n0 n1 q0 q1 hg ht
  go_enter Tryd.func71, Tryd.ntmps71
  go_upto_region 1 with fail
  rw [H1.out]
  go_region_held3 (fun W => W.cell? ⟨bi, 0, none⟩ = some (.int .i64 i) ∧ W.cell? ⟨bs, 0, none⟩ = some (.slice ua k uc) ∧ W.cell? ⟨bn, 0, none⟩ = some (.slice an n cn) ∧ W.cell? ⟨bn, 1, none⟩ = some (.slice (some ⟨g, off, none⟩) m cf) ∧ W.cell? ⟨g, off + f * 6 + 1, none⟩ = some (.int .i64 t))
    (first | exact CF.out _ (Ru.put4_below (HT.out _ X4.out.2.2) (Nat.le_refl _) _ _ _ _) | exact CF.out _ (HT.out _ X4.out.2.2) | exact CF.out _ (HT.out _ X3.out.1) | exact CF.out _ (HT.out _ BR.out.drew) | exact CF.out _ (HT.out _ BR.out))
    (first
      | (go_simp; go_at_call 29; refine Calls.mono (CO.out _ ?_) ?_; (first | exact BR.out | exact BR.out.drew); rintro e W3 ⟨a3, c3, rfl, X3⟩)
      | (go_simp; go_at_call 69; refine Calls.mono (CL.out _ _ _ X3) ?_; rintro e W4 ⟨a1, n1, c1, a2, n2, c2, rfl, X4⟩; obtain ⟨y0, y1, y2, y3, z0, z1, z2, z3⟩ := Ru.zero_cells (HZ.out W4 X4.out.2.2)))
  all_goals
    go_wp2_with fail
    have HN := Ru.put4_heap (HZ.out W4 X4.out.2.2) (.int .i64 3) (.int .i64 i) (.slice a1 n1 c1) (.slice a2 n2 c2)
    exact bodyPost_ret (v := .agg #[.int .i64 3, .int .i64 i, .slice a1 n1 c1, .slice a2 n2 c2]) (results_cell_row Tryd.results71 _ _ w.heap.size 53 #[.int .i64 3, .int .i64 i, .slice a1 n1 c1, .slice a2 n2 c2] (0, 0) _ rfl HN huR rfl (by kernel_rfl)) rfl ⟨_, _, rfl, Ru.put4_ints (HZ.out W4 X4.out.2.2) _ _ _ _ X4.out.1, Ru.put4_ints (HZ.out W4 X4.out.2.2) _ _ _ _ X4.out.2.1, Ru.put4_below (HT.out _ X4.out.2.2) (Nat.le_refl _) _ _ _ _⟩

end Go.Proofs
