import Derived.Test.YtehmmfmofdgheaaDoorIxSingle
import Derived.Test.YtehmmfmofdgheaaDoorTReadS
/-
  infix: terms of one and of two kids in memory; the contract of the reader's ahead, out of row's.
-/
namespace Go.Proofs
open Go.RowKit

theorem Ix.lies_succ {w : World} {P : Nat → Prop} : ∀ {d : Nat} {v : Value} {T : Tm}, Tm.LiesP w P d v T → Tm.LiesP w P (d + 1) v T
  | 0, _, _, h => h.elim
  | d + 1, v, T, h => by
    obtain ⟨a, cap, hv, h⟩ := h
    refine ⟨a, cap, hv, h.elim .inl fun ⟨g, off, ha, hp, hr⟩ => .inr ⟨g, off, ha, hp, fun j hj => ?_⟩⟩
    obtain ⟨u, h0, h1, h2, h3⟩ := hr j hj
    exact ⟨u, h0, h1, h2, Ix.lies_succ h3⟩
theorem Ix.lies_le {w : World} {P : Nat → Prop} {d : Nat} {v : Value} {T : Tm} (h : Tm.LiesP w P d v T) : ∀ k, Tm.LiesP w P (d + k) v T
  | 0 => h
  | k + 1 => Ix.lies_succ (Ix.lies_le h k)
theorem Ix.lies_max {w : World} {P : Nat → Prop} {d e : Nat} {v u : Value} {T U : Tm} (h : Tm.LiesP w P d v T) (k : Tm.LiesP w P e u U) : ∃ m, Tm.LiesP w P m v T ∧ Tm.LiesP w P m u U :=
  ⟨d + e, Ix.lies_le h e, by rw [Nat.add_comm]; exact Ix.lies_le k d⟩
theorem Ix.cell3 {w : World} {g : Nat} {cs : Array Value} {t : TypeId} {fz : Nat × Nat} (h : w.heap[g]? = some (.cells cs t fz)) (k : Nat) : w.cell? ⟨g, k, none⟩ = cs[k]? := by
  simp [World.cell?, h]
/-- A term of one kid. -/
theorem Ix.lies1 {w : World} {P : Nat → Prop} {d g : Nat} {v : Value} {T : Tm} {o : Int} {t : TypeId} {fz : Nat × Nat} (hg : w.heap[g]? = some (.cells #[.int .i64 T.op, .int .i64 T.num, v] t fz)) (hp : P g) (h : Tm.LiesP w P d v T) : Tm.LiesP w P (d + 1) (.slice (some ⟨g, 0, none⟩) 1 1) (.mk o 0 [T]) := by
  refine ⟨_, _, rfl, .inr ⟨g, 0, rfl, hp, fun j hj => ?_⟩⟩
  obtain rfl : j = 0 := by simp [Tm.ks] at hj; exact hj
  exact ⟨v, by rw [Ix.cell3 hg]; rfl, by rw [Ix.cell3 hg]; rfl, by rw [Ix.cell3 hg]; rfl, h⟩
/-- A term of two kids. -/
theorem Ix.lies2 {w : World} {P : Nat → Prop} {d g : Nat} {v u : Value} {T U : Tm} {o : Int} {t : TypeId} {fz : Nat × Nat} (hg : w.heap[g]? = some (.cells #[.int .i64 T.op, .int .i64 T.num, v, .int .i64 U.op, .int .i64 U.num, u] t fz)) (hp : P g) (h : Tm.LiesP w P d v T) (k : Tm.LiesP w P d u U) : Tm.LiesP w P (d + 1) (.slice (some ⟨g, 0, none⟩) 2 2) (.mk o 0 [T, U]) := by
  refine ⟨_, _, rfl, .inr ⟨g, 0, rfl, hp, fun j hj => ?_⟩⟩
  have hj2 : j < 2 := hj
  obtain rfl | rfl : j = 0 ∨ j = 1 := by omega
  · exact ⟨v, by rw [Ix.cell3 hg]; rfl, by rw [Ix.cell3 hg]; rfl, by rw [Ix.cell3 hg]; rfl, h⟩
  · exact ⟨u, by rw [Ix.cell3 hg]; rfl, by rw [Ix.cell3 hg]; rfl, by rw [Ix.cell3 hg]; rfl, k⟩

theorem Ix.head_mem {r : Nat} {l : List Ix.K} {o : Ix.Op} {l' : List Ix.K} (h : Ix.opHead r l = some (o, l')) : o ∈ Ix.ops ∧ o.row = r ∧ 1 ≤ l.length ∧ l' = l.drop 1 := by
  cases l with
  | nil => cases h
  | cons k l =>
    simp only [Ix.opHead, Ix.findO, Option.map_eq_some_iff] at h
    obtain ⟨o', ho, he⟩ := h
    obtain ⟨rfl, rfl⟩ := Prod.mk.inj he
    have h1 := List.mem_of_find?_eq_some ho
    have h2 := List.find?_some ho
    simp only [Bool.and_eq_true, beq_iff_eq] at h2
    exact ⟨h1, h2.1, by simp, rfl⟩
/-- What stands ahead swaps nothing and denies nothing. -/
theorem Ix.head_one {r : Nat} (hr : r = 3 ∨ r = 7) {o : Ix.Op} (h : o ∈ Ix.ops) (ho : o.row = r) : o.sw = false ∧ o.de = false := by
  unfold Ix.ops at h
  simp only [List.mem_cons, List.not_mem_nil, or_false] at h
  rcases h with rfl | rfl | rfl | rfl | rfl | rfl | rfl | rfl | rfl | rfl | rfl | rfl | rfl | rfl | rfl <;> first | exact ⟨rfl, rfl⟩ | (simp only at ho; omega)

/-- An operator ahead. -/
def Ix.oneR (o : Ix.Op) : Ix.Res → Ix.Res
  | .error b => .error b
  | .ok (T, l2) => .ok (Ix.make1 o T, l2)
theorem Ix.row_ahead (n r : Nat) (l : List Ix.K) (hr : r = 3 ∨ r = 7) : Ix.row (n + 1) r l = match Ix.opHead r l with
    | some (o, l') => Ix.oneR o (Ix.row n r l')
    | none => Ix.row n (r + 1) l := by
  rw [Ix.row, if_neg (by omega), if_pos hr]
  cases Ix.opHead r l with
  | none => rfl
  | some p =>
    obtain ⟨o, l'⟩ := p
    simp only
    cases Ix.row n r l' <;> rfl

set_option maxHeartbeats 8000000 in
set_option maxRecDepth 20000 in
theorem Tryd.ahead_of (n : Nat) (hC : Ix.RowC n) (B b r : Nat) (l : List Ix.Tok) (w : World) (h : Ix.At B b l w) (hE : Ix.Env B w) (hG : Ix.Good l) (hr : r = 3 ∨ r = 7) (hn : 9 * l.length + 9 - r < n + 1) :
    Calls Tryd.prog 39 #[.pointer (some ⟨b, 0, none⟩), .int .i64 r] w fun e w' => Ix.Told B b l (Ix.row (n + 1) r (l.map Ix.kt)) w e w' := by
  obtain ⟨w0, hw0⟩ : ∃ x, w.alloc (.cells #[.int .i64 0, .int .i64 0, .slice none 0 0] 37) = x := ⟨_, rfl⟩
  have HW0 : Hid (w.alloc (.cells #[.int .i64 0, .int .i64 0, .slice none 0 0] 37) = w0) := hw0
  have HB0 : Hid (Below w.heap.size w w0) := by rw [← hw0]; exact (Below.refl _ w).alloc (Nat.le_refl _) _
  have HS0 : Hid (w0.heap.size = w.heap.size + 1) := by show _ = _; rw [← hw0]; simp
  have HN0 : Hid (w0.heap[w.heap.size]? = some (.cells #[.int .i64 0, .int .i64 0, .slice none 0 0] 37 (0, 0))) := by rw [← hw0]; exact heap_alloc_new w _
  have HE0 : Hid (Ix.Env B w0) := hE.below HB0.out
  have HLT : Hid (b < w.heap.size ∧ B ≤ b) := ⟨h.lt, h.base⟩
  have H1 : Hid (Calls Tryd.prog 61 #[.pointer (some ⟨b, 0, none⟩), .int .i64 r] w0 fun e w' => Ix.Opd B b r l w0 e w') := Tryd.operator_any B b r l w0 (h.below HB0.out) HE0.out.tabs (by omega)
  have HRS : Hid (Ix.row (n + 1) r (l.map Ix.kt) = match Ix.opHead r (l.map Ix.kt) with
      | some (o, l') => Ix.oneR o (Ix.row n r l')
      | none => Ix.row n (r + 1) (l.map Ix.kt)) := Ix.row_ahead n r _ hr
  obtain ⟨rs, hrs⟩ : ∃ z, Ix.row (n + 1) r (l.map Ix.kt) = z := ⟨_, rfl⟩
  rw [hrs] at HRS ⊢
  have HC1 : Hid (∀ W, Ix.At B b l W → Ix.Env B W → Calls Tryd.prog 24 #[.pointer (some ⟨b, 0, none⟩), .int .i64 ((r : Int) + 1)] W fun e w' => Ix.Told B b l (Ix.row n (r + 1) (l.map Ix.kt)) W e w') := fun W hA hEW => hC B b (r + 1) l W hA hEW hG (by omega) (by omega) (by omega)
  have HC2 : Hid (1 ≤ l.length → ∀ W, Ix.At B b (l.drop 1) W → Ix.Env B W → Calls Tryd.prog 24 #[.pointer (some ⟨b, 0, none⟩), .int .i64 r] W fun e w' => Ix.Told B b (l.drop 1) (Ix.row n r ((l.drop 1).map Ix.kt)) W e w') := fun h1 W hA hEW => hC B b r (l.drop 1) W hA hEW (hG.drop 1) (by omega) (by omega) (by rw [List.length_drop]; omega)
  have HL : Hid (∀ W, Ix.Env B W → Calls Tryd.prog 62 #[.int .i64 r, .int .i64 0] W fun e w' => e = .returned (.int .i64 r) ∧ w' = W) := fun W hEW => by
    have := Tryd.least_any r 0 W hEW.tabs (by omega) (by omega) (by omega)
    rw [show Ix.leastR r 0 = r by unfold Ix.leastR; rw [if_pos (by omega)]] at this
    exact this
  have HRR : Hid (r = 3 ∨ r = 7) := hr
  have hr8 : r ≤ 7 := by omega
  clear hw0 h hE hG hn hC hr hrs
  go_enter Tryd.func39, Tryd.ntmps39
  go_upto_region 1 with fail
  rw [HW0.out]
  go_wp2_with fail
  refine Calls.mono H1.out ?_
  rintro e W1 ⟨b1, hop⟩
  have BT1 : Hid (Tk.But (fun k => k = b) w W1) := (Tk.But.of_below HB0.out).trans b1
  have N1 : Hid (W1.heap[w.heap.size]? = some (.cells #[.int .i64 0, .int .i64 0, .slice none 0 0] 37 (0, 0))) := (b1.block _ (by rw [HS0.out]; omega) (by have := HLT.out.1; omega)).trans HN0.out
  have E1 : Hid (Ix.Env B W1) := HE0.out.but b1 HLT.out.2
  have S1 : Hid (w.heap.size < W1.heap.size) := (Array.getElem?_eq_some_iff.1 N1.out).1
  clear b1 H1
  cases hq : Ix.opHead r (l.map Ix.kt) with
  | none =>
    rw [hq] at hop HRS
    simp only [Ix.opZero] at hop
    obtain ⟨rfl, hA⟩ := hop
    have HA1 : Hid (Ix.At B b l W1) := hA
    have HR2 : Hid (rs = Ix.row n (r + 1) (l.map Ix.kt)) := HRS.out
    obtain ⟨W2, hW2⟩ : ∃ z, W1.alloc (.cells #[.int .i64 0, .string ⟨#[]⟩, .int .i64 0, .bool false, .bool false] 88) = z := ⟨_, rfl⟩
    have HW2 : Hid (W1.alloc (.cells #[.int .i64 0, .string ⟨#[]⟩, .int .i64 0, .bool false, .bool false] 88) = W2) := hW2
    have B2 : Hid (Below W1.heap.size W1 W2) := by rw [← hW2]; exact (Below.refl _ W1).alloc (Nat.le_refl _) _
    have HC3 : Hid _ := HC1.out W2 (HA1.out.below B2.out) (E1.out.below B2.out)
    obtain ⟨r1, hr1⟩ : ∃ z, Ix.row n (r + 1) (l.map Ix.kt) = z := ⟨_, rfl⟩
    rw [hr1] at HC3 HR2
    clear hA hq HRS hr1 hW2 HC1 HC2
    go_upto_region 3 with fail
    rw [HW2.out]
    go_wp2_with fail
    refine Calls.mono HC3.out ?_
    rintro e W3 ⟨o3, m3, a3, len3, cap3, rfl, b3, hl3⟩
    have hs2 := B2.out.size
    have hbl := HLT.out.1
    have hs1 := S1.out
    have N3 : Hid (W3.heap[w.heap.size]? = some (.cells #[.int .i64 0, .int .i64 0, .slice none 0 0] 37 (0, 0))) := (b3.block _ (by omega) (by omega)).trans ((B2.out.block _ (by omega)).trans N1.out)
    have BT3 : Hid (Tk.But (fun k => k = b) w W3) := (BT1.out.trans (Tk.But.of_below B2.out)).trans b3
    have HL3 : Hid (Ix.Left B b l W2 o3 m3 (.slice a3 len3 cap3) W3 r1) := hl3
    have HS3 : Hid (W2.heap.size ≤ W3.heap.size) := b3.size
    obtain ⟨⟨x0, x1, x2⟩, y0, y1, y2⟩ := Tk.row3 N3.out
    obtain ⟨ob, hob⟩ : ∃ z, Ix.okB r1 = z := ⟨_, rfl⟩
    have HOB : Hid (Ix.okB r1 = ob) := hob
    rw [hob]
    clear b3 hl3 hob hs2 hbl hs1
    go_wp2
    refine bodyPost_ret (Tk.results_term Tryd.results39 _ _ w.heap.size _ _ _ rfl (Tk.put3 N3.out)) rfl ?_
    rw [HR2.out]
    refine ⟨o3, m3, a3, len3, cap3, by rw [HOB.out]; rfl, Ix.but3 BT3.out _ (Nat.le_refl _) _ _ _, ?_⟩
    exact Ix.left_set HL3.out HLT.out.1 (by have := B2.out.size; have := S1.out; omega) (by have := B2.out.size; have := S1.out; omega)
  | some p =>
    obtain ⟨o, l'⟩ := p
    rw [hq] at hop HRS
    obtain ⟨hmem, hrow, hlen, hl'⟩ := Ix.head_mem hq
    rw [List.length_map] at hlen
    obtain ⟨hsw, hde⟩ := Ix.head_one HRR.out hmem hrow
    obtain ⟨orow, otx, oop, osw, ode⟩ := o
    simp only at hsw hde hrow
    subst hsw hde hrow
    simp only [Ix.opRow] at hop
    obtain ⟨rfl, hA⟩ := hop
    have HA1 : Hid (Ix.At B b (l.drop 1) W1) := hA
    subst hl'
    rw [← List.map_drop] at HRS
    obtain ⟨tx, htx⟩ : ∃ s : ByteArray, s = ⟨otx.toArray⟩ := ⟨_, rfl⟩
    rw [← htx]
    obtain ⟨W2, hW2⟩ : ∃ z, W1.alloc (.cells #[.int .i64 orow, .string tx, .int .i64 oop, .bool false, .bool false] 88) = z := ⟨_, rfl⟩
    have HW2 : Hid (W1.alloc (.cells #[.int .i64 orow, .string tx, .int .i64 oop, .bool false, .bool false] 88) = W2) := hW2
    have B2 : Hid (Below W1.heap.size W1 W2) := by rw [← hW2]; exact (Below.refl _ W1).alloc (Nat.le_refl _) _
    have D2 : Hid (W2.heap[W1.heap.size]? = some (.cells #[.int .i64 orow, .string tx, .int .i64 oop, .bool false, .bool false] 88 (0, 0))) := by rw [← hW2]; exact heap_alloc_new W1 _
    have E2 : Hid (Ix.Env B W2) := E1.out.below B2.out
    have HC3 : Hid _ := HC2.out hlen W2 (HA1.out.below B2.out) E2.out
    have HLE : Hid (1 ≤ l.length) := hlen
    obtain ⟨r1, hr1⟩ : ∃ z, Ix.row n orow ((l.drop 1).map Ix.kt) = z := ⟨_, rfl⟩
    have HR2 : Hid (rs = Ix.oneR ⟨orow, otx, oop, false, false⟩ r1) := by show _ = _; rw [← hr1]; exact HRS.out
    rw [hr1] at HC3
    have HLL : Hid _ := HL.out W2 E2.out
    clear hA hq HRS hr1 hW2 HC1 HC2 hmem htx hlen HL
    go_upto_region 4 with fail
    rw [HW2.out]
    go_wp2_with fail
    refine Calls.mono HLL.out ?_
    rintro e W3 ⟨rfl, hW⟩
    obtain rfl := hW.symm
    clear hW
    go_wp2_with fail
    refine Calls.mono HC3.out ?_
    rintro e W4 ⟨o3, m3, a3, len3, cap3, rfl, b3, hl3⟩
    have hs2 := B2.out.size
    have hbl := HLT.out.1
    have hs1 := S1.out
    have hlt2 := (Array.getElem?_eq_some_iff.1 D2.out).1
    have N4 : Hid (W4.heap[w.heap.size]? = some (.cells #[.int .i64 0, .int .i64 0, .slice none 0 0] 37 (0, 0))) := (b3.block _ (by omega) (by omega)).trans ((B2.out.block _ (by omega)).trans N1.out)
    have D4 : Hid (W4.heap[W1.heap.size]? = some (.cells #[.int .i64 orow, .string tx, .int .i64 oop, .bool false, .bool false] 88 (0, 0))) := (b3.block _ hlt2 (by omega)).trans D2.out
    have BT4 : Hid (Tk.But (fun k => k = b) w W4) := (BT1.out.trans (Tk.But.of_below B2.out)).trans b3
    have HL4 : Hid (Ix.Left B b (l.drop 1) W2 o3 m3 (.slice a3 len3 cap3) W4 r1) := hl3
    have HS4 : Hid (W2.heap.size ≤ W4.heap.size ∧ w.heap.size < W2.heap.size) := ⟨b3.size, by omega⟩
    obtain ⟨ob, hob⟩ : ∃ z, Ix.okB r1 = z := ⟨_, rfl⟩
    have HOB : Hid (Ix.okB r1 = ob) := hob
    rw [hob]
    clear b3 hl3 hob hs2 hbl hs1 hlt2
    -- the kid's own cell, then the row of one
    obtain ⟨W5, hW5⟩ : ∃ z, W4.alloc (.cells #[.int .i64 o3, .int .i64 m3, .slice a3 len3 cap3] 37) = z := ⟨_, rfl⟩
    have HW5 : Hid (W4.alloc (.cells #[.int .i64 o3, .int .i64 m3, .slice a3 len3 cap3] 37) = W5) := hW5
    have B5 : Hid (Below W4.heap.size W4 W5 ∧ W5.heap.size = W4.heap.size + 1) := by rw [← hW5]; exact ⟨(Below.refl _ W4).alloc (Nat.le_refl _) _, by simp⟩
    have K5 : Hid (W5.heap[W4.heap.size]? = some (.cells #[.int .i64 o3, .int .i64 m3, .slice a3 len3 cap3] 37 (0, 0))) := by rw [← hW5]; exact heap_alloc_new W4 _
    have D5 : Hid (W5.heap[W1.heap.size]? = some (.cells #[.int .i64 orow, .string tx, .int .i64 oop, .bool false, .bool false] 88 (0, 0))) := (B5.out.1.block _ (Array.getElem?_eq_some_iff.1 D4.out).1).trans D4.out
    have N5 : Hid (W5.heap[w.heap.size]? = some (.cells #[.int .i64 0, .int .i64 0, .slice none 0 0] 37 (0, 0))) := (B5.out.1.block _ (Array.getElem?_eq_some_iff.1 N4.out).1).trans N4.out
    obtain ⟨⟨z0, z1, z2, z3, z4⟩, -⟩ := Ix.row5 D5.out
    obtain ⟨⟨x0, x1, x2⟩, -⟩ := Tk.row3 K5.out
    obtain ⟨W6, hW6⟩ : ∃ z, W5.alloc (.cells #[.int .i64 o3, .int .i64 m3, .slice a3 len3 cap3] 37) = z := ⟨_, rfl⟩
    have HW6 : Hid (W5.alloc (.cells #[.int .i64 o3, .int .i64 m3, .slice a3 len3 cap3] 37) = W6) := hW6
    have B6 : Hid (Below W5.heap.size W5 W6 ∧ W6.heap.size = W5.heap.size + 1) := by rw [← hW6]; exact ⟨(Below.refl _ W5).alloc (Nat.le_refl _) _, by simp⟩
    have G6 : Hid (W6.heap[W5.heap.size]? = some (.cells #[.int .i64 o3, .int .i64 m3, .slice a3 len3 cap3] 37 (0, 0))) := by rw [← hW6]; exact heap_alloc_new W5 _
    have H6 : Hid _ := Tryd.of_one orow oop tx (some ⟨W5.heap.size, 0, none⟩) 1 1 W6
    clear hW5 hW6
    go_upto_region 5 with fail
    rw [HW5.out]
    go_wp2_with fail
    rw [HW6.out]
    refine Calls.mono H6.out ?_
    rintro e W7 ⟨rfl, b7⟩
    have B7 : Hid (Below W4.heap.size W4 W7) := (B5.out.1.trans (B6.out.1.mono B5.out.1.size)).trans (b7.mono (by have := B5.out.2; have := B6.out.2; omega))
    have N7 : Hid (W7.heap[w.heap.size]? = some (.cells #[.int .i64 0, .int .i64 0, .slice none 0 0] 37 (0, 0))) := (B7.out.block _ (Array.getElem?_eq_some_iff.1 N4.out).1).trans N4.out
    have G7 : Hid (W7.heap[W5.heap.size]? = some (.cells #[.int .i64 o3, .int .i64 m3, .slice a3 len3 cap3] 37 (0, 0))) := (b7.block _ (Array.getElem?_eq_some_iff.1 G6.out).1).trans G6.out
    have S7 : Hid (W5.heap.size < W7.heap.size ∧ W5.heap.size = W4.heap.size + 1) := ⟨(Array.getElem?_eq_some_iff.1 G7.out).1, B5.out.2⟩
    obtain ⟨⟨t0, t1, t2⟩, s0, s1, s2⟩ := Tk.row3 N7.out
    clear b7
    go_wp2
    refine bodyPost_ret (Tk.results_term Tryd.results39 _ _ w.heap.size _ _ _ rfl (Tk.put3 N7.out)) rfl ?_
    have hBB : Tk.But (fun k => k = b) w W7 := BT4.out.trans (Tk.But.of_below B7.out)
    have hS4 := HS4.out
    have hS7 := S7.out
    have hLE := HLE.out
    have hob := HOB.out
    have hlb := HLT.out.1
    refine ⟨oop, 0, some ⟨W5.heap.size, 0, none⟩, 1, 1, ?_, Ix.but3 hBB _ (Nat.le_refl _) _ _ _, ?_⟩
    · rw [HR2.out]
      cases r1 with
      | error r => rw [← hob]; rfl
      | ok p => rw [← hob]; rfl
    · rw [HR2.out]
      have hl4 := HL4.out
      cases r1 with
      | error r =>
        obtain ⟨k, h1, h2, h3⟩ := hl4
        refine ⟨k + 1, by rw [List.length_drop] at h1; omega, by rw [h2, List.drop_drop, Nat.add_comm], ?_⟩
        rw [List.drop_drop, Nat.add_comm] at h3
        exact Ix.set3_at _ _ _ _ (h3.below B7.out) hlb
      | ok p =>
        obtain ⟨T, r⟩ := p
        obtain ⟨k, h1, h2, h3, h4, h5, d, h6⟩ := hl4
        refine ⟨k + 1, by rw [List.length_drop] at h1; omega, by rw [h2, List.drop_drop, Nat.add_comm], ?_, rfl, rfl, d + 1, ?_⟩
        · rw [List.drop_drop, Nat.add_comm] at h3
          exact Ix.set3_at _ _ _ _ (h3.below B7.out) hlb
        · have g7 := G7.out
          rw [h4, h5] at g7
          have hP : Tm.LiesP W7 (fun j => w.heap.size < j ∧ j < W7.heap.size) d (.slice a3 len3 cap3) T :=
            ((h6.keep fun j _ hj => B7.out.block j hj).toP fun j hj1 hj2 => ⟨by omega, by omega⟩)
          have h9 := Ix.lies1 (o := oop) (P := fun j => w.heap.size < j ∧ j < W7.heap.size) g7 ⟨by omega, by omega⟩ hP
          exact (h9.keep (w' := ((W7.setCell ⟨w.heap.size, 0, none⟩ _).setCell ⟨w.heap.size, 1, none⟩ _).setCell ⟨w.heap.size, 2, none⟩ _) (Q := fun j => w.heap.size < j ∧ j < W7.heap.size) (fun j hj => Ix.set3_other W7 w.heap.size (by omega)) (fun _ h => h)).toIn fun j hj => ⟨by omega, by simp [World.setCell]; omega⟩

end Go.Proofs

/-
  infix: the contract of the reader's between, out of row's.
-/
namespace Go.Proofs
open Go.RowKit

theorem Ix.row_between (n r : Nat) (l : List Ix.K) (h3 : r ≠ 3) (h7 : r ≠ 7) (h8 : r ≠ 8) : Ix.row (n + 1) r l = match Ix.row n (r + 1) l with
    | .error b => .error b
    | .ok (T, l2) => Ix.loop (Ix.row n (r + 1)) r l2.length T l2 := by
  rw [Ix.row, if_neg h8, if_neg (by omega)]
  cases Ix.row n (r + 1) l <;> rfl
/-- How it goes on. -/
def Ix.Bt (f : List Ix.K → Ix.Res) (r : Nat) (rs : Ix.Res) (T : Tm) (l' : List Ix.K) (ob : Bool) : Prop := if ob = true then ∃ m, Ix.loop f r m T l' = rs ∧ l'.length ≤ m else rs = .error l'
theorem Ix.Bt.none {f : List Ix.K → Ix.Res} {r : Nat} {rs : Ix.Res} {T : Tm} {l' : List Ix.K} (h : Ix.Bt f r rs T l' true) (hq : Ix.opHead r l' = none) : rs = .ok (T, l') := by
  obtain ⟨m, h1, h2⟩ := h
  rw [← h1]
  cases m with
  | zero => rfl
  | succ m => rw [Ix.loop, hq]
def Ix.twoR (o : Ix.Op) (T : Tm) : Ix.Res → Ix.Res
  | .error b => .error b
  | .ok (U, l2) => .ok (Ix.make o T U, l2)
theorem Ix.Bt.once {f : List Ix.K → Ix.Res} {rs : Ix.Res} {T : Tm} {l' l2 : List Ix.K} {o : Ix.Op} (h : Ix.Bt f 4 rs T l' true) (hq : Ix.opHead 4 l' = some (o, l2)) : rs = Ix.twoR o T (f l2) := by
  obtain ⟨m, h1, h2⟩ := h
  rw [← h1]
  cases m with
  | zero => obtain ⟨_, _, h3, _⟩ := Ix.head_mem hq; omega
  | succ m =>
    rw [Ix.loop, hq]
    simp only
    cases f l2 with
    | error b => rfl
    | ok p => obtain ⟨U, l3⟩ := p; rfl
theorem Ix.Bt.step {f : List Ix.K → Ix.Res} {r : Nat} {rs : Ix.Res} {T U : Tm} {l' l2 l3 : List Ix.K} {o : Ix.Op} (h : Ix.Bt f r rs T l' true) (hr : r ≠ 4) (hq : Ix.opHead r l' = some (o, l2)) (hf : f l2 = .ok (U, l3)) (hl : l3.length ≤ l2.length) : Ix.Bt f r rs (Ix.make o T U) l3 true := by
  obtain ⟨m, h1, h2⟩ := h
  obtain ⟨_, _, h3, h4⟩ := Ix.head_mem hq
  cases m with
  | zero => omega
  | succ m =>
    rw [Ix.loop, hq] at h1
    simp only [hf, if_neg hr] at h1
    refine ⟨m, h1, ?_⟩
    rw [h4, List.length_drop] at hl
    omega
theorem Ix.Bt.err {f : List Ix.K → Ix.Res} {r : Nat} {rs : Ix.Res} {T T' : Tm} {l' l2 l3 : List Ix.K} {o : Ix.Op} (h : Ix.Bt f r rs T l' true) (hq : Ix.opHead r l' = some (o, l2)) (hf : f l2 = .error l3) : Ix.Bt f r rs T' l3 false := by
  obtain ⟨m, h1, h2⟩ := h
  cases m with
  | zero => obtain ⟨_, _, h3, _⟩ := Ix.head_mem hq; omega
  | succ m =>
    rw [Ix.loop, hq] at h1
    simp only [hf] at h1
    exact h1.symm

/-- What of makes lies there. -/
theorem Ix.made {W : World} {P : Nat → Prop} {g : Nat} {o : Ix.Op} {T U : Tm} {v u : Value} {e : Ending} {W6 : World} (h : Ix.Of2 g o.op o.sw o.de #[.int .i64 T.op, .int .i64 T.num, v] #[.int .i64 U.op, .int .i64 U.num, u] W6 e W) (hg : P g) (hP : ∀ j, W6.heap.size ≤ j → j < W.heap.size → P j)
    (hT : ∃ d, Tm.LiesP W P d v T) (hU : ∃ d, Tm.LiesP W P d u U) : ∃ (a : Option Addr) (n : Nat), e = .returned (.agg #[.int .i64 (Ix.make o T U).op, .int .i64 0, .slice a n n]) ∧ (0 : Int) = (Ix.make o T U).num ∧ ∃ d, Tm.LiesP W P d (.slice a n n) (Ix.make o T U) := by
  obtain ⟨d1, hT⟩ := hT
  obtain ⟨d2, hU⟩ := hU
  obtain ⟨d, hT, hU⟩ := Ix.lies_max hT hU
  obtain ⟨-, h2, h3, h4⟩ := h
  have hk : Tm.LiesP W P (d + 1) (.slice (some ⟨g, 0, none⟩) 2 2) (.mk o.op 0 (if o.sw then [U, T] else [T, U])) := by
    cases hs : o.sw with
    | true => rw [hs] at h2; exact Ix.lies2 h2 hg hU hT
    | false => rw [hs] at h2; exact Ix.lies2 h2 hg hT hU
  unfold Ix.make
  cases hd : o.de with
  | false => exact ⟨_, _, h3 hd, rfl, d + 1, hk⟩
  | true =>
    obtain ⟨q, q1, q2, q3⟩ := h4 hd
    exact ⟨_, _, q3, rfl, d + 2, Ix.lies1 (T := .mk o.op 0 (if o.sw then [U, T] else [T, U])) q2 (hP q q1 (Array.getElem?_eq_some_iff.1 q2).1) hk⟩
theorem Ix.made_some {W : World} {g : Nat} {o : Int} {sw de : Bool} {xs ys : Array Value} {e : Ending} {W6 : World} (h : Ix.Of2 g o sw de xs ys W6 e W) : ∃ (o' : Int) (a : Option Addr) (n : Nat), e = .returned (.agg #[.int .i64 o', .int .i64 0, .slice a n n]) := by
  cases de with
  | false => exact ⟨_, _, _, h.plain rfl⟩
  | true => obtain ⟨q, _, _, h⟩ := h.denied rfl; exact ⟨_, _, _, h⟩

/-- between while it goes. -/
structure Ix.BtW (B b q : Nat) (l : List Ix.Tok) (k : Nat) (T : Tm) (o6 m6 : Int) (v6 : Value) (ob : Bool) (w W : World) : Prop where
  but : Tk.But (fun k => k = b) w W
  at_ : Ix.At B b (l.drop k) W
  res : W.heap[w.heap.size]? = some (.cells #[.int .i64 0, .int .i64 0, .slice none 0 0] 37 (0, 0))
  cur : W.heap[q]? = some (.cells #[.int .i64 o6, .int .i64 m6, v6] 37 (0, 0))
  kle : k ≤ l.length
  env : Ix.Env B W
  lies : ob = true → o6 = T.op ∧ m6 = T.num ∧ ∃ d, Tm.LiesP W (fun j => w.heap.size < j ∧ j ≠ q ∧ j < W.heap.size) d v6 T

set_option maxHeartbeats 8000000 in
set_option maxRecDepth 20000 in
theorem Tryd.between_of (n : Nat) (hC : Ix.RowC n) (B b r : Nat) (l : List Ix.Tok) (w : World) (h : Ix.At B b l w) (hE : Ix.Env B w) (hG : Ix.Good l) (hr : r = 1 ∨ r = 2 ∨ r = 4 ∨ r = 5 ∨ r = 6) (hn : 9 * l.length + 9 - r < n + 1) :
    Calls Tryd.prog 40 #[.pointer (some ⟨b, 0, none⟩), .int .i64 r] w fun e w' => Ix.Told B b l (Ix.row (n + 1) r (l.map Ix.kt)) w e w' := by
  obtain ⟨w0, hw0⟩ : ∃ x, w.alloc (.cells #[.int .i64 0, .int .i64 0, .slice none 0 0] 37) = x := ⟨_, rfl⟩
  have HW0 : Hid (w.alloc (.cells #[.int .i64 0, .int .i64 0, .slice none 0 0] 37) = w0) := hw0
  have HB0 : Hid (Below w.heap.size w w0) := by rw [← hw0]; exact (Below.refl _ w).alloc (Nat.le_refl _) _
  have HS0 : Hid (w0.heap.size = w.heap.size + 1) := by show _ = _; rw [← hw0]; simp
  have HN0 : Hid (w0.heap[w.heap.size]? = some (.cells #[.int .i64 0, .int .i64 0, .slice none 0 0] 37 (0, 0))) := by rw [← hw0]; exact heap_alloc_new w _
  have HE0 : Hid (Ix.Env B w0) := hE.below HB0.out
  have HEW : Hid (Ix.Env B w) := hE
  have HLT : Hid (b < w.heap.size ∧ B ≤ b) := ⟨h.lt, h.base⟩
  obtain ⟨f, hf⟩ : ∃ f, Ix.row n (r + 1) = f := ⟨_, rfl⟩
  have HRS : Hid (Ix.row (n + 1) r (l.map Ix.kt) = match f (l.map Ix.kt) with
    | .error b => .error b
    | .ok (T, l2) => Ix.loop f r l2.length T l2) := by show _ = _; rw [Ix.row_between n r _ (by omega) (by omega) (by omega), hf]
  obtain ⟨rs, hrs⟩ : ∃ z, Ix.row (n + 1) r (l.map Ix.kt) = z := ⟨_, rfl⟩
  rw [hrs] at HRS ⊢
  have HC : Hid (∀ k W, k ≤ l.length → Ix.At B b (l.drop k) W → Ix.Env B W → Calls Tryd.prog 24 #[.pointer (some ⟨b, 0, none⟩), .int .i64 ((r : Int) + 1)] W fun e w' => Ix.Told B b (l.drop k) (f ((l.drop k).map Ix.kt)) W e w') := fun k W _ hA hEW => by
    rw [← hf]
    exact hC B b (r + 1) (l.drop k) W hA hEW (hG.drop k) (by omega) (by omega) (by rw [List.length_drop]; omega)
  have HL : Hid (∀ W, Ix.Env B W → Calls Tryd.prog 62 #[.int .i64 r, .int .i64 1] W fun e w' => e = .returned (.int .i64 ((r : Int) + 1)) ∧ w' = W) := fun W hEW => by
    have := Tryd.least_any r 1 W hEW.tabs (by omega) (by omega) (by omega)
    rw [show Ix.leastR r 1 = r + 1 by unfold Ix.leastR; rw [if_neg (by omega)]] at this
    exact this
  have H1 : Hid _ := HC.out 0 w0 (Nat.zero_le _) (h.below HB0.out) HE0.out
  have HSC : Hid (∀ W, Ix.Env B W → ∃ z : Int, W.cell? ⟨0, r, none⟩ = some (.int .i64 z) ∧ (z == 2) = decide (r = 4)) := fun W hW => by
    refine ⟨_, Ix.stand_cell hW.tabs r (by omega), ?_⟩
    rcases hr with rfl | rfl | rfl | rfl | rfl <;> rfl
  have hr1 : 1 ≤ r := by omega
  have hr8 : r ≤ 6 := by omega
  have HOP : Hid (∀ k W, Ix.At B b (l.drop k) W → Ix.Env B W → Calls Tryd.prog 61 #[.pointer (some ⟨b, 0, none⟩), .int .i64 r] W fun e w' => Ix.Opd B b r (l.drop k) W e w') := fun k W hA hEW => Tryd.operator_any B b r (l.drop k) W hA hEW.tabs (by omega)
  clear hw0 h hE hG hn hC hr hrs hf
  go_enter Tryd.func40, Tryd.ntmps40
  go_upto_region 1 with fail
  rw [HW0.out]
  go_wp2_with fail
  refine Calls.mono H1.out ?_
  rintro e W1 ⟨o1, m1, a1, len1, cap1, rfl, b1, hl1⟩
  rw [List.drop_zero] at hl1
  have hs0 := HS0.out
  have hbl := HLT.out.1
  have hs1 := b1.size
  have N1 : Hid (W1.heap[w.heap.size]? = some (.cells #[.int .i64 0, .int .i64 0, .slice none 0 0] 37 (0, 0))) := (b1.block _ (by omega) (by omega)).trans HN0.out
  obtain ⟨q, hq⟩ : ∃ z, W1.heap.size = z := ⟨_, rfl⟩
  have HQ : Hid (W1.heap.size = q) := hq
  have HQL : Hid (w.heap.size < q) := by show _ < _; omega
  obtain ⟨W2, hW2⟩ : ∃ z, W1.alloc (.cells #[.int .i64 o1, .int .i64 m1, .slice a1 len1 cap1] 37) = z := ⟨_, rfl⟩
  have HW2 : Hid (W1.alloc (.cells #[.int .i64 o1, .int .i64 m1, .slice a1 len1 cap1] 37) = W2) := hW2
  have B2 : Below W1.heap.size W1 W2 := by rw [← hW2]; exact (Below.refl _ W1).alloc (Nat.le_refl _) _
  have C2 : W2.heap[q]? = some (.cells #[.int .i64 o1, .int .i64 m1, .slice a1 len1 cap1] 37 (0, 0)) := by rw [← hq, ← hW2]; exact heap_alloc_new W1 _
  have BT2 : Tk.But (fun k => k = b) w W2 := ((Tk.But.of_below HB0.out).trans b1).trans (Tk.But.of_below B2)
  have E2 : Ix.Env B W2 := (HE0.out.but b1 HLT.out.2).below B2
  have HST : Hid (∃ (k : Nat) (T : Tm), Ix.BtW B b q l k T o1 m1 (.slice a1 len1 cap1) (Ix.okB (f (l.map Ix.kt))) w W2 ∧ Ix.Bt f r rs T ((l.drop k).map Ix.kt) (Ix.okB (f (l.map Ix.kt)))) := by
    have hrs := HRS.out
    have hN2 := (B2.block w.heap.size (by omega)).trans N1.out
    cases hff : f (l.map Ix.kt) with
    | error t =>
      rw [hff] at hl1 hrs
      obtain ⟨k, h1, h2, h3⟩ := hl1
      exact ⟨k, .mk 0 0 [], ⟨BT2, h3.below B2, hN2, C2, h1, E2, fun h => by cases h⟩, by show rs = _; rw [hrs, h2]⟩
    | ok p =>
      obtain ⟨T, t⟩ := p
      rw [hff] at hl1 hrs
      obtain ⟨k, h1, h2, h3, h4, h5, d, h6⟩ := hl1
      refine ⟨k, T, ⟨BT2, h3.below B2, hN2, C2, h1, E2, fun _ => ⟨h4, h5, d, ?_⟩⟩, t.length, by rw [← h2]; exact hrs.symm, by rw [← h2]; exact Nat.le_refl _⟩
      have hb2 := B2.size
      have hb3 := (Array.getElem?_eq_some_iff.1 C2).1
      exact (h6.keep fun j _ hj => B2.block j hj).toP fun j hj1 hj2 => ⟨by omega, by omega, by omega⟩
  obtain ⟨ob1, hob1⟩ : ∃ z, Ix.okB (f (l.map Ix.kt)) = z := ⟨_, rfl⟩
  rw [List.drop_zero, hob1]
  rw [hob1] at HST
  clear b1 hl1 hs0 hbl hs1 hq hW2 B2 C2 BT2 E2 H1 hob1
  go_wp2
  rw [HW2.out, HQ.out]
  have H0 : Hid (∃ (k : Nat) (T : Tm), Ix.BtW B b q l k T o1 m1 (.slice a1 len1 cap1) ob1 w W2 ∧ Ix.Bt f r rs T ((l.drop k).map Ix.kt) ob1) := HST.out
  clear HST HW2 N1
  go_loopg [7] (l.length + 1) (fun gk s7 wr => ∃ (ob : Bool) (k : Nat) (T : Tm) (o6 m6 : Int) (a6 : Option Addr) (n6 c6 : Nat), s7 = .bool ob ∧ (ob = true → l.length + 1 ≤ gk + k) ∧ Hid (Ix.BtW B b q l k T o6 m6 (.slice a6 n6 c6) ob w wr ∧ Ix.Bt f r rs T ((l.drop k).map Ix.kt) ob))
  case atStart =>
    obtain ⟨k, T, h1, h2⟩ := H0.out
    exact ⟨ob1, k, T, o1, m1, a1, len1, cap1, rfl, fun _ => by omega, h1, h2⟩
  case round =>
    obtain ⟨ob, k, T, o6, m6, a6, n6, c6, rfl, hgk, HI⟩ := hrel
    clear H0
    cases ob with
    | false =>
      obtain ⟨⟨x0, x1, x2⟩, -⟩ := Tk.row3 HI.out.1.cur
      obtain ⟨⟨t0, t1, t2⟩, s0, s1, s2⟩ := Tk.row3 HI.out.1.res
      go_wp2
      refine bodyPost_ret (Tk.results_term Tryd.results40 _ _ w.heap.size _ _ _ rfl (Tk.put3 HI.out.1.res)) rfl ?_
      have hI := HI.out.1
      rw [show rs = .error ((l.drop k).map Ix.kt) from HI.out.2]
      exact ⟨o6, m6, a6, n6, c6, rfl, Ix.but3 hI.but _ (Nat.le_refl _) _ _ _, k, hI.kle, rfl, Ix.set3_at _ _ _ _ hI.at_ HLT.out.1⟩
    | true =>
      have hg1 : l.length + 1 ≤ gk + k := hgk rfl
      have H1 : Hid _ := HOP.out k wr HI.out.1.at_ HI.out.1.env
      clear hgk
      go_wp2_with fail
      refine Calls.mono H1.out ?_
      rintro e W1 ⟨b1, hop⟩
      have hI := HI.out.1
      have hbl := HLT.out.1
      have hql := HQL.out
      have hlr := (Array.getElem?_eq_some_iff.1 hI.res).1
      have hlc := (Array.getElem?_eq_some_iff.1 hI.cur).1
      obtain ⟨l1, hl1⟩ : ∃ z, (Value.slice a6 n6 c6) = z := ⟨_, rfl⟩
      cases hq : Ix.opHead r ((l.drop k).map Ix.kt) with
      | none =>
        rw [hq] at hop
        simp only [Ix.opZero] at hop
        obtain ⟨rfl, hA⟩ := hop
        have HRS2 : Hid (rs = .ok (T, (l.drop k).map Ix.kt)) := HI.out.2.none hq
        obtain ⟨W2, hW2⟩ : ∃ z, W1.alloc (.cells #[.int .i64 0, .string ⟨#[]⟩, .int .i64 0, .bool false, .bool false] 88) = z := ⟨_, rfl⟩
        have HW2 : Hid (W1.alloc (.cells #[.int .i64 0, .string ⟨#[]⟩, .int .i64 0, .bool false, .bool false] 88) = W2) := hW2
        have B2 : Below W1.heap.size W1 W2 := by rw [← hW2]; exact (Below.refl _ W1).alloc (Nat.le_refl _) _
        have hs1 := b1.size
        have N2 : Hid (W2.heap[w.heap.size]? = some (.cells #[.int .i64 0, .int .i64 0, .slice none 0 0] 37 (0, 0))) := (B2.block _ (by omega)).trans ((b1.block _ hlr (by omega)).trans hI.res)
        have C2 : Hid (W2.heap[q]? = some (.cells #[.int .i64 o6, .int .i64 m6, .slice a6 n6 c6] 37 (0, 0))) := (B2.block _ (by omega)).trans ((b1.block _ hlc (by omega)).trans hI.cur)
        have BT2 : Hid (Tk.But (fun k => k = b) w W2) := (hI.but.trans b1).trans (Tk.But.of_below B2)
        have A2 : Hid (Ix.At B b (l.drop k) W2) := hA.below B2
        have L2 : Hid (o6 = T.op ∧ m6 = T.num ∧ ∃ d, Tm.LiesIn W2 (w.heap.size + 1) W2.heap.size d (.slice a6 n6 c6) T) := by
          obtain ⟨h1, h2, d, h3⟩ := hI.lies rfl
          have hs2 := B2.size
          refine ⟨h1, h2, d, (h3.keep (w' := W2) (Q := fun j => w.heap.size < j ∧ j < W2.heap.size) (fun j hj => (B2.block j (by omega)).trans (b1.block j hj.2.2 (by omega))) (fun j hj => ⟨hj.1, by omega⟩)).toIn fun j hj => ⟨by omega, hj.2⟩⟩
        obtain ⟨⟨x0, x1, x2⟩, -⟩ := Tk.row3 C2.out
        obtain ⟨⟨t0, t1, t2⟩, s0, s1, s2⟩ := Tk.row3 N2.out
        clear hA hW2 B2 hq b1 hI hbl hql hlr hlc hs1 hl1
        go_upto_region 4 with fail
        rw [HW2.out]
        go_wp2
        refine bodyPost_ret (Tk.results_term Tryd.results40 _ _ w.heap.size _ _ _ rfl (Tk.put3 N2.out)) rfl ?_
        rw [HRS2.out]
        obtain ⟨h1, h2, d, h3⟩ := L2.out
        refine ⟨o6, m6, a6, n6, c6, rfl, Ix.but3 BT2.out _ (Nat.le_refl _) _ _ _, k, HI.out.1.kle, rfl, Ix.set3_at _ _ _ _ A2.out HLT.out.1, h1, h2, d, ?_⟩
        exact (h3.keep fun j hj _ => Ix.set3_other W2 w.heap.size (by omega)).wider (by omega) (by simp [World.setCell])
      | some p =>
        obtain ⟨o, l'⟩ := p
        rw [hq] at hop
        obtain ⟨hmem, hrow, hlen, hl'⟩ := Ix.head_mem hq
        rw [List.length_map, List.length_drop] at hlen
        obtain ⟨orow, otx, oop, osw, ode⟩ := o
        simp only [Ix.opRow] at hop
        obtain ⟨rfl, hA⟩ := hop
        rw [List.drop_drop] at hA
        subst hl'
        rw [← List.map_drop, List.drop_drop] at hq
        obtain ⟨tx, htx⟩ : ∃ s : ByteArray, s = ⟨otx.toArray⟩ := ⟨_, rfl⟩
        rw [← htx]
        have hs1 := b1.size
        obtain ⟨q8, hq8⟩ : ∃ z, W1.heap.size = z := ⟨_, rfl⟩
        obtain ⟨W2, hW2⟩ : ∃ z, W1.alloc (.cells #[.int .i64 orow, .string tx, .int .i64 oop, .bool osw, .bool ode] 88) = z := ⟨_, rfl⟩
        have HW2 : Hid (W1.alloc (.cells #[.int .i64 orow, .string tx, .int .i64 oop, .bool osw, .bool ode] 88) = W2 ∧ W1.heap.size = q8) := ⟨hW2, hq8⟩
        have B2 : Below W1.heap.size W1 W2 := by rw [← hW2]; exact (Below.refl _ W1).alloc (Nat.le_refl _) _
        have S2 : W2.heap.size = W1.heap.size + 1 := by rw [← hW2]; simp
        obtain ⟨q10, hq10⟩ : ∃ z, W2.heap.size = z := ⟨_, rfl⟩
        obtain ⟨W3, hW3⟩ : ∃ z, W2.alloc (.cells #[.int .i64 0, .int .i64 0, .slice none 0 0] 37) = z := ⟨_, rfl⟩
        have HW3 : Hid (W2.alloc (.cells #[.int .i64 0, .int .i64 0, .slice none 0 0] 37) = W3 ∧ W2.heap.size = q10) := ⟨hW3, hq10⟩
        have B3 : Below W2.heap.size W2 W3 := by rw [← hW3]; exact (Below.refl _ W2).alloc (Nat.le_refl _) _
        have S3 : W3.heap.size = W2.heap.size + 1 := by rw [← hW3]; simp
        have O2 : W2.heap[q8]? = some (.cells #[.int .i64 orow, .string tx, .int .i64 oop, .bool osw, .bool ode] 88 (0, 0)) := by rw [← hq8, ← hW2]; exact heap_alloc_new W1 _
        have T3 : W3.heap[q10]? = some (.cells #[.int .i64 0, .int .i64 0, .slice none 0 0] 37 (0, 0)) := by rw [← hq10, ← hW3]; exact heap_alloc_new W2 _
        have O3 : W3.heap[q8]? = some (.cells #[.int .i64 orow, .string tx, .int .i64 oop, .bool osw, .bool ode] 88 (0, 0)) := (B3.block _ (by omega)).trans O2
        have C3 : W3.heap[q]? = some (.cells #[.int .i64 o6, .int .i64 m6, .slice a6 n6 c6] 37 (0, 0)) := (B3.block _ (by omega)).trans ((B2.block _ (by omega)).trans ((b1.block _ hlc (by omega)).trans hI.cur))
        have N3 : W3.heap[w.heap.size]? = some (.cells #[.int .i64 0, .int .i64 0, .slice none 0 0] 37 (0, 0)) := (B3.block _ (by omega)).trans ((B2.block _ (by omega)).trans ((b1.block _ hlr (by omega)).trans hI.res))
        have BT3 : Tk.But (fun k => k = b) w W3 := ((hI.but.trans b1).trans (Tk.But.of_below B2)).trans (Tk.But.of_below B3)
        have A3 : Ix.At B b (l.drop (k + 1)) W3 := (hA.below B2).below B3
        have E3 : Ix.Env B W3 := (((hI.env.but b1 HLT.out.2).below B2).below B3)
        have hk1 : k + 1 ≤ l.length := by omega
        have H4 : Hid _ := HC.out (k + 1) W3 hk1 A3 E3
        have HL3 : Hid _ := HL.out W3 E3
        have H3 : Hid (Tk.But (fun k => k = b) w W3 ∧ W3.heap[q8]? = some (.cells #[.int .i64 orow, .string tx, .int .i64 oop, .bool osw, .bool ode] 88 (0, 0)) ∧ W3.heap[q]? = some (.cells #[.int .i64 o6, .int .i64 m6, .slice a6 n6 c6] 37 (0, 0)) ∧ W3.heap[q10]? = some (.cells #[.int .i64 0, .int .i64 0, .slice none 0 0] 37 (0, 0)) ∧
          W3.heap[w.heap.size]? = some (.cells #[.int .i64 0, .int .i64 0, .slice none 0 0] 37 (0, 0)) ∧ w.heap.size < q ∧ q < q8 ∧ q8 < q10 ∧ b < w.heap.size ∧ k + 1 ≤ l.length ∧ Ix.Env B W3) := ⟨BT3, O3, C3, T3, N3, hql, by omega, by omega, hbl, hk1, E3⟩
        have L3 : Hid (o6 = T.op ∧ m6 = T.num ∧ ∃ d, Tm.LiesP W3 (fun j => w.heap.size < j ∧ j ≠ q ∧ j < q8) d (.slice a6 n6 c6) T) := by
          obtain ⟨h1, h2, d, h3⟩ := hI.lies rfl
          exact ⟨h1, h2, d, h3.keep (w' := W3) (Q := fun j => w.heap.size < j ∧ j ≠ q ∧ j < q8) (fun j hj => (B3.block j (by omega)).trans ((B2.block j (by omega)).trans (b1.block j hj.2.2 (by omega)))) (fun j hj => ⟨hj.1, hj.2.1, by omega⟩)⟩
        have HBT : Hid (Ix.Bt f r rs T ((l.drop k).map Ix.kt) true) := HI.out.2
        have HQO : Hid (Ix.opHead r ((l.drop k).map Ix.kt) = some (⟨orow, otx, oop, osw, ode⟩, (l.drop (k + 1)).map Ix.kt)) := hq
        clear hA hW2 B2 hq b1 hI hbl hql hlr hlc hs1 hl1 hmem hrow htx hq8 S2 hq10 hW3 B3 S3 O2 T3 O3 C3 N3 BT3 A3 E3 H1 HI hlen
        go_upto_region 5 with fail
        rw [HW2.out.1, HW2.out.2]
        go_upto_region 6 with fail
        rw [HW3.out.1, HW3.out.2]
        go_wp2_with fail
        refine Calls.mono HL3.out ?_
        rintro e W4' ⟨rfl, hW⟩
        obtain rfl := hW.symm
        clear hW
        go_wp2_with fail
        refine Calls.mono H4.out ?_
        rintro e W4 ⟨o3, m3, a3, len3, cap3, rfl, b4, hl4⟩
        obtain ⟨r4, hr4⟩ : ∃ z, f ((l.drop (k + 1)).map Ix.kt) = z := ⟨_, rfl⟩
        rw [hr4] at hl4 ⊢
        have HR4 : Hid (f ((l.drop (k + 1)).map Ix.kt) = r4) := hr4
        obtain ⟨j1, j2, j3, j4, j5, j6, j7, j8, j9, jk, jE⟩ := H3.out
        have hlt4 := (Array.getElem?_eq_some_iff.1 j4).1
        have k2 : W4.heap[q8]? = some (.cells #[.int .i64 orow, .string tx, .int .i64 oop, .bool osw, .bool ode] 88 (0, 0)) := (b4.block _ (by omega) (by omega)).trans j2
        have k3 : W4.heap[q]? = some (.cells #[.int .i64 o6, .int .i64 m6, .slice a6 n6 c6] 37 (0, 0)) := (b4.block _ (by omega) (by omega)).trans j3
        have k4 : W4.heap[q10]? = some (.cells #[.int .i64 0, .int .i64 0, .slice none 0 0] 37 (0, 0)) := (b4.block _ hlt4 (by omega)).trans j4
        have k5 : W4.heap[w.heap.size]? = some (.cells #[.int .i64 0, .int .i64 0, .slice none 0 0] 37 (0, 0)) := (b4.block _ (by omega) (by omega)).trans j5
        have kE : Ix.Env B W4 := jE.but b4 HLT.out.2
        have H4' : Hid (Tk.But (fun k => k = b) w W4 ∧ W4.heap[q8]? = some (.cells #[.int .i64 orow, .string tx, .int .i64 oop, .bool osw, .bool ode] 88 (0, 0)) ∧ W4.heap[q]? = some (.cells #[.int .i64 o6, .int .i64 m6, .slice a6 n6 c6] 37 (0, 0)) ∧ W4.heap[q10]? = some (.cells #[.int .i64 0, .int .i64 0, .slice none 0 0] 37 (0, 0)) ∧
          W4.heap[w.heap.size]? = some (.cells #[.int .i64 0, .int .i64 0, .slice none 0 0] 37 (0, 0)) ∧ Ix.Env B W4 ∧ q10 < W4.heap.size ∧ q10 < W3.heap.size) := ⟨j1.trans b4, k2, k3, k4, k5, kE, (Array.getElem?_eq_some_iff.1 k4).1, hlt4⟩
        have L4 : Hid (o6 = T.op ∧ m6 = T.num ∧ ∃ d, Tm.LiesP W4 (fun j => w.heap.size < j ∧ j ≠ q ∧ j < q8) d (.slice a6 n6 c6) T) := by
          obtain ⟨h1, h2, d, h3⟩ := L3.out
          exact ⟨h1, h2, d, h3.keep (w' := W4) (fun j hj => b4.block j (by omega) (by omega)) (fun _ h => h)⟩
        have HL4 : Hid (Ix.Left B b (l.drop (k + 1)) W3 o3 m3 (.slice a3 len3 cap3) W4 r4) := hl4
        obtain ⟨ob4, hob4⟩ : ∃ z, Ix.okB r4 = z := ⟨_, rfl⟩
        have HOB : Hid (Ix.okB r4 = ob4) := hob4
        rw [hob4]
        obtain ⟨⟨d0, d1, d2⟩, e0, e1, e2⟩ := Tk.row3 k4
        clear b4 hl4 hr4 hob4 j1 j2 j3 j4 j5 j6 j7 j8 j9 jk jE hlt4 k2 k3 k4 k5 kE H4 HL3 HL HC HOP
        obtain ⟨W5, hW5⟩ : ∃ z, ((W4.setCell ⟨q10, 0, none⟩ (.int .i64 o3)).setCell ⟨q10, 1, none⟩ (.int .i64 m3)).setCell ⟨q10, 2, none⟩ (.slice a3 len3 cap3) = z := ⟨_, rfl⟩
        have HW5 : Hid (((W4.setCell ⟨q10, 0, none⟩ (.int .i64 o3)).setCell ⟨q10, 1, none⟩ (.int .i64 m3)).setCell ⟨q10, 2, none⟩ (.slice a3 len3 cap3) = W5) := hW5
        have S5 : Hid (∀ j, j ≠ q10 → W5.heap[j]? = W4.heap[j]?) := fun j hj => by rw [← hW5]; exact Ix.set3_other W4 q10 hj
        have T5 : W5.heap[q10]? = some (.cells #[.int .i64 o3, .int .i64 m3, .slice a3 len3 cap3] 37 (0, 0)) := by rw [← hW5]; exact Tk.put3 H4'.out.2.2.2.1
        have Z5 : W5.heap.size = W4.heap.size := by rw [← hW5]; simp [World.setCell]
        have BT5 : Tk.But (fun k => k = b) w W5 := by
          rw [← hW5]
          exact Ix.but3 H4'.out.1 _ (by have := H3.out.2.2.2.2.2; omega) _ _ _
        have O5 : W5.heap[q8]? = some (.cells #[.int .i64 orow, .string tx, .int .i64 oop, .bool osw, .bool ode] 88 (0, 0)) := (S5.out _ (by have := H3.out.2.2.2.2.2; omega)).trans H4'.out.2.1
        have C5 : W5.heap[q]? = some (.cells #[.int .i64 o6, .int .i64 m6, .slice a6 n6 c6] 37 (0, 0)) := (S5.out _ (by have := H3.out.2.2.2.2.2; omega)).trans H4'.out.2.2.1
        obtain ⟨⟨z0, z1, z2, z3, z4⟩, -⟩ := Ix.row5 O5
        obtain ⟨⟨x0, x1, x2⟩, -⟩ := Tk.row3 C5
        obtain ⟨⟨y0, y1, y2⟩, -⟩ := Tk.row3 T5
        obtain ⟨g, hg⟩ : ∃ z, W5.heap.size = z := ⟨_, rfl⟩
        obtain ⟨W6, hW6⟩ : ∃ z, W5.alloc (.cells #[.int .i64 o6, .int .i64 m6, .slice a6 n6 c6, .int .i64 o3, .int .i64 m3, .slice a3 len3 cap3] 37) = z := ⟨_, rfl⟩
        have HW6 : Hid (W5.alloc (.cells #[.int .i64 o6, .int .i64 m6, .slice a6 n6 c6, .int .i64 o3, .int .i64 m3, .slice a3 len3 cap3] 37) = W6 ∧ W5.heap.size = g) := ⟨hW6, hg⟩
        have G6 : W6.heap[g]? = some (.cells #[.int .i64 o6, .int .i64 m6, .slice a6 n6 c6, .int .i64 o3, .int .i64 m3, .slice a3 len3 cap3] 37 (0, 0)) := by rw [← hg, ← hW6]; exact heap_alloc_new W5 _
        have B6 : Below W5.heap.size W5 W6 := by rw [← hW6]; exact (Below.refl _ W5).alloc (Nat.le_refl _) _
        have HG : Hid (g = W4.heap.size ∧ q10 < g) := ⟨by omega, by have := H4'.out.2.2.2.2.2.2.1; omega⟩
        have H6 : Hid (Tk.But (fun k => k = b) w W6 ∧ (∀ j, j < g → j ≠ q10 → W6.heap[j]? = W4.heap[j]?)) := ⟨BT5.trans (Tk.But.of_below B6), fun j h1 h2 => (B6.block j (by omega)).trans (S5.out j h2)⟩
        have H7 : Hid _ := Tryd.of_two g o6 m6 o3 m3 a6 a3 n6 c6 len3 cap3 orow oop tx osw ode W6 G6
        have HG6 : Hid (g < W6.heap.size) := (Array.getElem?_eq_some_iff.1 G6).1
        clear hW5 hg hW6 T5 Z5 BT5 O5 C5 G6 B6
        go_upto_region 7 with fail
        rw [HW5.out]
        go_wp2_with fail
        rw [HW6.out.1, HW6.out.2]
        refine Calls.mono H7.out ?_
        intro e W7 hof
        have HOF : Hid _ := hof
        obtain ⟨w1, w2, w3, w4⟩ := hof
        obtain ⟨j1, j2, j3, j4, j5, j6, j7, j8, j9, jk, jE⟩ := H3.out
        obtain ⟨i1, i2, i3, i4, i5, i6, i7, i8⟩ := H4'.out
        obtain ⟨hg1, hg2⟩ := HG.out
        have hlg := (Array.getElem?_eq_some_iff.1 w2).1
        have hl6 : W6.heap.size ≤ W7.heap.size := w1.size
        have hlg6 : g < W6.heap.size := HG6.out
        have C7 : Hid (W7.heap[q]? = some (.cells #[.int .i64 o6, .int .i64 m6, .slice a6 n6 c6] 37 (0, 0))) := (w1.block _ (by omega) (by omega)).trans ((H6.out.2 _ (by omega) (by omega)).trans i3)
        have N7 : Hid (W7.heap[w.heap.size]? = some (.cells #[.int .i64 0, .int .i64 0, .slice none 0 0] 37 (0, 0))) := (w1.block _ (by omega) (by omega)).trans ((H6.out.2 _ (by omega) (by omega)).trans i5)
        have K7 : Hid (∀ j, j < g → j ≠ q10 → W7.heap[j]? = W4.heap[j]?) := fun j h1 h2 => (w1.block j (by omega) (by omega)).trans (H6.out.2 j h1 h2)
        have BT7 : Hid (Tk.But (fun k => k = b) w W7) := ⟨w1.os.trans H6.out.1.os, w1.tape.trans H6.out.1.tape, w1.output.trans H6.out.1.output, Nat.le_trans H6.out.1.size w1.size, fun j h1 h2 => (w1.block j (by have := H6.out.1.size; omega) (by omega)).trans (H6.out.1.block j h1 h2)⟩
        have HPG : Hid (w.heap.size < g ∧ g ≠ q ∧ g < W7.heap.size ∧ q < W7.heap.size ∧ W6.heap.size ≤ W7.heap.size ∧ q < W6.heap.size) := ⟨by omega, by omega, hlg, by omega, hl6, by omega⟩
        have HT7 : Hid (o6 = T.op ∧ m6 = T.num ∧ ∃ d, Tm.LiesP W7 (fun j => w.heap.size < j ∧ j ≠ q ∧ j < W7.heap.size) d (.slice a6 n6 c6) T) := by
          obtain ⟨h1, h2, d, h3⟩ := L4.out
          exact ⟨h1, h2, d, h3.keep (w' := W7) (fun j hj => K7.out j (by omega) (by omega)) (fun j hj => ⟨hj.1, hj.2.1, by omega⟩)⟩
        obtain ⟨oN, aN, nN, hN⟩ := Ix.made_some HOF.out
        have HOF2 : Hid (∀ U, r4 = .ok U → (o3 = U.1.op ∧ m3 = U.1.num) ∧ oN = (Ix.make ⟨orow, otx, oop, osw, ode⟩ T U.1).op ∧ (0 : Int) = (Ix.make ⟨orow, otx, oop, osw, ode⟩ T U.1).num ∧ ∃ d, Tm.LiesP W7 (fun j => w.heap.size < j ∧ j ≠ q ∧ j < W7.heap.size) d (.slice aN nN nN) (Ix.make ⟨orow, otx, oop, osw, ode⟩ T U.1)) := fun U hU => by
          obtain ⟨U, lU⟩ := U
          have hl4 := HL4.out
          rw [hU] at hl4
          obtain ⟨kU, hU1, hU2, hU3, hU4, hU5, d, hU6⟩ := hl4
          have hU7 : ∃ d, Tm.LiesP W7 (fun j => w.heap.size < j ∧ j ≠ q ∧ j < W7.heap.size) d (.slice a3 len3 cap3) U := ⟨d, (hU6.toP (P := fun j => W3.heap.size ≤ j ∧ j < W4.heap.size) fun j x y => ⟨x, y⟩).keep (w' := W7) (fun j hj => K7.out j (by omega) (by omega)) (fun j hj => ⟨by omega, by omega, by omega⟩)⟩
          have hof := HOF.out
          rw [HT7.out.1, HT7.out.2.1, hU4, hU5] at hof
          obtain ⟨a, n, p1, p2, p3⟩ := Ix.made (o := ⟨orow, otx, oop, osw, ode⟩) (P := fun j => w.heap.size < j ∧ j ≠ q ∧ j < W7.heap.size) hof ⟨HPG.out.1, HPG.out.2.1, HPG.out.2.2.1⟩ (fun j x y => ⟨by omega, by omega, y⟩) HT7.out.2.2 hU7
          rw [hN] at p1
          injection p1 with p1
          injection p1 with p1
          simp only [Array.mk.injEq, List.cons.injEq, Value.int.injEq, Value.slice.injEq, true_and, and_true] at p1
          obtain ⟨rfl, rfl, rfl, -⟩ := p1
          exact ⟨⟨hU4, hU5⟩, rfl, p2, p3⟩
        obtain ⟨W8, hW8⟩ : ∃ z, ((W7.setCell ⟨q, 0, none⟩ (.int .i64 oN)).setCell ⟨q, 1, none⟩ (.int .i64 0)).setCell ⟨q, 2, none⟩ (.slice aN nN nN) = z := ⟨_, rfl⟩
        have HW8 : Hid (((W7.setCell ⟨q, 0, none⟩ (.int .i64 oN)).setCell ⟨q, 1, none⟩ (.int .i64 0)).setCell ⟨q, 2, none⟩ (.slice aN nN nN) = W8) := hW8
        have HST8 : Hid (∃ (k' : Nat) (T' : Tm), k + 1 ≤ k' ∧ Ix.BtW B b q l k' T' oN 0 (.slice aN nN nN) ob4 w W8 ∧ (r = 4 → rs = if ob4 = true then .ok (T', (l.drop k').map Ix.kt) else .error ((l.drop k').map Ix.kt)) ∧ (r ≠ 4 → Ix.Bt f r rs T' ((l.drop k').map Ix.kt) ob4)) := by
          have q1 := HQL.out
          have q2 := HLT.out
          have S8 : ∀ j, j ≠ q → W8.heap[j]? = W7.heap[j]? := fun j hj => by rw [← hW8]; exact Ix.set3_other W7 q hj
          have BT8 : Tk.But (fun k => k = b) w W8 := by rw [← hW8]; exact Ix.but3 BT7.out _ (by omega) _ _ _
          have C8 : W8.heap[q]? = some (.cells #[.int .i64 oN, .int .i64 0, .slice aN nN nN] 37 (0, 0)) := by rw [← hW8]; exact Tk.put3 C7.out
          have N8 := (S8 w.heap.size (by omega)).trans N7.out
          have Z8 : W8.heap.size = W7.heap.size := by rw [← hW8]; simp [World.setCell]
          have E8 : Ix.Env B W8 := HEW.out.but BT8 q2.2
          have A8 : ∀ l', Ix.At B b l' W4 → Ix.At B b l' W8 := fun l' hA => hA.keep (fun j hj => (S8 j (by omega)).trans (K7.out j (by omega) (by omega))) ((S8 b (by omega)).trans (K7.out b (by omega) (by omega)))
          have hl4 := HL4.out
          have hob := HOB.out
          have hof := HOF2.out
          have hqo := HQO.out
          have hbt := HBT.out
          have hff := HR4.out
          clear HW8
          cases r4 with
          | error t =>
            obtain ⟨kU, h1, h2, h3⟩ := hl4
            rw [List.drop_drop] at h2 h3
            rw [List.length_drop] at h1
            subst hob
            refine ⟨k + 1 + kU, T, by omega, ⟨BT8, A8 _ h3, N8, C8, by omega, E8, fun h => by cases h⟩, fun h4 => ?_, fun h4 => ?_⟩
            · subst h4
              rw [hbt.once hqo, hff, h2]
              rfl
            · rw [← h2]; exact hbt.err hqo hff
          | ok p =>
            obtain ⟨U, t⟩ := p
            obtain ⟨kU, h1, h2, h3, h4, h5, h6⟩ := hl4
            rw [List.drop_drop] at h2 h3
            rw [List.length_drop] at h1
            subst hob
            obtain ⟨p1, p2, p3, d, p4⟩ := hof _ rfl
            refine ⟨k + 1 + kU, Ix.make ⟨orow, otx, oop, osw, ode⟩ T U, by omega, ⟨BT8, A8 _ h3, N8, C8, by omega, E8, fun _ => ⟨p2, p3, d, p4.keep (w' := W8) (fun j hj => S8 j hj.2.1) (fun j hj => ⟨hj.1, hj.2.1, by omega⟩)⟩⟩, fun h4 => ?_, fun h4 => ?_⟩
            · subst h4
              rw [hbt.once hqo, hff, h2]
              rfl
            · rw [← h2]
              refine hbt.step h4 hqo hff ?_
              rw [h2, List.length_map, List.length_map, List.length_drop, List.length_drop]
              omega
        obtain ⟨⟨c0, c1, c2⟩, c3, c4, c5⟩ := Tk.row3 C7.out
        subst hN
        clear hW8 j1 j2 j3 j4 j5 j6 j7 j8 j9 jk jE i1 i2 i3 i4 i5 i6 i7 i8 hg1 hg2 hlg hl6 hlg6 N7 K7 BT7 HT7 HOF2 w1 w2 w3 w4 HPG H6 H7 HOF S5 L4 HL4 HOB HR4 H4' H3 L3 HBT HQO HG HG6 z0 z1 z2 z3 z4 x0 x1 x2 y0 y1 y2 d0 d1 d2 e0 e1 e2 C7
        go_upto_region 8 with fail
        rw [HW8.out]
        obtain ⟨k', T', hk', hst, hf4, hn4⟩ := HST8.out
        have HB8 : Hid (Ix.BtW B b q l k' T' oN 0 (.slice aN nN nN) ob4 w W8) := hst
        obtain ⟨z, hz1, hz2⟩ := HSC.out W8 hst.env
        obtain ⟨⟨x0, x1, x2⟩, -⟩ := Tk.row3 hst.cur
        obtain ⟨⟨t0, t1, t2⟩, s0, s1, s2⟩ := Tk.row3 hst.res
        by_cases hr4 : r = 4
        · have HR : Hid (rs = if ob4 = true then .ok (T', (l.drop k').map Ix.kt) else .error ((l.drop k').map Ix.kt)) := hf4 hr4
          have e1 : (z == 2) = true := by rw [hz2]; exact decide_eq_true hr4
          clear hf4 hn4 hst hr4 hz2 HST8
          go_wp2
          refine bodyPost_ret (Tk.results_term Tryd.results40 _ _ w.heap.size _ _ _ rfl (Tk.put3 HB8.out.res)) rfl ?_
          rw [HR.out]
          have hI := HB8.out
          have hq := HQL.out
          cases ob4 with
          | false => exact ⟨oN, 0, aN, nN, nN, rfl, Ix.but3 hI.but _ (Nat.le_refl _) _ _ _, k', hI.kle, rfl, Ix.set3_at _ _ _ _ hI.at_ HLT.out.1⟩
          | true =>
            obtain ⟨h1, h2, d, h3⟩ := hI.lies rfl
            refine ⟨oN, 0, aN, nN, nN, rfl, Ix.but3 hI.but _ (Nat.le_refl _) _ _ _, k', hI.kle, rfl, Ix.set3_at _ _ _ _ hI.at_ HLT.out.1, h1, h2, d, ?_⟩
            exact (h3.keep (w' := ((W8.setCell ⟨w.heap.size, 0, none⟩ _).setCell ⟨w.heap.size, 1, none⟩ _).setCell ⟨w.heap.size, 2, none⟩ _) (Q := fun j => w.heap.size < j ∧ j < W8.heap.size) (fun j hj => Ix.set3_other W8 w.heap.size (by omega)) (fun j hj => ⟨hj.1, hj.2.2⟩)).toIn fun j hj => ⟨by omega, by simp [World.setCell]; omega⟩
        · have HR : Hid (Ix.Bt f r rs T' ((l.drop k').map Ix.kt) ob4) := hn4 hr4
          have e1 : (z == 2) = false := by rw [hz2]; exact decide_eq_false hr4
          have HK : Hid (k' ≤ l.length) := hst.kle
          clear hf4 hn4 hst hr4 hz2 HST8
          go_wp2
          go_roundg (gk - 1)
          case measure => omega
          case rel => exact ⟨ob4, k', T', oN, 0, aN, nN, nN, rfl, fun _ => by omega, HB8.out, HR.out⟩

end Go.Proofs

/-
  infix: the contract of the reader's row, whatever tokens are left.
-/
namespace Go.Proofs
open Go.RowKit

theorem Ix.row_single (n : Nat) (l : List Ix.K) : Ix.row (n + 1) 8 l = Ix.single (Ix.row n 1) l := by rw [Ix.row, if_pos rfl]

set_option maxHeartbeats 8000000 in
set_option maxRecDepth 20000 in
theorem Tryd.row_succ (n : Nat) (hC : Ix.RowC n) : Ix.RowC (n + 1) := by
  intro B b r l w h hE hG h1 h8 hn
  obtain ⟨w0, hw0⟩ : ∃ x, w.alloc (.cells #[.int .i64 0, .int .i64 0, .slice none 0 0] 37) = x := ⟨_, rfl⟩
  have HW0 : Hid (w.alloc (.cells #[.int .i64 0, .int .i64 0, .slice none 0 0] 37) = w0) := hw0
  have HB0 : Hid (Below w.heap.size w w0) := by rw [← hw0]; exact (Below.refl _ w).alloc (Nat.le_refl _) _
  have HS0 : Hid (w0.heap.size = w.heap.size + 1) := by show _ = _; rw [← hw0]; simp
  have HN0 : Hid (w0.heap[w.heap.size]? = some (.cells #[.int .i64 0, .int .i64 0, .slice none 0 0] 37 (0, 0))) := by rw [← hw0]; exact heap_alloc_new w _
  have HLT : Hid (b < w.heap.size ∧ B ≤ b) := ⟨h.lt, h.base⟩
  have hA0 := h.below HB0.out
  have hE0 := hE.below HB0.out
  have H1 : Hid (r = 8 → Calls Tryd.prog 38 #[.pointer (some ⟨b, 0, none⟩)] w0 fun e w' => Ix.Told B b l (Ix.row (n + 1) r (l.map Ix.kt)) w0 e w') := fun h => by
    subst h
    rw [Ix.row_single]
    exact Tryd.single_of n hC B b l w0 hA0 hE0 hG (by omega)
  have H2 : Hid (r = 3 ∨ r = 7 → Calls Tryd.prog 39 #[.pointer (some ⟨b, 0, none⟩), .int .i64 r] w0 fun e w' => Ix.Told B b l (Ix.row (n + 1) r (l.map Ix.kt)) w0 e w') := fun h => Tryd.ahead_of n hC B b r l w0 hA0 hE0 hG h hn
  have H3 : Hid (r ≠ 3 ∧ r ≠ 7 ∧ r ≠ 8 → Calls Tryd.prog 40 #[.pointer (some ⟨b, 0, none⟩), .int .i64 r] w0 fun e w' => Ix.Told B b l (Ix.row (n + 1) r (l.map Ix.kt)) w0 e w') := fun h => Tryd.between_of n hC B b r l w0 hA0 hE0 hG (by omega) hn
  obtain ⟨rs, hrs⟩ : ∃ z, Ix.row (n + 1) r (l.map Ix.kt) = z := ⟨_, rfl⟩
  rw [hrs] at H1 H2 H3 ⊢
  have c0 : r ≠ 8 → w0.cell? ⟨0, r, none⟩ = some (.int .i64 (([0, 1, 1, 3, 2, 1, 1, 3] : List Int).getD r 0)) := fun h => Ix.stand_cell hE0.tabs r (by omega)
  have HEND : Hid (∀ W3 o3 m3 a3 len3 cap3, Tk.But (fun k => k = b) w0 W3 → Ix.Left B b l w0 o3 m3 (.slice a3 len3 cap3) W3 rs → W3.heap[w.heap.size]? = some (.cells #[.int .i64 0, .int .i64 0, .slice none 0 0] 37 (0, 0)) ∧
      Ix.Told B b l rs w (.returned (.tuple #[.agg #[.int .i64 o3, .int .i64 m3, .slice a3 len3 cap3], .bool (Ix.okB rs)])) (((W3.setCell ⟨w.heap.size, 0, none⟩ (.int .i64 o3)).setCell ⟨w.heap.size, 1, none⟩ (.int .i64 m3)).setCell ⟨w.heap.size, 2, none⟩ (.slice a3 len3 cap3))) := fun W3 o3 m3 a3 len3 cap3 hb hl => by
    have hs := HS0.out
    have hlt := HLT.out.1
    exact ⟨(hb.block _ (by omega) (by omega)).trans HN0.out, o3, m3, a3, len3, cap3, rfl, Ix.but3 ((Tk.But.of_below HB0.out).trans hb) _ (Nat.le_refl _) _ _ _, Ix.left_set hl hlt (by omega) (by omega)⟩
  clear hw0 h hE hG hn hC hrs hA0 hE0
  by_cases hr8 : r = 8
  · have H : Hid _ := H1.out hr8
    subst hr8
    clear H1 H2 H3 c0
    go_enter Tryd.func24, Tryd.ntmps24
    go_upto_region 1 with fail
    rw [HW0.out]
    go_wp2_with fail
    refine Calls.mono H.out ?_
    rintro e W3 ⟨o3, m3, a3, len3, cap3, rfl, b3, hl3⟩
    obtain ⟨hn3, ht3⟩ := HEND.out W3 o3 m3 a3 len3 cap3 b3 hl3
    have HT3 : Hid (Ix.Told B b l rs w (.returned (.tuple #[.agg #[.int .i64 o3, .int .i64 m3, .slice a3 len3 cap3], .bool (Ix.okB rs)])) (((W3.setCell ⟨w.heap.size, 0, none⟩ (.int .i64 o3)).setCell ⟨w.heap.size, 1, none⟩ (.int .i64 m3)).setCell ⟨w.heap.size, 2, none⟩ (.slice a3 len3 cap3))) := ht3
    have N3 : Hid (W3.heap[w.heap.size]? = some (.cells #[.int .i64 0, .int .i64 0, .slice none 0 0] 37 (0, 0))) := hn3
    obtain ⟨⟨x0, x1, x2⟩, y0, y1, y2⟩ := Tk.row3 hn3
    clear hn3 ht3 b3 hl3 HEND H
    go_wp2
    exact bodyPost_ret (Tk.results_term Tryd.results24 _ _ w.heap.size _ _ _ rfl (Tk.put3 N3.out)) rfl HT3.out
  · have hrn : ((r : Int) == 8) = false := by rw [beq_eq_false_iff_ne]; omega
    have c1 := c0 hr8
    by_cases hr3 : r = 3 ∨ r = 7
    · have H : Hid _ := H2.out hr3
      clear H1 H2 H3 c0
      have c2 : w0.cell? ⟨0, r, none⟩ = some (.int .i64 3) := by rw [c1]; rcases hr3 with rfl | rfl <;> rfl
      have hr7 : r ≤ 7 := by omega
      clear c1 hr3 hr8
      go_enter Tryd.func24, Tryd.ntmps24
      go_upto_region 1 with fail
      rw [HW0.out]
      go_wp2_with fail
      refine Calls.mono H.out ?_
      rintro e W3 ⟨o3, m3, a3, len3, cap3, rfl, b3, hl3⟩
      obtain ⟨hn3, ht3⟩ := HEND.out W3 o3 m3 a3 len3 cap3 b3 hl3
      have HT3 : Hid (Ix.Told B b l rs w (.returned (.tuple #[.agg #[.int .i64 o3, .int .i64 m3, .slice a3 len3 cap3], .bool (Ix.okB rs)])) (((W3.setCell ⟨w.heap.size, 0, none⟩ (.int .i64 o3)).setCell ⟨w.heap.size, 1, none⟩ (.int .i64 m3)).setCell ⟨w.heap.size, 2, none⟩ (.slice a3 len3 cap3))) := ht3
      have N3 : Hid (W3.heap[w.heap.size]? = some (.cells #[.int .i64 0, .int .i64 0, .slice none 0 0] 37 (0, 0))) := hn3
      obtain ⟨⟨x0, x1, x2⟩, y0, y1, y2⟩ := Tk.row3 hn3
      clear hn3 ht3 b3 hl3 HEND H
      go_wp2
      exact bodyPost_ret (Tk.results_term Tryd.results24 _ _ w.heap.size _ _ _ rfl (Tk.put3 N3.out)) rfl HT3.out
    · have H : Hid _ := H3.out ⟨by omega, by omega, hr8⟩
      clear H1 H2 H3 c0
      obtain ⟨z, hz⟩ : ∃ z : Int, (([0, 1, 1, 3, 2, 1, 1, 3] : List Int).getD r 0) = z := ⟨_, rfl⟩
      have hz3 : (z == 3) = false := by
        rw [← hz]
        obtain rfl | rfl | rfl | rfl | rfl : r = 1 ∨ r = 2 ∨ r = 4 ∨ r = 5 ∨ r = 6 := by omega
        all_goals rfl
      rw [hz] at c1
      have hr7 : r ≤ 7 := by omega
      clear hz hr3 hr8
      go_enter Tryd.func24, Tryd.ntmps24
      go_upto_region 1 with fail
      rw [HW0.out]
      go_wp2_with fail
      refine Calls.mono H.out ?_
      rintro e W3 ⟨o3, m3, a3, len3, cap3, rfl, b3, hl3⟩
      obtain ⟨hn3, ht3⟩ := HEND.out W3 o3 m3 a3 len3 cap3 b3 hl3
      have HT3 : Hid (Ix.Told B b l rs w (.returned (.tuple #[.agg #[.int .i64 o3, .int .i64 m3, .slice a3 len3 cap3], .bool (Ix.okB rs)])) (((W3.setCell ⟨w.heap.size, 0, none⟩ (.int .i64 o3)).setCell ⟨w.heap.size, 1, none⟩ (.int .i64 m3)).setCell ⟨w.heap.size, 2, none⟩ (.slice a3 len3 cap3))) := ht3
      have N3 : Hid (W3.heap[w.heap.size]? = some (.cells #[.int .i64 0, .int .i64 0, .slice none 0 0] 37 (0, 0))) := hn3
      obtain ⟨⟨x0, x1, x2⟩, y0, y1, y2⟩ := Tk.row3 hn3
      clear hn3 ht3 b3 hl3 HEND H
      go_wp2
      exact bodyPost_ret (Tk.results_term Tryd.results24 _ _ w.heap.size _ _ _ rfl (Tk.put3 N3.out)) rfl HT3.out
theorem Tryd.row_any : ∀ n, Ix.RowC n
  | 0 => fun _ _ _ _ _ _ _ _ _ _ hn => by omega
  | n + 1 => Tryd.row_succ n (Tryd.row_any n)

end Go.Proofs
