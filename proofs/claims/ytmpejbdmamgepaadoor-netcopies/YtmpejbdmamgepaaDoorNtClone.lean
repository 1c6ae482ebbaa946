/-
  slices.Clone of nodes, flows and terms: the cells are copied into a row of the call's own.
-/
import Derived.Test.YtmpejbdmamgepaaDoorNtPlaces
import Derived.Test.YtmpejbdmamgepaaDoorNtModel
import Derived.Deep.AppendLies
namespace Go.Proofs
open Go.RowKit Go.Shelf

theorem Nt.add_block (a : Addr) (j : Nat) : (a.add j).block = a.block := by cases j <;> simp [Addr.add]

theorem Tryd.infoNode : (Tryd.prog.info? 37).map (fun i => (i.zero, i.size, i.bytes)) = some (some (.agg #[.int .i64 0, .int .i64 0, .int .i64 0, .int .i64 0, .slice none 0 0]), 5, 56) := by kernel_rfl

set_option maxRecDepth 20000 in
set_option maxHeartbeats 4000000 in
/-- A slice that is nil stays nil. -/
theorem Tryd.cloneNode_nil (w : World) (c : Nat) :
    Calls Tryd.prog 37 #[.slice none 0 c] w fun e w' => e = .returned (.slice none 0 0) ∧ w' = w := by
  have hq : ∀ W : World, (binOp BinOp.eql 22 (.slice none 0 c) (.slice none 0 0)).run Tryd.prog W = .ok (.bool true) W := fun _ => by kernel_rfl
  go_enter Tryd.func37, Tryd.ntmps37
  go_wp2
  go_ret
  exact ⟨rfl, rfl⟩

set_option maxRecDepth 20000 in
set_option maxHeartbeats 4000000 in
theorem Tryd.cloneNode_any (ad : Addr) (n c : Nat) (xs : List Value) (w : World) (hl : xs.length = n * 5) (hx : ∀ j v, xs[j]? = some v → w.cell? (ad.add j) = some v) (h1 : ∀ v ∈ xs, v.oneCell' = true) (hb : 0 < n → ad.block < w.heap.size) (hn : n ≤ 1000000) :
    Calls Tryd.prog 37 #[.slice (some ad) n c] w fun e w' => ∃ g c', e = .returned (.slice (some ⟨g, 0, none⟩) n c') ∧ Hid (w.heap.size ≤ g ∧ (∃ cur, w'.heap[g]? = some (.cells cur 37 (0, 0)) ∧ cur.toList.take (n * 5) = xs) ∧ Below w.heap.size w w') := by
  obtain ⟨i0, hi, hz0, hz1, hz2⟩ := info_parts Tryd.infoNode
  have hq : ∀ W : World, (binOp BinOp.eql 22 (.slice (some ad) n c) (.slice none 0 0)).run Tryd.prog W = .ok (.bool false) W := fun _ => by kernel_rfl
  have HC : Hid (∀ j v, xs[j]? = some v → (w.alloc (.cells #[] 37)).cell? (ad.add j) = some v) := fun j v hv => by
    have hbl : Below w.heap.size w (w.alloc (.cells #[] 37)) := (Below.refl _ w).alloc (Nat.le_refl _) _
    rw [hbl.cell (p := ad.add j) (by rw [Nt.add_block]; exact hb (by have := (List.getElem?_eq_some_iff.1 hv).1; omega))]
    exact hx j v hv
  have H1 : Hid (∀ v, v ∈ xs → v.oneCell' = true) := h1
  have HO : Hid ((w.alloc (.cells #[] 37)).ownsRow w.heap.size 37 5 (.slice (some ⟨w.heap.size, 0, none⟩) 0 0) 0 []) := World.ownsRow_made w #[] 0 (Nat.le_refl _) (by unfold maxLen; omega) rfl
  have HL : Hid (xs.length = n * 5) := hl
  clear hx h1 hb hl
  go_enter Tryd.func37, Tryd.ntmps37
  go_wp2_with (at_builtin; refine wpList_append_own _ rfl _ _ 22 rfl w.heap.size 37 i0 (.agg #[.int .i64 0, .int .i64 0, .int .i64 0, .int .i64 0, .slice none 0 0]) 5 56 Tryd.underlying22 hi hz0 hz1 hz2 rfl (by decide) _ 0 [] rfl HO.out ad n c xs rfl HL.out HC.out H1.out ?c3 ?c4 ?c5 ?_)
  case c3 => unfold maxLen; omega
  case c4 => omega
  case c5 => simp
  intro v' W2 own2 g2 hne
  have HB : Hid (Below w.heap.size w W2) := Rk.below_grown ((Below.refl _ w).alloc (Nat.le_refl _) _) (by simp) HO.out g2
  rcases own2.2 with ⟨hv, _⟩ | ⟨g, cap, cur, rfl, hgB, hgc, _, _, _, hgr⟩
  · exact (hne hv).elim
  · have HV : Hid (w.heap.size ≤ g ∧ W2.heap[g]? = some (.cells cur 37 (0, 0)) ∧ cur.toList.take (n * 5) = xs) := ⟨hgB, hgc, by simpa using hgr⟩
    clear own2 g2 hne hgB hgc hgr
    go_wp2
    go_ret
    exact ⟨g, cap, by first | rfl | simp, HV.out.1, ⟨cur, HV.out.2⟩, HB.out⟩

theorem Tryd.infoFlow : (Tryd.prog.info? 47).map (fun i => (i.zero, i.size, i.bytes)) = some (some (.agg #[.int .i64 0, .int .i64 0, .bool false, .int .i64 0, .int .i64 0, .slice none 0 0]), 6, 64) := by kernel_rfl

set_option maxRecDepth 20000 in
set_option maxHeartbeats 4000000 in
/-- A slice that is nil stays nil. -/
theorem Tryd.cloneFlow_nil (w : World) (c : Nat) :
    Calls Tryd.prog 38 #[.slice none 0 c] w fun e w' => e = .returned (.slice none 0 0) ∧ w' = w := by
  have hq : ∀ W : World, (binOp BinOp.eql 23 (.slice none 0 c) (.slice none 0 0)).run Tryd.prog W = .ok (.bool true) W := fun _ => by kernel_rfl
  go_enter Tryd.func38, Tryd.ntmps38
  go_wp2
  go_ret
  exact ⟨rfl, rfl⟩

set_option maxRecDepth 20000 in
set_option maxHeartbeats 4000000 in
theorem Tryd.cloneFlow_any (ad : Addr) (n c : Nat) (xs : List Value) (w : World) (hl : xs.length = n * 6) (hx : ∀ j v, xs[j]? = some v → w.cell? (ad.add j) = some v) (h1 : ∀ v ∈ xs, v.oneCell' = true) (hb : 0 < n → ad.block < w.heap.size) (hn : n ≤ 1000000) :
    Calls Tryd.prog 38 #[.slice (some ad) n c] w fun e w' => ∃ g c', e = .returned (.slice (some ⟨g, 0, none⟩) n c') ∧ Hid (w.heap.size ≤ g ∧ (∃ cur, w'.heap[g]? = some (.cells cur 47 (0, 0)) ∧ cur.toList.take (n * 6) = xs) ∧ Below w.heap.size w w') := by
  obtain ⟨i0, hi, hz0, hz1, hz2⟩ := info_parts Tryd.infoFlow
  have hq : ∀ W : World, (binOp BinOp.eql 23 (.slice (some ad) n c) (.slice none 0 0)).run Tryd.prog W = .ok (.bool false) W := fun _ => by kernel_rfl
  have HC : Hid (∀ j v, xs[j]? = some v → (w.alloc (.cells #[] 47)).cell? (ad.add j) = some v) := fun j v hv => by
    have hbl : Below w.heap.size w (w.alloc (.cells #[] 47)) := (Below.refl _ w).alloc (Nat.le_refl _) _
    rw [hbl.cell (p := ad.add j) (by rw [Nt.add_block]; exact hb (by have := (List.getElem?_eq_some_iff.1 hv).1; omega))]
    exact hx j v hv
  have H1 : Hid (∀ v, v ∈ xs → v.oneCell' = true) := h1
  have HO : Hid ((w.alloc (.cells #[] 47)).ownsRow w.heap.size 47 6 (.slice (some ⟨w.heap.size, 0, none⟩) 0 0) 0 []) := World.ownsRow_made w #[] 0 (Nat.le_refl _) (by unfold maxLen; omega) rfl
  have HL : Hid (xs.length = n * 6) := hl
  clear hx h1 hb hl
  go_enter Tryd.func38, Tryd.ntmps38
  go_wp2_with (at_builtin; refine wpList_append_own _ rfl _ _ 23 rfl w.heap.size 47 i0 (.agg #[.int .i64 0, .int .i64 0, .bool false, .int .i64 0, .int .i64 0, .slice none 0 0]) 6 64 Tryd.underlying23 hi hz0 hz1 hz2 rfl (by decide) _ 0 [] rfl HO.out ad n c xs rfl HL.out HC.out H1.out ?c3 ?c4 ?c5 ?_)
  case c3 => unfold maxLen; omega
  case c4 => omega
  case c5 => simp
  intro v' W2 own2 g2 hne
  have HB : Hid (Below w.heap.size w W2) := Rk.below_grown ((Below.refl _ w).alloc (Nat.le_refl _) _) (by simp) HO.out g2
  rcases own2.2 with ⟨hv, _⟩ | ⟨g, cap, cur, rfl, hgB, hgc, _, _, _, hgr⟩
  · exact (hne hv).elim
  · have HV : Hid (w.heap.size ≤ g ∧ W2.heap[g]? = some (.cells cur 47 (0, 0)) ∧ cur.toList.take (n * 6) = xs) := ⟨hgB, hgc, by simpa using hgr⟩
    clear own2 g2 hne hgB hgc hgr
    go_wp2
    go_ret
    exact ⟨g, cap, by first | rfl | simp, HV.out.1, ⟨cur, HV.out.2⟩, HB.out⟩

theorem Tryd.infoTerm : (Tryd.prog.info? 35).map (fun i => (i.zero, i.size, i.bytes)) = some (some (.agg #[.int .i64 0, .int .i64 0, .slice none 0 0]), 3, 40) := by kernel_rfl

set_option maxRecDepth 20000 in
set_option maxHeartbeats 4000000 in
/-- A slice that is nil stays nil. -/
theorem Tryd.cloneTerm_nil (w : World) (c : Nat) :
    Calls Tryd.prog 61 #[.slice none 0 c] w fun e w' => e = .returned (.slice none 0 0) ∧ w' = w := by
  have hq : ∀ W : World, (binOp BinOp.eql 33 (.slice none 0 c) (.slice none 0 0)).run Tryd.prog W = .ok (.bool true) W := fun _ => by kernel_rfl
  go_enter Tryd.func61, Tryd.ntmps61
  go_wp2
  go_ret
  exact ⟨rfl, rfl⟩

set_option maxRecDepth 20000 in
set_option maxHeartbeats 4000000 in
theorem Tryd.cloneTerm_any (ad : Addr) (n c : Nat) (xs : List Value) (w : World) (hl : xs.length = n * 3) (hx : ∀ j v, xs[j]? = some v → w.cell? (ad.add j) = some v) (h1 : ∀ v ∈ xs, v.oneCell' = true) (hb : 0 < n → ad.block < w.heap.size) (hn : n ≤ 1000000) :
    Calls Tryd.prog 61 #[.slice (some ad) n c] w fun e w' => ∃ g c', e = .returned (.slice (some ⟨g, 0, none⟩) n c') ∧ Hid (w.heap.size ≤ g ∧ (∃ cur, w'.heap[g]? = some (.cells cur 35 (0, 0)) ∧ cur.toList.take (n * 3) = xs) ∧ Below w.heap.size w w') := by
  obtain ⟨i0, hi, hz0, hz1, hz2⟩ := info_parts Tryd.infoTerm
  have hq : ∀ W : World, (binOp BinOp.eql 33 (.slice (some ad) n c) (.slice none 0 0)).run Tryd.prog W = .ok (.bool false) W := fun _ => by kernel_rfl
  have HC : Hid (∀ j v, xs[j]? = some v → (w.alloc (.cells #[] 35)).cell? (ad.add j) = some v) := fun j v hv => by
    have hbl : Below w.heap.size w (w.alloc (.cells #[] 35)) := (Below.refl _ w).alloc (Nat.le_refl _) _
    rw [hbl.cell (p := ad.add j) (by rw [Nt.add_block]; exact hb (by have := (List.getElem?_eq_some_iff.1 hv).1; omega))]
    exact hx j v hv
  have H1 : Hid (∀ v, v ∈ xs → v.oneCell' = true) := h1
  have HO : Hid ((w.alloc (.cells #[] 35)).ownsRow w.heap.size 35 3 (.slice (some ⟨w.heap.size, 0, none⟩) 0 0) 0 []) := World.ownsRow_made w #[] 0 (Nat.le_refl _) (by unfold maxLen; omega) rfl
  have HL : Hid (xs.length = n * 3) := hl
  clear hx h1 hb hl
  go_enter Tryd.func61, Tryd.ntmps61
  go_wp2_with (at_builtin; refine wpList_append_own _ rfl _ _ 33 rfl w.heap.size 35 i0 (.agg #[.int .i64 0, .int .i64 0, .slice none 0 0]) 3 40 Tryd.underlying33 hi hz0 hz1 hz2 rfl (by decide) _ 0 [] rfl HO.out ad n c xs rfl HL.out HC.out H1.out ?c3 ?c4 ?c5 ?_)
  case c3 => unfold maxLen; omega
  case c4 => omega
  case c5 => simp
  intro v' W2 own2 g2 hne
  have HB : Hid (Below w.heap.size w W2) := Rk.below_grown ((Below.refl _ w).alloc (Nat.le_refl _) _) (by simp) HO.out g2
  rcases own2.2 with ⟨hv, _⟩ | ⟨g, cap, cur, rfl, hgB, hgc, _, _, _, hgr⟩
  · exact (hne hv).elim
  · have HV : Hid (w.heap.size ≤ g ∧ W2.heap[g]? = some (.cells cur 35 (0, 0)) ∧ cur.toList.take (n * 3) = xs) := ⟨hgB, hgc, by simpa using hgr⟩
    clear own2 g2 hne hgB hgc hgr
    go_wp2
    go_ret
    exact ⟨g, cap, by first | rfl | simp, HV.out.1, ⟨cur, HV.out.2⟩, HB.out⟩

end Go.Proofs
