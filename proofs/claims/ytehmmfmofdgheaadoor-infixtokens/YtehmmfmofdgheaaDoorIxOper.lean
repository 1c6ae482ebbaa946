/-
  infix: the contracts of the reader's place and operator, and of least.
-/
import Derived.Test.YtehmmfmofdgheaaDoorIxSkip
namespace Go.Proofs
open Go.RowKit

def Ix.placeL (e0 : Nat) : List Ix.Tok → Nat | [] => e0 | x :: _ => x.at_
set_option maxHeartbeats 4000000 in
theorem Tryd.iplace_any (B b : Nat) (l : List Ix.Tok) (e0 : Nat) (w : World) (h : Ix.At B b l w) :
    Calls Tryd.prog 25 #[.pointer (some ⟨b, 0, none⟩), .int .i64 e0] w fun e w' => e = .returned (.int .i64 ((Ix.placeL e0 l : Nat))) ∧ w' = w := by
  obtain ⟨a, cap, h1, h2, h3, h4, h5, h6⟩ := h
  have c0 : w.cell? ⟨b, 0, none⟩ = some (.slice a l.length cap) := by simp [World.cell?, h1]
  cases l with
  | nil =>
    simp only [List.length_nil] at c0
    clear h1 h6
    go_enter Tryd.func25, Tryd.ntmps25
    go_wp2
    go_ret
    exact ⟨rfl, rfl⟩
  | cons x l =>
    obtain ⟨g, off, rfl, hg, hr⟩ := h6.resolve_left (List.cons_ne_nil _ _)
    obtain ⟨r0, r1, r2⟩ := hr 0 (by simp)
    simp only [List.getElem_cons_zero, Nat.zero_mul, Nat.add_zero] at r0 r1 r2
    obtain ⟨n, hn⟩ : ∃ n, l.length = n := ⟨_, rfl⟩
    simp only [List.length_cons, hn] at c0 h2 h4
    clear hr h1 hn
    go_enter Tryd.func25, Tryd.ntmps25
    go_wp2
    go_ret
    exact ⟨rfl, rfl⟩

/-- The loosest row of what may stand beside an operator. -/
def Ix.leastR (r p : Nat) : Nat := if r = 3 ∨ r = 7 ∨ ((r = 1 ∨ r = 2 ∨ r = 5 ∨ r = 6) ∧ p = 0) then r else r + 1
theorem Ix.stand_cell {w : World} (h : Ix.Tabs w) (r : Nat) (h8 : r < 8) : w.cell? ⟨0, r, none⟩ = some (.int .i64 (([0, 1, 1, 3, 2, 1, 1, 3] : List Int).getD r 0)) := by
  obtain ⟨_, t, fz, h⟩ := h
  obtain rfl | rfl | rfl | rfl | rfl | rfl | rfl | rfl : r = 0 ∨ r = 1 ∨ r = 2 ∨ r = 3 ∨ r = 4 ∨ r = 5 ∨ r = 6 ∨ r = 7 := by omega
  all_goals
    simp only [World.cell?, h]
    rfl

set_option maxHeartbeats 4000000 in
theorem Tryd.least_any (r p : Nat) (w : World) (h : Ix.Tabs w) (h1 : 1 ≤ r) (h7 : r ≤ 7) (hp : p ≤ 1) :
    Calls Tryd.prog 62 #[.int .i64 r, .int .i64 p] w fun e w' => e = .returned (.int .i64 (Ix.leastR r p : Nat)) ∧ w' = w := by
  have c0 := Ix.stand_cell h r (by omega)
  obtain rfl | rfl : p = 0 ∨ p = 1 := by omega
  all_goals
    obtain rfl | rfl | rfl | rfl | rfl | rfl | rfl : r = 1 ∨ r = 2 ∨ r = 3 ∨ r = 4 ∨ r = 5 ∨ r = 6 ∨ r = 7 := by omega
    all_goals
      simp only [List.getD_cons_succ, List.getD_cons_zero] at c0
      go_enter Tryd.func62, Tryd.ntmps62
      go_wp2
      go_ret
      exact ⟨rfl, rfl⟩

theorem Ix.row5 {W : World} {q : Nat} {a b c d e : Value} {T : TypeId} (h : W.heap[q]? = some (.cells #[a, b, c, d, e] T (0, 0))) :
    (W.cell? ⟨q, 0, none⟩ = some a ∧ W.cell? ⟨q, 1, none⟩ = some b ∧ W.cell? ⟨q, 2, none⟩ = some c ∧ W.cell? ⟨q, 3, none⟩ = some d ∧ W.cell? ⟨q, 4, none⟩ = some e) ∧
      (W.frozen? ⟨q, 0, none⟩ = false ∧ W.frozen? ⟨q, 1, none⟩ = false ∧ W.frozen? ⟨q, 2, none⟩ = false ∧ W.frozen? ⟨q, 3, none⟩ = false ∧ W.frozen? ⟨q, 4, none⟩ = false) := by
  simp [World.cell?, World.frozen?, h]
theorem Ix.results_op {fn : Func} {p u : Tmp} (h : fn.results = #[.cell p 88, .tmp u]) (tmps : Array Value) (w : World) (q : Nat) (cs : Array Value)
    (hp : tmps.getD p undef = .pointer (some ⟨q, 0, none⟩)) (hq : w.heap[q]? = some (.cells cs 88 (0, 0))) (hs : cs.size = 5) :
    (results fn tmps).run Tryd.prog w = .ok (.tuple #[.agg cs, tmps.getD u undef]) w := by
  have hp' : tmps[p]?.getD undef = .pointer (some ⟨q, 0, none⟩) := by simpa using hp
  have hi : (Tryd.prog.info? 88).map (·.size) = some cs.size := by rw [hs]; kernel_rfl
  have hr := run_loadVar_row (P := Tryd.prog) w q 88 88 cs (0, 0) _ hq Tryd.underlying88 rfl hi
  simp [results, h, hp', asAddr, hr]
theorem Ix.setRow_but {E : Nat → Prop} {a w : World} (h : Tk.But E a w) {g : Nat} (hg : E g ∨ a.heap.size ≤ g) (cs : Array Value) : Tk.But E a (w.setRow g cs) :=
  ⟨h.os, h.tape, h.output, by simpa [World.setRow] using h.size, fun k hk hne => by
    have hkg : k ≠ g := by rintro rfl; rcases hg with hg | hg; exact hne hg; omega
    rw [← h.block k hk hne]
    simp only [World.setRow, Array.getElem?_modify]
    rw [if_neg (by omega)]⟩
theorem Ix.setRow_other {w : World} {g k : Nat} (h : k ≠ g) (cs : Array Value) : (w.setRow g cs).heap[k]? = w.heap[k]? := by
  simp only [World.setRow, Array.getElem?_modify]
  rw [if_neg (by omega)]

def Ix.opZero : Array Value := #[.int .i64 0, .string ⟨#[]⟩, .int .i64 0, .bool false, .bool false]
/-- What operator answers. -/
def Ix.Opd (B b r : Nat) (l : List Ix.Tok) (w : World) (e : Ending) (w' : World) : Prop :=
  Tk.But (fun k => k = b) w w' ∧ match Ix.opHead r (l.map Ix.kt) with
    | some (o, _) => e = .returned (.tuple #[.agg (Ix.opRow o), .bool true]) ∧ Ix.At B b (l.drop 1) w'
    | none => e = .returned (.tuple #[.agg Ix.opZero, .bool false]) ∧ Ix.At B b l w'
theorem Ix.find_hit (r : Nat) (l : List Ix.Tok) (k : Nat) (hk : k < 15) (h1 : (Ix.opN k).row = r) (h2 : Ix.headB l (Ix.opN k).text = true) (hn : ∀ j, j < k → ¬ ((Ix.opN j).row = r ∧ Ix.headB l (Ix.opN j).text = true)) :
    Ix.opHead r (l.map Ix.kt) = some (Ix.opN k, (l.map Ix.kt).drop 1) := by
  cases l with
  | nil => cases h2
  | cons x l =>
    have hg : ∀ j (h : j < 15), Ix.opN j = Ix.ops[j]'h := fun j h => by
      unfold Ix.opN
      rw [List.getD_eq_getElem?_getD, List.getElem?_eq_getElem (by exact h), Option.getD_some]
    have hb : ∀ j, Ix.headB (x :: l) (Ix.opN j).text = (x.text == (Ix.opN j).text) := fun _ => rfl
    simp only [List.map_cons, Ix.opHead, Ix.findO, Ix.kt, List.drop_one, List.tail_cons]
    have : (Ix.ops.find? fun o => o.row == r && o.text == x.text) = some (Ix.opN k) := by
      rw [List.find?_eq_some_iff_getElem]
      refine ⟨?_, k, hk, (hg k hk).symm, fun j hj => ?_⟩
      · rw [hb] at h2
        rw [h1, beq_iff_eq.1 h2]; simp
      · have := hn j hj
        rw [hb, hg j (by omega)] at this
        simp only [Bool.not_eq_true', Bool.and_eq_false_iff, beq_eq_false_iff_ne]
        by_cases hr : (Ix.ops[j]'(by show j < 15; omega)).row = r
        · right
          intro e
          exact this ⟨hr, beq_iff_eq.2 e.symm⟩
        · exact .inl hr
    rw [this]
    rfl
theorem Ix.find_none (r : Nat) (l : List Ix.Tok) (hn : ∀ j, j < 15 → ¬ ((Ix.opN j).row = r ∧ Ix.headB l (Ix.opN j).text = true)) : Ix.opHead r (l.map Ix.kt) = none := by
  cases l with
  | nil => rfl
  | cons x l =>
    simp only [List.map_cons, Ix.opHead, Ix.findO, Ix.kt, Option.map_eq_none_iff, List.find?_eq_none]
    intro o ho
    obtain ⟨j, hj, rfl⟩ := List.getElem_of_mem ho
    have hg : Ix.opN j = Ix.ops[j]'hj := by
      unfold Ix.opN
      rw [List.getD_eq_getElem?_getD, List.getElem?_eq_getElem hj, Option.getD_some]
    have := hn j hj
    rw [hg] at this
    intro h
    simp only [Bool.and_eq_true, beq_iff_eq] at h
    exact this ⟨h.1, by show (x.text == _) = true; rw [h.2]; simp⟩

set_option maxHeartbeats 4000000 in
set_option maxRecDepth 20000 in
theorem Tryd.operator_any (B b r : Nat) (l : List Ix.Tok) (w : World) (h : Ix.At B b l w) (hT : Ix.Tabs w) (hr : r ≤ 8) :
    Calls Tryd.prog 61 #[.pointer (some ⟨b, 0, none⟩), .int .i64 r] w fun e w' => Ix.Opd B b r l w e w' := by
  obtain ⟨w0, hw0⟩ : ∃ x, w.alloc (.cells Ix.opZero 88) = x := ⟨_, rfl⟩
  have HW0 : Hid (w.alloc (.cells #[.int .i64 0, .string ⟨#[]⟩, .int .i64 0, .bool false, .bool false] 88) = w0) := hw0
  have HA0 : Hid (Ix.At B b l w0) := by rw [← hw0]; exact h.below ((Below.refl _ w).alloc (Nat.le_refl _) _)
  have HB0 : Hid (Tk.But (fun k => k = b) w w0) := by rw [← hw0]; exact (Tk.But.refl _ w).alloc _
  have HN0 : Hid (w0.heap[w.heap.size]? = some (.cells Ix.opZero 88 (0, 0))) := by rw [← hw0]; exact heap_alloc_new w _
  obtain ⟨⟨t, fz, hE0⟩, _⟩ := hT
  have hE : w0.heap[2]? = some (.cells Ix.opVals t fz) := by rw [← hw0, Below.heap_alloc _ _ _ (Array.getElem?_eq_some_iff.1 hE0).1]; exact hE0
  have HLT : Hid (b < w.heap.size) := h.lt
  have hu := Tryd.underlying113
  clear h hw0 hE0
  go_enter Tryd.func61, Tryd.ntmps61
  go_upto_region 1 with fail
  rw [HW0.out]
  go_wp2_with (refine wpList_load_row rfl 113 _ rfl 2 rfl t Ix.opVals fz _ hE hu rfl (by kernel_rfl) ?_)
  clear hE
  go_loopg [9] 15 (fun g i wr => ∃ k : Nat, g + k = 15 ∧ i = .int .i64 k ∧ Hid (Tk.But (fun k => k = b) w wr ∧ wr.heap[w.heap.size]? = some (.cells Ix.opZero 88 (0, 0)) ∧ Ix.At B b l wr ∧ ∀ j : Nat, j < k → ¬ ((Ix.opN j).row = r ∧ Ix.headB l (Ix.opN j).text = true)))
  case atStart => exact ⟨0, by omega, rfl, HB0.out, HN0.out, HA0.out, fun j hj => by omega⟩
  case round =>
    obtain ⟨k, hg, rfl, HI⟩ := hrel
    by_cases hk : k < 15
    · have ix := Ix.ops_index k hk
      obtain ⟨o, ho⟩ : ∃ o, Ix.opN k = o := ⟨_, rfl⟩
      have HO : Hid (Ix.opN k = o) := ho
      rw [ho] at ix
      obtain ⟨orow, otx, oop, osw, ode⟩ := o
      obtain ⟨tx, htx⟩ : ∃ s : ByteArray, s = ⟨otx.toArray⟩ := ⟨_, rfl⟩
      simp only [Ix.opRow] at ix
      rw [← htx] at ix
      have HTX : Hid (tx = ⟨otx.toArray⟩) := htx
      have N1 : Hid ((wr.alloc (.cells #[.int .i64 orow, .string tx, .int .i64 oop, .bool osw, .bool ode] 88)).heap[wr.heap.size]? = some (.cells #[.int .i64 orow, .string tx, .int .i64 oop, .bool osw, .bool ode] 88 (0, 0))) := heap_alloc_new wr _
      obtain ⟨⟨z0, z1, z2, z3, z4⟩, -⟩ := Ix.row5 N1.out
      have HB1 : Hid (Below wr.heap.size wr (wr.alloc (.cells #[.int .i64 orow, .string tx, .int .i64 oop, .bool osw, .bool ode] 88))) := (Below.refl _ wr).alloc (Nat.le_refl _) _
      have HS1 : Hid ((wr.alloc (.cells #[.int .i64 orow, .string tx, .int .i64 oop, .bool osw, .bool ode] 88)).heap.size = wr.heap.size + 1) := by show _ = _; simp
      clear ho htx
      by_cases hrow : orow = r
      · subst hrow
        have e1 : ((orow : Int) == orow) = true := by simp
        obtain ⟨hb, hhb⟩ : ∃ z, Ix.headB l otx = z := ⟨_, rfl⟩
        have h1 := Tryd.iskip_any B b l tx _ (HI.out.2.2.1.below HB1.out)
        rw [show tx.data.toList = otx by rw [HTX.out], hhb] at h1
        have H1 : Hid _ := h1
        have HHB : Hid (Ix.headB l otx = hb) := hhb
        clear h1 hhb
        go_wp2_with fail
        refine Calls.mono H1.out ?_
        rintro e W2 ⟨rfl, A2, b2⟩
        have HA2 : Hid (Ix.At B b (Ix.skipL l otx) W2) := A2
        have hN2 := (b2.block wr.heap.size (by rw [HS1.out]; omega) (by have := HI.out.1.size; have := HLT.out; omega)).trans N1.out
        have HR2 : Hid (W2.heap[w.heap.size]? = some (.cells Ix.opZero 88 (0, 0))) := by
          have hlt := (Array.getElem?_eq_some_iff.1 HI.out.2.1).1
          exact (b2.block _ (by rw [HS1.out]; omega) (by have := HLT.out; omega)).trans ((HB1.out.block _ hlt).trans HI.out.2.1)
        have HBB : Hid (Tk.But (fun k => k = b) w W2) := HI.out.1.trans ((Tk.But.of_below HB1.out).trans b2)
        obtain ⟨⟨z0, z1, z2, z3, z4⟩, -⟩ := Ix.row5 hN2
        clear A2 b2
        cases hb with
        | true =>
          have HF : Hid (Ix.opHead orow (l.map Ix.kt) = some (⟨orow, otx, oop, osw, ode⟩, (l.map Ix.kt).drop 1)) := by
            have := Ix.find_hit orow l k hk (by rw [HO.out]) (by rw [HO.out]; exact HHB.out) HI.out.2.2.2
            rw [HO.out] at this
            exact this
          have hsk : Ix.skipL l otx = l.drop 1 := by unfold Ix.skipL; rw [if_pos HHB.out]
          have HAD : Hid (Ix.At B b (l.drop 1) W2) := by rw [← hsk]; exact HA2.out
          go_wp2_with (refine wpList_store_row rfl 88 _ _ rfl w.heap.size #[.int .i64 orow, .string tx, .int .i64 oop, .bool osw, .bool ode] rfl rfl 88 _ HR2.out (by kernel_rfl) rfl (by kernel_rfl) ?_)
          refine bodyPost_ret (Ix.results_op Tryd.results61 _ _ w.heap.size #[.int .i64 orow, .string tx, .int .i64 oop, .bool osw, .bool ode] rfl (setRow_heap _ _ _ _ _ _ HR2.out) rfl) rfl ⟨Ix.setRow_but HBB.out (.inr (Nat.le_refl _)) _, ?_⟩
          rw [HF.out]
          refine ⟨by rw [HTX.out]; rfl, HAD.out.keep (fun k hk => Ix.setRow_other (by have := HAD.out.base; have := HLT.out; omega) _) (Ix.setRow_other (by have := HLT.out; omega) _)⟩
        | false =>
          have hsk : Ix.skipL l otx = l := by unfold Ix.skipL; rw [if_neg (by rw [HHB.out]; decide)]
          have HAD : Hid (Ix.At B b l W2) := by have := HA2.out; rw [hsk] at this; exact this
          clear hsk
          go_wp2
          go_roundg (gk - 1)
          case measure => omega
          case rel =>
            refine ⟨k + 1, by omega, by go_num, HBB.out, HR2.out, HAD.out, fun j hj => ?_⟩
            by_cases e : j = k
            · subst e; rw [HO.out]; intro h; rw [HHB.out] at h; cases h.2
            · exact HI.out.2.2.2 j (by omega)
      · have e1 : ((orow : Int) == (r : Int)) = false := by rw [beq_eq_false_iff_ne]; omega
        have HRW : Hid (orow ≠ r) := hrow
        clear hrow
        go_wp2
        go_roundg (gk - 1)
        case measure => omega
        case rel =>
          refine ⟨k + 1, by omega, by go_num, HI.out.1.trans (Tk.But.of_below HB1.out), (HB1.out.block _ (Array.getElem?_eq_some_iff.1 HI.out.2.1).1).trans HI.out.2.1, HI.out.2.2.1.below HB1.out, fun j hj => ?_⟩
          by_cases e : j = k
          · subst e; rw [HO.out]; exact fun h => HRW.out h.1
          · exact HI.out.2.2.2 j (by omega)
    · have HF : Hid (Ix.opHead r (l.map Ix.kt) = none) := Ix.find_none r l fun j hj => HI.out.2.2.2 j (by omega)
      go_wp2_with (refine wpList_store_row rfl 88 _ _ rfl w.heap.size Ix.opZero rfl rfl 88 _ HI.out.2.1 (by kernel_rfl) rfl (by kernel_rfl) ?_)
      refine bodyPost_ret (Ix.results_op Tryd.results61 _ _ w.heap.size Ix.opZero rfl (setRow_heap _ _ _ _ _ _ HI.out.2.1) rfl) rfl ⟨Ix.setRow_but HI.out.1 (.inr (Nat.le_refl _)) _, ?_⟩
      rw [HF.out]
      exact ⟨rfl, HI.out.2.2.1.keep (fun k hk => Ix.setRow_other (by have := HI.out.2.2.1.base; have := HLT.out; omega) _) (Ix.setRow_other (by have := HLT.out; omega) _)⟩

end Go.Proofs
