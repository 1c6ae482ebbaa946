/-
  The contract of leaf.
-/
import Derived.Test.YtehmmfmofdgheaaDoorTNamed
import Derived.Laws.ResultCell
namespace Go.Proofs
open Go.RowKit

theorem Tk.Ops.tx2 {w : World} (h : Tk.Ops w) : w.cell? ⟨1, 10, none⟩ = some (.string ⟨#[36]⟩) := by
  obtain ⟨t, fz, h⟩ := h
  simp only [World.cell?, h]; rfl
theorem Tk.Ops.m1 {w : World} (h : Tk.Ops w) : w.cell? ⟨1, 8, none⟩ = some (.int .i64 1099511627776) := by
  obtain ⟨t, fz, h⟩ := h
  simp only [World.cell?, h]; rfl
theorem Tk.Ops.m2 {w : World} (h : Tk.Ops w) : w.cell? ⟨1, 13, none⟩ = some (.int .i64 3) := by
  obtain ⟨t, fz, h⟩ := h
  simp only [World.cell?, h]; rfl
theorem Tk.put3 {W : World} {q : Nat} {x y z a b c : Value} {T : TypeId} (h : W.heap[q]? = some (.cells #[x, y, z] T (0, 0))) :
    (((W.setCell ⟨q, 0, none⟩ a).setCell ⟨q, 1, none⟩ b).setCell ⟨q, 2, none⟩ c).heap[q]? = some (.cells #[a, b, c] T (0, 0)) := by
  simp [World.setCell, Array.getElem?_modify, h]
/-- A term of three in a result's cell, and a truth beside it. -/
theorem Tk.results_term {fn : Func} {p u : Tmp} (h : fn.results = #[.cell p 37, .tmp u]) (tmps : Array Value) (w : World) (q : Nat) (a b c : Value)
    (hp : tmps.getD p undef = .pointer (some ⟨q, 0, none⟩)) (hq : w.heap[q]? = some (.cells #[a, b, c] 37 (0, 0))) :
    (results fn tmps).run Tryd.prog w = .ok (.tuple #[.agg #[a, b, c], tmps.getD u undef]) w := by
  have hp' : tmps[p]?.getD undef = .pointer (some ⟨q, 0, none⟩) := by simpa using hp
  have hr := run_loadVar_row (P := Tryd.prog) w q 37 37 #[a, b, c] (0, 0) _ hq Tryd.underlying37 rfl (by kernel_rfl)
  simp [results, h, hp', asAddr, hr]
theorem Tk.bsetCell {B : Nat} {a w : World} (h : Below B a w) {p : Addr} (hp : B ≤ p.block) (u : Value) : Below B a (w.setCell p u) :=
  h.trans ⟨rfl, rfl, rfl, by simp [World.setCell], fun k hk => Below.heap_setCell _ _ _ _ (by omega)⟩

theorem Tk.leafL_eq (l : List UInt8) : Tk.leafL l = if Lib.hasPrefix l [36] = true then (Tk.digL 3 (l.drop 1)).map (fun n : Nat => Tm.mk 2 (n : Int) []) else (Tk.digL 1099511627776 l).map fun n : Nat => Tm.mk 1 (n : Int) [] := by
  unfold Tk.leafL
  split
  · cases Tk.digL 3 (l.drop 1) <;> rfl
  · cases Tk.digL 1099511627776 l <;> rfl
/-- leaf's answer. -/
def Tk.leafV (o : Option Tm) : Value := match o with | none => .tuple #[.agg #[.int .i64 0, .int .i64 0, .slice none 0 0], .bool false] | some t => .tuple #[.agg #[.int .i64 t.op, .int .i64 t.num, .slice none 0 0], .bool true]

set_option maxHeartbeats 2000000 in
set_option maxRecDepth 20000 in
theorem Tryd.leaf_any (l : List UInt8) (w : World) (h : Tk.Ops w) (hl : l.length ≤ 20000) :
    Calls Tryd.prog 84 #[.string ⟨l.toArray⟩] w fun e w' => e = .returned (Tk.leafV (Tk.leafL l)) ∧ Below w.heap.size w w' := by
  have O1 : Tk.Ops (w.alloc (.cells #[.int .i64 0, .int .i64 0, .slice none 0 0] 37)) := h.below ((Below.refl w.heap.size w).alloc (Nat.le_refl _) _) h.lt
  have B1 : Hid (Below w.heap.size w (w.alloc (.cells #[.int .i64 0, .int .i64 0, .slice none 0 0] 37))) := (Below.refl w.heap.size w).alloc (Nat.le_refl _) _
  have N1 : Hid ((w.alloc (.cells #[.int .i64 0, .int .i64 0, .slice none 0 0] 37)).heap[w.heap.size]? = some (.cells #[.int .i64 0, .int .i64 0, .slice none 0 0] 37 (0, 0))) := heap_alloc_new w _
  have S1 : Hid ((w.alloc (.cells #[.int .i64 0, .int .i64 0, .slice none 0 0] 37)).heap.size = w.heap.size + 1) := by show _ = _; simp
  have t2 := O1.tx2
  have m1 := O1.m1
  have m2 := O1.m2
  obtain ⟨s, hs⟩ : ∃ s : ByteArray, s = ⟨l.toArray⟩ := ⟨_, rfl⟩
  have h1 : ∀ W, Calls Tryd.prog 88 #[.string s, .string ⟨#[36]⟩] W fun e w' => e = .returned (.tuple #[.string ⟨(Lib.trimPrefix l [36]).toArray⟩, .bool (Lib.hasPrefix l [36])]) ∧ w' = W := fun W => by
    rw [hs]; exact Tryd.cutPrefix ⟨l.toArray⟩ ⟨#[36]⟩ W
  obtain ⟨pb, hpb⟩ : ∃ b, Lib.hasPrefix l [36] = b := ⟨_, rfl⟩
  obtain ⟨d, hd⟩ : ∃ d, Lib.trimPrefix l [36] = d := ⟨_, rfl⟩
  obtain ⟨s2, hs2⟩ : ∃ s : ByteArray, s = ⟨d.toArray⟩ := ⟨_, rfl⟩
  rw [hpb, hd, ← hs2] at h1
  have H1 : Hid _ := h1
  obtain ⟨o, ho⟩ : ∃ o, Tk.digL (if pb = true then 3 else 1099511627776) d = o := ⟨_, rfl⟩
  have hdl : d.length ≤ 20000 := by
    rw [← hd]
    unfold Lib.trimPrefix
    split
    · rw [List.length_drop]; omega
    · exact hl
  have HX : Hid (Tk.leafL l = o.map fun n : Nat => Tm.mk (if pb = true then 2 else 1) (n : Int) []) := by
    show _ = _
    rw [Tk.leafL_eq, ← ho, ← hd, ← hpb]
    unfold Lib.trimPrefix
    cases hh : Lib.hasPrefix l [36] <;> rfl
  have h2 : ∀ W, Calls Tryd.prog 90 #[.string s2, .int .i64 (if pb = true then 3 else 1099511627776)] W fun e w' => e = .returned (.tuple #[.int .i64 (Tk.digV o).1, .bool (Tk.digV o).2]) ∧ Below W.heap.size W w' := fun W => by
    rw [hs2, ← ho]
    cases pb
    · exact Tryd.digits_any d 1099511627776 (by omega) W hdl
    · exact Tryd.digits_any d 3 (by omega) W hdl
  have H2 : Hid _ := h2
  rw [← hs]
  clear h hl O1 hs h1 hpb hd hs2 ho hdl h2
  go_enter Tryd.func84, Tryd.ntmps84
  go_wp2_with fail
  refine Calls.mono (H1.out _) ?_
  rintro e W1 ⟨rfl, rfl⟩
  cases pb
  all_goals
    go_wp2_with fail
    refine Calls.mono (H2.out _) ?_
    rintro e W2 ⟨rfl, hb2⟩
    have B2 : Hid (Below w.heap.size w W2) := B1.out.trans (hb2.mono (by have := S1.out; omega))
    have N2 : Hid _ := (hb2.block w.heap.size (by have := S1.out; omega)).trans N1.out
    clear hb2
    obtain ⟨⟨z0, z1, z2⟩, y0, y1, y2⟩ := Tk.row3 N2.out
    cases o with
    | none =>
      simp only [Tk.digV]
      go_wp2
      refine bodyPost_ret (Tk.results_term Tryd.results84 _ _ w.heap.size _ _ _ rfl (Tk.put3 N2.out)) rfl ⟨?_, ?_⟩
      · rw [HX.out]; rfl
      · exact Tk.bsetCell (Tk.bsetCell (Tk.bsetCell B2.out (Nat.le_refl _) _) (Nat.le_refl _) _) (Nat.le_refl _) _
    | some n =>
      simp only [Tk.digV]
      go_wp2
      refine bodyPost_ret (Tk.results_term Tryd.results84 _ _ w.heap.size _ _ _ rfl (Tk.put3 N2.out)) rfl ⟨?_, ?_⟩
      · rw [HX.out]; rfl
      · exact Tk.bsetCell (Tk.bsetCell (Tk.bsetCell B2.out (Nat.le_refl _) _) (Nat.le_refl _) _) (Nat.le_refl _) _

end Go.Proofs
