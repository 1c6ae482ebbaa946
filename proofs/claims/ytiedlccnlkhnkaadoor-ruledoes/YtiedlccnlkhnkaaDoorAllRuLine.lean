/-
  Steps of a drawn region taken one by one; the statements' example line: a start, a task, an end; its two rules.
-/
import Derived.Deep.RegionHeld3
import Derived.Test.YtiedlccnlkhnkaaDoorRuAll
import Derived.Test.YtiedlccnlkhnkaaDoorAllRuDo
import Derived.Test.YtiedlccnlkhnkaaDoorNtLine
namespace Go.Proofs
open Go

theorem Ru.put_some (ts : List Value) (ds : List Deferred) (d : Tmp) (v : Value) : Act.put ⟨ts.toArray, ds⟩ (some d) v = ⟨(ts.set d v).toArray, ds⟩ := by
  simp [Act.put]
theorem Ru.takeS {P : Program} {md : Region.Mode} {ops : Array Oper} {Q : Exit → Act → World → Prop} {S : World → Prop} (i : Nat) {oi : Oper} {v : Value} {fuel : Nat} {listed : Array Bool} {ts : List Value} {ds : List Deferred} {w : World} (d : Tmp) (hi : ops[i]? = some oi) (hd : oi.dst = some d)
    (hs : Region.noSelect ops = true) (hf : Region.free md ops listed i = true) (hr : (Region.ready md ops listed).contains i = true)
    (hQ : ∀ c a w, Q (.panic c) (a.put oi.dst v) w → Q (.panic c) a w) (hy : YieldsIf P ops S oi v ⟨ts.toArray, ds⟩) (hS : S w)
    (h : wpAnyH P md ops Q S fuel (listed.setIfInBounds i true) ⟨(ts.set d v).toArray, ds⟩ w) : wpAnyH P md ops Q S (fuel + 1) listed ⟨ts.toArray, ds⟩ w :=
  wpAnyH_take hi hs hf hr hQ hy hS (by rw [hd, Ru.put_some]; exact h)
theorem Ru.normS {P : Program} {md : Region.Mode} {ops : Array Oper} {Q : Exit → Act → World → Prop} {S : World → Prop} {fuel : Nat} {listed : Array Bool} {ts : List Value} {ds : List Deferred} {w : World} {o : Oper} {v : Value} (d : Tmp) (hd : o.dst = some d)
    (h : wpAnyH P md ops Q S fuel listed ⟨(ts.set d v).toArray, ds⟩ w) : wpAnyH P md ops Q S fuel listed (Act.put ⟨ts.toArray, ds⟩ o.dst v) w := by
  rw [hd, Ru.put_some]
  exact h

end Go.Proofs

namespace Go.Proofs
open Go.RowKit Go.Shelf

theorem Ru.line_rules : Ru.allP Nt.lineN Nt.lineF = [⟨1, 1, [0], [1]⟩, ⟨1, 2, [1], []⟩] := by kernel_rfl
def Ru.one : List Int := 1 :: List.replicate 39 0
def Ru.two : List Int := 0 :: 1 :: List.replicate 38 0
theorem Ru.one_arr : Ru.arr Ru.one = #[.int .i64 1, .int .i64 0, .int .i64 0, .int .i64 0, .int .i64 0, .int .i64 0, .int .i64 0, .int .i64 0, .int .i64 0, .int .i64 0, .int .i64 0, .int .i64 0, .int .i64 0, .int .i64 0, .int .i64 0, .int .i64 0, .int .i64 0, .int .i64 0, .int .i64 0, .int .i64 0, .int .i64 0, .int .i64 0, .int .i64 0, .int .i64 0, .int .i64 0, .int .i64 0, .int .i64 0, .int .i64 0, .int .i64 0, .int .i64 0, .int .i64 0, .int .i64 0, .int .i64 0, .int .i64 0, .int .i64 0, .int .i64 0, .int .i64 0, .int .i64 0, .int .i64 0, .int .i64 0] := by kernel_rfl
theorem Ru.one_fit : Ru.Fit Ru.one := ⟨by kernel_rfl, fun x hx => by
  rcases List.mem_cons.1 hx with rfl | hx
  · omega
  · have := List.eq_of_mem_replicate hx
    omega⟩
theorem Ru.two_fit : Ru.Fit Ru.two := ⟨by kernel_rfl, fun x hx => by
  rcases List.mem_cons.1 hx with rfl | hx
  · omega
  · rcases List.mem_cons.1 hx with rfl | hx
    · omega
    · have := List.eq_of_mem_replicate hx
      omega⟩
theorem Ru.line_do : Ru.doP Ru.one [0] [1] = (Ru.two, 0) := by kernel_rfl
theorem Ru.line_can : (Ru.without Ru.two [1]).isSome = true := by kernel_rfl
def Ru.twoL : List Value := Ru.two.map fun x => Value.int .i64 x
theorem Ru.two_eq (W : World) : (binOp BinOp.eql 56 (.agg Ru.twoL.toArray) (.agg #[.int .i64 0, .int .i64 1, .int .i64 0, .int .i64 0, .int .i64 0, .int .i64 0, .int .i64 0, .int .i64 0, .int .i64 0, .int .i64 0, .int .i64 0, .int .i64 0, .int .i64 0, .int .i64 0, .int .i64 0, .int .i64 0, .int .i64 0, .int .i64 0, .int .i64 0, .int .i64 0, .int .i64 0, .int .i64 0, .int .i64 0, .int .i64 0, .int .i64 0, .int .i64 0, .int .i64 0, .int .i64 0, .int .i64 0, .int .i64 0, .int .i64 0, .int .i64 0, .int .i64 0, .int .i64 0, .int .i64 0, .int .i64 0, .int .i64 0, .int .i64 0, .int .i64 0, .int .i64 0])).run Tryd.prog W = .ok (.bool true) W := by kernel_rfl
theorem Ru.range_of {W : World} {b : Nat} {T : List Int} (h : Ru.Arr W b T) : W.rangeAt b 0 (T.map fun x => Value.int .i64 x) := fun j v hv => by
  rw [Nat.zero_add]
  unfold Ru.Arr Ru.arr at h
  simp only [World.cell?, h]
  simpa using hv

set_option maxRecDepth 20000 in
set_option maxHeartbeats 8000000 in
theorem Tryd.line14_any (w : World) (hO : Tk.Ops w) : Calls Tryd.prog 16 #[] w fun e w' => e = .returned (.bool true) ∧ Below w.heap.size w w' := by
  obtain ⟨w1, hw1⟩ : ∃ x, ((w.alloc (.cells #[.int .i64 1, .int .i64 0, .int .i64 0, .int .i64 0, .slice none 0 0, .int .i64 3, .int .i64 0, .int .i64 0, .int .i64 0, .slice none 0 0, .int .i64 2, .int .i64 0, .int .i64 0, .int .i64 0, .slice none 0 0] 34)).alloc (.cells #[.int .i64 0, .int .i64 1, .bool false, .int .i64 0, .int .i64 0, .slice none 0 0, .int .i64 1, .int .i64 2, .bool false, .int .i64 0, .int .i64 0, .slice none 0 0] 36)).alloc (.cells #[.slice (some ⟨w.heap.size, 0, none⟩) 3 3, .slice (some ⟨w.heap.size + 1, 0, none⟩) 2 2] 25) = x := ⟨_, rfl⟩
  have A1 : Below w.heap.size w w1 := by rw [← hw1]; exact (((Below.refl _ w).alloc (Nat.le_refl _) _).alloc (by simp) _).alloc (by simp; omega) _
  have G0 : w1.heap[w.heap.size]? = some (.cells #[.int .i64 1, .int .i64 0, .int .i64 0, .int .i64 0, .slice none 0 0, .int .i64 3, .int .i64 0, .int .i64 0, .int .i64 0, .slice none 0 0, .int .i64 2, .int .i64 0, .int .i64 0, .int .i64 0, .slice none 0 0] 34 (0, 0)) := by
    rw [← hw1, Below.heap_alloc _ _ _ (by simp; omega), Below.heap_alloc _ _ _ (by simp)]; exact heap_alloc_new w _
  have G1 : w1.heap[w.heap.size + 1]? = some (.cells #[.int .i64 0, .int .i64 1, .bool false, .int .i64 0, .int .i64 0, .slice none 0 0, .int .i64 1, .int .i64 2, .bool false, .int .i64 0, .int .i64 0, .slice none 0 0] 36 (0, 0)) := by
    rw [← hw1, Below.heap_alloc _ _ _ (by simp)]
    have := heap_alloc_new (w.alloc (.cells #[.int .i64 1, .int .i64 0, .int .i64 0, .int .i64 0, .slice none 0 0, .int .i64 3, .int .i64 0, .int .i64 0, .int .i64 0, .slice none 0 0, .int .i64 2, .int .i64 0, .int .i64 0, .int .i64 0, .slice none 0 0] 34)) (.cells #[.int .i64 0, .int .i64 1, .bool false, .int .i64 0, .int .i64 0, .slice none 0 0, .int .i64 1, .int .i64 2, .bool false, .int .i64 0, .int .i64 0, .slice none 0 0] 36)
    simpa using this
  have G2 : w1.heap[w.heap.size + 1 + 1]? = some (.cells #[.slice (some ⟨w.heap.size, 0, none⟩) 3 3, .slice (some ⟨w.heap.size + 1, 0, none⟩) 2 2] 25 (0, 0)) := by
    rw [← hw1]
    have := heap_alloc_new ((w.alloc (.cells #[.int .i64 1, .int .i64 0, .int .i64 0, .int .i64 0, .slice none 0 0, .int .i64 3, .int .i64 0, .int .i64 0, .int .i64 0, .slice none 0 0, .int .i64 2, .int .i64 0, .int .i64 0, .int .i64 0, .slice none 0 0] 34)).alloc (.cells #[.int .i64 0, .int .i64 1, .bool false, .int .i64 0, .int .i64 0, .slice none 0 0, .int .i64 1, .int .i64 2, .bool false, .int .i64 0, .int .i64 0, .slice none 0 0] 36)) (.cells #[.slice (some ⟨w.heap.size, 0, none⟩) 3 3, .slice (some ⟨w.heap.size + 1, 0, none⟩) 2 2] 25)
    simpa using this
  have hH : Nt.Has w1 w1.heap.size 1 (some ⟨w.heap.size, 0, none⟩) (some ⟨w.heap.size + 1, 0, none⟩) Nt.lineN Nt.lineF := Nt.line_has G0 G1 2
  have hC1 := Tryd.rAll_any (some ⟨w.heap.size, 0, none⟩) 3 (some ⟨w.heap.size + 1, 0, none⟩) 2 1 Nt.lineN Nt.lineF w1 hH (hO.below A1 hO.lt)
  rw [Nt.line_check, Ru.line_rules] at hC1
  have C1 : Hid (Calls Tryd.prog 17 #[.agg #[.slice (some ⟨w.heap.size, 0, none⟩) 3 3, .slice (some ⟨w.heap.size + 1, 0, none⟩) 2 2]] w1 fun e w' => ∃ (g c : Nat) (a1 : Option Addr) (c1 : Nat) (a2 : Option Addr) (c2 : Nat) (a3 : Option Addr) (c3 : Nat) (a4 : Option Addr) (c4 : Nat), e = .returned (.tuple #[.slice (some ⟨g, 0, none⟩) 2 c, .int .i64 0]) ∧
      Hid (Below w1.heap.size w1 w' ∧ g < w'.heap.size ∧ Ru.Ints w' (.slice a1 1 c1) [0] ∧ Ru.Ints w' (.slice a2 1 c2) [1] ∧ Ru.Ints w' (.slice a3 1 c3) [1] ∧ Ru.Ints w' (.slice a4 0 c4) [] ∧
        w'.cell? ⟨g, 0, none⟩ = some (.int .i64 1) ∧ w'.cell? ⟨g, 1, none⟩ = some (.int .i64 1) ∧ w'.cell? ⟨g, 2, none⟩ = some (.slice a1 1 c1) ∧ w'.cell? ⟨g, 3, none⟩ = some (.slice a2 1 c2) ∧
        w'.cell? ⟨g, 4, none⟩ = some (.int .i64 1) ∧ w'.cell? ⟨g, 5, none⟩ = some (.int .i64 2) ∧ w'.cell? ⟨g, 6, none⟩ = some (.slice a3 1 c3) ∧ w'.cell? ⟨g, 7, none⟩ = some (.slice a4 0 c4))) := by
    refine Calls.mono hC1 fun e w' h => ?_
    obtain ⟨hb, ⟨h0, -⟩ | ⟨-, v, he, hrow⟩⟩ := h
    · exact absurd rfl h0
    · obtain ⟨a, c, rfl, hat⟩ := hrow.at
      obtain ⟨g, u1, u2, rfl, hg, d0, d1, d2, d3, i1, i2⟩ := hat 0 (by decide)
      obtain ⟨g', u3, u4, hgg, -, d4, d5, d6, d7, i3, i4⟩ := hat 1 (by decide)
      obtain rfl : g = g' := by simpa using hgg
      obtain ⟨a1, c1, rfl, -⟩ := id i1
      obtain ⟨a2, c2, rfl, -⟩ := id i2
      obtain ⟨a3, c3, rfl, -⟩ := id i3
      obtain ⟨a4, c4, rfl, -⟩ := id i4
      exact ⟨g, c, a1, c1, a2, c2, a3, c3, a4, c4, he, hb, hg, i1, i2, i3, i4, d0, d1, d2, d3, d4, d5, d6, d7⟩
  have H1 : Hid (((w.alloc (.cells #[.int .i64 1, .int .i64 0, .int .i64 0, .int .i64 0, .slice none 0 0, .int .i64 3, .int .i64 0, .int .i64 0, .int .i64 0, .slice none 0 0, .int .i64 2, .int .i64 0, .int .i64 0, .int .i64 0, .slice none 0 0] 34)).alloc (.cells #[.int .i64 0, .int .i64 1, .bool false, .int .i64 0, .int .i64 0, .slice none 0 0, .int .i64 1, .int .i64 2, .bool false, .int .i64 0, .int .i64 0, .slice none 0 0] 36)).alloc (.cells #[.slice (some ⟨w.heap.size, 0, none⟩) 3 3, .slice (some ⟨w.heap.size + 1, 0, none⟩) 2 2] 25) = w1) := hw1
  have HA : Hid (Below w.heap.size w w1) := A1
  obtain ⟨p0, p1⟩ := Nt.box2 G2
  have huR := Tryd.underlying53
  clear hw1 A1 G0 G1 G2 hO hH hC1
  go_enter Tryd.func16, Tryd.ntmps16
  go_upto_region 2 with fail
  rw [H1.out]
  go_wp2_with fail
  refine Calls.mono C1.out ?_
  rintro e W1 ⟨g, c, a1, c1, a2, c2, a3, c3, a4, c4, rfl, X1⟩
  clear p0 p1 C1 H1
  obtain ⟨-, -, -, -, -, -, d0, d1, d2, d3, -⟩ := X1.out
  have C2 : Hid (Calls Tryd.prog 20 #[.agg #[.int .i64 1, .int .i64 1, .slice a1 1 c1, .slice a2 1 c2], .agg #[.int .i64 1, .int .i64 0, .int .i64 0, .int .i64 0, .int .i64 0, .int .i64 0, .int .i64 0, .int .i64 0, .int .i64 0, .int .i64 0, .int .i64 0, .int .i64 0, .int .i64 0, .int .i64 0, .int .i64 0, .int .i64 0, .int .i64 0, .int .i64 0, .int .i64 0, .int .i64 0, .int .i64 0, .int .i64 0, .int .i64 0, .int .i64 0, .int .i64 0, .int .i64 0, .int .i64 0, .int .i64 0, .int .i64 0, .int .i64 0, .int .i64 0, .int .i64 0, .int .i64 0, .int .i64 0, .int .i64 0, .int .i64 0, .int .i64 0, .int .i64 0, .int .i64 0, .int .i64 0]] W1 fun e w' => e = .returned (.tuple #[.agg Ru.twoL.toArray, .int .i64 0]) ∧ Below W1.heap.size W1 w') := by
    have h := Tryd.do_any 1 1 Ru.one (.slice a1 1 c1) (.slice a2 1 c2) [0] [1] W1 Ru.one_fit X1.out.2.2.1.nums X1.out.2.2.2.1.nums (by decide) (by decide)
    rw [Ru.line_do, Ru.one_arr] at h
    exact h
  go_wp2_with fail
  refine Calls.mono C2.out ?_
  rintro e W2 ⟨rfl, hb2⟩
  clear d0 d1 d2 d3 C2
  obtain ⟨W3, hW3⟩ : ∃ x, (W2.alloc (.cells #[.int .i64 0, .int .i64 0, .int .i64 0, .int .i64 0, .int .i64 0, .int .i64 0, .int .i64 0, .int .i64 0, .int .i64 0, .int .i64 0, .int .i64 0, .int .i64 0, .int .i64 0, .int .i64 0, .int .i64 0, .int .i64 0, .int .i64 0, .int .i64 0, .int .i64 0, .int .i64 0, .int .i64 0, .int .i64 0, .int .i64 0, .int .i64 0, .int .i64 0, .int .i64 0, .int .i64 0, .int .i64 0, .int .i64 0, .int .i64 0, .int .i64 0, .int .i64 0, .int .i64 0, .int .i64 0, .int .i64 0, .int .i64 0, .int .i64 0, .int .i64 0, .int .i64 0, .int .i64 0] 56)).setRow W2.heap.size Ru.twoL.toArray = x := ⟨_, rfl⟩
  have N2 := heap_alloc_new W2 (.cells #[.int .i64 0, .int .i64 0, .int .i64 0, .int .i64 0, .int .i64 0, .int .i64 0, .int .i64 0, .int .i64 0, .int .i64 0, .int .i64 0, .int .i64 0, .int .i64 0, .int .i64 0, .int .i64 0, .int .i64 0, .int .i64 0, .int .i64 0, .int .i64 0, .int .i64 0, .int .i64 0, .int .i64 0, .int .i64 0, .int .i64 0, .int .i64 0, .int .i64 0, .int .i64 0, .int .i64 0, .int .i64 0, .int .i64 0, .int .i64 0, .int .i64 0, .int .i64 0, .int .i64 0, .int .i64 0, .int .i64 0, .int .i64 0, .int .i64 0, .int .i64 0, .int .i64 0, .int .i64 0] 56)
  have B3 : Below W2.heap.size W2 W3 := by rw [← hW3]; exact Tk.below_row ((Below.refl _ W2).alloc (Nat.le_refl _) _) (Nat.le_refl _) _
  have R3 : Ru.Arr W3 W2.heap.size Ru.two := by rw [← hW3]; exact setRow_heap _ _ _ _ _ _ N2
  have B13 : Below W1.heap.size W1 W3 := hb2.trans (B3.mono hb2.size)
  have HZ : Hid (Below w.heap.size w W3) := (HA.out.trans (X1.out.1.mono HA.out.size)).trans (B13.mono (by have := HA.out.size; have := X1.out.1.size; omega))
  obtain ⟨cs, hcs⟩ : ∃ cs, Ru.twoL = cs := ⟨_, rfl⟩
  have CF : Hid (∀ W, Below W3.heap.size W3 W → W.cell? ⟨g, 4, none⟩ = some (.int .i64 1) ∧ W.cell? ⟨g, 5, none⟩ = some (.int .i64 2) ∧ W.cell? ⟨g, 6, none⟩ = some (.slice a3 1 c3) ∧ W.cell? ⟨g, 7, none⟩ = some (.slice a4 0 c4) ∧ W.rangeAt W2.heap.size 0 cs) := fun W hb => by
    obtain ⟨-, hg, -, -, -, -, -, -, -, -, d4, d5, d6, d7⟩ := X1.out
    have hbb : Below W1.heap.size W1 W := B13.trans (hb.mono B13.size)
    have hc : ∀ o, W.cell? ⟨g, o, none⟩ = W1.cell? ⟨g, o, none⟩ := fun o => hbb.cell (p := ⟨g, o, none⟩) hg
    refine ⟨by rw [hc]; exact d4, by rw [hc]; exact d5, by rw [hc]; exact d6, by rw [hc]; exact d7, ?_⟩
    rw [← hcs]
    exact Ru.range_of (R3.below hb R3.lt)
  have CC : Hid (∀ W, Below W3.heap.size W3 W → Calls Tryd.prog 23 #[.agg #[.int .i64 1, .int .i64 2, .slice a3 1 c3, .slice a4 0 c4], .agg cs.toArray] W fun e w' => e = .returned (.bool true) ∧ Hid (Below W3.heap.size W3 w')) := fun W hb => by
    have h := Tryd.can_any 1 2 Ru.two (.slice a3 1 c3) a4 0 c4 [1] W Ru.two_fit ((X1.out.2.2.2.2.1.below B13).below hb).nums (by decide)
    rw [Ru.line_can] at h
    rw [← hcs]
    exact h.mono fun e w' q => ⟨q.1, hb.trans (q.2.mono hb.size)⟩
  have hq : ∀ W : World, (binOp BinOp.eql 56 (.agg cs.toArray) (.agg #[.int .i64 0, .int .i64 1, .int .i64 0, .int .i64 0, .int .i64 0, .int .i64 0, .int .i64 0, .int .i64 0, .int .i64 0, .int .i64 0, .int .i64 0, .int .i64 0, .int .i64 0, .int .i64 0, .int .i64 0, .int .i64 0, .int .i64 0, .int .i64 0, .int .i64 0, .int .i64 0, .int .i64 0, .int .i64 0, .int .i64 0, .int .i64 0, .int .i64 0, .int .i64 0, .int .i64 0, .int .i64 0, .int .i64 0, .int .i64 0, .int .i64 0, .int .i64 0, .int .i64 0, .int .i64 0, .int .i64 0, .int .i64 0, .int .i64 0, .int .i64 0, .int .i64 0, .int .i64 0])).run Tryd.prog W = .ok (.bool true) W := fun W => by rw [← hcs]; exact Ru.two_eq W
  have hu := Tryd.underlying56
  have hi : (Tryd.prog.info? 56).map (·.size) = some cs.length := by rw [← hcs]; kernel_rfl
  have hj : (Tryd.prog.info? 56).map (·.size) = some cs.toArray.size := by rw [← hcs]; kernel_rfl
  have hj1 : (#[.int .i64 0, .int .i64 0, .int .i64 0, .int .i64 0, .int .i64 0, .int .i64 0, .int .i64 0, .int .i64 0, .int .i64 0, .int .i64 0, .int .i64 0, .int .i64 0, .int .i64 0, .int .i64 0, .int .i64 0, .int .i64 0, .int .i64 0, .int .i64 0, .int .i64 0, .int .i64 0, .int .i64 0, .int .i64 0, .int .i64 0, .int .i64 0, .int .i64 0, .int .i64 0, .int .i64 0, .int .i64 0, .int .i64 0, .int .i64 0, .int .i64 0, .int .i64 0, .int .i64 0, .int .i64 0, .int .i64 0, .int .i64 0, .int .i64 0, .int .i64 0, .int .i64 0, .int .i64 0] : Array Value).size = cs.toArray.size := by rw [← hcs]; kernel_rfl
  have hj2 : cs.toArray.all (·.oneCell') = true := by rw [← hcs]; kernel_rfl
  rw [hcs] at hW3 ⊢
  have H3 : Hid ((W2.alloc (.cells #[.int .i64 0, .int .i64 0, .int .i64 0, .int .i64 0, .int .i64 0, .int .i64 0, .int .i64 0, .int .i64 0, .int .i64 0, .int .i64 0, .int .i64 0, .int .i64 0, .int .i64 0, .int .i64 0, .int .i64 0, .int .i64 0, .int .i64 0, .int .i64 0, .int .i64 0, .int .i64 0, .int .i64 0, .int .i64 0, .int .i64 0, .int .i64 0, .int .i64 0, .int .i64 0, .int .i64 0, .int .i64 0, .int .i64 0, .int .i64 0, .int .i64 0, .int .i64 0, .int .i64 0, .int .i64 0, .int .i64 0, .int .i64 0, .int .i64 0, .int .i64 0, .int .i64 0, .int .i64 0] 56)).setRow W2.heap.size cs.toArray = W3) := hW3
  have BR : Hid (Below W3.heap.size W3 W3) := Below.refl _ _
  clear hW3 B3 R3 B13 hb2 hcs X1
  go_upto_region 6 with (refine wpList_store_row rfl 56 _ _ rfl W2.heap.size cs.toArray rfl rfl 56 _ N2 hj hj1 hj2 ?_; rw [H3.out])
  clear N2 hj hj1 hj2 H3
  refine wp_region_held_drew (S := fun W => W.cell? ⟨g, 4, none⟩ = some (.int .i64 1) ∧ W.cell? ⟨g, 5, none⟩ = some (.int .i64 2) ∧ W.cell? ⟨g, 6, none⟩ = some (.slice a3 1 c3) ∧ W.cell? ⟨g, 7, none⟩ = some (.slice a4 0 c4) ∧ W.rangeAt W2.heap.size 0 cs) (by kernel_rfl) ?_ (fun hHeld => ?_)
  · exact CF.out _ BR.out.drew
  refine Ru.takeS (v := ?va0) 0 34 rfl rfl (by kernel_rfl) (by kernel_rfl) (by kernel_rfl) (fun _ _ _ h => h) (Or.inl ⟨by rfl, ?ya0⟩) hHeld ?ra0
  case ya0 => (intro w hSw; (try dsimp only at hSw); go_simp; all_goals (with_reducible rfl))
  simp only [List.set_cons_succ, List.set_cons_zero]
  refine Ru.takeS (v := ?va1) 1 35 rfl rfl (by kernel_rfl) (by kernel_rfl) (by kernel_rfl) (fun _ _ _ h => h) (Or.inl ⟨by rfl, ?ya1⟩) hHeld ?ra1
  case ya1 => (intro w hSw; (try dsimp only at hSw); go_simp; all_goals (with_reducible rfl))
  simp only [List.set_cons_succ, List.set_cons_zero]
  refine Ru.takeS (v := ?va2) 2 36 rfl rfl (by kernel_rfl) (by kernel_rfl) (by kernel_rfl) (fun _ _ _ h => h) (Or.inl ⟨by rfl, ?ya2⟩) hHeld ?ra2
  case ya2 => (intro w hSw; (try dsimp only at hSw); go_simp; all_goals (with_reducible rfl))
  simp only [List.set_cons_succ, List.set_cons_zero]
  refine Ru.takeS 3 37 rfl rfl (by kernel_rfl) (by kernel_rfl) (by kernel_rfl) (fun _ _ _ h => h) (yieldsIf_load_mid (by rfl) _ _ rfl _ _ rfl cs _ (fun _ hw => hw.2.2.2.2) hu rfl hi) hHeld ?_
  simp only [List.set_cons_succ, List.set_cons_zero]
  refine Ru.takeS (v := ?va4) 4 38 rfl rfl (by kernel_rfl) (by kernel_rfl) (by kernel_rfl) (fun _ _ _ h => h) (Or.inl ⟨by rfl, ?ya4⟩) hHeld ?ra4
  case ya4 => (intro w hSw; (try dsimp only at hSw); go_simp; all_goals (with_reducible rfl))
  simp only [List.set_cons_succ, List.set_cons_zero]
  refine Ru.takeS (v := ?va5) 5 39 rfl rfl (by kernel_rfl) (by kernel_rfl) (by kernel_rfl) (fun _ _ _ h => h) (Or.inl ⟨by rfl, ?ya5⟩) hHeld ?ra5
  case ya5 => (intro w hSw; (try dsimp only at hSw); go_simp; all_goals (with_reducible rfl))
  simp only [List.set_cons_succ, List.set_cons_zero]
  refine Ru.takeS (v := ?va6) 6 40 rfl rfl (by kernel_rfl) (by kernel_rfl) (by kernel_rfl) (fun _ _ _ h => h) (Or.inl ⟨by rfl, ?ya6⟩) hHeld ?ra6
  case ya6 => (intro w hSw; (try dsimp only at hSw); go_simp; all_goals (with_reducible rfl))
  simp only [List.set_cons_succ, List.set_cons_zero]
  refine Ru.takeS (v := ?va7) 7 41 rfl rfl (by kernel_rfl) (by kernel_rfl) (by kernel_rfl) (fun _ _ _ h => h) (Or.inl ⟨by rfl, ?ya7⟩) hHeld ?ra7
  case ya7 => (intro w hSw; (try dsimp only at hSw); go_simp; all_goals (with_reducible rfl))
  simp only [List.set_cons_succ, List.set_cons_zero]
  refine Ru.takeS (v := ?va8) 8 42 rfl rfl (by kernel_rfl) (by kernel_rfl) (by kernel_rfl) (fun _ _ _ h => h) (Or.inl ⟨by rfl, ?ya8⟩) hHeld ?ra8
  case ya8 => (intro w hSw; (try dsimp only at hSw); go_simp; all_goals (with_reducible rfl))
  simp only [List.set_cons_succ, List.set_cons_zero]
  refine Ru.takeS (v := ?va9) 9 43 rfl rfl (by kernel_rfl) (by kernel_rfl) (by kernel_rfl) (fun _ _ _ h => h) (Or.inl ⟨by rfl, ?ya9⟩) hHeld ?ra9
  case ya9 => (intro w hSw; (try dsimp only at hSw); go_simp; all_goals (with_reducible rfl))
  simp only [List.set_cons_succ, List.set_cons_zero]
  refine Ru.takeS (v := ?va10) 10 44 rfl rfl (by kernel_rfl) (by kernel_rfl) (by kernel_rfl) (fun _ _ _ h => h) (Or.inl ⟨by rfl, ?ya10⟩) hHeld ?ra10
  case ya10 => (intro w hSw; (try dsimp only at hSw); go_simp; all_goals (with_reducible rfl))
  simp only [List.set_cons_succ, List.set_cons_zero]
  refine Ru.takeS 11 45 rfl rfl (by kernel_rfl) (by kernel_rfl) (by kernel_rfl) (fun _ _ _ h => h) (yieldsIf_load_mid (by rfl) _ _ rfl _ _ rfl cs _ (fun _ hw => hw.2.2.2.2) hu rfl hi) hHeld ?_
  simp only [List.set_cons_succ, List.set_cons_zero]
  refine wpAnyH_ready (rs := [12]) (by kernel_rfl) (by simp) ?_
  refine AllReadyH.cons rfl (fun K hK => ?_) AllReadyH.nil
  go_simp
  go_at_call 23
  refine Calls.mono (CC.out _ BR.out.drew) ?_
  rintro e W4 ⟨rfl, B4⟩
  go_wp2_with fail
  refine hK.out _ _ ?_ (fun hHeld12 => ?_)
  · exact CF.out _ B4.out
  clear hK K
  first | refine Ru.normS 46 rfl ?_ | skip
  first | (simp only [List.set_cons_succ, List.set_cons_zero]) | skip
  refine Ru.takeS (v := ?va13) 13 47 rfl rfl (by kernel_rfl) (by kernel_rfl) (by kernel_rfl) (fun _ _ _ h => h) (Or.inl ⟨by rfl, ?ya13⟩) hHeld12 ?ra13
  case ya13 => (intro w hSw; (try dsimp only at hSw); go_simp; all_goals (with_reducible rfl))
  simp only [List.set_cons_succ, List.set_cons_zero]
  refine Ru.takeS (v := ?va14) 14 48 rfl rfl (by kernel_rfl) (by kernel_rfl) (by kernel_rfl) (fun _ _ _ h => h) (Or.inl ⟨by rfl, ?ya14⟩) hHeld12 ?ra14
  case ya14 => (intro w hSw; (try dsimp only at hSw); go_simp; all_goals (with_reducible rfl))
  simp only [List.set_cons_succ, List.set_cons_zero]
  refine Ru.takeS (v := ?va15) 15 49 rfl rfl (by kernel_rfl) (by kernel_rfl) (by kernel_rfl) (fun _ _ _ h => h) (Or.inl ⟨by rfl, ?ya15⟩) hHeld12 ?ra15
  case ya15 => (intro w hSw; (try dsimp only at hSw); go_simp; all_goals (with_reducible rfl))
  simp only [List.set_cons_succ, List.set_cons_zero]
  refine Ru.takeS (v := ?va16) 16 50 rfl rfl (by kernel_rfl) (by kernel_rfl) (by kernel_rfl) (fun _ _ _ h => h) (Or.inl ⟨by rfl, ?ya16⟩) hHeld12 ?ra16
  case ya16 => (intro w hSw; (try dsimp only at hSw); go_simp; all_goals (with_reducible rfl))
  simp only [List.set_cons_succ, List.set_cons_zero]
  refine Ru.takeS (v := ?va17) 17 51 rfl rfl (by kernel_rfl) (by kernel_rfl) (by kernel_rfl) (fun _ _ _ h => h) (Or.inl ⟨by rfl, ?ya17⟩) hHeld12 ?ra17
  case ya17 => (intro w hSw; (try dsimp only at hSw); go_simp; all_goals (with_reducible rfl))
  simp only [List.set_cons_succ, List.set_cons_zero]
  refine Ru.takeS (v := ?va18) 18 52 rfl rfl (by kernel_rfl) (by kernel_rfl) (by kernel_rfl) (fun _ _ _ h => h) (Or.inl ⟨by rfl, ?ya18⟩) hHeld12 ?ra18
  case ya18 => (intro w hSw; (try dsimp only at hSw); go_simp; all_goals (with_reducible rfl))
  simp only [List.set_cons_succ, List.set_cons_zero]
  refine Ru.takeS (v := ?va19) 19 53 rfl rfl (by kernel_rfl) (by kernel_rfl) (by kernel_rfl) (fun _ _ _ h => h) (Or.inl ⟨by rfl, ?ya19⟩) hHeld12 ?ra19
  case ya19 => (intro w hSw; (try dsimp only at hSw); go_simp; all_goals (with_reducible rfl))
  simp only [List.set_cons_succ, List.set_cons_zero]
  refine Ru.takeS (v := ?va20) 20 54 rfl rfl (by kernel_rfl) (by kernel_rfl) (by kernel_rfl) (fun _ _ _ h => h) (Or.inl ⟨by rfl, ?ya20⟩) hHeld12 ?ra20
  case ya20 => (intro w hSw; (try dsimp only at hSw); go_simp; all_goals (with_reducible rfl))
  simp only [List.set_cons_succ, List.set_cons_zero]
  refine Ru.takeS (v := ?va21) 21 55 rfl rfl (by kernel_rfl) (by kernel_rfl) (by kernel_rfl) (fun _ _ _ h => h) (Or.inl ⟨by rfl, ?ya21⟩) hHeld12 ?ra21
  case ya21 => (intro w hSw; (try dsimp only at hSw); go_simp; all_goals (with_reducible rfl))
  simp only [List.set_cons_succ, List.set_cons_zero]
  refine Ru.takeS (v := ?va22) 22 0 rfl rfl (by kernel_rfl) (by kernel_rfl) (by kernel_rfl) (fun _ _ _ h => h) (Or.inl ⟨by rfl, ?ya22⟩) hHeld12 ?ra22
  case ya22 => (intro w hSw; (try dsimp only at hSw); go_simp; all_goals (with_reducible rfl))
  simp only [List.set_cons_zero]
  refine wpAnyH_done (by kernel_rfl) ?_ _
  go_wp2
  go_ret
  exact ⟨rfl, HZ.out.trans (B4.out.mono HZ.out.size)⟩

end Go.Proofs
