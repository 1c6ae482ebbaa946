/-
  A mark that came in, as it is read: its five cells, its attributes in memory, and how great its parts can be.
-/
import Derived.Test.YtbcafacolohgbaaDoorUnlike
import Derived.Deep.SlicePairs
import Derived.Lib.SmallJoins
import Derived.SizedLaws
namespace Go.Proofs
open Go.RowKit Go.ChangeShapes Go.WideShapes Go.Deep
open Go.Proofs.Mk

section
variable {H : Type} {enc : TypeId × Value → H} {w : World} {spare : Nat → Bool} {held : Bool}

theorem Mk.cellsAttr : Tryd.prog.cellsOf 54 = 2 := by kernel_rfl
theorem Mk.cellsStr : Tryd.prog.cellsOf 9 = 1 := by kernel_rfl
theorem Mk.cellsIntT : Tryd.prog.cellsOf 3 = 1 := by kernel_rfl
theorem Mk.cellsAttrs : Tryd.prog.cellsOf 22 = 1 := by kernel_rfl
theorem Mk.cellsMark : Tryd.prog.cellsOf 78 = 5 := by kernel_rfl
theorem Mk.bytesAttr : Tryd.prog.bytesOf 54 = 32 := by kernel_rfl

theorem Mk.cell_lt {w : World} {a : Addr} {v : Value} (h : w.cell? a = some v) : a.block < w.heap.size := by
  rcases Nat.lt_or_ge a.block w.heap.size with h1 | h1
  · exact h1
  · unfold World.cell? at h
    simp [h1] at h

theorem Mk.list5 {α : Type} {l : List α} (h : l.length = 5) : ∃ a b c d e, l = [a, b, c, d, e] := by
  match l, h with
  | [a, b, c, d, e], _ => exact ⟨a, b, c, d, e, rfl⟩

/-- The sizes of all attributes' parts. -/
def Mk.AttrsSmall (xs : List (ByteArray × ByteArray)) : Prop := xs.length ≤ 140737488355328 ∧ ∀ j (h : j < xs.length), xs[j].1.size ≤ 140737488355328 ∧ xs[j].2.size ≤ 140737488355328

theorem Mk.weights_all {P : Program} {e : TypeId} : ∀ {l : List (DataW H)} {d : DataW H}, d ∈ l → ∀ n ∈ d.weights P e, n ∈ DataW.weightsAll P e l
  | [], _, h, _, _ => by cases h
  | x :: r, d, h, n, hn => by
    simp only [DataW.weightsAll, List.mem_append]
    rcases List.mem_cons.1 h with rfl | h
    · exact .inl hn
    · exact .inr (Mk.weights_all h n hn)

theorem Mk.open_attrs {fuel : Nat} {cs : List Value} {x : DataW H × List MemPlace} (h : DataW.trod enc Tryd.prog w 0 spare held fuel 22 cs = some x) :
    ∃ a c xs, cs = [.slice a (xs : List (ByteArray × ByteArray)).length c] ∧ Mk.AttrsAt w (.slice a xs.length c) xs ∧ ((∀ n ∈ x.1.weights Tryd.prog 22, n ≤ reachBytes) → Mk.AttrsSmall xs) := by
  rcases open_slice_pairs Tryd.underlying22 Tryd.underlying54 Mk.cellsAttr rfl rfl Mk.cellsStr Mk.cellsStr h with ⟨rfl, rfl⟩ | ⟨a, len, cap, m, n, V0, V1, D0, D1, P0, P1, rfl, _, hl, hm, hmm, rfl, hx⟩
  · exact ⟨none, 0, [], rfl, .inl ⟨_, _, rfl, rfl⟩, fun _ => ⟨by simp, fun j hj => by simp at hj⟩⟩
  · have hlm : len ≤ m := by rw [hmm]; split <;> omega
    have each : ∀ i, i < len → ∃ q : ByteArray × ByteArray, w.cell? (a.add (i * 2)) = some (.string q.1) ∧ w.cell? (a.add (i * 2 + 1)) = some (.string q.2) ∧ D0 i = .lit (.string q.1.data.toList) ∧ D1 i = .lit (.string q.2.data.toList) := by
      intro i hi
      obtain ⟨h0, h1, g0, g1⟩ := hx i (by omega)
      obtain ⟨s0, e0, d0, _⟩ := DataW.trod_string Tryd.underlying9 g0
      obtain ⟨s1, e1, d1, _⟩ := DataW.trod_string Tryd.underlying9 g1
      simp only [List.cons.injEq, and_true] at e0 e1
      simp only [Prod.mk.injEq] at d0 d1
      exact ⟨(s0, s1), by rw [h0, e0], by rw [h1, e1], d0.1, d1.1⟩
    obtain ⟨q, hq⟩ := choose_lt each
    have hlen : ((List.range len).map q).length = len := by simp
    have hget : ∀ j (h : j < ((List.range len).map q).length), ((List.range len).map q)[j] = q j := fun j h => by simp
    refine ⟨some a, cap, (List.range len).map q, by rw [hlen], ?_, fun hw => ⟨?_, fun j hj => ?_⟩⟩
    · by_cases hz : len = 0
      · subst hz; exact .inl ⟨_, _, rfl, rfl⟩
      · obtain ⟨g, off, spot⟩ := a
        have h0 := (hq 0 (by omega)).1
        have hspot : spot = none := by simpa [Addr.add] using World.cell?_spot h0
        subst hspot
        have hg : g < w.heap.size := by
          have := Mk.cell_lt h0
          simpa [Addr.add] using this
        refine .inr ⟨g, off, cap, rfl, by rw [hlen]; exact hl, hg, fun j hj => ?_⟩
        rw [hget j hj]
        rw [hlen] at hj
        have := hq j hj
        exact ⟨by rw [← add_plain]; exact this.1, by rw [Nat.add_assoc, ← add_plain]; exact this.2.1⟩
    · have := hw ((((List.range len).map fun i => DataW.agg [D0 i, D1 i]).length + ((List.range (m - len)).map fun j => DataW.agg [D0 (len + j), D1 (len + j)]).length) * Tryd.prog.bytesOf 54) (by simp [DataW.weights, Tryd.underlying22])
      rw [Mk.bytesAttr] at this
      simp only [List.length_map, List.length_range] at this
      have hr := reachBytes_lt
      rw [hlen]; omega
    · rw [hget j hj]
      rw [hlen] at hj
      have hmem : DataW.agg [D0 j, D1 j] ∈ (List.range len).map fun i => DataW.agg [D0 i, D1 i] := List.mem_map.2 ⟨j, List.mem_range.2 hj, rfl⟩
      have hin : ∀ n ∈ (DataW.agg [D0 j, D1 j]).weights Tryd.prog 54, n ≤ reachBytes := fun n hn => hw n (by
        simp only [DataW.weights, Tryd.underlying22]
        exact List.mem_cons_of_mem _ (List.mem_append_left _ (Mk.weights_all hmem n hn)))
      have hr := reachBytes_lt
      have w0 := hin (q j).1.data.toList.length (by rw [(hq j hj).2.2.1]; simp [DataW.weights, DataW.weightsEach, Tryd.underlying54])
      have w1 := hin (q j).2.data.toList.length (by rw [(hq j hj).2.2.2]; simp [DataW.weights, DataW.weightsEach, Tryd.underlying54])
      simp only [Array.length_toList] at w0 w1
      exact ⟨by show (q j).1.data.size ≤ _; omega, by show (q j).2.data.size ≤ _; omega⟩

/-- A whole mark's cells. -/
theorem Mk.open_mark {fuel : Nat} {cs : List Value} {x : DataW H × List MemPlace} (h : DataW.trod enc Tryd.prog w 0 spare held fuel 78 cs = some x) :
    ∃ (kd at_ : Int) (nm tx : ByteArray) (a : Option Addr) (c : Nat) (xs : List (ByteArray × ByteArray)), cs = [.int .i64 kd, .int .i64 at_, .string nm, .slice a xs.length c, .string tx] ∧ Mk.AttrsAt w (.slice a xs.length c) xs ∧
      (Lit.int .i64 kd).wf = true ∧ (Lit.int .i64 at_).wf = true ∧ nm.size ≤ maxLen ∧ ((∀ n ∈ x.1.weights Tryd.prog 78, n ≤ reachBytes) → Mk.AttrsSmall xs ∧ tx.size ≤ 140737488355328) := by
  obtain ⟨ys, n, _, hx, hl, hy, hf⟩ := DataW.trod_struct Tryd.underlying78 h
  rw [Mk.cellsMark] at hl
  have hy : ys.length = 5 := hy
  obtain ⟨c0, c1, c2, c3, c4, rfl⟩ := Mk.list5 hl
  obtain ⟨y0, y1, y2, y3, y4, rfl⟩ := Mk.list5 hy
  clear hl hy
  have g0 : DataW.trod enc Tryd.prog w 0 spare held n 3 (([c0, c1, c2, c3, c4].drop 0).take (Tryd.prog.cellsOf 3)) = [y0, y1, y2, y3, y4][0]? := hf 0 _ rfl
  rw [Mk.cellsIntT] at g0
  have g1 : DataW.trod enc Tryd.prog w 0 spare held n 3 (([c0, c1, c2, c3, c4].drop 1).take (Tryd.prog.cellsOf 3)) = [y0, y1, y2, y3, y4][1]? := hf 1 _ rfl
  rw [Mk.cellsIntT] at g1
  have g2 : DataW.trod enc Tryd.prog w 0 spare held n 9 (([c0, c1, c2, c3, c4].drop 2).take (Tryd.prog.cellsOf 9)) = [y0, y1, y2, y3, y4][2]? := hf 2 _ rfl
  rw [Mk.cellsStr] at g2
  have g3 : DataW.trod enc Tryd.prog w 0 spare held n 22 (([c0, c1, c2, c3, c4].drop 3).take (Tryd.prog.cellsOf 22)) = [y0, y1, y2, y3, y4][3]? := hf 3 _ rfl
  rw [Mk.cellsAttrs] at g3
  have g4 : DataW.trod enc Tryd.prog w 0 spare held n 9 (([c0, c1, c2, c3, c4].drop 4).take (Tryd.prog.cellsOf 9)) = [y0, y1, y2, y3, y4][4]? := hf 4 _ rfl
  rw [Mk.cellsStr] at g4
  obtain ⟨kd, e0, d0, k0⟩ := DataW.trod_int Tryd.underlying3 g0
  obtain ⟨at_, e1, d1, k1⟩ := DataW.trod_int Tryd.underlying3 g1
  obtain ⟨nm, e2, d2, k2⟩ := DataW.trod_string Tryd.underlying9 g2
  obtain ⟨a, c, xs, e3, hA, hS⟩ := Mk.open_attrs g3
  obtain ⟨tx, e4, d4, k4⟩ := DataW.trod_string Tryd.underlying9 g4
  obtain rfl : c0 = .int .i64 kd := (List.cons.inj e0).1
  obtain rfl : c1 = .int .i64 at_ := (List.cons.inj e1).1
  obtain rfl : c2 = .string nm := (List.cons.inj e2).1
  obtain rfl : c3 = .slice a xs.length c := (List.cons.inj e3).1
  obtain rfl : c4 = .string tx := (List.cons.inj e4).1
  refine ⟨kd, at_, nm, tx, a, c, xs, rfl, hA, k0, k1, k2, fun hw => ⟨hS fun n hn => hw n ?_, ?_⟩⟩
  · rw [hx]
    simp only [DataW.weights, Tryd.underlying78, List.map, DataW.weightsEach, List.mem_append]
    exact .inr (.inr (.inr (.inl hn)))
  · have := hw tx.data.toList.length (by
      rw [hx, d4]
      simp [DataW.weights, Tryd.underlying78, DataW.weightsEach])
    have hr := reachBytes_lt
    simp only [Array.length_toList] at this
    show tx.data.size ≤ _
    omega

end
end Go.Proofs
