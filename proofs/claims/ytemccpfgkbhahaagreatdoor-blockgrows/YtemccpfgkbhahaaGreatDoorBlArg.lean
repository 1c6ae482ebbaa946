/-
  A block that came in, as it is read, and that its numbers are int's.
-/
import Derived.Test.YtemccpfgkbhahaaGreatDoorAllBlOut
import Derived.ProofKit
import Derived.Deep.Slices
namespace Go.Proofs
open Go.RowKit Go.ChangeShapes Go.WideShapes Go.Deep
instance : Inhabited Bl := ⟨.mk 0 0 0 [] []⟩

theorem Bk.cellsBlock : Tryz.prog.cellsOf 29 = 5 := by kernel_rfl
theorem Bk.cellsBlocks : Tryz.prog.cellsOf 26 = 1 := by kernel_rfl
theorem Bk.cellsLink : Tryz.prog.cellsOf 75 = 3 := by kernel_rfl
theorem Bk.cellsLinks : Tryz.prog.cellsOf 27 = 1 := by kernel_rfl
theorem Bk.cellsInt : Tryz.prog.cellsOf 3 = 1 := by kernel_rfl
theorem Bk.list5 {α : Type} {l : List α} (h : l.length = 5) : ∃ a b c d e, l = [a, b, c, d, e] := by
  match l, h with
  | [a, b, c, d, e], _ => exact ⟨a, b, c, d, e, rfl⟩
theorem Bk.list3 {α : Type} {l : List α} (h : l.length = 3) : ∃ a b c, l = [a, b, c] := by
  match l, h with
  | [a, b, c], _ => exact ⟨a, b, c, rfl⟩
theorem Bk.cell_lt {w : World} {a : Addr} {v : Value} (h : w.cell? a = some v) : a.block < w.heap.size := by
  unfold World.cell? at h
  cases hg : w.heap[a.block]? with
  | none => simp [hg] at h
  | some o => exact (Array.getElem?_eq_some_iff.1 hg).1
theorem Bl.Lies.more {w : World} {B : Nat} : ∀ {d : Nat} {v lv : Value} {T : Bl}, Bl.Lies w B d v lv T → Bl.Lies w B (d + 1) v lv T
  | 0, _, _, _, h => h.elim
  | d + 1, v, lv, T, h => by
    obtain ⟨hl, a, cap, hv, h⟩ := h
    refine ⟨hl, a, cap, hv, h.elim .inl fun ⟨g, off, ha, hg, hr⟩ => .inr ⟨g, off, ha, hg, fun j hj => ?_⟩⟩
    obtain ⟨u, lu, h0, h1, h2, h3, h4, h5⟩ := hr j hj
    exact ⟨u, lu, h0, h1, h2, h3, h4, h5.more⟩

theorem Bk.wf64 {z : Int} (h : (Lit.int .i64 z).wf = true) : Bl.I64 z := by
  have h1 : IntKind.i64.min = -9223372036854775808 := by decide
  have h2 : IntKind.i64.max = 9223372036854775807 := by decide
  simp only [Lit.wf, h1, h2, Bool.and_eq_true, decide_eq_true_eq] at h
  exact h
theorem Bl.open_link {H : Type} {enc : TypeId × Value → H} {w : World} {spare : Nat → Bool} {held : Bool} {fuel : Nat} {cs : List Value} {x : DataW H × List MemPlace} (h : DataW.trod enc Tryz.prog w 0 spare held fuel 75 cs = some x) :
    ∃ y : Int × Int × Int, cs = [.int .i64 y.1, .int .i64 y.2.1, .int .i64 y.2.2] ∧ Bl.I64 y.1 ∧ Bl.I64 y.2.1 ∧ Bl.I64 y.2.2 := by
  obtain ⟨ys, n, rfl, hx, hl, hy, hf⟩ := DataW.trod_struct Tryz.underlying75 h
  rw [Bk.cellsLink] at hl
  have hy : ys.length = 3 := hy
  obtain ⟨c0, c1, c2, rfl⟩ := Bk.list3 hl
  obtain ⟨y0, y1, y2, rfl⟩ := Bk.list3 hy
  have g0 : DataW.trod enc Tryz.prog w 0 spare held n 3 (([c0, c1, c2].drop 0).take (Tryz.prog.cellsOf 3)) = [y0, y1, y2][0]? := hf 0 _ rfl
  have g1 : DataW.trod enc Tryz.prog w 0 spare held n 3 (([c0, c1, c2].drop 1).take (Tryz.prog.cellsOf 3)) = [y0, y1, y2][1]? := hf 1 _ rfl
  have g2 : DataW.trod enc Tryz.prog w 0 spare held n 3 (([c0, c1, c2].drop 2).take (Tryz.prog.cellsOf 3)) = [y0, y1, y2][2]? := hf 2 _ rfl
  rw [Bk.cellsInt] at g0 g1 g2
  obtain ⟨m0, e0, _, w0⟩ := DataW.trod_int Tryz.underlying3 g0
  obtain ⟨m1, e1, _, w1⟩ := DataW.trod_int Tryz.underlying3 g1
  obtain ⟨m2, e2, _, w2⟩ := DataW.trod_int Tryz.underlying3 g2
  obtain rfl : c0 = .int .i64 m0 := (List.cons.inj e0).1
  obtain rfl : c1 = .int .i64 m1 := (List.cons.inj e1).1
  obtain rfl : c2 = .int .i64 m2 := (List.cons.inj e2).1
  have hw : ∀ z : Int, (Lit.int .i64 z).wf = true → Bl.I64 z := fun _ => Bk.wf64
  exact ⟨(m0, m1, m2), rfl, hw _ w0, hw _ w1, hw _ w2⟩

theorem Bl.open_links {H : Type} {enc : TypeId × Value → H} {w : World} {spare : Nat → Bool} {held : Bool} {fuel : Nat} {c : Value} {x : DataW H × List MemPlace} (h : DataW.trod enc Tryz.prog w 0 spare held fuel 27 [c] = some x) :
    ∃ ls : List (Int × Int × Int), Bl.Lk w w.heap.size c ls ∧ ∀ y, y ∈ ls → Bl.I64 y.1 ∧ Bl.I64 y.2.1 ∧ Bl.I64 y.2.2 := by
  rcases DataW.trod_slice Tryz.underlying27 h with ⟨e2, _⟩ | ⟨a, len, cap, elems, rest, n', hn', e2, _, _, hlc, _, hlen, hel, _, _⟩
  · obtain rfl : c = .slice none 0 0 := (List.cons.inj e2).1
    exact ⟨[], ⟨none, 0, rfl, fun j hj => by simp at hj⟩, fun y hy => by cases hy⟩
  · obtain rfl : c = .slice (some a) len cap := (List.cons.inj e2).1
    have each : ∀ i, i < len → ∃ q : Int × Int × Int, w.cell? (a.add (i * 3)) = some (.int .i64 q.1) ∧ w.cell? ((a.add (i * 3)).add 1) = some (.int .i64 q.2.1) ∧ w.cell? ((a.add (i * 3)).add 2) = some (.int .i64 q.2.2) ∧ Bl.I64 q.1 ∧ Bl.I64 q.2.1 ∧ Bl.I64 q.2.2 := by
      intro i hi
      have h1 := hel i hi
      rw [Bk.cellsLink, List.getElem?_eq_getElem (by omega)] at h1
      obtain ⟨cs', h2, h3⟩ := Option.bind_eq_some_iff.1 h1
      obtain ⟨q, rfl, hq⟩ := Bl.open_link h3
      obtain ⟨_, hl3, hc⟩ := World.cells?_some h2
      exact ⟨q, by simpa [Addr.add] using hc 0 (by simp), by simpa using hc 1 (by simp), by simpa using hc 2 (by simp), hq⟩
    obtain ⟨q, hq⟩ := choose_lt each
    have hlen' : ((List.range len).map q).length = len := by simp
    refine ⟨(List.range len).map q, ⟨some a, cap, by rw [hlen'], fun j hj => ?_⟩, fun y hy => ?_⟩
    · rw [hlen'] at hj
      have hget : ((List.range len).map q)[j]'(by rw [hlen']; exact hj) = q j := by simp
      rw [hget]
      obtain ⟨p0, p1, p2, _⟩ := hq j hj
      obtain ⟨g, off, spot⟩ := a
      obtain ⟨z0, _⟩ := hq 0 (by omega)
      have hspot : spot = none := by simpa [Addr.add] using World.cell?_spot z0
      subst hspot
      have hg : g < w.heap.size := by
        have := Bk.cell_lt z0
        simpa [Addr.add] using this
      have ea : ∀ (c k : Nat), ((⟨g, off, none⟩ : Addr).add c).add k = ⟨g, off + c + k, none⟩ := fun c k => by rw [Go.WideShapes.add_plain, Go.WideShapes.add_plain]
      rw [Go.WideShapes.add_plain] at p0
      rw [ea] at p1 p2
      exact ⟨g, off, rfl, hg, p0, p1, p2⟩
    · obtain ⟨i, hi, rfl⟩ := List.mem_map.1 hy
      obtain ⟨_, _, _, h⟩ := hq i (List.mem_range.1 hi)
      exact h

theorem Bl.ints_of {l : List Bl} (h : ∀ x ∈ l, x.allP Bl.intB = true) : Bl.allPs Bl.intB l = true := by
  induction l with
  | nil => rw [Bl.allPs]
  | cons k r ih => rw [Bl.allPs, h k (by simp), ih fun x hx => h x (by simp [hx])]; rfl

theorem Bl.open_block {H : Type} {enc : TypeId × Value → H} {w : World} {spare : Nat → Bool} {held : Bool} : ∀ (fuel : Nat) (cs : List Value) (x : DataW H × List MemPlace), DataW.trod enc Tryz.prog w 0 spare held fuel 29 cs = some x →
    ∃ (T : Bl) (v lv : Value), cs = [.int .i64 T.kind, .int .i64 T.node, .int .i64 T.arg, v, lv] ∧ Bl.Lies w w.heap.size fuel v lv T ∧ T.allP Bl.intB = true := by
  intro fuel
  induction fuel using Nat.strongRecOn with
  | _ fuel ih =>
    intro cs x h
    obtain ⟨ys, n, rfl, hx, hl, hy, hf⟩ := DataW.trod_struct Tryz.underlying29 h
    rw [Bk.cellsBlock] at hl
    have hy : ys.length = 5 := hy
    obtain ⟨c0, c1, c2, c3, c4, rfl⟩ := Bk.list5 hl
    obtain ⟨y0, y1, y2, y3, y4, rfl⟩ := Bk.list5 hy
    have g0 : DataW.trod enc Tryz.prog w 0 spare held n 3 (([c0, c1, c2, c3, c4].drop 0).take (Tryz.prog.cellsOf 3)) = [y0, y1, y2, y3, y4][0]? := hf 0 _ rfl
    have g1 : DataW.trod enc Tryz.prog w 0 spare held n 3 (([c0, c1, c2, c3, c4].drop 1).take (Tryz.prog.cellsOf 3)) = [y0, y1, y2, y3, y4][1]? := hf 1 _ rfl
    have g2 : DataW.trod enc Tryz.prog w 0 spare held n 3 (([c0, c1, c2, c3, c4].drop 2).take (Tryz.prog.cellsOf 3)) = [y0, y1, y2, y3, y4][2]? := hf 2 _ rfl
    have g3 : DataW.trod enc Tryz.prog w 0 spare held n 26 (([c0, c1, c2, c3, c4].drop 3).take (Tryz.prog.cellsOf 26)) = [y0, y1, y2, y3, y4][3]? := hf 3 _ rfl
    have g4 : DataW.trod enc Tryz.prog w 0 spare held n 27 (([c0, c1, c2, c3, c4].drop 4).take (Tryz.prog.cellsOf 27)) = [y0, y1, y2, y3, y4][4]? := hf 4 _ rfl
    rw [Bk.cellsInt] at g0 g1 g2
    rw [Bk.cellsBlocks] at g3
    rw [Bk.cellsLinks] at g4
    obtain ⟨k0, e0, _, w0⟩ := DataW.trod_int Tryz.underlying3 g0
    obtain ⟨k1, e1, _, w1⟩ := DataW.trod_int Tryz.underlying3 g1
    obtain ⟨k2, e2, _, w2⟩ := DataW.trod_int Tryz.underlying3 g2
    obtain rfl : c0 = .int .i64 k0 := (List.cons.inj e0).1
    obtain rfl : c1 = .int .i64 k1 := (List.cons.inj e1).1
    obtain rfl : c2 = .int .i64 k2 := (List.cons.inj e2).1
    obtain ⟨ls, hLk, hli⟩ := Bl.open_links (c := c4) g4
    have hib : Bl.intB k0 k1 k2 ls = true := by
      have z1 := Bk.wf64 w1
      have z2 := Bk.wf64 w2
      simp only [Bl.intB, Bool.and_eq_true, decide_eq_true_eq, List.all_eq_true]
      exact ⟨⟨z1.2, z2.2⟩, fun y hy => hli y hy⟩
    rcases DataW.trod_slice Tryz.underlying26 g3 with ⟨e3, _⟩ | ⟨a, len, cap, elems, rest, n', hn', e3, _, _, hlc, _, hlen, hel, _, _⟩
    · obtain rfl : c3 = .slice none 0 0 := (List.cons.inj e3).1
      exact ⟨.mk k0 k1 k2 [] ls, .slice none 0 0, c4, rfl, ⟨hLk, none, 0, rfl, .inl rfl⟩, by rw [Bl.allP, hib, Bl.allPs]; rfl⟩
    · obtain rfl : c3 = .slice (some a) len cap := (List.cons.inj e3).1
      subst hn'
      have each : ∀ i, i < len → ∃ q : Bl, ∃ u lu, w.cell? (a.add (i * 5)) = some (.int .i64 q.kind) ∧ w.cell? ((a.add (i * 5)).add 1) = some (.int .i64 q.node) ∧ w.cell? ((a.add (i * 5)).add 2) = some (.int .i64 q.arg) ∧ w.cell? ((a.add (i * 5)).add 3) = some u ∧ w.cell? ((a.add (i * 5)).add 4) = some lu ∧ Bl.Lies w w.heap.size n' u lu q ∧ q.allP Bl.intB = true := by
        intro i hi
        have h1 := hel i hi
        rw [Bk.cellsBlock, List.getElem?_eq_getElem (by omega)] at h1
        obtain ⟨cs', h2, h3⟩ := Option.bind_eq_some_iff.1 h1
        obtain ⟨q, u, lu, rfl, hq, hqw⟩ := ih n' (by omega) cs' _ h3
        obtain ⟨_, hl3, hc⟩ := World.cells?_some h2
        exact ⟨q, u, lu, by simpa [Addr.add] using hc 0 (by simp), by simpa using hc 1 (by simp), by simpa using hc 2 (by simp), by simpa using hc 3 (by simp), by simpa using hc 4 (by simp), hq, hqw⟩
      obtain ⟨q, hq⟩ := choose_lt each
      have hlen' : ((List.range len).map q).length = len := by simp
      have hget : ∀ j (h : j < ((List.range len).map q).length), ((List.range len).map q)[j] = q j := fun j h => by simp
      have hwl : Bl.allPs Bl.intB ((List.range len).map q) = true := Bl.ints_of fun x hx => by
        obtain ⟨i, hi, rfl⟩ := List.mem_map.1 hx
        obtain ⟨_, _, _, _, _, _, _, _, h⟩ := hq i (List.mem_range.1 hi)
        exact h
      refine ⟨.mk k0 k1 k2 ((List.range len).map q) ls, .slice (some a) len cap, c4, rfl, ⟨hLk, some a, cap, by rw [show (Bl.mk k0 k1 k2 ((List.range len).map q) ls).ks = (List.range len).map q from rfl, hlen'], ?_⟩, by rw [Bl.allP, hib, hwl]; rfl⟩
      by_cases hz : len = 0
      · subst hz; exact .inl rfl
      · obtain ⟨g, off, spot⟩ := a
        obtain ⟨_, _, h0, _⟩ := hq 0 (by omega)
        have hspot : spot = none := by simpa [Addr.add] using World.cell?_spot h0
        subst hspot
        have hg : g < w.heap.size := by
          have := Bk.cell_lt h0
          simpa [Addr.add] using this
        refine .inr ⟨g, off, rfl, hg, fun j hj => ?_⟩
        have hj' : j < ((List.range len).map q).length := hj
        show ∃ u lu, w.cell? ⟨g, off + j * 5, none⟩ = some (.int .i64 (((List.range len).map q)[j]'hj').kind) ∧ w.cell? ⟨g, off + j * 5 + 1, none⟩ = some (.int .i64 (((List.range len).map q)[j]'hj').node) ∧ w.cell? ⟨g, off + j * 5 + 2, none⟩ = some (.int .i64 (((List.range len).map q)[j]'hj').arg) ∧ w.cell? ⟨g, off + j * 5 + 3, none⟩ = some u ∧ w.cell? ⟨g, off + j * 5 + 4, none⟩ = some lu ∧ Bl.Lies w w.heap.size (n' + 1) u lu (((List.range len).map q)[j]'hj')
        rw [hget j hj']
        rw [hlen'] at hj'
        obtain ⟨u, lu, p0, p1, p2, p3, p4, p5, _⟩ := hq j hj'
        have ea : ∀ (c k : Nat), ((⟨g, off, none⟩ : Addr).add c).add k = ⟨g, off + c + k, none⟩ := fun c k => by rw [Go.WideShapes.add_plain, Go.WideShapes.add_plain]
        rw [Go.WideShapes.add_plain] at p0
        rw [ea] at p1 p2 p3 p4
        exact ⟨u, lu, p0, p1, p2, p3, p4, p5.more⟩

end Go.Proofs
