/-
  A process that came in, as it is read: nodes and flows that lie in memory.
-/
import Derived.Test.YtmpejbdmamgepaaDoorTArg
import Derived.Test.YtmpejbdmamgepaaDoorNtModel
import Derived.Test.YtmpejbdmamgepaaDoorFrameKit
namespace Go.Proofs
open Go.RowKit Go.ChangeShapes Go.WideShapes Go.Deep

theorem Tm.Lies.up {w : World} {B : Nat} {d e : Nat} {v : Value} {T : Tm} (h : Tm.Lies w B d v T) (he : d ≤ e) : Tm.Lies w B e v T := by
  induction he with
  | refl => exact h
  | step _ ih => exact ih.more
theorem Nt.cellsNode : Tryd.prog.cellsOf 37 = 5 := by kernel_rfl
theorem Nt.cellsFlow : Tryd.prog.cellsOf 47 = 6 := by kernel_rfl
theorem Nt.cellsNet : Tryd.prog.cellsOf 25 = 2 := by kernel_rfl
theorem Nt.cellsBool : Tryd.prog.cellsOf 4 = 1 := by kernel_rfl
theorem Nt.cellsNodes : Tryd.prog.cellsOf 22 = 1 := by kernel_rfl
theorem Nt.cellsFlows : Tryd.prog.cellsOf 23 = 1 := by kernel_rfl
theorem Nt.list2 {α : Type} {l : List α} (h : l.length = 2) : ∃ a b, l = [a, b] := by
  match l, h with
  | [a, b], _ => exact ⟨a, b, rfl⟩
theorem Nt.list4 {α : Type} {l : List α} (h : l.length = 4) : ∃ a b c d, l = [a, b, c, d] := by
  match l, h with
  | [a, b, c, d], _ => exact ⟨a, b, c, d, rfl⟩
theorem Nt.list5 {α : Type} {l : List α} (h : l.length = 5) : ∃ a b c d e, l = [a, b, c, d, e] := by
  match l, h with
  | [a, b, c, d, e], _ => exact ⟨a, b, c, d, e, rfl⟩
theorem Nt.list6 {α : Type} {l : List α} (h : l.length = 6) : ∃ a b c d e f, l = [a, b, c, d, e, f] := by
  match l, h with
  | [a, b, c, d, e, f], _ => exact ⟨a, b, c, d, e, f, rfl⟩

section
variable {H : Type} {enc : TypeId × Value → H} {w : World} {spare : Nat → Bool} {held : Bool}

theorem Nt.open_node (fuel : Nat) (cs : List Value) (x : DataW H × List MemPlace) (h : DataW.trod enc Tryd.prog w 0 spare held fuel 37 cs = some x) :
    ∃ (X : Nd) (v : Value), cs = [.int .i64 X.kind, .int .i64 X.a, .int .i64 X.t.op, .int .i64 X.t.num, v] ∧ Tm.Lies w w.heap.size fuel v X.t := by
  obtain ⟨ys, n, rfl, hx, hl, hy, hf⟩ := DataW.trod_struct Tryd.underlying37 h
  rw [Nt.cellsNode] at hl
  have hy : ys.length = 3 := hy
  obtain ⟨c0, c1, c2, c3, c4, rfl⟩ := Nt.list5 hl
  obtain ⟨y0, y1, y2, rfl⟩ := Tk.list3 hy
  have g0 : DataW.trod enc Tryd.prog w 0 spare held n 3 (([c0, c1, c2, c3, c4].drop 0).take (Tryd.prog.cellsOf 3)) = [y0, y1, y2][0]? := hf 0 _ rfl
  have g1 : DataW.trod enc Tryd.prog w 0 spare held n 3 (([c0, c1, c2, c3, c4].drop 1).take (Tryd.prog.cellsOf 3)) = [y0, y1, y2][1]? := hf 1 _ rfl
  have g2 : DataW.trod enc Tryd.prog w 0 spare held n 35 (([c0, c1, c2, c3, c4].drop 2).take (Tryd.prog.cellsOf 35)) = [y0, y1, y2][2]? := hf 2 _ rfl
  rw [Tk.cellsInt1] at g0 g1
  rw [Tk.cellsTerm] at g2
  obtain ⟨o, e0, _⟩ := DataW.trod_int Tryd.underlying3 g0
  obtain ⟨m, e1, _⟩ := DataW.trod_int Tryd.underlying3 g1
  obtain rfl : c0 = .int .i64 o := (List.cons.inj e0).1
  obtain rfl : c1 = .int .i64 m := (List.cons.inj e1).1
  obtain ⟨T, v, hcs, hT⟩ := Tm.open_term n _ _ g2
  have h3 : [c2, c3, c4] = [.int .i64 T.op, .int .i64 T.num, v] := hcs
  simp only [List.cons.injEq, and_true] at h3
  obtain ⟨rfl, rfl, rfl⟩ := h3
  exact ⟨⟨o, m, T⟩, c4, rfl, hT.up (by omega)⟩

theorem Nt.open_flow (fuel : Nat) (cs : List Value) (x : DataW H × List MemPlace) (h : DataW.trod enc Tryd.prog w 0 spare held fuel 47 cs = some x) :
    ∃ (X : Fl) (v : Value), cs = [.int .i64 X.fr, .int .i64 X.to, .bool X.els, .int .i64 X.c.op, .int .i64 X.c.num, v] ∧ Tm.Lies w w.heap.size fuel v X.c := by
  obtain ⟨ys, n, rfl, hx, hl, hy, hf⟩ := DataW.trod_struct Tryd.underlying47 h
  rw [Nt.cellsFlow] at hl
  have hy : ys.length = 4 := hy
  obtain ⟨c0, c1, c2, c3, c4, c5, rfl⟩ := Nt.list6 hl
  obtain ⟨y0, y1, y2, y3, rfl⟩ := Nt.list4 hy
  have g0 : DataW.trod enc Tryd.prog w 0 spare held n 3 (([c0, c1, c2, c3, c4, c5].drop 0).take (Tryd.prog.cellsOf 3)) = [y0, y1, y2, y3][0]? := hf 0 _ rfl
  have g1 : DataW.trod enc Tryd.prog w 0 spare held n 3 (([c0, c1, c2, c3, c4, c5].drop 1).take (Tryd.prog.cellsOf 3)) = [y0, y1, y2, y3][1]? := hf 1 _ rfl
  have g2 : DataW.trod enc Tryd.prog w 0 spare held n 4 (([c0, c1, c2, c3, c4, c5].drop 2).take (Tryd.prog.cellsOf 4)) = [y0, y1, y2, y3][2]? := hf 2 _ rfl
  have g3 : DataW.trod enc Tryd.prog w 0 spare held n 35 (([c0, c1, c2, c3, c4, c5].drop 3).take (Tryd.prog.cellsOf 35)) = [y0, y1, y2, y3][3]? := hf 3 _ rfl
  rw [Tk.cellsInt1] at g0 g1
  rw [Nt.cellsBool] at g2
  rw [Tk.cellsTerm] at g3
  obtain ⟨o, e0, _⟩ := DataW.trod_int Tryd.underlying3 g0
  obtain ⟨m, e1, _⟩ := DataW.trod_int Tryd.underlying3 g1
  obtain ⟨b, e2, _⟩ := DataW.trod_bool Tryd.underlying4 g2
  obtain rfl : c0 = .int .i64 o := (List.cons.inj e0).1
  obtain rfl : c1 = .int .i64 m := (List.cons.inj e1).1
  obtain rfl : c2 = .bool b := (List.cons.inj e2).1
  obtain ⟨T, v, hcs, hT⟩ := Tm.open_term n _ _ g3
  have h3 : [c3, c4, c5] = [.int .i64 T.op, .int .i64 T.num, v] := hcs
  simp only [List.cons.injEq, and_true] at h3
  obtain ⟨rfl, rfl, rfl⟩ := h3
  exact ⟨⟨o, m, b, T⟩, c5, rfl, hT.up (by omega)⟩

theorem Nt.open_nodes (fuel : Nat) (c : Value) (x : DataW H × List MemPlace) (h : DataW.trod enc Tryd.prog w 0 spare held fuel 22 [c] = some x) : ∃ a cap ns, c = .slice a (ns : List Nd).length cap ∧ Nt.Nds w w.heap.size fuel a ns := by
  rcases DataW.trod_slice Tryd.underlying22 h with ⟨e2, _⟩ | ⟨a, len, cap, elems, rest, n', hn', e2, _, _, hlc, _, hlen, hel, _, _⟩
  · obtain rfl : c = .slice none 0 0 := (List.cons.inj e2).1
    exact ⟨none, 0, [], rfl, fun j hj => by simp at hj⟩
  · obtain rfl : c = .slice (some a) len cap := (List.cons.inj e2).1
    subst hn'
    have each : ∀ i, i < len → ∃ q : Nd, ∃ u, w.cell? (a.add (i * 5)) = some (.int .i64 q.kind) ∧ w.cell? ((a.add (i * 5)).add 1) = some (.int .i64 q.a) ∧ w.cell? ((a.add (i * 5)).add 2) = some (.int .i64 q.t.op) ∧ w.cell? ((a.add (i * 5)).add 3) = some (.int .i64 q.t.num) ∧ w.cell? ((a.add (i * 5)).add 4) = some u ∧ Tm.Lies w w.heap.size n' u q.t := by
      intro i hi
      have h1 := hel i hi
      rw [Nt.cellsNode, List.getElem?_eq_getElem (by omega)] at h1
      obtain ⟨cs', h2, h3⟩ := Option.bind_eq_some_iff.1 h1
      obtain ⟨q, u, rfl, hq⟩ := Nt.open_node n' cs' _ h3
      obtain ⟨_, hl3, hc⟩ := World.cells?_some h2
      exact ⟨q, u, by simpa [Addr.add] using hc 0 (by simp), by simpa using hc 1 (by simp), by simpa using hc 2 (by simp), by simpa using hc 3 (by simp), by simpa using hc 4 (by simp), hq⟩
    by_cases hz : len = 0
    · subst hz
      exact ⟨some a, cap, [], rfl, fun j hj => by simp at hj⟩
    · haveI : Inhabited Nd := ⟨⟨0, 0, .mk 0 0 []⟩⟩
      obtain ⟨q, hq⟩ := choose_lt each
      have hlen' : ((List.range len).map q).length = len := by simp
      refine ⟨some a, cap, (List.range len).map q, by rw [hlen'], fun j hj => ?_⟩
      obtain ⟨g, off, spot⟩ := a
      obtain ⟨_, h0, _⟩ := hq 0 (by omega)
      have hspot : spot = none := by simpa [Addr.add] using World.cell?_spot h0
      subst hspot
      have hg : g < w.heap.size := by
        have := Tk.cell_lt h0
        simpa [Addr.add] using this
      have hget : ((List.range len).map q)[j] = q j := by simp
      rw [hget]
      rw [hlen'] at hj
      obtain ⟨u, p0, p1, p2, p3, p4, p5⟩ := hq j hj
      have ea : ∀ (c k : Nat), ((⟨g, off, none⟩ : Addr).add c).add k = ⟨g, off + c + k, none⟩ := fun c k => by rw [Go.WideShapes.add_plain, Go.WideShapes.add_plain]
      rw [Go.WideShapes.add_plain] at p0
      rw [ea] at p1 p2 p3 p4
      exact ⟨g, off, u, rfl, hg, p0, p1, p2, p3, p4, p5.up (by omega)⟩

theorem Nt.open_flows (fuel : Nat) (c : Value) (x : DataW H × List MemPlace) (h : DataW.trod enc Tryd.prog w 0 spare held fuel 23 [c] = some x) : ∃ a cap fs, c = .slice a (fs : List Fl).length cap ∧ Nt.Fls w w.heap.size fuel a fs := by
  rcases DataW.trod_slice Tryd.underlying23 h with ⟨e2, _⟩ | ⟨a, len, cap, elems, rest, n', hn', e2, _, _, hlc, _, hlen, hel, _, _⟩
  · obtain rfl : c = .slice none 0 0 := (List.cons.inj e2).1
    exact ⟨none, 0, [], rfl, fun j hj => by simp at hj⟩
  · obtain rfl : c = .slice (some a) len cap := (List.cons.inj e2).1
    subst hn'
    have each : ∀ i, i < len → ∃ q : Fl, ∃ u, w.cell? (a.add (i * 6)) = some (.int .i64 q.fr) ∧ w.cell? ((a.add (i * 6)).add 1) = some (.int .i64 q.to) ∧ w.cell? ((a.add (i * 6)).add 2) = some (.bool q.els) ∧ w.cell? ((a.add (i * 6)).add 3) = some (.int .i64 q.c.op) ∧ w.cell? ((a.add (i * 6)).add 4) = some (.int .i64 q.c.num) ∧ w.cell? ((a.add (i * 6)).add 5) = some u ∧ Tm.Lies w w.heap.size n' u q.c := by
      intro i hi
      have h1 := hel i hi
      rw [Nt.cellsFlow, List.getElem?_eq_getElem (by omega)] at h1
      obtain ⟨cs', h2, h3⟩ := Option.bind_eq_some_iff.1 h1
      obtain ⟨q, u, rfl, hq⟩ := Nt.open_flow n' cs' _ h3
      obtain ⟨_, hl3, hc⟩ := World.cells?_some h2
      exact ⟨q, u, by simpa [Addr.add] using hc 0 (by simp), by simpa using hc 1 (by simp), by simpa using hc 2 (by simp), by simpa using hc 3 (by simp), by simpa using hc 4 (by simp), by simpa using hc 5 (by simp), hq⟩
    by_cases hz : len = 0
    · subst hz
      exact ⟨some a, cap, [], rfl, fun j hj => by simp at hj⟩
    · haveI : Inhabited Fl := ⟨⟨0, 0, false, .mk 0 0 []⟩⟩
      obtain ⟨q, hq⟩ := choose_lt each
      have hlen' : ((List.range len).map q).length = len := by simp
      refine ⟨some a, cap, (List.range len).map q, by rw [hlen'], fun j hj => ?_⟩
      obtain ⟨g, off, spot⟩ := a
      obtain ⟨_, h0, _⟩ := hq 0 (by omega)
      have hspot : spot = none := by simpa [Addr.add] using World.cell?_spot h0
      subst hspot
      have hg : g < w.heap.size := by
        have := Tk.cell_lt h0
        simpa [Addr.add] using this
      have hget : ((List.range len).map q)[j] = q j := by simp
      rw [hget]
      rw [hlen'] at hj
      obtain ⟨u, p0, p1, p2, p3, p4, p5, p6⟩ := hq j hj
      have ea : ∀ (c k : Nat), ((⟨g, off, none⟩ : Addr).add c).add k = ⟨g, off + c + k, none⟩ := fun c k => by rw [Go.WideShapes.add_plain, Go.WideShapes.add_plain]
      rw [Go.WideShapes.add_plain] at p0
      rw [ea] at p1 p2 p3 p4 p5
      exact ⟨g, off, u, rfl, hg, p0, p1, p2, p3, p4, p5, p6.up (by omega)⟩

set_option maxRecDepth 20000 in
/-- A process that came in. -/
theorem Nt.open_net {r : Go.Reach} {b0 : Nat} {v : Value} {d : DataW H} {ps : List MemPlace} (hval : Value.okWide Tryd.prog w r b0 25 v) (h : DataW.Trod enc Tryd.prog w 0 spare held 25 v d ps) :
    ∃ an cn af cf ns fs fuel, v = .agg #[.slice an (ns : List Nd).length cn, .slice af (fs : List Fl).length cf] ∧ Nt.Nds w w.heap.size fuel an ns ∧ Nt.Fls w w.heap.size fuel af fs := by
  obtain ⟨cs, rfl, _⟩ := okWide_struct Tryd.underlying25 hval
  obtain ⟨fuel, hf0⟩ := h
  obtain ⟨ys, n, rfl, hx, hl, hy, hf⟩ := DataW.trod_struct Tryd.underlying25 hf0
  rw [Nt.cellsNet] at hl
  have hy : ys.length = 2 := hy
  obtain ⟨c0, c1, hcs⟩ := Nt.list2 hl
  obtain ⟨y0, y1, rfl⟩ := Nt.list2 hy
  have g0 : DataW.trod enc Tryd.prog w 0 spare held n 22 (((Value.agg cs).cells.toList.drop 0).take (Tryd.prog.cellsOf 22)) = [y0, y1][0]? := hf 0 _ rfl
  have g1 : DataW.trod enc Tryd.prog w 0 spare held n 23 (((Value.agg cs).cells.toList.drop 1).take (Tryd.prog.cellsOf 23)) = [y0, y1][1]? := hf 1 _ rfl
  rw [Nt.cellsNodes, hcs] at g0
  rw [Nt.cellsFlows, hcs] at g1
  obtain ⟨an, cn, ns, rfl, hN⟩ := Nt.open_nodes n c0 _ g0
  obtain ⟨af, cf, fs, rfl, hF⟩ := Nt.open_flows n c1 _ g1
  have hcs' : cs = #[.slice an ns.length cn, .slice af fs.length cf] := by
    have : cs.toList = [.slice an ns.length cn, .slice af fs.length cf] := hcs
    cases cs
    simp_all
  exact ⟨an, cn, af, cf, ns, fs, n, by rw [hcs'], hN, hF⟩
end

end Go.Proofs
