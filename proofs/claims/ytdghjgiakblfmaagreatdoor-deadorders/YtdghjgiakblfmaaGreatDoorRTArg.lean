import Derived.Test.YtdghjgiakblfmaaGreatDoorRTmModel
import Derived.Deep.Slices
import Derived.ProofKit
import Derived.Carry
import Derived.SizedLaws
namespace Go.Proofs
open Go.RowKit Go.ChangeShapes Go.WideShapes Go.Deep
instance : Inhabited Tm := ⟨.mk 0 0 []⟩
theorem Tm.Lies.more {w : World} {B : Nat} : ∀ {d : Nat} {v : Value} {T : Tm}, Tm.Lies w B d v T → Tm.Lies w B (d + 1) v T
 | 0, _, _, h => h.elim
 | d + 1, v, T, h => by
   obtain ⟨a, cap, hv, h⟩ := h
   refine ⟨a, cap, hv, h.elim .inl fun ⟨g, off, ha, hg, hr⟩ => .inr ⟨g, off, ha, hg, fun j hj => ?_⟩⟩
   obtain ⟨u, h0, h1, h2, h3⟩ := hr j hj
   exact ⟨u, h0, h1, h2, Tm.Lies.more h3⟩
theorem Tk.cellsTerm : Tryz.prog.cellsOf 24 = 3 := by kernel_rfl
theorem Tk.cellsInt1 : Tryz.prog.cellsOf 3 = 1 := by kernel_rfl
theorem Tk.cellsTerms : Tryz.prog.cellsOf 22 = 1 := by kernel_rfl
theorem Tk.list3 {α : Type} {l : List α} (h : l.length = 3) : ∃ a b c, l = [a, b, c] := by
 match l, h with
 | [a, b, c], _ => exact ⟨a, b, c, rfl⟩
theorem Tk.cell_lt {w : World} {a : Addr} {v : Value} (h : w.cell? a = some v) : a.block < w.heap.size := by
 rcases Nat.lt_or_ge a.block w.heap.size with h1 | h1
 ·exact h1
 ·unfold World.cell? at h
  simp [h1] at h
theorem Tm.open_term {H : Type} {enc : TypeId × Value → H} {w : World} {spare : Nat → Bool} {held : Bool} : ∀ (fuel : Nat) (cs : List Value) (x : DataW H × List MemPlace), DataW.trod enc Tryz.prog w 0 spare held fuel 24 cs = some x →
   ∃ (T : Tm) (v : Value), cs = [.int .i64 T.op, .int .i64 T.num, v] ∧ Tm.Lies w w.heap.size fuel v T := by
 intro fuel
 induction fuel using Nat.strongRecOn with
 | _ fuel ih =>
   intro cs x h
   obtain ⟨ys, n, rfl, hx, hl, hy, hf⟩ := DataW.trod_struct Tryz.underlying24 h
   rw [Tk.cellsTerm] at hl
   have hy : ys.length = 3 := hy
   obtain ⟨c0, c1, c2, rfl⟩ := Tk.list3 hl
   obtain ⟨y0, y1, y2, rfl⟩ := Tk.list3 hy
   have g0 : DataW.trod enc Tryz.prog w 0 spare held n 3 (([c0, c1, c2].drop 0).take (Tryz.prog.cellsOf 3)) = [y0, y1, y2][0]? := hf 0 _ rfl
   have g1 : DataW.trod enc Tryz.prog w 0 spare held n 3 (([c0, c1, c2].drop 1).take (Tryz.prog.cellsOf 3)) = [y0, y1, y2][1]? := hf 1 _ rfl
   have g2 : DataW.trod enc Tryz.prog w 0 spare held n 22 (([c0, c1, c2].drop 2).take (Tryz.prog.cellsOf 22)) = [y0, y1, y2][2]? := hf 2 _ rfl
   rw [Tk.cellsInt1] at g0 g1
   rw [Tk.cellsTerms] at g2
   obtain ⟨o, e0, _⟩ := DataW.trod_int Tryz.underlying3 g0
   obtain ⟨m, e1, _⟩ := DataW.trod_int Tryz.underlying3 g1
   obtain rfl : c0 = .int .i64 o := (List.cons.inj e0).1
   obtain rfl : c1 = .int .i64 m := (List.cons.inj e1).1
   rcases DataW.trod_slice Tryz.underlying22 g2 with ⟨e2, _⟩ | ⟨a, len, cap, elems, rest, n', hn', e2, _, _, hlc, _, hlen, hel, _, _⟩
   ·obtain rfl : c2 = .slice none 0 0 := (List.cons.inj e2).1
    exact ⟨.mk o m [], .slice none 0 0, rfl, none, 0, rfl, .inl rfl⟩
   ·obtain rfl : c2 = .slice (some a) len cap := (List.cons.inj e2).1
    subst hn'
    have each : ∀ i, i < len → ∃ q : Tm, ∃ u, w.cell? (a.add (i * 3)) = some (.int .i64 q.op) ∧ w.cell? ((a.add (i * 3)).add 1) = some (.int .i64 q.num) ∧ w.cell? ((a.add (i * 3)).add 2) = some u ∧ Tm.Lies w w.heap.size n' u q := by
     intro i hi
     have h1 := hel i hi
     rw [Tk.cellsTerm, List.getElem?_eq_getElem (by omega)] at h1
     obtain ⟨cs', h2, h3⟩ := Option.bind_eq_some_iff.1 h1
     obtain ⟨q, u, rfl, hq⟩ := ih n' (by omega) cs' _ h3
     obtain ⟨_, hl3, hc⟩ := World.cells?_some h2
     exact ⟨q, u, by simpa [Addr.add] using hc 0 (by simp), by simpa using hc 1 (by simp), by simpa using hc 2 (by simp), hq⟩
    obtain ⟨q, hq⟩ := choose_lt each
    have hlen' : ((List.range len).map q).length = len := by simp
    have hget : ∀ j (h : j < ((List.range len).map q).length), ((List.range len).map q)[j] = q j := fun j h => by simp
    refine ⟨.mk o m ((List.range len).map q), .slice (some a) len cap, rfl, some a, cap, by rw [show (Tm.mk o m ((List.range len).map q)).ks = (List.range len).map q from rfl, hlen'], ?_⟩
    by_cases hz : len = 0
    ·subst hz; exact .inl rfl
    ·obtain ⟨g, off, spot⟩ := a
     obtain ⟨_, h0, _⟩ := hq 0 (by omega)
     have hspot : spot = none := by simpa [Addr.add] using World.cell?_spot h0
     subst hspot
     have hg : g < w.heap.size := by
      have := Tk.cell_lt h0
      simpa [Addr.add] using this
     refine .inr ⟨g, off, rfl, hg, fun j hj => ?_⟩
     have hj' : j < ((List.range len).map q).length := hj
     show ∃ u, w.cell? ⟨g, off + j * 3, none⟩ = some (.int .i64 (((List.range len).map q)[j]'hj').op) ∧ w.cell? ⟨g, off + j * 3 + 1, none⟩ = some (.int .i64 (((List.range len).map q)[j]'hj').num) ∧ w.cell? ⟨g, off + j * 3 + 2, none⟩ = some u ∧ Tm.Lies w w.heap.size (n' + 1) u (((List.range len).map q)[j]'hj')
     rw [hget j hj']
     rw [hlen'] at hj'
     obtain ⟨u, p0, p1, p2, p3⟩ := hq j hj'
     have ea : ∀ (c k : Nat), ((⟨g, off, none⟩ : Addr).add c).add k = ⟨g, off + c + k, none⟩ := fun c k => by rw [Go.WideShapes.add_plain, Go.WideShapes.add_plain]
     rw [Go.WideShapes.add_plain] at p0
     rw [ea] at p1 p2
     exact ⟨u, p0, p1, p2, p3.more⟩
end Go.Proofs
namespace Go.Proofs
open Go.RowKit Go.ChangeShapes Go.WideShapes
theorem Fk.laidOut : laidOutB Tryz.prog = true := by kernel_rfl
theorem Fk.trodAll_below' {H : Type} {enc : TypeId × Value → H} {P : Program} (hl : laidOutB P = true) {W W' : World} (hb : Below W.heap.size W W') : ∀ {ts : List TypeId} {vs : List Value} {ds : List (DataW H)} {ps : List MemPlace},
   (ts.all fun t => P.readableRec t && decide (t < P.types.size)) = true → DataW.TrodAll enc P W 0 (fun _ => true) true ts vs ds ps → (∀ x ∈ ps, x.block < W.heap.size) →
   DataW.TrodAll enc P W' 0 (fun b => decide (b < W.heap.size)) true ts vs ds ps
 | [], [], [], _, _, h, _ => h
 | t :: _, _ :: _, _ :: _, _, hT, ⟨p, q, h1, h2, e⟩, hs => by
   simp only [List.all_cons, Bool.and_eq_true, decide_eq_true_eq] at hT
   exact ⟨p, q, Below.trod hl hT.1.1 hT.1.2 h1 hb (fun x hx => hs x (by rw [e]; exact List.mem_append_left _ hx)),
    Fk.trodAll_below' hl hb hT.2 h2 (fun x hx => hs x (by rw [e]; exact List.mem_append_right _ hx)), e⟩
theorem Fk.trodAll_below {H : Type} {enc : TypeId × Value → H} {W W' : World} (hb : Below W.heap.size W W') {ts : List TypeId} {vs : List Value} {ds : List (DataW H)} {ps : List MemPlace}
 (hT : (ts.all fun t => Tryz.prog.readableRec t && decide (t < Tryz.prog.types.size)) = true) (h : DataW.TrodAll enc Tryz.prog W 0 (fun _ => true) true ts vs ds ps) (hs : ∀ x ∈ ps, x.block < W.heap.size) :
 DataW.TrodAll enc Tryz.prog W' 0 (fun b => decide (b < W.heap.size)) true ts vs ds ps := Fk.trodAll_below' Fk.laidOut hb hT h hs
end Go.Proofs
namespace Go.Proofs
open Go.RowKit Go.ChangeShapes Go.WideShapes Go.Deep
theorem Tm.Lies.up {w : World} {B : Nat} {d e : Nat} {v : Value} {T : Tm} (h : Tm.Lies w B d v T) (he : d ≤ e) : Tm.Lies w B e v T := by
 induction he with
 | refl => exact h
 | step _ ih => exact ih.more
theorem Nt.cellsNode : Tryz.prog.cellsOf 76 = 5 := by kernel_rfl
theorem Nt.cellsFlow : Tryz.prog.cellsOf 78 = 6 := by kernel_rfl
theorem Nt.cellsNet : Tryz.prog.cellsOf 30 = 2 := by kernel_rfl
theorem Nt.cellsBool : Tryz.prog.cellsOf 4 = 1 := by kernel_rfl
theorem Nt.cellsNodes : Tryz.prog.cellsOf 27 = 1 := by kernel_rfl
theorem Nt.cellsFlows : Tryz.prog.cellsOf 28 = 1 := by kernel_rfl
theorem Nt.list2 {α : Type} {l : List α} (h : l.length = 2) : ∃ a b, l = [a, b] := by
 match l, h with
 | [a, b], _ => exact ⟨a, b, rfl⟩
theorem Nt.list4 {α : Type} {l : List α} (h : l.length = 4) : ∃ a b c d, l = [a, b, c, d] := by
 match l, h with
 | [a, b, c, d], _ => exact ⟨a, b, c, d, rfl⟩
theorem Nt.list5 {α : Type} {l : List α} (h : l.length = 5) : ∃ a b c d e, l = [a, b, c, d, e] := by
 match l, h with
 | [a, b, c, d, e], _ => exact ⟨a, b, c, d, e, rfl⟩
theorem Nt.list6 {α : Type} {l : List α} (h : l.length = 6) : ∃ a b c d e f, l = [a, b, c, d, e, f] := by
 match l, h with
 | [a, b, c, d, e, f], _ => exact ⟨a, b, c, d, e, f, rfl⟩
section
variable {H : Type} {enc : TypeId × Value → H} {w : World} {spare : Nat → Bool} {held : Bool}
theorem Nt.open_node (fuel : Nat) (cs : List Value) (x : DataW H × List MemPlace) (h : DataW.trod enc Tryz.prog w 0 spare held fuel 76 cs = some x) :
  ∃ (X : Nd) (v : Value), cs = [.int .i64 X.kind, .int .i64 X.a, .int .i64 X.t.op, .int .i64 X.t.num, v] ∧ Tm.Lies w w.heap.size fuel v X.t := by
 obtain ⟨ys, n, rfl, hx, hl, hy, hf⟩ := DataW.trod_struct Tryz.underlying76 h
 rw [Nt.cellsNode] at hl
 have hy : ys.length = 3 := hy
 obtain ⟨c0, c1, c2, c3, c4, rfl⟩ := Nt.list5 hl
 obtain ⟨y0, y1, y2, rfl⟩ := Tk.list3 hy
 have g0 : DataW.trod enc Tryz.prog w 0 spare held n 3 (([c0, c1, c2, c3, c4].drop 0).take (Tryz.prog.cellsOf 3)) = [y0, y1, y2][0]? := hf 0 _ rfl
 have g1 : DataW.trod enc Tryz.prog w 0 spare held n 3 (([c0, c1, c2, c3, c4].drop 1).take (Tryz.prog.cellsOf 3)) = [y0, y1, y2][1]? := hf 1 _ rfl
 have g2 : DataW.trod enc Tryz.prog w 0 spare held n 24 (([c0, c1, c2, c3, c4].drop 2).take (Tryz.prog.cellsOf 24)) = [y0, y1, y2][2]? := hf 2 _ rfl
 rw [Tk.cellsInt1] at g0 g1
 rw [Tk.cellsTerm] at g2
 obtain ⟨o, e0, _⟩ := DataW.trod_int Tryz.underlying3 g0
 obtain ⟨m, e1, _⟩ := DataW.trod_int Tryz.underlying3 g1
 obtain rfl : c0 = .int .i64 o := (List.cons.inj e0).1
 obtain rfl : c1 = .int .i64 m := (List.cons.inj e1).1
 obtain ⟨T, v, hcs, hT⟩ := Tm.open_term n _ _ g2
 have h3 : [c2, c3, c4] = [.int .i64 T.op, .int .i64 T.num, v] := hcs
 simp only [List.cons.injEq, and_true] at h3
 obtain ⟨rfl, rfl, rfl⟩ := h3
 exact ⟨⟨o, m, T⟩, c4, rfl, hT.up (by omega)⟩
theorem Nt.open_flow (fuel : Nat) (cs : List Value) (x : DataW H × List MemPlace) (h : DataW.trod enc Tryz.prog w 0 spare held fuel 78 cs = some x) :
  ∃ (X : Fl) (v : Value), cs = [.int .i64 X.fr, .int .i64 X.to, .bool X.els, .int .i64 X.c.op, .int .i64 X.c.num, v] ∧ Tm.Lies w w.heap.size fuel v X.c := by
 obtain ⟨ys, n, rfl, hx, hl, hy, hf⟩ := DataW.trod_struct Tryz.underlying78 h
 rw [Nt.cellsFlow] at hl
 have hy : ys.length = 4 := hy
 obtain ⟨c0, c1, c2, c3, c4, c5, rfl⟩ := Nt.list6 hl
 obtain ⟨y0, y1, y2, y3, rfl⟩ := Nt.list4 hy
 have g0 : DataW.trod enc Tryz.prog w 0 spare held n 3 (([c0, c1, c2, c3, c4, c5].drop 0).take (Tryz.prog.cellsOf 3)) = [y0, y1, y2, y3][0]? := hf 0 _ rfl
 have g1 : DataW.trod enc Tryz.prog w 0 spare held n 3 (([c0, c1, c2, c3, c4, c5].drop 1).take (Tryz.prog.cellsOf 3)) = [y0, y1, y2, y3][1]? := hf 1 _ rfl
 have g2 : DataW.trod enc Tryz.prog w 0 spare held n 4 (([c0, c1, c2, c3, c4, c5].drop 2).take (Tryz.prog.cellsOf 4)) = [y0, y1, y2, y3][2]? := hf 2 _ rfl
 have g3 : DataW.trod enc Tryz.prog w 0 spare held n 24 (([c0, c1, c2, c3, c4, c5].drop 3).take (Tryz.prog.cellsOf 24)) = [y0, y1, y2, y3][3]? := hf 3 _ rfl
 rw [Tk.cellsInt1] at g0 g1
 rw [Nt.cellsBool] at g2
 rw [Tk.cellsTerm] at g3
 obtain ⟨o, e0, _⟩ := DataW.trod_int Tryz.underlying3 g0
 obtain ⟨m, e1, _⟩ := DataW.trod_int Tryz.underlying3 g1
 obtain ⟨b, e2, _⟩ := DataW.trod_bool Tryz.underlying4 g2
 obtain rfl : c0 = .int .i64 o := (List.cons.inj e0).1
 obtain rfl : c1 = .int .i64 m := (List.cons.inj e1).1
 obtain rfl : c2 = .bool b := (List.cons.inj e2).1
 obtain ⟨T, v, hcs, hT⟩ := Tm.open_term n _ _ g3
 have h3 : [c3, c4, c5] = [.int .i64 T.op, .int .i64 T.num, v] := hcs
 simp only [List.cons.injEq, and_true] at h3
 obtain ⟨rfl, rfl, rfl⟩ := h3
 exact ⟨⟨o, m, b, T⟩, c5, rfl, hT.up (by omega)⟩
theorem Nt.open_nodes (fuel : Nat) (c : Value) (x : DataW H × List MemPlace) (h : DataW.trod enc Tryz.prog w 0 spare held fuel 27 [c] = some x) : ∃ a cap ns, c = .slice a (ns : List Nd).length cap ∧ Nt.Nds w w.heap.size fuel a ns := by
 rcases DataW.trod_slice Tryz.underlying27 h with ⟨e2, _⟩ | ⟨a, len, cap, elems, rest, n', hn', e2, _, _, hlc, _, hlen, hel, _, _⟩
 ·obtain rfl : c = .slice none 0 0 := (List.cons.inj e2).1
  exact ⟨none, 0, [], rfl, fun j hj => by simp at hj⟩
 ·obtain rfl : c = .slice (some a) len cap := (List.cons.inj e2).1
  subst hn'
  have each : ∀ i, i < len → ∃ q : Nd, ∃ u, w.cell? (a.add (i * 5)) = some (.int .i64 q.kind) ∧ w.cell? ((a.add (i * 5)).add 1) = some (.int .i64 q.a) ∧ w.cell? ((a.add (i * 5)).add 2) = some (.int .i64 q.t.op) ∧ w.cell? ((a.add (i * 5)).add 3) = some (.int .i64 q.t.num) ∧ w.cell? ((a.add (i * 5)).add 4) = some u ∧ Tm.Lies w w.heap.size n' u q.t := by
   intro i hi
   have h1 := hel i hi
   rw [Nt.cellsNode, List.getElem?_eq_getElem (by omega)] at h1
   obtain ⟨cs', h2, h3⟩ := Option.bind_eq_some_iff.1 h1
   obtain ⟨q, u, rfl, hq⟩ := Nt.open_node n' cs' _ h3
   obtain ⟨_, hl3, hc⟩ := World.cells?_some h2
   exact ⟨q, u, by simpa [Addr.add] using hc 0 (by simp), by simpa using hc 1 (by simp), by simpa using hc 2 (by simp), by simpa using hc 3 (by simp), by simpa using hc 4 (by simp), hq⟩
  by_cases hz : len = 0
  ·subst hz
   exact ⟨some a, cap, [], rfl, fun j hj => by simp at hj⟩
  ·haveI : Inhabited Nd := ⟨⟨0, 0, .mk 0 0 []⟩⟩
   obtain ⟨q, hq⟩ := choose_lt each
   have hlen' : ((List.range len).map q).length = len := by simp
   refine ⟨some a, cap, (List.range len).map q, by rw [hlen'], fun j hj => ?_⟩
   obtain ⟨g, off, spot⟩ := a
   obtain ⟨_, h0, _⟩ := hq 0 (by omega)
   have hspot : spot = none := by simpa [Addr.add] using World.cell?_spot h0
   subst hspot
   have hg : g < w.heap.size := by
    have := Tk.cell_lt h0
    simpa [Addr.add] using this
   have hget : ((List.range len).map q)[j] = q j := by simp
   rw [hget]
   rw [hlen'] at hj
   obtain ⟨u, p0, p1, p2, p3, p4, p5⟩ := hq j hj
   have ea : ∀ (c k : Nat), ((⟨g, off, none⟩ : Addr).add c).add k = ⟨g, off + c + k, none⟩ := fun c k => by rw [Go.WideShapes.add_plain, Go.WideShapes.add_plain]
   rw [Go.WideShapes.add_plain] at p0
   rw [ea] at p1 p2 p3 p4
   exact ⟨g, off, u, rfl, hg, p0, p1, p2, p3, p4, p5.up (by omega)⟩
theorem Nt.open_flows (fuel : Nat) (c : Value) (x : DataW H × List MemPlace) (h : DataW.trod enc Tryz.prog w 0 spare held fuel 28 [c] = some x) : ∃ a cap fs, c = .slice a (fs : List Fl).length cap ∧ Nt.Fls w w.heap.size fuel a fs := by
 rcases DataW.trod_slice Tryz.underlying28 h with ⟨e2, _⟩ | ⟨a, len, cap, elems, rest, n', hn', e2, _, _, hlc, _, hlen, hel, _, _⟩
 ·obtain rfl : c = .slice none 0 0 := (List.cons.inj e2).1
  exact ⟨none, 0, [], rfl, fun j hj => by simp at hj⟩
 ·obtain rfl : c = .slice (some a) len cap := (List.cons.inj e2).1
  subst hn'
  have each : ∀ i, i < len → ∃ q : Fl, ∃ u, w.cell? (a.add (i * 6)) = some (.int .i64 q.fr) ∧ w.cell? ((a.add (i * 6)).add 1) = some (.int .i64 q.to) ∧ w.cell? ((a.add (i * 6)).add 2) = some (.bool q.els) ∧ w.cell? ((a.add (i * 6)).add 3) = some (.int .i64 q.c.op) ∧ w.cell? ((a.add (i * 6)).add 4) = some (.int .i64 q.c.num) ∧ w.cell? ((a.add (i * 6)).add 5) = some u ∧ Tm.Lies w w.heap.size n' u q.c := by
   intro i hi
   have h1 := hel i hi
   rw [Nt.cellsFlow, List.getElem?_eq_getElem (by omega)] at h1
   obtain ⟨cs', h2, h3⟩ := Option.bind_eq_some_iff.1 h1
   obtain ⟨q, u, rfl, hq⟩ := Nt.open_flow n' cs' _ h3
   obtain ⟨_, hl3, hc⟩ := World.cells?_some h2
   exact ⟨q, u, by simpa [Addr.add] using hc 0 (by simp), by simpa using hc 1 (by simp), by simpa using hc 2 (by simp), by simpa using hc 3 (by simp), by simpa using hc 4 (by simp), by simpa using hc 5 (by simp), hq⟩
  by_cases hz : len = 0
  ·subst hz
   exact ⟨some a, cap, [], rfl, fun j hj => by simp at hj⟩
  ·haveI : Inhabited Fl := ⟨⟨0, 0, false, .mk 0 0 []⟩⟩
   obtain ⟨q, hq⟩ := choose_lt each
   have hlen' : ((List.range len).map q).length = len := by simp
   refine ⟨some a, cap, (List.range len).map q, by rw [hlen'], fun j hj => ?_⟩
   obtain ⟨g, off, spot⟩ := a
   obtain ⟨_, h0, _⟩ := hq 0 (by omega)
   have hspot : spot = none := by simpa [Addr.add] using World.cell?_spot h0
   subst hspot
   have hg : g < w.heap.size := by
    have := Tk.cell_lt h0
    simpa [Addr.add] using this
   have hget : ((List.range len).map q)[j] = q j := by simp
   rw [hget]
   rw [hlen'] at hj
   obtain ⟨u, p0, p1, p2, p3, p4, p5, p6⟩ := hq j hj
   have ea : ∀ (c k : Nat), ((⟨g, off, none⟩ : Addr).add c).add k = ⟨g, off + c + k, none⟩ := fun c k => by rw [Go.WideShapes.add_plain, Go.WideShapes.add_plain]
   rw [Go.WideShapes.add_plain] at p0
   rw [ea] at p1 p2 p3 p4 p5
   exact ⟨g, off, u, rfl, hg, p0, p1, p2, p3, p4, p5, p6.up (by omega)⟩
end
end Go.Proofs
