/-
  A term that came in, as it is read: it is a Tm that lies in memory.
-/
import Derived.Test.YtmpejbdmamgepaaDoorTmModel
import Derived.Deep.Slices
import Derived.ProofKit
namespace Go.Proofs
open Go.RowKit Go.ChangeShapes Go.WideShapes Go.Deep

instance : Inhabited Tm := ⟨.mk 0 0 []⟩

theorem Tm.Lies.more {w : World} {B : Nat} : ∀ {d : Nat} {v : Value} {T : Tm}, Tm.Lies w B d v T → Tm.Lies w B (d + 1) v T
  | 0, _, _, h => h.elim
  | d + 1, v, T, h => by
    obtain ⟨a, cap, hv, h⟩ := h
    refine ⟨a, cap, hv, h.elim .inl fun ⟨g, off, ha, hg, hr⟩ => .inr ⟨g, off, ha, hg, fun j hj => ?_⟩⟩
    obtain ⟨u, h0, h1, h2, h3⟩ := hr j hj
    exact ⟨u, h0, h1, h2, Tm.Lies.more h3⟩

theorem Tk.cellsTerm : Tryd.prog.cellsOf 35 = 3 := by kernel_rfl
theorem Tk.cellsInt1 : Tryd.prog.cellsOf 3 = 1 := by kernel_rfl
theorem Tk.cellsTerms : Tryd.prog.cellsOf 33 = 1 := by kernel_rfl
theorem Tk.list3 {α : Type} {l : List α} (h : l.length = 3) : ∃ a b c, l = [a, b, c] := by
  match l, h with
  | [a, b, c], _ => exact ⟨a, b, c, rfl⟩
theorem Tk.cell_lt {w : World} {a : Addr} {v : Value} (h : w.cell? a = some v) : a.block < w.heap.size := by
  rcases Nat.lt_or_ge a.block w.heap.size with h1 | h1
  · exact h1
  · unfold World.cell? at h
    simp [h1] at h

theorem Tm.open_term {H : Type} {enc : TypeId × Value → H} {w : World} {spare : Nat → Bool} {held : Bool} : ∀ (fuel : Nat) (cs : List Value) (x : DataW H × List MemPlace), DataW.trod enc Tryd.prog w 0 spare held fuel 35 cs = some x →
    ∃ (T : Tm) (v : Value), cs = [.int .i64 T.op, .int .i64 T.num, v] ∧ Tm.Lies w w.heap.size fuel v T := by
  intro fuel
  induction fuel using Nat.strongRecOn with
  | _ fuel ih =>
    intro cs x h
    obtain ⟨ys, n, rfl, hx, hl, hy, hf⟩ := DataW.trod_struct Tryd.underlying35 h
    rw [Tk.cellsTerm] at hl
    have hy : ys.length = 3 := hy
    obtain ⟨c0, c1, c2, rfl⟩ := Tk.list3 hl
    obtain ⟨y0, y1, y2, rfl⟩ := Tk.list3 hy
    have g0 : DataW.trod enc Tryd.prog w 0 spare held n 3 (([c0, c1, c2].drop 0).take (Tryd.prog.cellsOf 3)) = [y0, y1, y2][0]? := hf 0 _ rfl
    have g1 : DataW.trod enc Tryd.prog w 0 spare held n 3 (([c0, c1, c2].drop 1).take (Tryd.prog.cellsOf 3)) = [y0, y1, y2][1]? := hf 1 _ rfl
    have g2 : DataW.trod enc Tryd.prog w 0 spare held n 33 (([c0, c1, c2].drop 2).take (Tryd.prog.cellsOf 33)) = [y0, y1, y2][2]? := hf 2 _ rfl
    rw [Tk.cellsInt1] at g0 g1
    rw [Tk.cellsTerms] at g2
    obtain ⟨o, e0, _⟩ := DataW.trod_int Tryd.underlying3 g0
    obtain ⟨m, e1, _⟩ := DataW.trod_int Tryd.underlying3 g1
    obtain rfl : c0 = .int .i64 o := (List.cons.inj e0).1
    obtain rfl : c1 = .int .i64 m := (List.cons.inj e1).1
    rcases DataW.trod_slice Tryd.underlying33 g2 with ⟨e2, _⟩ | ⟨a, len, cap, elems, rest, n', hn', e2, _, _, hlc, _, hlen, hel, _, _⟩
    · obtain rfl : c2 = .slice none 0 0 := (List.cons.inj e2).1
      exact ⟨.mk o m [], .slice none 0 0, rfl, none, 0, rfl, .inl rfl⟩
    · obtain rfl : c2 = .slice (some a) len cap := (List.cons.inj e2).1
      subst hn'
      have each : ∀ i, i < len → ∃ q : Tm, ∃ u, w.cell? (a.add (i * 3)) = some (.int .i64 q.op) ∧ w.cell? ((a.add (i * 3)).add 1) = some (.int .i64 q.num) ∧ w.cell? ((a.add (i * 3)).add 2) = some u ∧ Tm.Lies w w.heap.size n' u q := by
        intro i hi
        have h1 := hel i hi
        rw [Tk.cellsTerm, List.getElem?_eq_getElem (by omega)] at h1
        obtain ⟨cs', h2, h3⟩ := Option.bind_eq_some_iff.1 h1
        obtain ⟨q, u, rfl, hq⟩ := ih n' (by omega) cs' _ h3
        obtain ⟨_, hl3, hc⟩ := World.cells?_some h2
        exact ⟨q, u, by simpa [Addr.add] using hc 0 (by simp), by simpa using hc 1 (by simp), by simpa using hc 2 (by simp), hq⟩
      obtain ⟨q, hq⟩ := choose_lt each
      have hlen' : ((List.range len).map q).length = len := by simp
      have hget : ∀ j (h : j < ((List.range len).map q).length), ((List.range len).map q)[j] = q j := fun j h => by simp
      refine ⟨.mk o m ((List.range len).map q), .slice (some a) len cap, rfl, some a, cap, by rw [show (Tm.mk o m ((List.range len).map q)).ks = (List.range len).map q from rfl, hlen'], ?_⟩
      by_cases hz : len = 0
      · subst hz; exact .inl rfl
      · obtain ⟨g, off, spot⟩ := a
        obtain ⟨_, h0, _⟩ := hq 0 (by omega)
        have hspot : spot = none := by simpa [Addr.add] using World.cell?_spot h0
        subst hspot
        have hg : g < w.heap.size := by
          have := Tk.cell_lt h0
          simpa [Addr.add] using this
        refine .inr ⟨g, off, rfl, hg, fun j hj => ?_⟩
        have hj' : j < ((List.range len).map q).length := hj
        show ∃ u, w.cell? ⟨g, off + j * 3, none⟩ = some (.int .i64 (((List.range len).map q)[j]'hj').op) ∧ w.cell? ⟨g, off + j * 3 + 1, none⟩ = some (.int .i64 (((List.range len).map q)[j]'hj').num) ∧ w.cell? ⟨g, off + j * 3 + 2, none⟩ = some u ∧ Tm.Lies w w.heap.size (n' + 1) u (((List.range len).map q)[j]'hj')
        rw [hget j hj']
        rw [hlen'] at hj'
        obtain ⟨u, p0, p1, p2, p3⟩ := hq j hj'
        have ea : ∀ (c k : Nat), ((⟨g, off, none⟩ : Addr).add c).add k = ⟨g, off + c + k, none⟩ := fun c k => by rw [Go.WideShapes.add_plain, Go.WideShapes.add_plain]
        rw [Go.WideShapes.add_plain] at p0
        rw [ea] at p1 p2
        exact ⟨u, p0, p1, p2, p3.more⟩

end Go.Proofs
