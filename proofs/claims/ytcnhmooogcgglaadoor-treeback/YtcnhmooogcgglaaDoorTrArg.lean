/-
  An element that came in, as it is read: an El that lies in memory, and how great its parts can be.
-/
import Derived.Test.YtcnhmooogcgglaaDoorTrModel
import Derived.ProofKit
namespace Go.Proofs
open Go.RowKit Go.ChangeShapes Go.WideShapes Go.Deep
open Go.Proofs.Mk

theorem Tr.cellsElem : Tryd.prog.cellsOf 42 = 4 := by kernel_rfl
theorem Tr.cellsElems : Tryd.prog.cellsOf 40 = 1 := by kernel_rfl
theorem Tr.bytesElem : Tryd.prog.bytesOf 42 = 80 := by kernel_rfl
theorem Tr.list4 {α : Type} {l : List α} (h : l.length = 4) : ∃ a b c d, l = [a, b, c, d] := by
  match l, h with
  | [a, b, c, d], _ => exact ⟨a, b, c, d, rfl⟩

theorem El.open_elem {H : Type} {enc : TypeId × Value → H} {w : World} {spare : Nat → Bool} {held : Bool} : ∀ (fuel : Nat) (cs : List Value) (x : DataW H × List MemPlace), DataW.trod enc Tryd.prog w 0 spare held fuel 42 cs = some x → (∀ n ∈ x.1.weights Tryd.prog 42, n ≤ reachBytes) →
    ∃ (E : El) (va vk : Value), cs = [.string E.name, va, vk, .string E.text] ∧ El.Lies w (· < w.heap.size) (fuel + 1) va vk E ∧ E.Reach := by
  intro fuel
  induction fuel using Nat.strongRecOn with
  | _ fuel ih =>
    intro cs x h hw
    obtain ⟨ys, n, hfu, hx, hl, hy, hf⟩ := DataW.trod_struct Tryd.underlying42 h
    rw [Tr.cellsElem] at hl
    have hy : ys.length = 4 := hy
    obtain ⟨c0, c1, c2, c3, rfl⟩ := Tr.list4 hl
    obtain ⟨y0, y1, y2, y3, rfl⟩ := Tr.list4 hy
    clear hl hy
    have g0 : DataW.trod enc Tryd.prog w 0 spare held n 9 (([c0, c1, c2, c3].drop 0).take (Tryd.prog.cellsOf 9)) = [y0, y1, y2, y3][0]? := hf 0 _ rfl
    have g1 : DataW.trod enc Tryd.prog w 0 spare held n 25 (([c0, c1, c2, c3].drop 1).take (Tryd.prog.cellsOf 25)) = [y0, y1, y2, y3][1]? := hf 1 _ rfl
    have g2 : DataW.trod enc Tryd.prog w 0 spare held n 40 (([c0, c1, c2, c3].drop 2).take (Tryd.prog.cellsOf 40)) = [y0, y1, y2, y3][2]? := hf 2 _ rfl
    have g3 : DataW.trod enc Tryd.prog w 0 spare held n 9 (([c0, c1, c2, c3].drop 3).take (Tryd.prog.cellsOf 9)) = [y0, y1, y2, y3][3]? := hf 3 _ rfl
    rw [Mk.cellsStr] at g0 g3
    rw [Mk.cellsAttrs] at g1
    rw [Tr.cellsElems] at g2
    obtain ⟨s0, e0, d0, _⟩ := DataW.trod_string Tryd.underlying9 g0
    obtain ⟨s3, e3, d3, _⟩ := DataW.trod_string Tryd.underlying9 g3
    obtain rfl : c0 = .string s0 := (List.cons.inj e0).1
    obtain rfl : c3 = .string s3 := (List.cons.inj e3).1
    obtain ⟨aa, ca, xs, hca, hA, hsm⟩ := Mk.open_attrs g1
    obtain rfl : c1 = .slice aa xs.length ca := (List.cons.inj hca).1
    have hr := reachBytes_lt
    have hwi : ∀ (j : Nat) (t : TypeId) (y : DataW H × List MemPlace), [9, 25, 40, 9][j]? = some t → [y0, y1, y2, y3][j]? = some y → ∀ k ∈ y.1.weights Tryd.prog t, k ≤ reachBytes := by
      intro j t y ht hyj k hk
      refine hw k ?_
      rw [hx]
      simp only [DataW.weights, Tryd.underlying42]
      refine DataW.weights_mem_each (j := j) (t := t) (d := y.1) ?_ ?_ k hk
      · match j, ht with
        | 0, ht => exact ht
        | 1, ht => exact ht
        | 2, ht => exact ht
        | 3, ht => exact ht
      · rw [List.getElem?_map, hyj]; rfl
    have b0 : s0.size ≤ 140737488355328 := by
      have := hwi 0 _ _ rfl rfl s0.data.toList.length (by rw [d0]; simp [DataW.weights])
      rw [Mk.size_list] at this
      omega
    have b3 : s3.size ≤ 140737488355328 := by
      have := hwi 3 _ _ rfl rfl s3.data.toList.length (by rw [d3]; simp [DataW.weights])
      rw [Mk.size_list] at this
      omega
    have b1 := hsm (hwi 1 _ _ rfl rfl)
    have hw2 := hwi 2 _ _ rfl rfl
    rcases DataW.trod_slice Tryd.underlying40 g2 with ⟨e2, _⟩ | ⟨a, len, cap, elems, rest, n', hn', e2, hx2, _, hlc, _, hlen, hel, _, _⟩
    · obtain rfl : c2 = .slice none 0 0 := (List.cons.inj e2).1
      exact ⟨.mk s0 xs [] s3, .slice aa xs.length ca, .slice none 0 0, rfl, El.Lies.leaf _ (El.AttrsP.of_at hA) _ _ rfl, b0, b3, b1, by simp, trivial⟩
    · obtain rfl : c2 = .slice (some a) len cap := (List.cons.inj e2).1
      subst hn'
      subst hfu
      have hlb : len ≤ 140737488355328 := by
        have := hw2 _ (by rw [hx2]; simp only [DataW.weights, Tryd.underlying40]; exact List.mem_cons_self)
        rw [Tr.bytesElem, List.length_map, List.length_map] at this
        omega
      have each : ∀ i, i < len → ∃ q : El, ∃ ua uk, w.cell? (a.add (i * 4)) = some (.string q.name) ∧ w.cell? ((a.add (i * 4)).add 1) = some ua ∧ w.cell? ((a.add (i * 4)).add 2) = some uk ∧ w.cell? ((a.add (i * 4)).add 3) = some (.string q.text) ∧ El.Lies w (· < w.heap.size) (n' + 1) ua uk q ∧ q.Reach := by
        intro i hi
        have h1 := hel i hi
        rw [Tr.cellsElem, List.getElem?_eq_getElem (by omega)] at h1
        obtain ⟨cs', h2, h3⟩ := Option.bind_eq_some_iff.1 h1
        have hmem : elems[i].1 ∈ elems.map (·.1) := List.mem_map_of_mem (List.getElem_mem _)
        obtain ⟨q, ua, uk, rfl, hq, hqr⟩ := ih n' (by omega) cs' _ h3 fun m hm => hw2 m (by
          rw [hx2]
          simp only [DataW.weights, Tryd.underlying40]
          exact List.mem_cons_of_mem _ (List.mem_append_left _ (Mk.weights_all hmem m hm)))
        obtain ⟨_, hl3, hc⟩ := World.cells?_some h2
        exact ⟨q, ua, uk, by simpa [Addr.add] using hc 0 (by simp), by simpa using hc 1 (by simp), by simpa using hc 2 (by simp), by simpa using hc 3 (by simp), hq, hqr⟩
      obtain ⟨q, hq⟩ := choose_lt each
      have hlen' : ((List.range len).map q).length = len := by simp
      have hget : ∀ j (h : j < ((List.range len).map q).length), ((List.range len).map q)[j] = q j := fun j h => by simp
      refine ⟨.mk s0 xs ((List.range len).map q) s3, .slice aa xs.length ca, .slice (some a) len cap, rfl, ?_, b0, b3, b1, by rw [hlen']; exact hlb, El.reachs_of _ fun k hk => ?_⟩
      · refine El.Lies.upto (d := n' + 1 + 1) ?_ (by omega)
        refine ⟨El.AttrsP.of_at hA, some a, cap, by rw [show (El.mk s0 xs ((List.range len).map q) s3).kids = (List.range len).map q from rfl, hlen'], ?_⟩
        by_cases hz : len = 0
        · subst hz; exact .inl rfl
        · obtain ⟨g, off, spot⟩ := a
          obtain ⟨_, _, h0, _⟩ := hq 0 (by omega)
          have hspot : spot = none := by simpa [Addr.add] using World.cell?_spot h0
          subst hspot
          have hg : g < w.heap.size := by
            have := Mk.cell_lt h0
            simpa [Addr.add] using this
          refine .inr ⟨g, off, rfl, hg, fun j hj => ?_⟩
          have hj' : j < ((List.range len).map q).length := hj
          show ∃ ua uk, w.cell? ⟨g, off + j * 4, none⟩ = some (.string (((List.range len).map q)[j]'hj').name) ∧ w.cell? ⟨g, off + j * 4 + 1, none⟩ = some ua ∧ w.cell? ⟨g, off + j * 4 + 2, none⟩ = some uk ∧ w.cell? ⟨g, off + j * 4 + 3, none⟩ = some (.string (((List.range len).map q)[j]'hj').text) ∧ El.Lies w (· < w.heap.size) (n' + 1) ua uk (((List.range len).map q)[j]'hj')
          rw [hget j hj']
          rw [hlen'] at hj'
          obtain ⟨ua, uk, p0, p1, p2, p3, p4, _⟩ := hq j hj'
          have ea : ∀ (c k : Nat), ((⟨g, off, none⟩ : Addr).add c).add k = ⟨g, off + c + k, none⟩ := fun c k => by rw [Go.WideShapes.add_plain, Go.WideShapes.add_plain]
          rw [Go.WideShapes.add_plain] at p0
          rw [ea] at p1 p2 p3
          exact ⟨ua, uk, p0, p1, p2, p3, p4⟩
      · rw [hget k hk]
        rw [hlen'] at hk
        obtain ⟨_, _, _, _, _, _, _, hqr⟩ := hq k hk
        exact hqr

end Go.Proofs
