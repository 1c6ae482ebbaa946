/-
  Drop of the program's clock.
-/
import Derived.Test.YtclpdhjchnbolaaCkDrop
namespace Go.Proofs
open Go.RowKit Go.Shelf Go.Sort

theorem Ck.own_news {w : World} {B g n cap : Nat} {L : List Ck.Al} {T : TypeId} (h : w.ownsRow B T 2 (.slice (some ⟨g, 0, none⟩) n cap) n (Ck.cells L)) (hn : L.length = n) (p : Nat) (hp : p ≤ n) : ∀ j u, (Ck.cells (L.drop p))[j]? = some u → w.cell? ((⟨g, p * 2, none⟩ : Addr).add j) = some u := by
  rcases h.2 with ⟨e, _⟩ | ⟨g', cap', cur, e, h3, h4, h5, h6, h7, h8⟩
  · cases e
  · simp only [Value.slice.injEq, Option.some.injEq, Addr.mk.injEq] at e
    obtain ⟨⟨rfl, -, -⟩, -, rfl⟩ := e
    intro j u hj
    have e1 : Ck.cells L = Ck.cells (L.take p) ++ Ck.cells (L.drop p) := by rw [← Ck.cells_append, List.take_append_drop]
    have hlen : (Ck.cells (L.take p)).length = p * 2 := by rw [Ck.cells_length, List.length_take]; omega
    have hcell : (Ck.cells L)[p * 2 + j]? = some u := by
      rw [e1, List.getElem?_append_right (by omega), hlen, Nat.add_sub_cancel_left]
      exact hj
    rw [← h8, List.getElem?_take] at hcell
    split at hcell
    · rw [Array.getElem?_toList] at hcell
      have hadd : (⟨g, p * 2, none⟩ : Addr).add j = ⟨g, p * 2 + j, none⟩ := Go.WideShapes.add_plain ..
      rw [hadd]
      simp only [World.cell?, h4]
      exact hcell
    · cases hcell

/-- What Drop tells, and what it leaves. -/
def Ck.Dropped (B c : Nat) (v : Value) (now : Int) (L : List Ck.Al) (id : Int) (w : World) (e : Ending) (w' : World) : Prop := ∃ v' L', e = .returned (.int .i64 (if Ck.has L id = true then 0 else 6)) ∧ Ck.At B c v' now L' w' ∧ ((Ck.has L id = false ∧ L' = L) ∨ ∃ i : Nat, ∃ h : i < L.length, L[i].1 = id ∧ L' = L.take i ++ L.drop (i + 1)) ∧ (∀ g, v'.ownBlock = some g → v.ownBlock = some g ∨ w.heap.size ≤ g) ∧ Tk.But (fun x => x = c ∨ v.ownBlock = some x) w w'

set_option maxRecDepth 20000 in
set_option maxHeartbeats 4000000 in
theorem Try.cDrop_any {B c : Nat} {v : Value} {now : Int} {L : List Ck.Al} (id : Int) (w : World) (h : Ck.At B c v now L w) (ho : Ck.Ok now L) : Calls Try.prog 21 #[.pointer (some ⟨c, 0, none⟩), .int .i64 id] w fun e w' => Ck.Dropped B c v now L id w e w' := by
  have H : Hid (Ck.At B c v now L w ∧ Ck.Ok now L) := ⟨h, ho⟩
  have CF : Hid _ := Try.find_any id w h (by have := ho.len; omega)
  clear h ho
  go_enter Try.func21, Try.ntmps21
  go_wp2_with fail
  refine Calls.mono CF.out ?_
  rintro e W1 ⟨⟨r, rfl, hx⟩, hb1⟩
  have HB : Hid (Below w.heap.size w W1) := hb1
  rcases hx with ⟨rfl, hno⟩ | ⟨i, hi, rfl, hid⟩
  · have HN : Hid (Ck.has L id = false) := Ck.has_no hno
    clear hno hb1
    go_wp2
    go_ret
    exact ⟨v, L, by rw [HN.out]; rfl, H.out.1.below HB.out (Nat.le_refl _), .inl ⟨HN.out, rfl⟩, fun g hg => .inl hg, Tk.But.of_below HB.out⟩
  · have a1 := H.out.1.below hb1 (Nat.le_refl _)
    have c1 := a1.c1
    have HY : Hid (Ck.has L id = true ∧ L[i].1 = id) := ⟨Ck.has_yes hi hid, hid⟩
    obtain ⟨g, cap, hv, hg, hcap, -, -, -⟩ := a1.nth hi
    obtain ⟨n, hn⟩ : ∃ n, L.length = n := ⟨_, rfl⟩
    rw [hn] at hv hcap
    subst hv
    have hn64 : n ≤ 64 := by have := H.out.2.len; omega
    obtain ⟨p, hp⟩ : ∃ p, i + 1 = p := ⟨_, rfl⟩
    have hw : IntKind.i64.wrap ((i : Int) + 1) = ((p : Nat) : Int) := by rw [Go.IntWalk.i64_in _ (by omega)]; omega
    have row1 := a1.row
    rw [hn] at row1
    have CD : Hid _ := Try.delete_any W1 row1 hn (by omega) hp hn64 (Ck.own_news row1 hn p (by omega))
    have d1 : decide ((i : Int) < 0) = false := decide_eq_false (by omega)
    have A1 : Hid (Ck.At B c (.slice (some ⟨g, 0, none⟩) n cap) now L W1 ∧ L.length = n ∧ i + 1 = p) := ⟨a1, hn, hp⟩
    clear a1 hn hp row1 hid hb1 hg hcap hn64
    go_wp2_with fail
    refine Calls.mono CD.out ?_
    rintro e W2 ⟨rfl, own2, but2⟩
    have hcg : ¬ c = g := fun e => A1.out.1.far (by simp [Value.ownBlock, e])
    have hblk : W2.heap[c]? = W1.heap[c]? := but2.block c A1.out.1.lt hcg
    have c12 : W2.cell? ⟨c, 1, none⟩ = some (.slice (some ⟨g, 0, none⟩) n cap) := by
      have := A1.out.1.c1
      unfold World.cell? at this ⊢
      rw [hblk]
      exact this
    have f12 : W2.frozen? ⟨c, 1, none⟩ = false := by
      have := A1.out.1.fz 1
      unfold World.frozen? at this ⊢
      rw [hblk]
      exact this
    have hlen : (L.take i ++ L.drop p).length = i + (n - p) := by
      have := A1.out.2.1
      rw [List.length_append, List.length_take, List.length_drop]
      omega
    have A2 : Hid (W2.heap[c]? = W1.heap[c]? ∧ W2.ownsRow B 62 2 (.slice (some ⟨g, 0, none⟩) (i + (n - p)) cap) (L.take i ++ L.drop p).length (Ck.cells (L.take i ++ L.drop p)) ∧ Tk.But (fun x => x = g) W1 W2) := ⟨hblk, by rw [hlen]; exact own2, but2⟩
    clear hblk own2 but2 hlen hcg
    go_wp2
    go_ret
    refine ⟨.slice (some ⟨g, 0, none⟩) (i + (n - p)) cap, L.take i ++ L.drop p, by rw [HY.out.1]; rfl, A1.out.1.rerow A2.out.1 A2.out.2.1, .inr ⟨i, hi, HY.out.2, by rw [A1.out.2.2]⟩, fun g' hg' => .inl hg', ?_⟩
    have b2 : Tk.But (fun x => x = c ∨ (Value.slice (some ⟨g, 0, none⟩) n cap).ownBlock = some x) W1 W2 := ⟨A2.out.2.2.os, A2.out.2.2.tape, A2.out.2.2.output, A2.out.2.2.size, fun k hk he => A2.out.2.2.block k hk (fun e => he (.inr (by rw [e]; rfl)))⟩
    exact ((Tk.But.of_below HB.out).trans b2).setCell (p := ⟨c, 1, none⟩) (.inl rfl) _

end Go.Proofs
