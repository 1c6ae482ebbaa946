/-
  The document's Drop.
-/
import Derived.Test.YtclpdhjchnbolaaCdSet
namespace Go.Proofs
open Go.RowKit Go.Shelf Go.Sort

theorem Cd.At.news {B q : Nat} {v : Value} {now : Int} {M : List Ck.Al} {w : World} (h : Cd.At B q v now M w) {g cap : Nat} (hv : v = .slice (some ⟨g, 0, none⟩) M.length cap) (a b : Nat) (hab : a + b ≤ M.length) : ∀ j u, (Ck.cells ((M.drop a).take b))[j]? = some u → w.cell? ((⟨g, a * 2, none⟩ : Addr).add j) = some u := by
  rcases h.row.2 with ⟨e, _⟩ | ⟨g', cap', cur, e, h3, h4, h5, h6, h7, h8⟩
  · rw [hv] at e
    cases e
  · rw [hv] at e
    simp only [Value.slice.injEq, Option.some.injEq, Addr.mk.injEq] at e
    obtain ⟨⟨rfl, -, -⟩, -, rfl⟩ := e
    intro j u hj
    have hlen : ((M.drop a).take b).length = b := by rw [List.length_take, List.length_drop]; omega
    have hjl : j < b * 2 := by
      have := (List.getElem?_eq_some_iff.1 hj).1
      rw [Ck.cells_length, hlen] at this
      exact this
    have hcell : (Ck.cells M)[a * 2 + j]? = some u := by
      have hk : j / 2 < ((M.drop a).take b).length := by rw [hlen]; omega
      have h1 := Ck.cells_at ((M.drop a).take b) (j / 2) hk
      have h2 := Ck.cells_at M (a + j / 2) (by omega)
      have hget : ((M.drop a).take b)[j / 2] = M[a + j / 2] := by rw [List.getElem_take, List.getElem_drop]
      rw [hget] at h1
      rcases (by omega : j % 2 = 0 ∨ j % 2 = 1) with hm | hm
      · rw [show j = j / 2 * 2 by omega] at hj
        rw [show a * 2 + j = (a + j / 2) * 2 by omega, h2.1, ← h1.1]
        exact hj
      · rw [show j = j / 2 * 2 + 1 by omega] at hj
        rw [show a * 2 + j = (a + j / 2) * 2 + 1 by omega, h2.2, ← h1.2]
        exact hj
    rw [← h8, List.getElem?_take] at hcell
    split at hcell
    · rw [Array.getElem?_toList] at hcell
      have hadd : (⟨g, a * 2, none⟩ : Addr).add j = ⟨g, a * 2 + j, none⟩ := Go.WideShapes.add_plain ..
      rw [hadd]
      simp only [World.cell?, h4]
      exact hcell
    · cases hcell

/-- What Drop tells, and what it leaves. -/
def Cd.Dropped (B q : Nat) (v : Value) (now : Int) (M : List Ck.Al) (id : Int) (w : World) (e : Ending) (w' : World) : Prop := ∃ v' M', e = .returned (.int .i64 (if Ck.has M id = true then 0 else 6)) ∧ Cd.At B q v' now M' w' ∧ ((Ck.has M id = false ∧ M' = M) ∨ ∃ i : Nat, ∃ h : i < M.length, M[i].1 = id ∧ M' = M.take i ++ M.drop (i + 1)) ∧ (∀ g, v'.ownBlock = some g → v.ownBlock = some g ∨ w.heap.size ≤ g) ∧ Tk.But (fun x => x = q ∨ v.ownBlock = some x) w w'
theorem Ck.own_wider {w : World} {B B' : Nat} {e : TypeId} {size : Nat} {v : Value} {n : Nat} {cs : List Value} (h : w.ownsRow B e size v n cs) (hB : B' ≤ B) : w.ownsRow B' e size v n cs := by
  refine ⟨h.1, ?_⟩
  rcases h.2 with hn | ⟨g, cap, cur, hv, h3, h4⟩
  · exact .inl hn
  · exact .inr ⟨g, cap, cur, hv, Nat.le_trans hB h3, h4⟩
theorem Ck.cells_one (M : List Ck.Al) : ∀ u ∈ Ck.cells M, u.oneCell' = true := fun u hu => by
  obtain ⟨a, _, ha⟩ := List.mem_flatMap.1 hu
  simp [Ck.enc] at ha
  rcases ha with rfl | rfl <;> rfl

set_option maxRecDepth 20000 in
set_option maxHeartbeats 4000000 in
theorem Try.rDrop_any {B q : Nat} {v : Value} {now : Int} {M : List Ck.Al} (id : Int) (w : World) (h : Cd.At B q v now M w) (ho : Ck.Ok now M) : Calls Try.prog 23 #[.pointer (some ⟨q, 0, none⟩), .int .i64 id] w fun e w' => Cd.Dropped B q v now M id w e w' := by
  have H : Hid (Cd.At B q v now M w ∧ Ck.Ok now M) := ⟨h, ho⟩
  have CF : Hid _ := Try.rAt_any id w h ho.len
  obtain ⟨i0, hi0, hz0, hz1, hz2⟩ := info_parts Cd.infoAl
  clear h ho
  go_enter Try.func23, Try.ntmps23
  go_wp2_with fail
  refine Calls.mono CF.out ?_
  rintro e W1 ⟨⟨r, rfl, hx⟩, hb1⟩
  have HB : Hid (Below w.heap.size w W1) := hb1
  rcases hx with ⟨rfl, hno⟩ | ⟨i, hi, rfl, hid⟩
  · have HN : Hid (Ck.has M id = false) := Ck.has_no hno
    clear hno hb1
    go_wp2
    go_ret
    refine ⟨v, M, by rw [HN.out]; rfl, H.out.1.below HB.out (Nat.le_refl _), .inl ⟨HN.out, rfl⟩, fun g hg => .inl hg, Tk.But.of_below HB.out⟩
  · have a1 := H.out.1.below hb1 (Nat.le_refl _)
    have c1 := a1.c1
    have HY : Hid (Ck.has M id = true ∧ M[i].1 = id) := ⟨Ck.has_yes hi hid, hid⟩
    obtain ⟨g, cap, hv, hg, hcap, -, -, -⟩ := a1.nth hi
    obtain ⟨n, hn⟩ : ∃ n, M.length = n := ⟨_, rfl⟩
    have nw1 := a1.news hv 0 i (by omega)
    rw [List.drop_zero, Nat.zero_mul] at nw1
    rw [hn] at hv hcap
    subst hv
    have hn64 : n ≤ 64 := by have := H.out.2.len; omega
    have hin : i < n := by omega
    have d1 : decide ((i : Int) < 0) = false := decide_eq_false (by omega)
    have hi0' : (0 : Int) ≤ i := by omega
    have hic : (i : Int) ≤ cap := by omega
    have hic' : i ≤ cap := by omega
    have A1 : Hid (Cd.At B q (.slice (some ⟨g, 0, none⟩) n cap) now M W1 ∧ M.length = n) := ⟨a1, hn⟩
    have N1 : Hid (∀ j u, (Ck.cells (M.take i))[j]? = some u → W1.cell? ((⟨g, 0, none⟩ : Addr).add j) = some u) := nw1
    have HL : Hid ((Ck.cells (M.take i)).length = i * 2) := by show _ = _; rw [Ck.cells_length, List.length_take]; omega
    have hw : IntKind.i64.wrap ((i : Int) + 1) = ((i + 1 : Nat) : Int) := by rw [Go.IntWalk.i64_in _ (by omega)]; omega
    obtain ⟨p, hp⟩ : ∃ p, i + 1 = p := ⟨_, rfl⟩
    rw [hp] at hw
    have hp0 : (0 : Int) ≤ p := by omega
    have hpn : (p : Int) ≤ n := by omega
    have hpn' : p ≤ n := by omega
    have hpc : p ≤ cap := by omega
    have hnc : n ≤ cap := by omega
    have hnc2 : (n : Int) ≤ cap := by omega
    have HP : Hid (i + 1 = p) := hp
    clear hb1 a1 hid hn nw1 hg hp
    go_wp2_with (at_builtin; refine wpList_append_own _ rfl _ _ 27 rfl W1.heap.size 40 i0 (.agg #[.int .i64 0, .int .i64 0]) 2 16 Try.underlying27 hi0 hz0 hz1 hz2 rfl (by decide) (.slice none 0 0) 0 [] rfl (World.ownsRow_nil _ _ _ _) ⟨g, 0, none⟩ i cap (Ck.cells (M.take i)) rfl HL.out N1.out (Ck.cells_one _) ?c3 ?c4 (Nat.le_refl _) ?_)
    case c3 => unfold maxLen; omega
    case c4 => omega
    intro v1 W2 own1 g1 _
    have b2 : Below W1.heap.size W1 W2 := Ck.below_grown (Below.refl _ W1) (Nat.le_refl _) (World.ownsRow_nil W1 W1.heap.size 40 2) g1
    obtain ⟨a2, e2, rfl⟩ := Ck.own_shape own1
    have A2 : Hid (Cd.At B q (.slice (some ⟨g, 0, none⟩) n cap) now M W2 ∧ Below W1.heap.size W1 W2) := ⟨A1.out.1.below b2 (Nat.le_refl _), b2⟩
    have c12 := A2.out.1.c1
    have O1 : Hid _ := own1
    clear own1 g1 b2
    have N2 : Hid (∀ j u, (Ck.cells (M.drop p))[j]? = some u → W2.cell? ((⟨g, p * 2, none⟩ : Addr).add j) = some u) := by
      have hl := A1.out.2
      have := A2.out.1.news (g := g) (cap := cap) (by rw [hl]) p (n - p) (by omega)
      rw [List.take_of_length_le (by rw [List.length_drop]; omega)] at this
      exact this
    have HL2 : Hid ((Ck.cells (M.drop p)).length = (n - p) * 2) := by
      have hl := A1.out.2
      show _ = _
      rw [Ck.cells_length, List.length_drop]
      omega
    have hs2 : W1.heap.size ≤ W2.heap.size := A2.out.2.size
    obtain ⟨A, hA, hsrc⟩ : ∃ A : Addr, (if cap = p then some (⟨g, 0, none⟩ : Addr) else some ⟨g, p * 2, none⟩) = some A ∧ Hid (∀ j u, (Ck.cells (M.drop p))[j]? = some u → W2.cell? (A.add j) = some u) := by
      by_cases hcp : cap = p
      · refine ⟨⟨g, 0, none⟩, by simp [hcp], fun j u hj => ?_⟩
        have h0 : (Ck.cells (M.drop p)).length = 0 := by rw [HL2.out]; omega
        rw [List.length_eq_zero_iff.1 h0] at hj
        simp at hj
      · exact ⟨⟨g, p * 2, none⟩, by simp [hcp], N2.out⟩
    have BM : Hid (i + (n - p) ≤ maxLen ∧ (i + (n - p)) * 16 ≤ 140737488355328) := ⟨by unfold maxLen; omega, by omega⟩
    go_wp2_with (at_builtin; refine wpList_append_own _ rfl _ _ 27 rfl W1.heap.size 40 i0 (.agg #[.int .i64 0, .int .i64 0]) 2 16 Try.underlying27 hi0 hz0 hz1 hz2 rfl (by decide) (.slice a2 i e2) i (Ck.cells (M.take i)) rfl O1.out A (n - p) (cap - p) (Ck.cells (M.drop p)) rfl HL2.out hsrc.out (Ck.cells_one _) BM.out.1 BM.out.2 hs2 ?_)
    intro v3 W3 own3 g3 _
    have hml : i + (n - p) = n - 1 := by have := HP.out; omega
    have b3 : Below W1.heap.size W1 W3 := Ck.below_grown A2.out.2 hs2 O1.out g3
    have A3 : Hid (Cd.At B q (.slice (some ⟨g, 0, none⟩) n cap) now M W3 ∧ Below w.heap.size w W3) := ⟨A1.out.1.below b3 (Nat.le_refl _), HB.out.trans (b3.mono HB.out.size)⟩
    obtain ⟨a3, e3, rfl⟩ := Ck.own_shape own3
    have c13 := A3.out.1.c1
    have f13 := A3.out.1.fz 1
    have O3 : Hid (W3.ownsRow W1.heap.size 40 2 (.slice a3 (i + (n - p)) e3) (M.take i ++ M.drop p).length (Ck.cells (M.take i ++ M.drop p))) := by
      have hl := A1.out.2
      have e1 : (M.take i ++ M.drop p).length = i + (n - p) := by rw [List.length_append, List.length_take, List.length_drop]; omega
      have e2 : Ck.cells (M.take i ++ M.drop p) = Ck.cells (M.take i) ++ Ck.cells (M.drop p) := by simp [Ck.cells]
      rw [e1, e2]
      exact own3
    clear own3 g3 b3 hml
    go_wp2
    go_ret
    have hlow : B ≤ W1.heap.size := by have := A1.out.1.low; have := A1.out.1.lt; omega
    refine ⟨.slice a3 (i + (n - p)) e3, M.take i ++ M.drop p, by rw [HY.out.1]; rfl, A3.out.1.rerow rfl (Ck.own_wider O3.out hlow), .inr ⟨i, hi, HY.out.2, by rw [HP.out]⟩, fun g' hg' => .inr ?_, ?_⟩
    · have := (O3.out.lt g' hg').1
      have := HB.out.size
      omega
    · exact (Tk.But.of_below A3.out.2).setCell (E := fun x => x = q ∨ (Value.slice (some ⟨g, 0, none⟩) n cap).ownBlock = some x) (p := ⟨q, 1, none⟩) (.inl rfl) _

end Go.Proofs
