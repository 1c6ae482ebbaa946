/-
  A place's kids, cloned: what Part's round has made once the new kids are stored.
-/
import Derived.Test.YtmpejbdmamgepaaDoorNtPartW
namespace Go.Proofs
open Go.RowKit Go.Shelf

theorem Pt.add_off (g off j : Nat) : (⟨g, off, none⟩ : Addr).add j = ⟨g, off + j, none⟩ := by cases j <;> simp [Addr.add]

theorem Tryd.cloneKids {B d : Nat} {w W : World} {L : List Pl} {S : List (Nat × Nat)} {b o : Nat} {T : Tm} {ak : Option Addr} {ck nk : Nat} (h : Pt.Inv B d w L (S ++ [(b, o)]) W) (hx : (⟨b, o, T⟩ : Pl) ∈ L) (hL : Tm.Lies W B d (.slice ak nk ck) T) (hnk : T.ks.length = nk) (hn : nk ≤ 1000000) (hB : B ≤ W.heap.size) :
    Calls Tryd.prog 61 #[.slice ak nk ck] W fun e W1 => ∃ a' c', e = .returned (.slice a' nk c') ∧ Hid (Below W.heap.size W W1 ∧ ∃ (us : List Value) (g : Nat) (L1 : List Pl), us.length = nk ∧ (0 < nk → a' = some ⟨g, 0, none⟩ ∧ W.heap.size ≤ g) ∧ (∀ j (hj : j < us.length), W1.cell? ⟨g, j * 3 + 2, none⟩ = some us[j] ∧ (Pt.live us[j] = true ∨ ∃ n k, us[j] = .slice none n k)) ∧ (∀ x ∈ L, x ∈ L1) ∧ (∀ y ∈ Pt.kids g T.ks, y ∈ L1) ∧ (∀ x ∈ L1, x ∈ L ∨ W.heap.size ≤ x.b) ∧ Pt.Inv B d w L1 (S ++ Pt.todo g us) (W1.setCell ⟨b, o + 2, none⟩ (.slice a' nk c'))) := by
  have lt : ∀ y ∈ L, y.b < W.heap.size := fun y hy => by
    obtain ⟨⟨cs, ty, hc, _⟩, _⟩ := h.at_ y hy
    exact (Array.getElem?_eq_some_iff.1 hc).1
  have empty : T.ks = [] → ∀ (W1 : World) (a' : Option Addr) (c' : Nat), Below W.heap.size W W1 → Hid (Below W.heap.size W W1 ∧ ∃ (us : List Value) (g : Nat) (L1 : List Pl), us.length = nk ∧ (0 < nk → a' = some ⟨g, 0, none⟩ ∧ W.heap.size ≤ g) ∧ (∀ j (hj : j < us.length), W1.cell? ⟨g, j * 3 + 2, none⟩ = some us[j] ∧ (Pt.live us[j] = true ∨ ∃ n k, us[j] = .slice none n k)) ∧ (∀ x ∈ L, x ∈ L1) ∧ (∀ y ∈ Pt.kids g T.ks, y ∈ L1) ∧ (∀ x ∈ L1, x ∈ L ∨ W.heap.size ≤ x.b) ∧ Pt.Inv B d w L1 (S ++ Pt.todo g us) (W1.setCell ⟨b, o + 2, none⟩ (.slice a' nk c'))) := by
    intro hk W1 a' c' hb
    obtain rfl : nk = 0 := by rw [← hnk, hk]; rfl
    refine ⟨hb, [], 0, L, rfl, fun h => by omega, fun j hj => by simp at hj, fun _ h => h, fun y hy => ?_, fun _ h => .inl h, ?_⟩
    · rw [hk] at hy; simp [Pt.kids] at hy
    · have h1 : Pt.Inv B d w L (S ++ [(b, o)]) W1 := h.keep (hb.mono hB) fun x hx => hb.block _ (lt x hx)
      have h2 := Pt.step0 (a := a') (c := c') h1 hx hk
      simpa [Pt.todo] using h2
  cases ak with
  | none =>
    have hk : T.ks = [] := by
      cases d with
      | zero => exact hL.elim
      | succ d =>
        cases hks : T.ks with
        | nil => rfl
        | cons x r =>
          obtain ⟨g, off, u, ha, _⟩ := hL.kid 0 (by rw [hks]; simp)
          cases ha
    obtain rfl : nk = 0 := by rw [← hnk, hk]; rfl
    refine (Tryd.cloneTerm_nil W ck).mono ?_
    rintro e W1 ⟨rfl, rfl⟩
    exact ⟨none, 0, rfl, empty hk _ _ _ (Below.refl _ _)⟩
  | some ad =>
    by_cases hk : T.ks = []
    · obtain rfl : nk = 0 := by rw [← hnk, hk]; rfl
      refine (Tryd.cloneTerm_any ad 0 ck [] W rfl (fun j v hv => by simp at hv) (fun v hv => by simp at hv) (fun h => by omega) hn).mono ?_
      rintro e W1 ⟨g, c', rfl, H⟩
      exact ⟨some ⟨g, 0, none⟩, c', rfl, empty hk _ _ _ H.out.2.2⟩
    · have hpos : 0 < T.ks.length := List.length_pos_iff.2 hk
      cases d with
      | zero => exact hL.elim
      | succ d =>
        obtain ⟨g0, off, had, hg0, hkid⟩ : ∃ g0 off, ad = ⟨g0, off, none⟩ ∧ g0 < B ∧ ∀ j (hj : j < T.ks.length), ∃ u, W.cell? ⟨g0, off + j * 3, none⟩ = some (.int .i64 T.ks[j].op) ∧ W.cell? ⟨g0, off + j * 3 + 1, none⟩ = some (.int .i64 T.ks[j].num) ∧ W.cell? ⟨g0, off + j * 3 + 2, none⟩ = some u ∧ Tm.Lies W B d u T.ks[j] := by
          obtain ⟨a, cap, hv, h0 | ⟨g, off, ha, hg, hr⟩⟩ := hL
          · exact (hk h0).elim
          · simp only [Value.slice.injEq] at hv
            obtain ⟨h1, -, -⟩ := hv
            rw [← h1] at ha
            exact ⟨g, off, by simpa using ha, hg, hr⟩
        subst had
        let cl : Nat → Value := fun i => (W.cell? ⟨g0, off + i, none⟩).getD undef
        have hc0 : ∀ j (hj : j < T.ks.length), cl (j * 3) = .int .i64 T.ks[j].op ∧ cl (j * 3 + 1) = .int .i64 T.ks[j].num := fun j hj => by
          obtain ⟨u, k0, k1, k2, _⟩ := hkid j hj
          exact ⟨by simp only [cl]; rw [k0]; rfl, by simp only [cl]; rw [← Nat.add_assoc, k1]; rfl⟩
        have hc2 : ∀ j (hj : j < T.ks.length), Tm.Lies W B d (cl (j * 3 + 2)) T.ks[j] := fun j hj => by
          obtain ⟨u, k0, k1, k2, k3⟩ := hkid j hj
          simp only [cl]; rw [← Nat.add_assoc, k2]; exact k3
        have hone : ∀ i, i < T.ks.length * 3 → W.cell? ⟨g0, off + i, none⟩ = some (cl i) ∧ (cl i).oneCell' = true := fun i hi => by
          have hj : i / 3 < T.ks.length := by omega
          obtain ⟨u, k0, k1, k2, k3⟩ := hkid (i / 3) hj
          obtain ⟨a, cap, rfl⟩ := k3.shape
          rcases (by omega : i = i / 3 * 3 ∨ i = i / 3 * 3 + 1 ∨ i = i / 3 * 3 + 2) with e | e | e
          · simp only [cl]; rw [e, k0]; exact ⟨rfl, rfl⟩
          · simp only [cl]; rw [e, ← Nat.add_assoc, k1]; exact ⟨rfl, rfl⟩
          · simp only [cl]; rw [e, ← Nat.add_assoc, k2]; exact ⟨rfl, rfl⟩
        have hget : ∀ i, i < nk * 3 → ((List.range (nk * 3)).map cl)[i]? = some (cl i) := fun i hi => by simp [hi]
        refine (Tryd.cloneTerm_any ⟨g0, off, none⟩ nk ck ((List.range (nk * 3)).map cl) W (by simp) (fun j v hv => ?_) (fun v hv => ?_) (fun _ => by simp only; omega) hn).mono ?_
        · have hj : j < nk * 3 := by have := (List.getElem?_eq_some_iff.1 hv).1; simpa using this
          rw [hget j hj] at hv
          rw [Pt.add_off, (hone j (by omega)).1, hv]
        · obtain ⟨i, hi, rfl⟩ := List.mem_map.1 hv
          exact (hone i (by rw [List.mem_range] at hi; omega)).2
        · rintro e W1 ⟨g, c', rfl, H⟩
          obtain ⟨hg, ⟨cur, hgc, htake⟩, hb⟩ := H.out
          have hcur : ∀ i, i < nk * 3 → cur[i]? = some (cl i) := fun i hi => by
            have := hget i hi
            rw [← htake, List.getElem?_take_of_lt hi] at this
            simpa using this
          have hus : ∀ j (hj : j < ((List.range nk).map fun j => cl (j * 3 + 2)).length), ((List.range nk).map fun j => cl (j * 3 + 2))[j] = cl (j * 3 + 2) := fun j hj => by simp
          have hlive : ∀ j (hj : j < ((List.range nk).map fun j => cl (j * 3 + 2)).length), Pt.live ((List.range nk).map fun j => cl (j * 3 + 2))[j] = true ∨ ∃ n k, ((List.range nk).map fun j => cl (j * 3 + 2))[j] = .slice none n k := fun j hj => by
            rw [hus j hj]
            obtain ⟨a, cap, e⟩ := (hc2 j (by simp at hj; omega)).shape
            rw [e]
            cases a with
            | none => exact .inr ⟨_, _, rfl⟩
            | some a => exact .inl rfl
          have hst := Pt.step (c := c') (us := (List.range nk).map fun j => cl (j * 3 + 2)) h hx (by simp [hnk]) (fun j hj hj' => by rw [hus j hj']; exact (hc2 j hj).deeper (Nat.le_succ d)) hlive hb hg hgc fun j hj hj' => by
            rw [hus j hj', hcur _ (by omega), hcur _ (by omega), hcur _ (by omega), (hc0 j hj).1, (hc0 j hj).2]
            exact ⟨rfl, rfl, rfl⟩
          rw [hnk] at hst
          refine ⟨some ⟨g, 0, none⟩, c', rfl, hb, _, g, _, by simp, fun _ => ⟨rfl, hg⟩, fun j hj => ⟨?_, hlive j hj⟩, fun x hx => List.mem_append_left _ hx, fun y hy => List.mem_append_right _ hy, fun x hx => (List.mem_append.1 hx).imp id fun hm => ?_, hst⟩
          rotate_left
          · obtain ⟨j, hj, rfl⟩ := Pt.mem_kids.1 hm
            exact hg
          have hj' : j < nk := by simpa using hj
          rw [hus j hj]
          simp only [World.cell?, hgc]
          simp [hcur (j * 3 + 2) (by omega)]

end Go.Proofs
