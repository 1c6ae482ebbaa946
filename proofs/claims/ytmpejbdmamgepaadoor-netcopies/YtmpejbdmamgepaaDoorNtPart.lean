/-
  Terms that are copied in part: where they lie in new memory, and which of them still have their kids in old memory; net.part's closure.
-/
import Derived.Test.YtmpejbdmamgepaaDoorNtClone
namespace Go.Proofs
open Go.RowKit Go.Shelf

set_option maxRecDepth 20000 in
set_option maxHeartbeats 2000000 in
theorem Tryd.pkids_any (b o : Nat) (w : World) :
    Calls Tryd.prog 50 #[.pointer (some ⟨b, o, none⟩)] w fun e w' => e = .returned (.pointer (some ⟨b, o + 2, none⟩)) ∧ w' = w := by
  go_enter Tryd.func50, Tryd.ntmps50
  go_wp2
  go_ret
  exact ⟨rfl, rfl⟩

/-- A place of a term in new memory. -/
structure Pl where
  b : Nat
  o : Nat
  T : Tm
/-- The kids of a place are copied: they lie at places of the list. -/
def Pt.Done (B : Nat) (L : List Pl) (v : Value) (T : Tm) : Prop := ∃ a c, v = .slice a T.ks.length c ∧ (T.ks = [] ∨ ∃ g, a = some ⟨g, 0, none⟩ ∧ B ≤ g ∧ ∀ j (h : j < T.ks.length), (⟨g, j * 3, T.ks[j]⟩ : Pl) ∈ L)
/-- One place's cells; S: the places whose kids are still to be copied. -/
def Pt.At (B d : Nat) (L : List Pl) (S : List (Nat × Nat)) (W : World) (x : Pl) : Prop :=
  (∃ cs ty, W.heap[x.b]? = some (.cells cs ty (0, 0)) ∧ ty ≠ 66) ∧ B ≤ x.b ∧ W.cell? ⟨x.b, x.o, none⟩ = some (.int .i64 x.T.op) ∧ W.cell? ⟨x.b, x.o + 1, none⟩ = some (.int .i64 x.T.num) ∧
  ∃ v, W.cell? ⟨x.b, x.o + 2, none⟩ = some v ∧ (((x.b, x.o) ∈ S ∧ Tm.Lies W B d v x.T) ∨ ((x.b, x.o) ∉ S ∧ Pt.Done B L v x.T))
/-- All places, some of them still to be copied. -/
structure Pt.Inv (B d : Nat) (w : World) (L : List Pl) (S : List (Nat × Nat)) (W : World) : Prop where
  below : Below B w W
  at_ : ∀ x ∈ L, Pt.At B d L S W x
  apart : ∀ x ∈ L, ∀ y ∈ L, x.b = y.b → x.o = y.o ∧ x.T = y.T ∨ x.o + 3 ≤ y.o ∨ y.o + 3 ≤ x.o
  nodup : S.Nodup
  places : ∀ s ∈ S, ∃ x ∈ L, (x.b, x.o) = s
theorem Pt.Done.more {B : Nat} {L L' : List Pl} {v : Value} {T : Tm} (h : Pt.Done B L v T) (hL : ∀ x ∈ L, x ∈ L') : Pt.Done B L' v T := by
  obtain ⟨a, c, hv, hk⟩ := h
  refine ⟨a, c, hv, hk.elim .inl fun ⟨g, h1, h2, h3⟩ => .inr ⟨g, h1, h2, fun j hj => hL _ (h3 j hj)⟩⟩
/-- A term's kids that lie in blocks of P alone. -/
def Pt.Lies (W : World) (P : Nat → Prop) : Nat → Value → Tm → Prop
  | 0, _, _ => False
  | d + 1, v, T => ∃ a cap, v = .slice a T.ks.length cap ∧ (T.ks = [] ∨ ∃ g off, a = some ⟨g, off, none⟩ ∧ P g ∧
      ∀ j (_ : j < T.ks.length), ∃ u, W.cell? ⟨g, off + j * 3, none⟩ = some (.int .i64 T.ks[j].op) ∧ W.cell? ⟨g, off + j * 3 + 1, none⟩ = some (.int .i64 T.ks[j].num) ∧
        W.cell? ⟨g, off + j * 3 + 2, none⟩ = some u ∧ Pt.Lies W P d u T.ks[j])
theorem Pt.Lies.lies {W : World} {P : Nat → Prop} {B : Nat} (hP : ∀ k, P k → k < B) : ∀ {d : Nat} {v : Value} {T : Tm}, Pt.Lies W P d v T → Tm.Lies W B d v T
  | 0, _, _, h => h.elim
  | d + 1, v, T, h => by
    obtain ⟨a, cap, hv, h⟩ := h
    refine ⟨a, cap, hv, h.elim .inl fun ⟨g, off, ha, hg, hr⟩ => .inr ⟨g, off, ha, hP g hg, fun j hj => ?_⟩⟩
    obtain ⟨u, h0, h1, h2, h3⟩ := hr j hj
    exact ⟨u, h0, h1, h2, Pt.Lies.lies hP h3⟩
theorem Pt.Lies.keep {W W' : World} {P : Nat → Prop} (hk : ∀ k, P k → W'.heap[k]? = W.heap[k]?) : ∀ {d : Nat} {v : Value} {T : Tm}, Pt.Lies W P d v T → Pt.Lies W' P d v T
  | 0, _, _, h => h.elim
  | d + 1, v, T, h => by
    obtain ⟨a, cap, hv, h⟩ := h
    refine ⟨a, cap, hv, h.elim .inl fun ⟨g, off, ha, hg, hr⟩ => .inr ⟨g, off, ha, hg, fun j hj => ?_⟩⟩
    obtain ⟨u, h0, h1, h2, h3⟩ := hr j hj
    have hc : ∀ o, W'.cell? ⟨g, o, none⟩ = W.cell? ⟨g, o, none⟩ := fun o => World.cell?_of_block (w := W) (hk g hg)
    exact ⟨u, by rw [hc]; exact h0, by rw [hc]; exact h1, by rw [hc]; exact h2, Pt.Lies.keep hk h3⟩
theorem Pt.Lies.deeper {W : World} {P : Nat → Prop} : ∀ {d e : Nat}, d ≤ e → ∀ {v : Value} {T : Tm}, Pt.Lies W P d v T → Pt.Lies W P e v T
  | 0, _, _, _, _, h => h.elim
  | d + 1, 0, hde, _, _, _ => by omega
  | d + 1, e + 1, hde, v, T, h => by
    obtain ⟨a, cap, hv, h⟩ := h
    refine ⟨a, cap, hv, h.elim .inl fun ⟨g, off, ha, hg, hr⟩ => .inr ⟨g, off, ha, hg, fun j hj => ?_⟩⟩
    obtain ⟨u, h0, h1, h2, h3⟩ := hr j hj
    exact ⟨u, h0, h1, h2, Pt.Lies.deeper (Nat.le_of_succ_le_succ hde) h3⟩
/-- What is copied whole lies in new memory alone. -/
theorem Pt.whole {B d : Nat} {w W : World} {L : List Pl} (h : Pt.Inv B d w L [] W) : ∀ (T : Tm) (b o : Nat), (⟨b, o, T⟩ : Pl) ∈ L → ∃ v, W.cell? ⟨b, o + 2, none⟩ = some v ∧ Pt.Lies W (fun k => B ≤ k ∧ k < W.heap.size) T.depth v T := by
  intro T
  induction hs : T.size using Nat.strongRecOn generalizing T with
  | _ n ih =>
    intro b o hx
    obtain ⟨_, _, _, _, v, hv, hd⟩ := h.at_ _ hx
    rcases hd with ⟨hm, _⟩ | ⟨_, a, c, rfl, hk⟩
    · cases hm
    · refine ⟨_, hv, ?_⟩
      rw [T.depth_eq]
      refine ⟨a, c, rfl, ?_⟩
      rcases hk with hk | ⟨g, ha, hg, hj⟩
      · exact .inl hk
      · by_cases h0 : T.ks = []
        · exact .inl h0
        · refine .inr ⟨g, 0, ha, ⟨hg, ?_⟩, fun j hjl => ?_⟩
          · obtain ⟨⟨cs, ty, hc, _⟩, _⟩ := h.at_ _ (hj 0 (List.length_pos_iff.2 h0))
            exact (Array.getElem?_eq_some_iff.1 hc).1
          · have hm := hj j hjl
            obtain ⟨_, _, c0, c1, _⟩ := h.at_ _ hm
            have hsz := Tm.sizes_get T.ks j hjl
            have hse := T.size_eq
            obtain ⟨u, hu, hl⟩ := ih (T.ks[j]).size (by omega) T.ks[j] rfl g (j * 3) hm
            have hdp := Tm.depths_get T.ks j hjl
            exact ⟨u, by simpa using c0, by simpa using c1, by simpa using hu, Pt.Lies.deeper hdp hl⟩

end Go.Proofs
