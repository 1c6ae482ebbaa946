/-
  Blocks: plain mathematics (what they are, how many, how deep), and how a block lies in memory.
-/
import Derived.Test.YtemccpfgkbhahaaGreatDoorTmModel
namespace Go.Proofs
open Go.RowKit

inductive Bl where
  | mk (kind node arg : Int) (ks : List Bl) (ls : List (Int × Int × Int))

namespace Bl
def kind : Bl → Int | mk k _ _ _ _ => k
def node : Bl → Int | mk _ n _ _ _ => n
def arg : Bl → Int | mk _ _ a _ _ => a
def ks : Bl → List Bl | mk _ _ _ k _ => k
def ls : Bl → List (Int × Int × Int) | mk _ _ _ _ l => l

mutual
def size : Bl → Nat | mk _ _ _ ks _ => sizes ks + 1
def sizes : List Bl → Nat | [] => 0 | k :: r => size k + sizes r
end
mutual
def depth : Bl → Nat | mk _ _ _ ks _ => depths ks + 1
def depths : List Bl → Nat | [] => 0 | k :: r => max (depth k) (depths r)
end
mutual
/-- Does it hold of a block and all in it? -/
def allP (p : Int → Int → Int → List (Int × Int × Int) → Bool) : Bl → Bool | mk k n a ks ls => p k n a ls && allPs p ks
def allPs (p : Int → Int → Int → List (Int × Int × Int) → Bool) : List Bl → Bool | [] => true | k :: r => allP p k && allPs p r
end

theorem take_snoc {α : Type} (l : List α) (k : Nat) (h : k < l.length) : l.take (k + 1) = l.take k ++ [l[k]] := Tm.take_snoc l k h
theorem sizes_snoc (l : List Bl) (a : Bl) : sizes (l ++ [a]) = sizes l + a.size := by
  induction l with
  | nil => simp [sizes]
  | cons k r ih => simp only [List.cons_append, sizes, ih]; omega
theorem depths_snoc (l : List Bl) (a : Bl) : depths (l ++ [a]) = max (depths l) a.depth := by
  induction l with
  | nil => simp [depths]
  | cons k r ih => simp only [List.cons_append, depths, ih]; omega
theorem allPs_snoc (p : Int → Int → Int → List (Int × Int × Int) → Bool) (l : List Bl) (a : Bl) : allPs p (l ++ [a]) = (allPs p l && a.allP p) := by
  induction l with
  | nil => simp [allPs]
  | cons k r ih => simp only [List.cons_append, allPs, ih, Bool.and_assoc]
theorem sizes_take (l : List Bl) (k : Nat) (h : k < l.length) : sizes (l.take (k + 1)) = sizes (l.take k) + l[k].size := by rw [take_snoc l k h, sizes_snoc]
theorem depths_take (l : List Bl) (k : Nat) (h : k < l.length) : depths (l.take (k + 1)) = max (depths (l.take k)) l[k].depth := by rw [take_snoc l k h, depths_snoc]
theorem allPs_take (p : Int → Int → Int → List (Int × Int × Int) → Bool) (l : List Bl) (k : Nat) (h : k < l.length) : allPs p (l.take (k + 1)) = (allPs p (l.take k) && l[k].allP p) := by rw [take_snoc l k h, allPs_snoc]
theorem sizes_le (l : List Bl) : ∀ k, sizes (l.take k) ≤ sizes l := by
  induction l with
  | nil => intro k; simp
  | cons x r ih =>
    intro k
    cases k with
    | zero => simp [sizes]
    | succ k => simp only [List.take_succ_cons, sizes]; have := ih k; omega
theorem depths_get (l : List Bl) : ∀ k (h : k < l.length), l[k].depth ≤ depths l := by
  induction l with
  | nil => intro k h; simp at h
  | cons x r ih =>
    intro k h
    cases k with
    | zero => simp only [List.getElem_cons_zero, depths]; omega
    | succ k => simp only [List.getElem_cons_succ, depths]; have := ih k (by simpa using h); omega
theorem allPs_get (p : Int → Int → Int → List (Int × Int × Int) → Bool) (l : List Bl) (hl : allPs p l = true) : ∀ k (h : k < l.length), l[k].allP p = true := by
  induction l with
  | nil => intro k h; simp at h
  | cons x r ih =>
    intro k h
    simp only [allPs, Bool.and_eq_true] at hl
    cases k with
    | zero => exact hl.1
    | succ k => exact ih hl.2 k (by simpa using h)
theorem size_pos (T : Bl) : 1 ≤ T.size := by cases T; simp [size]
theorem sizes_get (l : List Bl) (k : Nat) (h : k < l.length) : sizes (l.take k) + l[k].size ≤ sizes l := by rw [← sizes_take l k h]; exact sizes_le _ _
theorem length_le_sizes (l : List Bl) : l.length ≤ sizes l := by
  induction l with
  | nil => simp
  | cons k r ih => simp only [List.length_cons, sizes]; have := k.size_pos; omega
theorem size_eq (T : Bl) : T.size = sizes T.ks + 1 := by cases T; rfl
theorem depth_eq (T : Bl) : T.depth = depths T.ks + 1 := by cases T; rfl
theorem allP_eq (p : Int → Int → Int → List (Int × Int × Int) → Bool) (T : Bl) : T.allP p = (p T.kind T.node T.arg T.ls && allPs p T.ks) := by cases T; rfl
mutual
theorem depth_le_size : ∀ T : Bl, T.depth ≤ T.size
  | mk _ _ _ ks _ => by rw [depth, size]; have := depths_le_sizes ks; omega
theorem depths_le_sizes : ∀ l : List Bl, depths l ≤ sizes l
  | [] => by simp [depths, sizes]
  | k :: r => by rw [depths, sizes]; have := depth_le_size k; have := depths_le_sizes r; omega
end

/-- Links in memory. -/
def Lk (w : World) (B : Nat) (v : Value) (ls : List (Int × Int × Int)) : Prop := ∃ a cap, v = .slice a ls.length cap ∧
  ∀ j (h : j < ls.length), ∃ g off, a = some ⟨g, off, none⟩ ∧ g < B ∧ w.cell? ⟨g, off + j * 3, none⟩ = some (.int .i64 ls[j].1) ∧ w.cell? ⟨g, off + j * 3 + 1, none⟩ = some (.int .i64 ls[j].2.1) ∧ w.cell? ⟨g, off + j * 3 + 2, none⟩ = some (.int .i64 ls[j].2.2)
theorem Lk.keep {w w' : World} {B : Nat} {v : Value} {ls : List (Int × Int × Int)} (h : Lk w B v ls) (hk : ∀ k, k < B → w'.heap[k]? = w.heap[k]?) : Lk w' B v ls := by
  obtain ⟨a, cap, hv, h⟩ := h
  refine ⟨a, cap, hv, fun j hj => ?_⟩
  obtain ⟨g, off, ha, hg, h0, h1, h2⟩ := h j hj
  have hc : ∀ o, w'.cell? ⟨g, o, none⟩ = w.cell? ⟨g, o, none⟩ := fun o => World.cell?_of_block (w := w) (hk g hg)
  exact ⟨g, off, ha, hg, by rw [hc]; exact h0, by rw [hc]; exact h1, by rw [hc]; exact h2⟩
theorem Lk.wider {w : World} {B B' : Nat} (hB : B ≤ B') {v : Value} {ls : List (Int × Int × Int)} (h : Lk w B v ls) : Lk w B' v ls := by
  obtain ⟨a, cap, hv, h⟩ := h
  refine ⟨a, cap, hv, fun j hj => ?_⟩
  obtain ⟨g, off, ha, hg, h0⟩ := h j hj
  exact ⟨g, off, ha, by omega, h0⟩
theorem Lk.below {w w' : World} {B : Nat} {v : Value} {ls : List (Int × Int × Int)} (h : Lk w B v ls) (hb : Below B w w') : Lk w' B v ls := h.keep hb.block
theorem Lk.shape {w : World} {B : Nat} {v : Value} {ls : List (Int × Int × Int)} (h : Lk w B v ls) : ∃ a cap, v = .slice a ls.length cap := by obtain ⟨a, cap, hv, _⟩ := h; exact ⟨a, cap, hv⟩

/-- A block's kids and links in memory: the slices v and lv; all memory lies below B; d bounds the levels. -/
def Lies (w : World) (B : Nat) : Nat → Value → Value → Bl → Prop
  | 0, _, _, _ => False
  | d + 1, v, lv, T => Lk w B lv T.ls ∧ ∃ a cap, v = .slice a T.ks.length cap ∧ (T.ks = [] ∨ ∃ g off, a = some ⟨g, off, none⟩ ∧ g < B ∧
      ∀ j (h : j < T.ks.length), ∃ u lu, w.cell? ⟨g, off + j * 5, none⟩ = some (.int .i64 T.ks[j].kind) ∧ w.cell? ⟨g, off + j * 5 + 1, none⟩ = some (.int .i64 T.ks[j].node) ∧ w.cell? ⟨g, off + j * 5 + 2, none⟩ = some (.int .i64 T.ks[j].arg) ∧
        w.cell? ⟨g, off + j * 5 + 3, none⟩ = some u ∧ w.cell? ⟨g, off + j * 5 + 4, none⟩ = some lu ∧ Lies w B d u lu T.ks[j])

theorem Lies.keep {w w' : World} {B : Nat} (hk : ∀ k, k < B → w'.heap[k]? = w.heap[k]?) : ∀ {d : Nat} {v lv : Value} {T : Bl}, Lies w B d v lv T → Lies w' B d v lv T
  | 0, _, _, _, h => h.elim
  | d + 1, v, lv, T, h => by
    obtain ⟨hl, a, cap, hv, h⟩ := h
    refine ⟨hl.keep hk, a, cap, hv, h.elim .inl fun ⟨g, off, ha, hg, hr⟩ => .inr ⟨g, off, ha, hg, fun j hj => ?_⟩⟩
    obtain ⟨u, lu, h0, h1, h2, h3, h4, h5⟩ := hr j hj
    have hc : ∀ o, w'.cell? ⟨g, o, none⟩ = w.cell? ⟨g, o, none⟩ := fun o => World.cell?_of_block (w := w) (hk g hg)
    exact ⟨u, lu, by rw [hc]; exact h0, by rw [hc]; exact h1, by rw [hc]; exact h2, by rw [hc]; exact h3, by rw [hc]; exact h4, Lies.keep hk h5⟩
theorem Lies.below {w w' : World} {B : Nat} (hb : Below B w w') {d : Nat} {v lv : Value} {T : Bl} (h : Lies w B d v lv T) : Lies w' B d v lv T := h.keep hb.block
theorem Lies.wider {w : World} {B B' : Nat} (hB : B ≤ B') : ∀ {d : Nat} {v lv : Value} {T : Bl}, Lies w B d v lv T → Lies w B' d v lv T
  | 0, _, _, _, h => h.elim
  | d + 1, v, lv, T, h => by
    obtain ⟨hl, a, cap, hv, h⟩ := h
    refine ⟨hl.wider hB, a, cap, hv, h.elim .inl fun ⟨g, off, ha, hg, hr⟩ => .inr ⟨g, off, ha, by omega, fun j hj => ?_⟩⟩
    obtain ⟨u, lu, h0, h1, h2, h3, h4, h5⟩ := hr j hj
    exact ⟨u, lu, h0, h1, h2, h3, h4, Lies.wider hB h5⟩
theorem Lies.shape {w : World} {B d : Nat} {v lv : Value} {T : Bl} (h : Lies w B d v lv T) : ∃ a cap, v = .slice a T.ks.length cap := by
  cases d with
  | zero => exact h.elim
  | succ d => obtain ⟨_, a, cap, hv, _⟩ := h; exact ⟨a, cap, hv⟩
theorem Lies.links {w : World} {B d : Nat} {v lv : Value} {T : Bl} (h : Lies w B d v lv T) : Lk w B lv T.ls := by
  cases d with
  | zero => exact h.elim
  | succ d => exact h.1
/-- The kid number j. -/
theorem Lies.kid {w : World} {B d : Nat} {a : Option Addr} {n cap : Nat} {lv : Value} {T : Bl} (h : Lies w B (d + 1) (.slice a n cap) lv T) (j : Nat) (hj : j < T.ks.length) :
    ∃ g off u lu, a = some ⟨g, off, none⟩ ∧ g < B ∧ w.cell? ⟨g, off + j * 5, none⟩ = some (.int .i64 T.ks[j].kind) ∧ w.cell? ⟨g, off + j * 5 + 1, none⟩ = some (.int .i64 T.ks[j].node) ∧ w.cell? ⟨g, off + j * 5 + 2, none⟩ = some (.int .i64 T.ks[j].arg) ∧
        w.cell? ⟨g, off + j * 5 + 3, none⟩ = some u ∧ w.cell? ⟨g, off + j * 5 + 4, none⟩ = some lu ∧ Lies w B d u lu T.ks[j] := by
  obtain ⟨_, a', cap', hv, h⟩ := h
  obtain ⟨rfl, _, _⟩ := Value.slice.inj hv
  rcases h with h | ⟨g, off, ha, hg, hr⟩
  · rw [h] at hj; simp at hj
  · obtain ⟨u, lu, h0, h1, h2, h3, h4, h5⟩ := hr j hj
    exact ⟨g, off, u, lu, ha, hg, h0, h1, h2, h3, h4, h5⟩
end Bl

end Go.Proofs
