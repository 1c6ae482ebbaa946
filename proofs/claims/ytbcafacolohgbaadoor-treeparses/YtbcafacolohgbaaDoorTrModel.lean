/-
  Elements: plain mathematics (what they are, how deep and wide, their texts), and how an element lies in memory.
-/
import Derived.Test.YtbcafacolohgbaaDoorWMark
import Derived.Test.YtbcafacolohgbaaDoorMarkArg
import Derived.Test.YtbcafacolohgbaaDoorTmModel
namespace Go.Proofs
open Go.RowKit
open Go.Proofs.Mk

inductive El where
  | mk (name : ByteArray) (attrs : List (ByteArray × ByteArray)) (kids : List El) (text : ByteArray)
instance : Inhabited El := ⟨.mk ⟨#[]⟩ [] [] ⟨#[]⟩⟩

namespace El
def name : El → ByteArray | mk n _ _ _ => n
def attrs : El → List (ByteArray × ByteArray) | mk _ a _ _ => a
def kids : El → List El | mk _ _ k _ => k
def text : El → ByteArray | mk _ _ _ t => t

mutual
def count : El → Nat | mk _ _ ks _ => counts ks + 1
def counts : List El → Nat | [] => 0 | k :: r => count k + counts r
end
mutual
def depth : El → Nat | mk _ _ ks _ => depths ks + 1
def depths : List El → Nat | [] => 0 | k :: r => max (depth k) (depths r)
end
mutual
def wideB : El → Bool | mk _ _ ks _ => decide (64 < ks.length) || wides ks
def wides : List El → Bool | [] => false | k :: r => wideB k || wides r
end
/-- The bytes of an element that count for large. -/
def attrsW : List (ByteArray × ByteArray) → Nat | [] => 0 | a :: r => 1 + a.1.size + a.2.size + attrsW r
mutual
def weight : El → Nat | mk _ xs ks t => weights ks + (attrsW xs + (1 + t.size))
def weights : List El → Nat | [] => 0 | k :: r => weight k + weights r
end
mutual
def Reach : El → Prop | mk n xs ks t => n.size ≤ 140737488355328 ∧ t.size ≤ 140737488355328 ∧ AttrsSmall xs ∧ ks.length ≤ 140737488355328 ∧ Reachs ks
def Reachs : List El → Prop | [] => True | k :: r => Reach k ∧ Reachs r
end
/-- What an element's head is written as, and its error. -/
def headW (E : El) : ByteArray × Int := Mk.wMark 1 E.name ⟨#[]⟩ E.attrs
def ownForm (E : El) : Bool := decide (E.headW.2 = 0) && E.text.data.toList.all bplain && (decide (E.text.data.toList = []) || decide (E.kids = []))
mutual
def formB : El → Bool | mk n xs ks t => ownForm (mk n xs ks t) && forms ks
def forms : List El → Bool | [] => true | k :: r => formB k && forms r
end
mutual
def textL : El → List UInt8
  | mk n xs ks t => if ks = [] ∧ t.data.toList = [] then (Mk.wMark 1 n ⟨#[]⟩ xs).1.data.toList.dropLast ++ [47, 62] else
      (Mk.wMark 1 n ⟨#[]⟩ xs).1.data.toList ++ Mk.escF t.data.toList ++ (textLs ks ++ ([60, 47] ++ n.data.toList ++ [62]))
def textLs : List El → List UInt8 | [] => [] | k :: r => textL k ++ textLs r
end
/-- Write's answer. -/
def writeR (E : El) : ByteArray × Int := if 24 < E.depth ∨ E.wideB = true then (⟨#[]⟩, 2) else if E.formB = false then (⟨#[]⟩, 4) else if 20000 < E.textL.length then (⟨#[]⟩, 5) else (⟨E.textL.toArray⟩, 0)

theorem count_eq (E : El) : E.count = counts E.kids + 1 := by cases E; rfl
theorem depth_eq (E : El) : E.depth = depths E.kids + 1 := by cases E; rfl
theorem wideB_eq (E : El) : E.wideB = (decide (64 < E.kids.length) || wides E.kids) := by cases E; rfl
theorem weight_eq (E : El) : E.weight = weights E.kids + (attrsW E.attrs + (1 + E.text.size)) := by cases E; rfl
theorem formB_eq (E : El) : E.formB = (E.ownForm && forms E.kids) := by cases E; rfl
theorem textL_eq (E : El) : E.textL = if E.kids = [] ∧ E.text.data.toList = [] then E.headW.1.data.toList.dropLast ++ [47, 62] else
    E.headW.1.data.toList ++ Mk.escF E.text.data.toList ++ (textLs E.kids ++ ([60, 47] ++ E.name.data.toList ++ [62])) := by cases E; rw [textL]; rfl
theorem reach_eq (E : El) : E.Reach = (E.name.size ≤ 140737488355328 ∧ E.text.size ≤ 140737488355328 ∧ AttrsSmall E.attrs ∧ E.kids.length ≤ 140737488355328 ∧ Reachs E.kids) := by cases E; rfl

theorem counts_take (l : List El) (k : Nat) (h : k < l.length) : counts (l.take (k + 1)) = counts (l.take k) + l[k].count := by
  rw [List.take_succ_eq_append_getElem h]
  generalize l.take k = a
  induction a with
  | nil => simp [counts]
  | cons x r ih => simp only [List.cons_append, counts, ih]; omega
theorem depths_take (l : List El) (k : Nat) (h : k < l.length) : depths (l.take (k + 1)) = max (depths (l.take k)) l[k].depth := by
  rw [List.take_succ_eq_append_getElem h]
  generalize l.take k = a
  induction a with
  | nil => simp [depths]
  | cons x r ih => simp only [List.cons_append, depths, ih]; omega
theorem wides_take (l : List El) (k : Nat) (h : k < l.length) : wides (l.take (k + 1)) = (wides (l.take k) || l[k].wideB) := by
  rw [List.take_succ_eq_append_getElem h]
  generalize l.take k = a
  induction a with
  | nil => simp [wides]
  | cons x r ih => simp only [List.cons_append, wides, ih, Bool.or_assoc]
theorem weights_take (l : List El) (k : Nat) (h : k < l.length) : weights (l.take (k + 1)) = weights (l.take k) + l[k].weight := by
  rw [List.take_succ_eq_append_getElem h]
  generalize l.take k = a
  induction a with
  | nil => simp [weights]
  | cons x r ih => simp only [List.cons_append, weights, ih]; omega
theorem forms_take (l : List El) (k : Nat) (h : k < l.length) : forms (l.take (k + 1)) = (forms (l.take k) && l[k].formB) := by
  rw [List.take_succ_eq_append_getElem h]
  generalize l.take k = a
  induction a with
  | nil => simp [forms]
  | cons x r ih => simp only [List.cons_append, forms, ih, Bool.and_assoc]
theorem textLs_take (l : List El) (k : Nat) (h : k < l.length) : textLs (l.take (k + 1)) = textLs (l.take k) ++ l[k].textL := by
  rw [List.take_succ_eq_append_getElem h]
  generalize l.take k = a
  induction a with
  | nil => simp [textLs]
  | cons x r ih => simp only [List.cons_append, textLs, ih, List.append_assoc]
theorem attrsW_take (l : List (ByteArray × ByteArray)) (k : Nat) (h : k < l.length) : attrsW (l.take (k + 1)) = attrsW (l.take k) + (1 + l[k].1.size + l[k].2.size) := by
  rw [List.take_succ_eq_append_getElem h]
  generalize l.take k = a
  induction a with
  | nil => simp [attrsW]
  | cons x r ih => simp only [List.cons_append, attrsW, ih]; omega
theorem attrsW_get : ∀ (l : List (ByteArray × ByteArray)) (k : Nat) (h : k < l.length), 1 + l[k].1.size + l[k].2.size ≤ attrsW l
  | [], k, h => by simp at h
  | a :: r, 0, _ => by simp only [List.getElem_cons_zero, attrsW]; omega
  | a :: r, k + 1, h => by have := attrsW_get r k (by simpa using h); simp only [List.getElem_cons_succ, attrsW]; omega
theorem attrsW_len : ∀ l : List (ByteArray × ByteArray), l.length ≤ attrsW l
  | [] => by simp [attrsW]
  | a :: r => by have := attrsW_len r; simp only [List.length_cons, attrsW]; omega
theorem counts_le (l : List El) : ∀ k, counts (l.take k) ≤ counts l := by
  induction l with
  | nil => simp [counts]
  | cons a r ih =>
    intro k
    cases k with
    | zero => simp [counts]
    | succ k => simp only [List.take_succ_cons, counts]; have := ih k; omega
theorem weights_le (l : List El) : ∀ k, weights (l.take k) ≤ weights l := by
  induction l with
  | nil => simp [weights]
  | cons a r ih =>
    intro k
    cases k with
    | zero => simp [weights]
    | succ k => simp only [List.take_succ_cons, weights]; have := ih k; omega
theorem counts_get (l : List El) (k : Nat) (h : k < l.length) : counts (l.take k) + l[k].count ≤ counts l := by rw [← counts_take l k h]; exact counts_le _ _
theorem weights_get (l : List El) (k : Nat) (h : k < l.length) : weights (l.take k) + l[k].weight ≤ weights l := by rw [← weights_take l k h]; exact weights_le _ _
theorem depths_get (l : List El) : ∀ k (h : k < l.length), l[k].depth ≤ depths l := by
  induction l with
  | nil => intro k h; simp at h
  | cons a r ih =>
    intro k h
    cases k with
    | zero => simp only [List.getElem_cons_zero, depths]; omega
    | succ k => simp only [List.getElem_cons_succ, depths]; have := ih k (by simpa using h); omega
theorem wides_get (l : List El) (h : wides l = false) : ∀ k (hk : k < l.length), l[k].wideB = false := by
  induction l with
  | nil => intro k h; simp at h
  | cons a r ih =>
    simp only [wides, Bool.or_eq_false_iff] at h
    intro k hk
    cases k with
    | zero => simpa using h.1
    | succ k => simpa using ih h.2 k (by simpa using hk)
theorem wides_true (l : List El) {k : Nat} (hk : k < l.length) (h : l[k].wideB = true) : wides l = true := by
  cases hc : wides l
  · rw [wides_get l hc k hk] at h; cases h
  · rfl
theorem forms_get (l : List El) (h : forms l = true) : ∀ k (hk : k < l.length), l[k].formB = true := by
  induction l with
  | nil => intro k h; simp at h
  | cons a r ih =>
    simp only [forms, Bool.and_eq_true] at h
    intro k hk
    cases k with
    | zero => simpa using h.1
    | succ k => simpa using ih h.2 k (by simpa using hk)
theorem forms_false (l : List El) {k : Nat} (hk : k < l.length) (h : l[k].formB = false) : forms l = false := by
  cases hc : forms l
  · rfl
  · rw [forms_get l hc k hk] at h; cases h
theorem reachs_get (l : List El) (h : Reachs l) : ∀ k (hk : k < l.length), l[k].Reach := by
  induction l with
  | nil => intro k h; simp at h
  | cons a r ih =>
    intro k hk
    cases k with
    | zero => simpa using h.1
    | succ k => simpa using ih h.2 k (by simpa using hk)
theorem reachs_of (l : List El) (h : ∀ k (hk : k < l.length), l[k].Reach) : Reachs l := by
  induction l with
  | nil => trivial
  | cons a r ih => exact ⟨h 0 (by simp), ih fun k hk => h (k + 1) (by simpa using hk)⟩
theorem count_pos (E : El) : 1 ≤ E.count := by rw [count_eq]; omega
theorem weight_pos (E : El) : 1 ≤ E.weight := by rw [weight_eq]; omega
theorem depth_pos (E : El) : 1 ≤ E.depth := by rw [depth_eq]; omega
theorem length_le_counts (l : List El) : l.length ≤ counts l := by
  induction l with
  | nil => simp [counts]
  | cons a r ih => have := count_pos a; simp only [List.length_cons, counts]; omega
mutual
theorem count_le_weight : ∀ E : El, E.count ≤ E.weight
  | mk _ _ ks _ => by simp only [count, weight]; have := counts_le_weights ks; omega
theorem counts_le_weights : ∀ l : List El, counts l ≤ weights l
  | [] => by simp [counts, weights]
  | k :: r => by simp only [counts, weights]; have := count_le_weight k; have := counts_le_weights r; omega
end
mutual
theorem depth_le_count : ∀ E : El, E.depth ≤ E.count
  | mk _ _ ks _ => by simp only [depth, count]; have := depths_le_counts ks; omega
theorem depths_le_counts : ∀ l : List El, depths l ≤ counts l
  | [] => by simp [depths, counts]
  | k :: r => by simp only [depths, counts]; have := depth_le_count k; have := depths_le_counts r; omega
end

/-- Attributes in memory, in blocks of P. -/
def AttrsP (w : World) (P : Nat → Prop) (v : Value) (xs : List (ByteArray × ByteArray)) : Prop :=
  (∃ a c, v = .slice a 0 c ∧ xs = []) ∨ ∃ g off cap, v = .slice (some ⟨g, off, none⟩) xs.length cap ∧ xs.length ≤ cap ∧ P g ∧
    ∀ j (h : j < xs.length), w.cell? ⟨g, off + j * 2, none⟩ = some (.string xs[j].1) ∧ w.cell? ⟨g, off + j * 2 + 1, none⟩ = some (.string xs[j].2)
theorem AttrsP.keep {w w' : World} {P Q : Nat → Prop} (hk : ∀ k, P k → w'.heap[k]? = w.heap[k]?) (hq : ∀ k, P k → Q k) {v : Value} {xs : List (ByteArray × ByteArray)} (h : AttrsP w P v xs) : AttrsP w' Q v xs := by
  rcases h with h | ⟨g, off, cap, hv, hc, hp, hr⟩
  · exact .inl h
  · refine .inr ⟨g, off, cap, hv, hc, hq g hp, fun j hj => ?_⟩
    have hcell : ∀ o, w'.cell? ⟨g, o, none⟩ = w.cell? ⟨g, o, none⟩ := fun o => World.cell?_of_block (w := w) (hk g hp)
    rw [hcell, hcell]
    exact hr j hj
theorem AttrsP.at {w : World} {P : Nat → Prop} {v : Value} {xs : List (ByteArray × ByteArray)} (h : AttrsP w P v xs) (hp : ∀ k, P k → k < w.heap.size) : AttrsAt w v xs :=
  h.elim .inl fun ⟨g, off, cap, hv, hc, hg, hr⟩ => .inr ⟨g, off, cap, hv, hc, hp g hg, hr⟩
theorem AttrsP.of_at {w : World} {v : Value} {xs : List (ByteArray × ByteArray)} (h : AttrsAt w v xs) : AttrsP w (· < w.heap.size) v xs := h
theorem AttrsP.shape {w : World} {P : Nat → Prop} {v : Value} {xs : List (ByteArray × ByteArray)} (h : AttrsP w P v xs) : ∃ a c, v = .slice a xs.length c := by
  rcases h with ⟨a, c, hv, rfl⟩ | ⟨g, off, cap, hv, _⟩
  · exact ⟨a, c, hv⟩
  · exact ⟨_, _, hv⟩

/-- An element in memory: its attributes' slice va, its kids' vk; all blocks are of P; d bounds the levels. -/
def Lies (w : World) (P : Nat → Prop) : Nat → Value → Value → El → Prop
  | 0, _, _, _ => False
  | d + 1, va, vk, E => AttrsP w P va E.attrs ∧ ∃ a cap, vk = .slice a E.kids.length cap ∧ (E.kids = [] ∨ ∃ g off, a = some ⟨g, off, none⟩ ∧ P g ∧
      ∀ j (h : j < E.kids.length), ∃ ua uk, w.cell? ⟨g, off + j * 4, none⟩ = some (.string E.kids[j].name) ∧ w.cell? ⟨g, off + j * 4 + 1, none⟩ = some ua ∧
        w.cell? ⟨g, off + j * 4 + 2, none⟩ = some uk ∧ w.cell? ⟨g, off + j * 4 + 3, none⟩ = some (.string E.kids[j].text) ∧ Lies w P d ua uk E.kids[j])
theorem Lies.keep {w w' : World} {P Q : Nat → Prop} (hk : ∀ k, P k → w'.heap[k]? = w.heap[k]?) (hq : ∀ k, P k → Q k) : ∀ {d : Nat} {va vk : Value} {E : El}, Lies w P d va vk E → Lies w' Q d va vk E
  | 0, _, _, _, h => h.elim
  | d + 1, va, vk, E, h => by
    obtain ⟨h0, a, cap, hv, h⟩ := h
    refine ⟨h0.keep hk hq, a, cap, hv, h.elim .inl fun ⟨g, off, ha, hg, hr⟩ => .inr ⟨g, off, ha, hq g hg, fun j hj => ?_⟩⟩
    obtain ⟨ua, uk, q0, q1, q2, q3, q4⟩ := hr j hj
    have hc : ∀ o, w'.cell? ⟨g, o, none⟩ = w.cell? ⟨g, o, none⟩ := fun o => World.cell?_of_block (w := w) (hk g hg)
    exact ⟨ua, uk, by rw [hc]; exact q0, by rw [hc]; exact q1, by rw [hc]; exact q2, by rw [hc]; exact q3, Lies.keep hk hq q4⟩
theorem Lies.more {w : World} {P : Nat → Prop} : ∀ {d : Nat} {va vk : Value} {E : El}, Lies w P d va vk E → Lies w P (d + 1) va vk E
  | 0, _, _, _, h => h.elim
  | d + 1, va, vk, E, h => by
    obtain ⟨h0, a, cap, hv, h⟩ := h
    refine ⟨h0, a, cap, hv, h.elim .inl fun ⟨g, off, ha, hg, hr⟩ => .inr ⟨g, off, ha, hg, fun j hj => ?_⟩⟩
    obtain ⟨ua, uk, q0, q1, q2, q3, q4⟩ := hr j hj
    exact ⟨ua, uk, q0, q1, q2, q3, Lies.more q4⟩
theorem Lies.upto {w : World} {P : Nat → Prop} {d e : Nat} {va vk : Value} {E : El} (h : Lies w P d va vk E) (hd : d ≤ e) : Lies w P e va vk E := by
  induction hd with
  | refl => exact h
  | step _ ih => exact ih.more
theorem Lies.shape {w : World} {P : Nat → Prop} {d : Nat} {va vk : Value} {E : El} (h : Lies w P d va vk E) : ∃ a c a' c', va = .slice a E.attrs.length c ∧ vk = .slice a' E.kids.length c' := by
  cases d with
  | zero => exact h.elim
  | succ d =>
    obtain ⟨h0, a, cap, hv, _⟩ := h
    obtain ⟨a0, c0, h0⟩ := h0.shape
    exact ⟨a0, c0, a, cap, h0, hv⟩
theorem Lies.attrsP {w : World} {P : Nat → Prop} {d : Nat} {va vk : Value} {E : El} (h : Lies w P d va vk E) : AttrsP w P va E.attrs := by
  cases d with
  | zero => exact h.elim
  | succ d => exact h.1
/-- The kid number j. -/
theorem Lies.kid {w : World} {P : Nat → Prop} {d : Nat} {va : Value} {a : Option Addr} {n cap : Nat} {E : El} (h : Lies w P (d + 1) va (.slice a n cap) E) (j : Nat) (hj : j < E.kids.length) :
    ∃ g off ua uk, a = some ⟨g, off, none⟩ ∧ P g ∧ w.cell? ⟨g, off + j * 4, none⟩ = some (.string E.kids[j].name) ∧ w.cell? ⟨g, off + j * 4 + 1, none⟩ = some ua ∧
        w.cell? ⟨g, off + j * 4 + 2, none⟩ = some uk ∧ w.cell? ⟨g, off + j * 4 + 3, none⟩ = some (.string E.kids[j].text) ∧ Lies w P d ua uk E.kids[j] := by
  obtain ⟨_, a', cap', hv, h⟩ := h
  obtain ⟨rfl, _, _⟩ := Value.slice.inj hv
  rcases h with h | ⟨g, off, ha, hg, hr⟩
  · rw [h] at hj; simp at hj
  · obtain ⟨ua, uk, q⟩ := hr j hj
    exact ⟨g, off, ua, uk, ha, hg, q⟩
/-- Below B. -/
theorem Lies.below {w w' : World} {B : Nat} (hb : Below B w w') {d : Nat} {va vk : Value} {E : El} (h : Lies w (· < B) d va vk E) : Lies w' (· < B) d va vk E := h.keep (fun k hk => hb.block k hk) (fun _ h => h)
theorem Lies.wider {w : World} {P Q : Nat → Prop} (hq : ∀ k, P k → Q k) {d : Nat} {va vk : Value} {E : El} (h : Lies w P d va vk E) : Lies w Q d va vk E := h.keep (fun _ _ => rfl) hq
/-- An element without kids. -/
theorem Lies.leaf {w : World} {P : Nat → Prop} {va : Value} {E : El} (d : Nat) (h : AttrsP w P va E.attrs) (a : Option Addr) (c : Nat) (hk : E.kids = []) : Lies w P (d + 1) va (.slice a 0 c) E :=
  ⟨h, a, c, by rw [hk]; rfl, .inl hk⟩
end El

end Go.Proofs
