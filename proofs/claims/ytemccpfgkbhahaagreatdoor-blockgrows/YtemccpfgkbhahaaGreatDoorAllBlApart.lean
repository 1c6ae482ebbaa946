/-
  Blocks that have the same text are the same: plain mathematics. · What BlockApart says of blocks, as plain mathematics: blocks of one process whose text is the same are the same.
-/
import Derived.Test.YtemccpfgkbhahaaGreatDoorAllBlOut
import Derived.Test.YtemccpfgkbhahaaGreatDoorBlGo
import Derived.Test.YtemccpfgkbhahaaGreatDoorAllBlAlt
import Derived.Test.YtemccpfgkbhahaaGreatDoorAllBlStand
import Derived.Test.YtemccpfgkbhahaaGreatDoorAllBlSame
import Derived.Test.YtemccpfgkbhahaaGreatDoorAllNtLargeM
namespace Go.Proofs
open Go.RowKit

namespace Bl
def dig (c : UInt8) : Bool := decide (48 ≤ c.toNat ∧ c.toNat ≤ 57)
/-- A rest that goes on with no digit. -/
def Stop (x : List UInt8) : Prop := ∀ c, x.head? = some c → dig c = false
theorem digs_app {a : List UInt8} (ha : ∀ c ∈ a, dig c = true) {x : List UInt8} (hx : Stop x) : (a ++ x).takeWhile dig = a ∧ (a ++ x).dropWhile dig = x := by
  induction a with
  | nil =>
    cases x with
    | nil => exact ⟨rfl, rfl⟩
    | cons c r =>
      have := hx c rfl
      simp [this]
  | cons c r ih =>
    have h1 := ha c (by simp)
    have h2 := ih fun d hd => ha d (by simp [hd])
    simp [h1, h2]
theorem digs_inj {a b x y : List UInt8} (ha : ∀ c ∈ a, dig c = true) (hb : ∀ c ∈ b, dig c = true) (hx : Stop x) (hy : Stop y) (h : a ++ x = b ++ y) : a = b ∧ x = y := by
  have h1 := digs_app ha hx
  have h2 := digs_app hb hy
  rw [h] at h1
  exact ⟨h1.1.symm.trans h2.1, h1.2.symm.trans h2.2⟩
theorem dec_dig (u : Nat) : ∀ c ∈ Lib.decDigits u, dig c = true := by
  induction u using Nat.strongRecOn with
  | _ u ih =>
    intro c hc
    have key : ∀ k, k < 10 → dig (UInt8.ofNat (48 + k)) = true := by decide
    by_cases h : u < 10
    · rw [Lib.decDigits, dif_pos h, List.mem_singleton] at hc
      rw [hc]; exact key u h
    · rw [Lib.decDigits, dif_neg h, List.mem_append, List.mem_singleton] at hc
      rcases hc with hc | hc
      · exact ih (u / 10) (by omega) c hc
      · rw [hc]; exact key _ (by omega)
def val (l : List UInt8) : Nat := l.foldl (fun a b => a * 10 + (b.toNat - 48)) 0
theorem val_dec (u : Nat) : val (Lib.decDigits u) = u := by
  induction u using Nat.strongRecOn with
  | _ u ih =>
    have key : ∀ k, k < 10 → (UInt8.ofNat (48 + k)).toNat - 48 = k := by decide
    by_cases h : u < 10
    · rw [Lib.decDigits, dif_pos h, val]
      simp only [List.foldl_cons, List.foldl_nil]
      have := key u h
      omega
    · rw [Lib.decDigits, dif_neg h, val, List.foldl_append]
      have h1 := ih (u / 10) (by omega)
      rw [val] at h1
      simp only [List.foldl_cons, List.foldl_nil]
      rw [h1, key _ (by omega)]
      omega
theorem itoa_inj {n m : Int} {x y : List UInt8} (hn : -1 ≤ n) (hm : -1 ≤ m) (hx : Stop x) (hy : Stop y) (h : Lib.itoa n ++ x = Lib.itoa m ++ y) : n = m ∧ x = y := by
  have d0 : ∀ u : Nat, ∃ c r, Lib.decDigits u = c :: r ∧ dig c = true := fun u => by
    cases hd : Lib.decDigits u with
    | nil =>
      have h1 := Lib.decDigits_length u
      have h2 := dec_dig u
      rw [hd] at h1
      have h3 : (Lib.decDigits u).length ≠ 0 := by
        rw [Lib.decDigits]
        split <;> simp
      rw [hd] at h3
      simp at h3
    | cons c r => exact ⟨c, r, rfl, dec_dig u c (by rw [hd]; simp)⟩
  unfold Lib.itoa at h
  split at h <;> split at h
  · rename_i h1 h2
    obtain rfl : n = -1 := by omega
    obtain rfl : m = -1 := by omega
    simp only [List.cons_append, List.cons.injEq, true_and] at h
    have := digs_inj (dec_dig _) (dec_dig _) hx hy h
    exact ⟨rfl, this.2⟩
  · obtain ⟨c, r, hc, hd⟩ := d0 m.toNat
    rw [hc] at h
    simp only [List.cons_append, List.cons.injEq] at h
    rw [← h.1] at hd
    cases hd
  · obtain ⟨c, r, hc, hd⟩ := d0 n.toNat
    rw [hc] at h
    simp only [List.cons_append, List.cons.injEq] at h
    rw [h.1] at hd
    cases hd
  · have := digs_inj (dec_dig _) (dec_dig _) hx hy h
    have h2 := congrArg val this.1
    rw [val_dec, val_dec] at h2
    exact ⟨by omega, this.2⟩
theorem stop_cons {c : UInt8} {r : List UInt8} (h : dig c = false) : Stop (c :: r) := fun d hd => by
  obtain rfl : c = d := by simpa using hd
  exact h
theorem stop_nil : Stop [] := fun d hd => by cases hd

/-- What of a block its text tells, and what else it can't have. -/
def fine (T : Bl) : Prop :=
  ((T.kind = 1 ∨ T.kind = 10) ∧ T.node = 0 ∧ T.arg = 0 ∧ T.ks = [] ∧ T.ls = []) ∨ ((T.kind = 2 ∨ T.kind = 8) ∧ 0 ≤ T.node ∧ T.arg = 0 ∧ T.ks = [] ∧ T.ls = []) ∨ (T.kind = 3 ∧ T.node = 0 ∧ T.arg = 0 ∧ T.ls = []) ∨
  ((T.kind = 4 ∨ T.kind = 5 ∨ T.kind = 6) ∧ 0 ≤ T.node ∧ T.arg = 0 ∧ T.ls = []) ∨ (T.kind = 7 ∧ 0 ≤ T.node ∧ 0 ≤ T.arg ∧ T.ls = []) ∨ (T.kind = 9 ∧ T.node = 0 ∧ T.arg = 0 ∧ ∀ x ∈ T.ls, -1 ≤ x.1 ∧ -1 ≤ x.2.1 ∧ -1 ≤ x.2.2)

theorem links_inj : ∀ {l m : List (Int × Int × Int)} {x y : List UInt8}, (∀ z ∈ l, -1 ≤ z.1 ∧ -1 ≤ z.2.1 ∧ -1 ≤ z.2.2) → (∀ z ∈ m, -1 ≤ z.1 ∧ -1 ≤ z.2.1 ∧ -1 ≤ z.2.2) → linksL l ++ 41 :: x = linksL m ++ 41 :: y → l = m ∧ x = y
  | [], [], x, y, _, _, h => by simpa [linksL] using h
  | [], b :: m, x, y, _, _, h => by simp [linksL, linkL] at h
  | a :: l, [], x, y, _, _, h => by simp [linksL, linkL] at h
  | a :: l, b :: m, x, y, h1, h2, h => by
    have a1 := h1 a (by simp)
    have b1 := h2 b (by simp)
    simp only [linksL, List.flatMap_cons, linkL, List.append_assoc, List.cons_append, List.nil_append, List.cons.injEq, true_and] at h
    have s1 : ∀ r : List UInt8, Stop (32 :: r) := fun r => stop_cons (by decide)
    have s2 : ∀ r : List UInt8, Stop (93 :: r) := fun r => stop_cons (by decide)
    obtain ⟨e1, h⟩ := itoa_inj a1.1 b1.1 (s1 _) (s1 _) h
    simp only [List.cons.injEq, true_and] at h
    obtain ⟨e2, h⟩ := itoa_inj a1.2.1 b1.2.1 (s1 _) (s1 _) h
    simp only [List.cons.injEq, true_and] at h
    obtain ⟨e3, h⟩ := itoa_inj a1.2.2 b1.2.2 (s2 _) (s2 _) h
    simp only [List.cons.injEq, true_and] at h
    obtain ⟨e4, e5⟩ := links_inj (l := l) (m := m) (fun z hz => h1 z (by simp [hz])) (fun z hz => h2 z (by simp [hz])) h
    refine ⟨?_, e5⟩
    rw [e4, Prod.ext e1 (Prod.ext e2 e3)]

/-- A rest that doesn't go on with a block. -/
def Close (x : List UInt8) : Prop := (∃ r, x = 41 :: r) ∨ ∃ r, x = 32 :: 91 :: r
theorem close_stop {x : List UInt8} (h : Close x) : Stop x := by
  rcases h with ⟨r, rfl⟩ | ⟨r, rfl⟩ <;> exact stop_cons (by decide)
theorem head_text (T : Bl) (h : T.fine) : ∃ c r, T.textL = c :: r ∧ c ≠ 91 ∧ (T.kind = 1 → c = 45) ∧ (T.kind = 10 → c = 42) ∧ (T.kind = 8 → c = 103) ∧ (T.kind = 2 → dig c = true) ∧ (T.kind ≠ 1 ∧ T.kind ≠ 10 ∧ T.kind ≠ 8 ∧ T.kind ≠ 2 → c = 40) := by
  rw [Bl.textL_eq]
  split
  · exact ⟨45, [], rfl, by decide, by simp, by omega, by omega, by omega, by omega⟩
  split
  · exact ⟨42, [], rfl, by decide, by omega, by simp, by omega, by omega, by omega⟩
  split
  · exact ⟨103, _, rfl, by decide, by omega, by omega, by simp, by omega, by omega⟩
  split
  · rename_i h2
    have h0 : 0 ≤ T.node := by unfold fine at h; omega
    rw [Lib.itoa, if_neg (by omega)]
    cases hd : Lib.decDigits T.node.toNat with
    | nil =>
      have h3 : (Lib.decDigits T.node.toNat).length ≠ 0 := by
        rw [Lib.decDigits]
        split <;> simp
      rw [hd] at h3
      simp at h3
    | cons c r =>
      have hc := dec_dig T.node.toNat c (by rw [hd]; simp)
      exact ⟨c, r, rfl, fun e => (by rw [e] at hc; cases hc), by omega, by omega, by omega, fun _ => hc, by omega⟩
  · exact ⟨40, _, rfl, by decide, by omega, by omega, by omega, by omega, fun _ => rfl⟩
theorem name_inj {k l : Int} (hk : k = 3 ∨ k = 4 ∨ k = 5 ∨ k = 6 ∨ k = 7 ∨ k = 9) (hl : l = 3 ∨ l = 4 ∨ l = 5 ∨ l = 6 ∨ l = 7 ∨ l = 9) {x y : List UInt8} (h : nameL k ++ x = nameL l ++ y) : k = l ∧ x = y := by
  rcases hk with rfl | rfl | rfl | rfl | rfl | rfl <;> rcases hl with rfl | rfl | rfl | rfl | rfl | rfl <;> first | exact ⟨rfl, List.append_cancel_left h⟩ | (simp [nameL] at h)

mutual
theorem text_inj : ∀ (S T : Bl) (x y : List UInt8), S.All fine → T.All fine → Stop x → Stop y → S.textL ++ x = T.textL ++ y → S = T ∧ x = y
  | .mk k n a ks ls, T, x, y, hS, hT, hx, hy, h => by
    have fS : (Bl.mk k n a ks ls).fine := hS.1
    have fT : T.fine := by rw [Bl.all_eq] at hT; exact hT.1
    obtain ⟨c, r, e1, _, p1, p2, p3, p4, p5⟩ := head_text _ fS
    obtain ⟨d, q, e2, _, q1, q2, q3, q4, q5⟩ := head_text T fT
    have hcd : c = d := by
      rw [e1, e2] at h
      simpa using (List.cons.inj h).1
    have nd : ∀ z : UInt8, dig z = true → z ≠ 45 ∧ z ≠ 42 ∧ z ≠ 103 ∧ z ≠ 40 := fun z hz => ⟨fun e => (by rw [e] at hz; cases hz), fun e => (by rw [e] at hz; cases hz), fun e => (by rw [e] at hz; cases hz), fun e => (by rw [e] at hz; cases hz)⟩
    subst hcd
    have hk : (Bl.mk k n a ks ls).kind = k := rfl
    rw [hk] at p1 p2 p3 p4 p5
    have hl : (Bl.mk k n a ks ls).ls = ls := rfl
    obtain ⟨k', n', a', ks', ls'⟩ := T
    have hk' : (Bl.mk k' n' a' ks' ls').kind = k' := rfl
    rw [hk'] at q1 q2 q3 q4 q5
    have same : k = 1 ∧ k' = 1 ∨ k = 10 ∧ k' = 10 ∨ k = 8 ∧ k' = 8 ∨ k = 2 ∧ k' = 2 ∨ (k ≠ 1 ∧ k ≠ 10 ∧ k ≠ 8 ∧ k ≠ 2) ∧ (k' ≠ 1 ∧ k' ≠ 10 ∧ k' ≠ 8 ∧ k' ≠ 2) := by
      have hn := nd c
      by_cases a1 : k = 1
      · have := p1 a1
        by_cases b1 : k' = 1
        · exact .inl ⟨a1, b1⟩
        · exfalso
          by_cases b2 : k' = 10
          · have h2 := q2 b2; rw [this] at h2; cases h2
          by_cases b3 : k' = 8
          · have h2 := q3 b3; rw [this] at h2; cases h2
          by_cases b4 : k' = 2
          · exact (hn (q4 b4)).1 this
          · have h2 := q5 ⟨b1, b2, b3, b4⟩; rw [this] at h2; cases h2
      by_cases a2 : k = 10
      · have := p2 a2
        by_cases b2 : k' = 10
        · exact .inr (.inl ⟨a2, b2⟩)
        · exfalso
          by_cases b1 : k' = 1
          · have h2 := q1 b1; rw [this] at h2; cases h2
          by_cases b3 : k' = 8
          · have h2 := q3 b3; rw [this] at h2; cases h2
          by_cases b4 : k' = 2
          · exact (hn (q4 b4)).2.1 this
          · have h2 := q5 ⟨b1, b2, b3, b4⟩; rw [this] at h2; cases h2
      by_cases a3 : k = 8
      · have := p3 a3
        by_cases b3 : k' = 8
        · exact .inr (.inr (.inl ⟨a3, b3⟩))
        · exfalso
          by_cases b1 : k' = 1
          · have h2 := q1 b1; rw [this] at h2; cases h2
          by_cases b2 : k' = 10
          · have h2 := q2 b2; rw [this] at h2; cases h2
          by_cases b4 : k' = 2
          · exact (hn (q4 b4)).2.2.1 this
          · have h2 := q5 ⟨b1, b2, b3, b4⟩; rw [this] at h2; cases h2
      by_cases a4 : k = 2
      · have := p4 a4
        by_cases b4 : k' = 2
        · exact .inr (.inr (.inr (.inl ⟨a4, b4⟩)))
        · exfalso
          by_cases b1 : k' = 1
          · exact (hn this).1 (q1 b1)
          by_cases b2 : k' = 10
          · exact (hn this).2.1 (q2 b2)
          by_cases b3 : k' = 8
          · exact (hn this).2.2.1 (q3 b3)
          · exact (hn this).2.2.2 (q5 ⟨b1, b2, b3, b4⟩)
      · have := p5 ⟨a1, a2, a3, a4⟩
        refine .inr (.inr (.inr (.inr ⟨⟨a1, a2, a3, a4⟩, ?_, ?_, ?_, ?_⟩)))
        · intro b1; have h2 := q1 b1; rw [this] at h2; cases h2
        · intro b1; have h2 := q2 b1; rw [this] at h2; cases h2
        · intro b1; have h2 := q3 b1; rw [this] at h2; cases h2
        · intro b1; exact (hn (q4 b1)).2.2.2 this
    clear p1 p2 p3 p4 p5 q1 q2 q3 q4 q5 e1 e2
    simp only [fine, Bl.kind, Bl.node, Bl.arg, Bl.ks, Bl.ls] at fS fT
    rw [Bl.textL, Bl.textL] at h
    rcases same with ⟨rfl, rfl⟩ | ⟨rfl, rfl⟩ | ⟨rfl, rfl⟩ | ⟨rfl, rfl⟩ | ⟨⟨a1, a2, a3, a4⟩, b1, b2, b3, b4⟩
    · simp only [if_true, List.cons_append, List.nil_append, List.cons.injEq, true_and] at h
      obtain ⟨rfl, rfl, rfl, rfl⟩ : n = 0 ∧ a = 0 ∧ ks = [] ∧ ls = [] := by
        rcases fS with h | h | h | h | h | h
        · exact h.2
        all_goals (exfalso; have := h.1; omega)
      obtain ⟨rfl, rfl, rfl, rfl⟩ : n' = 0 ∧ a' = 0 ∧ ks' = [] ∧ ls' = [] := by
        rcases fT with h | h | h | h | h | h
        · exact h.2
        all_goals (exfalso; have := h.1; omega)
      exact ⟨rfl, h⟩
    · rw [if_neg (by omega), if_pos rfl, if_neg (by omega), if_pos rfl] at h
      simp only [List.cons_append, List.nil_append, List.cons.injEq, true_and] at h
      obtain ⟨rfl, rfl, rfl, rfl⟩ : n = 0 ∧ a = 0 ∧ ks = [] ∧ ls = [] := by
        rcases fS with h | h | h | h | h | h
        · exact h.2
        all_goals (exfalso; have := h.1; omega)
      obtain ⟨rfl, rfl, rfl, rfl⟩ : n' = 0 ∧ a' = 0 ∧ ks' = [] ∧ ls' = [] := by
        rcases fT with h | h | h | h | h | h
        · exact h.2
        all_goals (exfalso; have := h.1; omega)
      exact ⟨rfl, h⟩
    · rw [if_neg (by omega), if_neg (by omega), if_pos rfl, if_neg (by omega), if_neg (by omega), if_pos rfl] at h
      simp only [List.cons_append, List.cons.injEq, true_and] at h
      obtain ⟨z0, rfl, rfl, rfl⟩ : 0 ≤ n ∧ a = 0 ∧ ks = [] ∧ ls = [] := by
        rcases fS with h | h | h | h | h | h
        · exfalso; have := h.1; omega
        · exact h.2
        all_goals (exfalso; have := h.1; omega)
      obtain ⟨z1, rfl, rfl, rfl⟩ : 0 ≤ n' ∧ a' = 0 ∧ ks' = [] ∧ ls' = [] := by
        rcases fT with h | h | h | h | h | h
        · exfalso; have := h.1; omega
        · exact h.2
        all_goals (exfalso; have := h.1; omega)
      obtain ⟨rfl, e⟩ := itoa_inj (by omega) (by omega) hx hy h
      exact ⟨rfl, e⟩
    · rw [if_neg (by omega), if_neg (by omega), if_neg (by omega), if_pos rfl, if_neg (by omega), if_neg (by omega), if_neg (by omega), if_pos rfl] at h
      obtain ⟨z0, rfl, rfl, rfl⟩ : 0 ≤ n ∧ a = 0 ∧ ks = [] ∧ ls = [] := by
        rcases fS with h | h | h | h | h | h
        · exfalso; have := h.1; omega
        · exact h.2
        all_goals (exfalso; have := h.1; omega)
      obtain ⟨z1, rfl, rfl, rfl⟩ : 0 ≤ n' ∧ a' = 0 ∧ ks' = [] ∧ ls' = [] := by
        rcases fT with h | h | h | h | h | h
        · exfalso; have := h.1; omega
        · exact h.2
        all_goals (exfalso; have := h.1; omega)
      obtain ⟨rfl, e⟩ := itoa_inj (by omega) (by omega) hx hy h
      exact ⟨rfl, e⟩
    · rw [if_neg a1, if_neg a2, if_neg a3, if_neg a4, if_neg b1, if_neg b2, if_neg b3, if_neg b4] at h
      simp only [List.cons_append, List.cons.injEq, true_and, List.append_assoc] at h
      have kS : k = 3 ∨ k = 4 ∨ k = 5 ∨ k = 6 ∨ k = 7 ∨ k = 9 := by omega
      have kT : k' = 3 ∨ k' = 4 ∨ k' = 5 ∨ k' = 6 ∨ k' = 7 ∨ k' = 9 := by omega
      obtain ⟨hkk, hA⟩ := name_inj kS kT h
      subst hkk
      clear h
      have h := hA
      clear hA
      have SS : ∀ (l : List Bl) (u : List UInt8) (v : List UInt8), Close u → Stop (textsL l ++ (u ++ v)) := fun l u v hu => by
        cases l with
        | nil => rcases hu with ⟨r, rfl⟩ | ⟨r, rfl⟩ <;> exact stop_cons (by decide)
        | cons z r => exact stop_cons (by decide)
      have S41 : ∀ v : List UInt8, Close (41 :: v) := fun v => .inl ⟨v, rfl⟩
      have hnode : n = n' ∧ a = a' ∧ textsL ks ++ ((if k = 9 then linksL ls else []) ++ 41 :: x) = textsL ks' ++ ((if k = 9 then linksL ls' else []) ++ 41 :: y) := by
        by_cases k456 : k = 4 ∨ k = 5 ∨ k = 6
        · rw [nodeL, if_pos k456, nodeL, if_pos k456] at h
          simp only [List.cons_append, List.cons.injEq, true_and, List.nil_append] at h
          have z0 : 0 ≤ n ∧ a = 0 := by omega
          have z1 : 0 ≤ n' ∧ a' = 0 := by omega
          rw [if_neg (by omega), if_neg (by omega)] at h ⊢
          obtain ⟨e1, h⟩ := itoa_inj (by omega) (by omega) (SS ks [41] x (S41 _)) (SS ks' [41] y (S41 _)) h
          exact ⟨e1, by omega, h⟩
        by_cases k7 : k = 7
        · rw [nodeL, if_neg k456, if_pos k7, nodeL, if_neg k456, if_pos k7] at h
          simp only [List.cons_append, List.cons.injEq, true_and, List.append_assoc, List.nil_append] at h
          have z0 : 0 ≤ n ∧ 0 ≤ a := by omega
          have z1 : 0 ≤ n' ∧ 0 ≤ a' := by omega
          rw [if_neg (by omega), if_neg (by omega)] at h ⊢
          obtain ⟨e1, h⟩ := itoa_inj (by omega) (by omega) (stop_cons (by decide)) (stop_cons (by decide)) h
          simp only [List.cons.injEq, true_and] at h
          obtain ⟨e2, h⟩ := itoa_inj (by omega) (by omega) (SS ks [41] x (S41 _)) (SS ks' [41] y (S41 _)) h
          exact ⟨e1, e2, h⟩
        · rw [nodeL, if_neg k456, if_neg k7, nodeL, if_neg k456, if_neg k7] at h
          simp only [List.nil_append] at h
          have z0 : n = 0 ∧ a = 0 := by omega
          have z1 : n' = 0 ∧ a' = 0 := by omega
          exact ⟨by omega, by omega, h⟩
      clear h
      obtain ⟨hn1, hn2, h⟩ := hnode
      subst hn1 hn2
      have hC : ∀ (l : List (Int × Int × Int)) (z : List UInt8), Close ((if k = 9 then linksL l else []) ++ 41 :: z) := fun l z => by
        split
        · cases l with
          | nil => exact S41 z
          | cons w r => exact .inr ⟨_, by simp [linksL, linkL]; rfl⟩
        · exact S41 z
      obtain ⟨hks, hA⟩ := texts_inj ks ks' _ _ hS.2 (by rw [Bl.all_eq] at hT; exact hT.2) (hC ls x) (hC ls' y) h
      subst hks
      clear h
      have h := hA
      clear hA
      by_cases k9 : k = 9
      · rw [if_pos k9, if_pos k9] at h
        have l0 : ∀ z ∈ ls, -1 ≤ z.1 ∧ -1 ≤ z.2.1 ∧ -1 ≤ z.2.2 := by
          rcases fS with h | h | h | h | h | h
          all_goals first | (exfalso; have := h.1; omega) | exact h.2.2.2
        have l1 : ∀ z ∈ ls', -1 ≤ z.1 ∧ -1 ≤ z.2.1 ∧ -1 ≤ z.2.2 := by
          rcases fT with h | h | h | h | h | h
          all_goals first | (exfalso; have := h.1; omega) | exact h.2.2.2
        obtain ⟨rfl, e⟩ := links_inj l0 l1 h
        exact ⟨rfl, e⟩
      · rw [if_neg k9, if_neg k9] at h
        simp only [List.nil_append, List.cons.injEq, true_and] at h
        have l0 : ls = [] := by
          rcases fS with h | h | h | h | h | h
          all_goals first | (exfalso; have := h.1; omega) | exact h.2.2.2.2 | exact h.2.2.2
        have l1 : ls' = [] := by
          rcases fT with h | h | h | h | h | h
          all_goals first | (exfalso; have := h.1; omega) | exact h.2.2.2.2 | exact h.2.2.2
        rw [l0, l1]
        exact ⟨rfl, h⟩
theorem texts_inj : ∀ (l m : List Bl) (x y : List UInt8), Alls fine l → Alls fine m → Close x → Close y → textsL l ++ x = textsL m ++ y → l = m ∧ x = y
  | [], [], x, y, _, _, _, _, h => ⟨rfl, h⟩
  | [], b :: m, x, y, _, hm, hx, _, h => by
    exfalso
    obtain ⟨c, r, e, hc, _⟩ := head_text b (by have := hm.1; rw [Bl.all_eq] at this; exact this.1)
    rw [textsL, textsL, e] at h
    rcases hx with ⟨s, rfl⟩ | ⟨s, rfl⟩
    · simp at h
    · simp at h
      exact hc h.1.symm
  | a :: l, [], x, y, hl, _, _, hy, h => by
    exfalso
    obtain ⟨c, r, e, hc, _⟩ := head_text a (by have := hl.1; rw [Bl.all_eq] at this; exact this.1)
    rw [textsL, textsL, e] at h
    rcases hy with ⟨s, rfl⟩ | ⟨s, rfl⟩
    · simp at h
    · simp at h
      exact hc h.1
  | a :: l, b :: m, x, y, hl, hm, hx, hy, h => by
    rw [textsL, textsL] at h
    simp only [List.cons_append, List.cons.injEq, true_and, List.append_assoc] at h
    have st : ∀ (l : List Bl) (u : List UInt8), Close u → Stop (textsL l ++ u) := fun l u hu => by
      cases l with
      | nil => exact close_stop hu
      | cons z r => exact stop_cons (by decide)
    obtain ⟨hab, h2⟩ := text_inj a b _ _ hl.1 hm.1 (st l x hx) (st m y hy) h
    obtain ⟨hlm, h3⟩ := texts_inj l m x y hl.2 hm.2 hx hy h2
    exact ⟨by rw [hab, hlm], h3⟩
end
end Bl

end Go.Proofs

namespace Go.Proofs.YtemccpfgkbhahaaGreatDoor.BlockApart
open Go.RowKit

/-- A block as a value. -/
abbrev agg (k n r : Int) (a : Option Addr) (m c : Nat) (la : Option Addr) (ml lc : Nat) : Value := .agg #[.int .i64 k, .int .i64 n, .int .i64 r, .slice a m c, .slice la ml lc]
theorem few {T : Bl} (h : T.allP (fun _ _ _ ls => decide (ls.length ≤ 100)) = true) : T.allP (fun _ _ _ ls => decide (ls.length ≤ 2147483647)) = true ∧ T.room ≤ 6900 * T.size := by
  have key : (∀ T : Bl, T.allP (fun _ _ _ ls => decide (ls.length ≤ 100)) = true → T.allP (fun _ _ _ ls => decide (ls.length ≤ 2147483647)) = true ∧ T.room ≤ 6900 * T.size) := by
    intro T
    exact Bl.rec (motive_1 := fun T => T.allP (fun _ _ _ ls => decide (ls.length ≤ 100)) = true → T.allP (fun _ _ _ ls => decide (ls.length ≤ 2147483647)) = true ∧ T.room ≤ 6900 * T.size)
      (motive_2 := fun l => Bl.allPs (fun _ _ _ ls => decide (ls.length ≤ 100)) l = true → Bl.allPs (fun _ _ _ ls => decide (ls.length ≤ 2147483647)) l = true ∧ Bl.rooms l ≤ 6900 * Bl.sizes l)
      (fun k n a ks ls ih h => by
        rw [Bl.allP, Bool.and_eq_true, decide_eq_true_eq] at h
        have h2 := ih h.2
        rw [Bl.allP, Bool.and_eq_true, decide_eq_true_eq, Bl.room, Bl.size]
        exact ⟨⟨by omega, h2.1⟩, by omega⟩)
      (fun h => by rw [Bl.allPs, Bl.rooms]; exact ⟨rfl, Nat.zero_le _⟩)
      (fun x r ih1 ih2 h => by
        rw [Bl.allPs, Bool.and_eq_true] at h
        have h1 := ih1 h.1
        have h2 := ih2 h.2
        rw [Bl.allPs, Bool.and_eq_true, Bl.rooms, Bl.sizes]
        exact ⟨⟨h1.1, h2.1⟩, by omega⟩) T
  exact key T h

/-- A block that is formed is fine, and can be written. -/
theorem fine_of {ns : List Nd} {fs : List Fl} {T : Bl} (h : T.formedB ns fs = true) : T.fine ∧ Bl.writB T.kind T.node T.arg T.ls = true := by
  have hp := Bl.formed_parts h
  have h0 := h
  unfold Bl.formedB at h
  split at h
  · cases h
  rename_i hc
  have hA : T.arg ≠ 0 → T.kind = 7 := fun e => by
    by_cases h7 : T.kind = 7
    · exact h7
    · exact (hc (.inl ⟨e, h7⟩)).elim
  have hL : T.kind ≠ 9 → T.ls = [] := fun e => by
    by_cases hl : T.ls = []
    · exact hl
    · exact (hc (.inr (.inl ⟨List.length_pos_iff.2 hl, e⟩))).elim
  clear hc
  have lk : T.kind = 9 → ∀ x ∈ T.ls, -1 ≤ x.1 ∧ -1 ≤ x.2.1 ∧ -1 ≤ x.2.2 := fun e => by
    rw [if_neg (by omega), if_neg (by omega), if_pos e, Bool.and_eq_true, Bl.linkedB, Bool.and_eq_true, Bool.and_eq_true, Bool.and_eq_true] at h
    intro x hx
    have := List.all_eq_true.1 h.2.1.1.2 x hx
    simp only [Bl.linkB, Bl.endB, Bool.and_eq_true, decide_eq_true_eq] at this
    omega
  have r7 : T.kind = 7 → 0 ≤ T.arg := fun e => by
    rw [if_neg (by omega), if_neg (by omega), if_neg (by omega), if_neg (by omega), if_neg (by omega), if_neg (by omega), if_neg (by omega), if_neg (by omega), if_pos e, Bool.and_eq_true, decide_eq_true_eq] at h
    omega
  have noks : T.kind = 1 ∨ T.kind = 10 ∨ T.kind = 2 ∨ T.kind = 8 → T.ks = [] := fun e => by
    rw [← List.length_eq_zero_iff]
    by_cases e1 : T.kind = 1 ∨ T.kind = 10
    · rw [if_pos e1, decide_eq_true_eq] at h; exact h.2
    by_cases e2 : T.kind = 2
    · rw [if_neg e1, if_neg (by omega), if_neg (by omega), if_pos e2, Bool.and_eq_true, decide_eq_true_eq] at h; exact h.2
    · rw [if_neg e1, if_neg (by omega), if_neg (by omega), if_neg e2, if_pos (by omega), Bool.and_eq_true, decide_eq_true_eq] at h; exact h.2
  have ha0 : T.kind ≠ 7 → T.arg = 0 := fun e => by
    by_cases h : T.arg = 0
    · exact h
    · exact (e (hA h)).elim
  refine ⟨?_, ?_⟩
  · unfold Bl.fine
    rcases hp with ⟨hk, hn⟩ | ⟨hk, hn, _⟩
    · rcases hk with hk | hk | hk | hk
      · exact .inl ⟨.inl hk, hn, ha0 (by omega), noks (by omega), hL (by omega)⟩
      · exact .inr (.inr (.inl ⟨hk, hn, ha0 (by omega), hL (by omega)⟩))
      · exact .inr (.inr (.inr (.inr (.inr ⟨hk, hn, ha0 (by omega), lk hk⟩))))
      · exact .inl ⟨.inr hk, hn, ha0 (by omega), noks (by omega), hL (by omega)⟩
    · rcases hk with hk | hk | hk | hk | hk | hk
      · exact .inr (.inl ⟨.inl hk, hn, ha0 (by omega), noks (by omega), hL (by omega)⟩)
      · exact .inr (.inr (.inr (.inl ⟨.inl hk, hn, ha0 (by omega), hL (by omega)⟩)))
      · exact .inr (.inr (.inr (.inl ⟨.inr (.inl hk), hn, ha0 (by omega), hL (by omega)⟩)))
      · exact .inr (.inr (.inr (.inl ⟨.inr (.inr hk), hn, ha0 (by omega), hL (by omega)⟩)))
      · exact .inr (.inr (.inr (.inr (.inl ⟨hk, hn, r7 hk, hL (by omega)⟩))))
      · exact .inr (.inl ⟨.inr hk, hn, ha0 (by omega), noks (by omega), hL (by omega)⟩)
  · rw [Bl.writB, Bool.and_eq_true, decide_eq_true_eq]
    have harg : 0 ≤ T.arg := by
      by_cases h7 : T.kind = 7
      · exact r7 h7
      · have := ha0 h7; omega
    refine ⟨by omega, ?_⟩
    by_cases h9 : T.kind = 9
    · rw [Bool.not_eq_true', List.any_eq_false]
      intro x hx
      have := lk h9 x hx
      simp only [Bl.lowL, decide_eq_true_eq]
      omega
    · rw [hL h9]; rfl
theorem all_writ : ∀ T : Bl, T.All (fun x => Bl.writB x.kind x.node x.arg x.ls = true) → T.allP Bl.writB = true := fun T =>
  Bl.rec (motive_1 := fun T => T.All (fun x => Bl.writB x.kind x.node x.arg x.ls = true) → T.allP Bl.writB = true) (motive_2 := fun l => Bl.Alls (fun x => Bl.writB x.kind x.node x.arg x.ls = true) l → Bl.allPs Bl.writB l = true)
    (fun k n a ks ls ih h => by rw [Bl.allP, Bool.and_eq_true]; exact ⟨h.1, ih h.2⟩) (fun _ => by rw [Bl.allPs]) (fun x r i1 i2 h => by rw [Bl.allPs, Bool.and_eq_true]; exact ⟨i1 h.1, i2 h.2⟩) T
/-- What a block is whose error is none, or that a node stands in it twice. -/
theorem right_of {ns : List Nd} {fs : List Fl} {T : Bl} (h : (T.standR ns fs).2 = 0 ∨ (T.standR ns fs).2 = 8) : T.textR = (T.textL, 0) ∧ T.All Bl.fine := by
  unfold Bl.standR at h
  split at h
  · simp at h
  split at h
  · simp at h
  rename_i ht
  split at h
  · simp at h
  rename_i hg
  have hf : T.All fun x => x.formedB ns fs = true := by
    rcases Bl.go_all (fun x => x.formedB ns fs) () T with h | h
    · exact h.2
    · exact (hg (by unfold Bl.step1; rw [h])).elim
  refine ⟨?_, Bl.all_mono (fun x hx => (fine_of hx).1) T hf⟩
  rw [Bl.textR, if_neg ht, if_pos (all_writ T (Bl.all_mono (fun x hx => (fine_of hx).2) T hf))]
/-- Two blocks that are so have the same text just if they are the same. -/
theorem apart {ns : List Nd} {fs : List Fl} {S T : Bl} (hS : (S.standR ns fs).2 = 0 ∨ (S.standR ns fs).2 = 8) (hT : (T.standR ns fs).2 = 0 ∨ (T.standR ns fs).2 = 8) : S.textR.1 = T.textR.1 ↔ S = T := by
  have h1 := right_of hS
  have h2 := right_of hT
  rw [h1.1, h2.1]
  constructor
  · intro h
    have h : S.textL = T.textL := h
    exact (Bl.text_inj S T [] [] h1.2 h2.2 Bl.stop_nil Bl.stop_nil (by rw [List.append_nil, List.append_nil]; exact h)).1
  · intro h; rw [h]

end Go.Proofs.YtemccpfgkbhahaaGreatDoor.BlockApart
