import Derived.Test.YtdghjgiakblfmaaGreatDoorRRkModel
namespace Go.Proofs
namespace Dd
structure Inv (ls kk : List (Int × Int)) (s : List Int) : Prop where
 len : s.length = 104
 lv : ∀ i, i < 40 → 0 ≤ s.getD i 0 ∧ s.getD i 0 ≤ if i < ls.length then 2 else 0
 kv : ∀ k, k < 64 → 0 ≤ s.getD (40 + k) 0 ∧ s.getD (40 + k) 0 ≤ if k < kk.length then 3 else 0
 lo : ∀ i f, (ls[i]?).map Prod.fst = some ((f : Nat) : Int) → (s.getD i 0 = 0 ↔ s.getD (40 + f) 0 < 2)
 out : ∀ i, (ls[i]?).map Prod.fst = some (-1) → s.getD i 0 = 1
 gt : ∀ k, s.getD (40 + k) 0 = 1 → ¬ Auto kk k
 skip : ∀ i f, (ls[i]?).map Prod.fst = some ((f : Nat) : Int) → s.getD (40 + f) 0 = 3 → s.getD i 0 = 2
 done : ∀ i f, (ls[i]?).map Prod.fst = some ((f : Nat) : Int) → s.getD (40 + f) 0 = 2 → (gateB kk f = true → doesI kk f ≠ 3) → s.getD i 0 = 1
 fate : ∀ k, k < kk.length → s.getD (40 + k) 0 ≠ 0 → ∃ p, scan ls s k ls.length = some p ∧ (Dies kk k p → s.getD (40 + k) 0 = 3) ∧ (¬ Dies kk k p → Auto kk k → s.getD (40 + k) 0 = 2) ∧ (¬ Dies kk k p → ¬ Auto kk k → s.getD (40 + k) 0 = 1 ∨ s.getD (40 + k) 0 = 2)
structure Web (ls kk : List (Int × Int)) : Prop where
 l40 : ls.length ≤ 40
 k64 : kk.length ≤ 64
 fr : ∀ (i : Nat) (x : Int), (ls[i]?).map Prod.fst = some x → x = -1 ∨ ∃ f : Nat, x = f ∧ f < kk.length
theorem Inv.upd {ls kk : List (Int × Int)} (hw : Web ls kk) {s t : List Int} (h : Inv ls kk s) {kid : Nat} {v : Int} {g : Nat → Int} (hk : kid < kk.length) (h2 : s.getD (40 + kid) 0 < 2)
  (hl : t.length = 104) (hkt : ∀ k, t.getD (40 + k) 0 = if k = kid then v else s.getD (40 + k) 0)
  (hlt : ∀ i, i < 40 → t.getD i 0 = if (ls[i]?).map Prod.fst = some (kid : Int) then g i else s.getD i 0)
  (hv : v = 1 ∨ v = 2 ∨ v = 3) (hv1 : v = 1 → (∀ i, g i = 0) ∧ ¬ Auto kk kid) (hv2 : v ≠ 1 → ∀ i, i < ls.length → g i = 1 ∨ g i = 2) (hv3 : v = 3 → ∀ i, g i = 2) (hvd : v = 2 → (gateB kk kid = true → doesI kk kid ≠ 3) → ∀ i, g i = 1)
  {p : Bool × Bool} (hp : scan ls s kid ls.length = some p) (hf : (Dies kk kid p → v = 3) ∧ (¬ Dies kk kid p → Auto kk kid → v = 2) ∧ (¬ Dies kk kid p → ¬ Auto kk kid → v = 1 ∨ v = 2)) : Inv ls kk t := by
 have hi40 : ∀ i x, (ls[i]?).map Prod.fst = some x → i < ls.length := fun i x e => by
  by_cases q : i < ls.length
  ·exact q
  ·rw [List.getElem?_eq_none (by omega)] at e; simp at e
 have l40 := hw.l40
 have k64 := hw.k64
 -- a link from the kid is open
 have hopen : ∀ i, (ls[i]?).map Prod.fst = some (kid : Int) → s.getD i 0 = 0 := fun i e => (h.lo i kid e).2 h2
 have scan_keep : ∀ k p', scan ls s (k : Int) ls.length = some p' → scan ls t (k : Int) ls.length = some p' := fun k p' e => by
  rw [← e]
  refine (scan_congr fun i hi e2 => ?_).symm
  have := scan_iff ls s k ls.length
  rw [e] at this
  have hne := this.1 i hi e2
  rw [hlt i (by omega), if_neg]
  intro e3
  exact hne (hopen i e3)
 constructor
 ·exact hl
 ·intro i hi
  have h1 := h.lv i hi
  rw [hlt i hi]
  by_cases e : (ls[i]?).map Prod.fst = some (kid : Int)
  ·have hil := hi40 i _ e
   rw [if_pos e, if_pos hil]
   by_cases e1 : v = 1
   ·rw [(hv1 e1).1 i]; omega
   ·rcases hv2 e1 i hil with q | q <;> omega
  ·rw [if_neg e]; exact h1
 ·intro k hk2
  rw [hkt k]
  by_cases e : k = kid
  ·rw [if_pos e, if_pos (by omega)]; omega
  ·rw [if_neg e]; exact h.kv k hk2
 ·intro i f e
  have hil := hi40 i _ e
  rw [hlt i (by omega), hkt f]
  by_cases q : f = kid
  ·subst q
   rw [if_pos e, if_pos rfl]
   by_cases e1 : v = 1
   ·rw [(hv1 e1).1 i]; omega
   ·rcases hv2 e1 i hil with q | q <;> omega
  ·rw [if_neg (fun e3 => q (by rw [e] at e3; injection e3 with e3; omega)), if_neg q]
   exact h.lo i f e
 ·intro i e
  have hil := hi40 i _ e
  rw [hlt i (by omega), if_neg (fun e3 => by rw [e] at e3; injection e3 with e3; omega)]
  exact h.out i e
 ·intro k e
  rw [hkt k] at e
  by_cases q : k = kid
  ·subst q; rw [if_pos rfl] at e; exact (hv1 e).2
  ·rw [if_neg q] at e; exact h.gt k e
 ·intro i f e e3
  have hil := hi40 i _ e
  rw [hkt f] at e3
  rw [hlt i (by omega)]
  by_cases q : f = kid
  ·subst q
   rw [if_pos rfl] at e3
   rw [if_pos e]; exact hv3 e3 i
  ·rw [if_neg q] at e3
   rw [if_neg (fun e3 => q (by rw [e] at e3; injection e3 with e3; omega))]
   exact h.skip i f e e3
 ·intro i f e e3 hd
  have hil := hi40 i _ e
  rw [hkt f] at e3
  rw [hlt i (by omega)]
  by_cases q : f = kid
  ·subst q
   rw [if_pos rfl] at e3
   rw [if_pos e]; exact hvd e3 hd i
  ·rw [if_neg q] at e3
   rw [if_neg (fun e3 => q (by rw [e] at e3; injection e3 with e3; omega))]
   exact h.done i f e e3 hd
 ·intro k hk2 hne
  rw [hkt k] at hne ⊢
  by_cases q : k = kid
  ·subst q
   rw [if_pos rfl]
   exact ⟨p, scan_keep _ _ hp, hf⟩
  ·rw [if_neg q] at hne ⊢
   obtain ⟨p', h3, h4⟩ := h.fate k hk2 hne
   exact ⟨p', scan_keep _ _ h3, h4⟩
structure Kept (ls kk : List (Int × Int)) (s t : List Int) : Prop where
 l : ∀ i, i < 40 → s.getD i 0 ≠ 0 → t.getD i 0 = s.getD i 0
 k : ∀ k, k < 64 → s.getD (40 + k) 0 ≠ 0 → t.getD (40 + k) 0 = s.getD (40 + k) 0
 d : ∀ k, k < 64 → ¬ Auto kk k → t.getD (40 + k) 0 = 2 → s.getD (40 + k) 0 = 2
theorem Kept.refl (ls kk : List (Int × Int)) (s : List Int) : Kept ls kk s s := ⟨fun _ _ _ => rfl, fun _ _ _ => rfl, fun _ _ _ h => h⟩
theorem Kept.trans {ls kk : List (Int × Int)} {s t u : List Int} (h : Kept ls kk s t) (k : Kept ls kk t u) : Kept ls kk s u :=
 ⟨fun i hi e => (k.l i hi (by rw [h.l i hi e]; exact e)).trans (h.l i hi e), fun i hi e => (k.k i hi (by rw [h.k i hi e]; exact e)).trans (h.k i hi e), fun i hi ha e => h.d i hi ha (k.d i hi ha e)⟩
theorem Inv.decided {ls kk : List (Int × Int)} (hw : Web ls kk) {s : List Int} (h : Inv ls kk s) {kid : Nat} (hk : kid < kk.length) (h0 : s.getD (40 + kid) 0 = 0) {p : Bool × Bool} (hp : scan ls s kid ls.length = some p) : Inv ls kk (decided ls kk s kid) ∧ Kept ls kk s (decided ls kk s kid) := by
 have l40 := hw.l40
 have k64 := hw.k64
 have hlen := h.len
 have hno : ∀ k, ¬ (ls[40 + k]?).map Prod.fst = some (kid : Int) := fun k h => by
  rw [List.getElem?_eq_none (by omega)] at h
  simp at h
 have hopen : ∀ i, (ls[i]?).map Prod.fst = some (kid : Int) → s.getD i 0 = 0 := fun i e => (h.lo i kid e).2 (by omega)
 have he : Dd.decided ls kk s kid = if Dies kk kid p then ended ls s kid 3 else if Auto kk kid then ended ls s kid 2 else s.set (40 + kid) 1 := by
  unfold Dd.decided
  rw [if_pos h0, hp]
 have key : ∀ (t : List Int) (v : Int) (g : Nat → Int), (∀ k, t.getD (40 + k) 0 = if k = kid then v else s.getD (40 + k) 0) → (∀ i, i < 40 → t.getD i 0 = if (ls[i]?).map Prod.fst = some (kid : Int) then g i else s.getD i 0) → (v = 2 → Auto kk kid) → Kept ls kk s t := by
  intro t v g h1 h2 h3
  refine ⟨fun i hi e => ?_, fun k hk2 e => ?_, fun k hk2 ha e => ?_⟩
  ·rw [h2 i hi, if_neg (fun e3 => e (hopen i e3))]
  ·rw [h1 k, if_neg (by rintro rfl; exact e h0)]
  ·rw [h1 k] at e
   by_cases q : k = kid
   ·subst q; rw [if_pos rfl] at e; exact absurd (h3 e) ha
   ·rw [if_neg q] at e; exact e
 have hend : ∀ (how : Int) (k : Nat), (ended ls s kid how).getD (40 + k) 0 = if k = kid then how else s.getD (40 + k) 0 := fun how k => by
  rw [ended_get _ _ _ _ (by omega) (by omega), if_neg (hno k)]
  by_cases q : k = kid
  ·rw [if_pos (by omega), if_pos q]
  ·rw [if_neg (by omega), if_neg q]
 have hlnk : ∀ (how : Int) (i : Nat), i < 40 → (ended ls s kid how).getD i 0 = if (ls[i]?).map Prod.fst = some (kid : Int) then (fun _ => if how = 2 then (1 : Int) else 2) i else s.getD i 0 := fun how i hi => by
  rw [ended_get _ _ _ _ (by omega) (by omega), if_neg (show ¬ 40 + kid = i by omega)]
 rw [he]
 by_cases d : Dies kk kid p
 ·rw [if_pos d]
  refine ⟨h.upd hw hk (by omega) (by rw [ended_length, hlen]) (hend 3) (hlnk 3) (by omega) (by omega) (fun _ i _ => by simp) (fun _ i => by simp) (by omega) hp ⟨fun _ => rfl, fun hd => absurd d hd, fun hd => absurd d hd⟩, key _ 3 _ (hend 3) (hlnk 3) (by omega)⟩
 ·rw [if_neg d]
  by_cases a : Auto kk kid
  ·rw [if_pos a]
   refine ⟨h.upd hw hk (by omega) (by rw [ended_length, hlen]) (hend 2) (hlnk 2) (by omega) (by omega) (fun _ i _ => by simp) (by omega) (fun _ _ i => by simp) hp ⟨fun hd => absurd hd d, fun _ _ => rfl, fun _ hd => absurd a hd⟩, key _ 2 _ (hend 2) (hlnk 2) (fun _ => a)⟩
  ·rw [if_neg a]
   have h1 : ∀ k, (s.set (40 + kid) 1).getD (40 + k) 0 = if k = kid then 1 else s.getD (40 + k) 0 := fun k => by
      rw [getD_set _ _ _ _ (by omega)]
      by_cases q : k = kid
      ·rw [if_pos (by omega), if_pos q]
      ·rw [if_neg (by omega), if_neg q]
   have h2 : ∀ i, i < 40 → (s.set (40 + kid) 1).getD i 0 = if (ls[i]?).map Prod.fst = some (kid : Int) then (fun _ => (0 : Int)) i else s.getD i 0 := fun i hi => by
      rw [getD_set _ _ _ _ (by omega), if_neg (by omega)]
      by_cases q : (ls[i]?).map Prod.fst = some (kid : Int)
      ·rw [if_pos q, hopen i q]
      ·rw [if_neg q]
   exact ⟨h.upd hw hk (by omega) (by rw [List.length_set, hlen]) h1 h2 (by omega) (fun _ => ⟨fun _ => rfl, a⟩) (by omega) (by omega) (by omega) hp ⟨fun hd => absurd hd d, fun _ hd => absurd hd a, fun _ _ => .inl rfl⟩, key _ 1 _ h1 h2 (by omega)⟩
def Calm (ls kk : List (Int × Int)) (s : List Int) : Prop := ∀ k, k < kk.length → s.getD (40 + k) 0 ≠ 0 ∨ scan ls s k ls.length = none
theorem next_none {ls kk : List (Int × Int)} (hw : Web ls kk) {s : List Int} (hl : s.length = 104) : ∀ {n : Nat}, n ≤ kk.length → (nextK ls kk s n = none ↔ ∀ k, k < n → s.getD (40 + k) 0 ≠ 0 ∨ scan ls s k ls.length = none)
 | 0, _ => ⟨fun _ k hk => by omega, fun _ => rfl⟩
 | n + 1, hn => by
   have ih := next_none hw hl (n := n) (by omega)
   have hd := decided_same (kk := kk) hw.l40 hl (show n < 64 by have := hw.k64; omega)
   rw [nextK]
   cases hq : nextK ls kk s n with
   | some t =>
     rw [hq] at ih
     refine ⟨fun h => by simp at h, fun h => ?_⟩
     have := ih.2 fun k hk => h k (by omega)
     simp at this
   | none =>
     dsimp only
     rw [hq] at ih
     have ih := ih.1 rfl
     by_cases e : Dd.decided ls kk s n = s
     ·rw [if_pos e]
      refine ⟨fun _ k hk => ?_, fun _ => rfl⟩
      by_cases q : k = n
      ·subst q; exact hd.1 e
      ·exact ih k (by omega)
     ·rw [if_neg e]
      refine ⟨fun h => by simp at h, fun h => absurd (hd.2 (h n (by omega))) e⟩
theorem next_some {ls kk : List (Int × Int)} (hw : Web ls kk) {s t : List Int} (hl : s.length = 104) : ∀ {n : Nat}, n ≤ kk.length → nextK ls kk s n = some t → ∃ k p, k < n ∧ s.getD (40 + k) 0 = 0 ∧ scan ls s k ls.length = some p ∧ t = Dd.decided ls kk s k
 | 0, _, h => by simp [nextK] at h
 | n + 1, hn, h => by
   rw [nextK] at h
   cases hq : nextK ls kk s n with
   | some t' =>
     rw [hq] at h
     obtain rfl : t' = t := by simpa using h
     obtain ⟨k, p, h1, h2⟩ := next_some hw hl (by omega) hq
     exact ⟨k, p, by omega, h2⟩
   | none =>
     rw [hq] at h
     dsimp only at h
     have hd := decided_same (kk := kk) hw.l40 hl (show n < 64 by have := hw.k64; omega)
     by_cases e : Dd.decided ls kk s n = s
     ·rw [if_pos e] at h; simp at h
     ·rw [if_neg e] at h
      have e' := fun x => e (hd.2 x)
      cases hp : scan ls s n ls.length with
      | none => exact absurd (.inr hp) e'
      | some p =>
        refine ⟨n, p, by omega, ?_, hp, by simpa using h.symm⟩
        by_cases q : s.getD (40 + n) 0 = 0
        ·exact q
        ·exact absurd (.inl q) e'
theorem waits_lt {n : Nat} {s t : List Int} {k : Nat} (hk : k < n) (h0 : s.getD (40 + k) 0 = 0) (h1 : t.getD (40 + k) 0 ≠ 0) (hall : ∀ j, j < n → s.getD (40 + j) 0 ≠ 0 → t.getD (40 + j) 0 ≠ 0) : waits n t < waits n s := by
 unfold waits
 induction n with
 | zero => omega
 | succ n ih =>
   rw [List.range_succ, List.countP_append, List.countP_append, List.countP_singleton, List.countP_singleton]
   by_cases q : k = n
   ·subst q
    have hle : List.countP (fun j => decide (t.getD (40 + j) 0 = 0)) (List.range k) ≤ List.countP (fun j => decide (s.getD (40 + j) 0 = 0)) (List.range k) := by
     apply List.countP_mono_left
     intro j hj e
     rw [decide_eq_true_iff] at e ⊢
     have hj := List.mem_range.1 hj
     by_cases e2 : s.getD (40 + j) 0 = 0
     ·exact e2
     ·exact absurd e (hall j (by omega) e2)
    rw [decide_eq_true h0, decide_eq_false h1, if_pos rfl, if_neg (by decide)]
    omega
   ·have := ih (by omega) fun j hj => hall j (by omega)
    have hb : (if decide (t.getD (40 + n) 0 = 0) = true then 1 else 0) ≤ if decide (s.getD (40 + n) 0 = 0) = true then 1 else 0 := by
     by_cases e : s.getD (40 + n) 0 = 0
     ·rw [decide_eq_true e]; simp; split <;> omega
     ·rw [decide_eq_false (hall n (by omega) e)]; simp
    omega
theorem waits_le (n : Nat) (s : List Int) : waits n s ≤ n := by
 unfold waits
 have := List.countP_le_length (p := fun k => decide (s.getD (40 + k) 0 = 0)) (l := List.range n)
 simpa using this
theorem next_waits {ls kk : List (Int × Int)} (hw : Web ls kk) {s t : List Int} (hl : s.length = 104) (h : nextK ls kk s kk.length = some t) : t.length = 104 ∧ waits kk.length t < waits kk.length s := by
 obtain ⟨k, p, hk, h0, hp, rfl⟩ := next_some hw hl (Nat.le_refl _) h
 have l40 := hw.l40
 have k64 := hw.k64
 refine ⟨by rw [decided_length, hl], waits_lt hk h0 ?_ fun j hj e => ?_⟩
 ·rw [decided_kid l40 hl (by omega) h0 hp]
  split
  ·decide
  ·split <;> decide
 ·by_cases q : j = k
  ·subst q; exact absurd h0 e
  ·have hno : ¬ (ls[40 + j]?).map Prod.fst = some (k : Int) := fun h => by
    rw [List.getElem?_eq_none (by omega)] at h
    simp at h
   unfold Dd.decided
   rw [if_pos h0, hp]
   dsimp only
   split
   ·rw [ended_get _ _ _ _ (by omega) (by omega), if_neg hno, if_neg (by omega)]; exact e
   ·split
    ·rw [ended_get _ _ _ _ (by omega) (by omega), if_neg hno, if_neg (by omega)]; exact e
    ·rw [getD_set _ _ _ _ (by omega), if_neg (by omega)]; exact e
theorem settleF_inv {ls kk : List (Int × Int)} (hw : Web ls kk) : ∀ (f : Nat) (s : List Int), Inv ls kk s → waits kk.length s ≤ f → Inv ls kk (settleF ls kk f s) ∧ Kept ls kk s (settleF ls kk f s) ∧ Calm ls kk (settleF ls kk f s)
 | 0, s, h, hf => by
   refine ⟨h, Kept.refl .., fun k hk => .inl fun e => ?_⟩
   have h1 : 0 < waits kk.length s := by
     unfold waits
     exact List.countP_pos_iff.2 ⟨k, List.mem_range.2 hk, decide_eq_true e⟩
   omega
 | f + 1, s, h, hf => by
   rw [settleF]
   cases hq : nextK ls kk s kk.length with
   | none => exact ⟨h, Kept.refl .., (next_none hw h.len (Nat.le_refl _)).1 hq⟩
   | some t =>
     dsimp only
     have h1 := (next_waits hw h.len hq).2
     obtain ⟨k, p, hk, h0, hp, rfl⟩ := next_some hw h.len (Nat.le_refl _) hq
     obtain ⟨h2, h3⟩ := h.decided hw hk h0 hp
     obtain ⟨h4, h5, h6⟩ := settleF_inv hw f _ h2 (by omega)
     exact ⟨h4, h3.trans h5, h6⟩
theorem settle_inv {ls kk : List (Int × Int)} (hw : Web ls kk) {s : List Int} (h : Inv ls kk s) : Inv ls kk (settle ls kk s) ∧ Kept ls kk s (settle ls kk s) ∧ Calm ls kk (settle ls kk s) := settleF_inv hw _ s h (waits_le _ _)
theorem settleF_length {ls kk : List (Int × Int)} (hw : Web ls kk) : ∀ (f : Nat) (s : List Int), s.length = 104 → (settleF ls kk f s).length = 104
 | 0, s, h => h
 | f + 1, s, h => by
   rw [settleF]
   cases hq : nextK ls kk s kk.length with
   | none => exact h
   | some t => exact settleF_length hw f t (next_waits hw h hq).1
theorem settle_length {ls kk : List (Int × Int)} (hw : Web ls kk) {s : List Int} (h : s.length = 104) : (settle ls kk s).length = 104 := settleF_length hw _ s h
theorem zeros_get (i : Nat) : zeros.getD i 0 = 0 := by
 rw [List.getD_eq_getElem?_getD, zeros, List.getElem?_replicate]
 split <;> rfl
theorem start_inv {ls kk : List (Int × Int)} (hw : Web ls kk) : Inv ls kk (start ls kk) ∧ Calm ls kk (start ls kk) := by
  have l40 := hw.l40
  have k64 := hw.k64
  have hz : zeros.length = 104 := by simp [zeros]
  have hno : ∀ k, ¬ (ls[40 + k]?).map Prod.fst = some (-1 : Int) := fun k h => by
    rw [List.getElem?_eq_none (by omega)] at h
    simp at h
  have hl : ∀ i, (left ls zeros (-1) 1).getD i 0 = if (ls[i]?).map Prod.fst = some (-1) then 1 else 0 := fun i => by
    rw [left_get _ _ _ _ (by omega), zeros_get]
  have hk : ∀ k, (left ls zeros (-1) 1).getD (40 + k) 0 = 0 := fun k => by rw [hl, if_neg (hno k)]
  have h0 : Inv ls kk (left ls zeros (-1) 1) := by
    refine ⟨by rw [left_length, hz], fun i hi => ?_, fun k hk2 => ?_, fun i f e => ?_, fun i e => ?_, fun k e => ?_, fun i f e e3 => ?_, fun i f e e3 => ?_, fun k hk2 e => ?_⟩
    · rw [hl]
      by_cases e : (ls[i]?).map Prod.fst = some (-1)
      · rw [if_pos e, if_pos]
        · omega
        · by_cases q : i < ls.length
          · exact q
          · rw [List.getElem?_eq_none (by omega)] at e; simp at e
      · rw [if_neg e]; split <;> omega
    · rw [hk]; split <;> omega
    · rw [hl, hk, if_neg (by rw [e]; intro e3; injection e3 with e3; omega)]; omega
    · rw [hl, if_pos e]
    · rw [hk] at e; omega
    · rw [hk] at e3; omega
    · rw [hk] at e3; omega
    · exact absurd (hk k) e
  have := settle_inv hw h0
  exact ⟨this.1, this.2.2⟩
end Dd
end Go.Proofs
namespace Go.Proofs
namespace Dd
theorem countP_lt {n : Nat} {p q : Nat → Bool} {k : Nat} (hk : k < n) (h0 : p k = false) (h1 : q k = true) (hall : ∀ j, j < n → p j = true → q j = true) : (List.range n).countP p < (List.range n).countP q := by
 induction n with
 | zero => omega
 | succ n ih =>
   rw [List.range_succ, List.countP_append, List.countP_append, List.countP_singleton, List.countP_singleton]
   by_cases e : k = n
   ·subst e
    have hle : List.countP p (List.range k) ≤ List.countP q (List.range k) := List.countP_mono_left fun j hj e => hall j (by have := List.mem_range.1 hj; omega) e
    rw [h0, h1, if_pos rfl, if_neg (by decide)]
    omega
   ·have := ih (by omega) fun j hj => hall j (by omega)
    have hb : (if p n = true then 1 else 0) ≤ if q n = true then 1 else 0 := by
     by_cases e : p n = true
     ·rw [if_pos e, if_pos (hall n (by omega) e)]; omega
     ·rw [if_neg e]; omega
    omega
def cnt (n : Nat) (s : List Int) : Nat := (List.range n).countP fun k => decide (s.getD (40 + k) 0 < 2)
theorem cnt_le (n : Nat) (s : List Int) : cnt n s ≤ n := by
 unfold cnt
 have := List.countP_le_length (p := fun k => decide (s.getD (40 + k) 0 < 2)) (l := List.range n)
 simpa using this
theorem heldB_at {xs : List Int} {m : Int} : heldB xs m = true ↔ ∀ j (h : j < xs.length), 0 ≤ xs[j] ∧ xs[j] ≤ m := by
 simp only [heldB, List.all_eq_true, Bool.and_eq_true, decide_eq_true_iff]
 constructor
 ·intro h j hj; exact h _ (List.getElem_mem hj)
 ·intro h x hx
  obtain ⟨j, hj, rfl⟩ := List.mem_iff_getElem.1 hx
  exact h j hj
theorem okB_iff {n m : Nat} {s : List Int} (hl : s.length = 104) (hm : m ≤ 40) (hn : n ≤ 64) : okB n m s = true ↔ (∀ i, i < 40 → 0 ≤ s.getD i 0 ∧ s.getD i 0 ≤ if i < m then 2 else 0) ∧ ∀ k, k < 64 → 0 ≤ s.getD (40 + k) 0 ∧ s.getD (40 + k) 0 ≤ if k < n then 3 else 0 := by
 have g : ∀ i (h : i < 104), s.getD i 0 = s[i] := fun i h => by simp [List.getD_eq_getElem?_getD, show i < s.length by omega]
 unfold okB
 rw [Bool.and_eq_true, Bool.and_eq_true, Bool.and_eq_true, heldB_at, heldB_at, heldB_at, heldB_at]
 constructor
 ·rintro ⟨⟨h1, h2⟩, h3, h4⟩
  refine ⟨fun i hi => ?_, fun k hk => ?_⟩
  ·rw [g i (by omega)]
   by_cases q : i < m
   ·rw [if_pos q]
    have := h1 i (by simp; omega)
    simpa using this
   ·rw [if_neg q]
    have := h2 (i - m) (by simp; omega)
    simpa [show m + (i - m) = i by omega] using this
  ·rw [g (40 + k) (by omega)]
   by_cases q : k < n
   ·rw [if_pos q]
    have := h3 k (by simp; omega)
    simpa using this
   ·rw [if_neg q]
    have := h4 (k - n) (by simp; omega)
    simpa [show 40 + n + (k - n) = 40 + k by omega] using this
 ·rintro ⟨h1, h2⟩
  refine ⟨⟨fun j hj => ?_, fun j hj => ?_⟩, fun j hj => ?_, fun j hj => ?_⟩
  ·simp at hj
   have := h1 j (by omega)
   rw [if_pos (by omega), g j (by omega)] at this
   simpa using this
  ·simp at hj
   have := h1 (m + j) (by omega)
   rw [if_neg (by omega), g (m + j) (by omega)] at this
   simpa using this
  ·simp at hj
   have := h2 j (by omega)
   rw [if_pos (by omega), g (40 + j) (by omega)] at this
   simpa using this
  ·simp at hj
   have := h2 (n + j) (by omega)
   rw [if_neg (by omega), g (40 + (n + j)) (by omega)] at this
   simpa [Nat.add_assoc] using this
theorem Inv.ok {ls kk : List (Int × Int)} (hw : Web ls kk) {s : List Int} (h : Inv ls kk s) : okB kk.length ls.length s = true := (okB_iff h.len hw.l40 hw.k64).2 ⟨h.lv, h.kv⟩
structure After (ls kk : List (Int × Int)) (s : List Int) (kid : Nat) (t : List Int) : Prop where
 inv : Inv ls kk t
 calm : Calm ls kk t
 l : ∀ i, i < 40 → s.getD i 0 ≠ 0 → t.getD i 0 = s.getD i 0
 k : ∀ j, j < 64 → j ≠ kid → s.getD (40 + j) 0 ≠ 0 → t.getD (40 + j) 0 = s.getD (40 + j) 0
 self : t.getD (40 + kid) 0 = 2
 d : ∀ j, j < 64 → ¬ Auto kk j → (t.getD (40 + j) 0 = 2 ↔ s.getD (40 + j) 0 = 2 ∨ j = kid)
theorem After.of {ls kk : List (Int × Int)} (hw : Web ls kk) {s t : List Int} (h : Inv ls kk s) {k : Nat} {g : Nat → Int} (hk : k < kk.length) (h1 : s.getD (40 + k) 0 = 1)
  (hl : t.length = 104) (hkt : ∀ j, t.getD (40 + j) 0 = if j = k then 2 else s.getD (40 + j) 0) (hlt : ∀ i, i < 40 → t.getD i 0 = if (ls[i]?).map Prod.fst = some (k : Int) then g i else s.getD i 0)
  (hg : ∀ i, i < ls.length → g i = 1 ∨ g i = 2) (hgd : (gateB kk k = true → doesI kk k ≠ 3) → ∀ i, g i = 1) : After ls kk s k (settle ls kk t) := by
 have k64 := hw.k64
 obtain ⟨p, hp, f1, f2, f3⟩ := h.fate k hk (by omega)
 have hnd : ¬ Dies kk k p := fun d => by have := f1 d; omega
 have hi := h.upd hw hk (by omega) hl hkt hlt (by omega) (by omega) (fun _ i hi => hg i hi) (by omega) (fun _ => hgd) hp ⟨fun d => absurd d hnd, fun _ _ => rfl, fun _ _ => .inr rfl⟩
 obtain ⟨i1, i2, i3⟩ := settle_inv hw hi
 refine ⟨i1, i3, fun i hi e => ?_, fun j hj hne e => ?_, ?_, fun j hj ha => ?_⟩
 ·have ht : t.getD i 0 = s.getD i 0 := by
   rw [hlt i hi, if_neg]
   intro e2
   exact e ((h.lo i k e2).2 (by omega))
  rw [i2.l i hi (by rw [ht]; exact e), ht]
 ·have ht : t.getD (40 + j) 0 = s.getD (40 + j) 0 := by rw [hkt j, if_neg hne]
  rw [i2.k j hj (by rw [ht]; exact e), ht]
 ·have ht : t.getD (40 + k) 0 = 2 := by rw [hkt k, if_pos rfl]
  rw [i2.k k (by omega) (by omega), ht]
 ·constructor
  ·intro e
   have := i2.d j hj ha e
   rw [hkt j] at this
   by_cases q : j = k
   ·exact .inr q
   ·rw [if_neg q] at this; exact .inl this
  ·intro e
   have ht : t.getD (40 + j) 0 = 2 := by
    rw [hkt j]
    by_cases q : j = k
    ·rw [if_pos q]
    ·rw [if_neg q]; exact e.resolve_right q
   rw [i2.k j hj (by omega), ht]
theorem After.finish {ls kk : List (Int × Int)} (hw : Web ls kk) {s : List Int} (h : Inv ls kk s) {k : Nat} (hk : k < kk.length) (h1 : s.getD (40 + k) 0 = 1) : After ls kk s k (finished ls kk s k) := by
 have l40 := hw.l40
 have k64 := hw.k64
 have hlen := h.len
 refine After.of (g := fun _ => 1) hw h hk h1 (by rw [ended_length, hlen]) (fun j => ?_) (fun i hi => ?_) (fun _ _ => .inl rfl) (fun _ _ => rfl)
 ·rw [ended_get _ _ _ _ (by omega) (by omega), if_neg (fun e => by rw [List.getElem?_eq_none (by omega)] at e; simp at e)]
  by_cases q : j = k
  ·rw [if_pos (by omega), if_pos q]
  ·rw [if_neg (by omega), if_neg q]
 ·rw [ended_get _ _ _ _ (by omega) (by omega), if_neg (show ¬ 40 + k = i by omega)]
  rfl
theorem After.choose {ls kk : List (Int × Int)} (hw : Web ls kk) {s : List Int} (h : Inv ls kk s) {k c : Nat} (hk : k < kk.length) (h1 : s.getD (40 + k) 0 = 1) (hg : gateB kk k = true) (hc : (ls[c]?).map Prod.fst = some (k : Int)) : After ls kk s k (chose ls kk s k c) := by
 have l40 := hw.l40
 have k64 := hw.k64
 have hlen := h.len
 have hcl : c < ls.length := by
  by_cases q : c < ls.length
  ·exact q
  ·rw [List.getElem?_eq_none (by omega)] at hc; simp at hc
 have hd3 : doesI kk k = 3 := by
  by_cases q : doesI kk k = 3
  ·exact q
  ·exact absurd ⟨hg, q⟩ (h.gt k h1)
 have hlen2 : (left ls (s.set (40 + k) 2) k 2).length = 104 := by rw [left_length, List.length_set, hlen]
 refine After.of (g := fun i => if i = c then 1 else 2) hw h hk h1 (by rw [List.length_set, hlen2]) (fun j => ?_) (fun i hi => ?_) (fun i _ => ?_) (fun hh => absurd hd3 (hh hg))
 ·rw [getD_set _ _ _ _ (by omega), if_neg (by omega), left_get _ _ _ _ (by rw [List.length_set]; omega), if_neg (fun e => by rw [List.getElem?_eq_none (by omega)] at e; simp at e), getD_set _ _ _ _ (by omega)]
  by_cases q : j = k
  ·rw [if_pos (by omega), if_pos q]
  ·rw [if_neg (by omega), if_neg q]
 ·rw [getD_set _ _ _ _ (by omega), left_get _ _ _ _ (by rw [List.length_set]; omega), getD_set _ _ _ _ (by omega), if_neg (show ¬ 40 + k = i by omega)]
  by_cases q : c = i
  ·subst q; rw [if_pos rfl, if_pos hc]; simp
  ·rw [if_neg q]
   by_cases e : (ls[i]?).map Prod.fst = some (k : Int)
   ·rw [if_pos e, if_pos e]; simp [Ne.symm q]
   ·rw [if_neg e, if_neg e]
 ·show (if i = c then (1 : Int) else 2) = 1 ∨ _ = (2 : Int)
  by_cases q : i = c
  ·exact .inl (if_pos q)
  ·exact .inr (if_neg q)
theorem After.cnt {ls kk : List (Int × Int)} {s t : List Int} {k : Nat} (hw : Web ls kk) (h : After ls kk s k t) (hk : k < kk.length) (h1 : s.getD (40 + k) 0 = 1) : cnt kk.length t < cnt kk.length s := by
 have k64 := hw.k64
 refine countP_lt hk (by rw [h.self]; rfl) (by rw [h1]; rfl) fun j hj e => ?_
 rw [decide_eq_true_iff] at e ⊢
 by_cases q : s.getD (40 + j) 0 < 2
 ·exact q
 ·have hne : j ≠ k := by rintro rfl; omega
  rw [h.k j (by omega) hne (by omega)] at e
  exact e
def Free (ls : List (Int × Int)) (rk : Nat → Nat) : Prop := ∀ (i f t : Nat), ls[i]? = some ((f : Int), (t : Int)) → rk f < rk t
theorem Free.ind {ls kk : List (Int × Int)} {rk : Nat → Nat} (h : Free ls rk) {P : Nat → Prop} (hP : ∀ k, k < kk.length → (∀ i f : Nat, ls[i]? = some ((f : Int), (k : Int)) → f < kk.length → P f) → P k) : ∀ k, k < kk.length → P k := by
 have : ∀ m k, rk k < m → k < kk.length → P k := by
  intro m
  induction m with
  | zero => intro k h; omega
  | succ m ih => intro k hm hk; exact hP k hk fun i f e hf => ih f (by have := h i f k e; omega) hf
 exact fun k hk => this (rk k + 1) k (by omega) hk
theorem pair_of {ls : List (Int × Int)} {i : Nat} {y : Int} (h : (ls[i]?).map Prod.snd = some y) : ∃ x, ls[i]? = some (x, y) ∧ (ls[i]?).map Prod.fst = some x := by
 cases e : ls[i]? with
 | none => rw [e] at h; simp at h
 | some p =>
   rw [e] at h
   obtain ⟨x, z⟩ := p
   obtain rfl : z = y := by simpa using h
   exact ⟨x, rfl, rfl⟩
theorem Inv.ends {ls kk : List (Int × Int)} (hw : Web ls kk) {rk : Nat → Nat} (hf : Free ls rk) {s : List Int} (h : Inv ls kk s) (hc : Calm ls kk s) (hr : ∀ k, k < kk.length → s.getD (40 + k) 0 ≠ 1) : (∀ k, k < kk.length → 2 ≤ s.getD (40 + k) 0) ∧ ∀ i, i < ls.length → s.getD i 0 ≠ 0 := by
 have k64 := hw.k64
 have h1 : ∀ k, k < kk.length → 2 ≤ s.getD (40 + k) 0 := by
  refine hf.ind fun k hk ih => ?_
  have hv := (h.kv k (by omega)).1
  have hne := hr k hk
  rcases hc k hk with e | e
  ·omega
  ·exfalso
   have := scan_iff ls s k ls.length
   rw [e] at this
   obtain ⟨i, hi, e1, e0⟩ := this
   obtain ⟨x, e2, e3⟩ := pair_of e1
   rcases hw.fr i x e3 with rfl | ⟨f, rfl, hfl⟩
   ·have := h.out i e3; omega
   ·have := ih i f e2 hfl
    have := (h.lo i f e3).1 e0
    omega
 refine ⟨h1, fun i hi e => ?_⟩
 have e3 : (ls[i]?).map Prod.fst = some ls[i].1 := by simp [hi]
 rcases hw.fr i _ e3 with q | ⟨f, q, hfl⟩
 ·rw [q] at e3; have := h.out i e3; omega
 ·rw [q] at e3
  have := (h.lo i f e3).1 e
  have := h1 f hfl
  omega
theorem linkAt_some (kid : Int) : ∀ (l : List (Int × Int)) (b : Nat) (o : Int), 0 ≤ o → o < (l.countP fun x => decide (x.1 = kid) : Nat) → ∃ c : Nat, linkAt kid l b o = (b + c : Nat) ∧ (l[c]?).map Prod.fst = some kid
 | [], b, o, h0, h => by simp at h; omega
 | x :: r, b, o, h0, h => by
   rw [linkAt]
   rw [List.countP_cons] at h
   by_cases e : x.1 = kid
   ·rw [if_pos e]
    rw [if_pos (decide_eq_true e)] at h
    by_cases z : o = 0
    ·rw [if_pos z]
     exact ⟨0, rfl, by simp [e]⟩
    ·rw [if_neg z]
     obtain ⟨c, h1, h2⟩ := linkAt_some kid r (b + 1) (o - 1) (by omega) (by omega)
     exact ⟨c + 1, by rw [h1]; omega, by simpa using h2⟩
   ·rw [if_neg e]
    rw [if_neg (by simp [e])] at h
    obtain ⟨c, h1, h2⟩ := linkAt_some kid r (b + 1) o h0 (by omega)
    exact ⟨c + 1, by rw [h1]; omega, by simpa using h2⟩
theorem running_mem {n : Nat} {s : List Int} {k : Nat} : k ∈ running n s ↔ k < n ∧ s.getD (40 + k) 0 = 1 := by
 unfold running
 rw [List.mem_filter, List.mem_range, decide_eq_true_iff]
end Dd
end Go.Proofs
