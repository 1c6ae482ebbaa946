import Derived.Test.YtndfbgfpnjnmlaaGreatDoorRGmDSteps
namespace Go.Proofs
open Go.RowKit Go.Shelf
namespace Gm
theorem getD_high {l : List Int} {k f : Nat} {v : Int} (h : f ≠ k) : (l.set k v).getD f 0 = l.getD f 0 := by
 rw [List.getD_eq_getElem?_getD, List.getElem?_set_ne (by omega), List.getD_eq_getElem?_getD]
theorem take_of_set {k : Nat} {v : Int} (hk : 40 ≤ k) : ∀ (a : List Nat) (l : List Int), (∀ f ∈ a, f < 40) → take (l.set k v) a = (take l a).map (·.set k v)
 | [], l, _ => rfl
 | f :: r, l, h => by
   have hf := h f (by simp)
   rw [take, take, getD_high (by omega)]
   by_cases h0 : l.getD f 0 = 0
   ·rw [if_pos h0, if_pos h0]; rfl
   ·rw [if_neg h0, if_neg h0, List.set_comm _ _ (by omega), take_of_set hk r _ fun g hg => h g (by simp [hg])]
theorem put_of_set {k : Nat} {v : Int} (hk : 40 ≤ k) : ∀ (a : List Nat) (l : List Int), (∀ f ∈ a, f < 40) → put (l.set k v) a = (put l a).map (·.set k v)
 | [], l, _ => rfl
 | f :: r, l, h => by
   have hf := h f (by simp)
   rw [put, put, getD_high (by omega)]
   by_cases h0 : l.getD f 0 = 3
   ·rw [if_pos h0, if_pos h0]; rfl
   ·rw [if_neg h0, if_neg h0, List.set_comm _ _ (by omega), put_of_set hk r _ fun g hg => h g (by simp [hg])]
theorem pass_of_set {k : Nat} {v : Int} (hk : 40 ≤ k) {l : List Int} {a b : List Nat} (ha : ∀ f ∈ a, f < 40) (hb : ∀ f ∈ b, f < 40) : pass (l.set k v) a b = (pass l a b).map (·.set k v) := by
 unfold pass
 rw [take_of_set hk a l ha]
 cases take l a with
 | none => rfl
 | some t => exact put_of_set hk b t hb
theorem pass_none {l : List Int} {a b : List Nat} (h0 : a ≠ []) (h : ∀ f ∈ a, l.getD f 0 = 0) : pass l a b = none := by
 cases a with
 | nil => exact absurd rfl h0
 | cons f r => unfold pass; rw [take, if_pos (h f (by simp))]
theorem unreached {ns : List Nd} {fs : List Fl} (hR : Rt ns fs) {l : List Int} (hS : Small l) {i : Nat} (h : reachedB fs l i = false) : ∀ f ∈ Nt.insL fs i, l.getD f 0 = 0 := fun f hf => by
 have hl := ins_lt hf
 have ht := (hR.toL hl).2
 have hi := ins_to hf hl
 have h40 := hR.f40
 have hb := hS.2 f (by omega)
 unfold reachedB at h
 rw [List.any_eq_false] at h
 have h1 := h f (List.mem_range.2 hl)
 simp only [Bool.and_eq_true, decide_eq_true_eq, not_and] at h1
 by_cases h0 : 0 < l.getD f 0
 ·have := h1 h0
  omega
 ·omega
theorem reached_in {ns : List Nd} {fs : List Fl} (hR : Rt ns fs) {l : List Int} {i : Nat} (h : reachedB fs l i = true) : ∃ f, f ∈ Nt.insL fs i ∧ 0 < l.getD f 0 := by
 unfold reachedB at h
 obtain ⟨f, hf, h2⟩ := List.any_eq_true.1 h
 simp only [Bool.and_eq_true, decide_eq_true_eq] at h2
 have hl := List.mem_range.1 hf
 have ht := (hR.toL hl).2
 refine ⟨f, List.mem_filter.2 ⟨hf, ?_⟩, h2.1⟩
 rw [List.getElem?_eq_getElem hl]
 simp only [Option.map_some, decide_eq_true_eq, Option.some.injEq]
 omega
theorem catch_same (ns : List Nd) (l : List Int) (nd ar : Int) (i x : Nat) (a b : List Nat) (hl : l.length = 49) (hx : (ns[i]?.map Nd.a).getD 0 = (x : Int)) (hx4 : x ≤ 4) (hQ : ∀ k, k < 4 → 0 ≤ l.getD (44 + k) 0 ∧ l.getD (44 + k) 0 ≤ 3) (ha : ∀ f ∈ a, f < 40) (hb : ∀ f ∈ b, f < 40) : catchS ns l nd ar i a b = catchD l nd ar i x a b := by
 unfold catchS catchD
 by_cases h4 : x = 4
 ·rw [if_pos h4]
  cases hp : pass l a b with
  | none => rfl
  | some t =>
    simp only [hx]
    rw [if_pos (by omega)]; rfl
 ·rw [if_neg h4]
  have hq := hQ x (by omega)
  rw [pass_of_set (by omega) ha hb]
  cases hp : pass l a b with
  | none => by_cases h0 : l.getD (44 + x) 0 = 0
            ·rw [if_pos h0]
            ·rw [if_neg h0]; rfl
  | some t =>
    have hk := pass_keep (k := 44 + x) (by omega) hl ha hb hp
    simp only [hx, Int.toNat_natCast]
    rw [if_neg (by omega), hk]
    by_cases h0 : l.getD (44 + x) 0 = 0
    ·rw [if_pos h0, if_neg (by omega)]
    ·rw [if_neg h0, if_pos (by omega)]; rfl
theorem event_same (ns : List Nd) (fs : List Fl) (l : List Int) (i : Nat) (a : List Nat) (hR : Rt ns fs) (hl : l.length = 49) (hQ : ∀ k, k < 4 → 0 ≤ l.getD (44 + k) 0 ∧ l.getD (44 + k) 0 ≤ 3) (ha : ∀ f ∈ a, f < 40) (hi : i < ns.length) (hk : ns[i].kind = 7) :
   ∀ b : List Nat, (∀ f ∈ b, f ∈ Nt.outsL fs i) → eventS ns fs l i a b = eventD ns fs l i a b
 | [], _ => rfl
 | f :: r, h => by
   rw [eventS, eventD, event_same ns fs l i a hR hl hQ ha hi hk r fun g hg => h g (by simp [hg])]
   obtain ⟨htl, htk⟩ := hR.event hi hk (h f (by simp))
   obtain ⟨y, hy, hy4⟩ := hR.msg htl htk
   have e : (ns[toOf fs f]?.map Nd.a).getD 0 = (y : Int) := by rw [List.getElem?_eq_getElem htl]; exact hy
   have hf40 := hR.f40
   rw [catch_same ns l i f (toOf fs f) y a _ hl e hy4 hQ ha (fun q hq => by have := outs_lt hq; omega), e, Int.toNat_natCast]
def lastE (fs : List Fl) : List Nat → Nat → Nat
 | [], o => o
 | f :: r, o => match fs[f]? with
   | none => o
   | some x => if x.els = true then lastE fs r f else lastE fs r o
theorem chosen_eq (fs : List Fl) (l : List Int) : ∀ (r : List Nat) (o : Nat), (∀ f ∈ r, f < fs.length) → match chA fs l r with
    | some p => (chosen fs l r o).2 = p.2 ∧ (p.2 = 0 → (chosen fs l r o).1 = p.1)
    | none => chosen fs l r o = (lastE fs r o, 0)
  | [], o, _ => rfl
  | f :: r, o, h => by
    have hf := h f (by simp)
    have hr : ∀ g ∈ r, g < fs.length := fun g hg => h g (by simp [hg])
    rw [chA, chosen, lastE, List.getElem?_eq_getElem hf]
    simp only
    by_cases he : fs[f].els = true
    · rw [if_pos he, if_pos he, if_pos he]
      exact chosen_eq fs l r f hr
    · rw [if_neg he, if_neg he, if_neg he]
      by_cases h2 : (tru l fs[f].c).2 = 0
      · by_cases h1 : (tru l fs[f].c).1 = true
        · rw [if_neg (by simpa using h2), if_pos h1, if_pos (.inl h1)]
          exact ⟨h2, fun _ => rfl⟩
        · rw [if_neg (by simpa using h2), if_neg h1, if_neg (by simp [h1, h2])]
          exact chosen_eq fs l r o hr
      · rw [if_pos h2, if_pos (.inr h2)]
        exact ⟨rfl, fun e => absurd e h2⟩
def elsC (fs : List Fl) (r : List Nat) : Nat := r.countP fun f => ((fs[f]?.map Fl.els).getD false)
theorem lastE_none (fs : List Fl) : ∀ (r : List Nat) (o : Nat), (∀ f ∈ r, f < fs.length) → elsC fs r = 0 → lastE fs r o = o
 | [], o, _, _ => rfl
 | f :: r, o, h, hc => by
   have hf := h f (by simp)
   unfold elsC at hc
   rw [List.countP_cons, List.getElem?_eq_getElem hf] at hc
   rw [lastE, List.getElem?_eq_getElem hf]
   simp only
   by_cases he : fs[f].els = true
   ·simp [he] at hc
   ·rw [if_neg he]
    exact lastE_none fs r o (fun g hg => h g (by simp [hg])) (by unfold elsC; simp [he] at hc; simpa using hc)
theorem lastE_one (fs : List Fl) : ∀ (r : List Nat) (o : Nat), (∀ f ∈ r, f < fs.length) → elsC fs r = 1 → lastE fs r o = chB fs r
 | [], o, _, hc => by simp [elsC] at hc
 | f :: r, o, h, hc => by
   have hf := h f (by simp)
   have hr : ∀ g ∈ r, g < fs.length := fun g hg => h g (by simp [hg])
   unfold elsC at hc
   rw [List.countP_cons, List.getElem?_eq_getElem hf] at hc
   rw [lastE, chB, List.getElem?_eq_getElem hf]
   simp only
   by_cases he : fs[f].els = true
   ·rw [if_pos he, if_pos he]
    refine lastE_none fs r f hr ?_
    unfold elsC
    simp [he] at hc
    rw [List.countP_eq_zero]
    simpa using hc
   ·rw [if_neg he, if_neg he]
    refine lastE_one fs r o hr ?_
    unfold elsC
    simp [he] at hc
    simpa using hc
theorem elsC_outs (fs : List Fl) (i : Int) : elsC fs (Nt.outsL fs i) = Nt.elsesN fs i := by
 unfold elsC Nt.elsesN
 rw [Nt.outsL_eq]
 rw [List.countP_filter]
 have : ((List.range fs.length).countP fun k => ((fs[k]?.map Fl.els).getD false) && ((fs[k]?.map fun f => decide (f.fr = i)).getD false)) = ((List.range fs.length).filter fun k => ((fs[k]?.map fun f => decide (f.fr = i) && f.els).getD false)).length := by
  rw [List.countP_eq_length_filter]
  congr 1
  apply List.filter_congr
  intro k hk
  rw [List.getElem?_eq_getElem (List.mem_range.1 hk)]
  simp only [Option.map_some, Option.getD_some]
  exact Bool.and_comm _ _
 rw [this, Nt.filter_len]
theorem choose_same (_ns : List Nd) (fs : List Fl) (l : List Int) (i : Nat) (a b : List Nat) (hb : ∀ f ∈ b, f < fs.length) (he : elsC fs b = 1) : chooseS fs l i a b = if (chooseD fs l b).2 ≠ 0 then fault l i (chooseD fs l b).2 else more ⟨i, ((chooseD fs l b).1 : Nat), 0, 0, 0⟩ (pass l a [(chooseD fs l b).1]) := by
 have hc := chosen_eq fs l b 0 hb
 have key : (chosen fs l b 0).2 = (chooseD fs l b).2 ∧ ((chooseD fs l b).2 = 0 → (chosen fs l b 0).1 = (chooseD fs l b).1) := by
  unfold chooseD
  cases h : chA fs l b with
  | some p => rw [h] at hc; exact hc
  | none =>
    rw [h] at hc
    simp only at hc ⊢
    rw [hc, lastE_one fs b 0 hb he]
    exact ⟨rfl, fun _ => rfl⟩
 unfold chooseS
 rw [key.1]
 by_cases h0 : (chooseD fs l b).2 = 0
 ·rw [if_neg (by simpa using h0), if_neg (by simpa using h0), key.2 h0]
  cases pass l a [(chooseD fs l b).1] <;> rfl
 ·rw [if_pos h0, if_pos h0]
theorem sum_eq : ∀ (xs : List Int) (n : Nat), xs.length ≤ n → n ≤ 40 → (∀ x ∈ xs, 0 ≤ x ∧ x ≤ 3) → ∀ a : Int, 0 ≤ a → a + 3 * n ≤ 1000 → xs.foldl (fun a x => wrap64 (a + x)) a = a + xs.sum
 | [], _, _, _, _, a, _, _ => by simp
 | x :: r, 0, hn, _, _, a, _, _ => by simp at hn
 | x :: r, n + 1, hn, h40, h, a, h0, hb => by
   have hx := h x (by simp)
   rw [List.foldl_cons, List.sum_cons]
   have e : wrap64 (a + x) = a + x := IntWalk.wrap64_in _ (by omega)
   rw [e, sum_eq r n (by simpa using hn) (by omega) (fun y hy => h y (by simp [hy])) (a + x) (by omega) (by omega)]
   omega
theorem sum_nonneg : ∀ (xs : List Int), (∀ x ∈ xs, 0 ≤ x) → 0 ≤ xs.sum
 | [], _ => by simp
 | x :: r, h => by
   rw [List.sum_cons]
   have h1 := h x (by simp)
   have h2 := sum_nonneg r fun y hy => h y (by simp [hy])
   omega
theorem sum_zero : ∀ (xs : List Int), (∀ x ∈ xs, 0 ≤ x) → (xs.sum = 0 ↔ xs.all (fun x => decide (x = 0)) = true)
 | [], _ => by simp
 | x :: r, h => by
   rw [List.sum_cons, List.all_cons]
   have h1 := h x (by simp)
   have hr : ∀ y ∈ r, 0 ≤ y := fun y hy => h y (by simp [hy])
   have h2 := sum_nonneg r hr
   have h3 := sum_zero r hr
   constructor
   ·intro e
    have hx : x = 0 := by omega
    have hs : r.sum = 0 := by omega
    rw [h3.1 hs, hx]; rfl
   ·intro e
    rw [Bool.and_eq_true, decide_eq_true_eq] at e
    rw [h3.2 e.2, e.1]; rfl
theorem sum_set : ∀ (xs : List Int) (f : Nat) (v : Int) (h : f < xs.length), (xs.set f v).sum = xs.sum - xs[f] + v
 | [], f, v, h => by simp at h
 | x :: r, 0, v, h => by simp; omega
 | x :: r, f + 1, v, h => by
   simp only [List.set_cons_succ, List.sum_cons, List.getElem_cons_succ]
   rw [sum_set r f v (by simpa using h)]
   omega
theorem take_set_low {l : List Int} {f : Nat} {v : Int} : (l.set f v).take 40 = (l.take 40).set f v := by
 apply List.ext_getElem?
 intro i
 rw [List.getElem?_take, List.getElem?_set, List.getElem?_set, List.getElem?_take, List.length_take]
 by_cases hi : i < 40
 ·rw [if_pos hi, if_pos hi]
  by_cases hf : f = i
  ·rw [if_pos hf, if_pos hf]
   by_cases hl : f < l.length
   ·rw [if_pos hl, if_pos (by omega)]
   ·rw [if_neg hl, if_neg (by omega)]
  ·rw [if_neg hf, if_neg hf]
 ·rw [if_neg hi]
  by_cases hf : f = i
  ·rw [if_pos hf, if_neg (by omega)]
  ·rw [if_neg hf, if_neg hi]
theorem end_same (l : List Int) (i f : Nat) (hS : Small l) (hf : f < 40) : endS l i [f] = endD l i [f] := by
 have hll := hS.1
 have hb := hS.2 f hf
 have hmem : ∀ x ∈ l.take 40, 0 ≤ x ∧ x ≤ 3 := fun x hx => by
  obtain ⟨j, hj, rfl⟩ := List.mem_take_iff_getElem.1 hx
  have := hS.2 j (by omega)
  rw [List.getD_eq_getElem?_getD, List.getElem?_eq_getElem (by omega)] at this
  exact this
 have hsum : sumW (l.take 40) = (l.take 40).sum := by
  unfold sumW
  rw [sum_eq (l.take 40) 40 (by simp; omega) (by omega) hmem 0 (by omega) (by omega)]
  omega
 unfold endS endD
 rw [hsum]
 have hp : ∀ t : List Int, pass t [f] [] = if t.getD f 0 = 0 then none else some (t.set f (t.getD f 0 - 1)) := fun t => by
  unfold pass
  rw [take]
  by_cases h0 : t.getD f 0 = 0
  ·rw [if_pos h0, if_pos h0]
  ·rw [if_neg h0, if_neg h0]; rfl
 rw [hp, hp, getD_high (by omega)]
 by_cases h0 : l.getD f 0 = 0
 ·rw [if_pos h0, if_pos h0]
  by_cases h1 : (l.take 40).sum = 1
  ·rw [if_pos h1]; rfl
  ·rw [if_neg h1]; rfl
 ·rw [if_neg h0, if_neg h0]
  have hlf : f < (l.take 40).length := by simp; omega
  have hgf : (l.take 40)[f] = l.getD f 0 := by rw [List.getElem_take, List.getD_eq_getElem?_getD, List.getElem?_eq_getElem (by omega)]; rfl
  have hq : quietB (l.set f (l.getD f 0 - 1)) = true ↔ (l.take 40).sum = 1 := by
   unfold quietB
   rw [take_set_low, ← sum_zero _ (fun x hx => by
      obtain ⟨j, hj, rfl⟩ := List.getElem_of_mem hx
      rw [List.getElem_set]
      split
      ·omega
      ·exact (hmem _ (List.getElem_mem _)).1), sum_set _ _ _ hlf, hgf]
   omega
  simp only
  by_cases h1 : (l.take 40).sum = 1
  ·rw [if_pos (hq.2 h1), if_pos h1, List.set_comm _ _ (by omega)]; rfl
  ·rw [if_neg (fun h => h1 (hq.1 h)), if_neg h1]; rfl
theorem one_of {a : List Nat} (h : a.length = 1) : ∃ f, a = [f] := by
 match a, h with
 | [f], _ => exact ⟨f, rfl⟩
theorem merge_none (l : List Int) (i : Nat) (b : List Nat) : ∀ a : List Nat, (∀ f ∈ a, l.getD f 0 = 0) → mergeS l i b a = []
 | [], _ => rfl
 | f :: r, h => by
   rw [mergeS_cons, pass_none (by simp) (fun g hg => h g (by simp at hg; simp [hg])), merge_none l i b r fun g hg => h g (by simp [hg])]
   rfl
theorem catch_none (l : List Int) (nd ar : Int) (i x : Nat) (a b : List Nat) (h0 : a ≠ []) (ha : ∀ f ∈ a, f < 40) (h : ∀ f ∈ a, l.getD f 0 = 0) : catchD l nd ar i x a b = [] := by
 unfold catchD
 rw [pass_none h0 h, pass_none h0 (fun f hf => by rw [getD_high (by have := ha f hf; omega)]; exact h f hf)]
 split
 ·rfl
 ·split <;> rfl
theorem event_none (ns : List Nd) (fs : List Fl) (l : List Int) (i : Nat) (a : List Nat) (h0 : a ≠ []) (ha : ∀ f ∈ a, f < 40) (h : ∀ f ∈ a, l.getD f 0 = 0) : ∀ b : List Nat, eventD ns fs l i a b = []
 | [] => rfl
 | f :: r => by rw [eventD, catch_none l _ _ _ _ a _ h0 ha h, event_none ns fs l i a h0 ha h r]; rfl
theorem head_mem {a : List Nat} (h : a ≠ []) : a.headD 0 ∈ a := by
 cases a with
 | nil => exact absurd rfl h
 | cons x r => simp
theorem node_same {ns : List Nd} {fs : List Fl} (hR : Rt ns fs) {l : List Int} (hS : Small l) (hQ : ∀ k, k < 4 → 0 ≤ l.getD (44 + k) 0 ∧ l.getD (44 + k) 0 ≤ 3) {i : Nat} (hi : i < ns.length) : (if reachedB fs l i = true then nodeS ns fs l i else []) = nodeD ns fs l i := by
  have hll := hS.1
  have hf40 := hR.f40
  have ha4 : ∀ f ∈ Nt.insL fs i, f < 40 := fun f hf => by have := ins_lt hf; omega
  have hb4 : ∀ f ∈ Nt.outsL fs i, f < 40 := fun f hf => by have := outs_lt hf; omega
  have hj := hR.join hi
  have hone := hR.one _ (List.getElem_mem hi)
  obtain ⟨x, hx⟩ : ∃ z, ns[i] = z := ⟨_, rfl⟩
  have hk : 1 ≤ x.kind ∧ x.kind ≤ 8 := by
    rw [hx] at hone
    simp only [Nt.oneB, Bool.and_eq_true, decide_eq_true_eq] at hone
    exact ⟨hone.1.1, hone.1.2.1⟩
  have hin : x.kind ≠ 1 → Nt.insL fs i ≠ [] := fun hk1 he => by
    rw [hx, he] at hj
    simp only [List.length_nil] at hj
    unfold Nt.joinB at hj
    repeat' split at hj
    all_goals (simp at hj)
    all_goals (exact absurd ‹x.kind = 1› hk1)
  have eS : nodeS ns fs l i = (if x.kind = 3 then taskS l i x.a (Nt.insL fs i) (Nt.outsL fs i) else if x.kind = 4 then assignS l i x.a x.t (Nt.insL fs i) (Nt.outsL fs i) else if x.kind = 5 then (if 1 < (Nt.outsL fs i).length then chooseS fs l i (Nt.insL fs i) (Nt.outsL fs i) else mergeS l i (Nt.outsL fs i) (Nt.insL fs i))
    else if x.kind = 6 then andS l i (Nt.insL fs i) (Nt.outsL fs i) else if x.kind = 7 then eventS ns fs l i (Nt.insL fs i) (Nt.outsL fs i) else if x.kind = 8 then catchS ns l i 0 i (Nt.insL fs i) (Nt.outsL fs i) else if x.kind = 2 then endS l i (Nt.insL fs i) else []) := by
    unfold nodeS
    rw [List.getElem?_eq_getElem hi, hx]
  have eD : nodeD ns fs l i = (if x.kind = 2 then endD l i (Nt.insL fs i) else if x.kind = 3 ∨ x.kind = 4 then dataD l i x.kind x.a.toNat x.t (Nt.insL fs i) (Nt.outsL fs i) else if x.kind = 5 then xorD fs l i (Nt.insL fs i) (Nt.outsL fs i)
    else if x.kind = 6 then more ⟨i, 0, 0, 0, 0⟩ (pass l (Nt.insL fs i) (Nt.outsL fs i)) else if x.kind = 7 then eventD ns fs l i (Nt.insL fs i) (Nt.outsL fs i) else if x.kind = 8 then catchD l i 0 i x.a.toNat (Nt.insL fs i) (Nt.outsL fs i) else []) := by
    unfold nodeD
    rw [List.getElem?_eq_getElem hi, hx]
  rw [hx] at hj
  by_cases hr : reachedB fs l i = true
  · rw [if_pos hr, eS, eD]
    obtain ⟨g, hg, hg0⟩ := reached_in hR hr
    have hhead : (Nt.insL fs i).length = 1 → ¬ l.getD ((Nt.insL fs i).headD 0) 0 = 0 := fun h1 => by
      obtain ⟨f, hf⟩ := one_of h1
      have hgf : g = f := by rw [hf] at hg; simpa using hg
      rw [hf]
      show ¬ l.getD f 0 = 0
      rw [← hgf]; omega
    rcases (by omega : x.kind = 1 ∨ x.kind = 2 ∨ x.kind = 3 ∨ x.kind = 4 ∨ x.kind = 5 ∨ x.kind = 6 ∨ x.kind = 7 ∨ x.kind = 8) with h | h | h | h | h | h | h | h
    · simp only [h, Int.reduceEq, reduceIte, or_self]
    · rw [h] at hj
      simp [Nt.joinB] at hj
      obtain ⟨f, hf⟩ := one_of hj.1
      have hf4 := ha4 f (by rw [hf]; simp)
      simp only [h, Int.reduceEq, reduceIte, hf]
      exact end_same l i f hS hf4
    · obtain ⟨y, hy, hy4⟩ := hR.var hi (by rw [hx]; exact .inl h)
      rw [hx] at hy
      rw [h] at hj
      simp [Nt.joinB] at hj
      have hd := hhead hj.1
      simp only [h, Int.reduceEq, reduceIte, true_or]
      unfold dataD taskS
      rw [if_neg hd, if_pos rfl, hy, Int.toNat_natCast, pass_of_set (by omega) ha4 hb4, pass_of_set (by omega) ha4 hb4]
      cases pass l (Nt.insL fs i) (Nt.outsL fs i) <;> rfl
    · obtain ⟨y, hy, hy4⟩ := hR.var hi (by rw [hx]; exact .inr h)
      rw [hx] at hy
      rw [h] at hj
      simp [Nt.joinB] at hj
      have hd := hhead hj.1
      simp only [h, Int.reduceEq, reduceIte, or_true]
      unfold dataD assignS
      rw [if_neg hd, if_neg (show ¬ ((4 : Int) = 3) by decide), hy, Int.toNat_natCast, pass_of_set (by omega) ha4 hb4]
      by_cases hn : (num l x.t).2 = 0
      · rw [if_neg (show ¬ (num l x.t).2 ≠ 0 by simpa using hn), if_neg (show ¬ (num l x.t).2 ≠ 0 by simpa using hn)]
        cases pass l (Nt.insL fs i) (Nt.outsL fs i) <;> rfl
      · rw [if_pos (show (num l x.t).2 ≠ 0 from hn), if_pos (show (num l x.t).2 ≠ 0 from hn)]
    · rw [h] at hj
      simp [Nt.joinB] at hj
      simp only [h, Int.reduceEq, reduceIte, or_self]
      unfold xorD
      rcases hj with ⟨h1, hb2, hel⟩ | ⟨_, hb1⟩
      · rw [if_pos (show 1 < (Nt.outsL fs i).length by omega), if_neg (show ¬ (Nt.outsL fs i).length = 1 by omega), if_neg (hhead h1)]
        exact choose_same ns fs l i _ _ (fun q hq => outs_lt hq) (by rw [elsC_outs]; exact hel)
      · rw [if_neg (show ¬ 1 < (Nt.outsL fs i).length by omega), if_pos hb1]
    · simp only [h, Int.reduceEq, reduceIte, or_self]
      unfold andS
      cases pass l (Nt.insL fs i) (Nt.outsL fs i) <;> rfl
    · simp only [h, Int.reduceEq, reduceIte, or_self]
      exact event_same ns fs l i _ hR hll hQ ha4 hi (by rw [hx]; exact h) _ fun f hf => hf
    · obtain ⟨y, hy, hy4⟩ := hR.msg hi (by rw [hx]; exact h)
      rw [hx] at hy
      simp only [h, Int.reduceEq, reduceIte, or_self]
      rw [hy, Int.toNat_natCast]
      exact catch_same ns l i 0 i y _ _ hll (by rw [List.getElem?_eq_getElem hi, hx]; exact hy) hy4 hQ ha4 hb4
  · have hr' : reachedB fs l i = false := by simpa using hr
    rw [if_neg hr, eD]
    have hz := unreached hR hS hr'
    rcases (by omega : x.kind = 1 ∨ x.kind = 2 ∨ x.kind = 3 ∨ x.kind = 4 ∨ x.kind = 5 ∨ x.kind = 6 ∨ x.kind = 7 ∨ x.kind = 8) with h | h | h | h | h | h | h | h
    · simp only [h, Int.reduceEq, reduceIte, or_self]
    all_goals
      have h0 := hin (by omega)
      have hh : l.getD ((Nt.insL fs i).headD 0) 0 = 0 := hz _ (head_mem h0)
    · simp only [h, Int.reduceEq, reduceIte]
      unfold endD
      rw [pass_none h0 hz, pass_none h0 (fun f hf => by rw [getD_high (by have := ha4 f hf; omega)]; exact hz f hf)]
      by_cases h1 : sumW (l.take 40) = 1
      · rw [if_pos h1]; rfl
      · rw [if_neg h1]; rfl
    · simp only [h, Int.reduceEq, reduceIte, true_or]
      unfold dataD; rw [if_pos hh]
    · simp only [h, Int.reduceEq, reduceIte, or_true]
      unfold dataD; rw [if_pos hh]
    · simp only [h, Int.reduceEq, reduceIte, or_self]
      unfold xorD
      by_cases h1 : (Nt.outsL fs i).length = 1
      · rw [if_pos h1]; exact (merge_none l i _ _ hz).symm
      · rw [if_neg h1, if_pos hh]
    · simp only [h, Int.reduceEq, reduceIte, or_self]
      rw [pass_none h0 hz]; rfl
    · simp only [h, Int.reduceEq, reduceIte, or_self]
      exact (event_none ns fs l i _ h0 ha4 hz _).symm
    · simp only [h, Int.reduceEq, reduceIte, or_self]
      exact (catch_none l _ _ _ _ _ _ h0 ha4 hz).symm
theorem flat_congr {α β : Type} (f g : α → List β) : ∀ (xs : List α), (∀ x ∈ xs, f x = g x) → xs.flatMap f = xs.flatMap g
 | [], _ => rfl
 | x :: r, h => by rw [List.flatMap_cons, List.flatMap_cons, h x (by simp), flat_congr f g r fun y hy => h y (by simp [hy])]
theorem range_tail {α : Type} (f : Nat → List α) (n : Nat) : ∀ k, (∀ i, n ≤ i → f i = []) → (List.range (n + k)).flatMap f = (List.range n).flatMap f
 | 0, _ => rfl
 | k + 1, h => by
   rw [← Nat.add_assoc, List.range_succ, List.flatMap_append, range_tail f n k h]
   simp [h (n + k) (by omega)]
theorem steps_same (ns : List Nd) (fs : List Fl) (l : List Int) (hl : l.length = 49) : allS ns fs l = stepsD ns fs l := by
 unfold allS stepsD
 by_cases hc : checkE ns fs l = 0
 ·rw [if_neg (by simpa using hc), if_neg (by simpa using hc)]
  obtain ⟨hR, hS, hQ⟩ := check_ok hl hc
  unfold stepsL
  by_cases hm : l.getD 48 0 = 0
  ·rw [if_neg (by simpa using hm), if_neg (by simpa using hm)]
   congr 1
   have h24 := hR.n24
   have e : (24 : Nat) = ns.length + (24 - ns.length) := by omega
   rw [e, range_tail _ _ _ (fun i hi => by
      rw [if_neg]
      intro h
      have := reached_lt hR h
      omega)]
   exact flat_congr _ _ _ fun i hi => node_same hR hS hQ (List.mem_range.1 hi)
  ·rw [if_pos hm, if_pos hm]
 ·rw [if_pos hc, if_pos hc]
end Gm
end Go.Proofs
namespace Go.Proofs
open Go.RowKit Go.Shelf
def Nt.lineN : List Nd := [⟨1, 0, .mk 0 0 []⟩, ⟨3, 0, .mk 0 0 []⟩, ⟨2, 0, .mk 0 0 []⟩]
def Nt.lineF : List Fl := [⟨0, 1, false, .mk 0 0 []⟩, ⟨1, 2, false, .mk 0 0 []⟩]
theorem Nt.line_met1 : ∀ i, i < 3 → Rk.met (Nt.edges Nt.lineF) 0 i = true := by
 have h := Nt.sweeps_met (es := Nt.edges Nt.lineF) (n := 3) (a := 0) (by decide) (by omega)
 have h2 : Rk.sweeps (Nt.edges Nt.lineF) 3 ((List.replicate 3 false).set 0 true) = [true, true, true] := by kernel_rfl
 rw [h2] at h
 intro i hi
 have := congrArg (fun l => l[i]?) h
 simp only [List.getElem?_map, List.getElem?_range hi, Option.map_some] at this
 match i, hi, this with
 | 0, _, t => simpa using t.symm
 | 1, _, t => simpa using t.symm
 | 2, _, t => simpa using t.symm
theorem Nt.line_met2 : ∀ i, i < 3 → Rk.met (Nt.edges Nt.lineF) i 2 = true := by
 have h := Nt.sweeps_met (es := Nt.back (Nt.edges Nt.lineF)) (n := 3) (a := 2) (by decide) (by omega)
 have h2 : Rk.sweeps (Nt.back (Nt.edges Nt.lineF)) 3 ((List.replicate 3 false).set 2 true) = [true, true, true] := by kernel_rfl
 rw [h2] at h
 intro i hi
 rw [← Nt.met_back]
 have := congrArg (fun l => l[i]?) h
 simp only [List.getElem?_map, List.getElem?_range hi, Option.map_some] at this
 match i, hi, this with
 | 0, _, t => simpa using t.symm
 | 1, _, t => simpa using t.symm
 | 2, _, t => simpa using t.symm
theorem Nt.line_check : Nt.checkN Nt.lineN Nt.lineF = (0, 0) := by
 have h : Nt.broken Nt.lineN Nt.lineF = (0, []) := Nt.broken_none fun i hi => by
  match i, hi with
  | 0, _ => show Nt.wrong1 Nt.lineN Nt.lineF = []; kernel_rfl
  | 1, _ => show Nt.wrong2 Nt.lineN Nt.lineF = []; kernel_rfl
  | 2, _ => show Nt.wrong3 Nt.lineN Nt.lineF = []; kernel_rfl
  | 3, _ =>
    show Nt.wrong4 Nt.lineN Nt.lineF = []
    unfold Nt.wrong4
    rw [List.filter_eq_nil_iff]
    intro i hi
    have hi3 : i < 3 := List.mem_range.1 hi
    have h1 : Nt.firstI Nt.lineN 1 = 0 := by kernel_rfl
    have h2 : Nt.firstI Nt.lineN 2 = 2 := by kernel_rfl
    unfold Nt.roadB
    rw [h1, h2]
    show ¬ (!(Rk.met (Nt.edges Nt.lineF) 0 i && Rk.met (Nt.edges Nt.lineF) i 2)) = true
    rw [Nt.line_met1 i hi3, Nt.line_met2 i hi3]
    simp
 rw [Nt.checkN, h]
 rfl
theorem Nt.line_has {w : World} {gn gf : Nat} (hn : w.heap[gn]? = some (.cells #[.int .i64 1, .int .i64 0, .int .i64 0, .int .i64 0, .slice none 0 0, .int .i64 3, .int .i64 0, .int .i64 0, .int .i64 0, .slice none 0 0, .int .i64 2, .int .i64 0, .int .i64 0, .int .i64 0, .slice none 0 0] 70 (0, 0)))
  (hf : w.heap[gf]? = some (.cells #[.int .i64 0, .int .i64 1, .bool false, .int .i64 0, .int .i64 0, .slice none 0 0, .int .i64 1, .int .i64 2, .bool false, .int .i64 0, .int .i64 0, .slice none 0 0] 73 (0, 0))) (k : Nat) : Nt.Has w w.heap.size 1 (some ⟨gn, 0, none⟩) (some ⟨gf, 0, none⟩) Nt.lineN (Nt.lineF.take k) := by
 have hln := Nt.lt_of hn
 have hlf := Nt.lt_of hf
 have hfl : ∀ x, x ∈ Nt.lineF.take k → x ∈ Nt.lineF := fun x hx => List.mem_of_mem_take hx
 refine ⟨fun j hj => ?_, fun j hj => ?_, by decide, Nat.le_trans (List.length_take_le' _ _) (by decide), fun x hx => ?_, fun x hx => ?_⟩
 ·have hj3 : j < 3 := hj
  match j, hj3 with
  | 0, _ => exact ⟨gn, 0, .slice none 0 0, rfl, hln, by unfold World.cell?; rw [hn]; rfl, by unfold World.cell?; rw [hn]; rfl, by unfold World.cell?; rw [hn]; rfl, by unfold World.cell?; rw [hn]; rfl, by unfold World.cell?; rw [hn]; rfl, ⟨none, 0, rfl, .inl rfl⟩⟩
  | 1, _ => exact ⟨gn, 0, .slice none 0 0, rfl, hln, by unfold World.cell?; rw [hn]; rfl, by unfold World.cell?; rw [hn]; rfl, by unfold World.cell?; rw [hn]; rfl, by unfold World.cell?; rw [hn]; rfl, by unfold World.cell?; rw [hn]; rfl, ⟨none, 0, rfl, .inl rfl⟩⟩
  | 2, _ => exact ⟨gn, 0, .slice none 0 0, rfl, hln, by unfold World.cell?; rw [hn]; rfl, by unfold World.cell?; rw [hn]; rfl, by unfold World.cell?; rw [hn]; rfl, by unfold World.cell?; rw [hn]; rfl, by unfold World.cell?; rw [hn]; rfl, ⟨none, 0, rfl, .inl rfl⟩⟩
 ·have hj2 : j < 2 := by have : (Nt.lineF.take k).length ≤ 2 := Nat.le_trans (List.length_take_le' _ _) (by decide); omega
  have hg : (Nt.lineF.take k)[j] = Nt.lineF[j]'hj2 := List.getElem_take
  rw [hg]
  match j, hj2 with
  | 0, _ => exact ⟨gf, 0, .slice none 0 0, rfl, hlf, by unfold World.cell?; rw [hf]; rfl, by unfold World.cell?; rw [hf]; rfl, by unfold World.cell?; rw [hf]; rfl, by unfold World.cell?; rw [hf]; rfl, by unfold World.cell?; rw [hf]; rfl, by unfold World.cell?; rw [hf]; rfl, ⟨none, 0, rfl, .inl rfl⟩⟩
  | 1, _ => exact ⟨gf, 0, .slice none 0 0, rfl, hlf, by unfold World.cell?; rw [hf]; rfl, by unfold World.cell?; rw [hf]; rfl, by unfold World.cell?; rw [hf]; rfl, by unfold World.cell?; rw [hf]; rfl, by unfold World.cell?; rw [hf]; rfl, by unfold World.cell?; rw [hf]; rfl, ⟨none, 0, rfl, .inl rfl⟩⟩
 ·simp only [Nt.lineN, List.mem_cons, List.not_mem_nil, or_false] at hx
  rcases hx with rfl | rfl | rfl <;> simp [Tm.size, Tm.sizes]
 ·have hx := hfl x hx
  simp only [Nt.lineF, List.mem_cons, List.not_mem_nil, or_false] at hx
  rcases hx with rfl | rfl <;> simp [Tm.size, Tm.sizes]
end Go.Proofs
