/-
  One step of a copy: a place's kids are copied.
-/
import Derived.Test.YtmpejbdmamgepaaDoorNtPart
namespace Go.Proofs
open Go.RowKit Go.Shelf

theorem Tm.Lies.deeper {W : World} {B : Nat} : ∀ {d e : Nat}, d ≤ e → ∀ {v : Value} {T : Tm}, Tm.Lies W B d v T → Tm.Lies W B e v T
  | 0, _, _, _, _, h => h.elim
  | d + 1, 0, hde, _, _, _ => by omega
  | d + 1, e + 1, hde, v, T, h => by
    obtain ⟨a, cap, hv, h⟩ := h
    refine ⟨a, cap, hv, h.elim .inl fun ⟨g, off, ha, hg, hr⟩ => .inr ⟨g, off, ha, hg, fun j hj => ?_⟩⟩
    obtain ⟨u, h0, h1, h2, h3⟩ := hr j hj
    exact ⟨u, h0, h1, h2, Tm.Lies.deeper (Nat.le_of_succ_le_succ hde) h3⟩
/-- Is a slice not nil? -/
def Pt.live : Value → Bool | .slice (some _) _ _ => true | _ => false
/-- The places of a copied term's kids, and those of them that are to be copied. -/
def Pt.kids (g : Nat) (ts : List Tm) : List Pl := (List.range ts.length).filterMap fun j => ts[j]?.map fun T => ⟨g, j * 3, T⟩
def Pt.todo (g : Nat) (us : List Value) : List (Nat × Nat) := ((List.range us.length).filter fun j => (us[j]?.map Pt.live).getD false).map fun j => (g, j * 3)
theorem Pt.mem_kids {g : Nat} {ts : List Tm} {y : Pl} : y ∈ Pt.kids g ts ↔ ∃ j, ∃ h : j < ts.length, y = ⟨g, j * 3, ts[j]⟩ := by
  unfold Pt.kids
  rw [List.mem_filterMap]
  constructor
  · rintro ⟨j, hj, hy⟩
    have hl := List.mem_range.1 hj
    rw [List.getElem?_eq_getElem hl] at hy
    exact ⟨j, hl, by simpa using hy.symm⟩
  · rintro ⟨j, hl, rfl⟩
    exact ⟨j, List.mem_range.2 hl, by rw [List.getElem?_eq_getElem hl]; rfl⟩
theorem Pt.mem_todo {g : Nat} {us : List Value} {s : Nat × Nat} : s ∈ Pt.todo g us ↔ ∃ j, ∃ h : j < us.length, s = (g, j * 3) ∧ Pt.live us[j] = true := by
  unfold Pt.todo
  rw [List.mem_map]
  constructor
  · rintro ⟨j, hj, rfl⟩
    obtain ⟨h1, h2⟩ := List.mem_filter.1 hj
    have hl := List.mem_range.1 h1
    rw [List.getElem?_eq_getElem hl] at h2
    exact ⟨j, hl, rfl, by simpa using h2⟩
  · rintro ⟨j, hl, rfl, h2⟩
    refine ⟨j, List.mem_filter.2 ⟨List.mem_range.2 hl, ?_⟩, rfl⟩
    rw [List.getElem?_eq_getElem hl]
    simpa using h2
theorem Pt.todo_nodup (g : Nat) (us : List Value) : (Pt.todo g us).Nodup := by
  unfold Pt.todo
  have h : ((List.range us.length).filter fun j => (us[j]?.map Pt.live).getD false).Nodup := List.Nodup.sublist List.filter_sublist List.nodup_range
  unfold List.Nodup at h ⊢
  rw [List.pairwise_map]
  exact h.imp fun hab e => hab (by have := (Prod.mk.inj e).2; omega)

theorem Pt.step {B d : Nat} {w W W1 : World} {L : List Pl} {S : List (Nat × Nat)} {b o g c : Nat} {T : Tm} {us : List Value} {cur : Array Value} (h : Pt.Inv B d w L (S ++ [(b, o)]) W) (hx : (⟨b, o, T⟩ : Pl) ∈ L)
    (hl : us.length = T.ks.length) (hu : ∀ j (hj : j < T.ks.length) (hj' : j < us.length), Tm.Lies W B d us[j] T.ks[j]) (hnil : ∀ j (hj : j < us.length), Pt.live us[j] = true ∨ ∃ n k, us[j] = .slice none n k)
    (hb1 : Below W.heap.size W W1) (hg : W.heap.size ≤ g) (hgc : W1.heap[g]? = some (.cells cur 35 (0, 0)))
    (hcur : ∀ j (hj : j < T.ks.length) (hj' : j < us.length), cur[j * 3]? = some (.int .i64 T.ks[j].op) ∧ cur[j * 3 + 1]? = some (.int .i64 T.ks[j].num) ∧ cur[j * 3 + 2]? = some us[j]) :
    Pt.Inv B d w (L ++ Pt.kids g T.ks) (S ++ Pt.todo g us) (W1.setCell ⟨b, o + 2, none⟩ (.slice (some ⟨g, 0, none⟩) T.ks.length c)) := by
  obtain ⟨⟨csb, tyb, hcb, htb⟩, hBb, -⟩ := h.at_ _ hx
  have hbW : b < W.heap.size := (Array.getElem?_eq_some_iff.1 hcb).1
  have hB : B ≤ W.heap.size := by simp only at hBb; omega
  have hne : g ≠ b := by omega
  have lt : ∀ y ∈ L, y.b < W.heap.size := fun y hy => by
    obtain ⟨⟨cs, ty, hc, _⟩, _⟩ := h.at_ y hy
    exact (Array.getElem?_eq_some_iff.1 hc).1
  have hnd := h.nodup
  rw [List.nodup_append] at hnd
  have hbS : (b, o) ∉ S := fun hm => hnd.2.2 _ hm _ (by simp) rfl
  -- blocks behind the store
  have blk : ∀ k, k ≠ b → (W1.setCell ⟨b, o + 2, none⟩ (.slice (some ⟨g, 0, none⟩) T.ks.length c)).heap[k]? = W1.heap[k]? := fun k hk => Below.heap_setCell _ _ _ _ hk
  have old : ∀ k, k < B → (W1.setCell ⟨b, o + 2, none⟩ (.slice (some ⟨g, 0, none⟩) T.ks.length c)).heap[k]? = W.heap[k]? := fun k hk => by
    rw [blk k (by simp only at hBb; omega), hb1.block k (by omega)]
  have hb1b : W1.heap[b]? = some (.cells csb tyb (0, 0)) := (hb1.block b hbW).trans hcb
  have hbb : (W1.setCell ⟨b, o + 2, none⟩ (.slice (some ⟨g, 0, none⟩) T.ks.length c)).heap[b]? = some (.cells (csb.setIfInBounds (o + 2) (.slice (some ⟨g, 0, none⟩) T.ks.length c)) tyb (0, 0)) := by
    simp [World.setCell, Array.getElem?_modify, hb1b]
  have cell : ∀ k i, (k ≠ b ∨ i ≠ o + 2) → k < W.heap.size → (W1.setCell ⟨b, o + 2, none⟩ (.slice (some ⟨g, 0, none⟩) T.ks.length c)).cell? ⟨k, i, none⟩ = W.cell? ⟨k, i, none⟩ := fun k i hki hk => by
    by_cases hkb : k = b
    · subst hkb
      have hi : i ≠ o + 2 := by omega
      simp only [World.cell?, hbb, hcb]
      rw [Array.getElem?_setIfInBounds_ne (by omega)]
    · rw [World.cell?_of_block (w := W1) (a := ⟨k, i, none⟩) (blk k hkb), World.cell?_of_block (w := W) (a := ⟨k, i, none⟩) (hb1.block k hk)]
  have typ : ∀ y ∈ L, ∃ cs ty, (W1.setCell ⟨b, o + 2, none⟩ (.slice (some ⟨g, 0, none⟩) T.ks.length c)).heap[y.b]? = some (.cells cs ty (0, 0)) ∧ ty ≠ 66 := fun y hy => by
    by_cases hyb : y.b = b
    · rw [hyb]; exact ⟨_, _, hbb, htb⟩
    · obtain ⟨⟨cs, ty, hc, ht⟩, _⟩ := h.at_ y hy
      exact ⟨cs, ty, by rw [blk _ hyb, hb1.block _ (lt y hy)]; exact hc, ht⟩
  refine ⟨?_, ?_, ?_, ?_, ?_⟩
  · exact (h.below.trans (hb1.mono hB)).setCell (p := ⟨b, o + 2, none⟩) hBb _
  · intro y hy
    rw [List.mem_append] at hy
    rcases hy with hy | hy
    · by_cases hyx : y.b = b ∧ y.o = o
      · have hyT : y.T = T := by
          rcases h.apart y hy _ hx hyx.1 with e | e | e
          · exact e.2
          · simp only at e; omega
          · simp only at e; omega
        obtain ⟨-, -, c0, c1, -⟩ := h.at_ y hy
        rw [hyx.1, hyx.2] at c0 c1
        refine ⟨typ y hy, by rw [hyx.1]; exact hBb, ?_, ?_, .slice (some ⟨g, 0, none⟩) T.ks.length c, ?_, .inr ⟨?_, ?_⟩⟩
        · rw [hyx.1, hyx.2, cell b o (by omega) hbW]; exact c0
        · rw [hyx.1, hyx.2, cell b (o + 1) (by omega) hbW]; exact c1
        · rw [hyx.1, hyx.2]
          obtain ⟨-, -, -, -, v, hv, -⟩ := h.at_ _ hx
          simp only [World.cell?, hcb] at hv
          simp only [World.cell?, hbb]
          rw [Array.getElem?_setIfInBounds_self_of_lt (Array.getElem?_eq_some_iff.1 hv).1]
          rfl
        · rw [hyx.1, hyx.2, List.mem_append]
          rintro (hm | hm)
          · exact hbS hm
          · obtain ⟨j, _, e, _⟩ := Pt.mem_todo.1 hm
            have := (Prod.mk.inj e).1
            omega
        · rw [hyT]
          refine ⟨_, _, rfl, .inr ⟨g, rfl, by omega, fun j hj => List.mem_append_right _ (Pt.mem_kids.2 ⟨j, hj, rfl⟩)⟩⟩
      · obtain ⟨-, hyB, c0, c1, v, hv, hd⟩ := h.at_ y hy
        have hoff : ∀ i, i ≤ 2 → y.b ≠ b ∨ y.o + i ≠ o + 2 := fun i hi => by
          by_cases e : y.b = b
          · rcases h.apart y hy _ hx e with e' | e' | e'
            · exact (hyx ⟨e, e'.1⟩).elim
            · simp only at e'; omega
            · simp only at e'; omega
          · exact .inl e
        refine ⟨typ y hy, hyB, ?_, ?_, v, ?_, ?_⟩
        · rw [cell y.b y.o (by simpa using hoff 0 (by omega)) (lt y hy)]; exact c0
        · rw [cell y.b (y.o + 1) (hoff 1 (by omega)) (lt y hy)]; exact c1
        · rw [cell y.b (y.o + 2) (hoff 2 (by omega)) (lt y hy)]; exact hv
        · have hnP : (y.b, y.o) ∉ Pt.todo g us := fun hm => by
            obtain ⟨j, _, e, _⟩ := Pt.mem_todo.1 hm
            have := (Prod.mk.inj e).1
            have := lt y hy
            omega
          have hno : (y.b, y.o) ≠ (b, o) := fun e => hyx ⟨(Prod.mk.inj e).1, (Prod.mk.inj e).2⟩
          rcases hd with ⟨hm, hL⟩ | ⟨hm, hD⟩
          · refine .inl ⟨?_, hL.keep old⟩
            rw [List.mem_append] at hm ⊢
            rcases hm with hm | hm
            · exact .inl hm
            · exact (hno (by simpa using hm)).elim
          · refine .inr ⟨fun hm' => ?_, hD.more fun z hz => List.mem_append_left _ hz⟩
            rw [List.mem_append] at hm'
            rcases hm' with hm' | hm'
            · exact hm (List.mem_append_left _ hm')
            · exact hnP hm'
    · obtain ⟨j, hj, rfl⟩ := Pt.mem_kids.1 hy
      have hj' : j < us.length := by omega
      obtain ⟨c0, c1, c2⟩ := hcur j hj hj'
      have hgg : (W1.setCell ⟨b, o + 2, none⟩ (.slice (some ⟨g, 0, none⟩) T.ks.length c)).heap[g]? = some (.cells cur 35 (0, 0)) := (blk g hne).trans hgc
      refine ⟨⟨cur, _, hgg, by decide⟩, by show B ≤ g; omega, ?_, ?_, us[j], ?_, ?_⟩
      · simp only [World.cell?, hgg]; exact c0
      · simp only [World.cell?, hgg]; exact c1
      · simp only [World.cell?, hgg]; exact c2
      · rcases hnil j hj' with hlv | ⟨n, k, hz⟩
        · exact .inl ⟨List.mem_append_right _ (Pt.mem_todo.2 ⟨j, hj', rfl, hlv⟩), (hu j hj hj').keep old⟩
        · refine .inr ⟨fun hm => ?_, ?_⟩
          · rw [List.mem_append] at hm
            rcases hm with hm | hm
            · obtain ⟨x, hxL, e⟩ := h.places _ (List.mem_append_left _ hm)
              have h1 : x.b = g := (Prod.mk.inj e).1
              have h2 := lt x hxL
              omega
            · obtain ⟨j', hj2, e, hlv⟩ := Pt.mem_todo.1 hm
              have h1 : j * 3 = j' * 3 := (Prod.mk.inj e).2
              obtain rfl : j = j' := by omega
              rw [hz] at hlv
              cases hlv
          · have hL := hu j hj hj'
            rw [hz] at hL
            cases d with
            | zero => exact hL.elim
            | succ d =>
              obtain ⟨a', c', hv', hk⟩ := hL
              simp only [Value.slice.injEq] at hv'
              obtain ⟨rfl, hn, rfl⟩ := hv'
              rcases hk with hk | ⟨g', o', ha', _⟩
              · exact ⟨none, k, by rw [hz, hn], .inl hk⟩
              · cases ha'
  · intro x1 h1 x2 h2 e
    rw [List.mem_append] at h1 h2
    rcases h1 with h1 | h1 <;> rcases h2 with h2 | h2
    · exact h.apart x1 h1 x2 h2 e
    · obtain ⟨j, hj, rfl⟩ := Pt.mem_kids.1 h2
      have := lt x1 h1
      simp only at e
      omega
    · obtain ⟨j, hj, rfl⟩ := Pt.mem_kids.1 h1
      have := lt x2 h2
      simp only at e
      omega
    · obtain ⟨j, hj, rfl⟩ := Pt.mem_kids.1 h1
      obtain ⟨j', hj', rfl⟩ := Pt.mem_kids.1 h2
      by_cases hjj : j = j'
      · subst hjj; exact .inl ⟨rfl, rfl⟩
      · simp only; omega
  · rw [List.nodup_append]
    refine ⟨hnd.1, Pt.todo_nodup g us, fun s hs t ht e => ?_⟩
    subst e
    obtain ⟨x, hxL, e⟩ := h.places _ (List.mem_append_left _ hs)
    obtain ⟨j, _, e', _⟩ := Pt.mem_todo.1 ht
    have h2 := lt x hxL
    rw [e'] at e
    have h1 := (Prod.mk.inj e).1
    omega
  · intro s hs
    rw [List.mem_append] at hs
    rcases hs with hs | hs
    · obtain ⟨x, hxL, e⟩ := h.places _ (List.mem_append_left _ hs)
      exact ⟨x, List.mem_append_left _ hxL, e⟩
    · obtain ⟨j, hj, rfl, _⟩ := Pt.mem_todo.1 hs
      have hjk : j < T.ks.length := by omega
      exact ⟨⟨g, j * 3, T.ks[j]⟩, List.mem_append_right _ (Pt.mem_kids.2 ⟨j, hjk, rfl⟩), rfl⟩

/-- A place without kids is copied. -/
theorem Pt.step0 {B d : Nat} {w W : World} {L : List Pl} {S : List (Nat × Nat)} {b o c : Nat} {a : Option Addr} {T : Tm} (h : Pt.Inv B d w L (S ++ [(b, o)]) W) (hx : (⟨b, o, T⟩ : Pl) ∈ L) (hk : T.ks = []) :
    Pt.Inv B d w L S (W.setCell ⟨b, o + 2, none⟩ (.slice a 0 c)) := by
  obtain ⟨⟨csb, tyb, hcb, htb⟩, hBb, -⟩ := h.at_ _ hx
  have hbW : b < W.heap.size := (Array.getElem?_eq_some_iff.1 hcb).1
  have hnd := h.nodup
  rw [List.nodup_append] at hnd
  have hbS : (b, o) ∉ S := fun hm => hnd.2.2 _ hm _ (by simp) rfl
  have blk : ∀ k, k ≠ b → (W.setCell ⟨b, o + 2, none⟩ (.slice a 0 c)).heap[k]? = W.heap[k]? := fun k hk => Below.heap_setCell _ _ _ _ hk
  have old : ∀ k, k < B → (W.setCell ⟨b, o + 2, none⟩ (.slice a 0 c)).heap[k]? = W.heap[k]? := fun k hk => blk k (by simp only at hBb; omega)
  have hbb : (W.setCell ⟨b, o + 2, none⟩ (.slice a 0 c)).heap[b]? = some (.cells (csb.setIfInBounds (o + 2) (.slice a 0 c)) tyb (0, 0)) := by
    have hcb' : W.heap[b]? = some (.cells csb tyb (0, 0)) := hcb
    simp [World.setCell, Array.getElem?_modify, hcb']
  have cell : ∀ k i, (k ≠ b ∨ i ≠ o + 2) → (W.setCell ⟨b, o + 2, none⟩ (.slice a 0 c)).cell? ⟨k, i, none⟩ = W.cell? ⟨k, i, none⟩ := fun k i hki => by
    by_cases hkb : k = b
    · subst hkb
      simp only [World.cell?, hbb, hcb]
      rw [Array.getElem?_setIfInBounds_ne (by omega)]
    · rw [World.cell?_of_block (w := W) (a := ⟨k, i, none⟩) (blk k hkb)]
  refine ⟨h.below.setCell (p := ⟨b, o + 2, none⟩) hBb _, ?_, h.apart, hnd.1, fun s hs => h.places s (List.mem_append_left _ hs)⟩
  intro y hy
  have typ : ∃ cs ty, (W.setCell ⟨b, o + 2, none⟩ (.slice a 0 c)).heap[y.b]? = some (.cells cs ty (0, 0)) ∧ ty ≠ 66 := by
    by_cases hyb : y.b = b
    · rw [hyb]; exact ⟨_, _, hbb, htb⟩
    · obtain ⟨⟨cs, ty, hc, ht⟩, _⟩ := h.at_ y hy
      exact ⟨cs, ty, by rw [blk _ hyb]; exact hc, ht⟩
  by_cases hyx : y.b = b ∧ y.o = o
  · have hyT : y.T = T := by
      rcases h.apart y hy _ hx hyx.1 with e | e | e
      · exact e.2
      · simp only at e; omega
      · simp only at e; omega
    obtain ⟨-, -, c0, c1, -⟩ := h.at_ y hy
    rw [hyx.1, hyx.2] at c0 c1
    refine ⟨typ, by rw [hyx.1]; exact hBb, ?_, ?_, .slice a 0 c, ?_, .inr ⟨by rw [hyx.1, hyx.2]; exact hbS, ?_⟩⟩
    · rw [hyx.1, hyx.2, cell b o (by omega)]; exact c0
    · rw [hyx.1, hyx.2, cell b (o + 1) (by omega)]; exact c1
    · rw [hyx.1, hyx.2]
      obtain ⟨-, -, -, -, v, hv, -⟩ := h.at_ _ hx
      simp only [World.cell?, hcb] at hv
      simp only [World.cell?, hbb]
      rw [Array.getElem?_setIfInBounds_self_of_lt (Array.getElem?_eq_some_iff.1 hv).1]
      rfl
    · rw [hyT]
      exact ⟨a, c, by rw [hk]; rfl, .inl hk⟩
  · obtain ⟨-, hyB, c0, c1, v, hv, hd⟩ := h.at_ y hy
    have hoff : ∀ i, i ≤ 2 → y.b ≠ b ∨ y.o + i ≠ o + 2 := fun i hi => by
      by_cases e : y.b = b
      · rcases h.apart y hy _ hx e with e' | e' | e'
        · exact (hyx ⟨e, e'.1⟩).elim
        · simp only at e'; omega
        · simp only at e'; omega
      · exact .inl e
    have hno : (y.b, y.o) ≠ (b, o) := fun e => hyx ⟨(Prod.mk.inj e).1, (Prod.mk.inj e).2⟩
    refine ⟨typ, hyB, ?_, ?_, v, ?_, ?_⟩
    · rw [cell y.b y.o (by simpa using hoff 0 (by omega))]; exact c0
    · rw [cell y.b (y.o + 1) (hoff 1 (by omega))]; exact c1
    · rw [cell y.b (y.o + 2) (hoff 2 (by omega))]; exact hv
    · rcases hd with ⟨hm, hL⟩ | ⟨hm, hD⟩
      · refine .inl ⟨?_, hL.keep old⟩
        rw [List.mem_append] at hm
        rcases hm with hm | hm
        · exact hm
        · exact (hno (by simpa using hm)).elim
      · exact .inr ⟨fun hm' => hm (List.mem_append_left _ hm'), hD⟩
/-- What is copied so far stays so where other blocks change, or new ones come. -/
theorem Pt.Inv.keep {B d : Nat} {w W W' : World} {L : List Pl} {S : List (Nat × Nat)} (h : Pt.Inv B d w L S W) (hb : Below B W W') (hk : ∀ x ∈ L, W'.heap[x.b]? = W.heap[x.b]?) : Pt.Inv B d w L S W' := by
  refine ⟨h.below.trans hb, fun x hx => ?_, h.apart, h.nodup, h.places⟩
  obtain ⟨⟨cs, ty, hc, ht⟩, hB, c0, c1, v, hv, hd⟩ := h.at_ x hx
  have hcl : ∀ i, W'.cell? ⟨x.b, i, none⟩ = W.cell? ⟨x.b, i, none⟩ := fun i => World.cell?_of_block (w := W) (hk x hx)
  refine ⟨⟨cs, ty, (hk x hx).trans hc, ht⟩, hB, by rw [hcl]; exact c0, by rw [hcl]; exact c1, v, by rw [hcl]; exact hv, ?_⟩
  rcases hd with ⟨hm, hL⟩ | hD
  · exact .inl ⟨hm, hL.keep hb.block⟩
  · exact .inr hD
/-- A row's first elements. -/
theorem Pt.own_take {W : World} {B : Nat} {e : TypeId} {a : Option Addr} {n c m : Nat} {xs : List Value} (h : W.ownsRow B e 1 (.slice a n c) n xs) (hm : m ≤ n) : W.ownsRow B e 1 (.slice a m c) m (xs.take m) := by
  rcases h with ⟨hl, ⟨hv, hn⟩ | ⟨g, cap, cur, hv, h1, h2, h3, h4, h5, h6⟩⟩
  · simp only [Value.slice.injEq] at hv
    obtain rfl : m = 0 := by omega
    exact ⟨by simp, .inl ⟨by rw [hv.1, hv.2.2], rfl⟩⟩
  · simp only [Value.slice.injEq] at hv
    obtain ⟨rfl, -, rfl⟩ := hv
    refine ⟨by rw [List.length_take]; omega, .inr ⟨g, c, cur, rfl, h1, h2, by omega, h4, h5, ?_⟩⟩
    rw [← h6, List.take_take]
    congr 1
    omega

end Go.Proofs
