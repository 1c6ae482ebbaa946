/-
  The document's Open and Close.
-/
import Derived.Test.YtdclfmmmlicaaaaPsDoc
namespace Go.Proofs
open Go.RowKit Go.Shelf Go.Maps

theorem Try.infoBox : (Try.prog.info? 38).map (fun i => (i.zero, i.size, i.bytes)) = some (some (.agg #[.int .i64 0, .int .i64 0, .int .i64 0, .int .i64 0, .int .i64 0]), 5, 40) := by kernel_rfl

theorem Ps.Ix.has {M : Ps.Ofc} {k : Int} {i : Nat} (h : i < M.length) (e : M[i].1 = k) : Ps.has M k = true := by
  rw [Ps.has_iff]
  exact List.mem_map.2 ⟨M[i], List.getElem_mem h, e⟩

theorem Ps.Dc.stored {B q : Nat} {v v' : Value} {M' : Ps.Ofc} {w : World} (h : w.heap[q]? = some (.cells #[v] 29 (0, 0))) (ho : w.ownsRow B 38 5 v' M'.length (Ps.cells M')) : Ps.Dc B q v' M' (w.setCell ⟨q, 0, none⟩ v') := by
  refine ⟨by simp [World.setCell, Array.getElem?_modify, h], ho.1, ?_⟩
  rcases ho.2 with hn | ⟨g, cap, cur, e, h3, h4, h5⟩
  · exact .inl hn
  · have hne : g ≠ q := by
      intro e
      rw [e, h] at h4
      simp at h4
    exact .inr ⟨g, cap, cur, e, h3, (Below.heap_setCell _ _ _ _ (by exact hne)).trans h4, h5⟩

set_option maxRecDepth 20000 in
set_option maxHeartbeats 1600000 in
theorem Try.rOpen_any (B q : Nat) (v : Value) (M : Ps.Ofc) (k : Int) (w : World) (h : Ps.Dc B q v M w) (hB : B ≤ w.heap.size) (hlen : M.length ≤ 8) :
    Calls Try.prog 20 #[.pointer (some ⟨q, 0, none⟩), .int .i64 k] w fun e w' => e = .returned (.int .i64 (Ps.openE M k)) ∧ (∃ v', Ps.Dc B q v' (Ps.openM M k) w' ∧ ∀ g, v'.ownBlock = some g → v.ownBlock = some g ∨ w.heap.size ≤ g) ∧ Tk.But (fun x => x = q ∨ v.ownBlock = some x) w w' := by
  obtain ⟨i0, hi, hz0, hz1, hz2⟩ := info_parts Try.infoBox
  by_cases h1 : k < 0
  · have e1 : Ps.openE M k = 1 := by unfold Ps.openE; rw [if_pos (Or.inl h1)]
    have e2 : Ps.openM M k = M := by unfold Ps.openM; rw [e1, if_neg (by omega)]
    rw [e1, e2]
    have d1 : decide (k < 0) = true := decide_eq_true h1
    have H : Hid (Ps.Dc B q v M w) := h
    clear h e1 e2 h1
    go_enter Try.func20, Try.ntmps20
    go_wp2
    go_ret
    exact ⟨rfl, ⟨v, H.out, fun g e => .inl e⟩, Tk.But.refl _ _⟩
  have d1 : decide (k < 0) = false := decide_eq_false h1
  by_cases h2 : 999 < k
  · have e1 : Ps.openE M k = 1 := by unfold Ps.openE; rw [if_pos (Or.inr h2)]
    have e2 : Ps.openM M k = M := by unfold Ps.openM; rw [e1, if_neg (by omega)]
    rw [e1, e2]
    have d2 : decide (999 < k) = true := decide_eq_true h2
    have H : Hid (Ps.Dc B q v M w) := h
    clear h e1 e2 h1 h2
    go_enter Try.func20, Try.ntmps20
    go_wp2
    go_ret
    exact ⟨rfl, ⟨v, H.out, fun g e => .inl e⟩, Tk.But.refl _ _⟩
  have d2 : decide (999 < k) = false := decide_eq_false h2
  have hor : ¬ (k < 0 ∨ 999 < k) := by omega
  have HC : Hid _ := Try.rAt_any B q v M k w h hlen
  have HO : Hid (¬ (k < 0 ∨ 999 < k)) := hor
  have H : Hid (Ps.Dc B q v M w) := h
  clear h h1 h2 hor
  go_enter Try.func20, Try.ntmps20
  go_wp2_with fail
  refine Calls.mono HC.out ?_
  rintro e W1 ⟨⟨r, rfl, hr⟩, hb⟩
  have h1 := H.out.below hb (Nat.le_refl _)
  have c1 := h1.cell
  have HB : Hid (Below w.heap.size w W1 ∧ Ps.Dc B q v M W1) := ⟨hb, h1⟩
  clear HC
  rcases hr with ⟨rfl, hh⟩ | ⟨i, hil, rfl, hik⟩
  · obtain ⟨n, hn⟩ : ∃ n, M.length = n := ⟨_, rfl⟩
    obtain ⟨a, c, hv⟩ := h1.shape
    rw [hn] at hv
    subst hv
    have HN : Hid (M.length = n ∧ Ps.has M k = false) := ⟨hn, hh⟩
    by_cases h4 : 8 ≤ n
    · have e1 : Ps.openE M k = 5 := by unfold Ps.openE; rw [if_neg HO.out, hh, if_neg (by simp), hn, if_pos h4]
      have e2 : Ps.openM M k = M := by unfold Ps.openM; rw [e1, if_neg (by omega)]
      have HE : Hid (Ps.openE M k = 5 ∧ Ps.openM M k = M) := ⟨e1, e2⟩
      have d4 : decide (7 < (n : Int)) = true := decide_eq_true (by omega)
      have d4' : decide (7 < n) = true := decide_eq_true (by omega)
      clear e1 e2 hh hn h4 h1 hb
      go_wp2
      go_ret
      rw [HE.out.1, HE.out.2]
      exact ⟨rfl, ⟨_, HB.out.2, fun g e => .inl e⟩, Tk.But.of_below HB.out.1⟩
    · have e1 : Ps.openE M k = 0 := by unfold Ps.openE; rw [if_neg HO.out, hh, if_neg (by simp), hn, if_neg h4]
      have e2 : Ps.openM M k = M ++ [(k, Bx.none)] := by unfold Ps.openM; rw [e1, if_pos rfl]
      have HE : Hid (Ps.openE M k = 0 ∧ Ps.openM M k = M ++ [(k, Bx.none)]) := ⟨e1, e2⟩
      have d4 : decide (7 < (n : Int)) = false := decide_eq_false (by omega)
      have d4' : decide (7 < n) = false := decide_eq_false (by omega)
      have h2 := h1.alloc (.cells #[.int .i64 k, .int .i64 0, .int .i64 0, .int .i64 0, .int .i64 0] 38)
      have hs2 : B ≤ (W1.alloc (.cells #[.int .i64 k, .int .i64 0, .int .i64 0, .int .i64 0, .int .i64 0] 38)).heap.size := by
        have := hb.size
        simp
        omega
      have own2 := h2.2
      rw [hn] at own2
      have H2 : Hid (Ps.Dc B q (.slice a n c) M (W1.alloc (.cells #[.int .i64 k, .int .i64 0, .int .i64 0, .int .i64 0, .int .i64 0] 38))) := h2
      have Hne : Hid (some q ≠ (Value.slice a n c).ownBlock) := fun e => (h2.row e.symm).2.2 rfl
      have Hq : Hid (q < (W1.alloc (.cells #[.int .i64 k, .int .i64 0, .int .i64 0, .int .i64 0, .int .i64 0] 38)).heap.size) := h2.lt
      have HS : Hid (w.heap.size ≤ W1.heap.size) := hb.size
      clear e1 e2 hh hn h1 h2 hb
      go_wp2_with (at_builtin; refine wpList_append_lies _ rfl _ _ 27 rfl B 38 i0 (.agg #[.int .i64 0, .int .i64 0, .int .i64 0, .int .i64 0, .int .i64 0]) 5 40 Try.underlying27 hi hz0 hz1 hz2 rfl (by decide) _ _ _ rfl own2 ⟨W1.heap.size, 0, none⟩ 1 1 [.int .i64 k, .int .i64 0, .int .i64 0, .int .i64 0, .int .i64 0] rfl rfl (World.news_of_block (heap_alloc_new _ _)) (Ps.oneCell [(k, Bx.none)]) (by decide) (by unfold maxLen; omega) (by omega) hs2 _ rfl ?_; intro g cap w2 own3 hgrow hloc hlt; have c2 := (hgrow.cell_far ⟨q, 0, none⟩ Hq.out Hne.out).trans H2.out.cell; have z2 := (hgrow.frozen_far ⟨q, 0, none⟩ Hq.out Hne.out).trans H2.out.frozen)
      go_ret
      rw [HE.out.1, HE.out.2]
      have hq2 : w2.heap[q]? = some (.cells #[Value.slice a n c] 29 (0, 0)) := (hgrow.block q Hq.out Hne.out).trans H2.out.1
      have own4 : w2.ownsRow B 38 5 (.slice (some ⟨g, 0, none⟩) (n + 1) cap) (M ++ [(k, Bx.none)]).length (Ps.cells (M ++ [(k, Bx.none)])) := by
        rw [Ps.cells_append, List.length_append, HN.out.1]
        exact own3
      refine ⟨rfl, ⟨_, Ps.Dc.stored hq2 own4, fun g' hg' => ?_⟩, ?_⟩
      · have : g' = g := by simpa [Value.ownBlock] using hg'.symm
        subst this
        rcases hloc with hl | hl
        · exact .inl hl
        · refine .inr ?_
          rw [hl]
          have := HS.out
          simp
          omega
      · have q1 : Tk.But (fun x => x = q ∨ (Value.slice a n c).ownBlock = some x) w (W1.alloc (.cells #[.int .i64 k, .int .i64 0, .int .i64 0, .int .i64 0, .int .i64 0] 38)) := (Tk.But.of_below HB.out.1).alloc _
        refine (q1.trans ⟨hgrow.os, hgrow.tape, hgrow.output, hgrow.size, fun j hj he => hgrow.block j hj (fun e => he (.inr e.symm))⟩).setCell (p := ⟨q, 0, none⟩) (.inl rfl) _
  · have hh : Ps.has M k = true := Ps.Ix.has hil hik
    have e1 : Ps.openE M k = 8 := by unfold Ps.openE; rw [if_neg HO.out, hh, if_pos rfl]
    have e2 : Ps.openM M k = M := by unfold Ps.openM; rw [e1, if_neg (by omega)]
    have HE : Hid (Ps.openE M k = 8 ∧ Ps.openM M k = M) := ⟨e1, e2⟩
    have d5 : decide (0 ≤ (i : Int)) = true := decide_eq_true (by omega)
    clear e1 e2 hh hil hik h1 hb
    go_wp2
    go_ret
    rw [HE.out.1, HE.out.2]
    exact ⟨rfl, ⟨_, HB.out.2, fun g e => .inl e⟩, Tk.But.of_below HB.out.1⟩

theorem Ps.own_shape {w : World} {base n : Nat} {e : TypeId} {size : Nat} {v : Value} {xs : List Value} (h : w.ownsRow base e size v n xs) : ∃ a c, v = .slice a n c := by
  rcases h.2 with ⟨rfl, hn⟩ | ⟨g', cap, cur, rfl, h3, _⟩
  · exact ⟨none, 0, by rw [hn]⟩
  · exact ⟨_, _, rfl⟩
theorem Ps.own_shape' {w : World} {base n : Nat} {e : TypeId} {size : Nat} {v : Value} {xs : List Value} (h : w.ownsRow base e size v n xs) : ∃ a n' c, Hid (n' = n) ∧ v = .slice a n' c := by
  obtain ⟨a, c, rfl⟩ := Ps.own_shape h
  exact ⟨a, n, c, rfl, rfl⟩
theorem Ps.own_base {w : World} {base g n : Nat} {e : TypeId} {size : Nat} {v : Value} {xs : List Value} (h : w.ownsRow base e size v n xs) (hg : v.ownBlock = some g) : base ≤ g := by
  rcases h.2 with ⟨rfl, _⟩ | ⟨g', cap, cur, rfl, h3, _⟩
  · cases hg
  · have : g' = g := by simpa [Value.ownBlock] using hg
    omega
/-- The cells of the row. -/
theorem Ps.Dc.news {B q g n c : Nat} {M : Ps.Ofc} {w : World} (h : Ps.Dc B q (.slice (some ⟨g, 0, none⟩) n c) M w) : ∀ j u, (Ps.cells M)[j]? = some u → w.cell? ⟨g, j, none⟩ = some u := by
  intro j u hu
  rcases h.2.2 with ⟨hv, _⟩ | ⟨g', cap, cur, hv, h3, h4, h5, _, h6, h7⟩
  · cases hv
  · have hg : g = g' := by
      have := (Value.slice.inj hv).1
      simpa using this
    subst hg
    rw [← h7, List.getElem?_take] at hu
    split at hu
    · simp only [World.cell?, h4]
      rw [← hu, Array.getElem?_toList]
      rfl
    · cases hu
theorem Ps.cut_at {M : Ps.Ofc} {k : Int} (hn : (Ps.key M).Nodup) {i : Nat} (h : i < M.length) (e : M[i].1 = k) : Ps.cut M k = M.take i ++ M.drop (i + 1) := by
  induction M generalizing i with
  | nil => simp at h
  | cons p M ih =>
    have hn' : p.1 ∉ Ps.key M ∧ (Ps.key M).Nodup := by simpa [Ps.key] using hn
    have e1 : Ps.cut (p :: M) k = if p.1 = k then Ps.cut M k else p :: Ps.cut M k := by
      simp only [Ps.cut, List.filter_cons]
      by_cases h : p.1 = k <;> simp [h]
    cases i with
    | zero =>
      have e' : p.1 = k := e
      rw [e1, if_pos e']
      have hm : k ∉ Ps.key M := by rw [← e']; exact hn'.1
      have c1 : Ps.cut M k = M := by
        refine List.filter_eq_self.2 fun q hq => ?_
        have : q.1 ≠ k := fun e => hm (by rw [← e]; exact List.mem_map.2 ⟨q, hq, rfl⟩)
        simp [this]
      rw [c1]
      simp
    | succ i =>
      have h' : i < M.length := by simpa using h
      have e' : M[i].1 = k := e
      have hne : ¬ p.1 = k := by
        intro ep
        exact hn'.1 (by rw [ep, ← e']; exact List.mem_map.2 ⟨M[i], List.getElem_mem h', rfl⟩)
      rw [e1, if_neg hne, ih hn'.2 h' e']
      simp

set_option maxRecDepth 20000 in
set_option maxHeartbeats 1600000 in
theorem Try.rClose_any (B q : Nat) (v : Value) (M : Ps.Ofc) (k : Int) (w : World) (h : Ps.Dc B q v M w) (hB : B ≤ w.heap.size) (hlen : M.length ≤ 8) (hnd : (Ps.key M).Nodup) :
    Calls Try.prog 21 #[.pointer (some ⟨q, 0, none⟩), .int .i64 k] w fun e w' => e = .returned (.int .i64 (Ps.closeE M k)) ∧ (∃ v', Ps.Dc B q v' (Ps.cut M k) w' ∧ ∀ g, v'.ownBlock = some g → v.ownBlock = some g ∨ w.heap.size ≤ g) ∧ Tk.But (fun x => x = q ∨ v.ownBlock = some x) w w' := by
  obtain ⟨i0, hi, hz0, hz1, hz2⟩ := info_parts Try.infoBox
  have HC : Hid _ := Try.rAt_any B q v M k w h hlen
  have H : Hid (Ps.Dc B q v M w) := h
  clear h
  go_enter Try.func21, Try.ntmps21
  go_wp2_with fail
  refine Calls.mono HC.out ?_
  rintro e W1 ⟨⟨r, rfl, hr⟩, hb⟩
  have h1 := H.out.below hb (Nat.le_refl _)
  have c1 := h1.cell
  have HB : Hid (Below w.heap.size w W1 ∧ Ps.Dc B q v M W1) := ⟨hb, h1⟩
  clear HC
  rcases hr with ⟨rfl, hh⟩ | ⟨i, hil, rfl, hik⟩
  · have e1 : Ps.closeE M k = 6 := by unfold Ps.closeE; rw [hh]; rfl
    have e2 : Ps.cut M k = M := by
      have hm : k ∉ Ps.key M := fun e => by rw [Ps.has_iff.2 e] at hh; cases hh
      refine List.filter_eq_self.2 fun p hp => ?_
      have : p.1 ≠ k := fun e => hm (by rw [← e]; exact List.mem_map.2 ⟨p, hp, rfl⟩)
      simp [this]
    have HE : Hid (Ps.closeE M k = 6 ∧ Ps.cut M k = M) := ⟨e1, e2⟩
    clear e1 e2 hh h1 hb
    go_wp2
    go_ret
    rw [HE.out.1, HE.out.2]
    exact ⟨rfl, ⟨_, HB.out.2, fun g e => .inl e⟩, Tk.But.of_below HB.out.1⟩
  · have hh : Ps.has M k = true := Ps.Ix.has hil hik
    have e1 : Ps.closeE M k = 0 := by unfold Ps.closeE; rw [hh]; rfl
    have HE : Hid (Ps.closeE M k = 0 ∧ Ps.cut M k = M.take i ++ M.drop (i + 1)) := ⟨e1, Ps.cut_at hnd hil hik⟩
    obtain ⟨g, c, hv, hg, hnc, -⟩ := h1.at hil
    obtain ⟨n, hn⟩ : ∃ n, M.length = n := ⟨_, rfl⟩
    rw [hn] at hv hil hnc hlen
    subst hv
    have hcm : c ≤ maxLen := by
      rcases h1.2.2 with ⟨hv, _⟩ | ⟨g', cap, cur, hv, h3, h4, h5, h6, _⟩
      · cases hv
      · have := (Value.slice.inj hv).2.2
        omega
    have hq1 := h1.lt
    have hgq : some q ≠ some g := fun e => (h1.row (g := g) rfl).2.2 (Option.some.inj e).symm
    have d0 : decide ((i : Int) < 0) = false := decide_eq_false (by omega)
    have l1 : (i : Int) ≤ c := by omega
    have l2 : (0 : Int) ≤ i := by omega
    have l3 : (i : Int) + 1 ≤ n := by omega
    have l4 : (n : Int) ≤ c := by omega
    have own1 : W1.ownsRow W1.heap.size 38 5 (.slice none 0 0) 0 [] := ⟨rfl, .inl ⟨rfl, rfl⟩⟩
    have n1 : ∀ j u, (Ps.cells (M.take i))[j]? = some u → W1.cell? ((⟨g, 0, none⟩ : Addr).add j) = some u := by
      intro j u hu
      have hadd : (⟨g, 0, none⟩ : Addr).add j = ⟨g, j, none⟩ := by unfold Addr.add; split <;> simp_all
      rw [hadd]
      rw [Ps.cells_take, List.getElem?_take] at hu
      split at hu
      · exact h1.news j u hu
      · cases hu
    have m1 : (Ps.cells (M.take i)).length = i * 5 := by rw [Ps.cells_length, List.length_take]; congr 1; omega
    have HD : Hid (Ps.Dc B q (.slice (some ⟨g, 0, none⟩) n c) M W1) := h1
    have HN : Hid (M.length = n) := hn
    clear e1 hh hik hn hb h1
    go_upto_region 6 with (at_builtin; refine wpList_append_own _ rfl _ _ 27 rfl W1.heap.size 38 i0 (.agg #[.int .i64 0, .int .i64 0, .int .i64 0, .int .i64 0, .int .i64 0]) 5 40 Try.underlying27 hi hz0 hz1 hz2 rfl (by decide) (.slice none 0 0) 0 [] rfl own1 ⟨g, 0, none⟩ i c (Ps.cells (M.take i)) rfl m1 n1 (Ps.oneCell _) (by unfold maxLen; omega) (by omega) (Nat.le_refl _) ?_; intro v2 w2 own2 hgrow2' _; have hgrow2 : W1.grownBy w2 none := hgrow2'; clear hgrow2'; have c2 := (hgrow2.cell_far ⟨q, 0, none⟩ hq1 (by simp)).trans HD.out.cell)
    have z2 := (hgrow2.frozen_far ⟨q, 0, none⟩ hq1 (by simp)).trans HD.out.frozen
    have HQ2 : Hid (q < w2.heap.size) := Nat.lt_of_lt_of_le hq1 hgrow2.size
    have HV2 : Hid (some q ≠ v2.ownBlock) := fun e => by
      have := Ps.own_base own2 e.symm
      omega
    by_cases hci : c = i + 1
    · subst hci
      have HZ : Hid (Ps.cells (M.drop (i + 1)) = []) := by
        show _ = _
        rw [List.drop_eq_nil_of_le (by rw [HN.out]; omega)]
        rfl
      have hml : (Ps.cells []).length = 0 * 5 := rfl
      have hnw : ∀ j u, (Ps.cells [])[j]? = some u → w2.cell? ((⟨g, 0, none⟩ : Addr).add j) = some u := (fun j u hu => by cases hu)
      go_wp2_with (at_builtin; refine wpList_append_own _ rfl _ _ 27 rfl W1.heap.size 38 i0 (.agg #[.int .i64 0, .int .i64 0, .int .i64 0, .int .i64 0, .int .i64 0]) 5 40 Try.underlying27 hi hz0 hz1 hz2 rfl (by decide) _ _ _ rfl own2 ⟨g, 0, none⟩ 0 0 (Ps.cells []) rfl hml hnw (Ps.oneCell _) (by unfold maxLen; omega) (by omega) hgrow2.size ?_; intro v3 w3 own3 hgrow3 _; obtain ⟨a3, n3, k3, HN3, rfl⟩ := Ps.own_shape' own3; have c3 := (hgrow3.cell_far ⟨q, 0, none⟩ HQ2.out HV2.out).trans c2; have z3 := (hgrow3.frozen_far ⟨q, 0, none⟩ HQ2.out HV2.out).trans z2)
      go_ret
      rw [HE.out.1, HE.out.2]
      have hq3 : w3.heap[q]? = some (.cells #[Value.slice (some ⟨g, 0, none⟩) n (i + 1)] 29 (0, 0)) := (hgrow3.block q HQ2.out HV2.out).trans ((hgrow2.block q hq1 (by simp)).trans HD.out.1)
      have hdl : (M.drop (i + 1)).length = 0 := by rw [List.length_drop, HN.out]; omega
      have htl : (M.take i).length = i := by rw [List.length_take, HN.out]; omega
      have own4 : w3.ownsRow B 38 5 (.slice a3 n3 k3) (M.take i ++ M.drop (i + 1)).length (Ps.cells (M.take i ++ M.drop (i + 1))) := by
        have e : 0 + i + 0 = (M.take i ++ M.drop (i + 1)).length := by rw [List.length_append, hdl, htl]; omega
        rw [← e, Ps.cells_append]
        have own5 := own3
        rw [List.nil_append] at own5
        rw [HZ.out]
        exact ownsRow_base_a own5 (Nat.le_trans hB HB.out.1.size)
      refine ⟨rfl, ⟨_, Ps.Dc.stored hq3 own4, fun g' hg' => .inr ?_⟩, ?_⟩
      · have := Ps.own_base own3 hg'
        have := HB.out.1.size
        omega
      · have q1 : Tk.But (fun x => x = q ∨ (Value.slice (some ⟨g, 0, none⟩) n (i + 1)).ownBlock = some x) w W1 := Tk.But.of_below HB.out.1
        have q2 : Tk.But (fun x => x = q ∨ (Value.slice (some ⟨g, 0, none⟩) n (i + 1)).ownBlock = some x) w w2 := q1.trans ⟨hgrow2.os, hgrow2.tape, hgrow2.output, hgrow2.size, fun j hj _ => hgrow2.block j hj (by simp)⟩
        refine Tk.But.setCell (p := ⟨q, 0, none⟩) ⟨hgrow3.os.trans q2.os, hgrow3.tape.trans q2.tape, hgrow3.output.trans q2.output, Nat.le_trans q2.size hgrow3.size, fun j hj he => (hgrow3.block j (Nat.lt_of_lt_of_le hj q2.size) (fun e => ?_)).trans (q2.block j hj he)⟩ (.inl rfl) _
        have := Ps.own_base own2 e.symm
        have := HB.out.1.size
        omega
    · have hx : ∀ j u, (Ps.cells (M.drop (i + 1)))[j]? = some u → w2.cell? ((⟨g, (i + 1) * 5, none⟩ : Addr).add j) = some u := by
        intro j u hu
        have hadd : (⟨g, (i + 1) * 5, none⟩ : Addr).add j = ⟨g, (i + 1) * 5 + j, none⟩ := by unfold Addr.add; split <;> simp_all
        rw [Ps.cells_drop, List.getElem?_drop] at hu
        rw [hadd, hgrow2.cell_far ⟨g, (i + 1) * 5 + j, none⟩ hg (by simp)]
        exact HD.out.news _ u hu
      have hml : (Ps.cells (M.drop (i + 1))).length = (n - (i + 1)) * 5 := (by rw [Ps.cells_length, List.length_drop, HN.out])
      have hnw : ∀ j u, (Ps.cells (M.drop (i + 1)))[j]? = some u → w2.cell? ((⟨g, (i + 1) * 5, none⟩ : Addr).add j) = some u := hx
      go_wp2_with (at_builtin; refine wpList_append_own _ rfl _ _ 27 rfl W1.heap.size 38 i0 (.agg #[.int .i64 0, .int .i64 0, .int .i64 0, .int .i64 0, .int .i64 0]) 5 40 Try.underlying27 hi hz0 hz1 hz2 rfl (by decide) _ _ _ rfl own2 ⟨g, (i + 1) * 5, none⟩ (n - (i + 1)) (c - (i + 1)) (Ps.cells (M.drop (i + 1))) rfl hml hnw (Ps.oneCell _) (by unfold maxLen; omega) (by omega) hgrow2.size ?_; intro v3 w3 own3 hgrow3 _; obtain ⟨a3, n3, k3, HN3, rfl⟩ := Ps.own_shape' own3; have c3 := (hgrow3.cell_far ⟨q, 0, none⟩ HQ2.out HV2.out).trans c2; have z3 := (hgrow3.frozen_far ⟨q, 0, none⟩ HQ2.out HV2.out).trans z2)
      go_ret
      rw [HE.out.1, HE.out.2]
      have hq3 : w3.heap[q]? = some (.cells #[Value.slice (some ⟨g, 0, none⟩) n c] 29 (0, 0)) := (hgrow3.block q HQ2.out HV2.out).trans ((hgrow2.block q hq1 (by simp)).trans HD.out.1)
      have hdl : (M.drop (i + 1)).length = (n - (i + 1)) := by rw [List.length_drop, HN.out]
      have htl : (M.take i).length = i := by rw [List.length_take, HN.out]; omega
      have own4 : w3.ownsRow B 38 5 (.slice a3 n3 k3) (M.take i ++ M.drop (i + 1)).length (Ps.cells (M.take i ++ M.drop (i + 1))) := by
        have e : 0 + i + (n - (i + 1)) = (M.take i ++ M.drop (i + 1)).length := by rw [List.length_append, hdl, htl]; omega
        rw [← e, Ps.cells_append]
        have own5 := own3
        rw [List.nil_append] at own5
        exact ownsRow_base_a own5 (Nat.le_trans hB HB.out.1.size)
      refine ⟨rfl, ⟨_, Ps.Dc.stored hq3 own4, fun g' hg' => .inr ?_⟩, ?_⟩
      · have := Ps.own_base own3 hg'
        have := HB.out.1.size
        omega
      · have q1 : Tk.But (fun x => x = q ∨ (Value.slice (some ⟨g, 0, none⟩) n c).ownBlock = some x) w W1 := Tk.But.of_below HB.out.1
        have q2 : Tk.But (fun x => x = q ∨ (Value.slice (some ⟨g, 0, none⟩) n c).ownBlock = some x) w w2 := q1.trans ⟨hgrow2.os, hgrow2.tape, hgrow2.output, hgrow2.size, fun j hj _ => hgrow2.block j hj (by simp)⟩
        refine Tk.But.setCell (p := ⟨q, 0, none⟩) ⟨hgrow3.os.trans q2.os, hgrow3.tape.trans q2.tape, hgrow3.output.trans q2.output, Nat.le_trans q2.size hgrow3.size, fun j hj he => (hgrow3.block j (Nat.lt_of_lt_of_le hj q2.size) (fun e => ?_)).trans (q2.block j hj he)⟩ (.inl rfl) _
        have := Ps.own_base own2 e.symm
        have := HB.out.1.size
        omega

end Go.Proofs
