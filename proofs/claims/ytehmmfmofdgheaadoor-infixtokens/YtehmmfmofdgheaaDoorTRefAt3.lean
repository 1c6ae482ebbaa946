/-
  The contracts of the document's at and num.
-/
import Derived.Test.YtehmmfmofdgheaaDoorTmBack
import Derived.Test.YtehmmfmofdgheaaDoorTRefText
namespace Go.Proofs
open Go.RowKit

theorem Tk.pre_take (l p : List UInt8) (h : p.length ≤ l.length) : Lib.hasPrefix l p = (l.take p.length == p) := by
  rw [Bool.eq_iff_iff]
  simp only [Lib.hasPrefix, List.isPrefixOf_iff_prefix, beq_iff_eq]
  constructor
  · rintro ⟨t, rfl⟩
    simp
  · intro e
    exact ⟨l.drop p.length, by have := List.take_append_drop p.length l; rw [e] at this; exact this⟩
theorem Tk.size_list (s : ByteArray) : s.data.toList.length = s.size := by rw [Array.length_toList]; rfl
theorem Tk.pre_len {l p : List UInt8} (h : Lib.hasPrefix l p = true) : p.length ≤ l.length := by
  simp only [Lib.hasPrefix, List.isPrefixOf_iff_prefix] at h
  exact h.length_le

set_option maxHeartbeats 1000000 in
theorem Tryd.refAt_any (s x : ByteArray) (k : Nat) (p : Bool) (w : World) (hk : k ≤ s.size) (hs : s.size ≤ 21000) (hx : x.size ≤ 20000) (hp : Lib.hasPrefix (s.data.toList.drop k) x.data.toList = p) :
    Calls Tryd.prog 75 #[.string s, .int .i64 k, .string x] w fun e w' => e = .returned (.bool p) ∧ w' = w := by
  by_cases h : x.size ≤ s.size - k
  · have hd : decide ((x.size : Int) ≤ s.size - k) = true := decide_eq_true (by omega)
    have HP : Hid (((s.extract k (k + x.size)).toList == x.toList) = p) := by
      show _ = _
      rw [Lib.extract_toList, Nat.add_sub_cancel_left, Lib.toList_data, ← hp, Tk.pre_take _ _ (by rw [List.length_drop, Tk.size_list, Tk.size_list]; exact h), Tk.size_list]
    go_enter Tryd.func75, Tryd.ntmps75
    go_wp2
    go_ret
    exact ⟨Tk.ret_bool HP.out, rfl⟩
  · have hd : decide ((x.size : Int) ≤ s.size - k) = false := decide_eq_false (by omega)
    have hf : p = false := by
      rw [← hp]
      cases hc : Lib.hasPrefix (s.data.toList.drop k) x.data.toList
      · rfl
      · have := Tk.pre_len hc
        rw [List.length_drop, Tk.size_list, Tk.size_list] at this
        omega
    subst hf
    clear hp
    go_enter Tryd.func75, Tryd.ntmps75
    go_wp2
    go_ret
    exact ⟨rfl, rfl⟩

/-- A digit. -/
def Tk.digB (c : UInt8) : Bool := decide (48 ≤ c.toNat) && decide (c.toNat ≤ 57)
/-- The number with which a text begins, and how long it is. -/
def Tk.numL (l : List UInt8) : Option (Nat × Nat) := (Tk.digL 1099511627776 (l.takeWhile Tk.digB)).map fun n => (n, (l.takeWhile Tk.digB).length)
/-- What num answers. -/
def Tk.numV (o : Option (Nat × Nat)) (i : Nat) : Value := match o with
  | none => .agg #[.int .i64 0, .int .i64 0, .slice none 0 0, .int .i64 (-1)]
  | some (n, m) => .agg #[.int .i64 1, .int .i64 n, .slice none 0 0, .int .i64 ((i + m : Nat) : Int)]

theorem Tk.put4 {W : World} {q : Nat} {x y z u a b c e : Value} {T : TypeId} (h : W.heap[q]? = some (.cells #[x, y, z, u] T (0, 0))) :
    ((((W.setCell ⟨q, 0, none⟩ a).setCell ⟨q, 1, none⟩ b).setCell ⟨q, 2, none⟩ c).setCell ⟨q, 3, none⟩ e).heap[q]? = some (.cells #[a, b, c, e] T (0, 0)) := by
  simp [World.setCell, Array.getElem?_modify, h]
theorem Tk.row4 {W : World} {q : Nat} {x y z u : Value} {T : TypeId} (h : W.heap[q]? = some (.cells #[x, y, z, u] T (0, 0))) :
    (W.cell? ⟨q, 0, none⟩ = some x ∧ W.cell? ⟨q, 1, none⟩ = some y ∧ W.cell? ⟨q, 2, none⟩ = some z ∧ W.cell? ⟨q, 3, none⟩ = some u) ∧ (W.frozen? ⟨q, 0, none⟩ = false ∧ W.frozen? ⟨q, 1, none⟩ = false ∧ W.frozen? ⟨q, 2, none⟩ = false ∧ W.frozen? ⟨q, 3, none⟩ = false) := by
  simp [World.cell?, World.frozen?, h]
set_option maxHeartbeats 4000000 in
set_option maxRecDepth 20000 in
theorem Tryd.refNum_any (s : ByteArray) (i : Nat) (w : World) (hi : i ≤ s.size) (hs : s.size ≤ 21000) :
    Calls Tryd.prog 76 #[.string s, .int .i64 i] w fun e w' => e = .returned (Tk.numV (Tk.numL (s.data.toList.drop i)) i) ∧ Below w.heap.size w w' := by
  obtain ⟨l, hl⟩ : ∃ l, s.data.toList.drop i = l := ⟨_, rfl⟩
  obtain ⟨ds, hds⟩ : ∃ l', l.takeWhile Tk.digB = l' := ⟨_, rfl⟩
  obtain ⟨o, ho⟩ : ∃ o, Tk.digL 1099511627776 ds = o := ⟨_, rfl⟩
  obtain ⟨nv, hnv⟩ : ∃ x, Tk.numV (Tk.numL l) i = x := ⟨_, rfl⟩
  have HNV : Hid (Tk.numV (o.map fun n => (n, ds.length)) i = nv) := by show _ = _; rw [← hnv, Tk.numL, hds, ho]
  have HO : Hid (Tk.digL 1099511627776 ds = o) := ho
  have hle : i + ds.length ≤ s.size := by
    have h1 : ds.length ≤ l.length := by rw [← hds]; exact (List.takeWhile_sublist _).length_le
    have h2 : l.length = s.size - i := by rw [← hl, List.length_drop, Tk.size_list]
    omega
  have HG : Hid (∀ j (h : j < ds.length) (h' : i + j < s.size), s[i + j] = ds[j] ∧ Tk.digB ds[j] = true) := by
    intro j h h'
    have hj : j < l.length := by rw [← hl, List.length_drop, Tk.size_list]; omega
    have e1 : s[i + j] = l[j] := by subst hl; simp; rfl
    have hpre : ds <+: l := by rw [← hds]; exact List.takeWhile_prefix _
    have e2 : ds[j] = l[j] := hpre.getElem h
    refine ⟨by rw [e1, e2], ?_⟩
    subst hds
    exact List.all_takeWhile (p := Tk.digB) (l := l) |> List.all_eq_true.1 |> fun h0 => h0 _ (List.getElem_mem h)
  have HE : Hid (∀ (h : i + ds.length < s.size), Tk.digB s[i + ds.length] = false) := by
    intro h
    have hj : ds.length < l.length := by rw [← hl, List.length_drop, Tk.size_list]; omega
    have e1 : s[i + ds.length] = l[ds.length] := by subst hl; simp; rfl
    rw [e1]
    subst hds
    cases hb : Tk.digB l[(l.takeWhile Tk.digB).length]
    · rfl
    · exfalso
      have : ∀ (l : List UInt8) (hj : (l.takeWhile Tk.digB).length < l.length), Tk.digB l[(l.takeWhile Tk.digB).length] = false := by
        intro l
        induction l with
        | nil => intro hj; simp at hj
        | cons c r ih =>
          intro hj
          by_cases hc : Tk.digB c = true
          · simp only [List.takeWhile_cons_of_pos hc, List.length_cons, List.getElem_cons_succ]
            exact ih (by simpa [List.takeWhile_cons_of_pos hc] using hj)
          · simp only [List.takeWhile_cons_of_neg hc, List.length_nil, List.getElem_cons_zero]
            simpa using hc
      rw [this l hj] at hb
      cases hb
  rw [hl, hnv]
  obtain ⟨e, he⟩ : ∃ e, i + ds.length = e := ⟨_, rfl⟩
  have HGP : Hid (∀ p, i ≤ p → p < e → ∃ h : p < s.size, 48 ≤ (s[p]'h).toNat ∧ (s[p]'h).toNat ≤ 57 ∧ ds.drop (p - i) = s[p]'h :: ds.drop (p + 1 - i)) := by
    intro p h1 h2
    obtain ⟨j, rfl⟩ : ∃ j, p = i + j := ⟨p - i, by omega⟩
    have hj : j < ds.length := by omega
    obtain ⟨g1, g2⟩ := HG.out j hj (by omega)
    refine ⟨by omega, ?_⟩
    rw [g1]
    simp only [Tk.digB, Bool.and_eq_true, decide_eq_true_eq] at g2
    refine ⟨g2.1, g2.2, ?_⟩
    rw [show i + j - i = j by omega, show i + j + 1 - i = j + 1 by omega]
    exact List.drop_eq_getElem_cons hj
  have HEP : Hid (∀ (h : e < s.size), (s[e]'h).toNat < 48 ∨ 57 < (s[e]'h).toNat) := by
    intro h
    subst he
    have := HE.out h
    simp only [Tk.digB, Bool.and_eq_false_iff, decide_eq_false_iff_not] at this
    omega
  have HDL : Hid (e = i + ds.length ∧ (ds ≠ [] → Tk.digF 1099511627776 0 true ds = o) ∧ (ds = [] → o = none)) := by
    refine ⟨he.symm, fun h => ?_, fun h => ?_⟩
    · rw [← ho, Tk.digL, if_neg h]
    · rw [← ho, Tk.digL, if_pos h]
  have hes : e ≤ s.size := by omega
  have hie : i ≤ e := by omega
  have N0 : Hid ((w.alloc (.cells #[.int .i64 0, .int .i64 0, .slice none 0 0, .int .i64 0] 98)).heap[w.heap.size]? = some (.cells #[.int .i64 0, .int .i64 0, .slice none 0 0, .int .i64 0] 98 (0, 0))) := heap_alloc_new w _
  have B0 : Hid (Below w.heap.size w (w.alloc (.cells #[.int .i64 0, .int .i64 0, .slice none 0 0, .int .i64 0] 98))) := (Below.refl _ w).alloc (Nat.le_refl _) _
  clear HG HE hle ho hds hnv hl HO he
  go_enter Tryd.func76, Tryd.ntmps76
  go_wp2
  go_loopg [5, 6] (e - i) (fun g nn kk wr => ∃ p n : Nat, i ≤ p ∧ g + p = e ∧ nn = .int .i64 n ∧ kk = .int .i64 p ∧ n ≤ 10995116277769 ∧ wr = w.alloc (.cells #[.int .i64 0, .int .i64 0, .slice none 0 0, .int .i64 0] 98) ∧ Hid ((n ≤ 1099511627776 → i < e → Tk.digF 1099511627776 n (p == i) (ds.drop (p - i)) = o) ∧ (1099511627776 < n → o = none) ∧ (i < p → ∀ h : i < s.size, (s[i].toNat = 48 ↔ n = 0)) ∧ (p = i → n = 0)))
  case atStart =>
    refine ⟨i, 0, Nat.le_refl _, by omega, rfl, rfl, by omega, rfl, fun _ h => ?_, by omega, by omega, fun _ => rfl⟩
    have := HDL.out
    rw [Nat.sub_self, List.drop_zero, beq_self_eq_true]
    exact this.2.1 (fun h0 => by rw [h0] at this; simp at this; omega)
  case round =>
    obtain ⟨p, n, hip, hg, rfl, rfl, hnb, rfl, HR⟩ := hrel
    by_cases hpe : p < e
    · obtain ⟨hps, g1, g2, g3⟩ := HGP.out p hip hpe
      obtain ⟨his, f1, f2, f3⟩ := HGP.out i (Nat.le_refl _) (by omega)
      obtain ⟨c, hc⟩ : ∃ c, (s[p]'hps).toNat = c := ⟨_, rfl⟩
      obtain ⟨c0, hc0⟩ : ∃ c, (s[i]'his).toNat = c := ⟨_, rfl⟩
      have HG3 : Hid (ds.drop (p - i) = s[p] :: ds.drop (p + 1 - i)) := g3
      have HC0 : Hid (i < p → (c0 = 48 ↔ n = 0)) := fun h => by have := HR.out.2.2.1 h his; rw [hc0] at this; exact this
      have HC1 : Hid (p = i → c = c0) := by intro h; subst h; rw [← hc, ← hc0]
      have HCC : Hid ((s[p]'hps).toNat = c) := hc
      rw [hc] at g1 g2
      clear g3 f3 f1 f2
      have d1 : decide ((48 : Int) ≤ c) = true := decide_eq_true (by omega)
      have d2 : decide ((c : Int) ≤ 57) = true := decide_eq_true (by omega)
      by_cases hm : 1099511627776 < n
      · have HX : Hid (none = o) := (HR.out.2.1 hm).symm
        have d3 : decide ((1099511627776 : Int) < n) = true := decide_eq_true (by omega)
        clear hm HR
        go_wp2
        exact bodyPost_ret (v := .agg #[.int .i64 0, .int .i64 0, .slice none 0 0, .int .i64 (-1)]) (by simp [results, Tryd.results76, go_sem]) rfl ⟨by rw [← HNV.out, ← HX.out]; rfl, (Below.refl _ w).alloc (Nat.le_refl _) _⟩
      · have d3 : decide ((1099511627776 : Int) < n) = false := decide_eq_false (by omega)
        have hrec := HR.out.1 (by omega) (by omega)
        rw [HG3.out] at hrec
        by_cases hz : i < p ∧ c0 = 48
        · have hn0 := (HC0.out hz.1).1 hz.2
          have HX : Hid (none = o) := by
            rw [Tk.digF, if_pos (.inr (.inr ⟨by have := hz.1; simp; omega, hn0⟩))] at hrec
            exact hrec
          have d4 : i < p := hz.1
          have d5 : ((c0 : Int) == 48) = true := by rw [hz.2]; rfl
          clear hm HR hrec hz hn0
          go_wp2
          exact bodyPost_ret (v := .agg #[.int .i64 0, .int .i64 0, .slice none 0 0, .int .i64 (-1)]) (by simp [results, Tryd.results76, go_sem]) rfl ⟨by rw [← HNV.out, ← HX.out]; rfl, (Below.refl _ w).alloc (Nat.le_refl _) _⟩
        · have hnz : ¬ ((p == i) = false ∧ n = 0) := by
            rintro ⟨h1, h2⟩
            have hne : p ≠ i := by simpa using h1
            exact hz ⟨by omega, (HC0.out (by omega)).2 h2⟩
          have hbb : ¬ (c < 48 ∨ 57 < c ∨ ((p == i) = false ∧ n = 0)) := fun h => h.elim (fun h => by omega) fun h => h.elim (fun h => by omega) hnz
          have HN : Hid ((n * 10 + (c - 48) ≤ 1099511627776 → i < e → Tk.digF 1099511627776 (n * 10 + (c - 48)) (p + 1 == i) (ds.drop (p + 1 - i)) = o) ∧ (1099511627776 < n * 10 + (c - 48) → o = none) ∧ (i < p + 1 → ∀ h : i < s.size, (s[i].toNat = 48 ↔ n * 10 + (c - 48) = 0)) ∧ (p + 1 = i → n * 10 + (c - 48) = 0)) := by
            have hn00 := HR.out.2.2.2
            refine ⟨fun h1 _ => ?_, fun h1 => ?_, fun h1 h => ?_, by omega⟩
            · rw [Tk.digF, HCC.out, if_neg hbb, if_neg (by omega)] at hrec
              rw [show (p + 1 == i) = false by simp; omega]
              exact hrec
            · rw [Tk.digF, HCC.out, if_neg hbb, if_pos h1] at hrec
              exact hrec.symm
            · rw [hc0]
              by_cases hpi : p = i
              · have hcc := HC1.out hpi
                have hn0 := hn00 hpi
                omega
              · have := HC0.out (by omega)
                constructor
                · intro h48; exact absurd ⟨by omega, h48⟩ hz
                · intro h0; have := this.2 (by omega); exact this
          have hnb' : n * 10 + (c - 48) ≤ 10995116277769 := by omega
          have hcase : ¬ i < p ∨ (i < p ∧ ((c0 : Int) == 48) = false) := by
            by_cases h : i < p
            · exact .inr ⟨h, beq_eq_false_iff_ne.2 fun h0 => hz ⟨h, by omega⟩⟩
            · exact .inl h
          clear hm HR hrec hz hnz
          rcases hcase with d4 | ⟨d4, d5⟩
          all_goals
            go_wp2
            go_roundg (gk - 1)
            case measure => omega
            case rel => exact ⟨p + 1, n * 10 + (c - 48), by omega, by omega, by go_num, by go_num, hnb', rfl, HN.out⟩
    · obtain rfl : p = e := by omega
      have hstop : ¬ p < s.size ∨ (∃ h : p < s.size, decide ((48 : Int) ≤ (s[p]'h).toNat) = false) ∨ (∃ h : p < s.size, decide ((48 : Int) ≤ (s[p]'h).toNat) = true ∧ decide (((s[p]'h).toNat : Int) ≤ 57) = false) := by
        by_cases h : p < s.size
        · right
          rcases HEP.out h with h1 | h1
          · exact .inl ⟨h, decide_eq_false (by omega)⟩
          · exact .inr ⟨h, decide_eq_true (by omega), decide_eq_false (by omega)⟩
        · exact .inl h
      have hend : ((p : Int) == i) = true ∧ none = o ∨ ((p : Int) == i) = false ∧ decide ((1099511627776 : Int) < n) = true ∧ none = o ∨ ((p : Int) == i) = false ∧ decide ((1099511627776 : Int) < n) = false ∧ some n = o ∧ i + ds.length = p := by
        have hd := HDL.out
        by_cases h : p = i
        · left
          refine ⟨by rw [h]; simp, ?_⟩
          have : ds = [] := List.length_eq_zero_iff.1 (by omega)
          exact (hd.2.2 this).symm
        · right
          by_cases hm : 1099511627776 < n
          · exact .inl ⟨beq_eq_false_iff_ne.2 (by omega), decide_eq_true (by omega), (HR.out.2.1 hm).symm⟩
          · refine .inr ⟨beq_eq_false_iff_ne.2 (by omega), decide_eq_false (by omega), ?_, by omega⟩
            have := HR.out.1 (by omega) (by omega)
            rw [List.drop_eq_nil_of_le (by omega)] at this
            exact this
      clear HR
      rcases hend with ⟨d3, HX⟩ | ⟨d3, d4, HX⟩ | ⟨d3, d4, HX, HL⟩
      · have HX' : Hid (none = o) := HX
        clear HX
        rcases hstop with h | ⟨h, d1⟩ | ⟨h, d1, d2⟩
        all_goals
          go_wp2
          exact bodyPost_ret (v := .agg #[.int .i64 0, .int .i64 0, .slice none 0 0, .int .i64 (-1)]) (by simp [results, Tryd.results76, go_sem]) rfl ⟨by rw [← HNV.out, ← HX'.out]; rfl, (Below.refl _ w).alloc (Nat.le_refl _) _⟩
      · have HX' : Hid (none = o) := HX
        clear HX
        rcases hstop with h | ⟨h, d1⟩ | ⟨h, d1, d2⟩
        all_goals
          go_wp2
          exact bodyPost_ret (v := .agg #[.int .i64 0, .int .i64 0, .slice none 0 0, .int .i64 (-1)]) (by simp [results, Tryd.results76, go_sem]) rfl ⟨by rw [← HNV.out, ← HX'.out]; rfl, (Below.refl _ w).alloc (Nat.le_refl _) _⟩
      · have HX' : Hid (some n = o ∧ i + ds.length = p) := ⟨HX, HL⟩
        clear HX HL
        rcases hstop with h | ⟨h, d1⟩ | ⟨h, d1, d2⟩
        all_goals
          go_wp2
          exact bodyPost_ret (v := .agg #[.int .i64 1, .int .i64 n, .slice none 0 0, .int .i64 p]) (by simp [results, Tryd.results76, go_sem]) rfl ⟨by rw [← HNV.out, ← HX'.out.1, ← HX'.out.2]; rfl, (Below.refl _ w).alloc (Nat.le_refl _) _⟩

end Go.Proofs
