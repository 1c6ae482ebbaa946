/-
  The document's Ins and Outs.
-/
import Derived.Test.YtemccpfgkbhahaaGreatDoorNtIns
import Derived.Deep.DeepCutAuto
namespace Go.Proofs
open Go.RowKit Go.Shelf

set_option maxRecDepth 20000 in
set_option maxHeartbeats 4000000 in
theorem Tryz.rOuts_any (i : Int) (an : Option Addr) (n cn : Nat) (af : Option Addr) (cf d : Nat) (fs : List Fl) (w : World) (hF : Nt.Fls w w.heap.size d af fs) (hl : fs.length ≤ 100) :
    Calls Tryz.prog 27 #[.agg #[.slice an n cn, .slice af fs.length cf], .int .i64 i] w fun e w' => Nt.Gives (Nt.outsL fs i) w e w' := by
  obtain ⟨i0, hi, hz0, hz1, hz2⟩ := info_parts Tryz.infoIntR
  obtain ⟨w1, hw1⟩ : ∃ x, w.alloc (.cells #[.slice an n cn, .slice af fs.length cf] 25) = x := ⟨_, rfl⟩
  have A1 : Below w.heap.size w w1 := by rw [← hw1]; exact (Below.refl _ w).alloc (Nat.le_refl _) _
  obtain ⟨m, hm⟩ : ∃ n, fs.length = n := ⟨_, rfl⟩
  obtain ⟨lf, hlf⟩ : ∃ l, Nt.outsL fs i = l := ⟨_, rfl⟩
  rw [hm] at hl hw1
  rw [hm, hlf]
  have HF : Hid (Nt.Fls w w.heap.size d af fs ∧ fs.length = m ∧ Nt.outsL fs i = lf) := ⟨hF, hm, hlf⟩
  have H1 : Hid (w.alloc (.cells #[.slice an n cn, .slice af m cf] 25) = w1) := hw1
  have HA : Hid (Below w.heap.size w w1) := A1
  clear hF hm hw1 A1 hlf
  go_enter Tryz.func27, Tryz.ntmps27
  go_wp2
  rw [H1.out]
  go_loopg [5, 11] m (fun gk s5 s11 wr => ∃ (k r : Nat) (L : List Nat), gk + k = m ∧ s11 = .int .i64 k ∧ r ≤ k ∧ Hid (L = (List.range k).filter (fun k => decide ((fs[k]?.map Fl.fr) = some i)) ∧ L.length = r ∧ Below w.heap.size w wr) ∧ wr.ownsRow w.heap.size 3 1 s5 r (Rk.nums L))
  case atStart => exact ⟨0, 0, [], by omega, rfl, Nat.le_refl _, ⟨rfl, rfl, HA.out⟩, World.ownsRow_nil _ _ _ _⟩
  case round =>
    obtain ⟨k, r, L, hk, rfl, hr, HB, hown⟩ := hrel
    clear H1 HA
    obtain ⟨av, cv, rfl⟩ := Rk.own_shape hown
    by_cases hlt : k < m
    · have hd : decide ((k : Int) < m) = true := decide_eq_true (by omega)
      have hkl : k < fs.length := by rw [HF.out.2.1]; exact hlt
      obtain ⟨q, off, u, rfl, hq, h0, h1, h2, h3, h4, h5, h6⟩ := HF.out.1 k hkl
      obtain ⟨au, cu, rfl⟩ := h6.shape
      obtain ⟨f, hf⟩ : ∃ f, fs[k] = f := ⟨_, rfl⟩
      rw [hf] at h0 h1 h2 h3 h4 h5
      obtain ⟨nu, hnu⟩ : ∃ n, f.c.ks.length = n := ⟨_, rfl⟩
      obtain ⟨fr, hfr⟩ : ∃ x, f.fr = x := ⟨_, rfl⟩
      obtain ⟨tt, hto⟩ : ∃ x, f.to = x := ⟨_, rfl⟩
      obtain ⟨els, hel⟩ : ∃ x, f.els = x := ⟨_, rfl⟩
      obtain ⟨op, hop⟩ : ∃ x, f.c.op = x := ⟨_, rfl⟩
      obtain ⟨num, hnum⟩ : ∃ x, f.c.num = x := ⟨_, rfl⟩
      rw [hnu] at h5
      rw [hfr] at h0
      rw [hto] at h1
      rw [hel] at h2
      rw [hop] at h3
      rw [hnum] at h4
      have hc : ∀ o, wr.cell? ⟨q, o, none⟩ = w.cell? ⟨q, o, none⟩ := fun o => HB.out.2.2.cell (p := ⟨q, o, none⟩) hq
      have c0 := (hc _).trans h0
      have c1 := (hc _).trans h1
      have c2 := (hc _).trans h2
      have c3 := (hc _).trans h3
      have c4 := (hc _).trans h4
      have c5 := (hc _).trans h5
      have hu := Tryz.underlying60
      obtain ⟨W0, hW0⟩ : ∃ x, wr.alloc (.cells #[.int .i64 fr, .int .i64 tt, .bool els, .int .i64 op, .int .i64 num, .slice au nu cu] 60) = x := ⟨_, rfl⟩
      have own1 : W0.ownsRow w.heap.size 3 1 (.slice av r cv) r (Rk.nums L) := by rw [← hW0]; exact hown.alloc _
      have B0 : Hid (Below w.heap.size w W0) := by show Below _ _ _; rw [← hW0]; exact HB.out.2.2.alloc HB.out.2.2.size _
      have hs0 : w.heap.size ≤ W0.heap.size := B0.out.size
      have HW0 : Hid (wr.alloc (.cells #[.int .i64 fr, .int .i64 tt, .bool els, .int .i64 op, .int .i64 num, .slice au nu cu] 60) = W0) := hW0
      have HF2 : Hid ((List.range (k + 1)).filter (fun k => decide ((fs[k]?.map Fl.fr) = some i)) = L ++ if fr = i then [k] else []) := by
        show _ = _
        rw [List.range_succ, List.filter_append, ← HB.out.1]
        congr 1
        simp only [List.filter_cons, List.filter_nil, List.getElem?_eq_getElem hkl, hf, Option.map_some, hfr, Option.some.injEq, decide_eq_true_eq]
      clear h0 h1 h2 h3 h4 h5 h6 hc hf hnu hfr hto hel hop hnum hq hown hW0
      by_cases hti : fr = i
      · have e1 : (fr == i) = true := by simpa using hti
        rw [if_pos hti] at HF2
        clear hti
        go_upto_region 6 with fail
        rw [HW0.out]
        go_wp2_with (at_builtin; refine wpList_append_own _ rfl _ _ 42 rfl w.heap.size 3 i0 (.int .i64 0) 1 8 Tryz.underlying42 hi hz0 hz1 hz2 rfl (by decide) _ _ _ rfl (own1.alloc _) ⟨W0.heap.size, 0, none⟩ 1 1 [.int .i64 k] rfl rfl (Rk.one_cell W0 k 3) (Rk.one_one k) ?c3 ?c4 ?c5 ?_)
        case c3 => unfold maxLen; omega
        case c4 => omega
        case c5 => simp; omega
        intro v' W2 own2 g2 _
        obtain ⟨a2, c2', rfl⟩ := Rk.own_shape own2
        have B2 : Hid (W2.ownsRow w.heap.size 3 1 (.slice a2 (r + 1) c2') (r + 1) (Rk.nums (L ++ [k])) ∧ Below w.heap.size w W2) := ⟨by rw [Rk.nums_snoc]; exact own2, Rk.below_grown (B0.out.alloc hs0 _) (by simp; omega) (own1.alloc _) g2⟩
        clear own1 own2 g2 HW0
        go_wp2
        go_roundg (gk - 1)
        case measure => omega
        case rel => exact ⟨k + 1, r + 1, L ++ [k], by omega, by go_num, by omega, ⟨HF2.out.symm, by simp [HB.out.2.1], B2.out.2⟩, B2.out.1⟩
      · have e1 : (fr == i) = false := by simpa using hti
        rw [if_neg hti, List.append_nil] at HF2
        clear hti
        go_wp2
        rw [HW0.out]
        go_roundg (gk - 1)
        case measure => omega
        case rel => exact ⟨k + 1, r, L, by omega, by go_num, by omega, ⟨HF2.out.symm, HB.out.2.1, B0.out⟩, own1⟩
    · have hd : decide ((k : Int) < m) = false := decide_eq_false (by omega)
      go_wp2
      go_ret
      obtain rfl : k = m := by omega
      have h1 := HB.out.1
      rw [← HF.out.2.1] at h1
      have h2 : lf = L := by rw [← HF.out.2.2, h1]; rfl
      rw [h2]
      exact ⟨_, rfl, by rw [HB.out.2.1]; exact hown, HB.out.2.2⟩

end Go.Proofs
