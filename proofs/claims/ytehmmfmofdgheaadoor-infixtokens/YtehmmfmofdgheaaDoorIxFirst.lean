/-
  infix: the contract of first.
-/
import Derived.Test.YtehmmfmofdgheaaDoorIxToks
namespace Go.Proofs
open Go.RowKit

namespace Ix
theorem run_all (l : List UInt8) : ∀ c ∈ runL l, runB c = true := fun c hc => by
  obtain ⟨j, hj, rfl⟩ := List.getElem_of_mem hc
  obtain ⟨h1, h2⟩ := tw_in (p := runB) l j hj
  have e : (runL l)[j] = l[j] := by
    have := List.IsPrefix.getElem (List.takeWhile_prefix runB (l := l)) hj
    exact this
  rw [e]; exact h2
theorem signL_one (c : UInt8) : signL [c] = if one.contains c = true then [c] else [] := rfl
theorem signL_two (c d : UInt8) (r : List UInt8) : signL (c :: d :: r) = if (d == 61 && (c == 33 || c == 60 || c == 62)) = true then [c, d] else if one.contains c = true then [c] else [] := rfl
/-- Joined bytes that are an operator are a word. -/
theorem word_of (t : List UInt8) (h : ∀ c ∈ t, runB c = true) (_hne : t ≠ []) : isOpB t = isWord t := by
  cases hw : isWord t
  · refine isOp_none t fun k hk e => ?_
    subst e
    obtain rfl | rfl | rfl | rfl | rfl | rfl | rfl | rfl | rfl | rfl | rfl | rfl | rfl | rfl | rfl : k = 0 ∨ k = 1 ∨ k = 2 ∨ k = 3 ∨ k = 4 ∨ k = 5 ∨ k = 6 ∨ k = 7 ∨ k = 8 ∨ k = 9 ∨ k = 10 ∨ k = 11 ∨ k = 12 ∨ k = 13 ∨ k = 14 := by omega
    all_goals first
      | (exact absurd hw (by decide))
      | (exact absurd (h _ List.mem_cons_self) (by decide))
  · unfold isWord at hw
    simp only [Bool.or_eq_true, beq_iff_eq] at hw
    rcases hw with (rfl | rfl) | rfl <;> decide
/-- What joined bytes are parsed as is a number or a variable. -/
theorem leaf_of (t : List UInt8) (h : ∀ c ∈ t, runB c = true) (T : Tm) (hp : Tk.parseR t = .ok T) : (T.op = 1 ∨ T.op = 2) ∧ T.ks = [] ∧ T.allForm = true ∧ T.txt = t ∧ T.depth = 1 := by
  have ht := Tk.text_of_parse hp
  unfold Tm.textR at ht
  by_cases hw : T.wrongR ≠ 0
  · rw [if_pos hw] at ht; exact (hw (Prod.mk.inj ht).2).elim
  · rw [if_neg hw] at ht
    have hz := Tm.wrong_zero (by simpa using hw)
    by_cases hl : 20000 < T.txt.length
    · rw [if_pos hl] at ht; exact absurd (Prod.mk.inj ht).2 (by decide)
    · rw [if_neg hl] at ht
      have hx : T.txt = t := (Prod.mk.inj ht).1
      have hk : Tm.kidsOf T.op = 0 := by
        by_cases hk : Tm.kidsOf T.op = 0
        · exact hk
        · exfalso
          rw [T.txt_eq, if_neg hk] at hx
          exact absurd (h 40 (by rw [← hx]; exact List.mem_cons_self)) (by decide)
      have hf := (Tm.formed_of_all hz.2).1
      simp only [Tm.formedB, decide_eq_true_eq] at hf
      have hks : T.ks = [] := List.length_eq_zero_iff.1 (by rw [hf.2.2.1]; exact hk)
      refine ⟨?_, hks, hz.2, hx, by rw [T.depth_eq, hks]; rfl⟩
      unfold Tm.kidsOf at hk
      by_cases h3 : T.op < 3
      · omega
      · rw [if_neg h3] at hk
        split at hk <;> omega
theorem sign1 (c : UInt8) : isSignB [c] = one.contains c := by
  rw [Bool.eq_iff_iff]
  simp [isSignB, isOpB, ops, one]
  grind
theorem sign2 (c d : UInt8) (h : runB c = false) : isSignB [c, d] = (d == 61 && (c == 33 || c == 60 || c == 62)) := by
  have h1 : c ≠ 111 := by rintro rfl; exact absurd h (by decide)
  rw [Bool.eq_iff_iff]
  simp [isSignB, isOpB, ops]
  grind
theorem runL_cons (c : UInt8) (r : List UInt8) : runL (c :: r) = [] ↔ runB c = false := by
  unfold runL
  by_cases h : runB c = true
  · rw [List.takeWhile_cons_of_pos h]; simp [h]
  · rw [List.takeWhile_cons_of_neg h]; simpa using h
/-- The longest beginning that is a sign. -/
theorem sign_first (l : List UInt8) (hne : l ≠ []) (h : runL l = []) :
    (2 ≤ l.length ∧ isSignB (l.take 2) = true ∧ signL l = l.take 2) ∨ ((2 ≤ l.length → isSignB (l.take 2) = false) ∧ isSignB (l.take 1) = true ∧ signL l = l.take 1) ∨
      ((2 ≤ l.length → isSignB (l.take 2) = false) ∧ isSignB (l.take 1) = false ∧ signL l = []) := by
  match l, hne with
  | [c], _ =>
    right
    cases hb : isSignB [c]
    · exact .inr ⟨fun h => by simp at h, hb, by rw [sign1] at hb; rw [signL_one, hb]; rfl⟩
    · exact .inl ⟨fun h => by simp at h, hb, by rw [sign1] at hb; rw [signL_one, hb]; rfl⟩
  | c :: d :: r, _ =>
    have hc := (runL_cons c (d :: r)).1 h
    cases h2 : isSignB [c, d]
    · right
      have h2' := h2
      rw [sign2 c d hc] at h2'
      cases hb : isSignB [c]
      · exact .inr ⟨fun _ => h2, hb, by rw [sign1] at hb; rw [signL_two, h2', hb]; rfl⟩
      · exact .inl ⟨fun _ => h2, hb, by rw [sign1] at hb; rw [signL_two, h2', hb]; rfl⟩
    · left
      have h2' := h2
      rw [sign2 c d hc] at h2'
      exact ⟨by simp, h2, by rw [signL_two, h2']; rfl⟩
theorem firstR_run {l : List UInt8} (h : runL l ≠ []) : firstR l = (kindR (runL l), runL l) := by unfold firstR; rw [if_neg h]
theorem firstR_sign {l : List UInt8} (h : runL l = []) (hs : signL l ≠ []) : firstR l = (4, signL l) := by unfold firstR; rw [if_pos h, if_neg hs]
theorem firstR_none {l : List UInt8} (h : runL l = []) (hs : signL l = []) : firstR l = (0, []) := by unfold firstR; rw [if_pos h, if_pos hs]
end Ix

theorem Ix.results_tok {fn : Func} {p : Tmp} (h : fn.results = #[.cell p 32]) (tmps : Array Value) (w : World) (q : Nat) (a b c : Value)
    (hp : tmps.getD p undef = .pointer (some ⟨q, 0, none⟩)) (hq : w.heap[q]? = some (.cells #[a, b, c] 32 (0, 0))) :
    (results fn tmps).run Tryd.prog w = .ok (.agg #[a, b, c]) w := results_cell_row h tmps w q 32 #[a, b, c] (0, 0) _ hp hq Tryd.underlying32 rfl (by kernel_rfl)

set_option maxHeartbeats 4000000 in
set_option maxRecDepth 20000 in
theorem Tryd.first_any (l : List UInt8) (w : World) (h : Ix.Tabs w) (hO : Tk.Ops w) (hl : l.length ≤ 1000000) (hne : l ≠ []) :
    Calls Tryd.prog 20 #[.string ⟨l.toArray⟩] w fun e w' => e = .returned (.agg #[.int .i64 (Ix.firstR l).1, .int .i64 0, .string ⟨(Ix.firstR l).2.toArray⟩]) ∧ Below w.heap.size w w' := by
  obtain ⟨s, hs⟩ : ∃ s : ByteArray, s = ⟨l.toArray⟩ := ⟨_, rfl⟩
  have hsz := Ix.size_str l s hs
  have HN0 : Hid ((w.alloc (.cells #[.int .i64 0, .int .i64 0, .string ⟨#[]⟩] 32)).heap[w.heap.size]? = some (.cells #[.int .i64 0, .int .i64 0, .string ⟨#[]⟩] 32 (0, 0))) := heap_alloc_new w _
  have HB0 : Hid (Below w.heap.size w (w.alloc (.cells #[.int .i64 0, .int .i64 0, .string ⟨#[]⟩] 32))) := (Below.refl _ w).alloc (Nat.le_refl _) _
  have HR : Hid (∀ W, Calls Tryd.prog 32 #[.string s] W fun e w' => e = .returned (.int .i64 ((Ix.runL l).length : Nat)) ∧ w' = W) := fun W => by rw [hs]; exact Tryd.run_any l W hl
  obtain ⟨n, hn⟩ : ∃ n, (Ix.runL l).length = n := ⟨_, rfl⟩
  have hns : n ≤ s.size := by rw [hsz, ← hn]; exact Ix.tw_le l
  have HN : Hid ((Ix.runL l).length = n) := hn
  rw [hn] at HR
  have hs6 : s.size ≤ 1000000 := by omega
  have hs1 : 1 ≤ s.size := by rw [hsz]; exact List.length_pos_iff.2 hne
  obtain ⟨ft, hft⟩ : ∃ f, Ix.firstR l = f := ⟨_, rfl⟩
  have HF : Hid (Ix.firstR l = ft) := hft
  have HX : Hid (∀ e, s.extract 0 e = ⟨(l.take e).toArray⟩) := fun e => by rw [hs]; exact Tk.ext_take l e
  have HSZ : Hid (s.size = l.length) := hsz
  have HT : Hid (∀ W, Below w.heap.size w W → Ix.Tabs W ∧ Tk.Ops W) := fun W hW => ⟨h.below hW h.lt, hO.below hW hO.lt⟩
  rw [hft, ← hs]
  have HE : Hid (s = ⟨l.toArray⟩) := hs
  clear hn hft hs hsz h hO hl
  by_cases h0 : 0 < n
  · have hrn : Ix.runL l ≠ [] := by intro e; have := HN.out; rw [e] at this; simp at this; omega
    have htk : l.take n = Ix.runL l := by rw [← HN.out]; exact Ix.tw_take l
    have HK : Hid (∀ W : World, W.heap[w.heap.size]? = some (.cells #[.int .i64 0, .int .i64 0, .string ⟨#[]⟩] 32 (0, 0)) → Below w.heap.size w W → Calls Tryd.prog 33 #[.string (s.extract 0 n)] W fun e w' => e = .returned (.int .i64 ft.1) ∧ Below w.heap.size w w' ∧ w'.heap[w.heap.size]? = some (.cells #[.int .i64 0, .int .i64 0, .string ⟨#[]⟩] 32 (0, 0))) := fun W hC hW => by
      obtain ⟨h1, h2⟩ := HT.out W hW
      have h3 := Tryd.kindOf_any (Ix.runL l) W h1 h2 (by rw [HN.out]; omega) (Ix.word_of _ (Ix.run_all l) hrn) (fun T hp => (Ix.leaf_of _ (Ix.run_all l) T hp).1)
      rw [HX.out, htk]
      have : ft.1 = Ix.kindR (Ix.runL l) := by rw [← HF.out, Ix.firstR_run hrn]
      rw [this]
      exact h3.mono fun e w' ⟨he, hb⟩ => ⟨he, hW.trans (hb.mono hW.size), (hb.block _ (Array.getElem?_eq_some_iff.1 hC).1).trans hC⟩
    have HF2 : Hid (⟨ft.2.toArray⟩ = s.extract 0 n) := by show _ = _; rw [HX.out, htk, ← HF.out, Ix.firstR_run hrn]
    clear hrn htk
    rw [HF2.out]
    obtain ⟨f1, hf1⟩ : ∃ f, ft.1 = f := ⟨_, rfl⟩
    rw [hf1] at HK ⊢
    clear hf1 hne
    go_enter Tryd.func20, Tryd.ntmps20
    go_wp2_with fail
    refine Calls.mono (HR.out _) ?_
    rintro e W1 ⟨rfl, hW⟩
    obtain rfl := hW.symm
    clear hW
    go_upto_region 3 with fail
    go_region_law (first | (go_simp; go_at_call 33; refine Calls.mono (HK.out _ (by exact HN0.out) ⟨HB0.out.os, HB0.out.tape, HB0.out.output, HB0.out.size, HB0.out.block⟩) ?_; rintro e W3 ⟨rfl, B3', N3'⟩; have N3 : Hid (W3.heap[w.heap.size]? = some (.cells #[.int .i64 0, .int .i64 0, .string ⟨#[]⟩] 32 (0, 0))) := N3'; have B3 : Hid (Below w.heap.size w W3) := B3'; obtain ⟨⟨z0, z1, z2⟩, y0, y1, y2⟩ := Tk.row3 N3.out; clear B3' N3') | fail)
    all_goals
      go_wp2
      refine bodyPost_ret (Ix.results_tok Tryd.results20 _ _ w.heap.size _ _ _ rfl (Tk.put3 N3.out)) rfl ?_
      exact ⟨rfl, Tk.bsetCell (Tk.bsetCell (Tk.bsetCell B3.out (Nat.le_refl _) _) (Nat.le_refl _) _) (Nat.le_refl _) _⟩
  · have hn0 : n = 0 := by omega
    subst hn0
    have hrn : Ix.runL l = [] := List.length_eq_zero_iff.1 HN.out
    have HI : Hid (∀ (W : World) (k : Nat), Below w.heap.size w W → Calls Tryd.prog 34 #[.string (s.extract 0 k)] W fun e w' => e = .returned (.bool (Ix.isSignB (l.take k))) ∧ Below W.heap.size W w') := fun W k hW => by
      rw [HX.out]
      exact Tryd.isSign_any _ W (HT.out W hW).1
    have HS : Hid _ := Ix.sign_first l hne hrn
    have HRN : Hid (Ix.runL l = []) := hrn
    obtain ⟨m, hm⟩ : ∃ m : Nat, m = if s.size < 2 then 1 else 2 := ⟨_, rfl⟩
    have hmin : min (2 : Int) (s.size : Int) = (m : Int) := by subst hm; split <;> omega
    have hm2 : m ≤ 2 := by subst hm; split <;> omega
    have HM : Hid (m = if s.size < 2 then 1 else 2) := hm
    clear hrn hne hm h0 hns
    go_enter Tryd.func20, Tryd.ntmps20
    go_wp2_with fail
    refine Calls.mono (HR.out _) ?_
    rintro e W1 ⟨rfl, hW⟩
    obtain rfl := hW.symm
    clear hW
    go_wp2
    go_loopg [4] m (fun g i wr => ∃ k : Nat, g = k ∧ k ≤ m ∧ i = .int .i64 k ∧ Hid (Below w.heap.size w wr ∧ wr.heap[w.heap.size]? = some (.cells #[.int .i64 0, .int .i64 0, .string ⟨#[]⟩] 32 (0, 0)) ∧ ∀ j : Nat, k < j → j ≤ m → Ix.isSignB (l.take j) = false))
    case atStart => exact ⟨m, rfl, Nat.le_refl _, rfl, HB0.out, HN0.out, fun j h1 h2 => by omega⟩
    case round =>
      obtain ⟨k, rfl, hkm, rfl, HW⟩ := hrel
      by_cases hk : 0 < gk
      · have hks : gk ≤ s.size := by have := HM.out; rw [this] at hkm; split at hkm <;> omega
        have h1 := HI.out wr gk HW.out.1
        obtain ⟨b, hb⟩ : ∃ b, Ix.isSignB (l.take gk) = b := ⟨_, rfl⟩
        rw [hb] at h1
        have H1 : Hid _ := h1
        have HBB : Hid (Ix.isSignB (l.take gk) = b) := hb
        clear h1 hb
        go_wp2_with fail
        refine Calls.mono H1.out ?_
        rintro e W3 ⟨rfl, b3⟩
        have N3 : Hid (W3.heap[w.heap.size]? = some (.cells #[.int .i64 0, .int .i64 0, .string ⟨#[]⟩] 32 (0, 0))) := (b3.block _ (Array.getElem?_eq_some_iff.1 HW.out.2.1).1).trans HW.out.2.1
        have B3 : Hid (Below w.heap.size w W3) := HW.out.1.trans (b3.mono HW.out.1.size)
        clear b3
        cases b with
        | true =>
          have HF2 : Hid (ft.1 = 4 ∧ (⟨ft.2.toArray⟩ : ByteArray) = s.extract 0 gk) := by
            have e : Ix.signL l = l.take gk ∧ Ix.signL l ≠ [] := by
              have hl2 : l.length ≠ 0 := by have := HSZ.out; omega
              have htl : ∀ j, 0 < j → l.take j ≠ [] := fun j hj e => by have := congrArg List.length e; rw [List.length_take, List.length_nil] at this; omega
              have hm' := HM.out
              rcases HS.out with ⟨h1, h2, h3⟩ | ⟨h1, h2, h3⟩ | ⟨h1, h2, h3⟩
              · have : gk = 2 := by
                  by_cases hg : gk = 2
                  · exact hg
                  · have h9 := HW.out.2.2 2 (by omega) (by rw [hm', if_neg (by have := HSZ.out; omega)]; omega)
                    rw [h2] at h9; cases h9
                subst this
                exact ⟨h3, by rw [h3]; exact htl 2 (by omega)⟩
              · have : gk = 1 := by
                  by_cases hg : gk = 1
                  · exact hg
                  · have h8 : gk = 2 := by omega
                    have h9 := h1 (by have := HSZ.out; omega)
                    have h10 := HBB.out
                    rw [h8, h9] at h10; cases h10
                subst this
                exact ⟨h3, by rw [h3]; exact htl 1 (by omega)⟩
              · exfalso
                have h10 := HBB.out
                by_cases hg : gk = 1
                · rw [hg, h2] at h10; cases h10
                · have h8 : gk = 2 := by omega
                  rw [h8, h1 (by have := HSZ.out; omega)] at h10; cases h10
            rw [HX.out, ← HF.out, Ix.firstR_sign HRN.out e.2, e.1]
            exact ⟨rfl, rfl⟩
          obtain ⟨⟨z0, z1, z2⟩, y0, y1, y2⟩ := Tk.row3 N3.out
          go_wp2
          refine bodyPost_ret (Ix.results_tok Tryd.results20 _ _ w.heap.size _ _ _ rfl (Tk.put3 N3.out)) rfl ?_
          exact ⟨by rw [HF2.out.1, HF2.out.2], Tk.bsetCell (Tk.bsetCell (Tk.bsetCell B3.out (Nat.le_refl _) _) (Nat.le_refl _) _) (Nat.le_refl _) _⟩
        | false =>
          go_wp2
          go_roundg (gk - 1)
          case measure => omega
          case rel =>
            refine ⟨gk - 1, rfl, by omega, by go_num, B3.out, N3.out, fun j h1 h2 => ?_⟩
            by_cases e : j = gk
            · subst e; exact HBB.out
            · exact HW.out.2.2 j (by omega) h2
      · have hk0 : gk = 0 := by omega
        subst hk0
        have HF2 : Hid (ft = (0, [])) := by
          have e : Ix.signL l = [] := by
            have hm' := HM.out
            rcases HS.out with ⟨h1, h2, h3⟩ | ⟨h1, h2, h3⟩ | ⟨h1, h2, h3⟩
            · have h9 := HW.out.2.2 2 (by omega) (by rw [hm', if_neg (by have := HSZ.out; omega)]; omega)
              rw [h2] at h9; cases h9
            · have h9 := HW.out.2.2 1 (by omega) (by rw [hm']; split <;> omega)
              rw [h2] at h9; cases h9
            · exact h3
          show _ = _
          rw [← HF.out, Ix.firstR_none HRN.out e]
        obtain ⟨⟨z0, z1, z2⟩, y0, y1, y2⟩ := Tk.row3 HW.out.2.1
        go_wp2
        refine bodyPost_ret (Ix.results_tok Tryd.results20 _ _ w.heap.size _ _ _ rfl (Tk.put3 HW.out.2.1)) rfl ?_
        exact ⟨by rw [HF2.out], Tk.bsetCell (Tk.bsetCell (Tk.bsetCell HW.out.1 (Nat.le_refl _) _) (Nat.le_refl _) _) (Nat.le_refl _) _⟩

end Go.Proofs
