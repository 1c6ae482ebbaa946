/-
  The walk of TermBack: there and back.
-/
import Derived.Test.YtegcepenpchonaaDoorTLess
import Derived.Test.YtegcepenpchonaaDoorTLarge3
import Derived.Test.YtegcepenpchonaaDoorTmBack2
import Derived.Test.YtegcepenpchonaaDoorTPlainT
namespace Go.Proofs
open Go.RowKit

mutual
theorem Tm.size_le_txt : ∀ T : Tm, T.allForm = true → T.size ≤ T.txt.length
  | .mk op n ks, h => by
    have hp := Tm.txt_pos _ h
    simp only [Tm.allForm, Bool.and_eq_true, Tm.formedB, decide_eq_true_eq] at h
    have h2 := Tm.sizes_le_txts ks h.2
    by_cases hk : Tm.kidsOf op = 0
    · have hks : ks = [] := List.length_eq_zero_iff.1 (by omega)
      subst hks
      simp only [Tm.size, Tm.sizes]
      exact hp
    · simp only [Tm.txt, hk, if_false, Tm.size, List.length_cons, List.length_append, List.length_nil]
      omega
theorem Tm.sizes_le_txts : ∀ l : List Tm, Tm.allForms l = true → Tm.sizes l ≤ (Tm.txts l).length
  | [], _ => by simp [Tm.sizes]
  | k :: r, h => by
    simp only [Tm.allForms, Bool.and_eq_true] at h
    have h1 := Tm.size_le_txt k h.1
    have h2 := Tm.sizes_le_txts r h.2
    simp only [Tm.txts, Tm.sizes, List.length_cons, List.length_append]
    omega
end
theorem Tm.text_ok {T : Tm} {l : List UInt8} (h : T.textR = (l, 0)) : l.length ≤ 20000 ∧ T.size ≤ 20000 := by
  unfold Tm.textR at h
  by_cases hw : T.wrongR ≠ 0
  · rw [if_pos hw] at h
    exact (hw (Prod.mk.inj h).2).elim
  · rw [if_neg hw] at h
    have hw0 : T.wrongR = 0 := by simpa using hw
    by_cases hl : 20000 < T.txt.length
    · rw [if_pos hl] at h
      have := (Prod.mk.inj h).2
      omega
    · rw [if_neg hl] at h
      obtain rfl := (Prod.mk.inj h).1
      have := Tm.size_le_txt T (Tm.wrong_zero hw0).2
      omega
theorem Tk.parse_err {l : List UInt8} {x : Int} (h : Tk.parseR l = .error x) : (x == 0) = false := by
  unfold Tk.parseR at h
  by_cases hl : 20000 < l.length
  · rw [if_pos hl] at h; obtain rfl := Except.error.inj h; rfl
  · rw [if_neg hl] at h
    split at h
    · cases h
    · obtain rfl := Except.error.inj h; rfl

end Go.Proofs
namespace Go.Proofs.YtegcepenpchonaaDoor.TermBack
open Go.RowKit

set_option maxHeartbeats 8000000 in
set_option maxRecDepth 20000 in
theorem walk (d : Nat) (T : Tm) (v : Value) (ls : List UInt8) (w : World) (hT : Tm.Lies w w.heap.size d v T) (hO : Tk.Ops w) (hTB : Lib.TabBelow Tryd.prog w.heap.size w "internal/strconv.uint64pow10" .u64 Lib.pow10Tab) (hlz : ls.length ≤ 9223372036854775807) :
    Calls Tryd.prog 6 #[.agg #[.int .i64 T.op, .int .i64 T.num, v], .string ⟨ls.toArray⟩] w fun e w' => e = .returned (.bool true) ∧ Below w.heap.size w w' := by
  obtain ⟨a, cap, rfl⟩ := hT.shape
  obtain ⟨o, ho⟩ : ∃ o, T.op = o := ⟨_, rfl⟩
  obtain ⟨m, hm⟩ : ∃ m, T.num = m := ⟨_, rfl⟩
  obtain ⟨n, hn⟩ : ∃ n, T.ks.length = n := ⟨_, rfl⟩
  rw [ho, hm, hn]
  rw [hn] at hT
  obtain ⟨s, hs⟩ : ∃ s : ByteArray, s = ⟨ls.toArray⟩ := ⟨_, rfl⟩
  have hsz : s.size = ls.length := by rw [hs]; simp [ByteArray.size]
  rw [← hs]
  obtain ⟨w0, hw0⟩ : ∃ w0, (w.alloc (.cells #[.int .i64 o, .int .i64 m, .slice a n cap] 24)).alloc (.cells #[.int .i64 2000] 28) = w0 := ⟨_, rfl⟩
  have A0 : Below w.heap.size w w0 := by rw [← hw0]; exact ((Below.refl _ w).alloc (Nat.le_refl _) _).alloc (by simp) _
  have C0 : w0.heap[w.heap.size]? = some (.cells #[.int .i64 o, .int .i64 m, .slice a n cap] 24 (0, 0)) := by rw [← hw0, Below.heap_alloc _ _ _ (by simp)]; exact heap_alloc_new w _
  have R0 : Tk.Rm (w.heap.size + 1) (2000 : Nat) w0 := by
    rw [← hw0]
    have := heap_alloc_new (w.alloc (.cells #[.int .i64 o, .int .i64 m, .slice a n cap] 24)) (.cells #[.int .i64 2000] 28)
    simpa [Tk.Rm] using this
  have h1 := Tryd.large_any d T (.slice a n cap) 2000 (w.heap.size + 1) 1 w.heap.size w0 (hT.below A0) (by omega) A0.size R0 (by omega) (by omega)
  rw [ho, hm] at h1
  have H1 : Hid _ := h1
  have HT : Hid (Tm.Lies w w.heap.size d (.slice a n cap) T) := hT
  have HM : Hid (T.op = o ∧ T.num = m) := ⟨ho, hm⟩
  have HO : Hid (Tk.Ops w) := hO
  have HA : Hid (Below w.heap.size w w0) := A0
  have HTB : Hid (∀ W, Below w.heap.size w W → Lib.TabIs Tryd.prog W "internal/strconv.uint64pow10" .u64 Lib.pow10Tab) := hTB
  have HC0 : Hid _ := C0
  have HS : Hid (s = ⟨ls.toArray⟩ ∧ s.size = ls.length) := ⟨hs, hsz⟩
  have hs9 : s.size ≤ 9223372036854775807 := by omega
  have HW0 : Hid ((w.alloc (.cells #[.int .i64 o, .int .i64 m, .slice a n cap] 24)).alloc (.cells #[.int .i64 2000] 28) = w0) := hw0
  have hu2 := Tryd.underlying24
  have HH : Hid (∀ W, Below w.heap.size w W → Calls Tryd.prog 9 #[] W fun e w' => e = .returned (.bool true) ∧ Below w.heap.size w w') := fun W hW => (Tryd.less_any W (HO.out.below hW HO.out.lt) (Lib.tabBelow_of_tabIs (hTB W hW))).mono fun e w' ⟨he, hb⟩ => ⟨he, hW.trans (hb.mono hW.size)⟩
  clear hw0 h1 hT hO ho hm A0 C0 hn R0 hTB hs hsz hlz
  go_enter Tryd.func6, Tryd.ntmps6
  go_wp2_with fail
  rw [HW0.out]
  refine Calls.mono H1.out ?_
  rintro e W1 ⟨b1, hcase⟩
  have S1 := b1.size
  have B1 : Hid (Below w.heap.size w W1) := HA.out.trans (b1.below HA.out.size (by intro k hk; show ¬ k = w.heap.size + 1; omega))
  have hby : W1.heap[w.heap.size]? = some (.cells #[.int .i64 o, .int .i64 m, .slice a n cap] 24 (0, 0)) := by
    rw [b1.block _ (Array.getElem?_eq_some_iff.1 HC0.out).1 (by show ¬ w.heap.size = w.heap.size + 1; omega)]; exact HC0.out
  rcases hcase with ⟨rfl, hsz, -⟩ | rfl
  rotate_left
  · clear b1 S1 H1 HW0 hby
    go_wp2_with fail
    refine Calls.mono (HH.out _ B1.out) ?_
    rintro e W2 ⟨rfl, b2⟩
    have B2 : Hid (Below w.heap.size w W2) := b2
    clear b2
    go_wp2
    go_ret
    exact ⟨rfl, B2.out⟩
  have HSZ : Hid (T.size ≤ 1000000) := by show _ ≤ _; omega
  have HT1 : Hid (∀ W, Below w.heap.size w W → Tm.Lies W W.heap.size d (.slice a n cap) T) := fun W hW => (HT.out.below hW).wider hW.size
  have HY : Hid (W1.heap[w.heap.size]? = some (.cells #[.int .i64 o, .int .i64 m, .slice a n cap] 24 (0, 0))) := hby
  clear b1 S1 H1 HW0 hsz HT HA HC0
  by_cases hlong : 5000 < s.size
  · clear hby
    go_wp2_with fail
    refine Calls.mono (HH.out _ B1.out) ?_
    rintro e W2 ⟨rfl, b2⟩
    have B2 : Hid (Below w.heap.size w W2) := b2
    clear b2
    go_wp2
    go_ret
    exact ⟨rfl, B2.out⟩
  have hs5 : s.size ≤ 5000 := by omega
  have h2 := Tryd.text_any d T (.slice a n cap) W1 (HT1.out W1 B1.out) (HO.out.below B1.out HO.out.lt) (HTB.out W1 B1.out) HSZ.out
  obtain ⟨q, hq⟩ : ∃ q, T.textR = q := ⟨_, rfl⟩
  rw [HM.out.1, HM.out.2, hq] at h2
  obtain ⟨tl, er⟩ := q
  have HQ : Hid (T.textR = (tl, er)) := hq
  obtain ⟨ts, hts⟩ : ∃ s : ByteArray, s = ⟨tl.toArray⟩ := ⟨_, rfl⟩
  simp only [← hts] at h2
  have HTS : Hid (ts = ⟨tl.toArray⟩) := hts
  have H2 : Hid _ := h2
  clear h2 hq hts
  go_wp2_with (refine wpList_load_row rfl 24 _ rfl _ rfl 24 _ (0, 0) _ hby hu2 rfl (by kernel_rfl) ?_)
  go_wp2_with fail
  refine Calls.mono H2.out ?_
  rintro e W2 ⟨rfl, b2⟩
  have B2 : Hid (Below w.heap.size w W2) := B1.out.trans (b2.mono B1.out.size)
  have hby2 : W2.heap[w.heap.size]? = some (.cells #[.int .i64 o, .int .i64 m, .slice a n cap] 24 (0, 0)) := by
    rw [b2.block _ (Array.getElem?_eq_some_iff.1 HY.out).1]; exact HY.out
  have HY2 : Hid _ := hby2
  clear b2 H2 hby hby2
  have HP : Hid (∀ W, Below w.heap.size w W → Calls Tryd.prog 14 #[.string s] W fun e w' => Tk.Parsed (Tk.parseR ls) W e w') := fun W hW => by
    rw [HS.out.1]
    exact Tryd.parse_any ls W (HO.out.below hW HO.out.lt) (by have := HS.out.2; omega)
  have hnn : (s.toList != s.toList) = false := by simp
  by_cases he : er = 0
  · subst he
    have hok := Tm.text_ok HQ.out
    have h3 := Tryd.parse_any tl W2 (HO.out.below B2.out HO.out.lt) (by omega)
    rw [Tk.parse_of_text HQ.out, ← HTS.out] at h3
    have H3 : Hid _ := h3
    clear h3 hok
    go_wp2_with fail
    refine Calls.mono H3.out ?_
    rintro e W3 ⟨op1, n1, a1, len1, cap1, err1, rfl, b3, rfl, rfl, rfl, hli⟩
    rw [HM.out.1, HM.out.2]
    have B3 : Hid (Below w.heap.size w (W3.alloc (.cells #[.int .i64 o, .int .i64 m, .slice a1 len1 cap1] 24))) := (B2.out.trans (b3.mono B2.out.size)).alloc (by have := B2.out.size; have := b3.size; omega) _
    have hY3 : (W3.alloc (.cells #[.int .i64 o, .int .i64 m, .slice a1 len1 cap1] 24)).heap[w.heap.size]? = some (.cells #[.int .i64 o, .int .i64 m, .slice a n cap] 24 (0, 0)) := by
      have hlt := (Array.getElem?_eq_some_iff.1 HY2.out).1
      rw [Below.heap_alloc _ _ _ (Nat.lt_of_lt_of_le hlt b3.size), b3.block _ hlt]; exact HY2.out
    obtain ⟨⟨z0, z1, z2⟩, _⟩ := Tk.row3 hY3
    have h4 := Tryd.plainTerm_same d T (.slice a n cap) (.slice a1 len1 cap1) 24 (W3.alloc (.cells #[.int .i64 o, .int .i64 m, .slice a1 len1 cap1] 24)).heap.size _ (HT1.out _ B3.out) ((hli.lies.keep (fun k hk => Below.heap_alloc _ _ _ hk)).wider (by simp)) (Nat.le_refl _) (by have := HSZ.out; omega)
    rw [HM.out.1, HM.out.2] at h4
    have H4 : Hid _ := h4
    clear h4 hli b3 hY3
    go_wp2_with fail
    refine Calls.mono H4.out ?_
    rintro e W4 ⟨rfl, b4⟩
    have BZ : Hid (Below w.heap.size w W4) := B3.out.trans (b4.mono B3.out.size)
    clear b4 z0 z1 z2 H4
    go_wp2_with fail
    refine Calls.mono (HP.out _ BZ.out) ?_
    rintro e W5 ⟨op2, n2, a2, len2, cap2, err2, rfl, b5, hpr⟩
    have B5 : Hid (Below w.heap.size w (W5.alloc (.cells #[.int .i64 op2, .int .i64 n2, .slice a2 len2 cap2] 24))) := (BZ.out.trans (b5.mono BZ.out.size)).alloc (by have := BZ.out.size; have := b5.size; omega) _
    cases hp : Tk.parseR ls with
    | error x =>
      rw [hp] at hpr
      obtain ⟨rfl, -⟩ := hpr
      have hx := Tk.parse_err hp
      clear hp b5
      go_wp2_with fail
      refine Calls.mono (HH.out _ B5.out) ?_
      rintro e W9 ⟨rfl, b9⟩
      have B9 : Hid (Below w.heap.size w W9) := b9
      clear b9
      go_wp2
      go_ret
      exact ⟨rfl, B9.out⟩
    | ok U =>
      rw [hp] at hpr
      obtain ⟨rfl, rfl, rfl, hli⟩ := hpr
      have htx := Tk.text_of_parse hp
      have hok := Tm.text_ok htx
      have h6 := Tryd.text_any 24 U (.slice a2 len2 cap2) (W5.alloc (.cells #[.int .i64 U.op, .int .i64 U.num, .slice a2 len2 cap2] 24)) ((hli.lies.keep (fun k hk => Below.heap_alloc _ _ _ hk)).wider (by simp)) (HO.out.below B5.out HO.out.lt) (HTB.out _ B5.out) (by omega)
      rw [htx] at h6
      simp only [← HS.out.1] at h6
      have H6 : Hid _ := h6
      clear hp hli htx hok h6 b5
      obtain ⟨uo, huo⟩ : ∃ x, U.op = x := ⟨_, rfl⟩
      obtain ⟨um, hum⟩ : ∃ x, U.num = x := ⟨_, rfl⟩
      rw [huo, hum] at H6 B5 ⊢
      clear huo hum
      go_wp2_with fail
      refine Calls.mono H6.out ?_
      rintro e W6 ⟨rfl, b6⟩
      have B6 : Hid (Below w.heap.size w W6) := B5.out.trans (b6.mono B5.out.size)
      clear b6
      go_wp2_with fail
      refine Calls.mono (HH.out _ B6.out) ?_
      rintro e W9 ⟨rfl, b9⟩
      have B9 : Hid (Below w.heap.size w W9) := b9
      clear b9
      go_wp2
      go_ret
      exact ⟨rfl, B9.out⟩
  · have hne : (er == 0) = false := by simpa using he
    clear he
    have BZ : Hid (Below w.heap.size w W2) := B2.out
    go_wp2_with fail
    refine Calls.mono (HP.out _ BZ.out) ?_
    rintro e W5 ⟨op2, n2, a2, len2, cap2, err2, rfl, b5, hpr⟩
    have B5 : Hid (Below w.heap.size w (W5.alloc (.cells #[.int .i64 op2, .int .i64 n2, .slice a2 len2 cap2] 24))) := (BZ.out.trans (b5.mono BZ.out.size)).alloc (by have := BZ.out.size; have := b5.size; omega) _
    cases hp : Tk.parseR ls with
    | error x =>
      rw [hp] at hpr
      obtain ⟨rfl, -⟩ := hpr
      have hx := Tk.parse_err hp
      clear hp b5
      go_wp2_with fail
      refine Calls.mono (HH.out _ B5.out) ?_
      rintro e W9 ⟨rfl, b9⟩
      have B9 : Hid (Below w.heap.size w W9) := b9
      clear b9
      go_wp2
      go_ret
      exact ⟨rfl, B9.out⟩
    | ok U =>
      rw [hp] at hpr
      obtain ⟨rfl, rfl, rfl, hli⟩ := hpr
      have htx := Tk.text_of_parse hp
      have hok := Tm.text_ok htx
      have h6 := Tryd.text_any 24 U (.slice a2 len2 cap2) (W5.alloc (.cells #[.int .i64 U.op, .int .i64 U.num, .slice a2 len2 cap2] 24)) ((hli.lies.keep (fun k hk => Below.heap_alloc _ _ _ hk)).wider (by simp)) (HO.out.below B5.out HO.out.lt) (HTB.out _ B5.out) (by omega)
      rw [htx] at h6
      simp only [← HS.out.1] at h6
      have H6 : Hid _ := h6
      clear hp hli htx hok h6 b5
      obtain ⟨uo, huo⟩ : ∃ x, U.op = x := ⟨_, rfl⟩
      obtain ⟨um, hum⟩ : ∃ x, U.num = x := ⟨_, rfl⟩
      rw [huo, hum] at H6 B5 ⊢
      clear huo hum
      go_wp2_with fail
      refine Calls.mono H6.out ?_
      rintro e W6 ⟨rfl, b6⟩
      have B6 : Hid (Below w.heap.size w W6) := B5.out.trans (b6.mono B5.out.size)
      clear b6
      go_wp2_with fail
      refine Calls.mono (HH.out _ B6.out) ?_
      rintro e W9 ⟨rfl, b9⟩
      have B9 : Hid (Below w.heap.size w W9) := b9
      clear b9
      go_wp2
      go_ret
      exact ⟨rfl, B9.out⟩

end Go.Proofs.YtegcepenpchonaaDoor.TermBack
