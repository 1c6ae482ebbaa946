/-
  The contract of the reader's term.
-/
import Derived.Test.YtehmmfmofdgheaaDoorTBranch
namespace Go.Proofs
open Go.RowKit

theorem Tk.leaf_lies (w : World) (A B L : Nat) (T : Tm) (h : T.ks = []) : Tm.LiesIn w A B (L + 1) (.slice none 0 0) T := ⟨none, 0, by rw [h]; rfl, .inl h⟩
theorem Tk.leafL_ks {l : List UInt8} {T : Tm} (h : Tk.leafL l = some T) : T.ks = [] := by
  rw [Tk.leafL_eq] at h
  split at h
  · obtain ⟨n, _, rfl⟩ := Option.map_eq_some_iff.1 h; rfl
  · obtain ⟨n, _, rfl⟩ := Option.map_eq_some_iff.1 h; rfl

set_option maxHeartbeats 4000000 in
set_option maxRecDepth 20000 in
theorem Tryd.term_succ (L : Nat) (hL : L ≤ 100) (hTC : Tk.TermC L) : Tk.TermC (L + 1) := by
  intro b l w hR hO hb0 hl
  have HTC : Hid (Tk.TermC L) := hTC
  have HB0 : Hid (Tk.But (fun k => k = b) w (w.alloc (.cells #[.int .i64 0, .int .i64 0, .slice none 0 0] 37))) := (Tk.But.refl _ w).alloc _
  have HR0 : Hid (Tk.Rd b l (w.alloc (.cells #[.int .i64 0, .int .i64 0, .slice none 0 0] 37))) := hR.keep (Below.heap_alloc _ _ _ hR.lt)
  have HO0 : Hid (Tk.Ops (w.alloc (.cells #[.int .i64 0, .int .i64 0, .slice none 0 0] 37))) := hO.keep (Below.heap_alloc _ _ _ hO.lt)
  have HN0 : Hid ((w.alloc (.cells #[.int .i64 0, .int .i64 0, .slice none 0 0] 37)).heap[w.heap.size]? = some (.cells #[.int .i64 0, .int .i64 0, .slice none 0 0] 37 (0, 0))) := heap_alloc_new w _
  have HS0 : Hid ((w.alloc (.cells #[.int .i64 0, .int .i64 0, .slice none 0 0] 37)).heap.size = w.heap.size + 1) := by show _ = _; simp
  have HLT : Hid (b < w.heap.size) := hR.lt
  have HB : Hid (1 < b) := hb0
  have HL : Hid (l.length ≤ 20000) := hl
  have H1 : Hid (∀ W, Tk.Rd b l W → Calls Tryd.prog 82 #[.pointer (some ⟨b, 0, none⟩), .string ⟨#[40]⟩] W fun e w' => e = .returned (.bool (Lib.hasPrefix l [40])) ∧ Tk.Rd b (Lib.trimPrefix l [40]) w' ∧ Tk.But (fun k => k = b) W w') := fun W h => Tryd.skip_any b l ⟨#[40]⟩ W h
  obtain ⟨o, ho⟩ : ∃ x, Tk.termF (L + 1) l = x := ⟨_, rfl⟩
  have HQ : Hid (Tk.termF (L + 1) l = o) := ho
  rw [ho]
  have hlv : ((L + 1 : Nat) : Int) = (L : Int) + 1 := by omega
  rw [hlv]
  clear hTC hR hO hb0 hl ho hlv
  go_enter Tryd.func74, Tryd.ntmps74
  go_wp2_with fail
  refine Calls.mono (H1.out _ HR0.out) ?_
  rintro e W1 ⟨rfl, hr1, hb1⟩
  have HR1 : Hid (Tk.Rd b (Lib.trimPrefix l [40]) W1) := hr1
  have HB1 : Hid (Tk.But (fun k => k = b) w W1) := HB0.out.trans hb1
  have HO1 : Hid (Tk.Ops W1) := HO0.out.keep (hb1.block 1 HO0.out.lt (by have := HB.out; omega))
  have HN1 : Hid (W1.heap[w.heap.size]? = some (.cells #[.int .i64 0, .int .i64 0, .slice none 0 0] 37 (0, 0))) := (hb1.block w.heap.size (by have := HS0.out; omega) (by have := HLT.out; omega)).trans HN0.out
  clear hr1 hb1
  cases hp : Lib.hasPrefix l [40]
  · have HR1' : Hid (Tk.Rd b l W1) := by
      have h1 := HR1.out
      unfold Lib.trimPrefix at h1
      rw [if_neg (by rw [hp]; decide)] at h1
      exact h1
    have HQ2 : Hid ((match Tk.leafL (Tk.wordL l) with | none => none | some t => some (t, l.drop (Tk.wordL l).length)) = o) := by
      have h1 := HQ.out
      rw [Tk.termF, if_neg (by rw [hp]; decide)] at h1
      exact h1
    have HC : Hid (∀ W, Tk.Rd b l W → Calls Tryd.prog 85 #[.pointer (some ⟨b, 0, none⟩)] W fun e w' => e = .returned (.string ⟨(Tk.wordL l).toArray⟩) ∧ Tk.Rd b (l.drop (Tk.wordL l).length) w' ∧ Tk.But (fun k => k = b) W w') := fun W h => Tryd.word_any b l W h HL.out
    have hwl : (Tk.wordL l).length ≤ 20000 := Nat.le_trans (Tk.word_le l) HL.out
    obtain ⟨wd, hwd⟩ : ∃ x, Tk.wordL l = x := ⟨_, rfl⟩
    obtain ⟨l1, hl1⟩ : ∃ x, l.drop wd.length = x := ⟨_, rfl⟩
    rw [hwd] at HC HQ2 hwl
    rw [hl1] at HC HQ2
    obtain ⟨lf, hlf⟩ : ∃ x, Tk.leafL wd = x := ⟨_, rfl⟩
    have HD : Hid (∀ W, Tk.Ops W → Calls Tryd.prog 84 #[.string ⟨wd.toArray⟩] W fun e w' => e = .returned (Tk.leafV lf) ∧ Below W.heap.size W w') := fun W h => by have := Tryd.leaf_any wd W h hwl; rw [hlf] at this; exact this
    have HK : Hid (∀ T, lf = some T → T.ks = []) := fun T h => Tk.leafL_ks (hlf.trans h)
    rw [hlf] at HQ2
    have HL1 : Hid (l1.length ≤ 20000) := by show _ ≤ _; have := HL.out; rw [← hl1, List.length_drop]; omega
    obtain ⟨s1, hs1⟩ : ∃ s : ByteArray, s = ⟨wd.toArray⟩ := ⟨_, rfl⟩
    rw [← hs1] at HC HD
    clear hp hwl hwd hl1 hlf hs1
    go_wp2_with fail
    refine Calls.mono (HC.out _ HR1'.out) ?_
    rintro e W2 ⟨rfl, hr2, hb2⟩
    have HR2 : Hid (Tk.Rd b l1 W2) := hr2
    have HB2 : Hid (Tk.But (fun k => k = b) w W2) := HB1.out.trans hb2
    have HO2 : Hid (Tk.Ops W2) := HO1.out.keep (hb2.block 1 HO1.out.lt (by have := HB.out; omega))
    have HN2 : Hid (W2.heap[w.heap.size]? = some (.cells #[.int .i64 0, .int .i64 0, .slice none 0 0] 37 (0, 0))) := (hb2.block w.heap.size (Array.getElem?_eq_some_iff.1 HN1.out).1 (by have := HLT.out; omega)).trans HN1.out
    clear hr2 hb2
    go_wp2_with fail
    refine Calls.mono (HD.out _ HO2.out) ?_
    rintro e W3 ⟨rfl, hb3⟩
    have HR3 : Hid (Tk.Rd b l1 W3) := HR2.out.keep (hb3.block b HR2.out.lt)
    have HB3 : Hid (Tk.But (fun k => k = b) w W3) := HB2.out.trans (Tk.But.of_below hb3)
    have HN3 : Hid (W3.heap[w.heap.size]? = some (.cells #[.int .i64 0, .int .i64 0, .slice none 0 0] 37 (0, 0))) := (hb3.block w.heap.size (Array.getElem?_eq_some_iff.1 HN2.out).1).trans HN2.out
    clear hb3
    obtain ⟨⟨z0, z1, z2⟩, y0, y1, y2⟩ := Tk.row3 HN3.out
    cases lf with
    | none =>
      simp only [Tk.leafV]
      go_wp2
      refine bodyPost_ret (Tk.results_term Tryd.results74 _ _ w.heap.size _ _ _ rfl (Tk.put3 HN3.out)) rfl ?_
      rw [← HQ2.out]
      exact ⟨_, _, _, _, _, rfl, ((HB3.out.setNew (Nat.le_refl _) _).setNew (Nat.le_refl _) _).setNew (Nat.le_refl _) _, fun T r h => by cases h⟩
    | some T =>
      simp only [Tk.leafV]
      go_wp2
      refine bodyPost_ret (Tk.results_term Tryd.results74 _ _ w.heap.size _ _ _ rfl (Tk.put3 HN3.out)) rfl ?_
      rw [← HQ2.out]
      refine ⟨_, _, _, _, _, rfl, ((HB3.out.setNew (Nat.le_refl _) _).setNew (Nat.le_refl _) _).setNew (Nat.le_refl _) _, fun T' r h => ?_⟩
      obtain ⟨rfl, rfl⟩ := Prod.mk.inj (Option.some.inj h)
      have hlt := HLT.out
      have e6 : ∀ q, q ≠ w.heap.size → (((W3.setCell ⟨w.heap.size, 0, none⟩ (.int .i64 T.op)).setCell ⟨w.heap.size, 1, none⟩ (.int .i64 T.num)).setCell ⟨w.heap.size, 2, none⟩ (.slice none 0 0)).heap[q]? = W3.heap[q]? := fun q hq =>
        (Below.heap_setCell _ _ _ _ hq).trans ((Below.heap_setCell _ _ _ _ hq).trans (Below.heap_setCell _ _ _ _ hq))
      exact ⟨rfl, rfl, HR3.out.keep (e6 b (by omega)), HL1.out, Tk.leaf_lies _ _ _ _ _ (HK.out T rfl)⟩
  · have HR1' : Hid (Tk.Rd b (l.drop 1) W1) := by
      have h1 := HR1.out
      unfold Lib.trimPrefix at h1
      rw [if_pos hp] at h1
      exact h1
    have HC : Hid (Calls Tryd.prog 83 #[.pointer (some ⟨b, 0, none⟩), .int .i64 ((L : Int) + 1)] W1 fun e w' => Tk.Read (L + 1) b o W1 e w') := by
      have h1 := Tryd.branch_any L HTC.out b (l.drop 1) W1 HR1'.out HO1.out HB.out (by have := HL.out; rw [List.length_drop]; omega) hL
      have h2 := HQ.out
      rw [Tk.termF, if_pos hp] at h2
      rw [← h2]
      exact h1
    clear hp
    go_wp2_with fail
    refine Calls.mono HC.out ?_
    rintro e W2 ⟨op', n', a', len', cap', rfl, b2, h2⟩
    have HB2 : Hid (Tk.But (fun k => k = b) w W2) := HB1.out.trans b2
    have HN2 : Hid (W2.heap[w.heap.size]? = some (.cells #[.int .i64 0, .int .i64 0, .slice none 0 0] 37 (0, 0))) := (b2.block w.heap.size (Array.getElem?_eq_some_iff.1 HN1.out).1 (by have := HLT.out; omega)).trans HN1.out
    have HN1' : Hid (w.heap.size < W1.heap.size) := (Array.getElem?_eq_some_iff.1 HN1.out).1
    have H2 : Hid (∀ T r, o = some (T, r) → op' = T.op ∧ n' = T.num ∧ Tk.Rd b r W2 ∧ r.length ≤ 20000 ∧ Tm.LiesIn W2 W1.heap.size W2.heap.size (L + 1) (.slice a' len' cap') T) := h2
    clear h2 b2
    obtain ⟨⟨z0, z1, z2⟩, y0, y1, y2⟩ := Tk.row3 HN2.out
    obtain ⟨ob, hob⟩ : ∃ x, o.isSome = x := ⟨_, rfl⟩
    rw [hob]
    have HOB : Hid (o.isSome = ob) := hob
    clear hob
    go_wp2
    refine bodyPost_ret (Tk.results_term Tryd.results74 _ _ w.heap.size _ _ _ rfl (Tk.put3 HN2.out)) rfl ?_
    have hlt := HLT.out
    have hn1 := HN1'.out
    have e6 : ∀ q, q ≠ w.heap.size → (((W2.setCell ⟨w.heap.size, 0, none⟩ (.int .i64 op')).setCell ⟨w.heap.size, 1, none⟩ (.int .i64 n')).setCell ⟨w.heap.size, 2, none⟩ (.slice a' len' cap')).heap[q]? = W2.heap[q]? := fun q hq =>
      (Below.heap_setCell _ _ _ _ hq).trans ((Below.heap_setCell _ _ _ _ hq).trans (Below.heap_setCell _ _ _ _ hq))
    have s6 : (((W2.setCell ⟨w.heap.size, 0, none⟩ (.int .i64 op')).setCell ⟨w.heap.size, 1, none⟩ (.int .i64 n')).setCell ⟨w.heap.size, 2, none⟩ (.slice a' len' cap')).heap.size = W2.heap.size := by simp [World.setCell]
    refine ⟨op', n', a', len', cap', by rw [HOB.out]; rfl, ((HB2.out.setNew (Nat.le_refl _) _).setNew (Nat.le_refl _) _).setNew (Nat.le_refl _) _, fun T r h => ?_⟩
    obtain ⟨h1, h2, h3, h4, h5⟩ := H2.out T r h
    refine ⟨h1, h2, h3.keep (e6 b (by omega)), h4, ?_⟩
    rw [s6]
    exact (h5.keep fun q hq _ => e6 q (by omega)).wider (by omega) (Nat.le_refl _)

set_option maxHeartbeats 1000000 in
theorem Tryd.term_zero : Tk.TermC 0 := by
  intro b l w hR hO hb0 hl
  have HB0 : Hid (Tk.But (fun k => k = b) w (w.alloc (.cells #[.int .i64 0, .int .i64 0, .slice none 0 0] 37))) := (Tk.But.refl _ w).alloc _
  have HN0 : Hid ((w.alloc (.cells #[.int .i64 0, .int .i64 0, .slice none 0 0] 37)).heap[w.heap.size]? = some (.cells #[.int .i64 0, .int .i64 0, .slice none 0 0] 37 (0, 0))) := heap_alloc_new w _
  clear hR hO hb0 hl
  go_enter Tryd.func74, Tryd.ntmps74
  go_wp2
  refine bodyPost_ret (Tk.results_term Tryd.results74 _ _ w.heap.size _ _ _ rfl HN0.out) rfl ?_
  exact ⟨_, _, _, _, _, rfl, HB0.out, fun T r h => by cases h⟩
theorem Tryd.term_any : ∀ L : Nat, L ≤ 100 → Tk.TermC L
  | 0, _ => Tryd.term_zero
  | L + 1, h => Tryd.term_succ L (by omega) (Tryd.term_any L (by omega))

end Go.Proofs
