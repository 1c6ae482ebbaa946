/-
  Size of blocks.
-/
import Derived.Test.YtimmgchapcbgfaaDoorBlWays
namespace Go.Proofs
open Go.RowKit Go.Shelf

/-- The box that is counted in. -/
def Bk.Ct (b : Nat) (c : Nat) (w : World) : Prop := w.heap[b]? = some (.cells #[.int .i64 c] 3 (0, 0))
theorem Bk.Ct.c0 {b c : Nat} {w : World} (h : Bk.Ct b c w) : w.cell? ⟨b, 0, none⟩ = some (.int .i64 c) := by simp only [Bk.Ct] at h; simp [World.cell?, h]
theorem Bk.Ct.f0 {b c : Nat} {w : World} (h : Bk.Ct b c w) : w.frozen? ⟨b, 0, none⟩ = false := by simp only [Bk.Ct] at h; simp [World.frozen?, h]
theorem Bk.Ct.lt {b c : Nat} {w : World} (h : Bk.Ct b c w) : b < w.heap.size := (Array.getElem?_eq_some_iff.1 h).1
theorem Bk.Ct.put {b c : Nat} {w : World} (h : Bk.Ct b c w) (c' : Nat) : Bk.Ct b c' (w.setCell ⟨b, 0, none⟩ (.int .i64 c')) := by
  unfold Bk.Ct at *
  simp [World.setCell, Array.getElem?_modify, h]
theorem Bk.Ct.keep {b c : Nat} {w w' : World} (h : Bk.Ct b c w) (hk : w'.heap[b]? = w.heap[b]?) : Bk.Ct b c w' := by unfold Bk.Ct; rw [hk]; exact h

set_option maxHeartbeats 800000 in
theorem Tryd.bcount_any (k n r : Int) (a : Option Addr) (len c : Nat) (al : Option Addr) (nl cl : Nat) (b s : Nat) (w : World) (h : Bk.Ct b s w) (hs : s < 2147483647) :
    Calls Tryd.prog 19 #[.agg #[.int .i64 k, .int .i64 n, .int .i64 r, .slice a len c, .slice al nl cl], .pointer (some ⟨b, 0, none⟩)] w fun e w' => e = .returned (.bool true) ∧ Bk.Ct b (s + 1) w' ∧ Tk.But (fun k => k = b) w w' := by
  have B0 : Below w.heap.size w (w.alloc (.cells #[.int .i64 k, .int .i64 n, .int .i64 r, .slice a len c, .slice al nl cl] 25)) := (Below.refl _ w).alloc (Nat.le_refl _) _
  have R0 : Bk.Ct b s (w.alloc (.cells #[.int .i64 k, .int .i64 n, .int .i64 r, .slice a len c, .slice al nl cl] 25)) := h.keep (B0.block b h.lt)
  have c0 := R0.c0
  have f0 := R0.f0
  have c1 := h.c0
  have f1 := h.f0
  have hw : IntKind.i64.wrap ((s : Int) + 1) = ((s + 1 : Nat) : Int) := by rw [IntKind.wrap_i64]; omega
  have HR : Hid (Bk.Ct b s (w.alloc (.cells #[.int .i64 k, .int .i64 n, .int .i64 r, .slice a len c, .slice al nl cl] 25)) ∧ Below w.heap.size w (w.alloc (.cells #[.int .i64 k, .int .i64 n, .int .i64 r, .slice a len c, .slice al nl cl] 25)) ∧ Bk.Ct b s w) := ⟨R0, B0, h⟩
  clear R0 B0 h
  go_enter Tryd.func19, Tryd.ntmps19
  go_wp2
  go_ret
  have e1 := HR.out.1.put (s + 1)
  have e2 := HR.out.2.2.put (s + 1)
  have e3 := (Tk.But.of_below (E := fun k => k = b) HR.out.2.1).setCell (p := ⟨b, 0, none⟩) rfl (.int .i64 ((s + 1 : Nat) : Int))
  have e4 := (Tk.But.refl (fun k => k = b) w).setCell (p := ⟨b, 0, none⟩) rfl (.int .i64 ((s + 1 : Nat) : Int))
  refine ⟨rfl, ?_, ?_⟩
  · first | exact e1 | exact e2 | simpa using e1 | simpa using e2
  · first | exact e3 | exact e4 | simpa using e3 | simpa using e4

theorem Bk.shown_size (br B bw : Nat) (hbr : B ≤ br) (hne : br ≠ bw) : Bk.Shown (fun _ _ _ _ => true) 19 #[.pointer (some ⟨br, 0, none⟩)] (fun s W => Bk.Ct br s W) (fun k => k = br) B bw where
  enters := enters_of Tryd.func19 (by kernel_rfl) rfl
  calls := fun s W k n r a len c al cl ls hs hI _ _ _ => Tryd.bcount_any k n r a len c al ls.length cl br s W hI hs
  keeps := fun _ _ _ h hb => h.keep (hb.block br h.lt hne)
  above := fun k hk => by omega
  not_bw := fun h => hne h.symm

set_option maxRecDepth 20000 in
set_option maxHeartbeats 4000000 in
theorem Tryd.bsize_any (d : Nat) (T : Bl) (v u : Value) (w : World) (hT : Bl.Lies w w.heap.size d v u T) (h0 : 0 < w.heap.size) (hsz : T.size ≤ 2147483647) (hdp : T.depth ≤ 1000) (hlk : T.allP (fun _ _ _ ls => decide (ls.length ≤ 2147483647)) = true) :
    Calls Tryd.prog 9 #[.agg #[.int .i64 T.kind, .int .i64 T.node, .int .i64 T.arg, v, u]] w fun e w' => e = .returned (.int .i64 T.size) ∧ Below w.heap.size w w' := by
  obtain ⟨a, cap, rfl⟩ := hT.shape
  obtain ⟨al, cl, rfl⟩ := hT.links.shape
  obtain ⟨o, ho⟩ : ∃ o, T.kind = o := ⟨_, rfl⟩
  obtain ⟨m, hm⟩ : ∃ m, T.node = m := ⟨_, rfl⟩
  obtain ⟨r, hr⟩ : ∃ m, T.arg = m := ⟨_, rfl⟩
  obtain ⟨n, hn⟩ : ∃ n, T.ks.length = n := ⟨_, rfl⟩
  obtain ⟨nl, hnl⟩ : ∃ n, T.ls.length = n := ⟨_, rfl⟩
  obtain ⟨z, hz⟩ : ∃ z, T.size = z := ⟨_, rfl⟩
  rw [ho, hm, hr, hn, hnl, hz]
  rw [hn, hnl] at hT
  obtain ⟨w1, hw1⟩ : ∃ x, (w.alloc (.cells #[.int .i64 o, .int .i64 m, .int .i64 r, .slice a n cap, .slice al nl cl] 25)).alloc (.cells #[.int .i64 0] 3) = x := ⟨_, rfl⟩
  have hs1 : w1.heap.size = w.heap.size + 2 := by rw [← hw1]; simp
  have A1 : Below w.heap.size w w1 := by rw [← hw1]; exact ((Below.refl _ w).alloc (Nat.le_refl _) _).alloc (by simp) _
  have hC : Bk.Ct (w.heap.size + 1) 0 w1 := by
    rw [← hw1]
    have := heap_alloc_new (w.alloc (.cells #[.int .i64 o, .int .i64 m, .int .i64 r, .slice a n cap, .slice al nl cl] 25)) (.cells #[.int .i64 0] 3)
    simpa [Bk.Ct] using this
  have h := Tryd.bthrough_any (B := w.heap.size) d T (.slice a n cap) (.slice al nl cl) w1 (fun bw hbw => Bk.shown_size (w.heap.size + 1) w.heap.size bw (by omega) (by omega)) (hT.below A1) h0 A1.size hC (fun k hk => by omega) hsz hlk
  rw [ho, hm, hr] at h
  have HC : Hid _ := h
  have HA : Hid (Below w.heap.size w w1) := A1
  have HD : Hid (T.depth ≤ 1000 ∧ T.size ≤ 2147483647 ∧ T.size = z) := ⟨hdp, hsz, hz⟩
  have H1 : Hid ((w.alloc (.cells #[.int .i64 o, .int .i64 m, .int .i64 r, .slice a n cap, .slice al nl cl] 25)).alloc (.cells #[.int .i64 0] 3) = w1) := hw1
  clear h hT ho hm hr hn hnl hz hw1 hC A1 hs1
  go_enter Tryd.func9, Tryd.ntmps9
  go_wp2_with fail
  rw [H1.out]
  refine Calls.mono HC.out ?_
  rintro e W1 ⟨hb, ⟨h1, h2, h3, rfl, h4⟩ | ⟨h1, rfl⟩⟩
  · have X : Hid (Below w.heap.size w W1) := HA.out.trans (hb.below HA.out.size (fun k hk h => by omega))
    have c0 := h4.c0
    rw [Nat.zero_add, HD.out.2.2] at c0
    clear hb h1 h2 h3 h4
    go_wp2
    go_ret
    exact ⟨rfl, X.out⟩
  · exact (h1 ⟨HD.out.1, HD.out.2.1, Bl.allP_true T⟩).elim

end Go.Proofs
