/-
  Size of blocks. · The statements' alt. · The contract of the statements' big: what is not big is small.
-/
import Derived.Test.YtemccpfgkbhahaaGreatDoorBlWays
import Derived.Test.YtemccpfgkbhahaaGreatDoorAllBlOut
import Derived.Test.YtemccpfgkbhahaaGreatDoorAllBlSame
import Derived.Test.YtemccpfgkbhahaaGreatDoorBlModel
namespace Go.Proofs
open Go.RowKit Go.Shelf

/-- The box that is counted in. -/
def Bk.Ct (b : Nat) (c : Nat) (w : World) : Prop := w.heap[b]? = some (.cells #[.int .i64 c] 3 (0, 0))
theorem Bk.Ct.c0 {b c : Nat} {w : World} (h : Bk.Ct b c w) : w.cell? ⟨b, 0, none⟩ = some (.int .i64 c) := by simp only [Bk.Ct] at h; simp [World.cell?, h]
theorem Bk.Ct.f0 {b c : Nat} {w : World} (h : Bk.Ct b c w) : w.frozen? ⟨b, 0, none⟩ = false := by simp only [Bk.Ct] at h; simp [World.frozen?, h]
theorem Bk.Ct.lt {b c : Nat} {w : World} (h : Bk.Ct b c w) : b < w.heap.size := (Array.getElem?_eq_some_iff.1 h).1
theorem Bk.Ct.put {b c : Nat} {w : World} (h : Bk.Ct b c w) (c' : Nat) : Bk.Ct b c' (w.setCell ⟨b, 0, none⟩ (.int .i64 c')) := by
  unfold Bk.Ct at *
  simp [World.setCell, Array.getElem?_modify, h]
theorem Bk.Ct.keep {b c : Nat} {w w' : World} (h : Bk.Ct b c w) (hk : w'.heap[b]? = w.heap[b]?) : Bk.Ct b c w' := by unfold Bk.Ct; rw [hk]; exact h

set_option maxHeartbeats 800000 in
theorem Tryz.bcount_any (k n r : Int) (a : Option Addr) (len c : Nat) (al : Option Addr) (nl cl : Nat) (b s : Nat) (w : World) (h : Bk.Ct b s w) (hs : s < 2147483647) :
    Calls Tryz.prog 26 #[.agg #[.int .i64 k, .int .i64 n, .int .i64 r, .slice a len c, .slice al nl cl], .pointer (some ⟨b, 0, none⟩)] w fun e w' => e = .returned (.bool true) ∧ Bk.Ct b (s + 1) w' ∧ Tk.But (fun k => k = b) w w' := by
  have B0 : Below w.heap.size w (w.alloc (.cells #[.int .i64 k, .int .i64 n, .int .i64 r, .slice a len c, .slice al nl cl] 29)) := (Below.refl _ w).alloc (Nat.le_refl _) _
  have R0 : Bk.Ct b s (w.alloc (.cells #[.int .i64 k, .int .i64 n, .int .i64 r, .slice a len c, .slice al nl cl] 29)) := h.keep (B0.block b h.lt)
  have c0 := R0.c0
  have f0 := R0.f0
  have c1 := h.c0
  have f1 := h.f0
  have hw : IntKind.i64.wrap ((s : Int) + 1) = ((s + 1 : Nat) : Int) := by rw [IntKind.wrap_i64]; omega
  have HR : Hid (Bk.Ct b s (w.alloc (.cells #[.int .i64 k, .int .i64 n, .int .i64 r, .slice a len c, .slice al nl cl] 29)) ∧ Below w.heap.size w (w.alloc (.cells #[.int .i64 k, .int .i64 n, .int .i64 r, .slice a len c, .slice al nl cl] 29)) ∧ Bk.Ct b s w) := ⟨R0, B0, h⟩
  clear R0 B0 h
  go_enter Tryz.func26, Tryz.ntmps26
  go_wp2
  go_ret
  have e1 := HR.out.1.put (s + 1)
  have e2 := HR.out.2.2.put (s + 1)
  have e3 := (Tk.But.of_below (E := fun k => k = b) HR.out.2.1).setCell (p := ⟨b, 0, none⟩) rfl (.int .i64 ((s + 1 : Nat) : Int))
  have e4 := (Tk.But.refl (fun k => k = b) w).setCell (p := ⟨b, 0, none⟩) rfl (.int .i64 ((s + 1 : Nat) : Int))
  refine ⟨rfl, ?_, ?_⟩
  · first | exact e1 | exact e2 | simpa using e1 | simpa using e2
  · first | exact e3 | exact e4 | simpa using e3 | simpa using e4

theorem Bk.shown_size (br B bw : Nat) (hbr : B ≤ br) (hne : br ≠ bw) : Bk.Shown (fun _ _ _ _ => true) 26 #[.pointer (some ⟨br, 0, none⟩)] (fun s W => Bk.Ct br s W) (fun k => k = br) B bw where
  enters := enters_of Tryz.func26 (by kernel_rfl) rfl
  calls := fun s W k n r a len c al cl ls hs hI _ _ _ => Tryz.bcount_any k n r a len c al ls.length cl br s W hI hs
  keeps := fun _ _ _ h hb => h.keep (hb.block br h.lt hne)
  above := fun k hk => by omega
  not_bw := fun h => hne h.symm

set_option maxRecDepth 20000 in
set_option maxHeartbeats 4000000 in
theorem Tryz.bsize_any (d : Nat) (T : Bl) (v u : Value) (w : World) (hT : Bl.Lies w w.heap.size d v u T) (h0 : 0 < w.heap.size) (hsz : T.size ≤ 2147483647) (hdp : T.depth ≤ 1000) (hlk : T.allP (fun _ _ _ ls => decide (ls.length ≤ 2147483647)) = true) :
    Calls Tryz.prog 12 #[.agg #[.int .i64 T.kind, .int .i64 T.node, .int .i64 T.arg, v, u]] w fun e w' => e = .returned (.int .i64 T.size) ∧ Below w.heap.size w w' := by
  obtain ⟨a, cap, rfl⟩ := hT.shape
  obtain ⟨al, cl, rfl⟩ := hT.links.shape
  obtain ⟨o, ho⟩ : ∃ o, T.kind = o := ⟨_, rfl⟩
  obtain ⟨m, hm⟩ : ∃ m, T.node = m := ⟨_, rfl⟩
  obtain ⟨r, hr⟩ : ∃ m, T.arg = m := ⟨_, rfl⟩
  obtain ⟨n, hn⟩ : ∃ n, T.ks.length = n := ⟨_, rfl⟩
  obtain ⟨nl, hnl⟩ : ∃ n, T.ls.length = n := ⟨_, rfl⟩
  obtain ⟨z, hz⟩ : ∃ z, T.size = z := ⟨_, rfl⟩
  rw [ho, hm, hr, hn, hnl, hz]
  rw [hn, hnl] at hT
  obtain ⟨w1, hw1⟩ : ∃ x, (w.alloc (.cells #[.int .i64 o, .int .i64 m, .int .i64 r, .slice a n cap, .slice al nl cl] 29)).alloc (.cells #[.int .i64 0] 3) = x := ⟨_, rfl⟩
  have hs1 : w1.heap.size = w.heap.size + 2 := by rw [← hw1]; simp
  have A1 : Below w.heap.size w w1 := by rw [← hw1]; exact ((Below.refl _ w).alloc (Nat.le_refl _) _).alloc (by simp) _
  have hC : Bk.Ct (w.heap.size + 1) 0 w1 := by
    rw [← hw1]
    have := heap_alloc_new (w.alloc (.cells #[.int .i64 o, .int .i64 m, .int .i64 r, .slice a n cap, .slice al nl cl] 29)) (.cells #[.int .i64 0] 3)
    simpa [Bk.Ct] using this
  have h := Tryz.bthrough_any (B := w.heap.size) d T (.slice a n cap) (.slice al nl cl) w1 (fun bw hbw => Bk.shown_size (w.heap.size + 1) w.heap.size bw (by omega) (by omega)) (hT.below A1) h0 A1.size hC (fun k hk => by omega) hsz hlk
  rw [ho, hm, hr] at h
  have HC : Hid _ := h
  have HA : Hid (Below w.heap.size w w1) := A1
  have HD : Hid (T.depth ≤ 1000 ∧ T.size ≤ 2147483647 ∧ T.size = z) := ⟨hdp, hsz, hz⟩
  have H1 : Hid ((w.alloc (.cells #[.int .i64 o, .int .i64 m, .int .i64 r, .slice a n cap, .slice al nl cl] 29)).alloc (.cells #[.int .i64 0] 3) = w1) := hw1
  clear h hT ho hm hr hn hnl hz hw1 hC A1 hs1
  go_enter Tryz.func12, Tryz.ntmps12
  go_wp2_with fail
  rw [H1.out]
  refine Calls.mono HC.out ?_
  rintro e W1 ⟨hb, ⟨h1, h2, h3, rfl, h4⟩ | ⟨h1, rfl⟩⟩
  · have X : Hid (Below w.heap.size w W1) := HA.out.trans (hb.below HA.out.size (fun k hk h => by omega))
    have c0 := h4.c0
    rw [Nat.zero_add, HD.out.2.2] at c0
    clear hb h1 h2 h3 h4
    go_wp2
    go_ret
    exact ⟨rfl, X.out⟩
  · exact (h1 ⟨HD.out.1, HD.out.2.1, Bl.allP_true T⟩).elim

end Go.Proofs

namespace Go.Proofs
open Go.RowKit

/-- alt's block. -/
def Bk.altB : Bl := .mk 3 0 0 [.mk 2 1 0 [] [], .mk 5 2 0 [.mk 2 3 0 [] [], .mk 1 0 0 [] []] []] []
theorem Bk.altB_text : Bk.altB.textR = ([40, 115, 101, 113, 32, 49, 32, 40, 97, 108, 116, 58, 50, 32, 51, 32, 45, 41, 41], 0) := by
  have e1 : Lib.itoa 1 = [49] := by rw [show (1 : Int) = ((1 : Nat) : Int) from rfl, Lib.itoa_nonneg, Lib.decDigits_one (by omega)]; rfl
  have e2 : Lib.itoa 2 = [50] := by rw [show (2 : Int) = ((2 : Nat) : Int) from rfl, Lib.itoa_nonneg, Lib.decDigits_one (by omega)]; rfl
  have e3 : Lib.itoa 3 = [51] := by rw [show (3 : Int) = ((3 : Nat) : Int) from rfl, Lib.itoa_nonneg, Lib.decDigits_one (by omega)]; rfl
  have h1 : Bk.altB.tooB = false := by decide
  have h2 : Bk.altB.allP Bl.writB = true := by decide
  rw [Bl.textR, h1, h2]
  simp [Bk.altB, Bl.textL, Bl.textsL, Bl.nodeL, Bl.nameL, e1, e2, e3]

theorem Bl.lk_nil (W : World) (B : Nat) : Bl.Lk W B (.slice none 0 0) [] := ⟨none, 0, rfl, fun j h => by simp at h⟩
theorem Bl.lies_leaf (W : World) (B d : Nat) (k n r : Int) : Bl.Lies W B (d + 1) (.slice none 0 0) (.slice none 0 0) (.mk k n r [] []) := ⟨Bl.lk_nil W B, none, 0, rfl, .inl rfl⟩
theorem Bk.alt_lies (W : World) (b c B : Nat) (hb : W.heap[b]? = some (.cells #[.int .i64 2, .int .i64 3, .int .i64 0, .slice none 0 0, .slice none 0 0, .int .i64 1, .int .i64 0, .int .i64 0, .slice none 0 0, .slice none 0 0] 29 (0, 0)))
    (hc : W.heap[c]? = some (.cells #[.int .i64 2, .int .i64 1, .int .i64 0, .slice none 0 0, .slice none 0 0, .int .i64 5, .int .i64 2, .int .i64 0, .slice (some ⟨b, 0, none⟩) 2 2, .slice none 0 0] 29 (0, 0))) (hB : b < B) (hC : c < B) :
    Bl.Lies W B 3 (.slice (some ⟨c, 0, none⟩) 2 2) (.slice none 0 0) Bk.altB := by
  refine ⟨Bl.lk_nil W B, some ⟨c, 0, none⟩, 2, rfl, .inr ⟨c, 0, rfl, hC, fun j hj => ?_⟩⟩
  match j, hj with
  | 0, _ => exact ⟨.slice none 0 0, .slice none 0 0, by simp [World.cell?, hc]; rfl, by simp [World.cell?, hc]; rfl, by simp [World.cell?, hc]; rfl, by simp [World.cell?, hc], by simp [World.cell?, hc], Bl.lies_leaf W B 1 2 1 0⟩
  | 1, _ =>
    refine ⟨.slice (some ⟨b, 0, none⟩) 2 2, .slice none 0 0, by simp [World.cell?, hc]; rfl, by simp [World.cell?, hc]; rfl, by simp [World.cell?, hc]; rfl, by simp [World.cell?, hc], by simp [World.cell?, hc], ?_⟩
    refine ⟨Bl.lk_nil W B, some ⟨b, 0, none⟩, 2, rfl, .inr ⟨b, 0, rfl, hB, fun j hj => ?_⟩⟩
    match j, hj with
    | 0, _ => exact ⟨.slice none 0 0, .slice none 0 0, by simp [World.cell?, hb]; rfl, by simp [World.cell?, hb]; rfl, by simp [World.cell?, hb]; rfl, by simp [World.cell?, hb], by simp [World.cell?, hb], Bl.lies_leaf W B 0 2 3 0⟩
    | 1, _ => exact ⟨.slice none 0 0, .slice none 0 0, by simp [World.cell?, hb]; rfl, by simp [World.cell?, hb]; rfl, by simp [World.cell?, hb]; rfl, by simp [World.cell?, hb], by simp [World.cell?, hb], Bl.lies_leaf W B 0 1 0 0⟩

set_option maxRecDepth 20000 in
set_option maxHeartbeats 4000000 in
theorem Tryz.balt_any (w : World) (hO : Bk.Names w) (hTab : Lib.TabIs Tryz.prog w "internal/strconv.uint64pow10" .u64 Lib.pow10Tab) :
    Calls Tryz.prog 7 #[] w fun e w' => e = .returned (.bool true) ∧ Below w.heap.size w w' := by
  obtain ⟨W0, hW0⟩ : ∃ x, ((w.alloc (.cells #[.int .i64 2, .int .i64 3, .int .i64 0, .slice none 0 0, .slice none 0 0, .int .i64 1, .int .i64 0, .int .i64 0, .slice none 0 0, .slice none 0 0] 29)).alloc (.cells #[.int .i64 2, .int .i64 1, .int .i64 0, .slice none 0 0, .slice none 0 0, .int .i64 5, .int .i64 2, .int .i64 0, .slice (some ⟨w.heap.size, 0, none⟩) 2 2, .slice none 0 0] 29)).alloc (.cells #[.int .i64 3, .int .i64 0, .int .i64 0, .slice (some ⟨w.heap.size + 1, 0, none⟩) 2 2, .slice none 0 0] 29) = x := ⟨_, rfl⟩
  have A0 : Hid (Below w.heap.size w W0) := by show Below _ _ _; rw [← hW0]; exact (((Below.refl _ w).alloc (Nat.le_refl _) _).alloc (by simp) _).alloc (by simp; omega) _
  have S0 : Hid (W0.heap.size = w.heap.size + 3) := by show _ = _; rw [← hW0]; simp
  have R1 : Hid (W0.heap[w.heap.size]? = some (.cells #[.int .i64 2, .int .i64 3, .int .i64 0, .slice none 0 0, .slice none 0 0, .int .i64 1, .int .i64 0, .int .i64 0, .slice none 0 0, .slice none 0 0] 29 (0, 0))) := by
    show _ = _
    rw [← hW0, Below.heap_alloc _ _ _ (by simp; omega), Below.heap_alloc _ _ _ (by simp)]
    exact heap_alloc_new w _
  have R2 : Hid (W0.heap[w.heap.size + 1]? = some (.cells #[.int .i64 2, .int .i64 1, .int .i64 0, .slice none 0 0, .slice none 0 0, .int .i64 5, .int .i64 2, .int .i64 0, .slice (some ⟨w.heap.size, 0, none⟩) 2 2, .slice none 0 0] 29 (0, 0))) := by
    show _ = _
    rw [← hW0, Below.heap_alloc _ _ _ (by simp)]
    have := heap_alloc_new (w.alloc (.cells #[.int .i64 2, .int .i64 3, .int .i64 0, .slice none 0 0, .slice none 0 0, .int .i64 1, .int .i64 0, .int .i64 0, .slice none 0 0, .slice none 0 0] 29)) (.cells #[.int .i64 2, .int .i64 1, .int .i64 0, .slice none 0 0, .slice none 0 0, .int .i64 5, .int .i64 2, .int .i64 0, .slice (some ⟨w.heap.size, 0, none⟩) 2 2, .slice none 0 0] 29)
    simpa using this
  have R3 : Hid (W0.heap[w.heap.size + 1 + 1]? = some (.cells #[.int .i64 3, .int .i64 0, .int .i64 0, .slice (some ⟨w.heap.size + 1, 0, none⟩) 2 2, .slice none 0 0] 29 (0, 0))) := by
    show _ = _
    rw [← hW0]
    have := heap_alloc_new ((w.alloc (.cells #[.int .i64 2, .int .i64 3, .int .i64 0, .slice none 0 0, .slice none 0 0, .int .i64 1, .int .i64 0, .int .i64 0, .slice none 0 0, .slice none 0 0] 29)).alloc (.cells #[.int .i64 2, .int .i64 1, .int .i64 0, .slice none 0 0, .slice none 0 0, .int .i64 5, .int .i64 2, .int .i64 0, .slice (some ⟨w.heap.size, 0, none⟩) 2 2, .slice none 0 0] 29)) (.cells #[.int .i64 3, .int .i64 0, .int .i64 0, .slice (some ⟨w.heap.size + 1, 0, none⟩) 2 2, .slice none 0 0] 29)
    simpa using this
  have HC : Hid (∀ W, Below W0.heap.size W0 W → Bl.Lies W W.heap.size 3 (.slice (some ⟨w.heap.size + 1, 0, none⟩) 2 2) (.slice none 0 0) Bk.altB ∧ Below w.heap.size w W ∧ 0 < W.heap.size ∧ (W.cell? ⟨w.heap.size + 1 + 1, 0, none⟩ = some (.int .i64 3) ∧ W.cell? ⟨w.heap.size + 1 + 1, 1, none⟩ = some (.int .i64 0) ∧ W.cell? ⟨w.heap.size + 1 + 1, 2, none⟩ = some (.int .i64 0) ∧ W.cell? ⟨w.heap.size + 1 + 1, 3, none⟩ = some (.slice (some ⟨w.heap.size + 1, 0, none⟩) 2 2) ∧ W.cell? ⟨w.heap.size + 1 + 1, 4, none⟩ = some (.slice none 0 0))) := fun W hb => by
    have hs := S0.out
    have hz := hb.size
    exact ⟨Bk.alt_lies W w.heap.size (w.heap.size + 1) _ ((hb.block _ (by omega)).trans R1.out) ((hb.block _ (by omega)).trans R2.out) (by omega) (by omega), A0.out.trans (hb.mono (by omega)), by omega, Bk.box5 ((hb.block _ (by omega)).trans R3.out)⟩
  have HTX : Hid (Bk.Names W0 ∧ Lib.TabIs Tryz.prog W0 "internal/strconv.uint64pow10" .u64 Lib.pow10Tab) := ⟨hO.below A0.out hO.lt, Lib.tabBelow_of_tabIs hTab _ A0.out⟩
  have CT : Hid (Calls Tryz.prog 9 #[.agg #[.int .i64 3, .int .i64 0, .int .i64 0, .slice (some ⟨w.heap.size + 1, 0, none⟩) 2 2, .slice none 0 0]] W0 fun e w' => e = .returned (.tuple #[.string ⟨#[40, 115, 101, 113, 32, 49, 32, 40, 97, 108, 116, 58, 50, 32, 51, 32, 45, 41, 41]⟩, .int .i64 0]) ∧ Hid (Below W0.heap.size W0 w')) := by
    have h := Tryz.btext_any 3 Bk.altB _ _ W0 (HC.out W0 (Below.refl _ _)).1 HTX.out.1 HTX.out.2 (by decide) (by decide) (by decide) (by decide) (by decide)
    rw [Bk.altB_text] at h
    exact h.mono fun _ _ q => q
  have CS : Hid (∀ W, Below W0.heap.size W0 W → Calls Tryz.prog 12 #[.agg #[.int .i64 3, .int .i64 0, .int .i64 0, .slice (some ⟨w.heap.size + 1, 0, none⟩) 2 2, .slice none 0 0]] W fun e w' => e = .returned (.int .i64 5) ∧ Hid (Below W0.heap.size W0 w')) := fun W hb =>
    (Tryz.bsize_any 3 Bk.altB _ _ W (HC.out W hb).1 (HC.out W hb).2.2.1 (by decide) (by decide) (by decide)).mono fun _ _ q => ⟨q.1, hb.trans (q.2.mono hb.size)⟩
  have CE : Hid (∀ W, Below W0.heap.size W0 W → Calls Tryz.prog 10 #[.agg #[.int .i64 3, .int .i64 0, .int .i64 0, .slice (some ⟨w.heap.size + 1, 0, none⟩) 2 2, .slice none 0 0], .agg #[.int .i64 3, .int .i64 0, .int .i64 0, .slice (some ⟨w.heap.size + 1, 0, none⟩) 2 2, .slice none 0 0]] W fun e w' => e = .returned (.bool true) ∧ Hid (Below W0.heap.size W0 w')) := fun W hb => by
    have h := Tryz.blockSame_any 3 3 Bk.altB Bk.altB _ _ _ _ W (HC.out W hb).1 (HC.out W hb).1 (HC.out W hb).2.2.1 (by decide) (by decide) (by decide)
    refine h.mono ?_
    rintro e w' ⟨⟨r, rfl, hr⟩, hb'⟩
    rw [hr.2 rfl]
    exact ⟨rfl, hb.trans (hb'.mono hb.size)⟩
  have HW0 : Hid _ := hW0
  obtain ⟨-, -, -, k0, k1, k2, k3, k4⟩ := HC.out W0 (Below.refl _ _)
  clear hO hTab hW0 R1 R2 R3 HTX
  go_enter Tryz.func7, Tryz.ntmps7
  go_upto_region 2 with fail
  rw [HW0.out]
  clear HW0
  go_wp2_with fail
  refine Calls.mono CT.out ?_
  rintro e W1 ⟨rfl, B1⟩
  clear CT k0 k1 k2 k3 k4
  obtain ⟨-, -, -, k0, k1, k2, k3, k4⟩ := HC.out W1 B1.out
  go_wp2_with fail
  refine Calls.mono (CS.out _ B1.out) ?_
  rintro e W2 ⟨rfl, B2⟩
  clear CS k0 k1 k2 k3 k4
  obtain ⟨-, -, -, k0, k1, k2, k3, k4⟩ := HC.out W2 B2.out
  go_wp2_with fail
  refine Calls.mono (CE.out _ B2.out) ?_
  rintro e W3 ⟨rfl, B3⟩
  clear CE k0 k1 k2 k3 k4
  have HF : Hid (Below w.heap.size w W3) := (HC.out W3 B3.out).2.1
  go_wp2
  go_ret
  exact ⟨rfl, HF.out⟩

end Go.Proofs

namespace Go.Proofs
open Go.RowKit

/-- A room in block b. -/
def Bk.Rm (b : Nat) (k : Int) (w : World) : Prop := w.heap[b]? = some (.cells #[.int .i64 k] 34 (0, 0))
theorem Bk.Rm.c0 {b : Nat} {k : Int} {w : World} (h : Bk.Rm b k w) : w.cell? ⟨b, 0, none⟩ = some (.int .i64 k) := by simp only [Bk.Rm] at h; simp [World.cell?, h]
theorem Bk.Rm.f0 {b : Nat} {k : Int} {w : World} (h : Bk.Rm b k w) : w.frozen? ⟨b, 0, none⟩ = false := by simp only [Bk.Rm] at h; simp [World.frozen?, h]
theorem Bk.Rm.lt {b : Nat} {k : Int} {w : World} (h : Bk.Rm b k w) : b < w.heap.size := (Array.getElem?_eq_some_iff.1 h).1
theorem Bk.Rm.put {b : Nat} {k : Int} {w : World} (h : Bk.Rm b k w) (k' : Int) : Bk.Rm b k' (w.setCell ⟨b, 0, none⟩ (.int .i64 k')) := by
  unfold Bk.Rm at *
  simp [World.setCell, Array.getElem?_modify, h]
theorem Bk.Rm.keep {b : Nat} {k : Int} {w w' : World} (h : Bk.Rm b k w) (hk : w'.heap[b]? = w.heap[b]?) : Bk.Rm b k w' := by unfold Bk.Rm; rw [hk]; exact h

/-- What large comes to. -/
def Bk.BigEnd (T : Bl) (k : Nat) (b : Nat) (w : World) (e : Ending) (w' : World) : Prop :=
  Tk.But (fun i => i = b) w w' ∧ ((e = .returned (.bool false) ∧ T.size ≤ k ∧ T.allP (fun _ _ _ ls => decide (ls.length ≤ 100)) = true ∧ Bk.Rm b ((k - T.size : Nat) : Int) w') ∨ e = .returned (.bool true))

set_option maxHeartbeats 4000000 in
theorem Tryz.big_any : ∀ (d : Nat) (T : Bl) (v u : Value) (k b : Nat) (dp : Nat) (B : Nat) (w : World), Bl.Lies w B d v u T → B ≤ b → B ≤ w.heap.size → Bk.Rm b k w → k ≤ 1000000 → dp ≤ 1000 →
    Calls Tryz.prog 6 #[.agg #[.int .i64 T.kind, .int .i64 T.node, .int .i64 T.arg, v, u], .pointer (some ⟨b, 0, none⟩), .int .i64 dp] w fun e w' => Bk.BigEnd T k b w e w' := by
  intro d
  induction d with
  | zero => intro T v u k b dp B w h; exact h.elim
  | succ d ih =>
    intro T v u k b dp B w hT hBb hBs hR hk hdp
    obtain ⟨a, cap, rfl⟩ := hT.shape
    obtain ⟨al, cl, rfl⟩ := hT.links.shape
    obtain ⟨o, ho⟩ : ∃ o, T.kind = o := ⟨_, rfl⟩
    obtain ⟨m, hm⟩ : ∃ m, T.node = m := ⟨_, rfl⟩
    obtain ⟨r, hr⟩ : ∃ m, T.arg = m := ⟨_, rfl⟩
    obtain ⟨nl, hnl⟩ : ∃ m, T.ls.length = m := ⟨_, rfl⟩
    obtain ⟨n, hn⟩ : ∃ n, T.ks.length = n := ⟨_, rfl⟩
    rw [ho, hm, hr, hn, hnl]
    rw [hn, hnl] at hT
    have A0 : Below w.heap.size w (w.alloc (.cells #[.int .i64 o, .int .i64 m, .int .i64 r, .slice a n cap, .slice al nl cl] 29)) := (Below.refl _ w).alloc (Nat.le_refl _) _
    have R0 : Bk.Rm b k (w.alloc (.cells #[.int .i64 o, .int .i64 m, .int .i64 r, .slice a n cap, .slice al nl cl] 29)) := hR.keep (A0.block b hR.lt)
    have c0 := R0.c0
    have f0 := R0.f0
    have R1 := R0.put ((k : Int) - 1)
    obtain ⟨w1, hw1⟩ : ∃ w1, (w.alloc (.cells #[.int .i64 o, .int .i64 m, .int .i64 r, .slice a n cap, .slice al nl cl] 29)).setCell ⟨b, 0, none⟩ (.int .i64 ((k : Int) - 1)) = w1 := ⟨_, rfl⟩
    have X1 : Hid (Tk.But (fun i => i = b) w w1) := by show Tk.But _ _ _; rw [← hw1]; exact (Tk.But.of_below A0).setCell (E := fun i => i = b) (p := ⟨b, 0, none⟩) rfl _
    rw [hw1] at R1
    have g0 := R1.c0
    have hbx : w1.heap[w.heap.size]? = some (.cells #[.int .i64 o, .int .i64 m, .int .i64 r, .slice a n cap, .slice al nl cl] 29 (0, 0)) := by
      rw [← hw1, Below.heap_setCell _ _ _ _ (by have := hR.lt; show w.heap.size ≠ b; omega)]
      exact heap_alloc_new w _
    have g2 : w1.cell? ⟨w.heap.size, 3, none⟩ = some (.slice a n cap) := by simp [World.cell?, hbx]
    have g3 : w1.cell? ⟨w.heap.size, 4, none⟩ = some (.slice al nl cl) := by simp [World.cell?, hbx]
    have HW1 : Hid ((w.alloc (.cells #[.int .i64 o, .int .i64 m, .int .i64 r, .slice a n cap, .slice al nl cl] 29)).setCell ⟨b, 0, none⟩ (.int .i64 ((k : Int) - 1)) = w1) := hw1
    have HT : Hid (Bl.Lies w B (d + 1) (.slice a n cap) (.slice al nl cl) T) := hT
    have HI : Hid _ := ih
    have HM : Hid (T.kind = o ∧ T.node = m ∧ T.ks.length = n ∧ B ≤ b ∧ B ≤ w.heap.size) := ⟨ho, hm, hn, hBb, hBs⟩
    have HML : Hid (T.ls.length = nl) := hnl
    have HR1 : Hid (Bk.Rm b ((k : Int) - 1) w1) := R1
    have HRl : Hid (b < w.heap.size) := hR.lt
    clear ih hT hR A0 R0 ho hm hr hn hnl hw1 R1 hbx hBb hBs
    by_cases hbad : (k : Int) - 1 < 0 ∨ 60 < dp ∨ 200 < n ∨ 100 < nl
    · obtain h1 | ⟨h1, h2⟩ | ⟨h1, h2, h3⟩ | ⟨h1, h2, h3, h4⟩ : decide ((k : Int) - 1 < 0) = true ∨ (decide ((k : Int) - 1 < 0) = false ∧ decide ((60 : Int) < dp) = true) ∨ (decide ((k : Int) - 1 < 0) = false ∧ decide ((60 : Int) < dp) = false ∧ decide ((200 : Int) < n) = true) ∨ (decide ((k : Int) - 1 < 0) = false ∧ decide ((60 : Int) < dp) = false ∧ decide ((200 : Int) < n) = false ∧ decide ((100 : Int) < nl) = true) := by
        simp; omega
      all_goals
        clear hbad
        go_enter Tryz.func6, Tryz.ntmps6
        go_wp2
        go_ret
        exact ⟨by rw [HW1.out]; exact X1.out, .inr rfl⟩
    · have h1 : decide ((k : Int) - 1 < 0) = false := decide_eq_false (by omega)
      have h2 : decide ((60 : Int) < dp) = false := decide_eq_false (by omega)
      have h3 : decide ((200 : Int) < n) = false := decide_eq_false (by omega)
      have h4 : decide ((100 : Int) < nl) = false := decide_eq_false (by omega)
      have hn100 : n ≤ 200 := by omega
      have hdp' : dp ≤ 60 := by omega
      have HNL : Hid (nl ≤ 100) := by show nl ≤ 100; omega
      have HK : Hid (1 ≤ k) := by show 1 ≤ k; omega
      clear hbad
      go_enter Tryz.func6, Tryz.ntmps6
      go_wp2
      rw [HW1.out]
      go_loopg [41] n (fun g i wr => ∃ j : Nat, g + j = n ∧ i = .int .i64 j ∧ Hid (Tk.But (fun i => i = b) w wr ∧ Bl.sizes (T.ks.take j) ≤ k - 1 ∧ Bl.allPs (fun _ _ _ ls => decide (ls.length ≤ 100)) (T.ks.take j) = true ∧ Bk.Rm b ((k - 1 - Bl.sizes (T.ks.take j) : Nat) : Int) wr))
      case atStart =>
        refine ⟨0, by omega, rfl, X1.out, by simp [Bl.sizes], by simp [Bl.allPs], ?_⟩
        have := HR1.out
        rw [show (k : Int) - 1 = ((k - 1 : Nat) : Int) by have := HK.out; omega] at this
        simpa [Bl.sizes] using this
      case round =>
        obtain ⟨j, hj, rfl, HJ⟩ := hrel
        by_cases hjn : j < n
        · have hd : decide ((j : Int) < n) = true := decide_eq_true (by omega)
          have hjk : j < T.ks.length := by rw [HM.out.2.2.1]; exact hjn
          obtain ⟨g, off, u, lu, rfl, hg, q0, q1, q2, q3, q4, q5⟩ := HT.out.kid j hjk
          obtain ⟨x, hx⟩ : ∃ x, T.ks[j] = x := ⟨_, rfl⟩
          rw [hx] at q0 q1 q2 q5
          obtain ⟨au, cu, rfl⟩ := q5.shape
          obtain ⟨bu, du, rfl⟩ := q5.links.shape
          obtain ⟨mx, hmx⟩ : ∃ n, x.ls.length = n := ⟨_, rfl⟩
          rw [hmx] at q4 q5
          obtain ⟨nx, hnx⟩ : ∃ n, x.ks.length = n := ⟨_, rfl⟩
          rw [hnx] at q3 q5
          obtain ⟨y0, hy0⟩ : ∃ y, x.kind = y := ⟨_, rfl⟩
          obtain ⟨y1, hz1⟩ : ∃ y, x.node = y := ⟨_, rfl⟩
          obtain ⟨y2, hz2⟩ : ∃ y, x.arg = y := ⟨_, rfl⟩
          rw [hz2] at q2
          rw [hy0] at q0
          rw [hz1] at q1
          have hE : ∀ i, i < B → ¬ (i = b) := fun i hi => by have := HM.out; omega
          have hc : ∀ p, wr.cell? ⟨g, p, none⟩ = w.cell? ⟨g, p, none⟩ := fun p => World.cell?_of_block (w := w) (HJ.out.1.block g (by have := HM.out; omega) (hE g hg))
          have hc0 : wr.cell? ⟨g, off + j * 5, none⟩ = some (.int .i64 y0) := by rw [hc]; exact q0
          have hc1 : wr.cell? ⟨g, off + j * 5 + 1, none⟩ = some (.int .i64 y1) := by rw [hc]; exact q1
          have hc2 : wr.cell? ⟨g, off + j * 5 + 2, none⟩ = some (.int .i64 y2) := by rw [hc]; exact q2
          have hc3 : wr.cell? ⟨g, off + j * 5 + 3, none⟩ = some (.slice au nx cu) := by rw [hc]; exact q3
          have hc4 : wr.cell? ⟨g, off + j * 5 + 4, none⟩ = some (.slice bu mx du) := by rw [hc]; exact q4
          have BA : Hid (Tk.But (fun i => i = b) w (wr.alloc (.cells #[.int .i64 y0, .int .i64 y1, .int .i64 y2, .slice au nx cu, .slice bu mx du] 29))) := HJ.out.1.alloc _
          have hcall := HI.out x (.slice au nx cu) (.slice bu mx du) (k - 1 - Bl.sizes (T.ks.take j)) b (dp + 1) B (wr.alloc (.cells #[.int .i64 y0, .int .i64 y1, .int .i64 y2, .slice au nx cu, .slice bu mx du] 29))
            (q5.keep fun i hi => BA.out.block i (by have := HM.out; omega) (hE i hi)) HM.out.2.2.2.1 (by have := HM.out; have := BA.out.size; omega) (HJ.out.2.2.2.keep (Below.heap_alloc _ _ _ HJ.out.2.2.2.lt)) (by omega) (by omega)
          rw [hy0, hz1, hz2, show ((dp + 1 : Nat) : Int) = (dp : Int) + 1 by omega] at hcall
          have HC : Hid _ := hcall
          have HY : Hid (T.ks[j] = x) := hx
          clear hc q0 q1 q2 q3 q4 q5 hx hy0 hz1 hz2 hnx hmx hcall hE g0 g2 g3 c0 f0
          go_wp2_with fail
          refine Calls.mono HC.out ?_
          rintro e W3 ⟨hb3, ⟨rfl, hs3, ha3, hr3⟩ | rfl⟩
          · have B3 : Hid (Tk.But (fun i => i = b) w W3) := BA.out.trans hb3
            have H3 : Hid (x.size ≤ k - 1 - Bl.sizes (T.ks.take j) ∧ x.allP (fun _ _ _ ls => decide (ls.length ≤ 100)) = true ∧ Bk.Rm b ((k - 1 - Bl.sizes (T.ks.take j) - x.size : Nat) : Int) W3) := ⟨hs3, ha3, hr3⟩
            clear hb3 hs3 ha3 hr3 HC
            go_wp2
            go_roundg (gk - 1)
            case measure => omega
            case rel =>
              refine ⟨j + 1, by omega, by go_num, B3.out, ?_, ?_, ?_⟩
              · rw [Bl.sizes_take _ _ hjk, HY.out]; have := H3.out.1; have := HJ.out.2.1; omega
              · rw [Bl.allPs_take _ _ _ hjk, HY.out, HJ.out.2.2.1, H3.out.2.1]; rfl
              · rw [Bl.sizes_take _ _ hjk, HY.out, ← Nat.sub_sub]; exact H3.out.2.2
          · have B3 : Hid (Tk.But (fun i => i = b) w W3) := BA.out.trans hb3
            clear hb3 HC
            go_wp2
            go_ret
            exact ⟨B3.out, .inr rfl⟩
        · have hd : decide ((j : Int) < n) = false := decide_eq_false (by omega)
          have hall : T.ks.take j = T.ks := List.take_of_length_le (by rw [HM.out.2.2.1]; omega)
          have HZ := HJ.out
          rw [hall] at HZ
          have HZ' : Hid _ := HZ
          clear HZ
          go_wp2
          go_ret
          refine ⟨HZ'.out.1, .inl ⟨rfl, ?_, ?_, ?_⟩⟩
          · rw [T.size_eq]; have := HZ'.out.2.1; have := HK.out; omega
          · rw [T.allP_eq, HZ'.out.2.2.1, decide_eq_true (by have := HML.out; have := HNL.out; omega)]; rfl
          · rw [T.size_eq, show k - (Bl.sizes T.ks + 1) = k - 1 - Bl.sizes T.ks by omega]; exact HZ'.out.2.2.2

end Go.Proofs
