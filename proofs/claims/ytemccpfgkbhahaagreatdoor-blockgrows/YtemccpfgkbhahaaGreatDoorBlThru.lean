/-
  nest's way through blocks: one contract of through, whatever it is handed.
-/
import Derived.Test.YtemccpfgkbhahaaGreatDoorBlModel
import Derived.Deep.RegionHeld3
import Derived.Shelf.Abstract
import Derived.Deep.DeepCutAuto
import Derived.Deep.RegionLaw
import Derived.Lib.Hide
namespace Go.Proofs
open Go.RowKit

/-- The way's block: what a block's kids are, the levels, the things left. -/
def Bk.Wy (b : Nat) (lv k : Nat) (w : World) : Prop := w.heap[b]? = some (.cells #[.func (.func 43) #[] #[], .int .i64 lv, .int .i64 k] 71 (0, 0))
theorem Bk.Wy.lt {b lv k : Nat} {w : World} (h : Bk.Wy b lv k w) : b < w.heap.size := (Array.getElem?_eq_some_iff.1 h).1
theorem Bk.Wy.c0 {b lv k : Nat} {w : World} (h : Bk.Wy b lv k w) : w.cell? ⟨b, 0, none⟩ = some (.func (.func 43) #[] #[]) := by simp only [Bk.Wy] at h; simp [World.cell?, h]
theorem Bk.Wy.c2 {b lv k : Nat} {w : World} (h : Bk.Wy b lv k w) : w.cell? ⟨b, 2, none⟩ = some (.int .i64 k) := by simp only [Bk.Wy] at h; simp [World.cell?, h]
theorem Bk.Wy.f2 {b lv k : Nat} {w : World} (h : Bk.Wy b lv k w) : w.frozen? ⟨b, 2, none⟩ = false := by simp only [Bk.Wy] at h; simp [World.frozen?, h]
theorem Bk.Wy.put {b lv k : Nat} {w : World} (h : Bk.Wy b lv k w) (k' : Nat) : Bk.Wy b lv k' (w.setCell ⟨b, 2, none⟩ (.int .i64 k')) := by
  unfold Bk.Wy at *
  simp [World.setCell, Array.getElem?_modify, h]
theorem Bk.Wy.keep {b lv k : Nat} {w w' : World} (h : Bk.Wy b lv k w) (hk : w'.heap[b]? = w.heap[b]?) : Bk.Wy b lv k w' := by unfold Bk.Wy; rw [hk]; exact h

set_option maxHeartbeats 800000 in
theorem Tryz.benter_no (b : Nat) (w : World) :
    Calls Tryz.prog 55 #[.pointer (some ⟨b, 0, none⟩), .int .i64 0] w fun e w' => e = .returned (.bool false) ∧ w' = w := by
  go_enter Tryz.func55, Tryz.ntmps55
  go_wp2
  go_ret
  exact ⟨rfl, rfl⟩

set_option maxHeartbeats 800000 in
theorem Tryz.benter_none (b lv L : Nat) (w : World) (h : Bk.Wy b lv 0 w) :
    Calls Tryz.prog 55 #[.pointer (some ⟨b, 0, none⟩), .int .i64 ((L : Int) + 1)] w fun e w' => e = .returned (.bool false) ∧ w' = w := by
  have c2 := h.c2
  have e1 : decide (((L : Int) + 1) ≤ 0) = false := decide_eq_false (by omega)
  go_enter Tryz.func55, Tryz.ntmps55
  go_wp2
  go_ret
  exact ⟨rfl, rfl⟩

set_option maxHeartbeats 800000 in
theorem Tryz.benter_yes (b lv k L : Nat) (w : World) (h : Bk.Wy b lv (k + 1) w) (hk : k ≤ 2147483647) :
    Calls Tryz.prog 55 #[.pointer (some ⟨b, 0, none⟩), .int .i64 ((L : Int) + 1)] w fun e w' => e = .returned (.bool true) ∧ w' = w.setCell ⟨b, 2, none⟩ (.int .i64 k) := by
  have c2 := h.c2
  have f2 := h.f2
  have e1 : decide (((L : Int) + 1) ≤ 0) = false := decide_eq_false (by omega)
  have e2 : decide (((k + 1 : Nat) : Int) ≤ 0) = false := decide_eq_false (by omega)
  have e3 : ((k + 1 : Nat) : Int) - 1 = k := by omega
  go_enter Tryz.func55, Tryz.ntmps55
  go_wp2
  go_ret
  exact ⟨rfl, rfl⟩

set_option maxHeartbeats 800000 in
theorem Tryz.bkids_any (k n r : Int) (a : Option Addr) (len c : Nat) (al : Option Addr) (nl cl : Nat) (w : World) :
    Calls Tryz.prog 43 #[.agg #[.int .i64 k, .int .i64 n, .int .i64 r, .slice a len c, .slice al nl cl]] w fun e w' => e = .returned (.slice a len c) ∧ Below w.heap.size w w' := by
  have B0 : Hid (Below w.heap.size w (w.alloc (.cells #[.int .i64 k, .int .i64 n, .int .i64 r, .slice a len c, .slice al nl cl] 29))) := (Below.refl _ w).alloc (Nat.le_refl _) _
  go_enter Tryz.func43, Tryz.ntmps43
  go_wp2
  go_ret
  exact ⟨rfl, B0.out⟩

/-- What is asked of what is handed on: it answers p of a block by itself, counts it, and writes blocks of E alone. -/
structure Bk.Shown (p : Int → Int → Int → List (Int × Int × Int) → Bool) (g : Nat) (lb : Array Value) (Inv : Nat → World → Prop) (E : Nat → Prop) (B bw : Nat) : Prop where
  enters : ∀ args w, (callFunc g args).run Tryz.prog w = .ok (.enter g args) w
  calls : ∀ (s : Nat) (W : World) (k n r : Int) (a : Option Addr) (len c : Nat) (al : Option Addr) (cl : Nat) (ls : List (Int × Int × Int)), s < 2147483647 → Inv s W → B ≤ W.heap.size → Bl.Lk W B (.slice al ls.length cl) ls → ls.length ≤ 2147483647 → Calls Tryz.prog g (#[.agg #[.int .i64 k, .int .i64 n, .int .i64 r, .slice a len c, .slice al ls.length cl]] ++ lb) W fun e w' => e = .returned (.bool (p k n r ls)) ∧ Inv (s + 1) w' ∧ Tk.But E W w'
  keeps : ∀ (s : Nat) (W W' : World), Inv s W → Tk.But (fun k => k = bw) W W' → Inv s W'
  above : ∀ k, E k → B ≤ k
  not_bw : ¬ E bw

/-- What through comes to. -/
def Bk.ThruEnd (p : Int → Int → Int → List (Int × Int × Int) → Bool) (Inv : Nat → World → Prop) (E : Nat → Prop) (T : Bl) (L lv left s bw : Nat) (w : World) (e : Ending) (w' : World) : Prop :=
  Tk.But (fun k => k = bw ∨ E k) w w' ∧ ((T.depth ≤ L ∧ T.size ≤ left ∧ T.allP p = true ∧ e = .returned (.bool true) ∧ Bk.Wy bw lv (left - T.size) w' ∧ Inv (s + T.size) w') ∨ (¬ (T.depth ≤ L ∧ T.size ≤ left ∧ T.allP p = true) ∧ e = .returned (.bool false)))

set_option maxRecDepth 20000 in
set_option maxHeartbeats 8000000 in
theorem Tryz.bthru_any {p : Int → Int → Int → List (Int × Int × Int) → Bool} {g : Nat} {lb : Array Value} {Inv : Nat → World → Prop} {E : Nat → Prop} {B bw : Nat} (hS : Bk.Shown p g lb Inv E B bw) (lv : Nat) : ∀ (d L : Nat) (T : Bl) (v u : Value) (left s : Nat) (w : World), Bl.Lies w B d v u T → 0 < B → B ≤ bw → B ≤ w.heap.size → Bk.Wy bw lv left w → Inv s w → (∀ k, E k → k < w.heap.size) → s + left ≤ 2147483647 → L ≤ 1000 → T.size ≤ 2147483647 → T.allP (fun _ _ _ ls => decide (ls.length ≤ 2147483647)) = true →
    Calls Tryz.prog 52 #[.pointer (some ⟨bw, 0, none⟩), .agg #[.int .i64 T.kind, .int .i64 T.node, .int .i64 T.arg, v, u], .int .i64 L, .func (.func g) #[] lb] w (Bk.ThruEnd p Inv E T L lv left s bw w) := by
  intro d
  induction d with
  | zero => intro L T v u left s w h; exact h.elim
  | succ d ih =>
    intro L T v u left s w hT hB hbw hBs hW hI hEw hleft hL hsz hlk
    rw [T.allP_eq, Bool.and_eq_true, decide_eq_true_eq] at hlk
    have HLK : Hid (T.ls.length ≤ 2147483647 ∧ Bl.allPs (fun _ _ _ ls => decide (ls.length ≤ 2147483647)) T.ks = true) := hlk
    clear hlk
    obtain ⟨a, cap, rfl⟩ := hT.shape
    obtain ⟨al, cl, rfl⟩ := hT.links.shape
    obtain ⟨o, ho⟩ : ∃ o, T.kind = o := ⟨_, rfl⟩
    obtain ⟨m, hm⟩ : ∃ m, T.node = m := ⟨_, rfl⟩
    obtain ⟨r, hr⟩ : ∃ m, T.arg = m := ⟨_, rfl⟩
    obtain ⟨n, hn⟩ : ∃ n, T.ks.length = n := ⟨_, rfl⟩
    obtain ⟨nl, hnl⟩ : ∃ n, T.ls.length = n := ⟨_, rfl⟩
    rw [ho, hm, hr, hn, hnl]
    rw [hn, hnl] at hT
    cases L with
    | zero =>
      have HZ : Hid (¬ T.depth ≤ 0) := by show ¬ _; rw [T.depth_eq]; omega
      clear ih hT hW hI ho hm hr hn hnl
      go_enter Tryz.func52, Tryz.ntmps52
      go_wp2_with fail
      refine (Tryz.benter_no bw _).mono ?_
      rintro e W1 ⟨rfl, rfl⟩
      go_wp2
      go_ret
      exact ⟨Tk.But.of_below ((Below.refl _ w).alloc (Nat.le_refl _) _), .inr ⟨fun h => HZ.out h.1, rfl⟩⟩
    | succ L =>
      have A0 : Hid (Below w.heap.size w (w.alloc (.cells #[.int .i64 o, .int .i64 m, .int .i64 r, .slice a n cap, .slice al nl cl] 29))) := (Below.refl _ w).alloc (Nat.le_refl _) _
      cases left with
      | zero =>
        have W0 : Bk.Wy bw lv 0 (w.alloc (.cells #[.int .i64 o, .int .i64 m, .int .i64 r, .slice a n cap, .slice al nl cl] 29)) := hW.keep (A0.out.block bw hW.lt)
        have HZ : Hid (¬ T.size ≤ 0) := by show ¬ _; have := T.size_pos; omega
        clear ih hT hW hI ho hm hr hn hnl
        go_enter Tryz.func52, Tryz.ntmps52
        go_wp2_with fail
        refine (Tryz.benter_none bw lv L _ W0).mono ?_
        rintro e W1 ⟨rfl, rfl⟩
        go_wp2
        go_ret
        exact ⟨Tk.But.of_below A0.out, .inr ⟨fun h => HZ.out h.2.1, rfl⟩⟩
      | succ k =>
      have W0 : Bk.Wy bw lv (k + 1) (w.alloc (.cells #[.int .i64 o, .int .i64 m, .int .i64 r, .slice a n cap, .slice al nl cl] 29)) := hW.keep (A0.out.block bw hW.lt)
      have HT : Hid (Bl.Lies w B (d + 1) (.slice a n cap) (.slice al nl cl) T) := hT
      have HW : Hid (Bk.Wy bw lv (k + 1) w) := hW
      have HV : Hid (Inv s w) := hI
      have HM : Hid (T.kind = o ∧ T.node = m ∧ T.arg = r ∧ T.ks.length = n ∧ T.ls.length = nl) := ⟨ho, hm, hr, hn, hnl⟩
      have HN : Hid (0 < B ∧ B ≤ bw ∧ B ≤ w.heap.size ∧ T.size ≤ 2147483647 ∧ s + (k + 1) ≤ 2147483647 ∧ L + 1 ≤ 1000 ∧ (∀ k, E k → k < w.heap.size)) := ⟨hB, hbw, hBs, hsz, hleft, hL, hEw⟩
      have HI : Hid _ := ih
      have HS : Hid (Bk.Shown p g lb Inv E B bw) := hS
      have eg := hS.enters
      have hLb : L ≤ 1000 := by omega
      have hnb : n ≤ 2147483647 := by have h1 := Bl.length_le_sizes T.ks; have h2 := T.size_eq; omega
      obtain ⟨q, hq⟩ : ∃ q, p o m r T.ls = q := ⟨_, rfl⟩
      have HQ : Hid (p o m r T.ls = q) := hq
      clear ih hT hW hI ho hm hr hn hnl hB hbw hBs hsz hleft hL hEw hS hq
      go_enter Tryz.func52, Tryz.ntmps52
      have hu := Tryz.underlying29
      go_wp2_with fail
      refine (Tryz.benter_yes bw lv k L _ W0 (by have := HN.out; omega)).mono ?_
      rintro e W1 ⟨rfl, hw1⟩
      have X1 : Hid (Tk.But (fun k => k = bw) w W1) := by
        show Tk.But _ _ _
        rw [hw1]
        exact (Tk.But.of_below A0.out).setCell (E := fun k => k = bw) (p := ⟨bw, 2, none⟩) rfl _
      have W1k : Hid (Bk.Wy bw lv k W1) := by show Bk.Wy _ _ _ _; rw [hw1]; exact W0.put k
      have hbx : W1.heap[w.heap.size]? = some (.cells #[.int .i64 o, .int .i64 m, .int .i64 r, .slice a n cap, .slice al nl cl] 29 (0, 0)) := by
        rw [hw1, Below.heap_setCell _ _ _ _ (by have := HW.out.lt; show w.heap.size ≠ bw; omega)]
        exact heap_alloc_new w _
      have V1 : Hid (Inv s W1) := HS.out.keeps s w W1 HV.out X1.out
      clear W0 hw1
      have hE : Hid (∀ i, i < B → ¬ (i = bw ∨ E i)) := fun i hi h => by
        rcases h with h | h
        · have := HN.out.2.1; omega
        · have := HS.out.above i h; omega
      have hcall := HS.out.calls s W1 o m r a n cap al cl T.ls (by have := HN.out; omega) V1.out (by have := X1.out.size; have := HN.out; omega) (by rw [HM.out.2.2.2.2]; exact HT.out.links.keep fun i hi => X1.out.block i (by have := HN.out; omega) (fun e => hE.out i hi (.inl e))) HLK.out.1
      rw [HM.out.2.2.2.2, HQ.out] at hcall
      have p0 : W1.cell? ⟨w.heap.size, 0, none⟩ = some (.int .i64 o) := by simp [World.cell?, hbx]
      have p1 : W1.cell? ⟨w.heap.size, 1, none⟩ = some (.int .i64 m) := by simp [World.cell?, hbx]
      have p2 : W1.cell? ⟨w.heap.size, 2, none⟩ = some (.int .i64 r) := by simp [World.cell?, hbx]
      have p3 : W1.cell? ⟨w.heap.size, 3, none⟩ = some (.slice a n cap) := by simp [World.cell?, hbx]
      have p4 : W1.cell? ⟨w.heap.size, 4, none⟩ = some (.slice al nl cl) := by simp [World.cell?, hbx]
      have HC : Hid _ := hcall
      clear hcall
      go_wp2_with fail
      refine Calls.mono HC.out ?_
      rintro e W2 ⟨rfl, hV2, hb2⟩
      have X2 : Hid (Tk.But (fun k => k = bw ∨ E k) w W2) := ⟨hb2.os.trans X1.out.os, hb2.tape.trans X1.out.tape, hb2.output.trans X1.out.output, Nat.le_trans X1.out.size hb2.size, fun i hi he => by
        rw [hb2.block i (Nat.lt_of_lt_of_le hi X1.out.size) (fun e => he (.inr e))]
        exact X1.out.block i hi (fun e => he (.inl e))⟩
      have W2k : Bk.Wy bw lv k W2 := W1k.out.keep (hb2.block bw W1k.out.lt HS.out.not_bw)
      have V2 : Hid (Inv (s + 1) W2) := hV2
      have h2 : W2.heap[w.heap.size]? = some (.cells #[.int .i64 o, .int .i64 m, .int .i64 r, .slice a n cap, .slice al nl cl] 29 (0, 0)) := by
        rw [hb2.block _ (Array.getElem?_eq_some_iff.1 hbx).1 (by intro e; have := HN.out.2.2.2.2.2.2 _ e; omega)]
        exact hbx
      have HK : Hid (Bk.Wy bw lv k W2) := W2k
      have HB2 : Hid _ := h2
      clear hbx hV2 hb2 X1 W1k V1 p0 p1 p2 p3 p4 HC W2k h2
      cases q with
      | false =>
        go_wp2
        go_ret
        refine ⟨X2.out, .inr ⟨fun h => ?_, rfl⟩⟩
        have h := h.2.2
        rw [T.allP_eq, HM.out.1, HM.out.2.1, HM.out.2.2.1, HQ.out] at h
        simp at h
      | true =>
      have CK : Hid (∀ W, Below W2.heap.size W2 W → Calls Tryz.prog 43 #[.agg #[.int .i64 o, .int .i64 m, .int .i64 r, .slice a n cap, .slice al nl cl]] W fun e w' => e = .returned (.slice a n cap) ∧ Hid (Below W2.heap.size W2 w')) := fun W hb =>
        (Tryz.bkids_any o m r a n cap al nl cl W).mono fun _ _ h => ⟨h.1, hb.trans (h.2.mono hb.size)⟩
      have BR : Hid (Below W2.heap.size W2 W2) := Below.refl _ _
      have ST : Hid (∀ W, Below W2.heap.size W2 W → Tk.But (fun k => k = bw ∨ E k) w W ∧ Bk.Wy bw lv k W ∧ Inv (s + 1) W) := fun W hb =>
        ⟨X2.out.trans (Tk.But.of_below hb), HK.out.keep (hb.block bw HK.out.lt), HS.out.keeps _ _ _ V2.out (Tk.But.of_below hb)⟩
      have CF : Hid (∀ W, Below W2.heap.size W2 W → W.cell? ⟨bw, 0, none⟩ = some (.func (.func 43) #[] #[]) ∧ W.cell? ⟨w.heap.size, 0, none⟩ = some (.int .i64 o) ∧ W.cell? ⟨w.heap.size, 1, none⟩ = some (.int .i64 m) ∧ W.cell? ⟨w.heap.size, 2, none⟩ = some (.int .i64 r) ∧ W.cell? ⟨w.heap.size, 3, none⟩ = some (.slice a n cap) ∧ W.cell? ⟨w.heap.size, 4, none⟩ = some (.slice al nl cl)) := fun W hb => by
        have e1 := (hb.block w.heap.size (Array.getElem?_eq_some_iff.1 HB2.out).1).trans HB2.out
        exact ⟨(HK.out.keep (hb.block bw HK.out.lt)).c0, by simp [World.cell?, e1], by simp [World.cell?, e1], by simp [World.cell?, e1], by simp [World.cell?, e1], by simp [World.cell?, e1]⟩
      clear X2 V2 HK HB2 eg
      go_wp2_with fail
      go_region_held3 (fun W => W.cell? ⟨bw, 0, none⟩ = some (.func (.func 43) #[] #[]) ∧ W.cell? ⟨w.heap.size, 0, none⟩ = some (.int .i64 o) ∧ W.cell? ⟨w.heap.size, 1, none⟩ = some (.int .i64 m) ∧ W.cell? ⟨w.heap.size, 2, none⟩ = some (.int .i64 r) ∧ W.cell? ⟨w.heap.size, 3, none⟩ = some (.slice a n cap) ∧ W.cell? ⟨w.heap.size, 4, none⟩ = some (.slice al nl cl))
        (first | exact CF.out _ B3.out | exact CF.out _ BR.out.drew | exact CF.out _ BR.out)
        (first
        | (go_simp; go_at_call 43; refine Calls.mono (CK.out _ ?_) ?_; (first | exact BR.out | exact BR.out.drew | exact Tk.below_drewN BR.out _); rintro e W3 ⟨rfl, B3⟩))
      have HB3 : Hid (Below W2.heap.size W2 W3) := B3
      clear CK BR CF B3
      go_simp
      go_wp2
      go_loopg [28] n (fun gk i wr => ∃ j : Nat, gk + j = n ∧ i = .int .i64 j ∧ Hid (Tk.But (fun k => k = bw ∨ E k) w wr ∧ Bk.Wy bw lv (k - Bl.sizes (T.ks.take j)) wr ∧ Inv (s + 1 + Bl.sizes (T.ks.take j)) wr ∧ Bl.depths (T.ks.take j) ≤ L ∧ Bl.sizes (T.ks.take j) ≤ k ∧ Bl.allPs p (T.ks.take j) = true))
      case atStart =>
        have h3 := ST.out _ HB3.out
        exact ⟨0, by omega, rfl, h3.1, by simpa [Bl.sizes] using h3.2.1, by simpa [Bl.sizes] using h3.2.2, by simp [Bl.depths], by simp [Bl.sizes], by simp [Bl.allPs]⟩
      case round =>
        obtain ⟨j, hj, rfl, HJ⟩ := hrel
        clear ST HB3
        by_cases hjn : j < n
        · have hd : decide ((j : Int) < n) = true := decide_eq_true (by omega)
          have hjk : j < T.ks.length := by rw [HM.out.2.2.2.1]; exact hjn
          obtain ⟨g', off, u, lu, rfl, hg, q0, q1, q2, q3, q4, q5⟩ := HT.out.kid j hjk
          obtain ⟨x, hx⟩ : ∃ x, T.ks[j] = x := ⟨_, rfl⟩
          rw [hx] at q0 q1 q2 q5
          obtain ⟨au, cu, rfl⟩ := q5.shape
          obtain ⟨bu, du, rfl⟩ := q5.links.shape
          obtain ⟨nx, hnx⟩ : ∃ n, x.ks.length = n := ⟨_, rfl⟩
          obtain ⟨mx, hmx⟩ : ∃ n, x.ls.length = n := ⟨_, rfl⟩
          rw [hnx] at q3 q5
          rw [hmx] at q4 q5
          obtain ⟨y0, hy0⟩ : ∃ y, x.kind = y := ⟨_, rfl⟩
          obtain ⟨y1, hy1⟩ : ∃ y, x.node = y := ⟨_, rfl⟩
          obtain ⟨y2, hy2⟩ : ∃ y, x.arg = y := ⟨_, rfl⟩
          rw [hy0] at q0
          rw [hy1] at q1
          rw [hy2] at q2
          have hc : ∀ p, wr.cell? ⟨g', p, none⟩ = w.cell? ⟨g', p, none⟩ := fun p => World.cell?_of_block (w := w) (HJ.out.1.block g' (by have := HN.out; omega) (hE.out g' hg))
          have hc0 : wr.cell? ⟨g', off + j * 5, none⟩ = some (.int .i64 y0) := by rw [hc]; exact q0
          have hc1 : wr.cell? ⟨g', off + j * 5 + 1, none⟩ = some (.int .i64 y1) := by rw [hc]; exact q1
          have hc2 : wr.cell? ⟨g', off + j * 5 + 2, none⟩ = some (.int .i64 y2) := by rw [hc]; exact q2
          have hc3 : wr.cell? ⟨g', off + j * 5 + 3, none⟩ = some (.slice au nx cu) := by rw [hc]; exact q3
          have hc4 : wr.cell? ⟨g', off + j * 5 + 4, none⟩ = some (.slice bu mx du) := by rw [hc]; exact q4
          have HY : Hid (T.ks[j] = x ∧ x.kind = y0 ∧ x.node = y1 ∧ x.arg = y2) := ⟨hx, hy0, hy1, hy2⟩
          have HL : Hid (Bl.Lies w B d (.slice au nx cu) (.slice bu mx du) x) := q5
          have hsx : Hid (Bl.sizes (T.ks.take j) + x.size ≤ Bl.sizes T.ks) := by
            have h1 := Bl.sizes_get T.ks j hjk
            rw [hx] at h1
            exact h1
          clear hc q0 q1 q2 q3 q4 q5 hx hy0 hy1 hy2 hnx hmx
          have BA : Hid (Tk.But (fun k => k = bw ∨ E k) w (wr.alloc (.cells #[.int .i64 y0, .int .i64 y1, .int .i64 y2, .slice au nx cu, .slice bu mx du] 29))) := HJ.out.1.alloc _
          have hcall := HI.out L x (.slice au nx cu) (.slice bu mx du) (k - Bl.sizes (T.ks.take j)) (s + 1 + Bl.sizes (T.ks.take j)) (wr.alloc (.cells #[.int .i64 y0, .int .i64 y1, .int .i64 y2, .slice au nx cu, .slice bu mx du] 29))
            (HL.out.keep fun i hi => BA.out.block i (by have := HN.out; omega) (hE.out i hi)) HN.out.1 HN.out.2.1 (by have := HN.out; have := BA.out.size; omega)
            (HJ.out.2.1.keep (Below.heap_alloc _ _ _ HJ.out.2.1.lt)) (HS.out.keeps _ _ _ HJ.out.2.2.1 ((Tk.But.refl _ _).alloc _)) (fun i hi => by have := HN.out.2.2.2.2.2.2 i hi; have := BA.out.size; omega)
            (by have := HJ.out.2.2.2.2.1; have := HN.out; omega) hLb (by have := hsx.out; have := HN.out; have := T.size_eq; omega) (by have h := Bl.allPs_get _ T.ks HLK.out.2 j hjk; rw [HY.out.1] at h; exact h)
          rw [HY.out.2.1, HY.out.2.2.1, HY.out.2.2.2] at hcall
          have HCL : Hid _ := hcall
          clear hcall
          go_wp2_with fail
          refine Calls.mono HCL.out ?_
          rintro e W4 ⟨hb3, ⟨hdp, hsz, hall, rfl, hw3, hr3⟩ | ⟨hno, rfl⟩⟩
          · have B3 : Hid (Tk.But (fun k => k = bw ∨ E k) w W4) := BA.out.trans hb3
            have H3 : Hid (Bk.Wy bw lv (k - Bl.sizes (T.ks.take j) - x.size) W4 ∧ Inv (s + 1 + Bl.sizes (T.ks.take j) + x.size) W4 ∧ x.depth ≤ L ∧ x.size ≤ k - Bl.sizes (T.ks.take j) ∧ x.allP p = true) := ⟨hw3, hr3, hdp, hsz, hall⟩
            clear hb3 hw3 hr3 hdp HCL hsz hall
            go_wp2
            go_roundg (gk - 1)
            case measure => omega
            case rel =>
              have hz := HJ.out.2.2.2
              have hy := H3.out.2.2
              refine ⟨j + 1, by omega, by go_num, B3.out, ?_, ?_, ?_, ?_, ?_⟩
              · rw [Bl.sizes_take _ _ hjk, HY.out.1, ← Nat.sub_sub]; exact H3.out.1
              · rw [Bl.sizes_take _ _ hjk, HY.out.1, ← Nat.add_assoc]; exact H3.out.2.1
              · rw [Bl.depths_take _ _ hjk, HY.out.1]; omega
              · rw [Bl.sizes_take _ _ hjk, HY.out.1]; omega
              · rw [Bl.allPs_take _ _ _ hjk, HY.out.1, hz.2.2, hy.2.2]; rfl
          · have B3 : Hid (Tk.But (fun k => k = bw ∨ E k) w W4) := BA.out.trans hb3
            have H3 : Hid (¬ (x.depth ≤ L ∧ x.size ≤ k - Bl.sizes (T.ks.take j) ∧ x.allP p = true)) := hno
            clear hb3 hno HCL
            go_wp2
            go_ret
            refine ⟨B3.out, .inr ⟨fun h => H3.out ?_, rfl⟩⟩
            have h1 := Bl.depths_get T.ks j hjk
            rw [HY.out.1] at h1
            have h2 := T.depth_eq
            have h3 := T.size_eq
            have h4 := hsx.out
            have h5 := h.2.2
            rw [T.allP_eq, Bool.and_eq_true] at h5
            have h6 := Bl.allPs_get p T.ks h5.2 j hjk
            rw [HY.out.1] at h6
            exact ⟨by omega, by omega, h6⟩
        · have hd : decide ((j : Int) < n) = false := decide_eq_false (by omega)
          go_wp2
          go_ret
          have hall : T.ks.take j = T.ks := List.take_of_length_le (by rw [HM.out.2.2.2.1]; omega)
          have HZ := HJ.out
          rw [hall] at HZ
          have h2 := T.depth_eq
          have h3 := T.size_eq
          refine ⟨HZ.1, .inl ⟨by have := HZ.2.2.2.1; omega, by have := HZ.2.2.2.2.1; omega, ?_, rfl, ?_, ?_⟩⟩
          · rw [T.allP_eq, HM.out.1, HM.out.2.1, HM.out.2.2.1, HQ.out, HZ.2.2.2.2.2]; rfl
          · rw [h3, show k + 1 - (Bl.sizes T.ks + 1) = k - Bl.sizes T.ks by omega]; exact HZ.2.1
          · rw [h3, show s + (Bl.sizes T.ks + 1) = s + 1 + Bl.sizes T.ks by omega]; exact HZ.2.2.1

end Go.Proofs
