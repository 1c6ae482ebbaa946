/-
  nest's way through blocks where what is shown a block keeps a state of its own: one contract of through, whatever it is handed.
-/
import Derived.Test.YtemccpfgkbhahaaGreatDoorBlWays
namespace Go.Proofs
open Go.RowKit

namespace Bl
mutual
/-- All blocks in their order, till a step tells false. -/
def go {St : Type} (step : Bl → St → Bool × St) : Bl → St → Bool × St
  | .mk k n a ks ls, s => if (step (.mk k n a ks ls) s).1 = true then goes step ks (step (.mk k n a ks ls) s).2 else (false, (step (.mk k n a ks ls) s).2)
def goes {St : Type} (step : Bl → St → Bool × St) : List Bl → St → Bool × St
  | [], s => (true, s)
  | k :: r, s => if (go step k s).1 = true then goes step r (go step k s).2 else (false, (go step k s).2)
end
mutual
def All (P : Bl → Prop) : Bl → Prop | .mk k n a ks ls => P (.mk k n a ks ls) ∧ Alls P ks
def Alls (P : Bl → Prop) : List Bl → Prop | [] => True | k :: r => All P k ∧ Alls P r
end
theorem go_eq {St : Type} (step : Bl → St → Bool × St) (T : Bl) (s : St) : T.go step s = if (step T s).1 = true then goes step T.ks (step T s).2 else (false, (step T s).2) := by cases T; rfl
theorem all_eq (P : Bl → Prop) (T : Bl) : T.All P = (P T ∧ Alls P T.ks) := by cases T; rfl
theorem alls_get {P : Bl → Prop} : ∀ {l : List Bl}, Alls P l → ∀ k (h : k < l.length), l[k].All P
  | [], _, k, h => by simp at h
  | x :: r, hl, k, h => by
    cases k with
    | zero => exact hl.1
    | succ k => exact alls_get hl.2 k (by simpa using h)
theorem goes_snoc {St : Type} (step : Bl → St → Bool × St) (x : Bl) : ∀ (l : List Bl) (s : St), goes step (l ++ [x]) s = if (goes step l s).1 = true then x.go step (goes step l s).2 else (false, (goes step l s).2)
  | [], s => by
    simp only [List.nil_append, goes, if_true]
    split
    · rename_i h; rw [← h]
    · rename_i h; rw [← Bool.eq_false_iff.2 h]
  | k :: r, s => by
    rw [List.cons_append, goes, goes]
    split
    · exact goes_snoc step x r _
    · simp
theorem goes_stop {St : Type} (step : Bl → St → Bool × St) : ∀ (a b : List Bl) (s s' : St), goes step a s = (false, s') → goes step (a ++ b) s = (false, s')
  | [], b, s, s', h => by simp [goes] at h
  | k :: r, b, s, s', h => by
    rw [goes] at h
    rw [List.cons_append, goes]
    split
    · rename_i hk; rw [if_pos hk] at h; exact goes_stop step r b _ _ h
    · rename_i hk; rw [if_neg hk] at h; exact h
end Bl

/-- What is asked of what is handed on: in a state it tells what the step tells, and comes to the step's state; it writes blocks of E alone. -/
structure Bk.Stepped {St : Type} (step : Bl → St → Bool × St) (P : Bl → Prop) (g : Nat) (lb : Array Value) (Inv : St → World → Prop) (E : Nat → Prop) (B bw : Nat) : Prop where
  enters : ∀ args w, (callFunc g args).run Tryz.prog w = .ok (.enter g args) w
  calls : ∀ (s : St) (W : World) (d : Nat) (T : Bl) (v u : Value), P T → Inv s W → B ≤ W.heap.size → Bl.Lies W B d v u T → Calls Tryz.prog g (#[.agg #[.int .i64 T.kind, .int .i64 T.node, .int .i64 T.arg, v, u]] ++ lb) W fun e w' => e = .returned (.bool (step T s).1) ∧ Inv (step T s).2 w' ∧ Tk.But E W w'
  keeps : ∀ (s : St) (W W' : World), Inv s W → Tk.But (fun k => k = bw) W W' → Inv s W'
  above : ∀ k, E k → B ≤ k
  not_bw : ¬ E bw

/-- What through comes to. -/
def Bk.GoEnd {St : Type} (step : Bl → St → Bool × St) (Inv : St → World → Prop) (E : Nat → Prop) (T : Bl) (lv left : Nat) (s : St) (bw : Nat) (w : World) (e : Ending) (w' : World) : Prop :=
  Tk.But (fun k => k = bw ∨ E k) w w' ∧ Inv (T.go step s).2 w' ∧ (((T.go step s).1 = true ∧ e = .returned (.bool true) ∧ Bk.Wy bw lv (left - T.size) w') ∨ ((T.go step s).1 = false ∧ e = .returned (.bool false)))

set_option maxRecDepth 20000 in
set_option maxHeartbeats 8000000 in
theorem Tryz.bgo_any {St : Type} {step : Bl → St → Bool × St} {P : Bl → Prop} {g : Nat} {lb : Array Value} {Inv : St → World → Prop} {E : Nat → Prop} {B bw : Nat} (hS : Bk.Stepped step P g lb Inv E B bw) (lv : Nat) : ∀ (d L : Nat) (T : Bl) (v u : Value) (left : Nat) (s : St) (w : World), Bl.Lies w B d v u T → 0 < B → B ≤ bw → B ≤ w.heap.size → Bk.Wy bw lv left w → Inv s w → (∀ k, E k → k < w.heap.size) → left ≤ 2147483647 → L ≤ 1000 → T.depth ≤ L → T.size ≤ left → T.All P →
    Calls Tryz.prog 52 #[.pointer (some ⟨bw, 0, none⟩), .agg #[.int .i64 T.kind, .int .i64 T.node, .int .i64 T.arg, v, u], .int .i64 L, .func (.func g) #[] lb] w (Bk.GoEnd step Inv E T lv left s bw w) := by
  intro d
  induction d with
  | zero => intro L T v u left s w h; exact h.elim
  | succ d ih =>
    intro L T v u left s w hT hB hbw hBs hW hI hEw hleft hL hdp hsz hAll
    rw [T.all_eq] at hAll
    have HLK : Hid (P T ∧ Bl.Alls P T.ks) := hAll
    clear hAll
    obtain ⟨a, cap, rfl⟩ := hT.shape
    obtain ⟨al, cl, rfl⟩ := hT.links.shape
    obtain ⟨o, ho⟩ : ∃ o, T.kind = o := ⟨_, rfl⟩
    obtain ⟨m, hm⟩ : ∃ m, T.node = m := ⟨_, rfl⟩
    obtain ⟨r, hr⟩ : ∃ m, T.arg = m := ⟨_, rfl⟩
    obtain ⟨n, hn⟩ : ∃ n, T.ks.length = n := ⟨_, rfl⟩
    obtain ⟨nl, hnl⟩ : ∃ n, T.ls.length = n := ⟨_, rfl⟩
    rw [ho, hm, hr, hn, hnl]
    rw [hn, hnl] at hT
    cases L with
    | zero => exfalso; have := T.depth_eq; omega
    | succ L =>
      have A0 : Hid (Below w.heap.size w (w.alloc (.cells #[.int .i64 o, .int .i64 m, .int .i64 r, .slice a n cap, .slice al nl cl] 29))) := (Below.refl _ w).alloc (Nat.le_refl _) _
      cases left with
      | zero => exfalso; have := T.size_pos; omega
      | succ k =>
      have W0 : Bk.Wy bw lv (k + 1) (w.alloc (.cells #[.int .i64 o, .int .i64 m, .int .i64 r, .slice a n cap, .slice al nl cl] 29)) := hW.keep (A0.out.block bw hW.lt)
      have HT : Hid (Bl.Lies w B (d + 1) (.slice a n cap) (.slice al nl cl) T) := hT
      have HW : Hid (Bk.Wy bw lv (k + 1) w) := hW
      have HV : Hid (Inv s w) := hI
      have HM : Hid (T.kind = o ∧ T.node = m ∧ T.arg = r ∧ T.ks.length = n ∧ T.ls.length = nl) := ⟨ho, hm, hr, hn, hnl⟩
      have HN : Hid (0 < B ∧ B ≤ bw ∧ B ≤ w.heap.size ∧ T.size ≤ k + 1 ∧ k + 1 ≤ 2147483647 ∧ T.depth ≤ L + 1 ∧ (∀ k, E k → k < w.heap.size)) := ⟨hB, hbw, hBs, hsz, hleft, hdp, hEw⟩
      have HI : Hid _ := ih
      have HS : Hid (Bk.Stepped step P g lb Inv E B bw) := hS
      have eg := hS.enters
      have hLb : L ≤ 1000 := by omega
      have hnb : n ≤ 2147483647 := by have h1 := Bl.length_le_sizes T.ks; have h2 := T.size_eq; omega
      obtain ⟨q, hq⟩ : ∃ q, (step T s).1 = q := ⟨_, rfl⟩
      obtain ⟨s1, hs1⟩ : ∃ q, (step T s).2 = q := ⟨_, rfl⟩
      have HQ : Hid ((step T s).1 = q ∧ (step T s).2 = s1) := ⟨hq, hs1⟩
      clear ih hT hW hI ho hm hr hn hnl hB hbw hBs hsz hleft hL hdp hEw hS hq hs1
      go_enter Tryz.func52, Tryz.ntmps52
      have hu := Tryz.underlying29
      go_wp2_with fail
      refine (Tryz.benter_yes bw lv k L _ W0 (by have := HN.out; omega)).mono ?_
      rintro e W1 ⟨rfl, hw1⟩
      have X1 : Hid (Tk.But (fun k => k = bw) w W1) := by
        show Tk.But _ _ _
        rw [hw1]
        exact (Tk.But.of_below A0.out).setCell (E := fun k => k = bw) (p := ⟨bw, 2, none⟩) rfl _
      have W1k : Hid (Bk.Wy bw lv k W1) := by show Bk.Wy _ _ _ _; rw [hw1]; exact W0.put k
      have hbx : W1.heap[w.heap.size]? = some (.cells #[.int .i64 o, .int .i64 m, .int .i64 r, .slice a n cap, .slice al nl cl] 29 (0, 0)) := by
        rw [hw1, Below.heap_setCell _ _ _ _ (by have := HW.out.lt; show w.heap.size ≠ bw; omega)]
        exact heap_alloc_new w _
      have V1 : Hid (Inv s W1) := HS.out.keeps s w W1 HV.out X1.out
      clear W0 hw1
      have hE : Hid (∀ i, i < B → ¬ (i = bw ∨ E i)) := fun i hi h => by
        rcases h with h | h
        · have := HN.out.2.1; omega
        · have := HS.out.above i h; omega
      have hcall := HS.out.calls s W1 (d + 1) T (.slice a n cap) (.slice al nl cl) HLK.out.1 V1.out (by have := X1.out.size; have := HN.out; omega) (HT.out.keep fun i hi => X1.out.block i (by have := HN.out; omega) (fun e => hE.out i hi (.inl e)))
      rw [HM.out.1, HM.out.2.1, HM.out.2.2.1, HQ.out.1, HQ.out.2] at hcall
      have p0 : W1.cell? ⟨w.heap.size, 0, none⟩ = some (.int .i64 o) := by simp [World.cell?, hbx]
      have p1 : W1.cell? ⟨w.heap.size, 1, none⟩ = some (.int .i64 m) := by simp [World.cell?, hbx]
      have p2 : W1.cell? ⟨w.heap.size, 2, none⟩ = some (.int .i64 r) := by simp [World.cell?, hbx]
      have p3 : W1.cell? ⟨w.heap.size, 3, none⟩ = some (.slice a n cap) := by simp [World.cell?, hbx]
      have p4 : W1.cell? ⟨w.heap.size, 4, none⟩ = some (.slice al nl cl) := by simp [World.cell?, hbx]
      have HC : Hid _ := hcall
      clear hcall
      go_wp2_with fail
      refine Calls.mono HC.out ?_
      rintro e W2 ⟨rfl, hV2, hb2⟩
      have X2 : Hid (Tk.But (fun k => k = bw ∨ E k) w W2) := ⟨hb2.os.trans X1.out.os, hb2.tape.trans X1.out.tape, hb2.output.trans X1.out.output, Nat.le_trans X1.out.size hb2.size, fun i hi he => by
        rw [hb2.block i (Nat.lt_of_lt_of_le hi X1.out.size) (fun e => he (.inr e))]
        exact X1.out.block i hi (fun e => he (.inl e))⟩
      have W2k : Bk.Wy bw lv k W2 := W1k.out.keep (hb2.block bw W1k.out.lt HS.out.not_bw)
      have V2 : Hid (Inv s1 W2) := hV2
      have h2 : W2.heap[w.heap.size]? = some (.cells #[.int .i64 o, .int .i64 m, .int .i64 r, .slice a n cap, .slice al nl cl] 29 (0, 0)) := by
        rw [hb2.block _ (Array.getElem?_eq_some_iff.1 hbx).1 (by intro e; have := HN.out.2.2.2.2.2.2 _ e; omega)]
        exact hbx
      have HK : Hid (Bk.Wy bw lv k W2) := W2k
      have HB2 : Hid _ := h2
      clear hbx hV2 hb2 X1 W1k V1 p0 p1 p2 p3 p4 HC W2k h2
      cases q with
      | false =>
        go_wp2
        go_ret
        have hg : T.go step s = (false, s1) := by rw [T.go_eq, HQ.out.1, HQ.out.2]; rfl
        unfold Bk.GoEnd
        rw [hg]
        exact ⟨X2.out, V2.out, .inr ⟨rfl, rfl⟩⟩
      | true =>
      have CK : Hid (∀ W, Below W2.heap.size W2 W → Calls Tryz.prog 43 #[.agg #[.int .i64 o, .int .i64 m, .int .i64 r, .slice a n cap, .slice al nl cl]] W fun e w' => e = .returned (.slice a n cap) ∧ Hid (Below W2.heap.size W2 w')) := fun W hb =>
        (Tryz.bkids_any o m r a n cap al nl cl W).mono fun _ _ h => ⟨h.1, hb.trans (h.2.mono hb.size)⟩
      have BR : Hid (Below W2.heap.size W2 W2) := Below.refl _ _
      have ST : Hid (∀ W, Below W2.heap.size W2 W → Tk.But (fun k => k = bw ∨ E k) w W ∧ Bk.Wy bw lv k W ∧ Inv s1 W) := fun W hb =>
        ⟨X2.out.trans (Tk.But.of_below hb), HK.out.keep (hb.block bw HK.out.lt), HS.out.keeps _ _ _ V2.out (Tk.But.of_below hb)⟩
      have CF : Hid (∀ W, Below W2.heap.size W2 W → W.cell? ⟨bw, 0, none⟩ = some (.func (.func 43) #[] #[]) ∧ W.cell? ⟨w.heap.size, 0, none⟩ = some (.int .i64 o) ∧ W.cell? ⟨w.heap.size, 1, none⟩ = some (.int .i64 m) ∧ W.cell? ⟨w.heap.size, 2, none⟩ = some (.int .i64 r) ∧ W.cell? ⟨w.heap.size, 3, none⟩ = some (.slice a n cap) ∧ W.cell? ⟨w.heap.size, 4, none⟩ = some (.slice al nl cl)) := fun W hb => by
        have e1 := (hb.block w.heap.size (Array.getElem?_eq_some_iff.1 HB2.out).1).trans HB2.out
        exact ⟨(HK.out.keep (hb.block bw HK.out.lt)).c0, by simp [World.cell?, e1], by simp [World.cell?, e1], by simp [World.cell?, e1], by simp [World.cell?, e1], by simp [World.cell?, e1]⟩
      clear X2 V2 HK HB2 eg
      go_wp2_with fail
      go_region_held3 (fun W => W.cell? ⟨bw, 0, none⟩ = some (.func (.func 43) #[] #[]) ∧ W.cell? ⟨w.heap.size, 0, none⟩ = some (.int .i64 o) ∧ W.cell? ⟨w.heap.size, 1, none⟩ = some (.int .i64 m) ∧ W.cell? ⟨w.heap.size, 2, none⟩ = some (.int .i64 r) ∧ W.cell? ⟨w.heap.size, 3, none⟩ = some (.slice a n cap) ∧ W.cell? ⟨w.heap.size, 4, none⟩ = some (.slice al nl cl))
        (first | exact CF.out _ B3.out | exact CF.out _ BR.out.drew | exact CF.out _ BR.out)
        (first
        | (go_simp; go_at_call 43; refine Calls.mono (CK.out _ ?_) ?_; (first | exact BR.out | exact BR.out.drew | exact Tk.below_drewN BR.out _); rintro e W3 ⟨rfl, B3⟩))
      have HB3 : Hid (Below W2.heap.size W2 W3) := B3
      clear CK BR CF B3
      go_simp
      go_wp2
      go_loopg [28] n (fun gk i wr => ∃ j : Nat, gk + j = n ∧ i = .int .i64 j ∧ Hid (Tk.But (fun k => k = bw ∨ E k) w wr ∧ Bk.Wy bw lv (k - Bl.sizes (T.ks.take j)) wr ∧ ∃ sj, Bl.goes step (T.ks.take j) s1 = (true, sj) ∧ Inv sj wr))
      case atStart =>
        have h3 := ST.out _ HB3.out
        exact ⟨0, by omega, rfl, h3.1, by simpa [Bl.sizes] using h3.2.1, s1, by simp [Bl.goes], h3.2.2⟩
      case round =>
        obtain ⟨j, hj, rfl, HJ⟩ := hrel
        clear ST HB3
        have HJ0 := HJ.out
        obtain ⟨hJ1, hJ2, sj, hJ3, hJ4⟩ := HJ0
        have HJ' : Hid (Tk.But (fun k => k = bw ∨ E k) w wr ∧ Bk.Wy bw lv (k - Bl.sizes (T.ks.take j)) wr ∧ Bl.goes step (T.ks.take j) s1 = (true, sj) ∧ Inv sj wr) := ⟨hJ1, hJ2, hJ3, hJ4⟩
        clear HJ hJ1 hJ2 hJ3 hJ4
        have HJ := HJ'
        clear HJ'
        by_cases hjn : j < n
        · have hd : decide ((j : Int) < n) = true := decide_eq_true (by omega)
          have hjk : j < T.ks.length := by rw [HM.out.2.2.2.1]; exact hjn
          obtain ⟨g', off, u, lu, rfl, hg, q0, q1, q2, q3, q4, q5⟩ := HT.out.kid j hjk
          obtain ⟨x, hx⟩ : ∃ x, T.ks[j] = x := ⟨_, rfl⟩
          rw [hx] at q0 q1 q2 q5
          obtain ⟨au, cu, rfl⟩ := q5.shape
          obtain ⟨bu, du, rfl⟩ := q5.links.shape
          obtain ⟨nx, hnx⟩ : ∃ n, x.ks.length = n := ⟨_, rfl⟩
          obtain ⟨mx, hmx⟩ : ∃ n, x.ls.length = n := ⟨_, rfl⟩
          rw [hnx] at q3 q5
          rw [hmx] at q4 q5
          obtain ⟨y0, hy0⟩ : ∃ y, x.kind = y := ⟨_, rfl⟩
          obtain ⟨y1, hy1⟩ : ∃ y, x.node = y := ⟨_, rfl⟩
          obtain ⟨y2, hy2⟩ : ∃ y, x.arg = y := ⟨_, rfl⟩
          rw [hy0] at q0
          rw [hy1] at q1
          rw [hy2] at q2
          have hc : ∀ p, wr.cell? ⟨g', p, none⟩ = w.cell? ⟨g', p, none⟩ := fun p => World.cell?_of_block (w := w) (HJ.out.1.block g' (by have := HN.out; omega) (hE.out g' hg))
          have hc0 : wr.cell? ⟨g', off + j * 5, none⟩ = some (.int .i64 y0) := by rw [hc]; exact q0
          have hc1 : wr.cell? ⟨g', off + j * 5 + 1, none⟩ = some (.int .i64 y1) := by rw [hc]; exact q1
          have hc2 : wr.cell? ⟨g', off + j * 5 + 2, none⟩ = some (.int .i64 y2) := by rw [hc]; exact q2
          have hc3 : wr.cell? ⟨g', off + j * 5 + 3, none⟩ = some (.slice au nx cu) := by rw [hc]; exact q3
          have hc4 : wr.cell? ⟨g', off + j * 5 + 4, none⟩ = some (.slice bu mx du) := by rw [hc]; exact q4
          have HY : Hid (T.ks[j] = x ∧ x.kind = y0 ∧ x.node = y1 ∧ x.arg = y2) := ⟨hx, hy0, hy1, hy2⟩
          have HL : Hid (Bl.Lies w B d (.slice au nx cu) (.slice bu mx du) x) := q5
          have hsx : Hid (Bl.sizes (T.ks.take j) + x.size ≤ Bl.sizes T.ks) := by
            have h1 := Bl.sizes_get T.ks j hjk
            rw [hx] at h1
            exact h1
          clear hc q0 q1 q2 q3 q4 q5 hx hy0 hy1 hy2 hnx hmx
          have BA : Hid (Tk.But (fun k => k = bw ∨ E k) w (wr.alloc (.cells #[.int .i64 y0, .int .i64 y1, .int .i64 y2, .slice au nx cu, .slice bu mx du] 29))) := HJ.out.1.alloc _
          have hcall := HI.out L x (.slice au nx cu) (.slice bu mx du) (k - Bl.sizes (T.ks.take j)) sj (wr.alloc (.cells #[.int .i64 y0, .int .i64 y1, .int .i64 y2, .slice au nx cu, .slice bu mx du] 29))
            (HL.out.keep fun i hi => BA.out.block i (by have := HN.out; omega) (hE.out i hi)) HN.out.1 HN.out.2.1 (by have := HN.out; have := BA.out.size; omega)
            (HJ.out.2.1.keep (Below.heap_alloc _ _ _ HJ.out.2.1.lt)) (HS.out.keeps _ _ _ HJ.out.2.2.2 ((Tk.But.refl _ _).alloc _)) (fun i hi => by have := HN.out.2.2.2.2.2.2 i hi; have := BA.out.size; omega)
            (by have := HN.out; omega) hLb (by have h1 := Bl.depths_get T.ks j hjk; rw [HY.out.1] at h1; have := T.depth_eq; have := HN.out; omega) (by have := hsx.out; have := HN.out; have := T.size_eq; omega) (by have h := Bl.alls_get HLK.out.2 j hjk; rw [HY.out.1] at h; exact h)
          rw [HY.out.2.1, HY.out.2.2.1, HY.out.2.2.2] at hcall
          have HCL : Hid _ := hcall
          clear hcall
          go_wp2_with fail
          refine Calls.mono HCL.out ?_
          rintro e W4 ⟨hb3, hi3, hend⟩
          have B3 : Hid (Tk.But (fun k => k = bw ∨ E k) w W4) := BA.out.trans hb3
          obtain ⟨gx, hgx⟩ : ∃ z, x.go step sj = z := ⟨_, rfl⟩
          rw [hgx] at hi3 hend
          have HG : Hid (x.go step sj = gx ∧ Inv gx.2 W4) := ⟨hgx, hi3⟩
          have hsn : Hid (Bl.goes step (T.ks.take (j + 1)) s1 = gx) := by
            show _ = _
            rw [Bl.take_snoc _ _ hjk, Bl.goes_snoc, HJ.out.2.2.1, HY.out.1]
            simpa using hgx
          clear hb3 hi3 hgx HCL
          rcases hend with ⟨h1, rfl, h2⟩ | ⟨h1, rfl⟩
          · have H3 : Hid (gx.1 = true ∧ Bk.Wy bw lv (k - Bl.sizes (T.ks.take j) - x.size) W4) := ⟨h1, h2⟩
            clear h1 h2
            go_wp2
            go_roundg (gk - 1)
            case measure => omega
            case rel =>
              refine ⟨j + 1, by omega, by go_num, B3.out, ?_, gx.2, ?_, HG.out.2⟩
              · rw [Bl.sizes_take _ _ hjk, HY.out.1, ← Nat.sub_sub]; exact H3.out.2
              · rw [hsn.out, ← H3.out.1]
          · have H3 : Hid (gx.1 = false) := h1
            clear h1
            go_wp2
            go_ret
            have hg : T.go step s = (false, gx.2) := by
              rw [T.go_eq, HQ.out.1, HQ.out.2, if_pos rfl, ← List.take_append_drop (j + 1) T.ks]
              exact Bl.goes_stop step _ _ _ _ (by rw [hsn.out, ← H3.out])
            unfold Bk.GoEnd
            rw [hg]
            exact ⟨B3.out, HG.out.2, .inr ⟨rfl, rfl⟩⟩
        · have hd : decide ((j : Int) < n) = false := decide_eq_false (by omega)
          go_wp2
          go_ret
          have hall : T.ks.take j = T.ks := List.take_of_length_le (by rw [HM.out.2.2.2.1]; omega)
          have HZ := HJ.out
          rw [hall] at HZ
          have hg : T.go step s = (true, sj) := by rw [T.go_eq, HQ.out.1, HQ.out.2, if_pos rfl]; exact HZ.2.2.1
          have h3 := T.size_eq
          unfold Bk.GoEnd
          rw [hg]
          refine ⟨HZ.1, HZ.2.2.2, .inl ⟨rfl, rfl, ?_⟩⟩
          rw [h3, show k + 1 - (Bl.sizes T.ks + 1) = k - Bl.sizes T.ks by omega]
          exact HZ.2.1

set_option maxRecDepth 20000 in
set_option maxHeartbeats 4000000 in
theorem Tryz.bnestGo_any {St : Type} {step : Bl → St → Bool × St} {P : Bl → Prop} {g : Nat} {lb : Array Value} {Inv : St → World → Prop} {E : Nat → Prop} {B : Nat} (d L left : Nat) (s : St) (T : Bl) (v u : Value) (w : World) (hS : Bk.Stepped step P g lb Inv E B w.heap.size) (hT : Bl.Lies w B d v u T) (hB : 0 < B) (hBs : B ≤ w.heap.size) (hI : Inv s w) (hE : ∀ k, E k → k < w.heap.size) (hleft : left ≤ 2147483647) (hL : L ≤ 1000) (hdp : T.depth ≤ L) (hsz : T.size ≤ left) (hlk : T.All P) :
    Calls Tryz.prog 35 #[.agg #[.func (.func 43) #[] #[], .int .i64 L, .int .i64 left], .agg #[.int .i64 T.kind, .int .i64 T.node, .int .i64 T.arg, v, u], .func (.func g) #[] lb] w fun e w' => e = .returned (.bool (T.go step s).1) ∧ Inv (T.go step s).2 w' ∧ Tk.But E w w' := by
  obtain ⟨a, cap, rfl⟩ := hT.shape
  obtain ⟨al, cl, rfl⟩ := hT.links.shape
  obtain ⟨o, ho⟩ : ∃ o, T.kind = o := ⟨_, rfl⟩
  obtain ⟨m, hm⟩ : ∃ m, T.node = m := ⟨_, rfl⟩
  obtain ⟨r, hr⟩ : ∃ m, T.arg = m := ⟨_, rfl⟩
  obtain ⟨n, hn⟩ : ∃ n, T.ks.length = n := ⟨_, rfl⟩
  obtain ⟨nl, hnl⟩ : ∃ n, T.ls.length = n := ⟨_, rfl⟩
  rw [ho, hm, hr, hn, hnl]
  rw [hn, hnl] at hT
  obtain ⟨w1, hw1⟩ : ∃ x, (w.alloc (.cells #[.func (.func 43) #[] #[], .int .i64 L, .int .i64 left] 71)).alloc (.cells #[.int .i64 o, .int .i64 m, .int .i64 r, .slice a n cap, .slice al nl cl] 29) = x := ⟨_, rfl⟩
  have A1 : Below w.heap.size w w1 := by rw [← hw1]; exact ((Below.refl _ w).alloc (Nat.le_refl _) _).alloc (by simp) _
  have hWy : Bk.Wy w.heap.size L left w1 := by
    rw [← hw1]
    exact Bk.Wy.keep (heap_alloc_new w _) (Below.heap_alloc _ _ _ (by simp))
  have hcall := Tryz.bgo_any hS L d L T (.slice a n cap) (.slice al nl cl) left s w1 (hT.below (A1.mono hBs)) hB hBs (Nat.le_trans hBs A1.size) hWy (hS.keeps s w w1 hI (Tk.But.of_below A1)) (fun k hk => Nat.lt_of_lt_of_le (hE k hk) A1.size) hleft hL hdp hsz hlk
  rw [ho, hm, hr] at hcall
  have HC : Hid _ := hcall
  have HA : Hid (Below w.heap.size w w1) := A1
  have H1 : Hid ((w.alloc (.cells #[.func (.func 43) #[] #[], .int .i64 L, .int .i64 left] 71)).alloc (.cells #[.int .i64 o, .int .i64 m, .int .i64 r, .slice a n cap, .slice al nl cl] 29) = w1) := hw1
  obtain ⟨q, hq⟩ : ∃ q, (T.go step s).1 = q := ⟨_, rfl⟩
  have HQ : Hid ((T.go step s).1 = q) := hq
  rw [hq]
  clear hcall A1 hT hI ho hm hr hn hnl hw1 hWy hS hE hq
  go_enter Tryz.func35, Tryz.ntmps35
  go_wp2_with fail
  rw [H1.out]
  refine Calls.mono HC.out ?_
  rintro e W1 ⟨hb, hi, hend⟩
  have X : Hid (Tk.But E w W1) := ⟨hb.os.trans HA.out.os, hb.tape.trans HA.out.tape, hb.output.trans HA.out.output, Nat.le_trans HA.out.size hb.size, fun i hi he => by
    rw [hb.block i (Nat.lt_of_lt_of_le hi HA.out.size) (by rintro (h | h); omega; exact he h)]; exact HA.out.block i hi⟩
  have Y : Hid (Inv (T.go step s).2 W1) := hi
  rw [HQ.out] at hend
  rcases hend with ⟨rfl, rfl, _⟩ | ⟨rfl, rfl⟩
  all_goals
    clear hb hi
    go_wp2
    go_ret
    exact ⟨rfl, Y.out, X.out⟩

set_option maxRecDepth 20000 in
set_option maxHeartbeats 4000000 in
/-- block.through. -/
theorem Tryz.bgothrough_any {St : Type} {step : Bl → St → Bool × St} {P : Bl → Prop} {g : Nat} {lb : Array Value} {Inv : St → World → Prop} {E : Nat → Prop} {B : Nat} (d : Nat) (s : St) (T : Bl) (v u : Value) (w : World) (hS : ∀ bw, w.heap.size ≤ bw → Bk.Stepped step P g lb Inv E B bw) (hT : Bl.Lies w B d v u T) (hB : 0 < B) (hBs : B ≤ w.heap.size) (hI : Inv s w) (hE : ∀ k, E k → k < w.heap.size) (hdp : T.depth ≤ 1000) (hsz : T.size ≤ 2147483647) (hlk : T.All P) :
    Calls Tryz.prog 19 #[.agg #[.int .i64 T.kind, .int .i64 T.node, .int .i64 T.arg, v, u], .func (.func g) #[] lb] w fun e w' => e = .returned (.bool (T.go step s).1) ∧ Inv (T.go step s).2 w' ∧ Tk.But E w w' := by
  obtain ⟨a, cap, rfl⟩ := hT.shape
  obtain ⟨al, cl, rfl⟩ := hT.links.shape
  obtain ⟨o, ho⟩ : ∃ o, T.kind = o := ⟨_, rfl⟩
  obtain ⟨m, hm⟩ : ∃ m, T.node = m := ⟨_, rfl⟩
  obtain ⟨r, hr⟩ : ∃ m, T.arg = m := ⟨_, rfl⟩
  obtain ⟨n, hn⟩ : ∃ n, T.ks.length = n := ⟨_, rfl⟩
  obtain ⟨nl, hnl⟩ : ∃ n, T.ls.length = n := ⟨_, rfl⟩
  rw [ho, hm, hr, hn, hnl]
  rw [hn, hnl] at hT
  obtain ⟨w1, hw1⟩ : ∃ x, w.alloc (.cells #[.int .i64 o, .int .i64 m, .int .i64 r, .slice a n cap, .slice al nl cl] 29) = x := ⟨_, rfl⟩
  have hs1 : w1.heap.size = w.heap.size + 1 := by rw [← hw1]; simp
  have A1 : Below w.heap.size w w1 := by rw [← hw1]; exact (Below.refl _ w).alloc (Nat.le_refl _) _
  have C0 : w1.heap[w.heap.size]? = some (.cells #[.int .i64 o, .int .i64 m, .int .i64 r, .slice a n cap, .slice al nl cl] 29 (0, 0)) := by rw [← hw1]; exact heap_alloc_new w _
  have CF : Hid (∀ W, Tk.But E w1 W → W.cell? ⟨w.heap.size, 0, none⟩ = some (.int .i64 o) ∧ W.cell? ⟨w.heap.size, 1, none⟩ = some (.int .i64 m) ∧ W.cell? ⟨w.heap.size, 2, none⟩ = some (.int .i64 r) ∧ W.cell? ⟨w.heap.size, 3, none⟩ = some (.slice a n cap) ∧ W.cell? ⟨w.heap.size, 4, none⟩ = some (.slice al nl cl)) := fun W hb => by
    have e1 := (hb.block w.heap.size (by omega) (fun e => by have := hE _ e; omega)).trans C0
    exact ⟨by simp [World.cell?, e1], by simp [World.cell?, e1], by simp [World.cell?, e1], by simp [World.cell?, e1], by simp [World.cell?, e1]⟩
  have CW : Hid (∀ W, Below w1.heap.size w1 W → Calls Tryz.prog 23 #[.int .i64 1000, .int .i64 2147483647] W fun e w' => e = .returned (.agg #[.func (.func 43) #[] #[], .int .i64 1000, .int .i64 2147483647]) ∧ Hid (Below w1.heap.size w1 w')) := fun W hb =>
    (Tryz.bway_any 1000 2147483647 W).mono fun _ w' h => ⟨h.1, hb.trans (h.2.mono hb.size)⟩
  have CT : Hid (∀ W, Below w1.heap.size w1 W → Calls Tryz.prog 35 #[.agg #[.func (.func 43) #[] #[], .int .i64 1000, .int .i64 2147483647], .agg #[.int .i64 o, .int .i64 m, .int .i64 r, .slice a n cap, .slice al nl cl], .func (.func g) #[] lb] W fun e w' =>
      e = .returned (.bool (T.go step s).1) ∧ Hid (Tk.But E w1 w' ∧ Inv (T.go step s).2 w' ∧ Tk.But E w w')) := fun W hb => by
    have hS' := hS W.heap.size (by have := hb.size; omega)
    have hbw : Below w.heap.size w W := A1.trans (hb.mono (by omega))
    have h := Tryz.bnestGo_any d 1000 2147483647 s T (.slice a n cap) (.slice al nl cl) W hS' (hT.below (hbw.mono hBs)) hB (by have := hbw.size; omega) (hS'.keeps s w W hI (Tk.But.of_below hbw)) (fun k hk => by have := hE k hk; have := hbw.size; omega) (by omega) (by omega) hdp hsz hlk
    rw [ho, hm, hr] at h
    refine h.mono ?_
    rintro e w' ⟨he, hi, hbt⟩
    have h1 : Tk.But E w w' := (Tk.But.of_below hbw).trans hbt
    have h2 : Tk.But E w1 w' := (Tk.But.of_below hb).trans hbt
    exact ⟨he, h2, hi, h1⟩
  obtain ⟨b, hb0⟩ : ∃ q, (T.go step s).1 = q := ⟨_, rfl⟩
  obtain ⟨s2, hs2⟩ : ∃ q, (T.go step s).2 = q := ⟨_, rfl⟩
  rw [hb0, hs2] at CT ⊢
  have H1 : Hid (w.alloc (.cells #[.int .i64 o, .int .i64 m, .int .i64 r, .slice a n cap, .slice al nl cl] 29) = w1) := hw1
  have BR : Hid (Below w1.heap.size w1 w1) := Below.refl _ _
  clear A1 hT hI ho hm hr hn hnl hw1 hS hE C0 hs1 hb0 hs2
  go_enter Tryz.func19, Tryz.ntmps19
  go_upto_region 1 with fail
  rw [H1.out]
  go_region_held3 (fun W => W.cell? ⟨w.heap.size, 0, none⟩ = some (.int .i64 o) ∧ W.cell? ⟨w.heap.size, 1, none⟩ = some (.int .i64 m) ∧ W.cell? ⟨w.heap.size, 2, none⟩ = some (.int .i64 r) ∧ W.cell? ⟨w.heap.size, 3, none⟩ = some (.slice a n cap) ∧ W.cell? ⟨w.heap.size, 4, none⟩ = some (.slice al nl cl))
    (first | exact CF.out _ H4.out.1 | exact CF.out _ (Tk.But.of_below B3.out) | exact CF.out _ (Tk.But.of_below BR.out.drew) | exact CF.out _ (Tk.But.of_below BR.out))
    (first
    | (go_simp; go_at_call 23; refine Calls.mono (CW.out _ ?_) ?_; (first | exact BR.out | exact BR.out.drew | exact Tk.below_drewN BR.out _); rintro e W3 ⟨rfl, B3⟩)
    | (go_simp; go_at_call 35; refine Calls.mono (CT.out _ ?_) ?_; (first | exact B3.out | exact B3.out.drew | exact Tk.below_drewN B3.out _); rintro e W4 ⟨rfl, H4⟩))
  all_goals
    clear CW CT BR CF
    go_simp
    go_wp2
    go_ret
    exact ⟨rfl, H4.out.2⟩

end Go.Proofs
