/-
  Going through a term (nest.Way's through, at terms), whatever is handed on, as long as it answers true: one contract over what it is handed.
-/
import Derived.Test.YtiedlccnlkhnkaaDoorTForm
import Derived.Shelf.Abstract
import Derived.Deep.DeepCutAuto
import Derived.Deep.RegionLaw
namespace Go.Proofs
open Go.RowKit Go.Shelf

/-- The way in block b: what it goes by, and how many things are left. -/
def Tk.Wy (b : Nat) (lv k : Nat) (w : World) : Prop := w.heap[b]? = some (.cells #[.func (.func 97) #[] #[], .int .i64 lv, .int .i64 k] 126 (0, 0))
/-- A truth in block b. -/
def Tk.Rt (b : Nat) (r : Bool) (w : World) : Prop := w.heap[b]? = some (.cells #[.bool r] 4 (0, 0))
theorem Tk.Wy.lt {b lv k : Nat} {w : World} (h : Tk.Wy b lv k w) : b < w.heap.size := (Array.getElem?_eq_some_iff.1 h).1
theorem Tk.Wy.c0 {b lv k : Nat} {w : World} (h : Tk.Wy b lv k w) : w.cell? ⟨b, 0, none⟩ = some (.func (.func 97) #[] #[]) := by simp only [Tk.Wy] at h; simp [World.cell?, h]
theorem Tk.Wy.c2 {b lv k : Nat} {w : World} (h : Tk.Wy b lv k w) : w.cell? ⟨b, 2, none⟩ = some (.int .i64 k) := by simp only [Tk.Wy] at h; simp [World.cell?, h]
theorem Tk.Wy.f2 {b lv k : Nat} {w : World} (h : Tk.Wy b lv k w) : w.frozen? ⟨b, 2, none⟩ = false := by simp only [Tk.Wy] at h; simp [World.frozen?, h]
theorem Tk.Wy.put {b lv k : Nat} {w : World} (h : Tk.Wy b lv k w) (k' : Nat) : Tk.Wy b lv k' (w.setCell ⟨b, 2, none⟩ (.int .i64 k')) := by
  unfold Tk.Wy at *
  simp [World.setCell, Array.getElem?_modify, h]
theorem Tk.Wy.keep {b lv k : Nat} {w w' : World} (h : Tk.Wy b lv k w) (hk : w'.heap[b]? = w.heap[b]?) : Tk.Wy b lv k w' := by unfold Tk.Wy; rw [hk]; exact h
theorem Tk.Rt.c0 {b : Nat} {r : Bool} {w : World} (h : Tk.Rt b r w) : w.cell? ⟨b, 0, none⟩ = some (.bool r) := by simp only [Tk.Rt] at h; simp [World.cell?, h]
theorem Tk.Rt.f0 {b : Nat} {r : Bool} {w : World} (h : Tk.Rt b r w) : w.frozen? ⟨b, 0, none⟩ = false := by simp only [Tk.Rt] at h; simp [World.frozen?, h]
theorem Tk.Rt.lt {b : Nat} {r : Bool} {w : World} (h : Tk.Rt b r w) : b < w.heap.size := (Array.getElem?_eq_some_iff.1 h).1
theorem Tk.Rt.put {b : Nat} {r : Bool} {w : World} (h : Tk.Rt b r w) (r' : Bool) : Tk.Rt b r' (w.setCell ⟨b, 0, none⟩ (.bool r')) := by
  unfold Tk.Rt at *
  simp [World.setCell, Array.getElem?_modify, h]
theorem Tk.Rt.keep {b : Nat} {r : Bool} {w w' : World} (h : Tk.Rt b r w) (hk : w'.heap[b]? = w.heap[b]?) : Tk.Rt b r w' := by unfold Tk.Rt; rw [hk]; exact h

set_option maxHeartbeats 800000 in
theorem Tryd.wenter_no (b : Nat) (w : World) :
    Calls Tryd.prog 98 #[.pointer (some ⟨b, 0, none⟩), .int .i64 0] w fun e w' => e = .returned (.bool false) ∧ w' = w := by
  go_enter Tryd.func98, Tryd.ntmps98
  go_wp2
  go_ret
  exact ⟨rfl, rfl⟩

set_option maxHeartbeats 800000 in
theorem Tryd.wenter_yes (b lv k L : Nat) (w : World) (h : Tk.Wy b lv (k + 1) w) (hk : k ≤ 2147483647) :
    Calls Tryd.prog 98 #[.pointer (some ⟨b, 0, none⟩), .int .i64 ((L : Int) + 1)] w fun e w' => e = .returned (.bool true) ∧ w' = w.setCell ⟨b, 2, none⟩ (.int .i64 k) := by
  have c2 := h.c2
  have f2 := h.f2
  have e1 : decide (((L : Int) + 1) ≤ 0) = false := decide_eq_false (by omega)
  have e2 : decide (((k + 1 : Nat) : Int) ≤ 0) = false := decide_eq_false (by omega)
  have e3 : ((k + 1 : Nat) : Int) - 1 = k := by omega
  go_enter Tryd.func98, Tryd.ntmps98
  go_wp2
  go_ret
  exact ⟨rfl, rfl⟩

set_option maxHeartbeats 800000 in
theorem Tryd.kidsOf_any (op n : Int) (a : Option Addr) (len c : Nat) (w : World) :
    Calls Tryd.prog 97 #[.agg #[.int .i64 op, .int .i64 n, .slice a len c]] w fun e w' => e = .returned (.slice a len c) ∧ Below w.heap.size w w' := by
  have B0 : Hid (Below w.heap.size w (w.alloc (.cells #[.int .i64 op, .int .i64 n, .slice a len c] 32))) := (Below.refl _ w).alloc (Nat.le_refl _) _
  go_enter Tryd.func97, Tryd.ntmps97
  go_wp2
  go_ret
  exact ⟨rfl, B0.out⟩

mutual
/-- What a step comes to over a term, then over all in it. -/
def Tm.foldT {σ : Type} (step : σ → Int → Int → Nat → σ) : σ → Tm → σ | s, .mk o n ks => Tm.foldL step (step s o n ks.length) ks
def Tm.foldL {σ : Type} (step : σ → Int → Int → Nat → σ) : σ → List Tm → σ | s, [] => s | s, k :: r => Tm.foldL step (Tm.foldT step s k) r
end
theorem Tm.foldT_eq {σ : Type} (step : σ → Int → Int → Nat → σ) (s : σ) (T : Tm) : Tm.foldT step s T = Tm.foldL step (step s T.op T.num T.ks.length) T.ks := by cases T; simp only [Tm.foldT, Tm.op, Tm.num, Tm.ks]
theorem Tm.foldL_snoc {σ : Type} (step : σ → Int → Int → Nat → σ) : ∀ (s : σ) (l : List Tm) (a : Tm), Tm.foldL step s (l ++ [a]) = Tm.foldT step (Tm.foldL step s l) a
  | _, [], _ => by simp only [List.nil_append, Tm.foldL]
  | s, k :: r, a => by
    rw [List.cons_append, Tm.foldL, Tm.foldL]
    exact Tm.foldL_snoc step _ r a

mutual
/-- Does it hold of each state on the way through a term? -/
def Tm.okT {σ : Type} (ok : σ → Int → Int → Nat → Prop) (step : σ → Int → Int → Nat → σ) : σ → Tm → Prop | s, .mk o n ks => ok s o n ks.length ∧ Tm.okL ok step (step s o n ks.length) ks
def Tm.okL {σ : Type} (ok : σ → Int → Int → Nat → Prop) (step : σ → Int → Int → Nat → σ) : σ → List Tm → Prop | _, [] => True | s, k :: r => Tm.okT ok step s k ∧ Tm.okL ok step (Tm.foldT step s k) r
end
theorem Tm.okT_eq {σ : Type} (ok : σ → Int → Int → Nat → Prop) (step : σ → Int → Int → Nat → σ) (s : σ) (T : Tm) : Tm.okT ok step s T ↔ ok s T.op T.num T.ks.length ∧ Tm.okL ok step (step s T.op T.num T.ks.length) T.ks := by cases T; simp only [Tm.okT, Tm.op, Tm.num, Tm.ks]
theorem Tm.okL_get {σ : Type} (ok : σ → Int → Int → Nat → Prop) (step : σ → Int → Int → Nat → σ) : ∀ (s : σ) (l : List Tm), Tm.okL ok step s l → ∀ (j : Nat) (h : j < l.length), Tm.okT ok step (Tm.foldL step s (l.take j)) l[j]
  | _, [], _, j, h => by simp at h
  | s, k :: r, ho, 0, _ => by
    rw [Tm.okL] at ho
    simpa [Tm.foldL] using ho.1
  | s, k :: r, ho, j + 1, h => by
    rw [Tm.okL] at ho
    have := Tm.okL_get ok step _ r ho.2 j (by simpa using h)
    simpa [Tm.foldL] using this
mutual
theorem Tm.okT_all {σ : Type} {ok : σ → Int → Int → Nat → Prop} {step : σ → Int → Int → Nat → σ} (h : ∀ s o n l, ok s o n l) : ∀ (s : σ) (T : Tm), Tm.okT ok step s T
  | s, .mk o n ks => by rw [Tm.okT]; exact ⟨h s _ _ _, Tm.okL_all h _ ks⟩
theorem Tm.okL_all {σ : Type} {ok : σ → Int → Int → Nat → Prop} {step : σ → Int → Int → Nat → σ} (h : ∀ s o n l, ok s o n l) : ∀ (s : σ) (l : List Tm), Tm.okL ok step s l
  | s, [] => by rw [Tm.okL]; trivial
  | s, k :: r => by rw [Tm.okL]; exact ⟨Tm.okT_all h s k, Tm.okL_all h _ r⟩
end

/-- What is asked of what is handed on: in a world that holds the state s it answers true, and holds the next state; it writes blocks of E alone. -/
structure Tk.Shown {σ : Type} (ok : σ → Int → Int → Nat → Prop) (g : Nat) (lb : Array Value) (Inv : σ → World → Prop) (step : σ → Int → Int → Nat → σ) (E : Nat → Prop) (B bw : Nat) : Prop where
  enters : ∀ args w, (callFunc g args).run Tryd.prog w = .ok (.enter g args) w
  calls : ∀ (s : σ) (W : World) (op n : Int) (a : Option Addr) (len c : Nat), ok s op n len → Inv s W → Calls Tryd.prog g (#[.agg #[.int .i64 op, .int .i64 n, .slice a len c]] ++ lb) W fun e w' => e = .returned (.bool true) ∧ Inv (step s op n len) w' ∧ Tk.But E W w'
  keeps : ∀ (s : σ) (W W' : World), Inv s W → Tk.But (fun k => k = bw) W W' → Inv s W'
  above : ∀ k, E k → B ≤ k
  not_bw : ¬ E bw

/-- What through comes to. -/
def Tk.ThruEnd {σ : Type} (Inv : σ → World → Prop) (step : σ → Int → Int → Nat → σ) (E : Nat → Prop) (T : Tm) (L lv left : Nat) (s : σ) (bw : Nat) (w : World) (e : Ending) (w' : World) : Prop :=
  Tk.But (fun k => k = bw ∨ E k) w w' ∧ ((T.depth ≤ L ∧ e = .returned (.bool true) ∧ Tk.Wy bw lv (left - T.size) w' ∧ Inv (Tm.foldT step s T) w') ∨ (L < T.depth ∧ e = .returned (.bool false)))

set_option maxRecDepth 20000 in
set_option maxHeartbeats 8000000 in
theorem Tryd.thru_any {σ : Type} {ok : σ → Int → Int → Nat → Prop} {g : Nat} {lb : Array Value} {Inv : σ → World → Prop} {step : σ → Int → Int → Nat → σ} {E : Nat → Prop} {B bw : Nat} (hS : Tk.Shown ok g lb Inv step E B bw) (lv : Nat) : ∀ (d L : Nat) (T : Tm) (v : Value) (left : Nat) (s : σ) (w : World), Tm.Lies w B d v T → 0 < B → B ≤ bw → B ≤ w.heap.size → Tk.Wy bw lv left w → Inv s w → (∀ k, E k → k < w.heap.size) → T.size ≤ left → left ≤ 2147483647 → L ≤ 1000 → Tm.okT ok step s T →
    Calls Tryd.prog 96 #[.pointer (some ⟨bw, 0, none⟩), .agg #[.int .i64 T.op, .int .i64 T.num, v], .int .i64 L, .func (.func g) #[] lb] w (Tk.ThruEnd Inv step E T L lv left s bw w) := by
  intro d
  induction d with
  | zero => intro L T v left s w h; exact h.elim
  | succ d ih =>
    intro L T v left s w hT hB hbw hBs hW hI hEw hsz hleft hL hok
    obtain ⟨a, cap, rfl⟩ := hT.shape
    obtain ⟨o, ho⟩ : ∃ o, T.op = o := ⟨_, rfl⟩
    obtain ⟨m, hm⟩ : ∃ m, T.num = m := ⟨_, rfl⟩
    obtain ⟨n, hn⟩ : ∃ n, T.ks.length = n := ⟨_, rfl⟩
    rw [ho, hm, hn]
    rw [hn] at hT
    cases L with
    | zero =>
      go_enter Tryd.func96, Tryd.ntmps96
      go_wp2_with fail
      refine (Tryd.wenter_no bw _).mono ?_
      rintro e W1 ⟨rfl, rfl⟩
      go_wp2
      go_ret
      exact ⟨Tk.But.of_below ((Below.refl _ w).alloc (Nat.le_refl _) _), .inr ⟨by rw [T.depth_eq]; omega, rfl⟩⟩
    | succ L =>
      obtain ⟨k, rfl⟩ : ∃ k, left = k + 1 := ⟨left - 1, by have := T.size_pos; omega⟩
      have A0 : Hid (Below w.heap.size w (w.alloc (.cells #[.int .i64 o, .int .i64 m, .slice a n cap] 32))) := (Below.refl _ w).alloc (Nat.le_refl _) _
      have W0 : Tk.Wy bw lv (k + 1) (w.alloc (.cells #[.int .i64 o, .int .i64 m, .slice a n cap] 32)) := hW.keep (A0.out.block bw hW.lt)
      have HT : Hid (Tm.Lies w B (d + 1) (.slice a n cap) T) := hT
      have HW : Hid (Tk.Wy bw lv (k + 1) w) := hW
      have HV : Hid (Inv s w) := hI
      have HM : Hid (T.op = o ∧ T.num = m ∧ T.ks.length = n) := ⟨ho, hm, hn⟩
      have HN : Hid (0 < B ∧ B ≤ bw ∧ B ≤ w.heap.size ∧ T.size ≤ k + 1 ∧ k + 1 ≤ 2147483647 ∧ L + 1 ≤ 1000 ∧ (∀ k, E k → k < w.heap.size)) := ⟨hB, hbw, hBs, hsz, hleft, hL, hEw⟩
      have HI : Hid _ := ih
      have HS : Hid (Tk.Shown ok g lb Inv step E B bw) := hS
      have HOK : Hid (ok s o m n ∧ Tm.okL ok step (step s o m n) T.ks) := by
        have h := (Tm.okT_eq ok step s T).1 hok
        rw [ho, hm, hn] at h
        exact h
      have eg := hS.enters
      have hLb : L ≤ 1000 := by omega
      have hnb : n ≤ 2147483647 := by have h1 := Tm.length_le_sizes T.ks; have h2 := T.size_eq; omega
      clear ih hT hW hI ho hm hn hB hbw hBs hsz hleft hL hEw hS hok
      go_enter Tryd.func96, Tryd.ntmps96
      have hu := Tryd.underlying32
      go_wp2_with fail
      refine (Tryd.wenter_yes bw lv k L _ W0 (by have := HN.out; omega)).mono ?_
      rintro e W1 ⟨rfl, hw1⟩
      have X1 : Hid (Tk.But (fun k => k = bw) w W1) := by
        show Tk.But _ _ _
        rw [hw1]
        exact (Tk.But.of_below A0.out).setCell (E := fun k => k = bw) (p := ⟨bw, 2, none⟩) rfl _
      have W1k : Hid (Tk.Wy bw lv k W1) := by show Tk.Wy _ _ _ _; rw [hw1]; exact W0.put k
      have hbx : W1.heap[w.heap.size]? = some (.cells #[.int .i64 o, .int .i64 m, .slice a n cap] 32 (0, 0)) := by
        rw [hw1, Below.heap_setCell _ _ _ _ (by have := HW.out.lt; show w.heap.size ≠ bw; omega)]
        exact heap_alloc_new w _
      have V1 : Hid (Inv s W1) := HS.out.keeps s w W1 HV.out X1.out
      clear W0 hw1
      have hcall := HS.out.calls s W1 o m a n cap HOK.out.1 V1.out
      have p0 : W1.cell? ⟨w.heap.size, 0, none⟩ = some (.int .i64 o) := by simp [World.cell?, hbx]
      have p1 : W1.cell? ⟨w.heap.size, 1, none⟩ = some (.int .i64 m) := by simp [World.cell?, hbx]
      have p2 : W1.cell? ⟨w.heap.size, 2, none⟩ = some (.slice a n cap) := by simp [World.cell?, hbx]
      go_wp2_with (first | (go_at_fn g; refine hcall.mono ?_; rintro e W2 ⟨rfl, hV2, hb2⟩) | fail)
      have X2 : Hid (Tk.But (fun k => k = bw ∨ E k) w W2) := ⟨hb2.os.trans X1.out.os, hb2.tape.trans X1.out.tape, hb2.output.trans X1.out.output, Nat.le_trans X1.out.size hb2.size, fun i hi he => by
        rw [hb2.block i (Nat.lt_of_lt_of_le hi X1.out.size) (fun e => he (.inr e))]
        exact X1.out.block i hi (fun e => he (.inl e))⟩
      have W2k : Tk.Wy bw lv k W2 := W1k.out.keep (hb2.block bw W1k.out.lt HS.out.not_bw)
      have V2 : Hid (Inv (step s o m n) W2) := hV2
      have h2 : W2.heap[w.heap.size]? = some (.cells #[.int .i64 o, .int .i64 m, .slice a n cap] 32 (0, 0)) := by
        rw [hb2.block _ (Array.getElem?_eq_some_iff.1 hbx).1 (by intro e; have := HN.out.2.2.2.2.2.2 _ e; omega)]
        exact hbx
      have q0 : W2.cell? ⟨w.heap.size, 0, none⟩ = some (.int .i64 o) := by simp [World.cell?, h2]
      have q1 : W2.cell? ⟨w.heap.size, 1, none⟩ = some (.int .i64 m) := by simp [World.cell?, h2]
      have q2 : W2.cell? ⟨w.heap.size, 2, none⟩ = some (.slice a n cap) := by simp [World.cell?, h2]
      have qk := W2k.c0
      have HWK : Hid (Tk.Wy bw lv k W2) := W2k
      have CK : Hid (∀ W, Below W2.heap.size W2 W → Calls Tryd.prog 97 #[.agg #[.int .i64 o, .int .i64 m, .slice a n cap]] W fun e w' => e = .returned (.slice a n cap) ∧ Hid (Below W2.heap.size W2 w')) := fun W hb =>
        (Tryd.kidsOf_any o m a n cap W).mono fun _ _ h => ⟨h.1, hb.trans (h.2.mono hb.size)⟩
      have BR : Hid (Below W2.heap.size W2 W2) := Below.refl _ _
      have ST : Hid (∀ W, Below W2.heap.size W2 W → Tk.But (fun k => k = bw ∨ E k) w W ∧ Tk.Wy bw lv k W ∧ Inv (step s o m n) W) := fun W hb =>
        ⟨X2.out.trans (Tk.But.of_below hb), HWK.out.keep (hb.block bw HWK.out.lt), HS.out.keeps _ _ _ V2.out (Tk.But.of_below hb)⟩
      clear hbx hV2 hb2 h2 X1 W1k V1 p0 p1 p2 hcall W2k
      go_region_law (first
        | (go_simp; go_at_call 97; refine Calls.mono (CK.out _ ?_) ?_; (first | exact BR.out | exact BR.out.drew); rintro e W3 ⟨rfl, B3⟩)
        | (go_simp; go_at_fn 97; refine Calls.mono (CK.out _ ?_) ?_; (first | exact BR.out | exact BR.out.drew); rintro e W3 ⟨rfl, B3⟩)
        | fail)
      all_goals
        have HB3 : Hid (Below W2.heap.size W2 W3) := B3
        clear q0 q1 q2 qk CK BR X2 V2 HWK eg
        go_simp
        go_wp2
        go_loopg [28] n (fun gk i wr => ∃ j : Nat, gk + j = n ∧ i = .int .i64 j ∧ Hid (Tk.But (fun k => k = bw ∨ E k) w wr ∧ Tk.Wy bw lv (k - Tm.sizes (T.ks.take j)) wr ∧ Inv (Tm.foldL step (step s o m n) (T.ks.take j)) wr ∧ Tm.depths (T.ks.take j) ≤ L))
        case atStart =>
          have h3 := ST.out _ (by first | exact HB3.out | exact HB3.out.drew)
          exact ⟨0, by omega, rfl, h3.1, by simpa [Tm.sizes] using h3.2.1, by simpa [Tm.foldL] using h3.2.2, by simp [Tm.depths]⟩
        case round =>
          obtain ⟨j, hj, rfl, HJ⟩ := hrel
          clear ST HB3
          by_cases hjn : j < n
          · have hd : decide ((j : Int) < n) = true := decide_eq_true (by omega)
            have hjk : j < T.ks.length := by rw [HM.out.2.2]; exact hjn
            obtain ⟨g', off, u, rfl, hg, q0, q1, q2, q3⟩ := HT.out.kid j hjk
            obtain ⟨x, hx⟩ : ∃ x, T.ks[j] = x := ⟨_, rfl⟩
            rw [hx] at q0 q1 q3
            obtain ⟨au, cu, rfl⟩ := q3.shape
            obtain ⟨nx, hnx⟩ : ∃ n, x.ks.length = n := ⟨_, rfl⟩
            rw [hnx] at q2 q3
            obtain ⟨y0, hy0⟩ : ∃ y, x.op = y := ⟨_, rfl⟩
            obtain ⟨y1, hy1⟩ : ∃ y, x.num = y := ⟨_, rfl⟩
            rw [hy0] at q0
            rw [hy1] at q1
            have hE : ∀ i, i < B → ¬ (i = bw ∨ E i) := fun i hi h => by
              rcases h with h | h
              · have := HN.out.2.1; omega
              · have := HS.out.above i h; omega
            have hc : ∀ p, wr.cell? ⟨g', p, none⟩ = w.cell? ⟨g', p, none⟩ := fun p => World.cell?_of_block (w := w) (HJ.out.1.block g' (by have := HN.out; omega) (hE g' hg))
            have hc0 : wr.cell? ⟨g', off + j * 3, none⟩ = some (.int .i64 y0) := by rw [hc]; exact q0
            have hc1 : wr.cell? ⟨g', off + j * 3 + 1, none⟩ = some (.int .i64 y1) := by rw [hc]; exact q1
            have hc2' : wr.cell? ⟨g', off + j * 3 + 2, none⟩ = some (.slice au nx cu) := by rw [hc]; exact q2
            have HY : Hid (T.ks[j] = x ∧ x.op = y0 ∧ x.num = y1) := ⟨hx, hy0, hy1⟩
            have HL : Hid (Tm.Lies w B d (.slice au nx cu) x) := q3
            clear hc q0 q1 q2 q3 hx hy0 hy1 hnx
            have BA : Hid (Tk.But (fun k => k = bw ∨ E k) w (wr.alloc (.cells #[.int .i64 y0, .int .i64 y1, .slice au nx cu] 32))) := HJ.out.1.alloc _
            have hcall := HI.out L x (.slice au nx cu) (k - Tm.sizes (T.ks.take j)) (Tm.foldL step (step s o m n) (T.ks.take j)) (wr.alloc (.cells #[.int .i64 y0, .int .i64 y1, .slice au nx cu] 32))
              (HL.out.keep fun i hi => BA.out.block i (by have := HN.out; omega) (hE i hi)) HN.out.1 HN.out.2.1 (by have := HN.out; have := BA.out.size; omega)
              (HJ.out.2.1.keep (Below.heap_alloc _ _ _ HJ.out.2.1.lt)) (HS.out.keeps _ _ _ HJ.out.2.2.1 ((Tk.But.refl _ _).alloc _)) (fun i hi => by have := HN.out.2.2.2.2.2.2 i hi; have := BA.out.size; omega)
              (by have h1 := Tm.sizes_get T.ks j hjk; rw [HY.out.1] at h1; have h2 := T.size_eq; have := HN.out; omega) (by have := HN.out; omega) (by have := HN.out; omega) (by have h := Tm.okL_get ok step _ T.ks HOK.out.2 j hjk; rw [HY.out.1] at h; exact h)
            rw [HY.out.2.1, HY.out.2.2] at hcall
            have HCL : Hid _ := hcall
            clear hcall
            go_wp2_with fail
            refine Calls.mono HCL.out ?_
            rintro e W4 ⟨hb3, ⟨hdp, rfl, hw3, hr3⟩ | ⟨hdp, rfl⟩⟩
            · have B3 : Hid (Tk.But (fun k => k = bw ∨ E k) w W4) := BA.out.trans hb3
              have H3 : Hid (Tk.Wy bw lv (k - Tm.sizes (T.ks.take j) - x.size) W4 ∧ Inv (Tm.foldT step (Tm.foldL step (step s o m n) (T.ks.take j)) x) W4 ∧ x.depth ≤ L) := ⟨hw3, hr3, hdp⟩
              clear hb3 hw3 hr3 hdp HCL
              go_wp2
              go_roundg (gk - 1)
              case measure => omega
              case rel =>
                refine ⟨j + 1, by omega, by go_num, B3.out, ?_, ?_, ?_⟩
                · rw [Tm.sizes_take _ _ hjk, HY.out.1, ← Nat.sub_sub]; exact H3.out.1
                · rw [Tm.take_snoc _ _ hjk, Tm.foldL_snoc, HY.out.1]; exact H3.out.2.1
                · rw [Tm.depths_take _ _ hjk, HY.out.1]; have := HJ.out.2.2.2; have := H3.out.2.2; omega
            · have B3 : Hid (Tk.But (fun k => k = bw ∨ E k) w W4) := BA.out.trans hb3
              have H3 : Hid (L < x.depth) := hdp
              clear hb3 hdp HCL
              go_wp2
              go_ret
              refine ⟨B3.out, .inr ⟨?_, rfl⟩⟩
              have h1 := Tm.depths_get T.ks j hjk
              rw [HY.out.1] at h1
              have := H3.out
              rw [T.depth_eq]
              omega
          · have hd : decide ((j : Int) < n) = false := decide_eq_false (by omega)
            go_wp2
            go_ret
            have hall : T.ks.take j = T.ks := List.take_of_length_le (by rw [HM.out.2.2]; omega)
            have HZ := HJ.out
            rw [hall] at HZ
            refine ⟨HZ.1, .inl ⟨by rw [T.depth_eq]; have := HZ.2.2.2; omega, rfl, ?_, ?_⟩⟩
            · rw [T.size_eq, show k + 1 - (Tm.sizes T.ks + 1) = k - Tm.sizes T.ks by omega]; exact HZ.2.1
            · rw [Tm.foldT_eq, HM.out.1, HM.out.2.1, HM.out.2.2]; exact HZ.2.2.1

end Go.Proofs
