/-
  The walk of NetAll: all places at which the first rule that is broken is, and no others.
-/
import Derived.Test.YtiedlccnlkhnkaaDoorNtRef6
import Derived.Test.YtiedlccnlkhnkaaDoorNtRef8
import Derived.Test.YtiedlccnlkhnkaaDoorNtLine
import Derived.Test.YtiedlccnlkhnkaaDoorNtLarge
namespace Go.Proofs.YtiedlccnlkhnkaaDoor.NetAll
open Go.RowKit Go.Shelf

/-- How many of them are ahead of a place. -/
def ahead (l : List Nat) (i : Nat) : Nat := (l.filter fun x => decide (x < i)).length
theorem ahead_at : ∀ {l : List Nat}, l.Pairwise (· < ·) → ∀ i, (l[ahead l i]? = some i ↔ i ∈ l) ∧ ahead l (i + 1) = ahead l i + if i ∈ l then 1 else 0
  | [], _, i => by simp [ahead]
  | x :: t, h, i => by
    obtain ⟨hx, ht⟩ := List.pairwise_cons.1 h
    obtain ⟨i1, i2⟩ := ahead_at ht i
    by_cases h1 : x < i
    · have e1 : ahead (x :: t) i = ahead t i + 1 := by simp [ahead, h1]
      have e2 : ahead (x :: t) (i + 1) = ahead t (i + 1) + 1 := by simp [ahead, show x < i + 1 by omega]
      have e3 : (i ∈ x :: t) = (i ∈ t) := by
        rw [List.mem_cons, eq_iff_iff]
        exact ⟨fun h => h.resolve_left (by omega), .inr⟩
      refine ⟨?_, ?_⟩
      · rw [e1, List.getElem?_cons_succ, e3]; exact i1
      · rw [e1, e2, i2]; simp only [e3]; omega
    · have hall : ∀ y, y ∈ t → ¬ y < i := fun y hy => by have := hx y hy; omega
      have e1 : ahead (x :: t) i = 0 := by
        unfold ahead
        rw [List.length_eq_zero_iff, List.filter_eq_nil_iff]
        intro y hy
        rcases List.mem_cons.1 hy with rfl | hy
        · simpa using h1
        · simpa using hall y hy
      have hm : i ∈ t → x < i := fun hy => hx i hy
      by_cases h2 : x = i
      · subst h2
        have e2 : ahead (x :: t) (x + 1) = 1 := by
          unfold ahead
          have e0 : (t.filter fun y => decide (y < x + 1)) = [] := by
            rw [List.filter_eq_nil_iff]
            intro y hy
            have := hx y hy
            simp
            omega
          rw [List.filter_cons_of_pos (by simp), e0]
          rfl
        rw [e1, e2]
        simp
      · have e2 : ahead (x :: t) (i + 1) = 0 := by
          unfold ahead
          rw [List.length_eq_zero_iff, List.filter_eq_nil_iff]
          intro y hy
          rcases List.mem_cons.1 hy with rfl | hy
          · simp; omega
          · have := hx y hy; simp; omega
        have e3 : i ∉ x :: t := by
          rw [List.mem_cons]
          rintro (h | h)
          · exact h2 h.symm
          · exact h1 (hm h)
        rw [e1, e2]
        refine ⟨⟨fun h => ?_, fun h => absurd h e3⟩, by simp [e3]⟩
        simp at h
        exact absurd h h2
theorem ahead_all {l : List Nat} {M : Nat} (h : ∀ x, x ∈ l → x ≤ M) : ahead l (M + 1) = l.length := by
  unfold ahead
  rw [List.filter_eq_self.2]
  intro x hx
  have := h x hx
  simp
  omega
theorem range_sorted (n : Nat) (p : Nat → Bool) : ((List.range n).filter p).Pairwise (· < ·) := List.Pairwise.filter _ List.pairwise_lt_range
/-- What is told of the places: they rise, and lie within the nodes and the flows. -/
theorem broken_form (ns : List Nd) (fs : List Fl) : (Nt.broken ns fs).2.Pairwise (· < ·) ∧ (∀ x, x ∈ (Nt.broken ns fs).2 → x ≤ max ns.length fs.length) := by
  have hr : ∀ (n : Nat) (p : Nat → Bool) x, x ∈ (List.range n).filter p → x < n := fun n p x hx => List.mem_range.1 (List.mem_filter.1 hx).1
  unfold Nt.broken
  split
  · unfold Nt.wrong1
    split
    · exact ⟨by simp, fun x hx => by simp at hx; omega⟩
    · exact ⟨range_sorted _ _, fun x hx => by have := hr _ _ x hx; omega⟩
  · split
    · exact ⟨range_sorted _ _, fun x hx => by have := hr _ _ x hx; omega⟩
    · split
      · unfold Nt.wrong3
        split
        · refine ⟨List.pairwise_append.2 ⟨range_sorted _ _, by simp, fun a ha b hb => ?_⟩, fun x hx => ?_⟩
          · have := hr _ _ a ha
            simp at hb
            omega
          · rcases List.mem_append.1 hx with hx | hx
            · have := hr _ _ x hx; omega
            · simp at hx; omega
        · rw [List.append_nil]
          exact ⟨range_sorted _ _, fun x hx => by have := hr _ _ x hx; omega⟩
      · split
        · exact ⟨range_sorted _ _, fun x hx => by have := hr _ _ x hx; omega⟩
        · exact ⟨by simp, fun x hx => by simp at hx⟩
/-- The document's Is at each place, of the rule that is broken. -/
theorem is_any (k : Nat) (an : Option Addr) (cn : Nat) (af : Option Addr) (cf d : Nat) (ns : List Nd) (fs : List Fl) (w : World) (hH : Nt.Has w w.heap.size d an af ns fs) (hk : k ≤ 1000) (h0 : (Nt.broken ns fs).1 ≠ 0) :
    Calls Tryd.prog 14 #[.agg #[.slice an ns.length cn, .slice af fs.length cf], .int .i64 ((Nt.broken ns fs).1 : Nat), .int .i64 k] w fun e w' => e = .returned (.bool (decide (k ∈ (Nt.broken ns fs).2))) ∧ Below w.heap.size w w' := by
  unfold Nt.broken at h0 ⊢
  split
  · exact Tryd.rIs1_any k an cn af cf d ns fs w hH hk
  · next h1 =>
    split
    · exact Tryd.rIs2_any k an cn af cf d ns fs w hH hk
    · next h2 =>
      have k1 := Nt.one_keeps (ns := ns) (fs := fs) (by simpa using h1)
      have k2 : ∀ f, f ∈ fs → 0 ≤ f.fr ∧ f.fr < ns.length ∧ 0 ≤ f.to ∧ f.to < ns.length := fun f hf => by
        have := Nt.two_keeps (ns := ns) (fs := fs) (by simpa using h2) f hf
        exact ⟨this.1, this.2.1, this.2.2.1, this.2.2.2.1⟩
      split
      · exact Tryd.rIs3_any k an cn af cf d ns fs w hH (fun f hf => (k2 f hf).2.2) hk
      · next h3 =>
        have k3 := Nt.three_keeps (ns := ns) (fs := fs) (by simpa using h3)
        split
        · exact Tryd.rIs4_any k an cn af cf d ns fs w hH k1.1 k2 k3 hk
        · next h4 =>
          rw [if_neg h1, if_neg h2, if_neg h3, if_neg h4] at h0
          exact absurd rfl h0

set_option maxRecDepth 20000 in
set_option maxHeartbeats 16000000 in
theorem walk (an : Option Addr) (cn : Nat) (af : Option Addr) (cf : Nat) (ns : List Nd) (fs : List Fl) (d : Nat) (w : World) (hN : Nt.Nds w w.heap.size d an ns) (hF : Nt.Fls w w.heap.size d af fs) (hO : Tk.Ops w) :
    Calls Tryd.prog 4 #[.agg #[.slice an ns.length cn, .slice af fs.length cf]] w fun e w' => e = .returned (.bool true) ∧ Below w.heap.size w w' := by
  obtain ⟨w0, hw0⟩ : ∃ x, w.alloc (.cells #[.slice an ns.length cn, .slice af fs.length cf] 25) = x := ⟨_, rfl⟩
  have A0 : Below w.heap.size w w0 := by rw [← hw0]; exact (Below.refl _ w).alloc (Nat.le_refl _) _
  have G0 : w0.heap[w.heap.size]? = some (.cells #[.slice an ns.length cn, .slice af fs.length cf] 25 (0, 0)) := by rw [← hw0]; exact heap_alloc_new w _
  have hlg := Tryd.nlarge_any an cn af cf d ns fs w0 ((hN.below A0).wider A0.size) ((hF.below A0).wider A0.size)
  have HLN : Hid (∀ W, Below w.heap.size w W → Calls Tryd.prog 9 #[] W fun e w' => e = .returned (.bool true) ∧ Hid (Below w.heap.size w w')) := fun W hb => (Tryd.line_any W (hO.below hb hO.lt)).mono fun e w' h => ⟨h.1, hb.trans (h.2.mono hb.size)⟩
  obtain ⟨n, hnn⟩ : ∃ n, ns.length = n := ⟨_, rfl⟩
  obtain ⟨m, hmm⟩ : ∃ n, fs.length = n := ⟨_, rfl⟩
  have HBX : Hid (∀ W, Below w0.heap.size w0 W → W.cell? ⟨w.heap.size, 0, none⟩ = some (.slice an n cn) ∧ W.cell? ⟨w.heap.size, 1, none⟩ = some (.slice af m cf)) := fun W hb => by
    have := Nt.box2 ((hb.block _ (Nt.lt_of G0)).trans G0)
    rw [hnn, hmm] at this
    exact this
  have HNF : Hid (Nt.Nds w w.heap.size d an ns ∧ Nt.Fls w w.heap.size d af fs ∧ Tk.Ops w ∧ ns.length = n ∧ fs.length = m) := ⟨hN, hF, hO, hnn, hmm⟩
  rw [hnn, hmm] at hlg hw0 ⊢
  have HL : Hid _ := hlg
  have H0 : Hid (w.alloc (.cells #[.slice an n cn, .slice af m cf] 25) = w0) := hw0
  have HA : Hid (Below w.heap.size w w0) := A0
  clear hlg hw0 A0 G0 hN hF hO hnn hmm
  go_enter Tryd.func4, Tryd.ntmps4
  go_wp2_with fail
  rw [H0.out]
  refine Calls.mono HL.out ?_
  rintro e W1 ⟨hb1, rfl | ⟨rfl, hn60, hm100, hnz, hfz⟩⟩
  · have B1 : Hid (Below w.heap.size w W1) := HA.out.trans (hb1.mono HA.out.size)
    clear hb1 HL H0
    go_wp2_with fail
    refine Calls.mono (HLN.out W1 B1.out) ?_
    rintro e W2 ⟨rfl, B2⟩
    clear HLN
    go_wp2
    go_ret
    exact ⟨rfl, B2.out⟩
  have B1 : Hid (Below w0.heap.size w0 W1) := hb1
  have HS : Hid (∀ W, Below w0.heap.size w0 W → Nt.Has W W.heap.size d an af ns fs ∧ Tk.Ops W ∧ Below w.heap.size w W) := fun W hb => by
    have hbw : Below w.heap.size w W := HA.out.trans (hb.mono HA.out.size)
    refine ⟨⟨(HNF.out.1.below hbw).wider hbw.size, (HNF.out.2.1.below hbw).wider hbw.size, by omega, by omega, fun x hx => by have := hnz x hx; omega, fun x hx => by have := hfz x hx; omega⟩, HNF.out.2.2.1.below hbw HNF.out.2.2.1.lt, hbw⟩
  have hn' : n ≤ 60 := by rw [← HNF.out.2.2.2.1]; exact hn60
  have hm' : m ≤ 100 := by rw [← HNF.out.2.2.2.2]; exact hm100
  clear hb1 HL H0 hn60 hm100 hnz hfz
  obtain ⟨p, hp⟩ : ∃ p, Nt.broken ns fs = p := ⟨_, rfl⟩
  have hck : Nt.checkN ns fs = (p.1, p.2.headD 0) := by rw [← hp]; rfl
  have CA : Hid (∀ W, Below w0.heap.size w0 W → Calls Tryd.prog 12 #[.agg #[.slice an n cn, .slice af m cf]] W fun e w' => Nt.AllGives p W e w') := fun W hb => by
    have h := Tryd.nAll_any an cn af cf d ns fs W (HS.out W hb).1 (HS.out W hb).2.1
    rw [HNF.out.2.2.2.1, HNF.out.2.2.2.2, hp] at h
    exact h
  have hz : p.2 = [] → p.1 = 0 := by rw [← hp]; exact Nt.broken_zero
  have hz2 : p.1 = 0 → p.2 = [] := by
    rw [← hp]
    intro h
    have h2 := h
    unfold Nt.broken at h2 ⊢
    split at h2
    · simp at h2
    · next h1 =>
      split at h2
      · simp at h2
      · next h2' =>
        split at h2
        · simp at h2
        · next h3 =>
          split at h2
          · simp at h2
          · next h4 => rw [if_neg h1, if_neg h2', if_neg h3, if_neg h4]
  have hform := broken_form ns fs
  rw [hp] at hform
  obtain ⟨r, l⟩ := p
  have CR : Hid (∀ W, Below w0.heap.size w0 W → Calls Tryd.prog 13 #[.agg #[.slice an n cn, .slice af m cf]] W fun e w' => e = .returned (.agg #[.int .i64 (r : Int), .int .i64 (l.headD 0 : Nat)]) ∧ Hid (Below W.heap.size W w')) := fun W hb => by
    have h := Tryd.rCheck_any an cn af cf d ns fs W (HS.out W hb).1
    rw [HNF.out.2.2.2.1, HNF.out.2.2.2.2, hck] at h
    exact h
  have CI : Hid (∀ (k : Nat) (W : World), k ≤ 1000 → r ≠ 0 → Below w0.heap.size w0 W → Calls Tryd.prog 14 #[.agg #[.slice an n cn, .slice af m cf], .int .i64 (r : Nat), .int .i64 (k : Nat)] W fun e w' => e = .returned (.bool (decide (k ∈ l))) ∧ Hid (Below W.heap.size W w')) := fun k W hk hr hb => by
    have h := is_any k an cn af cf d ns fs W (HS.out W hb).1 hk (by rw [hp]; exact hr)
    rw [HNF.out.2.2.2.1, HNF.out.2.2.2.2, hp] at h
    exact h
  have HFM : Hid (l.Pairwise (· < ·) ∧ (∀ x, x ∈ l → x ≤ max n m) ∧ (l = [] → r = 0) ∧ (r = 0 → l = [])) := ⟨hform.1, by have := hform.2; rw [HNF.out.2.2.2.1, HNF.out.2.2.2.2] at this; exact this, hz, hz2⟩
  obtain ⟨a0, ha0⟩ : ∃ z, l.headD 0 = z := ⟨_, rfl⟩
  rw [ha0] at CR
  obtain ⟨p0, p1⟩ := HBX.out W1 B1.out
  clear hp hck hz hz2 hform ha0
  go_wp2_with fail
  refine Calls.mono (CA.out W1 B1.out) ?_
  rintro e W2 ⟨v, rfl, how, hb2⟩
  have B2 : Hid (Below w0.heap.size w0 W2) := B1.out.trans (hb2.mono B1.out.size)
  clear p0 p1 CA hb2
  obtain ⟨p0, p1⟩ := HBX.out W2 B2.out
  obtain ⟨L, hL⟩ : ∃ L, l.length = L := ⟨_, rfl⟩
  obtain ⟨av, cv, rfl⟩ := Rk.own_shape how
  have how2 : W2.ownsRow W1.heap.size 43 2 (.slice av L cv) l.length (Nt.rows r l) := by rw [← hL]; exact how
  rw [show (r, l).2.length = L from hL]
  have HO2 : Hid (W2.ownsRow W1.heap.size 43 2 (.slice av L cv) l.length (Nt.rows r l) ∧ l.length = L) := ⟨how2, hL⟩
  clear how how2 hL
  go_wp2_with fail
  refine Calls.mono (CR.out W2 B2.out) ?_
  rintro e W3 ⟨rfl, X3⟩
  clear p0 p1 CR
  obtain ⟨W4, hW4⟩ : ∃ z, W3.alloc (.cells #[.int .i64 (r : Int), .int .i64 (a0 : Int)] 40) = z := ⟨_, rfl⟩
  have AW : Below W3.heap.size W3 W4 := by rw [← hW4]; exact (Below.refl _ W3).alloc (Nat.le_refl _) _
  have G4 : W4.heap[W3.heap.size]? = some (.cells #[.int .i64 (r : Int), .int .i64 (a0 : Int)] 40 (0, 0)) := by rw [← hW4]; exact heap_alloc_new W3 _
  have H4 : Hid (W3.alloc (.cells #[.int .i64 (r : Int), .int .i64 (a0 : Int)] 40) = W4) := hW4
  have B24 : Below W2.heap.size W2 W4 := X3.out.trans (AW.mono X3.out.size)
  have HO4 : Hid (W4.ownsRow W1.heap.size 43 2 (.slice av L cv) l.length (Nt.rows r l) ∧ l.length = L ∧ Below w0.heap.size w0 W4 ∧ W4.heap[W3.heap.size]? = some (.cells #[.int .i64 (r : Int), .int .i64 (a0 : Int)] 40 (0, 0))) := ⟨Rk.own_below HO2.out.1 B24, HO2.out.2, B2.out.trans (B24.mono B2.out.size), G4⟩
  have c0 : W4.cell? ⟨W3.heap.size, 0, none⟩ = some (.int .i64 (r : Int)) := by simp [World.cell?, G4]
  have hu := Tryd.underlying40
  clear X3 AW G4 hW4 B24 HO2
  go_upto_region 5 with fail
  rw [H4.out]
  clear H4
  by_cases hr : r = 0
  · have hl : l = [] := HFM.out.2.2.2 hr
    have hL0 : L = 0 := by rw [← HO4.out.2.1, hl]; rfl
    subst hr hL0
    go_wp2_with fail
    refine Calls.mono (HLN.out W4 (HS.out W4 HO4.out.2.2.1).2.2) ?_
    rintro e W5 ⟨rfl, B5⟩
    clear HLN
    go_wp2
    go_ret
    exact ⟨rfl, B5.out⟩
  have e0 : ((r : Int) == 0) = false := by simpa using hr
  have hL1 : 0 < L := by
    rw [← HO4.out.2.1]
    exact List.length_pos_iff.2 fun h => hr (HFM.out.2.2.1 h)
  have hLb : L ≤ 1000 := by
    have hf := HFM.out
    have : ahead l (max n m + 1) = l.length := ahead_all hf.2.1
    have h2 : ∀ i, ahead l i ≤ i := fun i => by
      induction i with
      | zero => simp [ahead]
      | succ i ih => rw [(ahead_at hf.1 i).2]; split <;> omega
    have := h2 (max n m + 1)
    rw [← HO4.out.2.1]
    omega
  obtain ⟨gl, cl, hv⟩ := Nt.own_nil HO4.out.1 (by rw [HO4.out.2.1]; exact hL1)
  simp only [Value.slice.injEq] at hv
  obtain ⟨rfl, -, rfl⟩ := hv
  have HX : Hid (∀ W, Below W4.heap.size W4 W → (W.cell? ⟨w.heap.size, 0, none⟩ = some (.slice an n cn) ∧ W.cell? ⟨w.heap.size, 1, none⟩ = some (.slice af m cf)) ∧ W.cell? ⟨W3.heap.size, 0, none⟩ = some (.int .i64 (r : Int)) ∧ Below w0.heap.size w0 W ∧ ∀ (j x : Nat), l[j]? = some x → W.cell? ⟨gl, j * 2, none⟩ = some (.int .i64 (r : Int)) ∧ W.cell? ⟨gl, j * 2 + 1, none⟩ = some (.int .i64 (x : Int))) := fun W hb => by
    have hbw : Below w0.heap.size w0 W := HO4.out.2.2.1.trans (hb.mono HO4.out.2.2.1.size)
    refine ⟨HBX.out W hbw, ?_, hbw, fun j x hj => ?_⟩
    · have := (hb.block _ (Nt.lt_of HO4.out.2.2.2)).trans HO4.out.2.2.2
      simp [World.cell?, this]
    · exact Nt.own_pair (Rk.own_below HO4.out.1 hb) j x hj
  obtain ⟨M, hM⟩ : ∃ M, max n m = M := ⟨_, rfl⟩
  have HMM : Hid (max n m = M) := hM
  have hMb : M ≤ 100 := by omega
  clear hM
  have hr' : r ≠ 0 := hr
  have hif : (if n < m then (m : Int) else (n : Int)) = (M : Int) := by
    have := HMM.out
    split <;> omega
  go_wp2
  clear c0
  go_loopg [5, 6] (M + 1) (fun gk s5 s6 wr => ∃ i a : Nat, gk + i = M + 1 ∧ s6 = .int .i64 i ∧ s5 = .int .i64 a ∧ a ≤ L ∧ Hid (ahead l i = a ∧ Below W4.heap.size W4 wr))
  case atStart => exact ⟨0, 0, by omega, rfl, rfl, by omega, by simp [ahead], Below.refl _ _⟩
  case round =>
    obtain ⟨i, a, hi, rfl, rfl, haL, HI⟩ := hrel
    obtain ⟨⟨p0, p1⟩, c0, hbw, hcells⟩ := HX.out wr HI.out.2
    by_cases hlt : i ≤ M
    · have hd : decide ((i : Int) ≤ M) = true := decide_eq_true (by omega)
      have hdn : decide (i ≤ M) = true := decide_eq_true hlt
      have hcall : Hid _ := CI.out i wr (by omega) hr' hbw
      obtain ⟨b, hb⟩ : ∃ b, decide (i ∈ l) = b := ⟨_, rfl⟩
      rw [hb] at hcall
      have HB : Hid (decide (i ∈ l) = b) := hb
      clear hb hcells
      go_upto_region 11 with fail
      go_wp2_with fail
      refine Calls.mono hcall.out ?_
      rintro e W5 ⟨rfl, X5⟩
      clear p0 p1 c0 hcall hbw
      have B5 : Hid (Below W4.heap.size W4 W5) := HI.out.2.trans (X5.out.mono HI.out.2.size)
      obtain ⟨-, c0, -, hcells⟩ := HX.out W5 B5.out
      have HAT := ahead_at HFM.out.1 i
      rw [HI.out.1] at HAT
      have BD : Hid (∀ q, Below W4.heap.size W4 (W5.drewN q)) := fun q => Tk.below_drewN B5.out q
      have hrr : ((r : Int) == (r : Int)) = true := by simp
      clear X5 CI
      by_cases haL2 : a < L
      · have hal : a < l.length := by rw [HO4.out.2.1]; exact haL2
        obtain ⟨x, hx⟩ : ∃ x, l[a] = x := ⟨_, rfl⟩
        obtain ⟨q0, q1⟩ := hcells a x (by rw [List.getElem?_eq_getElem hal, hx])
        have hda : decide ((a : Int) < L) = true := decide_eq_true (by omega)
        have hdan : decide (a < L) = true := decide_eq_true haL2
        have ha0 : (0 : Int) ≤ a := by omega
        have haL' : (a : Int) < L := by omega
        by_cases hxi : x = i
        · have hxb : ((x : Int) == (i : Int)) = true := by simp; omega
          have hm : i ∈ l := HAT.1.1 (by rw [List.getElem?_eq_getElem hal, hx, hxi])
          obtain rfl : b = true := by rw [← HB.out]; exact decide_eq_true hm
          have HNX : Hid (ahead l (i + 1) = a + 1) := by have := HAT.2; rw [if_pos hm] at this; exact this
          clear hcells HAT hx hxi hm HB
          go_upto_region 12 with fail
          go_quiet (fail)
          go_wp2
          go_roundg (gk - 1)
          case measure => omega
          case rel => exact ⟨i + 1, a + 1, by omega, by go_num, by go_num, by omega, HNX.out, by first | exact BD.out _ | exact B5.out | exact B5.out.drew⟩
        · have hxb : ((x : Int) == (i : Int)) = false := by simp; omega
          have hm : i ∉ l := fun h => hxi (by have := HAT.1.2 h; rw [List.getElem?_eq_getElem hal, hx] at this; exact Option.some.inj this)
          obtain rfl : b = false := by rw [← HB.out]; exact decide_eq_false hm
          have HNX : Hid (ahead l (i + 1) = a) := by have := HAT.2; rw [if_neg hm] at this; exact this
          clear hcells HAT hx hxi hm HB
          go_upto_region 12 with fail
          go_quiet (fail)
          go_wp2
          go_roundg (gk - 1)
          case measure => omega
          case rel => exact ⟨i + 1, a, by omega, by go_num, rfl, by omega, HNX.out, by first | exact BD.out _ | exact B5.out | exact B5.out.drew⟩
      · have hda : decide ((a : Int) < L) = false := decide_eq_false (by omega)
        have hdan : decide (a < L) = false := decide_eq_false haL2
        have hm : i ∉ l := fun h => by
          have := HAT.1.2 h
          rw [List.getElem?_eq_none (by rw [HO4.out.2.1]; omega)] at this
          cases this
        obtain rfl : b = false := by rw [← HB.out]; exact decide_eq_false hm
        have HNX : Hid (ahead l (i + 1) = a) := by have := HAT.2; rw [if_neg hm] at this; exact this
        clear hcells HAT hm HB
        go_upto_region 12 with fail
        go_quiet (fail)
        go_wp2
        go_roundg (gk - 1)
        case measure => omega
        case rel => exact ⟨i + 1, a, by omega, by go_num, rfl, by omega, HNX.out, by first | exact BD.out _ | exact B5.out | exact B5.out.drew⟩
    · have hd : decide ((i : Int) ≤ M) = false := decide_eq_false (by omega)
      have hdn : decide (i ≤ M) = false := decide_eq_false hlt
      have haL3 : a = L := by
        obtain rfl : i = M + 1 := by omega
        rw [← HI.out.1, ← HO4.out.2.1]
        refine ahead_all fun x hx => ?_
        rw [← HMM.out]
        exact HFM.out.2.1 x hx
      subst haL3
      have hd0 : decide ((0 : Int) < a) = true := decide_eq_true (by omega)
      have hd0n : decide (0 < a) = true := decide_eq_true hL1
      have haa : ((a : Int) == (a : Int)) = true := by simp
      clear hcells
      go_wp2_with fail
      refine Calls.mono (HLN.out wr (HS.out wr hbw).2.2) ?_
      rintro e W6 ⟨rfl, B6⟩
      clear HLN
      go_wp2
      go_ret
      exact ⟨rfl, B6.out⟩

end Go.Proofs.YtiedlccnlkhnkaaDoor.NetAll
