/-
  The walk of NetSums: in a right process each flow is one node's out and one's in.
-/
import Derived.Test.YtmhochajajaklaaDoorNtLine
import Derived.Test.YtmhochajajaklaaDoorNtLarge
import Derived.Test.YtmhochajajaklaaDoorNtIns
namespace Go.Proofs
open Go.RowKit Go.Shelf

theorem Nt.sum_add (f g : Nat → Nat) : ∀ n, ((List.range n).map fun i => f i + g i).sum = ((List.range n).map f).sum + ((List.range n).map g).sum := by
  intro n
  induction n with
  | zero => simp
  | succ n ih => simp only [List.range_succ, List.map_append, List.map_cons, List.map_nil, List.sum_append, List.sum_cons, List.sum_nil, ih]; omega
theorem Nt.sum_one (x : Nat) : ∀ n, ((List.range n).map fun i => if x = i then 1 else 0).sum = if x < n then 1 else 0 := by
  intro n
  induction n with
  | zero => simp
  | succ n ih =>
    simp only [List.range_succ, List.map_append, List.map_cons, List.map_nil, List.sum_append, List.sum_cons, List.sum_nil, ih]
    (repeat' split) <;> omega
theorem Nt.sum_zero : ∀ n, ((List.range n).map fun _ : Nat => 0).sum = 0 := by
  intro n
  induction n with
  | zero => rfl
  | succ n ih => rw [List.range_succ, List.map_append, List.sum_append, ih]; rfl
theorem Nt.sum_ins (n : Nat) : ∀ fs : List Fl, (∀ f, f ∈ fs → 0 ≤ f.to ∧ f.to < n) → ((List.range n).map fun i : Nat => Nt.insN fs i).sum = fs.length
  | [], _ => by
    have : (fun i : Nat => Nt.insN [] i) = fun _ => 0 := by funext i; rfl
    rw [this, Nt.sum_zero]
    rfl
  | f :: fs, h => by
    have hf := h f List.mem_cons_self
    have e : (fun i : Nat => Nt.insN (f :: fs) i) = fun i : Nat => Nt.insN fs i + if f.to.toNat = i then 1 else 0 := by
      funext i
      unfold Nt.insN
      rw [List.countP_cons]
      congr 1
      simp only [decide_eq_true_eq]
      (repeat' split) <;> omega
    rw [e, Nt.sum_add, Nt.sum_ins n fs (fun x hx => h x (List.mem_cons_of_mem _ hx)), Nt.sum_one, if_pos (by omega)]
    rfl
theorem Nt.sum_outs (n : Nat) : ∀ fs : List Fl, (∀ f, f ∈ fs → 0 ≤ f.fr ∧ f.fr < n) → ((List.range n).map fun i : Nat => Nt.outsN fs i).sum = fs.length
  | [], _ => by
    have : (fun i : Nat => Nt.outsN [] i) = fun _ => 0 := by funext i; rfl
    rw [this, Nt.sum_zero]
    rfl
  | f :: fs, h => by
    have hf := h f List.mem_cons_self
    have e : (fun i : Nat => Nt.outsN (f :: fs) i) = fun i : Nat => Nt.outsN fs i + if f.fr.toNat = i then 1 else 0 := by
      funext i
      unfold Nt.outsN
      rw [List.countP_cons]
      congr 1
      simp only [decide_eq_true_eq]
      (repeat' split) <;> omega
    rw [e, Nt.sum_add, Nt.sum_outs n fs (fun x hx => h x (List.mem_cons_of_mem _ hx)), Nt.sum_one, if_pos (by omega)]
    rfl
/-- What a process that breaks no rule keeps. -/
theorem Nt.right_keeps {ns : List Nd} {fs : List Fl} (h : (Nt.checkN ns fs).1 = 0) : Nt.wrong1 ns fs = [] ∧ Nt.wrong2 ns fs = [] ∧ Nt.wrong3 ns fs = [] ∧ Nt.wrong4 ns fs = [] := by
  have h : (Nt.broken ns fs).1 = 0 := h
  unfold Nt.broken at h
  split at h
  · simp at h
  · next h1 =>
    split at h
    · simp at h
    · next h2 =>
      split at h
      · simp at h
      · next h3 =>
        split at h
        · simp at h
        · next h4 => exact ⟨by simpa using h1, by simpa using h2, by simpa using h3, by simpa using h4⟩
theorem Nt.joint_of {ns : List Nd} {fs : List Fl} (h : Nt.wrong3 ns fs = []) (i : Nat) (hi : i < ns.length) : Nt.threeB ns fs i = true := by
  have h1 : ((List.range ns.length).filter fun i => !Nt.jointB ns fs i) = [] := (List.append_eq_nil_iff.1 h).1
  have := Nt.filter_nil (by rw [h1]; rfl) i hi
  simp only [Bool.not_eq_false'] at this
  unfold Nt.jointB at this
  simp only [Bool.and_eq_true] at this
  exact this.1.1
theorem Nt.sum_case {k : Int} {p q e o : Nat} (h : Nt.joinB k p q e o = true) : (k = 1 ∧ p = 0 ∧ q = 1) ∨ (k = 2 ∧ p = 1 ∧ q = 0) ∨ (k = 5 ∧ p = 1 ∧ 2 ≤ q) ∨ (k = 6 ∧ p = 1 ∧ 2 ≤ q) ∨ (k = 5 ∧ 2 ≤ p ∧ q = 1) ∨ (k = 6 ∧ 2 ≤ p ∧ q = 1) ∨ (k = 7 ∧ p = 1 ∧ 2 ≤ q) ∨ ((¬ k = 5 ∧ ¬ k = 6 ∧ ¬ k = 7) ∧ p = 1 ∧ q = 1) := by
  unfold Nt.joinB at h
  split at h
  · next hk => exact .inl ⟨hk, of_decide_eq_true h⟩
  split at h
  · next hk => exact .inr (.inl ⟨hk, of_decide_eq_true h⟩)
  split at h
  · next hk =>
    rcases of_decide_eq_true h with h | h
    · exact .inr (.inr (.inl ⟨hk, h.1, h.2.1⟩))
    · exact .inr (.inr (.inr (.inr (.inl ⟨hk, h.1, h.2⟩))))
  split at h
  · next hk =>
    rcases of_decide_eq_true h with h | h
    · exact .inr (.inr (.inr (.inl ⟨hk, h.1, h.2⟩)))
    · exact .inr (.inr (.inr (.inr (.inr (.inl ⟨hk, h.1, h.2⟩)))))
  split at h
  · next hk =>
    have h := of_decide_eq_true h
    exact .inr (.inr (.inr (.inr (.inr (.inr (.inl ⟨hk, h.1, h.2.1⟩))))))
  · next h1 h2 h5 h6 h7 => exact .inr (.inr (.inr (.inr (.inr (.inr (.inr ⟨⟨h5, h6, h7⟩, of_decide_eq_true h⟩))))))

end Go.Proofs
namespace Go.Proofs.YtmhochajajaklaaDoor.NetSums
open Go.RowKit Go.Shelf

set_option maxRecDepth 20000 in
set_option maxHeartbeats 8000000 in
theorem walk (an : Option Addr) (cn : Nat) (af : Option Addr) (cf : Nat) (ns : List Nd) (fs : List Fl) (d : Nat) (w : World) (hN : Nt.Nds w w.heap.size d an ns) (hF : Nt.Fls w w.heap.size d af fs) (hO : Tk.Ops w) :
    Calls Tryd.prog 6 #[.agg #[.slice an ns.length cn, .slice af fs.length cf]] w fun e w' => e = .returned (.bool true) ∧ Below w.heap.size w w' := by
  obtain ⟨w0, hw0⟩ : ∃ x, w.alloc (.cells #[.slice an ns.length cn, .slice af fs.length cf] 25) = x := ⟨_, rfl⟩
  have A0 : Below w.heap.size w w0 := by rw [← hw0]; exact (Below.refl _ w).alloc (Nat.le_refl _) _
  have G0 : w0.heap[w.heap.size]? = some (.cells #[.slice an ns.length cn, .slice af fs.length cf] 25 (0, 0)) := by rw [← hw0]; exact heap_alloc_new w _
  have hlg := Tryd.nlarge_any an cn af cf d ns fs w0 ((hN.below A0).wider A0.size) ((hF.below A0).wider A0.size)
  have HLN : Hid (∀ W, Below w.heap.size w W → Calls Tryd.prog 10 #[] W fun e w' => e = .returned (.bool true) ∧ Hid (Below w.heap.size w w')) := fun W hb => (Tryd.line_any W (hO.below hb hO.lt)).mono fun e w' h => ⟨h.1, hb.trans (h.2.mono hb.size)⟩
  obtain ⟨n, hnn⟩ : ∃ n, ns.length = n := ⟨_, rfl⟩
  obtain ⟨m, hmm⟩ : ∃ n, fs.length = n := ⟨_, rfl⟩
  have HBX : Hid (∀ W, Below w0.heap.size w0 W → W.cell? ⟨w.heap.size, 0, none⟩ = some (.slice an n cn) ∧ W.cell? ⟨w.heap.size, 1, none⟩ = some (.slice af m cf)) := fun W hb => by
    have := Nt.box2 ((hb.block _ (Nt.lt_of G0)).trans G0)
    rw [hnn, hmm] at this
    exact this
  have HNF : Hid (Nt.Nds w w.heap.size d an ns ∧ Nt.Fls w w.heap.size d af fs ∧ Tk.Ops w ∧ ns.length = n ∧ fs.length = m) := ⟨hN, hF, hO, hnn, hmm⟩
  rw [hnn, hmm] at hlg hw0 ⊢
  have HL : Hid _ := hlg
  have H0 : Hid (w.alloc (.cells #[.slice an n cn, .slice af m cf] 25) = w0) := hw0
  have HA : Hid (Below w.heap.size w w0) := A0
  clear hlg hw0 A0 G0 hN hF hO hnn hmm
  go_enter Tryd.func6, Tryd.ntmps6
  go_wp2_with fail
  rw [H0.out]
  refine Calls.mono HL.out ?_
  rintro e W1 ⟨hb1, rfl | ⟨rfl, hn60, hm100, hnz, hfz⟩⟩
  · have B1 : Hid (Below w.heap.size w W1) := HA.out.trans (hb1.mono HA.out.size)
    clear hb1 HL H0
    go_wp2_with fail
    refine Calls.mono (HLN.out W1 B1.out) ?_
    rintro e W2 ⟨rfl, B2⟩
    clear HLN
    go_wp2
    go_ret
    exact ⟨rfl, B2.out⟩
  have B1 : Hid (Below w0.heap.size w0 W1) := hb1
  have HS : Hid (∀ W, Below w0.heap.size w0 W → Nt.Has W W.heap.size d an af ns fs ∧ Tk.Ops W ∧ Below w.heap.size w W) := fun W hb => by
    have hbw : Below w.heap.size w W := HA.out.trans (hb.mono HA.out.size)
    refine ⟨⟨(HNF.out.1.below hbw).wider hbw.size, (HNF.out.2.1.below hbw).wider hbw.size, by omega, by omega, fun x hx => by have := hnz x hx; omega, fun x hx => by have := hfz x hx; omega⟩, HNF.out.2.2.1.below hbw HNF.out.2.2.1.lt, hbw⟩
  have hn' : n ≤ 60 := by rw [← HNF.out.2.2.2.1]; exact hn60
  have hm' : m ≤ 100 := by rw [← HNF.out.2.2.2.2]; exact hm100
  clear hb1 HL H0 hn60 hm100 hnz hfz
  have hck := Tryd.nCheck_any an cn af cf d ns fs W1 (HS.out W1 B1.out).1 (HS.out W1 B1.out).2.1
  rw [HNF.out.2.2.2.1, HNF.out.2.2.2.2] at hck
  obtain ⟨c, hc⟩ : ∃ c, Nt.checkN ns fs = c := ⟨_, rfl⟩
  rw [hc] at hck
  obtain ⟨r, at_⟩ := c
  have HK : Hid _ := hck
  have HCK : Hid (Nt.checkN ns fs = (r, at_)) := hc
  obtain ⟨p0, p1⟩ := HBX.out W1 B1.out
  clear hck hc
  go_wp2_with fail
  refine Calls.mono HK.out ?_
  rintro e W2 ⟨rfl, hb2⟩
  have B2 : Hid (Below w0.heap.size w0 W2) := B1.out.trans (hb2.mono B1.out.size)
  clear hb2 HK p0 p1
  by_cases hr : r = 0
  rotate_left
  · have e0 : ((r : Int) != 0) = true := by simpa using hr
    clear hr
    go_wp2_with fail
    refine Calls.mono (HLN.out W2 (HS.out W2 B2.out).2.2) ?_
    rintro e W3 ⟨rfl, B3⟩
    clear HLN
    go_wp2
    go_ret
    exact ⟨rfl, B3.out⟩
  subst hr
  have HR : Hid (Nt.wrong1 ns fs = [] ∧ Nt.wrong2 ns fs = [] ∧ Nt.wrong3 ns fs = [] ∧ Nt.wrong4 ns fs = []) := Nt.right_keeps (by rw [HCK.out])
  have HFT : Hid (∀ f, f ∈ fs → 0 ≤ f.fr ∧ f.fr < n ∧ 0 ≤ f.to ∧ f.to < n) := fun f hf => by
    have := Nt.two_keeps (ns := ns) (fs := fs) (by rw [HR.out.2.1]; rfl) f hf
    rw [HNF.out.2.2.2.1] at this
    exact ⟨this.1, this.2.1, this.2.2.1, this.2.2.2.1⟩
  have HSI : Hid (((List.range n).map fun i : Nat => Nt.insN fs i).sum = m ∧ ((List.range n).map fun i : Nat => Nt.outsN fs i).sum = m) := by
    refine ⟨?_, ?_⟩
    · rw [Nt.sum_ins n fs (fun f hf => (HFT.out f hf).2.2), HNF.out.2.2.2.2]
    · rw [Nt.sum_outs n fs (fun f hf => ⟨(HFT.out f hf).1, (HFT.out f hf).2.1⟩), HNF.out.2.2.2.2]
  obtain ⟨p0, p1⟩ := HBX.out W2 B2.out
  clear HCK
  go_wp2
  go_loopg [5, 6, 26] n (fun gk s5 s6 s26 wr => ∃ (j si so : Nat), gk + j = n ∧ s26 = .int .i64 j ∧ s5 = .int .i64 si ∧ s6 = .int .i64 so ∧ si ≤ 100 * j ∧ so ≤ 100 * j ∧ Hid (Below w0.heap.size w0 wr) ∧ Hid (((List.range j).map fun i : Nat => Nt.insN fs i).sum = si) ∧ Hid (((List.range j).map fun i : Nat => Nt.outsN fs i).sum = so))
  case atStart => exact ⟨0, 0, 0, by omega, rfl, rfl, rfl, by omega, by omega, B2.out, rfl, rfl⟩
  case round =>
    obtain ⟨j, si, so, hj, rfl, rfl, rfl, hsi, hso, HB, HSS, HSO⟩ := hrel
    clear p0 p1
    by_cases hlt : j < n
    · have hd : decide ((j : Int) < n) = true := decide_eq_true (by omega)
      have hjl : j < ns.length := by rw [HNF.out.2.2.2.1]; exact hlt
      obtain ⟨g, off, u, rfl, hg, c0, c1, c2, c3, c4, hT⟩ := HNF.out.1 j hjl
      obtain ⟨au, cu, rfl⟩ := hT.shape
      have h3 := Nt.joint_of HR.out.2.2.1 j hjl
      unfold Nt.threeB at h3
      rw [Nt.kindAt_get ns j hjl] at h3
      obtain ⟨k, hk⟩ : ∃ z, ns[j].kind = z := ⟨_, rfl⟩
      obtain ⟨x1, hx1⟩ : ∃ z, ns[j].a = z := ⟨_, rfl⟩
      obtain ⟨x2, hx2⟩ : ∃ z, ns[j].t.op = z := ⟨_, rfl⟩
      obtain ⟨x3, hx3⟩ : ∃ z, ns[j].t.num = z := ⟨_, rfl⟩
      obtain ⟨nu, hnu⟩ : ∃ z, ns[j].t.ks.length = z := ⟨_, rfl⟩
      obtain ⟨p, hp⟩ : ∃ z, Nt.insN fs j = z := ⟨_, rfl⟩
      obtain ⟨q, hq⟩ : ∃ z, Nt.outsN fs j = z := ⟨_, rfl⟩
      rw [hk] at c0 h3
      rw [hx1] at c1
      rw [hx2] at c2
      rw [hx3] at c3
      rw [hnu] at c4
      rw [hp, hq] at h3
      have hc := Nt.sum_case h3
      have hbw := (HS.out wr HB.out).2.2
      have hcc : ∀ o, wr.cell? ⟨g, o, none⟩ = w.cell? ⟨g, o, none⟩ := fun o => hbw.cell (p := ⟨g, o, none⟩) hg
      have d0 := (hcc _).trans c0
      have d1 := (hcc _).trans c1
      have d2 := (hcc _).trans c2
      have d3 := (hcc _).trans c3
      have d4 := (hcc _).trans c4
      have hu := Tryd.underlying37
      have hpl : p ≤ 100 ∧ q ≤ 100 := by
        have := (HS.out wr HB.out).1.flen
        rw [← hp, ← hq]
        unfold Nt.insN Nt.outsN
        exact ⟨Nat.le_trans List.countP_le_length this, Nat.le_trans List.countP_le_length this⟩
      obtain ⟨W3, hW3⟩ : ∃ z, wr.alloc (.cells #[.int .i64 k, .int .i64 x1, .int .i64 x2, .int .i64 x3, .slice au nu cu] 37) = z := ⟨_, rfl⟩
      have B3 : Below w0.heap.size w0 W3 := by rw [← hW3]; exact HB.out.alloc HB.out.size _
      have G3 : W3.heap[wr.heap.size]? = some (.cells #[.int .i64 k, .int .i64 x1, .int .i64 x2, .int .i64 x3, .slice au nu cu] 37 (0, 0)) := by rw [← hW3]; exact heap_alloc_new wr _
      have CI : Hid (∀ W, Below w0.heap.size w0 W → Calls Tryd.prog 14 #[.agg #[.slice (some ⟨g, off, none⟩) n cn, .slice af m cf], .int .i64 j] W fun e w' => ∃ a c, e = .returned (.slice a p c) ∧ Hid (Below W.heap.size W w')) := fun W hb => by
        have h := Tryd.nIns_any j (some ⟨g, off, none⟩) n cn af cf d fs W (HS.out W hb).1.fls (HS.out W hb).1.flen
        rw [HNF.out.2.2.2.2] at h
        refine h.mono fun e w' ⟨v, hv, ho, hbb⟩ => ?_
        obtain ⟨a, c, rfl⟩ := Rk.own_shape ho
        rw [Nt.insL_len, hp] at hv
        exact ⟨a, c, hv, hbb⟩
      have CO : Hid (∀ W, Below w0.heap.size w0 W → Calls Tryd.prog 16 #[.agg #[.slice (some ⟨g, off, none⟩) n cn, .slice af m cf], .int .i64 j] W fun e w' => ∃ a c, e = .returned (.slice a q c) ∧ Hid (Below W.heap.size W w')) := fun W hb => by
        have h := Tryd.nOuts_any j (some ⟨g, off, none⟩) n cn af cf d fs W (HS.out W hb).1.fls (HS.out W hb).1.flen
        rw [HNF.out.2.2.2.2] at h
        refine h.mono fun e w' ⟨v, hv, ho, hbb⟩ => ?_
        obtain ⟨a, c, rfl⟩ := Rk.own_shape ho
        rw [Nt.outsL_len, hq] at hv
        exact ⟨a, c, hv, hbb⟩
      have HS : Hid (((List.range (j + 1)).map fun i : Nat => Nt.insN fs i).sum = si + p) ∧ Hid (((List.range (j + 1)).map fun i : Nat => Nt.outsN fs i).sum = so + q) := by
        refine ⟨?_, ?_⟩
        · show _ = _
          rw [List.range_succ, List.map_append, List.sum_append, HSS.out]
          simp [hp]
        · show _ = _
          rw [List.range_succ, List.map_append, List.sum_append, HSO.out]
          simp [hq]
      have HW3 : Hid (wr.alloc (.cells #[.int .i64 k, .int .i64 x1, .int .i64 x2, .int .i64 x3, .slice au nu cu] 37) = W3) := hW3
      have HB3 : Hid (Below w0.heap.size w0 W3 ∧ W3.heap[wr.heap.size]? = some (.cells #[.int .i64 k, .int .i64 x1, .int .i64 x2, .int .i64 x3, .slice au nu cu] 37 (0, 0))) := ⟨B3, G3⟩
      obtain ⟨p0, p1⟩ := HBX.out wr HB.out
      have hbl : w.heap.size < wr.heap.size := by have := HB.out.size; have := (HBX.out w0 (Below.refl _ _)).1; have := Tk.cell_lt' this; omega
      have hpq : IntKind.i64.wrap ((p : Int) + q) = (p : Int) + q := by rw [IntKind.wrap_i64]; omega
      have hws : IntKind.i64.wrap ((si : Int) + p) = ((si + p : Nat) : Int) := by rw [IntKind.wrap_i64]; omega
      have hwo : IntKind.i64.wrap ((so : Int) + q) = ((so + q : Nat) : Int) := by rw [IntKind.wrap_i64]; omega
      obtain ⟨hp100, hq100⟩ := hpl
      clear h3 hbw hcc c0 c1 c2 c3 c4 hT hk hx1 hx2 hx3 hnu hp hq hg hW3 B3 G3
      go_wp2_with fail
      rw [HW3.out]
      refine Calls.mono (CI.out W3 HB3.out.1) ?_
      rintro e W4 ⟨a4, c4, rfl, B4⟩
      have B4w : Hid (Below w0.heap.size w0 W4) := HB3.out.1.trans (B4.out.mono HB3.out.1.size)
      clear p0 p1 d0 d1 d2 d3 d4 CI HW3
      obtain ⟨p0, p1⟩ := HBX.out W4 B4w.out
      have G4 : Hid (W4.heap[wr.heap.size]? = some (.cells #[.int .i64 k, .int .i64 x1, .int .i64 x2, .int .i64 x3, .slice au nu cu] 37 (0, 0))) := by show _ = _; rw [B4.out.block _ (Nt.lt_of HB3.out.2)]; exact HB3.out.2
      go_wp2_with fail
      refine Calls.mono (CO.out W4 B4w.out) ?_
      rintro e W5 ⟨a5, c5, rfl, B5⟩
      have B2 : Hid (Below w0.heap.size w0 W5) := B4w.out.trans (B5.out.mono B4w.out.size)
      have hkc : W5.cell? ⟨wr.heap.size, 0, none⟩ = some (.int .i64 k) := by
        have : W5.heap[wr.heap.size]? = some (.cells #[.int .i64 k, .int .i64 x1, .int .i64 x2, .int .i64 x3, .slice au nu cu] 37 (0, 0)) := by rw [B5.out.block _ (Nt.lt_of G4.out)]; exact G4.out
        simp [World.cell?, this]
      clear p0 p1 CO B5 G4 B4
      rcases hc with hc | hc | hc | hc | hc | hc | hc | hc
      · -- k = 1 and p = 0 and q = 1
        have t1 : decide ((1 : Int) < p) = false := by simp; omega
        have t2 : decide ((1 : Int) < q) = false := by simp; omega
        have t3 : decide ((p : Int) + q < 1) = false := by simp; omega
        have t4 : decide ((2 : Int) < (p : Int) + q) = false := by simp; omega
        have t5 : ((p : Int) == 0) = true := by simp; omega
        have t6 : ((q : Int) == 0) = false := by simp; omega
        have k5 : (k == 5) = false := by simp; omega
        have k6 : (k == 6) = false := by simp; omega
        have k7 : (k == 7) = false := by simp; omega
        have n1 : (k != 1) = false := by simp; omega
        clear hc
        go_wp2
        go_roundg (gk - 1)
        case measure => omega
        case rel => exact ⟨j + 1, si + p, so + q, by omega, by go_num, by go_num, by go_num, by omega, by omega, B2.out, HS.1.out, HS.2.out⟩
      · -- k = 2 and p = 1 and q = 0
        have t1 : decide ((1 : Int) < p) = false := by simp; omega
        have t2 : decide ((1 : Int) < q) = false := by simp; omega
        have t3 : decide ((p : Int) + q < 1) = false := by simp; omega
        have t4 : decide ((2 : Int) < (p : Int) + q) = false := by simp; omega
        have t5 : ((p : Int) == 0) = false := by simp; omega
        have t6 : ((q : Int) == 0) = true := by simp; omega
        have k5 : (k == 5) = false := by simp; omega
        have k6 : (k == 6) = false := by simp; omega
        have k7 : (k == 7) = false := by simp; omega
        have n2 : (k != 2) = false := by simp; omega
        clear hc
        go_wp2
        go_roundg (gk - 1)
        case measure => omega
        case rel => exact ⟨j + 1, si + p, so + q, by omega, by go_num, by go_num, by go_num, by omega, by omega, B2.out, HS.1.out, HS.2.out⟩
      · -- k = 5 and p = 1 and 2 to q
        have t1 : decide ((1 : Int) < p) = false := by simp; omega
        have t2 : decide ((1 : Int) < q) = true := by simp; omega
        have t3 : decide ((p : Int) + q < 1) = false := by simp; omega
        have t4 : decide ((2 : Int) < (p : Int) + q) = true := by simp; omega
        have t5 : ((p : Int) == 0) = false := by simp; omega
        have t6 : ((q : Int) == 0) = false := by simp; omega
        have k5 : (k == 5) = true := by simp; omega
        clear hc
        go_wp2
        go_roundg (gk - 1)
        case measure => omega
        case rel => exact ⟨j + 1, si + p, so + q, by omega, by go_num, by go_num, by go_num, by omega, by omega, B2.out, HS.1.out, HS.2.out⟩
      · -- k = 6 and p = 1 and 2 to q
        have t1 : decide ((1 : Int) < p) = false := by simp; omega
        have t2 : decide ((1 : Int) < q) = true := by simp; omega
        have t3 : decide ((p : Int) + q < 1) = false := by simp; omega
        have t4 : decide ((2 : Int) < (p : Int) + q) = true := by simp; omega
        have t5 : ((p : Int) == 0) = false := by simp; omega
        have t6 : ((q : Int) == 0) = false := by simp; omega
        have k5 : (k == 5) = false := by simp; omega
        have k6 : (k == 6) = true := by simp; omega
        clear hc
        go_wp2
        go_roundg (gk - 1)
        case measure => omega
        case rel => exact ⟨j + 1, si + p, so + q, by omega, by go_num, by go_num, by go_num, by omega, by omega, B2.out, HS.1.out, HS.2.out⟩
      · -- k = 5 and 2 to p and q = 1
        have t1 : decide ((1 : Int) < p) = true := by simp; omega
        have t2 : decide ((1 : Int) < q) = false := by simp; omega
        have t3 : decide ((p : Int) + q < 1) = false := by simp; omega
        have t4 : decide ((2 : Int) < (p : Int) + q) = true := by simp; omega
        have t5 : ((p : Int) == 0) = false := by simp; omega
        have t6 : ((q : Int) == 0) = false := by simp; omega
        have k5 : (k == 5) = true := by simp; omega
        clear hc
        go_wp2
        go_roundg (gk - 1)
        case measure => omega
        case rel => exact ⟨j + 1, si + p, so + q, by omega, by go_num, by go_num, by go_num, by omega, by omega, B2.out, HS.1.out, HS.2.out⟩
      · -- k = 6 and 2 to p and q = 1
        have t1 : decide ((1 : Int) < p) = true := by simp; omega
        have t2 : decide ((1 : Int) < q) = false := by simp; omega
        have t3 : decide ((p : Int) + q < 1) = false := by simp; omega
        have t4 : decide ((2 : Int) < (p : Int) + q) = true := by simp; omega
        have t5 : ((p : Int) == 0) = false := by simp; omega
        have t6 : ((q : Int) == 0) = false := by simp; omega
        have k5 : (k == 5) = false := by simp; omega
        have k6 : (k == 6) = true := by simp; omega
        clear hc
        go_wp2
        go_roundg (gk - 1)
        case measure => omega
        case rel => exact ⟨j + 1, si + p, so + q, by omega, by go_num, by go_num, by go_num, by omega, by omega, B2.out, HS.1.out, HS.2.out⟩
      · -- k = 7 and p = 1 and 2 to q
        have t1 : decide ((1 : Int) < p) = false := by simp; omega
        have t2 : decide ((1 : Int) < q) = true := by simp; omega
        have t3 : decide ((p : Int) + q < 1) = false := by simp; omega
        have t4 : decide ((2 : Int) < (p : Int) + q) = true := by simp; omega
        have t5 : ((p : Int) == 0) = false := by simp; omega
        have t6 : ((q : Int) == 0) = false := by simp; omega
        have k5 : (k == 5) = false := by simp; omega
        have k6 : (k == 6) = false := by simp; omega
        have k7 : (k == 7) = true := by simp; omega
        clear hc
        go_wp2
        go_roundg (gk - 1)
        case measure => omega
        case rel => exact ⟨j + 1, si + p, so + q, by omega, by go_num, by go_num, by go_num, by omega, by omega, B2.out, HS.1.out, HS.2.out⟩
      · -- (not k = 5 and not k = 6 and not k = 7) and p = 1 and q = 1
        have t1 : decide ((1 : Int) < p) = false := by simp; omega
        have t2 : decide ((1 : Int) < q) = false := by simp; omega
        have t3 : decide ((p : Int) + q < 1) = false := by simp; omega
        have t4 : decide ((2 : Int) < (p : Int) + q) = false := by simp; omega
        have t5 : ((p : Int) == 0) = false := by simp; omega
        have t6 : ((q : Int) == 0) = false := by simp; omega
        have k5 : (k == 5) = false := by simp; omega
        have k6 : (k == 6) = false := by simp; omega
        have k7 : (k == 7) = false := by simp; omega
        clear hc
        go_wp2
        go_roundg (gk - 1)
        case measure => omega
        case rel => exact ⟨j + 1, si + p, so + q, by omega, by go_num, by go_num, by go_num, by omega, by omega, B2.out, HS.1.out, HS.2.out⟩
    · have hd : decide ((j : Int) < n) = false := decide_eq_false (by omega)
      obtain rfl : j = n := by omega
      have e1 : si = m := by rw [← HSS.out]; exact HSI.out.1
      have e2 : so = m := by rw [← HSO.out]; exact HSI.out.2
      subst e1
      subst e2
      obtain ⟨p0, p1⟩ := HBX.out wr HB.out
      go_wp2_with fail
      refine Calls.mono (HLN.out wr (HS.out wr HB.out).2.2) ?_
      rintro e W9 ⟨rfl, B9⟩
      clear HLN p0 p1
      go_wp2
      go_ret
      exact ⟨rfl, B9.out⟩

end Go.Proofs.YtmhochajajaklaaDoor.NetSums
