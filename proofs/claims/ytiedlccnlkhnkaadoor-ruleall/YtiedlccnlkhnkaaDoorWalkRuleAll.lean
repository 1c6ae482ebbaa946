/-
  The walk of RuleAll: all rules of each process.
-/
import Derived.Test.YtiedlccnlkhnkaaDoorAllRuNode
import Derived.Test.YtiedlccnlkhnkaaDoorAllRuLine
import Derived.Test.YtiedlccnlkhnkaaDoorAllRuLarge
namespace Go.Proofs.YtiedlccnlkhnkaaDoor.RuleAll
open Go.RowKit Go.Shelf

set_option maxRecDepth 20000 in
set_option maxHeartbeats 4000000 in
theorem ints_eq (u1 u2 : Value) (L : List Int) (w : World) (h1 : Ru.Ints w u1 L) (h2 : Ru.Ints w u2 L) (hl : L.length ≤ 1000000) :
    Calls Tryd.prog 19 #[u1, u2] w fun e w' => e = .returned (.bool true) ∧ Below w.heap.size w w' := by
  obtain ⟨a, c, rfl, hc1⟩ := h1
  obtain ⟨b, d, rfl, hc2⟩ := h2
  obtain ⟨n, hn⟩ : ∃ n, L.length = n := ⟨_, rfl⟩
  have HE : Hid ((∀ j (h : j < L.length), ∃ g off, a = some ⟨g, off, none⟩ ∧ g < w.heap.size ∧ w.cell? ⟨g, off + j, none⟩ = some (.int .i64 L[j])) ∧ (∀ j (h : j < L.length), ∃ g off, b = some ⟨g, off, none⟩ ∧ g < w.heap.size ∧ w.cell? ⟨g, off + j, none⟩ = some (.int .i64 L[j])) ∧ L.length = n) := ⟨fun j hj => by
    obtain ⟨g, off, cs, fr, e1, e2, e3⟩ := hc1 j hj
    exact ⟨g, off, e1, Ru.lt_of e2, e3⟩, fun j hj => by
    obtain ⟨g, off, cs, fr, e1, e2, e3⟩ := hc2 j hj
    exact ⟨g, off, e1, Ru.lt_of e2, e3⟩, hn⟩
  rw [hn]
  have hn' : n ≤ 1000000 := by omega
  clear hc1 hc2 hn hl
  go_enter Tryd.func19, Tryd.ntmps19
  go_wp2
  go_loopg [8] n (fun gk s wr => ∃ k : Nat, gk + k = n ∧ s = .int .i64 k ∧ Hid (Below w.heap.size w wr))
  case atStart => exact ⟨0, by omega, rfl, Below.refl _ _⟩
  case round =>
    obtain ⟨k, hk, rfl, HI⟩ := hrel
    by_cases hlt : k < n
    · have hd : decide ((k : Int) < n) = true := decide_eq_true (by omega)
      have hkl : k < L.length := by rw [HE.out.2.2]; exact hlt
      have hd2 : decide ((n : Int) ≤ k) = false := decide_eq_false (by omega)
      have hd2n : decide (n ≤ k) = false := decide_eq_false (by omega)
      have hk0 : (0 : Int) ≤ k := by omega
      have hwk : IntKind.i64.wrap (k : Int) = k := Go.IntWalk.i64_in _ (by omega)
      have hlt' : (k : Int) < n := by omega
      obtain ⟨g, off, rfl, hg, h0⟩ := HE.out.1 k hkl
      obtain ⟨g', off', rfl, hg', h3⟩ := HE.out.2.1 k hkl
      rw [← HI.out.cell (p := ⟨g, off + k, none⟩) hg] at h0
      rw [← HI.out.cell (p := ⟨g', off' + k, none⟩) hg'] at h3
      obtain ⟨x, hx⟩ : ∃ x, L[k] = x := ⟨_, rfl⟩
      rw [hx] at h0 h3
      have hxy' : (x == x) = true := by simp
      clear hx hg hg'
      go_wp2
      go_region
      all_goals
        go_wp2
        go_roundg (gk - 1)
        case measure => omega
        case rel => exact ⟨k + 1, by omega, by go_num, by first | exact HI.out | exact HI.out.drew | exact Tk.below_drewN HI.out _⟩
    · have hd : decide ((k : Int) < n) = false := decide_eq_false (by omega)
      obtain rfl : k = n := by omega
      go_wp2
      go_ret
      exact ⟨rfl, HI.out⟩

set_option maxRecDepth 20000 in
set_option maxHeartbeats 16000000 in
theorem walk (an : Option Addr) (cn : Nat) (af : Option Addr) (cf : Nat) (ns : List Nd) (fs : List Fl) (d : Nat) (w : World) (hN : Nt.Nds w w.heap.size d an ns) (hF : Nt.Fls w w.heap.size d af fs) (hO : Tk.Ops w) :
    Calls Tryd.prog 5 #[.agg #[.slice an ns.length cn, .slice af fs.length cf]] w fun e w' => e = .returned (.bool true) ∧ Below w.heap.size w w' := by
  obtain ⟨w0, hw0⟩ : ∃ x, w.alloc (.cells #[.slice an ns.length cn, .slice af fs.length cf] 25) = x := ⟨_, rfl⟩
  have A0 : Below w.heap.size w w0 := by rw [← hw0]; exact (Below.refl _ w).alloc (Nat.le_refl _) _
  have G0 : w0.heap[w.heap.size]? = some (.cells #[.slice an ns.length cn, .slice af fs.length cf] 25 (0, 0)) := by rw [← hw0]; exact heap_alloc_new w _
  have hlg := Tryd.nlarge14_any an cn af cf d ns fs w0 ((hN.below A0).wider A0.size) ((hF.below A0).wider A0.size)
  have HLN : Hid (∀ W, Below w.heap.size w W → Calls Tryd.prog 16 #[] W fun e w' => e = .returned (.bool true) ∧ Hid (Below w.heap.size w w')) := fun W hb => (Tryd.line14_any W (hO.below hb hO.lt)).mono fun e w' h => ⟨h.1, hb.trans (h.2.mono hb.size)⟩
  obtain ⟨n, hnn⟩ : ∃ n, ns.length = n := ⟨_, rfl⟩
  obtain ⟨m, hmm⟩ : ∃ n, fs.length = n := ⟨_, rfl⟩
  have HBX : Hid (∀ W, Below w0.heap.size w0 W → W.cell? ⟨w.heap.size, 0, none⟩ = some (.slice an n cn) ∧ W.cell? ⟨w.heap.size, 1, none⟩ = some (.slice af m cf)) := fun W hb => by
    have := Nt.box2 ((hb.block _ (Nt.lt_of G0)).trans G0)
    rw [hnn, hmm] at this
    exact this
  have HNF : Hid (Nt.Nds w w.heap.size d an ns ∧ Nt.Fls w w.heap.size d af fs ∧ Tk.Ops w ∧ ns.length = n ∧ fs.length = m) := ⟨hN, hF, hO, hnn, hmm⟩
  rw [hnn, hmm] at hlg hw0 ⊢
  have HL : Hid _ := hlg
  have H0 : Hid (w.alloc (.cells #[.slice an n cn, .slice af m cf] 25) = w0) := hw0
  have HA : Hid (Below w.heap.size w w0) := A0
  clear hlg hw0 A0 G0 hN hF hO hnn hmm
  go_enter Tryd.func5, Tryd.ntmps5
  go_wp2_with fail
  rw [H0.out]
  refine Calls.mono HL.out ?_
  rintro e W1 ⟨hb1, rfl | ⟨rfl, hn60, hm100, hnz, hfz⟩⟩
  · have B1 : Hid (Below w.heap.size w W1) := HA.out.trans (hb1.mono HA.out.size)
    clear hb1 HL H0
    go_wp2_with fail
    refine Calls.mono (HLN.out W1 B1.out) ?_
    rintro e W2 ⟨rfl, B2⟩
    clear HLN
    go_wp2
    go_ret
    exact ⟨rfl, B2.out⟩
  have B1 : Hid (Below w0.heap.size w0 W1) := hb1
  have HS : Hid (∀ W, Below w0.heap.size w0 W → Nt.Has W W.heap.size d an af ns fs ∧ Tk.Ops W ∧ Below w.heap.size w W) := fun W hb => by
    have hbw : Below w.heap.size w W := HA.out.trans (hb.mono HA.out.size)
    refine ⟨⟨(HNF.out.1.below hbw).wider hbw.size, (HNF.out.2.1.below hbw).wider hbw.size, by omega, by omega, fun x hx => by have := hnz x hx; omega, fun x hx => by have := hfz x hx; omega⟩, HNF.out.2.2.1.below hbw HNF.out.2.2.1.lt, hbw⟩
  have hn' : n ≤ 30 := by rw [← HNF.out.2.2.2.1]; exact hn60
  have hm' : m ≤ 50 := by rw [← HNF.out.2.2.2.2]; exact hm100
  clear hb1 HL H0 hn60 hm100 hnz hfz
  obtain ⟨c, hc⟩ : ∃ c, (Nt.checkN ns fs).1 = c := ⟨_, rfl⟩
  have CA : Hid (∀ W, Below w0.heap.size w0 W → Calls Tryd.prog 17 #[.agg #[.slice an n cn, .slice af m cf]] W fun e w' => Ru.AllGives 53 c (Ru.allP ns fs) W e w') := fun W hb => by
    have h := Tryd.rAll_any an cn af cf d ns fs W (HS.out W hb).1 (HS.out W hb).2.1
    rw [HNF.out.2.2.2.1, HNF.out.2.2.2.2, hc] at h
    exact h
  have CD : Hid (∀ W, Below w0.heap.size w0 W → Calls Tryd.prog 18 #[.agg #[.slice an n cn, .slice af m cf]] W fun e w' => Ru.AllGives 54 c (Ru.allD ns fs) W e w') := fun W hb => by
    have h := Tryd.dAll_any an cn af cf d ns fs W (HS.out W hb).1
    rw [HNF.out.2.2.2.1, HNF.out.2.2.2.2, hc] at h
    exact h
  have HEQ : Hid (c = 0 → Ru.allD ns fs = Ru.allP ns fs) := fun h => Ru.allD_eq (hc.trans h)
  obtain ⟨p0, p1⟩ := HBX.out W1 B1.out
  clear hc
  go_wp2_with fail
  refine Calls.mono (CA.out W1 B1.out) ?_
  rintro e W2 ⟨hb2, ⟨hc0, rfl⟩ | ⟨hc0, v, rfl, hrow⟩⟩
  · have B2 : Hid (Below w0.heap.size w0 W2) := B1.out.trans (hb2.mono B1.out.size)
    clear p0 p1 CA hb2
    obtain ⟨p0, p1⟩ := HBX.out W2 B2.out
    go_wp2_with fail
    refine Calls.mono (CD.out W2 B2.out) ?_
    rintro e W3 ⟨hb3, ⟨hc1, rfl⟩ | ⟨hc1, -⟩⟩
    · have B3 : Hid (Below w.heap.size w W3) := (HS.out W3 (B2.out.trans (hb3.mono B2.out.size))).2.2
      clear p0 p1 CD hb3
      go_wp2
      go_loopg [33] 0 (fun _ s33 wr => s33 = .int .i64 0 ∧ W3 = wr)
      case atStart => exact ⟨rfl, rfl⟩
      case round =>
        obtain ⟨rfl, hww⟩ := hrel
        subst hww
        go_wp2_with fail
        refine Calls.mono (HLN.out W3 B3.out) ?_
        rintro e W4 ⟨rfl, B4⟩
        clear HLN
        go_wp2
        go_ret
        exact ⟨rfl, B4.out⟩
    · exact absurd hc1 hc0
  subst hc0
  have B2 : Hid (Below w0.heap.size w0 W2) := B1.out.trans (hb2.mono B1.out.size)
  obtain ⟨L, hL⟩ : ∃ L, (Ru.allP ns fs).length = L := ⟨_, rfl⟩
  obtain ⟨av, cv, rfl, -⟩ := id hrow.at
  rw [hL] at hrow ⊢
  have HRW : Hid (Ru.Row 53 W1.heap.size W2 (.slice av L cv) (Ru.allP ns fs)) := hrow
  clear p0 p1 CA hb2 hrow
  obtain ⟨p0, p1⟩ := HBX.out W2 B2.out
  go_wp2_with fail
  refine Calls.mono (CD.out W2 B2.out) ?_
  rintro e W3 ⟨hb3, ⟨hc1, -⟩ | ⟨-, v, rfl, hrow⟩⟩
  · exact absurd rfl hc1
  rw [HEQ.out (by first | rfl | trivial)] at hrow
  obtain ⟨av2, cv2, rfl, -⟩ := id hrow.at
  rw [hL] at hrow ⊢
  have HR3 : Hid (Ru.Row 53 W1.heap.size W3 (.slice av L cv) (Ru.allP ns fs) ∧ Ru.Row 54 W2.heap.size W3 (.slice av2 L cv2) (Ru.allP ns fs) ∧ Below w0.heap.size w0 W3 ∧ (Ru.allP ns fs).length = L) := ⟨HRW.out.below hb3, hrow, B2.out.trans (hb3.mono B2.out.size), hL⟩
  have HLEN : Hid (∀ r, r ∈ Ru.allP ns fs → r.ne.length ≤ 1000000 ∧ r.gi.length ≤ 1000000) := fun r hr => by
    have h1 := Ru.ne_len r hr
    have h2 := Ru.gi_len r hr
    have := HNF.out.2.2.2.2
    omega
  have hLb : L ≤ 1000000 := by
    have : ∀ k, ((List.range k).flatMap (Ru.rulesP ns fs)).length ≤ k * 100 := fun k => by
      induction k with
      | zero => simp
      | succ k ih =>
        rw [Ru.flat_take]
        have := Ru.rulesP_len ns fs k (HS.out W2 B2.out).1.flen
        omega
    have := this n
    rw [← hL, Ru.allP, HNF.out.2.2.2.1]
    omega
  clear p0 p1 CD hb3 hrow HRW hL
  have hLL : ((L : Int) != (L : Int)) = false := by simp
  go_wp2
  go_loopg [33] L (fun gk s33 wr => ∃ k : Nat, gk + k = L ∧ s33 = .int .i64 k ∧ Hid (Below W3.heap.size W3 wr))
  case atStart => exact ⟨0, by omega, rfl, Below.refl _ _⟩
  case round =>
    obtain ⟨k, hk, rfl, HI⟩ := hrel
    by_cases hlt : k < L
    · have hd : decide ((k : Int) < L) = true := decide_eq_true (by omega)
      have hkl : k < (Ru.allP ns fs).length := by rw [HR3.out.2.2.2]; exact hlt
      obtain ⟨a', c', hv, hat⟩ := HR3.out.1.at
      simp only [Value.slice.injEq] at hv
      obtain ⟨rfl, -, rfl⟩ := hv
      obtain ⟨g1, u1, u2, rfl, hg1, r0, r1, r2, r3, I1, I2⟩ := hat k hkl
      obtain ⟨a', c', hv, hat2⟩ := HR3.out.2.1.at
      simp only [Value.slice.injEq] at hv
      obtain ⟨rfl, -, rfl⟩ := hv
      obtain ⟨g2, u3, u4, rfl, hg2, t0, t1, t2, t3, I3, I4⟩ := hat2 k hkl
      obtain ⟨x, hx⟩ : ∃ z, (Ru.allP ns fs)[k] = z := ⟨_, rfl⟩
      have hm := HLEN.out _ (List.getElem_mem hkl)
      rw [hx] at r0 r1 I1 I2 t0 t1 I3 I4 hm
      obtain ⟨v0, hv0⟩ : ∃ z, x.kd = z := ⟨_, rfl⟩
      obtain ⟨v1, hv1⟩ : ∃ z, x.nd = z := ⟨_, rfl⟩
      rw [hv0] at r0 t0
      rw [hv1] at r1 t1
      obtain ⟨b1, d1, rfl, -⟩ := id I1
      obtain ⟨b2, d2, rfl, -⟩ := id I2
      obtain ⟨b3, d3, rfl, -⟩ := id I3
      obtain ⟨b4, d4, rfl, -⟩ := id I4
      obtain ⟨n1, hn1⟩ : ∃ z, x.ne.length = z := ⟨_, rfl⟩
      obtain ⟨n2, hn2⟩ : ∃ z, x.gi.length = z := ⟨_, rfl⟩
      rw [hn1] at r2 t2 I1 I3
      rw [hn2] at r3 t3 I2 I4
      have CI1 : Hid (∀ W, Below W3.heap.size W3 W → Calls Tryd.prog 19 #[.slice b1 n1 d1, .slice b3 n1 d3] W fun e w' => e = .returned (.bool true) ∧ Hid (Below W3.heap.size W3 w')) := fun W hb => (ints_eq (.slice b1 n1 d1) (.slice b3 n1 d3) x.ne W (I1.below hb) (I3.below hb) hm.1).mono fun e w' h => ⟨h.1, hb.trans (h.2.mono hb.size)⟩
      have CI2 : Hid (∀ W, Below W3.heap.size W3 W → Calls Tryd.prog 19 #[.slice b2 n2 d2, .slice b4 n2 d4] W fun e w' => e = .returned (.bool true) ∧ Hid (Below W3.heap.size W3 w')) := fun W hb => (ints_eq (.slice b2 n2 d2) (.slice b4 n2 d4) x.gi W (I2.below hb) (I4.below hb) hm.2).mono fun e w' h => ⟨h.1, hb.trans (h.2.mono hb.size)⟩
      have CF : Hid (∀ W, Below W3.heap.size W3 W → W.cell? ⟨g1, k * 4, none⟩ = some (.int .i64 v0) ∧ W.cell? ⟨g1, k * 4 + 1, none⟩ = some (.int .i64 v1) ∧ W.cell? ⟨g1, k * 4 + 2, none⟩ = some (.slice b1 n1 d1) ∧ W.cell? ⟨g1, k * 4 + 3, none⟩ = some (.slice b2 n2 d2) ∧ W.cell? ⟨g2, k * 4, none⟩ = some (.int .i64 v0) ∧ W.cell? ⟨g2, k * 4 + 1, none⟩ = some (.int .i64 v1) ∧ W.cell? ⟨g2, k * 4 + 2, none⟩ = some (.slice b3 n1 d3) ∧ W.cell? ⟨g2, k * 4 + 3, none⟩ = some (.slice b4 n2 d4)) := fun W hb => by
        have e1 : ∀ o, W.cell? ⟨g1, o, none⟩ = W3.cell? ⟨g1, o, none⟩ := fun o => hb.cell (p := ⟨g1, o, none⟩) hg1
        have e2 : ∀ o, W.cell? ⟨g2, o, none⟩ = W3.cell? ⟨g2, o, none⟩ := fun o => hb.cell (p := ⟨g2, o, none⟩) hg2
        exact ⟨by rw [e1]; exact r0, by rw [e1]; exact r1, by rw [e1]; exact r2, by rw [e1]; exact r3, by rw [e2]; exact t0, by rw [e2]; exact t1, by rw [e2]; exact t2, by rw [e2]; exact t3⟩
      have hv00 : (v0 != v0) = false := by simp
      have hv11 : (v1 != v1) = false := by simp
      have hk0 : (0 : Int) ≤ k := by omega
      have hkL : (k : Int) < L := by omega
      have BR : Hid (Below W3.heap.size W3 wr) := HI.out
      clear hat hat2 hg1 hg2 r0 r1 r2 r3 t0 t1 t2 t3 I1 I2 I3 I4 hx hv0 hv1 hn1 hn2 hm HI
      go_upto_region 10 with fail
      go_region_held3 (fun W => W.cell? ⟨g1, k * 4, none⟩ = some (.int .i64 v0) ∧ W.cell? ⟨g1, k * 4 + 1, none⟩ = some (.int .i64 v1) ∧ W.cell? ⟨g1, k * 4 + 2, none⟩ = some (.slice b1 n1 d1) ∧ W.cell? ⟨g1, k * 4 + 3, none⟩ = some (.slice b2 n2 d2) ∧ W.cell? ⟨g2, k * 4, none⟩ = some (.int .i64 v0) ∧ W.cell? ⟨g2, k * 4 + 1, none⟩ = some (.int .i64 v1) ∧ W.cell? ⟨g2, k * 4 + 2, none⟩ = some (.slice b3 n1 d3) ∧ W.cell? ⟨g2, k * 4 + 3, none⟩ = some (.slice b4 n2 d4))
        (first | exact CF.out _ B5.out | exact CF.out _ B4.out | exact CF.out _ BR.out.drew | exact CF.out _ BR.out)
        (first
          | (go_simp; go_at_call 19; (first | (have hX := B4.out; refine Calls.mono (CI2.out _ hX) ?_; rintro e W5 ⟨rfl, B5⟩) | (refine Calls.mono (CI1.out _ ?_) ?_; (first | exact BR.out.drew | exact BR.out); rintro e W4 ⟨rfl, B4⟩))))
      all_goals
        go_wp2
        go_roundg (gk - 1)
        case measure => omega
        case rel => exact ⟨k + 1, by omega, by go_num, B5.out⟩
    · have hd : decide ((k : Int) < L) = false := decide_eq_false (by omega)
      have hdn : decide (k < L) = false := decide_eq_false hlt
      have BW : Hid (Below w.heap.size w wr) := (HS.out wr (HR3.out.2.2.1.trans (HI.out.mono HR3.out.2.2.1.size))).2.2
      go_wp2_with fail
      refine Calls.mono (HLN.out wr BW.out) ?_
      rintro e W6 ⟨rfl, B6⟩
      clear HLN
      go_wp2
      go_ret
      exact ⟨rfl, B6.out⟩

end Go.Proofs.YtiedlccnlkhnkaaDoor.RuleAll
