/-
  The walk of NetFlows: each node's ins and outs, the start and the end, which messages are awaited.
-/
import Derived.Test.YtmhochajajaklaaDoorNtInts
import Derived.Test.YtmhochajajaklaaDoorNtRef1
import Derived.Test.YtmhochajajaklaaDoorNtRef2
import Derived.Test.YtmhochajajaklaaDoorNtLine
import Derived.Test.YtmhochajajaklaaDoorNtLarge
import Derived.Deep.RegionHeld3
namespace Go.Proofs.YtmhochajajaklaaDoor.NetFlows
open Go.RowKit Go.Shelf

/-- Two lists that are the same. -/
def Two (W : World) (a b : Option Addr) (l : Nat) : Prop := ∃ L : List Nat, L.length = l ∧ l ≤ 1000 ∧ Rk.Nums W W.heap.size a L ∧ Rk.Nums W W.heap.size b L

set_option maxRecDepth 20000 in
set_option maxHeartbeats 16000000 in
theorem walk (an : Option Addr) (cn : Nat) (af : Option Addr) (cf : Nat) (ns : List Nd) (fs : List Fl) (d : Nat) (i : Int) (w : World) (hN : Nt.Nds w w.heap.size d an ns) (hF : Nt.Fls w w.heap.size d af fs) (hO : Tk.Ops w) :
    Calls Tryd.prog 4 #[.agg #[.slice an ns.length cn, .slice af fs.length cf], .int .i64 i] w fun e w' => e = .returned (.bool true) ∧ Below w.heap.size w w' := by
  obtain ⟨w0, hw0⟩ : ∃ x, w.alloc (.cells #[.slice an ns.length cn, .slice af fs.length cf] 25) = x := ⟨_, rfl⟩
  have A0 : Below w.heap.size w w0 := by rw [← hw0]; exact (Below.refl _ w).alloc (Nat.le_refl _) _
  have G0 : w0.heap[w.heap.size]? = some (.cells #[.slice an ns.length cn, .slice af fs.length cf] 25 (0, 0)) := by rw [← hw0]; exact heap_alloc_new w _
  have hlg := Tryd.nlarge_any an cn af cf d ns fs w0 ((hN.below A0).wider A0.size) ((hF.below A0).wider A0.size)
  have HLN : Hid (∀ W, Below w.heap.size w W → Calls Tryd.prog 10 #[] W fun e w' => e = .returned (.bool true) ∧ Hid (Below w.heap.size w w')) := fun W hb => (Tryd.line_any W (hO.below hb hO.lt)).mono fun e w' h => ⟨h.1, hb.trans (h.2.mono hb.size)⟩
  obtain ⟨n, hnn⟩ : ∃ n, ns.length = n := ⟨_, rfl⟩
  obtain ⟨m, hmm⟩ : ∃ n, fs.length = n := ⟨_, rfl⟩
  have HBX : Hid (∀ W, Below w0.heap.size w0 W → W.cell? ⟨w.heap.size, 0, none⟩ = some (.slice an n cn) ∧ W.cell? ⟨w.heap.size, 1, none⟩ = some (.slice af m cf)) := fun W hb => by
    have := Nt.box2 ((hb.block _ (Nt.lt_of G0)).trans G0)
    rw [hnn, hmm] at this
    exact this
  have HNF : Hid (Nt.Nds w w.heap.size d an ns ∧ Nt.Fls w w.heap.size d af fs ∧ Tk.Ops w ∧ ns.length = n ∧ fs.length = m) := ⟨hN, hF, hO, hnn, hmm⟩
  rw [hnn, hmm] at hlg hw0 ⊢
  have HL : Hid _ := hlg
  have H0 : Hid (w.alloc (.cells #[.slice an n cn, .slice af m cf] 25) = w0) := hw0
  have HA : Hid (Below w.heap.size w w0) := A0
  clear hlg hw0 A0 G0 hN hF hO hnn hmm
  go_enter Tryd.func4, Tryd.ntmps4
  go_wp2_with fail
  rw [H0.out]
  refine Calls.mono HL.out ?_
  rintro e W1 ⟨hb1, rfl | ⟨rfl, hn60, hm100, hnz, hfz⟩⟩
  · have B1 : Hid (Below w.heap.size w W1) := HA.out.trans (hb1.mono HA.out.size)
    clear hb1 HL H0
    go_wp2_with fail
    refine Calls.mono (HLN.out W1 B1.out) ?_
    rintro e W2 ⟨rfl, B2⟩
    clear HLN
    go_wp2
    go_ret
    exact ⟨rfl, B2.out⟩
  have B1 : Hid (Below w0.heap.size w0 W1) := hb1
  have HS : Hid (∀ W, Below w0.heap.size w0 W → Nt.Has W W.heap.size d an af ns fs ∧ Tk.Ops W ∧ Below w.heap.size w W) := fun W hb => by
    have hbw : Below w.heap.size w W := HA.out.trans (hb.mono HA.out.size)
    refine ⟨⟨(HNF.out.1.below hbw).wider hbw.size, (HNF.out.2.1.below hbw).wider hbw.size, by omega, by omega, fun x hx => by have := hnz x hx; omega, fun x hx => by have := hfz x hx; omega⟩, HNF.out.2.2.1.below hbw HNF.out.2.2.1.lt, hbw⟩
  have hn' : n ≤ 60 := by rw [← HNF.out.2.2.2.1]; exact hn60
  have hm' : m ≤ 100 := by rw [← HNF.out.2.2.2.2]; exact hm100
  clear hb1 HL H0 hn60 hm100 hnz hfz
  obtain ⟨L1, hL1⟩ : ∃ l, Nt.insL fs i = l := ⟨_, rfl⟩
  obtain ⟨L2, hL2⟩ : ∃ l, Nt.outsL fs i = l := ⟨_, rfl⟩
  obtain ⟨l1, hl1⟩ : ∃ l, L1.length = l := ⟨_, rfl⟩
  obtain ⟨l2, hl2⟩ : ∃ l, L2.length = l := ⟨_, rfl⟩
  obtain ⟨s, hs⟩ : ∃ z, Nt.firstI ns 1 = z := ⟨_, rfl⟩
  obtain ⟨t, ht⟩ : ∃ z, Nt.firstI ns 2 = z := ⟨_, rfl⟩
  obtain ⟨aw, haw⟩ : ∃ z, Nt.awaitsB ns i = z := ⟨_, rfl⟩
  have h1000 : l1 ≤ 1000 ∧ l2 ≤ 1000 := by
    have := (HS.out W1 B1.out).1.flen
    rw [← hl1, ← hl2, ← hL1, ← hL2, Nt.insL_len, Nt.outsL_len]
    unfold Nt.insN Nt.outsN
    exact ⟨Nat.le_trans List.countP_le_length (by omega), Nat.le_trans List.countP_le_length (by omega)⟩
  have CI : Hid (∀ W, Below w0.heap.size w0 W → Calls Tryd.prog 14 #[.agg #[.slice an n cn, .slice af m cf], .int .i64 i] W fun e w' => ∃ a c, e = .returned (.slice a l1 c) ∧ Hid (Below w0.heap.size w0 w' ∧ Rk.Nums w' w'.heap.size a L1)) := fun W hb => by
    have h := Tryd.nIns_any i an n cn af cf d fs W (HS.out W hb).1.fls (HS.out W hb).1.flen
    rw [HNF.out.2.2.2.2, hL1] at h
    refine h.mono fun e w' ⟨v, hv, ho, hbb⟩ => ?_
    obtain ⟨a, c, rfl⟩ := Rk.own_shape ho
    rw [hl1] at hv
    exact ⟨a, c, hv, hb.trans (hbb.mono hb.size), Rk.nums_of_own ho⟩
  have CO : Hid (∀ W, Below w0.heap.size w0 W → Calls Tryd.prog 16 #[.agg #[.slice an n cn, .slice af m cf], .int .i64 i] W fun e w' => ∃ a c, e = .returned (.slice a l2 c) ∧ Hid (Below w0.heap.size w0 w' ∧ Rk.Nums w' w'.heap.size a L2)) := fun W hb => by
    have h := Tryd.nOuts_any i an n cn af cf d fs W (HS.out W hb).1.fls (HS.out W hb).1.flen
    rw [HNF.out.2.2.2.2, hL2] at h
    refine h.mono fun e w' ⟨v, hv, ho, hbb⟩ => ?_
    obtain ⟨a, c, rfl⟩ := Rk.own_shape ho
    rw [hl2] at hv
    exact ⟨a, c, hv, hb.trans (hbb.mono hb.size), Rk.nums_of_own ho⟩
  have CRI : Hid (∀ W a, Below w0.heap.size w0 W → Rk.Nums W W.heap.size a L1 → Calls Tryd.prog 15 #[.agg #[.slice an n cn, .slice af m cf], .int .i64 i] W fun e w' => ∃ b c, e = .returned (.slice b l1 c) ∧ Hid (Below w0.heap.size w0 w' ∧ Two w' a b l1)) := fun W a hb ha => by
    have h := Tryd.rIns_any i an n cn af cf d fs W (HS.out W hb).1.fls (HS.out W hb).1.flen
    rw [HNF.out.2.2.2.2, hL1] at h
    refine h.mono fun e w' ⟨v, hv, ho, hbb⟩ => ?_
    obtain ⟨b, c, rfl⟩ := Rk.own_shape ho
    rw [hl1] at hv
    exact ⟨b, c, hv, hb.trans (hbb.mono hb.size), L1, hl1, h1000.1, (ha.below hbb).wider hbb.size, Rk.nums_of_own ho⟩
  have CRO : Hid (∀ W a, Below w0.heap.size w0 W → Rk.Nums W W.heap.size a L2 → Calls Tryd.prog 17 #[.agg #[.slice an n cn, .slice af m cf], .int .i64 i] W fun e w' => ∃ b c, e = .returned (.slice b l2 c) ∧ Hid (Below w0.heap.size w0 w' ∧ Two w' a b l2)) := fun W a hb ha => by
    have h := Tryd.rOuts_any i an n cn af cf d fs W (HS.out W hb).1.fls (HS.out W hb).1.flen
    rw [HNF.out.2.2.2.2, hL2] at h
    refine h.mono fun e w' ⟨v, hv, ho, hbb⟩ => ?_
    obtain ⟨b, c, rfl⟩ := Rk.own_shape ho
    rw [hl2] at hv
    exact ⟨b, c, hv, hb.trans (hbb.mono hb.size), L2, hl2, h1000.2, (ha.below hbb).wider hbb.size, Rk.nums_of_own ho⟩
  have CII : Hid (∀ W a b c d' l, Below w0.heap.size w0 W → Two W a b l → Calls Tryd.prog 13 #[.slice a l c, .slice b l d'] W fun e w' => e = .returned (.bool true) ∧ Hid (Below w0.heap.size w0 w')) := fun W a b c d' l hb ⟨L, hl, hk, h1, h2⟩ => by
    subst hl
    exact (Tryd.ints_same a b c d' L W h1 h2 (by omega)).mono fun e w' q => ⟨q.1, hb.trans (q.2.mono hb.size)⟩
  have CST : Hid (∀ W, Below w0.heap.size w0 W → Calls Tryd.prog 18 #[.agg #[.slice an n cn, .slice af m cf]] W fun e w' => e = .returned (.int .i64 s) ∧ Hid (Below w0.heap.size w0 w')) := fun W hb => by
    have h := Tryd.nStart_any an cn d af m cf ns W (HS.out W hb).1.nds (HS.out W hb).1.nlen
    rw [hs, HNF.out.2.2.2.1] at h
    exact h.mono fun e w' q => ⟨q.1, hb.trans (q.2.mono hb.size)⟩
  have CEN : Hid (∀ W, Below w0.heap.size w0 W → Calls Tryd.prog 20 #[.agg #[.slice an n cn, .slice af m cf]] W fun e w' => e = .returned (.int .i64 t) ∧ Hid (Below w0.heap.size w0 w')) := fun W hb => by
    have h := Tryd.nEnd_any an cn d af m cf ns W (HS.out W hb).1.nds (HS.out W hb).1.nlen
    rw [ht, HNF.out.2.2.2.1] at h
    exact h.mono fun e w' q => ⟨q.1, hb.trans (q.2.mono hb.size)⟩
  have CFI : Hid (∀ W k v, Below w0.heap.size w0 W → (k = 1 ∧ v = s ∨ k = 2 ∧ v = t) → Calls Tryd.prog 19 #[.agg #[.slice an n cn, .slice af m cf], .int .i64 k] W fun e w' => e = .returned (.int .i64 v) ∧ Hid (Below w0.heap.size w0 w')) := fun W k v hb hkv => by
    have h := Tryd.rFirst_any k an cn d af m cf ns W (HS.out W hb).1.nds (HS.out W hb).1.nlen
    have hv : Nt.firstI ns k = v := by
      rcases hkv with ⟨rfl, rfl⟩ | ⟨rfl, rfl⟩
      · exact hs
      · exact ht
    rw [hv, HNF.out.2.2.2.1] at h
    exact h.mono fun e w' q => ⟨q.1, hb.trans (q.2.mono hb.size)⟩
  have CF1 : Hid (∀ W, Below w0.heap.size w0 W → Calls Tryd.prog 19 #[.agg #[.slice an n cn, .slice af m cf], .int .i64 1] W fun e w' => e = .returned (.int .i64 s) ∧ Hid (Below w0.heap.size w0 w')) := fun W hb => CFI.out W 1 s hb (.inl ⟨rfl, rfl⟩)
  have CF2 : Hid (∀ W, Below w0.heap.size w0 W → Calls Tryd.prog 19 #[.agg #[.slice an n cn, .slice af m cf], .int .i64 2] W fun e w' => e = .returned (.int .i64 t) ∧ Hid (Below w0.heap.size w0 w')) := fun W hb => CFI.out W 2 t hb (.inr ⟨rfl, rfl⟩)
  have CAW : Hid (∀ W, Below w0.heap.size w0 W → Calls Tryd.prog 21 #[.agg #[.slice an n cn, .slice af m cf], .int .i64 i] W fun e w' => e = .returned (.bool aw) ∧ Hid (Below w0.heap.size w0 w')) := fun W hb => by
    have h := Tryd.awaits_any i an cn d af m cf ns W (HS.out W hb).1.nds (HS.out W hb).1.nlen
    rw [haw, HNF.out.2.2.2.1] at h
    exact h.mono fun e w' q => ⟨q.1, hb.trans (q.2.mono hb.size)⟩
  have CLN : Hid (∀ W, Below w0.heap.size w0 W → Calls Tryd.prog 10 #[] W fun e w' => e = .returned (.bool true) ∧ Hid (Below w0.heap.size w0 w')) := fun W hb => (Tryd.line_any W (HS.out W hb).2.1).mono fun e w' h => ⟨h.1, hb.trans (h.2.mono hb.size)⟩
  have HAW : Hid (aw = (decide (0 ≤ i) && decide (i < 4) && ns.any (Nt.waitB i))) := by show _ = _; rw [← haw]; rfl
  obtain ⟨p0, p1⟩ := HBX.out W1 B1.out
  clear hL1 hL2 hl1 hl2 hs ht haw h1000 HLN
  go_wp2
  clear p0 p1
  go_loopg [5, 14] n (fun gk s5 s14 wr => ∃ (j : Nat) (b : Bool), gk + j = n ∧ s14 = .int .i64 j ∧ s5 = .bool b ∧ Hid (Below w0.heap.size w0 wr ∧ b = (decide (0 ≤ i) && decide (i < 4) && (ns.take j).any (Nt.waitB i))))
  case atStart => exact ⟨0, false, by omega, rfl, rfl, B1.out, by simp⟩
  case round =>
    obtain ⟨j, b, hj, rfl, rfl, HI⟩ := hrel
    by_cases hlt : j < n
    · have hd : decide ((j : Int) < n) = true := decide_eq_true (by omega)
      have hjl : j < ns.length := by rw [HNF.out.2.2.2.1]; exact hlt
      obtain ⟨g, off, u, rfl, hg, q0, q1, q2, q3, q4, hT⟩ := HNF.out.1 j hjl
      obtain ⟨au, cu, rfl⟩ := hT.shape
      obtain ⟨x0, hx0⟩ : ∃ z, ns[j].kind = z := ⟨_, rfl⟩
      obtain ⟨x1, hx1⟩ : ∃ z, ns[j].a = z := ⟨_, rfl⟩
      obtain ⟨x2, hx2⟩ : ∃ z, ns[j].t.op = z := ⟨_, rfl⟩
      obtain ⟨x3, hx3⟩ : ∃ z, ns[j].t.num = z := ⟨_, rfl⟩
      obtain ⟨nu, hnu⟩ : ∃ z, ns[j].t.ks.length = z := ⟨_, rfl⟩
      rw [hx0] at q0
      rw [hx1] at q1
      rw [hx2] at q2
      rw [hx3] at q3
      rw [hnu] at q4
      have hcc : ∀ o, wr.cell? ⟨g, o, none⟩ = w.cell? ⟨g, o, none⟩ := fun o => (HS.out wr HI.out.1).2.2.cell (p := ⟨g, o, none⟩) hg
      have d0 := (hcc _).trans q0
      have d1 := (hcc _).trans q1
      have d2 := (hcc _).trans q2
      have d3 := (hcc _).trans q3
      have d4 := (hcc _).trans q4
      have hu := Tryd.underlying37
      have BN : Hid (Below w0.heap.size w0 (wr.alloc (.cells #[.int .i64 x0, .int .i64 x1, .int .i64 x2, .int .i64 x3, .slice au nu cu] 37))) := HI.out.1.alloc HI.out.1.size _
      have HNX : Hid ((decide (0 ≤ i) && decide (i < 4) && (ns.take (j + 1)).any (Nt.waitB i)) = (b || (decide (x0 = 8) && decide (x1 = i) && decide (0 ≤ i) && decide (i < 4)))) := by
        show _ = _
        rw [Tm.take_snoc _ _ hjl, List.any_append, HI.out.2]
        have : [ns[j]].any (Nt.waitB i) = (decide (x0 = 8) && decide (x1 = i)) := by simp [Nt.waitB, hx0, hx1]
        rw [this]
        cases decide (0 ≤ i) <;> cases decide (i < 4) <;> cases (ns.take j).any (Nt.waitB i) <;> cases decide (x0 = 8) <;> cases decide (x1 = i) <;> rfl
      clear hcc q0 q1 q2 q3 q4 hT hx0 hx1 hx2 hx3 hnu hg
      cases b with
      | true =>
        go_wp2
        go_roundg (gk - 1)
        case measure => omega
        case rel => exact ⟨j + 1, true, by omega, by go_num, rfl, BN.out, by rw [HNX.out]; rfl⟩
      | false =>
        by_cases h8 : x0 = 8
        rotate_left
        · have e8 : (x0 == 8) = false := by simpa using h8
          rw [decide_eq_false h8] at HNX
          clear h8
          go_wp2
          go_roundg (gk - 1)
          case measure => omega
          case rel => exact ⟨j + 1, false, by omega, by go_num, rfl, BN.out, by rw [HNX.out]; rfl⟩
        subst h8
        by_cases ha : x1 = i
        rotate_left
        · have e1 : (x1 == i) = false := by simpa using ha
          rw [decide_eq_false ha] at HNX
          clear ha
          go_wp2
          go_roundg (gk - 1)
          case measure => omega
          case rel => exact ⟨j + 1, false, by omega, by go_num, rfl, BN.out, by rw [HNX.out]; rfl⟩
        have e1 : (x1 == i) = true := by simpa using ha
        rw [decide_eq_true ha] at HNX
        clear ha
        by_cases h0 : 0 ≤ i
        rotate_left
        · have e2 : decide (0 ≤ i) = false := decide_eq_false h0
          rw [e2] at HNX
          clear h0
          go_wp2
          go_roundg (gk - 1)
          case measure => omega
          case rel => exact ⟨j + 1, false, by omega, by go_num, rfl, BN.out, by rw [e2, HNX.out]; rfl⟩
        have e2 : decide (0 ≤ i) = true := decide_eq_true h0
        by_cases h4 : i < 4
        · have e3 : decide (i < 4) = true := decide_eq_true h4
          rw [e2, e3] at HNX
          clear h0 h4
          go_wp2
          go_roundg (gk - 1)
          case measure => omega
          case rel => exact ⟨j + 1, true, by omega, by go_num, rfl, BN.out, by rw [e2, e3, HNX.out]; rfl⟩
        · have e3 : decide (i < 4) = false := decide_eq_false h4
          rw [e2, e3] at HNX
          clear h0 h4
          go_wp2
          go_roundg (gk - 1)
          case measure => omega
          case rel => exact ⟨j + 1, false, by omega, by go_num, rfl, BN.out, by rw [e2, e3, HNX.out]; rfl⟩
    · have hd : decide ((j : Int) < n) = false := decide_eq_false (by omega)
      have hb : b = aw := by
        have := HI.out.2
        rw [List.take_of_length_le (by rw [HNF.out.2.2.2.1]; omega)] at this
        rw [this, HAW.out]
      subst hb
      have X2 : Hid (Below w0.heap.size w0 wr) := HI.out.1
      clear HI HAW
      go_upto_region 9 with fail
      go_region_held3 (fun W => W.cell? ⟨w.heap.size, 0, none⟩ = some (.slice an n cn) ∧ W.cell? ⟨w.heap.size, 1, none⟩ = some (.slice af m cf))
        (first | exact HBX.out _ X14.out | exact HBX.out _ X13.out | exact HBX.out _ X11.out | exact HBX.out _ X10.out | exact HBX.out _ X9.out | exact HBX.out _ X5.out | exact HBX.out _ X7.out.1 | exact HBX.out _ X6.out.1 | exact HBX.out _ X4.out.1 | exact HBX.out _ X3.out.1 | exact HBX.out _ X2.out.drew | exact HBX.out _ X2.out)
        (first
        | (go_simp; go_at_call 14; refine Calls.mono (CI.out _ ?_) ?_; (first | exact X2.out | exact X2.out.drew); rintro e W3 ⟨a3, c3, rfl, X3⟩)
        | (go_simp; go_at_call 15; refine Calls.mono (CRI.out _ a3 ?_ ?_) ?_; (first | exact X3.out.1 | exact X3.out.1.drew); (exact X3.out.2); rintro e W4 ⟨a4, c4, rfl, X4⟩)
        | (go_simp; go_at_call 13; refine Calls.mono (CII.out _ _ _ _ _ _ ?_ ?_) ?_; (first | exact X7.out.1 | exact X4.out.1); (first | exact X7.out.2 | exact X4.out.2); rintro e W5 ⟨rfl, X5⟩)
        | (go_simp; go_at_call 16; refine Calls.mono (CO.out _ ?_) ?_; (first | exact X5.out | exact X5.out.drew); rintro e W6 ⟨a6, c6, rfl, X6⟩)
        | (go_simp; go_at_call 17; refine Calls.mono (CRO.out _ a6 ?_ ?_) ?_; (first | exact X6.out.1 | exact X6.out.1.drew); (exact X6.out.2); rintro e W7 ⟨a7, c7, rfl, X7⟩)
        | (go_simp; go_at_call 18; refine Calls.mono (CST.out _ ?_) ?_; (first | exact X5.out | exact X5.out.drew); rintro e W9 ⟨rfl, X9⟩)
        | (go_simp; go_at_call 19; (first | (have hX := X11.out; refine Calls.mono (CF2.out _ hX) ?_) | refine Calls.mono (CF1.out _ X9.out) ?_); rintro e W10 ⟨rfl, X10⟩)
        | (go_simp; go_at_call 20; refine Calls.mono (CEN.out _ ?_) ?_; (first | exact X10.out | exact X10.out.drew); rintro e W11 ⟨rfl, X11⟩)
        | (go_simp; go_at_call 21; refine Calls.mono (CAW.out _ ?_) ?_; (first | exact X10.out | exact X10.out.drew); rintro e W13 ⟨rfl, X13⟩)
        | (go_simp; go_at_call 10; refine Calls.mono (CLN.out _ ?_) ?_; (first | exact X13.out | exact X13.out.drew); rintro e W14 ⟨rfl, X14⟩))
      all_goals
        clear CI CO CRI CRO CII CST CEN CFI CF1 CF2 CAW CLN
        go_simp
        go_wp2
        go_ret
        exact ⟨rfl, (HS.out W14 X14.out).2.2⟩

end Go.Proofs.YtmhochajajaklaaDoor.NetFlows
