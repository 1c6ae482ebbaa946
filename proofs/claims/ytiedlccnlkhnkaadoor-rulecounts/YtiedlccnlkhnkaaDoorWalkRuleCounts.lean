/-
  The walk of RuleCounts: how many rules a process has, and that each flow is needed by some rule.
-/
import Derived.Test.YtiedlccnlkhnkaaDoorNtRef6
import Derived.Test.YtiedlccnlkhnkaaDoorRuPlain
import Derived.Test.YtiedlccnlkhnkaaDoorAllRuLine
import Derived.Test.YtiedlccnlkhnkaaDoorAllRuLarge
namespace Go.Proofs.YtiedlccnlkhnkaaDoor.RuleCounts
open Go.RowKit Go.Shelf

/-- Is a flow needed by one of these rules? -/
def needB (k : Nat) (rs : List Ru) : Bool := rs.any fun r => decide ((k : Int) ∈ r.ne)

set_option maxRecDepth 20000 in
set_option maxHeartbeats 16000000 in
theorem walk (an : Option Addr) (cn : Nat) (af : Option Addr) (cf : Nat) (ns : List Nd) (fs : List Fl) (d : Nat) (w : World) (hN : Nt.Nds w w.heap.size d an ns) (hF : Nt.Fls w w.heap.size d af fs) (hO : Tk.Ops w) :
    Calls Tryd.prog 7 #[.agg #[.slice an ns.length cn, .slice af fs.length cf]] w fun e w' => e = .returned (.bool true) ∧ Below w.heap.size w w' := by
  obtain ⟨w0, hw0⟩ : ∃ x, w.alloc (.cells #[.slice an ns.length cn, .slice af fs.length cf] 25) = x := ⟨_, rfl⟩
  have A0 : Below w.heap.size w w0 := by rw [← hw0]; exact (Below.refl _ w).alloc (Nat.le_refl _) _
  have G0 : w0.heap[w.heap.size]? = some (.cells #[.slice an ns.length cn, .slice af fs.length cf] 25 (0, 0)) := by rw [← hw0]; exact heap_alloc_new w _
  have hlg := Tryd.nlarge14_any an cn af cf d ns fs w0 ((hN.below A0).wider A0.size) ((hF.below A0).wider A0.size)
  have HLN : Hid (∀ W, Below w.heap.size w W → Calls Tryd.prog 16 #[] W fun e w' => e = .returned (.bool true) ∧ Hid (Below w.heap.size w w')) := fun W hb => (Tryd.line14_any W (hO.below hb hO.lt)).mono fun e w' h => ⟨h.1, hb.trans (h.2.mono hb.size)⟩
  obtain ⟨n, hnn⟩ : ∃ n, ns.length = n := ⟨_, rfl⟩
  obtain ⟨m, hmm⟩ : ∃ n, fs.length = n := ⟨_, rfl⟩
  have HBX : Hid (∀ W, Below w0.heap.size w0 W → W.cell? ⟨w.heap.size, 0, none⟩ = some (.slice an n cn) ∧ W.cell? ⟨w.heap.size, 1, none⟩ = some (.slice af m cf)) := fun W hb => by
    have := Nt.box2 ((hb.block _ (Nt.lt_of G0)).trans G0)
    rw [hnn, hmm] at this
    exact this
  have HNF : Hid (Nt.Nds w w.heap.size d an ns ∧ Nt.Fls w w.heap.size d af fs ∧ Tk.Ops w ∧ ns.length = n ∧ fs.length = m) := ⟨hN, hF, hO, hnn, hmm⟩
  rw [hnn, hmm] at hlg hw0 ⊢
  have HL : Hid _ := hlg
  have H0 : Hid (w.alloc (.cells #[.slice an n cn, .slice af m cf] 25) = w0) := hw0
  have HA : Hid (Below w.heap.size w w0 ∧ w.heap.size < w0.heap.size) := ⟨A0, Nt.lt_of G0⟩
  clear hlg hw0 A0 G0 hN hF hO hnn hmm
  go_enter Tryd.func7, Tryd.ntmps7
  go_wp2_with fail
  rw [H0.out]
  refine Calls.mono HL.out ?_
  rintro e W1 ⟨hb1, rfl | ⟨rfl, hn60, hm100, hnz, hfz⟩⟩
  · have B1 : Hid (Below w.heap.size w W1) := HA.out.1.trans (hb1.mono HA.out.1.size)
    clear hb1 HL H0
    go_wp2_with fail
    refine Calls.mono (HLN.out W1 B1.out) ?_
    rintro e W2 ⟨rfl, B2⟩
    clear HLN
    go_wp2
    go_ret
    exact ⟨rfl, B2.out⟩
  have B1 : Hid (Below w0.heap.size w0 W1) := hb1
  have HS : Hid (∀ W, Below w0.heap.size w0 W → Nt.Has W W.heap.size d an af ns fs ∧ Tk.Ops W ∧ Below w.heap.size w W) := fun W hb => by
    have hbw : Below w.heap.size w W := HA.out.1.trans (hb.mono HA.out.1.size)
    refine ⟨⟨(HNF.out.1.below hbw).wider hbw.size, (HNF.out.2.1.below hbw).wider hbw.size, by omega, by omega, fun x hx => by have := hnz x hx; omega, fun x hx => by have := hfz x hx; omega⟩, HNF.out.2.2.1.below hbw HNF.out.2.2.1.lt, hbw⟩
  have hn' : n ≤ 30 := by rw [← HNF.out.2.2.2.1]; exact hn60
  have hm' : m ≤ 50 := by rw [← HNF.out.2.2.2.2]; exact hm100
  clear hb1 HL H0 hn60 hm100 hnz hfz
  obtain ⟨p0, p1⟩ := HBX.out W1 B1.out
  have CR : Hid (∀ W, Below w0.heap.size w0 W → Calls Tryd.prog 13 #[.agg #[.slice an n cn, .slice af m cf]] W fun e w' => e = .returned (.agg #[.int .i64 ((Nt.checkN ns fs).1 : Int), .int .i64 ((Nt.checkN ns fs).2 : Int)]) ∧ Hid (Below w0.heap.size w0 w')) := fun W hb => by
    have h := Tryd.rCheck_any an cn af cf d ns fs W (HS.out W hb).1
    rw [HNF.out.2.2.2.1, HNF.out.2.2.2.2] at h
    exact h.mono fun e w' q => ⟨q.1, hb.trans (q.2.mono hb.size)⟩
  have CA : Hid (∀ W, Below w0.heap.size w0 W → Calls Tryd.prog 17 #[.agg #[.slice an n cn, .slice af m cf]] W fun e w' => Ru.AllGives 53 (Nt.checkN ns fs).1 (Ru.allP ns fs) W e w') := fun W hb => by
    have h := Tryd.rAll_any an cn af cf d ns fs W (HS.out W hb).1 (HS.out W hb).2.1
    rw [HNF.out.2.2.2.1, HNF.out.2.2.2.2] at h
    exact h
  have CI : Hid (∀ (W : World) (i : Nat), Below w0.heap.size w0 W → Calls Tryd.prog 25 #[.agg #[.slice an n cn, .slice af m cf], .int .i64 i] W fun e w' => ∃ a c, e = .returned (.slice a (Nt.insN fs i) c) ∧ Hid (Below W.heap.size W w')) := fun W i hb => by
    have h := Tryd.rIns_any i an n cn af cf d fs W (HS.out W hb).1.fls (HS.out W hb).1.flen
    rw [HNF.out.2.2.2.2] at h
    refine h.mono fun e w' ⟨v, hv, ho, hbb⟩ => ?_
    obtain ⟨a, c, rfl⟩ := Rk.own_shape ho
    rw [Nt.insL_len] at hv
    exact ⟨a, c, hv, hbb⟩
  have CO : Hid (∀ (W : World) (i : Nat), Below w0.heap.size w0 W → Calls Tryd.prog 26 #[.agg #[.slice an n cn, .slice af m cf], .int .i64 i] W fun e w' => ∃ a c, e = .returned (.slice a (Nt.outsN fs i) c) ∧ Hid (Below W.heap.size W w')) := fun W i hb => by
    have h := Tryd.rOuts_any i an n cn af cf d fs W (HS.out W hb).1.fls (HS.out W hb).1.flen
    rw [HNF.out.2.2.2.2] at h
    refine h.mono fun e w' ⟨v, hv, ho, hbb⟩ => ?_
    obtain ⟨a, c, rfl⟩ := Rk.own_shape ho
    rw [Nt.outsL_len] at hv
    exact ⟨a, c, hv, hbb⟩
  obtain ⟨c, hc⟩ : ∃ c, Nt.checkN ns fs = c := ⟨_, rfl⟩
  rw [hc] at CR CA
  obtain ⟨r, at_⟩ := c
  have HCK : Hid (Nt.checkN ns fs = (r, at_)) := hc
  have hfd : ∀ W : World, (Instr.field 40 (.agg #[.int .i64 (r : Int), .int .i64 (at_ : Int)]) 0).run Tryd.prog W = .ok (.int .i64 (r : Int)) W := fun _ => by kernel_rfl
  clear hc
  by_cases hr : r = 0
  rotate_left
  · have e0 : ((r : Int) != 0) = true := by simpa using hr
    clear hr CA CI CO
    go_wp2_with fail
    refine Calls.mono (CR.out W1 B1.out) ?_
    rintro e W2 ⟨rfl, B2⟩
    clear p0 p1 CR
    go_wp2_with fail
    refine Calls.mono (HLN.out W2 (HS.out W2 B2.out).2.2) ?_
    rintro e W3 ⟨rfl, B3⟩
    clear HLN
    go_wp2
    go_ret
    exact ⟨rfl, B3.out⟩
  subst hr
  have hfd0 : ∀ W : World, (Instr.field 40 (.agg #[.int .i64 0, .int .i64 (at_ : Int)]) 0).run Tryd.prog W = .ok (.int .i64 0) W := fun _ => by kernel_rfl
  have HR : Hid (Nt.wrong1 ns fs = [] ∧ Nt.wrong2 ns fs = [] ∧ Nt.wrong3 ns fs = [] ∧ Nt.wrong4 ns fs = []) := Ru.right_keeps (by rw [HCK.out])
  go_wp2_with fail
  refine Calls.mono (CR.out W1 B1.out) ?_
  rintro e W2 ⟨rfl, B2⟩
  clear p0 p1 CR
  obtain ⟨p0, p1⟩ := HBX.out W2 B2.out
  go_wp2_with fail
  refine Calls.mono (CA.out W2 B2.out) ?_
  rintro e W3 ⟨hb3, ⟨h0, -⟩ | ⟨-, v, rfl, hrow⟩⟩
  · exact absurd rfl h0
  obtain ⟨L, hL⟩ : ∃ L, (Ru.allP ns fs).length = L := ⟨_, rfl⟩
  obtain ⟨av, cv, rfl, -⟩ := id hrow.at
  rw [hL] at hrow
  have HRW : Hid (Ru.Row 53 W2.heap.size W3 (.slice av L cv) (Ru.allP ns fs) ∧ (Ru.allP ns fs).length = L ∧ Below w0.heap.size w0 W3) := ⟨hrow, hL, B2.out.trans (hb3.mono B2.out.size)⟩
  rw [hL]
  have HLEN : Hid (∀ k, k ≤ n → ((List.range k).flatMap (Ru.rulesP ns fs)).length ≤ 3000) := fun k hk => by
    have : ∀ k, ((List.range k).flatMap (Ru.rulesP ns fs)).length ≤ k * 100 := fun k => by
      induction k with
      | zero => simp
      | succ k ih =>
        rw [Ru.flat_take]
        have := Ru.rulesP_len ns fs k (HS.out W2 B2.out).1.flen
        omega
    have := this k
    omega
  have hL2 : L ≤ 3000 := by
    rw [← hL, Ru.allP, HNF.out.2.2.2.1]
    exact HLEN.out n (Nat.le_refl _)
  clear p0 p1 CA hb3 hrow hL hfd hfd0
  obtain ⟨p0, p1⟩ := HBX.out W3 HRW.out.2.2
  go_wp2
  clear p0 p1
  go_loopg [5, 34] n (fun gk s5 s34 wr => ∃ k q : Nat, gk + k = n ∧ s34 = .int .i64 k ∧ s5 = .int .i64 q ∧ Hid (((List.range k).flatMap (Ru.rulesP ns fs)).length = q ∧ Below w0.heap.size w0 wr ∧ Ru.Row 53 W2.heap.size wr (.slice av L cv) (Ru.allP ns fs)))
  case atStart => exact ⟨0, 0, by omega, rfl, rfl, rfl, HRW.out.2.2, HRW.out.1⟩
  case round =>
    obtain ⟨k, q, hk, rfl, rfl, HI⟩ := hrel
    have hq : q ≤ 3000 := by rw [← HI.out.1]; exact HLEN.out k (by omega)
    by_cases hlt : k < n
    · have hd : decide ((k : Int) < n) = true := decide_eq_true (by omega)
      have hkl : k < ns.length := by rw [HNF.out.2.2.2.1]; exact hlt
      obtain ⟨g, off, u, rfl, hg, q0, q1, q2, q3, q4, hT⟩ := HNF.out.1 k hkl
      obtain ⟨au, cu, rfl⟩ := hT.shape
      obtain ⟨x0, hx0⟩ : ∃ z, ns[k].kind = z := ⟨_, rfl⟩
      obtain ⟨x1, hx1⟩ : ∃ z, ns[k].a = z := ⟨_, rfl⟩
      obtain ⟨x2, hx2⟩ : ∃ z, ns[k].t.op = z := ⟨_, rfl⟩
      obtain ⟨x3, hx3⟩ : ∃ z, ns[k].t.num = z := ⟨_, rfl⟩
      obtain ⟨nu, hnu⟩ : ∃ z, ns[k].t.ks.length = z := ⟨_, rfl⟩
      rw [hx0] at q0
      rw [hx1] at q1
      rw [hx2] at q2
      rw [hx3] at q3
      rw [hnu] at q4
      have hbw : Below w.heap.size w wr := HA.out.1.trans (HI.out.2.1.mono HA.out.1.size)
      have hcc : ∀ o, wr.cell? ⟨g, o, none⟩ = w.cell? ⟨g, o, none⟩ := fun o => hbw.cell (p := ⟨g, o, none⟩) hg
      have d0 := (hcc _).trans q0
      have d1 := (hcc _).trans q1
      have d2 := (hcc _).trans q2
      have d3 := (hcc _).trans q3
      have d4 := (hcc _).trans q4
      obtain ⟨W0, hW0⟩ : ∃ z, wr.alloc (.cells #[.int .i64 x0, .int .i64 x1, .int .i64 x2, .int .i64 x3, .slice au nu cu] 34) = z := ⟨_, rfl⟩
      have G0 : W0.heap[wr.heap.size]? = some (.cells #[.int .i64 x0, .int .i64 x1, .int .i64 x2, .int .i64 x3, .slice au nu cu] 34 (0, 0)) := by rw [← hW0]; exact heap_alloc_new wr _
      have AW : Below wr.heap.size wr W0 := by rw [← hW0]; exact (Below.refl _ wr).alloc (Nat.le_refl _) _
      have B0 : Below w0.heap.size w0 W0 := HI.out.2.1.trans (AW.mono HI.out.2.1.size)
      have HKI : Hid (Nt.kindAt ns k = x0) := (Nt.kindAt_get ns k hkl).trans hx0
      have hu := Tryd.underlying34
      have HW0 : Hid (wr.alloc (.cells #[.int .i64 x0, .int .i64 x1, .int .i64 x2, .int .i64 x3, .slice au nu cu] 34) = W0) := hW0
      have HB0 : Hid (Below w0.heap.size w0 W0 ∧ Below wr.heap.size wr W0 ∧ W0.heap[wr.heap.size]? = some (.cells #[.int .i64 x0, .int .i64 x1, .int .i64 x2, .int .i64 x3, .slice au nu cu] 34 (0, 0))) := ⟨B0, AW, G0⟩
      obtain ⟨a, ha⟩ : ∃ a, Nt.insN fs (k : Int) = a := ⟨_, rfl⟩
      obtain ⟨b, hb⟩ : ∃ a, Nt.outsN fs (k : Int) = a := ⟨_, rfl⟩
      have ha100 : a ≤ 50 := by have := Ru.ins_len fs (k : Int); rw [Nt.insL_len, ha, HNF.out.2.2.2.2] at this; omega
      have hb100 : b ≤ 50 := by have := Ru.outs_len fs (k : Int); rw [Nt.outsL_len, hb, HNF.out.2.2.2.2] at this; omega
      have CI1 : Hid (Calls Tryd.prog 25 #[.agg #[.slice (some ⟨g, off, none⟩) n cn, .slice af m cf], .int .i64 (k : Int)] W0 fun e w' => ∃ a' c, e = .returned (.slice a' a c) ∧ Hid (Below W0.heap.size W0 w')) := by
        have h := CI.out W0 k B0
        rw [ha] at h
        exact h
      have CO1 : Hid (∀ W, Below w0.heap.size w0 W → Calls Tryd.prog 26 #[.agg #[.slice (some ⟨g, off, none⟩) n cn, .slice af m cf], .int .i64 (k : Int)] W fun e w' => ∃ a' c, e = .returned (.slice a' b c) ∧ Hid (Below W.heap.size W w')) := fun W hb' => by
        have h := CO.out W k hb'
        rw [hb] at h
        exact h
      have HWN : Hid ((Ru.rulesP ns fs k).length = Ru.wantN ns fs k ∧ Nt.insN fs (k : Int) = a ∧ Nt.outsN fs (k : Int) = b) := ⟨Ru.right_len HR.out.1 HR.out.2.2.1 hkl, ha, hb⟩
      obtain ⟨p0, p1⟩ := HBX.out W0 B0
      clear q0 q1 q2 q3 q4 hT hcc hg hbw hx0 hx1 hx2 hx3 hnu hW0 G0 AW B0 ha hb
      go_upto_region 8 with fail
      rw [HW0.out]
      go_wp2_with fail
      refine Calls.mono CI1.out ?_
      rintro e W4 ⟨a4, c4, rfl, X4⟩
      clear d0 d1 d2 d3 d4 p0 p1 HW0 CI1
      have B4 : Hid (Below w0.heap.size w0 W4) := HB0.out.1.trans (X4.out.mono HB0.out.1.size)
      obtain ⟨p0, p1⟩ := HBX.out W4 B4.out
      go_wp2_with fail
      refine Calls.mono (CO1.out W4 B4.out) ?_
      rintro e W5 ⟨a5, c5, rfl, X5⟩
      clear p0 p1 CO1
      have B5 : Hid (Below w0.heap.size w0 W5 ∧ Below wr.heap.size wr W5) := ⟨B4.out.trans (X5.out.mono B4.out.size), HB0.out.2.1.trans ((X4.out.trans (X5.out.mono X4.out.size)).mono HB0.out.2.1.size)⟩
      have e0 : W5.cell? ⟨wr.heap.size, 0, none⟩ = some (.int .i64 x0) := by
        have hlt0 := Ru.lt_of HB0.out.2.2
        have : W5.heap[wr.heap.size]? = some (.cells #[.int .i64 x0, .int .i64 x1, .int .i64 x2, .int .i64 x3, .slice au nu cu] 34 (0, 0)) := by
          rw [X5.out.block _ (by have := X4.out.size; omega), X4.out.block _ hlt0]
          exact HB0.out.2.2
        simp [World.cell?, this]
      have HE : Hid (Below w0.heap.size w0 W5 ∧ Ru.Row 53 W2.heap.size W5 (.slice av L cv) (Ru.allP ns fs)) := ⟨B5.out.1, HI.out.2.2.below B5.out.2⟩
      have HF : Hid (((List.range (k + 1)).flatMap (Ru.rulesP ns fs)).length = q + if x0 = 1 then 0 else if x0 = 5 ∨ x0 = 7 then a * b else 1) := by
        show _ = _
        rw [Ru.flat_take, HI.out.1, HWN.out.1, Ru.wantN, HKI.out, HWN.out.2.1, HWN.out.2.2]
      clear X4 X5 B4 B5 HB0
      by_cases h1 : x0 = 1
      · rw [if_pos h1] at HF
        subst h1
        go_wp2
        go_roundg (gk - 1)
        case measure => omega
        case rel => exact ⟨k + 1, q, by omega, by go_num, rfl, HF.out, HE.out⟩
      have k1 : (x0 == 1) = false := by simpa using h1
      rw [if_neg h1] at HF
      by_cases h57 : x0 = 5 ∨ x0 = 7
      · rw [if_pos h57] at HF
        have hab : a * b ≤ 2500 := Nat.mul_le_mul ha100 hb100
        obtain ⟨p, hp⟩ : ∃ p, a * b = p := ⟨_, rfl⟩
        have hmul : IntKind.i64.wrap ((a : Int) * (b : Int)) = (p : Int) := by
          have e : (a : Int) * (b : Int) = (p : Int) := by rw [← hp]; simp
          rw [e]
          exact Go.IntWalk.i64_in _ (by omega)
        rw [hp] at HF hab
        clear hp
        rcases h57 with rfl | rfl
        · clear h1 k1
          go_wp2
          go_roundg (gk - 1)
          case measure => omega
          case rel => exact ⟨k + 1, q + p, by omega, by go_num, by go_num, HF.out, HE.out⟩
        · clear h1 k1
          go_wp2
          go_roundg (gk - 1)
          case measure => omega
          case rel => exact ⟨k + 1, q + p, by omega, by go_num, by go_num, HF.out, HE.out⟩
      · rw [if_neg h57] at HF
        have k5 : (x0 == 5) = false := by simp; omega
        have k7 : (x0 == 7) = false := by simp; omega
        clear h1 h57
        go_wp2
        go_roundg (gk - 1)
        case measure => omega
        case rel => exact ⟨k + 1, q + 1, by omega, by go_num, by go_num, HF.out, HE.out⟩
    · have hd : decide ((k : Int) < n) = false := decide_eq_false (by omega)
      have hqL : q = L := by
        obtain rfl : k = n := by omega
        have := HI.out.1
        rw [← HRW.out.2.1, Ru.allP, HNF.out.2.2.2.1]
        exact this.symm
      subst hqL
      have HJ : Hid (Below w0.heap.size w0 wr ∧ Ru.Row 53 W2.heap.size wr (.slice av q cv) (Ru.allP ns fs)) := HI.out.2
      have HLQ : Hid ((Ru.allP ns fs).length = q) := HRW.out.2.1
      obtain ⟨p0, p1⟩ := HBX.out wr HJ.out.1
      obtain ⟨g1, hg1⟩ : ∃ x, gk = x := ⟨_, rfl⟩
      obtain ⟨wa, hwa⟩ : ∃ x, wr = x := ⟨_, rfl⟩
      subst hg1
      subst hwa
      have hdn : decide (k < n) = false := decide_eq_false hlt
      clear HI
      go_wp2
      clear p0 p1 HRW CI CO
      go_loopg [65] m (fun gk s65 wr => ∃ k : Nat, gk + k = m ∧ s65 = .int .i64 k ∧ Hid (Below w0.heap.size w0 wr ∧ Ru.Row 53 W2.heap.size wr (.slice av q cv) (Ru.allP ns fs)))
      case atStart => exact ⟨0, by omega, rfl, HJ.out⟩
      case round =>
        obtain ⟨k2, hk2, rfl, HK⟩ := hrel
        by_cases hlt2 : k2 < m
        · have hd2 : decide ((k2 : Int) < m) = true := decide_eq_true (by omega)
          have hkl : k2 < fs.length := by rw [HNF.out.2.2.2.2]; exact hlt2
          have hneed := Ru.right_need HR.out.1 HR.out.2.1 HR.out.2.2.1 hkl
          obtain ⟨f0, f1, -⟩ := Nt.two_keeps (ns := ns) (fs := fs) (by rw [HR.out.2.1]; rfl) fs[k2] (List.getElem_mem hkl)
          obtain ⟨g, off, u, rfl, hg, q0, q1, q2, q3, q4, q5, hT⟩ := HNF.out.2.1 k2 hkl
          obtain ⟨au, cu, rfl⟩ := hT.shape
          obtain ⟨t, ht⟩ : ∃ t : Nat, fs[k2].fr = t := ⟨fs[k2].fr.toNat, by omega⟩
          have htn : t < ns.length := by omega
          rw [ht] at q0 hneed
          obtain ⟨x1, hx1⟩ : ∃ z, fs[k2].to = z := ⟨_, rfl⟩
          obtain ⟨x2, hx2⟩ : ∃ z, fs[k2].els = z := ⟨_, rfl⟩
          obtain ⟨x3, hx3⟩ : ∃ z, fs[k2].c.op = z := ⟨_, rfl⟩
          obtain ⟨x4, hx4⟩ : ∃ z, fs[k2].c.num = z := ⟨_, rfl⟩
          obtain ⟨nu, hnu⟩ : ∃ z, fs[k2].c.ks.length = z := ⟨_, rfl⟩
          rw [hx1] at q1
          rw [hx2] at q2
          rw [hx3] at q3
          rw [hx4] at q4
          rw [hnu] at q5
          have hbw : Below w.heap.size w wr := HA.out.1.trans (HK.out.1.mono HA.out.1.size)
          have hcc : ∀ o, wr.cell? ⟨g, o, none⟩ = w.cell? ⟨g, o, none⟩ := fun o => hbw.cell (p := ⟨g, o, none⟩) hg
          have d0 := (hcc _).trans q0
          have d1 := (hcc _).trans q1
          have d2 := (hcc _).trans q2
          have d3 := (hcc _).trans q3
          have d4 := (hcc _).trans q4
          have d5 := (hcc _).trans q5
          obtain ⟨W0, hW0⟩ : ∃ z, wr.alloc (.cells #[.int .i64 t, .int .i64 x1, .bool x2, .int .i64 x3, .int .i64 x4, .slice au nu cu] 36) = z := ⟨_, rfl⟩
          have G0 : W0.heap[wr.heap.size]? = some (.cells #[.int .i64 t, .int .i64 x1, .bool x2, .int .i64 x3, .int .i64 x4, .slice au nu cu] 36 (0, 0)) := by rw [← hW0]; exact heap_alloc_new wr _
          have AW : Below wr.heap.size wr W0 := by rw [← hW0]; exact (Below.refl _ wr).alloc (Nat.le_refl _) _
          have hu := Tryd.underlying36
          have HW0 : Hid (wr.alloc (.cells #[.int .i64 t, .int .i64 x1, .bool x2, .int .i64 x3, .int .i64 x4, .slice au nu cu] 36) = W0) := hW0
          have HB0 : Hid (Below w0.heap.size w0 W0 ∧ W0.heap[wr.heap.size]? = some (.cells #[.int .i64 t, .int .i64 x1, .bool x2, .int .i64 x3, .int .i64 x4, .slice au nu cu] 36 (0, 0)) ∧ Ru.Row 53 W2.heap.size W0 (.slice av q cv) (Ru.allP ns fs)) := ⟨HK.out.1.trans (AW.mono HK.out.1.size), G0, HK.out.2.below AW⟩
          have HND : Hid (needB k2 (Ru.allP ns fs) = true ∧ Nt.kindAt ns t ≠ 2 ∧ t < ns.length) := by
            refine ⟨?_, by have := hneed.2; rwa [Int.toNat_natCast] at this, htn⟩
            obtain ⟨r, hr, hn⟩ := hneed.1
            exact List.any_eq_true.2 ⟨r, hr, decide_eq_true hn⟩
          obtain ⟨b0, hb0⟩ : ∃ x, wr.heap.size = x := ⟨_, rfl⟩
          rw [hb0] at HB0
          obtain ⟨g2, hg2⟩ : ∃ x, x = gk := ⟨_, rfl⟩
          clear q0 q1 q2 q3 q4 q5 hT hcc hg hbw hx1 hx2 hx3 hx4 hnu hW0 G0 AW hneed f0 f1 ht htn HJ
          go_upto_region 20 with fail
          rw [HW0.out]
          clear d0 d1 d2 d3 d4 d5 HW0 HK hb0
          subst hg2
          go_wp2
          go_loopg [12, 72] q (fun gk s12 s72 wr => ∃ (j : Nat) (nb : Bool), gk + j = q ∧ s72 = .int .i64 j ∧ s12 = .bool nb ∧ Hid (needB k2 ((Ru.allP ns fs).take j) = nb ∧ Below W0.heap.size W0 wr))
          case atStart => exact ⟨0, false, by omega, rfl, rfl, rfl, Below.refl _ _⟩
          case round =>
            obtain ⟨j, nb, hj, rfl, rfl, HM⟩ := hrel
            by_cases hlt3 : j < q
            · have hd3 : decide ((j : Int) < q) = true := decide_eq_true (by omega)
              have hjl : j < (Ru.allP ns fs).length := by rw [HLQ.out]; exact hlt3
              obtain ⟨a', c', hv, hat⟩ := (HB0.out.2.2.below HM.out.2).at
              simp only [Value.slice.injEq] at hv
              obtain ⟨rfl, -, rfl⟩ := hv
              obtain ⟨gr, u1, u2, rfl, hgr, r0, r1, r2, r3, I1, I2⟩ := hat j hjl
              obtain ⟨a1, c1, rfl, -⟩ := id I1
              obtain ⟨a2, c2, rfl, -⟩ := id I2
              obtain ⟨n1, hn1⟩ : ∃ z, (Ru.allP ns fs)[j].ne.length = z := ⟨_, rfl⟩
              obtain ⟨n2, hn2⟩ : ∃ z, (Ru.allP ns fs)[j].gi.length = z := ⟨_, rfl⟩
              obtain ⟨v0, hv0⟩ : ∃ z, (Ru.allP ns fs)[j].kd = z := ⟨_, rfl⟩
              obtain ⟨v1, hv1⟩ : ∃ z, (Ru.allP ns fs)[j].nd = z := ⟨_, rfl⟩
              obtain ⟨NE, hNE⟩ : ∃ z, (Ru.allP ns fs)[j].ne = z := ⟨_, rfl⟩
              rw [hv0] at r0
              rw [hv1] at r1
              rw [hn1] at r2 I1
              rw [hn2] at r3
              rw [hNE] at I1 hn1
              obtain ⟨W4, hW4⟩ : ∃ z, wr.alloc (.cells #[.int .i64 v0, .int .i64 v1, .slice a1 n1 c1, .slice a2 n2 c2] 53) = z := ⟨_, rfl⟩
              have AW : Below wr.heap.size wr W4 := by rw [← hW4]; exact (Below.refl _ wr).alloc (Nat.le_refl _) _
              have e2 : W4.cell? ⟨wr.heap.size, 2, none⟩ = some (.slice a1 n1 c1) := by
                have := heap_alloc_new wr (.cells #[.int .i64 v0, .int .i64 v1, .slice a1 n1 c1, .slice a2 n2 c2] 53)
                rw [hW4] at this
                simp [World.cell?, this]
              have HW4 : Hid (wr.alloc (.cells #[.int .i64 v0, .int .i64 v1, .slice a1 n1 c1, .slice a2 n2 c2] 53) = W4) := hW4
              have HI4 : Hid (Ru.Ints W4 (.slice a1 n1 c1) NE ∧ NE.length = n1 ∧ Below W0.heap.size W0 W4) := ⟨I1.below AW, hn1, HM.out.2.trans (AW.mono HM.out.2.size)⟩
              have HNX : Hid (needB k2 ((Ru.allP ns fs).take (j + 1)) = (nb || decide ((k2 : Int) ∈ NE))) := by
                show _ = _
                rw [Tm.take_snoc _ _ hjl, needB, List.any_append, ← needB, HM.out.1]
                simp [hNE]
              have huR := Tryd.underlying53
              have hn1b : n1 ≤ 1000000 := by
                have hr := List.getElem_mem hjl
                rw [← hn1, ← hNE]
                exact Nat.le_trans (Ru.ne_len _ hr) (by have := HNF.out.2.2.2.2; omega)
              obtain ⟨b1, hb1⟩ : ∃ x, wr.heap.size = x := ⟨_, rfl⟩
              rw [hb1] at e2
              obtain ⟨g3, hg3⟩ : ∃ x, x = gk := ⟨_, rfl⟩
              clear hat hgr I1 I2 hn1 hn2 hv0 hv1 hNE hW4 AW
              go_upto_region 24 with fail
              rw [HW4.out]
              clear r0 r1 r2 r3 HW4 hb1 HM
              subst hg3
              go_wp2
              clear e2
              go_loopg [12, 79] n1 (fun gk s12 s79 wr => ∃ (i : Nat) (nc : Bool), gk + i = n1 ∧ s79 = .int .i64 i ∧ s12 = .bool nc ∧ W4 = wr ∧ Hid ((nb || decide ((k2 : Int) ∈ NE.take i)) = nc))
              case atStart => exact ⟨0, nb, by omega, rfl, rfl, rfl, by show _ = _; simp⟩
              case round =>
                obtain ⟨i, nc, hi, rfl, rfl, hww, HP⟩ := hrel
                subst hww
                by_cases hlt4 : i < n1
                · have hd4 : decide ((i : Int) < n1) = true := decide_eq_true (by omega)
                  have hil : i < NE.length := by rw [HI4.out.2.1]; exact hlt4
                  obtain ⟨a', c', hv, hne⟩ := HI4.out.1
                  simp only [Value.slice.injEq] at hv
                  obtain ⟨rfl, -, rfl⟩ := hv
                  obtain ⟨gn, offn, -, -, rfl, -, y0⟩ := hne i hil
                  obtain ⟨x, hx⟩ : ∃ z, NE[i] = z := ⟨_, rfl⟩
                  rw [hx] at y0
                  have HQ : Hid ((nb || decide ((k2 : Int) ∈ NE.take (i + 1))) = (nc || decide (x = (k2 : Int)))) := by
                    show _ = _
                    rw [← HP.out, Tm.take_snoc _ _ hil, hx, Bool.or_assoc]
                    congr 1
                    rw [Bool.eq_iff_iff]
                    simp only [decide_eq_true_eq, Bool.or_eq_true, List.mem_append, List.mem_singleton]
                    exact ⟨fun h => h.imp id Eq.symm, fun h => h.imp id Eq.symm⟩
                  clear hne hx
                  cases nc with
                  | true =>
                    go_wp2
                    go_roundg (gk - 1)
                    case measure => omega
                    case rel => exact ⟨i + 1, true, by omega, by go_num, rfl, rfl, HQ.out⟩
                  | false =>
                    by_cases hxk : x = (k2 : Int)
                    · have hxb : (x == (k2 : Int)) = true := by simpa using hxk
                      rw [decide_eq_true hxk] at HQ
                      clear hxk
                      go_wp2
                      go_roundg (gk - 1)
                      case measure => omega
                      case rel => exact ⟨i + 1, true, by omega, by go_num, rfl, rfl, HQ.out⟩
                    · have hxb : (x == (k2 : Int)) = false := by simpa using hxk
                      rw [decide_eq_false hxk] at HQ
                      clear hxk
                      go_wp2
                      go_roundg (gk - 1)
                      case measure => omega
                      case rel => exact ⟨i + 1, false, by omega, by go_num, rfl, rfl, HQ.out⟩
                · have hd4 : decide ((i : Int) < n1) = false := decide_eq_false (by omega)
                  have HP2 : Hid (needB k2 ((Ru.allP ns fs).take (j + 1)) = nc) := by
                    show _ = _
                    have := HP.out
                    rw [List.take_of_length_le (by rw [HI4.out.2.1]; omega)] at this
                    rw [HNX.out]
                    exact this
                  go_wp2
                  go_roundg (g3 - 1)
                  case measure => omega
                  case rel => exact ⟨j + 1, nc, by omega, by go_num, rfl, HP2.out, HI4.out.2.2⟩
            · have hd3 : decide ((j : Int) < q) = false := decide_eq_false (by omega)
              obtain rfl : nb = true := by
                rw [← HM.out.1, List.take_of_length_le (by rw [HLQ.out]; omega)]
                exact HND.out.1
              have BB : Hid (Below w0.heap.size w0 wr) := HB0.out.1.trans (HM.out.2.mono HB0.out.1.size)
              obtain ⟨p0, p1⟩ := HBX.out wr BB.out
              obtain ⟨gn, offn, un, rfl, hgn, z0, -⟩ := HNF.out.1 t HND.out.2.2
              have e0 : wr.cell? ⟨b0, 0, none⟩ = some (.int .i64 t) := by
                have := (HM.out.2.block _ (Ru.lt_of HB0.out.2.1)).trans HB0.out.2.1
                simp [World.cell?, this]
              obtain ⟨kt, hkt⟩ : ∃ z, ns[t]'HND.out.2.2 = z := ⟨_, rfl⟩
              rw [hkt] at z0
              obtain ⟨kk, hkk⟩ : ∃ z, kt.kind = z := ⟨_, rfl⟩
              rw [hkk] at z0
              have k2' : (kk == 2) = false := by
                have := HND.out.2.1
                rw [Nt.kindAt_get ns t HND.out.2.2, hkt, hkk] at this
                simpa using this
              have hbw : Below w.heap.size w wr := (HS.out wr BB.out).2.2
              have z1 : wr.cell? ⟨gn, offn + t * 5, none⟩ = some (.int .i64 kk) := by rw [hbw.cell (p := ⟨gn, offn + t * 5, none⟩) hgn]; exact z0
              have ht0 : (0 : Int) ≤ t := by omega
              have htn' : (t : Int) < n := by have := HND.out.2.2; have := HNF.out.2.2.2.1; omega
              clear hbw z0 hgn hkt hkk
              go_wp2
              go_roundg (g2 - 1)
              case measure => omega
              case rel => exact ⟨k2 + 1, by omega, by go_num, BB.out, HB0.out.2.2.below HM.out.2⟩
        · have hd2 : decide ((k2 : Int) < m) = false := decide_eq_false (by omega)
          have hqq : ((q : Int) == (q : Int)) = true := by simp
          go_wp2_with fail
          refine Calls.mono (HLN.out wr (HS.out wr HK.out.1).2.2) ?_
          rintro e W6 ⟨rfl, B6⟩
          clear HLN
          go_wp2
          go_ret
          exact ⟨rfl, B6.out⟩

end Go.Proofs.YtiedlccnlkhnkaaDoor.RuleCounts
