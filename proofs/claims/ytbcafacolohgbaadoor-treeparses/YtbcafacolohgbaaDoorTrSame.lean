/-
  The contract of the statements' same: true of equal elements.
-/
import Derived.Test.YtbcafacolohgbaaDoorTrLawRef2
namespace Go.Proofs
open Go.RowKit
open Go.Proofs.Mk

theorem Tr.row4s {X : World} {q : Nat} {a b c d : Value} {t : TypeId} (h : X.heap[q]? = some (.cells #[a, b, c, d] t (0, 0))) :
    X.cell? ⟨q, 0, none⟩ = some a ∧ X.cell? ⟨q, 1, none⟩ = some b ∧ X.cell? ⟨q, 2, none⟩ = some c ∧ X.cell? ⟨q, 3, none⟩ = some d := by
  simp [World.cell?, h]

set_option maxHeartbeats 16000000 in
set_option maxRecDepth 20000 in
theorem Tryd.same02_any : ∀ (d d' : Nat) (E : El) (va vk va' vk' : Value) (w : World), El.Lies w (· < w.heap.size) d va vk E → El.Lies w (· < w.heap.size) d' va' vk' E → E.Reach →
    Calls Tryd.prog 16 #[.agg #[.string E.name, va, vk, .string E.text], .agg #[.string E.name, va', vk', .string E.text]] w fun e w' => e = .returned (.bool true) ∧ Below w.heap.size w w' := by
  intro d
  induction d with
  | zero => intro d' E va vk va' vk' w h; exact h.elim
  | succ d ih =>
    intro d' E va vk va' vk' w hT hT' hR
    cases d' with
    | zero => exact hT'.elim
    | succ d' =>
    have hat := hT.attrsP.at fun k hk => hk
    have hat' := hT'.attrsP.at fun k hk => hk
    obtain ⟨aa, ca, ak, ck, rfl, rfl⟩ := hT.shape
    obtain ⟨ab, cb, al, cl, rfl, rfl⟩ := hT'.shape
    rw [El.reach_eq] at hR
    obtain ⟨nm, hnm⟩ : ∃ x, E.name = x := ⟨_, rfl⟩
    obtain ⟨tx, htx⟩ : ∃ x, E.text = x := ⟨_, rfl⟩
    obtain ⟨n, hn⟩ : ∃ n, E.kids.length = n := ⟨_, rfl⟩
    obtain ⟨m, hm⟩ : ∃ n, E.attrs.length = n := ⟨_, rfl⟩
    have hnb : n ≤ 140737488355328 := by rw [← hn]; exact hR.2.2.2.1
    have hmb : m ≤ 140737488355328 := by rw [← hm]; exact hR.2.2.1.1
    have HRK : Hid (El.Reachs E.kids) := hR.2.2.2.2
    have HT : Hid (El.Lies w (· < w.heap.size) (d + 1) (.slice aa m ca) (.slice ak n ck) E) := by rw [hn, hm] at hT; exact hT
    have HT' : Hid (El.Lies w (· < w.heap.size) (d' + 1) (.slice ab m cb) (.slice al n cl) E) := by rw [hn, hm] at hT'; exact hT'
    have HAT : Hid (Mk.AttrsAt w (.slice aa m ca) E.attrs) := by rw [hm] at hat; exact hat
    have HAT' : Hid (Mk.AttrsAt w (.slice ab m cb) E.attrs) := by rw [hm] at hat'; exact hat'
    have HIH : Hid _ := ih
    have HD : Hid (E.kids.length = n ∧ E.attrs.length = m) := ⟨hn, hm⟩
    rw [hnm, htx, hn, hm]
    obtain ⟨w1, hw1⟩ : ∃ x, w.alloc (.cells #[.string nm, .slice aa m ca, .slice ak n ck, .string tx] 39) = x := ⟨_, rfl⟩
    have A1 : Below w.heap.size w w1 := by rw [← hw1]; exact (Below.refl _ w).alloc (Nat.le_refl _) _
    have N1 : w1.heap[w.heap.size]? = some (.cells #[.string nm, .slice aa m ca, .slice ak n ck, .string tx] 39 (0, 0)) := by rw [← hw1]; exact heap_alloc_new w _
    have S1 : w1.heap.size = w.heap.size + 1 := by rw [← hw1]; simp
    obtain ⟨w0, hw0⟩ : ∃ x, w1.alloc (.cells #[.string nm, .slice ab m cb, .slice al n cl, .string tx] 39) = x := ⟨_, rfl⟩
    have A2 : Below w1.heap.size w1 w0 := by rw [← hw0]; exact (Below.refl _ w1).alloc (Nat.le_refl _) _
    have N2 : w0.heap[w.heap.size + 1]? = some (.cells #[.string nm, .slice ab m cb, .slice al n cl, .string tx] 39 (0, 0)) := by rw [← hw0, ← S1]; exact heap_alloc_new w1 _
    have N1' := (A2.block _ (Array.getElem?_eq_some_iff.1 N1).1).trans N1
    have HLE : Hid (∀ W, Below w0.heap.size w0 W → Below w.heap.size w W) := fun W hW => (A1.trans (A2.mono A1.size)).trans (hW.mono (Nat.le_trans A1.size A2.size))
    have CF : Hid (∀ W, Below w0.heap.size w0 W → (W.cell? ⟨w.heap.size, 0, none⟩ = some (.string nm) ∧ W.cell? ⟨w.heap.size, 1, none⟩ = some (.slice aa m ca) ∧ W.cell? ⟨w.heap.size, 2, none⟩ = some (.slice ak n ck) ∧ W.cell? ⟨w.heap.size, 3, none⟩ = some (.string tx)) ∧
        W.cell? ⟨w.heap.size + 1, 0, none⟩ = some (.string nm) ∧ W.cell? ⟨w.heap.size + 1, 1, none⟩ = some (.slice ab m cb) ∧ W.cell? ⟨w.heap.size + 1, 2, none⟩ = some (.slice al n cl) ∧ W.cell? ⟨w.heap.size + 1, 3, none⟩ = some (.string tx)) := fun W hW =>
      ⟨Tr.row4s ((hW.block _ (Array.getElem?_eq_some_iff.1 N1').1).trans N1'), Tr.row4s ((hW.block _ (Array.getElem?_eq_some_iff.1 N2).1).trans N2)⟩
    have HW0 : Hid ((w.alloc (.cells #[.string nm, .slice aa m ca, .slice ak n ck, .string tx] 39)).alloc (.cells #[.string nm, .slice ab m cb, .slice al n cl, .string tx] 39) = w0) := by show _ = _; rw [hw1]; exact hw0
    have e1 : (nm.toList == nm.toList) = true := beq_self_eq_true _
    have e2 : (tx.toList == tx.toList) = true := beq_self_eq_true _
    clear hT hT' hR hat hat' hnm htx hn hm ih hw1 A1 N1 S1 hw0 A2 N2 N1'
    go_enter Tryd.func16, Tryd.ntmps16
    go_upto_region 1 with fail
    rw [HW0.out]
    obtain ⟨⟨f0, f1, f2, f3⟩, f4, f5, f6, f7⟩ := CF.out w0 (Below.refl _ _)
    go_wp2
    go_loopg [40] m (fun g i wr => ∃ j : Nat, g + j = m ∧ i = .int .i64 j ∧ Hid (Below w0.heap.size w0 wr))
    case atStart => exact ⟨0, by omega, rfl, Below.refl _ _⟩
    case round =>
      obtain ⟨j, hj, rfl, HJ⟩ := hrel
      clear f0 f1 f2 f3 f4 f5 f6 f7
      obtain ⟨⟨f0, f1, f2, f3⟩, f4, f5, f6, f7⟩ := CF.out wr HJ.out
      by_cases hjn : j < m
      · have hd : decide ((j : Int) < m) = true := decide_eq_true (by omega)
        have hjk : j < E.attrs.length := by rw [HD.out.2]; exact hjn
        obtain ⟨g, off, hav, hg, hc⟩ : ∃ g off, aa = some ⟨g, off, none⟩ ∧ g < w.heap.size ∧ (w.cell? ⟨g, off + j * 2, none⟩ = some (.string E.attrs[j].1) ∧ w.cell? ⟨g, off + j * 2 + 1, none⟩ = some (.string E.attrs[j].2)) := by
          rcases HAT.out with ⟨a, c, _, h0⟩ | ⟨g, off, cap, hv, _, hg, hr⟩
          · rw [h0] at hjk; simp at hjk
          · obtain ⟨rfl, _, _⟩ := Value.slice.inj hv
            exact ⟨g, off, rfl, hg, hr j hjk⟩
        obtain ⟨g', off', hav', hg', hc'⟩ : ∃ g off, ab = some ⟨g, off, none⟩ ∧ g < w.heap.size ∧ (w.cell? ⟨g, off + j * 2, none⟩ = some (.string E.attrs[j].1) ∧ w.cell? ⟨g, off + j * 2 + 1, none⟩ = some (.string E.attrs[j].2)) := by
          rcases HAT'.out with ⟨a, c, _, h0⟩ | ⟨g, off, cap, hv, _, hg, hr⟩
          · rw [h0] at hjk; simp at hjk
          · obtain ⟨rfl, _, _⟩ := Value.slice.inj hv
            exact ⟨g, off, rfl, hg, hr j hjk⟩
        subst hav hav'
        obtain ⟨p0, hp0⟩ : ∃ x, E.attrs[j].1 = x := ⟨_, rfl⟩
        obtain ⟨p1, hp1⟩ : ∃ x, E.attrs[j].2 = x := ⟨_, rfl⟩
        rw [hp0, hp1] at hc hc'
        have hbw := HLE.out wr HJ.out
        have k0 : wr.cell? ⟨g, off + j * 2, none⟩ = some (.string p0) := by rw [World.cell?_of_block (w := w) (hbw.block g hg)]; exact hc.1
        have k1 : wr.cell? ⟨g, off + j * 2 + 1, none⟩ = some (.string p1) := by rw [World.cell?_of_block (w := w) (hbw.block g hg)]; exact hc.2
        have k2 : wr.cell? ⟨g', off' + j * 2, none⟩ = some (.string p0) := by rw [World.cell?_of_block (w := w) (hbw.block g' hg')]; exact hc'.1
        have k3 : wr.cell? ⟨g', off' + j * 2 + 1, none⟩ = some (.string p1) := by rw [World.cell?_of_block (w := w) (hbw.block g' hg')]; exact hc'.2
        clear hc hc' hp0 hp1 hbw f0 f2 f3 f4 f6 f7 e1 e2
        go_wp2
        go_quiet (fail)
        go_wp2
        go_roundg (gk - 1)
        case measure => omega
        case rel => exact ⟨j + 1, by omega, by go_num, Mk.below_drewN HJ.out _⟩
      · have hd : decide ((j : Int) < m) = false := decide_eq_false (by omega)
        clear e1 e2 f0 f1 f3 f4 f5 f7
        go_wp2
        go_loopg [58] n (fun g i wr => ∃ j : Nat, g + j = n ∧ i = .int .i64 j ∧ Hid (Below w0.heap.size w0 wr))
        case atStart => exact ⟨0, by omega, rfl, HJ.out⟩
        case round =>
          obtain ⟨j, hj, rfl, HJ⟩ := hrel
          clear f2 f6
          by_cases hjn : j < n
          · have hd : decide ((j : Int) < n) = true := decide_eq_true (by omega)
            have hjk : j < E.kids.length := by rw [HD.out.1]; exact hjn
            obtain ⟨g, off, ua, uk, rfl, hg, p0, p1, p2, p3, p4⟩ := HT.out.kid j hjk
            obtain ⟨g', off', ua', uk', rfl, hg', r0, r1, r2, r3, r4⟩ := HT'.out.kid j hjk
            have hRj := El.reachs_get _ HRK.out j hjk
            obtain ⟨x, hx⟩ : ∃ x, E.kids[j] = x := ⟨_, rfl⟩
            rw [hx] at p0 p3 p4 r0 r3 r4 hRj
            obtain ⟨xa, xc, xk, xd, rfl, rfl⟩ := p4.shape
            obtain ⟨ya, yc, yk, yd, rfl, rfl⟩ := r4.shape
            have hbw := HLE.out wr HJ.out
            have HCL : Hid (∀ W, Below w0.heap.size w0 W → Calls Tryd.prog 16 #[.agg #[.string x.name, .slice xa x.attrs.length xc, .slice xk x.kids.length xd, .string x.text], .agg #[.string x.name, .slice ya x.attrs.length yc, .slice yk x.kids.length yd, .string x.text]] W fun e w' => e = .returned (.bool true) ∧ Below w0.heap.size w0 w') := fun W hW =>
              (HIH.out d' x _ _ _ _ W (p4.keep (fun k hk => (HLE.out W hW).block k hk) fun k hk => Nat.lt_of_lt_of_le hk (HLE.out W hW).size) (r4.keep (fun k hk => (HLE.out W hW).block k hk) fun k hk => Nat.lt_of_lt_of_le hk (HLE.out W hW).size) hRj).mono fun e w' ⟨he, hb⟩ => ⟨he, hW.trans (hb.mono hW.size)⟩
            obtain ⟨xn, hxn⟩ : ∃ n, x.name = n := ⟨_, rfl⟩
            obtain ⟨xt, hxt⟩ : ∃ n, x.text = n := ⟨_, rfl⟩
            obtain ⟨xm, hxm⟩ : ∃ n, x.attrs.length = n := ⟨_, rfl⟩
            obtain ⟨xl, hxl⟩ : ∃ n, x.kids.length = n := ⟨_, rfl⟩
            rw [hxn] at p0 r0 HCL
            rw [hxt] at p3 r3 HCL
            rw [hxm] at p1 r1 HCL
            rw [hxl] at p2 r2 HCL
            have hc : ∀ g o, g < w.heap.size → wr.cell? ⟨g, o, none⟩ = w.cell? ⟨g, o, none⟩ := fun g o hg => World.cell?_of_block (w := w) (hbw.block g hg)
            rw [← hc g _ hg] at p0 p1 p2 p3
            rw [← hc g' _ hg'] at r0 r1 r2 r3
            obtain ⟨⟨_, _, f2, _⟩, _, _, f6, _⟩ := CF.out wr HJ.out
            clear hc p4 r4 hRj hx hxn hxt hxm hxl hbw
            go_upto_region 12 with fail
            go_region_law (first
              | (go_simp; go_at_call 16; refine Calls.mono (HCL.out _ ?_) ?_; (first | exact HJ.out.drew | exact HJ.out); rintro e V1 ⟨rfl, b1⟩)
              | fail)
            all_goals
              have B1 : Hid (Below w0.heap.size w0 V1) := b1
              clear b1
              go_wp2
              go_roundg (gk - 1)
              case measure => omega
              case rel => exact ⟨j + 1, by omega, by go_num, B1.out⟩
          · have hd : decide ((j : Int) < n) = false := decide_eq_false (by omega)
            have BE : Hid (Below w.heap.size w wr) := HLE.out wr HJ.out
            go_wp2
            go_ret
            exact ⟨rfl, BE.out⟩

end Go.Proofs
