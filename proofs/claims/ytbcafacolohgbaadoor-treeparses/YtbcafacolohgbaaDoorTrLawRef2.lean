/-
  The walk of the statements' ref.
-/
import Derived.Test.YtbcafacolohgbaaDoorTrLawRef
namespace Go.Proofs
open Go.RowKit
open Go.Proofs.Mk

theorem Tr.put4t {X : World} {q : Nat} {a b c d : Value} {t : TypeId} (h : X.heap[q]? = some (.cells #[a, b, c, d] t (0, 0))) (a' b' c' d' : Value) :
    ((((X.setCell ⟨q, 0, none⟩ a').setCell ⟨q, 1, none⟩ b').setCell ⟨q, 2, none⟩ c').setCell ⟨q, 3, none⟩ d').heap[q]? = some (.cells #[a', b', c', d'] t (0, 0)) := by
  simp [World.setCell, Array.getElem?_modify, h]

/-- The contract of ref. -/
def Tr.RefC (d : Nat) : Prop := ∀ (E : El) (va vk : Value) (w : World), El.Lies w (· < w.heap.size) d va vk E → E.weight ≤ 100000 →
    Calls Tryd.prog 12 #[.agg #[.string E.name, va, vk, .string E.text]] w fun e w' => Below w.heap.size w w' ∧ ∃ a c a' c' d', e = .returned (.agg #[.string E.name, .slice a E.attrs.length c, .slice a' E.kids.length c', .string E.text]) ∧ El.Lies w' (fun k => w.heap.size ≤ k ∧ k < w'.heap.size) d' (.slice a E.attrs.length c) (.slice a' E.kids.length c') E

set_option maxHeartbeats 8000000 in
set_option maxRecDepth 100000 in
theorem Tr.refC : ∀ d : Nat, Tr.RefC d := by
  intro d
  induction d with
  | zero => intro E va vk w hT; exact hT.elim
  | succ d ih =>
    intro E va vk w hT hwt
    have hat := hT.attrsP
    obtain ⟨aa, ca, ak, ck, rfl, rfl⟩ := hT.shape
    obtain ⟨nm, hnm⟩ : ∃ x, E.name = x := ⟨_, rfl⟩
    obtain ⟨tx, htx⟩ : ∃ x, E.text = x := ⟨_, rfl⟩
    obtain ⟨n, hn⟩ : ∃ n, E.kids.length = n := ⟨_, rfl⟩
    obtain ⟨m, hm⟩ : ∃ n, E.attrs.length = n := ⟨_, rfl⟩
    rw [hnm, htx, hn, hm]
    rw [hn, hm] at hT
    rw [hm] at hat
    have hb4 : n ≤ 100000 ∧ m ≤ 100000 := by
      have h1 := E.weight_eq
      have h2 := El.length_le_counts E.kids
      have h3 := El.counts_le_weights E.kids
      have h4 := El.attrsW_len E.attrs
      omega
    have hnb := hb4.1
    have hmb := hb4.2
    obtain ⟨w0, hw0⟩ : ∃ x, ((w.alloc (.cells #[.string nm, .slice aa m ca, .slice ak n ck, .string tx] 25)).alloc (.cells #[.string ⟨#[]⟩, .slice none 0 0, .slice none 0 0, .string ⟨#[]⟩] 39)).alloc (.cells #[.string nm, .slice none 0 0, .slice none 0 0, .string tx] 39) = x := ⟨_, rfl⟩
    have R0 : Tr.Rf w #[.string nm, .slice aa m ca, .slice ak n ck, .string tx] nm tx (.slice none 0 0) (.slice none 0 0) [] [] w0 := by
      rw [← hw0]
      refine ⟨?_, ?_, ?_, World.ownsRow_nil _ _ _ _, World.ownsRow_nil _ _ _ _, (fun q hq => by cases hq), (((Below.refl _ w).alloc (Nat.le_refl _) _).alloc (by simp) _).alloc (by simp; omega) _⟩
      · rw [Lib.alloc_old _ _ _ (by simp; omega), Lib.alloc_old _ _ _ (by simp)]; exact heap_alloc_new w _
      · rw [Lib.alloc_old _ _ _ (by simp)]
        have := heap_alloc_new (w.alloc (.cells #[.string nm, .slice aa m ca, .slice ak n ck, .string tx] 25)) (.cells #[.string ⟨#[]⟩, .slice none 0 0, .slice none 0 0, .string ⟨#[]⟩] 39)
        simpa using this
      · have := heap_alloc_new ((w.alloc (.cells #[.string nm, .slice aa m ca, .slice ak n ck, .string tx] 25)).alloc (.cells #[.string ⟨#[]⟩, .slice none 0 0, .slice none 0 0, .string ⟨#[]⟩] 39)) (.cells #[.string nm, .slice none 0 0, .slice none 0 0, .string tx] 39)
        simpa using this
    have HR0 : Hid _ := R0
    have q1 : w0.cell? ⟨w.heap.size, 1, none⟩ = some (.slice aa m ca) := by have := R0.box; simp [World.cell?, this]
    have HW0 : Hid _ := hw0
    have HT : Hid (El.Lies w (· < w.heap.size) (d + 1) (.slice aa m ca) (.slice ak n ck) E) := hT
    have HAT : Hid (El.AttrsP w (· < w.heap.size) (.slice aa m ca) E.attrs) := hat
    have HI : Hid (Tr.RefC d) := ih
    have HM : Hid (E.name = nm ∧ E.text = tx ∧ E.kids.length = n ∧ E.attrs.length = m ∧ E.weight ≤ 100000) := ⟨hnm, htx, hn, hm, hwt⟩
    obtain ⟨i0, hi, hz0, hz1, hz2⟩ := info_parts Tryd.infoRAttr2
    obtain ⟨i1, hi1, hy0, hy1, hy2⟩ := info_parts Tryd.infoRElem
    clear ih hT hat hnm htx hn hm hwt hw0 R0 hb4
    go_enter Tryd.func12, Tryd.ntmps12
    go_upto_region 2 with fail
    rw [HW0.out]
    go_wp2
    go_loopg [16] m (fun g i wr => ∃ (k : Nat) (ys : List (ByteArray × ByteArray)) (vb : Value), g + k = m ∧ i = .int .i64 k ∧ ys = E.attrs.take k ∧ Tr.Rf w #[.string nm, .slice aa m ca, .slice ak n ck, .string tx] nm tx vb (.slice none 0 0) ys [] wr)
    case atStart => exact ⟨0, [], .slice none 0 0, by omega, rfl, rfl, HR0.out⟩
    case round =>
      obtain ⟨k, ys, vb, hg, rfl, hys, hrf⟩ := hrel
      clear q1
      have hyl : ys.length ≤ 1000000 := by rw [hys, List.length_take]; omega
      have HY : Hid (ys = E.attrs.take k) := hys
      obtain ⟨av, cv, hva⟩ := Mk.own_shape hrf.ownA
      subst hva
      have HF : Hid (Tr.Rf w #[.string nm, .slice aa m ca, .slice ak n ck, .string tx] nm tx (.slice av ys.length cv) (.slice none 0 0) ys [] wr) := hrf
      clear hys hrf
      by_cases hk : k < m
      · have hd : decide ((k : Int) < m) = true := decide_eq_true (by omega)
        have hkk : k < E.attrs.length := by rw [HM.out.2.2.2.1]; exact hk
        obtain ⟨g, off, hav, hgl, hc⟩ : ∃ g off, aa = some ⟨g, off, none⟩ ∧ g < w.heap.size ∧ (w.cell? ⟨g, off + k * 2, none⟩ = some (.string E.attrs[k].1) ∧ w.cell? ⟨g, off + k * 2 + 1, none⟩ = some (.string E.attrs[k].2)) := by
          rcases HAT.out with ⟨a, c, _, h0⟩ | ⟨g, off, cap, hv, _, hg, hr⟩
          · rw [h0] at hkk; simp at hkk
          · obtain ⟨rfl, _, _⟩ := Value.slice.inj hv
            exact ⟨g, off, rfl, hg, hr k hkk⟩
        subst hav
        obtain ⟨x, hx⟩ : ∃ x, E.attrs[k] = x := ⟨_, rfl⟩
        rw [hx] at hc
        have hc0 : wr.cell? ⟨g, off + k * 2, none⟩ = some (.string x.1) := by rw [HF.out.below.cell (p := ⟨g, off + k * 2, none⟩) hgl]; exact hc.1
        have hc1 : wr.cell? ⟨g, off + k * 2 + 1, none⟩ = some (.string x.2) := by rw [HF.out.below.cell (p := ⟨g, off + k * 2 + 1, none⟩) hgl]; exact hc.2
        have hob := HF.out.var
        have co : wr.cell? ⟨w.heap.size + 1 + 1, 1, none⟩ = some (.slice av ys.length cv) := by simp [World.cell?, hob]
        have hzf := HF.out.lt
        have HF1 := HF.out.step ((Below.refl _ wr).alloc (Nat.le_refl _) (.cells #[.string x.1, .string x.2] 54))
        have own3 := HF1.ownA
        have HX : Hid (E.attrs[k] = x) := hx
        have lg : g < wr.heap.size := by omega
        clear hc hob hx
        go_wp2_with (at_builtin; refine wpList_append_own _ rfl _ _ 36 rfl (w.heap.size + 3) 69 i0 _ 2 32 Tryd.underlying36 hi hz0 hz1 hz2 rfl (by decide) _ _ _ rfl (own3.alloc _) ⟨wr.heap.size + 1, 0, none⟩ 1 1 [.string x.1, .string x.2] rfl rfl ?c1 ?c2 ?c3 ?c4 ?c5 ?_)
        case c1 =>
          intro j u hj
          match j, hj with
          | 0, hj => simp at hj; subst hj; simp [Addr.add]
          | 1, hj => simp at hj; subst hj; simp [Addr.add]
        case c2 => intro u hu; simp at hu; rcases hu with rfl | rfl <;> rfl
        case c3 => unfold maxLen; omega
        case c4 => omega
        case c5 => simp; omega
        intro v6 W6 O6 g6 _
        obtain ⟨a6, c6, rfl⟩ := Mk.own_shape O6
        have HF2 := HF1.step ((Below.refl _ _).alloc (Nat.le_refl _) (.cells #[.string x.1, .string x.2] 69))
        obtain ⟨m6, p6⟩ := Tr.Rf.attr (a := x) HF2 O6 g6
        have z6 : w.heap.size + 1 + 1 < W6.heap.size := (Array.getElem?_eq_some_iff.1 m6).1
        have k60 : W6.cell? ⟨w.heap.size + 1 + 1, 1, none⟩ = some (.slice av ys.length cv) := by simp [World.cell?, m6]
        have k61 : W6.frozen? ⟨w.heap.size + 1 + 1, 1, none⟩ = false := by simp [World.frozen?, m6]
        have P6 : Hid (Tr.Rf w #[.string nm, .slice (some ⟨g, off, none⟩) m ca, .slice ak n ck, .string tx] nm tx (.slice a6 (ys.length + 1) c6) (.slice none 0 0) (E.attrs.take (k + 1)) [] (W6.setCell ⟨w.heap.size + 1 + 1, 1, none⟩ (.slice a6 (ys.length + 1) c6))) := by
          rw [List.take_succ_eq_append_getElem hkk, ← HY.out, HX.out]
          exact p6
        clear m6 p6 O6 g6 own3 HF1 HF2
        go_wp2
        go_roundg (gk - 1)
        case measure => omega
        case rel => exact ⟨k + 1, _, _, by omega, by go_num, rfl, P6.out⟩
      · have hd : decide ((k : Int) < m) = false := decide_eq_false (by omega)
        have hall : ys = E.attrs := HY.out.trans (List.take_of_length_le (by rw [HM.out.2.2.2.1]; omega))
        subst hall
        have q2 : wr.cell? ⟨w.heap.size, 2, none⟩ = some (.slice ak n ck) := by have := HF.out.box; simp [World.cell?, this]
        clear HY
        go_wp2
        go_loopg [34] n (fun g i wr => ∃ (j : Nat) (qs : List (El × Value × Value)) (vK : Value), g + j = n ∧ i = .int .i64 j ∧ qs.length = j ∧ Hid (qs.map (·.1) = E.kids.take j ∧ Tr.Rf w #[.string nm, .slice aa m ca, .slice ak n ck, .string tx] nm tx (.slice av E.attrs.length cv) vK E.attrs qs wr))
        case atStart => exact ⟨0, [], .slice none 0 0, by omega, rfl, rfl, rfl, HF.out⟩
        case round =>
          obtain ⟨j, qs, vK, hg, rfl, hql, HJ⟩ := hrel
          clear q2
          subst hql
          obtain ⟨avk, cvk, hvk⟩ := Mk.own_shape HJ.out.2.ownK
          subst hvk
          by_cases hjn : qs.length < n
          · have hd : decide ((qs.length : Int) < n) = true := decide_eq_true (by omega)
            have hjk : qs.length < E.kids.length := by rw [HM.out.2.2.1]; exact hjn
            obtain ⟨g, off, ua, uk, rfl, hgl, p0, p1, p2, p3, p4⟩ := HT.out.kid qs.length hjk
            obtain ⟨x, hx⟩ : ∃ x, E.kids[qs.length] = x := ⟨_, rfl⟩
            rw [hx] at p0 p3 p4
            obtain ⟨xa, xc, xk, xd, rfl, rfl⟩ := p4.shape
            obtain ⟨xn, hxn⟩ : ∃ n, x.name = n := ⟨_, rfl⟩
            obtain ⟨xt, hxt⟩ : ∃ n, x.text = n := ⟨_, rfl⟩
            obtain ⟨xm, hxm⟩ : ∃ n, x.attrs.length = n := ⟨_, rfl⟩
            obtain ⟨xl, hxl⟩ : ∃ n, x.kids.length = n := ⟨_, rfl⟩
            rw [hxn] at p0
            rw [hxt] at p3
            rw [hxm] at p1 p4
            rw [hxl] at p2 p4
            have hcb : ∀ o, wr.cell? ⟨g, o, none⟩ = w.cell? ⟨g, o, none⟩ := fun o => World.cell?_of_block (w := w) (HJ.out.2.below.block g hgl)
            have k0 : wr.cell? ⟨g, off + qs.length * 4, none⟩ = some (.string xn) := by rw [hcb]; exact p0
            have k1 : wr.cell? ⟨g, off + qs.length * 4 + 1, none⟩ = some (.slice xa xm xc) := by rw [hcb]; exact p1
            have k2 : wr.cell? ⟨g, off + qs.length * 4 + 2, none⟩ = some (.slice xk xl xd) := by rw [hcb]; exact p2
            have k3 : wr.cell? ⟨g, off + qs.length * 4 + 3, none⟩ = some (.string xt) := by rw [hcb]; exact p3
            obtain ⟨wa, hwa⟩ : ∃ y, wr.alloc (.cells #[.string xn, .slice xa xm xc, .slice xk xl xd, .string xt] 25) = y := ⟨_, rfl⟩
            have Aa : Below wr.heap.size wr wa := by rw [← hwa]; exact (Below.refl _ wr).alloc (Nat.le_refl _) _
            have hma : wa.heap[wr.heap.size]? = some (.cells #[.string xn, .slice xa xm xc, .slice xk xl xd, .string xt] 25 (0, 0)) := by rw [← hwa]; exact heap_alloc_new wr _
            have m0 : wa.cell? ⟨wr.heap.size, 0, none⟩ = some (.string xn) := by simp [World.cell?, hma]
            have m1 : wa.cell? ⟨wr.heap.size, 1, none⟩ = some (.slice xa xm xc) := by simp [World.cell?, hma]
            have m2 : wa.cell? ⟨wr.heap.size, 2, none⟩ = some (.slice xk xl xd) := by simp [World.cell?, hma]
            have m3 : wa.cell? ⟨wr.heap.size, 3, none⟩ = some (.string xt) := by simp [World.cell?, hma]
            have RA : Hid (Tr.Rf w #[.string nm, .slice aa m ca, .slice (some ⟨g, off, none⟩) n ck, .string tx] nm tx (.slice av E.attrs.length cv) (.slice avk qs.length cvk) E.attrs qs wa) := HJ.out.2.step Aa
            have s0 : wa.cell? ⟨w.heap.size + 1 + 1, 2, none⟩ = some (.slice avk qs.length cvk) := by have := RA.out.var; simp [World.cell?, this]
            have hxw : x.weight ≤ 100000 := by have h1 := El.weights_get E.kids qs.length hjk; rw [hx] at h1; have h2 := E.weight_eq; have := HM.out.2.2.2.2; omega
            have hpl : ∀ k, k < w.heap.size → wa.heap[k]? = w.heap[k]? := fun k hk => RA.out.below.block k hk
            have HCALL : Hid (∀ W : World, W.heap = wa.heap → W.os = wa.os ∧ W.tape = wa.tape ∧ W.output = wa.output → Calls Tryd.prog 12 #[.agg #[.string xn, .slice xa xm xc, .slice xk xl xd, .string xt]] W fun e w' =>
                ∃ a c a' c', e = .returned (.agg #[.string xn, .slice a xm c, .slice a' xl c', .string xt]) ∧ Tr.Rf w #[.string nm, .slice aa m ca, .slice (some ⟨g, off, none⟩) n ck, .string tx] nm tx (.slice av E.attrs.length cv) (.slice avk qs.length cvk) E.attrs qs w' ∧
                  ∃ d', El.Lies w' (fun k => w.heap.size + 3 ≤ k ∧ k < w'.heap.size ∧ (Value.slice avk qs.length cvk).ownBlock ≠ some k) d' (.slice a xm c) (.slice a' xl c') x) := by
              intro W hh ho
              have hbW : Below wa.heap.size wa W := ⟨ho.1, ho.2.1, ho.2.2, by rw [hh]; exact Nat.le_refl _, fun k _ => by rw [hh]⟩
              have h1 := HI.out x (.slice xa xm xc) (.slice xk xl xd) W (p4.keep (fun k hk => by rw [hh]; exact hpl k hk) fun k hk => by have := RA.out.below.size; rw [hh]; exact Nat.lt_of_lt_of_le hk this) hxw
              rw [hxn, hxt, hxm, hxl] at h1
              refine h1.mono ?_
              rintro e w' ⟨hb, a, c, a', c', d', rfl, hl⟩
              refine ⟨a, c, a', c', rfl, (RA.out.step hbW).step hb, d', hl.keep (fun _ _ => rfl) fun k hk => ⟨?_, hk.2, ?_⟩⟩
              · have := RA.out.lt; have h5 := hk.1; rw [hh] at h5; omega
              · intro e
                have := (Tr.row_lt RA.out.ownK e).2
                have h5 := hk.1
                rw [hh] at h5
                omega
            have HU : Hid (wa.os = wa.os ∧ wa.tape = wa.tape ∧ wa.output = wa.output) := ⟨rfl, rfl, rfl⟩
            have HX : Hid (E.kids[qs.length] = x ∧ x.name = xn ∧ x.text = xt ∧ x.attrs.length = xm ∧ x.kids.length = xl) := ⟨hx, hxn, hxt, hxm, hxl⟩
            have HWA : Hid _ := hwa
            have lg : g < wr.heap.size := by have := HJ.out.2.below.size; omega
            have F4 : Hid (∀ W4 : World, Tr.Rf w #[.string nm, .slice aa m ca, .slice (some ⟨g, off, none⟩) n ck, .string tx] nm tx (.slice av E.attrs.length cv) (.slice avk qs.length cvk) E.attrs qs W4 → W4.cell? ⟨w.heap.size + 1 + 1, 2, none⟩ = some (.slice avk qs.length cvk) ∧ w.heap.size + 3 ≤ W4.heap.size ∧ ∀ o, (W4.alloc o).cell? ⟨w.heap.size + 1 + 1, 2, none⟩ = some (.slice avk qs.length cvk)) := fun W4 h => by
              have h1 := h.var
              refine ⟨by simp [World.cell?, h1], h.lt, fun o => ?_⟩
              have h2 := (h.step ((Below.refl _ W4).alloc (Nat.le_refl _) o)).var
              simp [World.cell?, h2]
            have F6 : Hid (∀ (W4 W6 : World) (o : Obj), Tr.Rf w #[.string nm, .slice aa m ca, .slice (some ⟨g, off, none⟩) n ck, .string tx] nm tx (.slice av E.attrs.length cv) (.slice avk qs.length cvk) E.attrs qs W4 → (W4.alloc o).grownBy W6 (Value.slice avk qs.length cvk).ownBlock → W6.cell? ⟨w.heap.size + 1 + 1, 2, none⟩ = some (.slice avk qs.length cvk) ∧ W6.frozen? ⟨w.heap.size + 1 + 1, 2, none⟩ = false) := fun W4 W6 o h hg6 => by
              have h1 := (h.step ((Below.refl _ W4).alloc (Nat.le_refl _) o)).mid hg6
              exact ⟨by simp [World.cell?, h1], by simp [World.frozen?, h1]⟩
            clear hcb p0 p1 p2 p3 p4 hx hxn hxt hxm hxl hwa Aa hma hxw hpl
            go_upto_region 10 with fail
            rw [HWA.out]
            clear k0 k1 k2 k3
            go_region_law (first
              | (go_simp; go_at_call 12; refine Calls.mono (HCALL.out _ ?_ ?_) ?_; exact rfl; exact HU.out; rintro e W4 ⟨a4, c4, a5, c5, rfl, r4, l4⟩; obtain ⟨y4, y5, y6⟩ := F4.out W4 r4)
              | ((with_reducible refine Tr.at_op2 (Op.call { callee := Callee.builtin Builtin.append, args := #[.tmp 39, .tmp 42], argTypes := #[37, 37] }) ?hop ?_); (case hop => with_reducible rfl); go_loud (refine step_append_lies _ rfl (.tmp 39) (.tmp 42) 37 rfl (w.heap.size + 3) 39 i1 _ 4 80 Tryd.underlying37 hi1 hy0 hy1 hy2 rfl (by decide) (.slice avk qs.length cvk) qs.length (Tr.eCells qs) (by simp [Act.eval]) (by exact (r4.step ((Below.refl _ W4).alloc (Nat.le_refl _) (.cells #[.string xn, .slice a4 xm c4, .slice a5 xl c5, .string xt] 39))).ownK) ⟨W4.heap.size, 0, none⟩ 1 1 [.string xn, .slice a4 xm c4, .slice a5 xl c5, .string xt] (by simp [Act.eval]) rfl (by exact World.news_of_block (heap_alloc_new W4 (.cells #[.string xn, .slice a4 xm c4, .slice a5 xl c5, .string xt] 39))) (by simp [Value.oneCell']) (by decide) (by unfold maxLen; omega) (by omega) (by simp; omega) (W4.heap.size + 1) (by simp) ?_); intro g6 c6 W6 o6 q6 hg6 hl6; obtain ⟨z0, z1⟩ := F6.out W4 W6 _ r4 (by exact ⟨q6.os, q6.tape, q6.output, q6.size, q6.block⟩))
              | fail)
            all_goals
              have RN : Hid (Tr.Rf w #[.string nm, .slice aa m ca, .slice (some ⟨g, off, none⟩) n ck, .string tx] nm tx (.slice av E.attrs.length cv) (.slice (some ⟨g6, 0, none⟩) (qs.length + 1) c6) E.attrs (qs ++ [(x, .slice a4 xm c4, .slice a5 xl c5)]) (W6.setCell ⟨w.heap.size + 1 + 1, 2, none⟩ (.slice (some ⟨g6, 0, none⟩) (qs.length + 1) c6))) := by
                have A4 : Below W4.heap.size W4 (W4.alloc (.cells #[.string xn, .slice a4 xm c4, .slice a5 xl c5, .string xt] 39)) := (Below.refl _ W4).alloc (Nat.le_refl _) _
                obtain ⟨d', hl⟩ := l4
                refine Tr.Rf.kid (x := x) (H := W4.heap.size + 1) (r4.step A4) ⟨d', hl.keep (fun k hk => A4.block k hk.2.1) fun k hk => ⟨hk.1, Nat.lt_of_lt_of_le hk.2.1 A4.size, hk.2.2⟩⟩ (by simp) (by rw [HX.out.2.1, HX.out.2.2.1]; exact o6) ⟨q6.os, q6.tape, q6.output, q6.size, q6.block⟩ hg6
              have HQ : Hid ((qs ++ [(x, Value.slice a4 xm c4, Value.slice a5 xl c5)]).map (·.1) = E.kids.take (qs.length + 1)) := by
                show _ = _
                rw [List.take_succ_eq_append_getElem hjk, List.map_append, HJ.out.1, HX.out.1]
                rfl
              clear r4 l4 y4 y5 y6 o6 q6 hg6 hl6 z0 z1
              go_wp2
              go_roundg (gk - 1)
              case measure => omega
              case rel => exact ⟨qs.length + 1, _, _, by omega, by go_num, by simp, HQ.out, RN.out⟩
          · have hd : decide ((qs.length : Int) < n) = false := decide_eq_false (by omega)
            have hall : qs.map (·.1) = E.kids := HJ.out.1.trans (List.take_of_length_le (by rw [HM.out.2.2.1]; omega))
            have hu := Tryd.underlying39
            have hlen : qs.length = n := by rw [← HM.out.2.2.1, ← hall]; simp
            have HR : Hid (Tr.Rf w #[.string nm, .slice aa m ca, .slice ak n ck, .string tx] nm tx (.slice av E.attrs.length cv) (.slice avk qs.length cvk) E.attrs qs wr) := HJ.out.2
            have HEl : Hid (∃ d', El.Lies wr (fun k => w.heap.size + 3 ≤ k ∧ k < wr.heap.size) d' (.slice av E.attrs.length cv) (.slice avk qs.length cvk) E) := by
              have h1 := HJ.out.2
              rw [← HM.out.1, ← HM.out.2.1] at h1
              exact Tr.Rf.elem h1 hall
            have HLEN : Hid (qs.length = n ∧ E.attrs.length = m) := ⟨hlen, HM.out.2.2.2.1⟩
            have hv := HR.out.var
            obtain ⟨⟨z0, z1, z2, z3⟩, y0, y1, y2, y3⟩ : (wr.cell? ⟨w.heap.size + 1, 0, none⟩ = some (.string ⟨#[]⟩) ∧ wr.cell? ⟨w.heap.size + 1, 1, none⟩ = some (.slice none 0 0) ∧ wr.cell? ⟨w.heap.size + 1, 2, none⟩ = some (.slice none 0 0) ∧ wr.cell? ⟨w.heap.size + 1, 3, none⟩ = some (.string ⟨#[]⟩)) ∧ wr.frozen? ⟨w.heap.size + 1, 0, none⟩ = false ∧ wr.frozen? ⟨w.heap.size + 1, 1, none⟩ = false ∧ wr.frozen? ⟨w.heap.size + 1, 2, none⟩ = false ∧ wr.frozen? ⟨w.heap.size + 1, 3, none⟩ = false := by
              have := HR.out.res
              simp [World.cell?, World.frozen?, this]
            clear hall hlen HJ
            go_wp2_with (first | (refine wpList_load_row rfl 39 _ rfl _ rfl 39 _ (0, 0) _ hv hu rfl (by kernel_rfl) ?_) | fail)
            refine bodyPost_ret (results_cell_row Tryd.results12 _ _ (w.heap.size + 1) 39 #[.string nm, .slice av E.attrs.length cv, .slice avk qs.length cvk, .string tx] (0, 0) _ rfl (Tr.put4t HR.out.res _ _ _ _) Tryd.underlying39 rfl (by kernel_rfl)) rfl ⟨?_, ?_⟩
            · exact (((HR.out.below.setCell (by show _ ≤ w.heap.size + 1; omega) _).setCell (by show _ ≤ w.heap.size + 1; omega) _).setCell (by show _ ≤ w.heap.size + 1; omega) _).setCell (by show _ ≤ w.heap.size + 1; omega) _
            · obtain ⟨d', hl⟩ := HEl.out
              refine ⟨av, cv, avk, cvk, d', by rw [HLEN.out.1, HLEN.out.2], ?_⟩
              rw [← HLEN.out.1, ← HLEN.out.2]
              refine hl.keep (fun k hk => ?_) fun k hk => ⟨by omega, by have := hk.2; simpa [World.setCell] using this⟩
              rw [Below.heap_setCell _ _ _ _ (by show k ≠ w.heap.size + 1; omega), Below.heap_setCell _ _ _ _ (by show k ≠ w.heap.size + 1; omega), Below.heap_setCell _ _ _ _ (by show k ≠ w.heap.size + 1; omega), Below.heap_setCell _ _ _ _ (by show k ≠ w.heap.size + 1; omega)]

end Go.Proofs
