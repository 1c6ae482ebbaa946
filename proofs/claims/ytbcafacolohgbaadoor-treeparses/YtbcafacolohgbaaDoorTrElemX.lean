/-
  The walk of the document's elem.
-/
import Derived.Test.YtbcafacolohgbaaDoorAllTrElem
import Derived.Deep.DeepCutAuto
import Derived.Deep.AppendLies
import Derived.Deep.RegionHeld3
namespace Go.Proofs
open Go.RowKit
open Go.Proofs.Mk

theorem Dc.dr {a w : World} (h : Below a.heap.size a w) : Below a.heap.size a w.drew := h.drew
theorem Dc.al {a w : World} (h : Below a.heap.size a w) (o : Obj) : Below a.heap.size a (w.alloc o) := h.alloc h.size o

set_option maxHeartbeats 16000000 in
set_option maxRecDepth 20000 in
theorem Dc.elemC : ∀ N : Nat, Dc.ElemC N := by
  intro N
  induction N with
  | zero => intro A B ms a c i d w _ _ _ hi hN; omega
  | succ N ih =>
    intro A B ms a c i d w hM hB hl hi hN hd
    obtain ⟨R, hR⟩ : ∃ R, Dc.elemR ms i d = R := ⟨_, rfl⟩
    rw [hR]
    obtain ⟨n, hn⟩ : ∃ n, ms.length = n := ⟨_, rfl⟩
    obtain ⟨w1, hw1⟩ : ∃ x, w.alloc (.cells #[.string ⟨#[]⟩, .slice none 0 0, .slice none 0 0, .string ⟨#[]⟩, .int .i64 0, .int .i64 0, .int .i64 0] 88) = x := ⟨_, rfl⟩
    have A1 : Below w.heap.size w w1 := by rw [← hw1]; exact (Below.refl _ w).alloc (Nat.le_refl _) _
    have S1 : w1.heap.size = w.heap.size + 1 := by rw [← hw1]; simp
    have N1 : w1.heap[w.heap.size]? = some (.cells #[.string ⟨#[]⟩, .slice none 0 0, .slice none 0 0, .string ⟨#[]⟩, .int .i64 0, .int .i64 0, .int .i64 0] 88 (0, 0)) := by rw [← hw1]; exact heap_alloc_new w _
    have HW1 : Hid _ := hw1
    have hu := Tryd.underlying88
    by_cases hd24 : 24 < d
    · have hdd : decide ((24 : Int) < d) = true := decide_eq_true (by omega)
      have HR : Hid (R = .err 2 i) := by show _ = _; rw [← hR, Dc.elemR_eq hi, if_pos hd24]
      have HA : Hid (Below w.heap.size w w1) := A1
      rw [hn]
      clear ih hM hR hn hw1 A1 S1 hd24
      go_enter Tryd.func35, Tryd.ntmps35
      go_upto_region 1 with fail
      rw [HW1.out]
      go_wp2_with (refine wpList_store_row rfl 88 _ _ rfl w.heap.size #[.string ⟨#[]⟩, .slice none 0 0, .slice none 0 0, .string ⟨#[]⟩, .int .i64 0, .int .i64 2, .int .i64 i] rfl rfl 88 _ N1 (by kernel_rfl) rfl (by kernel_rfl) ?_)
      refine bodyPost_ret (v := .agg #[.string ⟨#[]⟩, .slice none 0 0, .slice none 0 0, .string ⟨#[]⟩, .int .i64 0, .int .i64 2, .int .i64 i]) (results_cell_row Tryd.results35 _ _ w.heap.size 88 #[.string ⟨#[]⟩, .slice none 0 0, .slice none 0 0, .string ⟨#[]⟩, .int .i64 0, .int .i64 2, .int .i64 i] (0, 0) _ rfl (setRow_heap _ _ _ _ _ _ N1) hu rfl (by kernel_rfl)) rfl ⟨Mk.below_setRow HA.out (Nat.le_refl _) _, ?_⟩
      rw [HR.out]
      rfl
    · have hdd : decide ((24 : Int) < d) = false := decide_eq_false (by omega)
      obtain ⟨g, u, rfl, hg, c0, c1, c2, c3, c4, hA⟩ := hM i hi
      obtain ⟨mi, hmi⟩ : ∃ m, ms[i] = m := ⟨_, rfl⟩
      rw [hmi] at c2 hA
      obtain ⟨ua, uc, rfl⟩ := hA.shape
      obtain ⟨nm, hnm⟩ : ∃ x, mi.name = x := ⟨_, rfl⟩
      obtain ⟨um, hum⟩ : ∃ x, mi.attrs.length = x := ⟨_, rfl⟩
      rw [hnm] at c2
      rw [hum] at c3 hA
      have HL : Hid (Dc.loop ms d (.mk nm mi.attrs [] ⟨#[]⟩) [] (i + 1) = R) := by show _ = _; rw [← hR, Dc.elemR_eq hi, if_neg hd24, hmi]; unfold Ps.leaf; rw [hnm]
      have HM : Hid (Dc.Marks w A B (some ⟨g, 0, none⟩) ms ∧ B ≤ w.heap.size ∧ ms.length = n ∧ i < n ∧ n - i ≤ N + 1 ∧ El.AttrsP w (fun k => A ≤ k ∧ k < B) (.slice ua um uc) mi.attrs ∧ mi.attrs.length = um) := ⟨hM, hB, hn, by omega, by omega, hA, hum⟩
      have HI : Hid (Dc.ElemC N) := ih
      have CF : Hid (∀ W, Below w1.heap.size w1 W → W.cell? ⟨g, i * 5 + 2, none⟩ = some (.string nm) ∧ W.cell? ⟨g, i * 5 + 3, none⟩ = some (.slice ua um uc)) := fun W hb => by
        have hcc : ∀ o, W.cell? ⟨g, o, none⟩ = w.cell? ⟨g, o, none⟩ := fun o => (A1.trans (hb.mono A1.size)).cell (p := ⟨g, o, none⟩) (Nat.lt_of_lt_of_le hg hB)
        exact ⟨(hcc _).trans c2, (hcc _).trans c3⟩
      have hin : (i : Int) < n := by omega
      have hin0 : (0 : Int) ≤ i := by omega
      have hn1 : n ≤ 100000 := by omega
      have hi1 : i < n := by omega
      have HX1 : Hid (Below w.heap.size w w1 ∧ w1.heap.size = w.heap.size + 1 ∧ w1.heap[w.heap.size]? = some (.cells #[.string ⟨#[]⟩, .slice none 0 0, .slice none 0 0, .string ⟨#[]⟩, .int .i64 0, .int .i64 0, .int .i64 0] 88 (0, 0))) := ⟨A1, S1, N1⟩
      have BR : Hid (Below w1.heap.size w1 w1) := Below.refl _ _
      have hws : w1.heap.size = w.heap.size + 1 := S1
      have hgw : g < w1.heap.size := by omega
      rw [hn]
      clear ih hM hR hn hw1 A1 S1 N1 hd24 c0 c1 c2 c3 c4 hA hmi hnm hum hi hB hl hN
      go_enter Tryd.func35, Tryd.ntmps35
      go_upto_region 3 with fail
      rw [HW1.out]
      go_cut [7] (fun s7 wx => s7 = .pointer (some ⟨w.heap.size + 1, 0, none⟩) ∧ Hid (Dc.Rf w A B nm ⟨#[]⟩ (.slice ua um uc) (.slice none 0 0) [] wx))
      case first =>
        clear HI HM HL hu
        go_region_held3 (fun W => W.cell? ⟨g, i * 5 + 2, none⟩ = some (.string nm) ∧ W.cell? ⟨g, i * 5 + 3, none⟩ = some (.slice ua um uc))
          (first | (refine CF.out _ ?_; (repeat (first | exact BR.out | apply Dc.al | apply Dc.dr)))) (fail)
        all_goals
          go_wp2_with fail
          go_meet
          refine ⟨rfl, ?_⟩
          refine ⟨?_, ?_, World.ownsRow_nil _ _ _ _, (fun q hq => by cases hq), (HX1.out.1.alloc (by have := HX1.out.2.1; omega) _).drew⟩
          · show (w1.alloc _).heap[w.heap.size]? = _
            rw [Below.heap_alloc _ _ _ (by have := HX1.out.2.1; omega)]; exact HX1.out.2.2
          · show (w1.alloc _).heap[w.heap.size + 1]? = _
            rw [← HX1.out.2.1]; exact heap_alloc_new w1 _
      case rest =>
      rename World => wc
      obtain ⟨rfl, HG⟩ := hcut
      obtain ⟨i1, hi1e, hy0, hy1, hy2⟩ := info_parts Tryd.infoRElem
      have hue := Tryd.underlying39
      clear CF BR HX1 hin hin0 hgw HW1
      go_wp2
      go_loopg [8, 9, 10] (n - (i + 1)) (fun gk s8 _ _ wr => ∃ (k : Nat) (tx : ByteArray) (vK : Value) (qs : List (El × Value × Value)), s8 = .int .i64 k ∧ gk + k = n ∧ i < k ∧ Hid (Dc.loop ms d (.mk nm mi.attrs [] tx) (qs.map (·.1)) k = R ∧ Dc.Rf w A B nm tx (.slice ua um uc) vK qs wr ∧ qs.length < k))
      case atStart => exact ⟨i + 1, ⟨#[]⟩, .slice none 0 0, [], by go_num, by omega, by omega, HL.out, HG.out, by simp⟩
      case round =>
        obtain ⟨k, tx, vK, qs, rfl, hgk, hik, HJ⟩ := hrel
        clear HG HL
        obtain ⟨aK, cK, hvK⟩ := Mk.own_shape HJ.out.2.1.ownK
        subst hvK
        obtain ⟨nq, hnq⟩ : ∃ z, qs.length = z := ⟨_, rfl⟩
        rw [hnq] at HJ
        have HQ : Hid (qs.length = nq) := hnq
        have hqk : nq < k := by have := HJ.out.2.2; omega
        have hq1 : nq ≤ 100000 := by omega
        have HB : Hid (Below w.heap.size w wr) := HJ.out.2.1.below
        have NR := HJ.out.2.1.res
        clear hnq
        by_cases hkn : k < n
        · have hd1 : decide ((k : Int) < n) = true := decide_eq_true (by omega)
          obtain ⟨g', u', hga, hg', c0, c1, c2, c3, c4, hA'⟩ := HM.out.1 k (by rw [HM.out.2.2.1]; exact hkn)
          simp only [Option.some.injEq, Addr.mk.injEq, and_true] at hga
          subst hga
          obtain ⟨mk, hmk⟩ : ∃ z, ms[k]'(by rw [HM.out.2.2.1]; exact hkn) = z := ⟨_, rfl⟩
          rw [hmk] at c0 c1 c2 c4 hA'
          obtain ⟨ka, kc, rfl⟩ := hA'.shape
          obtain ⟨kd, hkd⟩ : ∃ z, mk.kind = z := ⟨_, rfl⟩
          obtain ⟨mn, hmn⟩ : ∃ z, mk.name = z := ⟨_, rfl⟩
          obtain ⟨mt, hmt⟩ : ∃ z, mk.text = z := ⟨_, rfl⟩
          obtain ⟨kl, hkl⟩ : ∃ z, mk.attrs.length = z := ⟨_, rfl⟩
          obtain ⟨ka2, hka2⟩ : ∃ z, mk.at_ = z := ⟨_, rfl⟩
          rw [hkd] at c0
          rw [hka2] at c1
          rw [hmn] at c2
          rw [hkl] at c3
          rw [hmt] at c4
          have hcc : ∀ o, wr.cell? ⟨g, o, none⟩ = w.cell? ⟨g, o, none⟩ := fun o => HB.out.cell (p := ⟨g, o, none⟩) (Nat.lt_of_lt_of_le hg' HM.out.2.1)
          have d0 := (hcc _).trans c0
          have d1 := (hcc _).trans c1
          have d2 := (hcc _).trans c2
          have d3 := (hcc _).trans c3
          have d4 := (hcc _).trans c4
          have hgw : g < wr.heap.size := by have := HB.out.size; have := HM.out.2.1; omega
          obtain ⟨W3, hW3⟩ : ∃ z, wr.alloc (.cells #[.int .i64 kd, .int .i64 ka2, .string mn, .slice ka kl kc, .string mt] 86) = z := ⟨_, rfl⟩
          have HW3 : Hid _ := hW3
          have A3 : Below wr.heap.size wr W3 := by rw [← hW3]; exact (Below.refl _ wr).alloc (Nat.le_refl _) _
          have hm3 : W3.heap[wr.heap.size]? = some (.cells #[.int .i64 kd, .int .i64 ka2, .string mn, .slice ka kl kc, .string mt] 86 (0, 0)) := by rw [← hW3]; exact heap_alloc_new wr _
          have m0 : W3.cell? ⟨wr.heap.size, 0, none⟩ = some (.int .i64 kd) := by simp [World.cell?, hm3]
          have m2 : W3.cell? ⟨wr.heap.size, 2, none⟩ = some (.string mn) := by simp [World.cell?, hm3]
          have m4 : W3.cell? ⟨wr.heap.size, 4, none⟩ = some (.string mt) := by simp [World.cell?, hm3]
          have HF : Hid (Dc.Rf w A B nm tx (.slice ua um uc) (.slice aK nq cK) qs W3) := HJ.out.2.1.step A3
          have hv3 := HF.out.var
          have o0 : W3.cell? ⟨w.heap.size + 1, 0, none⟩ = some (.string nm) := by simp [World.cell?, hv3]
          have o1 : W3.cell? ⟨w.heap.size + 1, 1, none⟩ = some (.slice ua um uc) := by simp [World.cell?, hv3]
          have o2 : W3.cell? ⟨w.heap.size + 1, 2, none⟩ = some (.slice aK nq cK) := by simp [World.cell?, hv3]
          have o3 : W3.cell? ⟨w.heap.size + 1, 3, none⟩ = some (.string tx) := by simp [World.cell?, hv3]
          have f3 : W3.frozen? ⟨w.heap.size + 1, 3, none⟩ = false := by simp [World.frozen?, hv3]
          have HMK : Hid (∃ h : k < ms.length, ms[k] = mk ∧ mk.kind = kd ∧ mk.name = mn ∧ mk.text = mt) := ⟨by rw [HM.out.2.2.1]; exact hkn, hmk, hkd, hmn, hmt⟩
          have HLE : Hid (Dc.loop ms d (.mk nm mi.attrs [] tx) (qs.map (·.1)) k = R) := HJ.out.1
          clear NR HB
          have HB : Hid (Below w.heap.size w W3) := HF.out.below
          have NR := HF.out.res
          clear c0 c1 c2 c3 c4 hA' hmk hkd hmn hmt hkl hka2 hcc hW3 A3 hm3 hv3 HJ hg'
          go_upto_region 7 with fail
          rw [HW3.out]
          clear d0 d1 d2 d3 d4 HW3
          by_cases k2 : kd = 2
          · have e2 : ((kd : Int) == 2) = true := by simp [k2]
            by_cases hnn : nm = mn
            · have hE : Hid (R = .ok (.mk nm mi.attrs (qs.map (·.1)) tx) (k + 1)) := by
                obtain ⟨hk', h1, h2, h3, h4⟩ := HMK.out
                show _ = _
                rw [← HLE.out, Dc.loop_eq hk' h1, if_pos (by rw [h2]; exact k2), if_pos (by rw [h3]; exact hnn)]
                rfl
              have en : (mn.toList == nm.toList) = true := Mk.beq_of_eq hnn.symm
              have HEl : Hid (∃ dd, El.Lies W3 (fun k => ((A ≤ k ∧ k < B) ∨ w.heap.size + 2 ≤ k) ∧ k < W3.heap.size) dd (.slice ua um uc) (.slice aK nq cK) (.mk nm mi.attrs (qs.map (·.1)) tx)) := by
                refine Dc.Rf.elem (E := .mk nm mi.attrs (qs.map (·.1)) tx) HF.out ?_ rfl
                exact HM.out.2.2.2.2.2.1.keep (fun x hx => HB.out.block x (Nat.lt_of_lt_of_le hx.2 HM.out.2.1)) fun x hx => ⟨.inl hx, Nat.lt_of_lt_of_le hx.2 (Nat.le_trans HM.out.2.1 HB.out.size)⟩
              have hkk : IntKind.i64.wrap ((k : Int) + 1) = ((k + 1 : Nat) : Int) := by rw [IntKind.wrap_i64]; omega
              clear k2 hnn HLE
              go_wp2_with (refine wpList_store_row rfl 88 _ _ rfl w.heap.size #[.string nm, .slice ua um uc, .slice aK nq cK, .string tx, .int .i64 ((k + 1 : Nat) : Int), .int .i64 0, .int .i64 0] rfl rfl 88 _ NR (by kernel_rfl) rfl (by kernel_rfl) ?_)
              refine bodyPost_ret (v := .agg #[.string nm, .slice ua um uc, .slice aK nq cK, .string tx, .int .i64 ((k + 1 : Nat) : Int), .int .i64 0, .int .i64 0]) (results_cell_row Tryd.results35 _ _ w.heap.size 88 #[.string nm, .slice ua um uc, .slice aK nq cK, .string tx, .int .i64 ((k + 1 : Nat) : Int), .int .i64 0, .int .i64 0] (0, 0) _ rfl (setRow_heap _ _ _ _ _ _ NR) hu rfl (by kernel_rfl)) rfl ⟨Mk.below_setRow HB.out (Nat.le_refl _) _, ?_⟩
              rw [hE.out]
              obtain ⟨dd, hl⟩ := HEl.out
              refine ⟨ua, uc, aK, cK, dd, ?_, ?_⟩
              · simp only [El.name, El.attrs, El.kids, El.text, List.length_map, HM.out.2.2.2.2.2.2, HQ.out]
              · simp only [El.attrs, El.kids, List.length_map, HM.out.2.2.2.2.2.2, HQ.out]
                exact hl.keep (fun x hx => setRow_other _ _ _ _ (by have := HM.out.2.1; omega)) fun x hx => ⟨hx.1.imp id fun h => by omega, by simpa [World.setRow] using hx.2⟩
            · have HE : Hid (R = .err 4 k) := by
                obtain ⟨hk', h1, h2, h3, h4⟩ := HMK.out
                show _ = _
                rw [← HLE.out, Dc.loop_eq hk' h1, if_pos (by rw [h2]; exact k2), if_neg (by rw [h3]; exact hnn)]
              have en : (mn.toList == nm.toList) = false := Mk.beq_of_ne fun e => hnn e.symm
              clear k2 hnn HLE
              go_wp2_with (refine wpList_store_row rfl 88 _ _ rfl w.heap.size #[.string ⟨#[]⟩, .slice none 0 0, .slice none 0 0, .string ⟨#[]⟩, .int .i64 0, .int .i64 4, .int .i64 k] rfl rfl 88 _ NR (by kernel_rfl) rfl (by kernel_rfl) ?_)
              refine bodyPost_ret (v := .agg #[.string ⟨#[]⟩, .slice none 0 0, .slice none 0 0, .string ⟨#[]⟩, .int .i64 0, .int .i64 4, .int .i64 k]) (results_cell_row Tryd.results35 _ _ w.heap.size 88 #[.string ⟨#[]⟩, .slice none 0 0, .slice none 0 0, .string ⟨#[]⟩, .int .i64 0, .int .i64 4, .int .i64 k] (0, 0) _ rfl (setRow_heap _ _ _ _ _ _ NR) hu rfl (by kernel_rfl)) rfl ⟨Mk.below_setRow HB.out (Nat.le_refl _) _, ?_⟩
              rw [HE.out]
              rfl
          · have e2 : ((kd : Int) == 2) = false := by simp; omega
            by_cases k3 : kd = 3
            · have e3 : ((kd : Int) == 3) = true := by simp [k3]
              by_cases hq0 : nq = 0
              · have HN : Hid (Dc.loop ms d (.mk nm mi.attrs [] mt) (qs.map (·.1)) (k + 1) = R ∧ Dc.Rf w A B nm mt (.slice ua um uc) (.slice aK nq cK) qs (W3.setCell ⟨w.heap.size + 1, 3, none⟩ (.string mt))) := by
                  obtain ⟨hk', h1, h2, h3, h4⟩ := HMK.out
                  refine ⟨?_, HF.out.txt HM.out.2.1 mt⟩
                  rw [← HLE.out, Dc.loop_eq hk' h1, if_neg (by rw [h2]; exact k2), if_pos (by rw [h2]; exact k3), if_pos (by rw [List.length_map, HQ.out]; exact hq0), h4]
                  rfl
                have dq : ¬ 0 < nq := by omega
                have HQ0 : Hid (qs.length < k + 1 ∧ nq = qs.length) := ⟨by rw [HQ.out]; omega, HQ.out.symm⟩
                clear k2 k3 HLE HMK
                go_wp2
                go_roundg (gk - 1)
                case measure => omega
                case rel => exact ⟨k + 1, mt, .slice aK nq cK, qs, by go_num, by omega, by omega, HN.out.1, HN.out.2, HQ0.out.1⟩
              · have HE : Hid (R = .err 4 k) := by
                  obtain ⟨hk', h1, h2, h3, h4⟩ := HMK.out
                  show _ = _
                  rw [← HLE.out, Dc.loop_eq hk' h1, if_neg (by rw [h2]; exact k2), if_pos (by rw [h2]; exact k3), if_neg (by rw [List.length_map, HQ.out]; exact hq0)]
                have dq : 0 < nq := by omega
                clear k2 k3 HLE hq0
                go_wp2_with (refine wpList_store_row rfl 88 _ _ rfl w.heap.size #[.string ⟨#[]⟩, .slice none 0 0, .slice none 0 0, .string ⟨#[]⟩, .int .i64 0, .int .i64 4, .int .i64 k] rfl rfl 88 _ NR (by kernel_rfl) rfl (by kernel_rfl) ?_)
                refine bodyPost_ret (v := .agg #[.string ⟨#[]⟩, .slice none 0 0, .slice none 0 0, .string ⟨#[]⟩, .int .i64 0, .int .i64 4, .int .i64 k]) (results_cell_row Tryd.results35 _ _ w.heap.size 88 #[.string ⟨#[]⟩, .slice none 0 0, .slice none 0 0, .string ⟨#[]⟩, .int .i64 0, .int .i64 4, .int .i64 k] (0, 0) _ rfl (setRow_heap _ _ _ _ _ _ NR) hu rfl (by kernel_rfl)) rfl ⟨Mk.below_setRow HB.out (Nat.le_refl _) _, ?_⟩
                rw [HE.out]
                rfl
            · have e3 : ((kd : Int) == 3) = false := by simp; omega
              by_cases htx : tx.size = 0
              · have et : tx.toList.isEmpty = true := by rw [Lib.toList_data, (Dc.size_zero tx).1 htx]; rfl
                by_cases hw : d < 24 ∧ 64 ≤ nq
                · have HE : Hid (R = .err 2 k) := by
                    obtain ⟨hk', h1, h2, h3, h4⟩ := HMK.out
                    show _ = _
                    rw [← HLE.out, Dc.loop_eq hk' h1, if_neg (by rw [h2]; exact k2), if_neg (by rw [h2]; exact k3), if_neg (by show ¬ tx.size ≠ 0; omega), if_pos (by rw [List.length_map, HQ.out]; exact hw)]
                  have dw : decide ((d : Int) < 24) = true := decide_eq_true (by omega)
                  have dq : decide ((64 : Int) ≤ nq) = true := decide_eq_true (by omega)
                  clear k2 k3 HLE htx hw
                  go_wp2_with (refine wpList_store_row rfl 88 _ _ rfl w.heap.size #[.string ⟨#[]⟩, .slice none 0 0, .slice none 0 0, .string ⟨#[]⟩, .int .i64 0, .int .i64 2, .int .i64 k] rfl rfl 88 _ NR (by kernel_rfl) rfl (by kernel_rfl) ?_)
                  refine bodyPost_ret (v := .agg #[.string ⟨#[]⟩, .slice none 0 0, .slice none 0 0, .string ⟨#[]⟩, .int .i64 0, .int .i64 2, .int .i64 k]) (results_cell_row Tryd.results35 _ _ w.heap.size 88 #[.string ⟨#[]⟩, .slice none 0 0, .slice none 0 0, .string ⟨#[]⟩, .int .i64 0, .int .i64 2, .int .i64 k] (0, 0) _ rfl (setRow_heap _ _ _ _ _ _ NR) hu rfl (by kernel_rfl)) rfl ⟨Mk.below_setRow HB.out (Nat.le_refl _) _, ?_⟩
                  rw [HE.out]
                  rfl
                · have hd25 : d ≤ 24 := by have := of_decide_eq_false hdd; omega
                  obtain ⟨G, hG⟩ : ∃ G, Dc.elemR ms k (d + 1) = G := ⟨_, rfl⟩
                  have HLK : Hid (Dc.cont ms d (.mk nm mi.attrs [] tx) (qs.map (·.1)) G = R ∧ Dc.elemR ms k (d + 1) = G ∧ k < ms.length) := by
                    obtain ⟨hk', h1, h2, h3, h4⟩ := HMK.out
                    refine ⟨?_, hG, hk'⟩
                    rw [← HLE.out, Dc.loop_kid (h := .mk nm mi.attrs [] tx) hk' h1 (by rw [h2]; exact k2) (by rw [h2]; exact k3) htx (by rw [List.length_map, HQ.out]; exact hw), hG]
                  have hcall := HI.out A B ms (some ⟨g, 0, none⟩) c k (d + 1) W3 (HM.out.1.below (HB.out.mono HM.out.2.1)) (Nat.le_trans HM.out.2.1 HB.out.size) (by have := HM.out.2.2.1; omega) HLK.out.2.2 (by have := HM.out.2.2.1; have := HM.out.2.2.2.2.1; omega) (by omega)
                  rw [hG, HM.out.2.2.1] at hcall
                  have HCALL : Hid _ := hcall
                  have dd1 : IntKind.i64.wrap ((d : Int) + 1) = ((d + 1 : Nat) : Int) := by rw [IntKind.wrap_i64]; omega
                  have tw : decide ((d : Int) < 24) = false ∨ (decide ((d : Int) < 24) = true ∧ decide ((64 : Int) ≤ nq) = false) := by
                    by_cases h24 : d < 24
                    · exact .inr ⟨decide_eq_true (by omega), decide_eq_false (by omega)⟩
                    · exact .inl (decide_eq_false (by omega))
                  clear hcall hG k2 k3 HLE htx hw HMK
                  cases G with
                  | err er ej =>
                    have hne : ((er : Int) != 0) = true := by
                      have := (Dc.elemR_err HLK.out.2.2 HLK.out.2.1).1
                      rcases this with h | h <;> simp [h]
                    have HE : Hid (R = .err er ej) := HLK.out.1.symm
                    rcases tw with t1 | ⟨t1, t2⟩
                    all_goals
                      go_wp2_with fail
                      refine Calls.mono HCALL.out ?_
                      rintro e W4 ⟨b4, rfl⟩
                      obtain ⟨W5, hW5⟩ : ∃ z, W4.alloc (.cells #[.string ⟨#[]⟩, .slice none 0 0, .slice none 0 0, .string ⟨#[]⟩, .int .i64 0, .int .i64 er, .int .i64 ej] 88) = z := ⟨_, rfl⟩
                      have HF5 := (HF.out.step b4).step (X' := W5) (by rw [← hW5]; exact (Below.refl _ W4).alloc (Nat.le_refl _) _)
                      have hm5 : W5.heap[W4.heap.size]? = some (.cells #[.string ⟨#[]⟩, .slice none 0 0, .slice none 0 0, .string ⟨#[]⟩, .int .i64 0, .int .i64 er, .int .i64 ej] 88 (0, 0)) := by rw [← hW5]; exact heap_alloc_new W4 _
                      have x5 : W5.cell? ⟨W4.heap.size, 5, none⟩ = some (.int .i64 er) := by simp [World.cell?, hm5]
                      have HW5 : Hid _ := hW5
                      clear HB NR
                      have HB : Hid (Below w.heap.size w W5) := HF5.below
                      have NR := HF5.res
                      clear hW5 b4 HF5 HCALL m0 m2 m4 o0 o1 o2 o3 f3
                      go_upto_region 21 with fail
                      rw [HW5.out]
                      go_wp2_with (first
                        | refine wpList_load_row rfl 88 _ rfl _ rfl 88 #[.string ⟨#[]⟩, .slice none 0 0, .slice none 0 0, .string ⟨#[]⟩, .int .i64 0, .int .i64 er, .int .i64 ej] (0, 0) _ hm5 hu rfl (by kernel_rfl) ?_
                        | refine wpList_store_row rfl 88 _ _ rfl w.heap.size #[.string ⟨#[]⟩, .slice none 0 0, .slice none 0 0, .string ⟨#[]⟩, .int .i64 0, .int .i64 er, .int .i64 ej] rfl rfl 88 _ NR (by kernel_rfl) rfl (by kernel_rfl) ?_)
                      refine bodyPost_ret (v := .agg #[.string ⟨#[]⟩, .slice none 0 0, .slice none 0 0, .string ⟨#[]⟩, .int .i64 0, .int .i64 er, .int .i64 ej]) (results_cell_row Tryd.results35 _ _ w.heap.size 88 #[.string ⟨#[]⟩, .slice none 0 0, .slice none 0 0, .string ⟨#[]⟩, .int .i64 0, .int .i64 er, .int .i64 ej] (0, 0) _ rfl (setRow_heap _ _ _ _ _ _ NR) hu rfl (by kernel_rfl)) rfl ⟨Mk.below_setRow HB.out (Nat.le_refl _) _, ?_⟩
                      rw [HE.out]
                      rfl
                  | ok E n2 =>
                    have hn2 := Dc.elemR_next HLK.out.2.2 HLK.out.2.1
                    rw [HM.out.2.2.1] at hn2
                    have hn2a := hn2.1
                    have hn2b := hn2.2
                    obtain ⟨en, hen⟩ : ∃ z, E.name = z := ⟨_, rfl⟩
                    obtain ⟨et, het⟩ : ∃ z, E.text = z := ⟨_, rfl⟩
                    obtain ⟨el, hel⟩ : ∃ z, E.attrs.length = z := ⟨_, rfl⟩
                    obtain ⟨fl, hfl⟩ : ∃ z, E.kids.length = z := ⟨_, rfl⟩
                    have HEE : Hid (E.name = en ∧ E.text = et ∧ E.attrs.length = el ∧ E.kids.length = fl) := ⟨hen, het, hel, hfl⟩
                    clear hen het hel hfl hn2
                    rcases tw with t1 | ⟨t1, t2⟩
                    all_goals
                      go_wp2_with fail
                      refine Calls.mono HCALL.out ?_
                      rintro e W4 ⟨b4, ea, ec, fa, fc, dd, rfl, hl4⟩
                      rw [HEE.out.2.2.1, HEE.out.2.2.2] at hl4
                      rw [HEE.out.1, HEE.out.2.1, HEE.out.2.2.1, HEE.out.2.2.2]
                      obtain ⟨W5, hW5⟩ : ∃ z, W4.alloc (.cells #[.string en, .slice ea el ec, .slice fa fl fc, .string et, .int .i64 n2, .int .i64 0, .int .i64 0] 88) = z := ⟨_, rfl⟩
                      have A5 : Below W4.heap.size W4 W5 := by rw [← hW5]; exact (Below.refl _ W4).alloc (Nat.le_refl _) _
                      have HF5 : Hid (Dc.Rf w A B nm tx (.slice ua um uc) (.slice aK nq cK) qs W5) := (HF.out.step b4).step A5
                      have hm5 : W5.heap[W4.heap.size]? = some (.cells #[.string en, .slice ea el ec, .slice fa fl fc, .string et, .int .i64 n2, .int .i64 0, .int .i64 0] 88 (0, 0)) := by rw [← hW5]; exact heap_alloc_new W4 _
                      have S5 : W5.heap.size = W4.heap.size + 1 := by rw [← hW5]; simp
                      have HL5 : Hid (∃ dd, El.Lies W5 (fun k => ((A ≤ k ∧ k < B) ∨ w.heap.size + 2 ≤ k) ∧ k < W5.heap.size ∧ (Value.slice aK nq cK).ownBlock ≠ some k) dd (.slice ea el ec) (.slice fa fl fc) E) := by
                        refine ⟨dd, hl4.keep (fun x hx => A5.block x hx.2) fun x hx => ⟨hx.1.imp id fun h => by have := HF.out.lt; omega, by have := hx.2; omega, fun e => ?_⟩⟩
                        have h1 := Tr.row_lt HF.out.ownK e
                        have h2 := HM.out.2.1
                        omega
                      obtain ⟨x0, x1, x2, x3, x4, x5⟩ : W5.cell? ⟨W4.heap.size, 0, none⟩ = some (.string en) ∧ W5.cell? ⟨W4.heap.size, 1, none⟩ = some (.slice ea el ec) ∧ W5.cell? ⟨W4.heap.size, 2, none⟩ = some (.slice fa fl fc) ∧ W5.cell? ⟨W4.heap.size, 3, none⟩ = some (.string et) ∧ W5.cell? ⟨W4.heap.size, 4, none⟩ = some (.int .i64 n2) ∧ W5.cell? ⟨W4.heap.size, 5, none⟩ = some (.int .i64 0) := by simp [World.cell?, hm5]
                      have hv5 := HF5.out.var
                      have y2 : W5.cell? ⟨w.heap.size + 1, 2, none⟩ = some (.slice aK nq cK) := by simp [World.cell?, hv5]
                      have own5 : W5.ownsRow (w.heap.size + 2) 39 4 (.slice aK nq cK) nq (Tr.eCells qs) := by have := HF5.out.ownK; rw [HQ.out] at this; exact this
                      have hwlt : w.heap.size + 1 < W5.heap.size := HF5.out.lt
                      have HSZ : Hid (W3.heap.size ≤ W4.heap.size ∧ W5.heap.size = W4.heap.size + 1) := ⟨b4.size, S5⟩
                      have HW5 : Hid _ := hW5
                      clear S5 hW5 b4 A5 hl4 HCALL m0 m2 m4 o0 o1 o2 o3 f3 hv5 HB NR
                      go_upto_region 21 with fail
                      rw [HW5.out]
                      go_wp2_with (at_builtin; refine wpList_append_lies _ rfl _ _ 37 rfl (w.heap.size + 2) 39 i1 _ 4 80 Tryd.underlying37 hi1e hy0 hy1 hy2 rfl (by decide) _ _ _ rfl (own5.alloc _) ⟨W5.heap.size, 0, none⟩ 1 1 [.string en, .slice ea el ec, .slice fa fl fc, .string et] rfl rfl ?c1 ?c2 (by decide) ?c3 ?c4 ?c5 (W5.heap.size + 1) ?c6 ?_)
                      case c1 => exact World.news_of_block (heap_alloc_new W5 (.cells #[.string en, .slice ea el ec, .slice fa fl fc, .string et] 39))
                      case c2 => simp [Value.oneCell']
                      case c3 => unfold maxLen; omega
                      case c4 => omega
                      case c5 => simp; omega
                      case c6 => simp
                      intro g6 c6 W6 o6 q6 hg6 hl6
                      obtain ⟨W5a, hW5a⟩ : ∃ z, W5.alloc (.cells #[.string en, .slice ea el ec, .slice fa fl fc, .string et] 39) = z := ⟨_, rfl⟩
                      rw [hW5a] at q6
                      have A6 : Below W5.heap.size W5 W5a := by rw [← hW5a]; exact (Below.refl _ W5).alloc (Nat.le_refl _) _
                      have S6 : W5a.heap.size = W5.heap.size + 1 := by rw [← hW5a]; simp
                      have HF6 := HF5.out.step A6
                      have hv6 := HF6.mid q6
                      have z0 : W6.cell? ⟨w.heap.size + 1, 2, none⟩ = some (.slice aK nq cK) := by simp [World.cell?, hv6]
                      have z1 : W6.frozen? ⟨w.heap.size + 1, 2, none⟩ = false := by simp [World.frozen?, hv6]
                      have hm6 : W6.heap[W4.heap.size]? = some (.cells #[.string en, .slice ea el ec, .slice fa fl fc, .string et, .int .i64 n2, .int .i64 0, .int .i64 0] 88 (0, 0)) := by
                        rw [q6.block _ (by have := HSZ.out; omega) (fun e => by have := (Tr.row_lt HF.out.ownK e.symm).2; have := HSZ.out; omega), A6.block _ (by have := HSZ.out; omega)]
                        exact hm5
                      have z4 : W6.cell? ⟨W4.heap.size, 4, none⟩ = some (.int .i64 n2) := by simp [World.cell?, hm6]
                      have RN : Hid (Dc.loop ms d (.mk nm mi.attrs [] tx) ((qs ++ [(E, Value.slice ea el ec, Value.slice fa fl fc)]).map (·.1)) n2 = R ∧ Dc.Rf w A B nm tx (.slice ua um uc) (.slice (some ⟨g6, 0, none⟩) (nq + 1) c6) (qs ++ [(E, .slice ea el ec, .slice fa fl fc)]) (W6.setCell ⟨w.heap.size + 1, 2, none⟩ (.slice (some ⟨g6, 0, none⟩) (nq + 1) c6)) ∧ (qs ++ [(E, Value.slice ea el ec, Value.slice fa fl fc)]).length < n2) := by
                        refine ⟨?_, ?_, ?_⟩
                        · rw [List.map_append]; exact HLK.out.1
                        · have h6 := HF6
                          obtain ⟨dd, hl⟩ := HL5.out
                          have hlq := HQ.out
                          subst hlq
                          refine Dc.Rf.kid (x := E) (H := W5.heap.size + 1) h6 HM.out.2.1 ⟨dd, hl.keep (fun x hx => A6.block x hx.2.1) fun x hx => ⟨hx.1, Nat.lt_of_lt_of_le hx.2.1 A6.size, hx.2.2⟩⟩ S6 (by rw [HEE.out.1, HEE.out.2.1]; exact o6) q6 hg6
                        · rw [List.length_append, HQ.out]; simp; omega
                      clear x0 x1 x2 x3 x4 x5 y2 own5 o6 q6 hg6 hl6 hm5 hm6 hv6 HF6 A6 S6 hW5a
                      go_wp2
                      go_roundg (n - n2)
                      case measure => omega
                      case rel => exact ⟨n2, tx, _, _, rfl, by omega, by omega, RN.out⟩
              · have HE : Hid (R = .err 4 k) := by
                  obtain ⟨hk', h1, h2, h3, h4⟩ := HMK.out
                  show _ = _
                  rw [← HLE.out, Dc.loop_eq hk' h1, if_neg (by rw [h2]; exact k2), if_neg (by rw [h2]; exact k3), if_pos (by exact htx)]
                have et : tx.toList.isEmpty = false := by
                  rw [Lib.toList_data]
                  cases hx : tx.data.toList with
                  | nil => exact absurd ((Dc.size_zero tx).2 hx) htx
                  | cons x r => rfl
                clear k2 k3 HLE htx
                go_wp2_with (refine wpList_store_row rfl 88 _ _ rfl w.heap.size #[.string ⟨#[]⟩, .slice none 0 0, .slice none 0 0, .string ⟨#[]⟩, .int .i64 0, .int .i64 4, .int .i64 k] rfl rfl 88 _ NR (by kernel_rfl) rfl (by kernel_rfl) ?_)
                refine bodyPost_ret (v := .agg #[.string ⟨#[]⟩, .slice none 0 0, .slice none 0 0, .string ⟨#[]⟩, .int .i64 0, .int .i64 4, .int .i64 k]) (results_cell_row Tryd.results35 _ _ w.heap.size 88 #[.string ⟨#[]⟩, .slice none 0 0, .slice none 0 0, .string ⟨#[]⟩, .int .i64 0, .int .i64 4, .int .i64 k] (0, 0) _ rfl (setRow_heap _ _ _ _ _ _ NR) hu rfl (by kernel_rfl)) rfl ⟨Mk.below_setRow HB.out (Nat.le_refl _) _, ?_⟩
                rw [HE.out]
                rfl
        · obtain rfl : k = n := by omega
          have hd1 : decide ((k : Int) < k) = false := decide_eq_false (by omega)
          have HE : Hid (R = .err 4 k) := by
            show _ = _
            rw [← HJ.out.1, Dc.loop_end (by rw [HM.out.2.2.1]; exact Nat.le_refl _), HM.out.2.2.1]
          clear HJ
          go_wp2_with (refine wpList_store_row rfl 88 _ _ rfl w.heap.size #[.string ⟨#[]⟩, .slice none 0 0, .slice none 0 0, .string ⟨#[]⟩, .int .i64 0, .int .i64 4, .int .i64 k] rfl rfl 88 _ NR (by kernel_rfl) rfl (by kernel_rfl) ?_)
          refine bodyPost_ret (v := .agg #[.string ⟨#[]⟩, .slice none 0 0, .slice none 0 0, .string ⟨#[]⟩, .int .i64 0, .int .i64 4, .int .i64 k]) (results_cell_row Tryd.results35 _ _ w.heap.size 88 #[.string ⟨#[]⟩, .slice none 0 0, .slice none 0 0, .string ⟨#[]⟩, .int .i64 0, .int .i64 4, .int .i64 k] (0, 0) _ rfl (setRow_heap _ _ _ _ _ _ NR) hu rfl (by kernel_rfl)) rfl ⟨Mk.below_setRow HB.out (Nat.le_refl _) _, ?_⟩
          rw [HE.out]
          rfl

end Go.Proofs
