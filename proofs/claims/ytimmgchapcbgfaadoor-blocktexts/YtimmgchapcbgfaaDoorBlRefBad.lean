/-
  The document's bad.
-/
import Derived.Test.YtimmgchapcbgfaaDoorBlWritable
namespace Go.Proofs
open Go.RowKit

set_option maxRecDepth 20000 in
set_option maxHeartbeats 8000000 in
theorem Tryd.refBad_any : ∀ (d : Nat) (T : Bl) (v lv : Value) (w : World), Bl.Lies w w.heap.size d v lv T → T.size ≤ 2147483647 → T.allP (fun _ _ _ ls => decide (ls.length ≤ 2147483647)) = true →
    Calls Tryd.prog 17 #[.agg #[.int .i64 T.kind, .int .i64 T.node, .int .i64 T.arg, v, lv]] w fun e w' => e = .returned (.bool (!T.allP Bl.writB)) ∧ Below w.heap.size w w' := by
  intro d
  induction d with
  | zero => intro T v lv w h; exact h.elim
  | succ d ih =>
    intro T v lv w hT hsz hlk
    have hLk := hT.links
    obtain ⟨a, cap, rfl⟩ := hT.shape
    obtain ⟨al, cl, rfl⟩ := hT.links.shape
    obtain ⟨o, ho⟩ : ∃ m, T.kind = m := ⟨_, rfl⟩
    obtain ⟨m, hm⟩ : ∃ m, T.node = m := ⟨_, rfl⟩
    obtain ⟨r, hr⟩ : ∃ m, T.arg = m := ⟨_, rfl⟩
    obtain ⟨nl, hnl⟩ : ∃ n, T.ls.length = n := ⟨_, rfl⟩
    obtain ⟨n, hn⟩ : ∃ n, T.ks.length = n := ⟨_, rfl⟩
    have hnb : n ≤ 2147483647 := by have h1 := Bl.length_le_sizes T.ks; have h2 := T.size_eq; omega
    rw [T.allP_eq, Bool.and_eq_true, decide_eq_true_eq] at hlk
    have hlb : nl ≤ 2147483647 := by rw [← hnl]; exact hlk.1
    rw [ho, hm, hr, hn, hnl]
    rw [hn, hnl] at hT
    rw [hnl] at hLk
    have HT : Hid (Bl.Lies w w.heap.size (d + 1) (.slice a n cap) (.slice al nl cl) T) := hT
    have HLK : Hid (Bl.Lk w w.heap.size (.slice al nl cl) T.ls) := hLk
    have HI : Hid _ := ih
    have HM : Hid (T.kind = o ∧ T.node = m ∧ T.arg = r ∧ T.ks.length = n ∧ T.ls.length = nl ∧ T.size ≤ 2147483647 ∧ Bl.allPs (fun _ _ _ ls => decide (ls.length ≤ 2147483647)) T.ks = true) := ⟨ho, hm, hr, hn, hnl, hsz, hlk.2⟩
    obtain ⟨W0, hW0⟩ : ∃ z, w.alloc (.cells #[.int .i64 o, .int .i64 m, .int .i64 r, .slice a n cap, .slice al nl cl] 34) = z := ⟨_, rfl⟩
    have A0 : Hid (Below w.heap.size w W0) := by show Below _ _ _; rw [← hW0]; exact (Below.refl _ w).alloc (Nat.le_refl _) _
    have G0 : Hid (W0.heap[w.heap.size]? = some (.cells #[.int .i64 o, .int .i64 m, .int .i64 r, .slice a n cap, .slice al nl cl] 34 (0, 0))) := by show _ = _; rw [← hW0]; exact heap_alloc_new w _
    have SZ : Hid (w.heap.size < W0.heap.size) := (Array.getElem?_eq_some_iff.1 G0.out).1
    have CF : Hid (∀ W, Below W0.heap.size W0 W → W.cell? ⟨w.heap.size, 3, none⟩ = some (.slice a n cap) ∧ W.cell? ⟨w.heap.size, 4, none⟩ = some (.slice al nl cl) ∧ Below w.heap.size w W) := fun W hb => by
      have e1 := (hb.block _ SZ.out).trans G0.out
      exact ⟨by simp [World.cell?, e1], by simp [World.cell?, e1], A0.out.trans (hb.mono A0.out.size)⟩
    obtain ⟨b, hb⟩ : ∃ b, (!T.allP Bl.writB) = b := ⟨_, rfl⟩
    rw [hb]
    have HB : Hid ((!T.allP Bl.writB) = b) := hb
    have HE : Hid (T.allP Bl.writB = ((decide (1 ≤ o ∧ o ≤ 10 ∧ 0 ≤ m ∧ 0 ≤ r) && !T.ls.any Bl.lowL) && Bl.allPs Bl.writB T.ks)) := by show _ = _; rw [T.allP_eq, ho, hm, hr, Bl.writB]
    have HW0 : Hid _ := hW0
    have BR : Hid (Below W0.heap.size W0 W0) := Below.refl _ _
    have hcase : (decide (o < 1) = false ∧ decide (10 < o) = false ∧ decide (m < 0) = false ∧ decide (r < 0) = false) ∨ decide (o < 1) = true ∨ (decide (o < 1) = false ∧ decide (10 < o) = true) ∨ (decide (o < 1) = false ∧ decide (10 < o) = false ∧ decide (m < 0) = true) ∨ (decide (o < 1) = false ∧ decide (10 < o) = false ∧ decide (m < 0) = false ∧ decide (r < 0) = true) := by
      simp; omega
    clear ih hT hLk hlk ho hm hr hn hnl hsz hb hW0
    rcases hcase with ⟨e0, e1, e2, e3⟩ | e0 | ⟨e0, e1⟩ | ⟨e0, e1, e2⟩ | ⟨e0, e1, e2, e3⟩
    · have HG : Hid (decide (1 ≤ o ∧ o ≤ 10 ∧ 0 ≤ m ∧ 0 ≤ r) = true) := by show _ = _; simp at e0 e1 e2 e3 ⊢; omega
      go_enter Tryd.func17, Tryd.ntmps17
      go_upto_region 3 with fail
      rw [HW0.out]
      clear HW0
      obtain ⟨z3, z4, -⟩ := CF.out W0 BR.out
      go_wp2
      go_loopg [28] nl (fun g i wr => ∃ j : Nat, g + j = nl ∧ i = .int .i64 j ∧ Hid (Below W0.heap.size W0 wr ∧ (T.ls.take j).any Bl.lowL = false))
      case atStart => exact ⟨0, by omega, rfl, BR.out, by simp⟩
      case round =>
        obtain ⟨j, hj, rfl, HJ⟩ := hrel
        clear z3 z4
        by_cases hjn : j < nl
        · have hd : decide ((j : Int) < nl) = true := decide_eq_true (by omega)
          have hjk : j < T.ls.length := by rw [HM.out.2.2.2.2.1]; exact hjn
          obtain ⟨al', cl', hv', hat'⟩ := HLK.out
          simp only [Value.slice.injEq] at hv'
          obtain ⟨rfl, -, -⟩ := hv'
          obtain ⟨g, off, rfl, hgl, c0, c1, c2⟩ := hat' j hjk
          obtain ⟨x, hx⟩ : ∃ x, T.ls[j] = x := ⟨_, rfl⟩
          rw [hx] at c0 c1 c2
          obtain ⟨x0, x1, x2⟩ := x
          have hcb : ∀ o, wr.cell? ⟨g, o, none⟩ = w.cell? ⟨g, o, none⟩ := fun o => World.cell?_of_block (w := w) ((CF.out wr HJ.out.1).2.2.block g hgl)
          have hc0 : wr.cell? ⟨g, off + j * 3, none⟩ = some (.int .i64 x0) := by rw [hcb]; exact c0
          have hc1 : wr.cell? ⟨g, off + j * 3 + 1, none⟩ = some (.int .i64 x1) := by rw [hcb]; exact c1
          have hc2 : wr.cell? ⟨g, off + j * 3 + 2, none⟩ = some (.int .i64 x2) := by rw [hcb]; exact c2
          have BA : Hid (Below W0.heap.size W0 (wr.alloc (.cells #[.int .i64 x0, .int .i64 x1, .int .i64 x2] 47))) := HJ.out.1.alloc HJ.out.1.size _
          have HX : Hid (T.ls[j] = (x0, x1, x2)) := hx
          have hcs : (decide (x0 < -1) = false ∧ decide (x1 < -1) = false ∧ decide (x2 < -1) = false) ∨ decide (x0 < -1) = true ∨ (decide (x0 < -1) = false ∧ decide (x1 < -1) = true) ∨ (decide (x0 < -1) = false ∧ decide (x1 < -1) = false ∧ decide (x2 < -1) = true) := by
            simp; omega
          clear c0 c1 c2 hcb hx hat'
          rcases hcs with ⟨f0, f1, f2⟩ | f0 | ⟨f0, f1⟩ | ⟨f0, f1, f2⟩
          · have HF : Hid ((T.ls.take (j + 1)).any Bl.lowL = false) := by
              show _ = _
              rw [Bl.take_snoc _ _ hjk, List.any_append, HJ.out.2, HX.out]
              simp at f0 f1 f2
              simp [Bl.lowL]
              omega
            go_wp2
            go_roundg (gk - 1)
            case measure => omega
            case rel => exact ⟨j + 1, by omega, by go_num, BA.out, HF.out⟩
          all_goals
            have HF : Hid (b = true) := by
              show _ = _
              have h1 : T.ls.any Bl.lowL = true := List.any_eq_true.2 ⟨T.ls[j], List.getElem_mem hjk, by rw [HX.out]; simp at *; simp [Bl.lowL]; omega⟩
              rw [← HB.out, HE.out, h1]
              simp
            have HBW : Hid (Below w.heap.size w (wr.alloc (.cells #[.int .i64 x0, .int .i64 x1, .int .i64 x2] 47))) := (CF.out _ BA.out).2.2
            go_wp2
            go_ret
            exact ⟨Tk.ret_bool HF.out.symm, HBW.out⟩
        · have hd : decide ((j : Int) < nl) = false := decide_eq_false (by omega)
          have HA : Hid (T.ls.any Bl.lowL = false) := by
            have := HJ.out.2
            rw [List.take_of_length_le (by rw [HM.out.2.2.2.2.1]; omega)] at this
            exact this
          obtain ⟨z3, z4, -⟩ := CF.out wr HJ.out.1
          have BJ : Hid (Below W0.heap.size W0 wr) := HJ.out.1
          clear HJ
          go_wp2
          go_loopg [49] n (fun g i wr => ∃ j : Nat, g + j = n ∧ i = .int .i64 j ∧ Hid (Below W0.heap.size W0 wr ∧ Bl.allPs Bl.writB (T.ks.take j) = true))
          case atStart => exact ⟨0, by omega, rfl, BJ.out, by simp [Bl.allPs]⟩
          case round =>
            obtain ⟨j, hj, rfl, HJ⟩ := hrel
            clear z3 z4
            by_cases hjn : j < n
            · have hd : decide ((j : Int) < n) = true := decide_eq_true (by omega)
              have hjk : j < T.ks.length := by rw [HM.out.2.2.2.1]; exact hjn
              have hxs := Bl.sizes_get T.ks j hjk
              have hxl := Bl.allPs_get _ T.ks HM.out.2.2.2.2.2.2 j hjk
              obtain ⟨g, off, u, lu, rfl, hg, q0, q1, q2, q3, q4, q5⟩ := HT.out.kid j hjk
              obtain ⟨x, hx⟩ : ∃ x, T.ks[j] = x := ⟨_, rfl⟩
              rw [hx] at q0 q1 q2 q5 hxs hxl
              obtain ⟨au, cu, rfl⟩ := q5.shape
              obtain ⟨bu, du, rfl⟩ := q5.links.shape
              obtain ⟨mx, hmx⟩ : ∃ n, x.ls.length = n := ⟨_, rfl⟩
              rw [hmx] at q4 q5
              obtain ⟨nx, hnx⟩ : ∃ n, x.ks.length = n := ⟨_, rfl⟩
              rw [hnx] at q3 q5
              obtain ⟨y0, hy0⟩ : ∃ y, x.kind = y := ⟨_, rfl⟩
              obtain ⟨y1, hz1⟩ : ∃ y, x.node = y := ⟨_, rfl⟩
              obtain ⟨y2, hz2⟩ : ∃ y, x.arg = y := ⟨_, rfl⟩
              rw [hy0] at q0
              rw [hz1] at q1
              rw [hz2] at q2
              have HBW := (CF.out wr HJ.out.1).2.2
              have hc : ∀ p, wr.cell? ⟨g, p, none⟩ = w.cell? ⟨g, p, none⟩ := fun p => HBW.cell (p := ⟨g, p, none⟩) hg
              have hc0 : wr.cell? ⟨g, off + j * 5, none⟩ = some (.int .i64 y0) := by rw [hc]; exact q0
              have hc1 : wr.cell? ⟨g, off + j * 5 + 1, none⟩ = some (.int .i64 y1) := by rw [hc]; exact q1
              have hc2 : wr.cell? ⟨g, off + j * 5 + 2, none⟩ = some (.int .i64 y2) := by rw [hc]; exact q2
              have hc3 : wr.cell? ⟨g, off + j * 5 + 3, none⟩ = some (.slice au nx cu) := by rw [hc]; exact q3
              have hc4 : wr.cell? ⟨g, off + j * 5 + 4, none⟩ = some (.slice bu mx du) := by rw [hc]; exact q4
              have BA : Hid (Below W0.heap.size W0 (wr.alloc (.cells #[.int .i64 y0, .int .i64 y1, .int .i64 y2, .slice au nx cu, .slice bu mx du] 34))) := HJ.out.1.alloc HJ.out.1.size _
              have BA2 := (CF.out _ BA.out).2.2
              have hcall := HI.out x (.slice au nx cu) (.slice bu mx du) _ ((q5.below BA2).wider BA2.size) (by have := HM.out.2.2.2.2.2.1; have := T.size_eq; omega) hxl
              obtain ⟨fx, hfx⟩ : ∃ y, x.allP Bl.writB = y := ⟨_, rfl⟩
              rw [hy0, hz1, hz2, hfx] at hcall
              have HC : Hid _ := hcall
              have HY : Hid (T.ks[j] = x ∧ x.allP Bl.writB = fx) := ⟨hx, hfx⟩
              clear hc q0 q1 q2 q3 q4 q5 hx hy0 hz1 hz2 hnx hmx hcall hfx hxs hxl HBW BA2
              go_wp2_with fail
              refine Calls.mono HC.out ?_
              rintro e W3 ⟨rfl, b3⟩
              have B3 : Hid (Below W0.heap.size W0 W3) := BA.out.trans (b3.mono BA.out.size)
              clear b3 HC
              cases fx with
              | true =>
                have HF : Hid (Bl.allPs Bl.writB (T.ks.take (j + 1)) = true) := by show _ = _; rw [Bl.allPs_take _ _ _ hjk, HY.out.1, HY.out.2, HJ.out.2]; rfl
                go_wp2
                go_roundg (gk - 1)
                case measure => omega
                case rel => exact ⟨j + 1, by omega, by go_num, B3.out, HF.out⟩
              | false =>
                have HF : Hid (b = true) := by
                  show _ = _
                  have h1 : Bl.allPs Bl.writB T.ks = false := by
                    cases h : Bl.allPs Bl.writB T.ks with
                    | false => rfl
                    | true =>
                      have := Bl.allPs_get _ T.ks h j hjk
                      rw [HY.out.1, HY.out.2] at this
                      cases this
                  rw [← HB.out, HE.out, h1]
                  simp
                have HBW : Hid (Below w.heap.size w W3) := (CF.out _ B3.out).2.2
                go_wp2
                go_ret
                exact ⟨Tk.ret_bool HF.out.symm, HBW.out⟩
            · have hd : decide ((j : Int) < n) = false := decide_eq_false (by omega)
              have HF : Hid (b = false) := by
                show _ = _
                have h1 := HJ.out.2
                rw [List.take_of_length_le (by rw [HM.out.2.2.2.1]; omega)] at h1
                rw [← HB.out, HE.out, h1, HA.out, HG.out]
                rfl
              have HBW : Hid (Below w.heap.size w wr) := (CF.out _ HJ.out.1).2.2
              go_wp2
              go_ret
              exact ⟨Tk.ret_bool HF.out.symm, HBW.out⟩
    all_goals
      have HF : Hid (b = true) := by
        show b = true
        rw [← HB.out, HE.out, decide_eq_false (by simp at *; omega)]
        rfl
      have HBW : Hid (Below w.heap.size w W0) := A0.out
      go_enter Tryd.func17, Tryd.ntmps17
      go_wp2
      rw [HW0.out]
      go_ret
      exact ⟨Tk.ret_bool HF.out.symm, HBW.out⟩

end Go.Proofs
