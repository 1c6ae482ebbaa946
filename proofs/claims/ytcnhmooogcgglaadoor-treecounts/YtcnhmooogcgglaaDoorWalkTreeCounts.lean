/-
  The walk of TreeCounts: how many elements an element is, how deep they lie, and its attributes.
-/
import Derived.Test.YtcnhmooogcgglaaDoorTrKids
import Derived.Test.YtcnhmooogcgglaaDoorTrLarge
import Derived.Test.YtcnhmooogcgglaaDoorTrLawRef2
namespace Go.Proofs.YtcnhmooogcgglaaDoor.TreeCounts
open Go.RowKit
open Go.Proofs.Mk

set_option maxHeartbeats 16000000 in
set_option maxRecDepth 20000 in
theorem walk (d : Nat) (E : El) (va vk : Value) (name : ByteArray) (w : World) (hT : El.Lies w (· < w.heap.size) d va vk E) (hR : E.Reach) (hE : Mk.Esc w) :
    Calls Tryd.prog 7 #[.agg #[.string E.name, va, vk, .string E.text], .string name] w fun e w' => e = .returned (.bool true) ∧ Below w.heap.size w w' := by
  have hat := hT.attrsP.at fun k hk => hk
  obtain ⟨aa, ca, ak, ck, rfl, rfl⟩ := hT.shape
  obtain ⟨w0, hw0⟩ : ∃ x, (w.alloc (.cells #[.string E.name, .slice aa E.attrs.length ca, .slice ak E.kids.length ck, .string E.text] 42)).alloc (.cells #[.int .i64 5000] 46) = x := ⟨_, rfl⟩
  have A0 : Below w.heap.size w w0 := by rw [← hw0]; exact ((Below.refl _ w).alloc (Nat.le_refl _) _).alloc (by simp) _
  have C0 : w0.heap[w.heap.size]? = some (.cells #[.string E.name, .slice aa E.attrs.length ca, .slice ak E.kids.length ck, .string E.text] 42 (0, 0)) := by rw [← hw0, Below.heap_alloc _ _ _ (by simp)]; exact heap_alloc_new w _
  have R0 : Tr.Rm (w.heap.size + 1) (5000 : Nat) w0 := by
    rw [← hw0]
    have := heap_alloc_new (w.alloc (.cells #[.string E.name, .slice aa E.attrs.length ca, .slice ak E.kids.length ck, .string E.text] 42)) (.cells #[.int .i64 5000] 46)
    simpa [Tr.Rm] using this
  have h1 := Tryd.large02_any d E _ _ 5000 (w.heap.size + 1) 1 w.heap.size w0 (hT.below A0) hR (by omega) A0.size R0 (by omega) (by omega)
  have h0 := Tr.esc_pos hE
  have HK : Hid (∀ W, Below w.heap.size w W → Calls Tryd.prog 16 #[] W fun e w' => e = .returned (.bool true) ∧ Below w.heap.size w w') := fun W hW => (Tryd.kids_any W (Tr.esc_below hE hW h0)).mono fun e w' ⟨he, hb⟩ => ⟨he, hW.trans (hb.mono hW.size)⟩
  have HL : Hid (∀ W, Below w.heap.size w W → El.Lies W (· < W.heap.size) d (.slice aa E.attrs.length ca) (.slice ak E.kids.length ck) E) := fun W hW => hT.keep (fun k hk => hW.block k hk) fun k hk => Nat.lt_of_lt_of_le hk hW.size
  have HES : Hid (Mk.Esc w) := hE
  have HAT : Hid (Mk.AttrsAt w (.slice aa E.attrs.length ca) E.attrs) := hat
  have hgt := fun W (hW : Below w.heap.size w W) (hl : E.attrs.length ≤ 1000000) => Tryd.Get_any E.name E.text (.slice aa E.attrs.length ca) (.slice ak E.kids.length ck) E.attrs name W (hat.below hW) hl ak E.kids.length ck rfl
  have HRF : Hid (∀ W, Below w.heap.size w W → E.weight ≤ 100000 → Calls Tryd.prog 19 #[.agg #[.string E.name, .slice aa E.attrs.length ca, .slice ak E.kids.length ck, .string E.text]] W fun e w' => Below W.heap.size W w' ∧ ∃ a c a' c' d', e = .returned (.agg #[.string E.name, .slice a E.attrs.length c, .slice a' E.kids.length c', .string E.text]) ∧ El.Lies w' (fun k => W.heap.size ≤ k ∧ k < w'.heap.size) d' (.slice a E.attrs.length c) (.slice a' E.kids.length c') E) := fun W hW hw => Tr.refC d E _ _ W (HL.out W hW) hw
  obtain ⟨nm, hnm⟩ : ∃ x, E.name = x := ⟨_, rfl⟩
  obtain ⟨tx, htx⟩ : ∃ x, E.text = x := ⟨_, rfl⟩
  obtain ⟨n, hn⟩ : ∃ n, E.kids.length = n := ⟨_, rfl⟩
  obtain ⟨m, hm⟩ : ∃ n, E.attrs.length = n := ⟨_, rfl⟩
  have HGT : Hid (∀ W, Below w.heap.size w W → m ≤ 1000000 → Calls Tryd.prog 24 #[.agg #[.string nm, .slice aa m ca, .slice ak n ck, .string tx], .string name] W fun e w' => e = .returned (Tr.getV (Tr.getL E.attrs name)) ∧ Below W.heap.size W w') := by rw [hnm, htx, hn, hm] at hgt; exact hgt
  rw [hnm, htx, hn, hm] at h1 HRF C0 hw0
  rw [hn, hm] at HL
  rw [hm] at HAT
  rw [hnm, htx, hn, hm]
  have H1 : Hid _ := h1
  have HA : Hid (Below w.heap.size w w0) := A0
  have HD : Hid (E.name = nm ∧ E.text = tx ∧ E.kids.length = n ∧ E.attrs.length = m) := ⟨hnm, htx, hn, hm⟩
  have HW0 : Hid _ := hw0
  have HC0 : Hid _ := C0
  have hu := Tryd.underlying42
  have hu2 := Tryd.underlying52
  clear hT hR hE A0 R0 h1 hat hgt hnm htx hn hm hw0
  go_enter Tryd.func7, Tryd.ntmps7
  obtain ⟨wx, hwx⟩ : ∃ x, w.alloc (.cells #[.string nm, .slice aa m ca, .slice ak n ck, .string tx] 42) = x := ⟨_, rfl⟩
  have CX : wx.heap[w.heap.size]? = some (.cells #[.string nm, .slice aa m ca, .slice ak n ck, .string tx] 42 (0, 0)) := by rw [← hwx]; exact heap_alloc_new w _
  have HX : Hid _ := hwx
  have HX0 : Hid (wx.alloc (.cells #[.int .i64 5000] 46) = w0) := by show _ = _; rw [← hwx]; exact HW0.out
  have SX : wx.heap.size = w.heap.size + 1 := by rw [← hwx]; simp
  clear hwx C0
  go_upto_region 1 with fail
  rw [HX.out]
  go_wp2_with (first | (refine wpList_load_row rfl 42 _ rfl _ rfl 42 _ (0, 0) _ CX hu rfl (by kernel_rfl) ?_) | fail)
  rw [HX0.out]
  refine Calls.mono H1.out ?_
  rintro e W1 ⟨b1, hcase⟩
  have B1 : Hid (Below w.heap.size w W1) := HA.out.trans (b1.below HA.out.size (by intro k hk; show ¬ k = w.heap.size + 1; omega))
  have C1 : W1.heap[w.heap.size]? = some (.cells #[.string nm, .slice aa m ca, .slice ak n ck, .string tx] 42 (0, 0)) := by
    rw [b1.block _ (Array.getElem?_eq_some_iff.1 HC0.out).1 (by show ¬ w.heap.size = w.heap.size + 1; omega)]; exact HC0.out
  rcases hcase with ⟨rfl, hsz, hdp, -⟩ | rfl
  rotate_left
  · clear b1 H1 HW0 C1 CX HX HX0 SX
    go_wp2_with fail
    refine Calls.mono (HK.out _ B1.out) ?_
    rintro e W2 ⟨rfl, b2⟩
    have B2 : Hid (Below w.heap.size w W2) := b2
    clear b2
    go_wp2
    go_ret
    exact ⟨rfl, B2.out⟩
  have HSZ : Hid (E.weight ≤ 5000 ∧ E.depth ≤ 40 ∧ E.count ≤ 5000) := ⟨hsz, by omega, by have := El.count_le_weight E; omega⟩
  have hmb : m ≤ 1000000 := by have h1 := E.weight_eq; have h2 := El.attrsW_len E.attrs; have := HD.out; omega
  clear b1 H1 HW0 CX HX HX0 SX hsz hdp
  go_wp2_with (first | (refine wpList_load_row rfl 42 _ rfl _ rfl 42 _ (0, 0) _ C1 hu rfl (by kernel_rfl) ?_) | fail)
  refine Calls.mono (HRF.out _ B1.out (by have := HSZ.out; omega)) ?_
  rintro e W2 ⟨b2, a2, c2, a3, c3, d2, rfl, l2⟩
  have B2 : Hid (Below w.heap.size w W2) := B1.out.trans (b2.mono B1.out.size)
  have C2 : W2.heap[w.heap.size]? = some (.cells #[.string nm, .slice aa m ca, .slice ak n ck, .string tx] 42 (0, 0)) := (b2.block _ (Array.getElem?_eq_some_iff.1 C1).1).trans C1
  obtain ⟨W3, hW3⟩ : ∃ x, W2.alloc (.cells #[.string nm, .slice a2 m c2, .slice a3 n c3, .string tx] 52) = x := ⟨_, rfl⟩
  have A3 : Below W2.heap.size W2 W3 := by rw [← hW3]; exact (Below.refl _ W2).alloc (Nat.le_refl _) _
  have B3 : Hid (Below w.heap.size w W3) := B2.out.trans (A3.mono B2.out.size)
  have C3 : W3.heap[w.heap.size]? = some (.cells #[.string nm, .slice aa m ca, .slice ak n ck, .string tx] 42 (0, 0)) := (A3.block _ (Array.getElem?_eq_some_iff.1 C2).1).trans C2
  have D3 : W3.heap[W2.heap.size]? = some (.cells #[.string nm, .slice a2 m c2, .slice a3 n c3, .string tx] 52 (0, 0)) := by rw [← hW3]; exact heap_alloc_new W2 _
  have HW3 : Hid _ := hW3
  -- what holds in every later world
  have CF : Hid (∀ W, Below W3.heap.size W3 W → (W.cell? ⟨w.heap.size, 0, none⟩ = some (.string nm) ∧ W.cell? ⟨w.heap.size, 1, none⟩ = some (.slice aa m ca) ∧ W.cell? ⟨w.heap.size, 2, none⟩ = some (.slice ak n ck) ∧ W.cell? ⟨w.heap.size, 3, none⟩ = some (.string tx)) ∧
      W.cell? ⟨W2.heap.size, 0, none⟩ = some (.string nm) ∧ W.cell? ⟨W2.heap.size, 1, none⟩ = some (.slice a2 m c2) ∧ W.cell? ⟨W2.heap.size, 2, none⟩ = some (.slice a3 n c3) ∧ W.cell? ⟨W2.heap.size, 3, none⟩ = some (.string tx)) := fun W hW => by
    have e1 := (hW.block _ (Array.getElem?_eq_some_iff.1 C3).1).trans C3
    have e2 := (hW.block _ (Array.getElem?_eq_some_iff.1 D3).1).trans D3
    exact ⟨(Tr.row4 e1).1, (Tr.row4 e2).1⟩
  have HLE : Hid (∀ W, Below W3.heap.size W3 W → Below w.heap.size w W) := fun W hW => B3.out.trans (hW.mono B3.out.size)
  obtain ⟨ct, hct⟩ : ∃ c, E.count = c := ⟨_, rfl⟩
  obtain ⟨dt, hdt⟩ : ∃ c, E.depth = c := ⟨_, rfl⟩
  have K1 : Hid (∀ W, Below W3.heap.size W3 W → Calls Tryd.prog 25 #[.agg #[.string nm, .slice aa m ca, .slice ak n ck, .string tx]] W fun e w' => e = .returned (.int .i64 ct) ∧ Below W3.heap.size W3 w') := fun W hW => by
    have := Tryd.Count_any d E _ _ W (HL.out W (HLE.out W hW)) (by have := HSZ.out; omega) (by have := HSZ.out; omega)
    rw [HD.out.1, HD.out.2.1, hct] at this
    exact this.mono fun e w' ⟨he, hb⟩ => ⟨he, hW.trans (hb.mono hW.size)⟩
  have K2 : Hid (∀ W, Below W3.heap.size W3 W → Calls Tryd.prog 27 #[.agg #[.string nm, .slice aa m ca, .slice ak n ck, .string tx]] W fun e w' => e = .returned (.int .i64 dt) ∧ Below W3.heap.size W3 w') := fun W hW => by
    have := Tryd.Depth_any d E _ _ W (HL.out W (HLE.out W hW)) (by have := HSZ.out; omega) (by have := HSZ.out; omega)
    rw [HD.out.1, HD.out.2.1, hdt] at this
    exact this.mono fun e w' ⟨he, hb⟩ => ⟨he, hW.trans (hb.mono hW.size)⟩
  have L2 : Hid (∀ W, Below W3.heap.size W3 W → El.Lies W (· < W.heap.size) d2 (.slice a2 m c2) (.slice a3 n c3) E) := fun W hW => l2.keep (fun k hk => (hW.block k (Nat.lt_of_lt_of_le hk.2 A3.size)).trans (A3.block k hk.2)) fun k hk => Nat.lt_of_lt_of_le hk.2 (Nat.le_trans A3.size hW.size)
  have K3 : Hid (∀ W, Below W3.heap.size W3 W → Calls Tryd.prog 26 #[.agg #[.string nm, .slice a2 m c2, .slice a3 n c3, .string tx]] W fun e w' => e = .returned (.int .i64 ct) ∧ Below W3.heap.size W3 w') := fun W hW => by
    have := Tryd.rcount_any d2 E _ _ W (L2.out W hW) (by have := HSZ.out; omega)
    rw [HD.out.1, HD.out.2.1, hct] at this
    exact this.mono fun e w' ⟨he, hb⟩ => ⟨he, hW.trans (hb.mono hW.size)⟩
  have K4 : Hid (∀ W, Below W3.heap.size W3 W → Calls Tryd.prog 28 #[.agg #[.string nm, .slice a2 m c2, .slice a3 n c3, .string tx]] W fun e w' => e = .returned (.int .i64 dt) ∧ Below W3.heap.size W3 w') := fun W hW => by
    have := Tryd.rdepth_any d2 E _ _ W (L2.out W hW) (by have := HSZ.out; omega)
    rw [HD.out.1, HD.out.2.1, hdt] at this
    exact this.mono fun e w' ⟨he, hb⟩ => ⟨he, hW.trans (hb.mono hW.size)⟩
  have K5 : Hid (∀ W, Below W3.heap.size W3 W → Calls Tryd.prog 16 #[] W fun e w' => e = .returned (.bool true) ∧ Below W3.heap.size W3 w') := fun W hW => (Tryd.kids_any W (Tr.esc_below HES.out (HLE.out W hW) h0)).mono fun e w' ⟨he, hb⟩ => ⟨he, hW.trans (hb.mono hW.size)⟩
  clear b2 C1 C2 hW3 A3 C3 D3 hct hdt l2
  go_upto_region 4 with fail
  rw [HW3.out]
  obtain ⟨⟨x0, x1, x2, x3⟩, _⟩ := CF.out W3 (Below.refl _ _)
  go_wp2_with fail
  refine Calls.mono (HGT.out _ B3.out hmb) ?_
  rintro e W4 ⟨rfl, b4⟩
  have B4 : Hid (Below W3.heap.size W3 W4) := b4
  obtain ⟨⟨y0, y1, y2, y3⟩, z0, z1, z2, z3⟩ := CF.out W4 b4
  clear b4 x0 x1 x2 x3
  have INV : True := trivial
  cases hgl : Tr.getL E.attrs name with
  | none =>
    simp only [Tr.getV]
    have HGL : Hid (Tr.getL E.attrs name = none) := hgl
    clear hgl y0 y2 y3 z0 z1 z2 z3
    go_wp2
    go_loopg [26] m (fun g i wr => ∃ j : Nat, g + j = m ∧ i = .int .i64 j ∧ Hid (Below W3.heap.size W3 wr ∧ ∀ k (hk : k < E.attrs.length), k < j → E.attrs[k].1 ≠ name))
    case atStart => exact ⟨0, by omega, rfl, B4.out, fun k _ h => by omega⟩
    case round =>
      obtain ⟨j, hj, rfl, HJ⟩ := hrel
      clear y1
      by_cases hjn : j < m
      · skip
        have hd : decide ((j : Int) < m) = true := decide_eq_true (by omega)
        have hjk : j < E.attrs.length := by rw [HD.out.2.2.2]; exact hjn
        obtain ⟨g, off, hav, hg, hc⟩ : ∃ g off, aa = some ⟨g, off, none⟩ ∧ g < w.heap.size ∧ (w.cell? ⟨g, off + j * 2, none⟩ = some (.string E.attrs[j].1) ∧ w.cell? ⟨g, off + j * 2 + 1, none⟩ = some (.string E.attrs[j].2)) := by
          rcases HAT.out with ⟨a, c, _, h0⟩ | ⟨g, off, cap, hv, _, hg, hr⟩
          · rw [h0] at hjk; simp at hjk
          · obtain ⟨rfl, _, _⟩ := Value.slice.inj hv
            exact ⟨g, off, rfl, hg, hr j hjk⟩
        subst hav
        obtain ⟨p0, hp0⟩ : ∃ x, E.attrs[j].1 = x := ⟨_, rfl⟩
        obtain ⟨p1, hp1⟩ : ∃ x, E.attrs[j].2 = x := ⟨_, rfl⟩
        rw [hp0, hp1] at hc
        have hbw := HLE.out wr HJ.out.1
        have k0 : wr.cell? ⟨g, off + j * 2, none⟩ = some (.string p0) := by rw [World.cell?_of_block (w := w) (hbw.block g hg)]; exact hc.1
        have k1 : wr.cell? ⟨g, off + j * 2 + 1, none⟩ = some (.string p1) := by rw [World.cell?_of_block (w := w) (hbw.block g hg)]; exact hc.2
        have lg : g < wr.heap.size := Nat.lt_of_lt_of_le hg hbw.size
        have HX : Hid (E.attrs[j].1 = p0 ∧ E.attrs[j].2 = p1) := ⟨hp0, hp1⟩
        obtain ⟨wa, hwa⟩ : ∃ y, wr.alloc (.cells #[.string p0, .string p1] 67) = y := ⟨_, rfl⟩
        have Ba : Hid (Below W3.heap.size W3 wa) := by show Below _ _ _; rw [← hwa]; exact HJ.out.1.alloc HJ.out.1.size _
        have hma : wa.heap[wr.heap.size]? = some (.cells #[.string p0, .string p1] 67 (0, 0)) := by rw [← hwa]; exact heap_alloc_new wr _
        have HMA : Hid _ := hma
        have m0 : wa.cell? ⟨wr.heap.size, 0, none⟩ = some (.string p0) := by simp [World.cell?, hma]
        have m1 : wa.cell? ⟨wr.heap.size, 1, none⟩ = some (.string p1) := by simp [World.cell?, hma]
        have HWA : Hid _ := hwa
        clear hc hp0 hp1 hbw hwa hma
        go_upto_region 8 with fail
        rw [HWA.out]
        clear k0 k1
        by_cases he : p0 = name
        · exfalso; have := Tr.getL_at E.attrs name j hjk HJ.out.2 (by rw [HX.out.1]; exact he); rw [HGL.out] at this; cases this
        · have ht := Mk.beq_of_ne he
          have HE' : Hid (p0 ≠ name) := he
          clear he
          go_wp2
          go_roundg (gk - 1)
          case measure => omega
          case rel => exact ⟨j + 1, by omega, by go_num, Ba.out, fun k hk h => by
            by_cases e : k = j
            · subst e; rw [HX.out.1]; exact HE'.out
            · exact HJ.out.2 k hk (by omega)⟩

      · have hd : decide ((j : Int) < m) = false := decide_eq_false (by omega)
        have BJ : Hid (Below W3.heap.size W3 wr) := HJ.out.1
        obtain ⟨⟨f0, f1, f2, f3⟩, f4, f5, f6, f7⟩ := CF.out wr HJ.out.1
        go_upto_region 11 with fail
        go_region_law (first
          | (go_simp; go_at_call 25; refine Calls.mono (K1.out _ ?_) ?_; (first | exact BJ.out.drew | exact b1 | exact b2 | exact b3 | exact b4 | exact b5); rintro e V1 ⟨rfl, b1⟩; obtain ⟨⟨f0, f1, f2, f3⟩, f4, f5, f6, f7⟩ := CF.out V1 b1)
          | (go_simp; go_at_call 26; refine Calls.mono (K3.out _ ?_) ?_; (first | exact BJ.out.drew | exact b1 | exact b2 | exact b3 | exact b4 | exact b5); rintro e V2 ⟨rfl, b2⟩; obtain ⟨⟨f0, f1, f2, f3⟩, f4, f5, f6, f7⟩ := CF.out V2 b2)
          | (go_simp; go_at_call 27; refine Calls.mono (K2.out _ ?_) ?_; (first | exact BJ.out.drew | exact b1 | exact b2 | exact b3 | exact b4 | exact b5); rintro e V3 ⟨rfl, b3⟩; obtain ⟨⟨f0, f1, f2, f3⟩, f4, f5, f6, f7⟩ := CF.out V3 b3)
          | (go_simp; go_at_call 28; refine Calls.mono (K4.out _ ?_) ?_; (first | exact BJ.out.drew | exact b1 | exact b2 | exact b3 | exact b4 | exact b5); rintro e V4 ⟨rfl, b4⟩; obtain ⟨⟨f0, f1, f2, f3⟩, f4, f5, f6, f7⟩ := CF.out V4 b4)
          | (go_simp; go_at_call 16; refine Calls.mono (K5.out _ ?_) ?_; (first | exact BJ.out.drew | exact b1 | exact b2 | exact b3 | exact b4 | exact b5); rintro e V5 ⟨rfl, b5⟩)
          | fail)
        all_goals
          have BE : Hid (Below w.heap.size w V5) := HLE.out V5 b5
          clear b1 b2 b3 b4 b5
          go_wp2
          go_ret
          exact ⟨rfl, BE.out⟩
  | some v =>
    simp only [Tr.getV]
    have HGL : Hid (Tr.getL E.attrs name = some v) := hgl
    clear hgl y0 y2 y3 z0 z1 z2 z3
    go_wp2
    go_loopg [26] m (fun g i wr => ∃ j : Nat, g + j = m ∧ i = .int .i64 j ∧ Hid (Below W3.heap.size W3 wr ∧ ∀ k (hk : k < E.attrs.length), k < j → E.attrs[k].1 ≠ name))
    case atStart => exact ⟨0, by omega, rfl, B4.out, fun k _ h => by omega⟩
    case round =>
      obtain ⟨j, hj, rfl, HJ⟩ := hrel
      clear y1
      by_cases hjn : j < m
      · skip
        have hd : decide ((j : Int) < m) = true := decide_eq_true (by omega)
        have hjk : j < E.attrs.length := by rw [HD.out.2.2.2]; exact hjn
        obtain ⟨g, off, hav, hg, hc⟩ : ∃ g off, aa = some ⟨g, off, none⟩ ∧ g < w.heap.size ∧ (w.cell? ⟨g, off + j * 2, none⟩ = some (.string E.attrs[j].1) ∧ w.cell? ⟨g, off + j * 2 + 1, none⟩ = some (.string E.attrs[j].2)) := by
          rcases HAT.out with ⟨a, c, _, h0⟩ | ⟨g, off, cap, hv, _, hg, hr⟩
          · rw [h0] at hjk; simp at hjk
          · obtain ⟨rfl, _, _⟩ := Value.slice.inj hv
            exact ⟨g, off, rfl, hg, hr j hjk⟩
        subst hav
        obtain ⟨p0, hp0⟩ : ∃ x, E.attrs[j].1 = x := ⟨_, rfl⟩
        obtain ⟨p1, hp1⟩ : ∃ x, E.attrs[j].2 = x := ⟨_, rfl⟩
        rw [hp0, hp1] at hc
        have hbw := HLE.out wr HJ.out.1
        have k0 : wr.cell? ⟨g, off + j * 2, none⟩ = some (.string p0) := by rw [World.cell?_of_block (w := w) (hbw.block g hg)]; exact hc.1
        have k1 : wr.cell? ⟨g, off + j * 2 + 1, none⟩ = some (.string p1) := by rw [World.cell?_of_block (w := w) (hbw.block g hg)]; exact hc.2
        have lg : g < wr.heap.size := Nat.lt_of_lt_of_le hg hbw.size
        have HX : Hid (E.attrs[j].1 = p0 ∧ E.attrs[j].2 = p1) := ⟨hp0, hp1⟩
        obtain ⟨wa, hwa⟩ : ∃ y, wr.alloc (.cells #[.string p0, .string p1] 67) = y := ⟨_, rfl⟩
        have Ba : Hid (Below W3.heap.size W3 wa) := by show Below _ _ _; rw [← hwa]; exact HJ.out.1.alloc HJ.out.1.size _
        have hma : wa.heap[wr.heap.size]? = some (.cells #[.string p0, .string p1] 67 (0, 0)) := by rw [← hwa]; exact heap_alloc_new wr _
        have HMA : Hid _ := hma
        have m0 : wa.cell? ⟨wr.heap.size, 0, none⟩ = some (.string p0) := by simp [World.cell?, hma]
        have m1 : wa.cell? ⟨wr.heap.size, 1, none⟩ = some (.string p1) := by simp [World.cell?, hma]
        have HWA : Hid _ := hwa
        clear hc hp0 hp1 hbw hwa hma
        go_upto_region 8 with fail
        rw [HWA.out]
        clear k0 k1
        by_cases he : p0 = name
        · have hv : v = p1 := by
            have := Tr.getL_at E.attrs name j hjk HJ.out.2 (by rw [HX.out.1]; exact he)
            rw [HGL.out, HX.out.2] at this
            exact Option.some.inj this
          have ht := Mk.beq_of_eq he
          have ht2 := Mk.beq_of_eq hv
          obtain ⟨⟨f0, f1, f2, f3⟩, f4, f5, f6, f7⟩ := CF.out wa Ba.out
          clear he hv
          go_upto_region 9 with fail
          go_region_law (first
          | (go_simp; go_at_call 25; refine Calls.mono (K1.out _ ?_) ?_; (first | exact Ba.out.drew | exact b1 | exact b2 | exact b3 | exact b4 | exact b5); rintro e V1 ⟨rfl, b1⟩; obtain ⟨⟨f0, f1, f2, f3⟩, f4, f5, f6, f7⟩ := CF.out V1 b1)
          | (go_simp; go_at_call 26; refine Calls.mono (K3.out _ ?_) ?_; (first | exact Ba.out.drew | exact b1 | exact b2 | exact b3 | exact b4 | exact b5); rintro e V2 ⟨rfl, b2⟩; obtain ⟨⟨f0, f1, f2, f3⟩, f4, f5, f6, f7⟩ := CF.out V2 b2)
          | (go_simp; go_at_call 27; refine Calls.mono (K2.out _ ?_) ?_; (first | exact Ba.out.drew | exact b1 | exact b2 | exact b3 | exact b4 | exact b5); rintro e V3 ⟨rfl, b3⟩; obtain ⟨⟨f0, f1, f2, f3⟩, f4, f5, f6, f7⟩ := CF.out V3 b3)
          | (go_simp; go_at_call 28; refine Calls.mono (K4.out _ ?_) ?_; (first | exact Ba.out.drew | exact b1 | exact b2 | exact b3 | exact b4 | exact b5); rintro e V4 ⟨rfl, b4⟩; obtain ⟨⟨f0, f1, f2, f3⟩, f4, f5, f6, f7⟩ := CF.out V4 b4)
          | (go_simp; go_at_call 16; refine Calls.mono (K5.out _ ?_) ?_; (first | exact Ba.out.drew | exact b1 | exact b2 | exact b3 | exact b4 | exact b5); rintro e V5 ⟨rfl, b5⟩)
          | fail)
          all_goals
            have BE : Hid (Below w.heap.size w V5) := HLE.out V5 b5
            clear b1 b2 b3 b4 b5
            go_wp2
            go_ret
            exact ⟨rfl, BE.out⟩
        · have ht := Mk.beq_of_ne he
          have HE' : Hid (p0 ≠ name) := he
          clear he
          go_wp2
          go_roundg (gk - 1)
          case measure => omega
          case rel => exact ⟨j + 1, by omega, by go_num, Ba.out, fun k hk h => by
            by_cases e : k = j
            · subst e; rw [HX.out.1]; exact HE'.out
            · exact HJ.out.2 k hk (by omega)⟩

      · exfalso
        have := Tr.getL_none E.attrs name fun k hk => HJ.out.2 k hk (by have := HD.out; omega)
        rw [HGL.out] at this
        cases this

end Go.Proofs.YtcnhmooogcgglaaDoor.TreeCounts
