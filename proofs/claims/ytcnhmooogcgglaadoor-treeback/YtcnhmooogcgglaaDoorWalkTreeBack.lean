/-
  The walk of TreeBack: what was written is parsed; what is parsed is written so that it is parsed again as the same.
-/
import Derived.Test.YtcnhmooogcgglaaDoorTrBackC
import Derived.Test.YtcnhmooogcgglaaDoorTrLarge
import Derived.Deep.DeepCutAuto
namespace Go.Proofs.YtcnhmooogcgglaaDoor.TreeBack
open Go.RowKit
open Go.Proofs.Mk

set_option maxHeartbeats 16000000 in
set_option maxRecDepth 20000 in
theorem walk (d : Nat) (E : El) (va vk : Value) (t : ByteArray) (w : World) (hT : El.Lies w (· < w.heap.size) d va vk E) (hR : E.Reach) (hE : Mk.Esc w) :
    Calls Tryd.prog 6 #[.agg #[.string E.name, va, vk, .string E.text], .string t] w fun e w' => e = .returned (.bool true) ∧ Below w.heap.size w w' := by
  obtain ⟨aa, ca, ak, ck, rfl, rfl⟩ := hT.shape
  obtain ⟨w0, hw0⟩ : ∃ x, (w.alloc (.cells #[.string E.name, .slice aa E.attrs.length ca, .slice ak E.kids.length ck, .string E.text] 42)).alloc (.cells #[.int .i64 20000] 46) = x := ⟨_, rfl⟩
  have A0 : Below w.heap.size w w0 := by rw [← hw0]; exact ((Below.refl _ w).alloc (Nat.le_refl _) _).alloc (by simp) _
  have C0 : w0.heap[w.heap.size]? = some (.cells #[.string E.name, .slice aa E.attrs.length ca, .slice ak E.kids.length ck, .string E.text] 42 (0, 0)) := by rw [← hw0, Below.heap_alloc _ _ _ (by simp)]; exact heap_alloc_new w _
  have R0 : Tr.Rm (w.heap.size + 1) (20000 : Nat) w0 := by
    rw [← hw0]
    have := heap_alloc_new (w.alloc (.cells #[.string E.name, .slice aa E.attrs.length ca, .slice ak E.kids.length ck, .string E.text] 42)) (.cells #[.int .i64 20000] 46)
    simpa [Tr.Rm] using this
  have h1 := Tryd.large02_any d E _ _ 20000 (w.heap.size + 1) 1 w.heap.size w0 (hT.below A0) hR (by omega) A0.size R0 (by omega) (by omega)
  have h0 := Tr.esc_pos hE
  have HK : Hid (∀ W, Below w.heap.size w W → Calls Tryd.prog 16 #[] W fun e w' => e = .returned (.bool true) ∧ Below w.heap.size w w') := fun W hW => (Tryd.kids_any W (Tr.esc_below hE hW h0)).mono fun e w' ⟨he, hb⟩ => ⟨he, hW.trans (hb.mono hW.size)⟩
  have HL : Hid (∀ W, Below w.heap.size w W → El.Lies W (· < W.heap.size) d (.slice aa E.attrs.length ca) (.slice ak E.kids.length ck) E) := fun W hW => hT.keep (fun k hk => hW.block k hk) fun k hk => Nat.lt_of_lt_of_le hk hW.size
  have HES : Hid (Mk.Esc w) := hE
  obtain ⟨nm, hnm⟩ : ∃ x, E.name = x := ⟨_, rfl⟩
  obtain ⟨tx, htx⟩ : ∃ x, E.text = x := ⟨_, rfl⟩
  obtain ⟨n, hn⟩ : ∃ n, E.kids.length = n := ⟨_, rfl⟩
  obtain ⟨m, hm⟩ : ∃ n, E.attrs.length = n := ⟨_, rfl⟩
  rw [hnm, htx, hn, hm] at h1 C0 hw0
  rw [hn, hm] at HL
  rw [hnm, htx, hn, hm]
  have H1 : Hid _ := h1
  have HA : Hid (Below w.heap.size w w0) := A0
  have HD : Hid (E.name = nm ∧ E.text = tx ∧ E.kids.length = n ∧ E.attrs.length = m) := ⟨hnm, htx, hn, hm⟩
  have HW0 : Hid _ := hw0
  have HC0 : Hid _ := C0
  have hu := Tryd.underlying42
  have hu2 := Tryd.underlying52
  clear hT hE A0 R0 h1 hnm htx hn hm hw0
  go_enter Tryd.func6, Tryd.ntmps6
  obtain ⟨wx, hwx⟩ : ∃ x, w.alloc (.cells #[.string nm, .slice aa m ca, .slice ak n ck, .string tx] 42) = x := ⟨_, rfl⟩
  have CX : wx.heap[w.heap.size]? = some (.cells #[.string nm, .slice aa m ca, .slice ak n ck, .string tx] 42 (0, 0)) := by rw [← hwx]; exact heap_alloc_new w _
  have HX : Hid _ := hwx
  have HX0 : Hid (wx.alloc (.cells #[.int .i64 20000] 46) = w0) := by show _ = _; rw [← hwx]; exact HW0.out
  have SX : wx.heap.size = w.heap.size + 1 := by rw [← hwx]; simp
  clear hwx C0
  go_upto_region 1 with fail
  rw [HX.out]
  go_wp2_with (first | (refine wpList_load_row rfl 42 _ rfl _ rfl 42 _ (0, 0) _ CX hu rfl (by kernel_rfl) ?_) | fail)
  rw [HX0.out]
  refine Calls.mono H1.out ?_
  rintro e W1 ⟨b1, hcase⟩
  have B1 : Hid (Below w.heap.size w W1) := HA.out.trans (b1.below HA.out.size (by intro k hk; show ¬ k = w.heap.size + 1; omega))
  have C1 : W1.heap[w.heap.size]? = some (.cells #[.string nm, .slice aa m ca, .slice ak n ck, .string tx] 42 (0, 0)) := by
    rw [b1.block _ (Array.getElem?_eq_some_iff.1 HC0.out).1 (by show ¬ w.heap.size = w.heap.size + 1; omega)]; exact HC0.out
  rcases hcase with ⟨rfl, hsz, hdp, -⟩ | rfl
  rotate_left
  · clear b1 H1 HW0 C1 CX HX HX0 SX
    go_wp2_with fail
    refine Calls.mono (HK.out _ B1.out) ?_
    rintro e W2 ⟨rfl, b2⟩
    have B2 : Hid (Below w.heap.size w W2) := b2
    clear b2
    go_wp2
    go_ret
    exact ⟨rfl, B2.out⟩
  by_cases htl : 5000 < t.size
  · have hd : decide ((5000 : Int) < t.size) = true := decide_eq_true (by omega)
    clear b1 H1 HW0 C1 CX HX HX0 SX hsz hdp htl
    go_wp2_with fail
    refine Calls.mono (HK.out _ B1.out) ?_
    rintro e W2 ⟨rfl, b2⟩
    have B2 : Hid (Below w.heap.size w W2) := b2
    clear b2
    go_wp2
    go_ret
    exact ⟨rfl, B2.out⟩
  have hd : decide ((5000 : Int) < t.size) = false := decide_eq_false (by omega)
  have htl : t.size ≤ 5000 := by omega
  have HSZ : Hid (E.weight ≤ 20000) := hsz
  have HRE : Hid E.Reach := hR
  obtain ⟨s, hs⟩ : ∃ x, E.writeR.1 = x := ⟨_, rfl⟩
  obtain ⟨z, hz⟩ : ∃ x, E.writeR.2 = x := ⟨_, rfl⟩
  have B1' := B1.out
  have HLE : Hid (∀ W, Below W1.heap.size W1 W → Below w.heap.size w W) := fun W hW => B1'.trans (hW.mono B1'.size)
  have HEW : Hid (∀ W, Below W1.heap.size W1 W → Mk.Esc W) := fun W hW => Tr.esc_below HES.out (HLE.out W hW) h0
  have ATE : Hid (Tr.At W1 E aa ca ak ck) := by
    have hl := HL.out W1 B1'
    rw [← HD.out.2.2.1, ← HD.out.2.2.2] at hl
    exact Tr.At.of hl
  have HED : Hid (E.name = nm ∧ E.text = tx ∧ E.attrs.length = m ∧ E.kids.length = n) := ⟨HD.out.1, HD.out.2.1, HD.out.2.2.2, HD.out.2.2.1⟩
  have K1 : Hid (∀ W, Below W1.heap.size W1 W → Calls Tryd.prog 17 #[.agg #[.string nm, .slice aa m ca, .slice ak n ck, .string tx]] W fun e w' => e = .returned (.tuple #[.string s, .int .i64 z]) ∧ Below W1.heap.size W1 w') := fun W hW => by
    have := Tryd.Write_any d E _ _ W (HL.out W (HLE.out W hW)) HRE.out (by have := HSZ.out; omega) (HEW.out W hW)
    rw [HD.out.1, HD.out.2.1, hs, hz] at this
    exact this.mono fun e w' ⟨he, hb⟩ => ⟨he, hW.trans (hb.mono hW.size)⟩
  have K5 : Hid (∀ W, Below W1.heap.size W1 W → Calls Tryd.prog 16 #[] W fun e w' => e = .returned (.bool true) ∧ Below W1.heap.size W1 w') := fun W hW => (Tryd.kids_any W (HEW.out W hW)).mono fun e w' ⟨he, hb⟩ => ⟨he, hW.trans (hb.mono hW.size)⟩
  have HPW0 : Hid (z = 0 → El.parseL s = (some E, 0, 0)) := fun h => by rw [← hs]; exact El.parse_write E (hz.trans h)
  have hssz : z = 0 → s.size ≤ 140737488355328 := fun h => by
    have hp := HPW0.out h
    unfold El.parseL at hp
    split at hp
    · cases hp
    · omega
  have HSSZ : Hid _ := hssz
  clear b1 H1 HW0 CX HX HX0 SX hsz hdp hs hz hR hssz
  go_wp2_with (first | (refine wpList_load_row rfl 42 _ rfl _ rfl 42 _ (0, 0) _ C1 hu rfl (by kernel_rfl) ?_) | fail)
  refine Calls.mono (K1.out _ (Below.refl _ _)) ?_
  rintro e W2 ⟨rfl, b2⟩
  have B2 : Hid (Below W1.heap.size W1 W2) := b2
  have C2 : W2.heap[w.heap.size]? = some (.cells #[.string nm, .slice aa m ca, .slice ak n ck, .string tx] 42 (0, 0)) := (b2.block _ (Array.getElem?_eq_some_iff.1 C1).1).trans C1
  clear b2 C1 K1
  go_upto_if 34 with fail
  go_cut [] (fun wx => Hid (Below W1.heap.size W1 wx))
  case first =>
    by_cases hz0 : z = 0
    · subst hz0
      have HPA : Hid _ := Tr.parse_some (HPW0.out (by simp))
      go_wp2_with fail
      refine Calls.mono (HPA.out _ (HEW.out _ B2.out) (HSSZ.out (by simp))) ?_
      rintro e W3 ⟨b3, pa, pc, pk, pd, rfl, at3⟩
      rw [HED.out.1, HED.out.2.1, HED.out.2.2.1, HED.out.2.2.2]
      obtain ⟨W4, hW4⟩ : ∃ x, W3.alloc (.cells #[.string nm, .slice pa m pc, .slice pk n pd, .string tx] 42) = x := ⟨_, rfl⟩
      have A4 : Below W3.heap.size W3 W4 := by rw [← hW4]; exact (Below.refl _ W3).alloc (Nat.le_refl _) _
      have B24 : Below W2.heap.size W2 W4 := b3.trans (A4.mono b3.size)
      have B4 : Hid (Below W1.heap.size W1 W4) := B2.out.trans (B24.mono B2.out.size)
      have N4 : W4.heap[W3.heap.size]? = some (.cells #[.string nm, .slice pa m pc, .slice pk n pd, .string tx] 42 (0, 0)) := by rw [← hW4]; exact heap_alloc_new W3 _
      have N24 := (B24.block _ (Array.getElem?_eq_some_iff.1 C2).1).trans C2
      have HW4 : Hid _ := hW4
      have ATP : Hid (Tr.At W4 E pa pc pk pd) := at3.later A4
      have ATQ : Hid (Tr.At W4 E aa ca ak ck) := ATE.out.later B4.out
      have CR : Hid (∀ V b d b' d', Below W4.heap.size W4 V → Tr.At W4 E b d b' d' → Calls Tryd.prog 19 #[.agg #[.string nm, .slice b m d, .slice b' n d', .string tx]] V fun e w' => Below W4.heap.size W4 w' ∧ Below V.heap.size V w' ∧ ∃ b d b' d', e = .returned (.agg #[.string nm, .slice b m d, .slice b' n d', .string tx]) ∧ Tr.At w' E b d b' d') := fun V b d b' d' hV hA => by
        have := (hA.later hV).ref (by have := HSZ.out; omega)
        rw [HED.out.1, HED.out.2.1, HED.out.2.2.1, HED.out.2.2.2] at this
        exact this.mono fun e w' ⟨hb, h⟩ => ⟨hV.trans (hb.mono hV.size), hb, h⟩
      have BR : Hid (Below W4.heap.size W4 W4) := Below.refl _ _
      have CS : Hid (∀ V b d b' d' f g f' g', Below W4.heap.size W4 V → Tr.At V E b d b' d' → Tr.At V E f g f' g' → Calls Tryd.prog 23 #[.agg #[.string nm, .slice b m d, .slice b' n d', .string tx], .agg #[.string nm, .slice f m g, .slice f' n g', .string tx]] V fun e w' => e = .returned (.bool true) ∧ Below W4.heap.size W4 w') := fun V b d b' d' f g f' g' hV h1 h2 => by
        have := h1.same h2 HRE.out
        rw [HED.out.1, HED.out.2.1, HED.out.2.2.1, HED.out.2.2.2] at this
        exact this.mono fun e w' ⟨he, hb⟩ => ⟨he, hV.trans (hb.mono hV.size)⟩
      have CB : Hid (∀ V, Below W4.heap.size W4 V → (V.cell? ⟨W3.heap.size, 0, none⟩ = some (.string nm) ∧ V.cell? ⟨W3.heap.size, 1, none⟩ = some (.slice pa m pc) ∧ V.cell? ⟨W3.heap.size, 2, none⟩ = some (.slice pk n pd) ∧ V.cell? ⟨W3.heap.size, 3, none⟩ = some (.string tx)) ∧
          V.cell? ⟨w.heap.size, 0, none⟩ = some (.string nm) ∧ V.cell? ⟨w.heap.size, 1, none⟩ = some (.slice aa m ca) ∧ V.cell? ⟨w.heap.size, 2, none⟩ = some (.slice ak n ck) ∧ V.cell? ⟨w.heap.size, 3, none⟩ = some (.string tx)) := fun V hV =>
        ⟨(Tr.row4 ((hV.block _ (Array.getElem?_eq_some_iff.1 N4).1).trans N4)).1, (Tr.row4 ((hV.block _ (Array.getElem?_eq_some_iff.1 N24).1).trans N24)).1⟩
      obtain ⟨⟨f0, f1, f2, f3⟩, f4, f5, f6, f7⟩ := CB.out W4 (Below.refl _ _)
      clear b3 at3 hW4 A4 B24 C2 N4 N24
      go_upto_region 6 with fail
      rw [HW4.out]
      go_region_law (first
        | (go_simp; go_at_call 19; refine Calls.mono (CR.out _ _ _ _ _ ?_ ?_) ?_; exact BR.out.drew; exact ATP.out; rintro e V1 ⟨bv1, _, b1, d1, b2, d2, rfl, lv1⟩; obtain ⟨⟨f0, f1, f2, f3⟩, f4, f5, f6, f7⟩ := CB.out V1 bv1)
        | (go_simp; go_at_call 19; refine Calls.mono (CR.out _ _ _ _ _ ?_ ?_) ?_; exact bv1; exact ATQ.out; rintro e V2 ⟨bv2, bw2, b3, d3, b4, d4, rfl, lv2⟩)
        | (go_simp; go_at_call 23; refine Calls.mono (CS.out _ _ _ _ _ _ _ _ _ bv2 (lv1.later bw2) lv2) ?_; rintro e V3 ⟨rfl, bv3⟩)
        | fail)
      all_goals
        have BQ : Hid (Below W1.heap.size W1 V3) := B4.out.trans (bv3.mono B4.out.size)
        clear bv1 bv2 bv3 lv1 lv2
        go_wp2_with fail
        go_meet
        exact BQ.out
    · have hq0 : (z == 0) = false := by simpa using hz0
      clear C2
      go_wp2_with fail
      go_meet
      exact B2.out
  case rest =>
  rename World => W4
  have BQ : Hid (Below W1.heap.size W1 W4) := hcut
  clear C2 hcut
  obtain ⟨⟨o, kk, er⟩, ho⟩ : ∃ o, El.parseL t = o := ⟨_, rfl⟩
  cases o with
  | none =>
    have her := El.parse_err ho
    have hq : (er == 0) = false := by simpa using her
    have HP : Hid _ := Tr.parse_none ho
    clear ho her
    go_wp2_with fail
    refine Calls.mono (HP.out _ (HEW.out _ BQ.out) (by omega)) ?_
    rintro e W5 ⟨b5, rfl⟩
    obtain ⟨W6, hW6⟩ : ∃ x, W5.alloc (.cells #[.string ⟨#[]⟩, .slice none 0 0, .slice none 0 0, .string ⟨#[]⟩] 42) = x := ⟨_, rfl⟩
    have B6 : Hid (Below W1.heap.size W1 W6) := by
      show Below _ _ _
      rw [← hW6]
      exact (BQ.out.trans (b5.mono BQ.out.size)).alloc (Nat.le_trans BQ.out.size b5.size) _
    have HW6 : Hid _ := hW6
    clear b5 hW6
    go_upto_region 9 with fail
    rw [HW6.out]
    go_wp2_with fail
    refine Calls.mono (K5.out _ B6.out) ?_
    rintro e V9 ⟨rfl, bz⟩
    have BZ : Hid (Below w.heap.size w V9) := HLE.out _ bz
    clear bz
    go_wp2
    go_ret
    exact ⟨rfl, BZ.out⟩
  | some X =>
    have HX : Hid (X.Reach ∧ X.weight ≤ 100000 ∧ (X.writeR.2 = 0 ∨ X.writeR.2 = 5)) := by
      have hg := El.parse_good ho
      exact ⟨El.reach_form X hg.1 (by omega), by omega, El.parse_writes ho⟩
    have HP : Hid _ := Tr.parse_some ho
    clear ho
    go_wp2_with fail
    refine Calls.mono (HP.out _ (HEW.out _ BQ.out) (by omega)) ?_
    rintro e W5 ⟨b5, xa, xc, xk, xd, rfl, at5⟩
    obtain ⟨xn, hxn⟩ : ∃ n, X.name = n := ⟨_, rfl⟩
    obtain ⟨xt, hxt⟩ : ∃ n, X.text = n := ⟨_, rfl⟩
    obtain ⟨xm, hxm⟩ : ∃ n, X.attrs.length = n := ⟨_, rfl⟩
    obtain ⟨xl, hxl⟩ : ∃ n, X.kids.length = n := ⟨_, rfl⟩
    rw [hxn, hxt, hxm, hxl]
    obtain ⟨W6, hW6⟩ : ∃ x, W5.alloc (.cells #[.string xn, .slice xa xm xc, .slice xk xl xd, .string xt] 42) = x := ⟨_, rfl⟩
    have A6 : Below W5.heap.size W5 W6 := by rw [← hW6]; exact (Below.refl _ W5).alloc (Nat.le_refl _) _
    have B6 : Hid (Below W1.heap.size W1 W6) := (BQ.out.trans (b5.mono BQ.out.size)).trans (A6.mono (Nat.le_trans BQ.out.size b5.size))
    have N6 : W6.heap[W5.heap.size]? = some (.cells #[.string xn, .slice xa xm xc, .slice xk xl xd, .string xt] 42 (0, 0)) := by rw [← hW6]; exact heap_alloc_new W5 _
    have HW6 : Hid _ := hW6
    have AT : Hid (Tr.At W6 X xa xc xk xd) := at5.later A6
    have HXD : Hid (X.name = xn ∧ X.text = xt ∧ X.attrs.length = xm ∧ X.kids.length = xl) := ⟨hxn, hxt, hxm, hxl⟩
    obtain ⟨bs, hbs⟩ : ∃ x, X.writeR.1 = x := ⟨_, rfl⟩
    obtain ⟨bz, hbz⟩ : ∃ x, X.writeR.2 = x := ⟨_, rfl⟩
    have KW : Hid (∀ W, Below W6.heap.size W6 W → Calls Tryd.prog 17 #[.agg #[.string xn, .slice xa xm xc, .slice xk xl xd, .string xt]] W fun e w' => e = .returned (.tuple #[.string bs, .int .i64 bz]) ∧ Below W6.heap.size W6 w') := fun W hW => by
      have := (AT.out.later hW).write HX.out.1 HX.out.2.1 (HEW.out W (B6.out.trans (hW.mono B6.out.size)))
      rw [hxn, hxt, hxm, hxl, hbs, hbz] at this
      exact this.mono fun e w' ⟨he, hb⟩ => ⟨he, hW.trans (hb.mono hW.size)⟩
    have HBZ : Hid (bz = 0 ∨ bz = 5) := by show _ ∨ _; rw [← hbz]; exact HX.out.2.2
    have HPW : Hid (bz = 0 → El.parseL bs = (some X, 0, 0)) := fun h => by rw [← hbs]; exact El.parse_write X (hbz.trans h)
    have hbsz : bz = 0 → bs.size ≤ 140737488355328 := fun h => by
      have hp := HPW.out h
      unfold El.parseL at hp
      split at hp
      · cases hp
      · omega
    have HBSZ : Hid _ := hbsz
    clear b5 at5 hW6 A6 hxn hxt hxm hxl hbs hbz hbsz
    go_upto_region 9 with fail
    rw [HW6.out]
    go_wp2_with (first | (refine wpList_load_row rfl 42 _ rfl _ rfl 42 _ (0, 0) _ N6 hu rfl (by kernel_rfl) ?_) | fail)
    refine Calls.mono (KW.out _ (Below.refl _ _)) ?_
    rintro e W7 ⟨rfl, b7⟩
    have B7 : Hid (Below W6.heap.size W6 W7) := b7
    have N7 := (b7.block _ (Array.getElem?_eq_some_iff.1 N6).1).trans N6
    have HB7 : Hid (Below W1.heap.size W1 W7) := B6.out.trans (b7.mono B6.out.size)
    clear b7 N6 KW
    rcases HBZ.out with rfl | rfl
    rotate_left
    · clear N7
      go_wp2_with fail
      refine Calls.mono (K5.out _ HB7.out) ?_
      rintro e V9 ⟨rfl, bz⟩
      have BZ : Hid (Below w.heap.size w V9) := HLE.out _ bz
      clear bz
      go_wp2
      go_ret
      exact ⟨rfl, BZ.out⟩
    · have HPB : Hid _ := Tr.parse_some (HPW.out (by simp))
      go_wp2_with fail
      refine Calls.mono (HPB.out _ (HEW.out _ HB7.out) (HBSZ.out (by simp))) ?_
      rintro e W8 ⟨b8, ya, yc, yk, yd, rfl, at8⟩
      rw [HXD.out.1, HXD.out.2.1, HXD.out.2.2.1, HXD.out.2.2.2]
      obtain ⟨W9, hW9⟩ : ∃ x, W8.alloc (.cells #[.string xn, .slice ya xm yc, .slice yk xl yd, .string xt] 42) = x := ⟨_, rfl⟩
      have A9 : Below W8.heap.size W8 W9 := by rw [← hW9]; exact (Below.refl _ W8).alloc (Nat.le_refl _) _
      have B79 : Below W7.heap.size W7 W9 := b8.trans (A9.mono b8.size)
      have B9 : Hid (Below W1.heap.size W1 W9) := HB7.out.trans (B79.mono HB7.out.size)
      have N9 : W9.heap[W8.heap.size]? = some (.cells #[.string xn, .slice ya xm yc, .slice yk xl yd, .string xt] 42 (0, 0)) := by rw [← hW9]; exact heap_alloc_new W8 _
      have N79 := (B79.block _ (Array.getElem?_eq_some_iff.1 N7).1).trans N7
      have HW9 : Hid _ := hW9
      have ATX : Hid (Tr.At W9 X xa xc xk xd) := AT.out.later (B7.out.trans (B79.mono B7.out.size))
      have ATY : Hid (Tr.At W9 X ya yc yk yd) := at8.later A9
      have CR : Hid (∀ V b d b' d', Below W9.heap.size W9 V → Tr.At W9 X b d b' d' → Calls Tryd.prog 19 #[.agg #[.string xn, .slice b xm d, .slice b' xl d', .string xt]] V fun e w' => Below W9.heap.size W9 w' ∧ Below V.heap.size V w' ∧ ∃ b d b' d', e = .returned (.agg #[.string xn, .slice b xm d, .slice b' xl d', .string xt]) ∧ Tr.At w' X b d b' d') := fun V b d b' d' hV hA => by
        have := (hA.later hV).ref HX.out.2.1
        rw [HXD.out.1, HXD.out.2.1, HXD.out.2.2.1, HXD.out.2.2.2] at this
        exact this.mono fun e w' ⟨hb, h⟩ => ⟨hV.trans (hb.mono hV.size), hb, h⟩
      have BR : Hid (Below W9.heap.size W9 W9) := Below.refl _ _
      have CS : Hid (∀ V b d b' d' f g f' g', Below W9.heap.size W9 V → Tr.At V X b d b' d' → Tr.At V X f g f' g' → Calls Tryd.prog 23 #[.agg #[.string xn, .slice b xm d, .slice b' xl d', .string xt], .agg #[.string xn, .slice f xm g, .slice f' xl g', .string xt]] V fun e w' => e = .returned (.bool true) ∧ Below W9.heap.size W9 w') := fun V b d b' d' f g f' g' hV h1 h2 => by
        have := h1.same h2 HX.out.1
        rw [HXD.out.1, HXD.out.2.1, HXD.out.2.2.1, HXD.out.2.2.2] at this
        exact this.mono fun e w' ⟨he, hb⟩ => ⟨he, hV.trans (hb.mono hV.size)⟩
      have CB : Hid (∀ V, Below W9.heap.size W9 V → (V.cell? ⟨W5.heap.size, 0, none⟩ = some (.string xn) ∧ V.cell? ⟨W5.heap.size, 1, none⟩ = some (.slice xa xm xc) ∧ V.cell? ⟨W5.heap.size, 2, none⟩ = some (.slice xk xl xd) ∧ V.cell? ⟨W5.heap.size, 3, none⟩ = some (.string xt)) ∧
          V.cell? ⟨W8.heap.size, 0, none⟩ = some (.string xn) ∧ V.cell? ⟨W8.heap.size, 1, none⟩ = some (.slice ya xm yc) ∧ V.cell? ⟨W8.heap.size, 2, none⟩ = some (.slice yk xl yd) ∧ V.cell? ⟨W8.heap.size, 3, none⟩ = some (.string xt)) := fun V hV =>
        ⟨(Tr.row4 ((hV.block _ (Array.getElem?_eq_some_iff.1 N79).1).trans N79)).1, (Tr.row4 ((hV.block _ (Array.getElem?_eq_some_iff.1 N9).1).trans N9)).1⟩
      obtain ⟨⟨f0, f1, f2, f3⟩, f4, f5, f6, f7⟩ := CB.out W9 (Below.refl _ _)
      clear b8 at8 hW9 A9 B79 N7 N79 N9
      go_upto_region 14 with fail
      rw [HW9.out]
      go_region_law (first
        | (go_simp; go_at_call 19; refine Calls.mono (CR.out _ _ _ _ _ ?_ ?_) ?_; exact BR.out.drew; exact ATX.out; rintro e V1 ⟨bv1, _, b1, d1, b2, d2, rfl, lv1⟩; obtain ⟨⟨f0, f1, f2, f3⟩, f4, f5, f6, f7⟩ := CB.out V1 bv1)
        | (go_simp; go_at_call 19; refine Calls.mono (CR.out _ _ _ _ _ ?_ ?_) ?_; exact bv1; exact ATY.out; rintro e V2 ⟨bv2, bw2, b3, d3, b4, d4, rfl, lv2⟩)
        | (go_simp; go_at_call 23; refine Calls.mono (CS.out _ _ _ _ _ _ _ _ _ bv2 (lv1.later bw2) lv2) ?_; rintro e V3 ⟨rfl, bv3⟩)
        | fail)
      all_goals
        have BQ : Hid (Below W1.heap.size W1 V3) := B9.out.trans (bv3.mono B9.out.size)
        clear bv1 bv2 bv3 lv1 lv2
        go_wp2_with fail
        refine Calls.mono (K5.out _ BQ.out) ?_
        rintro e V9 ⟨rfl, bz⟩
        have BZ : Hid (Below w.heap.size w V9) := HLE.out _ bz
        clear bz
        go_wp2
        go_ret
        exact ⟨rfl, BZ.out⟩

end Go.Proofs.YtcnhmooogcgglaaDoor.TreeBack
