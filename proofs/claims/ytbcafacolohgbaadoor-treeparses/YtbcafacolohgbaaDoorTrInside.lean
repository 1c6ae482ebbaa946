/-
  The contract of the writer's inside.
-/
import Derived.Test.YtbcafacolohgbaaDoorAllTrBuild
import Derived.Deep.DeepCutAuto
namespace Go.Proofs
open Go.RowKit
open Go.Proofs.Mk

/-- What inside asks of an element. -/
def Tr.restForm (E : El) : Bool := E.text.data.toList.all bplain && (decide (E.text.data.toList = []) || decide (E.kids = [])) && El.forms E.kids
def Tr.restText (E : El) : List UInt8 := E.headW.1.data.toList ++ Mk.escF E.text.data.toList ++ (El.textLs E.kids ++ ([60, 47] ++ E.name.data.toList ++ [62]))

set_option maxHeartbeats 8000000 in
set_option maxRecDepth 20000 in
theorem Tryd.winside (d : Nat) (hC : Tr.ElemC d) (B b : Nat) (E : El) (va vk : Value) (l t : List UInt8) (w : World) (hT : El.Lies w (· < B) (d + 1) va vk E) (hR : E.Reach) (hw : E.weight ≤ 100000) (hB : B ≤ w.heap.size) (hE : Mk.Esc w) (h0 : 0 < B) (hW : Tr.Wr B b l w) (hM : Tr.Meant l t) (hl : l.length ≤ 1020000) (hhd : E.headW.2 = 0) :
    Calls Tryd.prog 41 #[.pointer (some ⟨b, 0, none⟩), .agg #[.string E.name, va, vk, .string E.text], .string E.headW.1] w fun e w' => Tr.ElemEnd B b t (Tr.restForm E) (Tr.restText E) w e w' := by
  obtain ⟨aa, ca, ak, ck, rfl, rfl⟩ := hT.shape
  obtain ⟨nm, hnm⟩ : ∃ x, E.name = x := ⟨_, rfl⟩
  obtain ⟨tx, htx⟩ : ∃ x, E.text = x := ⟨_, rfl⟩
  obtain ⟨hd, hhw⟩ : ∃ x, E.headW.1 = x := ⟨_, rfl⟩
  obtain ⟨n, hn⟩ : ∃ n, E.kids.length = n := ⟨_, rfl⟩
  obtain ⟨m, hm⟩ : ∃ n, E.attrs.length = n := ⟨_, rfl⟩
  have hbs : nm.size ≤ 24 ∧ hd.size ≤ 700000 ∧ tx.size ≤ 100000 ∧ n ≤ 100000 := by
    have h1 := E.weight_eq
    have h2 := El.length_le_counts E.kids
    have h3 := El.counts_le_weights E.kids
    rcases Tr.head_cases E with ⟨_, _, h4, h5⟩ | ⟨h4, _⟩
    · rw [hnm] at h4; rw [hhw] at h5; rw [htx] at h1; rw [hn] at h2; omega
    · omega
  rw [hnm, htx, hhw, hn, hm]
  rw [hn, hm] at hT
  obtain ⟨fb, hfb⟩ : ∃ x, Tr.restForm E = x := ⟨_, rfl⟩
  obtain ⟨X, hX⟩ : ∃ x, Tr.restText E = x := ⟨_, rfl⟩
  rw [hfb, hX]
  obtain ⟨w0, hw0⟩ : ∃ x, w.alloc (.cells #[.string nm, .slice aa m ca, .slice ak n ck, .string tx] 25) = x := ⟨_, rfl⟩
  have A0 : Hid (Below w.heap.size w w0) := by show Below _ _ _; rw [← hw0]; exact (Below.refl _ w).alloc (Nat.le_refl _) _
  have N0 : Hid (w0.heap[w.heap.size]? = some (.cells #[.string nm, .slice aa m ca, .slice ak n ck, .string tx] 25 (0, 0))) := by show _ = _; rw [← hw0]; exact heap_alloc_new w _
  have q2 : w0.cell? ⟨w.heap.size, 2, none⟩ = some (.slice ak n ck) := by have := N0.out; simp [World.cell?, this]
  have q3 : w0.cell? ⟨w.heap.size, 3, none⟩ = some (.string tx) := by have := N0.out; simp [World.cell?, this]
  have HW0 : Hid (w.alloc (.cells #[.string nm, .slice aa m ca, .slice ak n ck, .string tx] 25) = w0) := hw0
  have HT : Hid (El.Lies w (· < B) (d + 1) (.slice aa m ca) (.slice ak n ck) E) := hT
  have HR : Hid E.Reach := hR
  have HC : Hid (Tr.ElemC d) := hC
  have HD : Hid (E.name = nm ∧ E.text = tx ∧ E.headW.1 = hd ∧ E.kids.length = n ∧ Tr.restForm E = fb ∧ Tr.restText E = X ∧ E.weight ≤ 100000 ∧ B ≤ w.heap.size ∧ 0 < B ∧ E.headW.2 = 0) := ⟨hnm, htx, hhw, hn, hfb, hX, hw, hB, h0, hhd⟩
  have HE : Hid (Mk.Esc w) := hE
  have HWr : Hid (Tr.Wr B b l w) := hW
  have HM : Hid (Tr.Meant l t) := hM
  have hbw : b < w.heap.size := by rcases hW with h | h <;> exact h.lt
  have hBb : B ≤ b := by rcases hW with h | h <;> exact h.1
  obtain ⟨hb1, hb2, hb3, hb4⟩ := hbs
  clear hw0 hT hR hC hnm htx hhw hn hfb hX hw hE hW hM hm hhd
  by_cases hbad : 0 < n ∧ tx.data.toList ≠ []
  · have t1 : 0 < n := hbad.1
    have t2 : tx.toList.isEmpty = false := by rw [Lib.toList_data]; simpa using hbad.2
    have hf : Hid (fb = false) := by
      show _ = _
      have h := HD.out
      rw [← h.2.2.2.2.1]
      unfold Tr.restForm
      have k1 : decide (E.text.data.toList = []) = false := decide_eq_false (by rw [h.2.1]; exact hbad.2)
      have k2 : decide (E.kids = []) = false := decide_eq_false (by intro e; have := h.2.2.2.1; rw [e] at this; simp at this; omega)
      rw [k1, k2]
      simp
    clear hbad
    go_enter Tryd.func41, Tryd.ntmps41
    go_upto_region 1 with fail
    rw [HW0.out]
    go_wp2
    go_ret
    exact ⟨A0.out.mono HD.out.2.2.2.2.2.2.2.1, Tr.others_of A0.out, .inr ⟨hf.out, rfl⟩⟩
  · have HBAD : Hid (¬ (0 < n ∧ tx.data.toList ≠ [])) := hbad
    have HG : Hid (∀ W, Below w.heap.size w W → Calls Tryd.prog 59 #[.string tx] W fun e w' => e = .returned (.tuple #[.string ⟨(Mk.escText tx.data.toList).toArray⟩, .int .i64 (Mk.escErr tx.data.toList)]) ∧ Below W.heap.size W w') := fun W hb => Tryd.escape_any tx W (Tr.esc_below HE.out hb (Nat.lt_of_lt_of_le h0 hB)) (by omega)
    have tst : (¬ 0 < n) ∨ (0 < n ∧ tx.toList.isEmpty = true) := by
      by_cases hz : 0 < n
      · right
        refine ⟨hz, ?_⟩
        rw [Lib.toList_data]
        have : tx.data.toList = [] := Classical.byContradiction fun h => hbad ⟨hz, h⟩
        rw [this]; rfl
      · left; exact hz
    clear hbad
    rcases tst with t1 | ⟨t1, t2⟩
    all_goals
      go_enter Tryd.func41, Tryd.ntmps41
      go_upto_region 1 with fail
      rw [HW0.out]
      go_wp2_with fail
      refine Calls.mono (HG.out _ A0.out) ?_
      rintro e W1 ⟨rfl, b1⟩
      clear t1
      try clear t2
      have B1 : Hid (Below w.heap.size w W1) := A0.out.trans (b1.mono A0.out.size)
      have N1 : Hid (W1.heap[w.heap.size]? = some (.cells #[.string nm, .slice aa m ca, .slice ak n ck, .string tx] 25 (0, 0))) := (b1.block _ (Array.getElem?_eq_some_iff.1 N0.out).1).trans N0.out
      cases hpl : tx.data.toList.all bplain
      · have e1 : Mk.escErr tx.data.toList = 4 := by unfold Mk.escErr; rw [hpl]; rfl
        have hf : Hid (fb = false) := by
          show _ = _
          have h := HD.out
          rw [← h.2.2.2.2.1]
          unfold Tr.restForm
          rw [h.2.1, hpl]
          rfl
        rw [e1]
        clear b1 hpl e1
        go_wp2
        go_ret
        exact ⟨B1.out.mono HD.out.2.2.2.2.2.2.2.1, Tr.others_of B1.out, .inr ⟨hf.out, rfl⟩⟩
      · have e1 : Mk.escErr tx.data.toList = 0 := by unfold Mk.escErr; rw [hpl]; rfl
        have e2 : Mk.escText tx.data.toList = Mk.escF tx.data.toList := by unfold Mk.escText; rw [hpl]; rfl
        rw [e1, e2]
        obtain ⟨es, hes⟩ : ∃ s : ByteArray, (⟨(Mk.escF tx.data.toList).toArray⟩ : ByteArray) = s := ⟨_, rfl⟩
        have hesl : es.size ≤ 600000 := by
          have := Tr.escLe tx.data.toList
          rw [Mk.size_list] at this
          rw [← hes]
          simp only [ByteArray.size, List.size_toArray]
          omega
        have HES : Hid (es.data.toList = Mk.escF tx.data.toList) := by show _ = _; rw [← hes]
        rw [hes]
        have HPL : Hid (tx.data.toList.all bplain = true) := hpl
        clear b1 hpl e1 e2 hes q2 q3
        obtain ⟨W2, hW2⟩ : ∃ x, W1.alloc (.cells #[.string hd, .string es] 9) = x := ⟨_, rfl⟩
        have B2 : Hid (Below w.heap.size w W2) := by show Below _ _ _; rw [← hW2]; exact B1.out.alloc B1.out.size _
        have N2 : Hid (W2.heap[w.heap.size]? = some (.cells #[.string nm, .slice aa m ca, .slice ak n ck, .string tx] 25 (0, 0))) := by show _ = _; rw [← hW2, Below.heap_alloc _ _ _ (Array.getElem?_eq_some_iff.1 N1.out).1]; exact N1.out
        have HP2 : Hid (W2.heap[W1.heap.size]? = some (.cells ([hd, es].map fun p => Value.string p).toArray 9 (0, 0))) := by show _ = _; rw [← hW2]; exact heap_alloc_new W1 _
        have HW2 : Hid _ := hW2
        have hz1 := B1.out.size
        have WR2 : Hid (Tr.Wr B b l W2) := HWr.out.kept B2.out
        have hcall := Tryd.wput B b W1.heap.size 1000000 [hd, es] l W2 WR2.out (by have := B2.out.size; omega) (by omega) (by omega) (by intro p hp; simp at hp; rcases hp with rfl | rfl <;> omega) (by simp) (by omega) HP2.out
        have HCALL : Hid _ := hcall
        clear hW2 hcall
        go_wp2_with fail
        rw [HW2.out]
        refine Calls.mono HCALL.out ?_
        rintro e W3 ⟨rfl, h3, b3, o3⟩
        have B3 : Hid (Below B w W3) := (B2.out.mono hB).trans b3
        have O3 : Hid (Lib.OthersKept 5 (some b) w W3) := (Tr.others_of B2.out).trans o3
        have N3 : Hid (W3.heap[w.heap.size]? = some (.cells #[.string nm, .slice aa m ca, .slice ak n ck, .string tx] 25 (0, 0))) := o3 _ _ N2.out (by intro e; have := Option.some.inj e; omega) (by intro c fz e; cases e)
        obtain ⟨l3, hl3⟩ : ∃ x, Tr.putAll l ([hd, es].map (·.data.toList)) = x := ⟨_, rfl⟩
        have R3 : Hid (Tr.Wr B b l3 W3 ∧ Tr.Meant l3 (t ++ (hd.data.toList ++ Mk.escF tx.data.toList)) ∧ l3.length ≤ 1020000) := by
          refine ⟨?_, ?_, ?_⟩
          · rw [← hl3]; exact h3
          · have := Tr.Meant.putAll ([hd, es].map (·.data.toList)) HM.out
            rw [hl3] at this
            simpa [HES.out] using this
          · rw [← hl3]
            refine Tr.putAll_le (M := 1000000) _ _ hl fun p hp => ?_
            simp only [List.map_cons, List.map_nil, List.mem_cons, List.not_mem_nil, or_false] at hp
            rcases hp with rfl | rfl <;> rw [Mk.size_list] <;> omega
        have q2 : W3.cell? ⟨w.heap.size, 2, none⟩ = some (.slice ak n ck) := by have := N3.out; simp [World.cell?, this]
        clear h3 b3 o3 hl3 HCALL HW2
        go_wp2
        go_loopg [38] n (fun g i wr => ∃ (j : Nat) (lj : List UInt8), g + j = n ∧ i = .int .i64 j ∧ Hid (Tr.Wr B b lj wr ∧ Tr.Meant lj (t ++ (hd.data.toList ++ Mk.escF tx.data.toList) ++ El.textLs (E.kids.take j)) ∧ lj.length ≤ 1020000 ∧ Below B w wr ∧ Lib.OthersKept 5 (some b) w wr ∧ wr.heap[w.heap.size]? = some (.cells #[.string nm, .slice aa m ca, .slice ak n ck, .string tx] 25 (0, 0)) ∧ El.forms (E.kids.take j) = true))
        case atStart => exact ⟨0, l3, by omega, rfl, R3.out.1, by simpa [El.textLs] using R3.out.2.1, R3.out.2.2, B3.out, O3.out, N3.out, rfl⟩
        case round =>
          obtain ⟨j, lj, hj, rfl, HJ⟩ := hrel
          clear q2
          by_cases hjn : j < n
          · have hdj : decide ((j : Int) < n) = true := decide_eq_true (by omega)
            have hjk : j < E.kids.length := by rw [HD.out.2.2.2.1]; exact hjn
            obtain ⟨g, off, ua, uk, rfl, hg, p0, p1, p2, p3, p4⟩ := HT.out.kid j hjk
            obtain ⟨x, hx⟩ : ∃ x, E.kids[j] = x := ⟨_, rfl⟩
            rw [hx] at p0 p3 p4
            obtain ⟨xa, xc, xk, xd, rfl, rfl⟩ := p4.shape
            obtain ⟨xn, hxn⟩ : ∃ n, x.name = n := ⟨_, rfl⟩
            obtain ⟨xt, hxt⟩ : ∃ n, x.text = n := ⟨_, rfl⟩
            obtain ⟨xm, hxm⟩ : ∃ n, x.attrs.length = n := ⟨_, rfl⟩
            obtain ⟨xl, hxl⟩ : ∃ n, x.kids.length = n := ⟨_, rfl⟩
            rw [hxn] at p0
            rw [hxt] at p3
            rw [hxm] at p1 p4
            rw [hxl] at p2 p4
            have hc : ∀ o, wr.cell? ⟨g, o, none⟩ = w.cell? ⟨g, o, none⟩ := fun o => World.cell?_of_block (w := w) (HJ.out.2.2.2.1.block g hg)
            have k0 : wr.cell? ⟨g, off + j * 4, none⟩ = some (.string xn) := by rw [hc]; exact p0
            have k1 : wr.cell? ⟨g, off + j * 4 + 1, none⟩ = some (.slice xa xm xc) := by rw [hc]; exact p1
            have k2 : wr.cell? ⟨g, off + j * 4 + 2, none⟩ = some (.slice xk xl xd) := by rw [hc]; exact p2
            have k3 : wr.cell? ⟨g, off + j * 4 + 3, none⟩ = some (.string xt) := by rw [hc]; exact p3
            obtain ⟨wa, hwa⟩ : ∃ y, wr.alloc (.cells #[.string xn, .slice xa xm xc, .slice xk xl xd, .string xt] 25) = y := ⟨_, rfl⟩
            have Aa : Below wr.heap.size wr wa := by rw [← hwa]; exact (Below.refl _ wr).alloc (Nat.le_refl _) _
            have hma : wa.heap[wr.heap.size]? = some (.cells #[.string xn, .slice xa xm xc, .slice xk xl xd, .string xt] 25 (0, 0)) := by rw [← hwa]; exact heap_alloc_new wr _
            have hzr := HJ.out.2.2.2.1.size
            have BA : Hid (Below B w wa) := HJ.out.2.2.2.1.trans (Aa.mono (by omega))
            have OA : Hid (Lib.OthersKept 5 (some b) w wa) := HJ.out.2.2.2.2.1.trans (Tr.others_of Aa)
            have NA : Hid (wa.heap[w.heap.size]? = some (.cells #[.string nm, .slice aa m ca, .slice (some ⟨g, off, none⟩) n ck, .string tx] 25 (0, 0))) := (Aa.block _ (Array.getElem?_eq_some_iff.1 HJ.out.2.2.2.2.2.1).1).trans HJ.out.2.2.2.2.2.1
            have hcall := HC.out B b x (.slice xa xm xc) (.slice xk xl xd) lj _ wa (p4.keep (fun k hk => BA.out.block k hk) fun _ h => h) (by rw [← hx]; have := HR.out; rw [El.reach_eq] at this; exact El.reachs_get _ this.2.2.2.2 j hjk)
              (by have h1 := El.weights_get E.kids j hjk; rw [hx] at h1; have h2 := E.weight_eq; have := HD.out.2.2.2.2.2.2.1; omega) (by have := BA.out.size; omega) (Tr.esc_below HE.out BA.out h0) h0 (HJ.out.1.kept Aa) HJ.out.2.1 HJ.out.2.2.1
            rw [hxn, hxt] at hcall
            have HCL : Hid _ := hcall
            have HX : Hid (E.kids[j] = x) := hx
            have HWA : Hid _ := hwa
            have hu := Tryd.underlying25
            have lg : g < wr.heap.size := by omega
            clear hc p0 p1 p2 p3 p4 hx hxn hxt hxm hxl hcall hwa Aa
            go_wp2_with (first | (refine wpList_load_row rfl 25 _ rfl _ rfl 25 _ (0, 0) _ hma hu rfl (by kernel_rfl) ?_) | fail)
            rw [HWA.out]
            refine Calls.mono HCL.out ?_
            rintro e W5 ⟨b5, o5, hh⟩
            have B5 : Hid (Below B w W5 ∧ Lib.OthersKept 5 (some b) w W5) := ⟨BA.out.trans b5, OA.out.trans o5⟩
            have N5 : Hid (W5.heap[w.heap.size]? = some (.cells #[.string nm, .slice aa m ca, .slice (some ⟨g, off, none⟩) n ck, .string tx] 25 (0, 0))) := o5 _ _ NA.out (by intro e; have := Option.some.inj e; omega) (by intro c fz e; cases e)
            rcases hh with ⟨hok, rfl, l5, w5, m5, ll5⟩ | ⟨hok, rfl⟩
            · have H5 : Hid (Tr.Wr B b l5 W5 ∧ Tr.Meant l5 (t ++ (hd.data.toList ++ Mk.escF tx.data.toList) ++ El.textLs (E.kids.take j) ++ x.textL) ∧ l5.length ≤ 1020000 ∧ x.formB = true) := ⟨w5, m5, ll5, hok⟩
              clear b5 o5 w5 m5 ll5 hok HCL HWA hma k0 k1 k2 k3
              go_wp2
              go_roundg (gk - 1)
              case measure => omega
              case rel =>
                refine ⟨j + 1, l5, by omega, by go_num, H5.out.1, ?_, H5.out.2.2.1, B5.out.1, B5.out.2, N5.out, ?_⟩
                · rw [El.textLs_take _ _ hjk, HX.out]
                  have := H5.out.2.1
                  simpa [List.append_assoc] using this
                · rw [El.forms_take _ _ hjk, HX.out, H5.out.2.2.2, HJ.out.2.2.2.2.2.2]; rfl
            · have hf : Hid (fb = false) := by
                show _ = _
                have h := HD.out
                rw [← h.2.2.2.2.1]
                unfold Tr.restForm
                rw [El.forms_false E.kids hjk (by rw [HX.out]; exact hok)]
                simp
              clear b5 o5 hok HCL HWA hma k0 k1 k2 k3
              go_wp2
              go_ret
              exact ⟨B5.out.1, B5.out.2, .inr ⟨hf.out, rfl⟩⟩
          · have hdj : decide ((j : Int) < n) = false := decide_eq_false (by omega)
            have hall : E.kids.take j = E.kids := List.take_of_length_le (by rw [HD.out.2.2.2.1]; omega)
            have HZ := HJ.out
            rw [hall] at HZ
            have q0 : wr.cell? ⟨w.heap.size, 0, none⟩ = some (.string nm) := by have := HZ.2.2.2.2.2.1; simp [World.cell?, this]
            obtain ⟨W6, hW6⟩ : ∃ x, wr.alloc (.cells #[.string ⟨#[60, 47]⟩, .string nm, .string ⟨#[62]⟩] 9) = x := ⟨_, rfl⟩
            have A6 : Below wr.heap.size wr W6 := by rw [← hW6]; exact (Below.refl _ wr).alloc (Nat.le_refl _) _
            have HP6 : Hid (W6.heap[wr.heap.size]? = some (.cells ([⟨#[60, 47]⟩, nm, ⟨#[62]⟩].map fun p => Value.string p).toArray 9 (0, 0))) := by show _ = _; rw [← hW6]; exact heap_alloc_new wr _
            have hzr := HZ.2.2.2.1.size
            have hcall := Tryd.wput B b wr.heap.size 1000000 [⟨#[60, 47]⟩, nm, ⟨#[62]⟩] lj W6 (HZ.1.kept A6) (by have := A6.size; omega) (by omega) HZ.2.2.1 (by intro p hp; simp at hp; rcases hp with rfl | rfl | rfl; decide; omega; decide) (by simp) (by omega) HP6.out
            have HCALL : Hid _ := hcall
            have B6 : Hid (Below B w W6 ∧ Lib.OthersKept 5 (some b) w W6) := ⟨HZ.2.2.2.1.trans (A6.mono (by omega)), HZ.2.2.2.2.1.trans (Tr.others_of A6)⟩
            have HW6 : Hid _ := hW6
            have HZ' : Hid (Tr.Meant lj (t ++ (hd.data.toList ++ Mk.escF tx.data.toList) ++ El.textLs E.kids) ∧ El.forms E.kids = true ∧ lj.length ≤ 1020000) := ⟨HZ.2.1, HZ.2.2.2.2.2.2, HZ.2.2.1⟩
            clear HZ hall hW6 A6 hcall
            go_wp2_with fail
            rw [HW6.out]
            refine Calls.mono HCALL.out ?_
            rintro e W7 ⟨rfl, h7, b7, o7⟩
            have H7 : Hid (Tr.Wr B b (Tr.putAll lj ([⟨#[60, 47]⟩, nm, ⟨#[62]⟩].map (·.data.toList))) W7 ∧ Below B w W7 ∧ Lib.OthersKept 5 (some b) w W7) := ⟨h7, B6.out.1.trans b7, B6.out.2.trans o7⟩
            clear h7 b7 o7 HCALL HW6
            go_wp2
            go_ret
            refine ⟨H7.out.2.1, H7.out.2.2, .inl ⟨?_, rfl, _, H7.out.1, ?_, ?_⟩⟩
            · have h := HD.out
              rw [← h.2.2.2.2.1]
              unfold Tr.restForm
              rw [HZ'.out.2.1, h.2.1, HPL.out]
              simp only [Bool.and_true, Bool.true_and, Bool.or_eq_true, decide_eq_true_eq]
              by_cases hz : 0 < n
              · left; exact Classical.byContradiction fun hh => HBAD.out ⟨hz, hh⟩
              · right; exact List.length_eq_zero_iff.1 (by omega)
            · have := Tr.Meant.putAll ([⟨#[60, 47]⟩, nm, ⟨#[62]⟩].map (·.data.toList)) HZ'.out.1
              have h := HD.out
              rw [← h.2.2.2.2.2.1]
              unfold Tr.restText
              rw [h.1, h.2.1, h.2.2.1]
              simpa [List.append_assoc] using this
            · refine Tr.putAll_le (M := 1000000) _ _ HZ'.out.2.2 fun p hp => ?_
              simp only [List.map_cons, List.map_nil, List.mem_cons, List.not_mem_nil, or_false] at hp
              rcases hp with rfl | rfl | rfl
              · decide
              · rw [Mk.size_list]; omega
              · decide

end Go.Proofs
