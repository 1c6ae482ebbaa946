/-
  The contracts of the document's text and Write.
-/
import Derived.Test.YtcnhmooogcgglaaDoorTrRefForm
namespace Go.Proofs
open Go.RowKit
open Go.Proofs.Mk

theorem Tr.ba_eq {a : ByteArray} {l : List UInt8} (h : a.data.toList = l) : a = ⟨l.toArray⟩ := by
  obtain ⟨⟨x⟩⟩ := a
  simp only at h
  subst h
  rfl
theorem Tr.ba_app (a b : ByteArray) : (a ++ b).data.toList = a.data.toList ++ b.data.toList := by simp [ByteArray.data_append]

set_option maxHeartbeats 4000000 in
set_option maxRecDepth 20000 in
theorem Tryd.r2text_any : ∀ (d : Nat) (E : El) (va vk : Value) (w : World), El.Lies w (· < w.heap.size) d va vk E → E.Reach → E.weight ≤ 100000 → E.formB = true →
    Calls Tryd.prog 40 #[.agg #[.string E.name, va, vk, .string E.text]] w fun e w' => e = .returned (.string ⟨E.textL.toArray⟩) ∧ Below w.heap.size w w' := by
  intro d
  induction d with
  | zero => intro E va vk w hT; exact hT.elim
  | succ d ih =>
    intro E va vk w hT hR hwt hfo
    have hat : Mk.AttrsAt w va E.attrs := hT.attrsP.at fun k hk => hk
    have hsh := hT.shape
    have hwr : ∀ (a : Option Addr) (c : Nat), va = .slice a E.attrs.length c → ∀ W, Below w.heap.size w W → Calls Tryd.prog 60 #[.agg #[.int .i64 1, .int .i64 0, .string E.name, .slice a E.attrs.length c, .string ⟨#[]⟩]] W fun e w' => e = .returned (.tuple #[.string E.headW.1, .int .i64 E.headW.2]) ∧ Below W.heap.size W w' := fun a c hv W hb => by
      rw [hv] at hat
      exact Tryd.refWrite_any 1 0 E.name ⟨#[]⟩ a c E.attrs W (hat.below hb) (by rw [El.reach_eq] at hR; unfold maxLen; omega) (fun j hj => by have h1 := El.attrsW_get E.attrs j hj; have h2 := E.weight_eq; omega) (by decide)
    have hsp := Tr.form_split E
    rw [hfo] at hsp
    simp only [Bool.true_eq, Bool.and_eq_true, decide_eq_true_eq] at hsp
    have hrf := hsp.2
    unfold Tr.restForm at hrf
    simp only [Bool.and_eq_true] at hrf
    have hcs := Tr.head_cases E
    have htl := El.textL_le E hfo
    have hkl := fun j => El.textLs_le (E.kids.take j) (El.forms_le E.kids hrf.2 j)
    obtain ⟨aa, ca, ak, ck, rfl, rfl⟩ := hT.shape
    obtain ⟨nm, hnm⟩ : ∃ x, E.name = x := ⟨_, rfl⟩
    obtain ⟨tx, htx⟩ : ∃ x, E.text = x := ⟨_, rfl⟩
    obtain ⟨n, hn⟩ : ∃ n, E.kids.length = n := ⟨_, rfl⟩
    obtain ⟨m, hm⟩ : ∃ n, E.attrs.length = n := ⟨_, rfl⟩
    rw [hnm, htx, hn, hm]
    rw [hn, hm] at hT
    obtain ⟨w0, hw0⟩ : ∃ x, w.alloc (.cells #[.string nm, .slice aa m ca, .slice ak n ck, .string tx] 52) = x := ⟨_, rfl⟩
    have A0 : Hid (Below w.heap.size w w0) := by show Below _ _ _; rw [← hw0]; exact (Below.refl _ w).alloc (Nat.le_refl _) _
    have N0 : w0.heap[w.heap.size]? = some (.cells #[.string nm, .slice aa m ca, .slice ak n ck, .string tx] 52 (0, 0)) := by rw [← hw0]; exact heap_alloc_new w _
    have q2 : w0.cell? ⟨w.heap.size, 2, none⟩ = some (.slice ak n ck) := by simp [World.cell?, N0]
    have HW0 : Hid (w.alloc (.cells #[.string nm, .slice aa m ca, .slice ak n ck, .string tx] 52) = w0) := hw0
    have HT : Hid (El.Lies w (· < w.heap.size) (d + 1) (.slice aa m ca) (.slice ak n ck) E) := hT
    have HI : Hid _ := ih
    have HD : Hid (E.kids.length = n) := hn
    have hu := Tryd.underlying52
    have hwr2 := hwr aa ca (by rw [hm])
    rw [hnm, hm] at hwr2
    obtain ⟨hd', hhd⟩ : ∃ x, E.headW.1 = x := ⟨_, rfl⟩
    rw [hhd, hsp.1] at hwr2
    have HWR : Hid _ := hwr2
    have hb5 : tx.size ≤ 100000 ∧ nm.size ≤ 24 ∧ hd'.size ≤ 700000 ∧ 1 ≤ hd'.size := by
      have h1 := E.weight_eq
      rw [htx] at h1
      rcases hcs with ⟨_, h2, h3, h4⟩ | ⟨h2, _⟩
      · rw [hnm] at h3
        rw [hhd] at h2 h4
        refine ⟨by omega, h3, by omega, ?_⟩
        rw [h2]
        simp [ByteArray.size]
      · rw [hsp.1] at h2; cases h2
    have htb := hb5.1
    have hnmb := hb5.2.1
    have hhb := hb5.2.2.1
    have hhb1 := hb5.2.2.2
    have HES : Hid (∀ W, Calls Tryd.prog 61 #[.string tx] W fun e w' => e = .returned (.tuple #[.string ⟨(Mk.escF tx.data.toList).toArray⟩, .int .i64 0]) ∧ w' = W) := fun W => by
      have h1 := Tryd.refEscape_any tx W (by omega)
      have h2 : Mk.escText tx.data.toList = Mk.escF tx.data.toList := by unfold Mk.escText; rw [← htx, hrf.1.1]; rfl
      have h3 : Mk.escErr tx.data.toList = 0 := by unfold Mk.escErr; rw [← htx, hrf.1.1]; rfl
      rw [h2, h3] at h1
      exact h1
    obtain ⟨X, hX⟩ : ∃ x, E.textL = x := ⟨_, rfl⟩
    rw [hX]
    have HC : Hid (E.textL = X ∧ E.weight ≤ 100000 ∧ E.text = tx ∧ E.name = nm ∧ E.headW.1 = hd' ∧ E.Reach ∧ El.forms E.kids = true) := ⟨hX, hwt, htx, hnm, hhd, hR, hrf.2⟩
    have HKL : Hid (∀ j, (El.textLs (E.kids.take j)).length ≤ 6000000) := fun j => by
      have h1 := hkl j
      have h2 := El.weights_le E.kids j
      have h3 := E.weight_eq
      omega
    have hnb : n ≤ 1000000 := by have h1 := El.length_le_counts E.kids; have h2 := El.counts_le_weights E.kids; have h3 := E.weight_eq; omega
    have q0 : w0.cell? ⟨w.heap.size, 0, none⟩ = some (.string nm) := by simp [World.cell?, N0]
    have q1 : w0.cell? ⟨w.heap.size, 1, none⟩ = some (.slice aa m ca) := by simp [World.cell?, N0]
    have HN0 : Hid _ := N0
    clear ih hT hw0 hnm htx hn hm hwr hwr2 hat hsh hsp hcs hhd hR hwt N0 q2 hrf hX htl hkl hfo hb5
    go_enter Tryd.func40, Tryd.ntmps40
    go_upto_region 1 with fail
    rw [HW0.out]
    go_wp2_with fail
    refine Calls.mono (HWR.out _ A0.out) ?_
    rintro e W1 ⟨rfl, b1⟩
    have B1 : Hid (Below w.heap.size w W1) := A0.out.trans (b1.mono A0.out.size)
    have N1 := (b1.block _ (Array.getElem?_eq_some_iff.1 HN0.out).1).trans HN0.out
    have HN1 : Hid _ := N1
    have q2 : W1.cell? ⟨w.heap.size, 2, none⟩ = some (.slice ak n ck) := by simp [World.cell?, N1]
    have q3 : W1.cell? ⟨w.heap.size, 3, none⟩ = some (.string tx) := by simp [World.cell?, N1]
    clear b1 N1 q0 q1
    by_cases hleaf : n = 0 ∧ tx.data.toList = []
    · obtain ⟨rfl, hte⟩ := hleaf
      have t2 : tx.toList.isEmpty = true := by rw [Lib.toList_data, hte]; rfl
      have hk0 : E.kids = [] := List.length_eq_zero_iff.1 HD.out
      have HF : Hid ((hd'.extract 0 (hd'.size - 1) ++ (⟨#[47, 62]⟩ : ByteArray)) = ⟨X.toArray⟩) := by
        show _ = _
        refine Tr.ba_eq ?_
        have h := HC.out
        rw [Tr.ba_app, ← h.1, El.textL_eq, if_pos ⟨hk0, by rw [h.2.2.1]; exact hte⟩, h.2.2.2.2.1]
        have e1 := Lib.extract_eq hd' 0 (hd'.size - 1)
        rw [e1, List.dropLast_eq_take, Mk.size_list]
        simp
      have hi1 : (hd'.size : Int) - 1 ≤ 700000 := by omega
      have hi2 : (0 : Int) ≤ (hd'.size : Int) - 1 := by omega
      have hi3 : ((hd'.size : Int) - 1).toNat = hd'.size - 1 := by omega
      clear hk0 hte
      go_wp2
      go_ret
      exact ⟨by rw [← HF.out]; rfl, B1.out⟩
    · have tst : (((n : Int) == 0) = false) ∨ (((n : Int) == 0) = true ∧ tx.toList.isEmpty = false) := by
        by_cases hz : n = 0
        · right
          refine ⟨beq_iff_eq.2 (by omega), ?_⟩
          rw [Lib.toList_data]
          have : tx.data.toList ≠ [] := fun h => hleaf ⟨hz, h⟩
          simpa using this
        · left; exact beq_eq_false_iff_ne.2 (by omega)
      have HX : Hid (X = hd'.data.toList ++ Mk.escF tx.data.toList ++ (El.textLs E.kids ++ ([60, 47] ++ nm.data.toList ++ [62]))) := by
        show _ = _
        have h := HC.out
        rw [← h.1, El.textL_eq, if_neg (fun hh => hleaf ⟨by rw [← HD.out, hh.1]; rfl, by rw [← h.2.2.1]; exact hh.2⟩), h.2.2.1, h.2.2.2.1, h.2.2.2.2.1]
      obtain ⟨es, hes⟩ : ∃ s : ByteArray, (⟨(Mk.escF tx.data.toList).toArray⟩ : ByteArray) = s := ⟨_, rfl⟩
      have HES2 : Hid (∀ W, Calls Tryd.prog 61 #[.string tx] W fun e w' => e = .returned (.tuple #[.string es, .int .i64 0]) ∧ w' = W) := by rw [← hes]; exact HES.out
      have hesl : es.size ≤ 600000 := by
        have := Tr.escLe tx.data.toList
        rw [Mk.size_list] at this
        rw [← hes]
        simp only [ByteArray.size, List.size_toArray]
        omega
      have HESL : Hid (es.data.toList = Mk.escF tx.data.toList) := by show _ = _; rw [← hes]
      clear hleaf hes
      rcases tst with t1 | ⟨t1, t2⟩
      all_goals
        go_wp2_with fail
        refine Calls.mono (HES2.out _) ?_
        rintro e W1 ⟨rfl, rfl⟩
        clear t1
        try clear t2
        go_wp2
        go_loopg [7, 46] n (fun g o i wr => ∃ (j : Nat) (out : ByteArray), g + j = n ∧ i = .int .i64 j ∧ o = .string out ∧ Hid (Below w.heap.size w wr ∧ out.data.toList = hd'.data.toList ++ Mk.escF tx.data.toList ++ El.textLs (E.kids.take j) ∧ wr.heap[w.heap.size]? = some (.cells #[.string nm, .slice aa m ca, .slice ak n ck, .string tx] 52 (0, 0))))
        case atStart => exact ⟨0, hd' ++ es, by omega, rfl, rfl, B1.out, by rw [Tr.ba_app, HESL.out]; simp [El.textLs], HN1.out⟩
        case round =>
          obtain ⟨j, out, hj, rfl, rfl, HJ⟩ := hrel
          clear q2 q3
          have hob : out.size ≤ 8000000 := by
            have h1 := congrArg List.length HJ.out.2.1
            simp only [List.length_append, Mk.size_list] at h1
            have h2 := HKL.out j
            have h3 := Tr.escLe tx.data.toList
            rw [Mk.size_list] at h3
            omega
          by_cases hjn : j < n
          · have hd : decide ((j : Int) < n) = true := decide_eq_true (by omega)
            have hjk : j < E.kids.length := by rw [HD.out]; exact hjn
            obtain ⟨g, off, ua, uk, rfl, hg, p0, p1, p2, p3, p4⟩ := HT.out.kid j hjk
            obtain ⟨x, hx⟩ : ∃ x, E.kids[j] = x := ⟨_, rfl⟩
            rw [hx] at p0 p3 p4
            obtain ⟨xa, xc, xk, xd, rfl, rfl⟩ := p4.shape
            obtain ⟨xn, hxn⟩ : ∃ n, x.name = n := ⟨_, rfl⟩
            obtain ⟨xt, hxt⟩ : ∃ n, x.text = n := ⟨_, rfl⟩
            obtain ⟨xm, hxm⟩ : ∃ n, x.attrs.length = n := ⟨_, rfl⟩
            obtain ⟨xl, hxl⟩ : ∃ n, x.kids.length = n := ⟨_, rfl⟩
            rw [hxn] at p0
            rw [hxt] at p3
            rw [hxm] at p1 p4
            rw [hxl] at p2 p4
            have hc : ∀ o, wr.cell? ⟨g, o, none⟩ = w.cell? ⟨g, o, none⟩ := fun o => World.cell?_of_block (w := w) (HJ.out.1.block g hg)
            have k0 : wr.cell? ⟨g, off + j * 4, none⟩ = some (.string xn) := by rw [hc]; exact p0
            have k1 : wr.cell? ⟨g, off + j * 4 + 1, none⟩ = some (.slice xa xm xc) := by rw [hc]; exact p1
            have k2 : wr.cell? ⟨g, off + j * 4 + 2, none⟩ = some (.slice xk xl xd) := by rw [hc]; exact p2
            have k3 : wr.cell? ⟨g, off + j * 4 + 3, none⟩ = some (.string xt) := by rw [hc]; exact p3
            obtain ⟨wa, hwa⟩ : ∃ y, wr.alloc (.cells #[.string xn, .slice xa xm xc, .slice xk xl xd, .string xt] 52) = y := ⟨_, rfl⟩
            have hma : wa.heap[wr.heap.size]? = some (.cells #[.string xn, .slice xa xm xc, .slice xk xl xd, .string xt] 52 (0, 0)) := by rw [← hwa]; exact heap_alloc_new wr _
            have NA : Hid (wa.heap[w.heap.size]? = some (.cells #[.string nm, .slice aa m ca, .slice (some ⟨g, off, none⟩) n ck, .string tx] 52 (0, 0))) := by show _ = _; rw [← hwa, Below.heap_alloc _ _ _ (Array.getElem?_eq_some_iff.1 HJ.out.2.2).1]; exact HJ.out.2.2
            have BA : Hid (Below w.heap.size w wa) := by show Below _ _ _; rw [← hwa]; exact HJ.out.1.alloc HJ.out.1.size _
            have hcall := HI.out x (.slice xa xm xc) (.slice xk xl xd) wa (p4.keep (fun k hk => BA.out.block k hk) fun k hk => Nat.lt_of_lt_of_le hk BA.out.size) (by rw [← hx]; have := HC.out.2.2.2.2.2.1; rw [El.reach_eq] at this; exact El.reachs_get _ this.2.2.2.2 j hjk) (by have h1 := El.weights_get E.kids j hjk; rw [hx] at h1; have h2 := E.weight_eq; have := HC.out; omega) (by rw [← hx]; exact El.forms_get E.kids HC.out.2.2.2.2.2.2 j hjk)
            rw [hxn, hxt] at hcall
            have HCL : Hid _ := hcall
            have HX' : Hid (E.kids[j] = x) := hx
            have HWA : Hid _ := hwa
            have lg : g < wr.heap.size := Nat.lt_of_lt_of_le hg HJ.out.1.size
            clear hc p0 p1 p2 p3 p4 hx hxn hxt hxm hxl hcall hwa
            obtain ⟨xs', hxs⟩ : ∃ s : ByteArray, (⟨x.textL.toArray⟩ : ByteArray) = s := ⟨_, rfl⟩
            rw [hxs] at HCL
            have HXS : Hid (xs'.data.toList = x.textL) := by show _ = _; rw [← hxs]
            have hxb : xs'.size ≤ 8000000 := by
              have h1 := HKL.out (j + 1)
              rw [El.textLs_take _ _ hjk, HX'.out, List.length_append] at h1
              have h2 := congrArg List.length HXS.out
              rw [Mk.size_list] at h2
              omega
            clear hxs
            go_wp2_with (first | (refine wpList_load_row rfl 52 _ rfl _ rfl 52 _ (0, 0) _ hma hu rfl (by kernel_rfl) ?_) | fail)
            rw [HWA.out]
            refine Calls.mono HCL.out ?_
            rintro e W3 ⟨rfl, b3⟩
            have B3 : Hid (Below w.heap.size w W3) := BA.out.trans (b3.mono BA.out.size)
            have N3' : Hid (W3.heap[w.heap.size]? = some (.cells #[.string nm, .slice aa m ca, .slice (some ⟨g, off, none⟩) n ck, .string tx] 52 (0, 0))) := (b3.block _ (Array.getElem?_eq_some_iff.1 NA.out).1).trans NA.out
            clear b3 HCL HWA hma k0 k1 k2 k3
            have N3 : Hid (W3.heap[w.heap.size]? = some (.cells #[.string nm, .slice aa m ca, .slice (some ⟨g, off, none⟩) n ck, .string tx] 52 (0, 0))) := N3'.out
            go_wp2
            go_roundg (gk - 1)
            case measure => omega
            case rel => exact ⟨j + 1, out ++ xs', by omega, by go_num, rfl, B3.out, by rw [Tr.ba_app, HJ.out.2.1, HXS.out, El.textLs_take _ _ hjk, HX'.out]; simp, N3.out⟩
          · have hd : decide ((j : Int) < n) = false := decide_eq_false (by omega)
            have hall : E.kids.take j = E.kids := List.take_of_length_le (by rw [HD.out]; omega)
            have q0 : wr.cell? ⟨w.heap.size, 0, none⟩ = some (.string nm) := by have := HJ.out.2.2; simp [World.cell?, this]
            have HF : Hid ((out ++ (⟨#[60, 47]⟩ : ByteArray) ++ nm ++ (⟨#[62]⟩ : ByteArray)) = ⟨X.toArray⟩) := by
              show _ = _
              refine Tr.ba_eq ?_
              rw [Tr.ba_app, Tr.ba_app, Tr.ba_app, HJ.out.2.1, hall, HX.out]
              simp
            clear hall
            go_wp2
            go_ret
            exact ⟨by rw [← HF.out]; rfl, HJ.out.1⟩

end Go.Proofs
