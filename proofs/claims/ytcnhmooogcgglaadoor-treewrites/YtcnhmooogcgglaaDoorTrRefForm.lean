/-
  The contracts of the document's form, text and Write.
-/
import Derived.Test.YtcnhmooogcgglaaDoorTrMeas
import Derived.Test.YtcnhmooogcgglaaDoorTrWrite
import Derived.Test.YtcnhmooogcgglaaDoorLawLarge
namespace Go.Proofs
open Go.RowKit
open Go.Proofs.Mk

mutual
theorem El.textL_le : ∀ E : El, E.formB = true → E.textL.length ≤ 60 * E.weight
  | .mk n xs ks t => by
    intro hf
    have hsp := Tr.form_split (.mk n xs ks t)
    rw [hf] at hsp
    simp only [Bool.true_eq, Bool.and_eq_true, decide_eq_true_eq] at hsp
    have hrf := hsp.2
    unfold Tr.restForm at hrf
    simp only [Bool.and_eq_true] at hrf
    have hk := El.textLs_le ks hrf.2
    have h4 := Tr.escLe t.data.toList
    rw [Mk.size_list] at h4
    rcases Tr.head_cases (.mk n xs ks t) with ⟨_, _, h5, h6⟩ | ⟨h5, _⟩
    · have h7 := Mk.size_list (El.headW (.mk n xs ks t)).1
      have h8 : n.data.toList.length = n.size := Mk.size_list _
      simp only [El.name, El.attrs] at h5 h6
      rw [El.textL_eq, El.weight_eq]
      split
      · simp only [List.length_append, List.length_dropLast, List.length_cons, List.length_nil, El.kids, El.attrs, El.text]
        omega
      · simp only [List.length_append, List.length_cons, List.length_nil, El.kids, El.attrs, El.text, El.name]
        omega
    · rw [hsp.1] at h5; cases h5
theorem El.textLs_le : ∀ l : List El, El.forms l = true → (El.textLs l).length ≤ 60 * El.weights l
  | [] => by intro _; simp [El.textLs]
  | k :: r => by
    intro hf
    simp only [El.forms, Bool.and_eq_true] at hf
    have h1 := El.textL_le k hf.1
    have h2 := El.textLs_le r hf.2
    simp only [El.textLs, El.weights, List.length_append]
    omega
end
theorem El.forms_le (l : List El) (h : El.forms l = true) (k : Nat) : El.forms (l.take k) = true := by
  induction l generalizing k with
  | nil => simp [El.forms]
  | cons a r ih =>
    simp only [El.forms, Bool.and_eq_true] at h
    cases k with
    | zero => rfl
    | succ k => simp only [List.take_succ_cons, El.forms, Bool.and_eq_true]; exact ⟨h.1, ih h.2 k⟩

set_option maxHeartbeats 4000000 in
set_option maxRecDepth 20000 in
theorem Tryd.rform_any : ∀ (d : Nat) (E : El) (va vk : Value) (w : World), El.Lies w (· < w.heap.size) d va vk E → E.Reach → E.weight ≤ 100000 →
    Calls Tryd.prog 39 #[.agg #[.string E.name, va, vk, .string E.text]] w fun e w' => e = .returned (.bool E.formB) ∧ Below w.heap.size w w' := by
  intro d
  induction d with
  | zero => intro E va vk w hT; exact hT.elim
  | succ d ih =>
    intro E va vk w hT hR hwt
    have hat : Mk.AttrsAt w va E.attrs := hT.attrsP.at fun k hk => hk
    have hsh := hT.shape
    have hwr : ∀ (a : Option Addr) (c : Nat), va = .slice a E.attrs.length c → ∀ W, Below w.heap.size w W → Calls Tryd.prog 60 #[.agg #[.int .i64 1, .int .i64 0, .string E.name, .slice a E.attrs.length c, .string ⟨#[]⟩]] W fun e w' => e = .returned (.tuple #[.string E.headW.1, .int .i64 E.headW.2]) ∧ Below W.heap.size W w' := fun a c hv W hb => by
      rw [hv] at hat
      exact Tryd.refWrite_any 1 0 E.name ⟨#[]⟩ a c E.attrs W (hat.below hb) (by rw [El.reach_eq] at hR; unfold maxLen; omega) (fun j hj => by have h1 := El.attrsW_get E.attrs j hj; have h2 := E.weight_eq; omega) (by decide)
    have hsp := Tr.form_split E
    have hcs := Tr.head_cases E
    obtain ⟨aa, ca, ak, ck, rfl, rfl⟩ := hT.shape
    obtain ⟨nm, hnm⟩ : ∃ x, E.name = x := ⟨_, rfl⟩
    obtain ⟨tx, htx⟩ : ∃ x, E.text = x := ⟨_, rfl⟩
    obtain ⟨n, hn⟩ : ∃ n, E.kids.length = n := ⟨_, rfl⟩
    obtain ⟨m, hm⟩ : ∃ n, E.attrs.length = n := ⟨_, rfl⟩
    rw [hnm, htx, hn, hm]
    rw [hn, hm] at hT
    obtain ⟨w0, hw0⟩ : ∃ x, w.alloc (.cells #[.string nm, .slice aa m ca, .slice ak n ck, .string tx] 52) = x := ⟨_, rfl⟩
    have A0 : Hid (Below w.heap.size w w0) := by show Below _ _ _; rw [← hw0]; exact (Below.refl _ w).alloc (Nat.le_refl _) _
    have N0 : w0.heap[w.heap.size]? = some (.cells #[.string nm, .slice aa m ca, .slice ak n ck, .string tx] 52 (0, 0)) := by rw [← hw0]; exact heap_alloc_new w _
    have q2 : w0.cell? ⟨w.heap.size, 2, none⟩ = some (.slice ak n ck) := by simp [World.cell?, N0]
    have HW0 : Hid (w.alloc (.cells #[.string nm, .slice aa m ca, .slice ak n ck, .string tx] 52) = w0) := hw0
    have HT : Hid (El.Lies w (· < w.heap.size) (d + 1) (.slice aa m ca) (.slice ak n ck) E) := hT
    have HI : Hid _ := ih
    have HD : Hid (E.kids.length = n) := hn
    have hu := Tryd.underlying52
    have hwr2 := hwr aa ca (by rw [hm])
    rw [hnm, hm] at hwr2
    obtain ⟨hd', hhd⟩ : ∃ x, E.headW.1 = x := ⟨_, rfl⟩
    obtain ⟨he, hhe⟩ : ∃ x, E.headW.2 = x := ⟨_, rfl⟩
    rw [hhd, hhe] at hwr2
    obtain ⟨c, hc0⟩ : ∃ c, E.formB = c := ⟨_, rfl⟩
    rw [hc0]
    have HWR : Hid _ := hwr2
    have htb : tx.size ≤ 100000 := by have h1 := E.weight_eq; rw [htx] at h1; omega
    have HES : Hid (∀ W, Calls Tryd.prog 61 #[.string tx] W fun e w' => e = .returned (.tuple #[.string ⟨(Mk.escText tx.data.toList).toArray⟩, .int .i64 (Mk.escErr tx.data.toList)]) ∧ w' = W) := fun W => Tryd.refEscape_any tx W (by omega)
    have HC : Hid (E.formB = c ∧ E.weight ≤ 100000 ∧ E.text = tx ∧ E.headW.2 = he ∧ E.formB = (decide (E.headW.2 = 0) && Tr.restForm E) ∧ (he = 0 ∨ he = 4) ∧ E.Reach) := ⟨hc0, hwt, htx, hhe, hsp, by rcases hcs with ⟨a, _⟩ | ⟨a, _⟩; left; rw [← hhe]; exact a; right; rw [← hhe]; exact a, hR⟩
    have hnb : n ≤ 1000000 := by have h1 := El.length_le_counts E.kids; have h2 := El.counts_le_weights E.kids; have h3 := E.weight_eq; omega
    have q0 : w0.cell? ⟨w.heap.size, 0, none⟩ = some (.string nm) := by simp [World.cell?, N0]
    have q1 : w0.cell? ⟨w.heap.size, 1, none⟩ = some (.slice aa m ca) := by simp [World.cell?, N0]
    have HN0 : Hid _ := N0
    clear ih hT hw0 hnm htx hn hm hc0 hwr hwr2 hat hsh hsp hcs hhd hhe hR hwt N0 q2
    go_enter Tryd.func39, Tryd.ntmps39
    go_upto_region 1 with fail
    rw [HW0.out]
    go_wp2_with fail
    refine Calls.mono (HWR.out _ A0.out) ?_
    rintro e W1 ⟨rfl, b1⟩
    have B1 : Hid (Below w.heap.size w W1) := A0.out.trans (b1.mono A0.out.size)
    have N1 := (b1.block _ (Array.getElem?_eq_some_iff.1 HN0.out).1).trans HN0.out
    have q2 : W1.cell? ⟨w.heap.size, 2, none⟩ = some (.slice ak n ck) := by simp [World.cell?, N1]
    have q3 : W1.cell? ⟨w.heap.size, 3, none⟩ = some (.string tx) := by simp [World.cell?, N1]
    clear b1 N1 q0 q1
    go_wp2_with fail
    refine Calls.mono (HES.out _) ?_
    rintro e W1 ⟨rfl, rfl⟩
    obtain ⟨es, hes⟩ : ∃ s : ByteArray, (⟨(Mk.escText tx.data.toList).toArray⟩ : ByteArray) = s := ⟨_, rfl⟩
    obtain ⟨ee, hee⟩ : ∃ x, Mk.escErr tx.data.toList = x := ⟨_, rfl⟩
    rw [hes, hee]
    have HEE : Hid ((ee = 0 ∧ tx.data.toList.all bplain = true) ∨ (ee = 4 ∧ tx.data.toList.all bplain = false)) := by
      show _ ∨ _
      rw [← hee]
      unfold Mk.escErr
      cases tx.data.toList.all bplain
      · right; exact ⟨rfl, rfl⟩
      · left; exact ⟨rfl, rfl⟩
    clear hes hee
    rcases HC.out.2.2.2.2.2.1 with hz | hz
    rotate_left
    · have HF : Hid (false = c) := by have h := HC.out; show _ = _; rw [← h.1, h.2.2.2.2.1, h.2.2.2.1, hz]; rfl
      subst hz
      go_wp2
      go_ret
      exact ⟨by rw [← HF.out]; rfl, B1.out⟩
    subst hz
    rcases HEE.out with ⟨hz, hpl⟩ | ⟨hz, hpl⟩
    rotate_left
    · have HF : Hid (false = c) := by have h := HC.out; show _ = _; rw [← h.1, h.2.2.2.2.1]; unfold Tr.restForm; rw [h.2.2.1, hpl]; simp
      subst hz
      clear hpl
      go_wp2
      go_ret
      exact ⟨by rw [← HF.out]; rfl, B1.out⟩
    subst hz
    have HPL : Hid (tx.data.toList.all bplain = true) := hpl
    clear hpl HEE
    by_cases hbad : tx.data.toList ≠ [] ∧ 0 < n
    · have t2 : tx.toList.isEmpty = false := by rw [Lib.toList_data]; simpa using hbad.1
      have t1 : 0 < n := hbad.2
      have HF : Hid (false = c) := by
        have h := HC.out
        show _ = _
        rw [← h.1, h.2.2.2.2.1]
        unfold Tr.restForm
        have k1 : decide (E.text.data.toList = []) = false := decide_eq_false (by rw [h.2.2.1]; exact hbad.1)
        have k2 : decide (E.kids = []) = false := decide_eq_false (by intro e; have := HD.out; rw [e] at this; simp at this; omega)
        rw [k1, k2]
        simp
      clear hbad
      go_wp2
      go_ret
      exact ⟨by rw [← HF.out]; rfl, B1.out⟩
    · have HF0 : Hid (E.formB = El.forms E.kids) := by
        have h := HC.out
        show _ = _
        rw [h.2.2.2.2.1, h.2.2.2.1]
        unfold Tr.restForm
        rw [h.2.2.1, HPL.out]
        have : (decide (tx.data.toList = []) || decide (E.kids = [])) = true := by
          simp only [Bool.or_eq_true, decide_eq_true_eq]
          by_cases hz : tx.data.toList = []
          · exact .inl hz
          · exact .inr (List.length_eq_zero_iff.1 (by have := HD.out; have : ¬ 0 < n := fun h => hbad ⟨hz, h⟩; omega))
        rw [this]
        rfl
      have tst : (tx.toList.isEmpty = true) ∨ (tx.toList.isEmpty = false ∧ ¬ 0 < n) := by
        by_cases hz : tx.data.toList = []
        · left; rw [Lib.toList_data, hz]; rfl
        · right; exact ⟨by rw [Lib.toList_data]; simpa using hz, fun h => hbad ⟨hz, h⟩⟩
      clear hbad
      rcases tst with t1 | ⟨t1, t2⟩
      all_goals
        go_upto_region 6 with fail
        go_wp2
        go_loopg [44] n (fun g i wr => ∃ j : Nat, g + j = n ∧ i = .int .i64 j ∧ Hid (Below w.heap.size w wr ∧ El.forms (E.kids.take j) = true))
        case atStart => exact ⟨0, by omega, rfl, B1.out, rfl⟩
        case round =>
          clear t1
          try clear t2
          obtain ⟨j, hj, rfl, HJ⟩ := hrel
          clear q2 q3
          by_cases hjn : j < n
          · have hd : decide ((j : Int) < n) = true := decide_eq_true (by omega)
            have hjk : j < E.kids.length := by rw [HD.out]; exact hjn
            obtain ⟨g, off, ua, uk, rfl, hg, p0, p1, p2, p3, p4⟩ := HT.out.kid j hjk
            obtain ⟨x, hx⟩ : ∃ x, E.kids[j] = x := ⟨_, rfl⟩
            rw [hx] at p0 p3 p4
            obtain ⟨xa, xc, xk, xd, rfl, rfl⟩ := p4.shape
            obtain ⟨xn, hxn⟩ : ∃ n, x.name = n := ⟨_, rfl⟩
            obtain ⟨xt, hxt⟩ : ∃ n, x.text = n := ⟨_, rfl⟩
            obtain ⟨xm, hxm⟩ : ∃ n, x.attrs.length = n := ⟨_, rfl⟩
            obtain ⟨xl, hxl⟩ : ∃ n, x.kids.length = n := ⟨_, rfl⟩
            rw [hxn] at p0
            rw [hxt] at p3
            rw [hxm] at p1 p4
            rw [hxl] at p2 p4
            have hc : ∀ o, wr.cell? ⟨g, o, none⟩ = w.cell? ⟨g, o, none⟩ := fun o => World.cell?_of_block (w := w) (HJ.out.1.block g hg)
            have k0 : wr.cell? ⟨g, off + j * 4, none⟩ = some (.string xn) := by rw [hc]; exact p0
            have k1 : wr.cell? ⟨g, off + j * 4 + 1, none⟩ = some (.slice xa xm xc) := by rw [hc]; exact p1
            have k2 : wr.cell? ⟨g, off + j * 4 + 2, none⟩ = some (.slice xk xl xd) := by rw [hc]; exact p2
            have k3 : wr.cell? ⟨g, off + j * 4 + 3, none⟩ = some (.string xt) := by rw [hc]; exact p3
            obtain ⟨wa, hwa⟩ : ∃ y, wr.alloc (.cells #[.string xn, .slice xa xm xc, .slice xk xl xd, .string xt] 52) = y := ⟨_, rfl⟩
            have hma : wa.heap[wr.heap.size]? = some (.cells #[.string xn, .slice xa xm xc, .slice xk xl xd, .string xt] 52 (0, 0)) := by rw [← hwa]; exact heap_alloc_new wr _
            have BA : Hid (Below w.heap.size w wa) := by show Below _ _ _; rw [← hwa]; exact HJ.out.1.alloc HJ.out.1.size _
            have hcall := HI.out x (.slice xa xm xc) (.slice xk xl xd) wa (p4.keep (fun k hk => BA.out.block k hk) fun k hk => Nat.lt_of_lt_of_le hk BA.out.size) (by rw [← hx]; have := HC.out.2.2.2.2.2.2; rw [El.reach_eq] at this; exact El.reachs_get _ this.2.2.2.2 j hjk) (by have h1 := El.weights_get E.kids j hjk; rw [hx] at h1; have h2 := E.weight_eq; have := HC.out; omega)
            rw [hxn, hxt] at hcall
            have HCL : Hid _ := hcall
            have HX : Hid (E.kids[j] = x) := hx
            have HWA : Hid _ := hwa
            have lg : g < wr.heap.size := Nat.lt_of_lt_of_le hg HJ.out.1.size
            clear hc p0 p1 p2 p3 p4 hx hxn hxt hxm hxl hcall hwa
            obtain ⟨xw, hxw⟩ : ∃ c, x.formB = c := ⟨_, rfl⟩
            rw [hxw] at HCL
            have HXW : Hid (x.formB = xw) := hxw
            clear hxw
            go_wp2_with (first | (refine wpList_load_row rfl 52 _ rfl _ rfl 52 _ (0, 0) _ hma hu rfl (by kernel_rfl) ?_) | fail)
            rw [HWA.out]
            refine Calls.mono HCL.out ?_
            rintro e W3 ⟨rfl, b3⟩
            have B3 : Hid (Below w.heap.size w W3) := BA.out.trans (b3.mono BA.out.size)
            clear b3 HCL HWA hma k0 k1 k2 k3
            cases xw
            · have HF : Hid (false = c) := by show _ = _; rw [← HC.out.1, HF0.out]; exact (El.forms_false E.kids hjk (by rw [HX.out]; exact HXW.out)).symm
              go_wp2
              go_ret
              exact ⟨by rw [← HF.out]; rfl, B3.out⟩
            · go_wp2
              go_roundg (gk - 1)
              case measure => omega
              case rel => exact ⟨j + 1, by omega, by go_num, B3.out, by rw [El.forms_take _ _ hjk, HX.out, HXW.out, HJ.out.2]; rfl⟩
          · have hd : decide ((j : Int) < n) = false := decide_eq_false (by omega)
            have hall : E.kids.take j = E.kids := List.take_of_length_le (by rw [HD.out]; omega)
            have HF : Hid (true = c) := by show _ = _; rw [← HC.out.1, HF0.out, ← HJ.out.2, hall]
            clear hall
            go_wp2
            go_ret
            exact ⟨by rw [← HF.out]; rfl, HJ.out.1⟩

end Go.Proofs
