/-
  The contracts of what only goes through an element: tooLarge, depth, the document's Depth, Count and wide.
-/
import Derived.Test.YtbcafacolohgbaaDoorTrModel
import Derived.Deep.DeepCutAuto
namespace Go.Proofs
open Go.RowKit
open Go.Proofs.Mk

set_option maxHeartbeats 4000000 in
set_option maxRecDepth 20000 in
theorem Tryd.rcount_any : ∀ (d : Nat) (E : El) (va vk : Value) (w : World), El.Lies w (· < w.heap.size) d va vk E → E.count ≤ 1000000 →
    Calls Tryd.prog 19 #[.agg #[.string E.name, va, vk, .string E.text]] w fun e w' => e = .returned (.int .i64 E.count) ∧ Below w.heap.size w w' := by
  intro d
  induction d with
  | zero => intro E va vk w hT; exact hT.elim
  | succ d ih =>
    intro E va vk w hT hcb
    obtain ⟨aa, ca, ak, ck, rfl, rfl⟩ := hT.shape
    obtain ⟨nm, hnm⟩ : ∃ x, E.name = x := ⟨_, rfl⟩
    obtain ⟨tx, htx⟩ : ∃ x, E.text = x := ⟨_, rfl⟩
    obtain ⟨n, hn⟩ : ∃ n, E.kids.length = n := ⟨_, rfl⟩
    obtain ⟨m, hm⟩ : ∃ n, E.attrs.length = n := ⟨_, rfl⟩
    rw [hnm, htx, hn, hm]
    rw [hn, hm] at hT
    obtain ⟨w0, hw0⟩ : ∃ x, w.alloc (.cells #[.string nm, .slice aa m ca, .slice ak n ck, .string tx] 39) = x := ⟨_, rfl⟩
    have A0 : Hid (Below w.heap.size w w0) := by show Below _ _ _; rw [← hw0]; exact (Below.refl _ w).alloc (Nat.le_refl _) _
    have N0 : w0.heap[w.heap.size]? = some (.cells #[.string nm, .slice aa m ca, .slice ak n ck, .string tx] 39 (0, 0)) := by rw [← hw0]; exact heap_alloc_new w _
    have q2 : w0.cell? ⟨w.heap.size, 2, none⟩ = some (.slice ak n ck) := by simp [World.cell?, N0]
    have HW0 : Hid (w.alloc (.cells #[.string nm, .slice aa m ca, .slice ak n ck, .string tx] 39) = w0) := hw0
    have HT : Hid (El.Lies w (· < w.heap.size) (d + 1) (.slice aa m ca) (.slice ak n ck) E) := hT
    have HI : Hid _ := ih
    have HD : Hid (E.kids.length = n) := hn
    have hu := Tryd.underlying39
    obtain ⟨c, hc0⟩ : ∃ c, E.count = c := ⟨_, rfl⟩
    rw [hc0]
    have HC : Hid (E.count = c ∧ E.count ≤ 1000000) := ⟨hc0, hcb⟩
    have hnb : n ≤ 1000000 := by have h1 := El.length_le_counts E.kids; have h2 := E.count_eq; omega
    clear ih hT hw0 hnm htx hn hm hc0 hcb
    go_enter Tryd.func19, Tryd.ntmps19
    go_upto_region 1 with fail
    rw [HW0.out]
    go_wp2
    go_loopg [3, 9] n (fun g u i wr => ∃ j : Nat, g + j = n ∧ i = .int .i64 j ∧ u = .int .i64 ((El.counts (E.kids.take j) + 1 : Nat) : Int) ∧ Hid (Below w.heap.size w wr ∧ True))
    case atStart => exact ⟨0, by omega, rfl, by simp [El.counts], A0.out, trivial⟩
    case round =>
      obtain ⟨j, hj, rfl, rfl, HJ⟩ := hrel
      clear q2 N0
      have hcj : El.counts (E.kids.take j) + 1 ≤ 1000000 := by have h1 := El.counts_le E.kids j; have h2 := E.count_eq; have := HC.out; omega
      obtain ⟨cj, hcje⟩ : ∃ c, El.counts (E.kids.take j) + 1 = c := ⟨_, rfl⟩
      rw [hcje] at hcj ⊢
      have HCJ : Hid (El.counts (E.kids.take j) + 1 = cj) := hcje
      clear hcje
      by_cases hjn : j < n
      · have hd : decide ((j : Int) < n) = true := decide_eq_true (by omega)
        have hjk : j < E.kids.length := by rw [HD.out]; exact hjn
        obtain ⟨g, off, ua, uk, rfl, hg, p0, p1, p2, p3, p4⟩ := HT.out.kid j hjk
        obtain ⟨x, hx⟩ : ∃ x, E.kids[j] = x := ⟨_, rfl⟩
        rw [hx] at p0 p3 p4
        obtain ⟨xa, xc, xk, xd, rfl, rfl⟩ := p4.shape
        obtain ⟨xn, hxn⟩ : ∃ n, x.name = n := ⟨_, rfl⟩
        obtain ⟨xt, hxt⟩ : ∃ n, x.text = n := ⟨_, rfl⟩
        obtain ⟨xm, hxm⟩ : ∃ n, x.attrs.length = n := ⟨_, rfl⟩
        obtain ⟨xl, hxl⟩ : ∃ n, x.kids.length = n := ⟨_, rfl⟩
        rw [hxn] at p0
        rw [hxt] at p3
        rw [hxm] at p1 p4
        rw [hxl] at p2 p4
        have hc : ∀ o, wr.cell? ⟨g, o, none⟩ = w.cell? ⟨g, o, none⟩ := fun o => World.cell?_of_block (w := w) (HJ.out.1.block g hg)
        have k0 : wr.cell? ⟨g, off + j * 4, none⟩ = some (.string xn) := by rw [hc]; exact p0
        have k1 : wr.cell? ⟨g, off + j * 4 + 1, none⟩ = some (.slice xa xm xc) := by rw [hc]; exact p1
        have k2 : wr.cell? ⟨g, off + j * 4 + 2, none⟩ = some (.slice xk xl xd) := by rw [hc]; exact p2
        have k3 : wr.cell? ⟨g, off + j * 4 + 3, none⟩ = some (.string xt) := by rw [hc]; exact p3
        obtain ⟨wa, hwa⟩ : ∃ y, wr.alloc (.cells #[.string xn, .slice xa xm xc, .slice xk xl xd, .string xt] 39) = y := ⟨_, rfl⟩
        have hma : wa.heap[wr.heap.size]? = some (.cells #[.string xn, .slice xa xm xc, .slice xk xl xd, .string xt] 39 (0, 0)) := by rw [← hwa]; exact heap_alloc_new wr _
        have BA : Hid (Below w.heap.size w wa) := by show Below _ _ _; rw [← hwa]; exact HJ.out.1.alloc HJ.out.1.size _
        have hcall := HI.out x (.slice xa xm xc) (.slice xk xl xd) wa (p4.keep (fun k hk => BA.out.block k hk) fun k hk => Nat.lt_of_lt_of_le hk BA.out.size) (by have h1 := El.counts_get E.kids j hjk; rw [hx] at h1; have h2 := E.count_eq; have := HC.out; omega)
        rw [hxn, hxt] at hcall
        have HCL : Hid _ := hcall
        have HX : Hid (E.kids[j] = x) := hx
        have HWA : Hid _ := hwa
        have lg : g < wr.heap.size := Nat.lt_of_lt_of_le hg HJ.out.1.size
        clear hc p0 p1 p2 p3 p4 hx hxn hxt hxm hxl hcall hwa
        have HS : Hid (cj + x.count ≤ 1000000 ∧ El.counts (E.kids.take (j + 1)) + 1 = cj + x.count) := by
          have h1 := El.counts_get E.kids j hjk
          have h3 := El.counts_take E.kids j hjk
          rw [HX.out] at h1 h3
          have h2 := E.count_eq
          have := HC.out
          have := HCJ.out
          exact ⟨by omega, by omega⟩
        obtain ⟨xc', hxc'⟩ : ∃ c, x.count = c := ⟨_, rfl⟩
        rw [hxc'] at HCL HS
        have hsb := HS.out.1
        clear hxc'
        go_wp2_with (first | (refine wpList_load_row rfl 39 _ rfl _ rfl 39 _ (0, 0) _ hma hu rfl (by kernel_rfl) ?_) | fail)
        rw [HWA.out]
        refine Calls.mono HCL.out ?_
        rintro e W3 ⟨rfl, b3⟩
        have B3 : Hid (Below w.heap.size w W3) := BA.out.trans (b3.mono BA.out.size)
        clear b3 HCL HWA hma k0 k1 k2 k3
        go_wp2
        go_roundg (gk - 1)
        case measure => omega
        case rel => exact ⟨j + 1, by omega, by go_num, by rw [HS.out.2]; go_num, B3.out, trivial⟩
      · have hd : decide ((j : Int) < n) = false := decide_eq_false (by omega)
        have hall : E.kids.take j = E.kids := List.take_of_length_le (by rw [HD.out]; omega)
        have HF : Hid (cj = c) := by show _ = _; rw [← HCJ.out, hall, ← HC.out.1, E.count_eq]
        clear hall
        go_wp2
        go_ret
        exact ⟨by rw [HF.out]; rfl, HJ.out.1⟩

set_option maxHeartbeats 4000000 in
set_option maxRecDepth 20000 in
theorem Tryd.rwide_any : ∀ (d : Nat) (E : El) (va vk : Value) (w : World), El.Lies w (· < w.heap.size) d va vk E → E.count ≤ 1000000 →
    Calls Tryd.prog 27 #[.agg #[.string E.name, va, vk, .string E.text]] w fun e w' => e = .returned (.bool E.wideB) ∧ Below w.heap.size w w' := by
  intro d
  induction d with
  | zero => intro E va vk w hT; exact hT.elim
  | succ d ih =>
    intro E va vk w hT hcb
    obtain ⟨aa, ca, ak, ck, rfl, rfl⟩ := hT.shape
    obtain ⟨nm, hnm⟩ : ∃ x, E.name = x := ⟨_, rfl⟩
    obtain ⟨tx, htx⟩ : ∃ x, E.text = x := ⟨_, rfl⟩
    obtain ⟨n, hn⟩ : ∃ n, E.kids.length = n := ⟨_, rfl⟩
    obtain ⟨m, hm⟩ : ∃ n, E.attrs.length = n := ⟨_, rfl⟩
    rw [hnm, htx, hn, hm]
    rw [hn, hm] at hT
    obtain ⟨w0, hw0⟩ : ∃ x, w.alloc (.cells #[.string nm, .slice aa m ca, .slice ak n ck, .string tx] 39) = x := ⟨_, rfl⟩
    have A0 : Hid (Below w.heap.size w w0) := by show Below _ _ _; rw [← hw0]; exact (Below.refl _ w).alloc (Nat.le_refl _) _
    have N0 : w0.heap[w.heap.size]? = some (.cells #[.string nm, .slice aa m ca, .slice ak n ck, .string tx] 39 (0, 0)) := by rw [← hw0]; exact heap_alloc_new w _
    have q2 : w0.cell? ⟨w.heap.size, 2, none⟩ = some (.slice ak n ck) := by simp [World.cell?, N0]
    have HW0 : Hid (w.alloc (.cells #[.string nm, .slice aa m ca, .slice ak n ck, .string tx] 39) = w0) := hw0
    have HT : Hid (El.Lies w (· < w.heap.size) (d + 1) (.slice aa m ca) (.slice ak n ck) E) := hT
    have HI : Hid _ := ih
    have HD : Hid (E.kids.length = n) := hn
    have hu := Tryd.underlying39
    obtain ⟨c, hc0⟩ : ∃ c, E.wideB = c := ⟨_, rfl⟩
    rw [hc0]
    have HC : Hid (E.wideB = c ∧ E.count ≤ 1000000) := ⟨hc0, hcb⟩
    have hnb : n ≤ 1000000 := by have h1 := El.length_le_counts E.kids; have h2 := E.count_eq; omega
    clear ih hT hw0 hnm htx hn hm hc0 hcb
    by_cases h64 : 64 < n
    · have hd0 : decide ((64 : Int) < n) = true := decide_eq_true (by omega)
      have HF : Hid (true = c) := by show _ = _; rw [← HC.out.1, E.wideB_eq, HD.out, decide_eq_true h64]; rfl
      clear h64
      go_enter Tryd.func27, Tryd.ntmps27
      go_upto_region 1 with fail
      rw [HW0.out]
      go_wp2
      go_ret
      exact ⟨by rw [← HF.out]; rfl, A0.out⟩
    · have hd0 : decide ((64 : Int) < n) = false := decide_eq_false (by omega)
      have HF0 : Hid (E.wideB = El.wides E.kids) := by show _ = _; rw [E.wideB_eq, HD.out, decide_eq_false h64]; rfl
      clear h64
      go_enter Tryd.func27, Tryd.ntmps27
      go_upto_region 1 with fail
      rw [HW0.out]
      go_wp2
      go_loopg [12] n (fun g i wr => ∃ j : Nat, g + j = n ∧ i = .int .i64 j ∧ Hid (Below w.heap.size w wr ∧ El.wides (E.kids.take j) = false))
      case atStart => exact ⟨0, by omega, rfl, A0.out, rfl⟩
      case round =>
        obtain ⟨j, hj, rfl, HJ⟩ := hrel
        clear q2 N0
        by_cases hjn : j < n
        · have hd : decide ((j : Int) < n) = true := decide_eq_true (by omega)
          have hjk : j < E.kids.length := by rw [HD.out]; exact hjn
          obtain ⟨g, off, ua, uk, rfl, hg, p0, p1, p2, p3, p4⟩ := HT.out.kid j hjk
          obtain ⟨x, hx⟩ : ∃ x, E.kids[j] = x := ⟨_, rfl⟩
          rw [hx] at p0 p3 p4
          obtain ⟨xa, xc, xk, xd, rfl, rfl⟩ := p4.shape
          obtain ⟨xn, hxn⟩ : ∃ n, x.name = n := ⟨_, rfl⟩
          obtain ⟨xt, hxt⟩ : ∃ n, x.text = n := ⟨_, rfl⟩
          obtain ⟨xm, hxm⟩ : ∃ n, x.attrs.length = n := ⟨_, rfl⟩
          obtain ⟨xl, hxl⟩ : ∃ n, x.kids.length = n := ⟨_, rfl⟩
          rw [hxn] at p0
          rw [hxt] at p3
          rw [hxm] at p1 p4
          rw [hxl] at p2 p4
          have hc : ∀ o, wr.cell? ⟨g, o, none⟩ = w.cell? ⟨g, o, none⟩ := fun o => World.cell?_of_block (w := w) (HJ.out.1.block g hg)
          have k0 : wr.cell? ⟨g, off + j * 4, none⟩ = some (.string xn) := by rw [hc]; exact p0
          have k1 : wr.cell? ⟨g, off + j * 4 + 1, none⟩ = some (.slice xa xm xc) := by rw [hc]; exact p1
          have k2 : wr.cell? ⟨g, off + j * 4 + 2, none⟩ = some (.slice xk xl xd) := by rw [hc]; exact p2
          have k3 : wr.cell? ⟨g, off + j * 4 + 3, none⟩ = some (.string xt) := by rw [hc]; exact p3
          obtain ⟨wa, hwa⟩ : ∃ y, wr.alloc (.cells #[.string xn, .slice xa xm xc, .slice xk xl xd, .string xt] 39) = y := ⟨_, rfl⟩
          have hma : wa.heap[wr.heap.size]? = some (.cells #[.string xn, .slice xa xm xc, .slice xk xl xd, .string xt] 39 (0, 0)) := by rw [← hwa]; exact heap_alloc_new wr _
          have BA : Hid (Below w.heap.size w wa) := by show Below _ _ _; rw [← hwa]; exact HJ.out.1.alloc HJ.out.1.size _
          have hcall := HI.out x (.slice xa xm xc) (.slice xk xl xd) wa (p4.keep (fun k hk => BA.out.block k hk) fun k hk => Nat.lt_of_lt_of_le hk BA.out.size) (by have h1 := El.counts_get E.kids j hjk; rw [hx] at h1; have h2 := E.count_eq; have := HC.out; omega)
          rw [hxn, hxt] at hcall
          have HCL : Hid _ := hcall
          have HX : Hid (E.kids[j] = x) := hx
          have HWA : Hid _ := hwa
          have lg : g < wr.heap.size := Nat.lt_of_lt_of_le hg HJ.out.1.size
          clear hc p0 p1 p2 p3 p4 hx hxn hxt hxm hxl hcall hwa
          obtain ⟨xw, hxw⟩ : ∃ c, x.wideB = c := ⟨_, rfl⟩
          rw [hxw] at HCL
          have HXW : Hid (x.wideB = xw) := hxw
          clear hxw
          go_wp2_with (first | (refine wpList_load_row rfl 39 _ rfl _ rfl 39 _ (0, 0) _ hma hu rfl (by kernel_rfl) ?_) | fail)
          rw [HWA.out]
          refine Calls.mono HCL.out ?_
          rintro e W3 ⟨rfl, b3⟩
          have B3 : Hid (Below w.heap.size w W3) := BA.out.trans (b3.mono BA.out.size)
          clear b3 HCL HWA hma k0 k1 k2 k3
          cases xw
          · go_wp2
            go_roundg (gk - 1)
            case measure => omega
            case rel => exact ⟨j + 1, by omega, by go_num, B3.out, by rw [El.wides_take _ _ hjk, HX.out, HXW.out, HJ.out.2]; rfl⟩
          · have HF : Hid (true = c) := by show _ = _; rw [← HC.out.1, HF0.out]; exact (El.wides_true E.kids hjk (by rw [HX.out]; exact HXW.out)).symm
            go_wp2
            go_ret
            exact ⟨by rw [← HF.out]; rfl, B3.out⟩
        · have hd : decide ((j : Int) < n) = false := decide_eq_false (by omega)
          have hall : E.kids.take j = E.kids := List.take_of_length_le (by rw [HD.out]; omega)
          have HF : Hid (false = c) := by show _ = _; rw [← HC.out.1, HF0.out, ← HJ.out.2, hall]
          clear hall
          go_wp2
          go_ret
          exact ⟨by rw [← HF.out]; rfl, HJ.out.1⟩

set_option maxHeartbeats 4000000 in
set_option maxRecDepth 20000 in
theorem Tryd.tooLarge_any : ∀ (d : Nat) (E : El) (va vk : Value) (w : World), El.Lies w (· < w.heap.size) d va vk E → ∀ L : Nat, L ≤ 1000 → E.count ≤ 1000000 →
    Calls Tryd.prog 23 #[.agg #[.string E.name, va, vk, .string E.text], .int .i64 L] w fun e w' => e = .returned (.bool (decide (L < E.depth) || E.wideB)) ∧ Below w.heap.size w w' := by
  intro d
  induction d with
  | zero => intro E va vk w hT; exact hT.elim
  | succ d ih =>
    intro E va vk w hT L hL hcb
    obtain ⟨aa, ca, ak, ck, rfl, rfl⟩ := hT.shape
    obtain ⟨nm, hnm⟩ : ∃ x, E.name = x := ⟨_, rfl⟩
    obtain ⟨tx, htx⟩ : ∃ x, E.text = x := ⟨_, rfl⟩
    obtain ⟨n, hn⟩ : ∃ n, E.kids.length = n := ⟨_, rfl⟩
    obtain ⟨m, hm⟩ : ∃ n, E.attrs.length = n := ⟨_, rfl⟩
    rw [hnm, htx, hn, hm]
    rw [hn, hm] at hT
    obtain ⟨w0, hw0⟩ : ∃ x, w.alloc (.cells #[.string nm, .slice aa m ca, .slice ak n ck, .string tx] 25) = x := ⟨_, rfl⟩
    have A0 : Hid (Below w.heap.size w w0) := by show Below _ _ _; rw [← hw0]; exact (Below.refl _ w).alloc (Nat.le_refl _) _
    have N0 : w0.heap[w.heap.size]? = some (.cells #[.string nm, .slice aa m ca, .slice ak n ck, .string tx] 25 (0, 0)) := by rw [← hw0]; exact heap_alloc_new w _
    have q2 : w0.cell? ⟨w.heap.size, 2, none⟩ = some (.slice ak n ck) := by simp [World.cell?, N0]
    have HW0 : Hid (w.alloc (.cells #[.string nm, .slice aa m ca, .slice ak n ck, .string tx] 25) = w0) := hw0
    have HT : Hid (El.Lies w (· < w.heap.size) (d + 1) (.slice aa m ca) (.slice ak n ck) E) := hT
    have HI : Hid _ := ih
    have HD : Hid (E.kids.length = n) := hn
    have hu := Tryd.underlying25
    obtain ⟨c, hc0⟩ : ∃ c, (decide (L < E.depth) || E.wideB) = c := ⟨_, rfl⟩
    rw [hc0]
    have HC : Hid ((decide (L < E.depth) || E.wideB) = c ∧ E.count ≤ 1000000) := ⟨hc0, hcb⟩
    have hnb : n ≤ 1000000 := by have h1 := El.length_le_counts E.kids; have h2 := E.count_eq; omega
    clear ih hT hw0 hnm htx hn hm hc0 hcb
    cases L with
    | zero =>
      have HF : Hid (true = c) := by show _ = _; rw [← HC.out.1, decide_eq_true (by have := E.depth_pos; omega)]; rfl
      go_enter Tryd.func23, Tryd.ntmps23
      go_upto_region 1 with fail
      rw [HW0.out]
      go_wp2
      go_ret
      exact ⟨by rw [← HF.out]; rfl, A0.out⟩
    | succ L =>
      have hl0 : (((L : Int) + 1) == 0) = false := beq_eq_false_iff_ne.2 (by omega)
      by_cases h64 : 64 < n
      · have hd0 : decide ((64 : Int) < n) = true := decide_eq_true (by omega)
        have HF : Hid (true = c) := by show _ = _; rw [← HC.out.1, E.wideB_eq, HD.out, decide_eq_true h64]; simp
        clear h64
        go_enter Tryd.func23, Tryd.ntmps23
        go_upto_region 1 with fail
        rw [HW0.out]
        go_wp2
        go_ret
        exact ⟨by rw [← HF.out]; rfl, A0.out⟩
      · have hd0 : decide ((64 : Int) < n) = false := decide_eq_false (by omega)
        have HF0 : Hid ((decide (L + 1 < E.depth) || E.wideB) = (decide (L < El.depths E.kids) || El.wides E.kids)) := by
          show _ = _
          rw [E.wideB_eq, HD.out, decide_eq_false h64, Bool.false_or, E.depth_eq]
          congr 1
          exact decide_eq_decide.2 (by omega)
        clear h64
        go_enter Tryd.func23, Tryd.ntmps23
        go_upto_region 1 with fail
        rw [HW0.out]
        go_wp2
        go_loopg [18] n (fun g i wr => ∃ j : Nat, g + j = n ∧ i = .int .i64 j ∧ Hid (Below w.heap.size w wr ∧ El.wides (E.kids.take j) = false ∧ El.depths (E.kids.take j) ≤ L))
        case atStart => exact ⟨0, by omega, rfl, A0.out, rfl, by simp [El.depths]⟩
        case round =>
          obtain ⟨j, hj, rfl, HJ⟩ := hrel
          clear q2 N0
          by_cases hjn : j < n
          · have hd : decide ((j : Int) < n) = true := decide_eq_true (by omega)
            have hjk : j < E.kids.length := by rw [HD.out]; exact hjn
            obtain ⟨g, off, ua, uk, rfl, hg, p0, p1, p2, p3, p4⟩ := HT.out.kid j hjk
            obtain ⟨x, hx⟩ : ∃ x, E.kids[j] = x := ⟨_, rfl⟩
            rw [hx] at p0 p3 p4
            obtain ⟨xa, xc, xk, xd, rfl, rfl⟩ := p4.shape
            obtain ⟨xn, hxn⟩ : ∃ n, x.name = n := ⟨_, rfl⟩
            obtain ⟨xt, hxt⟩ : ∃ n, x.text = n := ⟨_, rfl⟩
            obtain ⟨xm, hxm⟩ : ∃ n, x.attrs.length = n := ⟨_, rfl⟩
            obtain ⟨xl, hxl⟩ : ∃ n, x.kids.length = n := ⟨_, rfl⟩
            rw [hxn] at p0
            rw [hxt] at p3
            rw [hxm] at p1 p4
            rw [hxl] at p2 p4
            have hc : ∀ o, wr.cell? ⟨g, o, none⟩ = w.cell? ⟨g, o, none⟩ := fun o => World.cell?_of_block (w := w) (HJ.out.1.block g hg)
            have k0 : wr.cell? ⟨g, off + j * 4, none⟩ = some (.string xn) := by rw [hc]; exact p0
            have k1 : wr.cell? ⟨g, off + j * 4 + 1, none⟩ = some (.slice xa xm xc) := by rw [hc]; exact p1
            have k2 : wr.cell? ⟨g, off + j * 4 + 2, none⟩ = some (.slice xk xl xd) := by rw [hc]; exact p2
            have k3 : wr.cell? ⟨g, off + j * 4 + 3, none⟩ = some (.string xt) := by rw [hc]; exact p3
            obtain ⟨wa, hwa⟩ : ∃ y, wr.alloc (.cells #[.string xn, .slice xa xm xc, .slice xk xl xd, .string xt] 25) = y := ⟨_, rfl⟩
            have hma : wa.heap[wr.heap.size]? = some (.cells #[.string xn, .slice xa xm xc, .slice xk xl xd, .string xt] 25 (0, 0)) := by rw [← hwa]; exact heap_alloc_new wr _
            have BA : Hid (Below w.heap.size w wa) := by show Below _ _ _; rw [← hwa]; exact HJ.out.1.alloc HJ.out.1.size _
            have hcall := HI.out x (.slice xa xm xc) (.slice xk xl xd) wa (p4.keep (fun k hk => BA.out.block k hk) fun k hk => Nat.lt_of_lt_of_le hk BA.out.size) L (by omega) (by have h1 := El.counts_get E.kids j hjk; rw [hx] at h1; have h2 := E.count_eq; have := HC.out; omega)
            rw [hxn, hxt] at hcall
            have HCL : Hid _ := hcall
            have HX : Hid (E.kids[j] = x) := hx
            have HWA : Hid _ := hwa
            have lg : g < wr.heap.size := Nat.lt_of_lt_of_le hg HJ.out.1.size
            clear hc p0 p1 p2 p3 p4 hx hxn hxt hxm hxl hcall hwa
            obtain ⟨xw, hxw⟩ : ∃ c, (decide (L < x.depth) || x.wideB) = c := ⟨_, rfl⟩
            rw [hxw] at HCL
            have HXW : Hid ((decide (L < x.depth) || x.wideB) = xw) := hxw
            clear hxw
            go_wp2_with (first | (refine wpList_load_row rfl 25 _ rfl _ rfl 25 _ (0, 0) _ hma hu rfl (by kernel_rfl) ?_) | fail)
            rw [HWA.out]
            refine Calls.mono HCL.out ?_
            rintro e W3 ⟨rfl, b3⟩
            have B3 : Hid (Below w.heap.size w W3) := BA.out.trans (b3.mono BA.out.size)
            clear b3 HCL HWA hma k0 k1 k2 k3
            cases xw
            · have hh := HXW.out
              simp only [Bool.or_eq_false_iff, decide_eq_false_iff_not] at hh
              have HH : Hid _ := hh
              clear hh
              go_wp2
              go_roundg (gk - 1)
              case measure => omega
              case rel => exact ⟨j + 1, by omega, by go_num, B3.out, by rw [El.wides_take _ _ hjk, HX.out, HH.out.2, HJ.out.2.1]; rfl, by rw [El.depths_take _ _ hjk, HX.out]; have := HJ.out.2.2; have := HH.out.1; omega⟩
            · have HF : Hid (true = c) := by
                show _ = _
                rw [← HC.out.1, HF0.out]
                have hh := HXW.out
                simp only [Bool.or_eq_true, decide_eq_true_eq] at hh
                symm
                simp only [Bool.or_eq_true, decide_eq_true_eq]
                rcases hh with hh | hh
                · left; have := El.depths_get E.kids j hjk; rw [HX.out] at this; omega
                · right; exact El.wides_true E.kids hjk (by rw [HX.out]; exact hh)
              go_wp2
              go_ret
              exact ⟨by rw [← HF.out]; rfl, B3.out⟩
          · have hd : decide ((j : Int) < n) = false := decide_eq_false (by omega)
            have hall : E.kids.take j = E.kids := List.take_of_length_le (by rw [HD.out]; omega)
            have HF : Hid (false = c) := by
              show _ = _
              have h2 := HJ.out.2
              rw [hall] at h2
              rw [← HC.out.1, HF0.out, h2.1, decide_eq_false (by omega)]
              rfl
            clear hall
            go_wp2
            go_ret
            exact ⟨by rw [← HF.out]; rfl, HJ.out.1⟩

set_option maxHeartbeats 4000000 in
set_option maxRecDepth 20000 in
theorem Tryd.rdepth_any : ∀ (d : Nat) (E : El) (va vk : Value) (w : World), El.Lies w (· < w.heap.size) d va vk E → E.count ≤ 1000000 →
    Calls Tryd.prog 21 #[.agg #[.string E.name, va, vk, .string E.text]] w fun e w' => e = .returned (.int .i64 E.depth) ∧ Below w.heap.size w w' := by
  intro d
  induction d with
  | zero => intro E va vk w hT; exact hT.elim
  | succ d ih =>
    intro E va vk w hT hcb
    obtain ⟨aa, ca, ak, ck, rfl, rfl⟩ := hT.shape
    obtain ⟨nm, hnm⟩ : ∃ x, E.name = x := ⟨_, rfl⟩
    obtain ⟨tx, htx⟩ : ∃ x, E.text = x := ⟨_, rfl⟩
    obtain ⟨n, hn⟩ : ∃ n, E.kids.length = n := ⟨_, rfl⟩
    obtain ⟨m, hm⟩ : ∃ n, E.attrs.length = n := ⟨_, rfl⟩
    rw [hnm, htx, hn, hm]
    rw [hn, hm] at hT
    obtain ⟨w0, hw0⟩ : ∃ x, w.alloc (.cells #[.string nm, .slice aa m ca, .slice ak n ck, .string tx] 39) = x := ⟨_, rfl⟩
    have A0 : Hid (Below w.heap.size w w0) := by show Below _ _ _; rw [← hw0]; exact (Below.refl _ w).alloc (Nat.le_refl _) _
    have N0 : w0.heap[w.heap.size]? = some (.cells #[.string nm, .slice aa m ca, .slice ak n ck, .string tx] 39 (0, 0)) := by rw [← hw0]; exact heap_alloc_new w _
    have q2 : w0.cell? ⟨w.heap.size, 2, none⟩ = some (.slice ak n ck) := by simp [World.cell?, N0]
    have HW0 : Hid (w.alloc (.cells #[.string nm, .slice aa m ca, .slice ak n ck, .string tx] 39) = w0) := hw0
    have HT : Hid (El.Lies w (· < w.heap.size) (d + 1) (.slice aa m ca) (.slice ak n ck) E) := hT
    have HI : Hid _ := ih
    have HD : Hid (E.kids.length = n) := hn
    have hu := Tryd.underlying39
    obtain ⟨c, hc0⟩ : ∃ c, E.depth = c := ⟨_, rfl⟩
    rw [hc0]
    have HC : Hid (E.depth = c ∧ E.count ≤ 1000000) := ⟨hc0, hcb⟩
    have hnb : n ≤ 1000000 := by have h1 := El.length_le_counts E.kids; have h2 := E.count_eq; omega
    clear ih hT hw0 hnm htx hn hm hc0 hcb
    go_enter Tryd.func21, Tryd.ntmps21
    go_upto_region 1 with fail
    rw [HW0.out]
    go_wp2
    go_loopg [3, 10] n (fun g u i wr => ∃ (j dj : Nat), g + j = n ∧ i = .int .i64 j ∧ u = .int .i64 dj ∧ dj ≤ 1000000 ∧ Hid (Below w.heap.size w wr ∧ El.depths (E.kids.take j) = dj))
    case atStart => exact ⟨0, 0, by omega, rfl, rfl, by omega, A0.out, rfl⟩
    case round =>
      obtain ⟨j, dj, hj, rfl, rfl, hdb, HJ⟩ := hrel
      clear q2 N0
      by_cases hjn : j < n
      · have hd : decide ((j : Int) < n) = true := decide_eq_true (by omega)
        have hjk : j < E.kids.length := by rw [HD.out]; exact hjn
        obtain ⟨g, off, ua, uk, rfl, hg, p0, p1, p2, p3, p4⟩ := HT.out.kid j hjk
        obtain ⟨x, hx⟩ : ∃ x, E.kids[j] = x := ⟨_, rfl⟩
        rw [hx] at p0 p3 p4
        obtain ⟨xa, xc, xk, xd, rfl, rfl⟩ := p4.shape
        obtain ⟨xn, hxn⟩ : ∃ n, x.name = n := ⟨_, rfl⟩
        obtain ⟨xt, hxt⟩ : ∃ n, x.text = n := ⟨_, rfl⟩
        obtain ⟨xm, hxm⟩ : ∃ n, x.attrs.length = n := ⟨_, rfl⟩
        obtain ⟨xl, hxl⟩ : ∃ n, x.kids.length = n := ⟨_, rfl⟩
        rw [hxn] at p0
        rw [hxt] at p3
        rw [hxm] at p1 p4
        rw [hxl] at p2 p4
        have hc : ∀ o, wr.cell? ⟨g, o, none⟩ = w.cell? ⟨g, o, none⟩ := fun o => World.cell?_of_block (w := w) (HJ.out.1.block g hg)
        have k0 : wr.cell? ⟨g, off + j * 4, none⟩ = some (.string xn) := by rw [hc]; exact p0
        have k1 : wr.cell? ⟨g, off + j * 4 + 1, none⟩ = some (.slice xa xm xc) := by rw [hc]; exact p1
        have k2 : wr.cell? ⟨g, off + j * 4 + 2, none⟩ = some (.slice xk xl xd) := by rw [hc]; exact p2
        have k3 : wr.cell? ⟨g, off + j * 4 + 3, none⟩ = some (.string xt) := by rw [hc]; exact p3
        obtain ⟨wa, hwa⟩ : ∃ y, wr.alloc (.cells #[.string xn, .slice xa xm xc, .slice xk xl xd, .string xt] 39) = y := ⟨_, rfl⟩
        have hma : wa.heap[wr.heap.size]? = some (.cells #[.string xn, .slice xa xm xc, .slice xk xl xd, .string xt] 39 (0, 0)) := by rw [← hwa]; exact heap_alloc_new wr _
        have BA : Hid (Below w.heap.size w wa) := by show Below _ _ _; rw [← hwa]; exact HJ.out.1.alloc HJ.out.1.size _
        have hcall := HI.out x (.slice xa xm xc) (.slice xk xl xd) wa (p4.keep (fun k hk => BA.out.block k hk) fun k hk => Nat.lt_of_lt_of_le hk BA.out.size) (by have h1 := El.counts_get E.kids j hjk; rw [hx] at h1; have h2 := E.count_eq; have := HC.out; omega)
        rw [hxn, hxt] at hcall
        have HCL : Hid _ := hcall
        have HX : Hid (E.kids[j] = x) := hx
        have HWA : Hid _ := hwa
        have lg : g < wr.heap.size := Nat.lt_of_lt_of_le hg HJ.out.1.size
        clear hc p0 p1 p2 p3 p4 hx hxn hxt hxm hxl hcall hwa
        obtain ⟨xw, hxw⟩ : ∃ c, x.depth = c := ⟨_, rfl⟩
        rw [hxw] at HCL
        have HS : Hid (El.depths (E.kids.take (j + 1)) = max dj xw) := by show _ = _; rw [El.depths_take _ _ hjk, HX.out, hxw, HJ.out.2]
        have hxb : xw ≤ 1000000 := by
          have h1 := El.counts_get E.kids j hjk
          rw [HX.out] at h1
          have h2 := E.count_eq
          have h3 := El.depth_le_count x
          have := HC.out
          omega
        clear hxw
        go_wp2_with (first | (refine wpList_load_row rfl 39 _ rfl _ rfl 39 _ (0, 0) _ hma hu rfl (by kernel_rfl) ?_) | fail)
        rw [HWA.out]
        refine Calls.mono HCL.out ?_
        rintro e W3 ⟨rfl, b3⟩
        have B3 : Hid (Below w.heap.size w W3) := BA.out.trans (b3.mono BA.out.size)
        clear b3 HCL HWA hma k0 k1 k2 k3
        by_cases hgt : dj < xw
        · have HG : Hid (max dj xw = xw) := by show _ = _; omega
          go_wp2
          go_roundg (gk - 1)
          case measure => omega
          case rel => exact ⟨j + 1, xw, by omega, by go_num, rfl, hxb, B3.out, by rw [HS.out, HG.out]⟩
        · have HG : Hid (max dj xw = dj) := by show _ = _; omega
          go_wp2
          go_roundg (gk - 1)
          case measure => omega
          case rel => exact ⟨j + 1, dj, by omega, by go_num, rfl, hdb, B3.out, by rw [HS.out, HG.out]⟩
      · have hd : decide ((j : Int) < n) = false := decide_eq_false (by omega)
        have hall : E.kids.take j = E.kids := List.take_of_length_le (by rw [HD.out]; omega)
        have HF : Hid (((dj : Int) + 1) = (c : Int)) := by show _ = _; rw [← HC.out.1, E.depth_eq, ← HJ.out.2, hall]; rfl
        clear hall
        go_wp2
        go_ret
        exact ⟨by rw [← HF.out]; rfl, HJ.out.1⟩

set_option maxHeartbeats 4000000 in
set_option maxRecDepth 20000 in
theorem Tryd.depth_any : ∀ (d : Nat) (E : El) (va vk : Value) (w : World), El.Lies w (· < w.heap.size) d va vk E → ∀ L : Nat, L ≤ 1000 → E.depth ≤ L → E.count ≤ 1000000 →
    Calls Tryd.prog 37 #[.agg #[.string E.name, va, vk, .string E.text], .int .i64 L] w fun e w' => e = .returned (.int .i64 E.depth) ∧ Below w.heap.size w w' := by
  intro d
  induction d with
  | zero => intro E va vk w hT; exact hT.elim
  | succ d ih =>
    intro E va vk w hT L hL hdp hcb
    obtain ⟨aa, ca, ak, ck, rfl, rfl⟩ := hT.shape
    obtain ⟨nm, hnm⟩ : ∃ x, E.name = x := ⟨_, rfl⟩
    obtain ⟨tx, htx⟩ : ∃ x, E.text = x := ⟨_, rfl⟩
    obtain ⟨n, hn⟩ : ∃ n, E.kids.length = n := ⟨_, rfl⟩
    obtain ⟨m, hm⟩ : ∃ n, E.attrs.length = n := ⟨_, rfl⟩
    rw [hnm, htx, hn, hm]
    rw [hn, hm] at hT
    obtain ⟨w0, hw0⟩ : ∃ x, w.alloc (.cells #[.string nm, .slice aa m ca, .slice ak n ck, .string tx] 25) = x := ⟨_, rfl⟩
    have A0 : Hid (Below w.heap.size w w0) := by show Below _ _ _; rw [← hw0]; exact (Below.refl _ w).alloc (Nat.le_refl _) _
    have N0 : w0.heap[w.heap.size]? = some (.cells #[.string nm, .slice aa m ca, .slice ak n ck, .string tx] 25 (0, 0)) := by rw [← hw0]; exact heap_alloc_new w _
    have q2 : w0.cell? ⟨w.heap.size, 2, none⟩ = some (.slice ak n ck) := by simp [World.cell?, N0]
    have HW0 : Hid (w.alloc (.cells #[.string nm, .slice aa m ca, .slice ak n ck, .string tx] 25) = w0) := hw0
    have HT : Hid (El.Lies w (· < w.heap.size) (d + 1) (.slice aa m ca) (.slice ak n ck) E) := hT
    have HI : Hid _ := ih
    have HD : Hid (E.kids.length = n) := hn
    have hu := Tryd.underlying25
    obtain ⟨c, hc0⟩ : ∃ c, E.depth = c := ⟨_, rfl⟩
    rw [hc0]
    have HC : Hid (E.depth = c ∧ E.count ≤ 1000000 ∧ E.depth ≤ L) := ⟨hc0, hcb, hdp⟩
    have hnb : n ≤ 1000000 := by have h1 := El.length_le_counts E.kids; have h2 := E.count_eq; omega
    have hL1 : 1 ≤ L := by have := E.depth_pos; omega
    clear ih hT hw0 hnm htx hn hm hc0 hcb hdp
    go_enter Tryd.func37, Tryd.ntmps37
    go_upto_region 1 with fail
    rw [HW0.out]
    go_wp2
    go_loopg [5, 11] n (fun g u i wr => ∃ (j dj : Nat), g + j = n ∧ i = .int .i64 j ∧ u = .int .i64 dj ∧ dj ≤ 1000000 ∧ Hid (Below w.heap.size w wr ∧ El.depths (E.kids.take j) = dj))
    case atStart => exact ⟨0, 0, by omega, rfl, rfl, by omega, A0.out, rfl⟩
    case round =>
      obtain ⟨j, dj, hj, rfl, rfl, hdb, HJ⟩ := hrel
      clear q2 N0
      by_cases hjn : j < n
      · have hd : decide ((j : Int) < n) = true := decide_eq_true (by omega)
        have hjk : j < E.kids.length := by rw [HD.out]; exact hjn
        obtain ⟨g, off, ua, uk, rfl, hg, p0, p1, p2, p3, p4⟩ := HT.out.kid j hjk
        obtain ⟨x, hx⟩ : ∃ x, E.kids[j] = x := ⟨_, rfl⟩
        rw [hx] at p0 p3 p4
        obtain ⟨xa, xc, xk, xd, rfl, rfl⟩ := p4.shape
        obtain ⟨xn, hxn⟩ : ∃ n, x.name = n := ⟨_, rfl⟩
        obtain ⟨xt, hxt⟩ : ∃ n, x.text = n := ⟨_, rfl⟩
        obtain ⟨xm, hxm⟩ : ∃ n, x.attrs.length = n := ⟨_, rfl⟩
        obtain ⟨xl, hxl⟩ : ∃ n, x.kids.length = n := ⟨_, rfl⟩
        rw [hxn] at p0
        rw [hxt] at p3
        rw [hxm] at p1 p4
        rw [hxl] at p2 p4
        have hc : ∀ o, wr.cell? ⟨g, o, none⟩ = w.cell? ⟨g, o, none⟩ := fun o => World.cell?_of_block (w := w) (HJ.out.1.block g hg)
        have k0 : wr.cell? ⟨g, off + j * 4, none⟩ = some (.string xn) := by rw [hc]; exact p0
        have k1 : wr.cell? ⟨g, off + j * 4 + 1, none⟩ = some (.slice xa xm xc) := by rw [hc]; exact p1
        have k2 : wr.cell? ⟨g, off + j * 4 + 2, none⟩ = some (.slice xk xl xd) := by rw [hc]; exact p2
        have k3 : wr.cell? ⟨g, off + j * 4 + 3, none⟩ = some (.string xt) := by rw [hc]; exact p3
        obtain ⟨wa, hwa⟩ : ∃ y, wr.alloc (.cells #[.string xn, .slice xa xm xc, .slice xk xl xd, .string xt] 25) = y := ⟨_, rfl⟩
        have hma : wa.heap[wr.heap.size]? = some (.cells #[.string xn, .slice xa xm xc, .slice xk xl xd, .string xt] 25 (0, 0)) := by rw [← hwa]; exact heap_alloc_new wr _
        have BA : Hid (Below w.heap.size w wa) := by show Below _ _ _; rw [← hwa]; exact HJ.out.1.alloc HJ.out.1.size _
        have hcall := HI.out x (.slice xa xm xc) (.slice xk xl xd) wa (p4.keep (fun k hk => BA.out.block k hk) fun k hk => Nat.lt_of_lt_of_le hk BA.out.size) (L - 1) (by omega) (by have h1 := El.depths_get E.kids j hjk; rw [hx] at h1; have h2 := E.depth_eq; have := HC.out; omega) (by have h1 := El.counts_get E.kids j hjk; rw [hx] at h1; have h2 := E.count_eq; have := HC.out; omega)
        rw [hxn, hxt] at hcall
        have HCL : Hid _ := hcall
        have HX : Hid (E.kids[j] = x) := hx
        have HWA : Hid _ := hwa
        have lg : g < wr.heap.size := Nat.lt_of_lt_of_le hg HJ.out.1.size
        clear hc p0 p1 p2 p3 p4 hx hxn hxt hxm hxl hcall hwa
        rw [show ((L - 1 : Nat) : Int) = (L : Int) - 1 by omega] at HCL
        obtain ⟨xw, hxw⟩ : ∃ c, x.depth = c := ⟨_, rfl⟩
        rw [hxw] at HCL
        have HS : Hid (El.depths (E.kids.take (j + 1)) = max dj xw) := by show _ = _; rw [El.depths_take _ _ hjk, HX.out, hxw, HJ.out.2]
        have hxb : xw ≤ 1000 := by
          have h1 := El.depths_get E.kids j hjk
          rw [HX.out] at h1
          have h2 := E.depth_eq
          have := HC.out
          omega
        clear hxw
        by_cases hful : dj = L - 1
        · have hd2 : ((dj : Int) == (L : Int) - 1) = true := beq_iff_eq.2 (by omega)
          have HF : Hid (((dj : Int) + 1) = (c : Int)) := by
            show _ = _
            have h1 := HJ.out.2
            have h2 := E.depth_eq
            have h3 : El.depths (E.kids.take j) ≤ El.depths E.kids := by
              have h4 : ∀ (l : List El) (k : Nat), El.depths (l.take k) ≤ El.depths l := by
                intro l
                induction l with
                | nil => simp [El.depths]
                | cons a r ih =>
                  intro k
                  cases k with
                  | zero => simp [El.depths]
                  | succ k => simp only [List.take_succ_cons, El.depths]; have := ih k; omega
              exact h4 _ _
            have := HC.out
            omega
          have BB : Hid (Below w.heap.size w (wr.alloc (.cells #[.string xn, .slice xa xm xc, .slice xk xl xd, .string xt] 25))) := HJ.out.1.alloc HJ.out.1.size _
          clear hful HCL HWA hma
          go_wp2
          go_ret
          exact ⟨by rw [← HF.out]; rfl, BB.out⟩
        · have hd2 : ((dj : Int) == (L : Int) - 1) = false := beq_eq_false_iff_ne.2 (by omega)
          clear hful
          go_wp2_with (first | (refine wpList_load_row rfl 25 _ rfl _ rfl 25 _ (0, 0) _ hma hu rfl (by kernel_rfl) ?_) | fail)
          rw [HWA.out]
          refine Calls.mono HCL.out ?_
          rintro e W3 ⟨rfl, b3⟩
          have B3 : Hid (Below w.heap.size w W3) := BA.out.trans (b3.mono BA.out.size)
          clear b3 HCL HWA hma k0 k1 k2 k3
          go_wp2
          go_roundg (gk - 1)
          case measure => omega
          case rel => exact ⟨j + 1, max dj xw, by omega, by go_num, by go_num, by omega, B3.out, HS.out⟩
      · have hd : decide ((j : Int) < n) = false := decide_eq_false (by omega)
        have hall : E.kids.take j = E.kids := List.take_of_length_le (by rw [HD.out]; omega)
        have HF : Hid (((dj : Int) + 1) = (c : Int)) := by show _ = _; rw [← HC.out.1, E.depth_eq, ← HJ.out.2, hall]; rfl
        clear hall
        go_wp2
        go_ret
        exact ⟨by rw [← HF.out]; rfl, HJ.out.1⟩

end Go.Proofs
