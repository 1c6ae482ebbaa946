/-
  block.holds: which kids a block may have.
-/
import Derived.Test.YtemccpfgkbhahaaGreatDoorBlModel
import Derived.Lib.Hide
import Derived.Shelf.Abstract
import Derived.Deep.DeepCutAuto
namespace Go.Proofs
open Go.RowKit Go.Shelf

/-- May a kid of kind x not lie in a block of kind o? -/
def Bl.badKid (o x : Int) : Bool := if x = 9 ∨ x = 10 then true else if x = 8 then decide (o ≠ 9) else if x = 3 then decide (o = 3) else false
def Bl.holdsB (T : Bl) : Bool := !T.ks.any fun x => Bl.badKid T.kind x.kind

set_option maxRecDepth 20000 in
set_option maxHeartbeats 2000000 in
theorem Tryz.badKid_any (o k n r : Int) (a : Option Addr) (len c : Nat) (al : Option Addr) (nl cl b : Nat) (w : World) (h : w.cell? ⟨b, 0, none⟩ = some (.int .i64 o)) (hb : b < w.heap.size) :
    Calls Tryz.prog 64 #[.agg #[.int .i64 k, .int .i64 n, .int .i64 r, .slice a len c, .slice al nl cl], .pointer (some ⟨b, 0, none⟩)] w fun e w' => e = .returned (.bool (Bl.badKid o k)) ∧ Below w.heap.size w w' := by
  have A0 : Below w.heap.size w (w.alloc (.cells #[.int .i64 k, .int .i64 n, .int .i64 r, .slice a len c, .slice al nl cl] 29)) := (Below.refl _ w).alloc (Nat.le_refl _) _
  have c0 : (w.alloc (.cells #[.int .i64 k, .int .i64 n, .int .i64 r, .slice a len c, .slice al nl cl] 29)).cell? ⟨b, 0, none⟩ = some (.int .i64 o) := by rw [A0.cell (p := ⟨b, 0, none⟩) hb]; exact h
  have B0 : Hid (Below w.heap.size w (w.alloc (.cells #[.int .i64 k, .int .i64 n, .int .i64 r, .slice a len c, .slice al nl cl] 29))) := A0
  obtain ⟨q, hq⟩ : ∃ q, Bl.badKid o k = q := ⟨_, rfl⟩
  have HQ : Hid (Bl.badKid o k = q) := hq
  rw [hq]
  clear h hb A0 hq
  by_cases h9 : k = 9
  · have HX : Hid (q = true) := by show _ = _; rw [← HQ.out, Bl.badKid, if_pos (.inl h9)]
    subst h9
    go_enter Tryz.func64, Tryz.ntmps64
    go_wp2
    go_ret
    exact ⟨by rw [HX.out]; rfl, B0.out⟩
  · have e9 : (k == 9) = false := by simpa using h9
    by_cases h10 : k = 10
    · have HX : Hid (q = true) := by show _ = _; rw [← HQ.out, Bl.badKid, if_pos (.inr h10)]
      subst h10
      go_enter Tryz.func64, Tryz.ntmps64
      go_wp2
      go_ret
      exact ⟨by rw [HX.out]; rfl, B0.out⟩
    · have e10 : (k == 10) = false := by simpa using h10
      by_cases h8 : k = 8
      · have HX : Hid (q = (o != 9)) := by
          show _ = _
          rw [← HQ.out, Bl.badKid, if_neg (by omega), if_pos h8]
          by_cases ho : o = 9 <;> simp [ho]
        subst h8
        obtain ⟨z, hz⟩ : ∃ z, (o != 9) = z := ⟨_, rfl⟩
        have HZ : Hid ((o != 9) = z) := hz
        clear h9 h10 e9 e10
        go_enter Tryz.func64, Tryz.ntmps64
        go_wp2
        go_ret
        exact ⟨by rw [HX.out]; first | rfl | (rw [HZ.out]; rfl), B0.out⟩
      · have e8 : (k == 8) = false := by simpa using h8
        by_cases h3 : k = 3
        · have HX : Hid (q = (o == 3)) := by
            show _ = _
            rw [← HQ.out, Bl.badKid, if_neg (by omega), if_neg h8, if_pos h3]
            by_cases ho : o = 3 <;> simp [ho]
          subst h3
          obtain ⟨z, hz⟩ : ∃ z, (o == 3) = z := ⟨_, rfl⟩
          have HZ : Hid ((o == 3) = z) := hz
          clear h9 h10 e9 e10 h8 e8
          go_enter Tryz.func64, Tryz.ntmps64
          go_wp2
          go_ret
          exact ⟨by rw [HX.out]; first | rfl | (rw [HZ.out]; rfl), B0.out⟩
        · have e3 : (k == 3) = false := by simpa using h3
          have HX : Hid (q = false) := by show _ = _; rw [← HQ.out, Bl.badKid, if_neg (by omega), if_neg h8, if_neg h3]
          clear h9 h10 h8 h3
          go_enter Tryz.func64, Tryz.ntmps64
          go_wp2
          go_ret
          exact ⟨by rw [HX.out]; rfl, B0.out⟩

set_option maxRecDepth 20000 in
set_option maxHeartbeats 4000000 in
theorem Tryz.badIndex_any (o : Int) (b d B : Nat) (T : Bl) (a : Option Addr) (n c : Nat) (lv : Value) (w : World) (hT : Bl.Lies w B (d + 1) (.slice a n c) lv T) (hn : T.ks.length = n) (hB : B ≤ w.heap.size) (h0 : w.cell? ⟨b, 0, none⟩ = some (.int .i64 o)) (hb : b < w.heap.size) (hs : n ≤ 2147483647) :
    Calls Tryz.prog 80 #[.slice a n c, .func (.func 64) #[] #[.pointer (some ⟨b, 0, none⟩)]] w fun e w' => (∃ k : Int, e = .returned (.int .i64 k) ∧ decide (0 ≤ k) = T.ks.any fun x => Bl.badKid o x.kind) ∧ Below w.heap.size w w' := by
  have HT : Hid (Bl.Lies w B (d + 1) (.slice a n c) lv T ∧ T.ks.length = n ∧ B ≤ w.heap.size ∧ w.cell? ⟨b, 0, none⟩ = some (.int .i64 o) ∧ b < w.heap.size) := ⟨hT, hn, hB, h0, hb⟩
  clear hT hn hB h0 hb
  go_enter Tryz.func80, Tryz.ntmps80
  go_wp2
  go_loopg [5, 8] n (fun gk _ s8 wr => ∃ k : Nat, gk + k = n ∧ s8 = .int .i64 k ∧ Hid (Below w.heap.size w wr ∧ ((T.ks.take k).any fun x => Bl.badKid o x.kind) = false))
  case atStart => exact ⟨0, by omega, rfl, Below.refl _ w, by simp⟩
  case round =>
    obtain ⟨k, hk, rfl, HB⟩ := hrel
    by_cases hlt : k < n
    · have hd : decide ((k : Int) < n) = true := decide_eq_true (by omega)
      have hkl : k < T.ks.length := by rw [HT.out.2.1]; exact hlt
      obtain ⟨q, off, u, lu, rfl, hq, q0, q1, q2, q3, q4, q5⟩ := HT.out.1.kid k hkl
      obtain ⟨au, cu, rfl⟩ := q5.shape
      obtain ⟨bu, du, rfl⟩ := q5.links.shape
      obtain ⟨x, hx⟩ : ∃ x, T.ks[k] = x := ⟨_, rfl⟩
      rw [hx] at q0 q1 q2 q3 q4 q5
      obtain ⟨mx, hmx⟩ : ∃ n, x.ls.length = n := ⟨_, rfl⟩
      obtain ⟨nx, hnx⟩ : ∃ n, x.ks.length = n := ⟨_, rfl⟩
      obtain ⟨y0, hy0⟩ : ∃ y, x.kind = y := ⟨_, rfl⟩
      obtain ⟨y1, hy1⟩ : ∃ y, x.node = y := ⟨_, rfl⟩
      obtain ⟨y2, hy2⟩ : ∃ y, x.arg = y := ⟨_, rfl⟩
      rw [hy0] at q0
      rw [hy1] at q1
      rw [hy2] at q2
      rw [hnx] at q3
      rw [hmx] at q4
      have hqs : q < w.heap.size := by have := HT.out.2.2.1; omega
      have hc : ∀ p, wr.cell? ⟨q, p, none⟩ = w.cell? ⟨q, p, none⟩ := fun p => HB.out.1.cell (p := ⟨q, p, none⟩) hqs
      have hc0 : wr.cell? ⟨q, off + k * 5, none⟩ = some (.int .i64 y0) := by rw [hc]; exact q0
      have hc1 : wr.cell? ⟨q, off + k * 5 + 1, none⟩ = some (.int .i64 y1) := by rw [hc]; exact q1
      have hc2 : wr.cell? ⟨q, off + k * 5 + 2, none⟩ = some (.int .i64 y2) := by rw [hc]; exact q2
      have hc3 : wr.cell? ⟨q, off + k * 5 + 3, none⟩ = some (.slice au nx cu) := by rw [hc]; exact q3
      have hc4 : wr.cell? ⟨q, off + k * 5 + 4, none⟩ = some (.slice bu mx du) := by rw [hc]; exact q4
      have HX : Hid (T.ks[k] = x ∧ x.kind = y0) := ⟨hx, hy0⟩
      have hcall := Tryz.badKid_any o y0 y1 y2 au nx cu bu mx du b wr (by rw [HB.out.1.cell (p := ⟨b, 0, none⟩) HT.out.2.2.2.2]; exact HT.out.2.2.2.1) (Nat.lt_of_lt_of_le HT.out.2.2.2.2 HB.out.1.size)
      have hu := Tryz.underlying29
      clear q0 q1 q2 q3 q4 q5 hx hy0 hy1 hy2 hnx hmx hq hqs hc
      cases hq : Bl.badKid o y0 with
      | true =>
        rw [hq] at hcall
        have HQ : Hid (Bl.badKid o y0 = true) := hq
        have HC : Hid _ := hcall
        clear hq hcall
        go_wp2_with fail
        refine Calls.mono HC.out ?_
        rintro e w' ⟨rfl, hb'⟩
        have HW : Hid (Below w.heap.size w w') := HB.out.1.trans (hb'.mono HB.out.1.size)
        clear hb' HC
        go_wp2
        go_ret
        refine ⟨⟨k, rfl, ?_⟩, HW.out⟩
        rw [decide_eq_true (by omega)]
        exact (List.any_eq_true.2 ⟨T.ks[k], List.getElem_mem hkl, by rw [HX.out.1, HX.out.2]; exact HQ.out⟩).symm
      | false =>
        rw [hq] at hcall
        have HQ : Hid (Bl.badKid o y0 = false) := hq
        have HC : Hid _ := hcall
        clear hq hcall
        go_wp2_with fail
        refine Calls.mono HC.out ?_
        rintro e w' ⟨rfl, hb'⟩
        have HW : Hid (Below w.heap.size w w') := HB.out.1.trans (hb'.mono HB.out.1.size)
        clear hb' HC
        go_wp2
        go_roundg (gk - 1)
        case measure => omega
        case rel =>
          refine ⟨k + 1, by omega, by go_num, HW.out, ?_⟩
          rw [Bl.take_snoc _ _ hkl, List.any_append, HB.out.2, HX.out.1]
          simp [HX.out.2, HQ.out]
    · have hd : decide ((k : Int) < n) = false := decide_eq_false (by omega)
      have hall : T.ks.take k = T.ks := List.take_of_length_le (by rw [HT.out.2.1]; omega)
      go_wp2
      go_ret
      have h := HB.out
      rw [hall] at h
      exact ⟨⟨-1, rfl, by rw [h.2]; rfl⟩, h.1⟩

set_option maxRecDepth 20000 in
set_option maxHeartbeats 4000000 in
theorem Tryz.bholds_any (d B : Nat) (T : Bl) (v lv : Value) (w : World) (hT : Bl.Lies w B d v lv T) (hB : B ≤ w.heap.size) (hs : T.ks.length ≤ 2147483647) :
    Calls Tryz.prog 47 #[.agg #[.int .i64 T.kind, .int .i64 T.node, .int .i64 T.arg, v, lv]] w fun e w' => e = .returned (.bool T.holdsB) ∧ Below w.heap.size w w' := by
  cases d with
  | zero => exact hT.elim
  | succ d =>
  obtain ⟨a, c, rfl⟩ := hT.shape
  obtain ⟨al, cl, rfl⟩ := hT.links.shape
  obtain ⟨o, ho⟩ : ∃ o, T.kind = o := ⟨_, rfl⟩
  obtain ⟨m, hm⟩ : ∃ m, T.node = m := ⟨_, rfl⟩
  obtain ⟨r, hr⟩ : ∃ m, T.arg = m := ⟨_, rfl⟩
  obtain ⟨n, hn⟩ : ∃ n, T.ks.length = n := ⟨_, rfl⟩
  obtain ⟨nl, hnl⟩ : ∃ n, T.ls.length = n := ⟨_, rfl⟩
  obtain ⟨q, hq⟩ : ∃ q, (T.ks.any fun x => Bl.badKid o x.kind) = q := ⟨_, rfl⟩
  rw [Bl.holdsB, ho, hm, hr, hn, hnl, hq]
  rw [hn, hnl] at hT
  obtain ⟨W0, hW0⟩ : ∃ z, w.alloc (.cells #[.int .i64 o, .int .i64 m, .int .i64 r, .slice a n c, .slice al nl cl] 29) = z := ⟨_, rfl⟩
  have A0 : Below w.heap.size w W0 := by rw [← hW0]; exact (Below.refl _ w).alloc (Nat.le_refl _) _
  have G0 : W0.heap[w.heap.size]? = some (.cells #[.int .i64 o, .int .i64 m, .int .i64 r, .slice a n c, .slice al nl cl] 29 (0, 0)) := by rw [← hW0]; exact heap_alloc_new w _
  have c0 : W0.cell? ⟨w.heap.size, 0, none⟩ = some (.int .i64 o) := by simp [World.cell?, G0]
  have c3 : W0.cell? ⟨w.heap.size, 3, none⟩ = some (.slice a n c) := by simp [World.cell?, G0]
  have hI := Tryz.badIndex_any o w.heap.size d B T a n c (.slice al nl cl) W0 (hT.below (A0.mono hB)) hn (Nat.le_trans hB A0.size) c0 (Array.getElem?_eq_some_iff.1 G0).1 (by omega)
  rw [hq] at hI
  have HI : Hid _ := hI
  have HA : Hid (Below w.heap.size w W0) := A0
  have HW0 : Hid _ := hW0
  have CC : Hid (Calls Tryz.prog 63 #[.slice a n c, .func (.func 64) #[] #[.pointer (some ⟨w.heap.size, 0, none⟩)]] W0 fun e w' => e = .returned (.bool q) ∧ Hid (Below W0.heap.size W0 w')) := by
    show Calls _ _ _ _ _
    clear hI hT hn hq ho hm hr hnl hW0 G0 c0 c3 hs
    go_enter Tryz.func63, Tryz.ntmps63
    go_wp2_with fail
    refine Calls.mono HI.out ?_
    rintro e W1 ⟨⟨k, rfl, hk⟩, hb⟩
    have HB : Hid (Below W0.heap.size W0 W1) := hb
    have HK : Hid (decide (0 ≤ k) = q) := hk
    clear hb hk HI
    go_wp2
    go_ret
    exact ⟨Tk.ret_bool HK.out, HB.out⟩
  clear hI hT hn hq ho hm hr hnl hW0 G0 A0 hs HI
  go_enter Tryz.func47, Tryz.ntmps47
  go_upto_region 1 with fail
  rw [HW0.out]
  go_wp2_with fail
  refine Calls.mono CC.out ?_
  rintro e W1 ⟨rfl, hb⟩
  have HF : Hid (Below w.heap.size w W1) := HA.out.trans (hb.out.mono HA.out.size)
  clear CC hb
  cases q
  all_goals
    go_wp2
    go_ret
    exact ⟨rfl, HF.out⟩

end Go.Proofs
