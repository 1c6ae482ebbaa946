/-
  The walk of TermLooks: what Vars, Same and Size tell.
-/
import Derived.Test.YtegcepenpchonaaDoorTLess
import Derived.Test.YtegcepenpchonaaDoorTLarge3
import Derived.Test.YtegcepenpchonaaDoorTPlainA
import Derived.Test.YtegcepenpchonaaDoorTRefSize
import Derived.Test.YtegcepenpchonaaDoorTRefHas
import Derived.Test.YtegcepenpchonaaDoorTVarsU
import Derived.Test.YtegcepenpchonaaDoorNsSame3
namespace Go.Proofs
open Go.RowKit Go.Shelf

/-- Numbers in a row below B. -/
def Tk.Ints (w : World) (B : Nat) (a : Option Addr) (l : List Int) : Prop := ∀ j (h : j < l.length), ∃ g, a = some ⟨g, 0, none⟩ ∧ g < B ∧ w.cell? ⟨g, j, none⟩ = some (.int .i64 l[j])
theorem Tk.ints_of {w : World} {base : Nat} {e : TypeId} {v : Value} {l : List Int} (h : w.ownsRow base e 1 v l.length (l.map encZ)) : ∃ a cap, v = .slice a l.length cap ∧ Tk.Ints w w.heap.size a l := by
  rcases h.2 with ⟨h1, h2⟩ | ⟨g, cap, cur, hv, _, hg, _⟩
  · exact ⟨none, 0, by rw [h1, h2], fun j hj => by omega⟩
  · subst hv
    refine ⟨_, _, rfl, fun j hj => ⟨g, rfl, (Array.getElem?_eq_some_iff.1 hg).1, ?_⟩⟩
    rw [h.cellAt j (by omega)]
    simp [hj, encZ]

end Go.Proofs
namespace Go.Proofs.YtegcepenpchonaaDoor.TermLooks
open Go.RowKit Go.Shelf

set_option maxHeartbeats 16000000 in
set_option maxRecDepth 20000 in
theorem walk (d d' : Nat) (S T : Tm) (u v : Value) (w : World) (hS : Tm.Lies w w.heap.size d u S) (hT : Tm.Lies w w.heap.size d' v T) (hwf : S.wfT) (hO : Tk.Ops w) (hTB : Lib.TabBelow Tryd.prog w.heap.size w "internal/strconv.uint64pow10" .u64 Lib.pow10Tab) :
    Calls Tryd.prog 7 #[.agg #[.int .i64 S.op, .int .i64 S.num, u], .agg #[.int .i64 T.op, .int .i64 T.num, v]] w fun e w' => e = .returned (.bool true) ∧ Below w.heap.size w w' := by
  obtain ⟨a, ca, rfl⟩ := hS.shape
  obtain ⟨b, cb, rfl⟩ := hT.shape
  obtain ⟨x0, hx0⟩ : ∃ z, S.op = z := ⟨_, rfl⟩
  obtain ⟨x1, hx1⟩ : ∃ z, S.num = z := ⟨_, rfl⟩
  obtain ⟨y0, hy0⟩ : ∃ z, T.op = z := ⟨_, rfl⟩
  obtain ⟨y1, hy1⟩ : ∃ z, T.num = z := ⟨_, rfl⟩
  obtain ⟨n, hn⟩ : ∃ n, S.ks.length = n := ⟨_, rfl⟩
  obtain ⟨m, hm⟩ : ∃ n, T.ks.length = n := ⟨_, rfl⟩
  rw [hx0, hx1, hy0, hy1, hn, hm]
  rw [hn] at hS
  rw [hm] at hT
  have h0 : 0 < w.heap.size := hO.lt
  obtain ⟨w2, hw2⟩ : ∃ x, (w.alloc (.cells #[.int .i64 x0, .int .i64 x1, .slice a n ca] 24)).alloc (.cells #[.int .i64 y0, .int .i64 y1, .slice b m cb] 24) = x := ⟨_, rfl⟩
  have hs2 : w2.heap.size = w.heap.size + 2 := by rw [← hw2]; simp
  have A2 : Below w.heap.size w w2 := by rw [← hw2]; exact ((Below.refl _ w).alloc (Nat.le_refl _) _).alloc (by simp) _
  have C0 : w2.heap[w.heap.size]? = some (.cells #[.int .i64 x0, .int .i64 x1, .slice a n ca] 24 (0, 0)) := by rw [← hw2, Below.heap_alloc _ _ _ (by simp)]; exact heap_alloc_new w _
  have C1 : w2.heap[w.heap.size + 1]? = some (.cells #[.int .i64 y0, .int .i64 y1, .slice b m cb] 24 (0, 0)) := by
    rw [← hw2]
    have := heap_alloc_new (w.alloc (.cells #[.int .i64 x0, .int .i64 x1, .slice a n ca] 24)) (.cells #[.int .i64 y0, .int .i64 y1, .slice b m cb] 24)
    simpa using this
  have CF : Hid (∀ W, Below w2.heap.size w2 W → W.cell? ⟨w.heap.size, 0, none⟩ = some (.int .i64 x0) ∧ W.cell? ⟨w.heap.size, 1, none⟩ = some (.int .i64 x1) ∧ W.cell? ⟨w.heap.size, 2, none⟩ = some (.slice a n ca) ∧ W.cell? ⟨w.heap.size + 1, 0, none⟩ = some (.int .i64 y0) ∧ W.cell? ⟨w.heap.size + 1, 1, none⟩ = some (.int .i64 y1) ∧ W.cell? ⟨w.heap.size + 1, 2, none⟩ = some (.slice b m cb)) := fun W hb => by
    have e1 := (hb.block w.heap.size (by omega)).trans C0
    have e2 := (hb.block (w.heap.size + 1) (by omega)).trans C1
    exact ⟨by simp [World.cell?, e1], by simp [World.cell?, e1], by simp [World.cell?, e1], by simp [World.cell?, e2], by simp [World.cell?, e2], by simp [World.cell?, e2]⟩
  have BW : Hid (∀ W, Below w2.heap.size w2 W → Below w.heap.size w W ∧ w.heap.size + 2 ≤ W.heap.size) := fun W hb => ⟨A2.trans (hb.mono (by omega)), by have := hb.size; omega⟩
  have LS : Hid (∀ W, Below w2.heap.size w2 W → Tm.Lies W W.heap.size d (.slice a n ca) S) := fun W hb => (hS.below (BW.out W hb).1).wider (BW.out W hb).1.size
  have LT : Hid (∀ W, Below w2.heap.size w2 W → Tm.Lies W W.heap.size d' (.slice b m cb) T) := fun W hb => (hT.below (BW.out W hb).1).wider (BW.out W hb).1.size
  have HH : Hid (∀ W, Below w2.heap.size w2 W → Calls Tryd.prog 9 #[] W fun e w' => e = .returned (.bool true) ∧ Hid (Below w2.heap.size w2 w')) := fun W hW => (Tryd.less_any W (hO.below (BW.out W hW).1 hO.lt) (Lib.tabBelow_of_tabIs (hTB W (BW.out W hW).1))).mono fun e w' ⟨he, hb⟩ => ⟨he, hW.trans (hb.mono hW.size)⟩
  have L1 : Hid (∀ W, Below w2.heap.size w2 W → Calls Tryd.prog 8 #[.agg #[.int .i64 x0, .int .i64 x1, .slice a n ca], .pointer (some ⟨W.heap.size, 0, none⟩), .int .i64 1] (W.alloc (.cells #[.int .i64 1000] 28)) fun e w' => ∃ r, e = .returned (.bool r) ∧ Hid (Below w2.heap.size w2 w' ∧ (r = false → S.size ≤ 1000))) := fun W hb => by
    have R0 : Tk.Rm W.heap.size (1000 : Nat) (W.alloc (.cells #[.int .i64 1000] 28)) := heap_alloc_new W _
    have hbA := hb.alloc (o := .cells #[.int .i64 1000] 28) hb.size
    have h := Tryd.large_any d S (.slice a n ca) 1000 W.heap.size 1 W.heap.size (W.alloc (.cells #[.int .i64 1000] 28)) ((LS.out W hb).keep (fun k hk => Below.heap_alloc _ _ _ hk)) (Nat.le_refl _) (by simp) R0 (by omega) (by omega)
    rw [hx0, hx1] at h
    refine h.mono ?_
    rintro e w' ⟨hbt, ⟨rfl, hz, -⟩ | rfl⟩
    · exact ⟨false, rfl, hbA.trans (hbt.below hbA.size (fun k hk => by have := hb.size; omega)), fun _ => hz⟩
    · exact ⟨true, rfl, hbA.trans (hbt.below hbA.size (fun k hk => by have := hb.size; omega)), fun h => by cases h⟩
  have L2 : Hid (∀ W, Below w2.heap.size w2 W → Calls Tryd.prog 8 #[.agg #[.int .i64 y0, .int .i64 y1, .slice b m cb], .pointer (some ⟨W.heap.size, 0, none⟩), .int .i64 1] (W.alloc (.cells #[.int .i64 1000] 28)) fun e w' => ∃ r, e = .returned (.bool r) ∧ Hid (Below w2.heap.size w2 w' ∧ (r = false → T.size ≤ 1000))) := fun W hb => by
    have R0 : Tk.Rm W.heap.size (1000 : Nat) (W.alloc (.cells #[.int .i64 1000] 28)) := heap_alloc_new W _
    have hbA := hb.alloc (o := .cells #[.int .i64 1000] 28) hb.size
    have h := Tryd.large_any d' T (.slice b m cb) 1000 W.heap.size 1 W.heap.size (W.alloc (.cells #[.int .i64 1000] 28)) ((LT.out W hb).keep (fun k hk => Below.heap_alloc _ _ _ hk)) (Nat.le_refl _) (by simp) R0 (by omega) (by omega)
    rw [hy0, hy1] at h
    refine h.mono ?_
    rintro e w' ⟨hbt, ⟨rfl, hz, -⟩ | rfl⟩
    · exact ⟨false, rfl, hbA.trans (hbt.below hbA.size (fun k hk => by have := hb.size; omega)), fun _ => hz⟩
    · exact ⟨true, rfl, hbA.trans (hbt.below hbA.size (fun k hk => by have := hb.size; omega)), fun h => by cases h⟩
  have HO : Hid (∀ W, Below w.heap.size w W → Tk.Ops W) := fun W hb => hO.below hb hO.lt
  have HM : Hid (S.op = x0 ∧ S.num = x1 ∧ T.op = y0 ∧ T.num = y1 ∧ S.wfT) := ⟨hx0, hx1, hy0, hy1, hwf⟩
  have H2 : Hid ((w.alloc (.cells #[.int .i64 x0, .int .i64 x1, .slice a n ca] 24)).alloc (.cells #[.int .i64 y0, .int .i64 y1, .slice b m cb] 24) = w2) := hw2
  have BR : Hid (Below w2.heap.size w2 w2) := Below.refl _ _
  have HZ : Hid (w2.heap.size = w.heap.size + 2) := hs2
  have L1' : Hid _ := L1.out w2 BR.out
  rw [hs2] at L1'
  clear hS hT hwf hO hTB hx0 hx1 hy0 hy1 hn hm hw2 hs2 A2 C0 C1
  go_enter Tryd.func7, Tryd.ntmps7
  go_wp2_with fail
  rw [H2.out]
  refine Calls.mono L1'.out ?_
  rintro e W1 ⟨r1, rfl, K1z⟩
  have K1 : Hid (Below w2.heap.size w2 W1 ∧ (r1 = false → S.size ≤ 1000)) := by show _ ∧ _; rw [HZ.out]; exact K1z.out
  clear K1z
  obtain ⟨a0, a1, a2, b0, b1, b2⟩ := CF.out W1 K1.out.1
  clear L1 L1' H2 BR
  cases r1
  rotate_left
  · go_wp2_with fail
    refine Calls.mono (HH.out _ K1.out.1) ?_
    rintro e W9 ⟨rfl, B9⟩
    go_wp2
    go_ret
    exact ⟨rfl, (BW.out _ B9.out).1⟩
  have HS1 : Hid (S.size ≤ 1000) := K1.out.2 rfl
  go_wp2_with fail
  refine Calls.mono (L2.out W1 K1.out.1) ?_
  rintro e W2 ⟨r2, rfl, K2⟩
  clear a0 a1 a2 b0 b1 b2 L2
  cases r2
  rotate_left
  · go_wp2_with fail
    refine Calls.mono (HH.out _ K2.out.1) ?_
    rintro e W9 ⟨rfl, B9⟩
    go_wp2
    go_ret
    exact ⟨rfl, (BW.out _ B9.out).1⟩
  have HS : Hid (S.size ≤ 1000 ∧ T.size ≤ 1000) := ⟨HS1.out, K2.out.2 rfl⟩
  have B2 : Hid (Below w2.heap.size w2 W2) := K2.out.1
  obtain ⟨a0, a1, a2, b0, b1, b2⟩ := CF.out W2 B2.out
  have hv := Tryd.vars_any d S (.slice a n ca) W2 (LS.out W2 B2.out) (Nat.lt_of_lt_of_le h0 (BW.out _ B2.out).1.size) HM.out.2.2.2.2 (by have := HS.out.1; omega) (by have := HS.out.1; have := S.depth_le_size; omega)
  rw [HM.out.1, HM.out.2.1] at hv
  have HV : Hid _ := hv
  clear hv K1 K2
  go_wp2_with fail
  refine Calls.mono HV.out ?_
  rintro e W5 ⟨u5, l, rfl, hrow, hmem, hpw, hlen, hb5⟩
  obtain ⟨al, cl, rfl, hints⟩ := Tk.ints_of hrow
  have B5 : Hid (Below w2.heap.size w2 W5) := B2.out.trans (hb5.mono B2.out.size)
  obtain ⟨k5, hk5⟩ : ∃ k, l.length = k := ⟨_, rfl⟩
  rw [hk5] at hlen ⊢
  have HL : Hid (Tk.Ints W5 W5.heap.size al l ∧ (∀ x, x ∈ l ↔ S.has x = true) ∧ l.Pairwise (· < ·) ∧ l.length = k5) := ⟨hints, hmem, hpw, hk5⟩
  have UP : Hid (∀ W, Below W5.heap.size W5 W → Below w2.heap.size w2 W) := fun W hb => B5.out.trans (hb.mono B5.out.size)
  have CH : Hid (∀ W z, Below W5.heap.size W5 W → Calls Tryd.prog 18 #[.agg #[.int .i64 x0, .int .i64 x1, .slice a n ca], .int .i64 z] W fun e w' => e = .returned (.bool (S.has z)) ∧ Hid (Below W5.heap.size W5 w')) := fun W z hb => by
    have h := Tryd.refHas_any z d S (.slice a n ca) W (LS.out W (UP.out W hb)) (by have := HS.out.1; omega)
    rw [HM.out.1, HM.out.2.1] at h
    exact h.mono fun e w' q => ⟨q.1, hb.trans (q.2.mono hb.size)⟩
  clear a0 a1 a2 b0 b1 b2 hrow hmem hpw hb5 hints hk5 HV B2
  go_wp2
  go_loopg [6, 7, 27] k5 (fun gk _ _ i wr => ∃ k : Nat, gk + k = k5 ∧ i = .int .i64 k ∧ Hid (Below W5.heap.size W5 wr))
  case atStart => exact ⟨0, by omega, rfl, Below.refl _ _⟩
  case round =>
    obtain ⟨k, hk, rfl, HB⟩ := hrel
    obtain ⟨a0, a1, a2, b0, b1, b2⟩ := CF.out wr (UP.out wr HB.out)
    by_cases hlt : k < k5
    · have hd : decide ((k : Int) < k5) = true := decide_eq_true (by omega)
      have hkl : k < l.length := by rw [HL.out.2.2.2]; exact hlt
      obtain ⟨q, rfl, hq, hc⟩ := HL.out.1 k hkl
      obtain ⟨x, hx⟩ : ∃ x, l[k] = x := ⟨_, rfl⟩
      rw [hx] at hc
      have hhas : S.has x = true := (HL.out.2.1 x).1 (by rw [← hx]; exact List.getElem_mem hkl)
      have hc0 : wr.cell? ⟨q, k, none⟩ = some (.int .i64 x) := by rw [HB.out.cell (p := ⟨q, k, none⟩) hq]; exact hc
      have hcall := CH.out wr x HB.out
      rw [hhas] at hcall
      have HC : Hid _ := hcall
      have HX : Hid (l[k] = x) := hx
      have HQ : Hid (q < W5.heap.size) := hq
      clear hcall hhas hc hx hq
      go_wp2_with fail
      refine Calls.mono HC.out ?_
      rintro e W6 ⟨rfl, B6⟩
      clear hc0 a0 a1 a2 b0 b1 b2 HC
      by_cases hz : k = 0
      · have hz1 : ¬ 0 < k := by omega
        have hz2 : ¬ (0 : Int) < k := by omega
        go_wp2
        go_roundg (gk - 1)
        case measure => omega
        case rel => exact ⟨k + 1, by omega, by go_num, B6.out⟩
      · obtain ⟨k1, hk1⟩ : ∃ k1, k = k1 + 1 := ⟨k - 1, by omega⟩
        have hz1 : 0 < k := by omega
        have hz2 : (0 : Int) < k := by omega
        obtain ⟨q', he, hq', hc'⟩ := HL.out.1 k1 (by omega)
        obtain rfl : q = q' := by simpa using he
        obtain ⟨y, hy⟩ : ∃ x, l[k1] = x := ⟨_, rfl⟩
        rw [hy] at hc'
        have hc1 : W6.cell? ⟨q, k1, none⟩ = some (.int .i64 y) := by rw [B6.out.cell (p := ⟨q, k1, none⟩) hq']; exact hc'
        have hyx : y < x := by
          have := List.pairwise_iff_getElem.1 HL.out.2.2.1 k1 k (by omega) hkl (by omega)
          rw [hy, HX.out] at this
          exact this
        have hxy : ¬ x ≤ y := by omega
        have hxy' : decide (x ≤ y) = false := decide_eq_false hxy
        have hi1 : (0 : Int) ≤ k1 := by omega
        have hi2 : (k1 : Int) < k5 := by omega
        have hi3 : k1 < k5 := by omega
        have hw1 : IntKind.i64.wrap ((k : Int) - 1) = (k1 : Int) := by rw [IntKind.wrap_i64]; omega
        have HK1 : Hid (k = k1 + 1) := hk1
        have HXY : Hid (y < x) := hyx
        clear hk1 he hq' hc' hy hyx hz
        go_wp2
        go_roundg (gk - 1)
        case measure => omega
        case rel => exact ⟨k + 1, by omega, by go_num, B6.out⟩
    · have hd : decide ((k : Int) < k5) = false := decide_eq_false (by omega)
      clear a0 a1 a2 b0 b1 b2
      go_wp2
      go_loopg [8] 4 (fun gk s8 wr => ∃ k2 : Nat, gk + k2 = 4 ∧ s8 = .int .i64 k2 ∧ Hid (Below W5.heap.size W5 wr))
      case atStart => exact ⟨0, by omega, rfl, HB.out⟩
      case round =>
        obtain ⟨k2, hk2, rfl, HB2⟩ := hrel
        by_cases hl4 : k2 < 4
        · have hd4 : decide ((k2 : Int) < 4) = true := decide_eq_true (by omega)
          go_wp2
          go_loopg [9, 56] k5 (fun gk s9 i wr => ∃ (j : Nat) (c : Bool), gk + j = k5 ∧ i = .int .i64 j ∧ s9 = .bool c ∧ Hid (Below W5.heap.size W5 wr ∧ (c = true ↔ (k2 : Int) ∈ l.take j)))
          case atStart => exact ⟨0, false, by omega, rfl, rfl, HB2.out, by simp⟩
          case round =>
            obtain ⟨j, c, hj, rfl, rfl, HB3⟩ := hrel
            by_cases hjl : j < k5
            · have hdj : decide ((j : Int) < k5) = true := decide_eq_true (by omega)
              have hjn : j < l.length := by rw [HL.out.2.2.2]; exact hjl
              obtain ⟨q, rfl, hq, hc⟩ := HL.out.1 j hjn
              obtain ⟨x, hx⟩ : ∃ x, l[j] = x := ⟨_, rfl⟩
              rw [hx] at hc
              have hc0 := HB3.out.1.cell (p := ⟨q, j, none⟩) hq
              rw [hc] at hc0
              have htk : l.take (j + 1) = l.take j ++ [x] := by rw [← hx]; exact Tm.take_snoc l j hjn
              have HTK : Hid (l.take (j + 1) = l.take j ++ [x]) := htk
              clear htk hx hc hq
              cases c
              · cases hxe : (x == (k2 : Int))
                · have HXE : Hid (x ≠ (k2 : Int)) := by show _ ≠ _; simpa using hxe
                  go_wp2
                  go_roundg (k5 - j - 1)
                  case measure => omega
                  case rel =>
                    refine ⟨j + 1, false, by omega, by go_num, rfl, HB3.out.1, ?_⟩
                    rw [HTK.out, List.mem_append, ← HB3.out.2]
                    simpa using fun h => HXE.out h.symm
                · have HXE : Hid (x = (k2 : Int)) := by show _ = _; simpa using hxe
                  go_wp2
                  go_roundg (k5 - j - 1)
                  case measure => omega
                  case rel =>
                    refine ⟨j + 1, true, by omega, by go_num, rfl, HB3.out.1, ?_⟩
                    rw [HTK.out, List.mem_append]
                    simp [HXE.out]
              · go_wp2
                go_roundg (k5 - j - 1)
                case measure => omega
                case rel =>
                  refine ⟨j + 1, true, by omega, by go_num, rfl, HB3.out.1, ?_⟩
                  rw [HTK.out, List.mem_append, ← HB3.out.2]
                  simp
            · have hdj : decide ((j : Int) < k5) = false := decide_eq_false (by omega)
              have hcm : c = S.has k2 := by
                have h1 := HB3.out.2
                rw [List.take_of_length_le (by rw [HL.out.2.2.2]; omega), HL.out.2.1] at h1
                exact Bool.eq_iff_iff.2 h1
              obtain ⟨a0, a1, a2, b0, b1, b2⟩ := CF.out _ (UP.out _ HB3.out.1)
              have hcall := CH.out _ k2 HB3.out.1
              rw [← hcm] at hcall
              have HC : Hid _ := hcall
              clear hcall hcm
              go_wp2_with fail
              refine Calls.mono HC.out ?_
              rintro e W6 ⟨rfl, B6⟩
              clear a0 a1 a2 b0 b1 b2 HC
              go_wp2
              go_roundg (4 - k2 - 1)
              case measure => omega
              case rel => exact ⟨k2 + 1, by omega, by go_num, B6.out⟩
        · have hd4 : decide ((k2 : Int) < 4) = false := decide_eq_false (by omega)
          have BX : Hid (Below W5.heap.size W5 _) := HB2.out
          clear HB HB2
          obtain ⟨a0, a1, a2, b0, b1, b2⟩ := CF.out _ (UP.out _ BX.out)
          obtain ⟨c, HCC⟩ : ∃ c : Bool, Hid (c = true ↔ S = T) := by
            classical
            exact ⟨decide (S = T), decide_eq_true_iff⟩
          obtain ⟨z, hz⟩ : ∃ z : Int, (S.size : Int) = z := ⟨_, rfl⟩
          have CS : Hid (∀ W, Below W5.heap.size W5 W → Calls Tryd.prog 19 #[.agg #[.int .i64 x0, .int .i64 x1, .slice a n ca], .agg #[.int .i64 y0, .int .i64 y1, .slice b m cb]] W fun e w' => e = .returned (.bool c) ∧ Hid (Below W5.heap.size W5 w')) := fun W hb => by
            have h := Tryd.termSame_any d d' S T (.slice a n ca) (.slice b m cb) W (LS.out W (UP.out W hb)) (LT.out W (UP.out W hb)) (Nat.lt_of_lt_of_le h0 (BW.out _ (UP.out W hb)).1.size) (by have := HS.out.1; omega) (by have := HS.out.1; have := S.depth_le_size; omega)
            rw [HM.out.1, HM.out.2.1, HM.out.2.2.1, HM.out.2.2.2.1] at h
            refine h.mono fun e w' q => ?_
            obtain ⟨⟨r, he, hr⟩, hb'⟩ := q
            exact ⟨by rw [he, Bool.eq_iff_iff.2 (hr.trans HCC.out.symm)], hb.trans (hb'.mono hb.size)⟩
          have CP : Hid (∀ W, Below W5.heap.size W5 W → Calls Tryd.prog 16 #[.agg #[.int .i64 x0, .int .i64 x1, .slice a n ca], .agg #[.int .i64 y0, .int .i64 y1, .slice b m cb]] W fun e w' => e = .returned (.bool c) ∧ Hid (Below W5.heap.size W5 w')) := fun W hb => by
            have h := Tryd.plainTerm_any d S T (.slice a n ca) (.slice b m cb) d' W.heap.size W (LS.out W (UP.out W hb)) (LT.out W (UP.out W hb)) (Nat.le_refl _) (by have := HS.out.1; omega) (by have := HS.out.2; omega)
            rw [HM.out.1, HM.out.2.1, HM.out.2.2.1, HM.out.2.2.2.1] at h
            refine h.mono fun e w' q => ?_
            obtain ⟨⟨r, he, hr⟩, hb'⟩ := q
            exact ⟨by rw [he, Bool.eq_iff_iff.2 (hr.trans HCC.out.symm)], hb.trans (hb'.mono hb.size)⟩
          have CZ : Hid (∀ W, Below W5.heap.size W5 W → Calls Tryd.prog 20 #[.agg #[.int .i64 x0, .int .i64 x1, .slice a n ca]] W fun e w' => e = .returned (.int .i64 z) ∧ Hid (Below W5.heap.size W5 w')) := fun W hb => by
            have h := Tryd.size_any d S (.slice a n ca) W (LS.out W (UP.out W hb)) (HO.out W (BW.out _ (UP.out W hb)).1) (by have := HS.out.1; omega) (by have := HS.out.1; have := S.depth_le_size; omega)
            rw [HM.out.1, HM.out.2.1, hz] at h
            exact h.mono fun e w' q => ⟨q.1, hb.trans (q.2.mono hb.size)⟩
          have CR : Hid (∀ W, Below W5.heap.size W5 W → Calls Tryd.prog 21 #[.agg #[.int .i64 x0, .int .i64 x1, .slice a n ca]] W fun e w' => e = .returned (.int .i64 z) ∧ Hid (Below W5.heap.size W5 w')) := fun W hb => by
            have h := Tryd.refTSize_any d S (.slice a n ca) W (LS.out W (UP.out W hb)) (by have := HS.out.1; omega)
            rw [HM.out.1, HM.out.2.1, hz] at h
            exact h.mono fun e w' q => ⟨q.1, hb.trans (q.2.mono hb.size)⟩
          clear hz hk hk2 hl4 hlt hd
          go_upto_region 21 with fail
          go_region_held3 (fun W => W.cell? ⟨w.heap.size, 0, none⟩ = some (.int .i64 x0) ∧ W.cell? ⟨w.heap.size, 1, none⟩ = some (.int .i64 x1) ∧ W.cell? ⟨w.heap.size, 2, none⟩ = some (.slice a n ca) ∧ W.cell? ⟨w.heap.size + 1, 0, none⟩ = some (.int .i64 y0) ∧ W.cell? ⟨w.heap.size + 1, 1, none⟩ = some (.int .i64 y1) ∧ W.cell? ⟨w.heap.size + 1, 2, none⟩ = some (.slice b m cb))
            (first | exact CF.out _ B9.out | exact CF.out _ (UP.out _ BX.out) | exact CF.out _ (UP.out _ BX.out.drew) | exact CF.out _ (UP.out _ (Tk.below_drewN BX.out _)))
            (first
            | (go_simp; go_at_call 19; refine Calls.mono (CS.out _ ?_) ?_; (first | exact BX.out | exact BX.out.drew | exact Tk.below_drewN BX.out _); rintro e W6 ⟨rfl, BX⟩)
            | (go_simp; go_at_call 16; refine Calls.mono (CP.out _ ?_) ?_; (first | exact BX.out | exact BX.out.drew | exact Tk.below_drewN BX.out _); rintro e W7 ⟨rfl, BX⟩)
            | (go_simp; go_at_call 20; refine Calls.mono (CZ.out _ ?_) ?_; (first | exact BX.out | exact BX.out.drew | exact Tk.below_drewN BX.out _); rintro e W8 ⟨rfl, BX⟩)
            | (go_simp; go_at_call 21; refine Calls.mono (CR.out _ ?_) ?_; (first | exact BX.out | exact BX.out.drew | exact Tk.below_drewN BX.out _); rintro e W8 ⟨rfl, BX⟩)
            | (go_simp; go_at_call 9; refine Calls.mono (HH.out _ ?_) ?_; (first | exact UP.out _ BX.out | exact UP.out _ BX.out.drew | exact UP.out _ (Tk.below_drewN BX.out _)); rintro e W9 ⟨rfl, B9⟩))
          all_goals
            clear CS CP CZ CR CH HH
            go_simp
            go_wp2
            go_ret
            exact ⟨rfl, (BW.out _ B9.out).1⟩

end Go.Proofs.YtegcepenpchonaaDoor.TermLooks
