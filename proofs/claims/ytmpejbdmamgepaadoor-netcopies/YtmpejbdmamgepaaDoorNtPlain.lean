/-
  plain's Net of any two processes.
-/
import Derived.Test.YtmpejbdmamgepaaDoorTPlainA
import Derived.Test.YtmpejbdmamgepaaDoorNtModel
namespace Go.Proofs
open Go.RowKit

theorem Nt.nd_ext (x y : Nd) : x = y ↔ x.kind = y.kind ∧ x.a = y.a ∧ x.t = y.t := by cases x; cases y; simp
theorem Nt.fl_ext (x y : Fl) : x = y ↔ x.fr = y.fr ∧ x.to = y.to ∧ x.els = y.els ∧ x.c = y.c := by cases x; cases y; simp
theorem Nt.below_row {B : Nat} {a w : World} (h : Below B a w) {g : Nat} (hg : B ≤ g) (cs : Array Value) : Below B a (w.setRow g cs) :=
  h.trans ⟨rfl, rfl, rfl, by simp [World.setRow], fun k hk => setRow_other _ _ _ _ (by omega)⟩
/-- A truth that is told. -/
def Nt.Told (P : Prop) (e : Ending) : Prop := ∃ r, e = .returned (.bool r) ∧ (r = true ↔ P)

set_option maxRecDepth 20000 in
set_option maxHeartbeats 32000000 in
theorem Tryd.plainNet_any (d d' B : Nat) (an : Option Addr) (cn : Nat) (af : Option Addr) (cf : Nat) (ns : List Nd) (fs : List Fl) (an' : Option Addr) (cn' : Nat) (af' : Option Addr) (cf' : Nat) (ns' : List Nd) (fs' : List Fl) (w : World) (hX : Nt.Has w B d an af ns fs) (hY : Nt.Has w B d' an' af' ns' fs') (hB : B ≤ w.heap.size) :
    Calls Tryd.prog 23 #[.agg #[.slice an ns.length cn, .slice af fs.length cf], .agg #[.slice an' ns'.length cn', .slice af' fs'.length cf']] w fun e w' => Nt.Told (ns = ns' ∧ fs = fs') e ∧ Below w.heap.size w w' := by
  obtain ⟨n, hn⟩ : ∃ z, ns.length = z := ⟨_, rfl⟩
  obtain ⟨n', hn'⟩ : ∃ z, ns'.length = z := ⟨_, rfl⟩
  obtain ⟨m0, hm⟩ : ∃ z, fs.length = z := ⟨_, rfl⟩
  obtain ⟨m', hm'⟩ : ∃ z, fs'.length = z := ⟨_, rfl⟩
  rw [hn, hn', hm, hm']
  obtain ⟨W0, hW0⟩ : ∃ z, (w.alloc (.cells #[.slice an n cn, .slice af m0 cf] 25)).alloc (.cells #[.slice an' n' cn', .slice af' m' cf'] 25) = z := ⟨_, rfl⟩
  have A0 : Below w.heap.size w W0 := by rw [← hW0]; exact ((Below.refl _ w).alloc (Nat.le_refl _) _).alloc (by simp) _
  have S0 : W0.heap.size = w.heap.size + 2 := by rw [← hW0]; simp
  have G1 : W0.heap[w.heap.size]? = some (.cells #[.slice an n cn, .slice af m0 cf] 25 (0, 0)) := by rw [← hW0, Below.heap_alloc _ _ _ (by simp)]; exact heap_alloc_new w _
  have G2 : W0.heap[w.heap.size + 1]? = some (.cells #[.slice an' n' cn', .slice af' m' cf'] 25 (0, 0)) := by
    rw [← hW0]
    have := heap_alloc_new (w.alloc (.cells #[.slice an n cn, .slice af m0 cf] 25)) (.cells #[.slice an' n' cn', .slice af' m' cf'] 25)
    simpa using this
  have CF : Hid (∀ W, Below W0.heap.size W0 W → (W.cell? ⟨w.heap.size, 0, none⟩ = some (.slice an n cn) ∧ W.cell? ⟨w.heap.size, 1, none⟩ = some (.slice af m0 cf)) ∧ (W.cell? ⟨w.heap.size + 1, 0, none⟩ = some (.slice an' n' cn') ∧ W.cell? ⟨w.heap.size + 1, 1, none⟩ = some (.slice af' m' cf')) ∧ Below w.heap.size w W) := fun W hb => by
    have e1 := (hb.block w.heap.size (by omega)).trans G1
    have e2 := (hb.block (w.heap.size + 1) (by omega)).trans G2
    exact ⟨⟨by simp [World.cell?, e1], by simp [World.cell?, e1]⟩, ⟨by simp [World.cell?, e2], by simp [World.cell?, e2]⟩, A0.trans (hb.mono (by omega))⟩
  have HX : Hid (Nt.Has w B d an af ns fs) := hX
  have HY : Hid (Nt.Has w B d' an' af' ns' fs') := hY
  have HB : Hid (B ≤ w.heap.size) := hB
  have hnb : n ≤ 100 := by have := hX.nlen; omega
  have hnb' : n' ≤ 100 := by have := hY.nlen; omega
  have hmb : m0 ≤ 100 := by have := hX.flen; omega
  have hmb' : m' ≤ 100 := by have := hY.flen; omega
  have HLN : Hid (ns.length = n ∧ ns'.length = n' ∧ fs.length = m0 ∧ fs'.length = m') := ⟨hn, hn', hm, hm'⟩
  have HW0 : Hid _ := hW0
  have BR : Hid (Below W0.heap.size W0 W0) := Below.refl _ _
  obtain ⟨⟨x0, x1⟩, ⟨y0, y1⟩, hb0⟩ := CF.out W0 BR.out
  have HF0 : Hid (Below w.heap.size w W0) := hb0
  clear hX hY hB hn hn' hm hm' hW0 A0 S0 G1 G2 hb0
  by_cases hne : n = n' ∧ m0 = m'
  · obtain ⟨h1, h2⟩ := hne
    subst h1
    subst h2
    have HM : Hid (ns.length = n ∧ ns'.length = n ∧ fs.length = m0 ∧ fs'.length = m0) := HLN.out
    have d1 : ((n : Int) != n) = false := by simp
    have d2 : ((m0 : Int) != m0) = false := by simp
    go_enter Tryd.func23, Tryd.ntmps23
    go_upto_region 1 with fail
    rw [HW0.out]
    clear HW0
    go_wp2
    go_loopg [5, 6, 7, 30] n (fun gk _ _ _ s30 wr => ∃ j : Nat, gk + j = n ∧ s30 = .int .i64 j ∧ Hid (Below W0.heap.size W0 wr ∧ ns.take j = ns'.take j))
    case atStart => exact ⟨0, by omega, rfl, BR.out, by simp⟩
    case round =>
      obtain ⟨j, hj, rfl, HJ⟩ := hrel
      clear x0 x1 y0 y1
      by_cases hjn : j < n
      · have hd : decide ((j : Int) < n) = true := decide_eq_true (by omega)
        have hjx : j < ns.length := by rw [HM.out.1]; exact hjn
        have hjy : j < ns'.length := by rw [HM.out.2.1]; exact hjn
        obtain ⟨gx, ox, ux, rfl, hgx, p0, p1, p2, p3, p4, px⟩ := HX.out.nds j hjx
        obtain ⟨gy, oy, uy, rfl, hgy, q0, q1, q2, q3, q4, qx⟩ := HY.out.nds j hjy
        obtain ⟨s, hs⟩ : ∃ z, ns[j] = z := ⟨_, rfl⟩
        obtain ⟨t, ht⟩ : ∃ z, ns'[j] = z := ⟨_, rfl⟩
        have hzs : s.t.size ≤ 2147483647 := by rw [← hs]; exact HX.out.nsz _ (List.getElem_mem hjx)
        have hzt : t.t.size ≤ 2147483647 := by rw [← ht]; exact HY.out.nsz _ (List.getElem_mem hjy)
        rw [hs] at p0 p1 p2 p3 px
        rw [ht] at q0 q1 q2 q3 qx
        obtain ⟨ax, cx, rfl⟩ := px.shape
        obtain ⟨ay, cy, rfl⟩ := qx.shape
        obtain ⟨nx, hnx⟩ : ∃ z, s.t.ks.length = z := ⟨_, rfl⟩
        obtain ⟨ny, hny⟩ : ∃ z, t.t.ks.length = z := ⟨_, rfl⟩
        rw [hnx] at p4 px
        rw [hny] at q4 qx
        obtain ⟨k, hk⟩ : ∃ z, s.kind = z := ⟨_, rfl⟩
        rw [hk] at p0
        obtain ⟨a0, ha0⟩ : ∃ z, s.a = z := ⟨_, rfl⟩
        rw [ha0] at p1
        obtain ⟨o, ho⟩ : ∃ z, s.t.op = z := ⟨_, rfl⟩
        rw [ho] at p2
        obtain ⟨m, hm⟩ : ∃ z, s.t.num = z := ⟨_, rfl⟩
        rw [hm] at p3
        obtain ⟨k', hk'⟩ : ∃ z, t.kind = z := ⟨_, rfl⟩
        rw [hk'] at q0
        obtain ⟨b0, hb0⟩ : ∃ z, t.a = z := ⟨_, rfl⟩
        rw [hb0] at q1
        obtain ⟨o', ho'⟩ : ∃ z, t.t.op = z := ⟨_, rfl⟩
        rw [ho'] at q2
        obtain ⟨m', hm'⟩ : ∃ z, t.t.num = z := ⟨_, rfl⟩
        rw [hm'] at q3
        have hbw := (CF.out wr HJ.out.1).2.2
        have HSN : Hid ((s = t ↔ k = k' ∧ a0 = b0 ∧ s.t = t.t) ∧ ns[j] = s ∧ ns'[j] = t) := ⟨by rw [Nt.nd_ext]; simp only [hk, hk', ha0, hb0], hs, ht⟩
        have ca0 : wr.cell? ⟨gx, ox + j * 5, none⟩ = some (.int .i64 k) := by rw [hbw.cell (p := ⟨gx, ox + j * 5, none⟩) (Nat.lt_of_lt_of_le hgx HB.out)]; exact p0
        have ca1 : wr.cell? ⟨gx, ox + j * 5 + 1, none⟩ = some (.int .i64 a0) := by rw [hbw.cell (p := ⟨gx, ox + j * 5 + 1, none⟩) (Nat.lt_of_lt_of_le hgx HB.out)]; exact p1
        have ca2 : wr.cell? ⟨gx, ox + j * 5 + 2, none⟩ = some (.int .i64 o) := by rw [hbw.cell (p := ⟨gx, ox + j * 5 + 2, none⟩) (Nat.lt_of_lt_of_le hgx HB.out)]; exact p2
        have ca3 : wr.cell? ⟨gx, ox + j * 5 + 3, none⟩ = some (.int .i64 m) := by rw [hbw.cell (p := ⟨gx, ox + j * 5 + 3, none⟩) (Nat.lt_of_lt_of_le hgx HB.out)]; exact p3
        have ca4 : wr.cell? ⟨gx, ox + j * 5 + 4, none⟩ = some (.slice ax nx cx) := by rw [hbw.cell (p := ⟨gx, ox + j * 5 + 4, none⟩) (Nat.lt_of_lt_of_le hgx HB.out)]; exact p4
        have HKA : Hid ((wr.alloc (.cells #[.int .i64 0, .int .i64 0, .int .i64 0, .int .i64 0, .slice none 0 0] 37)).heap[wr.heap.size]? = some (.cells #[.int .i64 0, .int .i64 0, .int .i64 0, .int .i64 0, .slice none 0 0] 37 (0, 0))) := heap_alloc_new wr _
        obtain ⟨V1, hV1⟩ : ∃ z, (wr.alloc (.cells #[.int .i64 0, .int .i64 0, .int .i64 0, .int .i64 0, .slice none 0 0] 37)).setRow wr.heap.size #[.int .i64 k, .int .i64 a0, .int .i64 o, .int .i64 m, .slice ax nx cx] = z := ⟨_, rfl⟩
        have HV1 : Hid _ := hV1
        have GA : Hid (V1.heap[wr.heap.size]? = some (.cells #[.int .i64 k, .int .i64 a0, .int .i64 o, .int .i64 m, .slice ax nx cx] 37 (0, 0))) := by show _ = _; rw [← hV1]; exact setRow_heap _ _ _ _ _ _ HKA.out
        have B1 : Hid (Below wr.heap.size wr V1) := by show Below _ _ _; rw [← hV1]; exact Nt.below_row ((Below.refl _ wr).alloc (Nat.le_refl _) _) (Nat.le_refl _) _
        have HKB : Hid ((V1.alloc (.cells #[.int .i64 0, .int .i64 0, .int .i64 0, .int .i64 0, .slice none 0 0] 37)).heap[V1.heap.size]? = some (.cells #[.int .i64 0, .int .i64 0, .int .i64 0, .int .i64 0, .slice none 0 0] 37 (0, 0))) := heap_alloc_new V1 _
        obtain ⟨V2, hV2⟩ : ∃ z, (V1.alloc (.cells #[.int .i64 0, .int .i64 0, .int .i64 0, .int .i64 0, .slice none 0 0] 37)).setRow V1.heap.size #[.int .i64 k', .int .i64 b0, .int .i64 o', .int .i64 m', .slice ay ny cy] = z := ⟨_, rfl⟩
        have HV2 : Hid _ := hV2
        have GB : Hid (V2.heap[V1.heap.size]? = some (.cells #[.int .i64 k', .int .i64 b0, .int .i64 o', .int .i64 m', .slice ay ny cy] 37 (0, 0))) := by show _ = _; rw [← hV2]; exact setRow_heap _ _ _ _ _ _ HKB.out
        have B2 : Hid (Below V1.heap.size V1 V2) := by show Below _ _ _; rw [← hV2]; exact Nt.below_row ((Below.refl _ V1).alloc (Nat.le_refl _) _) (Nat.le_refl _) _
        have GA2 : Hid (V2.heap[wr.heap.size]? = some (.cells #[.int .i64 k, .int .i64 a0, .int .i64 o, .int .i64 m, .slice ax nx cx] 37 (0, 0))) := (B2.out.block _ (Array.getElem?_eq_some_iff.1 GA.out).1).trans GA.out
        have BV1 : Hid (Below W0.heap.size W0 V1) := HJ.out.1.trans (B1.out.mono HJ.out.1.size)
        have BV2 : Hid (Below W0.heap.size W0 V2) := BV1.out.trans (B2.out.mono BV1.out.size)
        have hbw1 := (CF.out V1 BV1.out).2.2
        have cb0 : V1.cell? ⟨gy, oy + j * 5, none⟩ = some (.int .i64 k') := by rw [hbw1.cell (p := ⟨gy, oy + j * 5, none⟩) (Nat.lt_of_lt_of_le hgy HB.out)]; exact q0
        have cb1 : V1.cell? ⟨gy, oy + j * 5 + 1, none⟩ = some (.int .i64 b0) := by rw [hbw1.cell (p := ⟨gy, oy + j * 5 + 1, none⟩) (Nat.lt_of_lt_of_le hgy HB.out)]; exact q1
        have cb2 : V1.cell? ⟨gy, oy + j * 5 + 2, none⟩ = some (.int .i64 o') := by rw [hbw1.cell (p := ⟨gy, oy + j * 5 + 2, none⟩) (Nat.lt_of_lt_of_le hgy HB.out)]; exact q2
        have cb3 : V1.cell? ⟨gy, oy + j * 5 + 3, none⟩ = some (.int .i64 m') := by rw [hbw1.cell (p := ⟨gy, oy + j * 5 + 3, none⟩) (Nat.lt_of_lt_of_le hgy HB.out)]; exact q3
        have cb4 : V1.cell? ⟨gy, oy + j * 5 + 4, none⟩ = some (.slice ay ny cy) := by rw [hbw1.cell (p := ⟨gy, oy + j * 5 + 4, none⟩) (Nat.lt_of_lt_of_le hgy HB.out)]; exact q4
        have e0 : V2.cell? ⟨wr.heap.size, 0, none⟩ = some (.int .i64 k) := by simp [World.cell?, GA2.out]
        have e1 : V2.cell? ⟨wr.heap.size, 1, none⟩ = some (.int .i64 a0) := by simp [World.cell?, GA2.out]
        have e2 : V2.cell? ⟨wr.heap.size, 2, none⟩ = some (.int .i64 o) := by simp [World.cell?, GA2.out]
        have e3 : V2.cell? ⟨wr.heap.size, 3, none⟩ = some (.int .i64 m) := by simp [World.cell?, GA2.out]
        have e4 : V2.cell? ⟨wr.heap.size, 4, none⟩ = some (.slice ax nx cx) := by simp [World.cell?, GA2.out]
        have f0 : V2.cell? ⟨V1.heap.size, 0, none⟩ = some (.int .i64 k') := by simp [World.cell?, GB.out]
        have f1 : V2.cell? ⟨V1.heap.size, 1, none⟩ = some (.int .i64 b0) := by simp [World.cell?, GB.out]
        have f2 : V2.cell? ⟨V1.heap.size, 2, none⟩ = some (.int .i64 o') := by simp [World.cell?, GB.out]
        have f3 : V2.cell? ⟨V1.heap.size, 3, none⟩ = some (.int .i64 m') := by simp [World.cell?, GB.out]
        have f4 : V2.cell? ⟨V1.heap.size, 4, none⟩ = some (.slice ay ny cy) := by simp [World.cell?, GB.out]
        have hbw2 := (CF.out V2 BV2.out).2.2
        have hcall := Tryd.plainTerm_any _ s.t t.t _ _ _ _ V2 ((px.below (hbw2.mono HB.out))) ((qx.below (hbw2.mono HB.out))) (Nat.le_trans HB.out hbw2.size) hzs hzt
        rw [ho, hm, ho', hm'] at hcall
        have HC : Hid (Calls Tryd.prog 40 #[.agg #[.int .i64 o, .int .i64 m, .slice ax nx cx], .agg #[.int .i64 o', .int .i64 m', .slice ay ny cy]] V2 fun e w' => ∃ r, e = .returned (.bool r) ∧ Hid ((r = true ↔ s.t = t.t) ∧ Below W0.heap.size W0 w')) := hcall.mono fun _ _ q => by
          obtain ⟨⟨r, hr, hq⟩, hb⟩ := q
          exact ⟨r, hr, hq, BV2.out.trans (hb.mono BV2.out.size)⟩
        have HNO : Hid (¬ s = t → ¬ (ns = ns' ∧ fs = fs')) := fun h e => h (by
          have h1 := HSN.out.2.1
          have h2 := HSN.out.2.2
          rw [← h1, ← h2]
          simp only [e.1])
        clear p0 p1 p2 p3 p4 q0 q1 q2 q3 q4 px qx hs ht hzs hzt hnx hny hcall hbw hbw2 hV1 hV2 GA GA2 GB hk ha0 ho hm hk' hb0 ho' hm' hbw1
        obtain ⟨⟨x0, x1⟩, ⟨y0, y1⟩, -⟩ := CF.out wr HJ.out.1
        go_upto_region 7 with (refine wpList_store_row rfl 37 _ _ rfl wr.heap.size _ rfl rfl 37 #[.int .i64 0, .int .i64 0, .int .i64 0, .int .i64 0, .slice none 0 0] (by exact HKA.out) (by kernel_rfl) rfl (by kernel_rfl) ?_)
        rw [HV1.out]
        clear x0 x1 y0 y1
        obtain ⟨⟨x0, x1⟩, ⟨y0, y1⟩, -⟩ := CF.out V1 BV1.out
        go_upto_region 8 with (refine wpList_store_row rfl 37 _ _ rfl V1.heap.size _ rfl rfl 37 #[.int .i64 0, .int .i64 0, .int .i64 0, .int .i64 0, .slice none 0 0] (by exact HKB.out) (by kernel_rfl) rfl (by kernel_rfl) ?_)
        rw [HV2.out]
        clear x0 x1 y0 y1 HV1 HV2 HKA HKB ca0 ca1 ca2 ca3 ca4 cb0 cb1 cb2 cb3 cb4
        have HF2 : Hid (Below w.heap.size w V2) := (CF.out V2 BV2.out).2.2
        by_cases c0 : k = k'
        · have d0 : (k != k') = false := by rw [c0]; simp
          have HC0 : Hid (k = k') := c0
          by_cases c1 : a0 = b0
          · have d1 : (a0 != b0) = false := by rw [c1]; simp
            have HC1 : Hid (a0 = b0) := c1
            clear c0 c1
            go_wp2_with fail
            refine Calls.mono HC.out ?_
            rintro e W3 ⟨r, rfl, X3⟩
            clear HC e0 f0 e1 f1 e2 f2 e3 f3 e4 f4
            have HF3 : Hid (Below w.heap.size w W3) := (CF.out W3 X3.out.2).2.2
            cases r with
            | false =>
              go_wp2
              go_ret
              exact ⟨⟨false, rfl, by simp only [Bool.false_eq_true, false_iff]; exact HNO.out (by rw [HSN.out.1]; intro h; have := X3.out.1.2 h.2.2; simp at this)⟩, HF3.out⟩
            | true =>
              have HTK : Hid (ns.take (j + 1) = ns'.take (j + 1)) := by
                show _ = _
                rw [Tm.take_snoc _ _ hjx, Tm.take_snoc _ _ hjy, HJ.out.2, HSN.out.2.1, HSN.out.2.2, HSN.out.1.2 ⟨HC0.out, HC1.out, X3.out.1.1 (by first | rfl | trivial)⟩]
              have HB3 : Hid (Below W0.heap.size W0 W3) := X3.out.2
              go_wp2
              go_roundg (gk - 1)
              case measure => omega
              case rel => exact ⟨j + 1, by omega, by go_num, HB3.out, HTK.out⟩
          · have d1 : (a0 != b0) = true := by simpa using c1
            have HN1 : Hid (¬ a0 = b0) := c1
            clear c1 HC
            go_wp2
            go_ret
            exact ⟨⟨false, rfl, by simp only [Bool.false_eq_true, false_iff]; exact HNO.out (by rw [HSN.out.1]; intro h; exact HN1.out h.2.1)⟩, HF2.out⟩
        · have d0 : (k != k') = true := by simpa using c0
          have HN0 : Hid (¬ k = k') := c0
          clear c0 HC
          go_wp2
          go_ret
          exact ⟨⟨false, rfl, by simp only [Bool.false_eq_true, false_iff]; exact HNO.out (by rw [HSN.out.1]; intro h; exact HN0.out h.1)⟩, HF2.out⟩
      · have hd : decide ((j : Int) < n) = false := decide_eq_false (by omega)
        have HEQ : Hid (ns = ns') := by
          have h := HJ.out.2
          rw [List.take_of_length_le (by rw [HM.out.1]; omega), List.take_of_length_le (by rw [HM.out.2.1]; omega)] at h
          exact h
        have BJ : Hid (Below W0.heap.size W0 wr) := HJ.out.1
        obtain ⟨⟨x0, x1⟩, ⟨y0, y1⟩, hbf⟩ := CF.out wr BJ.out
        have HFF : Hid (Below w.heap.size w wr) := hbf
        clear HJ hbf
        have HNS : Hid (ns = ns') := HEQ.out
        clear HEQ
        go_wp2
        go_loopg [8, 9, 10, 67] m0 (fun gk _ _ _ s67 wr => ∃ j : Nat, gk + j = m0 ∧ s67 = .int .i64 j ∧ Hid (Below W0.heap.size W0 wr ∧ fs.take j = fs'.take j))
        case atStart => exact ⟨0, by omega, rfl, BJ.out, by simp⟩
        case round =>
          obtain ⟨j, hj, rfl, HJ⟩ := hrel
          clear x0 x1 y0 y1
          by_cases hjn : j < m0
          · have hd : decide ((j : Int) < m0) = true := decide_eq_true (by omega)
            have hjx : j < fs.length := by rw [HM.out.2.2.1]; exact hjn
            have hjy : j < fs'.length := by rw [HM.out.2.2.2]; exact hjn
            obtain ⟨gx, ox, ux, rfl, hgx, p0, p1, p2, p3, p4, p5, px⟩ := HX.out.fls j hjx
            obtain ⟨gy, oy, uy, rfl, hgy, q0, q1, q2, q3, q4, q5, qx⟩ := HY.out.fls j hjy
            obtain ⟨s, hs⟩ : ∃ z, fs[j] = z := ⟨_, rfl⟩
            obtain ⟨t, ht⟩ : ∃ z, fs'[j] = z := ⟨_, rfl⟩
            have hzs : s.c.size ≤ 2147483647 := by rw [← hs]; exact HX.out.fsz _ (List.getElem_mem hjx)
            have hzt : t.c.size ≤ 2147483647 := by rw [← ht]; exact HY.out.fsz _ (List.getElem_mem hjy)
            rw [hs] at p0 p1 p2 p3 p4 px
            rw [ht] at q0 q1 q2 q3 q4 qx
            obtain ⟨ax, cx, rfl⟩ := px.shape
            obtain ⟨ay, cy, rfl⟩ := qx.shape
            obtain ⟨nx, hnx⟩ : ∃ z, s.c.ks.length = z := ⟨_, rfl⟩
            obtain ⟨ny, hny⟩ : ∃ z, t.c.ks.length = z := ⟨_, rfl⟩
            rw [hnx] at p5 px
            rw [hny] at q5 qx
            obtain ⟨k, hk⟩ : ∃ z, s.fr = z := ⟨_, rfl⟩
            rw [hk] at p0
            obtain ⟨a0, ha0⟩ : ∃ z, s.to = z := ⟨_, rfl⟩
            rw [ha0] at p1
            obtain ⟨e, he⟩ : ∃ z, s.els = z := ⟨_, rfl⟩
            rw [he] at p2
            obtain ⟨o, ho⟩ : ∃ z, s.c.op = z := ⟨_, rfl⟩
            rw [ho] at p3
            obtain ⟨m, hm⟩ : ∃ z, s.c.num = z := ⟨_, rfl⟩
            rw [hm] at p4
            obtain ⟨k', hk'⟩ : ∃ z, t.fr = z := ⟨_, rfl⟩
            rw [hk'] at q0
            obtain ⟨b0, hb0⟩ : ∃ z, t.to = z := ⟨_, rfl⟩
            rw [hb0] at q1
            obtain ⟨e', he'⟩ : ∃ z, t.els = z := ⟨_, rfl⟩
            rw [he'] at q2
            obtain ⟨o', ho'⟩ : ∃ z, t.c.op = z := ⟨_, rfl⟩
            rw [ho'] at q3
            obtain ⟨m', hm'⟩ : ∃ z, t.c.num = z := ⟨_, rfl⟩
            rw [hm'] at q4
            have hbw := (CF.out wr HJ.out.1).2.2
            have HSN : Hid ((s = t ↔ k = k' ∧ a0 = b0 ∧ e = e' ∧ s.c = t.c) ∧ fs[j] = s ∧ fs'[j] = t) := ⟨by rw [Nt.fl_ext]; simp only [hk, hk', ha0, hb0, he, he'], hs, ht⟩
            have ca0 : wr.cell? ⟨gx, ox + j * 6, none⟩ = some (.int .i64 k) := by rw [hbw.cell (p := ⟨gx, ox + j * 6, none⟩) (Nat.lt_of_lt_of_le hgx HB.out)]; exact p0
            have ca1 : wr.cell? ⟨gx, ox + j * 6 + 1, none⟩ = some (.int .i64 a0) := by rw [hbw.cell (p := ⟨gx, ox + j * 6 + 1, none⟩) (Nat.lt_of_lt_of_le hgx HB.out)]; exact p1
            have ca2 : wr.cell? ⟨gx, ox + j * 6 + 2, none⟩ = some (.bool e) := by rw [hbw.cell (p := ⟨gx, ox + j * 6 + 2, none⟩) (Nat.lt_of_lt_of_le hgx HB.out)]; exact p2
            have ca3 : wr.cell? ⟨gx, ox + j * 6 + 3, none⟩ = some (.int .i64 o) := by rw [hbw.cell (p := ⟨gx, ox + j * 6 + 3, none⟩) (Nat.lt_of_lt_of_le hgx HB.out)]; exact p3
            have ca4 : wr.cell? ⟨gx, ox + j * 6 + 4, none⟩ = some (.int .i64 m) := by rw [hbw.cell (p := ⟨gx, ox + j * 6 + 4, none⟩) (Nat.lt_of_lt_of_le hgx HB.out)]; exact p4
            have ca5 : wr.cell? ⟨gx, ox + j * 6 + 5, none⟩ = some (.slice ax nx cx) := by rw [hbw.cell (p := ⟨gx, ox + j * 6 + 5, none⟩) (Nat.lt_of_lt_of_le hgx HB.out)]; exact p5
            have HKA : Hid ((wr.alloc (.cells #[.int .i64 0, .int .i64 0, .bool false, .int .i64 0, .int .i64 0, .slice none 0 0] 47)).heap[wr.heap.size]? = some (.cells #[.int .i64 0, .int .i64 0, .bool false, .int .i64 0, .int .i64 0, .slice none 0 0] 47 (0, 0))) := heap_alloc_new wr _
            obtain ⟨V1, hV1⟩ : ∃ z, (wr.alloc (.cells #[.int .i64 0, .int .i64 0, .bool false, .int .i64 0, .int .i64 0, .slice none 0 0] 47)).setRow wr.heap.size #[.int .i64 k, .int .i64 a0, .bool e, .int .i64 o, .int .i64 m, .slice ax nx cx] = z := ⟨_, rfl⟩
            have HV1 : Hid _ := hV1
            have GA : Hid (V1.heap[wr.heap.size]? = some (.cells #[.int .i64 k, .int .i64 a0, .bool e, .int .i64 o, .int .i64 m, .slice ax nx cx] 47 (0, 0))) := by show _ = _; rw [← hV1]; exact setRow_heap _ _ _ _ _ _ HKA.out
            have B1 : Hid (Below wr.heap.size wr V1) := by show Below _ _ _; rw [← hV1]; exact Nt.below_row ((Below.refl _ wr).alloc (Nat.le_refl _) _) (Nat.le_refl _) _
            have HKB : Hid ((V1.alloc (.cells #[.int .i64 0, .int .i64 0, .bool false, .int .i64 0, .int .i64 0, .slice none 0 0] 47)).heap[V1.heap.size]? = some (.cells #[.int .i64 0, .int .i64 0, .bool false, .int .i64 0, .int .i64 0, .slice none 0 0] 47 (0, 0))) := heap_alloc_new V1 _
            obtain ⟨V2, hV2⟩ : ∃ z, (V1.alloc (.cells #[.int .i64 0, .int .i64 0, .bool false, .int .i64 0, .int .i64 0, .slice none 0 0] 47)).setRow V1.heap.size #[.int .i64 k', .int .i64 b0, .bool e', .int .i64 o', .int .i64 m', .slice ay ny cy] = z := ⟨_, rfl⟩
            have HV2 : Hid _ := hV2
            have GB : Hid (V2.heap[V1.heap.size]? = some (.cells #[.int .i64 k', .int .i64 b0, .bool e', .int .i64 o', .int .i64 m', .slice ay ny cy] 47 (0, 0))) := by show _ = _; rw [← hV2]; exact setRow_heap _ _ _ _ _ _ HKB.out
            have B2 : Hid (Below V1.heap.size V1 V2) := by show Below _ _ _; rw [← hV2]; exact Nt.below_row ((Below.refl _ V1).alloc (Nat.le_refl _) _) (Nat.le_refl _) _
            have GA2 : Hid (V2.heap[wr.heap.size]? = some (.cells #[.int .i64 k, .int .i64 a0, .bool e, .int .i64 o, .int .i64 m, .slice ax nx cx] 47 (0, 0))) := (B2.out.block _ (Array.getElem?_eq_some_iff.1 GA.out).1).trans GA.out
            have BV1 : Hid (Below W0.heap.size W0 V1) := HJ.out.1.trans (B1.out.mono HJ.out.1.size)
            have BV2 : Hid (Below W0.heap.size W0 V2) := BV1.out.trans (B2.out.mono BV1.out.size)
            have hbw1 := (CF.out V1 BV1.out).2.2
            have cb0 : V1.cell? ⟨gy, oy + j * 6, none⟩ = some (.int .i64 k') := by rw [hbw1.cell (p := ⟨gy, oy + j * 6, none⟩) (Nat.lt_of_lt_of_le hgy HB.out)]; exact q0
            have cb1 : V1.cell? ⟨gy, oy + j * 6 + 1, none⟩ = some (.int .i64 b0) := by rw [hbw1.cell (p := ⟨gy, oy + j * 6 + 1, none⟩) (Nat.lt_of_lt_of_le hgy HB.out)]; exact q1
            have cb2 : V1.cell? ⟨gy, oy + j * 6 + 2, none⟩ = some (.bool e') := by rw [hbw1.cell (p := ⟨gy, oy + j * 6 + 2, none⟩) (Nat.lt_of_lt_of_le hgy HB.out)]; exact q2
            have cb3 : V1.cell? ⟨gy, oy + j * 6 + 3, none⟩ = some (.int .i64 o') := by rw [hbw1.cell (p := ⟨gy, oy + j * 6 + 3, none⟩) (Nat.lt_of_lt_of_le hgy HB.out)]; exact q3
            have cb4 : V1.cell? ⟨gy, oy + j * 6 + 4, none⟩ = some (.int .i64 m') := by rw [hbw1.cell (p := ⟨gy, oy + j * 6 + 4, none⟩) (Nat.lt_of_lt_of_le hgy HB.out)]; exact q4
            have cb5 : V1.cell? ⟨gy, oy + j * 6 + 5, none⟩ = some (.slice ay ny cy) := by rw [hbw1.cell (p := ⟨gy, oy + j * 6 + 5, none⟩) (Nat.lt_of_lt_of_le hgy HB.out)]; exact q5
            have e0 : V2.cell? ⟨wr.heap.size, 0, none⟩ = some (.int .i64 k) := by simp [World.cell?, GA2.out]
            have e1 : V2.cell? ⟨wr.heap.size, 1, none⟩ = some (.int .i64 a0) := by simp [World.cell?, GA2.out]
            have e2 : V2.cell? ⟨wr.heap.size, 2, none⟩ = some (.bool e) := by simp [World.cell?, GA2.out]
            have e3 : V2.cell? ⟨wr.heap.size, 3, none⟩ = some (.int .i64 o) := by simp [World.cell?, GA2.out]
            have e4 : V2.cell? ⟨wr.heap.size, 4, none⟩ = some (.int .i64 m) := by simp [World.cell?, GA2.out]
            have e5 : V2.cell? ⟨wr.heap.size, 5, none⟩ = some (.slice ax nx cx) := by simp [World.cell?, GA2.out]
            have f0 : V2.cell? ⟨V1.heap.size, 0, none⟩ = some (.int .i64 k') := by simp [World.cell?, GB.out]
            have f1 : V2.cell? ⟨V1.heap.size, 1, none⟩ = some (.int .i64 b0) := by simp [World.cell?, GB.out]
            have f2 : V2.cell? ⟨V1.heap.size, 2, none⟩ = some (.bool e') := by simp [World.cell?, GB.out]
            have f3 : V2.cell? ⟨V1.heap.size, 3, none⟩ = some (.int .i64 o') := by simp [World.cell?, GB.out]
            have f4 : V2.cell? ⟨V1.heap.size, 4, none⟩ = some (.int .i64 m') := by simp [World.cell?, GB.out]
            have f5 : V2.cell? ⟨V1.heap.size, 5, none⟩ = some (.slice ay ny cy) := by simp [World.cell?, GB.out]
            have hbw2 := (CF.out V2 BV2.out).2.2
            have hcall := Tryd.plainTerm_any _ s.c t.c _ _ _ _ V2 ((px.below (hbw2.mono HB.out))) ((qx.below (hbw2.mono HB.out))) (Nat.le_trans HB.out hbw2.size) hzs hzt
            rw [ho, hm, ho', hm'] at hcall
            have HC : Hid (Calls Tryd.prog 40 #[.agg #[.int .i64 o, .int .i64 m, .slice ax nx cx], .agg #[.int .i64 o', .int .i64 m', .slice ay ny cy]] V2 fun e w' => ∃ r, e = .returned (.bool r) ∧ Hid ((r = true ↔ s.c = t.c) ∧ Below W0.heap.size W0 w')) := hcall.mono fun _ _ q => by
              obtain ⟨⟨r, hr, hq⟩, hb⟩ := q
              exact ⟨r, hr, hq, BV2.out.trans (hb.mono BV2.out.size)⟩
            have HNO : Hid (¬ s = t → ¬ (ns = ns' ∧ fs = fs')) := fun h e => h (by
              have h1 := HSN.out.2.1
              have h2 := HSN.out.2.2
              rw [← h1, ← h2]
              simp only [e.2])
            clear p0 p1 p2 p3 p4 p5 q0 q1 q2 q3 q4 q5 px qx hs ht hzs hzt hnx hny hcall hbw hbw2 hV1 hV2 GA GA2 GB hk ha0 he ho hm hk' hb0 he' ho' hm' hbw1
            obtain ⟨⟨x0, x1⟩, ⟨y0, y1⟩, -⟩ := CF.out wr HJ.out.1
            go_upto_region 15 with (refine wpList_store_row rfl 47 _ _ rfl wr.heap.size _ rfl rfl 47 #[.int .i64 0, .int .i64 0, .bool false, .int .i64 0, .int .i64 0, .slice none 0 0] (by exact HKA.out) (by kernel_rfl) rfl (by kernel_rfl) ?_)
            rw [HV1.out]
            clear x0 x1 y0 y1
            obtain ⟨⟨x0, x1⟩, ⟨y0, y1⟩, -⟩ := CF.out V1 BV1.out
            go_upto_region 16 with (refine wpList_store_row rfl 47 _ _ rfl V1.heap.size _ rfl rfl 47 #[.int .i64 0, .int .i64 0, .bool false, .int .i64 0, .int .i64 0, .slice none 0 0] (by exact HKB.out) (by kernel_rfl) rfl (by kernel_rfl) ?_)
            rw [HV2.out]
            clear x0 x1 y0 y1 HV1 HV2 HKA HKB ca0 ca1 ca2 ca3 ca4 ca5 cb0 cb1 cb2 cb3 cb4 cb5
            have HF2 : Hid (Below w.heap.size w V2) := (CF.out V2 BV2.out).2.2
            by_cases c0 : k = k'
            · have d0 : (k != k') = false := by rw [c0]; simp
              have HC0 : Hid (k = k') := c0
              by_cases c1 : a0 = b0
              · have d1 : (a0 != b0) = false := by rw [c1]; simp
                have HC1 : Hid (a0 = b0) := c1
                by_cases c2 : e = e'
                · have d2 : (e != e') = false := by rw [c2]; simp
                  have HC2 : Hid (e = e') := c2
                  clear c0 c1 c2
                  go_wp2_with fail
                  refine Calls.mono HC.out ?_
                  rintro e W3 ⟨r, rfl, X3⟩
                  clear HC e0 f0 e1 f1 e2 f2 e3 f3 e4 f4 e5 f5
                  have HF3 : Hid (Below w.heap.size w W3) := (CF.out W3 X3.out.2).2.2
                  cases r with
                  | false =>
                    go_wp2
                    go_ret
                    exact ⟨⟨false, rfl, by simp only [Bool.false_eq_true, false_iff]; exact HNO.out (by rw [HSN.out.1]; intro h; have := X3.out.1.2 h.2.2.2; simp at this)⟩, HF3.out⟩
                  | true =>
                    have HTK : Hid (fs.take (j + 1) = fs'.take (j + 1)) := by
                      show _ = _
                      rw [Tm.take_snoc _ _ hjx, Tm.take_snoc _ _ hjy, HJ.out.2, HSN.out.2.1, HSN.out.2.2, HSN.out.1.2 ⟨HC0.out, HC1.out, HC2.out, X3.out.1.1 (by first | rfl | trivial)⟩]
                    have HB3 : Hid (Below W0.heap.size W0 W3) := X3.out.2
                    go_wp2
                    go_roundg (gk - 1)
                    case measure => omega
                    case rel => exact ⟨j + 1, by omega, by go_num, HB3.out, HTK.out⟩
                · have d2 : (e != e') = true := by simpa using c2
                  have HN2 : Hid (¬ e = e') := c2
                  clear c2 HC
                  go_wp2
                  go_ret
                  exact ⟨⟨false, rfl, by simp only [Bool.false_eq_true, false_iff]; exact HNO.out (by rw [HSN.out.1]; intro h; exact HN2.out h.2.2.1)⟩, HF2.out⟩
              · have d1 : (a0 != b0) = true := by simpa using c1
                have HN1 : Hid (¬ a0 = b0) := c1
                clear c1 HC
                go_wp2
                go_ret
                exact ⟨⟨false, rfl, by simp only [Bool.false_eq_true, false_iff]; exact HNO.out (by rw [HSN.out.1]; intro h; exact HN1.out h.2.1)⟩, HF2.out⟩
            · have d0 : (k != k') = true := by simpa using c0
              have HN0 : Hid (¬ k = k') := c0
              clear c0 HC
              go_wp2
              go_ret
              exact ⟨⟨false, rfl, by simp only [Bool.false_eq_true, false_iff]; exact HNO.out (by rw [HSN.out.1]; intro h; exact HN0.out h.1)⟩, HF2.out⟩
          · have hd : decide ((j : Int) < m0) = false := decide_eq_false (by omega)
            have HEQ : Hid (fs = fs') := by
              have h := HJ.out.2
              rw [List.take_of_length_le (by rw [HM.out.2.2.1]; omega), List.take_of_length_le (by rw [HM.out.2.2.2]; omega)] at h
              exact h
            have BJ : Hid (Below W0.heap.size W0 wr) := HJ.out.1
            obtain ⟨⟨x0, x1⟩, ⟨y0, y1⟩, hbf⟩ := CF.out wr BJ.out
            have HFF : Hid (Below w.heap.size w wr) := hbf
            clear HJ hbf
            go_wp2
            go_ret
            exact ⟨⟨true, rfl, by simp only [true_iff]; exact ⟨HNS.out, HEQ.out⟩⟩, HFF.out⟩
  · have HNO : Hid (¬ (ns = ns' ∧ fs = fs')) := fun e => hne (by
      have h := HLN.out
      rw [e.1, e.2] at h
      omega)
    obtain d1 | ⟨d1, d2⟩ : ((n : Int) != n') = true ∨ (((n : Int) != n') = false ∧ ((m0 : Int) != m') = true) := by
      by_cases h : n = n'
      · exact .inr ⟨by simp [h], by simp; omega⟩
      · exact .inl (by simp; omega)
    all_goals
      clear hne
      go_enter Tryd.func23, Tryd.ntmps23
      go_upto_region 1 with fail
      rw [HW0.out]
      go_wp2
      go_ret
      exact ⟨⟨false, rfl, by simp only [Bool.false_eq_true, false_iff]; exact HNO.out⟩, HF0.out⟩

end Go.Proofs
