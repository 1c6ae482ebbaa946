import Derived.Test.YtndfbgfpnjnmlaaGreatDoorRTRefTwo
namespace Go.Proofs
open Go.RowKit Go.Shelf
namespace Gm
def chA (fs : List Fl) (l : List Int) : List Nat → Option (Nat × Int)
 | [] => none
 | f :: r => match fs[f]? with
   | none => none
   | some x => if x.els = true then chA fs l r else if (tru l x.c).2 ≠ 0 then some (0, (tru l x.c).2) else if (tru l x.c).1 = true then some (f, 0) else chA fs l r
def chB (fs : List Fl) : List Nat → Nat
 | [] => 0
 | f :: r => match fs[f]? with
   | none => 0
   | some x => if x.els = true then f else chB fs r
def chooseD (fs : List Fl) (l : List Int) (a : List Nat) : Nat × Int := match chA fs l a with
 | some p => p
 | none => (chB fs a, 0)
end Gm
set_option maxRecDepth 20000 in
set_option maxHeartbeats 16000000 in
theorem Tryz.rchoose_any (an : Option Addr) (n cn : Nat) (af : Option Addr) (m cf : Nat) (l : List Int) (a : List Nat) (va : Value) (X : World)
    (ha : Gm.Ints X va (a.map fun x : Nat => (x : Int))) (hal : a.length ≤ 100) (d : Nat) (fs : List Fl) (hF : Nt.Fls X X.heap.size d af fs) (hm : fs.length = m) (_hm1 : m ≤ 100) (haf : ∀ f ∈ a, f < fs.length) (hsz : ∀ x, x ∈ fs → x.c.size ≤ 2147483647) :
    Calls Tryz.prog 68 #[.agg #[.slice an n cn, .slice af m cf], va, .agg #[.int .i64 (l.getD 40 0), .int .i64 (l.getD 41 0), .int .i64 (l.getD 42 0), .int .i64 (l.getD 43 0)]] X fun e w' => e = .returned (.agg #[.int .i64 ((Gm.chooseD fs l a).1 : Nat), .int .i64 (Gm.chooseD fs l a).2]) ∧ Below X.heap.size X w' := by
  obtain ⟨R, hR⟩ : ∃ R, Gm.chooseD fs l a = R := ⟨_, rfl⟩
  rw [hR]
  obtain ⟨r1, r2⟩ := R
  obtain ⟨x0, hx0⟩ : ∃ z, l.getD 40 0 = z := ⟨_, rfl⟩
  obtain ⟨x1, hx1⟩ : ∃ z, l.getD 41 0 = z := ⟨_, rfl⟩
  obtain ⟨x2, hx2⟩ : ∃ z, l.getD 42 0 = z := ⟨_, rfl⟩
  obtain ⟨x3, hx3⟩ : ∃ z, l.getD 43 0 = z := ⟨_, rfl⟩
  have HTR : Hid (∀ T : Tm, Gm.tru l T = T.truR x0 x1 x2 x3) := fun T => by show _ = _; unfold Gm.tru; rw [hx0, hx1, hx2, hx3]
  rw [hx0, hx1, hx2, hx3]
  obtain ⟨w1, hw1⟩ : ∃ z, ((X.alloc (.cells #[.slice an n cn, .slice af m cf] 25)).alloc (.cells #[.int .i64 x0, .int .i64 x1, .int .i64 x2, .int .i64 x3] 27)).alloc (.cells #[.int .i64 0, .int .i64 0] 119) = z := ⟨_, rfl⟩
  have A1 : Below X.heap.size X w1 := by rw [← hw1]; exact (((Below.refl _ X).alloc (Nat.le_refl _) _).alloc (by simp) _).alloc (by simp; omega) _
  have P0 : w1.heap[X.heap.size]? = some (.cells #[.slice an n cn, .slice af m cf] 25 (0, 0)) := by
    rw [← hw1, Below.heap_alloc _ _ _ (by simp; omega), Below.heap_alloc _ _ _ (by simp)]; exact heap_alloc_new X _
  have P1 : w1.heap[X.heap.size + 1]? = some (.cells #[.int .i64 x0, .int .i64 x1, .int .i64 x2, .int .i64 x3] 27 (0, 0)) := by
    rw [← hw1, Below.heap_alloc _ _ _ (by simp)]
    have := heap_alloc_new (X.alloc (.cells #[.slice an n cn, .slice af m cf] 25)) (.cells #[.int .i64 x0, .int .i64 x1, .int .i64 x2, .int .i64 x3] 27)
    simpa using this
  have P2 : w1.heap[X.heap.size + 1 + 1]? = some (.cells #[.int .i64 0, .int .i64 0] 119 (0, 0)) := by
    rw [← hw1]
    have := heap_alloc_new ((X.alloc (.cells #[.slice an n cn, .slice af m cf] 25)).alloc (.cells #[.int .i64 x0, .int .i64 x1, .int .i64 x2, .int .i64 x3] 27)) (.cells #[.int .i64 0, .int .i64 0] 119)
    simpa using this
  have HV : Hid (∀ W, Below w1.heap.size w1 W → W.cell? ⟨X.heap.size, 1, none⟩ = some (.slice af m cf) ∧ W.cell? ⟨X.heap.size + 1, 0, none⟩ = some (.int .i64 x0) ∧ W.cell? ⟨X.heap.size + 1, 1, none⟩ = some (.int .i64 x1) ∧ W.cell? ⟨X.heap.size + 1, 2, none⟩ = some (.int .i64 x2) ∧ W.cell? ⟨X.heap.size + 1, 3, none⟩ = some (.int .i64 x3) ∧ W.heap[X.heap.size + 1 + 1]? = some (.cells #[.int .i64 0, .int .i64 0] 119 (0, 0))) := fun W hb => by
    have h0 : W.heap[X.heap.size]? = some (.cells #[.slice an n cn, .slice af m cf] 25 (0, 0)) := by rw [hb.block _ (Gm.blk_lt P0)]; exact P0
    have h1 : W.heap[X.heap.size + 1]? = some (.cells #[.int .i64 x0, .int .i64 x1, .int .i64 x2, .int .i64 x3] 27 (0, 0)) := by rw [hb.block _ (Gm.blk_lt P1)]; exact P1
    exact ⟨by simp [World.cell?, h0], by simp [World.cell?, h1], by simp [World.cell?, h1], by simp [World.cell?, h1], by simp [World.cell?, h1], by rw [hb.block _ (Gm.blk_lt P2)]; exact P2⟩
  obtain ⟨aa, ca, rfl, ha⟩ := ha
  obtain ⟨na, hna⟩ : ∃ z, a.length = z := ⟨_, rfl⟩
  rw [List.length_map, hna]
  have HIA : Hid (∀ W, Below w1.heap.size w1 W → ∀ j, j < na → ∃ (g off f : Nat), a[j]? = some f ∧ f < m ∧ aa = some ⟨g, off, none⟩ ∧ W.cell? ⟨g, off + j, none⟩ = some (.int .i64 f)) := fun W hb j hj => by
    obtain ⟨g, off, cs, fr, h1, h2, h3⟩ := ha j (by rw [List.length_map]; omega)
    have hja : j < a.length := by omega
    refine ⟨g, off, a[j], List.getElem?_eq_getElem hja, by rw [← hm]; exact haf _ (List.getElem_mem hja), h1, ?_⟩
    rw [(A1.trans (hb.mono A1.size)).cell (p := ⟨g, off + j, none⟩) (Gm.blk_lt h2), h3]
    simp
  have HFC : Hid (∀ W, Below w1.heap.size w1 W → ∀ f, f < m → ∃ (g off : Nat) (u : Value) (x : Fl), fs[f]? = some x ∧ af = some ⟨g, off, none⟩ ∧ W.cell? ⟨g, off + f * 6 + 2, none⟩ = some (.bool x.els) ∧ W.cell? ⟨g, off + f * 6 + 3, none⟩ = some (.int .i64 x.c.op) ∧ W.cell? ⟨g, off + f * 6 + 4, none⟩ = some (.int .i64 x.c.num) ∧ W.cell? ⟨g, off + f * 6 + 5, none⟩ = some u ∧ Tm.Lies W W.heap.size d u x.c ∧ x.c.size ≤ 2147483647) := fun W hb f hf => by
    have hX := A1.trans (hb.mono A1.size)
    have hj : f < fs.length := by omega
    obtain ⟨g, off, u, h1, h2, c0, c1, c2, c3, c4, c5, h3⟩ := (hF.below hX) f hj
    exact ⟨g, off, u, fs[f], List.getElem?_eq_getElem hj, h1, c2, c3, c4, c5, h3.wider hX.size, hsz _ (List.getElem_mem hj)⟩
  have HRR : Hid (Gm.chooseD fs l a = (r1, r2) ∧ a.length = na ∧ Below X.heap.size X w1) := ⟨hR, hna, A1⟩
  have hna1 : na ≤ 100 := by omega
  have hu := Tryz.underlying119
  have HW1 : Hid _ := hw1
  clear ha hal hF hm haf hsz hR hx0 hx1 hx2 hx3 hna hw1 A1 P0 P1 P2
  go_enter Tryz.func68, Tryz.ntmps68
  go_upto_region 1 with fail
  rw [HW1.out]
  clear HW1
  go_wp2
  go_loopg [8, 9, 10, 15] na (fun gk _ _ _ s15 wr => ∃ (j : Nat), s15 = .int .i64 j ∧ gk + j = na ∧ Hid (Gm.chA fs l (a.drop j) = Gm.chA fs l a ∧ Below w1.heap.size w1 wr))
  case atStart => exact ⟨0, rfl, by omega, rfl, Below.refl _ _⟩
  case round =>
    obtain ⟨j, rfl, hj, HJ⟩ := hrel
    obtain ⟨k1, k2, k3, k4, k5, NR⟩ := HV.out wr HJ.out.2
    have HBX : Hid (Below X.heap.size X wr) := HRR.out.2.2.trans (HJ.out.2.mono HRR.out.2.2.size)
    by_cases hlt : j < na
    · have hd : decide ((j : Int) < na) = true := decide_eq_true (by omega)
      obtain ⟨g, off, f, haf, hf4, rfl, hcf⟩ := HIA.out wr HJ.out.2 j hlt
      have hdr : a.drop j = f :: a.drop (j + 1) := by
        obtain ⟨h1, h2⟩ := List.getElem?_eq_some_iff.1 haf
        rw [← h2]; exact List.drop_eq_getElem_cons h1
      obtain ⟨g2, off2, u, x, hxf, rfl, c2, c3, c4, c5, hT, hsz⟩ := HFC.out wr HJ.out.2 f hf4
      have HTK : Hid ((if x.els = true then Gm.chA fs l (a.drop (j + 1)) else if (Gm.tru l x.c).2 ≠ 0 then some (0, (Gm.tru l x.c).2) else if (Gm.tru l x.c).1 = true then some (f, 0) else Gm.chA fs l (a.drop (j + 1))) = Gm.chA fs l a) := by
        have := HJ.out.1
        rw [hdr, Gm.chA, hxf] at this
        exact this
      have HB : Hid (Below w1.heap.size w1 wr) := HJ.out.2
      have i1 : (f : Int) < m := by omega
      have i0 : (0 : Int) ≤ f := by omega
      have j1 : (j : Int) < na := by omega
      have j0 : (0 : Int) ≤ j := by omega
      obtain ⟨el, hel⟩ : ∃ z, x.els = z := ⟨_, rfl⟩
      rw [hel] at c2 HTK
      clear HJ hdr haf hxf hel
      cases el with
      | true =>
        have HN : Hid (Gm.chA fs l (a.drop (j + 1)) = Gm.chA fs l a) := by have := HTK.out; rw [if_pos rfl] at this; exact this
        clear HTK hT hsz NR
        go_wp2
        go_roundg (gk - 1)
        case measure => omega
        case rel => exact ⟨j + 1, by go_num, by omega, HN.out, HB.out⟩
      | false =>
        obtain ⟨⟨is, fe⟩, htr⟩ : ∃ z, x.c.truR x0 x1 x2 x3 = z := ⟨_, rfl⟩
        have CT : Hid (∀ V, Below wr.heap.size wr V → Calls Tryz.prog 90 #[.agg #[.int .i64 x.c.op, .int .i64 x.c.num, u], .agg #[.int .i64 x0, .int .i64 x1, .int .i64 x2, .int .i64 x3]] V fun e w' => e = .returned (.tuple #[.bool is, .int .i64 fe]) ∧ Below wr.heap.size wr w') := fun V hV => by
          have h := Tryz.refTruth4_any d x.c u x0 x1 x2 x3 V ((hT.below hV).wider hV.size) hsz
          rw [htr] at h
          exact h.mono fun _ _ q => ⟨q.1, hV.trans (q.2.mono hV.size)⟩
        have HTK2 : Hid ((if fe ≠ 0 then some (0, fe) else if is = true then some (f, 0) else Gm.chA fs l (a.drop (j + 1))) = Gm.chA fs l a) := by
          have := HTK.out
          rw [if_neg (by simp), HTR.out, htr] at this
          exact this
        obtain ⟨p1, hp1⟩ : ∃ z, x.c.op = z := ⟨_, rfl⟩
        obtain ⟨p2, hp2⟩ : ∃ z, x.c.num = z := ⟨_, rfl⟩
        rw [hp1] at c3 CT
        rw [hp2] at c4 CT
        have CF : Hid (∀ V, Below wr.heap.size wr V → V.cell? ⟨X.heap.size, 1, none⟩ = some (.slice (some ⟨g2, off2, none⟩) m cf) ∧ V.cell? ⟨g2, off2 + f * 6 + 3, none⟩ = some (.int .i64 p1) ∧ V.cell? ⟨g2, off2 + f * 6 + 4, none⟩ = some (.int .i64 p2) ∧ V.cell? ⟨g2, off2 + f * 6 + 5, none⟩ = some u ∧ V.cell? ⟨X.heap.size + 1, 0, none⟩ = some (.int .i64 x0) ∧ V.cell? ⟨X.heap.size + 1, 1, none⟩ = some (.int .i64 x1) ∧ V.cell? ⟨X.heap.size + 1, 2, none⟩ = some (.int .i64 x2) ∧ V.cell? ⟨X.heap.size + 1, 3, none⟩ = some (.int .i64 x3)) := fun V hV => by
          have hc : ∀ p : Addr, p.block < wr.heap.size → V.cell? p = wr.cell? p := fun p hp => hV.cell hp
          have hg2 : g2 < wr.heap.size := World.block_lt_of_cell? _ _ c3
          have hb2 : X.heap.size < wr.heap.size := World.block_lt_of_cell? _ _ k1
          have hb3 : X.heap.size + 1 < wr.heap.size := World.block_lt_of_cell? _ _ k2
          rw [hc _ hb2, hc _ hg2, hc _ hg2, hc _ hg2, hc _ hb3, hc _ hb3, hc _ hb3, hc _ hb3]
          exact ⟨k1, c3, c4, c5, k2, k3, k4, k5⟩
        have BR : Hid (Below wr.heap.size wr wr) := Below.refl _ _
        clear HTK hT hsz htr hp1 hp2 NR
        go_upto_region 5 with fail
        clear hcf c2 c3 c4 c5 k1 k2 k3 k4 k5
        go_region_held3 (fun V => V.cell? ⟨X.heap.size, 1, none⟩ = some (.slice (some ⟨g2, off2, none⟩) m cf) ∧ V.cell? ⟨g2, off2 + f * 6 + 3, none⟩ = some (.int .i64 p1) ∧ V.cell? ⟨g2, off2 + f * 6 + 4, none⟩ = some (.int .i64 p2) ∧ V.cell? ⟨g2, off2 + f * 6 + 5, none⟩ = some u ∧ V.cell? ⟨X.heap.size + 1, 0, none⟩ = some (.int .i64 x0) ∧ V.cell? ⟨X.heap.size + 1, 1, none⟩ = some (.int .i64 x1) ∧ V.cell? ⟨X.heap.size + 1, 2, none⟩ = some (.int .i64 x2) ∧ V.cell? ⟨X.heap.size + 1, 3, none⟩ = some (.int .i64 x3))
          (first | exact CF.out _ B3.out | exact CF.out _ BR.out.drew | exact CF.out _ BR.out)
          (first
          | (go_simp; go_at_call 90; refine Calls.mono (CT.out _ ?_) ?_; (first | exact BR.out | exact BR.out.drew | exact Tk.below_drewN BR.out _); rintro e W3 ⟨rfl, b3⟩; have B3 : Hid (Below wr.heap.size wr W3) := b3; clear b3))
        all_goals
          have HB3 : Hid (Below w1.heap.size w1 W3) := HB.out.trans (B3.out.mono HB.out.size)
          have HB4 : Hid (Below X.heap.size X W3) := HRR.out.2.2.trans (HB3.out.mono HRR.out.2.2.size)
          have NR := (HV.out W3 HB3.out).2.2.2.2.2
          clear CT CF BR B3
          go_simp
          by_cases hfe : fe = 0
          · have e1 : (fe != 0) = false := by simpa using hfe
            cases is with
            | true =>
              have HE : Hid (f = r1 ∧ 0 = r2) := by
                have h1 := HTK2.out
                rw [if_neg (by simpa using hfe), if_pos rfl] at h1
                have h2 := HRR.out.1
                unfold Gm.chooseD at h2
                rw [← h1] at h2
                exact Prod.mk.inj h2
              clear HTK2 hfe
              go_wp2_with (refine wpList_store_row rfl 119 _ _ rfl (X.heap.size + 1 + 1) #[.int .i64 f, .int .i64 0] rfl rfl 119 _ NR (by kernel_rfl) rfl (by kernel_rfl) ?_)
              exact bodyPost_ret (v := .agg #[.int .i64 f, .int .i64 0]) (results_cell_row Tryz.results68 _ _ (X.heap.size + 1 + 1) 119 #[.int .i64 f, .int .i64 0] (0, 0) _ rfl (setRow_heap _ _ _ _ _ _ NR) hu rfl (by kernel_rfl)) rfl ⟨by rw [← HE.out.1, ← HE.out.2], Tk.below_row HB4.out (by omega) _⟩
            | false =>
              have HN : Hid (Gm.chA fs l (a.drop (j + 1)) = Gm.chA fs l a) := by have := HTK2.out; rw [if_neg (by simpa using hfe), if_neg (by simp)] at this; exact this
              clear HTK2 hfe NR
              go_wp2
              go_roundg (gk - 1)
              case measure => omega
              case rel => exact ⟨j + 1, by go_num, by omega, HN.out, HB3.out⟩
          · have e1 : (fe != 0) = true := by simpa using hfe
            have HE : Hid (0 = r1 ∧ fe = r2) := by
              have h1 := HTK2.out
              rw [if_pos hfe] at h1
              have h2 := HRR.out.1
              unfold Gm.chooseD at h2
              rw [← h1] at h2
              exact Prod.mk.inj h2
            clear HTK2 hfe
            go_wp2_with (refine wpList_store_row rfl 119 _ _ rfl (X.heap.size + 1 + 1) #[.int .i64 0, .int .i64 fe] rfl rfl 119 _ NR (by kernel_rfl) rfl (by kernel_rfl) ?_)
            exact bodyPost_ret (v := .agg #[.int .i64 0, .int .i64 fe]) (results_cell_row Tryz.results68 _ _ (X.heap.size + 1 + 1) 119 #[.int .i64 0, .int .i64 fe] (0, 0) _ rfl (setRow_heap _ _ _ _ _ _ NR) hu rfl (by kernel_rfl)) rfl ⟨by rw [← HE.out.1, ← HE.out.2]; rfl, Tk.below_row HB4.out (by omega) _⟩
    · obtain rfl : j = na := by omega
      have hd : decide ((j : Int) < j) = false := decide_eq_false (by omega)
      have HQ : Hid (Gm.chB fs a = r1 ∧ 0 = r2) := by
        have h1 := HJ.out.1
        rw [List.drop_eq_nil_of_le (by rw [HRR.out.2.1]; exact Nat.le_refl _), Gm.chA] at h1
        have h2 := HRR.out.1
        unfold Gm.chooseD at h2
        rw [← h1] at h2
        exact Prod.mk.inj h2
      have HB : Hid (Below w1.heap.size w1 wr) := HJ.out.2
      clear HJ k1 k2 k3 k4 k5 NR HBX
      go_wp2
      go_loopg [12, 46] j (fun gk _ s46 wi => ∃ (k : Nat), s46 = .int .i64 k ∧ gk + k = j ∧ Hid (Gm.chB fs (a.drop k) = r1 ∧ Below w1.heap.size w1 wi))
      case atStart => exact ⟨0, rfl, by omega, HQ.out.1, HB.out⟩
      case round =>
        obtain ⟨k, rfl, hk, HJ⟩ := hrel
        rename World => wi
        obtain ⟨k1, k2, k3, k4, k5, NR⟩ := HV.out wi HJ.out.2
        have HB4 : Hid (Below X.heap.size X wi) := HRR.out.2.2.trans (HJ.out.2.mono HRR.out.2.2.size)
        by_cases hltk : k < j
        · have hd2 : decide ((k : Int) < j) = true := decide_eq_true (by omega)
          obtain ⟨g, off, f, haf, hf4, rfl, hcf⟩ := HIA.out wi HJ.out.2 k hltk
          have hdr : a.drop k = f :: a.drop (k + 1) := by
            obtain ⟨h1, h2⟩ := List.getElem?_eq_some_iff.1 haf
            rw [← h2]; exact List.drop_eq_getElem_cons h1
          obtain ⟨g2, off2, u, x, hxf, rfl, c2, c3, c4, c5, hT, hsz⟩ := HFC.out wi HJ.out.2 f hf4
          have HTK : Hid ((if x.els = true then f else Gm.chB fs (a.drop (k + 1))) = r1) := by
            have := HJ.out.1
            rw [hdr, Gm.chB, hxf] at this
            exact this
          have HB5 : Hid (Below w1.heap.size w1 wi) := HJ.out.2
          have i1 : (f : Int) < m := by omega
          have i0 : (0 : Int) ≤ f := by omega
          have j1 : (k : Int) < j := by omega
          have j0 : (0 : Int) ≤ k := by omega
          obtain ⟨el, hel⟩ : ∃ z, x.els = z := ⟨_, rfl⟩
          rw [hel] at c2 HTK
          clear HJ hdr haf hxf hel hT hsz c3 c4 c5 k2 k3 k4 k5
          cases el with
          | true =>
            have HE : Hid (f = r1) := by have := HTK.out; rw [if_pos rfl] at this; exact this
            clear HTK
            go_wp2_with (refine wpList_store_row rfl 119 _ _ rfl (X.heap.size + 1 + 1) #[.int .i64 f, .int .i64 0] rfl rfl 119 _ NR (by kernel_rfl) rfl (by kernel_rfl) ?_)
            exact bodyPost_ret (v := .agg #[.int .i64 f, .int .i64 0]) (results_cell_row Tryz.results68 _ _ (X.heap.size + 1 + 1) 119 #[.int .i64 f, .int .i64 0] (0, 0) _ rfl (setRow_heap _ _ _ _ _ _ NR) hu rfl (by kernel_rfl)) rfl ⟨by rw [← HE.out, ← HQ.out.2], Tk.below_row HB4.out (by omega) _⟩
          | false =>
            have HN : Hid (Gm.chB fs (a.drop (k + 1)) = r1) := by have := HTK.out; rw [if_neg (by simp)] at this; exact this
            clear HTK NR HB4
            go_wp2
            go_roundg (gk - 1)
            case measure => omega
            case rel => exact ⟨k + 1, by go_num, by omega, HN.out, HB5.out⟩
        · obtain rfl : k = j := by omega
          have hd2 : decide ((k : Int) < k) = false := decide_eq_false (by omega)
          have HE : Hid (0 = r1) := by
            have h1 := HJ.out.1
            rw [List.drop_eq_nil_of_le (by rw [HRR.out.2.1]; exact Nat.le_refl _), Gm.chB] at h1
            exact h1
          clear HJ k1 k2 k3 k4 k5
          go_wp2_with (refine wpList_store_row rfl 119 _ _ rfl (X.heap.size + 1 + 1) #[.int .i64 0, .int .i64 0] rfl rfl 119 _ NR (by kernel_rfl) rfl (by kernel_rfl) ?_)
          exact bodyPost_ret (v := .agg #[.int .i64 0, .int .i64 0]) (results_cell_row Tryz.results68 _ _ (X.heap.size + 1 + 1) 119 #[.int .i64 0, .int .i64 0] (0, 0) _ rfl (setRow_heap _ _ _ _ _ _ NR) hu rfl (by kernel_rfl)) rfl ⟨by rw [← HE.out, ← HQ.out.2]; rfl, Tk.below_row HB4.out (by omega) _⟩
end Go.Proofs
