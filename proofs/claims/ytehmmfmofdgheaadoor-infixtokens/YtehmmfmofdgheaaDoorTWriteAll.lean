/-
  The contract of write: a term's text behind other bytes.
-/
import Derived.Test.YtehmmfmofdgheaaDoorTWrite
namespace Go.Proofs
open Go.RowKit

theorem Tk.one_cell (w : World) (c : Int) (k : Nat) : ∀ j u, [Value.int .u8 c][j]? = some u → (w.alloc (.cells #[.int .u8 c] k)).cell? ((⟨w.heap.size, 0, none⟩ : Addr).add j) = some u := by
  intro j u hj
  match j, hj with
  | 0, hj => simp at hj; subst hj; simp [Addr.add]
theorem Tk.one_one (c : Int) : ∀ u ∈ [Value.int .u8 c], u.oneCell' = true := by
  intro u hu
  simp at hu
  subst hu
  rfl

set_option maxHeartbeats 16000000 in
set_option maxRecDepth 20000 in
theorem Tryd.write_any : ∀ (d : Nat) (T : Tm) (v : Value) (B : Nat) (out : List UInt8) (sv : Value) (w : World), Tm.Lies w B d v T → T.allForm = true → B ≤ w.heap.size → Tk.Ops w → 1 < B →
    Lib.TabBelow Tryd.prog B w "internal/strconv.uint64pow10" .u64 Lib.pow10Tab → w.ownsRow B 5 1 sv out.length (Lib.byteCells out) → out.length + T.txt.length ≤ 1000000000 →
    Calls Tryd.prog 42 #[sv, .agg #[.int .i64 T.op, .int .i64 T.num, v]] w fun e w' => ∃ v' bs, e = .returned v' ∧ w'.ownsRow B 5 1 v' bs.length (Lib.byteCells bs) ∧ Below B w w' ∧ Tm.Wrote out T.txt bs := by
  intro d
  induction d with
  | zero => intro T v B out sv w h; exact h.elim
  | succ d ih =>
    intro T v B out sv w hT hF hB hO h0 hTab hown hlen
    obtain ⟨a, cap, rfl⟩ := hT.shape
    obtain ⟨hform, hkids⟩ := Tm.formed_of_all hF
    simp only [Tm.formedB, decide_eq_true_eq] at hform
    obtain ⟨f1, f2, f3, f4, f5⟩ := hform
    obtain ⟨o, ho⟩ : ∃ o : Nat, T.op = o := ⟨T.op.toNat, by omega⟩
    obtain ⟨n, hn⟩ : ∃ n, T.ks.length = n := ⟨_, rfl⟩
    obtain ⟨m, hm⟩ : ∃ m, T.num = m := ⟨_, rfl⟩
    by_cases h3 : o < 3
    · have hk0 : Tm.kidsOf T.op = 0 := by unfold Tm.kidsOf; rw [if_pos (by omega)]
      have hm1 : T.num ≤ 1099511627776 := by
        unfold Tm.mostOf at f5
        split at f5
        · exact f5
        · split at f5
          · omega
          · omega
      have htx := T.txt_eq
      rw [if_pos hk0] at htx
      have := Tryd.write_leaf o (by omega) T.num f4 hm1 a T.ks.length cap B out sv w hB hO h0 hTab hown (by omega)
      rw [ho]
      rw [ho] at htx
      refine this.mono fun e w' ⟨v', bs, he, hq, hb, hbs⟩ => ⟨v', bs, he, hq, hb, ?_⟩
      rw [← htx] at hbs
      subst hbs
      exact ⟨.inl rfl, by simp⟩
    · obtain ⟨i0, hi, hz0, hz1, hz2⟩ := info_parts Tryd.infoByte
      have o1 : 1 ≤ o := by omega
      have o2 : o ≤ 14 := by omega
      have ix : (o : Int) < 15 := by omega
      rw [ho, hm, hn]
      rw [hn] at hT
      have A0 : Below B w (w.alloc (.cells #[.int .i64 o, .int .i64 m, .slice a n cap] 37)) := (Below.refl _ w).alloc hB _
      have O1 : Tk.Ops (w.alloc (.cells #[.int .i64 o, .int .i64 m, .slice a n cap] 37)) := hO.below A0 h0
      obtain ⟨tx', c0', c1, c2, c3, c4⟩ := O1.cells o o1 o2
      have c0 := O1.text o o1 o2
      obtain ⟨tx, htx⟩ : ∃ t, Tm.opText o = t := ⟨_, rfl⟩
      have htl : tx.length ≤ 3 := by rw [← htx]; exact Tm.opText_le _
      have hkn : Tm.kidsOf o = n := by rw [← ho, ← f3]; exact hn
      have hk0 : ¬ Tm.kidsOf T.op = 0 := by unfold Tm.kidsOf; rw [if_neg (by omega)]; split <;> omega
      have hn1 : 1 ≤ n := by rw [ho, hkn] at hk0; omega
      have hn2 : n ≤ 2 := by
        rw [← hkn]
        unfold Tm.kidsOf
        split
        · omega
        · split
          · omega
          · omega
      have HTX := T.txt_eq
      rw [if_neg hk0, ho, htx] at HTX
      obtain ⟨mm, hmm⟩ : ∃ m, Tm.mostOf o = m := ⟨_, rfl⟩
      obtain ⟨aa, ha⟩ : ∃ m, Tm.askedOf o = m := ⟨_, rfl⟩
      obtain ⟨ii, hi'⟩ : ∃ m, Tm.isOf o = m := ⟨_, rfl⟩
      rw [htx] at c0
      rw [hkn] at c1
      rw [ha] at c2
      rw [hmm] at c3
      rw [hi'] at c4
      obtain ⟨w0, hw0⟩ : ∃ x, (w.alloc (.cells #[.int .i64 o, .int .i64 m, .slice a n cap] 37)).alloc (.cells #[.string ⟨tx.toArray⟩, .int .i64 n, .int .i64 aa, .int .i64 mm, .int .i64 ii] 110) = x := ⟨_, rfl⟩
      have A1 : Hid (Below B w w0) := by show Below _ _ _; rw [← hw0]; exact A0.alloc (by simp; omega) _
      have OW : Hid (w0.ownsRow B 5 1 sv out.length (Lib.byteCells out)) := by show World.ownsRow _ _ _ _ _ _ _; rw [← hw0]; exact (hown.alloc _).alloc _
      have HTab : Hid (Lib.TabBelow Tryd.prog B w "internal/strconv.uint64pow10" .u64 Lib.pow10Tab) := hTab
      have HW0 : Hid ((w.alloc (.cells #[.int .i64 o, .int .i64 m, .slice a n cap] 37)).alloc (.cells #[.string ⟨tx.toArray⟩, .int .i64 n, .int .i64 aa, .int .i64 mm, .int .i64 ii] 110) = w0) := hw0
      have HX : Hid (T.txt = 40 :: (tx ++ (Tm.txts T.ks ++ [41])) ∧ out.length + T.txt.length ≤ 1000000000) := ⟨HTX, hlen⟩
      have HLI : Hid (Tm.Lies w B (d + 1) (.slice a n cap) T ∧ T.ks.length = n ∧ Tm.allForms T.ks = true) := ⟨hT, hn, hkids⟩
      have HI : Hid _ := ih
      have HOB : Hid (Tk.Ops w ∧ 1 < B ∧ B ≤ w.heap.size) := ⟨hO, h0, hB⟩
      have K2 : Hid (w0.heap[w.heap.size]? = some (.cells #[.int .i64 o, .int .i64 m, .slice a n cap] 37 (0, 0))) := by show _ = _; rw [← hw0, Below.heap_alloc _ _ _ (by simp)]; exact heap_alloc_new w _
      have K3 : Hid (w0.heap[w.heap.size + 1]? = some (.cells #[.string ⟨tx.toArray⟩, .int .i64 n, .int .i64 aa, .int .i64 mm, .int .i64 ii] 110 (0, 0))) := by
        show _ = _
        rw [← hw0]
        have := heap_alloc_new (w.alloc (.cells #[.int .i64 o, .int .i64 m, .slice a n cap] 37)) (.cells #[.string ⟨tx.toArray⟩, .int .i64 n, .int .i64 aa, .int .i64 mm, .int .i64 ii] 110)
        simpa using this
      have s0 : w0.cell? ⟨w.heap.size + 1, 0, none⟩ = some (.string ⟨tx.toArray⟩) := by have := K3.out; simp [World.cell?, this]
      have L3 : Hid (B ≤ w0.heap.size) := by show _ ≤ _; have := A1.out.size; omega
      -- the world with the bracket's row
      obtain ⟨wb, hwb⟩ : ∃ x, w0.alloc (.cells #[.int .u8 40] 5) = x := ⟨_, rfl⟩
      have OB : Hid (wb.ownsRow B 5 1 sv out.length (Lib.byteCells out)) := by show World.ownsRow _ _ _ _ _ _ _; rw [← hwb]; exact OW.out.alloc _
      have AB : Hid (Below B w wb) := by show Below _ _ _; rw [← hwb]; exact A1.out.alloc L3.out _
      have LB : Hid (B ≤ wb.heap.size) := by show _ ≤ _; have := AB.out.size; omega
      have KB2 : Hid (wb.heap[w.heap.size]? = some (.cells #[.int .i64 o, .int .i64 m, .slice a n cap] 37 (0, 0))) := by show _ = _; rw [← hwb, Below.heap_alloc _ _ _ (Array.getElem?_eq_some_iff.1 K2.out).1]; exact K2.out
      have KB3 : Hid (wb.heap[w.heap.size + 1]? = some (.cells #[.string ⟨tx.toArray⟩, .int .i64 n, .int .i64 aa, .int .i64 mm, .int .i64 ii] 110 (0, 0))) := by show _ = _; rw [← hwb, Below.heap_alloc _ _ _ (Array.getElem?_eq_some_iff.1 K3.out).1]; exact K3.out
      have sb : (w0.alloc (.cells #[.int .u8 40] 5)).cell? ⟨w.heap.size + 1, 0, none⟩ = some (.string ⟨tx.toArray⟩) := by rw [hwb]; have := KB3.out; simp [World.cell?, this]
      have HWB : Hid (w0.alloc (.cells #[.int .u8 40] 5) = wb) := hwb
      have F1 : Hid (∀ W1 : World, (∀ k, k < wb.heap.size → some k ≠ sv.ownBlock → W1.heap[k]? = wb.heap[k]?) → W1.cell? ⟨w.heap.size + 1, 0, none⟩ = some (.string ⟨tx.toArray⟩) ∧ W1.heap[w.heap.size]? = some (.cells #[.int .i64 o, .int .i64 m, .slice a n cap] 37 (0, 0))) := fun W1 hb => by
        have h1 := (hb _ (Array.getElem?_eq_some_iff.1 KB3.out).1 (Tk.row_ne OB.out KB3.out (by decide))).trans KB3.out
        have h2 := (hb _ (Array.getElem?_eq_some_iff.1 KB2.out).1 (Tk.row_ne OB.out KB2.out (by decide))).trans KB2.out
        exact ⟨by simp [World.cell?, h1], h2⟩
      have htl' : (⟨tx.toArray⟩ : ByteArray).size = tx.length := by simp [ByteArray.size]
      have hol : out.length ≤ 1000000000 := by omega
      have HL1 : Hid (out.length + 1 ≤ maxLen ∧ (out.length + 1) * 1 ≤ 140737488355328 ∧ out.length + 1 + (⟨tx.toArray⟩ : ByteArray).size ≤ maxLen ∧ out.length + 1 + (⟨tx.toArray⟩ : ByteArray).size ≤ 140737488355328) := by show _ ∧ _; rw [htl']; unfold maxLen; omega
      have hkz : ((n : Int) == 0) = false := by simp; omega
      clear ih hT hO hTab hown hw0 hwb htx c0' A0 O1 hmm ha hi' htl' hkids hn hm f1 f2 f3 f4 f5 hk0 HTX hkn hF
      go_enter Tryd.func42, Tryd.ntmps42
      go_upto_region 4 with fail
      rw [HW0.out]
      clear HW0 c0 c1 c2 c3 c4
      go_cut [0] (fun s wx => ∃ v2, s = v2 ∧ Hid (wx.ownsRow B 5 1 v2 (out ++ 40 :: tx).length (Lib.byteCells (out ++ 40 :: tx)) ∧ Below B w wx ∧ wx.heap[w.heap.size]? = some (.cells #[.int .i64 o, .int .i64 m, .slice a n cap] 37 (0, 0))))
      case first =>
        go_region_law (first
          | ((with_reducible refine Tk.at_op (Op.call { callee := Callee.builtin Builtin.append, args := #[.tmp 22, .tmp 23], argTypes := #[71, 71] }) ?hop ?_); (case hop => with_reducible rfl); rw [HWB.out]; refine Tk.step_own rfl (.tmp 22) (.tmp 23) 71 rfl B 5 i0 (.int .u8 0) 1 1 Tryd.underlying71 hi hz0 hz1 hz2 rfl (by decide) sv out.length (Lib.byteCells out) (by simp [Act.eval]) (by exact OB.out) ⟨w0.heap.size, 0, none⟩ 1 1 [.int .u8 40] (by simp [Act.eval]) rfl (by have := Tk.one_cell w0 40 5; rw [HWB.out] at this; exact this) (Tk.one_one 40) (by exact HL1.out.1) (by exact HL1.out.2.1) (by exact LB.out) ?_; intro v1 W1 q1 g1; obtain ⟨f1, f2⟩ := F1.out W1 (by exact g1.block))
          | ((with_reducible refine Tk.at_op (Op.call { callee := Callee.builtin Builtin.append, args := #[.tmp 24, .tmp 26], argTypes := #[71, 9] }) ?hop ?_); (case hop => with_reducible rfl); refine Tk.step_str rfl (.tmp 24) (.tmp 26) 71 9 rfl B 5 i0 Tryd.underlying71 Tryd.underlying9 hi hz0 hz1 hz2 v1 (out.length + 1) _ (by simp [Act.eval]) (by exact q1) ⟨tx.toArray⟩ (by simp [Act.eval]) (by exact HL1.out.2.2.1) (by exact HL1.out.2.2.2) (by exact Nat.le_trans LB.out g1.size) ?_; intro v2 W2 q2 g2)
          | fail)
        all_goals
          have B1 := Tk.below_grown (w := wb.drew) AB.out.drew LB.out OB.out g1
          have B2 : Hid (Below B w W2) := Tk.below_grown B1 (Nat.le_trans LB.out g1.size) q1 g2
          have X2 : Hid (W2.heap[w.heap.size]? = some (.cells #[.int .i64 o, .int .i64 m, .slice a n cap] 37 (0, 0))) := (g2.block _ (Array.getElem?_eq_some_iff.1 f2).1 (Tk.row_ne q1 f2 (by decide))).trans f2
          have Q2 : Hid (W2.ownsRow B 5 1 v2 (out ++ 40 :: tx).length (Lib.byteCells (out ++ 40 :: tx))) := Tk.own_eq q2 (by simp [ByteArray.size]; omega) (by rw [Tk.str_cells, Lib.byteCells_append]; simp [Lib.byteCells])
          clear q1 g1 q2 g2 f1 f2 B1
          go_wp2_with fail
          go_meet
          exact ⟨v2, rfl, Q2.out, B2.out, X2.out⟩
      case rest =>
      obtain ⟨v2, rfl, HC⟩ := hcut
      obtain ⟨ca, cc, hv2⟩ := Tk.own_shape HC.out.1
      obtain ⟨cl, hcl⟩ : ∃ l, (out ++ 40 :: tx).length = l := ⟨_, rfl⟩
      rw [hcl] at hv2
      subst hv2
      have HCL : Hid ((out ++ 40 :: tx).length = cl) := hcl
      have hcb : cl ≤ 1000000100 := by rw [← hcl]; simp; omega
      have kc : wc.cell? ⟨w.heap.size, 2, none⟩ = some (.slice a n cap) := by have := HC.out.2.2; simp [World.cell?, this]
      clear hcl s0 sb
      go_wp2
      go_loopg [0, 31] n (fun g s i wr => ∃ (j : Nat) (cur : List UInt8) (ca : Option Addr) (cl cc : Nat), g + j = n ∧ i = .int .i64 j ∧ s = .slice ca cl cc ∧ cl ≤ 1000000100 ∧ Hid (cur.length = cl ∧ wr.ownsRow B 5 1 (.slice ca cl cc) cl (Lib.byteCells cur) ∧ Below B w wr ∧ Tm.Wrote (out ++ 40 :: tx) (Tm.txts (T.ks.take j)) cur))
      case atStart =>
        refine ⟨0, out ++ 40 :: tx, ca, cl, cc, by omega, rfl, rfl, hcb, HCL.out, ?_, HC.out.2.1, .inl (by simp [Tm.txts]), by simp [Tm.txts]⟩
        have := HC.out.1
        rw [HCL.out] at this
        exact this
      case round =>
        obtain ⟨j, cur, ca, cl, cc, hj, rfl, rfl, hcb, HJ⟩ := hrel
        have HTL : Hid (T.txt.length = tx.length + (Tm.txts T.ks).length + 2 ∧ (Tm.txts (T.ks.take j)).length ≤ (Tm.txts T.ks).length) := by
          refine ⟨?_, Tm.txts_le _ _⟩
          rw [HX.out.1]
          simp only [List.length_cons, List.length_append, List.length_nil]
          omega
        by_cases hjn : j < n
        · have hd : decide ((j : Int) < n) = true := decide_eq_true (by omega)
          have hjk : j < T.ks.length := by rw [HLI.out.2.1]; exact hjn
          have hxF := Tm.allForms_get T.ks HLI.out.2.2 j hjk
          have htk := Tm.txts_take T.ks j hjk
          have htl2 := Tm.txts_le T.ks (j + 1)
          obtain ⟨g, off, u, rfl, hg, q0, q1, q2, q3⟩ := HLI.out.1.kid j hjk
          obtain ⟨x, hx⟩ : ∃ x, T.ks[j] = x := ⟨_, rfl⟩
          rw [hx] at q0 q1 q3 hxF htk
          obtain ⟨au, cu, rfl⟩ := q3.shape
          obtain ⟨nx, hnx⟩ : ∃ n, x.ks.length = n := ⟨_, rfl⟩
          rw [hnx] at q2 q3
          obtain ⟨y0, hy0⟩ : ∃ y, x.op = y := ⟨_, rfl⟩
          obtain ⟨y1, hz1'⟩ : ∃ y, x.num = y := ⟨_, rfl⟩
          rw [hy0] at q0
          rw [hz1'] at q1
          have hc : ∀ p, wr.cell? ⟨g, p, none⟩ = w.cell? ⟨g, p, none⟩ := fun p => HJ.out.2.2.1.cell (p := ⟨g, p, none⟩) hg
          have hc0 : wr.cell? ⟨g, off + j * 3, none⟩ = some (.int .i64 y0) := by rw [hc]; exact q0
          have hc1 : wr.cell? ⟨g, off + j * 3 + 1, none⟩ = some (.int .i64 y1) := by rw [hc]; exact q1
          have hc2 : wr.cell? ⟨g, off + j * 3 + 2, none⟩ = some (.slice au nx cu) := by rw [hc]; exact q2
          have BJ : Hid (B ≤ wr.heap.size) := by show _ ≤ _; have := HJ.out.2.2.1.size; have := HOB.out.2.2; omega
          have HTK : Hid (Tm.txts (T.ks.take (j + 1)) = Tm.txts (T.ks.take j) ++ 32 :: x.txt ∧ (Tm.txts (T.ks.take (j + 1))).length ≤ (Tm.txts T.ks).length) := ⟨htk, htl2⟩
          by_cases hlong : 20000 < cl
          · have hd2 : decide ((20000 : Int) < cl) = true := decide_eq_true (by omega)
            have BA : Hid (Below B w (wr.alloc (.cells #[.int .i64 y0, .int .i64 y1, .slice au nx cu] 37))) := HJ.out.2.2.1.alloc BJ.out _
            have OA : Hid ((wr.alloc (.cells #[.int .i64 y0, .int .i64 y1, .slice au nx cu] 37)).ownsRow B 5 1 (.slice ca cl cc) cl (Lib.byteCells cur)) := HJ.out.2.1.alloc _
            clear hc q0 q1 q2 q3 hx hy0 hz1' hnx hxF htk htl2
            go_wp2
            go_ret
            refine ⟨_, cur, rfl, Tk.own_eq OA.out HJ.out.1.symm rfl, BA.out, ?_⟩
            obtain ⟨hW, hWl⟩ := HJ.out.2.2.2
            have e1 := HJ.out.1
            have e2 := HTL.out
            simp only [List.length_append, List.length_cons] at hW hWl
            exact ⟨.inr ⟨by omega, by omega⟩, by omega⟩
          · have hd2 : decide ((20000 : Int) < cl) = false := decide_eq_false (by omega)
            have hcur : cur = (out ++ 40 :: tx) ++ Tm.txts (T.ks.take j) := by
              rcases HJ.out.2.2.2.1 with h | h
              · exact h
              · have := HJ.out.1; omega
            obtain ⟨wa, hwa⟩ : ∃ y, wr.alloc (.cells #[.int .i64 y0, .int .i64 y1, .slice au nx cu] 37) = y := ⟨_, rfl⟩
            have AA : Hid (Below B w wa) := by show Below _ _ _; rw [← hwa]; exact HJ.out.2.2.1.alloc BJ.out _
            have LA : Hid (B ≤ wa.heap.size) := by show _ ≤ _; have := AA.out.size; have := HOB.out.2.2; omega
            have XA : Hid (wa.heap[wr.heap.size]? = some (.cells #[.int .i64 y0, .int .i64 y1, .slice au nx cu] 37 (0, 0))) := by show _ = _; rw [← hwa]; exact heap_alloc_new wr _
            have OA : Hid (wa.ownsRow B 5 1 (.slice ca cl cc) cl (Lib.byteCells cur)) := by show World.ownsRow _ _ _ _ _ _ _; rw [← hwa]; exact HJ.out.2.1.alloc _
            obtain ⟨wb2, hwb2⟩ : ∃ y, wa.alloc (.cells #[.int .u8 32] 5) = y := ⟨_, rfl⟩
            have AB2 : Hid (Below B w wb2) := by show Below _ _ _; rw [← hwb2]; exact AA.out.alloc LA.out _
            have LB2 : Hid (B ≤ wb2.heap.size) := by show _ ≤ _; have := AB2.out.size; have := HOB.out.2.2; omega
            have XB2 : Hid (wb2.heap[wr.heap.size]? = some (.cells #[.int .i64 y0, .int .i64 y1, .slice au nx cu] 37 (0, 0))) := by show _ = _; rw [← hwb2, Below.heap_alloc _ _ _ (Array.getElem?_eq_some_iff.1 XA.out).1]; exact XA.out
            have OB2 : Hid (wb2.ownsRow B 5 1 (.slice ca cl cc) cl (Lib.byteCells cur)) := by show World.ownsRow _ _ _ _ _ _ _; rw [← hwb2]; exact OA.out.alloc _
            have xa : ∀ W : World, W.heap[wr.heap.size]? = some (.cells #[.int .i64 y0, .int .i64 y1, .slice au nx cu] 37 (0, 0)) → W.cell? ⟨wr.heap.size, 0, none⟩ = some (.int .i64 y0) ∧ W.cell? ⟨wr.heap.size, 1, none⟩ = some (.int .i64 y1) ∧ W.cell? ⟨wr.heap.size, 2, none⟩ = some (.slice au nx cu) := fun W h => by simp [World.cell?, h]
            have XC : Hid _ := xa
            obtain ⟨xa0, xa1, xa2⟩ := xa wa XA.out
            obtain ⟨xb0, xb1, xb2⟩ := xa (wa.alloc (.cells #[.int .u8 32] 5)) (by rw [hwb2]; exact XB2.out)
            have F2 : Hid (∀ W1 : World, (∀ k, k < wb2.heap.size → some k ≠ (Value.slice ca cl cc).ownBlock → W1.heap[k]? = wb2.heap[k]?) → W1.heap[wr.heap.size]? = some (.cells #[.int .i64 y0, .int .i64 y1, .slice au nx cu] 37 (0, 0))) := fun W1 hb => (hb _ (Array.getElem?_eq_some_iff.1 XB2.out).1 (Tk.row_ne OB2.out XB2.out (by decide))).trans XB2.out
            have HLL : Hid (cl + 1 ≤ maxLen ∧ (cl + 1) * 1 ≤ 140737488355328) := by show _ ∧ _; unfold maxLen; omega
            have HCUR : Hid (cur = (out ++ 40 :: tx) ++ Tm.txts (T.ks.take j) ∧ cur.length = cl) := ⟨hcur, HJ.out.1⟩
            have HWA : Hid (wr.alloc (.cells #[.int .i64 y0, .int .i64 y1, .slice au nx cu] 37) = wa) := hwa
            have HWB2 : Hid (wa.alloc (.cells #[.int .u8 32] 5) = wb2) := hwb2
            have HCALL : Hid (∀ (W : World) (sv1 : Value), Below B w W → B ≤ W.heap.size → W.ownsRow B 5 1 sv1 (cl + 1) (Lib.byteCells cur ++ [.int .u8 32]) →
                Calls Tryd.prog 42 #[sv1, .agg #[.int .i64 y0, .int .i64 y1, .slice au nx cu]] W fun e w' => ∃ v' bs, e = .returned v' ∧ w'.ownsRow B 5 1 v' bs.length (Lib.byteCells bs) ∧ Below B W w' ∧ Tm.Wrote (cur ++ [32]) x.txt bs) := by
              intro W sv1 hW hBW hq
              have hlt : (cur ++ [32]).length + x.txt.length ≤ 1000000000 := by
                have e1 := congrArg List.length htk
                have e2 := congrArg List.length hcur
                have e3 := HX.out
                have e4 := HTL.out
                rw [e3.1] at e3
                simp only [List.length_append, List.length_cons, List.length_nil] at e1 e2 e3 e4 ⊢
                omega
              have := HI.out x (.slice au nx cu) B (cur ++ [32]) sv1 W (q3.below hW) hxF hBW (HOB.out.1.below hW HOB.out.2.1) HOB.out.2.1 (HTab.out.on hW) (Tk.own_eq hq (by rw [List.length_append, HJ.out.1]; rfl) (by rw [Lib.byteCells_append]; rfl)) hlt
              rw [hy0, hz1'] at this
              exact this
            clear hc q0 q1 q2 q3 hx hy0 hz1' hnx hxF htk htl2 hwa hwb2 hcur xa
            go_upto_region 10 with fail
            rw [HWA.out]
            clear HWA
            go_region_law (first
              | (go_simp; go_at_call 42; refine (HCALL.out _ v1 (by exact Tk.below_grown (w := wb2.drew) AB2.out.drew LB2.out OB2.out g1) (by exact Nat.le_trans LB2.out g1.size) (by exact p1)).mono ?_; rintro e W3 ⟨v3, bs, rfl, p3, b3, hW3⟩)
              | ((with_reducible refine Tk.at_op (Op.call { callee := Callee.builtin Builtin.append, args := #[.tmp 39, .tmp 40], argTypes := #[71, 71] }) ?hop ?_); (case hop => with_reducible rfl); rw [HWB2.out]; refine Tk.step_own rfl (.tmp 39) (.tmp 40) 71 rfl B 5 i0 (.int .u8 0) 1 1 Tryd.underlying71 hi hz0 hz1 hz2 rfl (by decide) (.slice ca cl cc) cl (Lib.byteCells cur) (by simp [Act.eval]) (by exact OB2.out) ⟨wa.heap.size, 0, none⟩ 1 1 [.int .u8 32] (by simp [Act.eval]) rfl (by have := Tk.one_cell wa 32 5; rw [HWB2.out] at this; exact this) (Tk.one_one 32) (by exact HLL.out.1) (by exact HLL.out.2) (by exact LB2.out) ?_; intro v1 W1 p1 g1; obtain ⟨z0, z1, z2⟩ := XC.out W1 (F2.out W1 (by exact g1.block)))
              | fail)
            all_goals
              have B1 := Tk.below_grown (w := wb2.drew) AB2.out.drew LB2.out OB2.out g1
              have B3 : Hid (Below B w W3) := B1.trans b3
              obtain ⟨ca3, cc3, rfl⟩ := Tk.own_shape p3
              obtain ⟨l3, hl3⟩ : ∃ l, bs.length = l := ⟨_, rfl⟩
              have HP3 : Hid (bs.length = l3 ∧ W3.ownsRow B 5 1 (.slice ca3 l3 cc3) l3 (Lib.byteCells bs)) := by rw [hl3] at p3; exact ⟨hl3, p3⟩
              have HW3 : Hid (Tm.Wrote (out ++ 40 :: tx) (Tm.txts (T.ks.take (j + 1))) bs) := by
                obtain ⟨k1, k2⟩ := hW3
                obtain ⟨u1, u2⟩ := HCUR.out
                have u3 := congrArg List.length u1
                simp only [List.length_append, List.length_cons, List.length_nil] at k1 k2 u3
                refine ⟨?_, ?_⟩
                · rw [HTK.out.1]
                  rcases k1 with k1 | k1
                  · left
                    rw [k1, u1]
                    simp
                  · right
                    simp only [List.length_append, List.length_cons]
                    exact ⟨k1.1, by omega⟩
                · rw [HTK.out.1]
                  simp only [List.length_append, List.length_cons]
                  omega
              have hl4 : l3 ≤ 1000000100 := by
                obtain ⟨_, k2⟩ := HW3.out
                have e3 := HX.out
                rw [e3.1] at e3
                have e4 := HTK.out.2
                simp only [List.length_append, List.length_cons, List.length_nil] at k2 e3
                omega
              rw [hl3]
              clear p1 g1 p3 b3 hW3 B1 z0 z1 z2 hl3 xa0 xa1 xa2 xb0 xb1 xb2
              go_wp2
              go_roundg (gk - 1)
              case measure => omega
              case rel => exact ⟨j + 1, bs, ca3, l3, cc3, by omega, by go_num, rfl, hl4, HP3.out.1, HP3.out.2, B3.out, HW3.out⟩
        · have hd : decide ((j : Int) < n) = false := decide_eq_false (by omega)
          have hall : T.ks.take j = T.ks := List.take_of_length_le (by rw [HLI.out.2.1]; omega)
          have BJ : Hid (B ≤ wr.heap.size) := by show _ ≤ _; have := HJ.out.2.2.1.size; have := HOB.out.2.2; omega
          have hrow := HJ.out.2.1
          go_wp2_with (at_builtin; refine wpList_append_own _ rfl _ _ 71 rfl B 5 i0 (.int .u8 0) 1 1 Tryd.underlying71 hi hz0 hz1 hz2 rfl (by decide) _ _ _ rfl (hrow.alloc _) ⟨wr.heap.size, 0, none⟩ 1 1 [.int .u8 41] rfl rfl (Tk.one_cell wr 41 5) (Tk.one_one 41) ?c3 ?c4 ?c5 ?_)
          case c3 => unfold maxLen; omega
          case c4 => omega
          case c5 => have := BJ.out; simp; omega
          intro v6 W6 O6 g6 _
          have B6 : Hid (Below B w W6) := Tk.below_grown (HJ.out.2.2.1.alloc BJ.out _) (by have := BJ.out; simp; omega) (hrow.alloc _) g6
          have Q6 : Hid (W6.ownsRow B 5 1 v6 (cur ++ [41]).length (Lib.byteCells (cur ++ [41]))) := Tk.own_eq O6 (by rw [List.length_append, HJ.out.1]; rfl) (by rw [Lib.byteCells_append]; rfl)
          clear O6 g6 hrow
          go_wp2
          go_ret
          refine ⟨_, cur ++ [41], rfl, Q6.out, B6.out, ?_⟩
          obtain ⟨k1, k2⟩ := HJ.out.2.2.2
          rw [hall] at k1 k2
          rw [HX.out.1]
          simp only [List.length_append, List.length_cons] at k1 k2
          refine ⟨?_, by simp only [List.length_append, List.length_cons, List.length_nil]; omega⟩
          rcases k1 with k1 | k1
          · left
            rw [k1]
            simp
          · right
            simp only [List.length_append, List.length_cons, List.length_nil]
            omega

end Go.Proofs
