/-
  The contract of the document's read.
-/
import Derived.Test.YtehmmfmofdgheaaDoorTReadS
import Derived.Test.YtehmmfmofdgheaaDoorAllTChk
namespace Go.Proofs
open Go.RowKit

theorem Tk.suffix_drop {l a r : List UInt8} {k : Nat} (h : l.drop k = a ++ r) : l.drop (l.length - r.length) = r := by
  obtain ⟨b, hb⟩ : ∃ b, l = b ++ r := ⟨l.take k ++ a, by rw [List.append_assoc, ← h, List.take_append_drop]⟩
  rw [hb, List.length_append, Nat.add_sub_cancel, List.drop_left]
theorem Tk.numL_le {l : List UInt8} {n m : Nat} (h : Tk.numL l = some (n, m)) : m ≤ l.length := by
  unfold Tk.numL at h
  obtain ⟨k, _, he⟩ := Option.map_eq_some_iff.1 h
  obtain ⟨rfl, rfl⟩ := Prod.mk.inj he
  exact (List.takeWhile_sublist _).length_le
theorem Tk.numL_small {l : List UInt8} {n m : Nat} (h : Tk.numL l = some (n, m)) : n ≤ 1099511627776 := (Tk.dec_numL h).2
theorem Tk.results_got {fn : Func} {p : Tmp} (h : fn.results = #[.cell p 98]) (tmps : Array Value) (w : World) (q : Nat) (a b c d : Value)
    (hp : tmps.getD p undef = .pointer (some ⟨q, 0, none⟩)) (hq : w.heap[q]? = some (.cells #[a, b, c, d] 98 (0, 0))) :
    (results fn tmps).run Tryd.prog w = .ok (.agg #[a, b, c, d]) w := results_cell_row h tmps w q 98 #[a, b, c, d] (0, 0) _ hp hq Tryd.underlying98 rfl (by kernel_rfl)
/-- A term with these kids, if it is shut. -/
def Tk.shut (k : Nat) (f : Option (List Tm × List UInt8)) : Option (Tm × List UInt8) := match f with
  | none => none
  | some (ks, r) => if Lib.hasPrefix r [41] = true then some (Tm.mk k 0 ks, r.drop 1) else none
theorem Tryd.infoTerm : (Tryd.prog.info? 37).map (fun i => (i.zero, i.size, i.bytes)) = some (some (.agg #[.int .i64 0, .int .i64 0, .slice none 0 0]), 3, 40) := by kernel_rfl

set_option maxHeartbeats 8000000 in
set_option maxRecDepth 20000 in
theorem Tryd.read_succ (L : Nat) (hL : L ≤ 24) (hRC : Tk.ReadC L) : Tk.ReadC (L + 1) := by
  intro s i w hi hs
  obtain ⟨dp, hdp⟩ : ∃ x : Int, 25 - ((L + 1 : Nat) : Int) = x := ⟨_, rfl⟩
  have hdp1 : dp ≤ 24 := by omega
  have hdp0 : 0 ≤ dp := by omega
  have hd24 : decide ((24 : Int) < dp) = false := decide_eq_false (by omega)
  have hdp2 : dp + 1 = 25 - (L : Int) := by omega
  rw [hdp]
  obtain ⟨l, hl⟩ : ∃ l, s.data.toList.drop i = l := ⟨_, rfl⟩
  have hll : l.length = s.size - i := by rw [← hl, List.length_drop, Tk.size_list]
  obtain ⟨o, ho⟩ : ∃ o, Tk.readF (L + 1) l = o := ⟨_, rfl⟩
  have HQ : Hid (Tk.readF (L + 1) l = o) := ho
  rw [hl, ho]
  have HRC : Hid (∀ (i : Nat) (W : World), i ≤ s.size → Calls Tryd.prog 59 #[.string s, .int .i64 i, .int .i64 (dp + 1)] W fun e w' => Tk.Got4 L i s (Tk.readF L (s.data.toList.drop i)) W e w') := fun i W hi => by rw [hdp2]; exact hRC s i W hi hs
  have HA : Hid (∀ (W : World) (x : ByteArray) (k : Nat) (p : Bool), k ≤ s.size → x.size ≤ 20000 → Lib.hasPrefix (s.data.toList.drop k) x.data.toList = p → Calls Tryd.prog 75 #[.string s, .int .i64 k, .string x] W fun e w' => e = .returned (.bool p) ∧ w' = W) := fun W x k p hk hx hp => Tryd.refAt_any s x k p W hk (by omega) hx hp
  have HNUM : Hid (∀ (W : World) (k : Nat), k ≤ s.size → Calls Tryd.prog 76 #[.string s, .int .i64 k] W fun e w' => e = .returned (Tk.numV (Tk.numL (s.data.toList.drop k)) k) ∧ Below W.heap.size W w') := fun W k hk => Tryd.refNum_any s k W hk (by omega)
  have HN0 : Hid ((w.alloc (.cells #[.int .i64 0, .int .i64 0, .slice none 0 0, .int .i64 0] 98)).heap[w.heap.size]? = some (.cells #[.int .i64 0, .int .i64 0, .slice none 0 0, .int .i64 0] 98 (0, 0))) := heap_alloc_new w _
  have HB0 : Hid (Below w.heap.size w (w.alloc (.cells #[.int .i64 0, .int .i64 0, .slice none 0 0, .int .i64 0] 98))) := (Below.refl _ w).alloc (Nat.le_refl _) _
  have S0 : Hid ((w.alloc (.cells #[.int .i64 0, .int .i64 0, .slice none 0 0, .int .i64 0] 98)).heap.size = w.heap.size + 1) := by show _ = _; simp
  have HLL : Hid (s.data.toList.drop i = l ∧ l.length = s.size - i ∧ s.data.toList.length = s.size) := ⟨hl, hll, Tk.size_list s⟩
  have BZ : ∀ W : World, Below w.heap.size w W → ∀ a b c d : Value, Below w.heap.size w ((((W.setCell ⟨w.heap.size, 0, none⟩ a).setCell ⟨w.heap.size, 1, none⟩ b).setCell ⟨w.heap.size, 2, none⟩ c).setCell ⟨w.heap.size, 3, none⟩ d) := fun W h a b c d => Tk.bsetCell (Tk.bsetCell (Tk.bsetCell (Tk.bsetCell h (Nat.le_refl _) _) (Nat.le_refl _) _) (Nat.le_refl _) _) (Nat.le_refl _) _
  have HBZ : Hid _ := BZ
  clear hRC hl hll ho hdp hdp2 BZ
  cases h36 : Lib.hasPrefix l [36]
  rotate_left
  · -- a variable
    have hlp : 0 < l.length := by rw [Tk.pre_true h36]; simp
    have hi1 : i + 1 ≤ s.size := by have := HLL.out.2.1; omega
    have hd1 : l.drop 1 = s.data.toList.drop (i + 1) := by rw [← HLL.out.1, List.drop_drop]
    have HQ2 : Hid ((match Tk.numL (s.data.toList.drop (i + 1)) with | none => none | some (n, m) => if 3 < n then none else some (.mk 2 (n : Int) [], (s.data.toList.drop (i + 1)).drop m)) = o) := by
      have := HQ.out
      rw [Tk.readF, if_pos h36, hd1] at this
      exact this
    have HP : Hid (Lib.hasPrefix (s.data.toList.drop i) [36] = true) := by rw [HLL.out.1]; exact h36
    clear h36 hlp hd1
    go_enter Tryd.func59, Tryd.ntmps59
    go_wp2_with fail
    refine Calls.mono (HA.out _ ⟨#[36]⟩ i true (by omega) (by decide) HP.out) ?_
    rintro e W1 ⟨rfl, rfl⟩
    go_wp2_with fail
    refine Calls.mono (HNUM.out _ (i + 1) hi1) ?_
    rintro e W2 ⟨rfl, b2⟩
    cases hn : Tk.numL (s.data.toList.drop (i + 1)) with
    | none =>
      have HE : Hid (none = o) := by have := HQ2.out; rw [hn] at this; exact this
      simp only [Tk.numV]
      have B3 : Hid (Below w.heap.size w (W2.alloc (.cells #[.int .i64 0, .int .i64 0, .slice none 0 0, .int .i64 (-1)] 98))) := (HB0.out.trans (b2.mono HB0.out.size)).alloc (by have := b2.size; have := S0.out; omega) _
      have N3 : Hid ((W2.alloc (.cells #[.int .i64 0, .int .i64 0, .slice none 0 0, .int .i64 (-1)] 98)).heap[w.heap.size]? = _) := (Below.heap_alloc _ _ _ (by have := b2.size; have := S0.out; omega)).trans ((b2.block _ (by have := S0.out; omega)).trans HN0.out)
      obtain ⟨⟨z0, z1, z2, z3⟩, y0, y1, y2, y3⟩ := Tk.row4 N3.out
      clear hn b2
      go_wp2
      refine bodyPost_ret (Tk.results_got Tryd.results59 _ _ w.heap.size _ _ _ _ rfl (Tk.put4 N3.out)) rfl ?_
      rw [← HE.out]
      exact ⟨_, _, _, _, _, _, rfl, HBZ.out _ B3.out _ _ _ _, rfl⟩
    | some q =>
      obtain ⟨n, m⟩ := q
      have hm := Tk.numL_le hn
      have hnb := Tk.numL_small hn
      have hsl := HLL.out.2.2
      rw [List.length_drop, hsl] at hm
      simp only [Tk.numV]
      obtain ⟨en, hen⟩ : ∃ en : Nat, i + 1 + m = en := ⟨_, rfl⟩
      rw [hen]
      have B3 : Hid (Below w.heap.size w (W2.alloc (.cells #[.int .i64 1, .int .i64 n, .slice none 0 0, .int .i64 en] 98))) := (HB0.out.trans (b2.mono HB0.out.size)).alloc (by have := b2.size; have := S0.out; omega) _
      have N3 : Hid ((W2.alloc (.cells #[.int .i64 1, .int .i64 n, .slice none 0 0, .int .i64 en] 98)).heap[w.heap.size]? = _) := (Below.heap_alloc _ _ _ (by have := b2.size; have := S0.out; omega)).trans ((b2.block _ (by have := S0.out; omega)).trans HN0.out)
      obtain ⟨⟨z0, z1, z2, z3⟩, y0, y1, y2, y3⟩ := Tk.row4 N3.out
      by_cases h3 : 3 < n
      · have HE : Hid (none = o) := by have := HQ2.out; rw [hn] at this; simp only at this; rw [if_pos h3] at this; exact this
        clear hn b2
        go_wp2
        refine bodyPost_ret (Tk.results_got Tryd.results59 _ _ w.heap.size _ _ _ _ rfl (Tk.put4 N3.out)) rfl ?_
        rw [← HE.out]
        exact ⟨_, _, _, _, _, _, rfl, HBZ.out _ B3.out _ _ _ _, rfl⟩
      · have HE : Hid (some (Tm.mk 2 (n : Int) [], (s.data.toList.drop (i + 1)).drop m) = o) := by have := HQ2.out; rw [hn] at this; simp only at this; rw [if_neg h3] at this; exact this
        have HLen : Hid (((s.data.toList.drop (i + 1)).drop m).length = s.size - en) := by show _ = _; rw [List.length_drop, List.length_drop, hsl]; omega
        clear hn b2
        go_wp2
        refine bodyPost_ret (Tk.results_got Tryd.results59 _ _ w.heap.size _ _ _ _ rfl (Tk.put4 N3.out)) rfl ?_
        rw [← HE.out]
        exact ⟨_, _, _, _, _, _, rfl, HBZ.out _ B3.out _ _ _ _, by rw [HLen.out]; omega, by rw [HLen.out]; omega, rfl, rfl, Tk.leaf_lies _ _ _ _ _ rfl⟩
  · have HP36 : Hid (Lib.hasPrefix (s.data.toList.drop i) [36] = false) := by rw [HLL.out.1]; exact h36
    cases h40 : Lib.hasPrefix l [40]
    · -- a number
      have HQ2 : Hid ((match Tk.numL l with | none => none | some (n, m) => some (.mk 1 (n : Int) [], l.drop m)) = o) := by
        have := HQ.out
        rw [Tk.readF, if_neg (by rw [h36]; decide), if_pos h40] at this
        exact this
      have HP : Hid (Lib.hasPrefix (s.data.toList.drop i) [40] = false) := by rw [HLL.out.1]; exact h40
      clear h36 h40
      go_enter Tryd.func59, Tryd.ntmps59
      go_wp2_with fail
      refine Calls.mono (HA.out _ ⟨#[36]⟩ i false (by omega) (by decide) HP36.out) ?_
      rintro e W1 ⟨rfl, rfl⟩
      go_wp2_with fail
      refine Calls.mono (HA.out _ ⟨#[40]⟩ i false (by omega) (by decide) HP.out) ?_
      rintro e W1 ⟨rfl, rfl⟩
      go_wp2_with fail
      refine Calls.mono (HNUM.out _ i (by omega)) ?_
      rintro e W2 ⟨rfl, b2⟩
      rw [HLL.out.1]
      have B3 : Hid (Below w.heap.size w W2) := HB0.out.trans (b2.mono HB0.out.size)
      have N3 : Hid (W2.heap[w.heap.size]? = _) := (b2.block _ (by have := S0.out; omega)).trans HN0.out
      obtain ⟨⟨z0, z1, z2, z3⟩, y0, y1, y2, y3⟩ := Tk.row4 N3.out
      cases hn : Tk.numL l with
      | none =>
        have HE : Hid (none = o) := by have := HQ2.out; rw [hn] at this; exact this
        simp only [Tk.numV]
        clear hn b2
        go_wp2
        refine bodyPost_ret (Tk.results_got Tryd.results59 _ _ w.heap.size _ _ _ _ rfl (Tk.put4 N3.out)) rfl ?_
        rw [← HE.out]
        exact ⟨_, _, _, _, _, _, rfl, HBZ.out _ B3.out _ _ _ _, rfl⟩
      | some q =>
        obtain ⟨n, m⟩ := q
        have HE : Hid (some (Tm.mk 1 (n : Int) [], l.drop m) = o) := by have := HQ2.out; rw [hn] at this; exact this
        have hm := Tk.numL_le hn
        have hll := HLL.out.2.1
        obtain ⟨en, hen⟩ : ∃ en : Nat, i + m = en := ⟨_, rfl⟩
        have HLen : Hid ((l.drop m).length = s.size - en ∧ en ≤ s.size ∧ i ≤ en) := by refine ⟨?_, ?_, ?_⟩ <;> (try rw [List.length_drop]) <;> omega
        simp only [Tk.numV]
        rw [hen]
        clear hn b2 hm hll hen
        go_wp2
        refine bodyPost_ret (Tk.results_got Tryd.results59 _ _ w.heap.size _ _ _ _ rfl (Tk.put4 N3.out)) rfl ?_
        rw [← HE.out]
        have hh := HLen.out
        exact ⟨_, _, _, _, _, _, rfl, HBZ.out _ B3.out _ _ _ _, by rw [hh.1]; omega, by rw [hh.1]; omega, rfl, rfl, Tk.leaf_lies _ _ _ _ _ rfl⟩
    · -- a term with kids
      have hlp : 0 < l.length := by rw [Tk.pre_true h40]; simp
      have hi1 : i + 1 ≤ s.size := by have := HLL.out.2.1; omega
      have hd1 : l.drop 1 = s.data.toList.drop (i + 1) := by rw [← HLL.out.1, List.drop_drop]
      have HP : Hid (Lib.hasPrefix (s.data.toList.drop i) [40] = true) := by rw [HLL.out.1]; exact h40
      obtain ⟨l1, hl1⟩ : ∃ x, s.data.toList.drop (i + 1) = x := ⟨_, rfl⟩
      have HL1 : Hid (s.data.toList.drop (i + 1) = l1) := hl1
      have HQ2 : Hid ((if Tk.opFind l1 = 0 then none else match Tk.kidsF (Tk.readF L) (Tm.kidsOf (Tk.opFind l1)) (l1.drop (Tm.opText (Tk.opFind l1)).length) with
          | none => none
          | some (ks, r) => if Lib.hasPrefix r [41] = true then some (Tm.mk (Tk.opFind l1) 0 ks, r.drop 1) else none) = o) := by
        have := HQ.out
        rw [Tk.readF, if_neg (by rw [h36]; decide), if_neg (by rw [h40]; decide), hd1, hl1] at this
        exact this
      clear h36 h40 hlp hd1 hl1
      obtain ⟨i0, hinf, hz0, hz1, hz2⟩ := info_parts Tryd.infoTerm
      go_enter Tryd.func59, Tryd.ntmps59
      go_wp2_with fail
      refine Calls.mono (HA.out _ ⟨#[36]⟩ i false (by omega) (by decide) HP36.out) ?_
      rintro e W1 ⟨rfl, rfl⟩
      go_wp2_with fail
      refine Calls.mono (HA.out _ ⟨#[40]⟩ i true (by omega) (by decide) HP.out) ?_
      rintro e W1 ⟨rfl, rfl⟩
      go_wp2
      go_loopg [8] 12 (fun g ov wr => ∃ k : Nat, g + k = 15 ∧ 3 ≤ k ∧ ov = .int .i64 k ∧ Hid (Below w.heap.size w wr ∧ wr.heap[w.heap.size]? = some (.cells #[.int .i64 0, .int .i64 0, .slice none 0 0, .int .i64 0] 98 (0, 0))) ∧ Hid (∀ j, 3 ≤ j → j < k → Tk.opFind l1 ≠ j))
      case atStart => exact ⟨3, by omega, by omega, rfl, ⟨HB0.out, HN0.out⟩, fun j h1 h2 => by omega⟩
      case round =>
        obtain ⟨k, hgk, hk3, rfl, HW, HNF⟩ := hrel
        by_cases hk : k ≤ 14
        · obtain ⟨tx, htx⟩ : ∃ x : ByteArray, x = ⟨(Tm.opText k).toArray⟩ := ⟨_, rfl⟩
          have HTX : Hid (tx = ⟨(Tm.opText k).toArray⟩ ∧ tx.size = (Tm.opText k).length) := ⟨htx, by rw [htx]; simp [ByteArray.size]⟩
          have HWD : Hid (∀ W, Calls Tryd.prog 72 #[.int .i64 k] W fun e w' => e = .returned (.string tx) ∧ Below W.heap.size W w') := fun W => by rw [htx]; exact Tryd.refWord_any k hk3 hk W
          have htl : tx.size ≤ 3 := by have := HTX.out.2; have := Tm.opText_le (k : Int); omega
          clear htx
          go_wp2_with fail
          refine Calls.mono (HWD.out _) ?_
          rintro e W2 ⟨rfl, b2⟩
          have HB2 : Hid (Below w.heap.size w W2 ∧ W2.heap[w.heap.size]? = some (.cells #[.int .i64 0, .int .i64 0, .slice none 0 0, .int .i64 0] 98 (0, 0))) := ⟨HW.out.1.trans (b2.mono HW.out.1.size), (b2.block _ (Array.getElem?_eq_some_iff.1 HW.out.2).1).trans HW.out.2⟩
          clear b2
          obtain ⟨fb, hfb⟩ : ∃ x, (Tk.opFind l1 == k) = x := ⟨_, rfl⟩
          have HPX : Hid (Lib.hasPrefix (s.data.toList.drop (i + 1)) (tx ++ ⟨#[32]⟩ : ByteArray).data.toList = fb) := by
            show _ = _
            rw [HL1.out, ← hfb, ← Tk.find_pre l1 k hk3 hk]
            congr 1
            rw [HTX.out.1]
            simp
          have HXS : Hid ((tx ++ (⟨#[32]⟩ : ByteArray)).size ≤ 20000) := by show _ ≤ _; rw [ByteArray.size_append]; show tx.size + 1 ≤ _; omega
          go_wp2_with fail
          refine Calls.mono (HA.out _ (tx ++ ⟨#[32]⟩) (i + 1) fb (by omega) HXS.out HPX.out) ?_
          rintro e W3 ⟨rfl, rfl⟩
          cases fb
          · have HNE : Hid (Tk.opFind l1 ≠ k) := by show _ ≠ _; simpa using hfb
            clear hfb
            go_wp2
            go_roundg (gk - 1)
            case measure => omega
            case rel => exact ⟨k + 1, by omega, by omega, by go_num, HB2.out, fun j h1 h2 => by
              by_cases e : j = k
              · rw [e]; exact HNE.out
              · exact HNF.out j h1 (by omega)⟩
          · have hfe : Tk.opFind l1 = k := by simpa using hfb
            obtain ⟨hw1, _, _, _⟩ := Tk.text_find (l := l1) (by omega)
            rw [hfe] at hw1
            have hl1len : l1.length = s.size - (i + 1) := by rw [← HL1.out, List.length_drop, HLL.out.2.2]
            have hpl : (Tm.opText k).length ≤ l1.length := by rw [hw1, List.length_append]; omega
            have htxs := HTX.out.2
            obtain ⟨kk, hkk⟩ : ∃ x, Tm.kidsOf (k : Int) = x := ⟨_, rfl⟩
            have hkk1 : 1 ≤ kk := by rw [← hkk]; unfold Tm.kidsOf; (repeat' split) <;> omega
            have hkk2 : kk ≤ 2 := by rw [← hkk]; unfold Tm.kidsOf; (repeat' split) <;> omega
            have HKD : Hid (∀ W, Calls Tryd.prog 77 #[.int .i64 k] W fun e w' => e = .returned (.int .i64 kk) ∧ w' = W) := fun W => by have := Tryd.refKids_any k W; rw [hkk] at this; exact this
            obtain ⟨f0, hf0⟩ : ∃ x, Tk.kidsF (Tk.readF L) kk (l1.drop (Tm.opText k).length) = x := ⟨_, rfl⟩
            have HQ3 : Hid (Tk.shut k f0 = o) := by
              have := HQ2.out
              rw [hfe, if_neg (by omega), hkk, hf0] at this
              exact this
            have HF0 : Hid (Tk.kidsF (Tk.readF L) kk (s.data.toList.drop (i + 1 + (Tm.opText k).length)) = f0) := by
              show _ = _
              rw [← hf0, ← HL1.out, List.drop_drop]
            have hp0 : i + 1 + tx.size ≤ s.size := by omega
            have HTS : Hid (tx.size = (Tm.opText k).length) := htxs
            clear hw1 hfe hfb hl1len hpl htxs hkk hf0 HNF HPX HXS HTX
            obtain ⟨p9, hp9⟩ : ∃ x, W3.heap.size = x := ⟨_, rfl⟩
            go_wp2_with fail
            refine Calls.mono (HWD.out _) ?_
            rintro e W5 ⟨rfl, b5⟩
            have R0 : Hid (Tk.RkS L k w p9 (.slice none 0 0) [] W5) := by
              have hb := HB2.out
              have hlt := (Array.getElem?_eq_some_iff.1 hb.2).1
              have hn := heap_alloc_new W3 (.cells #[.int .i64 k, .int .i64 0, .slice none 0 0] 37)
              rw [hp9] at hn hlt
              refine ⟨(b5.block _ (by simp; omega)).trans ((Below.heap_alloc _ _ _ (by omega)).trans hb.2), (b5.block _ (by simp; omega)).trans hn, World.ownsRow_nil _ _ _ _, fun q hq => (by cases hq), ?_, hlt⟩
              exact (hb.1.alloc hb.1.size _).trans (b5.mono (by have := hb.1.size; simp; omega))
            clear b5 hp9
            go_wp2
            go_loopg [10, 11] kk (fun g pv nv wr => ∃ (qs : List (Tm × Value)) (v : Value) (pos : Nat), g + qs.length = kk ∧ nv = .int .i64 qs.length ∧ pv = .int .i64 pos ∧ pos ≤ s.size ∧ i ≤ pos ∧ Hid (Tk.RkS L k w p9 v qs wr) ∧ Hid (f0 = (Tk.kidsF (Tk.readF L) (kk - qs.length) (s.data.toList.drop pos)).map (fun p => (qs.map (·.1) ++ p.1, p.2))))
            case atStart =>
              refine ⟨[], .slice none 0 0, i + 1 + tx.size, by simp, rfl, by go_num, hp0, by omega, R0.out, ?_⟩
              show _ = _
              rw [HTS.out, ← HF0.out]
              cases hq : Tk.kidsF (Tk.readF L) kk (s.data.toList.drop (i + 1 + (Tm.opText k).length)) with
              | none => simp
              | some p => simp
            case round =>
              obtain ⟨qs, v, pos, hgq, rfl, rfl, hps, hips, HR, HK⟩ := hrel
              obtain ⟨av, cv, rfl⟩ := Tk.own_shape HR.out.own
              have hpz := HR.out.lt
              have hbz := HR.out.big
              by_cases hq : qs.length < kk
              · obtain ⟨m, hm⟩ : ∃ m, kk - qs.length = m + 1 := ⟨kk - qs.length - 1, by omega⟩
                go_wp2_with fail
                refine Calls.mono (HKD.out _) ?_
                rintro e W6 ⟨rfl, rfl⟩
                cases hpb : Lib.hasPrefix (s.data.toList.drop pos) [32]
                · have HE : Hid (none = o) := by
                    have h1 := HK.out
                    rw [hm, Tk.kidsF_no _ _ _ _ hpb] at h1
                    have := HQ3.out
                    rw [h1] at this
                    exact this
                  have HPB : Hid (Lib.hasPrefix (s.data.toList.drop pos) [32] = false) := hpb
                  obtain ⟨⟨z0, z1, z2, z3⟩, y0, y1, y2, y3⟩ := Tk.row4 HR.out.res
                  clear hpb hm
                  go_wp2_with fail
                  refine Calls.mono (HA.out _ ⟨#[32]⟩ pos false (by omega) (by decide) HPB.out) ?_
                  rintro e W7 ⟨rfl, rfl⟩
                  go_wp2
                  refine bodyPost_ret (Tk.results_got Tryd.results59 _ _ w.heap.size _ _ _ _ rfl (Tk.put4 HR.out.res)) rfl ?_
                  rw [← HE.out]
                  exact ⟨_, _, _, _, _, _, rfl, HBZ.out _ HR.out.below _ _ _ _, rfl⟩
                · have HPB : Hid (Lib.hasPrefix (s.data.toList.drop pos) [32] = true) := hpb
                  have hpp : pos + 1 ≤ s.size := by
                    have h1 := Tk.pre_len hpb
                    rw [List.length_drop, HLL.out.2.2] at h1
                    simp at h1
                    omega
                  have HM : Hid (kk - qs.length = m + 1) := hm
                  clear hpb hm
                  go_wp2_with fail
                  refine Calls.mono (HA.out _ ⟨#[32]⟩ pos true (by omega) (by decide) HPB.out) ?_
                  rintro e W7 ⟨rfl, rfl⟩
                  go_wp2_with fail
                  refine Calls.mono (HRC.out (pos + 1) _ hpp) ?_
                  rintro e W8 ⟨op', n', a', len', cap', en, rfl, b8, h8⟩
                  have R8 : Hid (Tk.RkS L k w p9 (.slice av qs.length cv) qs W8) := HR.out.step b8
                  cases hrf : Tk.readF L (s.data.toList.drop (pos + 1)) with
                  | none =>
                    have HE : Hid (none = o) := by
                      have h1 := HK.out
                      rw [HM.out, Tk.kidsF_none _ _ _ _ (by rw [List.drop_drop]; exact hrf)] at h1
                      have := HQ3.out
                      rw [h1] at this
                      exact this
                    rw [hrf] at h8
                    obtain rfl : en = -1 := h8
                    have RG := R8.out.alloc (.cells #[.int .i64 op', .int .i64 n', .slice a' len' cap', .int .i64 (-1)] 98)
                    have HRG : Hid _ := RG
                    obtain ⟨⟨z0, z1, z2, z3⟩, y0, y1, y2, y3⟩ := Tk.row4 RG.res
                    clear hrf b8 RG
                    go_wp2
                    refine bodyPost_ret (Tk.results_got Tryd.results59 _ _ w.heap.size _ _ _ _ rfl (Tk.put4 HRG.out.res)) rfl ?_
                    rw [← HE.out]
                    exact ⟨_, _, _, _, _, _, rfl, HBZ.out _ HRG.out.below _ _ _ _, rfl⟩
                  | some pr =>
                    obtain ⟨T, r⟩ := pr
                    rw [hrf] at h8
                    obtain ⟨rfl, hrl, rfl, rfl, hli⟩ := h8
                    obtain ⟨np, hnp⟩ : ∃ x, s.size - r.length = x := ⟨_, rfl⟩
                    rw [hnp]
                    have hsuf := Tk.suffix_drop (Tk.read_back L _ _ _ hrf).1
                    rw [HLL.out.2.2, hnp] at hsuf
                    have HKN : Hid (f0 = (Tk.kidsF (Tk.readF L) m (s.data.toList.drop np)).map (fun p => ((qs ++ [(T, Value.slice a' len' cap')]).map (·.1) ++ p.1, p.2))) := by
                      have h1 := HK.out
                      rw [HM.out, Tk.kidsF_some _ _ _ _ T r HPB.out (by rw [List.drop_drop]; exact hrf)] at h1
                      show _ = _
                      rw [hsuf, h1]
                      simp
                    have hnp1 : np ≤ s.size := by omega
                    have hnp2 : pos + 1 ≤ np := by omega
                    have RG := R8.out.alloc (.cells #[.int .i64 T.op, .int .i64 T.num, .slice a' len' cap', .int .i64 np] 98)
                    have RB := RG.alloc (.cells #[.int .i64 T.op, .int .i64 T.num, .slice a' len' cap'] 37)
                    obtain ⟨⟨z0, z1, z2⟩, y0, y1, y2⟩ := Tk.row3 RG.var
                    have own8 := RB.own
                    have HRB : Hid _ := RB
                    have hp8 := R8.out.lt
                    have hown := HR.out.own.lt
                    have hb8 := b8.size
                    have HT8 : Hid (Tm.LiesP ((W8.alloc (.cells #[.int .i64 T.op, .int .i64 T.num, .slice a' len' cap', .int .i64 np] 98)).alloc (.cells #[.int .i64 T.op, .int .i64 T.num, .slice a' len' cap'] 37)) (fun k => p9 + 1 ≤ k ∧ k < ((W8.alloc (.cells #[.int .i64 T.op, .int .i64 T.num, .slice a' len' cap', .int .i64 np] 98)).alloc (.cells #[.int .i64 T.op, .int .i64 T.num, .slice a' len' cap'] 37)).heap.size ∧ (Value.slice av qs.length cv).ownBlock ≠ some k) L (.slice a' len' cap') T) := by
                      refine (hli.keep fun q h1 h2 => (Below.heap_alloc _ _ _ (by simp; omega)).trans (Below.heap_alloc _ _ _ h2)).toP fun q h1 h2 => ⟨by omega, by simp; omega, fun e => ?_⟩
                      have := (hown q e).2
                      omega
                    have HG8 : Hid (((W8.alloc (.cells #[.int .i64 T.op, .int .i64 T.num, .slice a' len' cap', .int .i64 np] 98)).alloc (.cells #[.int .i64 T.op, .int .i64 T.num, .slice a' len' cap'] 37)).heap[W8.heap.size]? = some (.cells #[.int .i64 T.op, .int .i64 T.num, .slice a' len' cap', .int .i64 np] 98 (0, 0))) := (Below.heap_alloc _ _ _ (by simp)).trans (heap_alloc_new W8 _)
                    have HOW : Hid (∀ q, (Value.slice av qs.length cv).ownBlock = some q → q < W8.heap.size) := fun q e => by have := (hown q e).2; omega
                    clear hrf b8 RG RB hli hsuf hrl hown hb8 hnp
                    go_wp2_with (at_builtin; refine wpList_append_lies _ rfl _ _ 35 rfl (p9 + 1) 37 i0 _ 3 40 Tryd.underlying35 hinf hz0 hz1 hz2 rfl (by decide) _ _ _ rfl own8 ⟨W8.heap.size + 1, 0, none⟩ 1 1 [.int .i64 T.op, .int .i64 T.num, .slice a' len' cap'] rfl rfl ?c1 ?c2 (by decide) ?c3 ?c4 ?c5 (W8.heap.size + 2) ?c6 ?_)
                    case c1 =>
                      intro j u hj
                      match j, hj with
                      | 0, hj => simp at hj; subst hj; simp [Addr.add]
                      | 1, hj => simp at hj; subst hj; simp [Addr.add]
                      | 2, hj => simp at hj; subst hj; simp [Addr.add]
                    case c2 => intro u hu; simp at hu; rcases hu with rfl | rfl | rfl <;> rfl
                    case c3 => unfold maxLen; omega
                    case c4 => omega
                    case c5 => simp; omega
                    case c6 => simp
                    intro g cap W9 O9 g9 hat hlt9
                    have P9 : Hid _ := HRB.out.push (H := W8.heap.size + 2) HT8.out (by simp) O9 g9 hat
                    obtain ⟨⟨_, _, k2⟩, _, _, j2⟩ := Tk.row3 (HRB.out.mid g9).1
                    have hg9 : W9.heap[W8.heap.size]? = some (.cells #[.int .i64 T.op, .int .i64 T.num, .slice a' len' cap', .int .i64 np] 98 (0, 0)) := (g9.block _ (by simp; omega) (fun e => by have := HOW.out _ e.symm; omega)).trans HG8.out
                    have e3 : (W9.setCell ⟨p9, 2, none⟩ (.slice (some ⟨g, 0, none⟩) (qs.length + 1) cap)).cell? ⟨W8.heap.size, 3, none⟩ = some (.int .i64 np) := by
                      have : (W9.setCell ⟨p9, 2, none⟩ (.slice (some ⟨g, 0, none⟩) (qs.length + 1) cap)).heap[W8.heap.size]? = _ := (Below.heap_setCell _ _ _ _ (by show W8.heap.size ≠ p9; omega)).trans hg9
                      simp [World.cell?, this]
                    clear O9 g9 hat hg9 own8
                    go_wp2
                    go_roundg (gk - 1)
                    case measure => omega
                    case rel =>
                      refine ⟨qs ++ [(T, Value.slice a' len' cap')], Value.slice (some ⟨g, 0, none⟩) (qs.length + 1) cap, np, by simp; omega, by simp, rfl, hnp1, by omega, P9.out, ?_⟩
                      rw [show kk - (qs ++ [(T, Value.slice a' len' cap')]).length = m by have := HM.out; simp; omega]
                      exact HKN.out
              · have HF : Hid (f0 = some (qs.map (·.1), s.data.toList.drop pos)) := by
                  have h1 := HK.out
                  rw [show kk - qs.length = 0 by omega, Tk.kidsF_end] at h1
                  exact h1
                obtain ⟨pb, hpb⟩ : ∃ x, Lib.hasPrefix (s.data.toList.drop pos) [41] = x := ⟨_, rfl⟩
                have HPB : Hid (Lib.hasPrefix (s.data.toList.drop pos) [41] = pb) := hpb
                have HE : Hid ((if pb = true then some (Tm.mk k 0 (qs.map (·.1)), (s.data.toList.drop pos).drop 1) else none) = o) := by
                  have := HQ3.out
                  rw [HF.out, Tk.shut, hpb] at this
                  exact this
                obtain ⟨⟨z0, z1, z2, z3⟩, y0, y1, y2, y3⟩ := Tk.row4 HR.out.res
                obtain ⟨⟨v0, v1, v2⟩, _⟩ := Tk.row3 HR.out.var
                clear hpb
                go_wp2_with fail
                refine Calls.mono (HKD.out _) ?_
                rintro e W6 ⟨rfl, rfl⟩
                go_wp2_with fail
                refine Calls.mono (HA.out _ ⟨#[41]⟩ pos pb (by omega) (by decide) HPB.out) ?_
                rintro e W7 ⟨rfl, rfl⟩
                cases pb
                · go_wp2
                  refine bodyPost_ret (Tk.results_got Tryd.results59 _ _ w.heap.size _ _ _ _ rfl (Tk.put4 HR.out.res)) rfl ?_
                  rw [← HE.out]
                  exact ⟨_, _, _, _, _, _, rfl, HBZ.out _ HR.out.below _ _ _ _, rfl⟩
                · have HPP : Hid (pos + 1 ≤ s.size) := by
                    have h1 := Tk.pre_len HPB.out
                    rw [List.length_drop, HLL.out.2.2] at h1
                    simp at h1
                    show _ ≤ _
                    omega
                  go_wp2
                  refine bodyPost_ret (Tk.results_got Tryd.results59 _ _ w.heap.size _ _ _ _ rfl (Tk.put4 HR.out.res)) rfl ?_
                  rw [← HE.out]
                  have hpp := HPP.out
                  have hlen : ((s.data.toList.drop pos).drop 1).length = s.size - (pos + 1) := by rw [List.drop_drop, List.length_drop, HLL.out.2.2]
                  refine ⟨_, _, _, _, _, _, rfl, HBZ.out _ HR.out.below _ _ _ _, by rw [hlen]; omega, by rw [hlen]; omega, rfl, rfl, ?_⟩
                  refine ((HR.out.lies (by omega)).keep fun q h1 h2 => ?_).wider (by omega) (by simp [World.setCell])
                  exact (Below.heap_setCell _ _ _ _ (by show q ≠ w.heap.size; omega)).trans ((Below.heap_setCell _ _ _ _ (by show q ≠ w.heap.size; omega)).trans ((Below.heap_setCell _ _ _ _ (by show q ≠ w.heap.size; omega)).trans (Below.heap_setCell _ _ _ _ (by show q ≠ w.heap.size; omega))))
        · have HE : Hid (none = o) := by
            have h0 : Tk.opFind l1 = 0 := by
              by_cases hz : Tk.opFind l1 = 0
              · exact hz
              · obtain ⟨_, h1, h2, _⟩ := Tk.text_find hz
                exact (HNF.out _ h1 (by omega) rfl).elim
            have := HQ2.out
            rw [if_pos h0] at this
            exact this
          obtain ⟨⟨z0, z1, z2, z3⟩, y0, y1, y2, y3⟩ := Tk.row4 HW.out.2
          go_wp2
          refine bodyPost_ret (Tk.results_got Tryd.results59 _ _ w.heap.size _ _ _ _ rfl (Tk.put4 HW.out.2)) rfl ?_
          rw [← HE.out]
          exact ⟨_, _, _, _, _, _, rfl, HBZ.out _ HW.out.1 _ _ _ _, rfl⟩

end Go.Proofs
