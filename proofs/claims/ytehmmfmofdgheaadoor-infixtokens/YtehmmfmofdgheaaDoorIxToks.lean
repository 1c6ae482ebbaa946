/-
  infix: the contracts of runs, run, isOperator, isSign and kindOf.
-/
import Derived.Test.YtehmmfmofdgheaaDoorIxModel
import Derived.Test.YtehmmfmofdgheaaDoorTParse
namespace Go.Proofs
open Go.RowKit

namespace Ix
def opVals : Array Value := #[.int .i64 7, .string ⟨#[45]⟩, .int .i64 3, .bool false, .bool false, .int .i64 6, .string ⟨#[42]⟩, .int .i64 7, .bool false, .bool false, .int .i64 6, .string ⟨#[47]⟩, .int .i64 8, .bool false, .bool false,
  .int .i64 6, .string ⟨#[37]⟩, .int .i64 9, .bool false, .bool false, .int .i64 5, .string ⟨#[43]⟩, .int .i64 5, .bool false, .bool false, .int .i64 5, .string ⟨#[45]⟩, .int .i64 6, .bool false, .bool false,
  .int .i64 4, .string ⟨#[61]⟩, .int .i64 10, .bool false, .bool false, .int .i64 4, .string ⟨#[33, 61]⟩, .int .i64 10, .bool false, .bool true, .int .i64 4, .string ⟨#[60]⟩, .int .i64 11, .bool false, .bool false,
  .int .i64 4, .string ⟨#[60, 61]⟩, .int .i64 12, .bool false, .bool false, .int .i64 4, .string ⟨#[62]⟩, .int .i64 11, .bool true, .bool false, .int .i64 4, .string ⟨#[62, 61]⟩, .int .i64 12, .bool true, .bool false,
  .int .i64 3, .string ⟨#[110, 111, 116]⟩, .int .i64 4, .bool false, .bool false, .int .i64 2, .string ⟨#[97, 110, 100]⟩, .int .i64 13, .bool false, .bool false, .int .i64 1, .string ⟨#[111, 114]⟩, .int .i64 14, .bool false, .bool false]
def standVals : Array Value := #[.int .i64 0, .int .i64 1, .int .i64 1, .int .i64 3, .int .i64 2, .int .i64 1, .int .i64 1, .int .i64 3]
/-- The two tables. -/
def Tabs (w : World) : Prop := (∃ t fz, w.heap[2]? = some (.cells opVals t fz)) ∧ ∃ t fz, w.heap[0]? = some (.cells standVals t fz)
theorem Tabs.lt {w : World} (h : Tabs w) : 2 < w.heap.size := by
  obtain ⟨⟨t, fz, h⟩, _⟩ := h
  exact (Array.getElem?_eq_some_iff.1 h).1
theorem Tabs.keep {w w' : World} (h : Tabs w) (h1 : w'.heap[2]? = w.heap[2]?) (h2 : w'.heap[0]? = w.heap[0]?) : Tabs w' := by
  obtain ⟨⟨t, fz, a⟩, t', fz', b⟩ := h
  exact ⟨⟨t, fz, h1.trans a⟩, t', fz', h2.trans b⟩
theorem Tabs.below {w w' : World} {B : Nat} (h : Tabs w) (hb : Below B w w') (hB : 2 < B) : Tabs w' := h.keep (hb.block _ (by omega)) (hb.block _ (by omega))
/-- An operator's five cells. -/
def opRow (o : Op) : Array Value := #[.int .i64 o.row, .string ⟨o.text.toArray⟩, .int .i64 o.op, .bool o.sw, .bool o.de]
theorem ops_index (k : Nat) (hk : k < 15) (w : World) : (Instr.index 113 (.agg opVals) (.int .i64 k)).run Tryd.prog w = .ok (.agg (opRow (opN k))) w := by
  obtain rfl | rfl | rfl | rfl | rfl | rfl | rfl | rfl | rfl | rfl | rfl | rfl | rfl | rfl | rfl : k = 0 ∨ k = 1 ∨ k = 2 ∨ k = 3 ∨ k = 4 ∨ k = 5 ∨ k = 6 ∨ k = 7 ∨ k = 8 ∨ k = 9 ∨ k = 10 ∨ k = 11 ∨ k = 12 ∨ k = 13 ∨ k = 14 := by omega
  all_goals kernel_rfl
/-- An operator is written so. -/
def isOpB (l : List UInt8) : Bool := ops.any fun o => o.text == l
theorem isOp_hit (l : List UInt8) (k : Nat) (hk : k < 15) (h : (opN k).text = l) : isOpB l = true := by
  unfold isOpB
  rw [List.any_eq_true]
  refine ⟨opN k, ?_, by rw [h]; simp⟩
  unfold opN
  rw [List.getD_eq_getElem?_getD, List.getElem?_eq_getElem (by exact hk), Option.getD_some]
  exact List.getElem_mem _
theorem isOp_none (l : List UInt8) (h : ∀ k, k < 15 → ¬ (opN k).text = l) : isOpB l = false := by
  cases hb : isOpB l
  · rfl
  · exfalso
    unfold isOpB at hb
    obtain ⟨o, ho, hl⟩ := List.any_eq_true.1 hb
    obtain ⟨k, hk, rfl⟩ := List.getElem_of_mem ho
    refine h k hk ?_
    unfold opN
    rw [List.getD_eq_getElem?_getD, List.getElem?_eq_getElem hk, Option.getD_some]
    simpa using hl
def isSignB (l : List UInt8) : Bool := l == [40] || l == [41] || isOpB l
theorem str_eq (a b : List UInt8) : ((⟨a.toArray⟩ : ByteArray).toList == (⟨b.toArray⟩ : ByteArray).toList) = (a == b) := by rw [Lib.toList_data, Lib.toList_data]
theorem parse_err {l : List UInt8} {x : Int} (h : Tk.parseR l = .error x) : (x == 0) = false := by
  unfold Tk.parseR at h
  by_cases hl : 20000 < l.length
  · rw [if_pos hl] at h; obtain rfl := Except.error.inj h; rfl
  · rw [if_neg hl] at h
    split at h
    · cases h
    · obtain rfl := Except.error.inj h; rfl
theorem leaf_len {l : List UInt8} {T : Tm} (h : Tk.parseR l = .ok T) : l.length ≤ 20000 := by
  unfold Tk.parseR at h
  by_cases hl : 20000 < l.length
  · rw [if_pos hl] at h; cases h
  · omega
theorem ret_bool {a b : Bool} (h : a = b) : Ending.returned (.bool a) = .returned (.bool b) := by rw [h]
end Ix

set_option maxHeartbeats 4000000 in
theorem Tryd.runs_any (c : UInt8) (w : World) : Calls Tryd.prog 56 #[.int .u8 c.toNat] w fun e w' => e = .returned (.bool (Ix.runB c)) ∧ w' = w := by
  obtain ⟨n, hn⟩ : ∃ n, c.toNat = n := ⟨_, rfl⟩
  have hr : Ix.runB c = (decide (48 ≤ n ∧ n ≤ 57) || decide (97 ≤ n ∧ n ≤ 122) || decide (65 ≤ n ∧ n ≤ 90) || decide (n = 36)) := by unfold Ix.runB; rw [hn]
  rw [hr, hn]
  clear hr hn
  by_cases h36 : n = 36
  · subst h36
    go_enter Tryd.func56, Tryd.ntmps56
    go_wp2
    go_ret
    exact ⟨Ix.ret_bool (by decide), rfl⟩
  have e1 : ((n : Int) == 36) = false := by rw [beq_eq_false_iff_ne]; omega
  rcases (by omega : n < 48 ∨ (48 ≤ n ∧ n ≤ 57) ∨ (57 < n ∧ n < 65) ∨ (65 ≤ n ∧ n ≤ 90) ∨ (90 < n ∧ n < 97) ∨ (97 ≤ n ∧ n ≤ 122) ∨ 122 < n) with h | ⟨h, h'⟩ | ⟨h, h'⟩ | ⟨h, h'⟩ | ⟨h, h'⟩ | ⟨h, h'⟩ | h
  all_goals
    go_enter Tryd.func56, Tryd.ntmps56
    go_wp2
    go_ret
    exact ⟨Ix.ret_bool (by first | (rw [Bool.eq_iff_iff]; simp; omega) | (rw [Bool.eq_iff_iff]; simp; done) | (rw [Bool.eq_iff_iff]; done)), rfl⟩

namespace Ix
theorem tw_in {p : UInt8 → Bool} : ∀ (l : List UInt8) (j : Nat), j < (l.takeWhile p).length → ∃ h : j < l.length, p l[j] = true
  | [], j, h => by simp at h
  | c :: r, j, h => by
    by_cases hc : p c = true
    · rw [List.takeWhile_cons_of_pos hc, List.length_cons] at h
      cases j with
      | zero => exact ⟨by simp, by simpa using hc⟩
      | succ j =>
        obtain ⟨h1, h2⟩ := tw_in (p := p) r j (by omega)
        exact ⟨by simpa using h1, by simpa using h2⟩
    · rw [List.takeWhile_cons_of_neg hc] at h; simp at h
theorem tw_out {p : UInt8 → Bool} : ∀ (l : List UInt8) (h : (l.takeWhile p).length < l.length), p l[(l.takeWhile p).length] = false
  | [], h => by simp at h
  | c :: r, h => by
    by_cases hc : p c = true
    · have e : (c :: r).takeWhile p = c :: r.takeWhile p := List.takeWhile_cons_of_pos hc
      simp only [e, List.length_cons, List.getElem_cons_succ] at h ⊢
      exact tw_out r (by omega)
    · have e : (c :: r).takeWhile p = [] := List.takeWhile_cons_of_neg hc
      simp only [e, List.length_nil, List.getElem_cons_zero]
      simpa using hc
theorem tw_take {p : UInt8 → Bool} (l : List UInt8) : l.take (l.takeWhile p).length = l.takeWhile p := by
  induction l with
  | nil => rfl
  | cons c r ih =>
    by_cases h : p c = true
    · rw [List.takeWhile_cons_of_pos h, List.length_cons, List.take_succ_cons, ih]
    · rw [List.takeWhile_cons_of_neg h]; rfl
theorem tw_le {p : UInt8 → Bool} (l : List UInt8) : (l.takeWhile p).length ≤ l.length := (List.takeWhile_sublist _).length_le
/-- A string's bytes. -/
theorem get_str (l : List UInt8) (s : ByteArray) (h : s = ⟨l.toArray⟩) (j : Nat) (h1 : j < s.size) (h2 : j < l.length) : s[j] = l[j] := by subst h; rfl
theorem size_str (l : List UInt8) (s : ByteArray) (h : s = ⟨l.toArray⟩) : s.size = l.length := by subst h; simp [ByteArray.size]
end Ix

set_option maxHeartbeats 4000000 in
theorem Tryd.run_any (l : List UInt8) (w : World) (hl : l.length ≤ 1000000) : Calls Tryd.prog 32 #[.string ⟨l.toArray⟩] w fun e w' => e = .returned (.int .i64 ((Ix.runL l).length : Nat)) ∧ w' = w := by
  obtain ⟨s, hs⟩ : ∃ s : ByteArray, s = ⟨l.toArray⟩ := ⟨_, rfl⟩
  have hsz := Ix.size_str l s hs
  rw [← hs]
  obtain ⟨n, hn⟩ : ∃ n, (Ix.runL l).length = n := ⟨_, rfl⟩
  have hnl : n ≤ s.size := by rw [hsz, ← hn]; exact Ix.tw_le l
  have HI : Hid (∀ k (h : k < s.size), k < n → Ix.runB s[k] = true) := fun k h hk => by
    rw [Ix.get_str l s hs k h (by omega)]
    exact (Ix.tw_in l k (by unfold Ix.runL at hn; omega)).2
  have HO : Hid (∀ h : n < s.size, Ix.runB s[n] = false) := fun h => by
    rw [Ix.get_str l s hs n h (by omega)]
    have := Ix.tw_out (p := Ix.runB) l (by unfold Ix.runL at hn; omega)
    unfold Ix.runL at hn
    simp only [hn] at this
    exact this
  have hs6 : s.size ≤ 1000000 := by omega
  rw [hn]
  clear hn hs hsz hl
  go_enter Tryd.func32, Tryd.ntmps32
  go_wp2
  go_loopg [6] (n + 1) (fun g i wr => ∃ k : Nat, k ≤ n ∧ g + k = n + 1 ∧ i = .int .i64 k ∧ wr = w)
  case atStart => exact ⟨0, by omega, by omega, rfl, rfl⟩
  case round =>
    obtain ⟨k, hkn, hg, rfl, rfl⟩ := hrel
    by_cases hk : k < s.size
    · skip
      by_cases hin : k < n
      · have h1 := Tryd.runs_any s[k] wr
        rw [HI.out k hk hin] at h1
        have H1 : Hid _ := h1
        clear h1
        go_wp2_with fail
        refine Calls.mono H1.out ?_
        rintro e W1 ⟨rfl, hW⟩
        obtain rfl := hW.symm
        go_wp2
        go_roundg (gk - 1)
        case measure => omega
        case rel => exact ⟨k + 1, by omega, by omega, by go_num, rfl⟩
      · have hkk : k = n := by omega
        subst hkk
        have h1 := Tryd.runs_any s[k] wr
        rw [HO.out hk] at h1
        have H1 : Hid _ := h1
        clear h1
        go_wp2_with fail
        refine Calls.mono H1.out ?_
        rintro e W1 ⟨rfl, hW⟩
        obtain rfl := hW.symm
        go_wp2
        go_ret
        exact ⟨rfl, rfl⟩
    · have HSN : Hid (s.size = n) := by show _ = _; omega
      go_wp2
      go_ret
      exact ⟨by rw [← HSN.out]; rfl, rfl⟩

set_option maxHeartbeats 4000000 in
set_option maxRecDepth 20000 in
theorem Tryd.isOperator_any (l : List UInt8) (w : World) (h : Ix.Tabs w) :
    Calls Tryd.prog 57 #[.string ⟨l.toArray⟩] w fun e w' => e = .returned (.bool (Ix.isOpB l)) ∧ Below w.heap.size w w' := by
  obtain ⟨⟨t, fz, hE⟩, _⟩ := h
  obtain ⟨s, hs⟩ : ∃ s : ByteArray, s = ⟨l.toArray⟩ := ⟨_, rfl⟩
  have HS : Hid (s = ⟨l.toArray⟩) := hs
  rw [← hs]
  clear hs
  have hu := Tryd.underlying113
  go_enter Tryd.func57, Tryd.ntmps57
  go_wp2_with (refine wpList_load_row rfl 113 _ rfl 2 rfl t Ix.opVals fz _ hE hu rfl (by kernel_rfl) ?_)
  go_loopg [6] 15 (fun g i wr => ∃ k : Nat, g + k = 15 ∧ i = .int .i64 k ∧ Below w.heap.size w wr ∧ Hid (∀ j : Nat, j < k → ¬ (Ix.opN j).text = l))
  case atStart => exact ⟨0, by omega, rfl, Below.refl _ _, fun j hj => by omega⟩
  case round =>
    obtain ⟨k, hg, rfl, hbw, HN⟩ := hrel
    by_cases hk : k < 15
    · have ix := Ix.ops_index k hk
      obtain ⟨tx, htx⟩ : ∃ s : ByteArray, s = ⟨(Ix.opN k).text.toArray⟩ := ⟨_, rfl⟩
      have HT : Hid (tx = ⟨(Ix.opN k).text.toArray⟩) := htx
      unfold Ix.opRow at ix
      rw [← htx] at ix
      clear htx
      by_cases he : tx = s
      · have HR : Hid (Ix.isOpB l = true) := Ix.isOp_hit l k hk (by have := HT.out.symm.trans (he.trans HS.out); simpa using this)
        have e1 : (tx.toList == s.toList) = true := by rw [he]; simp
        clear he
        go_wp2
        go_ret
        exact ⟨by rw [HR.out]; rfl, hbw.alloc hbw.size _⟩
      · have e1 : (tx.toList == s.toList) = false := beq_eq_false_iff_ne.2 fun e => he (by rw [Lib.toList_data, Lib.toList_data] at e; obtain ⟨⟨a⟩⟩ := tx; obtain ⟨⟨b⟩⟩ := s; simpa using e)
        have HX : Hid ((Ix.opN k).text ≠ l) := by intro e; exact he (by rw [HT.out, HS.out, e])
        clear he
        go_wp2
        go_roundg (gk - 1)
        case measure => omega
        case rel =>
          refine ⟨k + 1, by omega, by go_num, hbw.alloc hbw.size _, fun j hj => ?_⟩
          by_cases e : j = k
          · subst e; exact HX.out
          · exact HN.out j (by omega)
    · have HR : Hid (Ix.isOpB l = false) := Ix.isOp_none l fun j hj => HN.out j (by omega)
      go_wp2
      go_ret
      exact ⟨by rw [HR.out]; rfl, hbw⟩

set_option maxHeartbeats 4000000 in
theorem Tryd.isSign_any (l : List UInt8) (w : World) (h : Ix.Tabs w) :
    Calls Tryd.prog 34 #[.string ⟨l.toArray⟩] w fun e w' => e = .returned (.bool (Ix.isSignB l)) ∧ Below w.heap.size w w' := by
  have H1 : Hid (Calls Tryd.prog 57 #[.string ⟨l.toArray⟩] w fun e w' => e = .returned (.bool (Ix.isOpB l)) ∧ Below w.heap.size w w') := Tryd.isOperator_any l w h
  obtain ⟨s, hs⟩ : ∃ s : ByteArray, s = ⟨l.toArray⟩ := ⟨_, rfl⟩
  rw [← hs] at H1 ⊢
  have HB : Hid (Ix.isSignB l = (s.toList == [40] || s.toList == [41] || Ix.isOpB l)) := by show _ = _; unfold Ix.isSignB; rw [hs, Lib.toList_data]
  clear hs h
  by_cases h1 : s.toList = [40]
  · have e1 : (s.toList == [40]) = true := by simpa using h1
    have HX : Hid (Ix.isSignB l = true) := by show _ = _; rw [HB.out, e1]; rfl
    clear h1
    go_enter Tryd.func34, Tryd.ntmps34
    go_wp2
    go_ret
    exact ⟨by rw [HX.out]; rfl, Below.refl _ _⟩
  · have e1 : (s.toList == [40]) = false := by simpa using h1
    clear h1
    by_cases h2 : s.toList = [41]
    · have e2 : (s.toList == [41]) = true := by simpa using h2
      have HX : Hid (Ix.isSignB l = true) := by show _ = _; rw [HB.out, e1, e2]; rfl
      clear h2
      go_enter Tryd.func34, Tryd.ntmps34
      go_wp2
      go_ret
      exact ⟨by rw [HX.out]; rfl, Below.refl _ _⟩
    · have e2 : (s.toList == [41]) = false := by simpa using h2
      have HX : Hid (Ix.isSignB l = Ix.isOpB l) := by show _ = _; rw [HB.out, e1, e2]; rfl
      clear h2
      go_enter Tryd.func34, Tryd.ntmps34
      go_wp2_with fail
      refine Calls.mono H1.out ?_
      rintro e W1 ⟨rfl, b1⟩
      have B1 : Hid (Below w.heap.size w W1) := b1
      clear b1
      go_wp2
      go_ret
      exact ⟨by rw [HX.out]; rfl, B1.out⟩

set_option maxHeartbeats 4000000 in
theorem Tryd.kindOf_any (l : List UInt8) (w : World) (h : Ix.Tabs w) (hO : Tk.Ops w) (hl : l.length ≤ 1000000) (hw : Ix.isOpB l = Ix.isWord l) (hp : ∀ T, Tk.parseR l = .ok T → T.op = 1 ∨ T.op = 2) :
    Calls Tryd.prog 33 #[.string ⟨l.toArray⟩] w fun e w' => e = .returned (.int .i64 (Ix.kindR l)) ∧ Below w.heap.size w w' := by
  have H1 : Hid (Calls Tryd.prog 57 #[.string ⟨l.toArray⟩] w fun e w' => e = .returned (.bool (Ix.isWord l)) ∧ Below w.heap.size w w') := by rw [← hw]; exact Tryd.isOperator_any l w h
  have H2 : Hid (∀ W, Below w.heap.size w W → Calls Tryd.prog 58 #[.string ⟨l.toArray⟩] W fun e w' => Tk.Parsed (Tk.parseR l) W e w') := fun W hW => Tryd.parse_any l W (hO.below hW hO.lt) hl
  have HP : Hid (∀ T, Tk.parseR l = .ok T → T.op = 1 ∨ T.op = 2) := hp
  obtain ⟨s, hs⟩ : ∃ s : ByteArray, s = ⟨l.toArray⟩ := ⟨_, rfl⟩
  rw [← hs] at H1 H2 ⊢
  have HK : Hid (Ix.kindR l = if Ix.isWord l = true then 3 else match Tk.parseR l with | .ok T => T.op | .error _ => 0) := rfl
  obtain ⟨b, hb⟩ : ∃ b, Ix.isWord l = b := ⟨_, rfl⟩
  rw [hb] at H1 HK
  obtain ⟨kk, hkk⟩ : ∃ k, Ix.kindR l = k := ⟨_, rfl⟩
  rw [hkk] at HK ⊢
  clear hs h hO hl hw hp hb hkk
  go_enter Tryd.func33, Tryd.ntmps33
  go_wp2_with fail
  refine Calls.mono H1.out ?_
  rintro e W1 ⟨rfl, b1⟩
  have B1 : Hid (Below w.heap.size w W1) := b1
  clear b1 H1
  cases b with
  | true =>
    obtain rfl : kk = 3 := HK.out
    go_wp2
    go_ret
    exact ⟨rfl, B1.out⟩
  | false =>
    have HK2 : Hid (kk = match Tk.parseR l with | .ok T => T.op | .error _ => 0) := HK.out
    clear HK
    go_wp2_with fail
    refine Calls.mono (H2.out _ B1.out) ?_
    rintro e W2 ⟨op1, n1, a1, len1, cap1, err1, rfl, b2, hpr⟩
    have B2 : Hid (Below w.heap.size w (W2.alloc (.cells #[.int .i64 op1, .int .i64 n1, .slice a1 len1 cap1] 37))) := (B1.out.trans (b2.mono B1.out.size)).alloc (by have := B1.out.size; have := b2.size; omega) _
    have C2 : (W2.alloc (.cells #[.int .i64 op1, .int .i64 n1, .slice a1 len1 cap1] 37)).heap[W2.heap.size]? = some (.cells #[.int .i64 op1, .int .i64 n1, .slice a1 len1 cap1] 37 (0, 0)) := heap_alloc_new W2 _
    cases hp : Tk.parseR l with
    | error x =>
      rw [hp] at hpr HK2
      obtain ⟨rfl, -⟩ := hpr
      have hx : (err1 == 0) = false := Ix.parse_err hp
      obtain rfl : kk = 0 := HK2.out
      clear hp b2 C2
      go_wp2
      go_ret
      exact ⟨rfl, B2.out⟩
    | ok T =>
      have ht := HP.out T hp
      rw [hp] at hpr HK2
      obtain ⟨rfl, rfl, rfl, -⟩ := hpr
      obtain ⟨o, ho⟩ : ∃ o, T.op = o := ⟨_, rfl⟩
      have HKK : Hid (kk = o) := HK2.out.trans ho
      rw [ho] at ht B2 C2 ⊢
      clear hp b2 ho C2 HK2
      rcases ht with rfl | rfl
      · go_wp2
        go_ret
        exact ⟨by rw [HKK.out]; rfl, B2.out⟩
      · go_wp2
        go_ret
        exact ⟨by rw [HKK.out]; rfl, B2.out⟩

end Go.Proofs
