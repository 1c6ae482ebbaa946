/-
  infix: the document's joined, end, kind, at and sign.
-/
import Derived.Test.YtehmmfmofdgheaaDoorIxFirst
import Derived.Test.YtehmmfmofdgheaaDoorTRefReadAll
namespace Go.Proofs
open Go.RowKit

set_option maxHeartbeats 4000000 in
theorem Tryd.joined_any (c : UInt8) (w : World) : Calls Tryd.prog 35 #[.int .u8 c.toNat] w fun e w' => e = .returned (.bool (Ix.runB c)) ∧ w' = w := by
  obtain ⟨n, hn⟩ : ∃ n, c.toNat = n := ⟨_, rfl⟩
  have hr : Ix.runB c = (decide (48 ≤ n ∧ n ≤ 57) || decide (97 ≤ n ∧ n ≤ 122) || decide (65 ≤ n ∧ n ≤ 90) || decide (n = 36)) := by unfold Ix.runB; rw [hn]
  rw [hr, hn]
  clear hr hn
  by_cases h36 : n = 36
  · subst h36
    go_enter Tryd.func35, Tryd.ntmps35
    go_wp2
    go_ret
    exact ⟨Ix.ret_bool (by decide), rfl⟩
  have e1 : ((n : Int) == 36) = false := by rw [beq_eq_false_iff_ne]; omega
  rcases (by omega : n < 48 ∨ (48 ≤ n ∧ n ≤ 57) ∨ (57 < n ∧ n < 65) ∨ (65 ≤ n ∧ n ≤ 90) ∨ (90 < n ∧ n < 97) ∨ (97 ≤ n ∧ n ≤ 122) ∨ 122 < n) with h | ⟨h, h'⟩ | ⟨h, h'⟩ | ⟨h, h'⟩ | ⟨h, h'⟩ | ⟨h, h'⟩ | h
  all_goals
    go_enter Tryd.func35, Tryd.ntmps35
    go_wp2
    go_ret
    exact ⟨Ix.ret_bool (by first | (rw [Bool.eq_iff_iff]; simp; omega) | (rw [Bool.eq_iff_iff]; simp; done) | (rw [Bool.eq_iff_iff]; done)), rfl⟩

set_option maxHeartbeats 4000000 in
theorem Tryd.rend_any (l : List UInt8) (i : Nat) (w : World) (hi : i ≤ l.length) (hl : l.length ≤ 1000000) :
    Calls Tryd.prog 21 #[.string ⟨l.toArray⟩, .int .i64 i] w fun e w' => e = .returned (.int .i64 ((i + (Ix.runL (l.drop i)).length : Nat))) ∧ w' = w := by
  obtain ⟨s, hs⟩ : ∃ s : ByteArray, s = ⟨l.toArray⟩ := ⟨_, rfl⟩
  have hsz := Ix.size_str l s hs
  rw [← hs]
  obtain ⟨n, hn⟩ : ∃ n, i + (Ix.runL (l.drop i)).length = n := ⟨_, rfl⟩
  have htl := Ix.tw_le (p := Ix.runB) (l.drop i)
  rw [List.length_drop] at htl
  have hnl : n ≤ s.size := by unfold Ix.runL at hn; omega
  have HI : Hid (∀ k (h : k < s.size), i ≤ k → k < n → Ix.runB s[k] = true) := fun k h h1 hk => by
    obtain ⟨j, rfl⟩ : ∃ j, k = i + j := ⟨k - i, by omega⟩
    rw [Ix.get_str l s hs (i + j) h (by omega)]
    obtain ⟨h2, h3⟩ := Ix.tw_in (p := Ix.runB) (l.drop i) j (by unfold Ix.runL at hn; omega)
    rw [List.getElem_drop] at h3
    exact h3
  have HO : Hid (∀ h : n < s.size, Ix.runB s[n] = false) := fun h => by
    subst hn
    rw [Ix.get_str l s hs _ h (by rw [← hsz]; exact h)]
    have h9 : i + ((l.drop i).takeWhile Ix.runB).length < l.length := by rw [← hsz]; exact h
    have := Ix.tw_out (p := Ix.runB) (l.drop i) (by rw [List.length_drop]; omega)
    rw [List.getElem_drop] at this
    exact this
  have hs6 : s.size ≤ 1000000 := by omega
  have hin : i ≤ n := by omega
  rw [hn]
  clear hn hs hsz hl hi htl
  go_enter Tryd.func21, Tryd.ntmps21
  go_wp2
  go_loopg [5] (n + 1 - i) (fun g v wr => ∃ k : Nat, i ≤ k ∧ k ≤ n ∧ g + k = n + 1 ∧ v = .int .i64 k ∧ wr = w)
  case atStart => exact ⟨i, by omega, by omega, by omega, rfl, rfl⟩
  case round =>
    obtain ⟨k, hik, hkn, hg, rfl, rfl⟩ := hrel
    by_cases hk : k < s.size
    · have hd : decide ((k : Int) < s.size) = true := decide_eq_true (by omega)
      by_cases hin2 : k < n
      · have h1 := Tryd.joined_any s[k] wr
        rw [HI.out k hk hik hin2] at h1
        have H1 : Hid _ := h1
        clear h1
        go_wp2_with fail
        refine Calls.mono H1.out ?_
        rintro e W1 ⟨rfl, hW⟩
        obtain rfl := hW.symm
        go_wp2
        go_roundg (gk - 1)
        case measure => omega
        case rel => exact ⟨k + 1, by omega, by omega, by omega, by go_num, rfl⟩
      · have hkk : k = n := by omega
        subst hkk
        have h1 := Tryd.joined_any s[k] wr
        rw [HO.out hk] at h1
        have H1 : Hid _ := h1
        clear h1
        go_wp2_with fail
        refine Calls.mono H1.out ?_
        rintro e W1 ⟨rfl, hW⟩
        obtain rfl := hW.symm
        go_wp2
        go_ret
        exact ⟨rfl, rfl⟩
    · have hd : decide ((k : Int) < s.size) = false := decide_eq_false (by omega)
      have HSN : Hid (k = n) := by show _ = _; omega
      go_wp2
      go_ret
      exact ⟨by rw [← HSN.out]; rfl, rfl⟩

set_option maxHeartbeats 4000000 in
theorem Tryd.rkind_any (l : List UInt8) (w : World) (hl : l.length ≤ 1000000) :
    Calls Tryd.prog 23 #[.string ⟨l.toArray⟩] w fun e w' => e = .returned (.int .i64 (Ix.kindR l)) ∧ Below w.heap.size w w' := by
  have H2 : Hid (∀ W, Calls Tryd.prog 37 #[.string ⟨l.toArray⟩] W fun e w' => Tk.Parsed (Tk.parseR l) W e w') := fun W => Tryd.refParse_of (Tryd.read_any 24 (by omega)) l W (by omega)
  obtain ⟨s, hs⟩ : ∃ s : ByteArray, s = ⟨l.toArray⟩ := ⟨_, rfl⟩
  rw [← hs] at H2 ⊢
  have hsl : s.toList = l := by rw [hs, Lib.toList_data]
  have HK : Hid (Ix.kindR l = if Ix.isWord l = true then 3 else match Tk.parseR l with | .ok T => T.op | .error _ => 0) := rfl
  obtain ⟨kk, hkk⟩ : ∃ k, Ix.kindR l = k := ⟨_, rfl⟩
  rw [hkk] at HK ⊢
  clear hs hl hkk
  by_cases h1 : l = [97, 110, 100]
  · have e1 : (s.toList == [97, 110, 100]) = true := by rw [hsl, h1]; rfl
    obtain rfl : kk = 3 := by rw [HK.out, h1]; rfl
    clear h1 hsl
    go_enter Tryd.func23, Tryd.ntmps23
    go_wp2
    go_ret
    exact ⟨rfl, Below.refl _ _⟩
  have e1 : (s.toList == [97, 110, 100]) = false := by rw [hsl]; simpa using h1
  by_cases h2 : l = [111, 114]
  · have e2 : (s.toList == [111, 114]) = true := by rw [hsl, h2]; rfl
    obtain rfl : kk = 3 := by rw [HK.out, h2]; rfl
    clear h1 h2 hsl
    go_enter Tryd.func23, Tryd.ntmps23
    go_wp2
    go_ret
    exact ⟨rfl, Below.refl _ _⟩
  have e2 : (s.toList == [111, 114]) = false := by rw [hsl]; simpa using h2
  by_cases h3 : l = [110, 111, 116]
  · have e3 : (s.toList == [110, 111, 116]) = true := by rw [hsl, h3]; rfl
    obtain rfl : kk = 3 := by rw [HK.out, h3]; rfl
    clear h1 h2 h3 hsl
    go_enter Tryd.func23, Tryd.ntmps23
    go_wp2
    go_ret
    exact ⟨rfl, Below.refl _ _⟩
  have e3 : (s.toList == [110, 111, 116]) = false := by rw [hsl]; simpa using h3
  have HK2 : Hid (kk = match Tk.parseR l with | .ok T => T.op | .error _ => 0) := by
    show _ = _
    rw [HK.out, if_neg]
    unfold Ix.isWord
    simp [h1, h2, h3]
  clear HK h1 h2 h3 hsl
  go_enter Tryd.func23, Tryd.ntmps23
  go_wp2_with fail
  refine Calls.mono (H2.out _) ?_
  rintro e W2 ⟨op1, n1, a1, len1, cap1, err1, rfl, b2, hpr⟩
  have B2 : Hid (Below w.heap.size w (W2.alloc (.cells #[.int .i64 op1, .int .i64 n1, .slice a1 len1 cap1] 37))) := b2.alloc b2.size _
  have C2 : (W2.alloc (.cells #[.int .i64 op1, .int .i64 n1, .slice a1 len1 cap1] 37)).heap[W2.heap.size]? = some (.cells #[.int .i64 op1, .int .i64 n1, .slice a1 len1 cap1] 37 (0, 0)) := heap_alloc_new W2 _
  cases hp : Tk.parseR l with
  | error x =>
    rw [hp] at hpr HK2
    obtain ⟨rfl, -⟩ := hpr
    have hx : (err1 == 0) = false := Ix.parse_err hp
    obtain rfl : kk = 0 := HK2.out
    clear hp b2 C2
    go_wp2
    go_ret
    exact ⟨rfl, B2.out⟩
  | ok T =>
    rw [hp] at hpr HK2
    obtain ⟨rfl, rfl, rfl, -⟩ := hpr
    obtain ⟨o, ho⟩ : ∃ o, T.op = o := ⟨_, rfl⟩
    have HKK : Hid (kk = o) := HK2.out.trans ho
    rw [ho] at B2 C2 ⊢
    clear hp b2 ho C2 HK2
    go_wp2
    go_ret
    exact ⟨by rw [HKK.out]; rfl, B2.out⟩

set_option maxHeartbeats 1000000 in
theorem Tryd.rat_any (s x : ByteArray) (k : Nat) (p : Bool) (w : World) (hk : k ≤ s.size) (hs : s.size ≤ 21000) (hx : x.size ≤ 20000) (hp : Lib.hasPrefix (s.data.toList.drop k) x.data.toList = p) :
    Calls Tryd.prog 36 #[.string s, .int .i64 k, .string x] w fun e w' => e = .returned (.bool p) ∧ w' = w := by
  by_cases h : x.size ≤ s.size - k
  · have hd : decide ((x.size : Int) ≤ s.size - k) = true := decide_eq_true (by omega)
    have HP : Hid (((s.extract k (k + x.size)).toList == x.toList) = p) := by
      show _ = _
      rw [Lib.extract_toList, Nat.add_sub_cancel_left, Lib.toList_data, ← hp, Tk.pre_take _ _ (by rw [List.length_drop, Tk.size_list, Tk.size_list]; exact h), Tk.size_list]
    go_enter Tryd.func36, Tryd.ntmps36
    go_wp2
    go_ret
    exact ⟨Tk.ret_bool HP.out, rfl⟩
  · have hd : decide ((x.size : Int) ≤ s.size - k) = false := decide_eq_false (by omega)
    have hf : p = false := by
      rw [← hp]
      cases hc : Lib.hasPrefix (s.data.toList.drop k) x.data.toList
      · rfl
      · have := Tk.pre_len hc
        rw [List.length_drop, Tk.size_list, Tk.size_list] at this
        omega
    subst hf
    clear hp
    go_enter Tryd.func36, Tryd.ntmps36
    go_wp2
    go_ret
    exact ⟨rfl, rfl⟩

namespace Ix
/-- The signs, as the document's sign lists them. -/
def sgs : List (List UInt8) := [[43], [45], [42], [47], [37], [61], [33, 61], [60], [60, 61], [62], [62, 61], [40], [41]]
def sgStep (l out x : List UInt8) : List UInt8 := if Lib.hasPrefix l x = true ∧ out.length < x.length then x else out
def sgF (l : List UInt8) (k : Nat) : List UInt8 := (sgs.take k).foldl (sgStep l) []
theorem sgF_succ (l : List UInt8) (k : Nat) (hk : k < 13) : sgF l (k + 1) = sgStep l (sgF l k) (sgs.getD k []) := by
  unfold sgF
  rw [Tm.take_snoc sgs k hk, List.foldl_append, List.getD_eq_getElem?_getD, List.getElem?_eq_getElem (by exact hk)]
  rfl
theorem step_no {l out x : List UInt8} (h : Lib.hasPrefix l x = false) : sgStep l out x = out := by unfold sgStep; rw [if_neg (by rw [h]; simp)]
theorem pre1 (c x : UInt8) (r : List UInt8) : Lib.hasPrefix (c :: r) [x] = (x == c) := by simp [Lib.hasPrefix, List.isPrefixOf]
theorem pre2 (c d x y : UInt8) (r : List UInt8) : Lib.hasPrefix (c :: d :: r) [x, y] = (x == c && y == d) := by simp [Lib.hasPrefix, List.isPrefixOf]
theorem pre2' (c x y : UInt8) : Lib.hasPrefix [c] [x, y] = false := by simp [Lib.hasPrefix, List.isPrefixOf]
theorem sgF_all (l : List UInt8) : sgF l 13 = signL l := by
  have e : sgF l 13 = sgs.foldl (sgStep l) [] := rfl
  rw [e]
  unfold sgs
  simp only [List.foldl_cons, List.foldl_nil]
  match l with
  | [] => rfl
  | [c] =>
    by_cases h : c = 43 ∨ c = 45 ∨ c = 42 ∨ c = 47 ∨ c = 37 ∨ c = 61 ∨ c = 60 ∨ c = 62 ∨ c = 40 ∨ c = 41
    · rcases h with rfl | rfl | rfl | rfl | rfl | rfl | rfl | rfl | rfl | rfl <;> rfl
    · simp only [not_or] at h
      obtain ⟨h1, h2, h3, h4, h5, h6, h7, h8, h9, h10⟩ := h
      have hn : ∀ x : UInt8, c ≠ x → Lib.hasPrefix [c] [x] = false := fun x hx => by rw [pre1]; exact beq_eq_false_iff_ne.2 (Ne.symm hx)
      rw [step_no (hn 43 h1), step_no (hn 45 h2), step_no (hn 42 h3), step_no (hn 47 h4), step_no (hn 37 h5), step_no (hn 61 h6), step_no (pre2' _ _ _), step_no (hn 60 h7), step_no (pre2' _ _ _), step_no (hn 62 h8), step_no (pre2' _ _ _), step_no (hn 40 h9), step_no (hn 41 h10), signL_one, if_neg]
      simp [one, h1, h2, h3, h4, h5, h6, h7, h8, h9, h10]
  | c :: d :: r =>
    by_cases hd : d = 61
    · subst hd
      by_cases h : c = 43 ∨ c = 45 ∨ c = 42 ∨ c = 47 ∨ c = 37 ∨ c = 61 ∨ c = 60 ∨ c = 62 ∨ c = 40 ∨ c = 41 ∨ c = 33
      · rcases h with rfl | rfl | rfl | rfl | rfl | rfl | rfl | rfl | rfl | rfl | rfl <;> rfl
      · simp only [not_or] at h
        obtain ⟨h1, h2, h3, h4, h5, h6, h7, h8, h9, h10, h11⟩ := h
        have hn : ∀ x : UInt8, c ≠ x → Lib.hasPrefix (c :: 61 :: r) [x] = false := fun x hx => by rw [pre1]; exact beq_eq_false_iff_ne.2 (Ne.symm hx)
        have hm : ∀ x : UInt8, c ≠ x → Lib.hasPrefix (c :: 61 :: r) [x, 61] = false := fun x hx => by rw [pre2, beq_eq_false_iff_ne.2 (Ne.symm hx)]; rfl
        rw [step_no (hn 43 h1), step_no (hn 45 h2), step_no (hn 42 h3), step_no (hn 47 h4), step_no (hn 37 h5), step_no (hn 61 h6), step_no (hm 33 h11), step_no (hn 60 h7), step_no (hm 60 h7), step_no (hn 62 h8), step_no (hm 62 h8), step_no (hn 40 h9), step_no (hn 41 h10), signL_two, if_neg (by simp [h11, h7, h8]), if_neg]
        simp [one, h1, h2, h3, h4, h5, h6, h7, h8, h9, h10]
    · have hm : ∀ x : UInt8, Lib.hasPrefix (c :: d :: r) [x, 61] = false := fun x => by rw [pre2, beq_eq_false_iff_ne.2 (Ne.symm hd), Bool.and_false]
      have hd' : (d == 61) = false := beq_eq_false_iff_ne.2 hd
      rw [step_no (hm 33), step_no (hm 60), step_no (hm 62), signL_two, hd', Bool.false_and, if_neg (by decide)]
      by_cases h : c = 43 ∨ c = 45 ∨ c = 42 ∨ c = 47 ∨ c = 37 ∨ c = 61 ∨ c = 60 ∨ c = 62 ∨ c = 40 ∨ c = 41
      · rcases h with rfl | rfl | rfl | rfl | rfl | rfl | rfl | rfl | rfl | rfl <;> rfl
      · simp only [not_or] at h
        obtain ⟨h1, h2, h3, h4, h5, h6, h7, h8, h9, h10⟩ := h
        have hn : ∀ x : UInt8, c ≠ x → Lib.hasPrefix (c :: d :: r) [x] = false := fun x hx => by rw [pre1]; exact beq_eq_false_iff_ne.2 (Ne.symm hx)
        rw [step_no (hn 43 h1), step_no (hn 45 h2), step_no (hn 42 h3), step_no (hn 47 h4), step_no (hn 37 h5), step_no (hn 61 h6), step_no (hn 60 h7), step_no (hn 62 h8), step_no (hn 40 h9), step_no (hn 41 h10), if_neg]
        simp [one, h1, h2, h3, h4, h5, h6, h7, h8, h9, h10]
theorem sgF_len (l : List UInt8) : ∀ k, k ≤ 13 → (sgF l k).length ≤ 2
  | 0, _ => by simp [sgF]
  | k + 1, h => by
    rw [sgF_succ l k (by omega)]
    unfold sgStep
    split
    · obtain rfl | rfl | rfl | rfl | rfl | rfl | rfl | rfl | rfl | rfl | rfl | rfl | rfl : k = 0 ∨ k = 1 ∨ k = 2 ∨ k = 3 ∨ k = 4 ∨ k = 5 ∨ k = 6 ∨ k = 7 ∨ k = 8 ∨ k = 9 ∨ k = 10 ∨ k = 11 ∨ k = 12 := by omega
      all_goals decide
    · exact sgF_len l k (by omega)
def sgVals : Array Value := #[.string ⟨#[43]⟩, .string ⟨#[45]⟩, .string ⟨#[42]⟩, .string ⟨#[47]⟩, .string ⟨#[37]⟩, .string ⟨#[61]⟩, .string ⟨#[33, 61]⟩, .string ⟨#[60]⟩, .string ⟨#[60, 61]⟩, .string ⟨#[62]⟩, .string ⟨#[62, 61]⟩, .string ⟨#[40]⟩, .string ⟨#[41]⟩]
theorem sg_cell (w : World) (k : Nat) (hk : k < 13) : (w.alloc (.cells sgVals 9)).cell? ⟨w.heap.size, k, none⟩ = some (.string ⟨(sgs.getD k []).toArray⟩) := by
  obtain rfl | rfl | rfl | rfl | rfl | rfl | rfl | rfl | rfl | rfl | rfl | rfl | rfl : k = 0 ∨ k = 1 ∨ k = 2 ∨ k = 3 ∨ k = 4 ∨ k = 5 ∨ k = 6 ∨ k = 7 ∨ k = 8 ∨ k = 9 ∨ k = 10 ∨ k = 11 ∨ k = 12 := by omega
  all_goals
    simp only [World.cell?, heap_alloc_new]
    rfl
end Ix

set_option maxHeartbeats 4000000 in
set_option maxRecDepth 20000 in
theorem Tryd.rsign_any (l : List UInt8) (i : Nat) (w : World) (hi : i ≤ l.length) (hl : l.length ≤ 21000) :
    Calls Tryd.prog 22 #[.string ⟨l.toArray⟩, .int .i64 i] w fun e w' => e = .returned (.string ⟨(Ix.signL (l.drop i)).toArray⟩) ∧ Below w.heap.size w w' := by
  obtain ⟨s, hs⟩ : ∃ s : ByteArray, s = ⟨l.toArray⟩ := ⟨_, rfl⟩
  have hsz := Ix.size_str l s hs
  rw [← hs]
  have HA : Hid (∀ (W : World) (x : ByteArray) (b : Bool), x.size ≤ 20000 → Lib.hasPrefix (l.drop i) x.data.toList = b → Calls Tryd.prog 36 #[.string s, .int .i64 i, .string x] W fun e w' => e = .returned (.bool b) ∧ w' = W) := fun W x b hx hb => by
    refine Tryd.rat_any s x i b W (by omega) (by omega) hx ?_
    rw [hs]; exact hb
  obtain ⟨q, hq⟩ : ∃ q, l.drop i = q := ⟨_, rfl⟩
  rw [hq] at HA ⊢
  have HC : Hid (∀ k, k < 13 → (w.alloc (.cells Ix.sgVals 9)).cell? ⟨w.heap.size, k, none⟩ = some (.string ⟨(Ix.sgs.getD k []).toArray⟩)) := fun k hk => Ix.sg_cell w k hk
  have HB : Hid (Below w.heap.size w (w.alloc (.cells Ix.sgVals 9))) := (Below.refl _ w).alloc (Nat.le_refl _) _
  have HR : Hid (Ix.sgF q 13 = Ix.signL q) := Ix.sgF_all q
  obtain ⟨wa, hwa⟩ : ∃ x, w.alloc (.cells Ix.sgVals 9) = x := ⟨_, rfl⟩
  rw [hwa] at HC HB
  have HWA : Hid (w.alloc (.cells Ix.sgVals 9) = wa) := hwa
  clear hs hsz hi hl hq hwa
  go_enter Tryd.func22, Tryd.ntmps22
  go_wp2
  have HWB : (w.alloc (Obj.cells #[.string ⟨#[43]⟩, .string ⟨#[45]⟩, .string ⟨#[42]⟩, .string ⟨#[47]⟩, .string ⟨#[37]⟩, .string ⟨#[61]⟩, .string ⟨#[33, 61]⟩, .string ⟨#[60]⟩, .string ⟨#[60, 61]⟩, .string ⟨#[62]⟩, .string ⟨#[62, 61]⟩, .string ⟨#[40]⟩, .string ⟨#[41]⟩] 9)) = wa := HWA.out
  rw [HWB]
  clear HWB
  go_loopg [5, 10] 13 (fun g s5 s10 wr => ∃ k : Nat, g + k = 13 ∧ s10 = .int .i64 k ∧ s5 = .string ⟨(Ix.sgF q k).toArray⟩ ∧ wr = wa)
  case atStart => exact ⟨0, by omega, rfl, rfl, rfl⟩
  case round =>
    obtain ⟨k, hg, rfl, rfl, rfl⟩ := hrel
    by_cases hk : k < 13
    · have c0 := HC.out k hk
      have HN : Hid (Ix.sgF q (k + 1) = Ix.sgStep q (Ix.sgF q k) (Ix.sgs.getD k [])) := Ix.sgF_succ q k hk
      obtain ⟨x, hx⟩ : ∃ x, Ix.sgs.getD k [] = x := ⟨_, rfl⟩
      obtain ⟨o, ho⟩ : ∃ x, Ix.sgF q k = x := ⟨_, rfl⟩
      have hxl : x.length ≤ 2 := by
        subst hx
        obtain rfl | rfl | rfl | rfl | rfl | rfl | rfl | rfl | rfl | rfl | rfl | rfl | rfl : k = 0 ∨ k = 1 ∨ k = 2 ∨ k = 3 ∨ k = 4 ∨ k = 5 ∨ k = 6 ∨ k = 7 ∨ k = 8 ∨ k = 9 ∨ k = 10 ∨ k = 11 ∨ k = 12 := by omega
        all_goals decide
      have hol : o.length ≤ 2 := by rw [← ho]; exact Ix.sgF_len q k (by omega)
      rw [hx] at c0 HN
      rw [ho] at HN ⊢
      obtain ⟨xs, hxs⟩ : ∃ s : ByteArray, s = ⟨x.toArray⟩ := ⟨_, rfl⟩
      obtain ⟨os, hos⟩ : ∃ s : ByteArray, s = ⟨o.toArray⟩ := ⟨_, rfl⟩
      have hz1 := Ix.size_str x xs hxs
      have hz2 := Ix.size_str o os hos
      obtain ⟨b, hb⟩ : ∃ b, Lib.hasPrefix q x = b := ⟨_, rfl⟩
      have h1 := HA.out wr xs b (by omega) (by rw [hxs]; exact hb)
      rw [← hxs] at c0
      have H1 : Hid _ := h1
      have HE : Hid (Ix.sgF q (k + 1) = if b = true ∧ os.size < xs.size then x else o) := by show _ = _; rw [HN.out]; unfold Ix.sgStep; rw [hb, hz1, hz2]
      have HXS : Hid (xs = ⟨x.toArray⟩ ∧ os = ⟨o.toArray⟩) := ⟨hxs, hos⟩
      have hx2 : xs.size ≤ 2 := by omega
      have ho2 : os.size ≤ 2 := by omega
      rw [← hos]
      clear h1 hx ho hxs hos hb HN hz1 hz2 hxl hol
      go_wp2_with fail
      refine Calls.mono H1.out ?_
      rintro e W1 ⟨rfl, hW⟩
      obtain rfl := hW.symm
      clear hW
      cases b with
      | false =>
        go_wp2
        go_roundg (gk - 1)
        case measure => omega
        case rel => exact ⟨k + 1, by omega, by go_num, by rw [HE.out, if_neg (by simp), ← HXS.out.2], rfl⟩
      | true =>
        by_cases hlt : os.size < xs.size
        · have hd : decide ((os.size : Int) < xs.size) = true := decide_eq_true (by omega)
          have HLT : Hid (os.size < xs.size) := hlt
          clear hlt
          go_wp2
          go_roundg (gk - 1)
          case measure => omega
          case rel => exact ⟨k + 1, by omega, by go_num, by rw [HE.out, if_pos ⟨by trivial, HLT.out⟩, ← HXS.out.1], rfl⟩
        · have hd : decide ((os.size : Int) < xs.size) = false := decide_eq_false (by omega)
          have HLT : Hid (¬ os.size < xs.size) := hlt
          clear hlt
          go_wp2
          go_roundg (gk - 1)
          case measure => omega
          case rel => exact ⟨k + 1, by omega, by go_num, by rw [HE.out, if_neg (fun h => HLT.out h.2), ← HXS.out.2], rfl⟩
    · obtain rfl : k = 13 := by omega
      go_wp2
      go_ret
      exact ⟨by rw [← HR.out]; rfl, HB.out⟩

end Go.Proofs
