/-
  The contracts of mark.Escape and of the document's Escape: both give every text with escapes, or say that it has a byte that is not plain.
-/
import Derived.Test.YtbcafacolohgbaaDoorEsc
import Derived.Test.YtbcafacolohgbaaDoorUnlike
namespace Go.Proofs
open Go.RowKit
open Go.Proofs.Mk

/-- A text with escapes. -/
def Mk.escF (l : List UInt8) : List UInt8 := l.flatMap fun c => wrL (c.toNat : Int)
/-- Escape's answer: the text, and the error's number. -/
def Mk.escText (l : List UInt8) : List UInt8 := if l.all bplain then Mk.escF l else []
def Mk.escErr (l : List UInt8) : Int := if l.all bplain then 0 else 4

theorem Mk.escF_append (a c : List UInt8) : Mk.escF (a ++ c) = Mk.escF a ++ Mk.escF c := by simp [Mk.escF]
theorem Mk.wrL_len (c : Int) : (wrL c).length ≤ 6 := by
  unfold wrL signL
  repeat' split
  all_goals simp
theorem Mk.escF_len : ∀ (l : List UInt8), (Mk.escF l).length ≤ 6 * l.length
  | [] => by simp [Mk.escF]
  | c :: r => by
    have := Mk.escF_len r
    have := Mk.wrL_len (c.toNat : Int)
    simp only [Mk.escF, List.flatMap_cons, List.length_append, List.length_cons] at *
    omega
theorem Mk.take_snoc (s : ByteArray) (k : Nat) (h : k < s.size) : s.data.toList.take (k + 1) = s.data.toList.take k ++ [s[k]] := by
  rw [List.take_succ_eq_append_getElem h]; rfl
theorem Mk.all_false {l : List UInt8} {c : UInt8} {k : Nat} (hk : l[k]? = some c) (hc : bplain c = false) : l.all bplain = false := by
  cases h : l.all bplain
  · rfl
  · rw [List.all_eq_true] at h
    rw [h c (List.mem_of_getElem? hk)] at hc
    cases hc
theorem Mk.str_append (a c : List UInt8) : (⟨a.toArray⟩ : ByteArray) ++ (⟨c.toArray⟩ : ByteArray) = ⟨(a ++ c).toArray⟩ := by
  apply Mk.str_ext
  simp [Lib.toList_data, ByteArray.data_append]
theorem Mk.get_some (s : ByteArray) (k : Nat) (h : k < s.size) : s.data.toList[k]? = some s[k] := List.getElem?_eq_getElem h
theorem Mk.get_one (s : ByteArray) (k : Nat) (h : k < s.size) : s.extract k (k + 1) = ⟨#[s[k]]⟩ := by
  rw [Lib.extract_eq, Nat.add_sub_cancel_left]
  have : (s.data.toList.drop k).take 1 = [s[k]] := by
    rw [List.drop_eq_getElem_cons h]; rfl
  rw [this]
theorem Mk.byte_of (c : UInt8) : UInt8.ofNat ((c.toNat : Int)).toNat = c := by simp

set_option maxHeartbeats 2000000 in
theorem Tryd.escape_any (s : ByteArray) (w : World) (hE : Mk.Esc w) (hs : s.size ≤ 1000000000) :
    Calls Tryd.prog 59 #[.string s] w fun e w' => e = .returned (.tuple #[.string ⟨(Mk.escText s.data.toList).toArray⟩, .int .i64 (Mk.escErr s.data.toList)]) ∧ Below w.heap.size w w' := by
  have HE : Hid (Mk.Esc w) := hE
  have hw0 : 0 < w.heap.size := by obtain ⟨t, fz, h⟩ := hE; exact (Array.getElem?_eq_some_iff.1 h).1
  clear hE
  go_enter Tryd.func59, Tryd.ntmps59
  go_wp2
  go_loopg [] s.size (fun g wr => ∃ pos : Nat, g + pos = s.size ∧ Lib.IsBuilderF 63 5 w.heap.size w.heap.size (Lib.byteCells (Mk.escF (s.data.toList.take pos))) wr ∧ wr.heap[w.heap.size + 1]? = some (.stringIter s pos) ∧ Below w.heap.size w wr ∧ (s.data.toList.take pos).all bplain = true)
  case atStart =>
    refine ⟨0, by omega, (Lib.IsBuilderF.of (Lib.fresh_isBuilder _ _ w)).alloc _, ?_, ((Below.refl _ w).alloc (Nat.le_refl _) _).alloc (by simp) _, by simp⟩
    have := World.iter_heap (w.alloc (.cells #[.pointer none, .slice none 0 0] 63)) s 0
    simpa using this
  case round =>
    obtain ⟨pos, hg, hI, hit, hbw, hall⟩ := hrel
    have hsz : w.heap.size + 1 < wr.heap.size := (Array.getElem?_eq_some_iff.1 hit).1
    have HA : Hid ((s.data.toList.take pos).all bplain = true) := hall
    clear hall
    by_cases hp : pos < s.size
    · by_cases ha : (s[pos]'hp).toNat < 128
      · have hnx : ∀ ty, (Instr.next (.pointer (some ⟨w.heap.size + 1, 0, none⟩)) true ty).run Tryd.prog wr = _ := fun ty => Lib.run_next_ascii_at wr (w.heap.size + 1) s pos ty hit hp ha
        have hI2 := hI.iterAt hit (pos + 1)
        have hit2 := Lib.iterAt_heap wr (w.heap.size + 1) s pos (pos + 1) hit
        have hbw2 := Lib.below_iterAt hbw (k := w.heap.size + 1) (by omega) s (pos + 1)
        have hsz2 : w.heap.size + 1 < (wr.iterAt (w.heap.size + 1) s (pos + 1)).heap.size := by rw [Lib.iterAt_size]; exact hsz
        cases hb : plainB (s[pos].toNat : Int)
        · have hf : s.data.toList.all bplain = false := Mk.all_false (Mk.get_some s pos hp) hb
          have HT : Hid (Mk.escText s.data.toList = []) := by show _ = _; simp [Mk.escText, hf]
          have HF : Hid (Mk.escErr s.data.toList = 4) := by show _ = _; simp [Mk.escErr, hf]
          clear hf
          go_wp2_with (go_at_call 78; refine (Tryd.plain_any _ _).mono ?_; rintro e w' ⟨rfl, rfl⟩)
          go_ret2
          exact ⟨by rw [HT.out, HF.out]; rfl, hbw2⟩
        · go_wp2_with (go_at_call 78; refine (Tryd.plain_any _ _).mono ?_; rintro e w' ⟨rfl, rfl⟩)
          have HE2 : Hid (Mk.Esc (wr.iterAt (w.heap.size + 1) s (pos + 1))) := HE.out.kept (Mk.grown_of_below hbw2 none) (by simp)
          have hl6 := Mk.escF_len (s.data.toList.take pos)
          have hlt6 : (s.data.toList.take pos).length ≤ pos := List.length_take_le _ _
          have hwl := Mk.wrL_len (s[pos].toNat : Int)
          have HS : Hid (Mk.escF (s.data.toList.take (pos + 1)) = Mk.escF (s.data.toList.take pos) ++ wrL (s[pos].toNat : Int)) := by
            show _ = _
            rw [Mk.take_snoc s pos hp, Mk.escF_append]
            simp [Mk.escF]
          have HA2 : Hid ((s.data.toList.take (pos + 1)).all bplain = true) := by
            show _ = _
            rw [Mk.take_snoc s pos hp, List.all_append, HA.out]
            simp [bplain, hb]
          refine (Tryd.written_any _ _ (by exact HE2.out) hb).mono ?_
          rintro e W1 ⟨rfl, b1⟩
          have I1 := Mk.builder_below hI2 b1
          have z1 := b1.size
          have t1 : W1.heap[w.heap.size + 1]? = some (.stringIter s (pos + 1)) := by rw [b1.block _ hsz2]; exact hit2
          have B1 := hbw2.trans (b1.mono (by omega))
          clear hI hI2 hit hit2 hbw hbw2 b1
          go_wp2_with fail
          refine (Tryd.Builder_WriteString_k w.heap.size w.heap.size _ _ _ (by exact I1) ?_ (by omega)).mono ?_
          · rw [Lib.byteCells_length]
            show _ + (wrL (s[pos].toNat : Int)).length ≤ _
            omega
          · rintro e W2 ⟨rfl, u2, b2, k2⟩
            go_wp2
            go_roundg (gk - 1)
            case measure => omega
            case rel =>
              refine ⟨pos + 1, by omega, ?_, k2.iter t1 (by omega), B1.trans b2, HA2.out⟩
              rw [HS.out, Lib.byteCells_append]
              exact Or.inr u2
      · have hnx : ∀ ty, (Instr.next (.pointer (some ⟨w.heap.size + 1, 0, none⟩)) true ty).run Tryd.prog wr = _ := fun ty => Lib.run_next_any_at wr (w.heap.size + 1) s pos ty hit hp
        have hbw2 := Lib.below_iterAt hbw (k := w.heap.size + 1) (by omega) s (pos + (Utf8.decode s pos).2)
        have hpl : plainB ((Utf8.decode s pos).1 : Int) = false := by
          have := (decode_high s pos hp (by omega)).1
          simp only [plainB, decide_eq_false_iff_not]
          omega
        have hf : s.data.toList.all bplain = false := Mk.all_false (Mk.get_some s pos hp) (by
          simp only [bplain, plainB, decide_eq_false_iff_not]
          omega)
        have HT : Hid (Mk.escText s.data.toList = []) := by show _ = _; simp [Mk.escText, hf]
        have HF : Hid (Mk.escErr s.data.toList = 4) := by show _ = _; simp [Mk.escErr, hf]
        clear hf
        go_wp2_with (go_at_call 78; refine (Tryd.plain_any _ _).mono ?_; rintro e w' ⟨rfl, rfl⟩)
        go_ret2
        exact ⟨by rw [HT.out, HF.out]; rfl, hbw2⟩
    · have hnx : ∀ ty, (Instr.next (.pointer (some ⟨w.heap.size + 1, 0, none⟩)) true ty).run Tryd.prog wr = _ := fun ty => Lib.run_next_end_at wr (w.heap.size + 1) s pos ty hit hp
      have htk : s.data.toList.take pos = s.data.toList := List.take_of_length_le (by rw [Mk.size_list]; omega)
      have HT : Hid (Mk.escText s.data.toList = Mk.escF s.data.toList) := by
        show _ = _
        have := HA.out
        rw [htk] at this
        simp [Mk.escText, this]
      have HF : Hid (Mk.escErr s.data.toList = 0) := by
        show _ = _
        have := HA.out
        rw [htk] at this
        simp [Mk.escErr, this]
      rw [htk] at hI
      have HI : Hid (Lib.IsBuilderF 63 5 w.heap.size w.heap.size (Lib.byteCells (Mk.escF s.data.toList)) wr) := hI
      clear htk hI
      go_wp2_with fail
      refine (Tryd.Builder_String_any_k w.heap.size w.heap.size (Mk.escF s.data.toList) _ (by exact HI.out) (by omega)).mono ?_
      rintro e W1 ⟨rfl, _, b1, _⟩
      go_wp2
      go_ret2
      exact ⟨by rw [HT.out, HF.out]; rfl, hbw.trans b1⟩

set_option maxHeartbeats 2000000 in
theorem Tryd.refEscape_any (s : ByteArray) (w : World) (hs : s.size ≤ 1000000000) :
    Calls Tryd.prog 44 #[.string s] w fun e w' => e = .returned (.tuple #[.string ⟨(Mk.escText s.data.toList).toArray⟩, .int .i64 (Mk.escErr s.data.toList)]) ∧ w' = w := by
  go_enter Tryd.func44, Tryd.ntmps44
  go_wp2
  go_loop [4, 5] (fun o i => ∃ k : Nat, k ≤ s.size ∧ i = .int .i64 k ∧ o = .string ⟨(Mk.escF (s.data.toList.take k)).toArray⟩ ∧ (s.data.toList.take k).all bplain = true) (fun _ i => s.size - (intOf i).toNat)
  case atStart => exact ⟨0, Nat.zero_le _, rfl, by simp [Mk.escF], by simp⟩
  case round =>
    obtain ⟨k, hk, rfl, rfl, hall⟩ := hrel
    have HA : Hid ((s.data.toList.take k).all bplain = true) := hall
    clear hall
    by_cases hlt : k < s.size
    · cases hb : plainB (s[k].toNat : Int)
      · have hf : s.data.toList.all bplain = false := Mk.all_false (Mk.get_some s k hlt) hb
        have HT : Hid (Mk.escText s.data.toList = []) := by show _ = _; simp [Mk.escText, hf]
        have HF : Hid (Mk.escErr s.data.toList = 4) := by show _ = _; simp [Mk.escErr, hf]
        clear hf
        go_wp2_with (go_at_call 62; refine (Tryd.refPlain_any _ _).mono ?_; rintro e w' ⟨rfl, rfl⟩)
        go_ret2
        exact ⟨by rw [HT.out, HF.out]; rfl, rfl⟩
      · have HS : Hid (Mk.escF (s.data.toList.take (k + 1)) = Mk.escF (s.data.toList.take k) ++ wrL (s[k].toNat : Int)) := by
          show _ = _
          rw [Mk.take_snoc s k hlt, Mk.escF_append]
          simp [Mk.escF]
        have HA2 : Hid ((s.data.toList.take (k + 1)).all bplain = true) := by
          show _ = _
          rw [Mk.take_snoc s k hlt, List.all_append, HA.out]
          simp [bplain, hb]
        obtain ⟨acc, hacc⟩ : ∃ acc, Mk.escF (s.data.toList.take k) = acc := ⟨_, rfl⟩
        have HC : Hid (Mk.escF (s.data.toList.take k) = acc) := hacc
        have hal : acc.length ≤ 6000000000 := by
          have := Mk.escF_len (s.data.toList.take k)
          have : (s.data.toList.take k).length ≤ k := List.length_take_le _ _
          rw [hacc] at *
          omega
        rw [hacc]
        clear hacc
        obtain ⟨sg, hsg⟩ : ∃ sg, signL (s[k].toNat : Int) = sg := ⟨_, rfl⟩
        have HG : Hid (signL (s[k].toNat : Int) = sg) := hsg
        clear hsg
        have hx1 := Mk.get_one s k hlt
        cases sg with
        | nil =>
          go_wp2_with (first | (go_at_call 62; refine (Tryd.refPlain_any _ _).mono ?_; rintro e w' ⟨rfl, rfl⟩) | (go_at_call 63; refine (Tryd.sign_any _ _).mono ?_; rw [HG.out]; rintro e w' ⟨rfl, rfl⟩))
          have hwr : wrL (s[k].toNat : Int) = [s[k]] := by unfold wrL; rw [if_pos HG.out, Mk.byte_of]
          go_round
          case rel =>
            refine ⟨k + 1, by omega, by go_num, ?_, HA2.out⟩
            rw [HS.out, HC.out, hwr]
            exact congrArg Value.string (Mk.str_append acc [s[k]])
          case measure => simp [intOf]; omega
        | cons x r =>
          have hwr : Hid (wrL (s[k].toNat : Int) = x :: r) := by
            show _ = _
            unfold wrL
            rw [if_neg (by rw [HG.out]; simp), HG.out]
          have hrl : r.length ≤ 5 := by
            have := Mk.wrL_len (s[k].toNat : Int)
            rw [hwr.out] at this
            simp only [List.length_cons] at this
            omega
          go_wp2_with (first | (go_at_call 62; refine (Tryd.refPlain_any _ _).mono ?_; rintro e w' ⟨rfl, rfl⟩) | (go_at_call 63; refine (Tryd.sign_any _ _).mono ?_; rw [HG.out]; rintro e w' ⟨rfl, rfl⟩))
          go_round
          case rel =>
            refine ⟨k + 1, by omega, by go_num, ?_, HA2.out⟩
            rw [HS.out, HC.out, hwr.out]
            exact congrArg Value.string (Mk.str_append acc (x :: r))
          case measure => simp [intOf]; omega
    · have htk : s.data.toList.take k = s.data.toList := List.take_of_length_le (by rw [Mk.size_list]; omega)
      have HT : Hid (Mk.escText s.data.toList = Mk.escF (s.data.toList.take k)) := by
        show _ = _
        have := HA.out
        rw [htk] at this
        simp [Mk.escText, this, htk]
      have HF : Hid (Mk.escErr s.data.toList = 0) := by
        show _ = _
        have := HA.out
        rw [htk] at this
        simp [Mk.escErr, this]
      clear htk
      go_wp2
      go_ret2
      exact ⟨by rw [HT.out, HF.out]; rfl, rfl⟩

end Go.Proofs
