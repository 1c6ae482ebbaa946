/-
  The contract of the reader's text.
-/
import Derived.Test.YtbcafacolohgbaaDoorEsc
namespace Go.Proofs
open Go.RowKit
open Go.Proofs.Mk

/-- A text up to a byte, or to the end: what is meant, and how many bytes it takes. -/
def Mk.textF (stop : UInt8) : Nat → List UInt8 → Option (List UInt8 × Nat)
  | 0, _ => some ([], 0)
  | f + 1, l => if l = [] then some ([], 0) else if l.head? = some stop then some ([], 0) else
      if (meantL l).2 = 0 then none else
      match Mk.textF stop f (l.drop (meantL l).2) with
      | none => none
      | some (o, m) => some ((meantL l).1 :: o, (meantL l).2 + m)
def Mk.textL (stop : UInt8) (l : List UInt8) : Option (List UInt8 × Nat) := Mk.textF stop l.length l

theorem Mk.hasPrefix_len {l p : List UInt8} (h : Lib.hasPrefix l p = true) : p.length ≤ l.length := by
  simp only [Lib.hasPrefix, List.isPrefixOf_iff_prefix] at h
  exact h.length_le

theorem Mk.meant_le (l : List UInt8) : (meantL l).2 ≤ l.length := by
  unfold meantL
  split
  · split
    · rename_i h; simpa using Mk.hasPrefix_len h
    · split
      · rename_i h; simpa using Mk.hasPrefix_len h
      · split
        · rename_i h; simpa using Mk.hasPrefix_len h
        · split
          · rename_i h; simpa using Mk.hasPrefix_len h
          · simp
  · split
    · simp
    · split <;> simp

/-- More fuel says the same. -/
theorem Mk.textF_fuel (stop : UInt8) : ∀ (f g : Nat) (l : List UInt8), l.length ≤ f → l.length ≤ g → Mk.textF stop f l = Mk.textF stop g l
  | 0, 0, _, _, _ => rfl
  | 0, g + 1, l, h, _ => by
    obtain rfl : l = [] := List.length_eq_zero_iff.1 (by omega)
    simp [Mk.textF]
  | f + 1, 0, l, _, h => by
    obtain rfl : l = [] := List.length_eq_zero_iff.1 (by omega)
    simp [Mk.textF]
  | f + 1, g + 1, l, hf, hg => by
    simp only [Mk.textF]
    by_cases h1 : l = []
    · simp [h1]
    · rw [if_neg h1, if_neg h1]
      by_cases h2 : (meantL l).2 = 0
      · simp [h2]
      · have hl : 0 < l.length := List.length_pos_iff.2 h1
        rw [Mk.textF_fuel stop f g (l.drop (meantL l).2) (by rw [List.length_drop]; omega) (by rw [List.length_drop]; omega)]

/-- One byte of a text. -/
theorem Mk.textL_step (stop : UInt8) (l : List UInt8) (h1 : l ≠ []) (h2 : l.head? ≠ some stop) (h3 : (meantL l).2 ≠ 0) :
    Mk.textL stop l = match Mk.textL stop (l.drop (meantL l).2) with | none => none | some (o, m) => some ((meantL l).1 :: o, (meantL l).2 + m) := by
  unfold Mk.textL
  have hl : 0 < l.length := List.length_pos_iff.2 h1
  obtain ⟨f, hf⟩ : ∃ f, l.length = f + 1 := ⟨l.length - 1, by omega⟩
  rw [hf]
  simp only [Mk.textF]
  rw [if_neg h1, if_neg h2, if_neg h3]
  rw [Mk.textF_fuel stop f (l.drop (meantL l).2).length (l.drop (meantL l).2) (by rw [List.length_drop]; omega) (Nat.le_refl _)]
theorem Mk.textL_end (stop : UInt8) (l : List UInt8) (h : l = [] ∨ l.head? = some stop) : Mk.textL stop l = some ([], 0) := by
  unfold Mk.textL
  cases hl : l.length with
  | zero => rfl
  | succ f =>
    simp only [Mk.textF]
    rcases h with h | h
    · simp [h]
    · rw [h]; simp
theorem Mk.textL_bad (stop : UInt8) (l : List UInt8) (h1 : l ≠ []) (h2 : l.head? ≠ some stop) (h3 : (meantL l).2 = 0) : Mk.textL stop l = none := by
  unfold Mk.textL
  have hl : 0 < l.length := List.length_pos_iff.2 h1
  obtain ⟨f, hf⟩ : ∃ f, l.length = f + 1 := ⟨l.length - 1, by omega⟩
  rw [hf]
  simp only [Mk.textF]
  rw [if_neg h1, if_neg h2, if_pos h3]

theorem Mk.textF_le (stop : UInt8) : ∀ (f : Nat) (l : List UInt8) (o : List UInt8) (m : Nat), Mk.textF stop f l = some (o, m) → m ≤ l.length
  | 0, _, _, _, h => by simp only [Mk.textF, Option.some.injEq, Prod.mk.injEq] at h; omega
  | f + 1, l, o, m, h => by
    simp only [Mk.textF] at h
    split at h
    · simp only [Option.some.injEq, Prod.mk.injEq] at h; omega
    · split at h
      · simp only [Option.some.injEq, Prod.mk.injEq] at h; omega
      · split at h
        · cases h
        · split at h
          · cases h
          · rename_i o' m' he
            simp only [Option.some.injEq, Prod.mk.injEq] at h
            have := Mk.textF_le stop f _ o' m' he
            rw [List.length_drop] at this
            have := Mk.meant_le l
            omega
theorem Mk.textL_le {stop : UInt8} {l o : List UInt8} {m : Nat} (h : Mk.textL stop l = some (o, m)) : m ≤ l.length := Mk.textF_le stop _ l o m h

theorem Mk.head_drop (s : ByteArray) (p : Nat) (hl : p < s.size) : (s.data.toList.drop p).head? = some s[p] := by
  rw [List.head?_drop]
  exact List.getElem?_eq_getElem hl
theorem Mk.rest_size (s : ByteArray) (p : Nat) : (s.extract p s.size).size = s.size - p := by
  rw [Lib.extract_eq]; show List.length _ = _; simp
theorem Tryd.meant_at (s : ByteArray) (p : Nat) (x : UInt8) (n : Nat) (w : World) (hm : meantL (s.data.toList.drop p) = (x, n)) (h : Mk.Esc w) (hs : s.size ≤ 20000) (hp : p < s.size) :
    Calls Tryd.prog 83 #[.string (s.extract p s.size)] w fun e w' => e = .returned (.tuple #[.int .u8 x.toNat, .int .i64 n]) ∧ Below w.heap.size w w' := by
  have h1 := Mk.rest_size s p
  have := Tryd.meant_any (s.extract p s.size) w h (by omega) (by omega)
  rw [Lib.extract_data, Mk.take_rest, hm] at this
  exact this

/-- How text ends. -/
def Mk.TextEnd (b : Nat) (s : ByteArray) (k : Nat) (stop : UInt8) (e : Ending) (w' : World) : Prop :=
  match Mk.textL stop (s.data.toList.drop k) with
  | none => e = .returned (.tuple #[.string ⟨#[]⟩, .bool false]) ∧ ∃ k', k' ≤ s.size ∧ Rd b s k' w'
  | some (o, m) => e = .returned (.tuple #[.string ⟨o.toArray⟩, .bool true]) ∧ Rd b s (k + m) w'

set_option maxHeartbeats 2000000 in
theorem Tryd.rtext_any (b : Nat) (s : ByteArray) (k : Nat) (stop : UInt8) (w : World) (h : Rd b s k w) (hb0 : b ≠ 0) (hE : Mk.Esc w) (hk : k ≤ s.size) (hs : s.size ≤ 20000) :
    Calls Tryd.prog 67 #[.pointer (some ⟨b, 0, none⟩), .int .u8 stop.toNat] w fun e w' => w.grownBy w' (some b) ∧ Mk.TextEnd b s k stop e w' := by
  have hbw := h.lt
  have HH : Hid (Rd b s k w) := h
  have HE : Hid (Mk.Esc w) := hE
  clear h hE
  go_enter Tryd.func67, Tryd.ntmps67
  go_wp2
  go_loopg [] (s.size - k) (fun g wr => ∃ (p : Nat) (acc : List UInt8), k ≤ p ∧ g + p = s.size ∧ Rd b s p wr ∧ Lib.IsBuilderF 63 5 w.heap.size w.heap.size (Lib.byteCells acc) wr ∧ w.grownBy wr (some b) ∧ acc.length ≤ p ∧ (Mk.textL stop (s.data.toList.drop k) = match Mk.textL stop (s.data.toList.drop p) with | none => none | some (o, m) => some (acc ++ o, (p - k) + m)))
  case atStart =>
    refine ⟨k, [], Nat.le_refl _, by omega, ?_, Lib.IsBuilderF.of (Lib.fresh_isBuilder _ _ w), Mk.grown_of_below ((Below.refl _ w).alloc (Nat.le_refl _) _) _, by simp, ?_⟩
    · exact HH.out.kept ((Below.refl _ w).alloc (Nat.le_refl _) _)
    · cases Mk.textL stop (s.data.toList.drop k) <;> simp
  case round =>
    obtain ⟨p, acc, hkp, hg, hrd, hbd, hgr, hacc, hrec⟩ := hrel
    have HR : Hid (Rd b s p wr) := hrd
    have HB : Hid (Lib.IsBuilderF 63 5 w.heap.size w.heap.size (Lib.byteCells acc) wr) := hbd
    have HC : Hid (Mk.textL stop (s.data.toList.drop k) = match Mk.textL stop (s.data.toList.drop p) with | none => none | some (o, m) => some (acc ++ o, (p - k) + m)) := hrec
    have HEr : Hid (Mk.Esc wr) := HE.out.kept hgr (by simpa using Ne.symm hb0)
    have hsz := hgr.size
    have hlt := hrd.lt
    have hc0 := hrd.c0
    have hc1 := hrd.c1
    have hf1 := hrd.f1
    clear hrd hbd hrec
    by_cases hl : p < s.size
    · have hd : decide ((p : Int) < s.size) = true := decide_eq_true (by omega)
      by_cases hst : s[p] = stop
      · have hne : ((s[p].toNat : Int) != stop.toNat) = false := by rw [hst]; simp
        have HT : Hid (Mk.textL stop (s.data.toList.drop p) = some ([], 0)) := Mk.textL_end stop _ (.inr (by rw [Mk.head_drop s p hl, hst]))
        clear hst
        go_wp2
        go_quiet (fail)
        go_wp2_with fail
        refine (Tryd.Builder_String_any_k w.heap.size w.heap.size acc _ (by exact HB.out) (by exact hsz)).mono ?_
        rintro e W1 ⟨rfl, _, b1, _⟩
        go_wp2
        go_ret2
        refine ⟨Mk.grown_belowB (Mk.grown_drewN hgr nq) b1, ?_⟩
        unfold Mk.TextEnd
        rw [HC.out, HT.out]
        refine ⟨by simp, ?_⟩
        have := Mk.Rd.keptB (w := wr.drewN nq) HR.out b1 hbw
        simpa [hkp] using this
      · have hne : ((s[p].toNat : Int) != stop.toNat) = true := by
          rw [bne_iff_ne]
          intro e
          exact hst (UInt8.toNat_inj.1 (by omega))
        obtain ⟨x, n, hm⟩ : ∃ x n, meantL (s.data.toList.drop p) = (x, n) := ⟨_, _, rfl⟩
        have HM : Hid (meantL (s.data.toList.drop p) = (x, n)) := hm
        clear hm
        by_cases hn0 : n = 0
        · have HT : Hid (Mk.textL stop (s.data.toList.drop k) = none) := by
            rw [HC.out, Mk.textL_bad stop _ (by intro e; have := congrArg List.length e; rw [List.length_drop, Mk.size_list] at this; simp at this; omega) (by rw [Mk.head_drop s p hl]; simpa using hst) (by rw [HM.out]; exact hn0)]; rfl
          have hz : ((n : Int) == 0) = true := by rw [hn0]; rfl
          clear hst
          go_wp2
          go_quiet (fail)
          go_wp2
          go_region_with (go_at_call 83; refine (Tryd.meant_at s p x n _ HM.out (by exact HEr.out) hs hl).mono ?_; rintro e W1 ⟨rfl, b1⟩)
          all_goals go_wp2
          all_goals go_ret2
          all_goals
            refine ⟨Mk.grown_trans (Mk.grown_drewN hgr _) (Mk.grown_of_below b1 _), ?_⟩
            unfold Mk.TextEnd
            rw [HT.out]
            exact ⟨rfl, p, by omega, Mk.Rd.kept (w := wr.drewN _) HR.out b1⟩
        · have hml := Mk.meant_le (s.data.toList.drop p)
          have hpn : p + n ≤ s.size := by
            rw [HM.out, List.length_drop, Mk.size_list] at hml
            simp only at hml
            omega
          have HT : Hid (Mk.textL stop (s.data.toList.drop k) = match Mk.textL stop (s.data.toList.drop (p + n)) with | none => none | some (o, m) => some ((acc ++ [x]) ++ o, (p + n - k) + m)) := by
            show _ = _
            rw [HC.out, Mk.textL_step stop _ (by intro e; have := congrArg List.length e; rw [List.length_drop, Mk.size_list] at this; simp at this; omega) (by rw [Mk.head_drop s p hl]; simpa using hst) (by rw [HM.out]; exact hn0), HM.out, List.drop_drop]
            cases Mk.textL stop (s.data.toList.drop (p + n)) with
            | none => rfl
            | some q =>
              obtain ⟨o, m⟩ := q
              simp
              omega
          have hz : ((n : Int) == 0) = false := beq_eq_false_iff_ne.2 (by omega)
          clear hst hml
          go_wp2
          go_quiet (fail)
          go_wp2
          go_region_with (go_at_call 83; refine (Tryd.meant_at s p x n _ HM.out (by exact HEr.out) hs hl).mono ?_; rintro e W1 ⟨rfl, b1⟩)
          all_goals
            have r1 := Mk.Rd.kept (w := wr.drewN _) HR.out b1
            have u1 := Mk.builder_below (w := wr.drewN _) HB.out b1
            have z1 := b1.size
            have hsz1 : w.heap.size ≤ W1.heap.size := Nat.le_trans hsz z1
            have R1 : Hid (Rd b s p W1) := r1
            have U1 : Hid (Lib.IsBuilderF 63 5 w.heap.size w.heap.size (Lib.byteCells acc) W1) := u1
            clear r1 u1 z1
            go_wp2_with fail
            refine (Tryd.Builder_WriteByte_k w.heap.size w.heap.size _ _ _ (by exact U1.out) (by rw [Lib.byteCells_length]; omega) (by exact hsz1)).mono ?_
            rintro e W2 ⟨rfl, u2, b2, _⟩
            have r2 := Mk.Rd.keptB R1.out b2 hbw
            have hlt2 := r2.lt
            have hc12 := r2.c1
            have hf12 := r2.f1
            have R2 : Hid (Rd b s p W2) := r2
            have U2 : Hid (Lib.IsBuilderF 63 5 w.heap.size w.heap.size (Lib.byteCells (acc ++ [x])) W2) := by
              show Lib.IsBuilderF _ _ _ _ _ _
              rw [Lib.byteCells_append]
              exact Or.inr u2
            clear r2 u2
            go_wp2
            go_roundg (gk - n)
            case measure => omega
            case rel =>
              refine ⟨p + n, acc ++ [x], by omega, by omega, ?_, Mk.builder_setCell U2.out _ hbw _, Mk.grown_setCell (Mk.grown_belowB (Mk.grown_trans (Mk.grown_drewN hgr _) (Mk.grown_of_below b1 _)) b2) _ _ _, by simp; omega, HT.out⟩
              have := Mk.Rd.put R2.out (p + n)
              simpa using this
    · have hd : decide ((p : Int) < s.size) = false := decide_eq_false (by omega)
      have HT : Hid (Mk.textL stop (s.data.toList.drop p) = some ([], 0)) := Mk.textL_end stop _ (.inl (List.drop_eq_nil_of_le (by rw [Mk.size_list]; omega)))
      go_wp2
      go_quiet (fail)
      go_wp2_with fail
      refine (Tryd.Builder_String_any_k w.heap.size w.heap.size acc _ (by exact HB.out) (by exact hsz)).mono ?_
      rintro e W1 ⟨rfl, _, b1, _⟩
      go_wp2
      go_ret2
      refine ⟨Mk.grown_belowB (Mk.grown_drewN hgr nq) b1, ?_⟩
      unfold Mk.TextEnd
      rw [HC.out, HT.out]
      refine ⟨by simp, ?_⟩
      have := Mk.Rd.keptB (w := wr.drewN nq) HR.out b1 hbw
      simpa [hkp] using this

end Go.Proofs
