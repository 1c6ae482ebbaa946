/-
  The contract of mark.Read: the marks of any text of at most MaxText bytes, or the place of the first that is none.
-/
import Derived.Test.YtbcafacolohgbaaDoorRNext
namespace Go.Proofs
open Go.RowKit
open Go.Proofs.Mk

/-- The marks of a text from place k on, or the place of what is none. -/
def Mk.readF : Nat → List UInt8 → Nat → Except Nat (List Mk.MarkV)
  | 0, _, _ => .ok []
  | f + 1, l, k => if l = [] then .ok [] else
      match Mk.nextL l k with
      | none => .error k
      | some (ms, m) => match Mk.readF f (l.drop m) (k + m) with
        | .error p => .error p
        | .ok r => .ok (ms ++ r)
def Mk.readL (l : List UInt8) (k : Nat) : Except Nat (List Mk.MarkV) := Mk.readF l.length l k

theorem Mk.pre_one {l : List UInt8} {c : UInt8} (h : l.head? = some c) : Lib.hasPrefix l [c] = true := by
  cases l with
  | nil => cases h
  | cons a r =>
    simp only [List.head?_cons, Option.some.injEq] at h
    subst h
    simp [Lib.hasPrefix]

theorem Mk.nextL_pos {l : List UInt8} {k : Nat} {ms : List Mk.MarkV} {m : Nat} (hl : l ≠ []) (h : Mk.nextL l k = some (ms, m)) : 1 ≤ m ∧ m ≤ l.length ∧ 1 ≤ ms.length ∧ ms.length ≤ 2 := by
  unfold Mk.nextL at h
  split at h
  · split at h
    · cases h
    · split at h
      · cases h
      · rename_i h1
        simp only [Option.some.injEq, Prod.mk.injEq] at h
        have := Mk.drop_pre_le h1 (by simp)
        simp only [List.length_cons, List.length_nil] at this
        obtain ⟨rfl, rfl⟩ := h
        simp only [List.length_cons, List.length_nil]
        omega
  · split at h
    · split at h
      · cases h
      · split at h
        · cases h
        · split at h
          · cases h
          · split at h
            · rename_i h1
              simp only [Option.some.injEq, Prod.mk.injEq] at h
              have := Mk.drop_pre_le (p := [62]) (by rw [h1]; simp) (by simp)
              simp only [List.length_cons, List.length_nil] at this
              obtain ⟨rfl, rfl⟩ := h
              simp only [List.length_cons, List.length_nil]
              omega
            · split at h
              · rename_i h1
                simp only [Option.some.injEq, Prod.mk.injEq] at h
                have := Mk.drop_pre_le (p := [47, 62]) (by rw [h1]; simp) (by simp)
                simp only [List.length_cons, List.length_nil] at this
                obtain ⟨rfl, rfl⟩ := h
                simp only [List.length_cons, List.length_nil]
                omega
              · cases h
    · rename_i hq
      split at h
      · cases h
      · rename_i o m' ht
        simp only [Option.some.injEq, Prod.mk.injEq] at h
        obtain ⟨rfl, rfl⟩ := h
        have hle := Mk.textL_le ht
        refine ⟨?_, hle, by simp, by simp⟩
        by_cases hm : (meantL l).2 = 0
        · rw [Mk.textL_bad 60 l hl (fun e => hq (Mk.pre_one e)) hm] at ht; cases ht
        · rw [Mk.textL_step 60 l hl (fun e => hq (Mk.pre_one e)) hm] at ht
          split at ht
          · cases ht
          · simp only [Option.some.injEq, Prod.mk.injEq] at ht
            omega

theorem Mk.readF_fuel : ∀ (f g : Nat) (l : List UInt8) (k : Nat), l.length ≤ f → l.length ≤ g → Mk.readF f l k = Mk.readF g l k
  | 0, 0, _, _, _, _ => rfl
  | 0, g + 1, l, k, h, _ => by
    obtain rfl : l = [] := List.length_eq_zero_iff.1 (by omega)
    simp [Mk.readF]
  | f + 1, 0, l, k, _, h => by
    obtain rfl : l = [] := List.length_eq_zero_iff.1 (by omega)
    simp [Mk.readF]
  | f + 1, g + 1, l, k, hf, hg => by
    simp only [Mk.readF]
    by_cases h1 : l = []
    · rw [if_pos h1, if_pos h1]
    · rw [if_neg h1, if_neg h1]
      cases ha : Mk.nextL l k with
      | none => rfl
      | some q =>
        obtain ⟨ms, m⟩ := q
        have := Mk.nextL_pos h1 ha
        simp only
        rw [Mk.readF_fuel f g (l.drop m) (k + m) (by rw [List.length_drop]; omega) (by rw [List.length_drop]; omega)]

theorem Mk.readL_nil (k : Nat) : Mk.readL [] k = .ok [] := rfl
theorem Mk.readL_bad {l : List UInt8} {k : Nat} (h1 : l ≠ []) (h : Mk.nextL l k = none) : Mk.readL l k = .error k := by
  unfold Mk.readL
  obtain ⟨f, hf⟩ : ∃ f, l.length = f + 1 := ⟨l.length - 1, by have : 0 < l.length := List.length_pos_iff.2 h1; omega⟩
  rw [hf]
  simp only [Mk.readF]
  rw [if_neg h1, h]
theorem Mk.readL_step {l : List UInt8} {k : Nat} {ms : List Mk.MarkV} {m : Nat} (h1 : l ≠ []) (h : Mk.nextL l k = some (ms, m)) :
    Mk.readL l k = match Mk.readL (l.drop m) (k + m) with | .error p => .error p | .ok r => .ok (ms ++ r) := by
  unfold Mk.readL
  obtain ⟨f, hf⟩ : ∃ f, l.length = f + 1 := ⟨l.length - 1, by have : 0 < l.length := List.length_pos_iff.2 h1; omega⟩
  have hc := Mk.nextL_pos h1 h
  rw [hf]
  simp only [Mk.readF]
  rw [if_neg h1, h]
  simp only
  rw [Mk.readF_fuel f (l.drop m).length (l.drop m) (k + m) (by rw [List.length_drop]; omega) (Nat.le_refl _)]

/-- Two rows of different element types do not share a block. -/
theorem Mk.own_other {w w' : World} {B B' : Nat} {e e' : TypeId} {size size' : Nat} {v v' : Value} {n n' : Nat} {cs cs' : List Value} (h : w.ownsRow B e size v n cs) (h2 : w.ownsRow B' e' size' v' n' cs') (hne : e ≠ e') (hg : w.grownBy w' v'.ownBlock) : w'.ownsRow B e size v n cs := by
  refine h.kept hg ?_
  rcases h.2 with ⟨rfl, _⟩ | ⟨g, cap, cur, rfl, _, hgg, _⟩
  · exact .inl rfl
  · right
    rcases h2.2 with ⟨rfl, _⟩ | ⟨g', cap', cur', rfl, _, hgg', _⟩
    · simp [Value.ownBlock]
    · simp only [Value.ownBlock, ne_eq, Option.some.injEq]
      intro e1
      subst e1
      rw [hgg] at hgg'
      simp only [Option.some.injEq, Obj.cells.injEq] at hgg'
      exact hne hgg'.2.1

theorem Mk.MarksOwn.kept {w w' : World} {B : Nat} {v : Value} {qs : List (Mk.MarkV × Value)} {b : Nat} (h : Mk.MarksOwn w B v qs) (hg : w.grownBy w' (some b)) (hb : b < B) : Mk.MarksOwn w' B v qs :=
  ⟨Mk.own_kept h.row hg hb, fun q hq => Mk.own_kept (h.attrs q hq) hg hb⟩

/-- How Read ends: its rows lie from block B on. -/
def Mk.ReadEnd (B : Nat) (s : ByteArray) (e : Ending) (w' : World) : Prop :=
  match Mk.readL s.data.toList 0 with
  | .error k => e = .returned (.tuple #[.slice none 0 0, .int .i64 k, .int .i64 4])
  | .ok ms => ∃ v qs, e = .returned (.tuple #[v, .int .i64 0, .int .i64 0]) ∧ qs.map (·.1) = ms ∧ Mk.MarksOwn w' B v qs

theorem Tryd.infoMark : (Tryd.prog.info? 78).map (fun i => (i.zero, i.size, i.bytes)) = some (some (.agg #[.int .i64 0, .int .i64 0, .string ⟨#[]⟩, .slice none 0 0, .string ⟨#[]⟩]), 5, 72) := by kernel_rfl

theorem Mk.markCells_one (qs : List (Mk.MarkV × Value)) (h : ∀ q ∈ qs, q.2.oneCell' = true) : ∀ u ∈ Mk.markCells qs, u.oneCell' = true := by
  intro u hu
  simp only [Mk.markCells, List.mem_flatMap, Mk.cellsOf] at hu
  obtain ⟨q, hq, hu⟩ := hu
  simp only [List.mem_cons, List.not_mem_nil, or_false] at hu
  rcases hu with rfl | rfl | rfl | rfl | rfl
  · rfl
  · rfl
  · rfl
  · exact h q hq
  · rfl

set_option maxHeartbeats 4000000 in
theorem Tryd.read_any (s : ByteArray) (w : World) (hE : Mk.Esc w) (hs : s.size ≤ 20000) :
    Calls Tryd.prog 30 #[.string s] w fun e w' => Below w.heap.size w w' ∧ Mk.ReadEnd w.heap.size s e w' := by
  have HE : Hid (Mk.Esc w) := hE
  have hw0 : 0 < w.heap.size := by obtain ⟨t, fz, h⟩ := hE; exact (Array.getElem?_eq_some_iff.1 h).1
  clear hE
  have hd : decide ((20000 : Int) < s.size) = false := decide_eq_false (by omega)
  obtain ⟨i0, hi, hz0, hz1, hz2⟩ := info_parts Tryd.infoMark
  go_enter Tryd.func30, Tryd.ntmps30
  go_wp2
  go_loopg [5] s.size (fun g v wr => ∃ (p : Nat) (qs : List (Mk.MarkV × Value)), g + p = s.size ∧ Rd w.heap.size s p wr ∧ Mk.MarksOwn wr (w.heap.size + 1) v qs ∧ Below w.heap.size w wr ∧ qs.length ≤ 2 * p ∧ (Mk.readL s.data.toList 0 = match Mk.readL (s.data.toList.drop p) p with | .error x => .error x | .ok r => .ok (qs.map (·.1) ++ r)))
  case atStart =>
    refine ⟨0, [], by omega, heap_alloc_new w _, ⟨World.ownsRow_nil _ _ _ _, fun q hq => by cases hq⟩, (Below.refl _ w).alloc (Nat.le_refl _) _, by simp, ?_⟩
    simp only [List.drop_zero, List.map_nil, List.nil_append]
    cases Mk.readL s.data.toList 0 <;> rfl
  case round =>
    obtain ⟨p, qs, hg, hrd, hown, hbw, hql, hrec⟩ := hrel
    have HR : Hid (Rd w.heap.size s p wr) := hrd
    have HO : Hid (Mk.MarksOwn wr (w.heap.size + 1) u5 qs) := hown
    have HC : Hid (Mk.readL s.data.toList 0 = match Mk.readL (s.data.toList.drop p) p with | .error x => .error x | .ok r => .ok (qs.map (·.1) ++ r)) := hrec
    have HEr : Hid (Mk.Esc wr) := HE.out.kept (Mk.grown_of_below hbw none) (by simp)
    have hlt := hrd.lt
    have hc1 := hrd.c1
    clear hrd hown hrec
    by_cases hl : p < s.size
    · have hdp : decide ((p : Int) < s.size) = true := decide_eq_true (by omega)
      have hne : s.data.toList.drop p ≠ [] := by
        intro e
        have := congrArg List.length e
        rw [List.length_drop, Mk.size_list] at this
        simp at this
        omega
      cases hx : Mk.nextL (s.data.toList.drop p) p with
      | none =>
        have HT : Hid (Mk.readL s.data.toList 0 = .error p) := by
          show _ = _
          rw [HC.out, Mk.readL_bad hne hx]
        go_wp2_with fail
        refine (Tryd.rnext_any w.heap.size s p _ (by exact HR.out) (by omega) (by exact HEr.out) (by omega) hs).mono ?_
        rintro e W1 ⟨g1, t1⟩
        unfold Mk.NextEnd at t1
        rw [hx] at t1
        obtain ⟨rfl, _⟩ := t1
        go_wp2
        go_ret3
        refine ⟨?_, ?_⟩
        · exact hbw.trans ⟨g1.os, g1.tape, g1.output, g1.size, fun k hk => g1.block k (by omega) (by intro e; have := Option.some.inj e; omega)⟩
        · unfold Mk.ReadEnd
          rw [HT.out]
          rfl
      | some q =>
        obtain ⟨ms, m⟩ := q
        have hpos := Mk.nextL_pos hne hx
        have hpm : p + m ≤ s.size := by
          have := hpos.2.1
          rw [List.length_drop, Mk.size_list] at this
          omega
        have HT : Hid (Mk.readL s.data.toList 0 = match Mk.readL (s.data.toList.drop (p + m)) (p + m) with | .error x => .error x | .ok r => .ok ((qs.map (·.1) ++ ms) ++ r)) := by
          show _ = _
          rw [HC.out, Mk.readL_step hne hx, List.drop_drop]
          cases Mk.readL (s.data.toList.drop (p + m)) (p + m) with
          | error x => rfl
          | ok r => simp
        go_wp2_with fail
        refine (Tryd.rnext_any w.heap.size s p _ (by exact HR.out) (by omega) (by exact HEr.out) (by omega) hs).mono ?_
        rintro e W1 ⟨g1, t1⟩
        unfold Mk.NextEnd at t1
        rw [hx] at t1
        obtain ⟨v1, qs1, rfl, hms, r1, o1⟩ := t1
        have hlen : qs1.length = ms.length := by rw [← hms]; simp
        obtain ⟨gg, cap, rfl⟩ : ∃ gg cap, v1 = .slice (some ⟨gg, 0, none⟩) qs1.length cap := by
          rcases o1.row.2 with ⟨_, h0⟩ | ⟨g', cap, cur, hv, _⟩
          · omega
          · exact ⟨g', cap, hv⟩
        have R1 : Hid (Rd w.heap.size s (p + m) W1) := r1
        have O1 : Hid (Mk.MarksOwn W1 wr.heap.size (.slice (some ⟨gg, 0, none⟩) qs1.length cap) qs1) := o1
        have HO1 : Hid (Mk.MarksOwn W1 (w.heap.size + 1) u5 qs) := HO.out.kept g1 (by omega)
        have hzn : ((qs1.length : Int) == 0) = false := beq_eq_false_iff_ne.2 (by omega)
        have z1 := g1.size
        have HM : Hid (qs1.map (·.1) = ms) := hms
        have hrow := HO1.out.row
        have hl1 : 1 ≤ qs1.length := by omega
        have hl2 : qs1.length ≤ 2 := by omega
        have hm1 : 1 ≤ m := hpos.1
        clear r1 o1 hms hx hlen hpos
        go_wp2_with (at_builtin; refine wpList_append_own _ rfl _ _ 70 rfl (w.heap.size + 1) 78 i0 _ 5 72 Tryd.underlying70 hi hz0 hz1 hz2 rfl (by decide) _ _ _ rfl hrow ⟨gg, 0, none⟩ qs1.length cap (Mk.markCells qs1) rfl (Mk.markCells_length qs1) ?c1 ?c2 ?c3 ?c4 ?c5 ?_)
        case c1 => exact O1.out.row.cells rfl
        case c2 =>
          refine Mk.markCells_one qs1 fun q hq => ?_
          obtain ⟨a, c, hv⟩ := Mk.own_shape (O1.out.attrs q hq)
          rw [hv]
          rfl
        case c3 => unfold maxLen; omega
        case c4 => omega
        case c5 => omega
        intro v2 W2 o2 g2 _
        have hlt2 := hrow.lt
        have R2 : Hid (Rd w.heap.size s (p + m) W2) := R1.out.grown g2 (by intro e; have := (hlt2 _ e.symm).1; omega)
        have B2 : Below w.heap.size w W2 := hbw.trans ⟨g2.os.trans g1.os, g2.tape.trans g1.tape, g2.output.trans g1.output, Nat.le_trans g1.size g2.size, fun k hk => (g2.block k (by omega) (by intro e; have := (hlt2 _ e.symm).1; omega)).trans (g1.block k (by omega) (by intro e; have := Option.some.inj e; omega))⟩
        have O2 : Hid (Mk.MarksOwn W2 (w.heap.size + 1) v2 (qs ++ qs1)) := by
          refine ⟨?_, fun q hq => ?_⟩
          · rw [Mk.markCells_append, List.length_append]; exact o2
          · rcases List.mem_append.1 hq with hq | hq
            · exact Mk.own_other (HO1.out.attrs q hq) hrow (by decide) g2
            · exact Mk.own_other (Mk.own_base (O1.out.attrs q hq) (by omega)) hrow (by decide) g2
        clear o2 g2 hrow hlt2
        go_wp2
        go_roundg (gk - m)
        case measure => omega
        case rel =>
          refine ⟨p + m, qs ++ qs1, by omega, R2.out, O2.out, B2, by rw [List.length_append]; omega, ?_⟩
          rw [List.map_append, HM.out]
          exact HT.out
    · have hdp : decide ((p : Int) < s.size) = false := decide_eq_false (by omega)
      have HT : Hid (Mk.readL s.data.toList 0 = .ok (qs.map (·.1))) := by
        show _ = _
        rw [HC.out, show s.data.toList.drop p = [] from List.drop_eq_nil_of_le (by rw [Mk.size_list]; omega), Mk.readL_nil]
        simp
      go_wp2
      go_ret3
      refine ⟨hbw, ?_⟩
      unfold Mk.ReadEnd
      rw [HT.out]
      exact ⟨u5, qs, rfl, rfl, Mk.own_marks_base HO.out (by omega)⟩

end Go.Proofs
