/-
  The contract of the document's text.
-/
import Derived.Test.YtbcafacolohgbaaDoorRefOne
namespace Go.Proofs
open Go.RowKit
open Go.Proofs.Mk

theorem Mk.meant_60 {l : List UInt8} (h : l.head? = some 60) : (meantL l).2 = 0 := by
  cases l with
  | nil => cases h
  | cons a r =>
    simp only [List.head?_cons, Option.some.injEq] at h
    subst h
    unfold meantL
    rw [if_neg (by simp)]
    simp

set_option maxHeartbeats 4000000 in
theorem Tryd.reftext_any (s : ByteArray) (k : Nat) (stop : UInt8) (w : World) (hk : k ≤ s.size) (hs : s.size ≤ 20000) :
    Calls Tryd.prog 53 #[.string s, .int .i64 k, .int .u8 stop.toNat] w fun e w' => e = .returned (Mk.gotV (Mk.textL stop (s.data.toList.drop k)) k) ∧ Below w.heap.size w w' := by
  go_enter Tryd.func53, Tryd.ntmps53
  go_wp2
  go_loopg [1, 7] (s.size - k) (fun g i o wr => ∃ (p : Nat) (acc : List UInt8), k ≤ p ∧ g + p = s.size ∧ i = .int .i64 p ∧ o = .string ⟨acc.toArray⟩ ∧ Below (w.heap.size + 1) (w.alloc (.cells #[.int .i64 0, .string ⟨#[]⟩] 107)) wr ∧ acc.length ≤ p ∧ (Mk.textL stop (s.data.toList.drop k) = match Mk.textL stop (s.data.toList.drop p) with | none => none | some (o, m) => some (acc ++ o, (p - k) + m)))
  case atStart =>
    refine ⟨k, [], Nat.le_refl _, by omega, rfl, rfl, Below.refl _ _, by simp, ?_⟩
    cases Mk.textL stop (s.data.toList.drop k) <;> simp
  case round =>
    obtain ⟨p, acc, hkp, hg, rfl, rfl, hbw, hacc, hrec⟩ := hrel
    have HC : Hid (Mk.textL stop (s.data.toList.drop k) = match Mk.textL stop (s.data.toList.drop p) with | none => none | some (o, m) => some (acc ++ o, (p - k) + m)) := hrec
    have hzw : w.heap.size + 1 ≤ wr.heap.size := by have := hbw.size; simpa using this
    have hlt : w.heap.size < wr.heap.size := by omega
    have hbk : wr.heap[w.heap.size]? = some (.cells #[.int .i64 0, .string ⟨#[]⟩] 107 (0, 0)) := by
      rw [hbw.block _ (by omega)]
      exact heap_alloc_new w _
    have hr0 : wr.cell? ⟨w.heap.size, 0, none⟩ = some (.int .i64 0) := by simp [World.cell?, hbk]
    have hr1 : wr.cell? ⟨w.heap.size, 1, none⟩ = some (.string ⟨#[]⟩) := by simp [World.cell?, hbk]
    have hf0 : wr.frozen? ⟨w.heap.size, 0, none⟩ = false := by simp [World.frozen?, hbk]
    have hf1 : wr.frozen? ⟨w.heap.size, 1, none⟩ = false := by simp [World.frozen?, hbk]
    clear hbk
    have hB : Below w.heap.size w wr := ((Below.refl _ w).alloc (Nat.le_refl _) _).trans (hbw.mono (by omega))
    clear hrec
    by_cases hl : p < s.size
    · have hd : decide ((p : Int) < s.size) = true := decide_eq_true (by omega)
      by_cases hst : s[p] = stop
      · have hne : ((s[p].toNat : Int) != stop.toNat) = false := by rw [hst]; simp
        have HT : Hid (Mk.gotV (Mk.textL stop (s.data.toList.drop k)) k = .agg #[.int .i64 (p : Int), .string ⟨acc.toArray⟩]) := by
          show _ = _
          rw [HC.out, Mk.textL_end stop _ (.inr (by rw [Mk.head_drop s p hl, hst]))]
          simp [Mk.gotV]
          omega
        clear hst
        go_wp2
        exact bodyPost_ret (v := .agg #[.int .i64 (p : Int), .string ⟨acc.toArray⟩]) (by simp [results, Tryd.results53, go_sem, hr0, hr1]) rfl ⟨by rw [HT.out], (hB.setCell (Nat.le_refl _) _).setCell (Nat.le_refl _) _⟩
      · have hne : ((s[p].toNat : Int) != stop.toNat) = true := by
          rw [bne_iff_ne]
          intro e
          exact hst (UInt8.toNat_inj.1 (by omega))
        have hnil : s.data.toList.drop p ≠ [] := by
          intro e
          have := congrArg List.length e
          rw [List.length_drop, Mk.size_list] at this
          simp at this
          omega
        have hhd : (s.data.toList.drop p).head? ≠ some stop := by rw [Mk.head_drop s p hl]; simpa using hst
        by_cases h60 : s[p] = 60
        · have HT : Hid (Mk.textL stop (s.data.toList.drop k) = none) := by
            show _ = _
            rw [HC.out, Mk.textL_bad stop _ hnil hhd (Mk.meant_60 (by rw [Mk.head_drop s p hl, h60]))]
          have HO : Hid (Mk.gotV (Mk.oneAt (s.data.toList.drop p)) p = .agg #[.int .i64 ((p : Int) + 1), .string ⟨#[60]⟩]) := by
            show _ = _
            have hr : s.data.toList.drop p = s[p] :: s.data.toList.drop (p + 1) := List.drop_eq_getElem_cons hl
            rw [hr, h60]
            rfl
          have he60 : ((s[p].toNat : Int) == 60) = true := by rw [h60]; rfl
          clear hst h60 hnil hhd
          go_wp2_with fail
          refine (Tryd.one_any s p _ hl hs).mono ?_
          rw [HO.out]
          rintro e W1 ⟨rfl, b1⟩
          have B1 := hB.trans (b1.mono hB.size)
          have z1 : w.heap.size < W1.heap.size := Nat.lt_of_lt_of_le hlt b1.size
          have q0 : W1.cell? ⟨w.heap.size, 0, none⟩ = some (.int .i64 0) := by rw [b1.cell (p := ⟨w.heap.size, 0, none⟩) hlt]; exact hr0
          have q1 : W1.cell? ⟨w.heap.size, 1, none⟩ = some (.string ⟨#[]⟩) := by rw [b1.cell (p := ⟨w.heap.size, 1, none⟩) hlt]; exact hr1
          have qf0 : W1.frozen? ⟨w.heap.size, 0, none⟩ = false := by rw [b1.frozen (p := ⟨w.heap.size, 0, none⟩) hlt]; exact hf0
          have qf1 : W1.frozen? ⟨w.heap.size, 1, none⟩ = false := by rw [b1.frozen (p := ⟨w.heap.size, 1, none⟩) hlt]; exact hf1
          clear hr0 hr1 hf0 hf1 b1
          go_wp2
          refine bodyPost_ret (v := .agg #[.int .i64 (-1), .string ⟨#[]⟩]) (by simp [results, Tryd.results53, go_sem, q0, q1, z1]) rfl ⟨by rw [HT.out]; rfl, ?_⟩
          exact ((B1.setCell (Nat.le_refl _) _).setCell (Nat.le_refl _) _).alloc (by simp [World.setCell]; omega) _
        · obtain ⟨x, n, hm⟩ : ∃ x n, meantL (s.data.toList.drop p) = (x, n) := ⟨_, _, rfl⟩
          have hom := Mk.one_meant (s.data.toList.drop p) s[p] (Mk.head_drop s p hl) h60
          rw [hm] at hom
          have he60 : ((s[p].toNat : Int) == 60) = false := beq_eq_false_iff_ne.2 (fun e => h60 (by
            apply UInt8.toNat_inj.1
            have : s[p].toNat = 60 := by omega
            rw [this]; rfl))
          by_cases hn0 : n = 0
          · have HT : Hid (Mk.textL stop (s.data.toList.drop k) = none) := by
              show _ = _
              rw [HC.out, Mk.textL_bad stop _ hnil hhd (by rw [hm]; exact hn0)]
            have HO : Hid (Mk.gotV (Mk.oneAt (s.data.toList.drop p)) p = .agg #[.int .i64 (-1), .string ⟨#[]⟩]) := by
              show _ = _
              rw [hom, if_pos hn0]
              rfl
            clear hst h60 hnil hhd hom hm hn0
            go_wp2_with fail
            refine (Tryd.one_any s p _ hl hs).mono ?_
            rw [HO.out]
            rintro e W1 ⟨rfl, b1⟩
            have B1 := hB.trans (b1.mono hB.size)
            have z1 : w.heap.size < W1.heap.size := Nat.lt_of_lt_of_le hlt b1.size
            have q0 : W1.cell? ⟨w.heap.size, 0, none⟩ = some (.int .i64 0) := by rw [b1.cell (p := ⟨w.heap.size, 0, none⟩) hlt]; exact hr0
            have q1 : W1.cell? ⟨w.heap.size, 1, none⟩ = some (.string ⟨#[]⟩) := by rw [b1.cell (p := ⟨w.heap.size, 1, none⟩) hlt]; exact hr1
            have qf0 : W1.frozen? ⟨w.heap.size, 0, none⟩ = false := by rw [b1.frozen (p := ⟨w.heap.size, 0, none⟩) hlt]; exact hf0
            have qf1 : W1.frozen? ⟨w.heap.size, 1, none⟩ = false := by rw [b1.frozen (p := ⟨w.heap.size, 1, none⟩) hlt]; exact hf1
            clear hr0 hr1 hf0 hf1 b1
            go_wp2
            refine bodyPost_ret (v := .agg #[.int .i64 (-1), .string ⟨#[]⟩]) (by simp [results, Tryd.results53, go_sem, q0, q1, z1]) rfl ⟨by rw [HT.out]; rfl, ?_⟩
            exact ((B1.setCell (Nat.le_refl _) _).setCell (Nat.le_refl _) _).alloc (by simp [World.setCell]; omega) _
          · have hml := Mk.meant_le (s.data.toList.drop p)
            have hpn : p + n ≤ s.size := by
              rw [hm, List.length_drop, Mk.size_list] at hml
              simp only at hml
              omega
            have HT : Hid (Mk.textL stop (s.data.toList.drop k) = match Mk.textL stop (s.data.toList.drop (p + n)) with | none => none | some (o, m) => some ((acc ++ [x]) ++ o, (p + n - k) + m)) := by
              show _ = _
              rw [HC.out, Mk.textL_step stop _ hnil hhd (by rw [hm]; exact hn0), hm, List.drop_drop]
              cases Mk.textL stop (s.data.toList.drop (p + n)) with
              | none => rfl
              | some q =>
                obtain ⟨o, m⟩ := q
                simp
                omega
            have HO : Hid (Mk.gotV (Mk.oneAt (s.data.toList.drop p)) p = .agg #[.int .i64 ((p + n : Nat) : Int), .string ⟨#[x]⟩]) := by
              show _ = _
              rw [hom, if_neg hn0]
              rfl
            clear hst h60 hnil hhd hom hm hml
            go_wp2_with fail
            refine (Tryd.one_any s p _ hl hs).mono ?_
            rw [HO.out]
            rintro e W1 ⟨rfl, b1⟩
            have C1 : Below (w.heap.size + 1) (w.alloc (.cells #[.int .i64 0, .string ⟨#[]⟩] 107)) W1 := hbw.trans (b1.mono hzw)
            have z1 := b1.size
            clear b1
            go_wp2
            go_roundg (gk - n)
            case measure => omega
            case rel =>
              refine ⟨p + n, acc ++ [x], by omega, by omega, by go_num, ?_, C1.alloc (by omega) _, by simp; omega, HT.out⟩
              exact congrArg Value.string (Mk.str_append acc [x])
    · have hd : decide ((p : Int) < s.size) = false := decide_eq_false (by omega)
      have HT : Hid (Mk.gotV (Mk.textL stop (s.data.toList.drop k)) k = .agg #[.int .i64 (p : Int), .string ⟨acc.toArray⟩]) := by
        show _ = _
        rw [HC.out, Mk.textL_end stop _ (.inl (List.drop_eq_nil_of_le (by rw [Mk.size_list]; omega)))]
        simp [Mk.gotV]
        omega
      go_wp2
      exact bodyPost_ret (v := .agg #[.int .i64 (p : Int), .string ⟨acc.toArray⟩]) (by simp [results, Tryd.results53, go_sem, hr0, hr1]) rfl ⟨by rw [HT.out], (hB.setCell (Nat.le_refl _) _).setCell (Nat.le_refl _) _⟩

end Go.Proofs
