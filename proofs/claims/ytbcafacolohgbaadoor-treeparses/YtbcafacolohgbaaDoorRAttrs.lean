/-
  The contract of the reader's attrs.
-/
import Derived.Test.YtbcafacolohgbaaDoorAttrsModel
namespace Go.Proofs
open Go.RowKit
open Go.Proofs.Mk

theorem Tryd.infoAttr : (Tryd.prog.info? 54).map (fun i => (i.zero, i.size, i.bytes)) = some (some (.agg #[.string ⟨#[]⟩, .string ⟨#[]⟩]), 2, 32) := by kernel_rfl

/-- How attrs ends: its row lies from block B on. -/
def Mk.AttrsEnd (B b : Nat) (s : ByteArray) (k : Nat) (e : Ending) (w' : World) : Prop :=
  match Mk.attrsL (s.data.toList.drop k) with
  | none => ∃ v, e = .returned (.tuple #[v, .bool false]) ∧ ∃ k', k' ≤ s.size ∧ Rd b s k' w'
  | some (xs, m) => ∃ v, e = .returned (.tuple #[v, .bool (Mk.unlikeB xs)]) ∧ Rd b s (k + m) w' ∧ w'.ownsRow B 54 2 v xs.length (Mk.attrCells xs)

theorem Tryd.rname_at (b : Nat) (s : ByteArray) (k : Nat) (nm : List UInt8) (w : World) (hnm : Mk.nameOf (s.data.toList.drop k) = nm) (h : Rd b s k w) (hk : k ≤ s.size) (hs : s.size ≤ 20000) :
    Calls Tryd.prog 81 #[.pointer (some ⟨b, 0, none⟩)] w fun e w' => e = .returned (.tuple #[.string ⟨nm.toArray⟩, .bool (nameL nm)]) ∧ w.grownBy w' (some b) ∧ Rd b s (k + nm.length) w' := by
  have := Tryd.rname_any b s k w h hk hs
  rw [hnm] at this
  exact this
theorem Tryd.rtext_none (b : Nat) (s : ByteArray) (k : Nat) (stop : UInt8) (w : World) (ht : Mk.textL stop (s.data.toList.drop k) = none) (h : Rd b s k w) (hb0 : b ≠ 0) (hE : Mk.Esc w) (hk : k ≤ s.size) (hs : s.size ≤ 20000) :
    Calls Tryd.prog 67 #[.pointer (some ⟨b, 0, none⟩), .int .u8 stop.toNat] w fun e w' => e = .returned (.tuple #[.string ⟨#[]⟩, .bool false]) ∧ w.grownBy w' (some b) ∧ ∃ k', k' ≤ s.size ∧ Rd b s k' w' := by
  refine (Tryd.rtext_any b s k stop w h hb0 hE hk hs).mono ?_
  rintro e w' ⟨g, t⟩
  unfold Mk.TextEnd at t
  rw [ht] at t
  exact ⟨t.1, g, t.2⟩
theorem Tryd.rtext_some (b : Nat) (s : ByteArray) (k : Nat) (stop : UInt8) (o : List UInt8) (m : Nat) (w : World) (ht : Mk.textL stop (s.data.toList.drop k) = some (o, m)) (h : Rd b s k w) (hb0 : b ≠ 0) (hE : Mk.Esc w) (hk : k ≤ s.size) (hs : s.size ≤ 20000) :
    Calls Tryd.prog 67 #[.pointer (some ⟨b, 0, none⟩), .int .u8 stop.toNat] w fun e w' => e = .returned (.tuple #[.string ⟨o.toArray⟩, .bool true]) ∧ w.grownBy w' (some b) ∧ Rd b s (k + m) w' := by
  refine (Tryd.rtext_any b s k stop w h hb0 hE hk hs).mono ?_
  rintro e w' ⟨g, t⟩
  unfold Mk.TextEnd at t
  rw [ht] at t
  exact ⟨t.1, g, t.2⟩

theorem Mk.drop_pre_bound {s : ByteArray} {k : Nat} {p : List UInt8} (h : Lib.hasPrefix (s.data.toList.drop k) p = true) (hp : p ≠ []) : k + p.length ≤ s.size := by
  have := Mk.hasPrefix_len h
  rw [List.length_drop, Mk.size_list] at this
  have : 0 < p.length := List.length_pos_iff.2 hp
  omega

theorem Mk.own_kept {w w' : World} {base : Nat} {e : TypeId} {size : Nat} {v : Value} {n : Nat} {cs : List Value} {b : Nat} (h : w.ownsRow base e size v n cs) (hg : w.grownBy w' (some b)) (hb : b < base) : w'.ownsRow base e size v n cs := by
  refine h.kept hg ?_
  cases hv : v.ownBlock with
  | none => exact .inl rfl
  | some g =>
    right
    have := (h.lt g hv).1
    simp
    omega

set_option maxHeartbeats 4000000 in
theorem Tryd.rattrs_any (b : Nat) (s : ByteArray) (k : Nat) (w : World) (h : Rd b s k w) (hb0 : b ≠ 0) (hE : Mk.Esc w) (hk : k ≤ s.size) (hs : s.size ≤ 20000) :
    Calls Tryd.prog 82 #[.pointer (some ⟨b, 0, none⟩)] w fun e w' => w.grownBy w' (some b) ∧ Mk.AttrsEnd w.heap.size b s k e w' := by
  have hbw := h.lt
  have HH : Hid (Rd b s k w) := h
  have HE : Hid (Mk.Esc w) := hE
  clear h hE
  obtain ⟨i0, hi, hz0, hz1, hz2⟩ := info_parts Tryd.infoAttr
  go_enter Tryd.func82, Tryd.ntmps82
  go_wp2
  go_loopg [4] (s.size - k) (fun g v wr => ∃ (p : Nat) (xs : List (ByteArray × ByteArray)), k ≤ p ∧ g + p = s.size ∧ Rd b s p wr ∧ wr.ownsRow w.heap.size 54 2 v xs.length (Mk.attrCells xs) ∧ w.grownBy wr (some b) ∧ xs.length ≤ p ∧ (Mk.attrsL (s.data.toList.drop k) = match Mk.attrsL (s.data.toList.drop p) with | none => none | some (r, d) => some (xs ++ r, (p - k) + d)))
  case atStart =>
    refine ⟨k, [], Nat.le_refl _, by omega, HH.out, World.ownsRow_nil _ _ _ _, Mk.grown_refl _ _, by simp, ?_⟩
    cases Mk.attrsL (s.data.toList.drop k) <;> simp
  case round =>
    obtain ⟨p, xs, hkp, hg, hrd, hown, hgr, hxs, hrec⟩ := hrel
    have HR : Hid (Rd b s p wr) := hrd
    have HO : Hid (wr.ownsRow w.heap.size 54 2 u4 xs.length (Mk.attrCells xs)) := hown
    have HC : Hid (Mk.attrsL (s.data.toList.drop k) = match Mk.attrsL (s.data.toList.drop p) with | none => none | some (r, d) => some (xs ++ r, (p - k) + d)) := hrec
    have hsz := hgr.size
    clear hrd hown hrec
    cases hpre : Lib.hasPrefix (s.data.toList.drop p) [32]
    · have HT : Hid (Mk.attrsL (s.data.toList.drop k) = some (xs, p - k)) := by
        show _ = _
        rw [HC.out, Mk.attrsL_end hpre]; simp
      go_wp2_with fail
      refine (Tryd.skip_any b s _ p _ (by exact HR.out) (by omega) hs (by decide) false hpre).mono ?_
      rintro e W1 ⟨rfl, g1, r1⟩
      have hA := Mk.attrsAt_of (Mk.own_kept HO.out g1 hbw)
      have HA : Hid (Mk.AttrsAt W1 u4 xs) := hA
      have HO1 : Hid (W1.ownsRow w.heap.size 54 2 u4 xs.length (Mk.attrCells xs)) := Mk.own_kept HO.out g1 hbw
      have R1 : Hid (Rd b s p W1) := r1
      clear hA r1
      go_wp2_with fail
      refine (Tryd.unlike_any _ xs _ (by exact HA.out)).mono ?_
      rintro e W2 ⟨rfl, b2⟩
      go_wp2
      go_ret2
      refine ⟨Mk.grown_trans (Mk.grown_trans hgr g1) (Mk.grown_of_below b2 _), ?_⟩
      unfold Mk.AttrsEnd
      rw [HT.out]
      refine ⟨u4, rfl, ?_, ?_⟩
      · have := R1.out.kept b2
        simpa [hkp] using this
      · exact Mk.own_kept HO1.out (Mk.grown_of_below b2 _) hbw
    · have hl1 : p + 1 ≤ s.size := Mk.drop_pre_bound hpre (by simp)
      obtain ⟨nm, hnm⟩ : ∃ nm, Mk.nameOf (s.data.toList.drop (p + 1)) = nm := ⟨_, rfl⟩
      have HNM : Hid (Mk.nameOf (s.data.toList.drop (p + 1)) = nm) := hnm
      have hl2 : p + 1 + nm.length ≤ s.size := by
        have := tw_le (p := bofName) (s.data.toList.drop (p + 1))
        rw [List.length_drop, Mk.size_list] at this
        rw [← hnm]
        unfold Mk.nameOf
        omega
      have HA1 := Mk.attr1_eq (s.data.toList) p nm hnm
      have HQ : Hid (Mk.attr1 (s.data.toList.drop p) = _) := HA1
      clear hnm HA1
      have hEr : Mk.Esc wr := HE.out.kept hgr (by simpa using Ne.symm hb0)
      have HEr : Hid (Mk.Esc wr) := hEr
      clear hEr
      go_wp2_with fail
      refine (Tryd.skip_any b s _ p _ (by exact HR.out) (by omega) hs (by decide) true hpre).mono ?_
      rintro e W1 ⟨rfl, g1, r1⟩
      have R1 : Hid (Rd b s (p + 1) W1) := r1
      clear r1
      go_wp2_with fail
      refine (Tryd.rname_at b s (p + 1) nm _ HNM.out (by exact R1.out) hl1 hs).mono ?_
      rintro e W2 ⟨rfl, g2, r2⟩
      have R2 : Hid (Rd b s (p + 1 + nm.length) W2) := r2
      clear r2
      have G2 := Mk.grown_trans (Mk.grown_trans hgr g1) g2
      cases hn : nameL nm
      · have HT : Hid (Mk.attrsL (s.data.toList.drop k) = none) := by
          show _ = _
          rw [HC.out, Mk.attrsL_bad hpre (by rw [HQ.out, if_pos hn])]
        go_wp2
        go_ret2
        refine ⟨G2, ?_⟩
        unfold Mk.AttrsEnd
        rw [HT.out]
        exact ⟨_, rfl, _, hl2, R2.out⟩
      · cases hp2 : Lib.hasPrefix (s.data.toList.drop (p + 1 + nm.length)) [61, 34]
        · have HT : Hid (Mk.attrsL (s.data.toList.drop k) = none) := by
            show _ = _
            rw [HC.out, Mk.attrsL_bad hpre (by rw [HQ.out, if_neg (by rw [hn]; simp), if_pos hp2])]
          go_wp2_with fail
          refine (Tryd.skip_any b s _ (p + 1 + nm.length) _ (by exact R2.out) hl2 hs (by decide) false hp2).mono ?_
          rintro e W3 ⟨rfl, g3, r3⟩
          go_wp2
          go_ret2
          refine ⟨Mk.grown_trans G2 g3, ?_⟩
          unfold Mk.AttrsEnd
          rw [HT.out]
          exact ⟨_, rfl, _, hl2, r3⟩
        · have hl3 : p + 1 + nm.length + 2 ≤ s.size := Mk.drop_pre_bound hp2 (by simp)
          go_wp2_with fail
          refine (Tryd.skip_any b s _ (p + 1 + nm.length) _ (by exact R2.out) hl2 hs (by decide) true hp2).mono ?_
          rintro e W3 ⟨rfl, g3, r3⟩
          have R3 : Hid (Rd b s (p + 1 + nm.length + 2) W3) := r3
          clear r3
          have G3 := Mk.grown_trans G2 g3
          have E3 : Hid (Mk.Esc W3) := HEr.out.kept (Mk.grown_trans (Mk.grown_trans g1 g2) g3) (by simpa using Ne.symm hb0)
          cases ht : Mk.textL 34 (s.data.toList.drop (p + 1 + nm.length + 2)) with
          | none =>
            have HT : Hid (Mk.attrsL (s.data.toList.drop k) = none) := by
              show _ = _
              rw [HC.out, Mk.attrsL_bad hpre (by rw [HQ.out, if_neg (by rw [hn]; simp), if_neg (by rw [hp2]; simp), ht])]
            go_wp2_with fail
            refine (Tryd.rtext_none b s (p + 1 + nm.length + 2) 34 _ ht (by exact R3.out) hb0 (by exact E3.out) hl3 hs).mono ?_
            rintro e W4 ⟨rfl, g4, k4, hk4, r4⟩
            go_wp2
            go_ret2
            refine ⟨Mk.grown_trans G3 g4, ?_⟩
            unfold Mk.AttrsEnd
            rw [HT.out]
            exact ⟨_, rfl, _, hk4, r4⟩
          | some q =>
            obtain ⟨vl, m⟩ := q
            have hl4 : p + 1 + nm.length + 2 + m ≤ s.size := by
              have := Mk.textL_le ht
              rw [List.length_drop, Mk.size_list] at this
              omega
            go_wp2_with fail
            refine (Tryd.rtext_some b s (p + 1 + nm.length + 2) 34 vl m _ ht (by exact R3.out) hb0 (by exact E3.out) hl3 hs).mono ?_
            rintro e W4 ⟨rfl, g4, r4⟩
            have R4 : Hid (Rd b s (p + 1 + nm.length + 2 + m) W4) := r4
            clear r4
            have G4 := Mk.grown_trans G3 g4
            cases hp5 : Lib.hasPrefix (s.data.toList.drop (p + 1 + nm.length + 2 + m)) [34]
            · have HT : Hid (Mk.attrsL (s.data.toList.drop k) = none) := by
                show _ = _
                rw [HC.out, Mk.attrsL_bad hpre (by rw [HQ.out, if_neg (by rw [hn]; simp), if_neg (by rw [hp2]; simp), ht]; simp only; rw [if_pos hp5])]
              go_wp2_with fail
              refine (Tryd.skip_any b s _ (p + 1 + nm.length + 2 + m) _ (by exact R4.out) hl4 hs (by decide) false hp5).mono ?_
              rintro e W5 ⟨rfl, g5, r5⟩
              go_wp2
              go_ret2
              refine ⟨Mk.grown_trans G4 g5, ?_⟩
              unfold Mk.AttrsEnd
              rw [HT.out]
              exact ⟨_, rfl, _, hl4, r5⟩
            · have hl5 : p + 1 + nm.length + 2 + m + 1 ≤ s.size := Mk.drop_pre_bound hp5 (by simp)
              have HT : Hid (Mk.attrsL (s.data.toList.drop k) = match Mk.attrsL (s.data.toList.drop (p + 1 + nm.length + 2 + m + 1)) with | none => none | some (r, d) => some ((xs ++ [(⟨nm.toArray⟩, ⟨vl.toArray⟩)]) ++ r, (p + 1 + nm.length + 2 + m + 1 - k) + d)) := by
                show _ = _
                rw [HC.out, Mk.attrsL_step hpre (by rw [HQ.out, if_neg (by rw [hn]; simp), if_neg (by rw [hp2]; simp), ht]; simp only; rw [if_neg (by rw [hp5]; simp)]), List.drop_drop]
                rw [show p + (1 + nm.length + 2 + m + 1) = p + 1 + nm.length + 2 + m + 1 by omega]
                cases Mk.attrsL (s.data.toList.drop (p + 1 + nm.length + 2 + m + 1)) with
                | none => rfl
                | some q =>
                  obtain ⟨r, d⟩ := q
                  simp
                  omega
              go_wp2_with fail
              refine (Tryd.skip_any b s _ (p + 1 + nm.length + 2 + m) _ (by exact R4.out) hl4 hs (by decide) true hp5).mono ?_
              rintro e W5 ⟨rfl, g5, r5⟩
              have R5 : Hid (Rd b s (p + 1 + nm.length + 2 + m + 1) W5) := r5
              clear r5
              have G5 := Mk.grown_trans G4 g5
              have O5 := Mk.own_kept HO.out (Mk.grown_trans (Mk.grown_trans (Mk.grown_trans (Mk.grown_trans g1 g2) g3) g4) g5) hbw
              have z5 := G5.size
              go_wp2_with (at_builtin; refine wpList_append_own _ rfl _ _ 22 rfl w.heap.size 54 i0 _ 2 32 Tryd.underlying22 hi hz0 hz1 hz2 rfl (by decide) _ _ _ rfl (O5.alloc _) ⟨W5.heap.size, 0, none⟩ 1 1 [.string ⟨nm.toArray⟩, .string ⟨vl.toArray⟩] rfl rfl ?c1 ?c2 ?c3 ?c4 ?c5 ?_)
              case c1 =>
                intro j u hj
                match j, hj with
                | 0, hj => simp at hj; subst hj; simp [Addr.add]
                | 1, hj => simp at hj; subst hj; simp [Addr.add]
              case c2 => intro u hu; simp at hu; rcases hu with rfl | rfl <;> rfl
              case c3 => unfold maxLen; omega
              case c4 => omega
              case c5 => simp; omega
              intro v6 W6 O6 g6 _
              have hrow := HO.out.lt
              have R6 : Hid (Rd b s (p + 1 + nm.length + 2 + m + 1) W6) := Mk.Rd.grown (R5.out.grown (World.grownBy_alloc W5 _ none) (by simp)) g6 (by intro e; have := (hrow b e.symm).1; omega)
              have G6 := Mk.grown_own (Mk.grown_alloc G5 (.cells #[.string ⟨nm.toArray⟩, .string ⟨vl.toArray⟩] 54)) g6 (fun k hk => (hrow k hk).1)
              clear hrow O5 g6
              have HO6 : Hid (W6.ownsRow w.heap.size 54 2 v6 (xs.length + 1) (Mk.attrCells xs ++ [.string ⟨nm.toArray⟩, .string ⟨vl.toArray⟩])) := O6
              clear O6
              go_wp2
              go_roundg (gk - (nm.length + m + 4))
              case measure => omega
              case rel =>
                refine ⟨p + 1 + nm.length + 2 + m + 1, xs ++ [(⟨nm.toArray⟩, ⟨vl.toArray⟩)], by omega, by omega, R6.out, ?_, G6, by simp; omega, HT.out⟩
                rw [Mk.attrCells_append, List.length_append]
                exact HO6.out

end Go.Proofs
