/-
  The contracts of the reader's closed and opened.
-/
import Derived.Test.YtbcafacolohgbaaDoorMarks
namespace Go.Proofs
open Go.RowKit
open Go.Proofs.Mk

set_option maxHeartbeats 2000000 in
theorem Tryd.rclosed_any (b : Nat) (s : ByteArray) (k at_ : Nat) (nm : List UInt8) (w : World) (hnm : Mk.nameOf (s.data.toList.drop k) = nm) (h : Rd b s k w) (hk : k ≤ s.size) (hs : s.size ≤ 20000) (_hat : at_ ≤ 20000) :
    Calls Tryd.prog 65 #[.pointer (some ⟨b, 0, none⟩), .int .i64 at_] w fun e w' => w.grownBy w' (some b) ∧
      if nameL nm = true ∧ Lib.hasPrefix (s.data.toList.drop (k + nm.length)) [62] = true then
        ∃ v q, e = .returned v ∧ q.1 = ⟨2, at_, ⟨nm.toArray⟩, [], ⟨#[]⟩⟩ ∧ Rd b s (k + nm.length + 1) w' ∧ Mk.MarksOwn w' w.heap.size v [q]
      else e = .returned (.slice none 0 0) ∧ ∃ k', k' ≤ s.size ∧ Rd b s k' w' := by
  have hbw := h.lt
  have HH : Hid (Rd b s k w) := h
  have HNM : Hid (Mk.nameOf (s.data.toList.drop k) = nm) := hnm
  have hl : k + nm.length ≤ s.size := by
    have := tw_le (p := bofName) (s.data.toList.drop k)
    rw [List.length_drop, Mk.size_list] at this
    rw [← hnm]
    unfold Mk.nameOf
    omega
  clear h hnm
  cases hn : nameL nm
  · simp only [Bool.false_eq_true, false_and, if_false]
    go_enter Tryd.func65, Tryd.ntmps65
    go_wp2_with fail
    refine (Tryd.rname_at b s k nm _ HNM.out (by exact HH.out) hk hs).mono ?_
    rintro e W1 ⟨rfl, g1, r1⟩
    have R1 : Hid (Rd b s (k + nm.length) W1) := r1
    clear r1
    go_wp2
    go_ret
    exact ⟨g1, rfl, _, hl, R1.out⟩
  · cases hp : Lib.hasPrefix (s.data.toList.drop (k + nm.length)) [62]
    · simp only [Bool.false_eq_true, and_false, if_false]
      go_enter Tryd.func65, Tryd.ntmps65
      go_wp2_with fail
      refine (Tryd.rname_at b s k nm _ HNM.out (by exact HH.out) hk hs).mono ?_
      rintro e W1 ⟨rfl, g1, r1⟩
      have R1 : Hid (Rd b s (k + nm.length) W1) := r1
      clear r1
      go_wp2_with fail
      refine (Tryd.skip_any b s _ (k + nm.length) _ (by exact R1.out) hl hs (by decide) false hp).mono ?_
      rintro e W2 ⟨rfl, g2, r2⟩
      have R2 : Hid (Rd b s (k + nm.length) W2) := r2
      clear r2
      go_wp2
      go_ret
      exact ⟨Mk.grown_trans g1 g2, rfl, _, hl, R2.out⟩
    · simp only [and_self, if_true]
      go_enter Tryd.func65, Tryd.ntmps65
      go_wp2_with fail
      refine (Tryd.rname_at b s k nm _ HNM.out (by exact HH.out) hk hs).mono ?_
      rintro e W1 ⟨rfl, g1, r1⟩
      have R1 : Hid (Rd b s (k + nm.length) W1) := r1
      clear r1
      go_wp2_with fail
      refine (Tryd.skip_any b s _ (k + nm.length) _ (by exact R1.out) hl hs (by decide) true hp).mono ?_
      rintro e W2 ⟨rfl, g2, r2⟩
      have R2 : Hid (Rd b s (k + nm.length + 1) W2) := r2
      clear r2
      go_wp2
      go_ret
      have hz : w.heap.size ≤ W2.heap.size := Nat.le_trans g1.size g2.size
      refine ⟨Mk.grown_alloc (Mk.grown_trans g1 g2) _, _, (⟨2, at_, ⟨nm.toArray⟩, [], ⟨#[]⟩⟩, .slice none 0 0), rfl, rfl, R2.out.grown (World.grownBy_alloc W2 _ none) (by simp), ?_, ?_⟩
      · exact Mk.own_built W2 w.heap.size 78 5 1 _ hz (by decide) rfl
      · intro q hq
        simp only [List.mem_singleton] at hq
        subst hq
        exact Mk.own_nil _ _

/-- How opened ends: nm the name, xs the attributes and m their bytes, if there are any. -/
def Mk.OpenEnd (B b : Nat) (s : ByteArray) (k at_ : Nat) (nm : List UInt8) (e : Ending) (w' : World) : Prop :=
  if nameL nm = false then e = .returned (.slice none 0 0) ∧ ∃ k', k' ≤ s.size ∧ Rd b s k' w' else
  match Mk.attrsL (s.data.toList.drop (k + nm.length)) with
  | none => e = .returned (.slice none 0 0) ∧ ∃ k', k' ≤ s.size ∧ Rd b s k' w'
  | some (xs, m) => if Mk.unlikeB xs = false then e = .returned (.slice none 0 0) ∧ ∃ k', k' ≤ s.size ∧ Rd b s k' w' else
    if Lib.hasPrefix (s.data.toList.drop (k + nm.length + m)) [62] = true then
      ∃ v q, e = .returned v ∧ q.1 = ⟨1, at_, ⟨nm.toArray⟩, xs, ⟨#[]⟩⟩ ∧ Rd b s (k + nm.length + m + 1) w' ∧ Mk.MarksOwn w' B v [q]
    else if Lib.hasPrefix (s.data.toList.drop (k + nm.length + m)) [47, 62] = true then
      ∃ v q r, e = .returned v ∧ q.1 = ⟨1, at_, ⟨nm.toArray⟩, xs, ⟨#[]⟩⟩ ∧ r.1 = ⟨2, at_, ⟨nm.toArray⟩, [], ⟨#[]⟩⟩ ∧ Rd b s (k + nm.length + m + 2) w' ∧ Mk.MarksOwn w' B v [q, r]
    else e = .returned (.slice none 0 0) ∧ ∃ k', k' ≤ s.size ∧ Rd b s k' w'

set_option maxHeartbeats 4000000 in
theorem Tryd.ropened_any (b : Nat) (s : ByteArray) (k at_ : Nat) (nm : List UInt8) (w : World) (hnm : Mk.nameOf (s.data.toList.drop k) = nm) (h : Rd b s k w) (hb0 : b ≠ 0) (hE : Mk.Esc w) (hk : k ≤ s.size) (hs : s.size ≤ 20000) (_hat : at_ ≤ 20000) :
    Calls Tryd.prog 66 #[.pointer (some ⟨b, 0, none⟩), .int .i64 at_] w fun e w' => w.grownBy w' (some b) ∧ Mk.OpenEnd w.heap.size b s k at_ nm e w' := by
  have hbw := h.lt
  have HH : Hid (Rd b s k w) := h
  have HE : Hid (Mk.Esc w) := hE
  have HNM : Hid (Mk.nameOf (s.data.toList.drop k) = nm) := hnm
  have hl : k + nm.length ≤ s.size := by
    have := tw_le (p := bofName) (s.data.toList.drop k)
    rw [List.length_drop, Mk.size_list] at this
    rw [← hnm]
    unfold Mk.nameOf
    omega
  clear h hnm hE
  go_enter Tryd.func66, Tryd.ntmps66
  go_wp2_with fail
  refine (Tryd.rname_at b s k nm _ HNM.out (by exact HH.out) hk hs).mono ?_
  rintro e W1 ⟨rfl, g1, r1⟩
  have R1 : Hid (Rd b s (k + nm.length) W1) := r1
  have E1 : Hid (Mk.Esc W1) := HE.out.kept g1 (by simpa using Ne.symm hb0)
  clear r1
  cases hn : nameL nm
  · go_wp2
    go_ret
    refine ⟨g1, ?_⟩
    unfold Mk.OpenEnd
    rw [if_pos hn]
    exact ⟨rfl, _, hl, R1.out⟩
  · go_wp2_with fail
    refine (Tryd.rattrs_any b s (k + nm.length) _ (by exact R1.out) hb0 (by exact E1.out) hl hs).mono ?_
    rintro e W2 ⟨g2, t2⟩
    unfold Mk.AttrsEnd at t2
    have G2 := Mk.grown_trans g1 g2
    have z1 := g1.size
    cases ha : Mk.attrsL (s.data.toList.drop (k + nm.length)) with
    | none =>
      rw [ha] at t2
      obtain ⟨v, rfl, k2, hk2, r2⟩ := t2
      have R2 : Hid (Rd b s k2 W2) := r2
      clear r2
      go_wp2
      go_ret
      refine ⟨G2, ?_⟩
      unfold Mk.OpenEnd
      rw [if_neg (by rw [hn]; simp), ha]
      exact ⟨rfl, _, hk2, R2.out⟩
    | some q =>
      obtain ⟨xs, m⟩ := q
      rw [ha] at t2
      obtain ⟨v, rfl, r2, o2⟩ := t2
      obtain ⟨av, cv, rfl⟩ := Mk.own_shape o2
      have R2 : Hid (Rd b s (k + nm.length + m) W2) := r2
      have O2 : Hid (W2.ownsRow w.heap.size 54 2 (.slice av xs.length cv) xs.length (Mk.attrCells xs)) := Mk.own_base o2 z1
      have hl2 : k + nm.length + m ≤ s.size := by
        have := Mk.attrsL_le ha
        rw [List.length_drop, Mk.size_list] at this
        omega
      clear r2 o2
      cases hu : Mk.unlikeB xs
      · go_wp2
        go_ret
        refine ⟨G2, ?_⟩
        unfold Mk.OpenEnd
        rw [if_neg (by rw [hn]; simp), ha]
        simp only
        rw [if_pos hu]
        exact ⟨rfl, _, hl2, R2.out⟩
      · have z2 := g2.size
        cases hp : Lib.hasPrefix (s.data.toList.drop (k + nm.length + m)) [62]
        · go_wp2_with fail
          refine (Tryd.skip_any b s _ (k + nm.length + m) _ (by exact R2.out.grown (World.grownBy_alloc W2 _ none) (by simp)) hl2 hs (by decide) false hp).mono ?_
          rintro e W3 ⟨rfl, g3, r3⟩
          have R3 : Hid (Rd b s (k + nm.length + m) W3) := r3
          have hz3 : W2.heap.size + 1 ≤ W3.heap.size := by have := g3.size; simpa using this
          have hb3 : W3.heap[W2.heap.size]? = some (.cells #[.int .i64 1, .int .i64 at_, .string ⟨nm.toArray⟩, .slice av xs.length cv, .string ⟨#[]⟩] 78) := by
            rw [g3.block W2.heap.size (by simp) (by intro e; have := Option.some.inj e; omega)]
            exact heap_alloc_new W2 _
          have O3 : Hid (W3.ownsRow w.heap.size 54 2 (.slice av xs.length cv) xs.length (Mk.attrCells xs)) := Mk.own_kept (O2.out.alloc _) g3 hbw
          have G3 := Mk.grown_trans (Mk.grown_alloc G2 (.cells #[.int .i64 1, .int .i64 at_, .string ⟨nm.toArray⟩, .slice av xs.length cv, .string ⟨#[]⟩] 78)) g3
          clear r3
          cases hp2 : Lib.hasPrefix (s.data.toList.drop (k + nm.length + m)) [47, 62]
          · go_wp2_with fail
            refine (Tryd.skip_any b s _ (k + nm.length + m) _ (by exact R3.out) hl2 hs (by decide) false hp2).mono ?_
            rintro e W4 ⟨rfl, g4, r4⟩
            have R4 : Hid (Rd b s (k + nm.length + m) W4) := r4
            clear r4
            go_wp2
            go_ret
            refine ⟨Mk.grown_trans G3 g4, ?_⟩
            unfold Mk.OpenEnd
            rw [if_neg (by rw [hn]; simp), ha]
            simp only
            rw [if_neg (by rw [hu]; simp), if_neg (by rw [hp]; simp), if_neg (by rw [hp2]; simp)]
            exact ⟨rfl, _, hl2, R4.out⟩
          · go_wp2_with fail
            refine (Tryd.skip_any b s _ (k + nm.length + m) _ (by exact R3.out) hl2 hs (by decide) true hp2).mono ?_
            rintro e W4 ⟨rfl, g4, r4⟩
            have R4 : Hid (Rd b s (k + nm.length + m + 2) W4) := r4
            have hz4 : W2.heap.size < W4.heap.size := by have := g4.size; omega
            have hb4 : W4.heap[W2.heap.size]? = some (.cells #[.int .i64 1, .int .i64 at_, .string ⟨nm.toArray⟩, .slice av xs.length cv, .string ⟨#[]⟩] 78) := by
              rw [g4.block W2.heap.size (by omega) (by intro e; have := Option.some.inj e; omega)]
              exact hb3
            have O4 : Hid (W4.ownsRow w.heap.size 54 2 (.slice av xs.length cv) xs.length (Mk.attrCells xs)) := Mk.own_kept O3.out g4 hbw
            clear r4 hb3
            have hu38 := Tryd.underlying78
            go_wp2_with (refine wpList_load_row rfl 78 _ rfl _ rfl 78 _ (0, 0) _ hb4 hu38 rfl (by kernel_rfl) ?_)
            go_ret
            refine ⟨Mk.grown_alloc (Mk.grown_trans G3 g4) _, ?_⟩
            unfold Mk.OpenEnd
            rw [if_neg (by rw [hn]; simp), ha]
            simp only
            rw [if_neg (by rw [hu]; simp), if_neg (by rw [hp]; simp), if_pos hp2]
            refine ⟨_, (⟨1, at_, ⟨nm.toArray⟩, xs, ⟨#[]⟩⟩, .slice av xs.length cv), (⟨2, at_, ⟨nm.toArray⟩, [], ⟨#[]⟩⟩, .slice none 0 0), rfl, rfl, rfl, R4.out.grown (World.grownBy_alloc W4 _ none) (by simp), ?_, ?_⟩
            · exact Mk.own_built W4 w.heap.size 78 5 2 _ (by omega) (by decide) rfl
            · intro q hq
              simp only [List.mem_cons, List.not_mem_nil, or_false] at hq
              rcases hq with rfl | rfl
              · exact O4.out.alloc _
              · exact Mk.own_nil _ _
        · go_wp2_with fail
          refine (Tryd.skip_any b s _ (k + nm.length + m) _ (by exact R2.out.grown (World.grownBy_alloc W2 _ none) (by simp)) hl2 hs (by decide) true hp).mono ?_
          rintro e W3 ⟨rfl, g3, r3⟩
          have R3 : Hid (Rd b s (k + nm.length + m + 1) W3) := r3
          have hz3 : W2.heap.size < W3.heap.size := by have := g3.size; simp at this; omega
          have hb3 : W3.heap[W2.heap.size]? = some (.cells #[.int .i64 1, .int .i64 at_, .string ⟨nm.toArray⟩, .slice av xs.length cv, .string ⟨#[]⟩] 78) := by
            rw [g3.block W2.heap.size (by simp) (by intro e; have := Option.some.inj e; omega)]
            exact heap_alloc_new W2 _
          have O3 : Hid (W3.ownsRow w.heap.size 54 2 (.slice av xs.length cv) xs.length (Mk.attrCells xs)) := Mk.own_kept (O2.out.alloc _) g3 hbw
          have G3 := Mk.grown_trans (Mk.grown_alloc G2 (.cells #[.int .i64 1, .int .i64 at_, .string ⟨nm.toArray⟩, .slice av xs.length cv, .string ⟨#[]⟩] 78)) g3
          clear r3
          have hu38 := Tryd.underlying78
          go_wp2_with (refine wpList_load_row rfl 78 _ rfl _ rfl 78 _ (0, 0) _ hb3 hu38 rfl (by kernel_rfl) ?_)
          go_ret
          refine ⟨Mk.grown_alloc G3 _, ?_⟩
          unfold Mk.OpenEnd
          rw [if_neg (by rw [hn]; simp), ha]
          simp only
          rw [if_neg (by rw [hu]; simp), if_pos hp]
          refine ⟨_, (⟨1, at_, ⟨nm.toArray⟩, xs, ⟨#[]⟩⟩, .slice av xs.length cv), rfl, rfl, R3.out.grown (World.grownBy_alloc W3 _ none) (by simp), ?_, ?_⟩
          · exact Mk.own_built W3 w.heap.size 78 5 1 _ (by omega) (by decide) rfl
          · intro q hq
            simp only [List.mem_singleton] at hq
            subst hq
            exact O3.out.alloc _

end Go.Proofs
