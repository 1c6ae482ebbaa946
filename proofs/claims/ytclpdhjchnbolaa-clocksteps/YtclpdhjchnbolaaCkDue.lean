/-
  Which alarms are due.
-/
import Derived.Test.YtclpdhjchnbolaaCkTell
import Derived.Great.BuildSlice
namespace Go.Proofs
open Go.RowKit Go.Shelf Go.Sort

def Ck.z (x : Int) : Value := .int .i64 x
/-- The ids of those that are due. -/
def Ck.due (now : Int) (L : List Ck.Al) : List Int := (L.filter fun a => Ck.left now a.2 == 0).map (·.1)
theorem Ck.due_snoc (now : Int) (L : List Ck.Al) (a : Ck.Al) : Ck.due now (L ++ [a]) = Ck.due now L ++ (if (Ck.left now a.2 == 0) = true then [a.1] else []) := by
  unfold Ck.due
  rw [List.filter_append, List.map_append]
  congr 1
  cases h : (Ck.left now a.2 == 0) <;> simp [h]
theorem Try.infoIntC : (Try.prog.info? 3).map (fun i => (i.zero, i.size, i.bytes)) = some (some (.int .i64 0), 1, 8) := by kernel_rfl
theorem Ck.own_shape {w : World} {B : Nat} {e : TypeId} {size : Nat} {v : Value} {n : Nat} {cs : List Value} (h : w.ownsRow B e size v n cs) : ∃ a c, v = .slice a n c := by
  rcases h.2 with ⟨rfl, rfl⟩ | ⟨g, cap, cur, rfl, _⟩
  · exact ⟨none, 0, rfl⟩
  · exact ⟨_, _, rfl⟩
theorem Ck.own_below {w w' : World} {B : Nat} {e : TypeId} {size : Nat} {v : Value} {n : Nat} {cs : List Value} (h : w.ownsRow B e size v n cs) (hb : Below w.heap.size w w') : w'.ownsRow B e size v n cs := by
  rcases h with ⟨hl, h | ⟨g, cap, cur, rfl, hB, hg, h4⟩⟩
  · exact ⟨hl, .inl h⟩
  · exact ⟨hl, .inr ⟨g, cap, cur, rfl, hB, by rw [hb.block g (Array.getElem?_eq_some_iff.1 hg).1]; exact hg, h4⟩⟩
theorem Ck.below_grown {B : Nat} {a w w' : World} {v : Value} {e : TypeId} {size n : Nat} {cs : List Value} (h : Below B a w) (hB : B ≤ w.heap.size) (ho : w.ownsRow B e size v n cs) (hg : w.grownBy w' v.ownBlock) : Below B a w' :=
  h.trans ⟨hg.os, hg.tape, hg.output, hg.size, fun j hj => hg.block j (by omega) (by
    intro he
    rcases ho.2 with ⟨rfl, _⟩ | ⟨g, cap, cur, rfl, h1, _⟩
    · simp [Value.ownBlock] at he
    · simp [Value.ownBlock] at he
      omega)⟩
theorem Ck.one_cell (w : World) (i : Int) (t : TypeId) : ∀ j u, [Value.int .i64 i][j]? = some u → (w.alloc (.cells #[.int .i64 i] t)).cell? ((⟨w.heap.size, 0, none⟩ : Addr).add j) = some u := by
  intro j u hj
  match j, hj with
  | 0, hj => simp at hj; subst hj; simp [Addr.add]
theorem Ck.one_one (i : Int) : ∀ u ∈ [Value.int .i64 i], u.oneCell' = true := by intro u hu; simp at hu; subst hu; rfl

set_option maxRecDepth 20000 in
set_option maxHeartbeats 4000000 in
theorem Try.cDue_any {B c : Nat} {v : Value} {now : Int} {L : List Ck.Al} (w : World) (h : Ck.At B c v now L w) (ho : Ck.Ok now L) : Calls Try.prog 15 #[.pointer (some ⟨c, 0, none⟩)] w fun e w' => ∃ u, e = .returned u ∧ w'.ownsRow w.heap.size 3 1 u (Ck.due now L).length ((Ck.due now L).map Ck.z) ∧ Below w.heap.size w w' := by
  obtain ⟨i0, hi, hz0, hz1, hz2⟩ := info_parts Try.infoIntC
  have c1 := h.c1
  obtain ⟨n, hn⟩ : ∃ n, L.length = n := ⟨_, rfl⟩
  obtain ⟨va, vc, hv⟩ := h.shape
  rw [hn] at hv
  subst hv
  have hn64 : n ≤ 64 := by have := ho.len; omega
  have H : Hid (Ck.At B c (.slice va n vc) now L w ∧ Ck.Ok now L ∧ L.length = n) := ⟨h, ho, hn⟩
  clear h ho hn
  go_enter Try.func15, Try.ntmps15
  go_wp2
  go_loopg [3, 5, 13] n (fun gk s3 _ s13 wr => ∃ (k r : Nat) (D : List Int), gk + k = n ∧ s13 = .int .i64 k ∧ r ≤ k ∧ Hid (D = Ck.due now (L.take k) ∧ D.length = r ∧ Below w.heap.size w wr) ∧ wr.ownsRow w.heap.size 3 1 s3 r (D.map Ck.z))
  case atStart => exact ⟨0, 0, [], by omega, rfl, Nat.le_refl _, ⟨rfl, rfl, Below.refl _ w⟩, World.ownsRow_nil _ _ _ _⟩
  case round =>
    obtain ⟨k, r, D, hk, rfl, hr, HB, hown⟩ := hrel
    obtain ⟨av, cv, rfl⟩ := Ck.own_shape hown
    by_cases hlt : k < n
    · have hd : decide ((k : Int) < n) = true := decide_eq_true (by omega)
      have hkl : k < L.length := by rw [H.out.2.2]; exact hlt
      have h1 := H.out.1.below HB.out.2.2 (Nat.le_refl _)
      obtain ⟨g, cap, hv, hg, hcap, k1, k2, _⟩ := h1.nth hkl
      rw [H.out.2.2] at hv
      simp only [Value.slice.injEq, true_and] at hv
      obtain ⟨rfl, rfl⟩ := hv
      obtain ⟨⟨x, t⟩, hx⟩ : ∃ x, L[k] = x := ⟨_, rfl⟩
      have hat := H.out.2.1.at' _ (List.getElem_mem hkl)
      rw [hx] at k1 k2 hat
      simp only at k1 k2 hat
      have HF : Hid (Ck.due now (L.take (k + 1)) = D ++ (if (Ck.left now t == 0) = true then [x] else [])) := by
        show _ = _
        rw [List.take_succ_eq_append_getElem hkl, hx, Ck.due_snoc, ← HB.out.1]
      have HK : Hid ((wr.alloc (.cells #[.int .i64 0, .int .i64 0] 62)).heap[wr.heap.size]? = some (.cells #[.int .i64 0, .int .i64 0] 62 (0, 0))) := heap_alloc_new wr _
      obtain ⟨V0, hV0⟩ : ∃ z, (wr.alloc (.cells #[.int .i64 0, .int .i64 0] 62)).setRow wr.heap.size #[.int .i64 x, .int .i64 t] = z := ⟨_, rfl⟩
      have HV0 : Hid _ := hV0
      have GV : V0.heap[wr.heap.size]? = some (.cells #[.int .i64 x, .int .i64 t] 62 (0, 0)) := by show _ = _; rw [← hV0]; exact setRow_heap _ _ _ _ _ _ HK.out
      have BV : Hid (Below wr.heap.size wr V0) := by
        show Below _ _ _
        rw [← hV0]
        exact ((Below.refl _ wr).alloc (Nat.le_refl _) _).trans ⟨rfl, rfl, rfl, by simp [World.setRow], fun k hk => setRow_other _ _ _ _ (by omega)⟩
      have v0 : V0.cell? ⟨wr.heap.size, 0, none⟩ = some (.int .i64 x) := by simp [World.cell?, GV]
      have v1 : V0.cell? ⟨wr.heap.size, 1, none⟩ = some (.int .i64 t) := by simp [World.cell?, GV]
      have sV : V0.heap.size = wr.heap.size + 1 := by rw [← hV0]; simp [World.setRow]
      have HC : Hid _ := Try.left_any c now (x, t) V0 (h1.below BV.out (Nat.le_refl _)).c0 H.out.2.1.now hat
      obtain ⟨z, hz⟩ : ∃ z, Ck.left now t = z := ⟨_, rfl⟩
      simp only [hz] at HC HF
      have HN : Hid (∀ W : World, Below V0.heap.size V0 W → W.cell? ⟨wr.heap.size, 0, none⟩ = some (.int .i64 x)) := fun W hb => (hb.cell (p := ⟨wr.heap.size, 0, none⟩) (by show wr.heap.size < _; omega)).trans v0
      have HO : Hid (wr.ownsRow w.heap.size 3 1 (.slice av r cv) r (D.map Ck.z)) := hown
      have hk0 : (0 : Int) ≤ k := by omega
      have hlt' : (k : Int) < n := by omega
      clear h1 hx hat hV0 hz hcap hg hown GV sV
      cases hq : (z == 0) with
      | false =>
        rw [hq] at HF
        go_upto_region 7 with (refine wpList_store_row rfl 62 _ _ rfl wr.heap.size #[.int .i64 x, .int .i64 t] rfl rfl 62 _ HK.out (by kernel_rfl) rfl (by kernel_rfl) ?_)
        rw [HV0.out]
        go_wp2_with fail
        refine Calls.mono HC.out ?_
        rintro e W1 ⟨rfl, hb⟩
        go_wp2
        go_roundg (gk - 1)
        case measure => omega
        case rel =>
          have b1 := BV.out.trans (hb.mono BV.out.size)
          refine ⟨k + 1, r, D, by omega, by go_num, by omega, ⟨?_, HB.out.2.1, HB.out.2.2.trans (b1.mono HB.out.2.2.size)⟩, Ck.own_below HO.out b1⟩
          rw [HF.out]; simp
      | true =>
        rw [hq] at HF
        go_upto_region 7 with (refine wpList_store_row rfl 62 _ _ rfl wr.heap.size #[.int .i64 x, .int .i64 t] rfl rfl 62 _ HK.out (by kernel_rfl) rfl (by kernel_rfl) ?_)
        rw [HV0.out]
        go_wp2_with fail
        refine Calls.mono HC.out ?_
        rintro e W1 ⟨rfl, hb⟩
        have c0 := HN.out W1 hb
        have b1 := BV.out.trans (hb.mono BV.out.size)
        have own1 := Ck.own_below HO.out b1
        have B1 : Hid (Below w.heap.size w W1) := HB.out.2.2.trans (b1.mono HB.out.2.2.size)
        have hs1 : w.heap.size ≤ W1.heap.size := B1.out.size
        clear hb b1 HC HN
        go_wp2_with (at_builtin; refine wpList_append_own _ rfl _ _ 37 rfl w.heap.size 3 i0 (.int .i64 0) 1 8 Try.underlying37 hi hz0 hz1 hz2 rfl (by decide) _ _ _ rfl (own1.alloc _) ⟨W1.heap.size, 0, none⟩ 1 1 [.int .i64 x] rfl rfl (Ck.one_cell W1 x 3) (Ck.one_one x) ?c3 ?c4 ?c5 ?_)
        case c3 => unfold maxLen; omega
        case c4 => omega
        case c5 => simp; omega
        intro v' W2 own2 g2 _
        obtain ⟨a2, c2, rfl⟩ := Ck.own_shape own2
        go_wp2
        go_roundg (gk - 1)
        case measure => omega
        case rel =>
          refine ⟨k + 1, r + 1, D ++ [x], by omega, by go_num, by omega, ⟨?_, by simp [HB.out.2.1], ?_⟩, ?_⟩
          · rw [HF.out]; simp
          · exact Ck.below_grown (B1.out.alloc hs1 _) (by simp; omega) (own1.alloc _) g2
          · rw [List.map_append]
            exact own2
    · have hd : decide ((k : Int) < n) = false := decide_eq_false (by omega)
      have hkn : k = n := by omega
      have HD : Hid (D = Ck.due now L) := by
        show _ = _
        rw [HB.out.1, hkn, ← H.out.2.2, List.take_length]
      clear hkn
      go_wp2
      go_ret
      refine ⟨_, rfl, ?_, HB.out.2.2⟩
      rw [← HD.out, HB.out.2.1]
      exact hown

end Go.Proofs
