/-
  The walk of PostSteps.
-/
import Derived.Test.YtdclfmmmlicaaaaPsOne
import Derived.Test.YtdclfmmmlicaaaaPsDoes
import Derived.Test.YtdclfmmmlicaaaaPsArg
namespace Go.Proofs.Ytdclfmmmlicaaaa.PostSteps
open Go.RowKit Go.Shelf Go.Maps

theorem sorted_at {L : List Int} (hn : L.Pairwise (· < ·)) {i : Nat} (h : i + 1 < L.length) : L[i] < L[i + 1] :=
  List.pairwise_iff_getElem.1 hn i (i + 1) (by omega) h (by omega)

theorem _root_.Go.Proofs.Ps.below_on {V V1 V2 : World} {N : Nat} (h : Below V.heap.size V V1) (h2 : Below (V1.drewN N).heap.size (V1.drewN N) V2) : Below V.heap.size V V2 :=
  h.trans ⟨h2.os, h2.tape, h2.output, h2.size, fun k hk => h2.block k (Nat.lt_of_lt_of_le hk h.size)⟩

set_option maxRecDepth 20000 in
set_option maxHeartbeats 8000000 in
theorem walk (a : Option Addr) (c : Nat) (l : List Ps.Stp) (key : Int) (hk : (Lit.int .i64 key).wf = true) (W : World) (hS : Ps.Sts W W.heap.size a l) : Calls Try.prog 3 #[.slice a l.length c, .int .i64 key] W fun e w' => e = .returned (.bool true) ∧ Below W.heap.size W w' := by
  obtain ⟨n, hn⟩ : ∃ n, l.length = n := ⟨_, rfl⟩
  obtain ⟨B, hB⟩ : ∃ B, W.heap.size = B := ⟨_, rfl⟩
  have HE : Hid (Ps.Sts W W.heap.size a l ∧ l.length = n ∧ W.heap.size = B) := ⟨hS, hn, hB⟩
  rw [hn, hB]
  have C0 := Try.pNew_any W
  rw [hB] at C0
  have HC0 : Hid _ := C0
  clear hS hn hB C0
  by_cases h200 : 200 < n
  · have d1 : decide (200 < (n : Int)) = true := decide_eq_true (by omega)
    have d1' : decide (200 < n) = true := decide_eq_true h200
    clear h200
    go_enter Try.func3, Try.ntmps3
    go_wp2_with fail
    refine Calls.mono HC0.out ?_
    rintro e W1 ⟨rfl, hA, hb⟩
    have HB : Hid (Below B W W1) := hb
    clear hA hb HC0
    go_wp2_with fail
    refine Calls.mono (Try.one_any _) ?_
    rintro e W8 ⟨rfl, hb⟩
    have H8 : Hid (Below B W W8) := HB.out.trans (hb.mono (by have := HB.out.size; have := HE.out.2.2; omega))
    clear hb
    go_wp2
    go_ret
    exact ⟨rfl, H8.out⟩
  · have d1 : decide (200 < (n : Int)) = false := decide_eq_false (by omega)
    have d1' : decide (200 < n) = false := decide_eq_false h200
    go_enter Try.func3, Try.ntmps3
    go_wp2_with fail
    refine Calls.mono HC0.out ?_
    rintro e W1 ⟨rfl, hA, hb⟩
    obtain ⟨q, hq⟩ : ∃ q, W1.heap.size = q := ⟨_, rfl⟩
    obtain ⟨W2, hW2⟩ : ∃ x, W1.alloc (.cells #[.slice none 0 0] 29) = x := ⟨_, rfl⟩
    have H1 : Hid (W1.alloc (.cells #[.slice none 0 0] 29) = W2 ∧ W1.heap.size = q) := ⟨hW2, hq⟩
    have b2 : Below B W W2 := by
      rw [← hW2]
      exact hb.alloc (by have := hb.size; have := HE.out.2.2; omega) _
    have two : Ps.Two B (fun x => B ≤ x) B q [] W2 := by
      refine ⟨Ps.ok_nil, none, .slice none 0 0, ?_, ⟨?_, rfl, .inl ⟨rfl, rfl⟩⟩, Nat.le_refl _, (fun b e => by cases e), ?_, (fun g e => by cases e)⟩
      · rw [← hW2]
        exact hA.alloc _
      · rw [← hW2, ← hq]
        exact heap_alloc_new _ _
      · show B ≤ q
        have := hb.size
        have := HE.out.2.2
        omega
    have H2 : Hid (Below B W W2 ∧ Ps.Two B (fun x => B ≤ x) B q [] W2) := ⟨b2, two⟩
    clear hA hb hW2 hq b2 two HC0
    go_wp2
    rw [H1.out.1, H1.out.2]
    go_loopg [32] n (fun gk s wr => ∃ i : Nat, gk + i = n ∧ s = .int .i64 i ∧ Hid (Below B W wr ∧ ∃ E M, Ps.Two B E B q M wr ∧ ∀ x, E x → B ≤ x))
    case atStart => exact ⟨0, by omega, rfl, H2.out.1, _, _, H2.out.2, fun x hx => hx⟩
    case round =>
      obtain ⟨i, hi, rfl, HI⟩ := hrel
      clear H1 H2
      by_cases hlt : i < n
      · have hd : decide ((i : Int) < n) = true := decide_eq_true (by omega)
        have hil : i < l.length := by rw [HE.out.2.1]; exact hlt
        obtain ⟨g, off, rfl, hg, k0, k1, k2, kw⟩ := HE.out.1 i hil
        obtain ⟨⟨x, k, m⟩, hx⟩ : ∃ x, l[i] = x := ⟨_, rfl⟩
        rw [hx] at k0 k1 k2 kw
        simp only at k0 k1 k2 kw
        have hc : ∀ o, wr.cell? ⟨g, o, none⟩ = W.cell? ⟨g, o, none⟩ := fun o => HI.out.1.cell (p := ⟨g, o, none⟩) (by show g < B; have := HE.out.2.2; omega)
        rw [← hc] at k0 k1 k2
        clear hc hx
        obtain ⟨g1, hg1⟩ : ∃ y, gk = y := ⟨_, rfl⟩
        rw [hg1] at hi
        have HG : Hid (gk = g1) := hg1
        clear hg1
        obtain ⟨hbr, E, M, two, hE⟩ := HI.out
        have sB : B ≤ wr.heap.size := by have := hbr.size; have := HE.out.2.2; omega
        have C1 : Hid _ := Try.does_any B E B q M x k m kw (wr.alloc (.cells #[.int .i64 x, .int .i64 k, .int .i64 m] 31)) (by simp; omega) (two.below ((Below.refl wr.heap.size wr).alloc (Nat.le_refl _) _) (Nat.le_refl _))
        have HB : Hid (Below B W (wr.alloc (.cells #[.int .i64 x, .int .i64 k, .int .i64 m] 31)) ∧ ∀ x, E x → B ≤ x) := ⟨hbr.alloc sB _, hE⟩
        clear two hbr hE HI kw
        go_wp2_with fail
        refine Calls.mono C1.out ?_
        rintro e V1 ⟨rfl, E', hE', two, hbut⟩
        have hsz : B ≤ (wr.alloc (.cells #[.int .i64 x, .int .i64 k, .int .i64 m] 31)).heap.size := by simp; omega
        have hV1 : Below B W V1 := HB.out.1.trans (hbut.below hsz fun y hy he => by have := HB.out.2 y he; omega)
        have hEE : ∀ y, E' y → B ≤ y := fun y hy => by
          rcases hE' y hy with h | h
          · exact HB.out.2 y h
          · omega
        obtain ⟨M', hM'⟩ : ∃ y, Ps.step M x k m = y := ⟨_, rfl⟩
        rw [hM'] at two
        have H3 : Hid (Below B W V1 ∧ Ps.Two B E' B q M' V1 ∧ (∀ y, E' y → B ≤ y) ∧ B ≤ V1.heap.size) := ⟨hV1, two, hEE, Nat.le_trans hsz hbut.size⟩
        clear C1 HB hE' hbut hsz hV1 hEE hM' two
        obtain ⟨hok, pm, v0, h1, h2, _⟩ := H3.out.2.1
        obtain ⟨av, nv, cv, HNV, rfl⟩ := Ps.own_shape' h2.2
        obtain ⟨v, hv⟩ : ∃ y, Value.slice av nv cv = y := ⟨_, rfl⟩
        rw [hv] at h2
        have HVV : Hid (Value.slice av nv cv = v) := hv
        clear hv
        have HP : Hid (Ps.At B pm M' V1 ∧ Ps.Dc B q v M' V1 ∧ Ps.Ok M') := ⟨h1, h2, hok⟩
        clear h1 h2 hok
        go_wp2_with fail
        refine Calls.mono (Try.pWaiting_any B pm M' key hk V1 HP.out.1) ?_
        rintro e V2 ⟨rfl, hb2⟩
        obtain ⟨⟨ba, bb, bc, bd⟩, hgt⟩ : ∃ y, Ps.get M' key = y := ⟨_, rfl⟩
        obtain ⟨th, hth⟩ : ∃ y, Ps.has M' key = y := ⟨_, rfl⟩
        rw [hgt, hth]
        simp only [Bx.val]
        obtain ⟨V3, hV3⟩ : ∃ y, V2.alloc (.cells #[.int .i64 ba, .int .i64 bb, .int .i64 bc, .int .i64 bd] 33) = y := ⟨_, rfl⟩
        have b3 : Below V1.heap.size V1 V3 := by
          rw [← hV3]
          exact hb2.alloc hb2.size _
        have k3 : V3.heap[V2.heap.size]? = some (.cells #[.int .i64 ba, .int .i64 bb, .int .i64 bc, .int .i64 bd] 33 (0, 0)) := by rw [← hV3]; exact heap_alloc_new _ _
        have s3 : V2.heap.size < V3.heap.size := by rw [← hV3]; simp
        obtain ⟨p3, hp3⟩ : ∃ y, V2.heap.size = y := ⟨_, rfl⟩
        rw [hp3] at k3 s3
        have H4 : Hid (Below V1.heap.size V1 V3 ∧ V3.heap[p3]? = some (.cells #[.int .i64 ba, .int .i64 bb, .int .i64 bc, .int .i64 bd] 33 (0, 0)) ∧ Ps.get M' key = (ba, bb, bc, bd) ∧ Ps.has M' key = th ∧ p3 < V3.heap.size) := ⟨b3, k3, hgt, hth, s3⟩
        have HV3 : Hid (V2.alloc (.cells #[.int .i64 ba, .int .i64 bb, .int .i64 bc, .int .i64 bd] 33) = V3 ∧ V2.heap.size = p3) := ⟨hV3, hp3⟩
        clear hb2 hgt hth hV3 b3 k3 s3 hp3
        go_wp2_with fail
        rw [HV3.out.1]
        refine Calls.mono (Try.rAt_any B q v M' key V3 (HP.out.2.1.below H4.out.1 (Nat.le_refl _)) HP.out.2.2.2) ?_
        rintro e V4 ⟨⟨r, rfl, hr⟩, hb4⟩
        rw [HV3.out.2]
        have h4 : Below V1.heap.size V1 V4 := H4.out.1.trans (hb4.mono H4.out.1.size)
        have e4 : V4.heap[p3]? = some (.cells #[.int .i64 ba, .int .i64 bb, .int .i64 bc, .int .i64 bd] 33 (0, 0)) := (hb4.block p3 H4.out.2.2.2.2).trans H4.out.2.1
        have u0 : V4.cell? ⟨p3, 0, none⟩ = some (.int .i64 ba) := by simp [World.cell?, e4]
        have u1 : V4.cell? ⟨p3, 1, none⟩ = some (.int .i64 bb) := by simp [World.cell?, e4]
        have u2 : V4.cell? ⟨p3, 2, none⟩ = some (.int .i64 bc) := by simp [World.cell?, e4]
        have u3 : V4.cell? ⟨p3, 3, none⟩ = some (.int .i64 bd) := by simp [World.cell?, e4]
        have d4 := HP.out.2.1.below h4 (Nat.le_refl _)
        have cq := d4.cell
        rw [← HVV.out] at cq
        have H5 : Hid (Below V1.heap.size V1 V4 ∧ Ps.Dc B q v M' V4) := ⟨h4, d4⟩
        have hq4 : ∀ W : World, (Op.equalIn 10000 33 (.agg #[.int .i64 ba, .int .i64 bb, .int .i64 bc, .int .i64 bd]) (.agg #[.int .i64 ba, .int .i64 bb, .int .i64 bc, .int .i64 bd])).run Try.prog W = .ok true W := fun W => Ps.arr_eq ba bb bc bd W
        have hg4 := Ps.guard_arr
        clear e4 hb4 h4
        have key12 : Hid (∀ (r : Int), Ps.Ix M' key r → (th = true ∧ ∃ (i' g' : Nat), r = (i' : Int) ∧ i' < nv ∧ av = some ⟨g', 0, none⟩ ∧ V4.cell? ⟨g', i' * 5 + 1, none⟩ = some (.int .i64 ba) ∧ V4.cell? ⟨g', i' * 5 + 2, none⟩ = some (.int .i64 bb) ∧ V4.cell? ⟨g', i' * 5 + 3, none⟩ = some (.int .i64 bc) ∧ V4.cell? ⟨g', i' * 5 + 4, none⟩ = some (.int .i64 bd)) ∨ (th = false ∧ r = -1 ∧ ba = 0 ∧ bb = 0 ∧ bc = 0 ∧ bd = 0)) := by
          rintro r (⟨rfl, hh⟩ | ⟨i', hil', rfl, hik⟩)
          · refine .inr ⟨H4.out.2.2.2.1.symm.trans hh, rfl, ?_⟩
            have e := H4.out.2.2.1
            rw [Ps.get_none hh] at e
            simp only [Bx.none, Prod.mk.injEq] at e
            exact ⟨e.1.symm, e.2.1.symm, e.2.2.1.symm, e.2.2.2.symm⟩
          · refine .inl ⟨H4.out.2.2.2.1.symm.trans (Ps.Ix.has hil' hik), ?_⟩
            obtain ⟨g', c', hv, _, _, _, z1, z2, z3, z4, _⟩ := H5.out.2.at hil'
            have hgt : Ps.get M' key = M'[i'].2 := by rw [← hik]; exact Ps.get_mem HP.out.1.nodup (List.getElem_mem hil')
            have e := hgt.symm.trans H4.out.2.2.1
            rw [e] at z1 z2 z3 z4
            have hav : av = some ⟨g', 0, none⟩ := (Value.slice.inj (HVV.out.trans hv)).1
            exact ⟨i', g', rfl, by have := HNV.out; omega, hav, z1, z2, z3, z4⟩
        have K12 := key12.out r hr
        clear d4 hr key12
        have fin : Hid (∀ V : World, Below V1.heap.size V1 V → Below B W V ∧ ∃ E M, Ps.Two B E B q M V ∧ ∀ x, E x → B ≤ x) := fun V hV => ⟨H3.out.1.trans (hV.mono H3.out.2.2.2), E', M', H3.out.2.1.below hV (Nat.le_refl _), H3.out.2.2.1⟩
        rcases K12 with ⟨rfl, i', g', rfl, hin, rfl, z1, z2, z3, z4⟩ | ⟨rfl, rfl, rfl, rfl, rfl, rfl⟩
        · have dr : decide (0 ≤ (i' : Int)) = true := decide_eq_true (by omega)
          have l1 : (i' : Int) < nv := by omega
          have l2 : (0 : Int) ≤ i' := by omega
          go_upto_region 12 with fail
          go_quiet (fail)
          go_wp2_with fail
          refine Calls.mono (Try.pKeys_any B pm M' _ (by exact HP.out.1.below (Tk.below_drewN H5.out.1 _) (Nat.le_refl _)) HP.out.2.2.2) ?_
          rintro e V5 ⟨vk, rfl, hrow, hb5⟩
          obtain ⟨ak, nk, ck, HNK, rfl⟩ := Ps.own_shape' hrow
          have hb5' : Below V1.heap.size V1 V5 := Ps.below_on H5.out.1 hb5
          have c5 := (HP.out.2.1.below hb5' (Nat.le_refl _)).cell
          rw [← HVV.out] at c5
          have H6 : Hid (Below V1.heap.size V1 V5 ∧ Ps.Nums V5 V5.heap.size ak (Ps.keysS M')) := ⟨hb5', Ps.nums_of_own hrow⟩
          have dq : ((nk : Int) != (nv : Int)) = false := by
            have := HNK.out
            have := HNV.out
            simp
            omega
          have hnk8 : nk ≤ 8 := by
            rw [HNK.out]
            exact HP.out.2.2.2
          clear hrow hb5 hb5'
          go_wp2
          go_loopg [90] nk (fun gk s wz => ∃ j : Nat, gk + j = nk ∧ s = .int .i64 j ∧ Hid (Below V5.heap.size V5 wz))
          case atStart => exact ⟨0, by omega, rfl, Below.refl _ _⟩
          case round =>
            obtain ⟨j, hj, rfl, HJ⟩ := hrel
            by_cases hjl : j < nk
            · have hdj : decide ((j : Int) < nk) = true := decide_eq_true (by omega)
              have hkl : j < (Ps.keysS M').length := by rw [Ps.keysS_length, ← HNK.out]; exact hjl
              obtain ⟨gz, oz, rfl, hgz, hx0⟩ := H6.out.2 j hkl
              obtain ⟨y, hy⟩ : ∃ y, (Ps.keysS M')[j] = y := ⟨_, rfl⟩
              rw [hy] at hx0
              have hcz : ∀ o, wr.cell? ⟨gz, o, none⟩ = V5.cell? ⟨gz, o, none⟩ := fun o => HJ.out.cell (p := ⟨gz, o, none⟩) hgz
              rw [← hcz] at hx0
              have hasy : Ps.has M' y = true := by
                rw [← Ps.keysS_mem, ← hy]
                exact List.getElem_mem hkl
              have hjz : Below V1.heap.size V1 wr := H6.out.1.trans (HJ.out.mono H6.out.1.size)
              have C5 : Hid _ := Try.rAt_any B q v M' y wr (HP.out.2.1.below hjz (Nat.le_refl _)) HP.out.2.2.2
              have HY : Hid ((Ps.keysS M')[j] = y ∧ Ps.has M' y = true) := ⟨hy, hasy⟩
              clear hcz hasy hjz hy
              go_wp2_with fail
              refine Calls.mono C5.out ?_
              rintro e V6 ⟨⟨r6, rfl, hr6⟩, hb6⟩
              have HB6 : Hid (Below V5.heap.size V5 V6) := HJ.out.trans (hb6.mono HJ.out.size)
              obtain ⟨i6, rfl⟩ : ∃ i6 : Nat, r6 = i6 := by
                rcases hr6 with ⟨_, hh⟩ | ⟨i6, _, e, _⟩
                · rw [HY.out.2] at hh
                  cases hh
                · exact ⟨i6, e⟩
              have d6 : decide ((i6 : Int) < 0) = false := decide_eq_false (by omega)
              clear hr6 hb6 C5
              by_cases hj0 : 0 < j
              · obtain ⟨jp, rfl⟩ : ∃ jp, j = jp + 1 := ⟨j - 1, by omega⟩
                have hkp : jp < (Ps.keysS M').length := by omega
                obtain ⟨gz', oz', hez, hgz', hx1⟩ := H6.out.2 jp hkp
                obtain ⟨rfl, rfl⟩ : gz' = gz ∧ oz' = oz := by
                  simp only [Option.some.injEq, Addr.mk.injEq] at hez
                  exact ⟨hez.1.symm, hez.2.1.symm⟩
                rw [← HB6.out.cell (p := ⟨gz', oz' + jp, none⟩) hgz'] at hx1
                obtain ⟨yp, hyp⟩ : ∃ y, (Ps.keysS M')[jp] = y := ⟨_, rfl⟩
                rw [hyp] at hx1
                have hlt : yp < y := by
                  rw [← hyp, ← HY.out.1]
                  exact sorted_at (Ps.sort_lt HP.out.1.nodup) hkl
                have d7 : decide (y ≤ yp) = false := decide_eq_false (by omega)
                have d8 : decide (0 < (jp : Int) + 1) = true := decide_eq_true (by omega)
                have l7 : (jp : Int) < nk := by omega
                have l8 : (0 : Int) ≤ jp := by omega
                clear hez hyp hlt
                go_wp2
                go_roundg (gk - 1)
                case measure => omega
                case rel => exact ⟨jp + 1 + 1, by omega, by go_num, HB6.out⟩
              · obtain rfl : j = 0 := by omega
                go_wp2
                go_roundg (gk - 1)
                case measure => omega
                case rel => exact ⟨1, by omega, by go_num, HB6.out⟩
            · have hdj : decide ((j : Int) < nk) = false := decide_eq_false (by omega)
              have hV : Hid (Below V1.heap.size V1 wr) := H6.out.1.trans (HJ.out.mono H6.out.1.size)
              go_wp2
              go_roundg (g1 - 1)
              case measure => have := HG.out; omega
              case rel => exact ⟨i + 1, by omega, by go_num, fin.out _ hV.out⟩
        · have dr : decide ((0 : Int) ≤ -1) = false := by decide
          go_upto_region 12 with fail
          go_quiet (fail)
          go_wp2_with fail
          refine Calls.mono (Try.pKeys_any B pm M' _ (by exact HP.out.1.below (Tk.below_drewN H5.out.1 _) (Nat.le_refl _)) HP.out.2.2.2) ?_
          rintro e V5 ⟨vk, rfl, hrow, hb5⟩
          obtain ⟨ak, nk, ck, HNK, rfl⟩ := Ps.own_shape' hrow
          have hb5' : Below V1.heap.size V1 V5 := Ps.below_on H5.out.1 hb5
          have c5 := (HP.out.2.1.below hb5' (Nat.le_refl _)).cell
          rw [← HVV.out] at c5
          have H6 : Hid (Below V1.heap.size V1 V5 ∧ Ps.Nums V5 V5.heap.size ak (Ps.keysS M')) := ⟨hb5', Ps.nums_of_own hrow⟩
          have dq : ((nk : Int) != (nv : Int)) = false := by
            have := HNK.out
            have := HNV.out
            simp
            omega
          have hnk8 : nk ≤ 8 := by
            rw [HNK.out]
            exact HP.out.2.2.2
          clear hrow hb5 hb5'
          go_wp2
          go_loopg [90] nk (fun gk s wz => ∃ j : Nat, gk + j = nk ∧ s = .int .i64 j ∧ Hid (Below V5.heap.size V5 wz))
          case atStart => exact ⟨0, by omega, rfl, Below.refl _ _⟩
          case round =>
            obtain ⟨j, hj, rfl, HJ⟩ := hrel
            by_cases hjl : j < nk
            · have hdj : decide ((j : Int) < nk) = true := decide_eq_true (by omega)
              have hkl : j < (Ps.keysS M').length := by rw [Ps.keysS_length, ← HNK.out]; exact hjl
              obtain ⟨gz, oz, rfl, hgz, hx0⟩ := H6.out.2 j hkl
              obtain ⟨y, hy⟩ : ∃ y, (Ps.keysS M')[j] = y := ⟨_, rfl⟩
              rw [hy] at hx0
              have hcz : ∀ o, wr.cell? ⟨gz, o, none⟩ = V5.cell? ⟨gz, o, none⟩ := fun o => HJ.out.cell (p := ⟨gz, o, none⟩) hgz
              rw [← hcz] at hx0
              have hasy : Ps.has M' y = true := by
                rw [← Ps.keysS_mem, ← hy]
                exact List.getElem_mem hkl
              have hjz : Below V1.heap.size V1 wr := H6.out.1.trans (HJ.out.mono H6.out.1.size)
              have C5 : Hid _ := Try.rAt_any B q v M' y wr (HP.out.2.1.below hjz (Nat.le_refl _)) HP.out.2.2.2
              have HY : Hid ((Ps.keysS M')[j] = y ∧ Ps.has M' y = true) := ⟨hy, hasy⟩
              clear hcz hasy hjz hy
              go_wp2_with fail
              refine Calls.mono C5.out ?_
              rintro e V6 ⟨⟨r6, rfl, hr6⟩, hb6⟩
              have HB6 : Hid (Below V5.heap.size V5 V6) := HJ.out.trans (hb6.mono HJ.out.size)
              obtain ⟨i6, rfl⟩ : ∃ i6 : Nat, r6 = i6 := by
                rcases hr6 with ⟨_, hh⟩ | ⟨i6, _, e, _⟩
                · rw [HY.out.2] at hh
                  cases hh
                · exact ⟨i6, e⟩
              have d6 : decide ((i6 : Int) < 0) = false := decide_eq_false (by omega)
              clear hr6 hb6 C5
              by_cases hj0 : 0 < j
              · obtain ⟨jp, rfl⟩ : ∃ jp, j = jp + 1 := ⟨j - 1, by omega⟩
                have hkp : jp < (Ps.keysS M').length := by omega
                obtain ⟨gz', oz', hez, hgz', hx1⟩ := H6.out.2 jp hkp
                obtain ⟨rfl, rfl⟩ : gz' = gz ∧ oz' = oz := by
                  simp only [Option.some.injEq, Addr.mk.injEq] at hez
                  exact ⟨hez.1.symm, hez.2.1.symm⟩
                rw [← HB6.out.cell (p := ⟨gz', oz' + jp, none⟩) hgz'] at hx1
                obtain ⟨yp, hyp⟩ : ∃ y, (Ps.keysS M')[jp] = y := ⟨_, rfl⟩
                rw [hyp] at hx1
                have hlt : yp < y := by
                  rw [← hyp, ← HY.out.1]
                  exact sorted_at (Ps.sort_lt HP.out.1.nodup) hkl
                have d7 : decide (y ≤ yp) = false := decide_eq_false (by omega)
                have d8 : decide (0 < (jp : Int) + 1) = true := decide_eq_true (by omega)
                have l7 : (jp : Int) < nk := by omega
                have l8 : (0 : Int) ≤ jp := by omega
                clear hez hyp hlt
                go_wp2
                go_roundg (gk - 1)
                case measure => omega
                case rel => exact ⟨jp + 1 + 1, by omega, by go_num, HB6.out⟩
              · obtain rfl : j = 0 := by omega
                go_wp2
                go_roundg (gk - 1)
                case measure => omega
                case rel => exact ⟨1, by omega, by go_num, HB6.out⟩
            · have hdj : decide ((j : Int) < nk) = false := decide_eq_false (by omega)
              have hV : Hid (Below V1.heap.size V1 wr) := H6.out.1.trans (HJ.out.mono H6.out.1.size)
              go_wp2
              go_roundg (g1 - 1)
              case measure => have := HG.out; omega
              case rel => exact ⟨i + 1, by omega, by go_num, fin.out _ hV.out⟩
      · have hd : decide ((i : Int) < n) = false := decide_eq_false (by omega)
        go_wp2_with fail
        refine Calls.mono (Try.one_any _) ?_
        rintro e W8 ⟨rfl, hb⟩
        have H8 : Hid (Below B W W8) := HI.out.1.trans (hb.mono (by have := HI.out.1.size; have := HE.out.2.2; omega))
        clear hb
        go_wp2
        go_ret
        exact ⟨rfl, H8.out⟩

end Go.Proofs.Ytdclfmmmlicaaaa.PostSteps
