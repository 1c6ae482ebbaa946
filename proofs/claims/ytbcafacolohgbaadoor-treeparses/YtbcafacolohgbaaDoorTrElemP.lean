/-
  The document's Parse.
-/
import Derived.Test.YtbcafacolohgbaaDoorTrElemX
import Derived.Test.YtbcafacolohgbaaDoorRefReadW
import Derived.Test.YtbcafacolohgbaaDoorAllTrTake
import Derived.Test.YtbcafacolohgbaaDoorNtTake
namespace Go.Proofs
open Go.RowKit
open Go.Proofs.Mk

theorem Dc.step_row {P : Program} {ops : Array Oper} {o : Oper} {a : Act} {w : World} {K : Act → World → Prop} {Q : Exit → Act → World → Prop} {E : Prop} (hg : o.guard = none) (ty : TypeId) (x y : Operand) (hop : o.op = .store ty x y) (g : Nat) (cells : Array Value) (hx : a.eval x = .pointer (some ⟨g, 0, none⟩)) (hy : a.eval y = .agg cells)
    (t : TypeId) (old : Array Value) (hgb : w.heap[g]? = some (.cells old t (0, 0))) (hi : (P.info? ty).map (·.size) = some cells.size) (hold : old.size = cells.size) (h1 : cells.all (·.oneCell') = true) (hK : K (a.put o.dst undef) (w.setRow g cells)) :
    if Region.wanted o (yielded ops a.tmps) = true then Oper.wp P o a w K Q else E := by
  rw [if_pos (by simp [Region.wanted, hg])]
  exact wp_store_row ty x y hop g cells hx hy t old hgb hi hold h1 hK

/-- What the document's Parse comes to. -/
def Dc.PEnd (s : ByteArray) (e : Ending) (w' : World) : Prop := match El.parseL s with
  | (none, k, er) => e = .returned (.agg #[.string ⟨#[]⟩, .slice none 0 0, .slice none 0 0, .string ⟨#[]⟩, .int .i64 er, .int .i64 k])
  | (some E, _, _) => ∃ va vk d, e = .returned (.agg #[.string E.name, va, vk, .string E.text, .int .i64 0, .int .i64 0]) ∧ El.Lies w' (· < w'.heap.size) d va vk E

set_option maxRecDepth 20000 in
set_option maxHeartbeats 2000000 in
theorem Tryd.refLong_any (s : ByteArray) (w : World) : Calls Tryd.prog 33 #[.string s] w fun e w' => e = .returned (.int .i64 (if 20000 < s.size then 2 else 0)) ∧ w' = w := by
  by_cases h : 20000 < s.size
  · have hd : decide ((20000 : Int) < s.size) = true := decide_eq_true (by omega)
    rw [if_pos h]
    go_enter Tryd.func33, Tryd.ntmps33
    go_wp2
    go_ret
    exact ⟨rfl, rfl⟩
  · have hd : decide ((20000 : Int) < s.size) = false := decide_eq_false (by omega)
    rw [if_neg h]
    go_enter Tryd.func33, Tryd.ntmps33
    go_wp2
    go_ret
    exact ⟨rfl, rfl⟩

theorem Dc.marks_of {w : World} {B : Nat} {a : Option Addr} {c : Nat} {qs : List (MarkV × Value)} (h : RMarksOwn w B (.slice a qs.length c) qs) : Dc.Marks w B w.heap.size a (qs.map (·.1)) := fun j hj => by
  have hj' : j < qs.length := by simpa using hj
  rcases h.row.2 with ⟨_, h0⟩ | ⟨g, cap, cur, hv, hb, hg, _⟩
  · omega
  · obtain ⟨rfl, _, _⟩ := Value.slice.inj hv
    have hc : ∀ i u, i < 5 → (Mk.cellsOf qs[j])[i]? = some u → w.cell? ⟨g, j * 5 + i, none⟩ = some u := fun i u hi hu => Tr.own_at h.row (by rw [Tr.markCells_get qs j hj' i hi]; exact hu)
    have he : (qs.map (·.1))[j] = qs[j].1 := by simp
    rw [he]
    refine ⟨g, qs[j].2, rfl, (Array.getElem?_eq_some_iff.1 hg).1, hc 0 _ (by omega) rfl, hc 1 _ (by omega) rfl, hc 2 _ (by omega) rfl, hc 3 _ (by omega) rfl, hc 4 _ (by omega) rfl, ?_⟩
    have ha := h.attrs _ (List.getElem_mem hj')
    exact Tr.attrs_of ha fun k hk => Tr.row_lt ha hk
theorem Dc.read_short {s : ByteArray} {ms : List MarkV} (hs : s.size ≤ 20000) (h : Mk.readL s.data.toList 0 = .ok ms) : ms.length ≤ 2 * 20000 := by
  have key : ∀ {l : List UInt8} {k : Nat} {ms : List MarkV}, Mk.Reads l k ms → ms.length ≤ 2 * l.length := by
    intro l k ms h
    induction h with
    | nil k => simp
    | @next l k m ms r hl hn _ ih =>
      have hp := Mk.nextL_pos hl hn
      have h2 : ms.length ≤ 2 := by
        clear ih hp
        unfold Mk.nextL at hn
        split at hn
        · split at hn
          · cases hn
          split at hn
          · cases hn
          · cases hn; simp
        split at hn
        · split at hn
          · cases hn
          split at hn
          · cases hn
          split at hn
          · cases hn
          split at hn
          · cases hn; simp
          split at hn
          · cases hn; simp
          · cases hn
        · split at hn
          · cases hn
          · cases hn; simp
      rw [List.length_append]
      rw [List.length_drop] at ih
      have : 0 < l.length := List.length_pos_iff.2 hl
      omega
  have := key (Mk.Reads.of_readL h)
  rw [Mk.size_list] at this
  omega

set_option maxRecDepth 20000 in
set_option maxHeartbeats 16000000 in
theorem Tryd.rparse_any (s : ByteArray) (w : World) (hs : s.size ≤ 140737488355328) :
    Calls Tryd.prog 15 #[.string s] w fun e w' => Below w.heap.size w w' ∧ Dc.PEnd s e w' := by
  obtain ⟨w1, hw1⟩ : ∃ x, w.alloc (.cells #[.string ⟨#[]⟩, .slice none 0 0, .slice none 0 0, .string ⟨#[]⟩, .int .i64 0, .int .i64 0] 46) = x := ⟨_, rfl⟩
  have A1 : Below w.heap.size w w1 := by rw [← hw1]; exact (Below.refl _ w).alloc (Nat.le_refl _) _
  have NR : w1.heap[w.heap.size]? = some (.cells #[.string ⟨#[]⟩, .slice none 0 0, .slice none 0 0, .string ⟨#[]⟩, .int .i64 0, .int .i64 0] 46 (0, 0)) := by rw [← hw1]; exact heap_alloc_new w _
  have HW1 : Hid _ := hw1
  have HB : Hid (Below w.heap.size w w1) := A1
  have hu := Tryd.underlying46
  have hug := Tryd.underlying88
  have HLG : Hid _ := Tryd.refLong_any s w1
  clear hw1 A1
  by_cases hl : 20000 < s.size
  · have HE : Hid (El.parseL s = (none, 0, 2)) := by show _ = _; unfold El.parseL; rw [if_pos hl]
    rw [if_pos hl] at HLG
    clear hl
    go_enter Tryd.func15, Tryd.ntmps15
    go_upto_region 1 with fail
    rw [HW1.out]
    go_wp2_with fail
    refine Calls.mono HLG.out ?_
    rintro e W2 ⟨rfl, hW2⟩
    subst hW2
    go_wp2_with (refine wpList_store_row rfl 46 _ _ rfl w.heap.size #[.string ⟨#[]⟩, .slice none 0 0, .slice none 0 0, .string ⟨#[]⟩, .int .i64 2, .int .i64 0] rfl rfl 46 _ NR (by kernel_rfl) rfl (by kernel_rfl) ?_)
    refine bodyPost_ret (v := .agg #[.string ⟨#[]⟩, .slice none 0 0, .slice none 0 0, .string ⟨#[]⟩, .int .i64 2, .int .i64 0]) (results_cell_row Tryd.results15 _ _ w.heap.size 46 #[.string ⟨#[]⟩, .slice none 0 0, .slice none 0 0, .string ⟨#[]⟩, .int .i64 2, .int .i64 0] (0, 0) _ rfl (setRow_heap _ _ _ _ _ _ NR) hu rfl (by kernel_rfl)) rfl ⟨Mk.below_setRow HB.out (Nat.le_refl _) _, ?_⟩
    unfold Dc.PEnd
    rw [HE.out]
    all_goals rfl
  · rw [if_neg hl] at HLG
    have HRD := Tryd.refread_any s w1 (by omega)
    have HNL : Hid (¬ 20000 < s.size) := hl
    have HRS : Hid (∀ ms, Mk.readL s.data.toList 0 = .ok ms → ms.length ≤ 40000) := fun ms h => Dc.read_short (by omega) h
    unfold Mk.RefReadEnd at HRD
    obtain ⟨rd, hrd⟩ : ∃ x, Mk.readL s.data.toList 0 = x := ⟨_, rfl⟩
    rw [hrd] at HRD
    have HRR : Hid (Mk.readL s.data.toList 0 = rd) := hrd
    have hs2 : s.size ≤ 20000 := by omega
    clear hrd hl hs
    go_enter Tryd.func15, Tryd.ntmps15
    go_upto_region 1 with fail
    rw [HW1.out]
    go_wp2_with fail
    refine Calls.mono HLG.out ?_
    rintro e W2 ⟨rfl, hW2⟩
    subst hW2
    clear HLG HW1
    cases rd with
    | error k =>
      simp only at HRD
      have HR : Hid _ := HRD
      have HE : Hid (El.parseL s = (none, k, 4)) := Tr.parse_bad HNL.out HRR.out
      clear HRD
      go_wp2_with fail
      refine Calls.mono HR.out ?_
      rintro e W3 ⟨b3, rfl⟩
      obtain ⟨W4, hW4⟩ : ∃ z, W3.alloc (.cells #[.slice none 0 0, .int .i64 k] 83) = z := ⟨_, rfl⟩
      have A4 : Below W2.heap.size W2 W4 := by rw [← hW4]; exact b3.alloc b3.size _
      have hm4 : W4.heap[W3.heap.size]? = some (.cells #[.slice none 0 0, .int .i64 k] 83 (0, 0)) := by rw [← hW4]; exact heap_alloc_new W3 _
      have x1 : W4.cell? ⟨W3.heap.size, 1, none⟩ = some (.int .i64 k) := by simp [World.cell?, hm4]
      have NR4 := (A4.block _ (Array.getElem?_eq_some_iff.1 NR).1).trans NR
      have HB4 : Hid (Below w.heap.size w W4) := HB.out.trans (A4.mono HB.out.size)
      have HW4 : Hid _ := hW4
      have hk0 : decide ((0 : Int) ≤ k) = true := decide_eq_true (by omega)
      clear hW4 A4 hm4 b3 HR
      go_upto_region 4 with fail
      rw [HW4.out]
      go_wp2_with (refine wpList_store_row rfl 46 _ _ rfl w.heap.size #[.string ⟨#[]⟩, .slice none 0 0, .slice none 0 0, .string ⟨#[]⟩, .int .i64 4, .int .i64 k] rfl rfl 46 _ NR4 (by kernel_rfl) rfl (by kernel_rfl) ?_)
      refine bodyPost_ret (v := .agg #[.string ⟨#[]⟩, .slice none 0 0, .slice none 0 0, .string ⟨#[]⟩, .int .i64 4, .int .i64 k]) (results_cell_row Tryd.results15 _ _ w.heap.size 46 #[.string ⟨#[]⟩, .slice none 0 0, .slice none 0 0, .string ⟨#[]⟩, .int .i64 4, .int .i64 k] (0, 0) _ rfl (setRow_heap _ _ _ _ _ _ NR4) hu rfl (by kernel_rfl)) rfl ⟨Mk.below_setRow HB4.out (Nat.le_refl _) _, ?_⟩
      unfold Dc.PEnd
      rw [HE.out]
      all_goals rfl
    | ok ms =>
      simp only at HRD
      have HR : Hid _ := HRD
      clear HRD
      go_wp2_with fail
      refine Calls.mono HR.out ?_
      rintro e W3 ⟨b3, v, qs, rfl, hqs, hown⟩
      obtain ⟨a, c, rfl⟩ := Mk.own_shape hown.row
      obtain ⟨nq, hnq⟩ : ∃ z, qs.length = z := ⟨_, rfl⟩
      have hlen : ms.length = nq := by rw [← hqs, List.length_map]; exact hnq
      have hmk := Dc.marks_of hown
      rw [hqs] at hmk
      rw [hnq]
      obtain ⟨W4, hW4⟩ : ∃ z, W3.alloc (.cells #[.slice a nq c, .int .i64 (-1)] 83) = z := ⟨_, rfl⟩
      have A34 : Below W3.heap.size W3 W4 := by rw [← hW4]; exact (Below.refl _ W3).alloc (Nat.le_refl _) _
      have A4 : Below W2.heap.size W2 W4 := b3.trans (A34.mono b3.size)
      have hm4 : W4.heap[W3.heap.size]? = some (.cells #[.slice a nq c, .int .i64 (-1)] 83 (0, 0)) := by rw [← hW4]; exact heap_alloc_new W3 _
      have HCF : Hid (∀ W, Below W4.heap.size W4 W → W.cell? ⟨W3.heap.size, 0, none⟩ = some (.slice a nq c) ∧ W.cell? ⟨W3.heap.size, 1, none⟩ = some (.int .i64 (-1)) ∧ W.heap[w.heap.size]? = some (.cells #[.string ⟨#[]⟩, .slice none 0 0, .slice none 0 0, .string ⟨#[]⟩, .int .i64 0, .int .i64 0] 46 (0, 0)) ∧ Below w.heap.size w W) := fun W hb => by
        have e := (hb.block _ (Array.getElem?_eq_some_iff.1 hm4).1).trans hm4
        refine ⟨by simp [World.cell?, e], by simp [World.cell?, e], ?_, (HB.out.trans (A4.mono HB.out.size)).trans (hb.mono (Nat.le_trans HB.out.size A4.size))⟩
        have h1 := (Array.getElem?_eq_some_iff.1 NR).1
        rw [hb.block _ (Nat.lt_of_lt_of_le h1 A4.size), A4.block _ h1]
        exact NR
      have HMK : Hid (Dc.Marks W4 W2.heap.size W4.heap.size a ms ∧ ms.length = nq ∧ nq ≤ 40000) := ⟨fun j hj => by
        obtain ⟨g, u, ha, hg, k0, k1, k2, k3, k4, hA⟩ := hmk.below A34 j hj
        exact ⟨g, u, ha, Nat.lt_of_lt_of_le hg A34.size, k0, k1, k2, k3, k4, hA.keep (fun _ _ => rfl) fun k hk => ⟨hk.1, Nat.lt_of_lt_of_le hk.2 A34.size⟩⟩, hlen, by rw [← hlen]; exact HRS.out ms HRR.out⟩
      have HSZ : Hid (w.heap.size < W2.heap.size ∧ W2.heap.size ≤ W3.heap.size ∧ W3.heap.size < W4.heap.size ∧ ∀ g, a = some ⟨g, 0, none⟩ → 0 < nq → W2.heap.size ≤ g) := by
        refine ⟨(Array.getElem?_eq_some_iff.1 NR).1, b3.size, (Array.getElem?_eq_some_iff.1 hm4).1, fun g hga hn0 => ?_⟩
        rcases hown.row.2 with ⟨_, h0⟩ | ⟨g', cap', cur, hv, hbg, _⟩
        · omega
        · obtain ⟨rfl, _, _⟩ := Value.slice.inj hv
          simp only [Option.some.injEq, Addr.mk.injEq, and_true] at hga
          omega
      have HW4 : Hid _ := hW4
      clear hW4 A4 A34 hm4 b3 HR hown hqs hnq hmk HB NR
      obtain ⟨x0, x1, NR, hbb⟩ := HCF.out W4 (Below.refl _ _)
      have HB : Hid _ := hbb
      clear hbb
      cases ms with
      | nil =>
        obtain rfl : nq = 0 := by rw [← hlen]; rfl
        have HE : Hid (El.parseL s = (none, s.size, 4)) := Dc.parse_none HNL.out HRR.out
        clear hlen
        go_upto_region 4 with fail
        rw [HW4.out]
        go_wp2_with (refine wpList_store_row rfl 46 _ _ rfl w.heap.size #[.string ⟨#[]⟩, .slice none 0 0, .slice none 0 0, .string ⟨#[]⟩, .int .i64 4, .int .i64 s.size] rfl rfl 46 _ NR (by kernel_rfl) rfl (by kernel_rfl) ?_)
        refine bodyPost_ret (v := .agg #[.string ⟨#[]⟩, .slice none 0 0, .slice none 0 0, .string ⟨#[]⟩, .int .i64 4, .int .i64 s.size]) (results_cell_row Tryd.results15 _ _ w.heap.size 46 #[.string ⟨#[]⟩, .slice none 0 0, .slice none 0 0, .string ⟨#[]⟩, .int .i64 4, .int .i64 s.size] (0, 0) _ rfl (setRow_heap _ _ _ _ _ _ NR) hu rfl (by kernel_rfl)) rfl ⟨Mk.below_setRow HB.out (Nat.le_refl _) _, ?_⟩
        unfold Dc.PEnd
        rw [HE.out]
        all_goals rfl
      | cons m r =>
        have hpos : 0 < nq := by rw [← hlen]; simp
        have hz : ((nq : Int) == 0) = false := by simp; omega
        have hnq4 : nq ≤ 40000 := HMK.out.2.2
        obtain ⟨g, u, rfl, hg, k0, k1, -⟩ := HMK.out.1 0 (by simp)
        simp only [List.getElem_cons_zero, Nat.zero_mul, Nat.zero_add] at k0 k1
        obtain ⟨kd, hkd⟩ : ∃ z, m.kind = z := ⟨_, rfl⟩
        rw [hkd] at k0
        clear hlen k1
        by_cases hk1 : kd = 1
        · have e1 : ((kd : Int) != 1) = false := by simp [hk1]
          have hcall := Dc.elemC (m :: r).length W2.heap.size W4.heap.size (m :: r) (some ⟨g, 0, none⟩) c 0 1 W4 HMK.out.1 (Nat.le_refl _) (by have := HMK.out.2; omega) (by simp) (by omega) (by omega)
          rw [HMK.out.2.1] at hcall
          have hR : Dc.elemR (m :: r) 0 1 = Dc.loop (m :: r) 1 (Ps.leaf m) [] 1 := by rw [Dc.elemR_eq (by simp), if_neg (by omega)]; rfl
          have HPL := Dc.parse_loop HNL.out HRR.out (hkd.trans hk1)
          rw [← hR] at HPL
          obtain ⟨G, hG⟩ : ∃ G, Dc.elemR (m :: r) 0 1 = G := ⟨_, rfl⟩
          have HGG : Hid (Dc.elemR (m :: r) 0 1 = G) := hG
          rw [hG] at hcall HPL
          have HCALL : Hid _ := hcall
          clear hcall hR hG hkd hk1
          cases G with
          | err er ej =>
            have hej : ej ≤ nq := by have := (Dc.elemR_err (ms := m :: r) (by simp) HGG.out).2; rw [HMK.out.2.1] at this; exact this
            have her : ((er : Int) == 0) = false := by
              rcases (Dc.elemR_err (ms := m :: r) (by simp) HGG.out).1 with h | h <;> simp [h]
            simp only at HPL
            have HP : Hid _ := HPL
            clear HPL
            go_upto_region 4 with fail
            rw [HW4.out]
            go_wp2_with fail
            refine Calls.mono HCALL.out ?_
            rintro e W5 ⟨b5, rfl⟩
            obtain ⟨W6, hW6⟩ : ∃ z, W5.alloc (.cells #[.string ⟨#[]⟩, .slice none 0 0, .slice none 0 0, .string ⟨#[]⟩, .int .i64 0, .int .i64 er, .int .i64 ej] 88) = z := ⟨_, rfl⟩
            have A6 : Below W4.heap.size W4 W6 := by rw [← hW6]; exact b5.alloc b5.size _
            have hm6 : W6.heap[W5.heap.size]? = some (.cells #[.string ⟨#[]⟩, .slice none 0 0, .slice none 0 0, .string ⟨#[]⟩, .int .i64 0, .int .i64 er, .int .i64 ej] 88 (0, 0)) := by rw [← hW6]; exact heap_alloc_new W5 _
            clear x0 x1 NR HB k0
            obtain ⟨x0, x1, NR, hbb⟩ := HCF.out W6 A6
            have HB : Hid _ := hbb
            have y5 : W6.cell? ⟨W5.heap.size, 5, none⟩ = some (.int .i64 er) := by simp [World.cell?, hm6]
            have y6 : W6.cell? ⟨W5.heap.size, 6, none⟩ = some (.int .i64 ej) := by simp [World.cell?, hm6]
            have HW6 : Hid _ := hW6
            have HA6 : Hid (Below W4.heap.size W4 W6) := A6
            have H45 : Hid (W4.heap.size ≤ W5.heap.size) := b5.size
            clear hbb hW6 A6 hm6 b5 HCALL
            by_cases hjn : ej < nq
            · have hj1 : decide ((nq : Int) ≤ ej) = false := decide_eq_false (by omega)
              have hjl : ej < (m :: r).length := by rw [HMK.out.2.1]; exact hjn
              obtain ⟨g', u', hga, hg', k0, k1, -⟩ := HMK.out.1 ej hjl
              simp only [Option.some.injEq, Addr.mk.injEq, and_true] at hga
              subst hga
              obtain ⟨at_, hat⟩ : ∃ z, ((m :: r)[ej]).at_ = z := ⟨_, rfl⟩
              rw [hat] at k1
              have HE : Hid (El.parseL s = (none, at_, er)) := by
                have := HP.out.1 hjl
                rw [hat] at this
                exact this
              have z1 : W6.cell? ⟨g, ej * 5 + 1, none⟩ = some (.int .i64 at_) := by rw [HA6.out.cell (p := ⟨g, ej * 5 + 1, none⟩) hg']; exact k1
              have i1 : (ej : Int) < nq := by omega
              have i0 : (0 : Int) ≤ ej := by omega
              have HNE : Hid (W5.heap.size ≠ w.heap.size ∧ W3.heap.size ≠ w.heap.size ∧ g ≠ w.heap.size) := by
                have h1 := HSZ.out
                have h2 := h1.2.2.2 g rfl hpos
                have h3 := H45.out
                exact ⟨by omega, by omega, by omega⟩
              have HSS : Hid (∀ W, Below W6.heap.size W6 W → W.cell? ⟨W5.heap.size, 5, none⟩ = some (.int .i64 er) ∧ W.cell? ⟨W5.heap.size, 6, none⟩ = some (.int .i64 ej) ∧ W.cell? ⟨W3.heap.size, 0, none⟩ = some (.slice (some ⟨g, 0, none⟩) nq c) ∧ W.cell? ⟨g, ej * 5 + 1, none⟩ = some (.int .i64 at_)) := fun W hb => by
                have h1 := World.block_lt_of_cell? _ _ y5
                have h2 := World.block_lt_of_cell? _ _ x0
                have h3 := World.block_lt_of_cell? _ _ z1
                exact ⟨by rw [hb.cell (p := ⟨W5.heap.size, 5, none⟩) h1]; exact y5, by rw [hb.cell (p := ⟨W5.heap.size, 6, none⟩) h1]; exact y6, by rw [hb.cell (p := ⟨W3.heap.size, 0, none⟩) h2]; exact x0, by rw [hb.cell (p := ⟨g, ej * 5 + 1, none⟩) h3]; exact z1⟩
              have B17 : Hid (Below W6.heap.size W6 W6) := Below.refl _ _
              have HSR : Hid ((W6.drew.setRow w.heap.size #[.string ⟨#[]⟩, .slice none 0 0, .slice none 0 0, .string ⟨#[]⟩, .int .i64 er, .int .i64 at_]).cell? ⟨W5.heap.size, 5, none⟩ = some (.int .i64 er) ∧ (W6.drew.setRow w.heap.size #[.string ⟨#[]⟩, .slice none 0 0, .slice none 0 0, .string ⟨#[]⟩, .int .i64 er, .int .i64 at_]).cell? ⟨W5.heap.size, 6, none⟩ = some (.int .i64 ej) ∧ (W6.drew.setRow w.heap.size #[.string ⟨#[]⟩, .slice none 0 0, .slice none 0 0, .string ⟨#[]⟩, .int .i64 er, .int .i64 at_]).cell? ⟨W3.heap.size, 0, none⟩ = some (.slice (some ⟨g, 0, none⟩) nq c) ∧ (W6.drew.setRow w.heap.size #[.string ⟨#[]⟩, .slice none 0 0, .slice none 0 0, .string ⟨#[]⟩, .int .i64 er, .int .i64 at_]).cell? ⟨g, ej * 5 + 1, none⟩ = some (.int .i64 at_)) := by
                have oth : ∀ k o v, W6.cell? ⟨k, o, none⟩ = some v → k ≠ w.heap.size → (W6.drew.setRow w.heap.size #[.string ⟨#[]⟩, .slice none 0 0, .slice none 0 0, .string ⟨#[]⟩, .int .i64 er, .int .i64 at_]).cell? ⟨k, o, none⟩ = some v := fun k o v hv hk => by
                  exact (World.cell?_of_block (w := W6) (a := ⟨k, o, none⟩) (setRow_other W6.drew _ _ _ hk)).trans hv
                exact ⟨oth _ _ _ y5 HNE.out.1, oth _ _ _ y6 HNE.out.1, oth _ _ _ x0 HNE.out.2.1, oth _ _ _ z1 HNE.out.2.2⟩
              clear k0 k1 hat hg'
              go_upto_region 11 with fail
              rw [HW6.out]
              go_upto_region 17 with fail
              refine wp_region_held_drew (S := fun W => W.cell? ⟨W5.heap.size, 5, none⟩ = some (.int .i64 er) ∧ W.cell? ⟨W5.heap.size, 6, none⟩ = some (.int .i64 ej) ∧ W.cell? ⟨W3.heap.size, 0, none⟩ = some (.slice (some ⟨g, 0, none⟩) nq c) ∧ W.cell? ⟨g, ej * 5 + 1, none⟩ = some (.int .i64 at_)) (by kernel_rfl) ?_ (fun hHeld => ?_)
              · exact HSS.out _ B17.out.drew
              refine Nt.takeS (v := ?va0) 0 65 rfl rfl (by kernel_rfl) (by kernel_rfl) (by kernel_rfl) (fun _ _ _ h => h) (Or.inl ⟨by rfl, ?ya0⟩) hHeld ?ra0
              case ya0 => (intro w hSw; (try dsimp only at hSw); go_simp; all_goals (with_reducible rfl))
              simp only [List.set_cons_succ, List.set_cons_zero]
              refine Nt.takeS (v := ?va1) 1 66 rfl rfl (by kernel_rfl) (by kernel_rfl) (by kernel_rfl) (fun _ _ _ h => h) (Or.inl ⟨by rfl, ?ya1⟩) hHeld ?ra1
              case ya1 => (intro w hSw; (try dsimp only at hSw); go_simp; all_goals (with_reducible rfl))
              simp only [List.set_cons_succ, List.set_cons_zero]
              refine Nt.takeS (v := ?va2) 2 67 rfl rfl (by kernel_rfl) (by kernel_rfl) (by kernel_rfl) (fun _ _ _ h => h) (Or.inl ⟨by rfl, ?ya2⟩) hHeld ?ra2
              case ya2 => (intro w hSw; (try dsimp only at hSw); go_simp; all_goals (with_reducible rfl))
              simp only [List.set_cons_succ, List.set_cons_zero]
              refine Nt.takeS (v := ?va3) 3 68 rfl rfl (by kernel_rfl) (by kernel_rfl) (by kernel_rfl) (fun _ _ _ h => h) (Or.inl ⟨by rfl, ?ya3⟩) hHeld ?ra3
              case ya3 => (intro w hSw; (try dsimp only at hSw); go_simp; all_goals (with_reducible rfl))
              simp only [List.set_cons_succ, List.set_cons_zero]
              refine Nt.takeS (v := ?va4) 4 69 rfl rfl (by kernel_rfl) (by kernel_rfl) (by kernel_rfl) (fun _ _ _ h => h) (Or.inl ⟨by rfl, ?ya4⟩) hHeld ?ra4
              case ya4 => (intro w hSw; (try dsimp only at hSw); go_simp; all_goals (with_reducible rfl))
              simp only [List.set_cons_succ, List.set_cons_zero]
              refine Nt.takeS (v := ?va5) 5 70 rfl rfl (by kernel_rfl) (by kernel_rfl) (by kernel_rfl) (fun _ _ _ h => h) (Or.inl ⟨by rfl, ?ya5⟩) hHeld ?ra5
              case ya5 => (intro w hSw; (try dsimp only at hSw); go_simp; all_goals (with_reducible rfl))
              simp only [List.set_cons_succ, List.set_cons_zero]
              refine Nt.takeS (v := ?va6) 6 71 rfl rfl (by kernel_rfl) (by kernel_rfl) (by kernel_rfl) (fun _ _ _ h => h) (Or.inl ⟨by rfl, ?ya6⟩) hHeld ?ra6
              case ya6 => (intro w hSw; (try dsimp only at hSw); go_simp; all_goals (with_reducible rfl))
              simp only [List.set_cons_succ, List.set_cons_zero]
              refine Nt.takeS (v := ?va7) 7 72 rfl rfl (by kernel_rfl) (by kernel_rfl) (by kernel_rfl) (fun _ _ _ h => h) (Or.inl ⟨by rfl, ?ya7⟩) hHeld ?ra7
              case ya7 => (intro w hSw; (try dsimp only at hSw); go_simp; all_goals (with_reducible rfl))
              simp only [List.set_cons_succ, List.set_cons_zero]
              refine Nt.takeS (v := ?va8) 8 73 rfl rfl (by kernel_rfl) (by kernel_rfl) (by kernel_rfl) (fun _ _ _ h => h) (Or.inl ⟨by rfl, ?ya8⟩) hHeld ?ra8
              case ya8 => (intro w hSw; (try dsimp only at hSw); go_simp; all_goals (with_reducible rfl))
              simp only [List.set_cons_succ, List.set_cons_zero]
              refine Nt.takeS (v := ?va9) 9 74 rfl rfl (by kernel_rfl) (by kernel_rfl) (by kernel_rfl) (fun _ _ _ h => h) (Or.inl ⟨by rfl, ?ya9⟩) hHeld ?ra9
              case ya9 => (intro w hSw; (try dsimp only at hSw); go_simp; all_goals (with_reducible rfl))
              simp only [List.set_cons_succ, List.set_cons_zero]
              refine wpAnyH_ready (rs := [10]) (by kernel_rfl) (by simp) ?_
              refine AllReadyH.cons rfl (fun K hK => ?_) AllReadyH.nil
              refine Dc.step_row rfl 46 _ _ rfl w.heap.size #[.string ⟨#[]⟩, .slice none 0 0, .slice none 0 0, .string ⟨#[]⟩, .int .i64 er, .int .i64 at_] rfl rfl 46 _ NR (by kernel_rfl) rfl (by kernel_rfl) ?_
              refine hK.out _ _ ?_ (fun hHeld10 => ?_)
              · exact HSR.out
              clear hK K
              first | refine Nt.normS 0 rfl ?_ | skip
              first | (simp only [List.set_cons_zero]) | skip
              refine wpAnyH_done (by kernel_rfl) ?_ _
              go_wp2_with fail
              have NRD : W6.drew.heap[w.heap.size]? = _ := NR
              refine bodyPost_ret (v := .agg #[.string ⟨#[]⟩, .slice none 0 0, .slice none 0 0, .string ⟨#[]⟩, .int .i64 er, .int .i64 at_]) (results_cell_row Tryd.results15 _ _ w.heap.size 46 #[.string ⟨#[]⟩, .slice none 0 0, .slice none 0 0, .string ⟨#[]⟩, .int .i64 er, .int .i64 at_] (0, 0) _ rfl (setRow_heap _ _ _ _ _ _ NRD) hu rfl (by kernel_rfl)) rfl ⟨Mk.below_setRow HB.out.drew (Nat.le_refl _) _, ?_⟩
              unfold Dc.PEnd
              rw [HE.out]
              all_goals rfl
            · have hj1 : decide ((nq : Int) ≤ ej) = true := decide_eq_true (by omega)
              have HE : Hid (El.parseL s = (none, s.size, er)) := by
                exact HP.out.2 (by rw [HMK.out.2.1]; exact hjn)
              go_upto_region 11 with fail
              rw [HW6.out]
              go_wp2_with (refine wpList_store_row rfl 46 _ _ rfl w.heap.size #[.string ⟨#[]⟩, .slice none 0 0, .slice none 0 0, .string ⟨#[]⟩, .int .i64 er, .int .i64 s.size] rfl rfl 46 _ NR (by kernel_rfl) rfl (by kernel_rfl) ?_)
              refine bodyPost_ret (v := .agg #[.string ⟨#[]⟩, .slice none 0 0, .slice none 0 0, .string ⟨#[]⟩, .int .i64 er, .int .i64 s.size]) (results_cell_row Tryd.results15 _ _ w.heap.size 46 #[.string ⟨#[]⟩, .slice none 0 0, .slice none 0 0, .string ⟨#[]⟩, .int .i64 er, .int .i64 s.size] (0, 0) _ rfl (setRow_heap _ _ _ _ _ _ NR) hu rfl (by kernel_rfl)) rfl ⟨Mk.below_setRow HB.out (Nat.le_refl _) _, ?_⟩
              unfold Dc.PEnd
              rw [HE.out]
              all_goals rfl
          | ok E n2 =>
            have hn2 := Dc.elemR_next (ms := m :: r) (by simp) HGG.out
            rw [HMK.out.2.1] at hn2
            have hn2b := hn2.2
            obtain ⟨en, hen⟩ : ∃ z, E.name = z := ⟨_, rfl⟩
            obtain ⟨et, het⟩ : ∃ z, E.text = z := ⟨_, rfl⟩
            obtain ⟨el, hel⟩ : ∃ z, E.attrs.length = z := ⟨_, rfl⟩
            obtain ⟨fl, hfl⟩ : ∃ z, E.kids.length = z := ⟨_, rfl⟩
            have HEE : Hid (E.name = en ∧ E.text = et ∧ E.attrs.length = el ∧ E.kids.length = fl) := ⟨hen, het, hel, hfl⟩
            simp only at HPL
            have HP : Hid _ := HPL
            clear HPL hen het hel hfl hn2
            go_upto_region 4 with fail
            rw [HW4.out]
            go_wp2_with fail
            refine Calls.mono HCALL.out ?_
            rintro e W5 ⟨b5, ea, ec, fa, fc, dd, rfl, hl5⟩
            rw [HEE.out.2.2.1, HEE.out.2.2.2] at hl5
            rw [HEE.out.1, HEE.out.2.1, HEE.out.2.2.1, HEE.out.2.2.2]
            obtain ⟨W6, hW6⟩ : ∃ z, W5.alloc (.cells #[.string en, .slice ea el ec, .slice fa fl fc, .string et, .int .i64 n2, .int .i64 0, .int .i64 0] 88) = z := ⟨_, rfl⟩
            have A56 : Below W5.heap.size W5 W6 := by rw [← hW6]; exact (Below.refl _ W5).alloc (Nat.le_refl _) _
            have A6 : Below W4.heap.size W4 W6 := b5.trans (A56.mono b5.size)
            have hm6 : W6.heap[W5.heap.size]? = some (.cells #[.string en, .slice ea el ec, .slice fa fl fc, .string et, .int .i64 n2, .int .i64 0, .int .i64 0] 88 (0, 0)) := by rw [← hW6]; exact heap_alloc_new W5 _
            clear x0 x1 NR HB k0
            obtain ⟨x0, x1, NR, hbb⟩ := HCF.out W6 A6
            have HB : Hid _ := hbb
            obtain ⟨y0, y1, y2, y3, y4, y5⟩ : W6.cell? ⟨W5.heap.size, 0, none⟩ = some (.string en) ∧ W6.cell? ⟨W5.heap.size, 1, none⟩ = some (.slice ea el ec) ∧ W6.cell? ⟨W5.heap.size, 2, none⟩ = some (.slice fa fl fc) ∧ W6.cell? ⟨W5.heap.size, 3, none⟩ = some (.string et) ∧ W6.cell? ⟨W5.heap.size, 4, none⟩ = some (.int .i64 n2) ∧ W6.cell? ⟨W5.heap.size, 5, none⟩ = some (.int .i64 0) := by simp [World.cell?, hm6]
            have HW6 : Hid _ := hW6
            have HA6 : Hid (Below W4.heap.size W4 W6) := A6
            have H45 : Hid (W4.heap.size ≤ W5.heap.size) := b5.size
            have HL6 : Hid (∃ dd, El.Lies W6 (fun k => ((W2.heap.size ≤ k ∧ k < W4.heap.size) ∨ W4.heap.size ≤ k) ∧ k < W5.heap.size) dd (.slice ea el ec) (.slice fa fl fc) E) := ⟨dd, hl5.keep (fun k hk => A56.block k hk.2) fun k hk => hk⟩
            clear hbb hW6 A6 A56 b5 HCALL hl5
            by_cases hjn : n2 < nq
            · have hj0 : decide ((n2 : Int) < nq) = true := decide_eq_true (by omega)
              have hj1 : decide ((nq : Int) ≤ n2) = false := decide_eq_false (by omega)
              obtain ⟨W7, hW7⟩ : ∃ z, W6.setRow W5.heap.size #[.string ⟨#[]⟩, .slice none 0 0, .slice none 0 0, .string ⟨#[]⟩, .int .i64 0, .int .i64 4, .int .i64 n2] = z := ⟨_, rfl⟩
              have hm7 : W7.heap[W5.heap.size]? = some (.cells #[.string ⟨#[]⟩, .slice none 0 0, .slice none 0 0, .string ⟨#[]⟩, .int .i64 0, .int .i64 4, .int .i64 n2] 88 (0, 0)) := by rw [← hW7]; exact setRow_heap _ _ _ _ _ _ hm6
              have A7 : Below W4.heap.size W4 W7 := by rw [← hW7]; exact Mk.below_setRow HA6.out H45.out _
              have HW7 : Hid _ := hW7
              have HA7 : Hid (Below W4.heap.size W4 W7) := A7
              clear x0 x1 NR HB
              have XQ := HCF.out W6 HA6.out
              obtain ⟨x0, x1, NR, hbb⟩ := HCF.out W7 A7
              have HB : Hid _ := hbb
              have w0c : W6.cell? ⟨W3.heap.size, 0, none⟩ = some (.slice (some ⟨g, 0, none⟩) nq c) := XQ.1
              have y5' : W7.cell? ⟨W5.heap.size, 5, none⟩ = some (.int .i64 4) := by simp [World.cell?, hm7]
              have y6 : W7.cell? ⟨W5.heap.size, 6, none⟩ = some (.int .i64 n2) := by simp [World.cell?, hm7]
              clear hbb hW7 A7 hm7 XQ
              have hjl : n2 < (m :: r).length := by rw [HMK.out.2.1]; exact hjn
              obtain ⟨g', u', hga, hg', k0, k1, -⟩ := HMK.out.1 n2 hjl
              simp only [Option.some.injEq, Addr.mk.injEq, and_true] at hga
              subst hga
              obtain ⟨at_, hat⟩ : ∃ z, ((m :: r)[n2]).at_ = z := ⟨_, rfl⟩
              rw [hat] at k1
              have HE : Hid (El.parseL s = (none, at_, 4)) := by
                have := HP.out.1 hjl
                rw [hat] at this
                exact this
              have z1 : W7.cell? ⟨g, n2 * 5 + 1, none⟩ = some (.int .i64 at_) := by rw [HA7.out.cell (p := ⟨g, n2 * 5 + 1, none⟩) hg']; exact k1
              have i1 : (n2 : Int) < nq := by omega
              have i0 : (0 : Int) ≤ n2 := by omega
              have HNE : Hid (W5.heap.size ≠ w.heap.size ∧ W3.heap.size ≠ w.heap.size ∧ g ≠ w.heap.size) := by
                have h1 := HSZ.out
                have h2 := h1.2.2.2 g rfl hpos
                have h3 := H45.out
                exact ⟨by omega, by omega, by omega⟩
              have HSS : Hid (∀ W, Below W7.heap.size W7 W → W.cell? ⟨W5.heap.size, 5, none⟩ = some (.int .i64 4) ∧ W.cell? ⟨W5.heap.size, 6, none⟩ = some (.int .i64 n2) ∧ W.cell? ⟨W3.heap.size, 0, none⟩ = some (.slice (some ⟨g, 0, none⟩) nq c) ∧ W.cell? ⟨g, n2 * 5 + 1, none⟩ = some (.int .i64 at_)) := fun W hb => by
                have h1 := World.block_lt_of_cell? _ _ y5'
                have h2 := World.block_lt_of_cell? _ _ x0
                have h3 := World.block_lt_of_cell? _ _ z1
                exact ⟨by rw [hb.cell (p := ⟨W5.heap.size, 5, none⟩) h1]; exact y5', by rw [hb.cell (p := ⟨W5.heap.size, 6, none⟩) h1]; exact y6, by rw [hb.cell (p := ⟨W3.heap.size, 0, none⟩) h2]; exact x0, by rw [hb.cell (p := ⟨g, n2 * 5 + 1, none⟩) h3]; exact z1⟩
              have B17 : Hid (Below W7.heap.size W7 W7) := Below.refl _ _
              have HSR : Hid ((W7.drew.setRow w.heap.size #[.string ⟨#[]⟩, .slice none 0 0, .slice none 0 0, .string ⟨#[]⟩, .int .i64 4, .int .i64 at_]).cell? ⟨W5.heap.size, 5, none⟩ = some (.int .i64 4) ∧ (W7.drew.setRow w.heap.size #[.string ⟨#[]⟩, .slice none 0 0, .slice none 0 0, .string ⟨#[]⟩, .int .i64 4, .int .i64 at_]).cell? ⟨W5.heap.size, 6, none⟩ = some (.int .i64 n2) ∧ (W7.drew.setRow w.heap.size #[.string ⟨#[]⟩, .slice none 0 0, .slice none 0 0, .string ⟨#[]⟩, .int .i64 4, .int .i64 at_]).cell? ⟨W3.heap.size, 0, none⟩ = some (.slice (some ⟨g, 0, none⟩) nq c) ∧ (W7.drew.setRow w.heap.size #[.string ⟨#[]⟩, .slice none 0 0, .slice none 0 0, .string ⟨#[]⟩, .int .i64 4, .int .i64 at_]).cell? ⟨g, n2 * 5 + 1, none⟩ = some (.int .i64 at_)) := by
                have oth : ∀ k o v, W7.cell? ⟨k, o, none⟩ = some v → k ≠ w.heap.size → (W7.drew.setRow w.heap.size #[.string ⟨#[]⟩, .slice none 0 0, .slice none 0 0, .string ⟨#[]⟩, .int .i64 4, .int .i64 at_]).cell? ⟨k, o, none⟩ = some v := fun k o v hv hk => by
                  exact (World.cell?_of_block (w := W7) (a := ⟨k, o, none⟩) (setRow_other W7.drew _ _ _ hk)).trans hv
                exact ⟨oth _ _ _ y5' HNE.out.1, oth _ _ _ y6 HNE.out.1, oth _ _ _ x0 HNE.out.2.1, oth _ _ _ z1 HNE.out.2.2⟩
              clear k0 k1 hat hg'
              go_upto_region 11 with fail
              rw [HW6.out]
              go_upto_region 13 with (refine wpList_store_row rfl 88 _ _ rfl W5.heap.size #[.string ⟨#[]⟩, .slice none 0 0, .slice none 0 0, .string ⟨#[]⟩, .int .i64 0, .int .i64 4, .int .i64 n2] rfl rfl 88 _ hm6 (by kernel_rfl) rfl (by kernel_rfl) ?_; rw [HW7.out])
              go_upto_region 17 with fail
              refine wp_region_held_drew (S := fun W => W.cell? ⟨W5.heap.size, 5, none⟩ = some (.int .i64 4) ∧ W.cell? ⟨W5.heap.size, 6, none⟩ = some (.int .i64 n2) ∧ W.cell? ⟨W3.heap.size, 0, none⟩ = some (.slice (some ⟨g, 0, none⟩) nq c) ∧ W.cell? ⟨g, n2 * 5 + 1, none⟩ = some (.int .i64 at_)) (by kernel_rfl) ?_ (fun hHeld => ?_)
              · exact HSS.out _ B17.out.drew
              refine Nt.takeS (v := ?vb0) 0 65 rfl rfl (by kernel_rfl) (by kernel_rfl) (by kernel_rfl) (fun _ _ _ h => h) (Or.inl ⟨by rfl, ?yb0⟩) hHeld ?rb0
              case yb0 => (intro w hSw; (try dsimp only at hSw); go_simp; all_goals (with_reducible rfl))
              simp only [List.set_cons_succ, List.set_cons_zero]
              refine Nt.takeS (v := ?vb1) 1 66 rfl rfl (by kernel_rfl) (by kernel_rfl) (by kernel_rfl) (fun _ _ _ h => h) (Or.inl ⟨by rfl, ?yb1⟩) hHeld ?rb1
              case yb1 => (intro w hSw; (try dsimp only at hSw); go_simp; all_goals (with_reducible rfl))
              simp only [List.set_cons_succ, List.set_cons_zero]
              refine Nt.takeS (v := ?vb2) 2 67 rfl rfl (by kernel_rfl) (by kernel_rfl) (by kernel_rfl) (fun _ _ _ h => h) (Or.inl ⟨by rfl, ?yb2⟩) hHeld ?rb2
              case yb2 => (intro w hSw; (try dsimp only at hSw); go_simp; all_goals (with_reducible rfl))
              simp only [List.set_cons_succ, List.set_cons_zero]
              refine Nt.takeS (v := ?vb3) 3 68 rfl rfl (by kernel_rfl) (by kernel_rfl) (by kernel_rfl) (fun _ _ _ h => h) (Or.inl ⟨by rfl, ?yb3⟩) hHeld ?rb3
              case yb3 => (intro w hSw; (try dsimp only at hSw); go_simp; all_goals (with_reducible rfl))
              simp only [List.set_cons_succ, List.set_cons_zero]
              refine Nt.takeS (v := ?vb4) 4 69 rfl rfl (by kernel_rfl) (by kernel_rfl) (by kernel_rfl) (fun _ _ _ h => h) (Or.inl ⟨by rfl, ?yb4⟩) hHeld ?rb4
              case yb4 => (intro w hSw; (try dsimp only at hSw); go_simp; all_goals (with_reducible rfl))
              simp only [List.set_cons_succ, List.set_cons_zero]
              refine Nt.takeS (v := ?vb5) 5 70 rfl rfl (by kernel_rfl) (by kernel_rfl) (by kernel_rfl) (fun _ _ _ h => h) (Or.inl ⟨by rfl, ?yb5⟩) hHeld ?rb5
              case yb5 => (intro w hSw; (try dsimp only at hSw); go_simp; all_goals (with_reducible rfl))
              simp only [List.set_cons_succ, List.set_cons_zero]
              refine Nt.takeS (v := ?vb6) 6 71 rfl rfl (by kernel_rfl) (by kernel_rfl) (by kernel_rfl) (fun _ _ _ h => h) (Or.inl ⟨by rfl, ?yb6⟩) hHeld ?rb6
              case yb6 => (intro w hSw; (try dsimp only at hSw); go_simp; all_goals (with_reducible rfl))
              simp only [List.set_cons_succ, List.set_cons_zero]
              refine Nt.takeS (v := ?vb7) 7 72 rfl rfl (by kernel_rfl) (by kernel_rfl) (by kernel_rfl) (fun _ _ _ h => h) (Or.inl ⟨by rfl, ?yb7⟩) hHeld ?rb7
              case yb7 => (intro w hSw; (try dsimp only at hSw); go_simp; all_goals (with_reducible rfl))
              simp only [List.set_cons_succ, List.set_cons_zero]
              refine Nt.takeS (v := ?vb8) 8 73 rfl rfl (by kernel_rfl) (by kernel_rfl) (by kernel_rfl) (fun _ _ _ h => h) (Or.inl ⟨by rfl, ?yb8⟩) hHeld ?rb8
              case yb8 => (intro w hSw; (try dsimp only at hSw); go_simp; all_goals (with_reducible rfl))
              simp only [List.set_cons_succ, List.set_cons_zero]
              refine Nt.takeS (v := ?vb9) 9 74 rfl rfl (by kernel_rfl) (by kernel_rfl) (by kernel_rfl) (fun _ _ _ h => h) (Or.inl ⟨by rfl, ?yb9⟩) hHeld ?rb9
              case yb9 => (intro w hSw; (try dsimp only at hSw); go_simp; all_goals (with_reducible rfl))
              simp only [List.set_cons_succ, List.set_cons_zero]
              refine wpAnyH_ready (rs := [10]) (by kernel_rfl) (by simp) ?_
              refine AllReadyH.cons rfl (fun K hK => ?_) AllReadyH.nil
              refine Dc.step_row rfl 46 _ _ rfl w.heap.size #[.string ⟨#[]⟩, .slice none 0 0, .slice none 0 0, .string ⟨#[]⟩, .int .i64 4, .int .i64 at_] rfl rfl 46 _ NR (by kernel_rfl) rfl (by kernel_rfl) ?_
              refine hK.out _ _ ?_ (fun hHeld10 => ?_)
              · exact HSR.out
              clear hK K
              first | refine Nt.normS 0 rfl ?_ | skip
              first | (simp only [List.set_cons_zero]) | skip
              refine wpAnyH_done (by kernel_rfl) ?_ _
              go_wp2_with fail
              have NRD : W7.drew.heap[w.heap.size]? = _ := NR
              refine bodyPost_ret (v := .agg #[.string ⟨#[]⟩, .slice none 0 0, .slice none 0 0, .string ⟨#[]⟩, .int .i64 4, .int .i64 at_]) (results_cell_row Tryd.results15 _ _ w.heap.size 46 #[.string ⟨#[]⟩, .slice none 0 0, .slice none 0 0, .string ⟨#[]⟩, .int .i64 4, .int .i64 at_] (0, 0) _ rfl (setRow_heap _ _ _ _ _ _ NRD) hu rfl (by kernel_rfl)) rfl ⟨Mk.below_setRow HB.out.drew (Nat.le_refl _) _, ?_⟩
              unfold Dc.PEnd
              rw [HE.out]
              all_goals rfl
            · have hj0 : decide ((n2 : Int) < nq) = false := decide_eq_false (by omega)
              have HE : Hid (El.parseL s = (some E, 0, 0)) := HP.out.2 (by rw [HMK.out.2.1]; exact hjn)
              go_upto_region 11 with fail
              rw [HW6.out]
              go_wp2_with (refine wpList_store_row rfl 46 _ _ rfl w.heap.size #[.string en, .slice ea el ec, .slice fa fl fc, .string et, .int .i64 0, .int .i64 0] rfl rfl 46 _ NR (by kernel_rfl) rfl (by kernel_rfl) ?_)
              refine bodyPost_ret (v := .agg #[.string en, .slice ea el ec, .slice fa fl fc, .string et, .int .i64 0, .int .i64 0]) (results_cell_row Tryd.results15 _ _ w.heap.size 46 #[.string en, .slice ea el ec, .slice fa fl fc, .string et, .int .i64 0, .int .i64 0] (0, 0) _ rfl (setRow_heap _ _ _ _ _ _ NR) hu rfl (by kernel_rfl)) rfl ⟨Mk.below_setRow HB.out (Nat.le_refl _) _, ?_⟩
              unfold Dc.PEnd
              rw [HE.out]
              obtain ⟨dd, hl⟩ := HL6.out
              refine ⟨_, _, dd, by rw [HEE.out.1, HEE.out.2.1], hl.keep (fun k hk => setRow_other _ _ _ _ ?_) fun k hk => ?_⟩
              · have := HSZ.out; omega
              · have h1 := hk.2; have h2 := World.block_lt_of_cell? _ _ y0; simp only at h2; simp [World.setRow]; omega
        · have e1 : ((kd : Int) != 1) = true := by simp; omega
          have HE : Hid (El.parseL s = (none, 0, 4)) := Dc.parse_first HNL.out HRR.out (by rw [hkd]; exact hk1)
          clear hk1 hkd
          go_upto_region 4 with fail
          rw [HW4.out]
          go_wp2_with (refine wpList_store_row rfl 46 _ _ rfl w.heap.size #[.string ⟨#[]⟩, .slice none 0 0, .slice none 0 0, .string ⟨#[]⟩, .int .i64 4, .int .i64 0] rfl rfl 46 _ NR (by kernel_rfl) rfl (by kernel_rfl) ?_)
          refine bodyPost_ret (v := .agg #[.string ⟨#[]⟩, .slice none 0 0, .slice none 0 0, .string ⟨#[]⟩, .int .i64 4, .int .i64 0]) (results_cell_row Tryd.results15 _ _ w.heap.size 46 #[.string ⟨#[]⟩, .slice none 0 0, .slice none 0 0, .string ⟨#[]⟩, .int .i64 4, .int .i64 0] (0, 0) _ rfl (setRow_heap _ _ _ _ _ _ NR) hu rfl (by kernel_rfl)) rfl ⟨Mk.below_setRow HB.out (Nat.le_refl _) _, ?_⟩
          unfold Dc.PEnd
          rw [HE.out]
          all_goals rfl

end Go.Proofs
