import Derived.Test.YtmomffminkflnaaGreatDoorRAcLawRef
import Derived.Test.YtmomffminkflnaaGreatDoorRows
import Derived.ProofKit
import Derived.OpenShut
import Derived.Carry
import Derived.SizedLaws
namespace Go.Proofs.YtmomffminkflnaaGreatDoor.DeadChooses
open Go.RowKit
set_option maxRecDepth 100000 in
set_option maxHeartbeats 32000000 in
theorem walk (T : Ac) (V : Ac.Vs) (e dd : Nat) (l : List Int) (kid out : Int) (w : World) (hT : Ac.Lies w w.heap.size e dd V T) (hl : l.length = 104) (o0 : -9223372036854775808 ≤ out) (o1 : out ≤ 9223372036854775807) (hO : Tk.Ops w) :
  Calls Tryz.prog 5 #[.agg (Ac.row T V), .agg (Dd.row l), .agg #[.int .i64 kid, .int .i64 out]] w fun e w' => e = .returned (.bool true) ∧ Below w.heap.size w w' := by
 have h0 : 0 < w.heap.size := by have := hO.lt; omega
 obtain ⟨xs, hxs⟩ : ∃ xs, Ac.row T V = xs := ⟨_, rfl⟩
 have hsz : xs.size = 12 := by rw [← hxs]; rfl
 have hl0 := Dd.At.new (w.alloc (.cells xs 32)) hl
 rw [show (w.alloc (.cells xs 32)).heap.size = w.heap.size + 1 by simp] at hl0
 obtain ⟨w0, hw0⟩ : ∃ z, (w.alloc (.cells xs 32)).alloc (.cells (Dd.row l) 41) = z := ⟨_, rfl⟩
 rw [hw0] at hl0
 have s0 : w0.heap.size = w.heap.size + 1 + 1 := by rw [← hw0]; simp
 obtain ⟨w1, hw1⟩ : ∃ z, w0.alloc (.cells #[.int .i64 kid, .int .i64 out] 67) = z := ⟨_, rfl⟩
 have b0 : Below w.heap.size w w0 := by rw [← hw0]; exact ((Below.refl _ w).alloc (Nat.le_refl _) _).alloc (by simp) _
 have b1 : Below w0.heap.size w0 w1 := by rw [← hw1]; exact (Below.refl _ w0).alloc (Nat.le_refl _) _
 have B1 : Below w.heap.size w w1 := b0.trans (b1.mono b0.size)
 have N1 : w1.heap[w.heap.size]? = some (.cells xs 32 (0, 0)) := by rw [b1.block _ (by omega), ← hw0, Below.heap_alloc _ _ _ (by simp)]; exact heap_alloc_new w _
 have L1 : Dd.At w1 (w.heap.size + 1) l := hl0.below b1 (by omega)
 have P1 : w1.heap[w.heap.size + 1 + 1]? = some (.cells #[.int .i64 kid, .int .i64 out] 67 (0, 0)) := by rw [← hw1, ← s0]; exact heap_alloc_new w0 _
 have hltp := (Array.getElem?_eq_some_iff.1 P1).1
 have hlt1 := L1.lt
 obtain ⟨w2, hw2⟩ : ∃ z, w1.alloc (.cells #[.int .i64 600] 36) = z := ⟨_, rfl⟩
 have B2 : Below w1.heap.size w1 w2 := by rw [← hw2]; exact (Below.refl _ w1).alloc (Nat.le_refl _) _
 have R2 : Tk.Rm w1.heap.size ((600 : Nat) : Int) w2 := by rw [← hw2]; exact heap_alloc_new w1 _
 have B02 : Below w.heap.size w w2 := B1.trans (B2.mono B1.size)
 have CL0 := Tryz.alarge_any e dd T V 600 w1.heap.size 1 w.heap.size w2 (hT.keep B02.block) (by omega) B02.size R2 (by omega) (by omega)
 rw [hxs] at CL0
 have CL : Hid _ := CL0
 have HX : Hid (∀ W, Below w1.heap.size w1 W → W.heap[w.heap.size]? = some (.cells xs 32 (0, 0)) ∧ Below w.heap.size w W ∧ W.rangeAt w.heap.size 0 xs.toList ∧ Dd.At W (w.heap.size + 1) l ∧ W.heap[w.heap.size + 1 + 1]? = some (.cells #[.int .i64 kid, .int .i64 out] 67 (0, 0))) := fun W hb => by
  have h := (hb.block _ (by omega)).trans N1
  refine ⟨h, B1.trans (hb.mono B1.size), fun j v hv => ?_, L1.below hb hlt1, (hb.block _ hltp).trans P1⟩
  rw [Nat.zero_add]
  simp only [World.cell?, h]
  simpa using hv
 have H0 : Hid _ := hw0
 have H1 : Hid _ := hw1
 have H2 : Hid (w1.alloc (.cells #[.int .i64 600] 36) = w2) := hw2
 have HS : Hid (∀ W, Below w.heap.size w W → Calls Tryz.prog 10 #[] W fun e w' => e = .returned (.bool true) ∧ Below W.heap.size W w') := fun W hb => Tryz.skips_any W (hO.below hb hO.lt)
 have HT : Hid (Ac.Lies w w.heap.size e dd V T ∧ Tk.Ops w ∧ Ac.row T V = xs ∧ 0 < w.heap.size ∧ l.length = 104 ∧ -9223372036854775808 ≤ out ∧ out ≤ 9223372036854775807) := ⟨hT, hO, hxs, h0, hl, o0, o1⟩
 have HBW : Hid (Below w1.heap.size w1 w2 ∧ w.heap.size + 1 < w1.heap.size) := ⟨B2, hlt1⟩
 have ha := Tryz.underlying32
 have hu := Tryz.underlying41
 have ia : (Tryz.prog.info? 32).map (·.size) = some xs.size := by rw [hsz]; exact Dd.info_act
 have ial : (Tryz.prog.info? 32).map (·.size) = some xs.toList.length := by rw [ia]; simp
 have il := Dd.info_row hl
 rw [hxs]
 clear hT hO hxs hsz hw1 hw2 B1 B2 R2 B02 CL0 hlt1 h0 hl0 L1 hl hw0 s0 b0 b1 P1 hltp o0 o1
 go_enter Tryz.func5, Tryz.ntmps5
 go_upto_region 1 with fail
 rw [H0.out, H1.out]
 clear H0 H1
 go_wp2_with (refine wpList_load_row rfl 32 _ rfl _ rfl 32 _ (0, 0) _ N1 ha rfl ia ?_)
 rw [H2.out]
 refine Calls.mono CL.out ?_
 rintro e' W3 ⟨hb3, ⟨rfl, hsm, k3, hk3, -⟩ | rfl⟩
 rotate_left
 ·have HB3 : Hid (Below w.heap.size w W3) := (HX.out W3 (HBW.out.1.trans (hb3.below HBW.out.1.size (by intro i hi; show ¬ i = w1.heap.size; omega)))).2.1
  clear hb3 CL N1
  go_wp2_with fail
  refine Calls.mono (HS.out W3 HB3.out) ?_
  rintro e' W4 ⟨rfl, hb4⟩
  have HB4 : Hid (Below w.heap.size w W4) := HB3.out.trans (hb4.mono HB3.out.size)
  clear hb4
  go_wp2
  go_ret
  exact ⟨rfl, HB4.out⟩
 have HB3 : Hid (Below w1.heap.size w1 W3) := HBW.out.1.trans (hb3.below HBW.out.1.size (by intro i hi; show ¬ i = w1.heap.size; omega))
 have HSM : Hid (T.All Dd.Small ∧ T.size ≤ 600) := ⟨hsm, by omega⟩
 clear hb3 CL N1 hsm hk3
 have CX : Hid (Dd.Ctx w xs (Dd.webB T) T.ls (Dd.kkOf T)) := by
  have h := Dd.ctx dd e T V w HT.out.1 HT.out.2.2.2.1 (by have := HSM.out.2; omega) (Ac.all_mono (fun _ h => Dd.fit_of h) T HSM.out.1) HT.out.2.1
  rw [HT.out.2.2.1] at h
  exact h
 obtain ⟨wb, hwb⟩ : ∃ b, Dd.webB T = b := ⟨_, rfl⟩
 rw [hwb] at CX
 have RFC : Hid (∀ W, Below w.heap.size w W → Calls Tryz.prog 12 #[.agg xs] W fun e' w' => ∃ ys, e' = .returned (.agg ys) ∧ (Tryz.prog.info? 48).map (·.size) = some ys.size ∧ ys.size = 12 ∧ ys.all (·.oneCell') = true ∧ Dd.RCtx w' ys wb T.ls (Dd.kkOf T) ∧ Below W.heap.size W w') := fun W hb => by
  have h := Dd.ref_ctx HT.out.1 HSM.out.2 HSM.out.1 W hb
  rw [HT.out.2.2.1, hwb] at h
  exact h
 obtain ⟨t1, ht1⟩ : ∃ s, (Dd.choR wb T.ls (Dd.kkOf T) l kid out).1 = s := ⟨_, rfl⟩
 obtain ⟨f1, hf1⟩ : ∃ s, (Dd.choR wb T.ls (Dd.kkOf T) l kid out).2 = s := ⟨_, rfl⟩
 have ht1l : t1.length = 104 := by
  rw [← ht1]
  exact Dd.cho_len (fun h => by rw [h] at hwb; exact (Dd.rw_of hwb).right.web) HT.out.2.2.2.2.1 kid out
 have HT1 : Hid ((Dd.choR wb T.ls (Dd.kkOf T) l kid out).1 = t1 ∧ (Dd.choR wb T.ls (Dd.kkOf T) l kid out).2 = f1 ∧ t1.length = 104) := ⟨ht1, hf1, ht1l⟩
 have i0 := Dd.info_row ht1l
 have o0 := Dd.row_one t1
 have z0 : (Tryz.zeroCells41).size = (Dd.row t1).size := by rw [Dd.zero_row, Dd.row_size, Dd.row_size, ht1l, Dd.zeros_length]
 have hgl := Dd.got_len ht1l f1
 have ig := Dd.rginfo_row hgl
 have og := Dd.row_one (t1 ++ [f1])
 have zg : (Tryz.zeroCells59).size = (Dd.row (t1 ++ [f1])).size := by rw [Dd.rgz, Dd.row_size, Dd.row_size, hgl]; simp [Dd.zeros_length]
 have jt := Dd.ints_len ht1l
 have jr := Dd.rints_len ht1l
 have jl := Dd.ints_len HT.out.2.2.2.2.1
 have hqe : ∀ W : World, (Op.equalIn 10000 53 (.agg (Dd.row t1)) (.agg (Dd.row t1))).run Tryz.prog W = .ok true W := fun W => by
  rw [Dd.rst_eq t1 t1 HT1.out.2.2 HT1.out.2.2 W, decide_eq_true rfl]
 have HQE : Hid _ := hqe
 clear hwb ht1 hf1 ht1l hgl hqe
 obtain ⟨nx3, hb03, -, hl3, hp3⟩ := HX.out W3 HB3.out
 have NS3 := hl3.h
 have k0 : W3.cell? ⟨w.heap.size + 1 + 1, 0, none⟩ = some (.int .i64 kid) := by simp [World.cell?, hp3]
 have k1 : W3.cell? ⟨w.heap.size + 1 + 1, 1, none⟩ = some (.int .i64 out) := by simp [World.cell?, hp3]
 have C1 : Hid (Calls Tryz.prog 23 #[.agg xs, .agg (Dd.row l), .int .i64 kid, .int .i64 out] W3 fun e w' => e = .returned (.tuple #[.agg (Dd.row t1), .int .i64 f1]) ∧ Below W3.heap.size W3 w') := by
  have h := CX.out.choose W3 l kid out hb03 HT.out.2.2.2.2.1 HT.out.2.2.2.2.2.1 HT.out.2.2.2.2.2.2
  unfold Dd.two at h
  rw [HT1.out.1, HT1.out.2.1] at h
  exact h
 clear hb03 hl3 hp3
 go_upto_region 3 with fail
 go_wp2_with (first
  | refine wpList_load_row rfl 32 _ rfl _ rfl 32 _ (0, 0) _ nx3 ha rfl ia ?_
  | refine wpList_load_row rfl 41 _ rfl _ rfl 41 (Dd.row l) (0, 0) _ NS3 hu rfl il ?_)
 refine Calls.mono C1.out ?_
 rintro e' W8 ⟨rfl, hb8⟩
 have NZ8 : (W8.alloc (.cells Tryz.zeroCells41 41)).heap[W8.heap.size]? = some (.cells Tryz.zeroCells41 41 (0, 0)) := heap_alloc_new W8 _
 obtain ⟨W9, hW9⟩ : ∃ z, (W8.alloc (.cells Tryz.zeroCells41 41)).setRow W8.heap.size (Dd.row t1) = z := ⟨_, rfl⟩
 have A9 : Dd.At W9 W8.heap.size t1 := by rw [← hW9]; exact ⟨setRow_heap _ _ _ _ _ _ NZ8, HT1.out.2.2⟩
 have B9 : Below W8.heap.size W8 W9 := by rw [← hW9]; exact Tk.below_row ((Below.refl _ W8).alloc (Nat.le_refl _) _) (Nat.le_refl _) _
 have B79 : Below w1.heap.size w1 W9 := HB3.out.trans ((hb8.trans (B9.mono hb8.size)).mono HB3.out.size)
 obtain ⟨p, hp⟩ : ∃ p, W8.heap.size = p := ⟨_, rfl⟩
 have HP : Hid (W8.heap.size = p) := hp
 have HY : Hid (∀ W, Below W9.heap.size W9 W → Below w1.heap.size w1 W ∧ Dd.At W p t1) := fun W hb => by
  have A9' := A9
  rw [hp] at A9'
  exact ⟨B79.trans (hb.mono B79.size), A9'.below hb A9'.lt⟩
 have HW9 : Hid _ := hW9
 clear hb8 hW9 A9 B9 B79 hp C1 nx3 NS3 k0 k1
 go_upto_region 4 with (refine wpList_store_row rfl 41 _ _ rfl W8.heap.size (Dd.row t1) rfl rfl 41 _ NZ8 i0 z0 o0 ?_)
 rw [HW9.out, HP.out]
 clear HW9 NZ8 HP i0 o0 z0
 have CSL : Hid (∀ W, Calls Tryz.prog 15 #[.agg (Dd.row l)] W fun e w' => e = .returned (.agg (Dd.row l)) ∧ Below W.heap.size W w') := fun W => Tryz.lawState_any l W HT.out.2.2.2.2.1
 have CST : Hid (∀ W, Calls Tryz.prog 15 #[.agg (Dd.row t1)] W fun e w' => e = .returned (.agg (Dd.row t1)) ∧ Below W.heap.size W w') := fun W => Tryz.lawState_any t1 W HT1.out.2.2
 have HS5 : Hid (∀ W, Below W9.heap.size W9 W → (W.rangeAt w.heap.size 0 xs.toList ∧ W.rangeAt (w.heap.size + 1) 0 (Dd.ints l) ∧ W.rangeAt (w.heap.size + 1 + 1) 0 [.int .i64 kid, .int .i64 out])) := fun W hb => by
  have h := HX.out W (HY.out W hb).1
  refine ⟨h.2.2.1, Dd.range_st h.2.2.2.1, fun j v hv => ?_⟩
  rw [Nat.zero_add]
  simp only [World.cell?, h.2.2.2.2]
  simpa using hv
 have HU9 : Hid (∀ W, Below W9.heap.size W9 W → Below w.heap.size w W) := fun W hb => (HX.out W (HY.out W hb).1).2.1
 have hat := Tryz.underlying67
 have jat : (Tryz.prog.info? 67).map (·.size) = some [Value.int .i64 kid, Value.int .i64 out].length := by show _ = _; kernel_rfl
 have HD9 : Hid (Below W9.heap.size W9 W9.drew) := (Below.refl _ W9).drew
 go_cut [9] from 25 to 44 (fun s9 wx => ∃ g : Nat, s9 = .pointer (some ⟨g, 0, none⟩) ∧ Hid (wx.heap[g]? = some (.cells (Dd.row (t1 ++ [f1])) 59 (0, 0)) ∧ Below W9.heap.size W9 wx))
 case first =>
  refine wp_region_held_drew (S := (fun V => V.rangeAt w.heap.size 0 xs.toList ∧ V.rangeAt (w.heap.size + 1) 0 (Dd.ints l) ∧ V.rangeAt (w.heap.size + 1 + 1) 0 [.int .i64 kid, .int .i64 out])) (by kernel_rfl) ?_ (fun hHeld => ?_)
  ·exact HS5.out _ HD9.out
  refine Nt.takeS (v := .agg xs) 0 25 rfl rfl (by kernel_rfl) (by kernel_rfl) (by kernel_rfl) (fun _ _ _ h => h) (yieldsIf_load_mid (by rfl) 32 _ rfl w.heap.size 0 rfl xs.toList _ (fun _ hw => hw.1) ha rfl ial) hHeld ?_
  simp only [List.set_cons_succ, List.set_cons_zero]
  refine Nt.takeS (v := .agg (Dd.row l)) 2 27 rfl rfl (by kernel_rfl) (by kernel_rfl) (by kernel_rfl) (fun _ _ _ h => h) (yieldsIf_load_mid (by rfl) 41 _ rfl (w.heap.size + 1) 0 rfl (Dd.ints l) _ (fun _ hw => hw.2.1) hu rfl jl) hHeld ?_
  simp only [List.set_cons_succ, List.set_cons_zero]
  refine Nt.takeS (v := .agg #[.int .i64 kid, .int .i64 out]) 4 29 rfl rfl (by kernel_rfl) (by kernel_rfl) (by kernel_rfl) (fun _ _ _ h => h) (yieldsIf_load_mid (by rfl) 67 _ rfl (w.heap.size + 1 + 1) 0 rfl [.int .i64 kid, .int .i64 out] _ (fun _ hw => hw.2.2) hat rfl jat) hHeld ?_
  simp only [List.set_cons_succ, List.set_cons_zero]
  refine wpAnyH_ready (rs := [1, 6]) (by kernel_rfl) (by simp) ?_
  refine AllReadyH.cons rfl (fun K hK => ?_) (AllReadyH.cons rfl (fun K hK => ?_) AllReadyH.nil)
  ·go_simp
   go_at_call 12
   refine Calls.mono (RFC.out _ (HU9.out _ HD9.out)) ?_
   rintro e' WA ⟨ys, rfl, -, -, -, yc, hbA⟩
   have HA : Hid (Below W9.heap.size W9 WA) := HD9.out.trans (hbA.mono HD9.out.size)
   have CD : Hid (∀ W, Below WA.heap.size WA W → Calls Tryz.prog 24 #[.agg ys, .agg (Dd.row l), .agg #[.int .i64 kid, .int .i64 out]] W fun e w' => e = .returned (.agg (Dd.row (t1 ++ [f1]))) ∧ Below W.heap.size W w') := fun W hb => by
    have h := yc.choose W l kid out hb HT.out.2.2.2.2.1
    unfold Dd.gotOf at h
    rw [HT1.out.1, HT1.out.2.1] at h
    exact h
   have KA : Hid (Below WA.heap.size WA WA) := Below.refl _ WA
   clear hbA yc
   go_wp2_with fail
   refine hK.out _ _ ?_ (fun hT1 => ?_)
   ·exact HS5.out _ HA.out
   clear hK K
   first | refine Nt.normS 26 rfl ?_ | skip
   first | (simp only [List.set_cons_succ, List.set_cons_zero]) | skip
   refine wpAnyH_ready (rs := [3, 6]) (by kernel_rfl) (by simp) ?_
   refine AllReadyH.cons rfl (fun K hK => ?_) (AllReadyH.cons rfl (fun K hK => ?_) AllReadyH.nil)
   ·go_simp
    go_at_call 15
    refine Calls.mono (CSL.out _) ?_
    rintro e' WB ⟨rfl, hbB⟩
    have HB : Hid (Below W9.heap.size W9 WB) := HA.out.trans (hbB.mono HA.out.size)
    have KB : Hid (Below WA.heap.size WA WB) := KA.out.trans (hbB.mono KA.out.size)
    clear hbB
    go_wp2_with fail
    refine hK.out _ _ ?_ (fun hT3 => ?_)
    ·exact HS5.out _ HB.out
    clear hK K
    first | refine Nt.normS 28 rfl ?_ | skip
    first | (simp only [List.set_cons_succ, List.set_cons_zero]) | skip
    refine wpAnyH_ready (rs := [5, 6]) (by kernel_rfl) (by simp) ?_
    refine AllReadyH.cons rfl (fun K hK => ?_) (AllReadyH.cons rfl (fun K hK => ?_) AllReadyH.nil)
    ·go_simp
     go_at_call 24
     refine Calls.mono (CD.out _ KB.out) ?_
     rintro e' WC ⟨rfl, hbC⟩
     have HC : Hid (Below W9.heap.size W9 WC) := HB.out.trans (hbC.mono HB.out.size)
     clear hbC
     go_wp2_with fail
     refine hK.out _ _ ?_ (fun hT5 => ?_)
     ·exact HS5.out _ HC.out
     clear hK K
     first | refine Nt.normS 30 rfl ?_ | skip
     first | (simp only [List.set_cons_succ, List.set_cons_zero]) | skip
     refine wpAnyH_ready (rs := [6]) (by kernel_rfl) (by simp) ?_
     refine AllReadyH.cons rfl (fun K hK => ?_) AllReadyH.nil
     have NG : (WC.alloc (.cells Tryz.zeroCells59 59)).heap[WC.heap.size]? = some (.cells Tryz.zeroCells59 59 (0, 0)) := heap_alloc_new WC _
     have HN : Hid (Below W9.heap.size W9 (WC.alloc (.cells Tryz.zeroCells59 59))) := HC.out.alloc HC.out.size _
     have HNs : Hid (W9.heap.size ≤ WC.heap.size) := HC.out.size
     go_simp
     refine hK.out _ _ ?_ (fun hT6 => ?_)
     ·exact HS5.out _ HN.out
     clear hK K
     first | refine Nt.normS 9 rfl ?_ | skip
     first | (simp only [List.set_cons_succ, List.set_cons_zero]) | skip
     refine wpAnyH_ready (rs := [7]) (by kernel_rfl) (by simp) ?_
     refine AllReadyH.cons rfl (fun K hK => ?_) AllReadyH.nil
     refine Dd.step_row rfl 59 _ _ rfl WC.heap.size (Dd.row (t1 ++ [f1])) rfl rfl 59 _ NG ig zg og ?_
     refine hK.out _ _ ?_ (fun hT7 => ?_)
     ·exact HS5.out _ (Tk.below_row HN.out HNs.out _)
     clear hK K
     refine wpAnyH_done (by kernel_rfl) ?_ _
     have HE : Hid (((WC.alloc (.cells Tryz.zeroCells59 59)).setRow WC.heap.size (Dd.row (t1 ++ [f1]))).heap[WC.heap.size]? = some (.cells (Dd.row (t1 ++ [f1])) 59 (0, 0)) ∧ Below W9.heap.size W9 ((WC.alloc (.cells Tryz.zeroCells59 59)).setRow WC.heap.size (Dd.row (t1 ++ [f1])))) := ⟨setRow_heap _ _ _ _ _ _ NG, Tk.below_row HN.out HNs.out _⟩
     go_wp2_with fail
     go_meet
     exact ⟨_, rfl, HE.out⟩
    ·have NG : (WB.alloc (.cells Tryz.zeroCells59 59)).heap[WB.heap.size]? = some (.cells Tryz.zeroCells59 59 (0, 0)) := heap_alloc_new WB _
     have HN : Hid (Below W9.heap.size W9 (WB.alloc (.cells Tryz.zeroCells59 59))) := HB.out.alloc HB.out.size _
     have HNs : Hid (W9.heap.size ≤ WB.heap.size) := HB.out.size
     go_simp
     refine hK.out _ _ ?_ (fun hT6 => ?_)
     ·exact HS5.out _ HN.out
     clear hK K
     first | refine Nt.normS 9 rfl ?_ | skip
     first | (simp only [List.set_cons_succ, List.set_cons_zero]) | skip
     have KN : Hid (Below WA.heap.size WA (WB.alloc (.cells Tryz.zeroCells59 59))) := KB.out.alloc KB.out.size _
     refine wpAnyH_ready (rs := [5]) (by kernel_rfl) (by simp) ?_
     refine AllReadyH.cons rfl (fun K hK => ?_) AllReadyH.nil
     go_simp
     go_at_call 24
     refine Calls.mono (CD.out _ KN.out) ?_
     rintro e' WC ⟨rfl, hbC⟩
     have HC : Hid (Below W9.heap.size W9 WC) := HN.out.trans (hbC.mono HN.out.size)
     have NG := (hbC.block _ (Array.getElem?_eq_some_iff.1 NG).1).trans NG
     clear hbC
     go_wp2_with fail
     refine hK.out _ _ ?_ (fun hT5 => ?_)
     ·exact HS5.out _ HC.out
     clear hK K
     first | refine Nt.normS 30 rfl ?_ | skip
     first | (simp only [List.set_cons_succ, List.set_cons_zero]) | skip
     refine wpAnyH_ready (rs := [7]) (by kernel_rfl) (by simp) ?_
     refine AllReadyH.cons rfl (fun K hK => ?_) AllReadyH.nil
     refine Dd.step_row rfl 59 _ _ rfl WB.heap.size (Dd.row (t1 ++ [f1])) rfl rfl 59 _ NG ig zg og ?_
     refine hK.out _ _ ?_ (fun hT7 => ?_)
     ·exact HS5.out _ (Tk.below_row HC.out HNs.out _)
     clear hK K
     refine wpAnyH_done (by kernel_rfl) ?_ _
     have HE : Hid ((WC.setRow WB.heap.size (Dd.row (t1 ++ [f1]))).heap[WB.heap.size]? = some (.cells (Dd.row (t1 ++ [f1])) 59 (0, 0)) ∧ Below W9.heap.size W9 (WC.setRow WB.heap.size (Dd.row (t1 ++ [f1])))) := ⟨setRow_heap _ _ _ _ _ _ NG, Tk.below_row HC.out HNs.out _⟩
     go_wp2_with fail
     go_meet
     exact ⟨_, rfl, HE.out⟩
   ·have NG : (WA.alloc (.cells Tryz.zeroCells59 59)).heap[WA.heap.size]? = some (.cells Tryz.zeroCells59 59 (0, 0)) := heap_alloc_new WA _
    have HN : Hid (Below W9.heap.size W9 (WA.alloc (.cells Tryz.zeroCells59 59))) := HA.out.alloc HA.out.size _
    have HNs : Hid (W9.heap.size ≤ WA.heap.size) := HA.out.size
    go_simp
    refine hK.out _ _ ?_ (fun hT6 => ?_)
    ·exact HS5.out _ HN.out
    clear hK K
    first | refine Nt.normS 9 rfl ?_ | skip
    first | (simp only [List.set_cons_succ, List.set_cons_zero]) | skip
    have KN : Hid (Below WA.heap.size WA (WA.alloc (.cells Tryz.zeroCells59 59))) := KA.out.alloc KA.out.size _
    refine wpAnyH_ready (rs := [3]) (by kernel_rfl) (by simp) ?_
    refine AllReadyH.cons rfl (fun K hK => ?_) AllReadyH.nil
    go_simp
    go_at_call 15
    refine Calls.mono (CSL.out _) ?_
    rintro e' WB ⟨rfl, hbB⟩
    have HB : Hid (Below W9.heap.size W9 WB) := HN.out.trans (hbB.mono HN.out.size)
    have NG := (hbB.block _ (Array.getElem?_eq_some_iff.1 NG).1).trans NG
    have KB : Hid (Below WA.heap.size WA WB) := KN.out.trans (hbB.mono KN.out.size)
    clear hbB
    go_wp2_with fail
    refine hK.out _ _ ?_ (fun hT3 => ?_)
    ·exact HS5.out _ HB.out
    clear hK K
    first | refine Nt.normS 28 rfl ?_ | skip
    first | (simp only [List.set_cons_succ, List.set_cons_zero]) | skip
    refine wpAnyH_ready (rs := [5]) (by kernel_rfl) (by simp) ?_
    refine AllReadyH.cons rfl (fun K hK => ?_) AllReadyH.nil
    go_simp
    go_at_call 24
    refine Calls.mono (CD.out _ KB.out) ?_
    rintro e' WC ⟨rfl, hbC⟩
    have HC : Hid (Below W9.heap.size W9 WC) := HB.out.trans (hbC.mono HB.out.size)
    have NG := (hbC.block _ (Array.getElem?_eq_some_iff.1 NG).1).trans NG
    clear hbC
    go_wp2_with fail
    refine hK.out _ _ ?_ (fun hT5 => ?_)
    ·exact HS5.out _ HC.out
    clear hK K
    first | refine Nt.normS 30 rfl ?_ | skip
    first | (simp only [List.set_cons_succ, List.set_cons_zero]) | skip
    refine wpAnyH_ready (rs := [7]) (by kernel_rfl) (by simp) ?_
    refine AllReadyH.cons rfl (fun K hK => ?_) AllReadyH.nil
    refine Dd.step_row rfl 59 _ _ rfl WA.heap.size (Dd.row (t1 ++ [f1])) rfl rfl 59 _ NG ig zg og ?_
    refine hK.out _ _ ?_ (fun hT7 => ?_)
    ·exact HS5.out _ (Tk.below_row HC.out HNs.out _)
    clear hK K
    refine wpAnyH_done (by kernel_rfl) ?_ _
    have HE : Hid ((WC.setRow WA.heap.size (Dd.row (t1 ++ [f1]))).heap[WA.heap.size]? = some (.cells (Dd.row (t1 ++ [f1])) 59 (0, 0)) ∧ Below W9.heap.size W9 (WC.setRow WA.heap.size (Dd.row (t1 ++ [f1])))) := ⟨setRow_heap _ _ _ _ _ _ NG, Tk.below_row HC.out HNs.out _⟩
    go_wp2_with fail
    go_meet
    exact ⟨_, rfl, HE.out⟩
  ·have NG : (W9.drew.alloc (.cells Tryz.zeroCells59 59)).heap[W9.drew.heap.size]? = some (.cells Tryz.zeroCells59 59 (0, 0)) := heap_alloc_new W9.drew _
   have HN : Hid (Below W9.heap.size W9 (W9.drew.alloc (.cells Tryz.zeroCells59 59))) := HD9.out.alloc HD9.out.size _
   have HNs : Hid (W9.heap.size ≤ W9.drew.heap.size) := HD9.out.size
   go_simp
   refine hK.out _ _ ?_ (fun hT6 => ?_)
   ·exact HS5.out _ HN.out
   clear hK K
   first | refine Nt.normS 9 rfl ?_ | skip
   first | (simp only [List.set_cons_succ, List.set_cons_zero]) | skip
   refine wpAnyH_ready (rs := [1]) (by kernel_rfl) (by simp) ?_
   refine AllReadyH.cons rfl (fun K hK => ?_) AllReadyH.nil
   go_simp
   go_at_call 12
   refine Calls.mono (RFC.out _ (HU9.out _ HN.out)) ?_
   rintro e' WA ⟨ys, rfl, -, -, -, yc, hbA⟩
   have HA : Hid (Below W9.heap.size W9 WA) := HN.out.trans (hbA.mono HN.out.size)
   have NG := (hbA.block _ (Array.getElem?_eq_some_iff.1 NG).1).trans NG
   have CD : Hid (∀ W, Below WA.heap.size WA W → Calls Tryz.prog 24 #[.agg ys, .agg (Dd.row l), .agg #[.int .i64 kid, .int .i64 out]] W fun e w' => e = .returned (.agg (Dd.row (t1 ++ [f1]))) ∧ Below W.heap.size W w') := fun W hb => by
    have h := yc.choose W l kid out hb HT.out.2.2.2.2.1
    unfold Dd.gotOf at h
    rw [HT1.out.1, HT1.out.2.1] at h
    exact h
   have KA : Hid (Below WA.heap.size WA WA) := Below.refl _ WA
   clear hbA yc
   go_wp2_with fail
   refine hK.out _ _ ?_ (fun hT1 => ?_)
   ·exact HS5.out _ HA.out
   clear hK K
   first | refine Nt.normS 26 rfl ?_ | skip
   first | (simp only [List.set_cons_succ, List.set_cons_zero]) | skip
   refine wpAnyH_ready (rs := [3]) (by kernel_rfl) (by simp) ?_
   refine AllReadyH.cons rfl (fun K hK => ?_) AllReadyH.nil
   go_simp
   go_at_call 15
   refine Calls.mono (CSL.out _) ?_
   rintro e' WB ⟨rfl, hbB⟩
   have HB : Hid (Below W9.heap.size W9 WB) := HA.out.trans (hbB.mono HA.out.size)
   have NG := (hbB.block _ (Array.getElem?_eq_some_iff.1 NG).1).trans NG
   have KB : Hid (Below WA.heap.size WA WB) := KA.out.trans (hbB.mono KA.out.size)
   clear hbB
   go_wp2_with fail
   refine hK.out _ _ ?_ (fun hT3 => ?_)
   ·exact HS5.out _ HB.out
   clear hK K
   first | refine Nt.normS 28 rfl ?_ | skip
   first | (simp only [List.set_cons_succ, List.set_cons_zero]) | skip
   refine wpAnyH_ready (rs := [5]) (by kernel_rfl) (by simp) ?_
   refine AllReadyH.cons rfl (fun K hK => ?_) AllReadyH.nil
   go_simp
   go_at_call 24
   refine Calls.mono (CD.out _ KB.out) ?_
   rintro e' WC ⟨rfl, hbC⟩
   have HC : Hid (Below W9.heap.size W9 WC) := HB.out.trans (hbC.mono HB.out.size)
   have NG := (hbC.block _ (Array.getElem?_eq_some_iff.1 NG).1).trans NG
   clear hbC
   go_wp2_with fail
   refine hK.out _ _ ?_ (fun hT5 => ?_)
   ·exact HS5.out _ HC.out
   clear hK K
   first | refine Nt.normS 30 rfl ?_ | skip
   first | (simp only [List.set_cons_succ, List.set_cons_zero]) | skip
   refine wpAnyH_ready (rs := [7]) (by kernel_rfl) (by simp) ?_
   refine AllReadyH.cons rfl (fun K hK => ?_) AllReadyH.nil
   refine Dd.step_row rfl 59 _ _ rfl W9.heap.size (Dd.row (t1 ++ [f1])) rfl rfl 59 _ NG ig zg og ?_
   refine hK.out _ _ ?_ (fun hT7 => ?_)
   ·exact HS5.out _ (Tk.below_row HC.out HNs.out _)
   clear hK K
   refine wpAnyH_done (by kernel_rfl) ?_ _
   have HE : Hid ((WC.setRow W9.heap.size (Dd.row (t1 ++ [f1]))).heap[W9.heap.size]? = some (.cells (Dd.row (t1 ++ [f1])) 59 (0, 0)) ∧ Below W9.heap.size W9 (WC.setRow W9.heap.size (Dd.row (t1 ++ [f1])))) := ⟨setRow_heap _ _ _ _ _ _ NG, Tk.below_row HC.out HNs.out _⟩
   go_wp2_with fail
   go_meet
   exact ⟨_, rfl, HE.out⟩
 case rest =>
  rename World => WX
  obtain ⟨g, rfl, HG⟩ := hcut
  have HS6 : Hid (∀ W, Below WX.heap.size WX W → (W.rangeAt p 0 (Dd.ints t1) ∧ W.rangeAt g 0 (Dd.ints t1) ∧ W.cell? ⟨g, 104, none⟩ = some (.int .i64 f1))) := fun W hb => by
   have h0 := HG.out.2.trans (hb.mono HG.out.2.size)
   have h1 := HY.out W h0
   have h3 := Dd.range_got ((hb.block _ (Array.getElem?_eq_some_iff.1 HG.out.1).1).trans HG.out.1) HT1.out.2.2
   exact ⟨Dd.range_st h1.2, h3.1, h3.2⟩
  have HU : Hid (∀ W, Below WX.heap.size WX W → Below w.heap.size w W) := fun W hb => HU9.out W (HG.out.2.trans (hb.mono HG.out.2.size))
  have HDX : Hid (Below WX.heap.size WX WX.drew) := (Below.refl _ WX).drew
  have hus := Tryz.underlying53
  have hqe := HQE.out
  clear CX HX HY HS5 HD9 HG HB3 HSM HT HQE HT1 RFC HU9
  go_upto_region 5 with fail
  refine wp_region_held_drew (S := (fun V => V.rangeAt p 0 (Dd.ints t1) ∧ V.rangeAt g 0 (Dd.ints t1) ∧ V.cell? ⟨g, 104, none⟩ = some (.int .i64 f1))) (by kernel_rfl) ?_ (fun hHeld => ?_)
  ·exact HS6.out _ HDX.out
  refine Nt.takeS (v := .agg (Dd.row t1)) 0 31 rfl rfl (by kernel_rfl) (by kernel_rfl) (by kernel_rfl) (fun _ _ _ h => h) (yieldsIf_load_mid (by rfl) 41 _ rfl p 0 rfl (Dd.ints t1) _ (fun _ hw => hw.1) hu rfl jt) hHeld ?_
  simp only [List.set_cons_succ, List.set_cons_zero]
  refine Nt.takeS (v := ?va2) 2 33 rfl rfl (by kernel_rfl) (by kernel_rfl) (by kernel_rfl) (fun _ _ _ h => h) (Or.inl ⟨by rfl, ?ya2⟩) hHeld ?ra2
  case ya2 => (intro w hSw; (try dsimp only at hSw); go_simp; all_goals (with_reducible rfl))
  simp only [List.set_cons_succ, List.set_cons_zero]
  refine Nt.takeS (v := .agg (Dd.row t1)) 3 34 rfl rfl (by kernel_rfl) (by kernel_rfl) (by kernel_rfl) (fun _ _ _ h => h) (yieldsIf_load_mid (by rfl) 53 _ rfl g 0 rfl (Dd.ints t1) _ (fun _ hw => hw.2.1) hus rfl jr) hHeld ?_
  simp only [List.set_cons_succ, List.set_cons_zero]
  refine wpAnyH_ready (rs := [1]) (by kernel_rfl) (by simp) ?_
  refine AllReadyH.cons rfl (fun K hK => ?_) AllReadyH.nil
  go_simp
  go_at_call 15
  refine Calls.mono (CST.out _) ?_
  rintro e' W101 ⟨rfl, hb1⟩
  have HB1 : Hid (Below WX.heap.size WX W101) := HDX.out.trans (hb1.mono HDX.out.size)
  clear hb1
  go_wp2_with fail
  refine hK.out _ _ ?_ (fun hT1 => ?_)
  ·exact HS6.out _ HB1.out
  clear hK K
  first | refine Nt.normS 32 rfl ?_ | skip
  first | (simp only [List.set_cons_succ, List.set_cons_zero]) | skip
  refine Nt.takeS (v := ?vb4) 4 35 rfl rfl (by kernel_rfl) (by kernel_rfl) (by kernel_rfl) (fun _ _ _ h => h) (Or.inl ⟨by rfl, ?yb4⟩) hT1 ?rb4
  case yb4 => (intro w hSw; (try dsimp only at hSw); go_simp; all_goals (with_reducible rfl))
  simp only [List.set_cons_succ, List.set_cons_zero]
  refine Nt.takeS (v := ?vb5) 5 36 rfl rfl (by kernel_rfl) (by kernel_rfl) (by kernel_rfl) (fun _ _ _ h => h) (Or.inl ⟨by rfl, ?yb5⟩) hT1 ?rb5
  case yb5 => (intro w hSw; (try dsimp only at hSw); go_simp; all_goals (with_reducible rfl))
  simp only [List.set_cons_succ, List.set_cons_zero]
  refine Nt.takeS (v := ?vb6) 6 37 rfl rfl (by kernel_rfl) (by kernel_rfl) (by kernel_rfl) (fun _ _ _ h => h) (Or.inl ⟨by rfl, ?yb6⟩) hT1 ?rb6
  case yb6 => (intro w hSw; (try dsimp only at hSw); go_simp; all_goals (with_reducible rfl))
  simp only [List.set_cons_succ, List.set_cons_zero]
  refine Nt.takeS (v := ?vb7) 7 38 rfl rfl (by kernel_rfl) (by kernel_rfl) (by kernel_rfl) (fun _ _ _ h => h) (Or.inl ⟨by rfl, ?yb7⟩) hT1 ?rb7
  case yb7 => (intro w hSw; (try dsimp only at hSw); go_simp; all_goals (with_reducible rfl))
  simp only [List.set_cons_succ, List.set_cons_zero]
  refine Nt.takeS (v := ?vb8) 8 39 rfl rfl (by kernel_rfl) (by kernel_rfl) (by kernel_rfl) (fun _ _ _ h => h) (Or.inl ⟨by rfl, ?yb8⟩) hT1 ?rb8
  case yb8 => (intro w hSw; (try dsimp only at hSw); go_simp; all_goals (with_reducible rfl))
  simp only [List.set_cons_succ, List.set_cons_zero]
  refine Nt.takeS (v := ?vb9) 9 40 rfl rfl (by kernel_rfl) (by kernel_rfl) (by kernel_rfl) (fun _ _ _ h => h) (Or.inl ⟨by rfl, ?yb9⟩) hT1 ?rb9
  case yb9 => (intro w hSw; (try dsimp only at hSw); go_simp; all_goals (with_reducible rfl))
  simp only [List.set_cons_succ, List.set_cons_zero]
  refine Nt.takeS (v := ?vb10) 10 41 rfl rfl (by kernel_rfl) (by kernel_rfl) (by kernel_rfl) (fun _ _ _ h => h) (Or.inl ⟨by rfl, ?yb10⟩) hT1 ?rb10
  case yb10 => (intro w hSw; (try dsimp only at hSw); go_simp; all_goals (with_reducible rfl))
  simp only [List.set_cons_succ, List.set_cons_zero]
  refine Nt.takeS (v := ?vb11) 11 42 rfl rfl (by kernel_rfl) (by kernel_rfl) (by kernel_rfl) (fun _ _ _ h => h) (Or.inl ⟨by rfl, ?yb11⟩) hT1 ?rb11
  case yb11 => (intro w hSw; (try dsimp only at hSw); go_simp; all_goals (with_reducible rfl))
  simp only [List.set_cons_succ, List.set_cons_zero]
  refine wpAnyH_ready (rs := [12]) (by kernel_rfl) (by simp) ?_
  refine AllReadyH.cons rfl (fun K hK => ?_) AllReadyH.nil
  go_simp
  go_at_call 10
  refine Calls.mono (HS.out _ (HU.out _ HB1.out)) ?_
  rintro e' W112 ⟨rfl, hb12⟩
  have HB12 : Hid (Below WX.heap.size WX W112) := HB1.out.trans (hb12.mono HB1.out.size)
  clear hb12
  go_wp2_with fail
  refine hK.out _ _ ?_ (fun hT12 => ?_)
  ·exact HS6.out _ HB12.out
  clear hK K
  first | refine Nt.normS 43 rfl ?_ | skip
  first | (simp only [List.set_cons_succ, List.set_cons_zero]) | skip
  refine Nt.takeS (v := ?ve13) 13 44 rfl rfl (by kernel_rfl) (by kernel_rfl) (by kernel_rfl) (fun _ _ _ h => h) (Or.inl ⟨by rfl, ?ye13⟩) hT12 ?re13
  case ye13 => (intro w hSw; (try dsimp only at hSw); go_simp; all_goals (with_reducible rfl))
  simp only [List.set_cons_succ, List.set_cons_zero]
  refine Nt.takeS (v := ?ve14) 14 6 rfl rfl (by kernel_rfl) (by kernel_rfl) (by kernel_rfl) (fun _ _ _ h => h) (Or.inl ⟨by rfl, ?ye14⟩) hT12 ?re14
  case ye14 => (intro w hSw; (try dsimp only at hSw); go_simp; all_goals (with_reducible rfl))
  simp only [List.set_cons_succ, List.set_cons_zero]
  refine wpAnyH_done (by kernel_rfl) ?_ _
  go_wp2_with fail
  go_ret
  exact ⟨rfl, HU.out _ HB12.out⟩
end Go.Proofs.YtmomffminkflnaaGreatDoor.DeadChooses
namespace Go.Proofs.YtmomffminkflnaaGreatDoor
open Go.ChangeShapes Go.WideShapes Go.ChangeAt Go.RowKit
theorem gOps : Tryz.prog.globalNamed "treenail/term.operators" = some 0 := by kernel_rfl
theorem gOpsType : (Tryz.prog.globals[0]?).map (·.type) = some 158 := by kernel_rfl
theorem cellsOps : Tryz.prog.cellsOf 158 = 75 := by kernel_rfl
theorem cellsOp : Tryz.prog.cellsOf 157 = 5 := by kernel_rfl
theorem cellsInt' : Tryz.prog.cellsOf 3 = 1 := by kernel_rfl
theorem cellsString' : Tryz.prog.cellsOf 9 = 1 := by kernel_rfl
theorem list5' {α : Type} {l : List α} (h : l.length = 5) : ∃ a b c d e, l = [a, b, c, d, e] := by
 match l, h with
 | [a, b, c, d, e], _ => exact ⟨a, b, c, d, e, rfl⟩
theorem op_one {H : Type} {enc : TypeId × Value → H} {W : World} {base : Nat} {sp : Nat → Bool} {held : Bool} {fuel : Nat} {cs : List Value} {x : DataW H × List MemPlace} {t : List UInt8} {n1 n2 n3 n4 : Int}
  (h : DataW.trod enc Tryz.prog W base sp held fuel 157 cs = some x) (hx : x.1 = .agg [.lit (.string t), .lit (.int .i64 n1), .lit (.int .i64 n2), .lit (.int .i64 n3), .lit (.int .i64 n4)]) :
  cs = [.string ⟨t.toArray⟩, .int .i64 n1, .int .i64 n2, .int .i64 n3, .int .i64 n4] := by
 obtain ⟨ys, n, _, hx', hl, hy, hf⟩ := DataW.trod_struct Tryz.underlying157 h
 rw [cellsOp] at hl
 have hy : ys.length = 5 := hy
 obtain ⟨c0, c1, c2, c3, c4, rfl⟩ := list5' hl
 obtain ⟨y0, y1, y2, y3, y4, rfl⟩ := list5' hy
 have g0 : DataW.trod enc Tryz.prog W base sp held n 9 (([c0, c1, c2, c3, c4].drop 0).take (Tryz.prog.cellsOf 9)) = [y0, y1, y2, y3, y4][0]? := hf 0 _ rfl
 have g1 : DataW.trod enc Tryz.prog W base sp held n 3 (([c0, c1, c2, c3, c4].drop 1).take (Tryz.prog.cellsOf 3)) = [y0, y1, y2, y3, y4][1]? := hf 1 _ rfl
 have g2 : DataW.trod enc Tryz.prog W base sp held n 3 (([c0, c1, c2, c3, c4].drop 2).take (Tryz.prog.cellsOf 3)) = [y0, y1, y2, y3, y4][2]? := hf 2 _ rfl
 have g3 : DataW.trod enc Tryz.prog W base sp held n 3 (([c0, c1, c2, c3, c4].drop 3).take (Tryz.prog.cellsOf 3)) = [y0, y1, y2, y3, y4][3]? := hf 3 _ rfl
 have g4 : DataW.trod enc Tryz.prog W base sp held n 3 (([c0, c1, c2, c3, c4].drop 4).take (Tryz.prog.cellsOf 3)) = [y0, y1, y2, y3, y4][4]? := hf 4 _ rfl
 rw [cellsString'] at g0
 rw [cellsInt'] at g1 g2 g3 g4
 obtain ⟨s, e0, d0, _⟩ := DataW.trod_string Tryz.underlying9 g0
 obtain ⟨m1, e1, d1, _⟩ := DataW.trod_int Tryz.underlying3 g1
 obtain ⟨m2, e2, d2, _⟩ := DataW.trod_int Tryz.underlying3 g2
 obtain ⟨m3, e3, d3, _⟩ := DataW.trod_int Tryz.underlying3 g3
 obtain ⟨m4, e4, d4, _⟩ := DataW.trod_int Tryz.underlying3 g4
 obtain rfl : c0 = .string s := (List.cons.inj e0).1
 obtain rfl : c1 = .int .i64 m1 := (List.cons.inj e1).1
 obtain rfl : c2 = .int .i64 m2 := (List.cons.inj e2).1
 obtain rfl : c3 = .int .i64 m3 := (List.cons.inj e3).1
 obtain rfl : c4 = .int .i64 m4 := (List.cons.inj e4).1
 rw [hx'] at hx
 rw [d0, d1, d2, d3, d4] at hx
 simp only [List.map_cons, List.map_nil, DataW.agg.injEq, List.cons.injEq, DataW.lit.injEq, Lit.int.injEq, Lit.string.injEq, and_true, true_and] at hx
 obtain ⟨rfl, rfl, rfl, rfl, rfl⟩ := hx
 rfl
theorem ops_of_laid {W : World} (h : laidMet Tryz.prog [("treenail/term.operators", Rows.laid_treenail_term_operators)] W) : Tk.Ops W := by
 obtain ⟨ps, ⟨g', t', cs, fuel, p, q, hg', ht', hvar, hd, _, _⟩, _⟩ := h
 obtain rfl := Option.some.inj (gOps.symm.trans hg')
 obtain rfl := Option.some.inj (gOpsType.symm.trans ht')
 obtain ⟨xs, m, rfl, hx, hl, hxl, hf⟩ := DataW.trod_array Tryz.underlying158 hd
 rw [cellsOps] at hl
 simp only [cellsOp] at hf
 have hx1 := congrArg Prod.fst hx
 have hlen : xs.length = 15 := hxl
 simp only [Rows.laid_treenail_term_operators, DataW.agg.injEq] at hx1
 have row : ∀ (i : Nat) (t : List UInt8) (n1 n2 n3 n4 : Int), i < 15 → (xs.map (·.1))[i]? = some (.agg [.lit (.string t), .lit (.int .i64 n1), .lit (.int .i64 n2), .lit (.int .i64 n3), .lit (.int .i64 n4)]) →
   (cs.toList.drop (i * 5)).take 5 = [.string ⟨t.toArray⟩, .int .i64 n1, .int .i64 n2, .int .i64 n3, .int .i64 n4] := by
  intro i t n1 n2 n3 n4 hi hL
  obtain ⟨x, hxi⟩ : ∃ x, xs[i]? = some x := ⟨xs[i]'(by omega), List.getElem?_eq_getElem (by omega)⟩
  rw [List.getElem?_map, hxi] at hL
  exact op_one (x := x) ((hf i hi).trans hxi) (by simpa using hL)
 have step : ∀ n, cs.toList.drop n = (cs.toList.drop n).take 5 ++ cs.toList.drop (n + 5) := fun n => by
  have := (List.take_append_drop 5 (cs.toList.drop n)).symm
  rw [List.drop_drop] at this
  exact this
 have r0 := row 0 [] 0 0 0 0 (by decide) (by rw [← hx1]; rfl)
 have r1 := row 1 [] 0 0 1099511627776 1 (by decide) (by rw [← hx1]; rfl)
 have r2 := row 2 [36] 0 0 3 1 (by decide) (by rw [← hx1]; rfl)
 have r3 := row 3 [110, 101, 103] 1 1 0 1 (by decide) (by rw [← hx1]; rfl)
 have r4 := row 4 [110, 111, 116] 1 2 0 2 (by decide) (by rw [← hx1]; rfl)
 have r5 := row 5 [97, 100, 100] 2 1 0 1 (by decide) (by rw [← hx1]; rfl)
 have r6 := row 6 [115, 117, 98] 2 1 0 1 (by decide) (by rw [← hx1]; rfl)
 have r7 := row 7 [109, 117, 108] 2 1 0 1 (by decide) (by rw [← hx1]; rfl)
 have r8 := row 8 [100, 105, 118] 2 1 0 1 (by decide) (by rw [← hx1]; rfl)
 have r9 := row 9 [109, 111, 100] 2 1 0 1 (by decide) (by rw [← hx1]; rfl)
 have r10 := row 10 [101, 113] 2 1 0 2 (by decide) (by rw [← hx1]; rfl)
 have r11 := row 11 [108, 116] 2 1 0 2 (by decide) (by rw [← hx1]; rfl)
 have r12 := row 12 [108, 101] 2 1 0 2 (by decide) (by rw [← hx1]; rfl)
 have r13 := row 13 [97, 110, 100] 2 2 0 2 (by decide) (by rw [← hx1]; rfl)
 have r14 := row 14 [111, 114] 2 2 0 2 (by decide) (by rw [← hx1]; rfl)
 have hca : cs = Tk.opVals := by
  apply Array.toList_inj.1
  have h0 : cs.toList = cs.toList.drop 0 := rfl
  have h75 : cs.toList.drop 75 = [] := List.drop_eq_nil_iff.2 (by omega)
  rw [h0, step 0, step 5, step 10, step 15, step 20, step 25, step 30, step 35, step 40, step 45, step 50, step 55, step 60, step 65, step 70, h75]
  have q0 : (cs.toList.drop 0).take 5 = _ := r0
  have q1 : (cs.toList.drop 5).take 5 = _ := r1
  have q2 : (cs.toList.drop 10).take 5 = _ := r2
  have q3 : (cs.toList.drop 15).take 5 = _ := r3
  have q4 : (cs.toList.drop 20).take 5 = _ := r4
  have q5 : (cs.toList.drop 25).take 5 = _ := r5
  have q6 : (cs.toList.drop 30).take 5 = _ := r6
  have q7 : (cs.toList.drop 35).take 5 = _ := r7
  have q8 : (cs.toList.drop 40).take 5 = _ := r8
  have q9 : (cs.toList.drop 45).take 5 = _ := r9
  have q10 : (cs.toList.drop 50).take 5 = _ := r10
  have q11 : (cs.toList.drop 55).take 5 = _ := r11
  have q12 : (cs.toList.drop 60).take 5 = _ := r12
  have q13 : (cs.toList.drop 65).take 5 = _ := r13
  have q14 : (cs.toList.drop 70).take 5 = _ := r14
  rw [q0, q1, q2, q3, q4, q5, q6, q7, q8, q9, q10, q11, q12, q13, q14]
  rfl
 subst hca
 simp only [World.var?, gOps, Option.bind_some] at hvar
 split at hvar
 ·rename_i cs' t fz hh
  obtain rfl := Option.some.inj hvar
  exact ⟨t, fz, hh⟩
 ·cases hvar
end Go.Proofs.YtmomffminkflnaaGreatDoor
namespace Go.Proofs
open Go.RowKit Go.ChangeShapes Go.WideShapes Go.Deep
instance : Inhabited Tm := ⟨.mk 0 0 []⟩
theorem Tm.Lies.more {w : World} {B : Nat} : ∀ {d : Nat} {v : Value} {T : Tm}, Tm.Lies w B d v T → Tm.Lies w B (d + 1) v T
 | 0, _, _, h => h.elim
 | d + 1, v, T, h => by
   obtain ⟨a, cap, hv, h⟩ := h
   refine ⟨a, cap, hv, h.elim .inl fun ⟨g, off, ha, hg, hr⟩ => .inr ⟨g, off, ha, hg, fun j hj => ?_⟩⟩
   obtain ⟨u, h0, h1, h2, h3⟩ := hr j hj
   exact ⟨u, h0, h1, h2, Tm.Lies.more h3⟩
theorem Tk.cellsTerm : Tryz.prog.cellsOf 24 = 3 := by kernel_rfl
theorem Tk.cellsInt1 : Tryz.prog.cellsOf 3 = 1 := by kernel_rfl
theorem Tk.cellsTerms : Tryz.prog.cellsOf 22 = 1 := by kernel_rfl
theorem Tk.list3 {α : Type} {l : List α} (h : l.length = 3) : ∃ a b c, l = [a, b, c] := by
 match l, h with
 | [a, b, c], _ => exact ⟨a, b, c, rfl⟩
theorem Tk.cell_lt {w : World} {a : Addr} {v : Value} (h : w.cell? a = some v) : a.block < w.heap.size := by
 rcases Nat.lt_or_ge a.block w.heap.size with h1 | h1
 ·exact h1
 ·unfold World.cell? at h
  simp [h1] at h
theorem Tm.open_term {H : Type} {enc : TypeId × Value → H} {w : World} {spare : Nat → Bool} {held : Bool} : ∀ (fuel : Nat) (cs : List Value) (x : DataW H × List MemPlace), DataW.trod enc Tryz.prog w 0 spare held fuel 24 cs = some x →
   ∃ (T : Tm) (v : Value), cs = [.int .i64 T.op, .int .i64 T.num, v] ∧ Tm.Lies w w.heap.size fuel v T := by
 intro fuel
 induction fuel using Nat.strongRecOn with
 | _ fuel ih =>
   intro cs x h
   obtain ⟨ys, n, rfl, hx, hl, hy, hf⟩ := DataW.trod_struct Tryz.underlying24 h
   rw [Tk.cellsTerm] at hl
   have hy : ys.length = 3 := hy
   obtain ⟨c0, c1, c2, rfl⟩ := Tk.list3 hl
   obtain ⟨y0, y1, y2, rfl⟩ := Tk.list3 hy
   have g0 : DataW.trod enc Tryz.prog w 0 spare held n 3 (([c0, c1, c2].drop 0).take (Tryz.prog.cellsOf 3)) = [y0, y1, y2][0]? := hf 0 _ rfl
   have g1 : DataW.trod enc Tryz.prog w 0 spare held n 3 (([c0, c1, c2].drop 1).take (Tryz.prog.cellsOf 3)) = [y0, y1, y2][1]? := hf 1 _ rfl
   have g2 : DataW.trod enc Tryz.prog w 0 spare held n 22 (([c0, c1, c2].drop 2).take (Tryz.prog.cellsOf 22)) = [y0, y1, y2][2]? := hf 2 _ rfl
   rw [Tk.cellsInt1] at g0 g1
   rw [Tk.cellsTerms] at g2
   obtain ⟨o, e0, _⟩ := DataW.trod_int Tryz.underlying3 g0
   obtain ⟨m, e1, _⟩ := DataW.trod_int Tryz.underlying3 g1
   obtain rfl : c0 = .int .i64 o := (List.cons.inj e0).1
   obtain rfl : c1 = .int .i64 m := (List.cons.inj e1).1
   rcases DataW.trod_slice Tryz.underlying22 g2 with ⟨e2, _⟩ | ⟨a, len, cap, elems, rest, n', hn', e2, _, _, hlc, _, hlen, hel, _, _⟩
   ·obtain rfl : c2 = .slice none 0 0 := (List.cons.inj e2).1
    exact ⟨.mk o m [], .slice none 0 0, rfl, none, 0, rfl, .inl rfl⟩
   ·obtain rfl : c2 = .slice (some a) len cap := (List.cons.inj e2).1
    subst hn'
    have each : ∀ i, i < len → ∃ q : Tm, ∃ u, w.cell? (a.add (i * 3)) = some (.int .i64 q.op) ∧ w.cell? ((a.add (i * 3)).add 1) = some (.int .i64 q.num) ∧ w.cell? ((a.add (i * 3)).add 2) = some u ∧ Tm.Lies w w.heap.size n' u q := by
     intro i hi
     have h1 := hel i hi
     rw [Tk.cellsTerm, List.getElem?_eq_getElem (by omega)] at h1
     obtain ⟨cs', h2, h3⟩ := Option.bind_eq_some_iff.1 h1
     obtain ⟨q, u, rfl, hq⟩ := ih n' (by omega) cs' _ h3
     obtain ⟨_, hl3, hc⟩ := World.cells?_some h2
     exact ⟨q, u, by simpa [Addr.add] using hc 0 (by simp), by simpa using hc 1 (by simp), by simpa using hc 2 (by simp), hq⟩
    obtain ⟨q, hq⟩ := choose_lt each
    have hlen' : ((List.range len).map q).length = len := by simp
    have hget : ∀ j (h : j < ((List.range len).map q).length), ((List.range len).map q)[j] = q j := fun j h => by simp
    refine ⟨.mk o m ((List.range len).map q), .slice (some a) len cap, rfl, some a, cap, by rw [show (Tm.mk o m ((List.range len).map q)).ks = (List.range len).map q from rfl, hlen'], ?_⟩
    by_cases hz : len = 0
    ·subst hz; exact .inl rfl
    ·obtain ⟨g, off, spot⟩ := a
     obtain ⟨_, h0, _⟩ := hq 0 (by omega)
     have hspot : spot = none := by simpa [Addr.add] using World.cell?_spot h0
     subst hspot
     have hg : g < w.heap.size := by
      have := Tk.cell_lt h0
      simpa [Addr.add] using this
     refine .inr ⟨g, off, rfl, hg, fun j hj => ?_⟩
     have hj' : j < ((List.range len).map q).length := hj
     show ∃ u, w.cell? ⟨g, off + j * 3, none⟩ = some (.int .i64 (((List.range len).map q)[j]'hj').op) ∧ w.cell? ⟨g, off + j * 3 + 1, none⟩ = some (.int .i64 (((List.range len).map q)[j]'hj').num) ∧ w.cell? ⟨g, off + j * 3 + 2, none⟩ = some u ∧ Tm.Lies w w.heap.size (n' + 1) u (((List.range len).map q)[j]'hj')
     rw [hget j hj']
     rw [hlen'] at hj'
     obtain ⟨u, p0, p1, p2, p3⟩ := hq j hj'
     have ea : ∀ (c k : Nat), ((⟨g, off, none⟩ : Addr).add c).add k = ⟨g, off + c + k, none⟩ := fun c k => by rw [Go.WideShapes.add_plain, Go.WideShapes.add_plain]
     rw [Go.WideShapes.add_plain] at p0
     rw [ea] at p1 p2
     exact ⟨u, p0, p1, p2, p3.more⟩
end Go.Proofs
namespace Go.Proofs
open Go.RowKit Go.ChangeShapes Go.WideShapes
theorem Fk.laidOut : laidOutB Tryz.prog = true := by kernel_rfl
theorem Fk.trodAll_below' {H : Type} {enc : TypeId × Value → H} {P : Program} (hl : laidOutB P = true) {W W' : World} (hb : Below W.heap.size W W') : ∀ {ts : List TypeId} {vs : List Value} {ds : List (DataW H)} {ps : List MemPlace},
   (ts.all fun t => P.readableRec t && decide (t < P.types.size)) = true → DataW.TrodAll enc P W 0 (fun _ => true) true ts vs ds ps → (∀ x ∈ ps, x.block < W.heap.size) →
   DataW.TrodAll enc P W' 0 (fun b => decide (b < W.heap.size)) true ts vs ds ps
 | [], [], [], _, _, h, _ => h
 | t :: _, _ :: _, _ :: _, _, hT, ⟨p, q, h1, h2, e⟩, hs => by
   simp only [List.all_cons, Bool.and_eq_true, decide_eq_true_eq] at hT
   exact ⟨p, q, Below.trod hl hT.1.1 hT.1.2 h1 hb (fun x hx => hs x (by rw [e]; exact List.mem_append_left _ hx)),
    Fk.trodAll_below' hl hb hT.2 h2 (fun x hx => hs x (by rw [e]; exact List.mem_append_right _ hx)), e⟩
theorem Fk.trodAll_below {H : Type} {enc : TypeId × Value → H} {W W' : World} (hb : Below W.heap.size W W') {ts : List TypeId} {vs : List Value} {ds : List (DataW H)} {ps : List MemPlace}
 (hT : (ts.all fun t => Tryz.prog.readableRec t && decide (t < Tryz.prog.types.size)) = true) (h : DataW.TrodAll enc Tryz.prog W 0 (fun _ => true) true ts vs ds ps) (hs : ∀ x ∈ ps, x.block < W.heap.size) :
 DataW.TrodAll enc Tryz.prog W' 0 (fun b => decide (b < W.heap.size)) true ts vs ds ps := Fk.trodAll_below' Fk.laidOut hb hT h hs
end Go.Proofs
namespace Go.Proofs
open Go.RowKit Go.ChangeShapes Go.WideShapes Go.Deep
theorem Tm.Lies.up {w : World} {B : Nat} {d e : Nat} {v : Value} {T : Tm} (h : Tm.Lies w B d v T) (he : d ≤ e) : Tm.Lies w B e v T := by
 induction he with
 | refl => exact h
 | step _ ih => exact ih.more
theorem Nt.cellsNode : Tryz.prog.cellsOf 76 = 5 := by kernel_rfl
theorem Nt.cellsFlow : Tryz.prog.cellsOf 78 = 6 := by kernel_rfl
theorem Nt.cellsNet : Tryz.prog.cellsOf 30 = 2 := by kernel_rfl
theorem Nt.cellsBool : Tryz.prog.cellsOf 4 = 1 := by kernel_rfl
theorem Nt.cellsNodes : Tryz.prog.cellsOf 27 = 1 := by kernel_rfl
theorem Nt.cellsFlows : Tryz.prog.cellsOf 28 = 1 := by kernel_rfl
theorem Nt.list2 {α : Type} {l : List α} (h : l.length = 2) : ∃ a b, l = [a, b] := by
 match l, h with
 | [a, b], _ => exact ⟨a, b, rfl⟩
theorem Nt.list4 {α : Type} {l : List α} (h : l.length = 4) : ∃ a b c d, l = [a, b, c, d] := by
 match l, h with
 | [a, b, c, d], _ => exact ⟨a, b, c, d, rfl⟩
theorem Nt.list5 {α : Type} {l : List α} (h : l.length = 5) : ∃ a b c d e, l = [a, b, c, d, e] := by
 match l, h with
 | [a, b, c, d, e], _ => exact ⟨a, b, c, d, e, rfl⟩
theorem Nt.list6 {α : Type} {l : List α} (h : l.length = 6) : ∃ a b c d e f, l = [a, b, c, d, e, f] := by
 match l, h with
 | [a, b, c, d, e, f], _ => exact ⟨a, b, c, d, e, f, rfl⟩
section
variable {H : Type} {enc : TypeId × Value → H} {w : World} {spare : Nat → Bool} {held : Bool}
theorem Nt.open_node (fuel : Nat) (cs : List Value) (x : DataW H × List MemPlace) (h : DataW.trod enc Tryz.prog w 0 spare held fuel 76 cs = some x) :
  ∃ (X : Nd) (v : Value), cs = [.int .i64 X.kind, .int .i64 X.a, .int .i64 X.t.op, .int .i64 X.t.num, v] ∧ Tm.Lies w w.heap.size fuel v X.t := by
 obtain ⟨ys, n, rfl, hx, hl, hy, hf⟩ := DataW.trod_struct Tryz.underlying76 h
 rw [Nt.cellsNode] at hl
 have hy : ys.length = 3 := hy
 obtain ⟨c0, c1, c2, c3, c4, rfl⟩ := Nt.list5 hl
 obtain ⟨y0, y1, y2, rfl⟩ := Tk.list3 hy
 have g0 : DataW.trod enc Tryz.prog w 0 spare held n 3 (([c0, c1, c2, c3, c4].drop 0).take (Tryz.prog.cellsOf 3)) = [y0, y1, y2][0]? := hf 0 _ rfl
 have g1 : DataW.trod enc Tryz.prog w 0 spare held n 3 (([c0, c1, c2, c3, c4].drop 1).take (Tryz.prog.cellsOf 3)) = [y0, y1, y2][1]? := hf 1 _ rfl
 have g2 : DataW.trod enc Tryz.prog w 0 spare held n 24 (([c0, c1, c2, c3, c4].drop 2).take (Tryz.prog.cellsOf 24)) = [y0, y1, y2][2]? := hf 2 _ rfl
 rw [Tk.cellsInt1] at g0 g1
 rw [Tk.cellsTerm] at g2
 obtain ⟨o, e0, _⟩ := DataW.trod_int Tryz.underlying3 g0
 obtain ⟨m, e1, _⟩ := DataW.trod_int Tryz.underlying3 g1
 obtain rfl : c0 = .int .i64 o := (List.cons.inj e0).1
 obtain rfl : c1 = .int .i64 m := (List.cons.inj e1).1
 obtain ⟨T, v, hcs, hT⟩ := Tm.open_term n _ _ g2
 have h3 : [c2, c3, c4] = [.int .i64 T.op, .int .i64 T.num, v] := hcs
 simp only [List.cons.injEq, and_true] at h3
 obtain ⟨rfl, rfl, rfl⟩ := h3
 exact ⟨⟨o, m, T⟩, c4, rfl, hT.up (by omega)⟩
theorem Nt.open_flow (fuel : Nat) (cs : List Value) (x : DataW H × List MemPlace) (h : DataW.trod enc Tryz.prog w 0 spare held fuel 78 cs = some x) :
  ∃ (X : Fl) (v : Value), cs = [.int .i64 X.fr, .int .i64 X.to, .bool X.els, .int .i64 X.c.op, .int .i64 X.c.num, v] ∧ Tm.Lies w w.heap.size fuel v X.c := by
 obtain ⟨ys, n, rfl, hx, hl, hy, hf⟩ := DataW.trod_struct Tryz.underlying78 h
 rw [Nt.cellsFlow] at hl
 have hy : ys.length = 4 := hy
 obtain ⟨c0, c1, c2, c3, c4, c5, rfl⟩ := Nt.list6 hl
 obtain ⟨y0, y1, y2, y3, rfl⟩ := Nt.list4 hy
 have g0 : DataW.trod enc Tryz.prog w 0 spare held n 3 (([c0, c1, c2, c3, c4, c5].drop 0).take (Tryz.prog.cellsOf 3)) = [y0, y1, y2, y3][0]? := hf 0 _ rfl
 have g1 : DataW.trod enc Tryz.prog w 0 spare held n 3 (([c0, c1, c2, c3, c4, c5].drop 1).take (Tryz.prog.cellsOf 3)) = [y0, y1, y2, y3][1]? := hf 1 _ rfl
 have g2 : DataW.trod enc Tryz.prog w 0 spare held n 4 (([c0, c1, c2, c3, c4, c5].drop 2).take (Tryz.prog.cellsOf 4)) = [y0, y1, y2, y3][2]? := hf 2 _ rfl
 have g3 : DataW.trod enc Tryz.prog w 0 spare held n 24 (([c0, c1, c2, c3, c4, c5].drop 3).take (Tryz.prog.cellsOf 24)) = [y0, y1, y2, y3][3]? := hf 3 _ rfl
 rw [Tk.cellsInt1] at g0 g1
 rw [Nt.cellsBool] at g2
 rw [Tk.cellsTerm] at g3
 obtain ⟨o, e0, _⟩ := DataW.trod_int Tryz.underlying3 g0
 obtain ⟨m, e1, _⟩ := DataW.trod_int Tryz.underlying3 g1
 obtain ⟨b, e2, _⟩ := DataW.trod_bool Tryz.underlying4 g2
 obtain rfl : c0 = .int .i64 o := (List.cons.inj e0).1
 obtain rfl : c1 = .int .i64 m := (List.cons.inj e1).1
 obtain rfl : c2 = .bool b := (List.cons.inj e2).1
 obtain ⟨T, v, hcs, hT⟩ := Tm.open_term n _ _ g3
 have h3 : [c3, c4, c5] = [.int .i64 T.op, .int .i64 T.num, v] := hcs
 simp only [List.cons.injEq, and_true] at h3
 obtain ⟨rfl, rfl, rfl⟩ := h3
 exact ⟨⟨o, m, b, T⟩, c5, rfl, hT.up (by omega)⟩
theorem Nt.open_nodes (fuel : Nat) (c : Value) (x : DataW H × List MemPlace) (h : DataW.trod enc Tryz.prog w 0 spare held fuel 27 [c] = some x) : ∃ a cap ns, c = .slice a (ns : List Nd).length cap ∧ Nt.Nds w w.heap.size fuel a ns := by
 rcases DataW.trod_slice Tryz.underlying27 h with ⟨e2, _⟩ | ⟨a, len, cap, elems, rest, n', hn', e2, _, _, hlc, _, hlen, hel, _, _⟩
 ·obtain rfl : c = .slice none 0 0 := (List.cons.inj e2).1
  exact ⟨none, 0, [], rfl, fun j hj => by simp at hj⟩
 ·obtain rfl : c = .slice (some a) len cap := (List.cons.inj e2).1
  subst hn'
  have each : ∀ i, i < len → ∃ q : Nd, ∃ u, w.cell? (a.add (i * 5)) = some (.int .i64 q.kind) ∧ w.cell? ((a.add (i * 5)).add 1) = some (.int .i64 q.a) ∧ w.cell? ((a.add (i * 5)).add 2) = some (.int .i64 q.t.op) ∧ w.cell? ((a.add (i * 5)).add 3) = some (.int .i64 q.t.num) ∧ w.cell? ((a.add (i * 5)).add 4) = some u ∧ Tm.Lies w w.heap.size n' u q.t := by
   intro i hi
   have h1 := hel i hi
   rw [Nt.cellsNode, List.getElem?_eq_getElem (by omega)] at h1
   obtain ⟨cs', h2, h3⟩ := Option.bind_eq_some_iff.1 h1
   obtain ⟨q, u, rfl, hq⟩ := Nt.open_node n' cs' _ h3
   obtain ⟨_, hl3, hc⟩ := World.cells?_some h2
   exact ⟨q, u, by simpa [Addr.add] using hc 0 (by simp), by simpa using hc 1 (by simp), by simpa using hc 2 (by simp), by simpa using hc 3 (by simp), by simpa using hc 4 (by simp), hq⟩
  by_cases hz : len = 0
  ·subst hz
   exact ⟨some a, cap, [], rfl, fun j hj => by simp at hj⟩
  ·haveI : Inhabited Nd := ⟨⟨0, 0, .mk 0 0 []⟩⟩
   obtain ⟨q, hq⟩ := choose_lt each
   have hlen' : ((List.range len).map q).length = len := by simp
   refine ⟨some a, cap, (List.range len).map q, by rw [hlen'], fun j hj => ?_⟩
   obtain ⟨g, off, spot⟩ := a
   obtain ⟨_, h0, _⟩ := hq 0 (by omega)
   have hspot : spot = none := by simpa [Addr.add] using World.cell?_spot h0
   subst hspot
   have hg : g < w.heap.size := by
    have := Tk.cell_lt h0
    simpa [Addr.add] using this
   have hget : ((List.range len).map q)[j] = q j := by simp
   rw [hget]
   rw [hlen'] at hj
   obtain ⟨u, p0, p1, p2, p3, p4, p5⟩ := hq j hj
   have ea : ∀ (c k : Nat), ((⟨g, off, none⟩ : Addr).add c).add k = ⟨g, off + c + k, none⟩ := fun c k => by rw [Go.WideShapes.add_plain, Go.WideShapes.add_plain]
   rw [Go.WideShapes.add_plain] at p0
   rw [ea] at p1 p2 p3 p4
   exact ⟨g, off, u, rfl, hg, p0, p1, p2, p3, p4, p5.up (by omega)⟩
theorem Nt.open_flows (fuel : Nat) (c : Value) (x : DataW H × List MemPlace) (h : DataW.trod enc Tryz.prog w 0 spare held fuel 28 [c] = some x) : ∃ a cap fs, c = .slice a (fs : List Fl).length cap ∧ Nt.Fls w w.heap.size fuel a fs := by
 rcases DataW.trod_slice Tryz.underlying28 h with ⟨e2, _⟩ | ⟨a, len, cap, elems, rest, n', hn', e2, _, _, hlc, _, hlen, hel, _, _⟩
 ·obtain rfl : c = .slice none 0 0 := (List.cons.inj e2).1
  exact ⟨none, 0, [], rfl, fun j hj => by simp at hj⟩
 ·obtain rfl : c = .slice (some a) len cap := (List.cons.inj e2).1
  subst hn'
  have each : ∀ i, i < len → ∃ q : Fl, ∃ u, w.cell? (a.add (i * 6)) = some (.int .i64 q.fr) ∧ w.cell? ((a.add (i * 6)).add 1) = some (.int .i64 q.to) ∧ w.cell? ((a.add (i * 6)).add 2) = some (.bool q.els) ∧ w.cell? ((a.add (i * 6)).add 3) = some (.int .i64 q.c.op) ∧ w.cell? ((a.add (i * 6)).add 4) = some (.int .i64 q.c.num) ∧ w.cell? ((a.add (i * 6)).add 5) = some u ∧ Tm.Lies w w.heap.size n' u q.c := by
   intro i hi
   have h1 := hel i hi
   rw [Nt.cellsFlow, List.getElem?_eq_getElem (by omega)] at h1
   obtain ⟨cs', h2, h3⟩ := Option.bind_eq_some_iff.1 h1
   obtain ⟨q, u, rfl, hq⟩ := Nt.open_flow n' cs' _ h3
   obtain ⟨_, hl3, hc⟩ := World.cells?_some h2
   exact ⟨q, u, by simpa [Addr.add] using hc 0 (by simp), by simpa using hc 1 (by simp), by simpa using hc 2 (by simp), by simpa using hc 3 (by simp), by simpa using hc 4 (by simp), by simpa using hc 5 (by simp), hq⟩
  by_cases hz : len = 0
  ·subst hz
   exact ⟨some a, cap, [], rfl, fun j hj => by simp at hj⟩
  ·haveI : Inhabited Fl := ⟨⟨0, 0, false, .mk 0 0 []⟩⟩
   obtain ⟨q, hq⟩ := choose_lt each
   have hlen' : ((List.range len).map q).length = len := by simp
   refine ⟨some a, cap, (List.range len).map q, by rw [hlen'], fun j hj => ?_⟩
   obtain ⟨g, off, spot⟩ := a
   obtain ⟨_, h0, _⟩ := hq 0 (by omega)
   have hspot : spot = none := by simpa [Addr.add] using World.cell?_spot h0
   subst hspot
   have hg : g < w.heap.size := by
    have := Tk.cell_lt h0
    simpa [Addr.add] using this
   have hget : ((List.range len).map q)[j] = q j := by simp
   rw [hget]
   rw [hlen'] at hj
   obtain ⟨u, p0, p1, p2, p3, p4, p5, p6⟩ := hq j hj
   have ea : ∀ (c k : Nat), ((⟨g, off, none⟩ : Addr).add c).add k = ⟨g, off + c + k, none⟩ := fun c k => by rw [Go.WideShapes.add_plain, Go.WideShapes.add_plain]
   rw [Go.WideShapes.add_plain] at p0
   rw [ea] at p1 p2 p3 p4 p5
   exact ⟨g, off, u, rfl, hg, p0, p1, p2, p3, p4, p5, p6.up (by omega)⟩
end
end Go.Proofs
