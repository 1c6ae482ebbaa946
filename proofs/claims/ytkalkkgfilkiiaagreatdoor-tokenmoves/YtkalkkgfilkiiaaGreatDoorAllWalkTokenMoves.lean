/-
  The walk of TokenMoves: the moves of any process and state, and what is wrong with them, as the document tells them.
-/
import Derived.Test.YtkalkkgfilkiiaaGreatDoorAllGmLine
import Derived.Test.YtkalkkgfilkiiaaGreatDoorAllGmLSame
import Derived.Test.YtkalkkgfilkiiaaGreatDoorGmTokens
import Derived.Test.YtkalkkgfilkiiaaGreatDoorAllTChk
import Derived.Test.YtkalkkgfilkiiaaGreatDoorRows
import Derived.ProofKit
import Derived.OpenShut
namespace Go.Proofs.YtkalkkgfilkiiaaGreatDoor.TokenMoves
open Go.RowKit Go.Shelf

set_option maxRecDepth 20000 in
set_option maxHeartbeats 32000000 in
theorem walk (an : Option Addr) (cn : Nat) (af : Option Addr) (cf : Nat) (ns : List Nd) (fs : List Fl) (l : List Int) (d : Nat) (w : World) (hN : Nt.Nds w w.heap.size d an ns) (hF : Nt.Fls w w.heap.size d af fs) (hll : l.length = 49) (hO : Tk.Ops w) :
    Calls Tryz.prog 3 #[.agg #[.slice an ns.length cn, .slice af fs.length cf], .agg (Gm.ints l).toArray] w fun e w' => e = .returned (.bool true) ∧ Below w.heap.size w w' := by
  obtain ⟨w0, hw0⟩ : ∃ x, (w.alloc (.cells #[.slice an ns.length cn, .slice af fs.length cf] 25)).alloc (.cells (Gm.ints l).toArray 29) = x := ⟨_, rfl⟩
  have A0 : Below w.heap.size w w0 := by rw [← hw0]; exact ((Below.refl _ w).alloc (Nat.le_refl _) _).alloc (by simp) _
  have G0 : w0.heap[w.heap.size]? = some (.cells #[.slice an ns.length cn, .slice af fs.length cf] 25 (0, 0)) := by rw [← hw0, Below.heap_alloc _ _ _ (by simp)]; exact heap_alloc_new w _
  have G1 : w0.heap[w.heap.size + 1]? = some (.cells (Gm.ints l).toArray 29 (0, 0)) := by
    rw [← hw0]
    have := heap_alloc_new (w.alloc (.cells #[.slice an ns.length cn, .slice af fs.length cf] 25)) (.cells (Gm.ints l).toArray 29)
    simpa using this
  have hlg := Tryz.nlarge_any an cn af cf d ns fs w0 ((hN.below A0).wider A0.size) ((hF.below A0).wider A0.size)
  have HLN : Hid (∀ W, Below w.heap.size w W → Calls Tryz.prog 7 #[] W fun e w' => e = .returned (.bool true) ∧ Hid (Below w.heap.size w w')) := fun W hb => (Tryz.line07_any W (hO.below hb hO.lt)).mono fun e w' h => ⟨h.1, hb.trans (h.2.mono hb.size)⟩
  obtain ⟨n, hnn⟩ : ∃ n, ns.length = n := ⟨_, rfl⟩
  obtain ⟨m, hmm⟩ : ∃ n, fs.length = n := ⟨_, rfl⟩
  have HBX : Hid (∀ W, Below w0.heap.size w0 W → W.cell? ⟨w.heap.size, 0, none⟩ = some (.slice an n cn) ∧ W.cell? ⟨w.heap.size, 1, none⟩ = some (.slice af m cf) ∧ W.heap[w.heap.size + 1]? = some (.cells (Gm.ints l).toArray 29 (0, 0))) := fun W hb => by
    have h1 := (hb.block _ (Gm.blk_lt G0)).trans G0
    rw [hnn, hmm] at h1
    exact ⟨by simp [World.cell?, h1], by simp [World.cell?, h1], (hb.block _ (Gm.blk_lt G1)).trans G1⟩
  have HNF : Hid (Nt.Nds w w.heap.size d an ns ∧ Nt.Fls w w.heap.size d af fs ∧ Tk.Ops w ∧ ns.length = n ∧ fs.length = m ∧ l.length = 49) := ⟨hN, hF, hO, hnn, hmm, hll⟩
  rw [hnn, hmm] at hlg hw0 ⊢
  have huT := Tryz.underlying29
  have huR := Tryz.underlying32
  have h49 : (Gm.ints l).toArray.size = 49 := by simpa [Gm.ints_length] using hll
  have eT : (Tryz.prog.info? 29).map (·.size) = some (Gm.ints l).toArray.size := by rw [h49]; show _ = _; kernel_rfl
  have eR : (Tryz.prog.info? 32).map (·.size) = some (Gm.ints l).toArray.size := by rw [h49]; show _ = _; kernel_rfl
  have eT' : (Tryz.prog.info? 29).map (·.size) = some (Gm.ints l).length := by rw [Gm.ints_length, hll]; show _ = _; kernel_rfl
  have eR' : (Tryz.prog.info? 32).map (·.size) = some (Gm.ints l).length := by rw [Gm.ints_length, hll]; show _ = _; kernel_rfl
  have hi3 : (#[.int .i64 0, .int .i64 0, .int .i64 0, .int .i64 0, .int .i64 0, .int .i64 0, .int .i64 0, .int .i64 0, .int .i64 0, .int .i64 0, .int .i64 0, .int .i64 0, .int .i64 0, .int .i64 0, .int .i64 0, .int .i64 0, .int .i64 0, .int .i64 0, .int .i64 0, .int .i64 0, .int .i64 0, .int .i64 0, .int .i64 0, .int .i64 0, .int .i64 0, .int .i64 0, .int .i64 0, .int .i64 0, .int .i64 0, .int .i64 0, .int .i64 0, .int .i64 0, .int .i64 0, .int .i64 0, .int .i64 0, .int .i64 0, .int .i64 0, .int .i64 0, .int .i64 0, .int .i64 0, .int .i64 0, .int .i64 0, .int .i64 0, .int .i64 0, .int .i64 0, .int .i64 0, .int .i64 0, .int .i64 0, .int .i64 0] : Array Value).size = (Gm.ints l).toArray.size := by rw [h49]; rfl
  have h1c : (Gm.ints l).toArray.all (·.oneCell') = true := all_oneCell_toArray (Gm.ints_one l)
  have HL : Hid _ := hlg
  have H0 : Hid ((w.alloc (.cells #[.slice an n cn, .slice af m cf] 25)).alloc (.cells (Gm.ints l).toArray 29) = w0) := hw0
  have HA : Hid (Below w.heap.size w w0) := A0
  clear hlg hw0 A0 G0 G1 hN hF hO hnn hmm hll h49
  go_enter Tryz.func3, Tryz.ntmps3
  go_wp2_with fail
  rw [H0.out]
  refine Calls.mono HL.out ?_
  rintro e W1 ⟨hb1, rfl | ⟨rfl, hn60, hm100, hnz, hfz⟩⟩
  · have B1 : Hid (Below w.heap.size w W1) := HA.out.trans (hb1.mono HA.out.size)
    clear hb1 HL H0 HBX eT eR eT' eR' hi3 h1c
    go_wp2_with fail
    refine Calls.mono (HLN.out W1 B1.out) ?_
    rintro e W2 ⟨rfl, B2⟩
    clear HLN
    go_wp2
    go_ret
    exact ⟨rfl, B2.out⟩
  have B1 : Hid (Below w0.heap.size w0 W1) := hb1
  have HS : Hid (∀ W, Below w0.heap.size w0 W → Nt.Has W W.heap.size d an af ns fs ∧ Tk.Ops W ∧ Below w.heap.size w W) := fun W hb => by
    have hbw : Below w.heap.size w W := HA.out.trans (hb.mono HA.out.size)
    refine ⟨⟨(HNF.out.1.below hbw).wider hbw.size, (HNF.out.2.1.below hbw).wider hbw.size, by omega, by omega, fun x hx => by have := hnz x hx; omega, fun x hx => by have := hfz x hx; omega⟩, HNF.out.2.2.1.below hbw HNF.out.2.2.1.lt, hbw⟩
  clear hb1 HL H0 hn60 hm100 hnz hfz
  obtain ⟨E, hE⟩ : ∃ z, Gm.checkE ns fs l = z := ⟨_, rfl⟩
  obtain ⟨T, hT⟩ : ∃ z, Gm.sumW (l.take 40) = z := ⟨_, rfl⟩
  obtain ⟨ss, hss⟩ : ∃ z, Gm.stepsD ns fs l = z := ⟨_, rfl⟩
  have hW49 : Gm.W49 ss := by rw [← hss]; exact Gm.steps_49 ns fs HNF.out.2.2.2.2.2
  have hall : Gm.allS ns fs l = ss := by rw [← hss]; exact Gm.steps_same ns fs l HNF.out.2.2.2.2.2
  have CRF : Hid (∀ W, Below w0.heap.size w0 W → Calls Tryz.prog 8 #[.agg (Gm.ints l).toArray] W fun e w' => e = .returned (.agg (Gm.ints l).toArray) ∧ Hid (Below w0.heap.size w0 w')) := fun W hb =>
    (Tryz.lref07_any l W HNF.out.2.2.2.2.2).mono fun e w' q => ⟨q.1, hb.trans (q.2.mono hb.size)⟩
  have CK : Hid (∀ (V : World) W, Below w0.heap.size w0 V → Below V.heap.size V W → Calls Tryz.prog 9 #[.agg #[.slice an n cn, .slice af m cf], .agg (Gm.ints l).toArray] W fun e w' => e = .returned (.int .i64 E) ∧ Hid (Below V.heap.size V w')) := fun V W h0 hb => by
    have hw := h0.trans (hb.mono h0.size)
    have h := Tryz.tCheck_any an n cn af m cf l W d ns fs (HS.out W hw).1 HNF.out.2.2.2.1 HNF.out.2.2.2.2.1 HNF.out.2.2.2.2.2 (HS.out W hw).2.1
    rw [hE] at h
    exact h.mono fun e w' q => ⟨q.1, hb.trans (q.2.mono hb.size)⟩
  have CR : Hid (∀ (V : World) W, Below w0.heap.size w0 V → Below V.heap.size V W → Calls Tryz.prog 10 #[.agg #[.slice an n cn, .slice af m cf], .agg (Gm.ints l).toArray] W fun e w' => e = .returned (.int .i64 E) ∧ Hid (Below V.heap.size V w')) := fun V W h0 hb => by
    have hw := h0.trans (hb.mono h0.size)
    have h := Tryz.rtCheck_any an n cn af m cf l W d ns fs (HS.out W hw).1 HNF.out.2.2.2.1 HNF.out.2.2.2.2.1 HNF.out.2.2.2.2.2
    rw [hE] at h
    exact h.mono fun e w' q => ⟨q.1, hb.trans (q.2.mono hb.size)⟩
  have CM : Hid (∀ (V : World) W, Below w0.heap.size w0 V → Below V.heap.size V W → Calls Tryz.prog 12 #[.agg #[.slice an n cn, .slice af m cf], .agg (Gm.ints l).toArray] W fun e w' => ∃ v, e = .returned v ∧ Hid (w'.ownsRow W.heap.size 80 5 v (ss.map (·.1)).length (Gm.mvs (ss.map (·.1))) ∧ Below V.heap.size V w')) := fun V W h0 hb => by
    have hw := h0.trans (hb.mono h0.size)
    have h := Tryz.tMoves_any an n cn af m cf l W d ns fs (HS.out W hw).1 HNF.out.2.2.2.1 HNF.out.2.2.2.2.1 HNF.out.2.2.2.2.2 (HS.out W hw).2.1
    rw [hall] at h
    exact h.mono fun e w' ⟨v, hv, q⟩ => ⟨v, hv, q.out.1, hb.trans (q.out.2.mono hb.size)⟩
  have CS : Hid (∀ (V : World) W, Below w0.heap.size w0 V → Below V.heap.size V W → ∀ va B, W.ownsRow B 80 5 va (ss.map (·.1)).length (Gm.mvs (ss.map (·.1))) → Calls Tryz.prog 13 #[.agg #[.slice an n cn, .slice af m cf], .agg (Gm.ints l).toArray] W fun e w' => ∃ v, e = .returned v ∧ Hid ((w'.ownsRow B 80 5 va (ss.map (·.1)).length (Gm.mvs (ss.map (·.1))) ∧ w'.ownsRow W.heap.size 61 54 v ss.length (Gm.stL ss)) ∧ Below V.heap.size V w')) := fun V W h0 hb va B ho => by
    have hw := h0.trans (hb.mono h0.size)
    have h := Tryz.rSteps_any an n cn af m cf l W d ns fs (HS.out W hw).1 HNF.out.2.2.2.1 HNF.out.2.2.2.2.1 HNF.out.2.2.2.2.2
    rw [hss] at h
    refine h.mono fun e w' ⟨v, hv, q⟩ => ⟨v, hv, ⟨⟨ho.1, ?_⟩, q.out.1⟩, hb.trans (q.out.2.mono hb.size)⟩
    rcases ho.2 with h0 | ⟨g, cap, cur, e, hB, hg, h4⟩
    · exact .inl h0
    · exact .inr ⟨g, cap, cur, e, hB, (q.out.2.block _ (Gm.blk_lt hg)).trans hg, h4⟩
  have CE : Hid (∀ (V : World) W, Below V.heap.size V W → ∀ va vb B1 B2, (W.ownsRow B1 80 5 va (ss.map (·.1)).length (Gm.mvs (ss.map (·.1))) ∧ W.ownsRow B2 61 54 vb ss.length (Gm.stL ss)) → Calls Tryz.prog 11 #[va, vb] W fun e w' => e = .returned (.bool true) ∧ Hid (Below V.heap.size V w')) := fun V W hb va vb B1 B2 ho =>
    (Tryz.lsame07_any B1 B2 va vb ss hW49 W ho.1 ho.2).mono fun e w' q => ⟨q.1, hb.trans (q.2.mono hb.size)⟩
  have hcx : ∀ j (h : j < (l.take 40).length), (Gm.ints l).toArray[j]? = some (.int .i64 (l.take 40)[j]) := fun j h => by
    have hj : j < l.length := by rw [List.length_take] at h; omega
    rw [Gm.ints_get hj, List.getElem_take, List.getD_eq_getElem?_getD, List.getElem?_eq_getElem hj]
    rfl
  have hl40 : (l.take 40).length = 40 := by rw [List.length_take, HNF.out.2.2.2.2.2]; rfl
  have CT : Hid (∀ (V : World) W, Below V.heap.size V W → Calls Tryz.prog 14 #[.agg (Gm.ints l).toArray] W fun e w' => e = .returned (.int .i64 T) ∧ Hid (Below V.heap.size V w')) := fun V W hb => by
    have h := Tryz.tokens_any (Gm.ints l).toArray (l.take 40) W hcx hl40
    rw [hT] at h
    exact h.mono fun e w' q => ⟨q.1, hb.trans (q.2.mono hb.size)⟩
  have CU : Hid (∀ (V : World) W, Below V.heap.size V W → Calls Tryz.prog 15 #[.agg (Gm.ints l).toArray] W fun e w' => e = .returned (.int .i64 T) ∧ Hid (Below V.heap.size V w')) := fun V W hb => by
    have h := Tryz.refTokens_any (Gm.ints l).toArray (l.take 40) W hcx hl40
    rw [hT] at h
    exact h.mono fun e w' q => ⟨q.1, hb.trans (q.2.mono hb.size)⟩
  clear hcx hl40 hE hT hss hall hW49 HA
  obtain ⟨p0, p1, P1⟩ := HBX.out W1 B1.out
  go_wp2_with (first | refine wpList_load_row rfl 29 _ rfl _ rfl 29 (Gm.ints l).toArray (0, 0) _ P1 huT rfl eT ?_ | fail)
  refine Calls.mono (CRF.out W1 B1.out) ?_
  rintro e W2 ⟨rfl, B2⟩
  clear p0 p1 P1 CRF
  obtain ⟨W3, hW3⟩ : ∃ z, (W2.alloc (.cells #[.int .i64 0, .int .i64 0, .int .i64 0, .int .i64 0, .int .i64 0, .int .i64 0, .int .i64 0, .int .i64 0, .int .i64 0, .int .i64 0, .int .i64 0, .int .i64 0, .int .i64 0, .int .i64 0, .int .i64 0, .int .i64 0, .int .i64 0, .int .i64 0, .int .i64 0, .int .i64 0, .int .i64 0, .int .i64 0, .int .i64 0, .int .i64 0, .int .i64 0, .int .i64 0, .int .i64 0, .int .i64 0, .int .i64 0, .int .i64 0, .int .i64 0, .int .i64 0, .int .i64 0, .int .i64 0, .int .i64 0, .int .i64 0, .int .i64 0, .int .i64 0, .int .i64 0, .int .i64 0, .int .i64 0, .int .i64 0, .int .i64 0, .int .i64 0, .int .i64 0, .int .i64 0, .int .i64 0, .int .i64 0, .int .i64 0] 32)).setRow W2.heap.size (Gm.ints l).toArray = z := ⟨_, rfl⟩
  have N3a : (W2.alloc (.cells #[.int .i64 0, .int .i64 0, .int .i64 0, .int .i64 0, .int .i64 0, .int .i64 0, .int .i64 0, .int .i64 0, .int .i64 0, .int .i64 0, .int .i64 0, .int .i64 0, .int .i64 0, .int .i64 0, .int .i64 0, .int .i64 0, .int .i64 0, .int .i64 0, .int .i64 0, .int .i64 0, .int .i64 0, .int .i64 0, .int .i64 0, .int .i64 0, .int .i64 0, .int .i64 0, .int .i64 0, .int .i64 0, .int .i64 0, .int .i64 0, .int .i64 0, .int .i64 0, .int .i64 0, .int .i64 0, .int .i64 0, .int .i64 0, .int .i64 0, .int .i64 0, .int .i64 0, .int .i64 0, .int .i64 0, .int .i64 0, .int .i64 0, .int .i64 0, .int .i64 0, .int .i64 0, .int .i64 0, .int .i64 0, .int .i64 0] 32)).heap[W2.heap.size]? = some (.cells #[.int .i64 0, .int .i64 0, .int .i64 0, .int .i64 0, .int .i64 0, .int .i64 0, .int .i64 0, .int .i64 0, .int .i64 0, .int .i64 0, .int .i64 0, .int .i64 0, .int .i64 0, .int .i64 0, .int .i64 0, .int .i64 0, .int .i64 0, .int .i64 0, .int .i64 0, .int .i64 0, .int .i64 0, .int .i64 0, .int .i64 0, .int .i64 0, .int .i64 0, .int .i64 0, .int .i64 0, .int .i64 0, .int .i64 0, .int .i64 0, .int .i64 0, .int .i64 0, .int .i64 0, .int .i64 0, .int .i64 0, .int .i64 0, .int .i64 0, .int .i64 0, .int .i64 0, .int .i64 0, .int .i64 0, .int .i64 0, .int .i64 0, .int .i64 0, .int .i64 0, .int .i64 0, .int .i64 0, .int .i64 0, .int .i64 0] 32 (0, 0)) := heap_alloc_new W2 _
  have N3 : W3.heap[W2.heap.size]? = some (.cells (Gm.ints l).toArray 32 (0, 0)) := by rw [← hW3]; exact setRow_heap _ _ _ _ _ _ N3a
  have B3 : Below w0.heap.size w0 W3 := by rw [← hW3]; exact Tk.below_row (B2.out.alloc B2.out.size _) B2.out.size _
  have HB3 : Hid (Below w0.heap.size w0 W3) := B3
  have HSK : Hid (∀ V, Below W3.heap.size W3 V → V.cell? ⟨w.heap.size, 0, none⟩ = some (.slice an n cn) ∧ V.cell? ⟨w.heap.size, 1, none⟩ = some (.slice af m cf) ∧ V.rangeAt (w.heap.size + 1) 0 (Gm.ints l) ∧ V.rangeAt W2.heap.size 0 (Gm.ints l)) := fun V hb => by
    obtain ⟨x0, x1, x2⟩ := HBX.out V (B3.trans (hb.mono B3.size))
    refine ⟨x0, x1, fun j v hv => ?_, fun j v hv => ?_⟩
    · simp only [World.cell?, x2, Nat.zero_add]; simpa using hv
    · simp only [World.cell?, (hb.block _ (Gm.blk_lt N3)).trans N3, Nat.zero_add]; simpa using hv
  have HW3 : Hid _ := hW3
  have HLN' : Hid (∀ W, Below W3.heap.size W3 W → Calls Tryz.prog 7 #[] W fun e w' => e = .returned (.bool true) ∧ Hid (Below W3.heap.size W3 w' ∧ Below w.heap.size w w')) := fun W hb => by
    have hbw := (HS.out W (B3.trans (hb.mono B3.size))).2.2
    exact (Tryz.line07_any W (HS.out W (B3.trans (hb.mono B3.size))).2.1).mono fun e w' h => ⟨h.1, hb.trans (h.2.mono hb.size), hbw.trans (h.2.mono hbw.size)⟩
  clear hW3 N3 B3 HLN HS HBX HNF B1 B2
  go_upto_region 4 with (first | refine wpList_store_row rfl 32 _ _ rfl W2.heap.size (Gm.ints l).toArray rfl rfl 32 _ N3a eR hi3 h1c ?_ | fail)
  rw [HW3.out]
  clear HW3 N3a hi3 h1c
  refine wp_region_held_drew (S := (fun V => V.cell? ⟨w.heap.size, 0, none⟩ = some (.slice an n cn) ∧ V.cell? ⟨w.heap.size, 1, none⟩ = some (.slice af m cf) ∧ V.rangeAt (w.heap.size + 1) 0 (Gm.ints l) ∧ V.rangeAt W2.heap.size 0 (Gm.ints l))) (by kernel_rfl) ?_ (fun hHeld => ?_)
  · exact HSK.out _ (Below.refl _ W3).drew
  refine Nt.takeS (v := ?vt0) 0 11 rfl rfl (by kernel_rfl) (by kernel_rfl) (by kernel_rfl) (fun _ _ _ h => h) (Or.inl ⟨by rfl, ?yt0⟩) hHeld ?rt0
  case yt0 => (intro w hSw; (try dsimp only at hSw); go_simp; all_goals (with_reducible rfl))
  simp only [List.set_cons_succ, List.set_cons_zero]
  refine Nt.takeS 1 12 rfl rfl (by kernel_rfl) (by kernel_rfl) (by kernel_rfl) (fun _ _ _ h => h) (yieldsIf_load_mid (by rfl) _ _ rfl _ _ rfl (Gm.ints l) _ (fun _ hw => hw.2.2.1) huT rfl eT') hHeld ?_
  simp only [List.set_cons_succ, List.set_cons_zero]
  refine Nt.takeS (v := ?vt3) 3 14 rfl rfl (by kernel_rfl) (by kernel_rfl) (by kernel_rfl) (fun _ _ _ h => h) (Or.inl ⟨by rfl, ?yt3⟩) hHeld ?rt3
  case yt3 => (intro w hSw; (try dsimp only at hSw); go_simp; all_goals (with_reducible rfl))
  simp only [List.set_cons_succ, List.set_cons_zero]
  refine Nt.takeS 4 15 rfl rfl (by kernel_rfl) (by kernel_rfl) (by kernel_rfl) (fun _ _ _ h => h) (yieldsIf_load_mid (by rfl) _ _ rfl _ _ rfl (Gm.ints l) _ (fun _ hw => hw.2.2.2) huR rfl eR') hHeld ?_
  simp only [List.set_cons_succ, List.set_cons_zero]
  refine wpAnyH_ready (rs := [2]) (by kernel_rfl) (by simp) ?_
  refine AllReadyH.cons rfl (fun K hK => ?_) AllReadyH.nil
  go_simp
  go_at_call 9
  refine Calls.mono (CK.out W3 _ HB3.out (Below.refl _ W3).drew) ?_
  rintro e X2 ⟨rfl, H2⟩
  go_wp2_with fail
  refine hK.out _ _ ?_ (fun hTc2 => ?_)
  · exact HSK.out _ H2.out
  clear hK K
  first | refine Nt.normS 13 rfl ?_ | skip
  first | (simp only [List.set_cons_succ, List.set_cons_zero]) | skip
  refine wpAnyH_ready (rs := [5]) (by kernel_rfl) (by simp) ?_
  refine AllReadyH.cons rfl (fun K hK => ?_) AllReadyH.nil
  go_simp
  go_at_call 10
  refine Calls.mono (CR.out W3 _ HB3.out H2.out) ?_
  rintro e X5 ⟨rfl, H5⟩
  go_wp2_with fail
  refine hK.out _ _ ?_ (fun hTc5 => ?_)
  · exact HSK.out _ H5.out
  clear hK K
  first | refine Nt.normS 16 rfl ?_ | skip
  first | (simp only [List.set_cons_succ, List.set_cons_zero]) | skip
  refine Nt.takeS (v := ?vt6) 6 17 rfl rfl (by kernel_rfl) (by kernel_rfl) (by kernel_rfl) (fun _ _ _ h => h) (Or.inl ⟨by rfl, ?yt6⟩) hTc5 ?rt6
  case yt6 => (intro w hSw; (try dsimp only at hSw); go_simp; all_goals (with_reducible rfl))
  simp only [List.set_cons_succ, List.set_cons_zero]
  refine Nt.takeS (v := ?vt7) 7 18 rfl rfl (by kernel_rfl) (by kernel_rfl) (by kernel_rfl) (fun _ _ _ h => h) (Or.inl ⟨by rfl, ?yt7⟩) hTc5 ?rt7
  case yt7 => (intro w hSw; (try dsimp only at hSw); go_simp; all_goals (with_reducible rfl))
  simp only [List.set_cons_succ, List.set_cons_zero]
  refine Nt.takeS (v := ?vt8) 8 19 rfl rfl (by kernel_rfl) (by kernel_rfl) (by kernel_rfl) (fun _ _ _ h => h) (Or.inl ⟨by rfl, ?yt8⟩) hTc5 ?rt8
  case yt8 => (intro w hSw; (try dsimp only at hSw); go_simp; all_goals (with_reducible rfl))
  simp only [List.set_cons_succ, List.set_cons_zero]
  refine Nt.takeS 9 20 rfl rfl (by kernel_rfl) (by kernel_rfl) (by kernel_rfl) (fun _ _ _ h => h) (yieldsIf_load_mid (by rfl) _ _ rfl _ _ rfl (Gm.ints l) _ (fun _ hw => hw.2.2.1) huT rfl eT') hTc5 ?_
  simp only [List.set_cons_succ, List.set_cons_zero]
  refine Nt.takeS (v := ?vt11) 11 22 rfl rfl (by kernel_rfl) (by kernel_rfl) (by kernel_rfl) (fun _ _ _ h => h) (Or.inl ⟨by rfl, ?yt11⟩) hTc5 ?rt11
  case yt11 => (intro w hSw; (try dsimp only at hSw); go_simp; all_goals (with_reducible rfl))
  simp only [List.set_cons_succ, List.set_cons_zero]
  refine Nt.takeS 12 23 rfl rfl (by kernel_rfl) (by kernel_rfl) (by kernel_rfl) (fun _ _ _ h => h) (yieldsIf_load_mid (by rfl) _ _ rfl _ _ rfl (Gm.ints l) _ (fun _ hw => hw.2.2.2) huR rfl eR') hTc5 ?_
  simp only [List.set_cons_succ, List.set_cons_zero]
  refine wpAnyH_ready (rs := [10]) (by kernel_rfl) (by simp) ?_
  refine AllReadyH.cons rfl (fun K hK => ?_) AllReadyH.nil
  rw [if_pos (by rfl)]
  go_simp
  go_at_call 12
  refine Calls.mono (CM.out W3 _ HB3.out H5.out) ?_
  rintro e X10 ⟨v10, rfl, H10⟩
  go_wp2_with fail
  refine hK.out _ _ ?_ (fun hTc10 => ?_)
  · exact HSK.out _ H10.out.2
  clear hK K
  first | refine Nt.normS 21 rfl ?_ | skip
  first | (simp only [List.set_cons_succ, List.set_cons_zero]) | skip
  refine wpAnyH_ready (rs := [13]) (by kernel_rfl) (by simp) ?_
  refine AllReadyH.cons rfl (fun K hK => ?_) AllReadyH.nil
  rw [if_pos (by rfl)]
  go_simp
  go_at_call 13
  refine Calls.mono (CS.out W3 _ HB3.out H10.out.2 v10 _ H10.out.1) ?_
  rintro e X13 ⟨v13, rfl, H13⟩
  go_wp2_with fail
  refine hK.out _ _ ?_ (fun hTc13 => ?_)
  · exact HSK.out _ H13.out.2
  clear hK K
  first | refine Nt.normS 24 rfl ?_ | skip
  first | (simp only [List.set_cons_succ, List.set_cons_zero]) | skip
  refine wpAnyH_ready (rs := [14]) (by kernel_rfl) (by simp) ?_
  refine AllReadyH.cons rfl (fun K hK => ?_) AllReadyH.nil
  rw [if_pos (by rfl)]
  go_simp
  go_at_call 11
  refine Calls.mono (CE.out W3 _ H13.out.2 v10 v13 _ _ H13.out.1) ?_
  rintro e X14 ⟨rfl, H14⟩
  go_wp2_with fail
  refine hK.out _ _ ?_ (fun hTc14 => ?_)
  · exact HSK.out _ H14.out
  clear hK K
  first | refine Nt.normS 25 rfl ?_ | skip
  first | (simp only [List.set_cons_succ, List.set_cons_zero]) | skip
  refine Nt.takeS (v := ?vt15) 15 26 rfl rfl (by kernel_rfl) (by kernel_rfl) (by kernel_rfl) (fun _ _ _ h => h) (Or.inl ⟨by rfl, ?yt15⟩) hTc14 ?rt15
  case yt15 => (intro w hSw; (try dsimp only at hSw); go_simp; all_goals (with_reducible rfl))
  simp only [List.set_cons_succ, List.set_cons_zero]
  refine Nt.takeS (v := ?vt16) 16 27 rfl rfl (by kernel_rfl) (by kernel_rfl) (by kernel_rfl) (fun _ _ _ h => h) (Or.inl ⟨by rfl, ?yt16⟩) hTc14 ?rt16
  case yt16 => (intro w hSw; (try dsimp only at hSw); go_simp; all_goals (with_reducible rfl))
  simp only [List.set_cons_succ, List.set_cons_zero]
  refine Nt.takeS 17 28 rfl rfl (by kernel_rfl) (by kernel_rfl) (by kernel_rfl) (fun _ _ _ h => h) (yieldsIf_load_mid (by rfl) _ _ rfl _ _ rfl (Gm.ints l) _ (fun _ hw => hw.2.2.1) huT rfl eT') hTc14 ?_
  simp only [List.set_cons_succ, List.set_cons_zero]
  refine Nt.takeS 19 30 rfl rfl (by kernel_rfl) (by kernel_rfl) (by kernel_rfl) (fun _ _ _ h => h) (yieldsIf_load_mid (by rfl) _ _ rfl _ _ rfl (Gm.ints l) _ (fun _ hw => hw.2.2.2) huR rfl eR') hTc14 ?_
  simp only [List.set_cons_succ, List.set_cons_zero]
  refine wpAnyH_ready (rs := [18]) (by kernel_rfl) (by simp) ?_
  refine AllReadyH.cons rfl (fun K hK => ?_) AllReadyH.nil
  rw [if_pos (by rfl)]
  go_simp
  go_at_call 14
  refine Calls.mono (CT.out W3 _ H14.out) ?_
  rintro e X18 ⟨rfl, H18⟩
  go_wp2_with fail
  refine hK.out _ _ ?_ (fun hTc18 => ?_)
  · exact HSK.out _ H18.out
  clear hK K
  first | refine Nt.normS 29 rfl ?_ | skip
  first | (simp only [List.set_cons_succ, List.set_cons_zero]) | skip
  refine wpAnyH_ready (rs := [20]) (by kernel_rfl) (by simp) ?_
  refine AllReadyH.cons rfl (fun K hK => ?_) AllReadyH.nil
  rw [if_pos (by rfl)]
  go_simp
  go_at_call 15
  refine Calls.mono (CU.out W3 _ H18.out) ?_
  rintro e X20 ⟨rfl, H20⟩
  go_wp2_with fail
  refine hK.out _ _ ?_ (fun hTc20 => ?_)
  · exact HSK.out _ H20.out
  clear hK K
  first | refine Nt.normS 31 rfl ?_ | skip
  first | (simp only [List.set_cons_succ, List.set_cons_zero]) | skip
  refine Nt.takeS (v := ?vt21) 21 32 rfl rfl (by kernel_rfl) (by kernel_rfl) (by kernel_rfl) (fun _ _ _ h => h) (Or.inl ⟨by rfl, ?yt21⟩) hTc20 ?rt21
  case yt21 => (intro w hSw; (try dsimp only at hSw); go_simp; all_goals (with_reducible rfl))
  simp only [List.set_cons_succ, List.set_cons_zero]
  refine Nt.takeS (v := ?vt22) 22 33 rfl rfl (by kernel_rfl) (by kernel_rfl) (by kernel_rfl) (fun _ _ _ h => h) (Or.inl ⟨by rfl, ?yt22⟩) hTc20 ?rt22
  case yt22 => (intro w hSw; (try dsimp only at hSw); go_simp; all_goals (with_reducible rfl))
  simp only [List.set_cons_succ, List.set_cons_zero]
  refine Nt.takeS (v := ?vt23) 23 34 rfl rfl (by kernel_rfl) (by kernel_rfl) (by kernel_rfl) (fun _ _ _ h => h) (Or.inl ⟨by rfl, ?yt23⟩) hTc20 ?rt23
  case yt23 => (intro w hSw; (try dsimp only at hSw); go_simp; all_goals (with_reducible rfl))
  simp only [List.set_cons_succ, List.set_cons_zero]
  refine wpAnyH_ready (rs := [24]) (by kernel_rfl) (by simp) ?_
  refine AllReadyH.cons rfl (fun K hK => ?_) AllReadyH.nil
  rw [if_pos (by rfl)]
  go_simp
  go_at_call 7
  refine Calls.mono (HLN'.out _ H20.out) ?_
  rintro e X24 ⟨rfl, H24⟩
  go_wp2_with fail
  refine hK.out _ _ ?_ (fun hTc24 => ?_)
  · exact HSK.out _ H24.out.1
  clear hK K
  first | refine Nt.normS 35 rfl ?_ | skip
  first | (simp only [List.set_cons_succ, List.set_cons_zero]) | skip
  refine Nt.takeS (v := ?vt25) 25 36 rfl rfl (by kernel_rfl) (by kernel_rfl) (by kernel_rfl) (fun _ _ _ h => h) (Or.inl ⟨by rfl, ?yt25⟩) hTc24 ?rt25
  case yt25 => (intro w hSw; (try dsimp only at hSw); go_simp; all_goals (with_reducible rfl))
  simp only [List.set_cons_succ, List.set_cons_zero]
  refine Nt.takeS (v := ?vt26) 26 4 rfl rfl (by kernel_rfl) (by kernel_rfl) (by kernel_rfl) (fun _ _ _ h => h) (Or.inl ⟨by rfl, ?yt26⟩) hTc24 ?rt26
  case yt26 => (intro w hSw; (try dsimp only at hSw); go_simp; all_goals (with_reducible rfl))
  simp only [List.set_cons_succ, List.set_cons_zero]
  refine wpAnyH_done (by kernel_rfl) ?_ _
  go_wp2
  go_ret
  exact ⟨rfl, H24.out.2⟩

end Go.Proofs.YtkalkkgfilkiiaaGreatDoor.TokenMoves

namespace Go.Proofs.YtkalkkgfilkiiaaGreatDoor
open Go.ChangeShapes Go.WideShapes Go.ChangeAt Go.RowKit

theorem gOps : Tryz.prog.globalNamed "treenail/term.operators" = some 0 := by kernel_rfl
theorem gOpsType : (Tryz.prog.globals[0]?).map (·.type) = some 154 := by kernel_rfl
theorem cellsOps : Tryz.prog.cellsOf 154 = 75 := by kernel_rfl
theorem cellsOp : Tryz.prog.cellsOf 153 = 5 := by kernel_rfl
theorem cellsInt' : Tryz.prog.cellsOf 3 = 1 := by kernel_rfl
theorem cellsString' : Tryz.prog.cellsOf 9 = 1 := by kernel_rfl

theorem list5' {α : Type} {l : List α} (h : l.length = 5) : ∃ a b c d e, l = [a, b, c, d, e] := by
  match l, h with
  | [a, b, c, d, e], _ => exact ⟨a, b, c, d, e, rfl⟩

/-- One operator's five cells. -/
theorem op_one {H : Type} {enc : TypeId × Value → H} {W : World} {base : Nat} {sp : Nat → Bool} {held : Bool} {fuel : Nat} {cs : List Value} {x : DataW H × List MemPlace} {t : List UInt8} {n1 n2 n3 n4 : Int}
    (h : DataW.trod enc Tryz.prog W base sp held fuel 153 cs = some x) (hx : x.1 = .agg [.lit (.string t), .lit (.int .i64 n1), .lit (.int .i64 n2), .lit (.int .i64 n3), .lit (.int .i64 n4)]) :
    cs = [.string ⟨t.toArray⟩, .int .i64 n1, .int .i64 n2, .int .i64 n3, .int .i64 n4] := by
  obtain ⟨ys, n, _, hx', hl, hy, hf⟩ := DataW.trod_struct Tryz.underlying153 h
  rw [cellsOp] at hl
  have hy : ys.length = 5 := hy
  obtain ⟨c0, c1, c2, c3, c4, rfl⟩ := list5' hl
  obtain ⟨y0, y1, y2, y3, y4, rfl⟩ := list5' hy
  have g0 : DataW.trod enc Tryz.prog W base sp held n 9 (([c0, c1, c2, c3, c4].drop 0).take (Tryz.prog.cellsOf 9)) = [y0, y1, y2, y3, y4][0]? := hf 0 _ rfl
  have g1 : DataW.trod enc Tryz.prog W base sp held n 3 (([c0, c1, c2, c3, c4].drop 1).take (Tryz.prog.cellsOf 3)) = [y0, y1, y2, y3, y4][1]? := hf 1 _ rfl
  have g2 : DataW.trod enc Tryz.prog W base sp held n 3 (([c0, c1, c2, c3, c4].drop 2).take (Tryz.prog.cellsOf 3)) = [y0, y1, y2, y3, y4][2]? := hf 2 _ rfl
  have g3 : DataW.trod enc Tryz.prog W base sp held n 3 (([c0, c1, c2, c3, c4].drop 3).take (Tryz.prog.cellsOf 3)) = [y0, y1, y2, y3, y4][3]? := hf 3 _ rfl
  have g4 : DataW.trod enc Tryz.prog W base sp held n 3 (([c0, c1, c2, c3, c4].drop 4).take (Tryz.prog.cellsOf 3)) = [y0, y1, y2, y3, y4][4]? := hf 4 _ rfl
  rw [cellsString'] at g0
  rw [cellsInt'] at g1 g2 g3 g4
  obtain ⟨s, e0, d0, _⟩ := DataW.trod_string Tryz.underlying9 g0
  obtain ⟨m1, e1, d1, _⟩ := DataW.trod_int Tryz.underlying3 g1
  obtain ⟨m2, e2, d2, _⟩ := DataW.trod_int Tryz.underlying3 g2
  obtain ⟨m3, e3, d3, _⟩ := DataW.trod_int Tryz.underlying3 g3
  obtain ⟨m4, e4, d4, _⟩ := DataW.trod_int Tryz.underlying3 g4
  obtain rfl : c0 = .string s := (List.cons.inj e0).1
  obtain rfl : c1 = .int .i64 m1 := (List.cons.inj e1).1
  obtain rfl : c2 = .int .i64 m2 := (List.cons.inj e2).1
  obtain rfl : c3 = .int .i64 m3 := (List.cons.inj e3).1
  obtain rfl : c4 = .int .i64 m4 := (List.cons.inj e4).1
  rw [hx'] at hx
  rw [d0, d1, d2, d3, d4] at hx
  simp only [List.map_cons, List.map_nil, DataW.agg.injEq, List.cons.injEq, DataW.lit.injEq, Lit.int.injEq, Lit.string.injEq, and_true, true_and] at hx
  obtain ⟨rfl, rfl, rfl, rfl, rfl⟩ := hx
  rfl

theorem ops_of_laid {W : World} (h : laidMet Tryz.prog [("treenail/term.operators", Rows.laid_treenail_term_operators)] W) : Tk.Ops W := by
  obtain ⟨ps, ⟨g', t', cs, fuel, p, q, hg', ht', hvar, hd, _, _⟩, _⟩ := h
  obtain rfl := Option.some.inj (gOps.symm.trans hg')
  obtain rfl := Option.some.inj (gOpsType.symm.trans ht')
  obtain ⟨xs, m, rfl, hx, hl, hxl, hf⟩ := DataW.trod_array Tryz.underlying154 hd
  rw [cellsOps] at hl
  simp only [cellsOp] at hf
  have hx1 := congrArg Prod.fst hx
  have hlen : xs.length = 15 := hxl
  simp only [Rows.laid_treenail_term_operators, DataW.agg.injEq] at hx1
  have row : ∀ (i : Nat) (t : List UInt8) (n1 n2 n3 n4 : Int), i < 15 → (xs.map (·.1))[i]? = some (.agg [.lit (.string t), .lit (.int .i64 n1), .lit (.int .i64 n2), .lit (.int .i64 n3), .lit (.int .i64 n4)]) →
      (cs.toList.drop (i * 5)).take 5 = [.string ⟨t.toArray⟩, .int .i64 n1, .int .i64 n2, .int .i64 n3, .int .i64 n4] := by
    intro i t n1 n2 n3 n4 hi hL
    obtain ⟨x, hxi⟩ : ∃ x, xs[i]? = some x := ⟨xs[i]'(by omega), List.getElem?_eq_getElem (by omega)⟩
    rw [List.getElem?_map, hxi] at hL
    exact op_one (x := x) ((hf i hi).trans hxi) (by simpa using hL)
  have step : ∀ n, cs.toList.drop n = (cs.toList.drop n).take 5 ++ cs.toList.drop (n + 5) := fun n => by
    have := (List.take_append_drop 5 (cs.toList.drop n)).symm
    rw [List.drop_drop] at this
    exact this
  have r0 := row 0 [] 0 0 0 0 (by decide) (by rw [← hx1]; rfl)
  have r1 := row 1 [] 0 0 1099511627776 1 (by decide) (by rw [← hx1]; rfl)
  have r2 := row 2 [36] 0 0 3 1 (by decide) (by rw [← hx1]; rfl)
  have r3 := row 3 [110, 101, 103] 1 1 0 1 (by decide) (by rw [← hx1]; rfl)
  have r4 := row 4 [110, 111, 116] 1 2 0 2 (by decide) (by rw [← hx1]; rfl)
  have r5 := row 5 [97, 100, 100] 2 1 0 1 (by decide) (by rw [← hx1]; rfl)
  have r6 := row 6 [115, 117, 98] 2 1 0 1 (by decide) (by rw [← hx1]; rfl)
  have r7 := row 7 [109, 117, 108] 2 1 0 1 (by decide) (by rw [← hx1]; rfl)
  have r8 := row 8 [100, 105, 118] 2 1 0 1 (by decide) (by rw [← hx1]; rfl)
  have r9 := row 9 [109, 111, 100] 2 1 0 1 (by decide) (by rw [← hx1]; rfl)
  have r10 := row 10 [101, 113] 2 1 0 2 (by decide) (by rw [← hx1]; rfl)
  have r11 := row 11 [108, 116] 2 1 0 2 (by decide) (by rw [← hx1]; rfl)
  have r12 := row 12 [108, 101] 2 1 0 2 (by decide) (by rw [← hx1]; rfl)
  have r13 := row 13 [97, 110, 100] 2 2 0 2 (by decide) (by rw [← hx1]; rfl)
  have r14 := row 14 [111, 114] 2 2 0 2 (by decide) (by rw [← hx1]; rfl)
  have hca : cs = Tk.opVals := by
    apply Array.toList_inj.1
    have h0 : cs.toList = cs.toList.drop 0 := rfl
    have h75 : cs.toList.drop 75 = [] := List.drop_eq_nil_iff.2 (by omega)
    rw [h0, step 0, step 5, step 10, step 15, step 20, step 25, step 30, step 35, step 40, step 45, step 50, step 55, step 60, step 65, step 70, h75]
    have q0 : (cs.toList.drop 0).take 5 = _ := r0
    have q1 : (cs.toList.drop 5).take 5 = _ := r1
    have q2 : (cs.toList.drop 10).take 5 = _ := r2
    have q3 : (cs.toList.drop 15).take 5 = _ := r3
    have q4 : (cs.toList.drop 20).take 5 = _ := r4
    have q5 : (cs.toList.drop 25).take 5 = _ := r5
    have q6 : (cs.toList.drop 30).take 5 = _ := r6
    have q7 : (cs.toList.drop 35).take 5 = _ := r7
    have q8 : (cs.toList.drop 40).take 5 = _ := r8
    have q9 : (cs.toList.drop 45).take 5 = _ := r9
    have q10 : (cs.toList.drop 50).take 5 = _ := r10
    have q11 : (cs.toList.drop 55).take 5 = _ := r11
    have q12 : (cs.toList.drop 60).take 5 = _ := r12
    have q13 : (cs.toList.drop 65).take 5 = _ := r13
    have q14 : (cs.toList.drop 70).take 5 = _ := r14
    rw [q0, q1, q2, q3, q4, q5, q6, q7, q8, q9, q10, q11, q12, q13, q14]
    rfl
  subst hca
  simp only [World.var?, gOps, Option.bind_some] at hvar
  split at hvar
  · rename_i cs' t fz hh
    obtain rfl := Option.some.inj hvar
    exact ⟨t, fz, hh⟩
  · cases hvar

end Go.Proofs.YtkalkkgfilkiiaaGreatDoor
