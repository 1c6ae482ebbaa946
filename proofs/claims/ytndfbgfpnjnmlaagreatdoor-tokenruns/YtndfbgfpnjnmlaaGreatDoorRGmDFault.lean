import Derived.Test.YtndfbgfpnjnmlaaGreatDoorRGmDoc
namespace Go.Proofs
open Go.RowKit Go.Shelf
theorem Gm.D.push {w0 : World} {B b : Nat} {an : Option Addr} {n cn : Nat} {af : Option Addr} {m cf : Nat} {l : List Int} {ss : List (Mv × List Int)} {X wi : World} (hG : Gm.D w0 B b an n cn af m cf l ss X) (hb : Below X.heap.size X wi) (mv : Mv) (u : List Int) :
  ∃ va vc, wi.cell? ⟨b, 51, none⟩ = some (.slice va ss.length vc) ∧ (wi.drew.alloc (.cells (Gm.stC mv u).toArray 61)).cell? ⟨b, 51, none⟩ = some (.slice va ss.length vc) ∧
   (wi.drew.alloc (.cells (Gm.stC mv u).toArray 61)).ownsRow B 61 54 (.slice va ss.length vc) ss.length (Gm.stL ss) ∧ (∀ j y, (Gm.stC mv u)[j]? = some y → (wi.drew.alloc (.cells (Gm.stC mv u).toArray 61)).cell? ((⟨wi.heap.size, 0, none⟩ : Addr).add j) = some y) ∧ B ≤ (wi.drew.alloc (.cells (Gm.stC mv u).toArray 61)).heap.size ∧ (wi.drew.alloc (.cells (Gm.stC mv u).toArray 61)).heap.size = wi.heap.size + 1 ∧
   (∀ (W6 : World) (y : Value), (wi.drew.alloc (.cells (Gm.stC mv u).toArray 61)).grownBy W6 (Value.slice va ss.length vc).ownBlock → W6.ownsRow B 61 54 y (ss.length + 1) (Gm.stL ss ++ Gm.stC mv u) → (W6.cell? ⟨b, 51, none⟩ = some (.slice va ss.length vc) ∧ W6.frozen? ⟨b, 51, none⟩ = false) ∧ (∀ k, X.heap.size ≤ k → k < wi.heap.size → W6.heap[k]? = wi.heap[k]? ∧ (W6.setCell ⟨b, 51, none⟩ y).heap[k]? = wi.heap[k]?) ∧ Gm.D w0 B b an n cn af m cf l (ss ++ [(mv, u)]) (W6.setCell ⟨b, 51, none⟩ y) ∧ Gm.KeepD X (W6.setCell ⟨b, 51, none⟩ y)) := by
 obtain ⟨v, hAX, hOX⟩ := hG.game
 obtain ⟨va, vc, rfl⟩ := Rk.own_shape hOX
 have hbX : b < X.heap.size := hAX.lt
 have hA := hAX.keep (hb.block b hbX)
 have hO := Rk.own_below hOX hb
 have hOW : ∀ k, (Value.slice va ss.length vc).ownBlock = some k → k < X.heap.size := fun k hk => (Gm.G.row_lt hOX hk).2
 have hBw : B ≤ wi.heap.size := by have h1 := hG.le; have h2 := hG.fr.size; have h3 := hb.size; omega
 have hbw : b < wi.heap.size := hA.lt
 obtain ⟨w5, hw5⟩ : ∃ z, wi.drew.alloc (.cells (Gm.stC mv u).toArray 61) = z := ⟨_, rfl⟩
 have B5 : Below wi.heap.size wi w5 := by rw [← hw5]; exact (Below.refl _ wi).drew.alloc (Nat.le_refl _) _
 have hO5 : w5.ownsRow B 61 54 (.slice va ss.length vc) ss.length (Gm.stL ss) := Rk.own_below hO B5
 refine ⟨va, vc, hA.mv, by rw [hw5, B5.cell (p := ⟨b, 51, none⟩) hbw]; exact hA.mv, by rw [hw5]; exact hO5, World.news_of_block (heap_alloc_new wi.drew (.cells (Gm.stC mv u).toArray 61)), by rw [hw5]; exact Nat.le_trans hBw B5.size, by simp, fun W6 y hg hO6 => ?_⟩
 rw [hw5] at hg
 have g5 := (hG.below hb).below B5
 have hA5 := hA.keep (B5.block b hA.lt)
 obtain ⟨k1, k2⟩ := Gm.D.grown (mv := mv) (t := u) hA5 hO5 g5.fr g5.lt g5.le hg hO6
 obtain ⟨cs, hty⟩ := k1.ty
 refine ⟨⟨k1.mv, by have := (k1.th 51 (by omega)).2; simpa using this⟩, fun k hk1 hk2 => ?_, k2, (((Gm.KeepD.below hb).trans (Gm.KeepD.below B5)).trans (Gm.KeepD.grown hO5 hg)).trans (Gm.KeepD.other (fun k hk => Below.heap_setCell _ _ _ _ hk) hty)⟩
 have h1 : W6.heap[k]? = wi.heap[k]? := (hg.block k (Nat.lt_of_lt_of_le hk2 B5.size) (fun e => by have := hOW _ e.symm; omega)).trans (B5.block k hk2)
 exact ⟨h1, (Below.heap_setCell _ _ _ _ (by show k ≠ b; omega)).trans h1⟩
set_option maxRecDepth 20000 in
set_option maxHeartbeats 32000000 in
theorem Tryz.rfault_any (w0 : World) (B b : Nat) (an : Option Addr) (n cn : Nat) (af : Option Addr) (m cf : Nat) (l : List Int) (ss : List (Mv × List Int)) (i : Nat) (e : Int) (X : World) (hG : Gm.D w0 B b an n cn af m cf l ss X) (hl : ss.length ≤ 10000) :
  Calls Tryz.prog 67 #[.pointer (some ⟨b, 0, none⟩), .int .i64 i, .int .i64 e] X fun e' w' => e' = .returned (.tuple #[]) ∧ Gm.D w0 B b an n cn af m cf l (ss ++ Gm.fault l i e) w' ∧ Gm.KeepD X w' := by
 obtain ⟨v, hA, hO⟩ := hG.game
 have hll := hA.ll
 have hst := hA.st
 obtain ⟨w1, hw1⟩ : ∃ z, (X.alloc (.cells #[.int .i64 0, .int .i64 0, .int .i64 0, .int .i64 0, .int .i64 0, .int .i64 0, .int .i64 0, .int .i64 0, .int .i64 0, .int .i64 0, .int .i64 0, .int .i64 0, .int .i64 0, .int .i64 0, .int .i64 0, .int .i64 0, .int .i64 0, .int .i64 0, .int .i64 0, .int .i64 0, .int .i64 0, .int .i64 0, .int .i64 0, .int .i64 0, .int .i64 0, .int .i64 0, .int .i64 0, .int .i64 0, .int .i64 0, .int .i64 0, .int .i64 0, .int .i64 0, .int .i64 0, .int .i64 0, .int .i64 0, .int .i64 0, .int .i64 0, .int .i64 0, .int .i64 0, .int .i64 0, .int .i64 0, .int .i64 0, .int .i64 0, .int .i64 0, .int .i64 0, .int .i64 0, .int .i64 0, .int .i64 0, .int .i64 0] 32)).setRow X.heap.size (Gm.ints l).toArray = z := ⟨_, rfl⟩
 have N1a : (X.alloc (.cells #[.int .i64 0, .int .i64 0, .int .i64 0, .int .i64 0, .int .i64 0, .int .i64 0, .int .i64 0, .int .i64 0, .int .i64 0, .int .i64 0, .int .i64 0, .int .i64 0, .int .i64 0, .int .i64 0, .int .i64 0, .int .i64 0, .int .i64 0, .int .i64 0, .int .i64 0, .int .i64 0, .int .i64 0, .int .i64 0, .int .i64 0, .int .i64 0, .int .i64 0, .int .i64 0, .int .i64 0, .int .i64 0, .int .i64 0, .int .i64 0, .int .i64 0, .int .i64 0, .int .i64 0, .int .i64 0, .int .i64 0, .int .i64 0, .int .i64 0, .int .i64 0, .int .i64 0, .int .i64 0, .int .i64 0, .int .i64 0, .int .i64 0, .int .i64 0, .int .i64 0, .int .i64 0, .int .i64 0, .int .i64 0, .int .i64 0] 32)).heap[X.heap.size]? = some (.cells #[.int .i64 0, .int .i64 0, .int .i64 0, .int .i64 0, .int .i64 0, .int .i64 0, .int .i64 0, .int .i64 0, .int .i64 0, .int .i64 0, .int .i64 0, .int .i64 0, .int .i64 0, .int .i64 0, .int .i64 0, .int .i64 0, .int .i64 0, .int .i64 0, .int .i64 0, .int .i64 0, .int .i64 0, .int .i64 0, .int .i64 0, .int .i64 0, .int .i64 0, .int .i64 0, .int .i64 0, .int .i64 0, .int .i64 0, .int .i64 0, .int .i64 0, .int .i64 0, .int .i64 0, .int .i64 0, .int .i64 0, .int .i64 0, .int .i64 0, .int .i64 0, .int .i64 0, .int .i64 0, .int .i64 0, .int .i64 0, .int .i64 0, .int .i64 0, .int .i64 0, .int .i64 0, .int .i64 0, .int .i64 0, .int .i64 0] 32 (0, 0)) := heap_alloc_new X _
 have N1 : w1.heap[X.heap.size]? = some (.cells (Gm.ints l).toArray 32 (0, 0)) := by rw [← hw1]; exact setRow_heap _ _ _ _ _ _ N1a
 have B1 : Below X.heap.size X w1 := by rw [← hw1]; exact Tk.below_row ((Below.refl _ X).alloc (Nat.le_refl _) _) (Nat.le_refl _) _
 have hu := Tryz.underlying32
 have hi : (Tryz.prog.info? 32).map (·.size) = some (Gm.ints l).length := by rw [Gm.ints_length, hll]; show _ = _; kernel_rfl
 have hi2 : (Tryz.prog.info? 32).map (·.size) = some (Gm.ints l).toArray.size := by simpa using hi
 have hi3 : (#[.int .i64 0, .int .i64 0, .int .i64 0, .int .i64 0, .int .i64 0, .int .i64 0, .int .i64 0, .int .i64 0, .int .i64 0, .int .i64 0, .int .i64 0, .int .i64 0, .int .i64 0, .int .i64 0, .int .i64 0, .int .i64 0, .int .i64 0, .int .i64 0, .int .i64 0, .int .i64 0, .int .i64 0, .int .i64 0, .int .i64 0, .int .i64 0, .int .i64 0, .int .i64 0, .int .i64 0, .int .i64 0, .int .i64 0, .int .i64 0, .int .i64 0, .int .i64 0, .int .i64 0, .int .i64 0, .int .i64 0, .int .i64 0, .int .i64 0, .int .i64 0, .int .i64 0, .int .i64 0, .int .i64 0, .int .i64 0, .int .i64 0, .int .i64 0, .int .i64 0, .int .i64 0, .int .i64 0, .int .i64 0, .int .i64 0] : Array Value).size = (Gm.ints l).toArray.size := by
  have : (Gm.ints l).toArray.size = 49 := by simpa [Gm.ints_length] using hll
  rw [this]; rfl
 have h1c : (Gm.ints l).toArray.all (·.oneCell') = true := all_oneCell_toArray (Gm.ints_one l)
 obtain ⟨wi, hwi⟩ : ∃ z, w1.setCell ⟨X.heap.size, 48, none⟩ (.int .i64 2) = z := ⟨_, rfl⟩
 obtain ⟨l2, hl2⟩ : ∃ z, l.set 48 2 = z := ⟨_, rfl⟩
 have hul : l2.length = 49 := by rw [← hl2]; simpa using hll
 have N2 : wi.heap[X.heap.size]? = some (.cells (Gm.ints l2).toArray 32 (0, 0)) := by rw [← hwi, ← hl2]; exact Gm.put_row N1
 have B2 : Below X.heap.size X wi := by rw [← hwi]; exact B1.setCell (p := ⟨X.heap.size, 48, none⟩) (Nat.le_refl _) _
 have c48 : w1.cell? ⟨X.heap.size, 48, none⟩ = some (.int .i64 (l.getD 48 0)) := by
  simp only [World.cell?, N1]
  rw [Gm.ints_get (by omega)]
  rfl
 have f48 : w1.frozen? ⟨X.heap.size, 48, none⟩ = false := by simp [World.frozen?, N1]
 have hi4 : (Tryz.prog.info? 32).map (·.size) = some (Gm.ints l2).length := by
  have : (Gm.ints l2).length = (Gm.ints l).length := by rw [Gm.ints_length, Gm.ints_length, hul, hll]
  rw [this]; exact hi
 have hXw : X.heap.size < wi.heap.size := Gm.blk_lt N2
 have hr5 : wi.rangeAt X.heap.size 0 (Gm.ints l2) := fun j w hj => by
  simp only [World.cell?, N2, Nat.zero_add]
  simpa using hj
 obtain ⟨i0, hi0, hz0, hz1, hz2⟩ := info_parts Gm.infoStep
 have hbt := Gm.built_step4 i 0 6 i e l2 hul
 have hbs := Gm.fill_step ⟨i, 0, 6, i, e⟩ l2 hul i0 hz1
 have hstl : (Gm.stC ⟨i, 0, 6, i, e⟩ l2).length = 1 * 54 := by rw [Gm.stC_length _ l2 hul]
 have h1st := Gm.stC_one ⟨i, 0, 6, i, e⟩ l2
 obtain ⟨va, vc, c51, c51', o1, o2, o3, o4, F⟩ := hG.push B2 ⟨i, 0, 6, i, e⟩ l2
 obtain ⟨q, hq⟩ : ∃ z, ss.length = z := ⟨_, rfl⟩
 rw [hq] at c51 c51' o1 F
 have hq2 : q ≤ 10000 := by omega
 have hbw : b < wi.heap.size := World.block_lt_of_cell? _ _ c51
 have HO5 : Hid ((wi.drew.alloc (.cells (Gm.stC ⟨i, 0, 6, i, e⟩ l2).toArray 61)).ownsRow B 61 54 (.slice va q vc) q (Gm.stL ss) ∧ (∀ j y, (Gm.stC ⟨i, 0, 6, i, e⟩ l2)[j]? = some y → (wi.drew.alloc (.cells (Gm.stC ⟨i, 0, 6, i, e⟩ l2).toArray 61)).cell? ((⟨wi.heap.size, 0, none⟩ : Addr).add j) = some y) ∧ B ≤ (wi.drew.alloc (.cells (Gm.stC ⟨i, 0, 6, i, e⟩ l2).toArray 61)).heap.size ∧ (wi.drew.alloc (.cells (Gm.stC ⟨i, 0, 6, i, e⟩ l2).toArray 61)).heap.size = wi.heap.size + 1) := ⟨o1, o2, o3, o4⟩
 have hr6 : (wi.drew.alloc (.cells (Gm.stC ⟨i, 0, 6, i, e⟩ l2).toArray 61)).rangeAt X.heap.size 0 (Gm.ints l2) := fun j w hj => by
  have B5 : Below wi.heap.size wi (wi.drew.alloc (.cells (Gm.stC ⟨i, 0, 6, i, e⟩ l2).toArray 61)) := (Below.refl _ wi).drew.alloc (Nat.le_refl _) _
  rw [B5.cell (p := ⟨X.heap.size, 0 + j, none⟩) hXw]; exact hr5 j w hj
 have F6 : Hid (∀ (W6 : World) (y : Value), (wi.drew.alloc (.cells (Gm.stC ⟨i, 0, 6, i, e⟩ l2).toArray 61)).grownBy W6 (Value.slice va q vc).ownBlock → W6.ownsRow B 61 54 y (q + 1) (Gm.stL ss ++ Gm.stC ⟨i, 0, 6, i, e⟩ l2) → (W6.cell? ⟨b, 51, none⟩ = some (.slice va q vc) ∧ W6.frozen? ⟨b, 51, none⟩ = false) ∧ W6.rangeAt X.heap.size 0 (Gm.ints l2) ∧ (W6.setCell ⟨b, 51, none⟩ y).rangeAt X.heap.size 0 (Gm.ints l2) ∧ Gm.D w0 B b an n cn af m cf l (ss ++ Gm.fault l i e) (W6.setCell ⟨b, 51, none⟩ y) ∧ Gm.KeepD X (W6.setCell ⟨b, 51, none⟩ y)) := fun W6 y hg hO6 => by
  obtain ⟨h1, h2, h3, h4⟩ := F W6 y hg hO6
  obtain ⟨k1, k2⟩ := h2 X.heap.size (Nat.le_refl _) hXw
  refine ⟨h1, fun j w hj => ?_, fun j w hj => ?_, by unfold Gm.fault; rw [hl2]; exact h3, h4⟩
  ·rw [World.cell?_of_block (w := wi) (a := ⟨X.heap.size, 0 + j, none⟩) k1]; exact hr5 j w hj
  ·rw [World.cell?_of_block (w := wi) (a := ⟨X.heap.size, 0 + j, none⟩) k2]; exact hr5 j w hj
 have HW1 : Hid _ := hw1
 have HWI : Hid _ := hwi
 clear hG hA hO hll hw1 hwi N1 B1 B2 hl N2 hl2 hul F o1 o2 o3 o4 hq
 go_enter Tryz.func67, Tryz.ntmps67
 go_upto_region 1 with (first
  | refine wpList_load_mid rfl 32 _ rfl b 2 rfl (Gm.ints l) _ hst hu rfl hi ?_
  | (refine wpList_store_row rfl 32 _ _ rfl X.heap.size (Gm.ints l).toArray rfl rfl 32 _ N1a hi2 hi3 h1c ?_; rw [HW1.out]))
 go_upto_region 2 with fail
 rw [HWI.out]
 clear HW1 HWI hst hi hi2 hi3 h1c N1a c48 f48
 refine wp_region_held_drew (S := (fun V => V.rangeAt X.heap.size 0 (Gm.ints l2))) (by kernel_rfl) ?_ (fun hHeld => ?_)
 ·exact hr5
 refine Nt.takeS (v := ?va0) 0 12 rfl rfl (by kernel_rfl) (by kernel_rfl) (by kernel_rfl) (fun _ _ _ h => h) (Or.inl ⟨by rfl, ?ya0⟩) hHeld ?ra0
 case ya0 => (intro w hSw; (try dsimp only at hSw); go_simp; all_goals (with_reducible rfl))
 simp only [List.set_cons_succ, List.set_cons_zero]
 refine Nt.takeS (v := ?va1) 1 13 rfl rfl (by kernel_rfl) (by kernel_rfl) (by kernel_rfl) (fun _ _ _ h => h) (Or.inl ⟨by rfl, ?ya1⟩) hHeld ?ra1
 case ya1 => (intro w hSw; (try dsimp only at hSw); go_simp; all_goals (with_reducible rfl))
 simp only [List.set_cons_succ, List.set_cons_zero]
 refine Nt.takeS (v := ?va2) 2 14 rfl rfl (by kernel_rfl) (by kernel_rfl) (by kernel_rfl) (fun _ _ _ h => h) (Or.inl ⟨by rfl, ?ya2⟩) hHeld ?ra2
 case ya2 => (intro w hSw; (try dsimp only at hSw); go_simp; all_goals (with_reducible rfl))
 simp only [List.set_cons_succ, List.set_cons_zero]
 refine Nt.takeS (v := ?va3) 3 15 rfl rfl (by kernel_rfl) (by kernel_rfl) (by kernel_rfl) (fun _ _ _ h => h) (Or.inl ⟨by rfl, ?ya3⟩) hHeld ?ra3
 case ya3 => (intro w hSw; (try dsimp only at hSw); go_simp; all_goals (with_reducible rfl))
 simp only [List.set_cons_succ, List.set_cons_zero]
 refine Nt.takeS (v := ?va5) 5 17 rfl rfl (by kernel_rfl) (by kernel_rfl) (by kernel_rfl) (fun _ _ _ h => h) (Or.inl ⟨by rfl, ?ya5⟩) hHeld ?ra5
 case ya5 => (intro w hSw; (try dsimp only at hSw); go_simp; all_goals (with_reducible rfl))
 simp only [List.set_cons_succ, List.set_cons_zero]
 refine Nt.takeS (v := ?va6) 6 18 rfl rfl (by kernel_rfl) (by kernel_rfl) (by kernel_rfl) (fun _ _ _ h => h) (Or.inl ⟨by rfl, ?ya6⟩) hHeld ?ra6
 case ya6 => (intro w hSw; (try dsimp only at hSw); go_simp; all_goals (with_reducible rfl))
 simp only [List.set_cons_succ, List.set_cons_zero]
 refine Nt.takeS (v := ?va7) 7 19 rfl rfl (by kernel_rfl) (by kernel_rfl) (by kernel_rfl) (fun _ _ _ h => h) (Or.inl ⟨by rfl, ?ya7⟩) hHeld ?ra7
 case ya7 => (intro w hSw; (try dsimp only at hSw); go_simp; all_goals (with_reducible rfl))
 simp only [List.set_cons_succ, List.set_cons_zero]
 refine Nt.takeS (v := ?va8) 8 20 rfl rfl (by kernel_rfl) (by kernel_rfl) (by kernel_rfl) (fun _ _ _ h => h) (Or.inl ⟨by rfl, ?ya8⟩) hHeld ?ra8
 case ya8 => (intro w hSw; (try dsimp only at hSw); go_simp; all_goals (with_reducible rfl))
 simp only [List.set_cons_succ, List.set_cons_zero]
 refine Nt.takeS 9 21 rfl rfl (by kernel_rfl) (by kernel_rfl) (by kernel_rfl) (fun _ _ _ h => h) (yieldsIf_load_mid (by rfl) _ _ rfl _ _ rfl (Gm.ints l2) _ (fun _ hw => hw) hu rfl hi4) hHeld ?_
 simp only [List.set_cons_succ, List.set_cons_zero]
 refine Nt.takeS 10 22 rfl rfl (by kernel_rfl) (by kernel_rfl) (by kernel_rfl) (fun _ _ _ h => h) (Gm.yields_build (by rfl) 61 _ rfl (Gm.stC ⟨i, 0, 6, i, e⟩ l2).toArray (Eq.trans (congrArg (Tryz.prog.built 61) (by kernel_rfl)) hbt)) hHeld ?_
 simp only [List.set_cons_succ, List.set_cons_zero]
 refine wpAnyH_ready (rs := [4, 11]) (by kernel_rfl) (by simp) ?_
 refine AllReadyH.cons rfl (fun K hK => ?_) (AllReadyH.cons rfl (fun K hK => ?_) AllReadyH.nil)
 ·go_simp
  refine hK.out _ _ ?_ (fun hTe => ?_)
  ·exact hr5
  clear hK K
  first | refine Nt.normS 16 rfl ?_ | skip
  first | (simp only [List.set_cons_succ, List.set_cons_zero]) | skip
  refine wpAnyH_ready (rs := [11]) (by kernel_rfl) (by simp) ?_
  refine AllReadyH.cons rfl (fun K hK => ?_) AllReadyH.nil
  refine Gm.step_build rfl 40 61 1 _ rfl (Gm.stC ⟨i, 0, 6, i, e⟩ l2).toArray i0 _ Tryz.underlying40 hi0 hz0 (by rw [hz1]; decide) (by rw [hz1]; decide) (Eq.trans (congrArg _ (by kernel_rfl)) hbs) ?_
  refine hK.out _ _ ?_ (fun hTf => ?_)
  ·exact hr6
  clear hK K
  first | refine Nt.normS 23 rfl ?_ | skip
  first | (simp only [List.set_cons_succ, List.set_cons_zero]) | skip
  refine wpAnyH_ready (rs := [12]) (by kernel_rfl) (by simp) ?_
  refine AllReadyH.cons rfl (fun K hK => ?_) AllReadyH.nil
  refine step_append_lies _ rfl _ _ 40 rfl B 61 i0 _ 54 432 Tryz.underlying40 hi0 hz0 hz1 hz2 rfl (by decide) (.slice va q vc) q (Gm.stL ss) rfl HO5.out.1 ⟨wi.heap.size, 0, none⟩ 1 1 (Gm.stC ⟨i, 0, 6, i, e⟩ l2) rfl hstl HO5.out.2.1 h1st (by decide) (by unfold maxLen; omega) (by omega) HO5.out.2.2.1 (wi.heap.size + 1) HO5.out.2.2.2 ?_
  intro g6 c6 W6 o6 q6 hg6 hl6
  obtain ⟨⟨z0, z1⟩, hS6, hS7, RN⟩ := F6.out W6 _ q6 o6
  refine hK.out _ _ ?_ (fun hTg => ?_)
  ·exact hS6
  clear hK K
  first | refine Nt.normS 24 rfl ?_ | skip
  first | (simp only [List.set_cons_succ, List.set_cons_zero]) | skip
  refine Nt.takeS (v := ?va13) 13 25 rfl rfl (by kernel_rfl) (by kernel_rfl) (by kernel_rfl) (fun _ _ _ h => h) (Or.inl ⟨by rfl, ?ya13⟩) hTg ?ra13
  case ya13 => (intro w hSw; (try dsimp only at hSw); go_simp; all_goals (with_reducible rfl))
  simp only [List.set_cons_succ, List.set_cons_zero]
  refine Nt.takeS (v := ?va14) 14 26 rfl rfl (by kernel_rfl) (by kernel_rfl) (by kernel_rfl) (fun _ _ _ h => h) (Or.inl ⟨by rfl, ?ya14⟩) hTg ?ra14
  case ya14 => (intro w hSw; (try dsimp only at hSw); go_simp; all_goals (with_reducible rfl))
  simp only [List.set_cons_succ, List.set_cons_zero]
  refine wpAnyH_ready (rs := [15]) (by kernel_rfl) (by simp) ?_
  refine AllReadyH.cons rfl (fun K hK => ?_) AllReadyH.nil
  go_simp
  refine hK.out _ _ ?_ (fun hTh => ?_)
  ·exact hS7
  clear hK K
  refine wpAnyH_done (by kernel_rfl) ?_ _
  have HRN : Hid _ := RN
  clear RN o6 q6 hg6 hl6 z0 z1 hS6 hS7
  go_wp2
  go_end0
  exact ⟨rfl, HRN.out⟩
 ·refine Gm.step_build rfl 40 61 1 _ rfl (Gm.stC ⟨i, 0, 6, i, e⟩ l2).toArray i0 _ Tryz.underlying40 hi0 hz0 (by rw [hz1]; decide) (by rw [hz1]; decide) (Eq.trans (congrArg _ (by kernel_rfl)) hbs) ?_
  refine hK.out _ _ ?_ (fun hTe => ?_)
  ·exact hr6
  clear hK K
  first | refine Nt.normS 23 rfl ?_ | skip
  first | (simp only [List.set_cons_succ, List.set_cons_zero]) | skip
  refine wpAnyH_ready (rs := [4]) (by kernel_rfl) (by simp) ?_
  refine AllReadyH.cons rfl (fun K hK => ?_) AllReadyH.nil
  go_simp
  refine hK.out _ _ ?_ (fun hTf => ?_)
  ·exact hr6
  clear hK K
  first | refine Nt.normS 16 rfl ?_ | skip
  first | (simp only [List.set_cons_succ, List.set_cons_zero]) | skip
  refine wpAnyH_ready (rs := [12]) (by kernel_rfl) (by simp) ?_
  refine AllReadyH.cons rfl (fun K hK => ?_) AllReadyH.nil
  refine step_append_lies _ rfl _ _ 40 rfl B 61 i0 _ 54 432 Tryz.underlying40 hi0 hz0 hz1 hz2 rfl (by decide) (.slice va q vc) q (Gm.stL ss) rfl HO5.out.1 ⟨wi.heap.size, 0, none⟩ 1 1 (Gm.stC ⟨i, 0, 6, i, e⟩ l2) rfl hstl HO5.out.2.1 h1st (by decide) (by unfold maxLen; omega) (by omega) HO5.out.2.2.1 (wi.heap.size + 1) HO5.out.2.2.2 ?_
  intro g6 c6 W6 o6 q6 hg6 hl6
  obtain ⟨⟨z0, z1⟩, hS6, hS7, RN⟩ := F6.out W6 _ q6 o6
  refine hK.out _ _ ?_ (fun hTg => ?_)
  ·exact hS6
  clear hK K
  first | refine Nt.normS 24 rfl ?_ | skip
  first | (simp only [List.set_cons_succ, List.set_cons_zero]) | skip
  refine Nt.takeS (v := ?vb13) 13 25 rfl rfl (by kernel_rfl) (by kernel_rfl) (by kernel_rfl) (fun _ _ _ h => h) (Or.inl ⟨by rfl, ?yb13⟩) hTg ?rb13
  case yb13 => (intro w hSw; (try dsimp only at hSw); go_simp; all_goals (with_reducible rfl))
  simp only [List.set_cons_succ, List.set_cons_zero]
  refine Nt.takeS (v := ?vb14) 14 26 rfl rfl (by kernel_rfl) (by kernel_rfl) (by kernel_rfl) (fun _ _ _ h => h) (Or.inl ⟨by rfl, ?yb14⟩) hTg ?rb14
  case yb14 => (intro w hSw; (try dsimp only at hSw); go_simp; all_goals (with_reducible rfl))
  simp only [List.set_cons_succ, List.set_cons_zero]
  refine wpAnyH_ready (rs := [15]) (by kernel_rfl) (by simp) ?_
  refine AllReadyH.cons rfl (fun K hK => ?_) AllReadyH.nil
  go_simp
  refine hK.out _ _ ?_ (fun hTh => ?_)
  ·exact hS7
  clear hK K
  refine wpAnyH_done (by kernel_rfl) ?_ _
  have HRN : Hid _ := RN
  clear RN o6 q6 hg6 hl6 z0 z1 hS6 hS7
  go_wp2
  go_end0
  exact ⟨rfl, HRN.out⟩
end Go.Proofs
namespace Go.Proofs
open Go.RowKit Go.Shelf
set_option maxRecDepth 20000 in
set_option maxHeartbeats 4000000 in
theorem Tryz.rIns_any (i : Int) (an : Option Addr) (n cn : Nat) (af : Option Addr) (cf d : Nat) (fs : List Fl) (w : World) (hF : Nt.Fls w w.heap.size d af fs) (hl : fs.length ≤ 100) :
  Calls Tryz.prog 43 #[.agg #[.slice an n cn, .slice af fs.length cf], .int .i64 i] w fun e w' => Nt.Gives (Nt.insL fs i) w e w' := by
 obtain ⟨i0, hi, hz0, hz1, hz2⟩ := info_parts Tryz.infoIntR
 obtain ⟨w1, hw1⟩ : ∃ x, w.alloc (.cells #[.slice an n cn, .slice af fs.length cf] 25) = x := ⟨_, rfl⟩
 have A1 : Below w.heap.size w w1 := by rw [← hw1]; exact (Below.refl _ w).alloc (Nat.le_refl _) _
 obtain ⟨m, hm⟩ : ∃ n, fs.length = n := ⟨_, rfl⟩
 obtain ⟨lf, hlf⟩ : ∃ l, Nt.insL fs i = l := ⟨_, rfl⟩
 rw [hm] at hl hw1
 rw [hm, hlf]
 have HF : Hid (Nt.Fls w w.heap.size d af fs ∧ fs.length = m ∧ Nt.insL fs i = lf) := ⟨hF, hm, hlf⟩
 have H1 : Hid (w.alloc (.cells #[.slice an n cn, .slice af m cf] 25) = w1) := hw1
 have HA : Hid (Below w.heap.size w w1) := A1
 clear hF hm hw1 A1 hlf
 go_enter Tryz.func43, Tryz.ntmps43
 go_wp2
 rw [H1.out]
 go_loopg [5, 11] m (fun gk s5 s11 wr => ∃ (k r : Nat) (L : List Nat), gk + k = m ∧ s11 = .int .i64 k ∧ r ≤ k ∧ Hid (L = (List.range k).filter (fun k => decide ((fs[k]?.map Fl.to) = some i)) ∧ L.length = r ∧ Below w.heap.size w wr) ∧ wr.ownsRow w.heap.size 3 1 s5 r (Rk.nums L))
 case atStart => exact ⟨0, 0, [], by omega, rfl, Nat.le_refl _, ⟨rfl, rfl, HA.out⟩, World.ownsRow_nil _ _ _ _⟩
 case round =>
  obtain ⟨k, r, L, hk, rfl, hr, HB, hown⟩ := hrel
  clear H1 HA
  obtain ⟨av, cv, rfl⟩ := Rk.own_shape hown
  by_cases hlt : k < m
  ·have hd : decide ((k : Int) < m) = true := decide_eq_true (by omega)
   have hkl : k < fs.length := by rw [HF.out.2.1]; exact hlt
   obtain ⟨q, off, u, rfl, hq, h0, h1, h2, h3, h4, h5, h6⟩ := HF.out.1 k hkl
   obtain ⟨au, cu, rfl⟩ := h6.shape
   obtain ⟨f, hf⟩ : ∃ f, fs[k] = f := ⟨_, rfl⟩
   rw [hf] at h0 h1 h2 h3 h4 h5
   obtain ⟨nu, hnu⟩ : ∃ n, f.c.ks.length = n := ⟨_, rfl⟩
   obtain ⟨fr, hfr⟩ : ∃ x, f.fr = x := ⟨_, rfl⟩
   obtain ⟨tt, hto⟩ : ∃ x, f.to = x := ⟨_, rfl⟩
   obtain ⟨els, hel⟩ : ∃ x, f.els = x := ⟨_, rfl⟩
   obtain ⟨op, hop⟩ : ∃ x, f.c.op = x := ⟨_, rfl⟩
   obtain ⟨num, hnum⟩ : ∃ x, f.c.num = x := ⟨_, rfl⟩
   rw [hnu] at h5
   rw [hfr] at h0
   rw [hto] at h1
   rw [hel] at h2
   rw [hop] at h3
   rw [hnum] at h4
   have hc : ∀ o, wr.cell? ⟨q, o, none⟩ = w.cell? ⟨q, o, none⟩ := fun o => HB.out.2.2.cell (p := ⟨q, o, none⟩) hq
   have c0 := (hc _).trans h0
   have c1 := (hc _).trans h1
   have c2 := (hc _).trans h2
   have c3 := (hc _).trans h3
   have c4 := (hc _).trans h4
   have c5 := (hc _).trans h5
   have hu := Tryz.underlying73
   obtain ⟨W0, hW0⟩ : ∃ x, wr.alloc (.cells #[.int .i64 fr, .int .i64 tt, .bool els, .int .i64 op, .int .i64 num, .slice au nu cu] 73) = x := ⟨_, rfl⟩
   have own1 : W0.ownsRow w.heap.size 3 1 (.slice av r cv) r (Rk.nums L) := by rw [← hW0]; exact hown.alloc _
   have B0 : Hid (Below w.heap.size w W0) := by show Below _ _ _; rw [← hW0]; exact HB.out.2.2.alloc HB.out.2.2.size _
   have hs0 : w.heap.size ≤ W0.heap.size := B0.out.size
   have HW0 : Hid (wr.alloc (.cells #[.int .i64 fr, .int .i64 tt, .bool els, .int .i64 op, .int .i64 num, .slice au nu cu] 73) = W0) := hW0
   have HF2 : Hid ((List.range (k + 1)).filter (fun k => decide ((fs[k]?.map Fl.to) = some i)) = L ++ if tt = i then [k] else []) := by
    show _ = _
    rw [List.range_succ, List.filter_append, ← HB.out.1]
    congr 1
    simp only [List.filter_cons, List.filter_nil, List.getElem?_eq_getElem hkl, hf, Option.map_some, hto, Option.some.injEq, decide_eq_true_eq]
   clear h0 h1 h2 h3 h4 h5 h6 hc hf hnu hfr hto hel hop hnum hq hown hW0
   by_cases hti : tt = i
   ·have e1 : (tt == i) = true := by simpa using hti
    rw [if_pos hti] at HF2
    clear hti
    go_upto_region 6 with fail
    rw [HW0.out]
    go_wp2_with (at_builtin; refine wpList_append_own _ rfl _ _ 53 rfl w.heap.size 3 i0 (.int .i64 0) 1 8 Tryz.underlying53 hi hz0 hz1 hz2 rfl (by decide) _ _ _ rfl (own1.alloc _) ⟨W0.heap.size, 0, none⟩ 1 1 [.int .i64 k] rfl rfl (Rk.one_cell W0 k 3) (Rk.one_one k) ?c3 ?c4 ?c5 ?_)
    case c3 => unfold maxLen; omega
    case c4 => omega
    case c5 => simp; omega
    intro v' W2 own2 g2 _
    obtain ⟨a2, c2', rfl⟩ := Rk.own_shape own2
    have B2 : Hid (W2.ownsRow w.heap.size 3 1 (.slice a2 (r + 1) c2') (r + 1) (Rk.nums (L ++ [k])) ∧ Below w.heap.size w W2) := ⟨by rw [Rk.nums_snoc]; exact own2, Rk.below_grown (B0.out.alloc hs0 _) (by simp; omega) (own1.alloc _) g2⟩
    clear own1 own2 g2 HW0
    go_wp2
    go_roundg (gk - 1)
    case measure => omega
    case rel => exact ⟨k + 1, r + 1, L ++ [k], by omega, by go_num, by omega, ⟨HF2.out.symm, by simp [HB.out.2.1], B2.out.2⟩, B2.out.1⟩
   ·have e1 : (tt == i) = false := by simpa using hti
    rw [if_neg hti, List.append_nil] at HF2
    clear hti
    go_wp2
    rw [HW0.out]
    go_roundg (gk - 1)
    case measure => omega
    case rel => exact ⟨k + 1, r, L, by omega, by go_num, by omega, ⟨HF2.out.symm, HB.out.2.1, B0.out⟩, own1⟩
  ·have hd : decide ((k : Int) < m) = false := decide_eq_false (by omega)
   go_wp2
   go_ret
   obtain rfl : k = m := by omega
   have h1 := HB.out.1
   rw [← HF.out.2.1] at h1
   have h2 : lf = L := by rw [← HF.out.2.2, h1]; rfl
   rw [h2]
   exact ⟨_, rfl, by rw [HB.out.2.1]; exact hown, HB.out.2.2⟩
set_option maxRecDepth 20000 in
set_option maxHeartbeats 4000000 in
theorem Tryz.rOuts_any (i : Int) (an : Option Addr) (n cn : Nat) (af : Option Addr) (cf d : Nat) (fs : List Fl) (w : World) (hF : Nt.Fls w w.heap.size d af fs) (hl : fs.length ≤ 100) :
  Calls Tryz.prog 37 #[.agg #[.slice an n cn, .slice af fs.length cf], .int .i64 i] w fun e w' => Nt.Gives (Nt.outsL fs i) w e w' := by
 obtain ⟨i0, hi, hz0, hz1, hz2⟩ := info_parts Tryz.infoIntR
 obtain ⟨w1, hw1⟩ : ∃ x, w.alloc (.cells #[.slice an n cn, .slice af fs.length cf] 25) = x := ⟨_, rfl⟩
 have A1 : Below w.heap.size w w1 := by rw [← hw1]; exact (Below.refl _ w).alloc (Nat.le_refl _) _
 obtain ⟨m, hm⟩ : ∃ n, fs.length = n := ⟨_, rfl⟩
 obtain ⟨lf, hlf⟩ : ∃ l, Nt.outsL fs i = l := ⟨_, rfl⟩
 rw [hm] at hl hw1
 rw [hm, hlf]
 have HF : Hid (Nt.Fls w w.heap.size d af fs ∧ fs.length = m ∧ Nt.outsL fs i = lf) := ⟨hF, hm, hlf⟩
 have H1 : Hid (w.alloc (.cells #[.slice an n cn, .slice af m cf] 25) = w1) := hw1
 have HA : Hid (Below w.heap.size w w1) := A1
 clear hF hm hw1 A1 hlf
 go_enter Tryz.func37, Tryz.ntmps37
 go_wp2
 rw [H1.out]
 go_loopg [5, 11] m (fun gk s5 s11 wr => ∃ (k r : Nat) (L : List Nat), gk + k = m ∧ s11 = .int .i64 k ∧ r ≤ k ∧ Hid (L = (List.range k).filter (fun k => decide ((fs[k]?.map Fl.fr) = some i)) ∧ L.length = r ∧ Below w.heap.size w wr) ∧ wr.ownsRow w.heap.size 3 1 s5 r (Rk.nums L))
 case atStart => exact ⟨0, 0, [], by omega, rfl, Nat.le_refl _, ⟨rfl, rfl, HA.out⟩, World.ownsRow_nil _ _ _ _⟩
 case round =>
  obtain ⟨k, r, L, hk, rfl, hr, HB, hown⟩ := hrel
  clear H1 HA
  obtain ⟨av, cv, rfl⟩ := Rk.own_shape hown
  by_cases hlt : k < m
  ·have hd : decide ((k : Int) < m) = true := decide_eq_true (by omega)
   have hkl : k < fs.length := by rw [HF.out.2.1]; exact hlt
   obtain ⟨q, off, u, rfl, hq, h0, h1, h2, h3, h4, h5, h6⟩ := HF.out.1 k hkl
   obtain ⟨au, cu, rfl⟩ := h6.shape
   obtain ⟨f, hf⟩ : ∃ f, fs[k] = f := ⟨_, rfl⟩
   rw [hf] at h0 h1 h2 h3 h4 h5
   obtain ⟨nu, hnu⟩ : ∃ n, f.c.ks.length = n := ⟨_, rfl⟩
   obtain ⟨fr, hfr⟩ : ∃ x, f.fr = x := ⟨_, rfl⟩
   obtain ⟨tt, hto⟩ : ∃ x, f.to = x := ⟨_, rfl⟩
   obtain ⟨els, hel⟩ : ∃ x, f.els = x := ⟨_, rfl⟩
   obtain ⟨op, hop⟩ : ∃ x, f.c.op = x := ⟨_, rfl⟩
   obtain ⟨num, hnum⟩ : ∃ x, f.c.num = x := ⟨_, rfl⟩
   rw [hnu] at h5
   rw [hfr] at h0
   rw [hto] at h1
   rw [hel] at h2
   rw [hop] at h3
   rw [hnum] at h4
   have hc : ∀ o, wr.cell? ⟨q, o, none⟩ = w.cell? ⟨q, o, none⟩ := fun o => HB.out.2.2.cell (p := ⟨q, o, none⟩) hq
   have c0 := (hc _).trans h0
   have c1 := (hc _).trans h1
   have c2 := (hc _).trans h2
   have c3 := (hc _).trans h3
   have c4 := (hc _).trans h4
   have c5 := (hc _).trans h5
   have hu := Tryz.underlying73
   obtain ⟨W0, hW0⟩ : ∃ x, wr.alloc (.cells #[.int .i64 fr, .int .i64 tt, .bool els, .int .i64 op, .int .i64 num, .slice au nu cu] 73) = x := ⟨_, rfl⟩
   have own1 : W0.ownsRow w.heap.size 3 1 (.slice av r cv) r (Rk.nums L) := by rw [← hW0]; exact hown.alloc _
   have B0 : Hid (Below w.heap.size w W0) := by show Below _ _ _; rw [← hW0]; exact HB.out.2.2.alloc HB.out.2.2.size _
   have hs0 : w.heap.size ≤ W0.heap.size := B0.out.size
   have HW0 : Hid (wr.alloc (.cells #[.int .i64 fr, .int .i64 tt, .bool els, .int .i64 op, .int .i64 num, .slice au nu cu] 73) = W0) := hW0
   have HF2 : Hid ((List.range (k + 1)).filter (fun k => decide ((fs[k]?.map Fl.fr) = some i)) = L ++ if fr = i then [k] else []) := by
    show _ = _
    rw [List.range_succ, List.filter_append, ← HB.out.1]
    congr 1
    simp only [List.filter_cons, List.filter_nil, List.getElem?_eq_getElem hkl, hf, Option.map_some, hfr, Option.some.injEq, decide_eq_true_eq]
   clear h0 h1 h2 h3 h4 h5 h6 hc hf hnu hfr hto hel hop hnum hq hown hW0
   by_cases hti : fr = i
   ·have e1 : (fr == i) = true := by simpa using hti
    rw [if_pos hti] at HF2
    clear hti
    go_upto_region 6 with fail
    rw [HW0.out]
    go_wp2_with (at_builtin; refine wpList_append_own _ rfl _ _ 53 rfl w.heap.size 3 i0 (.int .i64 0) 1 8 Tryz.underlying53 hi hz0 hz1 hz2 rfl (by decide) _ _ _ rfl (own1.alloc _) ⟨W0.heap.size, 0, none⟩ 1 1 [.int .i64 k] rfl rfl (Rk.one_cell W0 k 3) (Rk.one_one k) ?c3 ?c4 ?c5 ?_)
    case c3 => unfold maxLen; omega
    case c4 => omega
    case c5 => simp; omega
    intro v' W2 own2 g2 _
    obtain ⟨a2, c2', rfl⟩ := Rk.own_shape own2
    have B2 : Hid (W2.ownsRow w.heap.size 3 1 (.slice a2 (r + 1) c2') (r + 1) (Rk.nums (L ++ [k])) ∧ Below w.heap.size w W2) := ⟨by rw [Rk.nums_snoc]; exact own2, Rk.below_grown (B0.out.alloc hs0 _) (by simp; omega) (own1.alloc _) g2⟩
    clear own1 own2 g2 HW0
    go_wp2
    go_roundg (gk - 1)
    case measure => omega
    case rel => exact ⟨k + 1, r + 1, L ++ [k], by omega, by go_num, by omega, ⟨HF2.out.symm, by simp [HB.out.2.1], B2.out.2⟩, B2.out.1⟩
   ·have e1 : (fr == i) = false := by simpa using hti
    rw [if_neg hti, List.append_nil] at HF2
    clear hti
    go_wp2
    rw [HW0.out]
    go_roundg (gk - 1)
    case measure => omega
    case rel => exact ⟨k + 1, r, L, by omega, by go_num, by omega, ⟨HF2.out.symm, HB.out.2.1, B0.out⟩, own1⟩
  ·have hd : decide ((k : Int) < m) = false := decide_eq_false (by omega)
   go_wp2
   go_ret
   obtain rfl : k = m := by omega
   have h1 := HB.out.1
   rw [← HF.out.2.1] at h1
   have h2 : lf = L := by rw [← HF.out.2.2, h1]; rfl
   rw [h2]
   exact ⟨_, rfl, by rw [HB.out.2.1]; exact hown, HB.out.2.2⟩
end Go.Proofs
