import Derived.Test.YtndfbgfpnjnmlaaGreatDoorRGmDFault
namespace Go.Proofs
open Go.RowKit Go.Shelf
namespace Gm
theorem put_range {q : Nat} {ty : TypeId} : ∀ (vs mid p s : List Value) (o : Nat) (W : World), p.length = o → mid.length = vs.length → W.heap[q]? = some (.cells (p ++ mid ++ s).toArray ty (0, 0)) → (W.setCells q o vs).heap[q]? = some (.cells (p ++ vs ++ s).toArray ty (0, 0))
 | [], mid, p, s, o, W, _, hm, h => by
   have : mid = [] := List.length_eq_zero_iff.1 hm
   subst this
   exact h
 | v :: r, [], p, s, o, W, _, hm, h => by simp at hm
 | v :: r, x :: y, p, s, o, W, hp, hm, h => by
   rw [World.setCells]
   have h1 : (W.setCell ⟨q, o, none⟩ v).heap[q]? = some (.cells ((p ++ [v]) ++ y ++ s).toArray ty (0, 0)) := by
    rw [set_type h]
    congr 1
    apply congrArg (fun z => Obj.cells z ty (0, 0))
    have : (p ++ x :: y ++ s).set o v = (p ++ [v]) ++ y ++ s := by
     subst hp
     simp
    rw [← this]
    simp
   have h2 := put_range r y (p ++ [v]) s (o + 1) _ (by simp [hp]) (by simpa using hm) h1
   simpa using h2
theorem put_to {W : World} {q : Nat} {m : Mv} {t u : List Int} {ty : TypeId} (h : W.heap[q]? = some (.cells (stC m t).toArray ty (0, 0))) (hl : t.length = u.length) : (W.setCells q 5 (ints u)).heap[q]? = some (.cells (stC m u).toArray ty (0, 0)) := by
 have := put_range (ints u) (ints t) (mvC m) [] 5 W rfl (by rw [ints_length, ints_length]; exact hl) (by simpa [stC] using h)
 simpa [stC] using this
theorem put_lab {W : World} {q : Nat} {p1 p2 p3 p4 p5 : Int} (k n a : Int) {t : List Int} {ty : TypeId} (h : W.heap[q]? = some (.cells (stC ⟨p1, p2, p3, p4, p5⟩ t).toArray ty (0, 0))) : (W.setCells q 2 [.int .i64 k, .int .i64 n, .int .i64 a]).heap[q]? = some (.cells (stC ⟨p1, p2, k, n, a⟩ t).toArray ty (0, 0)) := by
 have := put_range [.int .i64 k, .int .i64 n, .int .i64 a] [.int .i64 p3, .int .i64 p4, .int .i64 p5] [.int .i64 p1, .int .i64 p2] (ints t) 2 W rfl rfl (by simpa [stC, mvC] using h)
 simpa [stC, mvC] using this
theorem there_st {W : World} {q : Nat} {m : Mv} {t : List Int} {ty : TypeId} (h : W.heap[q]? = some (.cells (stC m t).toArray ty (0, 0))) (hl : t.length = 49) (o k : Nat) (hk : o + k ≤ 54) : W.there q o k := fun j hj => by
 refine ⟨?_, by simp [World.frozen?, h]⟩
 simp only [World.cell?, h]
 have h1 : o + j < (stC m t).toArray.size := by
  have := stC_length m t hl
  simp only [List.size_toArray]
  omega
 rw [Array.getElem?_eq_getElem h1]
 rfl
theorem below_sets {X W : World} {q : Nat} (h : Below X.heap.size X W) (hq : X.heap.size ≤ q) (vs : List Value) (o : Nat) : Below X.heap.size X (W.setCells q o vs) := by
 obtain ⟨k1, k2, k3, k4, k5⟩ := setCells_keep q vs o W
 exact ⟨k1.trans h.os, k2.trans h.tape, k3.trans h.output, by rw [k4]; exact h.size, fun k hk => (k5 k (by omega)).trans (h.block k hk)⟩
theorem take_set {l : List Int} {k : Nat} {v : Int} (hk : 40 ≤ k) : (l.set k v).take 40 = l.take 40 := by
 apply List.ext_getElem?
 intro i
 rw [List.getElem?_take, List.getElem?_take]
 split
 ·rw [List.getElem?_set_ne (by omega)]
 ·rfl
theorem Small.high {l : List Int} (h : Small l) {k : Nat} (hk : 40 ≤ k) (v : Int) : Small (l.set k v) := by
 refine ⟨by simpa using h.1, fun f hf => ?_⟩
 have : (l.set k v).getD f 0 = l.getD f 0 := by rw [List.getD_eq_getElem?_getD, List.getElem?_set_ne (by omega), List.getD_eq_getElem?_getD]
 rw [this]
 exact h.2 f hf
def catchD (l : List Int) (nd ar : Int) (i x : Nat) (a c : List Nat) : List (Mv × List Int) :=
 if x = 4 then more ⟨nd, ar, 4, i, 0⟩ (pass l a c) else if l.getD (44 + x) 0 = 0 then [] else more ⟨nd, ar, 3, i, 0⟩ (pass (l.set (44 + x) (l.getD (44 + x) 0 - 1)) a c)
end Gm
theorem Gm.routs_call {X : World} {b d : Nat} {af : Option Addr} {fs : List Fl} (hF : Nt.Fls X b d af fs) (hb : b ≤ X.heap.size) (hl : fs.length ≤ 100) (an : Option Addr) (n cn cf : Nat) (i : Int) (W : World) (hW : Below X.heap.size X W) :
  Calls Tryz.prog 37 #[.agg #[.slice an n cn, .slice af fs.length cf], .int .i64 i] W fun e w' => ∃ v, e = .returned v ∧ Hid (Below X.heap.size X w' ∧ Below W.heap.size W w' ∧ Gm.Ints w' v ((Nt.outsL fs i).map fun x : Nat => (x : Int))) :=
 (Tryz.rOuts_any i an n cn af cf d fs W ((hF.below (hW.mono hb)).wider (Nat.le_trans hb hW.size)) hl).mono fun _ _ ⟨v, hv, hown, hbb⟩ => ⟨v, hv, hW.trans (hbb.mono hW.size), hbb, Gm.ints_nums hown⟩
theorem Gm.rins_call {X : World} {b d : Nat} {af : Option Addr} {fs : List Fl} (hF : Nt.Fls X b d af fs) (hb : b ≤ X.heap.size) (hl : fs.length ≤ 100) (an : Option Addr) (n cn cf : Nat) (i : Int) (W : World) (hW : Below X.heap.size X W) :
  Calls Tryz.prog 43 #[.agg #[.slice an n cn, .slice af fs.length cf], .int .i64 i] W fun e w' => ∃ v, e = .returned v ∧ Hid (Below X.heap.size X w' ∧ Below W.heap.size W w' ∧ Gm.Ints w' v ((Nt.insL fs i).map fun x : Nat => (x : Int))) :=
 (Tryz.rIns_any i an n cn af cf d fs W ((hF.below (hW.mono hb)).wider (Nat.le_trans hb hW.size)) hl).mono fun _ _ ⟨v, hv, hown, hbb⟩ => ⟨v, hv, hW.trans (hbb.mono hW.size), hbb, Gm.ints_nums hown⟩
set_option maxRecDepth 20000 in
set_option maxHeartbeats 32000000 in
theorem Tryz.rcatch_any (w0 : World) (B b : Nat) (an : Option Addr) (n cn : Nat) (af : Option Addr) (m cf : Nat) (l : List Int) (ss : List (Mv × List Int)) (nd ar : Int) (i : Nat) (a : List Nat) (ra : Value) (X : World) (hG : Gm.D w0 B b an n cn af m cf l ss X) (hl : ss.length ≤ 10000)
  (ha : Gm.Ints X ra (a.map fun x : Nat => (x : Int))) (ha4 : ∀ f ∈ a, f < 40) (hal : a.length ≤ 100) (hS : Gm.Small l) (d : Nat) (ns : List Nd) (fs : List Fl) (hN : Nt.Nds w0 b d an ns) (hF : Nt.Fls w0 b d af fs) (hn : ns.length = n) (hm : fs.length = m) (hf40 : fs.length ≤ 40)
  (hi : i < ns.length) (x : Nat) (hx : ns[i].a = (x : Int)) (hx4 : x ≤ 4) (hQ : ∀ k, k < 4 → 0 ≤ l.getD (44 + k) 0 ∧ l.getD (44 + k) 0 ≤ 3) :
  Calls Tryz.prog 46 #[.pointer (some ⟨b, 0, none⟩), .agg (Gm.stC ⟨nd, ar, 0, 0, 0⟩ Gm.zeros).toArray, .int .i64 i, ra] X fun e' w' => e' = .returned (.tuple #[]) ∧ Gm.D w0 B b an n cn af m cf l (ss ++ Gm.catchD l nd ar i x a (Nt.outsL fs i)) w' ∧ Gm.KeepD X w' := by
 obtain ⟨R, hR⟩ : ∃ R, Gm.catchD l nd ar i x a (Nt.outsL fs i) = R := ⟨_, rfl⟩
 rw [hR]
 obtain ⟨v, hA, hO⟩ := hG.game
 have hll := hA.ll
 have hbX : b < X.heap.size := hA.lt
 have hblt : b ≤ X.heap.size := by omega
 have hFX : Nt.Fls X b d af fs := Gm.fls_fr hF hG.lt hG.fr
 obtain ⟨g, off, u0, han, hgb, k0, k1, -⟩ := Gm.nds_fr hN hG.lt hG.fr i hi
 subst han
 rw [hx] at k1
 obtain ⟨W1, hW1⟩ : ∃ z, X.alloc (.cells (Gm.stC ⟨nd, ar, 0, 0, 0⟩ Gm.zeros).toArray 61) = z := ⟨_, rfl⟩
 have A1 : Below X.heap.size X W1 := by rw [← hW1]; exact (Below.refl _ X).alloc (Nat.le_refl _) _
 have N1 : W1.heap[X.heap.size]? = some (.cells (Gm.stC ⟨nd, ar, 0, 0, 0⟩ Gm.zeros).toArray 61 (0, 0)) := by rw [← hW1]; exact heap_alloc_new X _
 have hA1 := hA.keep (A1.block b hbX)
 have hst := hA1.st
 have c00 := hA1.net0
 have c01 : W1.cell? ⟨g, off + i * 5 + 1, none⟩ = some (.int .i64 x) := by rw [A1.cell (p := ⟨g, off + i * 5 + 1, none⟩) (World.block_lt_of_cell? _ _ k1)]; exact k1
 have hu := Tryz.underlying32
 have hi5 : (Tryz.prog.info? 32).map (·.size) = some (Gm.ints l).length := by rw [Gm.ints_length, hll]; show _ = _; kernel_rfl
 have hi2 : (Tryz.prog.info? 32).map (·.size) = some (Gm.ints l).toArray.size := by simpa using hi5
 have h1c : (Gm.ints l).toArray.all (·.oneCell') = true := all_oneCell_toArray (Gm.ints_one l)
 have hth1 : W1.there X.heap.size 5 (Gm.ints l).toArray.size := Gm.there_st N1 rfl 5 _ (by simp [Gm.ints_length]; omega)
 obtain ⟨W2, hW2⟩ : ∃ z, W1.setCells X.heap.size 5 (Gm.ints l).toArray.toList = z := ⟨_, rfl⟩
 have N2 : W2.heap[X.heap.size]? = some (.cells (Gm.stC ⟨nd, ar, 0, 0, 0⟩ l).toArray 61 (0, 0)) := by
  rw [← hW2]; exact Gm.put_to N1 (by rw [hll]; rfl)
 have A2 : Below X.heap.size X W2 := by rw [← hW2]; exact Gm.below_sets A1 (Nat.le_refl _) _ _
 have hth2 : W2.there X.heap.size 2 3 := Gm.there_st N2 hll 2 3 (by omega)
 have i3 : (Tryz.prog.info? 46).map (·.size) = some 3 := by kernel_rfl
 obtain ⟨W3, hW3⟩ : ∃ z, W2.setCells X.heap.size 2 [.int .i64 4, .int .i64 i, .int .i64 0] = z := ⟨_, rfl⟩
 have N3 : W3.heap[X.heap.size]? = some (.cells (Gm.stC ⟨nd, ar, 4, i, 0⟩ l).toArray 61 (0, 0)) := by rw [← hW3]; exact Gm.put_lab 4 i 0 N2
 have A3 : Below X.heap.size X W3 := by rw [← hW3]; exact Gm.below_sets A2 (Nat.le_refl _) _ _
 have h13 : (#[.int .i64 4, .int .i64 i, .int .i64 0] : Array Value).all (·.oneCell') = true := all_oneCell_toArray (Gm.ints_one [4, i, 0])
 have HC8 : Hid (∀ W, Below X.heap.size X W → Calls Tryz.prog 37 #[.agg #[.slice (some ⟨g, off, none⟩) n cn, .slice af m cf], .int .i64 i] W fun e w' => ∃ v, e = .returned v ∧ Hid (Below X.heap.size X w' ∧ Below W.heap.size W w' ∧ Gm.Ints w' v ((Nt.outsL fs i).map fun x : Nat => (x : Int)))) := fun W hW => by
  have := Gm.routs_call hFX hblt (by omega) (some ⟨g, off, none⟩) n cn cf i W hW
  rw [hm] at this
  exact this
 have ho40 : ∀ q ∈ Nt.outsL fs (i : Int), q < 40 := fun q hq => by have := Gm.outs_lt hq; omega
 have hol : (Nt.outsL fs (i : Int)).length ≤ 100 := by have := Gm.outs_len fs (i : Int); omega
 have HC9 : Hid (∀ W, Below X.heap.size X W → ∀ (mv : Mv) (t : List Int), Gm.Small t → t.take 40 = l.take 40 → ∀ rc, Gm.Ints W rc ((Nt.outsL fs i).map fun x : Nat => (x : Int)) → ss ++ R = Gm.passS ss mv t a (Nt.outsL fs i) → Calls Tryz.prog 29 #[.pointer (some ⟨b, 0, none⟩), .agg (Gm.stC mv t).toArray, ra, rc] W fun e' w' => e' = .returned (.tuple #[]) ∧ Hid (w'.cell? ⟨b, 0, none⟩ = some (.slice (some ⟨g, off, none⟩) n cn) ∧ w'.cell? ⟨b, 1, none⟩ = some (.slice af m cf)) ∧ Hid (Gm.D w0 B b (some ⟨g, off, none⟩) n cn af m cf l (ss ++ R) w' ∧ Gm.KeepD X w')) := fun W hW mv t hSt htk rc hrc he => by
  refine (Tryz.radd_any w0 B b (some ⟨g, off, none⟩) n cn af m cf l ss mv t a (Nt.outsL fs i) ra rc W (hG.below hW) hl (ha.below hW) hrc ha4 ho40 hal hol hSt htk).mono fun e' w' ⟨h1, h2, h3⟩ => ?_
  obtain ⟨v', hA', -⟩ := h2.game
  rw [he]
  exact ⟨h1, ⟨hA'.net0, hA'.net1⟩, h2, (Gm.KeepD.below hW).trans h3⟩
 have HBN : Hid (∀ W, Below X.heap.size X W → W.cell? ⟨b, 0, none⟩ = some (.slice (some ⟨g, off, none⟩) n cn) ∧ W.cell? ⟨b, 1, none⟩ = some (.slice af m cf)) := fun W hW => by
  have := hA.keep (hW.block b hbX)
  exact ⟨this.net0, this.net1⟩
 have HEND : Hid (∀ W, Below X.heap.size X W → R = [] → Gm.D w0 B b (some ⟨g, off, none⟩) n cn af m cf l (ss ++ R) W ∧ Gm.KeepD X W) := fun W hW h => by
  rw [h, List.append_nil]
  exact ⟨hG.below hW, Gm.KeepD.below hW⟩
 have hin : (i : Int) < n := by omega
 have hi0 : (0 : Int) ≤ i := by omega
 have hbw3 : b < X.heap.size := hbX
 have hus := Tryz.underlying61
 have HIS : Hid (∀ mv (t : List Int), t.length = 49 → (Tryz.prog.info? 61).map (·.size) = some (Gm.stC mv t).length) := fun mv t ht => by rw [Gm.stC_length mv t ht]; show _ = _; kernel_rfl
 have HW1 : Hid _ := hW1
 have HW2 : Hid _ := hW2
 have HW3 : Hid _ := hW3
 have HA3 : Hid (Below X.heap.size X W3 ∧ Gm.Small l ∧ l.length = 49) := ⟨A3, hS, hll⟩
 by_cases hx5 : x = 4
 ·have hRR : R = Gm.more ⟨nd, ar, 4, i, 0⟩ (Gm.pass l a (Nt.outsL fs i)) := by rw [← hR]; unfold Gm.catchD; rw [if_pos hx5]
  have e4 : decide ((x : Int) < 4) = false := decide_eq_false (by omega)
  obtain ⟨mv, hmv⟩ : ∃ z : Mv, (⟨nd, ar, 4, i, 0⟩ : Mv) = z := ⟨_, rfl⟩
  obtain ⟨u, hu2⟩ : ∃ z, l = z := ⟨_, rfl⟩
  obtain ⟨wi, hwi⟩ : ∃ z, W3 = z := ⟨_, rfl⟩
  have HWI : Hid (W3 = wi) := hwi
  have hr5 : wi.rangeAt X.heap.size 0 (Gm.stC mv u) := fun j w hj => by
   rw [← hwi]
   simp only [World.cell?, N3, Nat.zero_add]
   rw [hmv, hu2]
   simpa using hj
  have HAI : Hid (Below X.heap.size X wi) := by show Below _ _ _; rw [← hwi]; exact A3
  have his := HIS.out mv u (by rw [← hu2]; exact hll)
  have HC9' : Hid (∀ W, Below X.heap.size X W → ∀ rc, Gm.Ints W rc ((Nt.outsL fs i).map fun x : Nat => (x : Int)) → Calls Tryz.prog 29 #[.pointer (some ⟨b, 0, none⟩), .agg (Gm.stC mv u).toArray, ra, rc] W fun e' w' => e' = .returned (.tuple #[]) ∧ Hid (w'.cell? ⟨b, 0, none⟩ = some (.slice (some ⟨g, off, none⟩) n cn) ∧ w'.cell? ⟨b, 1, none⟩ = some (.slice af m cf)) ∧ Hid (Gm.D w0 B b (some ⟨g, off, none⟩) n cn af m cf l (ss ++ R) w' ∧ Gm.KeepD X w')) := fun W hW rc hrc => by
   refine HC9.out W hW mv u (by rw [← hu2]; exact hS) (by rw [← hu2]) rc hrc ?_
   rw [hRR, ← hmv, ← hu2]; rfl
  clear hG ha ha4 hal hS hN hF hn hm hf40 hi hx hx4 hQ hA hO hll hFX A1 N1 hA1 N2 A2 N3 A3 ho40 hol hR hRR hmv hx5 hwi hu2 k0 k1 hgb hW1 hW2 hW3 HC9
  go_enter Tryz.func46, Tryz.ntmps46
  go_upto_region 1 with fail
  rw [HW1.out]
  go_upto_region 3 with (first
   | refine wpList_load_mid rfl 32 _ rfl b 2 rfl (Gm.ints l) _ hst hu rfl hi5 ?_
   | (refine wpList_store_mid rfl 32 _ _ rfl X.heap.size 5 (Gm.ints l).toArray rfl rfl hth1 hi2 h1c ?_; rw [HW2.out]))
  go_upto_region 4 with (refine wpList_store_mid rfl 46 _ _ rfl X.heap.size 2 #[.int .i64 4, .int .i64 i, .int .i64 0] rfl rfl hth2 i3 h13 ?_; change wpList _ _ _ _ _ (World.setCells W2 X.heap.size 2 [.int .i64 4, .int .i64 i, .int .i64 0]); rw [HW3.out])
  rw [HWI.out]
  clear HW1 HW2 HW3 HWI hst c00 c01 hth1 hth2 hu hi5 hi2 h1c i3 h13
  go_upto_region 8 with fail
  refine wp_region_held_drew (S := (fun V => V.cell? ⟨b, 0, none⟩ = some (.slice (some ⟨g, off, none⟩) n cn) ∧ V.cell? ⟨b, 1, none⟩ = some (.slice af m cf))) (by kernel_rfl) ?_ (fun hHeld => ?_)
  ·exact HBN.out _ HAI.out.drew
  refine Nt.takeS (v := ?va0) 0 49 rfl rfl (by kernel_rfl) (by kernel_rfl) (by kernel_rfl) (fun _ _ _ h => h) (Or.inl ⟨by rfl, ?ya0⟩) hHeld ?ra0
  case ya0 => (intro w hSw; (try dsimp only at hSw); go_simp; all_goals (with_reducible rfl))
  simp only [List.set_cons_succ, List.set_cons_zero]
  refine Nt.takeS (v := ?va2) 2 51 rfl rfl (by kernel_rfl) (by kernel_rfl) (by kernel_rfl) (fun _ _ _ h => h) (Or.inl ⟨by rfl, ?ya2⟩) hHeld ?ra2
  case ya2 => (intro w hSw; (try dsimp only at hSw); go_simp; all_goals (with_reducible rfl))
  simp only [List.set_cons_succ, List.set_cons_zero]
  refine Nt.takeS (v := ?va3) 3 52 rfl rfl (by kernel_rfl) (by kernel_rfl) (by kernel_rfl) (fun _ _ _ h => h) (Or.inl ⟨by rfl, ?ya3⟩) hHeld ?ra3
  case ya3 => (intro w hSw; (try dsimp only at hSw); go_simp; all_goals (with_reducible rfl))
  simp only [List.set_cons_succ, List.set_cons_zero]
  refine Nt.takeS (v := ?va4) 4 53 rfl rfl (by kernel_rfl) (by kernel_rfl) (by kernel_rfl) (fun _ _ _ h => h) (Or.inl ⟨by rfl, ?ya4⟩) hHeld ?ra4
  case ya4 => (intro w hSw; (try dsimp only at hSw); go_simp; all_goals (with_reducible rfl))
  simp only [List.set_cons_succ, List.set_cons_zero]
  refine Nt.takeS (v := ?va5) 5 54 rfl rfl (by kernel_rfl) (by kernel_rfl) (by kernel_rfl) (fun _ _ _ h => h) (Or.inl ⟨by rfl, ?ya5⟩) hHeld ?ra5
  case ya5 => (intro w hSw; (try dsimp only at hSw); go_simp; all_goals (with_reducible rfl))
  simp only [List.set_cons_succ, List.set_cons_zero]
  refine Nt.takeS (v := ?va6) 6 55 rfl rfl (by kernel_rfl) (by kernel_rfl) (by kernel_rfl) (fun _ _ _ h => h) (Or.inl ⟨by rfl, ?ya6⟩) hHeld ?ra6
  case ya6 => (intro w hSw; (try dsimp only at hSw); go_simp; all_goals (with_reducible rfl))
  simp only [List.set_cons_succ, List.set_cons_zero]
  refine Nt.takeS (v := ?va7) 7 56 rfl rfl (by kernel_rfl) (by kernel_rfl) (by kernel_rfl) (fun _ _ _ h => h) (Or.inl ⟨by rfl, ?ya7⟩) hHeld ?ra7
  case ya7 => (intro w hSw; (try dsimp only at hSw); go_simp; all_goals (with_reducible rfl))
  simp only [List.set_cons_succ, List.set_cons_zero]
  refine wpAnyH_ready (rs := [1, 8]) (by kernel_rfl) (by simp) ?_
  refine AllReadyH.cons rfl (fun K hK => ?_) (AllReadyH.cons rfl (fun K hK => ?_) AllReadyH.nil)
  ·refine Gm.step_load rfl 61 _ rfl X.heap.size 0 rfl (Gm.stC mv u) _ (by exact hr5) hus rfl his ?_
   refine hK.out _ _ ?_ (fun hTe => ?_)
   ·exact hHeld
   clear hK K
   first | refine Nt.normS 50 rfl ?_ | skip
   first | (simp only [List.set_cons_succ, List.set_cons_zero]) | skip
   refine wpAnyH_ready (rs := [8]) (by kernel_rfl) (by simp) ?_
   refine AllReadyH.cons rfl (fun K hK => ?_) AllReadyH.nil
   go_simp
   go_at_call 37
   refine Calls.mono (HC8.out _ HAI.out.drew) ?_
   rintro e W5 ⟨rc, rfl, H5⟩
   go_wp2_with fail
   refine hK.out _ _ ?_ (fun hTf => ?_)
   ·exact HBN.out _ H5.out.1
   clear hK K
   first | refine Nt.normS 57 rfl ?_ | skip
   first | (simp only [List.set_cons_succ, List.set_cons_zero]) | skip
   refine wpAnyH_ready (rs := [9]) (by kernel_rfl) (by simp) ?_
   refine AllReadyH.cons rfl (fun K hK => ?_) AllReadyH.nil
   go_simp
   go_at_call 29
   refine Calls.mono (HC9'.out W5 H5.out.1 rc H5.out.2.2) ?_
   rintro e W6 ⟨rfl, H6, HF⟩
   go_wp2_with fail
   refine hK.out _ _ ?_ (fun hTg => ?_)
   ·exact H6.out
   clear hK K
   first | refine Nt.normS 58 rfl ?_ | skip
   first | (simp only [List.set_cons_succ, List.set_cons_zero]) | skip
   refine wpAnyH_done (by kernel_rfl) ?_ _
   clear HC8 HC9'
   go_wp2
   go_end0
   exact ⟨rfl, HF.out⟩
  ·go_simp
   go_at_call 37
   refine Calls.mono (HC8.out _ HAI.out.drew) ?_
   rintro e W5 ⟨rc, rfl, H5⟩
   go_wp2_with fail
   refine hK.out _ _ ?_ (fun hTe => ?_)
   ·exact HBN.out _ H5.out.1
   clear hK K
   first | refine Nt.normS 57 rfl ?_ | skip
   first | (simp only [List.set_cons_succ, List.set_cons_zero]) | skip
   refine wpAnyH_ready (rs := [1]) (by kernel_rfl) (by simp) ?_
   refine AllReadyH.cons rfl (fun K hK => ?_) AllReadyH.nil
   refine Gm.step_load rfl 61 _ rfl X.heap.size 0 rfl (Gm.stC mv u) _ (fun j w hj => by rw [H5.out.2.1.cell (p := ⟨X.heap.size, 0 + j, none⟩) (World.block_lt_of_cell? _ _ (hr5 j w hj))]; exact hr5 j w hj) hus rfl his ?_
   refine hK.out _ _ ?_ (fun hTf => ?_)
   ·exact HBN.out _ H5.out.1
   clear hK K
   first | refine Nt.normS 50 rfl ?_ | skip
   first | (simp only [List.set_cons_succ, List.set_cons_zero]) | skip
   refine wpAnyH_ready (rs := [9]) (by kernel_rfl) (by simp) ?_
   refine AllReadyH.cons rfl (fun K hK => ?_) AllReadyH.nil
   go_simp
   go_at_call 29
   refine Calls.mono (HC9'.out W5 H5.out.1 rc H5.out.2.2) ?_
   rintro e W6 ⟨rfl, H6, HF⟩
   go_wp2_with fail
   refine hK.out _ _ ?_ (fun hTg => ?_)
   ·exact H6.out
   clear hK K
   first | refine Nt.normS 58 rfl ?_ | skip
   first | (simp only [List.set_cons_succ, List.set_cons_zero]) | skip
   refine wpAnyH_done (by kernel_rfl) ?_ _
   clear HC8 HC9'
   go_wp2
   go_end0
   exact ⟨rfl, HF.out⟩
 ·have e4 : decide ((x : Int) < 4) = true := decide_eq_true (by omega)
  have hx3 : x < 4 := by omega
  obtain ⟨y, hy⟩ : ∃ z, l.getD (44 + x) 0 = z := ⟨_, rfl⟩
  have hyb := hQ x hx3
  rw [hy] at hyb
  have q1 : W3.cell? ⟨b, 46 + x, none⟩ = some (.int .i64 y) := by
   rw [A3.cell (p := ⟨b, 46 + x, none⟩) hbX, ← hy]
   have h1 := hA.st (44 + x) (.int .i64 (l.getD (44 + x) 0)) (by
    have := Gm.ints_get (t := l) (f := 44 + x) (by omega)
    simpa using this)
   have e : 2 + (44 + x) = 46 + x := by omega
   rw [e] at h1
   exact h1
  have q0 : (x : Int) < 4 := by omega
  have q00 : (0 : Int) ≤ x := by omega
  by_cases hy0 : y = 0
  ·have e5 : (y == 0) = true := by simpa using hy0
   have HE : Hid (Gm.D w0 B b (some ⟨g, off, none⟩) n cn af m cf l (ss ++ R) W3 ∧ Gm.KeepD X W3) := HEND.out W3 A3 (by rw [← hR]; unfold Gm.catchD; rw [if_neg hx5, hy, if_pos hy0])
   clear hG ha ha4 hal hS hN hF hn hm hf40 hi hx hx4 hQ hA hO hll hFX A1 N1 hA1 N2 A2 N3 A3 ho40 hol hR hx5 k0 k1 hgb hW1 hW2 hW3 HC9 HC8 hy hyb hy0
   go_enter Tryz.func46, Tryz.ntmps46
   go_upto_region 1 with fail
   rw [HW1.out]
   go_upto_region 3 with (first
    | refine wpList_load_mid rfl 32 _ rfl b 2 rfl (Gm.ints l) _ hst hu rfl hi5 ?_
    | (refine wpList_store_mid rfl 32 _ _ rfl X.heap.size 5 (Gm.ints l).toArray rfl rfl hth1 hi2 h1c ?_; rw [HW2.out]))
   go_upto_region 4 with (refine wpList_store_mid rfl 46 _ _ rfl X.heap.size 2 #[.int .i64 4, .int .i64 i, .int .i64 0] rfl rfl hth2 i3 h13 ?_; change wpList _ _ _ _ _ (World.setCells W2 X.heap.size 2 [.int .i64 4, .int .i64 i, .int .i64 0]); rw [HW3.out])
   clear HW1 HW2 HW3 hst c00 c01 hth1 hth2 hu hi5 hi2 h1c i3 h13
   go_wp2
   exact bodyPost_ret (results_none Tryz.results46 _ _ _) rfl ⟨rfl, HE.out⟩
  ·have e5 : (y == 0) = false := by simpa using hy0
   obtain ⟨W4, hW4⟩ : ∃ z, W3.setCells X.heap.size 2 [.int .i64 3, .int .i64 i, .int .i64 0] = z := ⟨_, rfl⟩
   have N4 : W4.heap[X.heap.size]? = some (.cells (Gm.stC ⟨nd, ar, 3, i, 0⟩ l).toArray 61 (0, 0)) := by rw [← hW4]; exact Gm.put_lab 3 i 0 N3
   have A4 : Below X.heap.size X W4 := by rw [← hW4]; exact Gm.below_sets A3 (Nat.le_refl _) _ _
   have hth3 : W3.there X.heap.size 2 3 := Gm.there_st N3 hll 2 3 (by omega)
   have h14 : (#[.int .i64 3, .int .i64 i, .int .i64 0] : Array Value).all (·.oneCell') = true := all_oneCell_toArray (Gm.ints_one [3, i, 0])
   have cx : W4.cell? ⟨X.heap.size, 49 + x, none⟩ = some (.int .i64 y) := by
    simp only [World.cell?, N4]
    have e : 49 + x = 5 + (44 + x) := by omega
    rw [e, Gm.stC_get5 (by omega), hy]
    rfl
   have fx : W4.frozen? ⟨X.heap.size, 49 + x, none⟩ = false := by simp [World.frozen?, N4]
   obtain ⟨wi, hwi⟩ : ∃ z, W4.setCell ⟨X.heap.size, 49 + x, none⟩ (.int .i64 (y - 1)) = z := ⟨_, rfl⟩
   obtain ⟨u, hu2⟩ : ∃ z, l.set (44 + x) (y - 1) = z := ⟨_, rfl⟩
   obtain ⟨mv, hmv⟩ : ∃ z : Mv, (⟨nd, ar, 3, i, 0⟩ : Mv) = z := ⟨_, rfl⟩
   have N5 : wi.heap[X.heap.size]? = some (.cells (Gm.stC mv u).toArray 61 (0, 0)) := by
    rw [← hwi, ← hu2, ← hmv]
    have e : 49 + x = 5 + (44 + x) := by omega
    rw [e]
    exact Gm.put_st N4
   have A5 : Below X.heap.size X wi := by rw [← hwi]; exact A4.setCell (p := ⟨X.heap.size, 49 + x, none⟩) (Nat.le_refl _) _
   have hr5 : wi.rangeAt X.heap.size 0 (Gm.stC mv u) := fun j w hj => by
    simp only [World.cell?, N5, Nat.zero_add]
    simpa using hj
   have HAI : Hid (Below X.heap.size X wi) := A5
   have his := HIS.out mv u (by rw [← hu2]; simpa using hll)
   have ew : IntKind.i64.wrap (y - 1) = y - 1 := by rw [IntKind.wrap_i64]; omega
   have HC9' : Hid (∀ W, Below X.heap.size X W → ∀ rc, Gm.Ints W rc ((Nt.outsL fs i).map fun x : Nat => (x : Int)) → Calls Tryz.prog 29 #[.pointer (some ⟨b, 0, none⟩), .agg (Gm.stC mv u).toArray, ra, rc] W fun e' w' => e' = .returned (.tuple #[]) ∧ Hid (w'.cell? ⟨b, 0, none⟩ = some (.slice (some ⟨g, off, none⟩) n cn) ∧ w'.cell? ⟨b, 1, none⟩ = some (.slice af m cf)) ∧ Hid (Gm.D w0 B b (some ⟨g, off, none⟩) n cn af m cf l (ss ++ R) w' ∧ Gm.KeepD X w')) := fun W hW rc hrc => by
    refine HC9.out W hW mv u (by rw [← hu2]; exact hS.high (by omega) _) (by rw [← hu2]; exact Gm.take_set (by omega)) rc hrc ?_
    rw [← hR, ← hmv, ← hu2]
    unfold Gm.catchD
    rw [if_neg hx5, hy, if_neg hy0]; rfl
   have HWI : Hid _ := hwi
   have HW4 : Hid _ := hW4
   clear hG ha ha4 hal hS hN hF hn hm hf40 hi hx hx4 hQ hA hO hll hFX A1 N1 hA1 N2 A2 N3 A3 ho40 hol hR hx5 k0 k1 hgb hW1 hW2 hW3 HC9 hy hyb hy0 N4 A4 N5 A5 hwi hW4 hu2 hmv
   go_enter Tryz.func46, Tryz.ntmps46
   go_upto_region 1 with fail
   rw [HW1.out]
   go_upto_region 3 with (first
    | refine wpList_load_mid rfl 32 _ rfl b 2 rfl (Gm.ints l) _ hst hu rfl hi5 ?_
    | (refine wpList_store_mid rfl 32 _ _ rfl X.heap.size 5 (Gm.ints l).toArray rfl rfl hth1 hi2 h1c ?_; rw [HW2.out]))
   go_upto_region 4 with (refine wpList_store_mid rfl 46 _ _ rfl X.heap.size 2 #[.int .i64 4, .int .i64 i, .int .i64 0] rfl rfl hth2 i3 h13 ?_; change wpList _ _ _ _ _ (World.setCells W2 X.heap.size 2 [.int .i64 4, .int .i64 i, .int .i64 0]); rw [HW3.out])
   clear HW1 HW2 HW3 hst c00 c01 hth1 hth2 hu hi5 hi2 h1c h13
   go_upto_region 7 with (refine wpList_store_mid rfl 46 _ _ rfl X.heap.size 2 #[.int .i64 3, .int .i64 i, .int .i64 0] rfl rfl hth3 i3 h14 ?_; change wpList _ _ _ _ _ (World.setCells W3 X.heap.size 2 [.int .i64 3, .int .i64 i, .int .i64 0]); rw [HW4.out])
   clear HW4 hth3 i3 h14
   go_upto_region 8 with fail
   rw [HWI.out]
   clear HWI cx fx
   refine wp_region_held_drew (S := (fun V => V.cell? ⟨b, 0, none⟩ = some (.slice (some ⟨g, off, none⟩) n cn) ∧ V.cell? ⟨b, 1, none⟩ = some (.slice af m cf))) (by kernel_rfl) ?_ (fun hHeld => ?_)
   ·exact HBN.out _ HAI.out.drew
   refine Nt.takeS (v := ?vb0) 0 49 rfl rfl (by kernel_rfl) (by kernel_rfl) (by kernel_rfl) (fun _ _ _ h => h) (Or.inl ⟨by rfl, ?yb0⟩) hHeld ?rb0
   case yb0 => (intro w hSw; (try dsimp only at hSw); go_simp; all_goals (with_reducible rfl))
   simp only [List.set_cons_succ, List.set_cons_zero]
   refine Nt.takeS (v := ?vb2) 2 51 rfl rfl (by kernel_rfl) (by kernel_rfl) (by kernel_rfl) (fun _ _ _ h => h) (Or.inl ⟨by rfl, ?yb2⟩) hHeld ?rb2
   case yb2 => (intro w hSw; (try dsimp only at hSw); go_simp; all_goals (with_reducible rfl))
   simp only [List.set_cons_succ, List.set_cons_zero]
   refine Nt.takeS (v := ?vb3) 3 52 rfl rfl (by kernel_rfl) (by kernel_rfl) (by kernel_rfl) (fun _ _ _ h => h) (Or.inl ⟨by rfl, ?yb3⟩) hHeld ?rb3
   case yb3 => (intro w hSw; (try dsimp only at hSw); go_simp; all_goals (with_reducible rfl))
   simp only [List.set_cons_succ, List.set_cons_zero]
   refine Nt.takeS (v := ?vb4) 4 53 rfl rfl (by kernel_rfl) (by kernel_rfl) (by kernel_rfl) (fun _ _ _ h => h) (Or.inl ⟨by rfl, ?yb4⟩) hHeld ?rb4
   case yb4 => (intro w hSw; (try dsimp only at hSw); go_simp; all_goals (with_reducible rfl))
   simp only [List.set_cons_succ, List.set_cons_zero]
   refine Nt.takeS (v := ?vb5) 5 54 rfl rfl (by kernel_rfl) (by kernel_rfl) (by kernel_rfl) (fun _ _ _ h => h) (Or.inl ⟨by rfl, ?yb5⟩) hHeld ?rb5
   case yb5 => (intro w hSw; (try dsimp only at hSw); go_simp; all_goals (with_reducible rfl))
   simp only [List.set_cons_succ, List.set_cons_zero]
   refine Nt.takeS (v := ?vb6) 6 55 rfl rfl (by kernel_rfl) (by kernel_rfl) (by kernel_rfl) (fun _ _ _ h => h) (Or.inl ⟨by rfl, ?yb6⟩) hHeld ?rb6
   case yb6 => (intro w hSw; (try dsimp only at hSw); go_simp; all_goals (with_reducible rfl))
   simp only [List.set_cons_succ, List.set_cons_zero]
   refine Nt.takeS (v := ?vb7) 7 56 rfl rfl (by kernel_rfl) (by kernel_rfl) (by kernel_rfl) (fun _ _ _ h => h) (Or.inl ⟨by rfl, ?yb7⟩) hHeld ?rb7
   case yb7 => (intro w hSw; (try dsimp only at hSw); go_simp; all_goals (with_reducible rfl))
   simp only [List.set_cons_succ, List.set_cons_zero]
   refine wpAnyH_ready (rs := [1, 8]) (by kernel_rfl) (by simp) ?_
   refine AllReadyH.cons rfl (fun K hK => ?_) (AllReadyH.cons rfl (fun K hK => ?_) AllReadyH.nil)
   ·refine Gm.step_load rfl 61 _ rfl X.heap.size 0 rfl (Gm.stC mv u) _ (by exact hr5) hus rfl his ?_
    refine hK.out _ _ ?_ (fun hTe => ?_)
    ·exact hHeld
    clear hK K
    first | refine Nt.normS 50 rfl ?_ | skip
    first | (simp only [List.set_cons_succ, List.set_cons_zero]) | skip
    refine wpAnyH_ready (rs := [8]) (by kernel_rfl) (by simp) ?_
    refine AllReadyH.cons rfl (fun K hK => ?_) AllReadyH.nil
    go_simp
    go_at_call 37
    refine Calls.mono (HC8.out _ HAI.out.drew) ?_
    rintro e W5 ⟨rc, rfl, H5⟩
    go_wp2_with fail
    refine hK.out _ _ ?_ (fun hTf => ?_)
    ·exact HBN.out _ H5.out.1
    clear hK K
    first | refine Nt.normS 57 rfl ?_ | skip
    first | (simp only [List.set_cons_succ, List.set_cons_zero]) | skip
    refine wpAnyH_ready (rs := [9]) (by kernel_rfl) (by simp) ?_
    refine AllReadyH.cons rfl (fun K hK => ?_) AllReadyH.nil
    go_simp
    go_at_call 29
    refine Calls.mono (HC9'.out W5 H5.out.1 rc H5.out.2.2) ?_
    rintro e W6 ⟨rfl, H6, HF⟩
    go_wp2_with fail
    refine hK.out _ _ ?_ (fun hTg => ?_)
    ·exact H6.out
    clear hK K
    first | refine Nt.normS 58 rfl ?_ | skip
    first | (simp only [List.set_cons_succ, List.set_cons_zero]) | skip
    refine wpAnyH_done (by kernel_rfl) ?_ _
    clear HC8 HC9'
    go_wp2
    go_end0
    exact ⟨rfl, HF.out⟩
   ·go_simp
    go_at_call 37
    refine Calls.mono (HC8.out _ HAI.out.drew) ?_
    rintro e W5 ⟨rc, rfl, H5⟩
    go_wp2_with fail
    refine hK.out _ _ ?_ (fun hTe => ?_)
    ·exact HBN.out _ H5.out.1
    clear hK K
    first | refine Nt.normS 57 rfl ?_ | skip
    first | (simp only [List.set_cons_succ, List.set_cons_zero]) | skip
    refine wpAnyH_ready (rs := [1]) (by kernel_rfl) (by simp) ?_
    refine AllReadyH.cons rfl (fun K hK => ?_) AllReadyH.nil
    refine Gm.step_load rfl 61 _ rfl X.heap.size 0 rfl (Gm.stC mv u) _ (fun j w hj => by rw [H5.out.2.1.cell (p := ⟨X.heap.size, 0 + j, none⟩) (World.block_lt_of_cell? _ _ (hr5 j w hj))]; exact hr5 j w hj) hus rfl his ?_
    refine hK.out _ _ ?_ (fun hTf => ?_)
    ·exact HBN.out _ H5.out.1
    clear hK K
    first | refine Nt.normS 50 rfl ?_ | skip
    first | (simp only [List.set_cons_succ, List.set_cons_zero]) | skip
    refine wpAnyH_ready (rs := [9]) (by kernel_rfl) (by simp) ?_
    refine AllReadyH.cons rfl (fun K hK => ?_) AllReadyH.nil
    go_simp
    go_at_call 29
    refine Calls.mono (HC9'.out W5 H5.out.1 rc H5.out.2.2) ?_
    rintro e W6 ⟨rfl, H6, HF⟩
    go_wp2_with fail
    refine hK.out _ _ ?_ (fun hTg => ?_)
    ·exact H6.out
    clear hK K
    first | refine Nt.normS 58 rfl ?_ | skip
    first | (simp only [List.set_cons_succ, List.set_cons_zero]) | skip
    refine wpAnyH_done (by kernel_rfl) ?_ _
    clear HC8 HC9'
    go_wp2
    go_end0
    exact ⟨rfl, HF.out⟩
end Go.Proofs
namespace Go.Proofs
open Go.RowKit
def Tk.OfOk (x0 x1 x2 x3 : Int) (d : Nat) : Prop := ∀ (T : Tm) (v : Value) (w : World), Tm.Lies w w.heap.size d v T → T.allForm = true → T.typedB = true →
 Calls Tryz.prog 89 #[.agg #[.int .i64 T.op, .int .i64 T.num, v], .agg #[.int .i64 x0, .int .i64 x1, .int .i64 x2, .int .i64 x3]] w fun e w' =>
  e = .returned (.agg #[.int .i64 (T.val (Tk.vget x0 x1 x2 x3)).1, .bool (T.val (Tk.vget x0 x1 x2 x3)).2.1, .int .i64 (T.val (Tk.vget x0 x1 x2 x3)).2.2]) ∧ Below w.heap.size w w'
theorem Tk.below_setRow {B : Nat} {a w : World} (h : Below B a w) {g : Nat} (hg : B ≤ g) (cs : Array Value) : Below B a (w.setRow g cs) :=
 h.trans ⟨rfl, rfl, rfl, by simp [World.setRow], fun k hk => by
  simp only [World.setRow, Array.getElem?_modify]
  rw [if_neg (by omega)]⟩
theorem Tk.below_setCell {B : Nat} {a w : World} (h : Below B a w) {p : Addr} (hp : B ≤ p.block) (u : Value) : Below B a (w.setCell p u) :=
 h.trans ⟨rfl, rfl, rfl, by simp [World.setCell], fun k hk => Below.heap_setCell _ _ _ _ (by omega)⟩
theorem Tk.set3 {W : World} {q : Nat} {x y z a b c : Value} {T : TypeId} (h : W.heap[q]? = some (.cells #[x, y, z] T (0, 0))) :
  (((W.setCell ⟨q, 0, none⟩ a).setCell ⟨q, 1, none⟩ b).setCell ⟨q, 2, none⟩ c).heap[q]? = some (.cells #[a, b, c] T (0, 0)) := by
 simp [World.setCell, Array.getElem?_modify, h]
structure Tk.Got1 (w w0 : World) (a1 : Int) (ab : Bool) (a3 : Int) (q : Nat) (W : World) : Prop where
 bw : Below w.heap.size w W
 b0 : Below w0.heap.size w0 W
 ge : w0.heap.size ≤ q
 box : W.heap[q]? = some (.cells #[.int .i64 a1, .bool ab, .int .i64 a3] 136 (0, 0))
theorem Tk.Got1.late {w w0 W3 : World} {a1 a3 : Int} {ab : Bool} (hw : w.heap.size ≤ w0.heap.size) (h1 : Below w.heap.size w W3) (h2 : Below w0.heap.size w0 W3) :
  Tk.Got1 w w0 a1 ab a3 W3.heap.size (W3.alloc (.cells #[.int .i64 a1, .bool ab, .int .i64 a3] 136)) :=
 ⟨h1.alloc (Nat.le_trans hw h2.size) _, h2.alloc h2.size _, h2.size, heap_alloc_new W3 _⟩
theorem Tk.Got1.early {w w0 W3 : World} {a1 a3 : Int} {ab : Bool} (hw : w.heap.size ≤ w0.heap.size) (h1 : Below w.heap.size w W3) (h2 : Below w0.heap.size w0 W3)
  (h3 : W3.heap[w0.heap.size]? = some (.cells #[.int .i64 0, .bool false, .int .i64 0] 136 (0, 0))) :
  Tk.Got1 w w0 a1 ab a3 w0.heap.size (((W3.setCell ⟨w0.heap.size, 0, none⟩ (.int .i64 a1)).setCell ⟨w0.heap.size, 1, none⟩ (.bool ab)).setCell ⟨w0.heap.size, 2, none⟩ (.int .i64 a3)) :=
 ⟨Tk.below_setCell (Tk.below_setCell (Tk.below_setCell h1 hw _) hw _) hw _, Tk.below_setCell (Tk.below_setCell (Tk.below_setCell h2 (Nat.le_refl _) _) (Nat.le_refl _) _) (Nat.le_refl _) _, Nat.le_refl _, Tk.set3 h3⟩
set_option maxHeartbeats 4000000 in
theorem Tryz.of_leaf1 (x0 x1 x2 x3 n : Int) (a : Option Addr) (len cap : Nat) (w : World) (r : Int × Bool × Int) (hr : r = (n, false, 0)) :
  Calls Tryz.prog 89 #[.agg #[.int .i64 1, .int .i64 n, .slice a len cap], .agg #[.int .i64 x0, .int .i64 x1, .int .i64 x2, .int .i64 x3]] w fun e w' => e = .returned (.agg #[.int .i64 r.1, .bool r.2.1, .int .i64 r.2.2]) ∧ Below w.heap.size w w' := by
 have HR : Hid (r = (n, false, 0)) := hr
 clear hr
 go_enter Tryz.func89, Tryz.ntmps89
 go_wp2
 refine bodyPost_ret (v := .agg #[.int .i64 n, .bool false, .int .i64 0]) (by simp [results, Tryz.results89, go_sem]) rfl ⟨Tk.ret_val (by rw [HR.out]) (by rw [HR.out]) (by rw [HR.out]), ?_⟩
 exact (((Below.refl _ w).alloc (Nat.le_refl _) _).alloc (by simp) _).alloc (by simp; omega) _
set_option maxHeartbeats 4000000 in
theorem Tryz.of_leaf2 (x0 x1 x2 x3 n : Int) (a : Option Addr) (len cap : Nat) (w : World) (h : 0 ≤ n ∧ n ≤ 3) (r : Int × Bool × Int) (hr : r = (Tk.vget x0 x1 x2 x3 n, false, 0)) :
  Calls Tryz.prog 89 #[.agg #[.int .i64 2, .int .i64 n, .slice a len cap], .agg #[.int .i64 x0, .int .i64 x1, .int .i64 x2, .int .i64 x3]] w fun e w' => e = .returned (.agg #[.int .i64 r.1, .bool r.2.1, .int .i64 r.2.2]) ∧ Below w.heap.size w w' := by
 have HR : Hid (r = (Tk.vget x0 x1 x2 x3 n, false, 0)) := hr
 clear hr
 obtain rfl | rfl | rfl | rfl : n = 0 ∨ n = 1 ∨ n = 2 ∨ n = 3 := by omega
 all_goals
  go_enter Tryz.func89, Tryz.ntmps89
  go_wp2
  refine bodyPost_ret (v := .agg #[.int .i64 r.1, .bool false, .int .i64 0]) (by rw [HR.out]; simp [results, Tryz.results89, go_sem, Tk.vget]) rfl ⟨Tk.ret_val rfl (by rw [HR.out]) (by rw [HR.out]), ?_⟩
  exact (((Below.refl _ w).alloc (Nat.le_refl _) _).alloc (by simp) _).alloc (by simp; omega) _
end Go.Proofs
