import Derived.Test.YtndfbgfpnjnmlaaGreatDoorRGmDCheck
import Derived.Test.YtndfbgfpnjnmlaaGreatDoorRGmMoves
namespace Go.Proofs
open Go.RowKit Go.Shelf
namespace Gm
def gameCD (v u : Value) (l : List Int) : List Value := [v, u] ++ ints l ++ [.slice none 0 0]
theorem built_gameD (l : List Int) (hl : l.length = 49) (v1 v2 : Option Addr) (n1 n2 m1 m2 : Nat) : Tryz.prog.built 87 [(0, .agg #[.slice v1 n1 n2, .slice v2 m1 m2]), (1, .agg (ints l).toArray)] = some (gameCD (.slice v1 n1 n2) (.slice v2 m1 m2) l).toArray := by
 exact match l, hl with
 | x0 :: x1 :: x2 :: x3 :: x4 :: x5 :: x6 :: x7 :: x8 :: x9 :: x10 :: x11 :: x12 :: x13 :: x14 :: x15 :: x16 :: x17 :: x18 :: x19 :: x20 :: x21 :: x22 :: x23 :: x24 :: x25 :: x26 :: x27 :: x28 :: x29 :: x30 :: x31 :: x32 :: x33 :: x34 :: x35 :: x36 :: x37 :: x38 :: x39 :: x40 :: x41 :: x42 :: x43 :: x44 :: x45 :: x46 :: x47 :: x48 :: [], _ => by show _ = _; kernel_rfl
theorem DAt.of {W : World} {b : Nat} {an af : Option Addr} {n cn m cf : Nat} {l : List Int} (h : W.heap[b]? = some (.cells (gameCD (.slice an n cn) (.slice af m cf) l).toArray 87 (0, 0))) (hl : l.length = 49) : DAt W b an n cn af m cf l (.slice none 0 0) := by
 have hsz : (gameCD (.slice an n cn) (.slice af m cf) l).length = 52 := by simp [gameCD, ints_length, hl]
 have hc : ∀ o, W.cell? ⟨b, o, none⟩ = (gameCD (.slice an n cn) (.slice af m cf) l)[o]? := fun o => by simp [World.cell?, h]
 have hil : (ints l).length = 49 := by rw [ints_length]; exact hl
 refine ⟨by rw [hc]; rfl, by rw [hc]; rfl, ?_, ?_, ?_, ⟨_, h⟩, hl⟩
 ·intro j v hv
  have hj := (List.getElem?_eq_some_iff.1 hv).1
  rw [hc]
  unfold gameCD
  rw [List.append_assoc, List.getElem?_append_right (by simp), List.getElem?_append_left (by simp; omega)]
  simpa using hv
 ·rw [hc]; unfold gameCD
  rw [List.append_assoc, List.getElem?_append_right (by simp), List.getElem?_append_right (by simp [hil])]
  simp [hil]
 ·intro j hj
  refine ⟨?_, by simp [World.frozen?, h]⟩
  rw [hc, List.getElem?_eq_getElem (by omega)]
  rfl
noncomputable def stepsD (ns : List Nd) (fs : List Fl) (l : List Int) : List (Mv × List Int) :=
 if checkE ns fs l ≠ 0 then [] else if l.getD 48 0 ≠ 0 then [] else ((List.range ns.length).flatMap fun i => nodeD ns fs l i) ++ (List.range 4).flatMap fun m => arriveS ns l m
theorem more_length (m : Mv) (o : Option (List Int)) : (more m o).length ≤ 1 := by cases o <;> simp [more]
theorem eventD_length (ns : List Nd) (fs : List Fl) (l : List Int) (i : Nat) (a : List Nat) : ∀ b : List Nat, (eventD ns fs l i a b).length ≤ b.length
 | [] => by simp [eventD]
 | f :: r => by
   rw [eventD, List.length_append, List.length_cons]
   have := eventD_length ns fs l i a r
   have := catchD_length l i f (toOf fs f) ((ns[toOf fs f]?.map Nd.a).getD 0).toNat a (Nt.outsL fs (toOf fs f))
   omega
theorem nodeD_length (ns : List Nd) (fs : List Fl) (l : List Int) (i : Nat) (hf : fs.length ≤ 40) : (nodeD ns fs l i).length ≤ 42 := by
 have h1 := ins_len fs (i : Int)
 have h2 := outs_len fs (i : Int)
 unfold nodeD
 cases ns[i]? with
 | none => simp
 | some x =>
   simp only
   split
   ·unfold endD; split
    ·have := more_length ⟨i, 0, 7, 0, 0⟩ (pass (l.set 48 1) (Nt.insL fs i) []); omega
    ·have := more_length ⟨i, 0, 0, 0, 0⟩ (pass l (Nt.insL fs i) []); omega
   ·split
    ·unfold dataD
     split
     ·simp
     ·split
      ·rw [List.length_append]
       have := more_length ⟨i, 0, 1, i, 0⟩ (pass (l.set (40 + x.a.toNat) 0) (Nt.insL fs i) (Nt.outsL fs i))
       have := more_length ⟨i, 1, 1, i, 1⟩ (pass (l.set (40 + x.a.toNat) 1) (Nt.insL fs i) (Nt.outsL fs i))
       omega
      ·split
       ·simp [fault]
       ·have := more_length ⟨i, 0, 2, i, 0⟩ (pass (l.set (40 + x.a.toNat) (num l x.t).1) (Nt.insL fs i) (Nt.outsL fs i)); omega
    ·split
     ·unfold xorD
      split
      ·have := merge_length l i (Nt.outsL fs i) (Nt.insL fs i); omega
      ·split
       ·simp
       ·split
        ·simp [fault]
        ·have := more_length ⟨i, ((chooseD fs l (Nt.outsL fs i)).1 : Nat), 0, 0, 0⟩ (pass l (Nt.insL fs i) [(chooseD fs l (Nt.outsL fs i)).1]); omega
     ·split
      ·have := more_length ⟨i, 0, 0, 0, 0⟩ (pass l (Nt.insL fs i) (Nt.outsL fs i)); omega
      ·split
       ·have := eventD_length ns fs l i (Nt.insL fs i) (Nt.outsL fs i); omega
       ·split
        ·have := catchD_length l i 0 i x.a.toNat (Nt.insL fs i) (Nt.outsL fs i); omega
        ·simp
end Gm
set_option maxRecDepth 20000 in
set_option maxHeartbeats 32000000 in
theorem Tryz.rSteps_any (an : Option Addr) (n cn : Nat) (af : Option Addr) (m cf : Nat) (l : List Int) (X : World) (d : Nat) (ns : List Nd) (fs : List Fl) (hH : Nt.Has X X.heap.size d an af ns fs) (hn : ns.length = n) (hm : fs.length = m) (hll : l.length = 49) :
    Calls Tryz.prog 13 #[.agg #[.slice an n cn, .slice af m cf], .agg (Gm.ints l).toArray] X fun e w' => ∃ v, e = .returned v ∧ Hid (w'.ownsRow X.heap.size 61 54 v (Gm.stepsD ns fs l).length (Gm.stL (Gm.stepsD ns fs l)) ∧ Below X.heap.size X w') := by
  obtain ⟨w1, hw1⟩ : ∃ z, (X.alloc (.cells #[.slice an n cn, .slice af m cf] 25)).alloc (.cells (Gm.ints l).toArray 32) = z := ⟨_, rfl⟩
  have P0 : w1.heap[X.heap.size]? = some (.cells #[.slice an n cn, .slice af m cf] 25 (0, 0)) := by
    rw [← hw1, Below.heap_alloc _ _ _ (by simp)]; exact heap_alloc_new X _
  have P1 : w1.heap[X.heap.size + 1]? = some (.cells (Gm.ints l).toArray 32 (0, 0)) := by
    rw [← hw1]
    have := heap_alloc_new (X.alloc (.cells #[.slice an n cn, .slice af m cf] 25)) (.cells (Gm.ints l).toArray 32)
    simpa using this
  have A1 : Below X.heap.size X w1 := by rw [← hw1]; exact ((Below.refl _ X).alloc (Nat.le_refl _) _).alloc (by simp) _
  have hu := Tryz.underlying32
  have e1 : (Tryz.prog.info? 32).map (·.size) = some (Gm.ints l).toArray.size := by
    have h : (Gm.ints l).toArray.size = 49 := by simpa [Gm.ints_length] using hll
    rw [h]; show _ = _; kernel_rfl
  have k0 : w1.cell? ⟨X.heap.size, 0, none⟩ = some (.slice an n cn) := by simp [World.cell?, P0]
  have k1 : w1.cell? ⟨X.heap.size, 1, none⟩ = some (.slice af m cf) := by simp [World.cell?, P0]
  have CC : Hid _ := Tryz.rtCheck_any an n cn af m cf l w1 d ns fs ((hH.below A1).wider A1.size) hn hm hll
  obtain ⟨ce, hce⟩ : ∃ z, Gm.checkE ns fs l = z := ⟨_, rfl⟩
  obtain ⟨md, hmd⟩ : ∃ z, l.getD 48 0 = z := ⟨_, rfl⟩
  rw [hce] at CC
  obtain ⟨R, hR⟩ : ∃ z, Gm.stepsD ns fs l = z := ⟨_, rfl⟩
  rw [hR]
  have HRR : Hid ((if ce ≠ 0 then [] else if md ≠ 0 then [] else ((List.range ns.length).flatMap fun i => Gm.nodeD ns fs l i) ++ (List.range 4).flatMap fun m => Gm.arriveS ns l m) = R) := by
    show _ = R
    rw [← hR]; unfold Gm.stepsD; rw [hce, hmd]
  have HA : Hid (Below X.heap.size X w1 ∧ w1.heap[X.heap.size]? = some (.cells #[.slice an n cn, .slice af m cf] 25 (0, 0)) ∧ w1.heap[X.heap.size + 1]? = some (.cells (Gm.ints l).toArray 32 (0, 0))) := ⟨A1, P0, P1⟩
  have HW1 : Hid _ := hw1
  have HNIL : Hid (∀ W, Below w1.heap.size w1 W → R = [] → W.ownsRow X.heap.size 61 54 (.slice none 0 0) R.length (Gm.stL R) ∧ Below X.heap.size X W) := fun W hW h => by
    rw [h]
    exact ⟨⟨rfl, .inl ⟨rfl, rfl⟩⟩, A1.trans (hW.mono A1.size)⟩
  have HM48 : Hid (∀ W, Below w1.heap.size w1 W → W.cell? ⟨X.heap.size + 1, 48, none⟩ = some (.int .i64 md) ∧ W.cell? ⟨X.heap.size, 0, none⟩ = some (.slice an n cn) ∧ W.cell? ⟨X.heap.size, 1, none⟩ = some (.slice af m cf) ∧ W.heap[X.heap.size + 1]? = some (.cells (Gm.ints l).toArray 32 (0, 0))) := fun W hW => by
    have h0 : W.heap[X.heap.size]? = some (.cells #[.slice an n cn, .slice af m cf] 25 (0, 0)) := by rw [hW.block _ (Gm.blk_lt P0)]; exact P0
    have h1 : W.heap[X.heap.size + 1]? = some (.cells (Gm.ints l).toArray 32 (0, 0)) := by rw [hW.block _ (Gm.blk_lt P1)]; exact P1
    refine ⟨?_, by simp [World.cell?, h0], by simp [World.cell?, h0], h1⟩
    simp only [World.cell?, h1]
    rw [Gm.ints_get (by omega), hmd]
    rfl
  by_cases hc0 : ce = 0
  case neg =>
    have e0 : (ce != 0) = true := by simpa using hc0
    have HE : Hid (R = []) := by have := HRR.out; rw [if_pos hc0] at this; exact this.symm
    clear hw1 P0 A1 hce hmd hR hH hn hm hll hc0 HRR
    go_enter Tryz.func13, Tryz.ntmps13
    go_upto_region 1 with fail
    rw [HW1.out]
    clear HW1
    go_wp2_with (first
      | refine wpList_load_row rfl 32 _ rfl _ rfl 32 (Gm.ints l).toArray (0, 0) _ P1 hu rfl e1 ?_
      | fail)
    refine Calls.mono CC.out ?_
    rintro e W2 ⟨rfl, b2⟩
    have HF : Hid _ := HNIL.out W2 b2 HE.out
    clear b2 P1 k0 k1 CC
    go_wp2
    go_ret
    first | exact ⟨_, rfl, HF.out⟩ | exact HF.out
  case pos =>
  have e0 : (ce != 0) = false := by simpa using hc0
  by_cases hm0 : md = 0
  case neg =>
    have e2 : (md != 0) = true := by simpa using hm0
    have HE : Hid (R = []) := by have := HRR.out; rw [if_neg (by simpa using hc0), if_pos hm0] at this; exact this.symm
    clear hw1 P0 A1 hce hmd hR hH hn hm hll hc0 HRR hm0
    go_enter Tryz.func13, Tryz.ntmps13
    go_upto_region 1 with fail
    rw [HW1.out]
    clear HW1
    go_wp2_with (first
      | refine wpList_load_row rfl 32 _ rfl _ rfl 32 (Gm.ints l).toArray (0, 0) _ P1 hu rfl e1 ?_
      | fail)
    refine Calls.mono CC.out ?_
    rintro e W2 ⟨rfl, b2⟩
    have HF : Hid _ := HNIL.out W2 b2 HE.out
    have j48 := (HM48.out W2 b2).1
    clear b2 P1 k0 k1 CC
    go_wp2
    go_ret
    first | exact ⟨_, rfl, HF.out⟩ | exact HF.out
  case pos =>
  have e2 : (md != 0) = false := by simpa using hm0
  obtain ⟨hRt, hS, hQ⟩ := Gm.check_ok hll (by rw [hce]; exact hc0)
  have HR2 : Hid (([] : List (Mv × List Int)) ++ (((List.range n).drop 0).flatMap fun i => Gm.nodeD ns fs l i) ++ (List.range 4).flatMap (fun m => Gm.arriveS ns l m) = R) := by
    have := HRR.out
    rw [if_neg (by simpa using hc0), if_neg (by simpa using hm0), hn] at this
    exact this
  have hbt := Gm.built_gameD l hll an af n cn m cf
  have HX : Hid (Nt.Has X X.heap.size d an af ns fs ∧ ns.length = n ∧ fs.length = m ∧ Gm.Rt ns fs ∧ Gm.Small l ∧ (∀ k, k < 4 → 0 ≤ l.getD (44 + k) 0 ∧ l.getD (44 + k) 0 ≤ 3) ∧ l.length = 49) := ⟨hH, hn, hm, hRt, hS, hQ, hll⟩
  have hn24 : n ≤ 24 := by have := hRt.n24; omega
  clear hw1 P0 A1 hce hmd hR hH hn hm hll hc0 HRR hm0 hRt hS hQ HNIL
  go_enter Tryz.func13, Tryz.ntmps13
  go_upto_region 1 with fail
  rw [HW1.out]
  clear HW1
  go_wp2_with (first
    | refine wpList_load_row rfl 32 _ rfl _ rfl 32 (Gm.ints l).toArray (0, 0) _ P1 hu rfl e1 ?_
    | fail)
  refine Calls.mono CC.out ?_
  rintro e W2 ⟨rfl, b2⟩
  obtain ⟨j48, j0, j1, P2⟩ := HM48.out W2 b2
  have HB2 : Hid (Below w1.heap.size w1 W2) := b2
  clear b2 P1 k0 k1 CC
  obtain ⟨w0, hw0⟩ : ∃ z, W2.alloc (.cells (Gm.gameCD (.slice an n cn) (.slice af m cf) l).toArray 87) = z := ⟨_, rfl⟩
  have A0 : Below W2.heap.size W2 w0 := by rw [← hw0]; exact (Below.refl _ W2).alloc (Nat.le_refl _) _
  have N0 : w0.heap[W2.heap.size]? = some (.cells (Gm.gameCD (.slice an n cn) (.slice af m cf) l).toArray 87 (0, 0)) := by rw [← hw0]; exact heap_alloc_new W2 _
  have hs0 : w0.heap.size = W2.heap.size + 1 := by rw [← hw0]; simp
  obtain ⟨b, hb⟩ : ∃ z, W2.heap.size = z := ⟨_, rfl⟩
  have hXb : X.heap.size ≤ b := by rw [← hb]; exact Nat.le_trans HA.out.1.size HB2.out.size
  have hX1b : X.heap.size + 1 < b := by rw [← hb]; exact Gm.blk_lt P2
  have G0 : Gm.D w0 w0.heap.size b an n cn af m cf l [] w0 := ⟨⟨_, Gm.DAt.of (by rw [← hb]; exact N0) HX.out.2.2.2.2.2.2, rfl, .inl ⟨rfl, rfl⟩⟩, Gm.Fr.refl _ _ _, by omega, Nat.le_refl _⟩
  have hB02 : Below w1.heap.size w1 w0 := HB2.out.trans (A0.mono HB2.out.size)
  have hBX0 : Below X.heap.size X w0 := HA.out.1.trans (hB02.mono HA.out.1.size)
  have hNb : Nt.Nds w0 b d an ns := (HX.out.1.nds.below hBX0).wider hXb
  have hFb : Nt.Fls w0 b d af fs := (HX.out.1.fls.below hBX0).wider hXb
  have HBOX : Hid (∀ W, Gm.KeepD w0 W → W.heap[X.heap.size]? = some (.cells #[.slice an n cn, .slice af m cf] 25 (0, 0)) ∧ W.heap[X.heap.size + 1]? = some (.cells (Gm.ints l).toArray 32 (0, 0))) := fun W hk => by
    have h0 : w0.heap[X.heap.size]? = some (.cells #[.slice an n cn, .slice af m cf] 25 (0, 0)) := by rw [hB02.block _ (Gm.blk_lt HA.out.2.1)]; exact HA.out.2.1
    have h1 : w0.heap[X.heap.size + 1]? = some (.cells (Gm.ints l).toArray 32 (0, 0)) := by rw [hB02.block _ (Gm.blk_lt HA.out.2.2)]; exact HA.out.2.2
    exact ⟨(hk _ _ _ _ h0 (by decide) (by decide)).trans h0, (hk _ _ _ _ h1 (by decide) (by decide)).trans h1⟩
  have HEND : Hid (∀ W, Gm.D w0 w0.heap.size b an n cn af m cf l R W → ∃ v, W.cell? ⟨b, 51, none⟩ = some v ∧ W.ownsRow X.heap.size 61 54 v R.length (Gm.stL R) ∧ Below X.heap.size X W) := fun W h => by
    obtain ⟨v, h1, h2⟩ := h.game
    refine ⟨v, h1.mv, Nt.own_lower h2 (by omega), ⟨h.fr.os.trans hBX0.os, h.fr.tape.trans hBX0.tape, h.fr.output.trans hBX0.output, Nat.le_trans hBX0.size h.fr.size, fun k hk => ?_⟩⟩
    exact (h.fr.block k (by omega) (by omega)).trans (hBX0.block k hk)
  have HCN : Hid (∀ W s', Gm.D w0 w0.heap.size b an n cn af m cf l s' W → s'.length ≤ 4000 → ∀ i : Nat, i < n → Calls Tryz.prog 28 #[.pointer (some ⟨b, 0, none⟩), .int .i64 i] W fun e' w' => e' = .returned (.tuple #[]) ∧ Gm.D w0 w0.heap.size b an n cn af m cf l (s' ++ Gm.nodeD ns fs l i) w' ∧ Gm.KeepD W w') := fun W s' h hp i hi =>
    Tryz.rnode_any w0 w0.heap.size b an n cn af m cf l s' i W h hp HX.out.2.2.2.2.1 HX.out.2.2.2.2.2.1 d ns fs hNb hFb HX.out.2.1 HX.out.2.2.1 HX.out.2.2.2.1 (by rw [HX.out.2.1]; exact hi) HX.out.1.nsz HX.out.1.fsz
  have HCA : Hid (∀ W s', Gm.D w0 w0.heap.size b an n cn af m cf l s' W → s'.length ≤ 5000 → ∀ (mv : Mv) (k : Nat) (z : Int), 40 ≤ k → Calls Tryz.prog 29 #[.pointer (some ⟨b, 0, none⟩), .agg (Gm.stC mv (l.set k z)).toArray, .slice none 0 0, .slice none 0 0] W fun e' w' => e' = .returned (.tuple #[]) ∧ Gm.D w0 w0.heap.size b an n cn af m cf l (s' ++ [(mv, l.set k z)]) w' ∧ Gm.KeepD W w') := fun W s' h hp mv k z hk =>
    Tryz.radd_any w0 w0.heap.size b an n cn af m cf l s' mv (l.set k z) [] [] (.slice none 0 0) (.slice none 0 0) W h (by omega) (Gm.ints_nil _) (Gm.ints_nil _) (by simp) (by simp) (by simp) (by simp) (HX.out.2.2.2.2.1.high hk _) (Gm.take_set hk)
  have HNC : Hid (∀ W s', Gm.D w0 w0.heap.size b an n cn af m cf l s' W → ∀ k, k < n → ∃ (g off : Nat) (ua : Option Addr) (un uc : Nat) (x : Nd), an = some ⟨g, off, none⟩ ∧ ns[k]? = some x ∧ W.cell? ⟨g, off + k * 5, none⟩ = some (.int .i64 x.kind) ∧ W.cell? ⟨g, off + k * 5 + 1, none⟩ = some (.int .i64 x.a) ∧ W.cell? ⟨g, off + k * 5 + 2, none⟩ = some (.int .i64 x.t.op) ∧ W.cell? ⟨g, off + k * 5 + 3, none⟩ = some (.int .i64 x.t.num) ∧ W.cell? ⟨g, off + k * 5 + 4, none⟩ = some (.slice ua un uc)) := fun W s' h k hk => by
    have hk' : k < ns.length := by rw [HX.out.2.1]; exact hk
    obtain ⟨g, off, u, hga, hgb, q0, q1, q2, q3, q4, hT⟩ := Gm.nds_fr hNb h.lt h.fr k hk'
    obtain ⟨ua, uc, rfl⟩ := hT.shape
    exact ⟨g, off, ua, _, uc, ns[k], hga, List.getElem?_eq_getElem hk', q0, q1, q2, q3, q4⟩
  have HS : Hid (([] : List (Mv × List Int)) ++ (((List.range n).drop 0).flatMap fun i => Gm.nodeD ns fs l i) ++ (List.range 4).flatMap (fun m => Gm.arriveS ns l m) = R ∧ Gm.D w0 w0.heap.size b an n cn af m cf l [] w0) := ⟨HR2.out, G0⟩
  have HNL : Hid (∀ i, (Gm.nodeD ns fs l i).length ≤ 42) := fun i => Gm.nodeD_length ns fs l i HX.out.2.2.2.1.f40
  have n0 : w0.cell? ⟨X.heap.size, 0, none⟩ = some (.slice an n cn) := by have := (HBOX.out w0 (Gm.KeepD.refl _)).1; simp [World.cell?, this]
  have HW0 : Hid (W2.alloc (.cells (Gm.gameCD (.slice an n cn) (.slice af m cf) l).toArray 87) = w0) := hw0
  have HBB : Hid (W2.heap.size = b) := hb
  clear hw0 hb A0 N0 hs0 G0 hB02 hBX0 hNb hFb HR2 HA HM48 HB2
  go_upto_region 4 with (first
    | refine wpList_load_row rfl 32 _ rfl _ rfl 32 (Gm.ints l).toArray (0, 0) _ P2 hu rfl e1 ?_
    | refine wpList_buildTo rfl 87 _ rfl (some 23) rfl (Gm.gameCD (.slice an n cn) (.slice af m cf) l).toArray (Eq.trans (congrArg (Tryz.prog.built 87) (by kernel_rfl)) hbt) ?_)
  rw [HW0.out, HBB.out]
  clear HW0 HBB hbt j48 j0 j1 P2
  go_wp2
  go_loopg [6, 28] n (fun gk _ s28 wr => ∃ (j : Nat) (s' : List (Mv × List Int)), s28 = .int .i64 j ∧ gk + j = n ∧ Hid (s' ++ (((List.range n).drop j).flatMap fun i => Gm.nodeD ns fs l i) ++ (List.range 4).flatMap (fun m => Gm.arriveS ns l m) = R ∧ Gm.D w0 w0.heap.size b an n cn af m cf l s' wr ∧ Gm.KeepD w0 wr ∧ s'.length ≤ 42 * j))
  case atStart => exact ⟨0, [], rfl, by omega, HS.out.1, HS.out.2, Gm.KeepD.refl _, by simp⟩
  case round =>
    obtain ⟨j, s', rfl, hj, HJ⟩ := hrel
    clear HS n0
    by_cases hlt : j < n
    · have hd : decide ((j : Int) < n) = true := decide_eq_true (by omega)
      have hdr : (List.range n).drop j = j :: (List.range n).drop (j + 1) := by
        have h1 : j < (List.range n).length := by simpa using hlt
        rw [List.drop_eq_getElem_cons h1]; simp
      have j1 : (j : Int) < n := by omega
      have j0 : (0 : Int) ≤ j := by omega
      have HCT : Hid _ := HCN.out wr s' HJ.out.2.1 (by have := HJ.out.2.2.2; omega) j hlt
      have HGO : Hid ((s' ++ Gm.nodeD ns fs l j) ++ (((List.range n).drop (j + 1)).flatMap fun i => Gm.nodeD ns fs l i) ++ (List.range 4).flatMap (fun m => Gm.arriveS ns l m) = R ∧ (s' ++ Gm.nodeD ns fs l j).length ≤ 42 * (j + 1)) := by
        refine ⟨?_, ?_⟩
        · have := HJ.out.1
          rw [hdr, List.flatMap_cons, ← List.append_assoc] at this
          exact this
        · rw [List.length_append]
          have h1 := HJ.out.2.2.2
          have h2 := HNL.out j
          omega
      clear hdr
      go_wp2_with fail
      refine Calls.mono HCT.out ?_
      rintro e W4 ⟨rfl, g4, k4⟩
      have HN : Hid ((s' ++ Gm.nodeD ns fs l j) ++ (((List.range n).drop (j + 1)).flatMap fun i => Gm.nodeD ns fs l i) ++ (List.range 4).flatMap (fun m => Gm.arriveS ns l m) = R ∧ Gm.D w0 w0.heap.size b an n cn af m cf l (s' ++ Gm.nodeD ns fs l j) W4 ∧ Gm.KeepD w0 W4 ∧ (s' ++ Gm.nodeD ns fs l j).length ≤ 42 * (j + 1)) := ⟨HGO.out.1, g4, HJ.out.2.2.1.trans k4, HGO.out.2⟩
      clear g4 k4 HCT HGO HJ
      go_wp2
      go_roundg (gk - 1)
      case measure => omega
      case rel => exact ⟨j + 1, s' ++ Gm.nodeD ns fs l j, by go_num, by omega, HN.out⟩
    · obtain rfl : j = n := by omega
      have hd : decide ((j : Int) < j) = false := decide_eq_false (by omega)
      have HS2 : Hid (s' ++ ((List.range 4).drop 0).flatMap (fun m => Gm.arriveS ns l m) = R ∧ Gm.D w0 w0.heap.size b an j cn af m cf l s' wr ∧ Gm.KeepD w0 wr ∧ s'.length ≤ 1100) := by
        refine ⟨?_, HJ.out.2.1, HJ.out.2.2.1, by have := HJ.out.2.2.2; omega⟩
        have h1 := HJ.out.1
        rw [List.drop_eq_nil_of_le (by simp), List.flatMap_nil, List.append_nil] at h1
        exact h1
      clear HJ HCN HNL
      go_wp2
      go_loopg [7, 8, 10, 11] 4 (fun gk s7 _ _ _ wo => ∃ (q : Nat) (s2 : List (Mv × List Int)), s7 = .int .i64 q ∧ gk + q = 4 ∧ Hid (s2 ++ ((List.range 4).drop q).flatMap (fun m => Gm.arriveS ns l m) = R ∧ Gm.D w0 w0.heap.size b an j cn af m cf l s2 wo ∧ Gm.KeepD w0 wo ∧ s2.length ≤ 1100 + q))
      case atStart => exact ⟨0, s', rfl, by omega, HS2.out.1, HS2.out.2.1, HS2.out.2.2.1, by have := HS2.out.2.2.2; omega⟩
      case round =>
        obtain ⟨q, s2, rfl, hq, HO⟩ := hrel
        clear HS2
        rename World => wo
        by_cases hltq : q < 4
        · have hd4 : decide ((q : Int) < 4) = true := decide_eq_true (by omega)
          have bn := (HBOX.out wo HO.out.2.2.1).1
          have n0 : wo.cell? ⟨X.heap.size, 0, none⟩ = some (.slice an j cn) := by simp [World.cell?, bn]
          clear bn
          obtain ⟨gq, hgq⟩ : ∃ z, gk = z := ⟨_, rfl⟩
          have HI0 : Hid ((ns.take 0).any (Nt.waitB (q : Int)) = false ∧ Gm.D w0 w0.heap.size b an j cn af m cf l s2 wo ∧ Gm.KeepD w0 wo) := ⟨by simp, HO.out.2.1, HO.out.2.2.1⟩
          have HO2 : Hid (s2 ++ ((List.range 4).drop q).flatMap (fun m => Gm.arriveS ns l m) = R ∧ s2.length ≤ 1100 + q) := ⟨HO.out.1, HO.out.2.2.2⟩
          clear HO
          go_wp2
          go_loopg [8, 10, 42] j (fun gk s8 _ s42 wi => ∃ (k : Nat) (aw : Bool), s8 = .bool aw ∧ s42 = .int .i64 k ∧ gk + k = j ∧ Hid ((ns.take k).any (Nt.waitB (q : Int)) = aw ∧ Gm.D w0 w0.heap.size b an j cn af m cf l s2 wi ∧ Gm.KeepD w0 wi))
          case atStart => exact ⟨0, false, rfl, rfl, by omega, HI0.out⟩
          case round =>
            obtain ⟨k, aw, rfl, rfl, hk, HK⟩ := hrel
            clear HI0 n0
            rename World => wi
            by_cases hltk : k < j
            · have hdk : decide ((k : Int) < j) = true := decide_eq_true (by omega)
              obtain ⟨g, off, ua, un, uc, x, rfl, hxk, c0, c1, c2, c3, c4⟩ := HNC.out wi s2 HK.out.2.1 k hltk
              obtain ⟨kd, hkd⟩ : ∃ z, x.kind = z := ⟨_, rfl⟩
              obtain ⟨xa, hxa⟩ : ∃ z, x.a = z := ⟨_, rfl⟩
              obtain ⟨p1, hp1⟩ : ∃ z, x.t.op = z := ⟨_, rfl⟩
              obtain ⟨p2, hp2⟩ : ∃ z, x.t.num = z := ⟨_, rfl⟩
              rw [hkd] at c0
              rw [hxa] at c1
              rw [hp1] at c2
              rw [hp2] at c3
              have HAW : Hid ((ns.take (k + 1)).any (Nt.waitB (q : Int)) = (aw || (decide (kd = 8) && decide (xa = (q : Int))))) := by
                show _ = _
                obtain ⟨h1, h2⟩ := List.getElem?_eq_some_iff.1 hxk
                rw [List.take_succ_eq_append_getElem h1, List.any_append, HK.out.1, h2]
                simp [Nt.waitB, hkd, hxa]
              obtain ⟨W1, hW1⟩ : ∃ z, (wi.alloc (.cells #[.int .i64 0, .int .i64 0, .int .i64 0, .int .i64 0, .slice none 0 0] 70)).setRow wi.heap.size #[.int .i64 kd, .int .i64 xa, .int .i64 p1, .int .i64 p2, .slice ua un uc] = z := ⟨_, rfl⟩
              have Na : (wi.alloc (.cells #[.int .i64 0, .int .i64 0, .int .i64 0, .int .i64 0, .slice none 0 0] 70)).heap[wi.heap.size]? = some (.cells #[.int .i64 0, .int .i64 0, .int .i64 0, .int .i64 0, .slice none 0 0] 70 (0, 0)) := heap_alloc_new wi _
              have N1 : W1.heap[wi.heap.size]? = some (.cells #[.int .i64 kd, .int .i64 xa, .int .i64 p1, .int .i64 p2, .slice ua un uc] 70 (0, 0)) := by rw [← hW1]; exact setRow_heap _ _ _ _ _ _ Na
              have hB1 : Below wi.heap.size wi W1 := by rw [← hW1]; exact Tk.below_row ((Below.refl _ wi).alloc (Nat.le_refl _) _) (Nat.le_refl _) _
              have HD1 : Hid (Gm.D w0 w0.heap.size b (some ⟨g, off, none⟩) j cn af m cf l s2 W1 ∧ Gm.KeepD w0 W1) := ⟨HK.out.2.1.below hB1, HK.out.2.2.trans (Gm.KeepD.below hB1)⟩
              have y0 : W1.cell? ⟨wi.heap.size, 0, none⟩ = some (.int .i64 kd) := by simp [World.cell?, N1]
              have y1 : W1.cell? ⟨wi.heap.size, 1, none⟩ = some (.int .i64 xa) := by simp [World.cell?, N1]
              have z1 : (k : Int) < j := by omega
              have z0 : (0 : Int) ≤ k := by omega
              have HW1 : Hid _ := hW1
              clear hW1 N1 hB1 hkd hxa hp1 hp2 hxk HK
              go_upto_region 16 with (refine wpList_store_row rfl 70 _ _ rfl wi.heap.size #[.int .i64 kd, .int .i64 xa, .int .i64 p1, .int .i64 p2, .slice ua un uc] rfl rfl 70 _ Na (by kernel_rfl) rfl (by kernel_rfl) ?_; rw [HW1.out])
              clear Na c0 c1 c2 c3 c4 HW1
              cases aw with
              | true =>
                have HN : Hid ((ns.take (k + 1)).any (Nt.waitB (q : Int)) = true) := by show _ = _; rw [HAW.out]; rfl
                clear HAW
                go_wp2
                go_roundg (gk - 1)
                case measure => omega
                case rel => exact ⟨k + 1, true, rfl, by go_num, by omega, HN.out, HD1.out⟩
              | false =>
                by_cases h8 : kd = 8
                · have d8 : (kd == 8) = true := by simpa using h8
                  by_cases hq' : xa = (q : Int)
                  · have dq : (xa == (q : Int)) = true := by simpa using hq'
                    have HN : Hid ((ns.take (k + 1)).any (Nt.waitB (q : Int)) = true) := by show _ = _; rw [HAW.out, decide_eq_true h8, decide_eq_true hq']; rfl
                    clear HAW h8 hq'
                    go_wp2
                    go_roundg (gk - 1)
                    case measure => omega
                    case rel => exact ⟨k + 1, true, rfl, by go_num, by omega, HN.out, HD1.out⟩
                  · have dq : (xa == (q : Int)) = false := by simpa using hq'
                    have HN : Hid ((ns.take (k + 1)).any (Nt.waitB (q : Int)) = false) := by show _ = _; rw [HAW.out, decide_eq_true h8, decide_eq_false hq']; rfl
                    clear HAW h8 hq'
                    go_wp2
                    go_roundg (gk - 1)
                    case measure => omega
                    case rel => exact ⟨k + 1, false, rfl, by go_num, by omega, HN.out, HD1.out⟩
                · have d8 : (kd == 8) = false := by simpa using h8
                  have HN : Hid ((ns.take (k + 1)).any (Nt.waitB (q : Int)) = false) := by show _ = _; rw [HAW.out, decide_eq_false h8]; rfl
                  clear HAW h8
                  go_wp2
                  go_roundg (gk - 1)
                  case measure => omega
                  case rel => exact ⟨k + 1, false, rfl, by go_num, by omega, HN.out, HD1.out⟩
            · obtain rfl : k = j := by omega
              have hdk : decide ((k : Int) < k) = false := decide_eq_false (by omega)
              have hdr : (List.range 4).drop q = q :: (List.range 4).drop (q + 1) := by
                have h1 : q < (List.range 4).length := by simpa using hltq
                rw [List.drop_eq_getElem_cons h1]; simp
              have hawB : Nt.awaitsB ns (q : Int) = aw := by
                have h1 := HK.out.1
                rw [List.take_of_length_le (by rw [HX.out.2.1]; exact Nat.le_refl _)] at h1
                unfold Nt.awaitsB
                rw [h1, decide_eq_true (show (0 : Int) ≤ q by omega), decide_eq_true (show (q : Int) < 4 by omega)]; rfl
              obtain ⟨y, hy⟩ : ∃ z, l.getD (44 + q) 0 = z := ⟨_, rfl⟩
              have hyb := HX.out.2.2.2.2.2.1 q hltq
              rw [hy] at hyb
              have HGO : Hid (s2 ++ (if aw = true ∧ y < 3 then [((⟨-1, (q : Nat), 5, 0, (q : Nat)⟩ : Mv), l.set (44 + q) (y + 1))] else []) ++ ((List.range 4).drop (q + 1)).flatMap (fun m => Gm.arriveS ns l m) = R) := by
                have := HO2.out.1
                rw [hdr, List.flatMap_cons, ← List.append_assoc] at this
                unfold Gm.arriveS at this
                rw [hawB, hy] at this
                exact this
              have P1 := (HBOX.out wi HK.out.2.2).2
              have cy : wi.cell? ⟨X.heap.size + 1, 44 + q, none⟩ = some (.int .i64 y) := by
                simp only [World.cell?, P1]
                rw [Gm.ints_get (by have := HX.out.2.2.2.2.2.2; omega), hy]
                rfl
              have z1 : (q : Int) < 4 := by omega
              have z0 : (0 : Int) ≤ q := by omega
              clear hdr hawB hy
              by_cases hg : aw = true ∧ y < 3
              · obtain ⟨rfl, hy3⟩ := hg
                have d3 : decide (y < 3) = true := decide_eq_true hy3
                have HG2 : Hid ((s2 ++ [((⟨-1, (q : Nat), 5, 0, (q : Nat)⟩ : Mv), l.set (44 + q) (y + 1))]) ++ ((List.range 4).drop (q + 1)).flatMap (fun m => Gm.arriveS ns l m) = R) := by
                  have := HGO.out
                  rw [if_pos ⟨rfl, hy3⟩] at this
                  exact this
                have h49 := HX.out.2.2.2.2.2.2
                have hi3 : (#[.int .i64 0, .int .i64 0, .int .i64 0, .int .i64 0, .int .i64 0, .int .i64 0, .int .i64 0, .int .i64 0, .int .i64 0, .int .i64 0, .int .i64 0, .int .i64 0, .int .i64 0, .int .i64 0, .int .i64 0, .int .i64 0, .int .i64 0, .int .i64 0, .int .i64 0, .int .i64 0, .int .i64 0, .int .i64 0, .int .i64 0, .int .i64 0, .int .i64 0, .int .i64 0, .int .i64 0, .int .i64 0, .int .i64 0, .int .i64 0, .int .i64 0, .int .i64 0, .int .i64 0, .int .i64 0, .int .i64 0, .int .i64 0, .int .i64 0, .int .i64 0, .int .i64 0, .int .i64 0, .int .i64 0, .int .i64 0, .int .i64 0, .int .i64 0, .int .i64 0, .int .i64 0, .int .i64 0, .int .i64 0, .int .i64 0] : Array Value).size = (Gm.ints l).toArray.size := by
                  have : (Gm.ints l).toArray.size = 49 := by simpa [Gm.ints_length] using h49
                  rw [this]; rfl
                have h1c : (Gm.ints l).toArray.all (·.oneCell') = true := all_oneCell_toArray (Gm.ints_one l)
                obtain ⟨W3, hW3⟩ : ∃ z, (wi.alloc (.cells #[.int .i64 0, .int .i64 0, .int .i64 0, .int .i64 0, .int .i64 0, .int .i64 0, .int .i64 0, .int .i64 0, .int .i64 0, .int .i64 0, .int .i64 0, .int .i64 0, .int .i64 0, .int .i64 0, .int .i64 0, .int .i64 0, .int .i64 0, .int .i64 0, .int .i64 0, .int .i64 0, .int .i64 0, .int .i64 0, .int .i64 0, .int .i64 0, .int .i64 0, .int .i64 0, .int .i64 0, .int .i64 0, .int .i64 0, .int .i64 0, .int .i64 0, .int .i64 0, .int .i64 0, .int .i64 0, .int .i64 0, .int .i64 0, .int .i64 0, .int .i64 0, .int .i64 0, .int .i64 0, .int .i64 0, .int .i64 0, .int .i64 0, .int .i64 0, .int .i64 0, .int .i64 0, .int .i64 0, .int .i64 0, .int .i64 0] 32)).setRow wi.heap.size (Gm.ints l).toArray = z := ⟨_, rfl⟩
                have N3a : (wi.alloc (.cells #[.int .i64 0, .int .i64 0, .int .i64 0, .int .i64 0, .int .i64 0, .int .i64 0, .int .i64 0, .int .i64 0, .int .i64 0, .int .i64 0, .int .i64 0, .int .i64 0, .int .i64 0, .int .i64 0, .int .i64 0, .int .i64 0, .int .i64 0, .int .i64 0, .int .i64 0, .int .i64 0, .int .i64 0, .int .i64 0, .int .i64 0, .int .i64 0, .int .i64 0, .int .i64 0, .int .i64 0, .int .i64 0, .int .i64 0, .int .i64 0, .int .i64 0, .int .i64 0, .int .i64 0, .int .i64 0, .int .i64 0, .int .i64 0, .int .i64 0, .int .i64 0, .int .i64 0, .int .i64 0, .int .i64 0, .int .i64 0, .int .i64 0, .int .i64 0, .int .i64 0, .int .i64 0, .int .i64 0, .int .i64 0, .int .i64 0] 32)).heap[wi.heap.size]? = some (.cells #[.int .i64 0, .int .i64 0, .int .i64 0, .int .i64 0, .int .i64 0, .int .i64 0, .int .i64 0, .int .i64 0, .int .i64 0, .int .i64 0, .int .i64 0, .int .i64 0, .int .i64 0, .int .i64 0, .int .i64 0, .int .i64 0, .int .i64 0, .int .i64 0, .int .i64 0, .int .i64 0, .int .i64 0, .int .i64 0, .int .i64 0, .int .i64 0, .int .i64 0, .int .i64 0, .int .i64 0, .int .i64 0, .int .i64 0, .int .i64 0, .int .i64 0, .int .i64 0, .int .i64 0, .int .i64 0, .int .i64 0, .int .i64 0, .int .i64 0, .int .i64 0, .int .i64 0, .int .i64 0, .int .i64 0, .int .i64 0, .int .i64 0, .int .i64 0, .int .i64 0, .int .i64 0, .int .i64 0, .int .i64 0, .int .i64 0] 32 (0, 0)) := heap_alloc_new wi _
                have N3 : W3.heap[wi.heap.size]? = some (.cells (Gm.ints l).toArray 32 (0, 0)) := by rw [← hW3]; exact setRow_heap _ _ _ _ _ _ N3a
                have B3 : Below wi.heap.size wi W3 := by rw [← hW3]; exact Tk.below_row ((Below.refl _ wi).alloc (Nat.le_refl _) _) (Nat.le_refl _) _
                have c44 : W3.cell? ⟨wi.heap.size, 44 + q, none⟩ = some (.int .i64 y) := by
                  simp only [World.cell?, N3]
                  rw [Gm.ints_get (by omega)]
                  simp only [World.cell?, P1] at cy
                  rw [Gm.ints_get (by omega)] at cy
                  exact cy
                have f44 : W3.frozen? ⟨wi.heap.size, 44 + q, none⟩ = false := by simp [World.frozen?, N3]
                obtain ⟨W4, hW4⟩ : ∃ z, W3.setCell ⟨wi.heap.size, 44 + q, none⟩ (.int .i64 (y + 1)) = z := ⟨_, rfl⟩
                have N4 : W4.heap[wi.heap.size]? = some (.cells (Gm.ints (l.set (44 + q) (y + 1))).toArray 32 (0, 0)) := by rw [← hW4]; exact Gm.put_row N3
                have B4 : Below wi.heap.size wi W4 := by rw [← hW4]; exact B3.setCell (p := ⟨wi.heap.size, 44 + q, none⟩) (Nat.le_refl _) _
                have hsl : (l.set (44 + q) (y + 1)).length = 49 := by simpa using h49
                have e4 : (Tryz.prog.info? 32).map (·.size) = some (Gm.ints (l.set (44 + q) (y + 1))).toArray.size := by
                  have : (Gm.ints (l.set (44 + q) (y + 1))).toArray.size = (Gm.ints l).toArray.size := by simp [Gm.ints]
                  rw [this]; exact e1
                have hbt := Gm.built_step4 (-1) (q : Nat) 5 0 (q : Nat) (l.set (44 + q) (y + 1)) hsl
                have HC : Hid _ := HCA.out W4 s2 (HK.out.2.1.below B4) (by have := HO2.out.2; omega) ⟨-1, (q : Nat), 5, 0, (q : Nat)⟩ (44 + q) (y + 1) (by omega)
                have HK4 : Hid (Gm.KeepD w0 W4) := HK.out.2.2.trans (Gm.KeepD.below B4)
                have ew : IntKind.i64.wrap (y + 1) = y + 1 := by rw [IntKind.wrap_i64]; omega
                have HW3 : Hid _ := hW3
                have HW4 : Hid _ := hW4
                clear hW3 hW4 N3 B3 B4 hsl h49 HGO HK hy3 hyb
                go_upto_region 19 with fail
                go_upto_region 20 with (first
                  | refine wpList_load_row rfl 32 _ rfl _ rfl 32 (Gm.ints l).toArray (0, 0) _ P1 hu rfl e1 ?_
                  | (refine wpList_store_row rfl 32 _ _ rfl wi.heap.size (Gm.ints l).toArray rfl rfl 32 _ N3a e1 hi3 h1c ?_; rw [HW3.out]))
                clear HW3 N3a hi3 h1c P1 cy
                go_upto_region 21 with fail
                rw [HW4.out]
                clear HW4 c44 f44
                go_wp2_with (first
                  | refine wpList_load_row rfl 32 _ rfl _ rfl 32 (Gm.ints (l.set (44 + q) (y + 1))).toArray (0, 0) _ N4 hu rfl e4 ?_
                  | refine wpList_buildTo rfl 61 _ rfl (some 81) rfl (Gm.stC ⟨-1, (q : Nat), 5, 0, (q : Nat)⟩ (l.set (44 + q) (y + 1))).toArray (Eq.trans (congrArg (Tryz.prog.built 61) (by kernel_rfl)) hbt) ?_
                  | fail)
                refine Calls.mono HC.out ?_
                rintro e W5 ⟨rfl, g5, k5⟩
                have HN : Hid ((s2 ++ [((⟨-1, (q : Nat), 5, 0, (q : Nat)⟩ : Mv), l.set (44 + q) (y + 1))]) ++ ((List.range 4).drop (q + 1)).flatMap (fun m => Gm.arriveS ns l m) = R ∧ Gm.D w0 w0.heap.size b an k cn af m cf l (s2 ++ [((⟨-1, (q : Nat), 5, 0, (q : Nat)⟩ : Mv), l.set (44 + q) (y + 1))]) W5 ∧ Gm.KeepD w0 W5 ∧ (s2 ++ [((⟨-1, (q : Nat), 5, 0, (q : Nat)⟩ : Mv), l.set (44 + q) (y + 1))]).length ≤ 1100 + (q + 1)) :=
                  ⟨HG2.out, g5, HK4.out.trans k5, by rw [List.length_append]; have := HO2.out.2; simp; omega⟩
                clear g5 k5 HC N4 hbt e4 HG2
                go_wp2
                go_roundg (gq - 1)
                case measure => omega
                case rel => exact ⟨q + 1, s2 ++ [((⟨-1, (q : Nat), 5, 0, (q : Nat)⟩ : Mv), l.set (44 + q) (y + 1))], by go_num, by omega, HN.out⟩
              · have HN : Hid (s2 ++ ((List.range 4).drop (q + 1)).flatMap (fun m => Gm.arriveS ns l m) = R ∧ Gm.D w0 w0.heap.size b an k cn af m cf l s2 wi ∧ Gm.KeepD w0 wi ∧ s2.length ≤ 1100 + (q + 1)) := by
                  have := HGO.out
                  rw [if_neg hg, List.append_nil] at this
                  exact ⟨this, HK.out.2.1, HK.out.2.2, by have := HO2.out.2; omega⟩
                clear HGO
                cases aw with
                | false =>
                  clear hg HK
                  go_wp2
                  go_roundg (gq - 1)
                  case measure => omega
                  case rel => exact ⟨q + 1, s2, by go_num, by omega, HN.out⟩
                | true =>
                  have d3 : decide (y < 3) = false := decide_eq_false (fun h => hg ⟨rfl, h⟩)
                  clear hg HK
                  go_wp2
                  go_roundg (gq - 1)
                  case measure => omega
                  case rel => exact ⟨q + 1, s2, by go_num, by omega, HN.out⟩
        · obtain rfl : q = 4 := by omega
          have HE : Hid (s2 = R) := by
            have h1 := HO.out.1
            rw [List.drop_eq_nil_of_le (by simp), List.flatMap_nil, List.append_nil] at h1
            exact h1
          have HF : Hid _ := HEND.out wo (by rw [← HE.out]; exact HO.out.2.1)
          obtain ⟨v, c51, hv⟩ := HF.out
          have HV : Hid _ := hv
          clear HO HE HF hv
          go_wp2
          go_ret
          first | exact ⟨_, rfl, HV.out⟩ | exact HV.out
end Go.Proofs
