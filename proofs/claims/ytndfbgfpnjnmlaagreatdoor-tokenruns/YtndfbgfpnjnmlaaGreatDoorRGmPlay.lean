import Derived.Test.YtndfbgfpnjnmlaaGreatDoorRGmNode
import Derived.Test.YtndfbgfpnjnmlaaGreatDoorRGmReached
import Derived.Great.BuildSlice
namespace Go.Proofs
open Go.RowKit Go.Shelf
namespace Gm
def gameC (v u : Value) (l : List Int) (want : Int) : List Value := [v, u] ++ ints l ++ [.slice none 0 0, .int .i64 want] ++ ints zeros
theorem built_game (l : List Int) (hl : l.length = 49) (v1 v2 : Option Addr) (n1 n2 m1 m2 : Nat) (want : Int) : Tryz.prog.built 82 [(0, .agg #[.slice v1 n1 n2, .slice v2 m1 m2]), (1, .agg (ints l).toArray), (3, .int .i64 want)] = some (gameC (.slice v1 n1 n2) (.slice v2 m1 m2) l want).toArray := by
 exact match l, hl with
 | x0 :: x1 :: x2 :: x3 :: x4 :: x5 :: x6 :: x7 :: x8 :: x9 :: x10 :: x11 :: x12 :: x13 :: x14 :: x15 :: x16 :: x17 :: x18 :: x19 :: x20 :: x21 :: x22 :: x23 :: x24 :: x25 :: x26 :: x27 :: x28 :: x29 :: x30 :: x31 :: x32 :: x33 :: x34 :: x35 :: x36 :: x37 :: x38 :: x39 :: x40 :: x41 :: x42 :: x43 :: x44 :: x45 :: x46 :: x47 :: x48 :: [], _ => by show _ = _; kernel_rfl
theorem At.of {W : World} {b : Nat} {an af : Option Addr} {n cn m cf : Nat} {l : List Int} {want : Int} (h : W.heap[b]? = some (.cells (gameC (.slice an n cn) (.slice af m cf) l want).toArray 82 (0, 0))) (hl : l.length = 49) : At W b an n cn af m cf l (.slice none 0 0) want zeros := by
 have hsz : (gameC (.slice an n cn) (.slice af m cf) l want).length = 102 := by simp [gameC, ints_length, hl, zeros]
 have hc : ∀ o, W.cell? ⟨b, o, none⟩ = (gameC (.slice an n cn) (.slice af m cf) l want)[o]? := fun o => by simp [World.cell?, h]
 have hil : (ints l).length = 49 := by rw [ints_length]; exact hl
 refine ⟨by rw [hc]; rfl, by rw [hc]; rfl, ?_, ?_, ?_, ?_, ?_, ⟨_, h⟩, hl, rfl⟩
 ·intro j v hv
  have hj := (List.getElem?_eq_some_iff.1 hv).1
  rw [hc]
  unfold gameC
  rw [List.append_assoc, List.append_assoc, List.getElem?_append_right (by simp), List.getElem?_append_left (by simp; omega)]
  simpa using hv
 ·rw [hc]; unfold gameC
  rw [List.append_assoc, List.append_assoc, List.getElem?_append_right (by simp), List.getElem?_append_right (by simp [hil])]
  simp [hil]
 ·rw [hc]; unfold gameC
  rw [List.append_assoc, List.append_assoc, List.getElem?_append_right (by simp), List.getElem?_append_right (by simp [hil])]
  simp [hil]
 ·intro j v hv
  rw [hc]; unfold gameC
  rw [List.getElem?_append_right (by simp [hil])]
  simpa [hil] using hv
 ·intro j hj
  refine ⟨?_, by simp [World.frozen?, h]⟩
  rw [hc, List.getElem?_eq_getElem (by omega)]
  rfl
theorem merge_length (l : List Int) (i : Nat) (b : List Nat) : ∀ a : List Nat, (mergeS l i b a).length ≤ a.length
 | [] => by simp [mergeS]
 | f :: r => by
   rw [mergeS, List.length_append, List.length_cons]
   have := merge_length l i b r
   cases pass l [f] b <;> simp <;> omega
theorem event_length (ns : List Nd) (fs : List Fl) (l : List Int) (i : Nat) (a : List Nat) : ∀ b : List Nat, (eventS ns fs l i a b).length ≤ b.length
 | [] => by simp [eventS]
 | f :: r => by
   rw [eventS, List.length_append, List.length_cons]
   have := event_length ns fs l i a r
   have := catchS_length ns l i f (toOf fs f) a (Nt.outsL fs (toOf fs f))
   omega
theorem node_length (ns : List Nd) (fs : List Fl) (l : List Int) (i : Nat) (hf : fs.length ≤ 40) : (nodeS ns fs l i).length ≤ 42 := by
 have h1 := ins_len fs (i : Int)
 have h2 := outs_len fs (i : Int)
 unfold nodeS
 cases ns[i]? with
 | none => simp
 | some x =>
   simp only
   split
   ·unfold taskS; cases pass l (Nt.insL fs i) (Nt.outsL fs i) <;> simp
   ·split
    ·unfold assignS; split
     ·simp [fault]
     ·cases pass l (Nt.insL fs i) (Nt.outsL fs i) <;> simp
    ·split
     ·split
      ·unfold chooseS; split
       ·simp [fault]
       ·cases pass l (Nt.insL fs i) [(chosen fs l (Nt.outsL fs i) 0).1] <;> simp
      ·have := merge_length l i (Nt.outsL fs i) (Nt.insL fs i); omega
     ·split
      ·unfold andS; cases pass l (Nt.insL fs i) (Nt.outsL fs i) <;> simp
      ·split
       ·have := event_length ns fs l i (Nt.insL fs i) (Nt.outsL fs i); omega
       ·split
        ·have := catchS_length ns l i 0 i (Nt.insL fs i) (Nt.outsL fs i); omega
        ·split
         ·unfold endS; cases pass l (Nt.insL fs i) [] with
          | none => simp
          | some t => simp only; split <;> simp
         ·simp
theorem reached_lt {ns : List Nd} {fs : List Fl} (h : Rt ns fs) {l : List Int} {i : Nat} (hr : reachedB fs l i = true) : i < ns.length := by
 unfold reachedB at hr
 obtain ⟨f, hf, h2⟩ := List.any_eq_true.1 hr
 simp only [Bool.and_eq_true, decide_eq_true_eq] at h2
 have := (h.toL (List.mem_range.1 hf)).1
 omega
end Gm
set_option maxRecDepth 20000 in
set_option maxHeartbeats 16000000 in
theorem Tryz.play_any (an : Option Addr) (n cn : Nat) (af : Option Addr) (m cf : Nat) (l : List Int) (want : Int) (X : World) (d : Nat) (ns : List Nd) (fs : List Fl) (hH : Nt.Has X X.heap.size d an af ns fs) (hn : ns.length = n) (hm : fs.length = m) (hRt : Gm.Rt ns fs) (hS : Gm.Small l) (hQ : ∀ k, k < 4 → 0 ≤ l.getD (44 + k) 0 ∧ l.getD (44 + k) 0 ≤ 3) (hO : Tk.Ops X) :
  Calls Tryz.prog 27 #[.agg #[.slice an n cn, .slice af m cf], .agg (Gm.ints l).toArray, .int .i64 want] X fun e w' => ∃ (b : Nat) (v : Value), e = .returned (.pointer (some ⟨b, 0, none⟩)) ∧ Hid (Gm.At w' b an n cn af m cf l v want (Gm.goes want ([], Gm.zeros) (Gm.stepsL ns fs l)).2 ∧ w'.ownsRow X.heap.size 80 5 v (Gm.goes want ([], Gm.zeros) (Gm.stepsL ns fs l)).1.length (Gm.mvs (Gm.goes want ([], Gm.zeros) (Gm.stepsL ns fs l)).1) ∧ Below X.heap.size X w' ∧ X.heap.size ≤ b) := by
 obtain ⟨R, hR⟩ : ∃ R, Gm.goes want ([], Gm.zeros) (Gm.stepsL ns fs l) = R := ⟨_, rfl⟩
 rw [hR]
 have hll := hS.1
 obtain ⟨wA, hwA⟩ : ∃ z, (X.alloc (.cells #[.slice an n cn, .slice af m cf] 25)).alloc (.cells (Gm.ints l).toArray 29) = z := ⟨_, rfl⟩
 have PA0 : wA.heap[X.heap.size]? = some (.cells #[.slice an n cn, .slice af m cf] 25 (0, 0)) := by
  rw [← hwA, Below.heap_alloc _ _ _ (by simp)]; exact heap_alloc_new X _
 have PA1 : wA.heap[X.heap.size + 1]? = some (.cells (Gm.ints l).toArray 29 (0, 0)) := by
  rw [← hwA]
  have := heap_alloc_new (X.alloc (.cells #[.slice an n cn, .slice af m cf] 25)) (.cells (Gm.ints l).toArray 29)
  simpa using this
 have AA : Below X.heap.size X wA := by rw [← hwA]; exact ((Below.refl _ X).alloc (Nat.le_refl _) _).alloc (by simp) _
 have hsA : wA.heap.size = X.heap.size + 1 + 1 := by rw [← hwA]; simp
 obtain ⟨w0, hw0⟩ : ∃ z, wA.alloc (.cells (Gm.gameC (.slice an n cn) (.slice af m cf) l want).toArray 82) = z := ⟨_, rfl⟩
 have A0' : Below wA.heap.size wA w0 := by rw [← hw0]; exact (Below.refl _ wA).alloc (Nat.le_refl _) _
 have A0 : Below X.heap.size X w0 := AA.trans (A0'.mono AA.size)
 have hs0 : w0.heap.size = X.heap.size + 1 + 1 + 1 := by rw [← hw0]; simp [hsA]
 have P2 : w0.heap[X.heap.size + 1 + 1]? = some (.cells (Gm.gameC (.slice an n cn) (.slice af m cf) l want).toArray 82 (0, 0)) := by
  rw [← hw0, ← hsA]; exact heap_alloc_new wA _
 have P0 : w0.heap[X.heap.size]? = some (.cells #[.slice an n cn, .slice af m cf] 25 (0, 0)) := by rw [A0'.block _ (by omega)]; exact PA0
 have P1 : w0.heap[X.heap.size + 1]? = some (.cells (Gm.ints l).toArray 29 (0, 0)) := by rw [A0'.block _ (by omega)]; exact PA1
 have hA := Gm.At.of P2 hll
 have G0 : Gm.G w0 w0.heap.size (X.heap.size + 1 + 1) an n cn af m cf l want [] Gm.zeros w0 := ⟨⟨_, hA, rfl, .inl ⟨rfl, rfl⟩⟩, Gm.Fr.refl _ _ _, by omega, Nat.le_refl _⟩
 have hbt := Gm.built_game l hll an af n cn m cf want
 have hu := Tryz.underlying29
 have e1 : (Tryz.prog.info? 29).map (·.size) = some (Gm.ints l).toArray.size := by
  have h : (Gm.ints l).toArray.size = 49 := by simpa [Gm.ints_length] using hll
  rw [h]; show _ = _; kernel_rfl
 have g1 : wA.cell? ⟨X.heap.size, 0, none⟩ = some (.slice an n cn) := by simp [World.cell?, PA0]
 have g2 : wA.cell? ⟨X.heap.size, 1, none⟩ = some (.slice af m cf) := by simp [World.cell?, PA0]
 have k1 : w0.cell? ⟨X.heap.size, 0, none⟩ = some (.slice an n cn) := by simp [World.cell?, P0]
 have k2 : w0.cell? ⟨X.heap.size, 1, none⟩ = some (.slice af m cf) := by simp [World.cell?, P0]
 obtain ⟨md, hmd⟩ : ∃ z, l.getD 48 0 = z := ⟨_, rfl⟩
 have k3 : w0.cell? ⟨X.heap.size + 1, 48, none⟩ = some (.int .i64 md) := by
  simp only [World.cell?, P1]
  rw [Gm.ints_get (by omega), hmd]
  rfl
 have hFw : Nt.Fls w0 w0.heap.size d af fs := (hH.fls.below A0).wider A0.size
 have hNb : Nt.Nds w0 (X.heap.size + 1 + 1) d an ns := (hH.nds.below A0).wider (by omega)
 have hFb : Nt.Fls w0 (X.heap.size + 1 + 1) d af fs := (hH.fls.below A0).wider (by omega)
 have hOw : Tk.Ops w0 := hO.below A0 hO.lt
 have hOb : 0 < X.heap.size + 1 + 1 := by have := hO.lt; omega
 have HCR : Hid _ := Tryz.reached_any an n cn af m cf l w0 d fs hFw hm (by have := hRt.f40; omega) hll (fun f hf => hRt.toB hf)
 have HEND : Hid (∀ W p, Gm.G w0 w0.heap.size (X.heap.size + 1 + 1) an n cn af m cf l want p.1 p.2 W → p = R → ∃ v, Gm.At W (X.heap.size + 1 + 1) an n cn af m cf l v want R.2 ∧ W.ownsRow X.heap.size 80 5 v R.1.length (Gm.mvs R.1) ∧ Below X.heap.size X W ∧ X.heap.size ≤ X.heap.size + 1 + 1) := fun W p h hp => by
  subst hp
  obtain ⟨v, h1, h2⟩ := h.game
  refine ⟨v, h1, Nt.own_lower h2 (by omega), ⟨h.fr.os.trans A0.os, h.fr.tape.trans A0.tape, h.fr.output.trans A0.output, Nat.le_trans A0.size h.fr.size, fun k hk => ?_⟩, by omega⟩
  exact (h.fr.block k (by omega) (by omega)).trans (A0.block k hk)
 have HRR : Hid ((if md ≠ 0 then ([], Gm.zeros) else Gm.goes want ([], Gm.zeros) (((List.range 24).flatMap fun i => if Gm.reachedB fs l i = true then Gm.nodeS ns fs l i else []) ++ (List.range 4).flatMap fun m => Gm.arriveS ns l m)) = R) := by
  show _ = R
  rw [← hR]
  unfold Gm.stepsL
  rw [hmd]
  by_cases h : md = 0
  ·rw [if_neg (by simpa using h), if_neg (by simpa using h)]
  ·rw [if_pos h, if_pos h]; rfl
 have HCN : Hid (∀ W p, Gm.G w0 w0.heap.size (X.heap.size + 1 + 1) an n cn af m cf l want p.1 p.2 W → p.1.length ≤ 4000 → ∀ i : Nat, Gm.reachedB fs l i = true → Calls Tryz.prog 41 #[.pointer (some ⟨X.heap.size + 1 + 1, 0, none⟩), .int .i64 i] W fun e' w' => e' = .returned (.tuple #[]) ∧ Gm.G w0 w0.heap.size (X.heap.size + 1 + 1) an n cn af m cf l want (Gm.goes want p (Gm.nodeS ns fs l i)).1 (Gm.goes want p (Gm.nodeS ns fs l i)).2 w' ∧ Gm.KeepI W w') := fun W p h hp i hr =>
  Tryz.node_any w0 w0.heap.size (X.heap.size + 1 + 1) an n cn af m cf l want p i W h hp hS hQ d ns fs hNb hFb hn hm hRt (Gm.reached_lt hRt hr) hH.nsz hH.fsz hOw hOb
 have HCA : Hid (∀ W p, Gm.G w0 w0.heap.size (X.heap.size + 1 + 1) an n cn af m cf l want p.1 p.2 W → p.1.length ≤ 4000 → Calls Tryz.prog 42 #[.pointer (some ⟨X.heap.size + 1 + 1, 0, none⟩)] W fun e' w' => e' = .returned (.tuple #[]) ∧ Gm.G w0 w0.heap.size (X.heap.size + 1 + 1) an n cn af m cf l want (Gm.goes want p ((List.range 4).flatMap fun k => Gm.arriveS ns l k)).1 (Gm.goes want p ((List.range 4).flatMap fun k => Gm.arriveS ns l k)).2 w') := fun W p h hp =>
  Tryz.arrivals_any w0 w0.heap.size (X.heap.size + 1 + 1) an n cn af m cf l want p W h (by omega) d ns hNb hn (by have := hRt.n24; omega) hQ
 have HX : Hid (∀ (j : Nat) (h : j < 24), ∀ V : World, (Instr.index 102 (.agg (Gm.bools (Gm.reachL fs l m)).toArray) (.int .i64 (j : Int))).run Tryz.prog V = .ok (.bool (Gm.reachedB fs l j)) V) := fun j h V => by
  refine Gm.run_indexB _ j _ h ?_ V
  rw [Gm.bools_get (by rw [Gm.reachL_length]; exact h), ← hm, Gm.reachL_get fs l j h]
 have HNL : Hid (∀ i, (Gm.nodeS ns fs l i).length ≤ 42) := fun i => Gm.node_length ns fs l i hRt.f40
 have HG0 : Hid (Gm.G w0 w0.heap.size (X.heap.size + 1 + 1) an n cn af m cf l want [] Gm.zeros w0) := G0
 have HWA : Hid _ := hwA
 have HW0 : Hid (wA.alloc (.cells (Gm.gameC (.slice an n cn) (.slice af m cf) l want).toArray 82) = w0) := hw0
 have HSA : Hid (wA.heap.size = X.heap.size + 1 + 1) := hsA
 clear hwA hw0 hsA hs0 A0 A0' AA PA0 P0 P2 hA G0 hFw hNb hFb hOw hOb hH hn hm hRt hS hQ hO hR hmd hll
 go_enter Tryz.func27, Tryz.ntmps27
 go_upto_region 1 with fail
 rw [HWA.out]
 go_upto_region 2 with (first
  | refine wpList_load_row rfl 29 _ rfl _ rfl 29 (Gm.ints l).toArray (0, 0) _ PA1 hu rfl e1 ?_
  | refine wpList_buildTo rfl 82 _ rfl (some 13) rfl (Gm.gameC (.slice an n cn) (.slice af m cf) l want).toArray (Eq.trans (congrArg (Tryz.prog.built 82) (by kernel_rfl)) hbt) ?_)
 rw [HW0.out, HSA.out]
 clear HW0 HWA HSA hbt g1 g2 PA1
 by_cases hm0 : md = 0
 ·have e0 : (md != 0) = false := by simpa using hm0
  have HR2 : Hid (Gm.goes want ([], Gm.zeros) (((List.range 24).flatMap fun i => if Gm.reachedB fs l i = true then Gm.nodeS ns fs l i else []) ++ (List.range 4).flatMap fun m => Gm.arriveS ns l m) = R) := by
   have := HRR.out
   rw [if_neg (by simpa using hm0)] at this
   exact this
  clear HRR hm0
  go_wp2_with (first
   | refine wpList_load_row rfl 29 _ rfl _ rfl 29 (Gm.ints l).toArray (0, 0) _ P1 hu rfl e1 ?_
   | fail)
  refine Calls.mono HCR.out ?_
  rintro e W1 ⟨rfl, b1⟩
  have HS : Hid (Gm.goes want ([], Gm.zeros) ((((List.range 24).drop 0).flatMap fun i => if Gm.reachedB fs l i = true then Gm.nodeS ns fs l i else []) ++ (List.range 4).flatMap fun m => Gm.arriveS ns l m) = R ∧ Gm.G w0 w0.heap.size (X.heap.size + 1 + 1) an n cn af m cf l want [] Gm.zeros W1) := ⟨HR2.out, HG0.out.below b1⟩
  clear b1 HCR HG0 P1 hu e1 k1 k2 k3 HR2
  go_wp2
  go_loopg [8, 9, 22] 24 (fun gk _ _ s22 wr => ∃ (j : Nat) (p' : List Mv × List Int), s22 = .int .i64 j ∧ gk + j = 24 ∧ Hid (Gm.goes want p' ((((List.range 24).drop j).flatMap fun i => if Gm.reachedB fs l i = true then Gm.nodeS ns fs l i else []) ++ (List.range 4).flatMap fun m => Gm.arriveS ns l m) = R ∧ Gm.G w0 w0.heap.size (X.heap.size + 1 + 1) an n cn af m cf l want p'.1 p'.2 wr ∧ p'.1.length ≤ 42 * j))
  case atStart => exact ⟨0, ([], Gm.zeros), rfl, by omega, HS.out.1, HS.out.2, by simp⟩
  case round =>
   obtain ⟨j, p', rfl, hj, HJ⟩ := hrel
   clear HS
   by_cases hlt : j < 24
   ·have hd : decide ((j : Int) < 24) = true := decide_eq_true (by omega)
    have hix := HX.out j hlt
    have hdr : (List.range 24).drop j = j :: (List.range 24).drop (j + 1) := by
      have h1 : j < (List.range 24).length := by simpa using hlt
      rw [List.drop_eq_getElem_cons h1]; simp
    obtain ⟨rb, hrb⟩ : ∃ z, Gm.reachedB fs l j = z := ⟨_, rfl⟩
    have HGO : Hid (Gm.goes want (Gm.goes want p' (if rb = true then Gm.nodeS ns fs l j else [])) ((((List.range 24).drop (j + 1)).flatMap fun i => if Gm.reachedB fs l i = true then Gm.nodeS ns fs l i else []) ++ (List.range 4).flatMap fun m => Gm.arriveS ns l m) = R) := by
      have := HJ.out.1
      rw [hdr, List.flatMap_cons, hrb, List.append_assoc, Gm.goes_append] at this
      exact this
    rw [hrb] at hix
    have j1 : (j : Int) < 24 := by omega
    have j0 : (0 : Int) ≤ j := by omega
    cases rb with
    | true =>
      have HCT : Hid _ := HCN.out wr p' HJ.out.2.1 (by have := HJ.out.2.2; omega) j hrb
      clear hdr hrb
      go_wp2_with fail
      refine Calls.mono HCT.out ?_
      rintro e W4 ⟨rfl, g4, -⟩
      have HN : Hid (Gm.goes want (Gm.goes want p' (Gm.nodeS ns fs l j)) ((((List.range 24).drop (j + 1)).flatMap fun i => if Gm.reachedB fs l i = true then Gm.nodeS ns fs l i else []) ++ (List.range 4).flatMap fun m => Gm.arriveS ns l m) = R ∧ Gm.G w0 w0.heap.size (X.heap.size + 1 + 1) an n cn af m cf l want (Gm.goes want p' (Gm.nodeS ns fs l j)).1 (Gm.goes want p' (Gm.nodeS ns fs l j)).2 W4 ∧ (Gm.goes want p' (Gm.nodeS ns fs l j)).1.length ≤ 42 * (j + 1)) := by
       have h0 := HGO.out
       rw [if_pos (by trivial)] at h0
       refine ⟨h0, g4, ?_⟩
       rw [Gm.goes_length]
       have h1 := HJ.out.2.2
       have h2 := HNL.out j
       omega
      clear g4 HCT HGO HJ
      go_wp2
      go_roundg (gk - 1)
      case measure => omega
      case rel => exact ⟨j + 1, Gm.goes want p' (Gm.nodeS ns fs l j), by go_num, by omega, HN.out⟩
    | false =>
      have HN : Hid (Gm.goes want p' ((((List.range 24).drop (j + 1)).flatMap fun i => if Gm.reachedB fs l i = true then Gm.nodeS ns fs l i else []) ++ (List.range 4).flatMap fun m => Gm.arriveS ns l m) = R ∧ Gm.G w0 w0.heap.size (X.heap.size + 1 + 1) an n cn af m cf l want p'.1 p'.2 wr ∧ p'.1.length ≤ 42 * (j + 1)) := by
       have h0 := HGO.out
       rw [if_neg (by simp), Gm.goes_nil] at h0
       exact ⟨h0, HJ.out.2.1, by have := HJ.out.2.2; omega⟩
      clear HGO HJ hdr hrb
      go_wp2
      go_roundg (gk - 1)
      case measure => omega
      case rel => exact ⟨j + 1, p', by go_num, by omega, HN.out⟩
   ·obtain rfl : j = 24 := by omega
    have HCT : Hid _ := HCA.out wr p' HJ.out.2.1 (by have := HJ.out.2.2; omega)
    have HE : Hid (Gm.goes want p' ((List.range 4).flatMap fun m => Gm.arriveS ns l m) = R) := by
      have h1 := HJ.out.1
      rw [List.drop_eq_nil_of_le (by simp), List.flatMap_nil, List.nil_append] at h1
      exact h1
    rw [HE.out] at HCT
    clear HJ HE
    go_wp2_with fail
    refine Calls.mono HCT.out ?_
    rintro e W4 ⟨rfl, g4⟩
    have HF : Hid _ := HEND.out W4 R g4 rfl
    clear g4 HCT
    go_wp2
    go_ret
    obtain ⟨v, hv⟩ := HF.out
    exact ⟨_, v, rfl, hv⟩
 ·have e0 : (md != 0) = true := by simpa using hm0
  have HF : Hid _ := HEND.out w0 ([], Gm.zeros) HG0.out (by have := HRR.out; rw [if_pos hm0] at this; exact this)
  clear HRR hm0 HG0
  go_wp2
  go_ret
  obtain ⟨v, hv⟩ := HF.out
  first | exact ⟨_, v, rfl, hv⟩ | exact ⟨_, rfl, v, hv⟩
end Go.Proofs
namespace Go.Proofs
open Go
theorem Nt.put_some (ts : List Value) (ds : List Deferred) (d : Tmp) (v : Value) : Act.put ⟨ts.toArray, ds⟩ (some d) v = ⟨(ts.set d v).toArray, ds⟩ := by
 simp [Act.put]
theorem Nt.takeS {P : Program} {md : Region.Mode} {ops : Array Oper} {Q : Exit → Act → World → Prop} {S : World → Prop} (i : Nat) {oi : Oper} {v : Value} {fuel : Nat} {listed : Array Bool} {ts : List Value} {ds : List Deferred} {w : World} (d : Tmp) (hi : ops[i]? = some oi) (hd : oi.dst = some d)
  (hs : Region.noSelect ops = true) (hf : Region.free md ops listed i = true) (hr : (Region.ready md ops listed).contains i = true)
  (hQ : ∀ c a w, Q (.panic c) (a.put oi.dst v) w → Q (.panic c) a w) (hy : YieldsIf P ops S oi v ⟨ts.toArray, ds⟩) (hS : S w)
  (h : wpAnyH P md ops Q S fuel (listed.setIfInBounds i true) ⟨(ts.set d v).toArray, ds⟩ w) : wpAnyH P md ops Q S (fuel + 1) listed ⟨ts.toArray, ds⟩ w :=
 wpAnyH_take hi hs hf hr hQ hy hS (by rw [hd, Nt.put_some]; exact h)
theorem Nt.normS {P : Program} {md : Region.Mode} {ops : Array Oper} {Q : Exit → Act → World → Prop} {S : World → Prop} {fuel : Nat} {listed : Array Bool} {ts : List Value} {ds : List Deferred} {w : World} {o : Oper} {v : Value} (d : Tmp) (hd : o.dst = some d)
  (h : wpAnyH P md ops Q S fuel listed ⟨(ts.set d v).toArray, ds⟩ w) : wpAnyH P md ops Q S fuel listed (Act.put ⟨ts.toArray, ds⟩ o.dst v) w := by
 rw [hd, Nt.put_some]
 exact h
end Go.Proofs
namespace Go.Proofs
open Go.RowKit
theorem Rk.sweep_take {n : Nat} : ∀ (es : List (Nat × Nat)) (bs : List Bool), (∀ e, e ∈ es → e.1 < n ∧ e.2 < n) → (Rk.sweep es bs).take n = Rk.sweep es (bs.take n)
 | [], _, _ => rfl
 | e :: es, bs, h => by
   have h1 := h e List.mem_cons_self
   rw [Rk.sweep, Rk.sweep, Rk.sweep_take es _ (fun x hx => h x (List.mem_cons_of_mem _ hx))]
   congr 1
   rw [List.getElem?_take_of_lt h1.1]
   split
   ·rw [List.take_set]
   ·rfl
theorem Rk.sweeps_take {n : Nat} {es : List (Nat × Nat)} (h : ∀ e, e ∈ es → e.1 < n ∧ e.2 < n) : ∀ (k : Nat) (bs : List Bool), (Rk.sweeps es k bs).take n = Rk.sweeps es k (bs.take n)
 | 0, _ => rfl
 | k + 1, bs => by rw [Rk.sweeps, Rk.sweeps, Rk.sweeps_take h k, Rk.sweep_take es bs h]
theorem Nt.way_sweep {fs : List (Nat × Nat)} {n a : Nat} (hf : ∀ e, e ∈ fs → e.2 < n) : ∀ (es : List (Nat × Nat)) (bs : List Bool), (∀ e, e ∈ es → e ∈ fs) → Rk.Way fs n a bs → Rk.Way fs n a (Rk.sweep es bs)
 | [], _, _, h => h
 | e :: es, bs, hs, h => by
   rw [Rk.sweep]
   refine Nt.way_sweep hf es _ (fun x hx => hs x (List.mem_cons_of_mem _ hx)) ?_
   split
   ·next hx => exact h.mark (hs e List.mem_cons_self) hx (hf e (hs e List.mem_cons_self))
   ·exact h
theorem Nt.way_sweeps {fs : List (Nat × Nat)} {n a : Nat} (hf : ∀ e, e ∈ fs → e.2 < n) : ∀ (k : Nat) (bs : List Bool), Rk.Way fs n a bs → Rk.Way fs n a (Rk.sweeps fs k bs)
 | 0, _, h => h
 | k + 1, bs, h => Nt.way_sweeps hf k _ (Nt.way_sweep hf fs bs (fun _ h => h) h)
theorem Nt.sweeps_met {es : List (Nat × Nat)} {n a : Nat} (hes : ∀ e, e ∈ es → e.1 < n ∧ e.2 < n) (ha : a < n) : Rk.sweeps es n ((List.replicate n false).set a true) = (List.range n).map (Rk.met es a) := by
 refine (Nt.way_sweeps (fun e h => (hes e h).2) n _ (Rk.Way.start es ha)).done ?_
 refine Rk.sweeps_shut n _ (fun e h => by simpa using (hes e h).2) ?_
 have := Rk.left_le ((List.replicate n false).set a true)
 simpa using this
theorem Nt.sweeps_long {es : List (Nat × Nat)} {n a N : Nat} (hes : ∀ e, e ∈ es → e.1 < n ∧ e.2 < n) (ha : a < n) (hN : n ≤ N) (i : Nat) (hi : i < n) : (Rk.sweeps es n ((List.replicate N false).set a true))[i]? = some (Rk.met es a i) := by
 have h := Rk.sweeps_take hes n ((List.replicate N false).set a true)
 rw [List.take_set, List.take_replicate, Nat.min_eq_left hN, Nt.sweeps_met hes ha] at h
 rw [← List.getElem?_take_of_lt hi, h]
 simp [hi]
def Nt.back (es : List (Nat × Nat)) : List (Nat × Nat) := es.map fun e => (e.2, e.1)
theorem Nt.met_back (es : List (Nat × Nat)) (a b : Nat) : Rk.met (Nt.back es) b a = Rk.met es a b := by
 rw [Bool.eq_iff_iff, Rk.met_iff, Rk.met_iff]
 exact Rk.back_iff es a b
theorem Nt.back_lt {es : List (Nat × Nat)} {n : Nat} (hes : ∀ e, e ∈ es → e.1 < n ∧ e.2 < n) : ∀ e, e ∈ Nt.back es → e.1 < n ∧ e.2 < n := by
 intro e he
 obtain ⟨x, hx, rfl⟩ := List.mem_map.1 he
 have := hes x hx
 exact ⟨this.2, this.1⟩
theorem Nt.edges_lt {ns : List Nd} {fs : List Fl} (h : ∀ f, f ∈ fs → 0 ≤ f.fr ∧ f.fr < ns.length ∧ 0 ≤ f.to ∧ f.to < ns.length) : ∀ e, e ∈ Nt.edges fs → e.1 < ns.length ∧ e.2 < ns.length := by
 intro e he
 obtain ⟨f, hf, rfl⟩ := List.mem_map.1 he
 have := h f hf
 exact ⟨by show f.fr.toNat < _; omega, by show f.to.toNat < _; omega⟩
theorem Nt.edges_get (fs : List Fl) (k : Nat) (h : k < fs.length) : (Nt.edges fs)[k]'(by simpa [Nt.edges] using h) = (fs[k].fr.toNat, fs[k].to.toNat) := by simp [Nt.edges]
theorem Nt.edges_length (fs : List Fl) : (Nt.edges fs).length = fs.length := by simp [Nt.edges]
theorem Nt.back_length (es : List (Nat × Nat)) : (Nt.back es).length = es.length := by simp [Nt.back]
end Go.Proofs
namespace Go.Proofs
open Go.RowKit Go.Shelf
theorem Nt.others_zero (ns : List Nd) (fs : List Fl) (i : Int) : decide (Nt.othersN ns fs i = 0) = !fs.any (Nt.otherB ns i) := by
 rw [Bool.eq_iff_iff, decide_eq_true_eq, Bool.not_eq_true', Nt.othersN, List.countP_eq_zero, List.any_eq_false]
 rfl
set_option maxRecDepth 20000 in
set_option maxHeartbeats 8000000 in
theorem Tryz.jointRight_xor (i : Nat) (a b el ot : Nat) (g o2 n cn : Nat) (af : Option Addr) (m cf : Nat) (w : World) (hg : g < w.heap.size) (hi : i < n) (_hn : n ≤ 100) (hkc : w.cell? ⟨g, o2 + i * 5, none⟩ = some (.int .i64 5))
  (hL : ∀ W, Below w.heap.size w W → Calls Tryz.prog 96 #[.agg #[.slice (some ⟨g, o2, none⟩) n cn, .slice af m cf], .int .i64 i] W fun e w' => e = .returned (.bool (decide (ot = 0))) ∧ Below W.heap.size W w') :
  Calls Tryz.prog 80 #[.agg #[.slice (some ⟨g, o2, none⟩) n cn, .slice af m cf], .int .i64 i, .agg #[.int .i64 a, .int .i64 b, .int .i64 el]] w fun e w' => e = .returned (.bool (Nt.joinB 5 a b el ot)) ∧ Below w.heap.size w w' := by
 obtain ⟨w1, hw1⟩ : ∃ x, (w.alloc (.cells #[.slice (some ⟨g, o2, none⟩) n cn, .slice af m cf] 25)).alloc (.cells #[.int .i64 a, .int .i64 b, .int .i64 el] 124) = x := ⟨_, rfl⟩
 have A1 : Below w.heap.size w w1 := by rw [← hw1]; exact ((Below.refl _ w).alloc (Nat.le_refl _) _).alloc (by simp) _
 have HL : Hid _ := hL w1 A1
 have HA : Hid (Below w.heap.size w w1) := A1
 have H1 : Hid ((w.alloc (.cells #[.slice (some ⟨g, o2, none⟩) n cn, .slice af m cf] 25)).alloc (.cells #[.int .i64 a, .int .i64 b, .int .i64 el] 124) = w1) := hw1
 have hi' : (i : Int) < n := by omega
 have hi0 : (0 : Int) ≤ i := by omega
 obtain ⟨z, hz⟩ : ∃ z, decide (ot = 0) = z := ⟨_, rfl⟩
 rw [hz] at HL
 obtain ⟨r, hr⟩ : ∃ r, Nt.joinB 5 a b el ot = r := ⟨_, rfl⟩
 rw [hr]
 rw [show Nt.joinB 5 a b el ot = decide ((a = 1 ∧ 2 ≤ b ∧ el = 1) ∨ (2 ≤ a ∧ b = 1)) from by simp [Nt.joinB]] at hr
 have HR : Hid (decide ((a = 1 ∧ 2 ≤ b ∧ el = 1) ∨ (2 ≤ a ∧ b = 1)) = r ∧ decide (ot = 0) = z) := ⟨hr, hz⟩
 have hA : (((a : Int) == 0) = true ∧ ((a : Int) == 1) = false ∧ decide ((1 : Int) < a) = false ∧ Hid (a = 0)) ∨ (((a : Int) == 0) = false ∧ ((a : Int) == 1) = true ∧ decide ((1 : Int) < a) = false ∧ Hid (a = 1)) ∨ (((a : Int) == 0) = false ∧ ((a : Int) == 1) = false ∧ decide ((1 : Int) < a) = true ∧ Hid (2 ≤ a)) := by
  rcases Nat.lt_or_ge a 1 with h | h
  ·exact .inl ⟨by simp; omega, by simp; omega, by simp; omega, by show a = 0; omega⟩
  ·rcases Nat.lt_or_ge a 2 with h | h
   ·exact .inr (.inl ⟨by simp; omega, by simp; omega, by simp; omega, by show a = 1; omega⟩)
   ·exact .inr (.inr ⟨by simp; omega, by simp; omega, by simp; omega, h⟩)
 have hB : (((b : Int) == 0) = true ∧ ((b : Int) == 1) = false ∧ decide ((1 : Int) < b) = false ∧ Hid (b = 0)) ∨ (((b : Int) == 0) = false ∧ ((b : Int) == 1) = true ∧ decide ((1 : Int) < b) = false ∧ Hid (b = 1)) ∨ (((b : Int) == 0) = false ∧ ((b : Int) == 1) = false ∧ decide ((1 : Int) < b) = true ∧ Hid (2 ≤ b)) := by
  rcases Nat.lt_or_ge b 1 with h | h
  ·exact .inl ⟨by simp; omega, by simp; omega, by simp; omega, by show b = 0; omega⟩
  ·rcases Nat.lt_or_ge b 2 with h | h
   ·exact .inr (.inl ⟨by simp; omega, by simp; omega, by simp; omega, by show b = 1; omega⟩)
   ·exact .inr (.inr ⟨by simp; omega, by simp; omega, by simp; omega, h⟩)
 have hE : (((el : Int) == 1) = true ∧ Hid (el = 1)) ∨ (((el : Int) == 1) = false ∧ Hid (¬ el = 1)) := by
  by_cases h : el = 1
  ·exact .inl ⟨by simp; omega, h⟩
  ·exact .inr ⟨by simp; omega, h⟩
 clear hL hw1 A1 hz hr
 rcases hA with ⟨a0, a1, a2, a3⟩ | ⟨a0, a1, a2, a3⟩ | ⟨a0, a1, a2, a3⟩ <;> rcases hB with ⟨b0, b1, b2, b3⟩ | ⟨b0, b1, b2, b3⟩ | ⟨b0, b1, b2, b3⟩ <;> rcases hE with ⟨e0, e1⟩ | ⟨e0, e1⟩
 all_goals
  clear HL
  go_enter Tryz.func80, Tryz.ntmps80
  go_wp2
  go_ret
  rw [H1.out]
  refine ⟨Tk.ret_bool ?_, HA.out⟩
  rw [← HR.out.1]
  have x1 := a3.out
  have x2 := b3.out
  have x3 := e1.out
  first | exact (decide_eq_true (by omega)).symm | exact (decide_eq_false (by omega)).symm
end Go.Proofs
