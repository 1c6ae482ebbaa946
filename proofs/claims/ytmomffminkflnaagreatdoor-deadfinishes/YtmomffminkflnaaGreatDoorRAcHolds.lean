import Derived.Test.YtmomffminkflnaaGreatDoorRAcModel
namespace Go.Proofs
open Go.RowKit Go.Shelf
def Ac.kidBad (K k : Int) : Bool := if k = 13 ∨ k = 14 then true else if k = 12 then K != 13 else ((k == 10) != (K == 9))
def Ac.holdsB (T : Ac) : Bool := !(T.ks.any fun k => Ac.kidBad T.kind k.kind)
set_option maxHeartbeats 4000000 in
theorem Tryz.holds1_any (k K : Int) (x1 x2 x3 x4 x5 x6 x7 x8 x9 x10 x11 : Value) (bx : Nat) (w : World) (h : w.cell? ⟨bx, 0, none⟩ = some (.int .i64 K)) : Calls Tryz.prog 75 #[.agg #[.int .i64 k, x1, x2, x3, x4, x5, x6, x7, x8, x9, x10, x11], .pointer (some ⟨bx, 0, none⟩)] w fun e w' => e = .returned (.bool (Ac.kidBad K k)) ∧ Below w.heap.size w w' := by
 have B0 : Hid (Below w.heap.size w (w.alloc (.cells #[.int .i64 k, x1, x2, x3, x4, x5, x6, x7, x8, x9, x10, x11] 32))) := (Below.refl _ w).alloc (Nat.le_refl _) _
 have hl : bx < w.heap.size := by
  rcases Nat.lt_or_ge bx w.heap.size with h1 | h1
  ·exact h1
  ·unfold World.cell? at h
   simp [h1] at h
 have h' : (w.alloc (.cells #[.int .i64 k, x1, x2, x3, x4, x5, x6, x7, x8, x9, x10, x11] 32)).cell? ⟨bx, 0, none⟩ = some (.int .i64 K) := (B0.out.cell (p := ⟨bx, 0, none⟩) hl).trans h
 by_cases c13 : k = 13
 ·subst c13
  have e : Ac.kidBad K 13 = true := rfl
  rw [e]
  clear e h
  go_enter Tryz.func75, Tryz.ntmps75
  go_wp2
  go_ret
  exact ⟨rfl, B0.out⟩
 by_cases c14 : k = 14
 ·subst c14
  have e : Ac.kidBad K 14 = true := rfl
  rw [e]
  clear e h c13
  go_enter Tryz.func75, Tryz.ntmps75
  go_wp2
  go_ret
  exact ⟨rfl, B0.out⟩
 by_cases c12 : k = 12
 ·subst c12
  have e : Ac.kidBad K 12 = (K != 13) := rfl
  rw [e]
  clear e h c13 c14
  go_enter Tryz.func75, Tryz.ntmps75
  go_wp2
  go_ret
  exact ⟨rfl, B0.out⟩
 ·have e : Ac.kidBad K k = ((k == 10) != (K == 9)) := by unfold Ac.kidBad; rw [if_neg (by omega), if_neg c12]
  rw [e]
  have d13 : (k == 13) = false := by simpa using c13
  have d14 : (k == 14) = false := by simpa using c14
  have d12 : (k == 12) = false := by simpa using c12
  clear e h c13 c14 c12
  obtain ⟨p, hp⟩ : ∃ p, (k == 10) = p := ⟨_, rfl⟩
  obtain ⟨q, hq⟩ : ∃ p, (K == 9) = p := ⟨_, rfl⟩
  rw [hp, hq]
  cases p <;> cases q
  all_goals
   go_enter Tryz.func75, Tryz.ntmps75
   go_wp2
   go_ret
   exact ⟨rfl, B0.out⟩
structure Ak.Pred (p : Ac → Bool) (g : Nat) (lb : Array Value) (B e : Nat) (w0 : World) : Prop where
 enters : ∀ args w, (callFunc g args).run Tryz.prog w = .ok (.enter g args) w
 calls : ∀ (W : World) (d : Nat) (T : Ac) (V : Ac.Vs), Below w0.heap.size w0 W → Ac.Lies W B e d V T → Calls Tryz.prog g (#[.agg (Ac.row T V)] ++ lb) W fun e w' => e = .returned (.bool (p T)) ∧ Below W.heap.size W w'
set_option maxRecDepth 20000 in
set_option maxHeartbeats 4000000 in
theorem Tryz.aindex_any {p : Ac → Bool} {g : Nat} {lb : Array Value} {B e : Nat} (d : Nat) (T : Ac) (V : Ac.Vs) (a : Option Addr) (cap : Nat) (w : World) (hP : Ak.Pred p g lb B e w) (hT : Ac.Lies w B e d V T) (hv : V.k = .slice a T.ks.length cap) (hB : B ≤ w.heap.size) (hn : T.ks.length ≤ 2147483647) :
  Calls Tryz.prog 99 #[.slice a T.ks.length cap, .func (.func g) #[] lb] w fun e w' => (∃ r : Int, e = .returned (.int .i64 r) ∧ decide (0 ≤ r) = T.ks.any p) ∧ Below w.heap.size w w' := by
 cases d with
 | zero => exact hT.elim
 | succ d =>
 obtain ⟨n, hln⟩ : ∃ n, T.ks.length = n := ⟨_, rfl⟩
 have HT : Hid (Ac.Lies w B e (d + 1) V T ∧ V.k = .slice a n cap ∧ T.ks.length = n ∧ B ≤ w.heap.size) := ⟨hT, by rw [hv, hln], hln, hB⟩
 have HP : Hid (Ak.Pred p g lb B e w) := hP
 have eg := hP.enters
 rw [hln] at hn ⊢
 clear hT hv hln hP hB
 go_enter Tryz.func99, Tryz.ntmps99
 go_wp2
 go_loopg [8] n (fun gk i wr => ∃ j : Nat, gk + j = n ∧ i = .int .i64 j ∧ Hid ((T.ks.take j).any p = false ∧ Below w.heap.size w wr))
 case atStart => exact ⟨0, by omega, rfl, by simp, Below.refl _ w⟩
 case round =>
  obtain ⟨j, hj, rfl, HJ⟩ := hrel
  by_cases hjn : j < n
  ·have hd : decide ((j : Int) < n) = true := decide_eq_true (by omega)
   have hjk : j < T.ks.length := by rw [HT.out.2.2.1]; exact hjn
   obtain ⟨g', off, U, rfl, hg, hrw, hlu⟩ := HT.out.1.kid HT.out.2.1 j hjk
   obtain ⟨x, hx⟩ : ∃ x, T.ks[j] = x := ⟨_, rfl⟩
   rw [hx] at hrw hlu
   obtain ⟨y0, y1, y2, y3, y4, y5, y6, y7, y8, y9, y10, y11, hyr⟩ : ∃ y0 y1 y2 y3 y4 y5 y6 y7 y8 y9 y10 y11, Ac.row x U = #[y0, y1, y2, y3, y4, y5, y6, y7, y8, y9, y10, y11] := ⟨_, _, _, _, _, _, _, _, _, _, _, _, rfl⟩
   rw [hyr] at hrw
   have hc : ∀ p, wr.cell? ⟨g', p, none⟩ = w.cell? ⟨g', p, none⟩ := fun p => HJ.out.2.cell (p := ⟨g', p, none⟩) (by have := HT.out.2.2.2; show g' < _; omega)
   have hcs : wr.cell? ⟨g', off + j * 12, none⟩ = some y0 ∧ wr.cell? ⟨g', off + j * 12 + 1, none⟩ = some y1 ∧ wr.cell? ⟨g', off + j * 12 + 2, none⟩ = some y2 ∧ wr.cell? ⟨g', off + j * 12 + 3, none⟩ = some y3 ∧ wr.cell? ⟨g', off + j * 12 + 4, none⟩ = some y4 ∧ wr.cell? ⟨g', off + j * 12 + 5, none⟩ = some y5 ∧ wr.cell? ⟨g', off + j * 12 + 6, none⟩ = some y6 ∧ wr.cell? ⟨g', off + j * 12 + 7, none⟩ = some y7 ∧ wr.cell? ⟨g', off + j * 12 + 8, none⟩ = some y8 ∧ wr.cell? ⟨g', off + j * 12 + 9, none⟩ = some y9 ∧ wr.cell? ⟨g', off + j * 12 + 10, none⟩ = some y10 ∧ wr.cell? ⟨g', off + j * 12 + 11, none⟩ = some y11 := by
     exact ⟨by rw [hc]; exact hrw 0 (by simp), by rw [hc]; exact hrw 1 (by simp), by rw [hc]; exact hrw 2 (by simp), by rw [hc]; exact hrw 3 (by simp), by rw [hc]; exact hrw 4 (by simp), by rw [hc]; exact hrw 5 (by simp), by rw [hc]; exact hrw 6 (by simp), by rw [hc]; exact hrw 7 (by simp), by rw [hc]; exact hrw 8 (by simp), by rw [hc]; exact hrw 9 (by simp), by rw [hc]; exact hrw 10 (by simp), by rw [hc]; exact hrw 11 (by simp)⟩
   obtain ⟨hc0, hc1, hc2, hc3, hc4, hc5, hc6, hc7, hc8, hc9, hc10, hc11⟩ := hcs
   have hcall := HP.out.calls wr d x U HJ.out.2 (hlu.below (HJ.out.2.mono HT.out.2.2.2))
   rw [hyr] at hcall
   obtain ⟨q, hq⟩ : ∃ q, p x = q := ⟨_, rfl⟩
   rw [hq] at hcall
   have HC : Hid _ := hcall
   have HS : Hid ((T.ks.take (j + 1)).any p = q ∧ p T.ks[j] = q) := by
     show _ ∧ _
     rw [Ac.take_snoc _ _ hjk, List.any_append, HJ.out.1, hx]
     simp [hq]
   have hj0 : (0 : Int) ≤ j := by omega
   have hjn' : (j : Int) < n := by omega
   clear hcall hc hrw hlu hx hyr hq
   go_wp2_with fail
   refine Calls.mono HC.out ?_
   rintro e W2 ⟨rfl, hb2⟩
   have B2 : Hid (Below w.heap.size w W2) := HJ.out.2.trans (hb2.mono HJ.out.2.size)
   clear hb2 HC
   cases q with
   | true =>
     go_wp2
     go_ret
     refine ⟨⟨_, rfl, ?_⟩, B2.out⟩
     rw [decide_eq_true hj0]
     exact (List.any_eq_true.2 ⟨T.ks[j], List.getElem_mem hjk, HS.out.2⟩).symm
   | false =>
     go_wp2
     go_roundg (gk - 1)
     case measure => omega
     case rel => exact ⟨j + 1, by omega, by go_num, HS.out.1, B2.out⟩
  ·have hd : decide ((j : Int) < n) = false := decide_eq_false (by omega)
   go_wp2
   go_ret
   refine ⟨⟨_, rfl, ?_⟩, HJ.out.2⟩
   have hall : T.ks.take j = T.ks := List.take_of_length_le (by rw [HT.out.2.2.1]; omega)
   have h1 := HJ.out.1
   rw [hall] at h1
   rw [h1]
   rfl
set_option maxHeartbeats 2000000 in
theorem Tryz.acontains_any {p : Ac → Bool} {g : Nat} {lb : Array Value} {B e : Nat} (d : Nat) (T : Ac) (V : Ac.Vs) (a : Option Addr) (cap : Nat) (w : World) (hP : Ak.Pred p g lb B e w) (hT : Ac.Lies w B e d V T) (hv : V.k = .slice a T.ks.length cap) (hB : B ≤ w.heap.size) (hn : T.ks.length ≤ 2147483647) :
  Calls Tryz.prog 74 #[.slice a T.ks.length cap, .func (.func g) #[] lb] w fun e w' => e = .returned (.bool (T.ks.any p)) ∧ Below w.heap.size w w' := by
 have C : Hid _ := Tryz.aindex_any d T V a cap w hP hT hv hB hn
 obtain ⟨n, hln⟩ : ∃ n, T.ks.length = n := ⟨_, rfl⟩
 obtain ⟨b, hb⟩ : ∃ b, T.ks.any p = b := ⟨_, rfl⟩
 rw [hln, hb] at C
 rw [hln, hb]
 clear hP hT hv hln hb hn hB
 go_enter Tryz.func74, Tryz.ntmps74
 go_wp2_with fail
 refine Calls.mono C.out ?_
 rintro e W1 ⟨⟨r, rfl, hr⟩, hb1⟩
 have HB1 : Hid (Below w.heap.size w W1) := hb1
 clear hb1
 go_wp2
 go_ret
 exact ⟨by first | rfl | (rw [hr]) | simp [hr], HB1.out⟩
set_option maxHeartbeats 2000000 in
theorem Tryz.holds_any (d e : Nat) (T : Ac) (V : Ac.Vs) (w : World) (hT : Ac.Lies w w.heap.size e d V T) (hn : T.ks.length ≤ 2147483647) :
  Calls Tryz.prog 58 #[.agg (Ac.row T V)] w fun e w' => e = .returned (.bool T.holdsB) ∧ Below w.heap.size w w' := by
 obtain ⟨a, cap, hvk⟩ := hT.kids
 obtain ⟨n, hln⟩ : ∃ n, T.ks.length = n := ⟨_, rfl⟩
 obtain ⟨K, hK⟩ : ∃ k, T.kind = k := ⟨_, rfl⟩
 obtain ⟨x1, x2, x3, x4, x5, x6, x7, x9, x10, x11, hrow⟩ : ∃ x1 x2 x3 x4 x5 x6 x7 x9 x10 x11, Ac.row T V = #[.int .i64 K, x1, x2, x3, x4, x5, x6, x7, .slice a n cap, x9, x10, x11] := ⟨_, _, _, _, _, _, _, _, _, _, by unfold Ac.row; rw [hvk, hK, hln]⟩
 rw [hrow]
 obtain ⟨w1, hw1⟩ : ∃ x, w.alloc (.cells #[.int .i64 K, x1, x2, x3, x4, x5, x6, x7, .slice a n cap, x9, x10, x11] 32) = x := ⟨_, rfl⟩
 have A1 : Below w.heap.size w w1 := by rw [← hw1]; exact (Below.refl _ w).alloc (Nat.le_refl _) _
 have C0 : w1.heap[w.heap.size]? = some (.cells #[.int .i64 K, x1, x2, x3, x4, x5, x6, x7, .slice a n cap, x9, x10, x11] 32 (0, 0)) := by rw [← hw1]; exact heap_alloc_new w _
 have c8 : w1.cell? ⟨w.heap.size, 8, none⟩ = some (.slice a n cap) := by simp [World.cell?, C0]
 have hlt : w.heap.size < w1.heap.size := (Array.getElem?_eq_some_iff.1 C0).1
 have PR : Ak.Pred (fun k => Ac.kidBad K k.kind) 75 #[.pointer (some ⟨w.heap.size, 0, none⟩)] w.heap.size e w1 := ⟨enters_of Tryz.func75 (by kernel_rfl) rfl, fun W d' T' V' hb hT' => by
  have hc : W.cell? ⟨w.heap.size, 0, none⟩ = some (.int .i64 K) := by
   rw [hb.cell (p := ⟨w.heap.size, 0, none⟩) hlt]
   simp [World.cell?, C0]
  exact Tryz.holds1_any T'.kind K _ _ _ _ _ _ _ _ _ _ _ w.heap.size W hc⟩
 have C : Hid _ := Tryz.acontains_any d T V a cap w1 PR (hT.below A1) hvk (Nat.le_of_lt hlt) hn
 rw [hln] at C
 obtain ⟨b, hb⟩ : ∃ b, (T.ks.any fun k => Ac.kidBad K k.kind) = b := ⟨_, rfl⟩
 rw [hb] at C
 have HB : Hid (T.holdsB = !b ∧ Below w.heap.size w w1) := ⟨by unfold Ac.holdsB; rw [hK, hb], A1⟩
 have H1 : Hid (w.alloc (.cells #[.int .i64 K, x1, x2, x3, x4, x5, x6, x7, .slice a n cap, x9, x10, x11] 32) = w1) := hw1
 clear hT hn hvk hln hK hrow hw1 A1 C0 hlt PR hb
 go_enter Tryz.func58, Tryz.ntmps58
 go_upto_region 1 with fail
 rw [H1.out]
 go_wp2_with fail
 refine Calls.mono C.out ?_
 rintro e W2 ⟨rfl, hb2⟩
 have B2 : Hid (Below w1.heap.size w1 W2) := hb2
 clear hb2
 go_wp2
 go_ret
 exact ⟨Tk.ret_bool HB.out.1.symm, HB.out.2.trans (B2.out.mono HB.out.2.size)⟩
end Go.Proofs
