import Derived.Test.YtdghjgiakblfmaaGreatDoorRAcWays
import Derived.Test.YtdghjgiakblfmaaGreatDoorRNsSame2
namespace Go.Proofs
open Go.RowKit Go.Shelf
set_option maxHeartbeats 1600000 in
theorem Tryz.aisOf_any (k : Int) (d : Nat) (T : Tm) (v : Value) (w : World) (hT : Tm.Lies w w.heap.size d v T) (hO : Tk.Ops w) (hsz : T.size ≤ 2147483647) :
  Calls Tryz.prog 61 #[.int .i64 k, .agg #[.int .i64 T.op, .int .i64 T.num, v]] w fun e w' => e = .returned (.bool (Nt.ofB T k)) ∧ Below w.heap.size w w' := by
 obtain ⟨a, cap, rfl⟩ := hT.shape
 have A0 : Below w.heap.size w (w.alloc (.cells #[.int .i64 T.op, .int .i64 T.num, .slice a T.ks.length cap] 24)) := (Below.refl _ w).alloc (Nat.le_refl _) _
 have hc := Tryz.check_any d T (.slice a T.ks.length cap) _ ((hT.below A0).wider A0.size) (hO.below A0 hO.lt) hsz
 obtain ⟨o, ho⟩ : ∃ o, T.op = o := ⟨_, rfl⟩
 obtain ⟨m, hm⟩ : ∃ m, T.num = m := ⟨_, rfl⟩
 obtain ⟨n, hn⟩ : ∃ n, T.ks.length = n := ⟨_, rfl⟩
 obtain ⟨b, hb⟩ : ∃ b, Nt.ofB T k = b := ⟨_, rfl⟩
 obtain ⟨q, hq⟩ : ∃ q, T.checkR = q := ⟨_, rfl⟩
 rw [ho, hm, hn, hq] at hc
 rw [ho, hm, hn] at A0
 rw [hb, ho, hm, hn]
 obtain ⟨q0, q1⟩ := q
 have HC : Hid _ := hc
 have HA : Hid _ := A0
 have HB : Hid ((decide (q1 = 0) && decide (q0 = k)) = b) := by show _ = _; rw [← hb, Nt.ofB, hq]
 clear hc A0 hT hO hsz ho hm hn hb hq
 by_cases h0 : q1 = 0 <;> by_cases h1 : q0 = k
 all_goals
  have e0 : (q1 == 0) = decide (q1 = 0) := rfl
  have e1 : (q0 == k) = decide (q0 = k) := rfl
  simp only [h0, h1, decide_true, decide_false] at e0 e1 HB
  try subst h0
  try subst h1
  go_enter Tryz.func61, Tryz.ntmps61
  go_wp2_with fail
  refine Calls.mono HC.out ?_
  rintro e W1 ⟨rfl, hb1⟩
  have B1 : Hid (Below w.heap.size w W1) := HA.out.trans (hb1.mono HA.out.size)
  clear hb1 HC
  go_wp2
  go_ret
  exact ⟨Tk.ret_bool (by rw [← HB.out]; first | rfl | simp), B1.out⟩
theorem Nt.zero_iff (T : Tm) : T = .mk 0 0 [] ↔ Nt.zeroB T = true := by
 cases T
 simp only [Nt.zeroB, Tm.op, Tm.num, Tm.ks, Tm.mk.injEq, Bool.and_eq_true, decide_eq_true_eq, List.length_eq_zero_iff, and_assoc]
 exact ⟨fun ⟨h1, h2, h3⟩ => ⟨decide_eq_true h1, decide_eq_true h2, h3⟩, fun ⟨h1, h2, h3⟩ => ⟨of_decide_eq_true h1, of_decide_eq_true h2, h3⟩⟩
theorem Tm.lies_zero (w : World) (B : Nat) : Tm.Lies w B 1 (.slice none 0 0) (.mk 0 0 []) := ⟨none, 0, rfl, .inl rfl⟩
def Ac.choiceAt (other : Int) (i : Nat) (c : Tm) : Bool := if (i : Int) = other then Nt.zeroB c else Nt.ofB c 2
def Ac.choiceB (cs : List Tm) (other : Int) : Bool := (List.range cs.length).all fun i => ((cs[i]?.map (Ac.choiceAt other i)).getD true)
theorem Ac.choice_no {cs : List Tm} {other : Int} {j : Nat} (h : j < cs.length) (e : Ac.choiceAt other j cs[j] = false) : Ac.choiceB cs other = false := by
 unfold Ac.choiceB
 rw [List.all_eq_false]
 exact ⟨j, List.mem_range.2 h, by rw [List.getElem?_eq_getElem h]; simp [e]⟩
theorem Ac.choice_yes {cs : List Tm} {other : Int} (h : ∀ j (h : j < cs.length), Ac.choiceAt other j cs[j] = true) : Ac.choiceB cs other = true := by
 unfold Ac.choiceB
 rw [List.all_eq_true]
 intro j hj
 have hj' := List.mem_range.1 hj
 rw [List.getElem?_eq_getElem hj']
 simpa using h j hj'
set_option maxRecDepth 20000 in
set_option maxHeartbeats 4000000 in
theorem Tryz.isChoice_any (cs : List Tm) (a : Option Addr) (cap : Nat) (other : Int) (e : Nat) (w : World) (hT : Ac.Tms w w.heap.size e a cs) (hO : Tk.Ops w) (hsz : ∀ x ∈ cs, x.size ≤ 2147483647 ∧ x.depth ≤ 1000) (hn : cs.length ≤ 2147483647) :
  Calls Tryz.prog 62 #[.slice a cs.length cap, .int .i64 other] w fun e w' => e = .returned (.bool (Ac.choiceB cs other)) ∧ Below w.heap.size w w' := by
 obtain ⟨n, hln⟩ : ∃ n, cs.length = n := ⟨_, rfl⟩
 obtain ⟨R, hR⟩ : ∃ b, Ac.choiceB cs other = b := ⟨_, rfl⟩
 have H : Hid (Ac.Tms w w.heap.size e a cs ∧ Tk.Ops w ∧ (∀ x ∈ cs, x.size ≤ 2147483647 ∧ x.depth ≤ 1000) ∧ cs.length = n ∧ Ac.choiceB cs other = R) := ⟨hT, hO, hsz, hln, hR⟩
 rw [hln] at hn
 rw [hln, hR]
 clear hT hO hsz hln hR
 go_enter Tryz.func62, Tryz.ntmps62
 go_wp2
 go_loopg [9] n (fun gk i wr => ∃ j : Nat, gk + j = n ∧ i = .int .i64 j ∧ Hid ((∀ i (h : i < cs.length), i < j → Ac.choiceAt other i cs[i] = true) ∧ Below w.heap.size w wr))
 case atStart => exact ⟨0, by omega, rfl, fun i _ h => absurd h (by omega), Below.refl _ w⟩
 case round =>
  obtain ⟨j, hj, rfl, HJ⟩ := hrel
  by_cases hjn : j < n
  ·have hd : decide ((j : Int) < n) = true := decide_eq_true (by omega)
   have hjk : j < cs.length := by rw [H.out.2.2.2.1]; exact hjn
   obtain ⟨g, off, u, rfl, hg, q0, q1, q2, hlu⟩ := H.out.1 j hjk
   obtain ⟨x, hx⟩ : ∃ x, cs[j] = x := ⟨_, rfl⟩
   have hxs := H.out.2.2.1 _ (List.getElem_mem hjk)
   rw [hx] at q0 q1 hlu hxs
   rw [← HJ.out.2.cell (p := ⟨g, off + j * 3, none⟩) hg] at q0
   rw [← HJ.out.2.cell (p := ⟨g, off + j * 3 + 1, none⟩) hg] at q1
   rw [← HJ.out.2.cell (p := ⟨g, off + j * 3 + 2, none⟩) hg] at q2
   obtain ⟨ua, uc, rfl⟩ := hlu.shape
   obtain ⟨un, hun⟩ : ∃ n, x.ks.length = n := ⟨_, rfl⟩
   obtain ⟨y0, hy0⟩ : ∃ n, x.op = n := ⟨_, rfl⟩
   obtain ⟨y1, hy1⟩ : ∃ n, x.num = n := ⟨_, rfl⟩
   rw [hun] at q2 hlu
   rw [hy0] at q0
   rw [hy1] at q1
   have BA : Below wr.heap.size wr (wr.alloc (.cells #[.int .i64 y0, .int .i64 y1, .slice ua un uc] 24)) := (Below.refl _ wr).alloc (Nat.le_refl _) _
   obtain ⟨W1, hW1⟩ : ∃ z, wr.alloc (.cells #[.int .i64 y0, .int .i64 y1, .slice ua un uc] 24) = z := ⟨_, rfl⟩
   rw [hW1] at BA
   have bw : Below w.heap.size w W1 := HJ.out.2.trans (BA.mono HJ.out.2.size)
   have hlW : Tm.Lies W1 W1.heap.size e (.slice ua un uc) x := (hlu.below bw).wider bw.size
   have h0 : 0 < W1.heap.size := by have := bw.size; omega
   have CS := Tryz.termSame_any e 1 x (.mk 0 0 []) (.slice ua un uc) (.slice none 0 0) W1 hlW (Tm.lies_zero _ _) h0 hxs.1 hxs.2
   have CO := Tryz.aisOf_any 2 e x (.slice ua un uc) W1 hlW (H.out.2.1.below bw H.out.2.1.lt) hxs.1
   rw [hy0, hy1] at CS CO
   simp only [Tm.op, Tm.num] at CS
   have HS : Hid _ := CS
   have HO : Hid _ := CO
   have HX : Hid (cs[j] = x ∧ Below w.heap.size w W1) := ⟨hx, bw⟩
   have HW : Hid (wr.alloc (.cells #[.int .i64 y0, .int .i64 y1, .slice ua un uc] 24) = W1) := hW1
   have GV : W1.heap[wr.heap.size]? = some (.cells #[.int .i64 y0, .int .i64 y1, .slice ua un uc] 24 (0, 0)) := by rw [← hW1]; exact heap_alloc_new wr _
   have v0 : W1.cell? ⟨wr.heap.size, 0, none⟩ = some (.int .i64 y0) := by simp [World.cell?, GV]
   have v1 : W1.cell? ⟨wr.heap.size, 1, none⟩ = some (.int .i64 y1) := by simp [World.cell?, GV]
   have v2 : W1.cell? ⟨wr.heap.size, 2, none⟩ = some (.slice ua un uc) := by simp [World.cell?, GV]
   have hj0 : (0 : Int) ≤ j := by omega
   have hjn' : (j : Int) < n := by omega
   clear BA hW1 bw hlW h0 CS CO hlu hxs hx hun hy0 hy1 GV
   by_cases hjo : (j : Int) = other
   ·have e1 : ((j : Int) == other) = true := by simpa using hjo
    have e2 : ((j : Int) != other) = false := by simpa using hjo
    have HE : Hid (Ac.choiceAt other j x = Nt.zeroB x) := by show _ = _; unfold Ac.choiceAt; rw [if_pos hjo]
    clear hjo HO
    go_upto_region 4 with fail
    rw [HW.out]
    go_wp2_with fail
    refine Calls.mono HS.out ?_
    rintro e W2 ⟨⟨r, rfl, hr⟩, hb2⟩
    have B2 : Hid (Below w.heap.size w W2) := HX.out.2.trans (hb2.mono HX.out.2.size)
    have HZ : Hid (Nt.zeroB x = r) := by
      show _ = _
      rw [Nt.zero_iff] at hr
      cases r with
      | true => exact hr.1 rfl
      | false => exact Bool.eq_false_iff.2 fun h => by have := hr.2 h; cases this
    clear hb2 hr HS
    cases r with
    | true =>
      go_wp2
      go_roundg (gk - 1)
      case measure => omega
      case rel =>
       refine ⟨j + 1, by omega, by go_num, fun i h hi => ?_, B2.out⟩
       rcases Nat.lt_or_ge i j with h1 | h1
       ·exact HJ.out.1 i h h1
       ·have : i = j := by omega
        subst this
        rw [HX.out.1, HE.out, HZ.out]
    | false =>
      go_wp2
      go_ret
      refine ⟨Tk.ret_bool ?_, B2.out⟩
      rw [← H.out.2.2.2.2]
      exact (Ac.choice_no hjk (by rw [HX.out.1, HE.out, HZ.out])).symm
   ·have e1 : ((j : Int) == other) = false := by simpa using hjo
    have e2 : ((j : Int) != other) = true := by simpa using hjo
    have HE : Hid (Ac.choiceAt other j x = Nt.ofB x 2) := by show _ = _; unfold Ac.choiceAt; rw [if_neg hjo]
    obtain ⟨r, hr⟩ : ∃ r, Nt.ofB x 2 = r := ⟨_, rfl⟩
    rw [hr] at HE HO
    clear hjo HS hr
    go_upto_region 4 with fail
    rw [HW.out]
    go_wp2_with fail
    refine Calls.mono HO.out ?_
    rintro e W2 ⟨rfl, hb2⟩
    have B2 : Hid (Below w.heap.size w W2) := HX.out.2.trans (hb2.mono HX.out.2.size)
    clear hb2 HO
    cases r with
    | true =>
      go_wp2
      go_roundg (gk - 1)
      case measure => omega
      case rel =>
       refine ⟨j + 1, by omega, by go_num, fun i h hi => ?_, B2.out⟩
       rcases Nat.lt_or_ge i j with h1 | h1
       ·exact HJ.out.1 i h h1
       ·have : i = j := by omega
        subst this
        rw [HX.out.1, HE.out]
    | false =>
      go_wp2
      go_ret
      refine ⟨Tk.ret_bool ?_, B2.out⟩
      rw [← H.out.2.2.2.2]
      exact (Ac.choice_no hjk (by rw [HX.out.1, HE.out])).symm
  ·have hd : decide ((j : Int) < n) = false := decide_eq_false (by omega)
   go_wp2
   go_ret
   refine ⟨Tk.ret_bool ?_, HJ.out.2⟩
   rw [← H.out.2.2.2.2]
   exact (Ac.choice_yes fun i h => HJ.out.1 i h (by have := H.out.2.2.2.1; omega)).symm
def Ac.joinedB (k a : Int) (n : Nat) (i o : Int) : Bool :=
 if k = 12 then (if a = 1 then decide (i = 1) && decide (2 ≤ o) else if a = 3 then decide (i = 1) && decide (o = n) else decide (2 ≤ i) && decide (o = 1)) else decide (i = 1) && decide (o = 1)
set_option maxHeartbeats 4000000 in
theorem Tryz.isJoined_any (k a : Int) (x1 x3 x4 x5 x6 x8 x9 x10 x11 : Value) (ca : Option Addr) (n cc : Nat) (i o : Int) (w : World) : Calls Tryz.prog 78 #[.agg #[.int .i64 k, x1, .int .i64 a, x3, x4, x5, x6, .slice ca n cc, x8, x9, x10, x11], .int .i64 i, .int .i64 o] w fun e w' => e = .returned (.bool (Ac.joinedB k a n i o)) ∧ Below w.heap.size w w' := by
 have B0 : Hid (Below w.heap.size w (w.alloc (.cells #[.int .i64 k, x1, .int .i64 a, x3, x4, x5, x6, .slice ca n cc, x8, x9, x10, x11] 32))) := (Below.refl _ w).alloc (Nat.le_refl _) _
 by_cases hk : k = 12
 ·subst hk
  by_cases ha : a = 1
  ·subst ha
   have e : Ac.joinedB 12 1 n i o = (decide (i = 1) && decide (2 ≤ o)) := rfl
   obtain ⟨p, hp⟩ : ∃ p, (i == 1) = p := ⟨_, rfl⟩
   obtain ⟨q, hq⟩ : ∃ p, decide (2 ≤ o) = p := ⟨_, rfl⟩
   have HE : Hid (Ac.joinedB 12 1 n i o = (p && q)) := by show _ = _; rw [e, ← hp, hq]; rfl
   obtain ⟨r, hr⟩ : ∃ r, Ac.joinedB 12 1 n i o = r := ⟨_, rfl⟩
   rw [hr] at HE ⊢
   clear e hr
   cases p <;> cases q
   all_goals
    go_enter Tryz.func78, Tryz.ntmps78
    go_wp2
    go_ret
    exact ⟨Tk.ret_bool (by rw [HE.out]; rfl), B0.out⟩
  ·have da : (a == 1) = false := by simpa using ha
   by_cases ha3 : a = 3
   ·subst ha3
    have e : Ac.joinedB 12 3 n i o = (decide (i = 1) && decide (o = n)) := rfl
    obtain ⟨p, hp⟩ : ∃ p, (i == 1) = p := ⟨_, rfl⟩
    obtain ⟨q, hq⟩ : ∃ p, (o == (n : Int)) = p := ⟨_, rfl⟩
    have HE : Hid (Ac.joinedB 12 3 n i o = (p && q)) := by show _ = _; rw [e, ← hp, ← hq]; rfl
    obtain ⟨r, hr⟩ : ∃ r, Ac.joinedB 12 3 n i o = r := ⟨_, rfl⟩
    rw [hr] at HE ⊢
    clear e hr ha da
    cases p <;> cases q
    all_goals
     go_enter Tryz.func78, Tryz.ntmps78
     go_wp2
     go_ret
     exact ⟨Tk.ret_bool (by rw [HE.out]; rfl), B0.out⟩
   ·have da3 : (a == 3) = false := by simpa using ha3
    have e : Ac.joinedB 12 a n i o = (decide (2 ≤ i) && decide (o = 1)) := by unfold Ac.joinedB; rw [if_pos rfl, if_neg ha, if_neg ha3]
    obtain ⟨p, hp⟩ : ∃ p, decide (2 ≤ i) = p := ⟨_, rfl⟩
    obtain ⟨q, hq⟩ : ∃ p, (o == 1) = p := ⟨_, rfl⟩
    have HE : Hid (Ac.joinedB 12 a n i o = (p && q)) := by show _ = _; rw [e, hp, ← hq]; rfl
    obtain ⟨r, hr⟩ : ∃ r, Ac.joinedB 12 a n i o = r := ⟨_, rfl⟩
    rw [hr] at HE ⊢
    clear e hr ha ha3
    cases p <;> cases q
    all_goals
     go_enter Tryz.func78, Tryz.ntmps78
     go_wp2
     go_ret
     exact ⟨Tk.ret_bool (by rw [HE.out]; rfl), B0.out⟩
 ·have dk : (k != 12) = true := by simpa using hk
  have e : Ac.joinedB k a n i o = (decide (i = 1) && decide (o = 1)) := by unfold Ac.joinedB; rw [if_neg hk]
  obtain ⟨p, hp⟩ : ∃ p, (i == 1) = p := ⟨_, rfl⟩
  obtain ⟨q, hq⟩ : ∃ p, (o == 1) = p := ⟨_, rfl⟩
  have HE : Hid (Ac.joinedB k a n i o = (p && q)) := by show _ = _; rw [e, ← hp, ← hq]; rfl
  obtain ⟨r, hr⟩ : ∃ r, Ac.joinedB k a n i o = r := ⟨_, rfl⟩
  rw [hr] at HE ⊢
  clear e hr hk
  cases p <;> cases q
  all_goals
   go_enter Tryz.func78, Tryz.ntmps78
   go_wp2
   go_ret
   exact ⟨Tk.ret_bool (by rw [HE.out]; rfl), B0.out⟩
set_option maxHeartbeats 4000000 in
theorem Tryz.atake_any (q o r : Nat) (x c : Int) (b : Bool) (w : World) (hx : w.cell? ⟨q, o, none⟩ = some (.int .i64 x)) (hxf : w.frozen? ⟨q, o, none⟩ = false) (hb : w.cell? ⟨r, 0, none⟩ = some (.bool b)) (hbf : w.frozen? ⟨r, 0, none⟩ = false) (hqr : q ≠ r) :
  Calls Tryz.prog 59 #[.pointer (some ⟨q, o, none⟩), .int .i64 c, .pointer (some ⟨r, 0, none⟩)] w fun e w' => e = .returned (.tuple #[]) ∧ w' = (w.setCell ⟨r, 0, none⟩ (.bool (b && (decide (0 ≤ x) && decide (x < c))))).setCell ⟨q, o, none⟩ (.int .i64 0) := by
 obtain ⟨p0, hp0⟩ : ∃ p, decide (0 ≤ x) = p := ⟨_, rfl⟩
 obtain ⟨p1, hp1⟩ : ∃ p, decide (x < c) = p := ⟨_, rfl⟩
 rw [hp0, hp1]
 have hn : ¬ r = q := fun e => hqr e.symm
 have hx' : ∀ v, (w.setCell ⟨r, 0, none⟩ v).cell? ⟨q, o, none⟩ = some (.int .i64 x) := fun v => by
  rw [World.cell?_of_block (w := w) (Below.heap_setCell _ _ _ _ hqr)]
  exact hx
 have hf' : ∀ v, (w.setCell ⟨r, 0, none⟩ v).frozen? ⟨q, o, none⟩ = false := fun v => by
  have := Below.heap_setCell w ⟨r, 0, none⟩ v q hqr
  unfold World.frozen? at hxf ⊢
  rw [this]
  exact hxf
 cases b <;> cases p0 <;> cases p1
 all_goals
  go_enter Tryz.func59, Tryz.ntmps59
  go_wp2
  go_end0
  exact ⟨rfl, rfl⟩
end Go.Proofs
