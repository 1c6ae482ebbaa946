/-
  The document's First and one.
-/
import Derived.Test.YtiedlccnlkhnkaaDoorNtFirst
import Derived.Test.YtiedlccnlkhnkaaDoorNtOneB
import Derived.Deep.DeepCutAuto
namespace Go.Proofs
open Go.RowKit Go.Shelf

set_option maxRecDepth 20000 in
set_option maxHeartbeats 2000000 in
theorem Tryd.rFirst_any (kd : Int) (a : Option Addr) (c d : Nat) (af : Option Addr) (m cf : Nat) (ns : List Nd) (w : World) (hE : Nt.Nds w w.heap.size d a ns) (hn : ns.length ≤ 100) :
    Calls Tryd.prog 41 #[.agg #[.slice a ns.length c, .slice af m cf], .int .i64 kd] w fun e w' => e = .returned (.int .i64 (Nt.firstI ns kd)) ∧ Below w.heap.size w w' := by
  rw [Nt.firstI_eq]
  obtain ⟨w1, hw1⟩ : ∃ x, w.alloc (.cells #[.slice a ns.length c, .slice af m cf] 25) = x := ⟨_, rfl⟩
  have A1 : Below w.heap.size w w1 := by rw [← hw1]; exact (Below.refl _ w).alloc (Nat.le_refl _) _
  obtain ⟨n, hnn⟩ : ∃ n, ns.length = n := ⟨_, rfl⟩
  rw [hnn] at hn hw1 ⊢
  obtain ⟨r, hr⟩ : ∃ r, Nt.findI (fun x : Nd => decide (x.kind = kd)) ns = r := ⟨_, rfl⟩
  rw [hr]
  have HR : Hid (Nt.findI (fun x : Nd => decide (x.kind = kd)) ns = r) := hr
  have HE : Hid (Nt.Nds w w.heap.size d a ns ∧ ns.length = n) := ⟨hE, hnn⟩
  have H1 : Hid (w.alloc (.cells #[.slice a n c, .slice af m cf] 25) = w1) := hw1
  have HA : Hid (Below w.heap.size w w1) := A1
  clear hE hnn hr hw1 A1
  go_enter Tryd.func41, Tryd.ntmps41
  go_wp2
  rw [H1.out]
  go_loopg [10] n (fun gk s10 wr => ∃ k : Nat, gk + k = n ∧ s10 = .int .i64 k ∧ Hid (Below w.heap.size w wr ∧ (ns.take k).any (fun x : Nd => decide (x.kind = kd)) = false))
  case atStart => exact ⟨0, by omega, rfl, HA.out, by simp⟩
  case round =>
    obtain ⟨k, hk, rfl, HB⟩ := hrel
    clear H1 HA
    by_cases hlt : k < n
    · have hd : decide ((k : Int) < n) = true := decide_eq_true (by omega)
      have hkl : k < ns.length := by rw [HE.out.2]; exact hlt
      obtain ⟨q, off, u, rfl, hq, h0, h1, h2, h3, h4, h5⟩ := HE.out.1 k hkl
      obtain ⟨au, cu, rfl⟩ := h5.shape
      obtain ⟨nu, hnu⟩ : ∃ n, ns[k].t.ks.length = n := ⟨_, rfl⟩
      rw [hnu] at h4
      obtain ⟨x0, hx0⟩ : ∃ x, ns[k].kind = x := ⟨_, rfl⟩
      obtain ⟨x1, hx1⟩ : ∃ x, ns[k].a = x := ⟨_, rfl⟩
      obtain ⟨x2, hx2⟩ : ∃ x, ns[k].t.op = x := ⟨_, rfl⟩
      obtain ⟨x3, hx3⟩ : ∃ x, ns[k].t.num = x := ⟨_, rfl⟩
      have hc : ∀ o, wr.cell? ⟨q, o, none⟩ = w.cell? ⟨q, o, none⟩ := fun o => HB.out.1.cell (p := ⟨q, o, none⟩) hq
      have hc0 : wr.cell? ⟨q, off + k * 5, none⟩ = some (.int .i64 x0) := by rw [hc, ← hx0]; exact h0
      have hc1 : wr.cell? ⟨q, off + k * 5 + 1, none⟩ = some (.int .i64 x1) := by rw [hc, ← hx1]; exact h1
      have hc2 : wr.cell? ⟨q, off + k * 5 + 2, none⟩ = some (.int .i64 x2) := by rw [hc, ← hx2]; exact h2
      have hc3 : wr.cell? ⟨q, off + k * 5 + 3, none⟩ = some (.int .i64 x3) := by rw [hc, ← hx3]; exact h3
      have hc4 : wr.cell? ⟨q, off + k * 5 + 4, none⟩ = some (.slice au nu cu) := by rw [hc]; exact h4
      have hu := Tryd.underlying34
      have HX : Hid (ns[k].kind = x0) := hx0
      have BN : Hid (Below w.heap.size w (wr.alloc (.cells #[.int .i64 x0, .int .i64 x1, .int .i64 x2, .int .i64 x3, .slice au nu cu] 34))) := HB.out.1.alloc HB.out.1.size _
      clear h0 h1 h2 h3 h4 h5 hc hx0 hx1 hx2 hx3 hnu hq
      by_cases hk2 : x0 = kd
      · have e1 : (x0 == kd) = true := by simpa using hk2
        have HQ : Hid ((fun x : Nd => decide (x.kind = kd)) ns[k] = true) := decide_eq_true (HX.out.trans hk2)
        clear hk2
        go_wp2
        go_ret
        exact ⟨Tk.ret_int ((Nt.findI_at hkl HB.out.2 HQ.out).symm.trans HR.out), BN.out⟩
      · have e1 : (x0 == kd) = false := by simpa using hk2
        have HQ : Hid (decide (ns[k].kind = kd) = false) := decide_eq_false (by rw [HX.out]; exact hk2)
        clear hk2
        go_wp2
        go_roundg (gk - 1)
        case measure => omega
        case rel =>
          refine ⟨k + 1, by omega, by go_num, BN.out, ?_⟩
          rw [Tm.take_snoc _ _ hkl, List.any_append, HB.out.2]
          simp [HQ.out]
    · have hd : decide ((k : Int) < n) = false := decide_eq_false (by omega)
      go_wp2
      go_ret
      have := HB.out.2
      rw [List.take_of_length_le (by rw [HE.out.2]; omega)] at this
      exact ⟨Tk.ret_int ((Nt.findI_none this).symm.trans HR.out), HB.out.1⟩

set_option maxRecDepth 20000 in
set_option maxHeartbeats 4000000 in
theorem Tryd.rone_plain (k a op num m : Int) (sa : Option Addr) (n cap : Nat) (zb : Bool) (w : World) (hk : (k = 1 ∧ m = 0) ∨ (k = 2 ∧ m = 0) ∨ (k = 5 ∧ m = 0) ∨ (k = 6 ∧ m = 0) ∨ (k = 7 ∧ m = 0) ∨ (k = 3 ∧ m = 3) ∨ (k = 8 ∧ m = 4))
    (hZ : ∀ W, Calls Tryd.prog 67 #[.agg #[.int .i64 op, .int .i64 num, .slice sa n cap]] W fun e w' => e = .returned (.bool zb) ∧ Below W.heap.size W w') :
    Calls Tryd.prog 39 #[.agg #[.int .i64 k, .int .i64 a, .int .i64 op, .int .i64 num, .slice sa n cap]] w fun e w' => e = .returned (.bool (decide (0 ≤ a) && decide (a ≤ m) && zb)) ∧ Below w.heap.size w w' := by
  have B0 : Hid (Below w.heap.size w (w.alloc (.cells #[.int .i64 k, .int .i64 a, .int .i64 op, .int .i64 num, .slice sa n cap] 34))) := (Below.refl _ w).alloc (Nat.le_refl _) _
  have HZ : Hid _ := hZ
  clear hZ
  rcases hk with ⟨rfl, rfl⟩ | ⟨rfl, rfl⟩ | ⟨rfl, rfl⟩ | ⟨rfl, rfl⟩ | ⟨rfl, rfl⟩ | ⟨rfl, rfl⟩ | ⟨rfl, rfl⟩
  all_goals
    rcases Int.lt_or_le a 0 with h0 | h0
    · have e0 : decide (a < 0) = true := decide_eq_true h0
      have e1 : decide (0 ≤ a) = false := decide_eq_false (by omega)
      rw [e1]
      clear h0 e1
      go_enter Tryd.func39, Tryd.ntmps39
      go_wp2
      go_ret
      exact ⟨Tk.ret_bool rfl, B0.out⟩
    · have e0 : decide (a < 0) = false := decide_eq_false (by omega)
      have e2 : decide (0 ≤ a) = true := decide_eq_true h0
      rw [e2]
      clear e2
      first
      | (by_cases h1 : a ≤ 0; rotate_left; exact (by
          have e1 : decide (a ≤ 0) = false := decide_eq_false h1
          rw [e1]; clear h0 h1
          go_enter Tryd.func39, Tryd.ntmps39
          go_wp2
          go_ret
          exact ⟨Tk.ret_bool rfl, B0.out⟩)
         have e1 : decide (a ≤ 0) = true := decide_eq_true h1
         rw [e1])
      | (by_cases h1 : a ≤ 3; rotate_left; exact (by
          have e1 : decide (a ≤ 3) = false := decide_eq_false h1
          rw [e1]; clear h0 h1
          go_enter Tryd.func39, Tryd.ntmps39
          go_wp2
          go_ret
          exact ⟨Tk.ret_bool rfl, B0.out⟩)
         have e1 : decide (a ≤ 3) = true := decide_eq_true h1
         rw [e1])
      | (by_cases h1 : a ≤ 4; rotate_left; exact (by
          have e1 : decide (a ≤ 4) = false := decide_eq_false h1
          rw [e1]; clear h0 h1
          go_enter Tryd.func39, Tryd.ntmps39
          go_wp2
          go_ret
          exact ⟨Tk.ret_bool rfl, B0.out⟩)
         have e1 : decide (a ≤ 4) = true := decide_eq_true h1
         rw [e1])
      clear h0 h1
      go_enter Tryd.func39, Tryd.ntmps39
      go_wp2_with fail
      refine Calls.mono (HZ.out _) ?_
      rintro e W ⟨rfl, hb⟩
      have B2 : Hid (Below w.heap.size w W) := B0.out.trans (hb.mono B0.out.size)
      clear hb HZ
      go_wp2
      go_ret
      exact ⟨Tk.ret_bool rfl, B2.out⟩

set_option maxRecDepth 20000 in
set_option maxHeartbeats 4000000 in
theorem Tryd.rone_other (k a op num : Int) (sa : Option Addr) (n cap : Nat) (w : World) (hk : k < 1 ∨ 8 < k) :
    Calls Tryd.prog 39 #[.agg #[.int .i64 k, .int .i64 a, .int .i64 op, .int .i64 num, .slice sa n cap]] w fun e w' => e = .returned (.bool false) ∧ Below w.heap.size w w' := by
  have B0 : Hid (Below w.heap.size w (w.alloc (.cells #[.int .i64 k, .int .i64 a, .int .i64 op, .int .i64 num, .slice sa n cap] 34))) := (Below.refl _ w).alloc (Nat.le_refl _) _
  obtain h1 | ⟨h1, h2⟩ : decide (k < 1) = true ∨ (decide (k < 1) = false ∧ decide (8 < k) = true) := by simp; omega
  all_goals
    clear hk
    go_enter Tryd.func39, Tryd.ntmps39
    go_wp2
    go_ret
    exact ⟨rfl, B0.out⟩

set_option maxRecDepth 20000 in
set_option maxHeartbeats 4000000 in
theorem Tryd.rone_assign (a op num : Int) (sa : Option Addr) (n cap : Nat) (ob : Bool) (w : World)
    (hO : ∀ W, Below w.heap.size w W → Calls Tryd.prog 66 #[.agg #[.int .i64 op, .int .i64 num, .slice sa n cap], .int .i64 1] W fun e w' => e = .returned (.bool ob) ∧ Below W.heap.size W w') :
    Calls Tryd.prog 39 #[.agg #[.int .i64 4, .int .i64 a, .int .i64 op, .int .i64 num, .slice sa n cap]] w fun e w' => e = .returned (.bool (decide (0 ≤ a) && decide (a ≤ 3) && ob)) ∧ Below w.heap.size w w' := by
  have A0 : Below w.heap.size w (w.alloc (.cells #[.int .i64 4, .int .i64 a, .int .i64 op, .int .i64 num, .slice sa n cap] 34)) := (Below.refl _ w).alloc (Nat.le_refl _) _
  have HO : Hid _ := hO _ A0
  have B0 : Hid _ := A0
  clear hO A0
  rcases Int.lt_or_le a 0 with h0 | h0
  · have e0 : decide (a < 0) = true := decide_eq_true h0
    have HD : Hid ((decide (0 ≤ a) && decide (a ≤ 3) && ob) = false) := by show _ = _; rw [decide_eq_false (by omega)]; rfl
    rw [HD.out]
    clear h0 HO
    go_enter Tryd.func39, Tryd.ntmps39
    go_wp2
    go_ret
    exact ⟨rfl, B0.out⟩
  · have e0 : decide (a < 0) = false := decide_eq_false (by omega)
    by_cases h3 : a < 4
    · have e3 : decide (a < 4) = true := decide_eq_true h3
      have HD : Hid ((decide (0 ≤ a) && decide (a ≤ 3) && ob) = ob) := by show _ = _; rw [decide_eq_true h0, decide_eq_true (by omega)]; rfl
      rw [HD.out]
      clear h0 h3
      go_enter Tryd.func39, Tryd.ntmps39
      go_wp2_with fail
      refine Calls.mono HO.out ?_
      rintro e W ⟨rfl, hb⟩
      have B2 : Hid (Below w.heap.size w W) := B0.out.trans (hb.mono B0.out.size)
      clear hb HO
      go_wp2
      go_ret
      exact ⟨Tk.ret_bool rfl, B2.out⟩
    · have e3 : decide (a < 4) = false := decide_eq_false h3
      have HD : Hid ((decide (0 ≤ a) && decide (a ≤ 3) && ob) = false) := by show _ = _; rw [decide_eq_true h0, decide_eq_false (by omega)]; rfl
      rw [HD.out]
      clear h0 h3 HO
      go_enter Tryd.func39, Tryd.ntmps39
      go_wp2
      go_ret
      exact ⟨rfl, B0.out⟩

theorem Tryd.rone_any (d : Nat) (x : Nd) (v : Value) (w : World) (hT : Tm.Lies w w.heap.size d v x.t) (hsz : x.t.size ≤ 2147483647) :
    Calls Tryd.prog 39 #[.agg #[.int .i64 x.kind, .int .i64 x.a, .int .i64 x.t.op, .int .i64 x.t.num, v]] w fun e w' => e = .returned (.bool (Nt.oneB x)) ∧ Below w.heap.size w w' := by
  obtain ⟨a, cap, rfl⟩ := hT.shape
  rcases Nt.kinds x.kind with ⟨m, hk⟩ | hk | hk
  · rw [Nt.oneB_plain x m hk]
    exact Tryd.rone_plain x.kind x.a x.t.op x.t.num m a x.t.ks.length cap (Nt.zeroB x.t) w hk (fun W => Tryd.rnone_any x.t a cap W)
  · rw [Nt.oneB_assign x hk, hk]
    exact Tryd.rone_assign x.a x.t.op x.t.num a x.t.ks.length cap (Nt.ofB x.t 1) w (fun W hb => Tryd.rof_any 1 d x.t (.slice a x.t.ks.length cap) W ((hT.below hb).wider hb.size) hsz)
  · rw [Nt.oneB_other x hk]
    exact Tryd.rone_other x.kind x.a x.t.op x.t.num a x.t.ks.length cap w hk

end Go.Proofs
