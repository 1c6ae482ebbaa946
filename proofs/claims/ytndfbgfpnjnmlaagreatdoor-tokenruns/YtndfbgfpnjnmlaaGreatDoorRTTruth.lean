import Derived.Test.YtndfbgfpnjnmlaaGreatDoorRTmVal
namespace Go.Proofs
open Go.RowKit
def Tk.TruOk (x0 x1 x2 x3 : Int) (d : Nat) : Prop := ∀ (T : Tm) (v : Value) (w : World), Tm.Lies w w.heap.size d v T → T.allForm = true → T.typedB = true → Tm.isOf T.op = 2 →
 Calls Tryz.prog 106 #[.agg #[.int .i64 T.op, .int .i64 T.num, v], .agg #[.int .i64 x0, .int .i64 x1, .int .i64 x2, .int .i64 x3]] w fun e w' =>
  e = .returned (.tuple #[.bool (T.val (Tk.vget x0 x1 x2 x3)).2.1, .int .i64 (T.val (Tk.vget x0 x1 x2 x3)).2.2]) ∧ Below w.heap.size w w'
theorem Tk.ret_bi {a c : Bool} {b d : Int} (h : a = c) (h' : b = d) : Ending.returned (.tuple #[.bool a, .int .i64 b]) = .returned (.tuple #[.bool c, .int .i64 d]) := by rw [h, h']
set_option maxHeartbeats 4000000 in
theorem Tryz.tru_not (x0 x1 x2 x3 : Int) (d : Nat) (hN : Tk.TruOk x0 x1 x2 x3 d) (k : Tm) (v : Value) (w : World) (hT : Tm.Lies w w.heap.size (d + 1) v (.mk 4 0 [k])) (hk : k.allForm = true)
  (tk : k.typedB = true) (ik : Tm.isOf k.op = 2) :
  Calls Tryz.prog 106 #[.agg #[.int .i64 4, .int .i64 0, v], .agg #[.int .i64 x0, .int .i64 x1, .int .i64 x2, .int .i64 x3]] w fun e w' =>
   e = .returned (.tuple #[.bool (decide ((k.val (Tk.vget x0 x1 x2 x3)).2.2 = 0) && !(k.val (Tk.vget x0 x1 x2 x3)).2.1), .int .i64 (k.val (Tk.vget x0 x1 x2 x3)).2.2]) ∧ Below w.heap.size w w' := by
 obtain ⟨a, cap, rfl⟩ := hT.shape
 obtain ⟨g, off, u, rfl, hg', q0, q1, q2, q3⟩ := hT.kid 0 (by simp [Tm.ks])
 simp only [Tm.ks, List.getElem_cons_zero, List.length_cons, List.length_nil] at *
 obtain ⟨au, cu, rfl⟩ := q3.shape
 obtain ⟨nk, hnk⟩ : ∃ n, k.ks.length = n := ⟨_, rfl⟩
 obtain ⟨ok, hok⟩ : ∃ n, k.op = n := ⟨_, rfl⟩
 obtain ⟨mk', hmk⟩ : ∃ n, k.num = n := ⟨_, rfl⟩
 obtain ⟨va, hva⟩ : ∃ n, k.val (Tk.vget x0 x1 x2 x3) = n := ⟨_, rfl⟩
 rw [hnk] at q2 q3
 rw [hok] at q0
 rw [hmk] at q1
 rw [hva]
 have CK : Hid (∀ W, Below w.heap.size w W → Calls Tryz.prog 106 #[.agg #[.int .i64 ok, .int .i64 mk', .slice au nk cu], .agg #[.int .i64 x0, .int .i64 x1, .int .i64 x2, .int .i64 x3]] W fun e w' => e = .returned (.tuple #[.bool va.2.1, .int .i64 va.2.2]) ∧ Below w.heap.size w w') := by
  intro W hW
  have := hN k (.slice au nk cu) W ((q3.below hW).wider hW.size) hk tk ik
  rw [hok, hmk, hva] at this
  exact this.mono fun e w' ⟨he, hb⟩ => ⟨he, hW.trans (hb.mono hW.size)⟩
 obtain ⟨a1, ab, a3⟩ := va
 have A0 : Hid (Below w.heap.size w ((w.alloc (.cells #[.int .i64 4, .int .i64 0, .slice (some ⟨g, off, none⟩) 1 cap] 68)).alloc (.cells #[.int .i64 x0, .int .i64 x1, .int .i64 x2, .int .i64 x3] 27))) := ((Below.refl _ w).alloc (Nat.le_refl _) _).alloc (by simp) _
 have hc : ∀ p, ((w.alloc (.cells #[.int .i64 4, .int .i64 0, .slice (some ⟨g, off, none⟩) 1 cap] 68)).alloc (.cells #[.int .i64 x0, .int .i64 x1, .int .i64 x2, .int .i64 x3] 27)).cell? ⟨g, p, none⟩ = w.cell? ⟨g, p, none⟩ := fun p => A0.out.cell (p := ⟨g, p, none⟩) hg'
 have k0 : ((w.alloc (.cells #[.int .i64 4, .int .i64 0, .slice (some ⟨g, off, none⟩) 1 cap] 68)).alloc (.cells #[.int .i64 x0, .int .i64 x1, .int .i64 x2, .int .i64 x3] 27)).cell? ⟨g, off, none⟩ = some (.int .i64 ok) := by rw [hc]; simpa using q0
 have k1 : ((w.alloc (.cells #[.int .i64 4, .int .i64 0, .slice (some ⟨g, off, none⟩) 1 cap] 68)).alloc (.cells #[.int .i64 x0, .int .i64 x1, .int .i64 x2, .int .i64 x3] 27)).cell? ⟨g, off + 1, none⟩ = some (.int .i64 mk') := by rw [hc]; simpa using q1
 have k2 : ((w.alloc (.cells #[.int .i64 4, .int .i64 0, .slice (some ⟨g, off, none⟩) 1 cap] 68)).alloc (.cells #[.int .i64 x0, .int .i64 x1, .int .i64 x2, .int .i64 x3] 27)).cell? ⟨g, off + 2, none⟩ = some (.slice au nk cu) := by rw [hc]; simpa using q2
 clear hT q0 q1 q2 q3 hg' hva hok hmk hnk hk tk ik hN hc
 go_enter Tryz.func106, Tryz.ntmps106
 go_wp2
 go_region_with (first | (go_at_call 106; refine Calls.mono (CK.out _ (by first | exact A0.out | exact A0.out.drew | exact Tk.below_drewN A0.out _)) ?_; rintro e W3 ⟨rfl, b3⟩) | fail)
 all_goals
  have B3 : Hid (Below w.heap.size w W3) := b3
  clear b3
  by_cases h0 : a3 = 0
  ·subst h0
   go_wp2
   go_ret2
   exact ⟨Tk.ret_bi (by simp) rfl, B3.out⟩
  ·have e0 : (a3 == 0) = false := by simpa using h0
   have H0 : Hid (¬ a3 = 0) := h0
   clear h0
   go_wp2
   go_ret2
   exact ⟨Tk.ret_bi (by simp [H0.out]) rfl, B3.out⟩
set_option maxHeartbeats 4000000 in
theorem Tryz.tru_cmp (x0 x1 x2 x3 : Int) (d : Nat) (hN : Tk.NumOk x0 x1 x2 x3 d) (op : Int) (k l : Tm) (v : Value) (w : World) (h5 : 10 ≤ op) (h9 : op ≤ 12) (hT : Tm.Lies w w.heap.size (d + 1) v (.mk op 0 [k, l])) (hk : k.allForm = true) (hl : l.allForm = true)
  (tk : k.typedB = true) (tl : l.typedB = true) (ik : Tm.isOf k.op = 1) (il : Tm.isOf l.op = 1) (r : Bool × Int)
  (hr : r = if (Tk.bothR (k.val (Tk.vget x0 x1 x2 x3)) (l.val (Tk.vget x0 x1 x2 x3))).2.2 ≠ 0 then (false, (Tk.bothR (k.val (Tk.vget x0 x1 x2 x3)) (l.val (Tk.vget x0 x1 x2 x3))).2.2) else (Tk.cmpR op (Tk.bothR (k.val (Tk.vget x0 x1 x2 x3)) (l.val (Tk.vget x0 x1 x2 x3))).1 (Tk.bothR (k.val (Tk.vget x0 x1 x2 x3)) (l.val (Tk.vget x0 x1 x2 x3))).2.1, 0)) :
  Calls Tryz.prog 106 #[.agg #[.int .i64 op, .int .i64 0, v], .agg #[.int .i64 x0, .int .i64 x1, .int .i64 x2, .int .i64 x3]] w fun e w' => e = .returned (.tuple #[.bool r.1, .int .i64 r.2]) ∧ Below w.heap.size w w' := by
 obtain ⟨a, cap, rfl⟩ := hT.shape
 simp only [Tm.ks, List.length_cons, List.length_nil] at *
 have CB : Hid (∀ W, Below w.heap.size w W → _) := fun W (hW : Below w.heap.size w W) => Tryz.both_step x0 x1 x2 x3 d hN op k l (.slice a 2 cap) W ((hT.below hW).wider hW.size) hk hl tk tl ik il
 obtain ⟨q, hq⟩ : ∃ q, Tk.bothR (k.val (Tk.vget x0 x1 x2 x3)) (l.val (Tk.vget x0 x1 x2 x3)) = q := ⟨_, rfl⟩
 rw [hq] at hr CB
 obtain ⟨c1, c2, c3⟩ := q
 simp only at hr
 obtain ⟨w0, hw0⟩ : ∃ w0, (w.alloc (.cells #[.int .i64 op, .int .i64 0, .slice a 2 cap] 68)).alloc (.cells #[.int .i64 x0, .int .i64 x1, .int .i64 x2, .int .i64 x3] 27) = w0 := ⟨_, rfl⟩
 have A0 : Hid (Below w.heap.size w w0) := by show Below _ _ _; rw [← hw0]; exact ((Below.refl _ w).alloc (Nat.le_refl _) _).alloc (by simp) _
 have C0 : Hid (w0.heap[w.heap.size]? = some (.cells #[.int .i64 op, .int .i64 0, .slice a 2 cap] 68 (0, 0))) := by
  show _ = _
  rw [← hw0, Below.heap_alloc _ _ _ (by simp)]; exact heap_alloc_new w _
 have HW0 : Hid ((w.alloc (.cells #[.int .i64 op, .int .i64 0, .slice a 2 cap] 68)).alloc (.cells #[.int .i64 x0, .int .i64 x1, .int .i64 x2, .int .i64 x3] 27) = w0) := hw0
 have HR : Hid (r = if c3 ≠ 0 then (false, c3) else (Tk.cmpR op c1 c2, 0)) := hr
 have e1 : (op == 4) = false := by simp; omega
 have e2 : (op == 13) = false := by simp; omega
 have e3 : (op == 14) = false := by simp; omega
 clear hT hk hl tk tl ik il hr hq hw0 h5 h9 hN
 go_enter Tryz.func106, Tryz.ntmps106
 go_wp2_with fail
 rw [HW0.out]
 refine Calls.mono (CB.out w0 A0.out) ?_
 rintro e W1 ⟨rfl, b1⟩
 have B1 : Hid (Below w.heap.size w W1) := A0.out.trans (b1.mono A0.out.size)
 have c0 : W1.cell? ⟨w.heap.size, 0, none⟩ = some (.int .i64 op) := by
  have : W1.heap[w.heap.size]? = _ := (b1.block _ (Array.getElem?_eq_some_iff.1 C0.out).1).trans C0.out
  simp [World.cell?, this]
 clear b1 CB HW0
 by_cases h3 : c3 = 0
 ·subst h3
  have HRR : Hid (r = (Tk.cmpR op c1 c2, 0)) := by show r = (Tk.cmpR op c1 c2, 0); have := HR.out; simpa using this
  clear HR
  go_wp2_with fail
  refine Calls.mono (Tryz.compare_any op c1 c2 _) ?_
  rintro e W2 ⟨rfl, rfl⟩
  go_wp2
  go_ret2
  exact ⟨by rw [HRR.out]; rfl, B1.out⟩
 ·have hne : (c3 == 0) = false := by simpa using h3
  have HRR : Hid (r = (false, c3)) := by show r = (false, c3); have := HR.out; simpa [h3] using this
  clear HR h3
  go_wp2
  go_ret2
  exact ⟨by rw [HRR.out]; rfl, B1.out⟩
end Go.Proofs
namespace Go.Proofs
def Tk.junctR (op : Int) (a b : Int × Bool × Int) : Bool × Int := if a.2.2 ≠ 0 ∨ a.2.1 = decide (op = 14) then (a.2.1, a.2.2) else (b.2.1, b.2.2)
end Go.Proofs
