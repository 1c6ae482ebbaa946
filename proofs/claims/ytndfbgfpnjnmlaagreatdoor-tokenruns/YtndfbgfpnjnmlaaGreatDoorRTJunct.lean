import Derived.Test.YtndfbgfpnjnmlaaGreatDoorRTTruth
namespace Go.Proofs
open Go.RowKit
set_option maxHeartbeats 4000000 in
theorem Tryz.tru_and (x0 x1 x2 x3 : Int) (d : Nat) (hN : Tk.TruOk x0 x1 x2 x3 d) (op : Int) (hop : op = 13) (k l : Tm) (v : Value) (w : World) (hT : Tm.Lies w w.heap.size (d + 1) v (.mk op 0 [k, l])) (hk : k.allForm = true) (hl : l.allForm = true)
  (tk : k.typedB = true) (tl : l.typedB = true) (ik : Tm.isOf k.op = 2) (il : Tm.isOf l.op = 2) :
  Calls Tryz.prog 106 #[.agg #[.int .i64 op, .int .i64 0, v], .agg #[.int .i64 x0, .int .i64 x1, .int .i64 x2, .int .i64 x3]] w fun e w' =>
   e = .returned (.tuple #[.bool (Tk.junctR op (k.val (Tk.vget x0 x1 x2 x3)) (l.val (Tk.vget x0 x1 x2 x3))).1, .int .i64 (Tk.junctR op (k.val (Tk.vget x0 x1 x2 x3)) (l.val (Tk.vget x0 x1 x2 x3))).2]) ∧ Below w.heap.size w w' := by
 obtain ⟨a, cap, rfl⟩ := hT.shape
 obtain ⟨g, off, u, rfl, hg, q0, q1, q2, q3⟩ := hT.kid 0 (by simp [Tm.ks])
 obtain ⟨g', off', u', e', hg', p0, p1, p2, p3⟩ := hT.kid 1 (by simp [Tm.ks])
 simp only [Option.some.injEq, Addr.mk.injEq, and_true] at e'
 obtain ⟨rfl, rfl⟩ := e'
 simp only [Tm.ks, List.getElem_cons_zero, List.getElem_cons_succ, List.length_cons, List.length_nil] at *
 obtain ⟨au, cu, rfl⟩ := q3.shape
 obtain ⟨al, cl, rfl⟩ := p3.shape
 obtain ⟨nk, hnk⟩ : ∃ n, k.ks.length = n := ⟨_, rfl⟩
 obtain ⟨nl, hnl⟩ : ∃ n, l.ks.length = n := ⟨_, rfl⟩
 obtain ⟨ok, hok⟩ : ∃ n, k.op = n := ⟨_, rfl⟩
 obtain ⟨ol, hol⟩ : ∃ n, l.op = n := ⟨_, rfl⟩
 obtain ⟨mk', hmk⟩ : ∃ n, k.num = n := ⟨_, rfl⟩
 obtain ⟨ml, hml⟩ : ∃ n, l.num = n := ⟨_, rfl⟩
 obtain ⟨va, hva⟩ : ∃ n, k.val (Tk.vget x0 x1 x2 x3) = n := ⟨_, rfl⟩
 obtain ⟨vb, hvb⟩ : ∃ n, l.val (Tk.vget x0 x1 x2 x3) = n := ⟨_, rfl⟩
 rw [hnk] at q2 q3
 rw [hnl] at p2 p3
 rw [hok] at q0
 rw [hmk] at q1
 rw [hol] at p0
 rw [hml] at p1
 rw [hva, hvb]
 obtain ⟨w0, hw0⟩ : ∃ w0, (w.alloc (.cells #[.int .i64 op, .int .i64 0, .slice (some ⟨g, off, none⟩) 2 cap] 68)).alloc (.cells #[.int .i64 x0, .int .i64 x1, .int .i64 x2, .int .i64 x3] 27) = w0 := ⟨_, rfl⟩
 have A0 : Hid (Below w.heap.size w w0) := by show Below _ _ _; rw [← hw0]; exact ((Below.refl _ w).alloc (Nat.le_refl _) _).alloc (by simp) _
 have CK : Hid (∀ W, Below w.heap.size w W → Below w0.heap.size w0 W → Calls Tryz.prog 106 #[.agg #[.int .i64 ok, .int .i64 mk', .slice au nk cu], .agg #[.int .i64 x0, .int .i64 x1, .int .i64 x2, .int .i64 x3]] W fun e w' => e = .returned (.tuple #[.bool va.2.1, .int .i64 va.2.2]) ∧ Below w.heap.size w w' ∧ Below w0.heap.size w0 w') := by
  intro W hW hW0
  have := hN k (.slice au nk cu) W ((q3.below hW).wider hW.size) hk tk ik
  rw [hok, hmk, hva] at this
  exact this.mono fun e w' ⟨he, hb⟩ => ⟨he, hW.trans (hb.mono hW.size), hW0.trans (hb.mono hW0.size)⟩
 have CL : Hid (∀ W, Below w.heap.size w W → Below w0.heap.size w0 W → Calls Tryz.prog 106 #[.agg #[.int .i64 ol, .int .i64 ml, .slice al nl cl], .agg #[.int .i64 x0, .int .i64 x1, .int .i64 x2, .int .i64 x3]] W fun e w' => e = .returned (.tuple #[.bool vb.2.1, .int .i64 vb.2.2]) ∧ Below w.heap.size w w' ∧ Below w0.heap.size w0 w') := by
  intro W hW hW0
  have := hN l (.slice al nl cl) W ((p3.below hW).wider hW.size) hl tl il
  rw [hol, hml, hvb] at this
  exact this.mono fun e w' ⟨he, hb⟩ => ⟨he, hW.trans (hb.mono hW.size), hW0.trans (hb.mono hW0.size)⟩
 obtain ⟨a1, ab, a3⟩ := va
 obtain ⟨f1, fb, f3⟩ := vb
 have C0 : w0.heap[w.heap.size]? = some (.cells #[.int .i64 op, .int .i64 0, .slice (some ⟨g, off, none⟩) 2 cap] 68 (0, 0)) := by
  rw [← hw0, Below.heap_alloc _ _ _ (by simp)]; exact heap_alloc_new w _
 have C1 : w0.heap[w.heap.size + 1]? = some (.cells #[.int .i64 x0, .int .i64 x1, .int .i64 x2, .int .i64 x3] 27 (0, 0)) := by
  rw [← hw0]
  have := heap_alloc_new (w.alloc (.cells #[.int .i64 op, .int .i64 0, .slice (some ⟨g, off, none⟩) 2 cap] 68)) (.cells #[.int .i64 x0, .int .i64 x1, .int .i64 x2, .int .i64 x3] 27)
  simpa using this
 have HW0 : Hid ((w.alloc (.cells #[.int .i64 op, .int .i64 0, .slice (some ⟨g, off, none⟩) 2 cap] 68)).alloc (.cells #[.int .i64 x0, .int .i64 x1, .int .i64 x2, .int .i64 x3] 27) = w0) := hw0
 have HQ : Hid (w.cell? ⟨g, off, none⟩ = some (.int .i64 ok) ∧ w.cell? ⟨g, off + 1, none⟩ = some (.int .i64 mk') ∧ w.cell? ⟨g, off + 2, none⟩ = some (.slice au nk cu)) := ⟨by simpa using q0, by simpa using q1, by simpa using q2⟩
 have HP : Hid (w.cell? ⟨g, off + 3, none⟩ = some (.int .i64 ol) ∧ w.cell? ⟨g, off + 4, none⟩ = some (.int .i64 ml) ∧ w.cell? ⟨g, off + 5, none⟩ = some (.slice al nl cl)) := ⟨by simpa using p0, by simpa using p1, by simpa using p2⟩
 have HG : Hid (g < w.heap.size) := hg
 have HC0 : Hid _ := C0
 have HC1 : Hid _ := C1
 have c0 : w0.cell? ⟨w.heap.size, 2, none⟩ = some (.slice (some ⟨g, off, none⟩) 2 cap) := by simp [World.cell?, C0]
 have d0 : w0.cell? ⟨w.heap.size + 1, 0, none⟩ = some (.int .i64 x0) := by simp [World.cell?, C1]
 have d1 : w0.cell? ⟨w.heap.size + 1, 1, none⟩ = some (.int .i64 x1) := by simp [World.cell?, C1]
 have d2 : w0.cell? ⟨w.heap.size + 1, 2, none⟩ = some (.int .i64 x2) := by simp [World.cell?, C1]
 have d3 : w0.cell? ⟨w.heap.size + 1, 3, none⟩ = some (.int .i64 x3) := by simp [World.cell?, C1]
 have k0 : w0.cell? ⟨g, off, none⟩ = some (.int .i64 ok) := by rw [A0.out.cell (p := ⟨g, off, none⟩) hg]; exact HQ.out.1
 have k1 : w0.cell? ⟨g, off + 1, none⟩ = some (.int .i64 mk') := by rw [A0.out.cell (p := ⟨g, off + 1, none⟩) hg]; exact HQ.out.2.1
 have k2 : w0.cell? ⟨g, off + 2, none⟩ = some (.slice au nk cu) := by rw [A0.out.cell (p := ⟨g, off + 2, none⟩) hg]; exact HQ.out.2.2
 clear hT q0 q1 q2 q3 p0 p1 p2 p3 hg hg' hw0 hva hvb hok hol hmk hml hnk hnl C0 C1 hk hl tk tl ik il hN
 subst hop
 go_enter Tryz.func106, Tryz.ntmps106
 go_wp2
 rw [HW0.out]
 clear HW0
 go_region_with (first | (go_at_call 106; refine Calls.mono (CK.out _ (by first | exact A0.out | exact A0.out.drew | exact Tk.below_drewN A0.out _) (by first | exact Below.refl _ _ | exact (Below.refl _ w0).drew | exact Tk.below_drewN (Below.refl _ w0) _)) ?_; rintro e W3 ⟨rfl, b3, c3⟩) | fail)
 all_goals
  have B3 : Hid (Below w.heap.size w W3) := b3
  have D3 : Hid (Below w0.heap.size w0 W3) := c3
  have S0 : w.heap.size + 1 < w0.heap.size := (Array.getElem?_eq_some_iff.1 HC1.out).1
  have C3 : W3.heap[w.heap.size]? = some (.cells #[.int .i64 13, .int .i64 0, .slice (some ⟨g, off, none⟩) 2 cap] 68 (0, 0)) := by rw [c3.block _ (by omega)]; exact HC0.out
  have E3 : W3.heap[w.heap.size + 1]? = some (.cells #[.int .i64 x0, .int .i64 x1, .int .i64 x2, .int .i64 x3] 27 (0, 0)) := by rw [c3.block _ S0]; exact HC1.out
  have c0' : W3.cell? ⟨w.heap.size, 2, none⟩ = some (.slice (some ⟨g, off, none⟩) 2 cap) := by simp [World.cell?, C3]
  have d0' : W3.cell? ⟨w.heap.size + 1, 0, none⟩ = some (.int .i64 x0) := by simp [World.cell?, E3]
  have d1' : W3.cell? ⟨w.heap.size + 1, 1, none⟩ = some (.int .i64 x1) := by simp [World.cell?, E3]
  have d2' : W3.cell? ⟨w.heap.size + 1, 2, none⟩ = some (.int .i64 x2) := by simp [World.cell?, E3]
  have d3' : W3.cell? ⟨w.heap.size + 1, 3, none⟩ = some (.int .i64 x3) := by simp [World.cell?, E3]
  have l0 : W3.cell? ⟨g, off + 3, none⟩ = some (.int .i64 ol) := by rw [b3.cell (p := ⟨g, off + 3, none⟩) HG.out]; exact HP.out.1
  have l1 : W3.cell? ⟨g, off + 4, none⟩ = some (.int .i64 ml) := by rw [b3.cell (p := ⟨g, off + 4, none⟩) HG.out]; exact HP.out.2.1
  have l2 : W3.cell? ⟨g, off + 5, none⟩ = some (.slice al nl cl) := by rw [b3.cell (p := ⟨g, off + 5, none⟩) HG.out]; exact HP.out.2.2
  have o0' : W3.cell? ⟨w.heap.size, 0, none⟩ = some (.int .i64 13) := by simp [World.cell?, C3]
  clear b3 c3 C3 E3 S0 c0 d0 d1 d2 d3 k0 k1 k2
  by_cases ha : a3 = 0
  ·subst ha
   cases ab
   ·go_wp2
    go_ret2
    exact ⟨Tk.ret_bi (by simp [Tk.junctR]) (by simp [Tk.junctR]), B3.out⟩
   ·go_wp2
    go_region_with (first | (go_at_call 106; refine Calls.mono (CL.out _ (by first | exact B3.out | exact B3.out.drew | exact Tk.below_drewN B3.out _) (by first | exact D3.out | exact D3.out.drew | exact Tk.below_drewN D3.out _)) ?_; rintro e W4 ⟨rfl, b4, c4⟩) | fail)
    all_goals
     have B4 : Hid (Below w.heap.size w W4) := b4
     clear b4 c4
     go_wp2
     go_ret2
     exact ⟨Tk.ret_bi (by simp [Tk.junctR]) (by simp [Tk.junctR]), B4.out⟩
  ·have hne : (a3 != 0) = true := by simpa using ha
   have HF3 : Hid (¬ a3 = 0) := ha
   clear ha
   go_wp2
   go_ret2
   exact ⟨Tk.ret_bi (by simp [Tk.junctR, HF3.out]) (by simp [Tk.junctR, HF3.out]), B3.out⟩
end Go.Proofs
