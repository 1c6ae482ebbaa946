/-
  Parts of the contract of truth: Not, and comparisons.
-/
import Derived.Test.YtkalkkgfilkiiaaGreatDoorAllTmVal
namespace Go.Proofs
open Go.RowKit

/-- truth answers right of terms of so many levels. -/
def Tk.TruOk (x0 x1 x2 x3 : Int) (d : Nat) : Prop := ∀ (T : Tm) (v : Value) (w : World), Tm.Lies w w.heap.size d v T → T.allForm = true → T.typedB = true → Tm.isOf T.op = 2 →
  Calls Tryz.prog 106 #[.agg #[.int .i64 T.op, .int .i64 T.num, v], .agg #[.int .i64 x0, .int .i64 x1, .int .i64 x2, .int .i64 x3]] w fun e w' =>
    e = .returned (.tuple #[.bool (T.val (Tk.vget x0 x1 x2 x3)).2.1, .int .i64 (T.val (Tk.vget x0 x1 x2 x3)).2.2]) ∧ Below w.heap.size w w'

theorem Tk.ret_bi {a c : Bool} {b d : Int} (h : a = c) (h' : b = d) : Ending.returned (.tuple #[.bool a, .int .i64 b]) = .returned (.tuple #[.bool c, .int .i64 d]) := by rw [h, h']

set_option maxHeartbeats 4000000 in
theorem Tryz.tru_not (x0 x1 x2 x3 : Int) (d : Nat) (hN : Tk.TruOk x0 x1 x2 x3 d) (k : Tm) (v : Value) (w : World) (hT : Tm.Lies w w.heap.size (d + 1) v (.mk 4 0 [k])) (hk : k.allForm = true)
    (tk : k.typedB = true) (ik : Tm.isOf k.op = 2) :
    Calls Tryz.prog 106 #[.agg #[.int .i64 4, .int .i64 0, v], .agg #[.int .i64 x0, .int .i64 x1, .int .i64 x2, .int .i64 x3]] w fun e w' =>
      e = .returned (.tuple #[.bool (decide ((k.val (Tk.vget x0 x1 x2 x3)).2.2 = 0) && !(k.val (Tk.vget x0 x1 x2 x3)).2.1), .int .i64 (k.val (Tk.vget x0 x1 x2 x3)).2.2]) ∧ Below w.heap.size w w' := by
  obtain ⟨a, cap, rfl⟩ := hT.shape
  obtain ⟨g, off, u, rfl, hg', q0, q1, q2, q3⟩ := hT.kid 0 (by simp [Tm.ks])
  simp only [Tm.ks, List.getElem_cons_zero, List.length_cons, List.length_nil] at *
  obtain ⟨au, cu, rfl⟩ := q3.shape
  obtain ⟨nk, hnk⟩ : ∃ n, k.ks.length = n := ⟨_, rfl⟩
  obtain ⟨ok, hok⟩ : ∃ n, k.op = n := ⟨_, rfl⟩
  obtain ⟨mk', hmk⟩ : ∃ n, k.num = n := ⟨_, rfl⟩
  obtain ⟨va, hva⟩ : ∃ n, k.val (Tk.vget x0 x1 x2 x3) = n := ⟨_, rfl⟩
  rw [hnk] at q2 q3
  rw [hok] at q0
  rw [hmk] at q1
  rw [hva]
  have CK : Hid (∀ W, Below w.heap.size w W → Calls Tryz.prog 106 #[.agg #[.int .i64 ok, .int .i64 mk', .slice au nk cu], .agg #[.int .i64 x0, .int .i64 x1, .int .i64 x2, .int .i64 x3]] W fun e w' => e = .returned (.tuple #[.bool va.2.1, .int .i64 va.2.2]) ∧ Below w.heap.size w w') := by
    intro W hW
    have := hN k (.slice au nk cu) W ((q3.below hW).wider hW.size) hk tk ik
    rw [hok, hmk, hva] at this
    exact this.mono fun e w' ⟨he, hb⟩ => ⟨he, hW.trans (hb.mono hW.size)⟩
  obtain ⟨a1, ab, a3⟩ := va
  have A0 : Hid (Below w.heap.size w ((w.alloc (.cells #[.int .i64 4, .int .i64 0, .slice (some ⟨g, off, none⟩) 1 cap] 68)).alloc (.cells #[.int .i64 x0, .int .i64 x1, .int .i64 x2, .int .i64 x3] 27))) := ((Below.refl _ w).alloc (Nat.le_refl _) _).alloc (by simp) _
  have hc : ∀ p, ((w.alloc (.cells #[.int .i64 4, .int .i64 0, .slice (some ⟨g, off, none⟩) 1 cap] 68)).alloc (.cells #[.int .i64 x0, .int .i64 x1, .int .i64 x2, .int .i64 x3] 27)).cell? ⟨g, p, none⟩ = w.cell? ⟨g, p, none⟩ := fun p => A0.out.cell (p := ⟨g, p, none⟩) hg'
  have k0 : ((w.alloc (.cells #[.int .i64 4, .int .i64 0, .slice (some ⟨g, off, none⟩) 1 cap] 68)).alloc (.cells #[.int .i64 x0, .int .i64 x1, .int .i64 x2, .int .i64 x3] 27)).cell? ⟨g, off, none⟩ = some (.int .i64 ok) := by rw [hc]; simpa using q0
  have k1 : ((w.alloc (.cells #[.int .i64 4, .int .i64 0, .slice (some ⟨g, off, none⟩) 1 cap] 68)).alloc (.cells #[.int .i64 x0, .int .i64 x1, .int .i64 x2, .int .i64 x3] 27)).cell? ⟨g, off + 1, none⟩ = some (.int .i64 mk') := by rw [hc]; simpa using q1
  have k2 : ((w.alloc (.cells #[.int .i64 4, .int .i64 0, .slice (some ⟨g, off, none⟩) 1 cap] 68)).alloc (.cells #[.int .i64 x0, .int .i64 x1, .int .i64 x2, .int .i64 x3] 27)).cell? ⟨g, off + 2, none⟩ = some (.slice au nk cu) := by rw [hc]; simpa using q2
  clear hT q0 q1 q2 q3 hg' hva hok hmk hnk hk tk ik hN hc
  go_enter Tryz.func106, Tryz.ntmps106
  go_wp2
  go_region_with (first | (go_at_call 106; refine Calls.mono (CK.out _ (by first | exact A0.out | exact A0.out.drew | exact Tk.below_drewN A0.out _)) ?_; rintro e W3 ⟨rfl, b3⟩) | fail)
  all_goals
    have B3 : Hid (Below w.heap.size w W3) := b3
    clear b3
    by_cases h0 : a3 = 0
    · subst h0
      go_wp2
      go_ret2
      exact ⟨Tk.ret_bi (by simp) rfl, B3.out⟩
    · have e0 : (a3 == 0) = false := by simpa using h0
      have H0 : Hid (¬ a3 = 0) := h0
      clear h0
      go_wp2
      go_ret2
      exact ⟨Tk.ret_bi (by simp [H0.out]) rfl, B3.out⟩

set_option maxHeartbeats 4000000 in
theorem Tryz.tru_cmp (x0 x1 x2 x3 : Int) (d : Nat) (hN : Tk.NumOk x0 x1 x2 x3 d) (op : Int) (k l : Tm) (v : Value) (w : World) (h5 : 10 ≤ op) (h9 : op ≤ 12) (hT : Tm.Lies w w.heap.size (d + 1) v (.mk op 0 [k, l])) (hk : k.allForm = true) (hl : l.allForm = true)
    (tk : k.typedB = true) (tl : l.typedB = true) (ik : Tm.isOf k.op = 1) (il : Tm.isOf l.op = 1) (r : Bool × Int)
    (hr : r = if (Tk.bothR (k.val (Tk.vget x0 x1 x2 x3)) (l.val (Tk.vget x0 x1 x2 x3))).2.2 ≠ 0 then (false, (Tk.bothR (k.val (Tk.vget x0 x1 x2 x3)) (l.val (Tk.vget x0 x1 x2 x3))).2.2) else (Tk.cmpR op (Tk.bothR (k.val (Tk.vget x0 x1 x2 x3)) (l.val (Tk.vget x0 x1 x2 x3))).1 (Tk.bothR (k.val (Tk.vget x0 x1 x2 x3)) (l.val (Tk.vget x0 x1 x2 x3))).2.1, 0)) :
    Calls Tryz.prog 106 #[.agg #[.int .i64 op, .int .i64 0, v], .agg #[.int .i64 x0, .int .i64 x1, .int .i64 x2, .int .i64 x3]] w fun e w' => e = .returned (.tuple #[.bool r.1, .int .i64 r.2]) ∧ Below w.heap.size w w' := by
  obtain ⟨a, cap, rfl⟩ := hT.shape
  simp only [Tm.ks, List.length_cons, List.length_nil] at *
  have CB : Hid (∀ W, Below w.heap.size w W → _) := fun W (hW : Below w.heap.size w W) => Tryz.both_step x0 x1 x2 x3 d hN op k l (.slice a 2 cap) W ((hT.below hW).wider hW.size) hk hl tk tl ik il
  obtain ⟨q, hq⟩ : ∃ q, Tk.bothR (k.val (Tk.vget x0 x1 x2 x3)) (l.val (Tk.vget x0 x1 x2 x3)) = q := ⟨_, rfl⟩
  rw [hq] at hr CB
  obtain ⟨c1, c2, c3⟩ := q
  simp only at hr
  obtain ⟨w0, hw0⟩ : ∃ w0, (w.alloc (.cells #[.int .i64 op, .int .i64 0, .slice a 2 cap] 68)).alloc (.cells #[.int .i64 x0, .int .i64 x1, .int .i64 x2, .int .i64 x3] 27) = w0 := ⟨_, rfl⟩
  have A0 : Hid (Below w.heap.size w w0) := by show Below _ _ _; rw [← hw0]; exact ((Below.refl _ w).alloc (Nat.le_refl _) _).alloc (by simp) _
  have C0 : Hid (w0.heap[w.heap.size]? = some (.cells #[.int .i64 op, .int .i64 0, .slice a 2 cap] 68 (0, 0))) := by
    show _ = _
    rw [← hw0, Below.heap_alloc _ _ _ (by simp)]; exact heap_alloc_new w _
  have HW0 : Hid ((w.alloc (.cells #[.int .i64 op, .int .i64 0, .slice a 2 cap] 68)).alloc (.cells #[.int .i64 x0, .int .i64 x1, .int .i64 x2, .int .i64 x3] 27) = w0) := hw0
  have HR : Hid (r = if c3 ≠ 0 then (false, c3) else (Tk.cmpR op c1 c2, 0)) := hr
  have e1 : (op == 4) = false := by simp; omega
  have e2 : (op == 13) = false := by simp; omega
  have e3 : (op == 14) = false := by simp; omega
  clear hT hk hl tk tl ik il hr hq hw0 h5 h9 hN
  go_enter Tryz.func106, Tryz.ntmps106
  go_wp2_with fail
  rw [HW0.out]
  refine Calls.mono (CB.out w0 A0.out) ?_
  rintro e W1 ⟨rfl, b1⟩
  have B1 : Hid (Below w.heap.size w W1) := A0.out.trans (b1.mono A0.out.size)
  have c0 : W1.cell? ⟨w.heap.size, 0, none⟩ = some (.int .i64 op) := by
    have : W1.heap[w.heap.size]? = _ := (b1.block _ (Array.getElem?_eq_some_iff.1 C0.out).1).trans C0.out
    simp [World.cell?, this]
  clear b1 CB HW0
  by_cases h3 : c3 = 0
  · subst h3
    have HRR : Hid (r = (Tk.cmpR op c1 c2, 0)) := by show r = (Tk.cmpR op c1 c2, 0); have := HR.out; simpa using this
    clear HR
    go_wp2_with fail
    refine Calls.mono (Tryz.compare_any op c1 c2 _) ?_
    rintro e W2 ⟨rfl, rfl⟩
    go_wp2
    go_ret2
    exact ⟨by rw [HRR.out]; rfl, B1.out⟩
  · have hne : (c3 == 0) = false := by simpa using h3
    have HRR : Hid (r = (false, c3)) := by show r = (false, c3); have := HR.out; simpa [h3] using this
    clear HR h3
    go_wp2
    go_ret2
    exact ⟨by rw [HRR.out]; rfl, B1.out⟩

end Go.Proofs

namespace Go.Proofs
/-- What And or Or answers. -/
def Tk.junctR (op : Int) (a b : Int × Bool × Int) : Bool × Int := if a.2.2 ≠ 0 ∨ a.2.1 = decide (op = 14) then (a.2.1, a.2.2) else (b.2.1, b.2.2)

end Go.Proofs

namespace Go.Proofs
open Go.RowKit

set_option maxHeartbeats 4000000 in
theorem Tryz.tru_and (x0 x1 x2 x3 : Int) (d : Nat) (hN : Tk.TruOk x0 x1 x2 x3 d) (op : Int) (hop : op = 13) (k l : Tm) (v : Value) (w : World) (hT : Tm.Lies w w.heap.size (d + 1) v (.mk op 0 [k, l])) (hk : k.allForm = true) (hl : l.allForm = true)
    (tk : k.typedB = true) (tl : l.typedB = true) (ik : Tm.isOf k.op = 2) (il : Tm.isOf l.op = 2) :
    Calls Tryz.prog 106 #[.agg #[.int .i64 op, .int .i64 0, v], .agg #[.int .i64 x0, .int .i64 x1, .int .i64 x2, .int .i64 x3]] w fun e w' =>
      e = .returned (.tuple #[.bool (Tk.junctR op (k.val (Tk.vget x0 x1 x2 x3)) (l.val (Tk.vget x0 x1 x2 x3))).1, .int .i64 (Tk.junctR op (k.val (Tk.vget x0 x1 x2 x3)) (l.val (Tk.vget x0 x1 x2 x3))).2]) ∧ Below w.heap.size w w' := by
  obtain ⟨a, cap, rfl⟩ := hT.shape
  obtain ⟨g, off, u, rfl, hg, q0, q1, q2, q3⟩ := hT.kid 0 (by simp [Tm.ks])
  obtain ⟨g', off', u', e', hg', p0, p1, p2, p3⟩ := hT.kid 1 (by simp [Tm.ks])
  simp only [Option.some.injEq, Addr.mk.injEq, and_true] at e'
  obtain ⟨rfl, rfl⟩ := e'
  simp only [Tm.ks, List.getElem_cons_zero, List.getElem_cons_succ, List.length_cons, List.length_nil] at *
  obtain ⟨au, cu, rfl⟩ := q3.shape
  obtain ⟨al, cl, rfl⟩ := p3.shape
  obtain ⟨nk, hnk⟩ : ∃ n, k.ks.length = n := ⟨_, rfl⟩
  obtain ⟨nl, hnl⟩ : ∃ n, l.ks.length = n := ⟨_, rfl⟩
  obtain ⟨ok, hok⟩ : ∃ n, k.op = n := ⟨_, rfl⟩
  obtain ⟨ol, hol⟩ : ∃ n, l.op = n := ⟨_, rfl⟩
  obtain ⟨mk', hmk⟩ : ∃ n, k.num = n := ⟨_, rfl⟩
  obtain ⟨ml, hml⟩ : ∃ n, l.num = n := ⟨_, rfl⟩
  obtain ⟨va, hva⟩ : ∃ n, k.val (Tk.vget x0 x1 x2 x3) = n := ⟨_, rfl⟩
  obtain ⟨vb, hvb⟩ : ∃ n, l.val (Tk.vget x0 x1 x2 x3) = n := ⟨_, rfl⟩
  rw [hnk] at q2 q3
  rw [hnl] at p2 p3
  rw [hok] at q0
  rw [hmk] at q1
  rw [hol] at p0
  rw [hml] at p1
  rw [hva, hvb]
  obtain ⟨w0, hw0⟩ : ∃ w0, (w.alloc (.cells #[.int .i64 op, .int .i64 0, .slice (some ⟨g, off, none⟩) 2 cap] 68)).alloc (.cells #[.int .i64 x0, .int .i64 x1, .int .i64 x2, .int .i64 x3] 27) = w0 := ⟨_, rfl⟩
  have A0 : Hid (Below w.heap.size w w0) := by show Below _ _ _; rw [← hw0]; exact ((Below.refl _ w).alloc (Nat.le_refl _) _).alloc (by simp) _
  have CK : Hid (∀ W, Below w.heap.size w W → Below w0.heap.size w0 W → Calls Tryz.prog 106 #[.agg #[.int .i64 ok, .int .i64 mk', .slice au nk cu], .agg #[.int .i64 x0, .int .i64 x1, .int .i64 x2, .int .i64 x3]] W fun e w' => e = .returned (.tuple #[.bool va.2.1, .int .i64 va.2.2]) ∧ Below w.heap.size w w' ∧ Below w0.heap.size w0 w') := by
    intro W hW hW0
    have := hN k (.slice au nk cu) W ((q3.below hW).wider hW.size) hk tk ik
    rw [hok, hmk, hva] at this
    exact this.mono fun e w' ⟨he, hb⟩ => ⟨he, hW.trans (hb.mono hW.size), hW0.trans (hb.mono hW0.size)⟩
  have CL : Hid (∀ W, Below w.heap.size w W → Below w0.heap.size w0 W → Calls Tryz.prog 106 #[.agg #[.int .i64 ol, .int .i64 ml, .slice al nl cl], .agg #[.int .i64 x0, .int .i64 x1, .int .i64 x2, .int .i64 x3]] W fun e w' => e = .returned (.tuple #[.bool vb.2.1, .int .i64 vb.2.2]) ∧ Below w.heap.size w w' ∧ Below w0.heap.size w0 w') := by
    intro W hW hW0
    have := hN l (.slice al nl cl) W ((p3.below hW).wider hW.size) hl tl il
    rw [hol, hml, hvb] at this
    exact this.mono fun e w' ⟨he, hb⟩ => ⟨he, hW.trans (hb.mono hW.size), hW0.trans (hb.mono hW0.size)⟩
  obtain ⟨a1, ab, a3⟩ := va
  obtain ⟨f1, fb, f3⟩ := vb
  have C0 : w0.heap[w.heap.size]? = some (.cells #[.int .i64 op, .int .i64 0, .slice (some ⟨g, off, none⟩) 2 cap] 68 (0, 0)) := by
    rw [← hw0, Below.heap_alloc _ _ _ (by simp)]; exact heap_alloc_new w _
  have C1 : w0.heap[w.heap.size + 1]? = some (.cells #[.int .i64 x0, .int .i64 x1, .int .i64 x2, .int .i64 x3] 27 (0, 0)) := by
    rw [← hw0]
    have := heap_alloc_new (w.alloc (.cells #[.int .i64 op, .int .i64 0, .slice (some ⟨g, off, none⟩) 2 cap] 68)) (.cells #[.int .i64 x0, .int .i64 x1, .int .i64 x2, .int .i64 x3] 27)
    simpa using this
  have HW0 : Hid ((w.alloc (.cells #[.int .i64 op, .int .i64 0, .slice (some ⟨g, off, none⟩) 2 cap] 68)).alloc (.cells #[.int .i64 x0, .int .i64 x1, .int .i64 x2, .int .i64 x3] 27) = w0) := hw0
  have HQ : Hid (w.cell? ⟨g, off, none⟩ = some (.int .i64 ok) ∧ w.cell? ⟨g, off + 1, none⟩ = some (.int .i64 mk') ∧ w.cell? ⟨g, off + 2, none⟩ = some (.slice au nk cu)) := ⟨by simpa using q0, by simpa using q1, by simpa using q2⟩
  have HP : Hid (w.cell? ⟨g, off + 3, none⟩ = some (.int .i64 ol) ∧ w.cell? ⟨g, off + 4, none⟩ = some (.int .i64 ml) ∧ w.cell? ⟨g, off + 5, none⟩ = some (.slice al nl cl)) := ⟨by simpa using p0, by simpa using p1, by simpa using p2⟩
  have HG : Hid (g < w.heap.size) := hg
  have HC0 : Hid _ := C0
  have HC1 : Hid _ := C1
  have c0 : w0.cell? ⟨w.heap.size, 2, none⟩ = some (.slice (some ⟨g, off, none⟩) 2 cap) := by simp [World.cell?, C0]
  have d0 : w0.cell? ⟨w.heap.size + 1, 0, none⟩ = some (.int .i64 x0) := by simp [World.cell?, C1]
  have d1 : w0.cell? ⟨w.heap.size + 1, 1, none⟩ = some (.int .i64 x1) := by simp [World.cell?, C1]
  have d2 : w0.cell? ⟨w.heap.size + 1, 2, none⟩ = some (.int .i64 x2) := by simp [World.cell?, C1]
  have d3 : w0.cell? ⟨w.heap.size + 1, 3, none⟩ = some (.int .i64 x3) := by simp [World.cell?, C1]
  have k0 : w0.cell? ⟨g, off, none⟩ = some (.int .i64 ok) := by rw [A0.out.cell (p := ⟨g, off, none⟩) hg]; exact HQ.out.1
  have k1 : w0.cell? ⟨g, off + 1, none⟩ = some (.int .i64 mk') := by rw [A0.out.cell (p := ⟨g, off + 1, none⟩) hg]; exact HQ.out.2.1
  have k2 : w0.cell? ⟨g, off + 2, none⟩ = some (.slice au nk cu) := by rw [A0.out.cell (p := ⟨g, off + 2, none⟩) hg]; exact HQ.out.2.2
  clear hT q0 q1 q2 q3 p0 p1 p2 p3 hg hg' hw0 hva hvb hok hol hmk hml hnk hnl C0 C1 hk hl tk tl ik il hN
  subst hop
  go_enter Tryz.func106, Tryz.ntmps106
  go_wp2
  rw [HW0.out]
  clear HW0
  go_region_with (first | (go_at_call 106; refine Calls.mono (CK.out _ (by first | exact A0.out | exact A0.out.drew | exact Tk.below_drewN A0.out _) (by first | exact Below.refl _ _ | exact (Below.refl _ w0).drew | exact Tk.below_drewN (Below.refl _ w0) _)) ?_; rintro e W3 ⟨rfl, b3, c3⟩) | fail)
  all_goals
    have B3 : Hid (Below w.heap.size w W3) := b3
    have D3 : Hid (Below w0.heap.size w0 W3) := c3
    have S0 : w.heap.size + 1 < w0.heap.size := (Array.getElem?_eq_some_iff.1 HC1.out).1
    have C3 : W3.heap[w.heap.size]? = some (.cells #[.int .i64 13, .int .i64 0, .slice (some ⟨g, off, none⟩) 2 cap] 68 (0, 0)) := by rw [c3.block _ (by omega)]; exact HC0.out
    have E3 : W3.heap[w.heap.size + 1]? = some (.cells #[.int .i64 x0, .int .i64 x1, .int .i64 x2, .int .i64 x3] 27 (0, 0)) := by rw [c3.block _ S0]; exact HC1.out
    have c0' : W3.cell? ⟨w.heap.size, 2, none⟩ = some (.slice (some ⟨g, off, none⟩) 2 cap) := by simp [World.cell?, C3]
    have d0' : W3.cell? ⟨w.heap.size + 1, 0, none⟩ = some (.int .i64 x0) := by simp [World.cell?, E3]
    have d1' : W3.cell? ⟨w.heap.size + 1, 1, none⟩ = some (.int .i64 x1) := by simp [World.cell?, E3]
    have d2' : W3.cell? ⟨w.heap.size + 1, 2, none⟩ = some (.int .i64 x2) := by simp [World.cell?, E3]
    have d3' : W3.cell? ⟨w.heap.size + 1, 3, none⟩ = some (.int .i64 x3) := by simp [World.cell?, E3]
    have l0 : W3.cell? ⟨g, off + 3, none⟩ = some (.int .i64 ol) := by rw [b3.cell (p := ⟨g, off + 3, none⟩) HG.out]; exact HP.out.1
    have l1 : W3.cell? ⟨g, off + 4, none⟩ = some (.int .i64 ml) := by rw [b3.cell (p := ⟨g, off + 4, none⟩) HG.out]; exact HP.out.2.1
    have l2 : W3.cell? ⟨g, off + 5, none⟩ = some (.slice al nl cl) := by rw [b3.cell (p := ⟨g, off + 5, none⟩) HG.out]; exact HP.out.2.2
    have o0' : W3.cell? ⟨w.heap.size, 0, none⟩ = some (.int .i64 13) := by simp [World.cell?, C3]
    clear b3 c3 C3 E3 S0 c0 d0 d1 d2 d3 k0 k1 k2
    by_cases ha : a3 = 0
    · subst ha
      cases ab
      · go_wp2
        go_ret2
        exact ⟨Tk.ret_bi (by simp [Tk.junctR]) (by simp [Tk.junctR]), B3.out⟩
      · go_wp2
        go_region_with (first | (go_at_call 106; refine Calls.mono (CL.out _ (by first | exact B3.out | exact B3.out.drew | exact Tk.below_drewN B3.out _) (by first | exact D3.out | exact D3.out.drew | exact Tk.below_drewN D3.out _)) ?_; rintro e W4 ⟨rfl, b4, c4⟩) | fail)
        all_goals
          have B4 : Hid (Below w.heap.size w W4) := b4
          clear b4 c4
          go_wp2
          go_ret2
          exact ⟨Tk.ret_bi (by simp [Tk.junctR]) (by simp [Tk.junctR]), B4.out⟩
    · have hne : (a3 != 0) = true := by simpa using ha
      have HF3 : Hid (¬ a3 = 0) := ha
      clear ha
      go_wp2
      go_ret2
      exact ⟨Tk.ret_bi (by simp [Tk.junctR, HF3.out]) (by simp [Tk.junctR, HF3.out]), B3.out⟩

end Go.Proofs

namespace Go.Proofs
open Go.RowKit

set_option maxHeartbeats 4000000 in
theorem Tryz.tru_or (x0 x1 x2 x3 : Int) (d : Nat) (hN : Tk.TruOk x0 x1 x2 x3 d) (op : Int) (hop : op = 14) (k l : Tm) (v : Value) (w : World) (hT : Tm.Lies w w.heap.size (d + 1) v (.mk op 0 [k, l])) (hk : k.allForm = true) (hl : l.allForm = true)
    (tk : k.typedB = true) (tl : l.typedB = true) (ik : Tm.isOf k.op = 2) (il : Tm.isOf l.op = 2) :
    Calls Tryz.prog 106 #[.agg #[.int .i64 op, .int .i64 0, v], .agg #[.int .i64 x0, .int .i64 x1, .int .i64 x2, .int .i64 x3]] w fun e w' =>
      e = .returned (.tuple #[.bool (Tk.junctR op (k.val (Tk.vget x0 x1 x2 x3)) (l.val (Tk.vget x0 x1 x2 x3))).1, .int .i64 (Tk.junctR op (k.val (Tk.vget x0 x1 x2 x3)) (l.val (Tk.vget x0 x1 x2 x3))).2]) ∧ Below w.heap.size w w' := by
  obtain ⟨a, cap, rfl⟩ := hT.shape
  obtain ⟨g, off, u, rfl, hg, q0, q1, q2, q3⟩ := hT.kid 0 (by simp [Tm.ks])
  obtain ⟨g', off', u', e', hg', p0, p1, p2, p3⟩ := hT.kid 1 (by simp [Tm.ks])
  simp only [Option.some.injEq, Addr.mk.injEq, and_true] at e'
  obtain ⟨rfl, rfl⟩ := e'
  simp only [Tm.ks, List.getElem_cons_zero, List.getElem_cons_succ, List.length_cons, List.length_nil] at *
  obtain ⟨au, cu, rfl⟩ := q3.shape
  obtain ⟨al, cl, rfl⟩ := p3.shape
  obtain ⟨nk, hnk⟩ : ∃ n, k.ks.length = n := ⟨_, rfl⟩
  obtain ⟨nl, hnl⟩ : ∃ n, l.ks.length = n := ⟨_, rfl⟩
  obtain ⟨ok, hok⟩ : ∃ n, k.op = n := ⟨_, rfl⟩
  obtain ⟨ol, hol⟩ : ∃ n, l.op = n := ⟨_, rfl⟩
  obtain ⟨mk', hmk⟩ : ∃ n, k.num = n := ⟨_, rfl⟩
  obtain ⟨ml, hml⟩ : ∃ n, l.num = n := ⟨_, rfl⟩
  obtain ⟨va, hva⟩ : ∃ n, k.val (Tk.vget x0 x1 x2 x3) = n := ⟨_, rfl⟩
  obtain ⟨vb, hvb⟩ : ∃ n, l.val (Tk.vget x0 x1 x2 x3) = n := ⟨_, rfl⟩
  rw [hnk] at q2 q3
  rw [hnl] at p2 p3
  rw [hok] at q0
  rw [hmk] at q1
  rw [hol] at p0
  rw [hml] at p1
  rw [hva, hvb]
  obtain ⟨w0, hw0⟩ : ∃ w0, (w.alloc (.cells #[.int .i64 op, .int .i64 0, .slice (some ⟨g, off, none⟩) 2 cap] 68)).alloc (.cells #[.int .i64 x0, .int .i64 x1, .int .i64 x2, .int .i64 x3] 27) = w0 := ⟨_, rfl⟩
  have A0 : Hid (Below w.heap.size w w0) := by show Below _ _ _; rw [← hw0]; exact ((Below.refl _ w).alloc (Nat.le_refl _) _).alloc (by simp) _
  have CK : Hid (∀ W, Below w.heap.size w W → Below w0.heap.size w0 W → Calls Tryz.prog 106 #[.agg #[.int .i64 ok, .int .i64 mk', .slice au nk cu], .agg #[.int .i64 x0, .int .i64 x1, .int .i64 x2, .int .i64 x3]] W fun e w' => e = .returned (.tuple #[.bool va.2.1, .int .i64 va.2.2]) ∧ Below w.heap.size w w' ∧ Below w0.heap.size w0 w') := by
    intro W hW hW0
    have := hN k (.slice au nk cu) W ((q3.below hW).wider hW.size) hk tk ik
    rw [hok, hmk, hva] at this
    exact this.mono fun e w' ⟨he, hb⟩ => ⟨he, hW.trans (hb.mono hW.size), hW0.trans (hb.mono hW0.size)⟩
  have CL : Hid (∀ W, Below w.heap.size w W → Below w0.heap.size w0 W → Calls Tryz.prog 106 #[.agg #[.int .i64 ol, .int .i64 ml, .slice al nl cl], .agg #[.int .i64 x0, .int .i64 x1, .int .i64 x2, .int .i64 x3]] W fun e w' => e = .returned (.tuple #[.bool vb.2.1, .int .i64 vb.2.2]) ∧ Below w.heap.size w w' ∧ Below w0.heap.size w0 w') := by
    intro W hW hW0
    have := hN l (.slice al nl cl) W ((p3.below hW).wider hW.size) hl tl il
    rw [hol, hml, hvb] at this
    exact this.mono fun e w' ⟨he, hb⟩ => ⟨he, hW.trans (hb.mono hW.size), hW0.trans (hb.mono hW0.size)⟩
  obtain ⟨a1, ab, a3⟩ := va
  obtain ⟨f1, fb, f3⟩ := vb
  have C0 : w0.heap[w.heap.size]? = some (.cells #[.int .i64 op, .int .i64 0, .slice (some ⟨g, off, none⟩) 2 cap] 68 (0, 0)) := by
    rw [← hw0, Below.heap_alloc _ _ _ (by simp)]; exact heap_alloc_new w _
  have C1 : w0.heap[w.heap.size + 1]? = some (.cells #[.int .i64 x0, .int .i64 x1, .int .i64 x2, .int .i64 x3] 27 (0, 0)) := by
    rw [← hw0]
    have := heap_alloc_new (w.alloc (.cells #[.int .i64 op, .int .i64 0, .slice (some ⟨g, off, none⟩) 2 cap] 68)) (.cells #[.int .i64 x0, .int .i64 x1, .int .i64 x2, .int .i64 x3] 27)
    simpa using this
  have HW0 : Hid ((w.alloc (.cells #[.int .i64 op, .int .i64 0, .slice (some ⟨g, off, none⟩) 2 cap] 68)).alloc (.cells #[.int .i64 x0, .int .i64 x1, .int .i64 x2, .int .i64 x3] 27) = w0) := hw0
  have HQ : Hid (w.cell? ⟨g, off, none⟩ = some (.int .i64 ok) ∧ w.cell? ⟨g, off + 1, none⟩ = some (.int .i64 mk') ∧ w.cell? ⟨g, off + 2, none⟩ = some (.slice au nk cu)) := ⟨by simpa using q0, by simpa using q1, by simpa using q2⟩
  have HP : Hid (w.cell? ⟨g, off + 3, none⟩ = some (.int .i64 ol) ∧ w.cell? ⟨g, off + 4, none⟩ = some (.int .i64 ml) ∧ w.cell? ⟨g, off + 5, none⟩ = some (.slice al nl cl)) := ⟨by simpa using p0, by simpa using p1, by simpa using p2⟩
  have HG : Hid (g < w.heap.size) := hg
  have HC0 : Hid _ := C0
  have HC1 : Hid _ := C1
  have c0 : w0.cell? ⟨w.heap.size, 2, none⟩ = some (.slice (some ⟨g, off, none⟩) 2 cap) := by simp [World.cell?, C0]
  have d0 : w0.cell? ⟨w.heap.size + 1, 0, none⟩ = some (.int .i64 x0) := by simp [World.cell?, C1]
  have d1 : w0.cell? ⟨w.heap.size + 1, 1, none⟩ = some (.int .i64 x1) := by simp [World.cell?, C1]
  have d2 : w0.cell? ⟨w.heap.size + 1, 2, none⟩ = some (.int .i64 x2) := by simp [World.cell?, C1]
  have d3 : w0.cell? ⟨w.heap.size + 1, 3, none⟩ = some (.int .i64 x3) := by simp [World.cell?, C1]
  have k0 : w0.cell? ⟨g, off, none⟩ = some (.int .i64 ok) := by rw [A0.out.cell (p := ⟨g, off, none⟩) hg]; exact HQ.out.1
  have k1 : w0.cell? ⟨g, off + 1, none⟩ = some (.int .i64 mk') := by rw [A0.out.cell (p := ⟨g, off + 1, none⟩) hg]; exact HQ.out.2.1
  have k2 : w0.cell? ⟨g, off + 2, none⟩ = some (.slice au nk cu) := by rw [A0.out.cell (p := ⟨g, off + 2, none⟩) hg]; exact HQ.out.2.2
  clear hT q0 q1 q2 q3 p0 p1 p2 p3 hg hg' hw0 hva hvb hok hol hmk hml hnk hnl C0 C1 hk hl tk tl ik il hN
  subst hop
  go_enter Tryz.func106, Tryz.ntmps106
  go_wp2
  rw [HW0.out]
  clear HW0
  go_region_with (first | (go_at_call 106; refine Calls.mono (CK.out _ (by first | exact A0.out | exact A0.out.drew | exact Tk.below_drewN A0.out _) (by first | exact Below.refl _ _ | exact (Below.refl _ w0).drew | exact Tk.below_drewN (Below.refl _ w0) _)) ?_; rintro e W3 ⟨rfl, b3, c3⟩) | fail)
  all_goals
    have B3 : Hid (Below w.heap.size w W3) := b3
    have D3 : Hid (Below w0.heap.size w0 W3) := c3
    have S0 : w.heap.size + 1 < w0.heap.size := (Array.getElem?_eq_some_iff.1 HC1.out).1
    have C3 : W3.heap[w.heap.size]? = some (.cells #[.int .i64 14, .int .i64 0, .slice (some ⟨g, off, none⟩) 2 cap] 68 (0, 0)) := by rw [c3.block _ (by omega)]; exact HC0.out
    have E3 : W3.heap[w.heap.size + 1]? = some (.cells #[.int .i64 x0, .int .i64 x1, .int .i64 x2, .int .i64 x3] 27 (0, 0)) := by rw [c3.block _ S0]; exact HC1.out
    have c0' : W3.cell? ⟨w.heap.size, 2, none⟩ = some (.slice (some ⟨g, off, none⟩) 2 cap) := by simp [World.cell?, C3]
    have d0' : W3.cell? ⟨w.heap.size + 1, 0, none⟩ = some (.int .i64 x0) := by simp [World.cell?, E3]
    have d1' : W3.cell? ⟨w.heap.size + 1, 1, none⟩ = some (.int .i64 x1) := by simp [World.cell?, E3]
    have d2' : W3.cell? ⟨w.heap.size + 1, 2, none⟩ = some (.int .i64 x2) := by simp [World.cell?, E3]
    have d3' : W3.cell? ⟨w.heap.size + 1, 3, none⟩ = some (.int .i64 x3) := by simp [World.cell?, E3]
    have l0 : W3.cell? ⟨g, off + 3, none⟩ = some (.int .i64 ol) := by rw [b3.cell (p := ⟨g, off + 3, none⟩) HG.out]; exact HP.out.1
    have l1 : W3.cell? ⟨g, off + 4, none⟩ = some (.int .i64 ml) := by rw [b3.cell (p := ⟨g, off + 4, none⟩) HG.out]; exact HP.out.2.1
    have l2 : W3.cell? ⟨g, off + 5, none⟩ = some (.slice al nl cl) := by rw [b3.cell (p := ⟨g, off + 5, none⟩) HG.out]; exact HP.out.2.2
    have o0' : W3.cell? ⟨w.heap.size, 0, none⟩ = some (.int .i64 14) := by simp [World.cell?, C3]
    clear b3 c3 C3 E3 S0 c0 d0 d1 d2 d3 k0 k1 k2
    by_cases ha : a3 = 0
    · subst ha
      cases ab
      · go_wp2
        go_region_with (first | (go_at_call 106; refine Calls.mono (CL.out _ (by first | exact B3.out | exact B3.out.drew | exact Tk.below_drewN B3.out _) (by first | exact D3.out | exact D3.out.drew | exact Tk.below_drewN D3.out _)) ?_; rintro e W4 ⟨rfl, b4, c4⟩) | fail)
        all_goals
          have B4 : Hid (Below w.heap.size w W4) := b4
          clear b4 c4
          go_wp2
          go_ret2
          exact ⟨Tk.ret_bi (by simp [Tk.junctR]) (by simp [Tk.junctR]), B4.out⟩
      · go_wp2
        go_ret2
        exact ⟨Tk.ret_bi (by simp [Tk.junctR]) (by simp [Tk.junctR]), B3.out⟩
    · have hne : (a3 != 0) = true := by simpa using ha
      have HF3 : Hid (¬ a3 = 0) := ha
      clear ha
      go_wp2
      go_ret2
      exact ⟨Tk.ret_bi (by simp [Tk.junctR, HF3.out]) (by simp [Tk.junctR, HF3.out]), B3.out⟩

end Go.Proofs

namespace Go.Proofs
open Go.RowKit

/-- truth answers right of right terms of whatever depth. -/
theorem Tryz.truth_any (x0 x1 x2 x3 : Int) (hx : Tk.fitsB x0 x1 x2 x3 = true) : ∀ d, Tk.TruOk x0 x1 x2 x3 d := by
  intro d
  induction d with
  | zero => intro T v w h; exact h.elim
  | succ d ih =>
    intro T v w hT hF hY hi
    have hgood : ∀ k : Tm, k.allForm = true → k.typedB = true → Tm.isOf k.op = 2 → Tm.Good 2 (k.val (Tk.vget x0 x1 x2 x3)) := fun k h1 h2 h3 => by
      have := Tm.good_val _ (Tk.vget_num hx) k.depth k (Nat.le_refl _) h1 h2
      rw [h3] at this
      exact this
    rcases Tm.right_cases hF with ⟨n, rfl, h1, h2⟩ | ⟨n, rfl, h1, h2⟩ | ⟨op, k, rfl, ho, hk⟩ | ⟨op, k, l, rfl, o1, o2, hk, hl⟩
    · simp [Tm.isOf, Tm.op] at hi
    · simp [Tm.isOf, Tm.op] at hi
    · obtain ⟨t1, t2⟩ := Tm.typed_mk1 hY
      obtain rfl : op = 4 := by
        rcases ho with h | h
        · subst h; simp [Tm.isOf, Tm.op] at hi
        · exact h
      have ik : Tm.isOf k.op = 2 := by rw [t1]; simp [Tm.askedOf]
      have g := hgood k hk t2 ik
      refine (Tryz.tru_not x0 x1 x2 x3 d ih k v w hT hk t2 ik).mono fun e w' ⟨he, hb⟩ => ⟨?_, hb⟩
      rw [he]
      simp only [Tm.val, Tm.vals, Tm.valOf]
      generalize k.val (Tk.vget x0 x1 x2 x3) = va at g
      by_cases hf : va.2.2 = 0
      · simp [hf]
      · simp [hf]
    · obtain ⟨⟨t1, t2⟩, t3, t4⟩ := Tm.typed_mk2 hY
      have o10 : 10 ≤ op := by
        rcases Int.lt_or_le op 10 with h | h
        · have h2 : Tm.isOf (Tm.mk op 0 [k, l]).op = 1 := by
            unfold Tm.isOf
            rw [if_neg (by show ¬ (op = 4 ∨ 10 ≤ op); omega)]
          rw [h2] at hi
          omega
        · exact h
      by_cases h13 : 13 ≤ op
      · have e1 : Tm.askedOf op = 2 := by unfold Tm.askedOf; rw [if_neg (by omega), if_pos (.inr h13)]
        have ik : Tm.isOf k.op = 2 := t1.trans e1
        have il : Tm.isOf l.op = 2 := t3.trans e1
        have g := hgood k hk t2 ik
        have hj : Calls Tryz.prog 106 #[.agg #[.int .i64 op, .int .i64 0, v], .agg #[.int .i64 x0, .int .i64 x1, .int .i64 x2, .int .i64 x3]] w fun e w' =>
            e = .returned (.tuple #[.bool (Tk.junctR op (k.val (Tk.vget x0 x1 x2 x3)) (l.val (Tk.vget x0 x1 x2 x3))).1, .int .i64 (Tk.junctR op (k.val (Tk.vget x0 x1 x2 x3)) (l.val (Tk.vget x0 x1 x2 x3))).2]) ∧ Below w.heap.size w w' := by
          by_cases h14 : op = 14
          · exact Tryz.tru_or x0 x1 x2 x3 d ih op h14 k l v w hT hk hl t2 t4 ik il
          · exact Tryz.tru_and x0 x1 x2 x3 d ih op (by omega) k l v w hT hk hl t2 t4 ik il
        refine hj.mono fun e w' ⟨he, hb⟩ => ⟨?_, hb⟩
        rw [he]
        simp only [Tm.val, Tm.vals, Tm.valOf]
        generalize k.val (Tk.vget x0 x1 x2 x3) = va at g
        generalize l.val (Tk.vget x0 x1 x2 x3) = vb
        rw [if_neg (show ¬ op = 1 by omega), if_neg (show ¬ op = 2 by omega), if_neg (show ¬ op = 3 by omega), if_neg (show ¬ op = 4 by omega)]
        unfold Tk.junctR
        obtain ⟨a1, ab, a3⟩ := va
        by_cases hf : a3 = 0
        · subst hf
          obtain rfl | rfl : op = 13 ∨ op = 14 := by omega
          · cases ab <;> simp
          · cases ab <;> simp
        · have := (g.2.2.1 hf).2
          simp only at this
          simp [hf, this]
      · have e1 : Tm.askedOf op = 1 := by unfold Tm.askedOf; rw [if_neg (by omega), if_neg (by omega)]
        have ik : Tm.isOf k.op = 1 := t1.trans e1
        have il : Tm.isOf l.op = 1 := t3.trans e1
        refine Tryz.tru_cmp x0 x1 x2 x3 d (Tryz.number_any x0 x1 x2 x3 hx d) op k l v w o10 (by omega) hT hk hl t2 t4 ik il ((Tm.val (Tk.vget x0 x1 x2 x3) (.mk op 0 [k, l])).2.1, (Tm.val (Tk.vget x0 x1 x2 x3) (.mk op 0 [k, l])).2.2) ?_
        simp only [Tm.val, Tm.vals, Tm.valOf]
        generalize k.val (Tk.vget x0 x1 x2 x3) = va
        generalize l.val (Tk.vget x0 x1 x2 x3) = vb
        rw [if_neg (show ¬ op = 1 by omega), if_neg (show ¬ op = 2 by omega), if_neg (show ¬ op = 3 by omega), if_neg (show ¬ op = 4 by omega), if_neg (show ¬ op = 13 by omega), if_neg (show ¬ op = 14 by omega)]
        unfold Tk.bothR Tk.sumR
        rw [if_pos (show 10 ≤ op by omega)]
        by_cases hf : va.2.2 = 0
        · by_cases hg : vb.2.2 = 0
          · simp [hf, hg]
          · simp [hf, hg]
        · simp [hf]

end Go.Proofs
