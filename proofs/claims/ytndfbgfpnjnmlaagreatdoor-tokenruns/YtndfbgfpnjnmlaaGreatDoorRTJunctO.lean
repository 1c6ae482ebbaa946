import Derived.Test.YtndfbgfpnjnmlaaGreatDoorRTJunct
namespace Go.Proofs
open Go.RowKit
set_option maxHeartbeats 4000000 in
theorem Tryz.tru_or (x0 x1 x2 x3 : Int) (d : Nat) (hN : Tk.TruOk x0 x1 x2 x3 d) (op : Int) (hop : op = 14) (k l : Tm) (v : Value) (w : World) (hT : Tm.Lies w w.heap.size (d + 1) v (.mk op 0 [k, l])) (hk : k.allForm = true) (hl : l.allForm = true)
  (tk : k.typedB = true) (tl : l.typedB = true) (ik : Tm.isOf k.op = 2) (il : Tm.isOf l.op = 2) :
  Calls Tryz.prog 106 #[.agg #[.int .i64 op, .int .i64 0, v], .agg #[.int .i64 x0, .int .i64 x1, .int .i64 x2, .int .i64 x3]] w fun e w' =>
   e = .returned (.tuple #[.bool (Tk.junctR op (k.val (Tk.vget x0 x1 x2 x3)) (l.val (Tk.vget x0 x1 x2 x3))).1, .int .i64 (Tk.junctR op (k.val (Tk.vget x0 x1 x2 x3)) (l.val (Tk.vget x0 x1 x2 x3))).2]) ∧ Below w.heap.size w w' := by
 obtain ⟨a, cap, rfl⟩ := hT.shape
 obtain ⟨g, off, u, rfl, hg, q0, q1, q2, q3⟩ := hT.kid 0 (by simp [Tm.ks])
 obtain ⟨g', off', u', e', hg', p0, p1, p2, p3⟩ := hT.kid 1 (by simp [Tm.ks])
 simp only [Option.some.injEq, Addr.mk.injEq, and_true] at e'
 obtain ⟨rfl, rfl⟩ := e'
 simp only [Tm.ks, List.getElem_cons_zero, List.getElem_cons_succ, List.length_cons, List.length_nil] at *
 obtain ⟨au, cu, rfl⟩ := q3.shape
 obtain ⟨al, cl, rfl⟩ := p3.shape
 obtain ⟨nk, hnk⟩ : ∃ n, k.ks.length = n := ⟨_, rfl⟩
 obtain ⟨nl, hnl⟩ : ∃ n, l.ks.length = n := ⟨_, rfl⟩
 obtain ⟨ok, hok⟩ : ∃ n, k.op = n := ⟨_, rfl⟩
 obtain ⟨ol, hol⟩ : ∃ n, l.op = n := ⟨_, rfl⟩
 obtain ⟨mk', hmk⟩ : ∃ n, k.num = n := ⟨_, rfl⟩
 obtain ⟨ml, hml⟩ : ∃ n, l.num = n := ⟨_, rfl⟩
 obtain ⟨va, hva⟩ : ∃ n, k.val (Tk.vget x0 x1 x2 x3) = n := ⟨_, rfl⟩
 obtain ⟨vb, hvb⟩ : ∃ n, l.val (Tk.vget x0 x1 x2 x3) = n := ⟨_, rfl⟩
 rw [hnk] at q2 q3
 rw [hnl] at p2 p3
 rw [hok] at q0
 rw [hmk] at q1
 rw [hol] at p0
 rw [hml] at p1
 rw [hva, hvb]
 obtain ⟨w0, hw0⟩ : ∃ w0, (w.alloc (.cells #[.int .i64 op, .int .i64 0, .slice (some ⟨g, off, none⟩) 2 cap] 68)).alloc (.cells #[.int .i64 x0, .int .i64 x1, .int .i64 x2, .int .i64 x3] 27) = w0 := ⟨_, rfl⟩
 have A0 : Hid (Below w.heap.size w w0) := by show Below _ _ _; rw [← hw0]; exact ((Below.refl _ w).alloc (Nat.le_refl _) _).alloc (by simp) _
 have CK : Hid (∀ W, Below w.heap.size w W → Below w0.heap.size w0 W → Calls Tryz.prog 106 #[.agg #[.int .i64 ok, .int .i64 mk', .slice au nk cu], .agg #[.int .i64 x0, .int .i64 x1, .int .i64 x2, .int .i64 x3]] W fun e w' => e = .returned (.tuple #[.bool va.2.1, .int .i64 va.2.2]) ∧ Below w.heap.size w w' ∧ Below w0.heap.size w0 w') := by
  intro W hW hW0
  have := hN k (.slice au nk cu) W ((q3.below hW).wider hW.size) hk tk ik
  rw [hok, hmk, hva] at this
  exact this.mono fun e w' ⟨he, hb⟩ => ⟨he, hW.trans (hb.mono hW.size), hW0.trans (hb.mono hW0.size)⟩
 have CL : Hid (∀ W, Below w.heap.size w W → Below w0.heap.size w0 W → Calls Tryz.prog 106 #[.agg #[.int .i64 ol, .int .i64 ml, .slice al nl cl], .agg #[.int .i64 x0, .int .i64 x1, .int .i64 x2, .int .i64 x3]] W fun e w' => e = .returned (.tuple #[.bool vb.2.1, .int .i64 vb.2.2]) ∧ Below w.heap.size w w' ∧ Below w0.heap.size w0 w') := by
  intro W hW hW0
  have := hN l (.slice al nl cl) W ((p3.below hW).wider hW.size) hl tl il
  rw [hol, hml, hvb] at this
  exact this.mono fun e w' ⟨he, hb⟩ => ⟨he, hW.trans (hb.mono hW.size), hW0.trans (hb.mono hW0.size)⟩
 obtain ⟨a1, ab, a3⟩ := va
 obtain ⟨f1, fb, f3⟩ := vb
 have C0 : w0.heap[w.heap.size]? = some (.cells #[.int .i64 op, .int .i64 0, .slice (some ⟨g, off, none⟩) 2 cap] 68 (0, 0)) := by
  rw [← hw0, Below.heap_alloc _ _ _ (by simp)]; exact heap_alloc_new w _
 have C1 : w0.heap[w.heap.size + 1]? = some (.cells #[.int .i64 x0, .int .i64 x1, .int .i64 x2, .int .i64 x3] 27 (0, 0)) := by
  rw [← hw0]
  have := heap_alloc_new (w.alloc (.cells #[.int .i64 op, .int .i64 0, .slice (some ⟨g, off, none⟩) 2 cap] 68)) (.cells #[.int .i64 x0, .int .i64 x1, .int .i64 x2, .int .i64 x3] 27)
  simpa using this
 have HW0 : Hid ((w.alloc (.cells #[.int .i64 op, .int .i64 0, .slice (some ⟨g, off, none⟩) 2 cap] 68)).alloc (.cells #[.int .i64 x0, .int .i64 x1, .int .i64 x2, .int .i64 x3] 27) = w0) := hw0
 have HQ : Hid (w.cell? ⟨g, off, none⟩ = some (.int .i64 ok) ∧ w.cell? ⟨g, off + 1, none⟩ = some (.int .i64 mk') ∧ w.cell? ⟨g, off + 2, none⟩ = some (.slice au nk cu)) := ⟨by simpa using q0, by simpa using q1, by simpa using q2⟩
 have HP : Hid (w.cell? ⟨g, off + 3, none⟩ = some (.int .i64 ol) ∧ w.cell? ⟨g, off + 4, none⟩ = some (.int .i64 ml) ∧ w.cell? ⟨g, off + 5, none⟩ = some (.slice al nl cl)) := ⟨by simpa using p0, by simpa using p1, by simpa using p2⟩
 have HG : Hid (g < w.heap.size) := hg
 have HC0 : Hid _ := C0
 have HC1 : Hid _ := C1
 have c0 : w0.cell? ⟨w.heap.size, 2, none⟩ = some (.slice (some ⟨g, off, none⟩) 2 cap) := by simp [World.cell?, C0]
 have d0 : w0.cell? ⟨w.heap.size + 1, 0, none⟩ = some (.int .i64 x0) := by simp [World.cell?, C1]
 have d1 : w0.cell? ⟨w.heap.size + 1, 1, none⟩ = some (.int .i64 x1) := by simp [World.cell?, C1]
 have d2 : w0.cell? ⟨w.heap.size + 1, 2, none⟩ = some (.int .i64 x2) := by simp [World.cell?, C1]
 have d3 : w0.cell? ⟨w.heap.size + 1, 3, none⟩ = some (.int .i64 x3) := by simp [World.cell?, C1]
 have k0 : w0.cell? ⟨g, off, none⟩ = some (.int .i64 ok) := by rw [A0.out.cell (p := ⟨g, off, none⟩) hg]; exact HQ.out.1
 have k1 : w0.cell? ⟨g, off + 1, none⟩ = some (.int .i64 mk') := by rw [A0.out.cell (p := ⟨g, off + 1, none⟩) hg]; exact HQ.out.2.1
 have k2 : w0.cell? ⟨g, off + 2, none⟩ = some (.slice au nk cu) := by rw [A0.out.cell (p := ⟨g, off + 2, none⟩) hg]; exact HQ.out.2.2
 clear hT q0 q1 q2 q3 p0 p1 p2 p3 hg hg' hw0 hva hvb hok hol hmk hml hnk hnl C0 C1 hk hl tk tl ik il hN
 subst hop
 go_enter Tryz.func106, Tryz.ntmps106
 go_wp2
 rw [HW0.out]
 clear HW0
 go_region_with (first | (go_at_call 106; refine Calls.mono (CK.out _ (by first | exact A0.out | exact A0.out.drew | exact Tk.below_drewN A0.out _) (by first | exact Below.refl _ _ | exact (Below.refl _ w0).drew | exact Tk.below_drewN (Below.refl _ w0) _)) ?_; rintro e W3 ⟨rfl, b3, c3⟩) | fail)
 all_goals
  have B3 : Hid (Below w.heap.size w W3) := b3
  have D3 : Hid (Below w0.heap.size w0 W3) := c3
  have S0 : w.heap.size + 1 < w0.heap.size := (Array.getElem?_eq_some_iff.1 HC1.out).1
  have C3 : W3.heap[w.heap.size]? = some (.cells #[.int .i64 14, .int .i64 0, .slice (some ⟨g, off, none⟩) 2 cap] 68 (0, 0)) := by rw [c3.block _ (by omega)]; exact HC0.out
  have E3 : W3.heap[w.heap.size + 1]? = some (.cells #[.int .i64 x0, .int .i64 x1, .int .i64 x2, .int .i64 x3] 27 (0, 0)) := by rw [c3.block _ S0]; exact HC1.out
  have c0' : W3.cell? ⟨w.heap.size, 2, none⟩ = some (.slice (some ⟨g, off, none⟩) 2 cap) := by simp [World.cell?, C3]
  have d0' : W3.cell? ⟨w.heap.size + 1, 0, none⟩ = some (.int .i64 x0) := by simp [World.cell?, E3]
  have d1' : W3.cell? ⟨w.heap.size + 1, 1, none⟩ = some (.int .i64 x1) := by simp [World.cell?, E3]
  have d2' : W3.cell? ⟨w.heap.size + 1, 2, none⟩ = some (.int .i64 x2) := by simp [World.cell?, E3]
  have d3' : W3.cell? ⟨w.heap.size + 1, 3, none⟩ = some (.int .i64 x3) := by simp [World.cell?, E3]
  have l0 : W3.cell? ⟨g, off + 3, none⟩ = some (.int .i64 ol) := by rw [b3.cell (p := ⟨g, off + 3, none⟩) HG.out]; exact HP.out.1
  have l1 : W3.cell? ⟨g, off + 4, none⟩ = some (.int .i64 ml) := by rw [b3.cell (p := ⟨g, off + 4, none⟩) HG.out]; exact HP.out.2.1
  have l2 : W3.cell? ⟨g, off + 5, none⟩ = some (.slice al nl cl) := by rw [b3.cell (p := ⟨g, off + 5, none⟩) HG.out]; exact HP.out.2.2
  have o0' : W3.cell? ⟨w.heap.size, 0, none⟩ = some (.int .i64 14) := by simp [World.cell?, C3]
  clear b3 c3 C3 E3 S0 c0 d0 d1 d2 d3 k0 k1 k2
  by_cases ha : a3 = 0
  ·subst ha
   cases ab
   ·go_wp2
    go_region_with (first | (go_at_call 106; refine Calls.mono (CL.out _ (by first | exact B3.out | exact B3.out.drew | exact Tk.below_drewN B3.out _) (by first | exact D3.out | exact D3.out.drew | exact Tk.below_drewN D3.out _)) ?_; rintro e W4 ⟨rfl, b4, c4⟩) | fail)
    all_goals
     have B4 : Hid (Below w.heap.size w W4) := b4
     clear b4 c4
     go_wp2
     go_ret2
     exact ⟨Tk.ret_bi (by simp [Tk.junctR]) (by simp [Tk.junctR]), B4.out⟩
   ·go_wp2
    go_ret2
    exact ⟨Tk.ret_bi (by simp [Tk.junctR]) (by simp [Tk.junctR]), B3.out⟩
  ·have hne : (a3 != 0) = true := by simpa using ha
   have HF3 : Hid (¬ a3 = 0) := ha
   clear ha
   go_wp2
   go_ret2
   exact ⟨Tk.ret_bi (by simp [Tk.junctR, HF3.out]) (by simp [Tk.junctR, HF3.out]), B3.out⟩
end Go.Proofs
namespace Go.Proofs
open Go.RowKit
theorem Tryz.truth_any (x0 x1 x2 x3 : Int) (hx : Tk.fitsB x0 x1 x2 x3 = true) : ∀ d, Tk.TruOk x0 x1 x2 x3 d := by
 intro d
 induction d with
 | zero => intro T v w h; exact h.elim
 | succ d ih =>
   intro T v w hT hF hY hi
   have hgood : ∀ k : Tm, k.allForm = true → k.typedB = true → Tm.isOf k.op = 2 → Tm.Good 2 (k.val (Tk.vget x0 x1 x2 x3)) := fun k h1 h2 h3 => by
    have := Tm.good_val _ (Tk.vget_num hx) k.depth k (Nat.le_refl _) h1 h2
    rw [h3] at this
    exact this
   rcases Tm.right_cases hF with ⟨n, rfl, h1, h2⟩ | ⟨n, rfl, h1, h2⟩ | ⟨op, k, rfl, ho, hk⟩ | ⟨op, k, l, rfl, o1, o2, hk, hl⟩
   ·simp [Tm.isOf, Tm.op] at hi
   ·simp [Tm.isOf, Tm.op] at hi
   ·obtain ⟨t1, t2⟩ := Tm.typed_mk1 hY
    obtain rfl : op = 4 := by
     rcases ho with h | h
     ·subst h; simp [Tm.isOf, Tm.op] at hi
     ·exact h
    have ik : Tm.isOf k.op = 2 := by rw [t1]; simp [Tm.askedOf]
    have g := hgood k hk t2 ik
    refine (Tryz.tru_not x0 x1 x2 x3 d ih k v w hT hk t2 ik).mono fun e w' ⟨he, hb⟩ => ⟨?_, hb⟩
    rw [he]
    simp only [Tm.val, Tm.vals, Tm.valOf]
    generalize k.val (Tk.vget x0 x1 x2 x3) = va at g
    by_cases hf : va.2.2 = 0
    ·simp [hf]
    ·simp [hf]
   ·obtain ⟨⟨t1, t2⟩, t3, t4⟩ := Tm.typed_mk2 hY
    have o10 : 10 ≤ op := by
     rcases Int.lt_or_le op 10 with h | h
     ·have h2 : Tm.isOf (Tm.mk op 0 [k, l]).op = 1 := by
       unfold Tm.isOf
       rw [if_neg (by show ¬ (op = 4 ∨ 10 ≤ op); omega)]
      rw [h2] at hi
      omega
     ·exact h
    by_cases h13 : 13 ≤ op
    ·have e1 : Tm.askedOf op = 2 := by unfold Tm.askedOf; rw [if_neg (by omega), if_pos (.inr h13)]
     have ik : Tm.isOf k.op = 2 := t1.trans e1
     have il : Tm.isOf l.op = 2 := t3.trans e1
     have g := hgood k hk t2 ik
     have hj : Calls Tryz.prog 106 #[.agg #[.int .i64 op, .int .i64 0, v], .agg #[.int .i64 x0, .int .i64 x1, .int .i64 x2, .int .i64 x3]] w fun e w' =>
       e = .returned (.tuple #[.bool (Tk.junctR op (k.val (Tk.vget x0 x1 x2 x3)) (l.val (Tk.vget x0 x1 x2 x3))).1, .int .i64 (Tk.junctR op (k.val (Tk.vget x0 x1 x2 x3)) (l.val (Tk.vget x0 x1 x2 x3))).2]) ∧ Below w.heap.size w w' := by
      by_cases h14 : op = 14
      ·exact Tryz.tru_or x0 x1 x2 x3 d ih op h14 k l v w hT hk hl t2 t4 ik il
      ·exact Tryz.tru_and x0 x1 x2 x3 d ih op (by omega) k l v w hT hk hl t2 t4 ik il
     refine hj.mono fun e w' ⟨he, hb⟩ => ⟨?_, hb⟩
     rw [he]
     simp only [Tm.val, Tm.vals, Tm.valOf]
     generalize k.val (Tk.vget x0 x1 x2 x3) = va at g
     generalize l.val (Tk.vget x0 x1 x2 x3) = vb
     rw [if_neg (show ¬ op = 1 by omega), if_neg (show ¬ op = 2 by omega), if_neg (show ¬ op = 3 by omega), if_neg (show ¬ op = 4 by omega)]
     unfold Tk.junctR
     obtain ⟨a1, ab, a3⟩ := va
     by_cases hf : a3 = 0
     ·subst hf
      obtain rfl | rfl : op = 13 ∨ op = 14 := by omega
      ·cases ab <;> simp
      ·cases ab <;> simp
     ·have := (g.2.2.1 hf).2
      simp only at this
      simp [hf, this]
    ·have e1 : Tm.askedOf op = 1 := by unfold Tm.askedOf; rw [if_neg (by omega), if_neg (by omega)]
     have ik : Tm.isOf k.op = 1 := t1.trans e1
     have il : Tm.isOf l.op = 1 := t3.trans e1
     refine Tryz.tru_cmp x0 x1 x2 x3 d (Tryz.number_any x0 x1 x2 x3 hx d) op k l v w o10 (by omega) hT hk hl t2 t4 ik il ((Tm.val (Tk.vget x0 x1 x2 x3) (.mk op 0 [k, l])).2.1, (Tm.val (Tk.vget x0 x1 x2 x3) (.mk op 0 [k, l])).2.2) ?_
     simp only [Tm.val, Tm.vals, Tm.valOf]
     generalize k.val (Tk.vget x0 x1 x2 x3) = va
     generalize l.val (Tk.vget x0 x1 x2 x3) = vb
     rw [if_neg (show ¬ op = 1 by omega), if_neg (show ¬ op = 2 by omega), if_neg (show ¬ op = 3 by omega), if_neg (show ¬ op = 4 by omega), if_neg (show ¬ op = 13 by omega), if_neg (show ¬ op = 14 by omega)]
     unfold Tk.bothR Tk.sumR
     rw [if_pos (show 10 ≤ op by omega)]
     by_cases hf : va.2.2 = 0
     ·by_cases hg : vb.2.2 = 0
      ·simp [hf, hg]
      ·simp [hf, hg]
     ·simp [hf]
end Go.Proofs
namespace Go.Proofs
open Go.RowKit
def Tm.askR (T : Tm) (t : Int) (fits : Bool) : Int := if T.checkR.2 ≠ 0 then T.checkR.2 else if T.checkR.1 ≠ t then 30 else if fits = false then 1 else 0
set_option maxHeartbeats 4000000 in
theorem Tryz.ask_any (d : Nat) (T : Tm) (v : Value) (t : Int) (x0 x1 x2 x3 : Int) (w : World) (hT : Tm.Lies w w.heap.size d v T) (hO : Tk.Ops w) (hsz : T.size ≤ 2147483647) :
  Calls Tryz.prog 97 #[.agg #[.int .i64 T.op, .int .i64 T.num, v], .int .i64 t, .agg #[.int .i64 x0, .int .i64 x1, .int .i64 x2, .int .i64 x3]] w fun e w' => e = .returned (.int .i64 (T.askR t (Tk.fitsB x0 x1 x2 x3))) ∧ Below w.heap.size w w' := by
 obtain ⟨a, cap, rfl⟩ := hT.shape
 obtain ⟨o, ho⟩ : ∃ o, T.op = o := ⟨_, rfl⟩
 obtain ⟨m, hm⟩ : ∃ m, T.num = m := ⟨_, rfl⟩
 obtain ⟨n, hn⟩ : ∃ n, T.ks.length = n := ⟨_, rfl⟩
 rw [ho, hm, hn]
 rw [hn] at hT
 obtain ⟨w0, hw0⟩ : ∃ w0, (w.alloc (.cells #[.int .i64 o, .int .i64 m, .slice a n cap] 68)).alloc (.cells #[.int .i64 x0, .int .i64 x1, .int .i64 x2, .int .i64 x3] 27) = w0 := ⟨_, rfl⟩
 have A0 : Below w.heap.size w w0 := by rw [← hw0]; exact ((Below.refl _ w).alloc (Nat.le_refl _) _).alloc (by simp) _
 have C1 : w0.heap[w.heap.size + 1]? = some (.cells #[.int .i64 x0, .int .i64 x1, .int .i64 x2, .int .i64 x3] 27 (0, 0)) := by
  rw [← hw0]
  have := heap_alloc_new (w.alloc (.cells #[.int .i64 o, .int .i64 m, .slice a n cap] 68)) (.cells #[.int .i64 x0, .int .i64 x1, .int .i64 x2, .int .i64 x3] 27)
  simpa using this
 have h1 := Tryz.check_any d T (.slice a n cap) w0 ((hT.below A0).wider A0.size) (hO.below A0 hO.lt) hsz
 rw [ho, hm] at h1
 have HR : Hid (∀ f, T.askR t f = if T.checkR.2 ≠ 0 then T.checkR.2 else if T.checkR.1 ≠ t then 30 else if f = false then 1 else 0) := fun f => rfl
 obtain ⟨q, hq⟩ : ∃ q, T.checkR = q := ⟨_, rfl⟩
 rw [hq] at h1 HR
 obtain ⟨c1, c2⟩ := q
 have H1 : Hid _ := h1
 have HA : Hid (Below w.heap.size w w0) := A0
 have HC1 : Hid _ := C1
 have HW0 : Hid ((w.alloc (.cells #[.int .i64 o, .int .i64 m, .slice a n cap] 68)).alloc (.cells #[.int .i64 x0, .int .i64 x1, .int .i64 x2, .int .i64 x3] 27) = w0) := hw0
 have hu := Tryz.underlying27
 clear hw0 h1 hT hO ho hm A0 C1 hn hq
 go_enter Tryz.func97, Tryz.ntmps97
 go_wp2_with fail
 rw [HW0.out]
 refine Calls.mono H1.out ?_
 rintro e W1 ⟨rfl, b1⟩
 have B1 : Hid (Below w.heap.size w W1) := HA.out.trans (b1.mono HA.out.size)
 have hbx : W1.heap[w.heap.size + 1]? = some (.cells #[.int .i64 x0, .int .i64 x1, .int .i64 x2, .int .i64 x3] 27 (0, 0)) := by
  rw [b1.block _ (Array.getElem?_eq_some_iff.1 HC1.out).1]; exact HC1.out
 clear b1 H1 HW0
 by_cases h2 : c2 = 0
 ·subst h2
  by_cases h3 : c1 = t
  ·subst h3
   have e1 := hbx
   go_wp2_with (refine wpList_load_row rfl 27 _ rfl _ rfl 27 _ (0, 0) _ hbx hu rfl (by kernel_rfl) ?_)
   go_wp2_with fail
   refine Calls.mono (Tryz.fits_any x0 x1 x2 x3 _) ?_
   rintro e W2 ⟨rfl, b2⟩
   have B2 : Hid (Below w.heap.size w W2) := B1.out.trans (b2.mono B1.out.size)
   clear b2 hbx e1
   obtain ⟨fb, hfb⟩ : ∃ f, Tk.fitsB x0 x1 x2 x3 = f := ⟨_, rfl⟩
   have HX : Hid (T.askR c1 (Tk.fitsB x0 x1 x2 x3) = if fb = false then 1 else 0) := by show _ = _; rw [HR.out, hfb]; simp
   rw [hfb]
   clear HR hfb
   cases fb
   all_goals
    go_wp2
    go_ret
    exact ⟨by rw [HX.out]; rfl, B2.out⟩
  ·have hne : (c1 != t) = true := by simpa using h3
   have HX : Hid (T.askR t (Tk.fitsB x0 x1 x2 x3) = 30) := by show _ = _; rw [HR.out]; simp [h3]
   clear h3 HR
   go_wp2
   go_ret
   exact ⟨by rw [HX.out]; rfl, B1.out⟩
 ·have hne : (c2 != 0) = true := by simpa using h2
  have HX : Hid (T.askR t (Tk.fitsB x0 x1 x2 x3) = c2) := by show _ = _; rw [HR.out]; simp [h2]
  clear h2 HR
  go_wp2
  go_ret
  exact ⟨by rw [HX.out]; rfl, B1.out⟩
theorem Tm.ask_zero {T : Tm} {t : Int} {f : Bool} (h : T.askR t f = 0) : T.checkR = (t, 0) ∧ f = true := by
 unfold Tm.askR at h
 split at h
 ·contradiction
 ·rename_i h1
  split at h
  ·cases h
  ·rename_i h2
   split at h
   ·cases h
   ·rename_i h3
    have h1' : T.checkR.2 = 0 := by simpa using h1
    have h2' : T.checkR.1 = t := by simpa using h2
    exact ⟨Prod.ext h2' h1', by simpa using h3⟩
theorem Tm.check_ok {T : Tm} {t : Int} (h : T.checkR = (t, 0)) : ¬ 24 < T.depth ∧ T.allForm = true ∧ T.typedB = true ∧ Tm.isOf T.op = t := by
 unfold Tm.checkR at h
 split at h
 ·simp at h
 ·split at h
  ·simp at h
  ·split at h
   ·simp at h
   ·rename_i h1 h2 h3
    exact ⟨h1, by simpa using h2, by simpa using h3, by simpa using h⟩
def Tm.numR (T : Tm) (x0 x1 x2 x3 : Int) : Int × Int := if T.askR 1 (Tk.fitsB x0 x1 x2 x3) ≠ 0 then (0, T.askR 1 (Tk.fitsB x0 x1 x2 x3)) else ((T.val (Tk.vget x0 x1 x2 x3)).1, (T.val (Tk.vget x0 x1 x2 x3)).2.2)
set_option maxHeartbeats 4000000 in
theorem Tryz.numberW_any (d : Nat) (T : Tm) (v : Value) (x0 x1 x2 x3 : Int) (w : World) (hT : Tm.Lies w w.heap.size d v T) (hO : Tk.Ops w) (hsz : T.size ≤ 2147483647) :
  Calls Tryz.prog 83 #[.agg #[.int .i64 T.op, .int .i64 T.num, v], .agg #[.int .i64 x0, .int .i64 x1, .int .i64 x2, .int .i64 x3]] w fun e w' => e = .returned (.tuple #[.int .i64 (T.numR x0 x1 x2 x3).1, .int .i64 (T.numR x0 x1 x2 x3).2]) ∧ Below w.heap.size w w' := by
 obtain ⟨a, cap, rfl⟩ := hT.shape
 obtain ⟨o, ho⟩ : ∃ o, T.op = o := ⟨_, rfl⟩
 obtain ⟨m, hm⟩ : ∃ m, T.num = m := ⟨_, rfl⟩
 obtain ⟨n, hn⟩ : ∃ n, T.ks.length = n := ⟨_, rfl⟩
 rw [ho, hm, hn]
 rw [hn] at hT
 obtain ⟨w0, hw0⟩ : ∃ w0, (w.alloc (.cells #[.int .i64 o, .int .i64 m, .slice a n cap] 68)).alloc (.cells #[.int .i64 x0, .int .i64 x1, .int .i64 x2, .int .i64 x3] 27) = w0 := ⟨_, rfl⟩
 have A0 : Below w.heap.size w w0 := by rw [← hw0]; exact ((Below.refl _ w).alloc (Nat.le_refl _) _).alloc (by simp) _
 have C0 : w0.heap[w.heap.size]? = some (.cells #[.int .i64 o, .int .i64 m, .slice a n cap] 68 (0, 0)) := by rw [← hw0, Below.heap_alloc _ _ _ (by simp)]; exact heap_alloc_new w _
 have C1 : w0.heap[w.heap.size + 1]? = some (.cells #[.int .i64 x0, .int .i64 x1, .int .i64 x2, .int .i64 x3] 27 (0, 0)) := by
  rw [← hw0]
  have := heap_alloc_new (w.alloc (.cells #[.int .i64 o, .int .i64 m, .slice a n cap] 68)) (.cells #[.int .i64 x0, .int .i64 x1, .int .i64 x2, .int .i64 x3] 27)
  simpa using this
 have h1 := Tryz.ask_any d T (.slice a n cap) 1 x0 x1 x2 x3 w0 ((hT.below A0).wider A0.size) (hO.below A0 hO.lt) hsz
 have HR : Hid (T.numR x0 x1 x2 x3 = if T.askR 1 (Tk.fitsB x0 x1 x2 x3) ≠ 0 then (0, T.askR 1 (Tk.fitsB x0 x1 x2 x3)) else ((T.val (Tk.vget x0 x1 x2 x3)).1, (T.val (Tk.vget x0 x1 x2 x3)).2.2)) := rfl
 obtain ⟨r, hr⟩ : ∃ r, T.askR 1 (Tk.fitsB x0 x1 x2 x3) = r := ⟨_, rfl⟩
 rw [ho, hm, hr] at h1
 rw [hr] at HR
 have H1 : Hid _ := h1
 have HA : Hid (Below w.heap.size w w0) := A0
 have HC0 : Hid _ := C0
 have HC1 : Hid _ := C1
 have HM : Hid (T.op = o ∧ T.num = m ∧ T.askR 1 (Tk.fitsB x0 x1 x2 x3) = r) := ⟨ho, hm, hr⟩
 have HT : Hid (Tm.Lies w w.heap.size d (.slice a n cap) T) := hT
 have HW0 : Hid ((w.alloc (.cells #[.int .i64 o, .int .i64 m, .slice a n cap] 68)).alloc (.cells #[.int .i64 x0, .int .i64 x1, .int .i64 x2, .int .i64 x3] 27) = w0) := hw0
 have hu := Tryz.underlying27
 have hu2 := Tryz.underlying68
 clear hw0 h1 hT hO ho hm A0 C0 C1 hn hr
 go_enter Tryz.func83, Tryz.ntmps83
 go_wp2_with fail
 rw [HW0.out]
 refine Calls.mono H1.out ?_
 rintro e W1 ⟨rfl, b1⟩
 have B1 : Hid (Below w.heap.size w W1) := HA.out.trans (b1.mono HA.out.size)
 have hbx : W1.heap[w.heap.size + 1]? = some (.cells #[.int .i64 x0, .int .i64 x1, .int .i64 x2, .int .i64 x3] 27 (0, 0)) := by
  rw [b1.block _ (Array.getElem?_eq_some_iff.1 HC1.out).1]; exact HC1.out
 have hby : W1.heap[w.heap.size]? = some (.cells #[.int .i64 o, .int .i64 m, .slice a n cap] 68 (0, 0)) := by
  rw [b1.block _ (Array.getElem?_eq_some_iff.1 HC0.out).1]; exact HC0.out
 clear b1 H1 HW0
 by_cases h2 : r = 0
 ·subst h2
  obtain ⟨hc, hf⟩ := Tm.ask_zero HM.out.2.2
  obtain ⟨_, p2, p3, p4⟩ := Tm.check_ok hc
  have h3 := Tryz.number_any x0 x1 x2 x3 hf d T (.slice a n cap) W1 ((HT.out.below B1.out).wider B1.out.size) p2 p3 p4
  rw [HM.out.1, HM.out.2.1] at h3
  have H3 : Hid _ := h3
  have HX : Hid (T.numR x0 x1 x2 x3 = ((T.val (Tk.vget x0 x1 x2 x3)).1, (T.val (Tk.vget x0 x1 x2 x3)).2.2)) := by have := HR.out; show _ = _; simpa using this
  clear h3 hc hf p2 p3 p4 HR
  go_wp2_with (first | (refine wpList_load_row rfl 68 _ rfl _ rfl 68 _ (0, 0) _ hby hu2 rfl (by kernel_rfl) ?_) | (refine wpList_load_row rfl 27 _ rfl _ rfl 27 _ (0, 0) _ hbx hu rfl (by kernel_rfl) ?_))
  go_wp2_with fail
  refine Calls.mono H3.out ?_
  rintro e W2 ⟨rfl, b2⟩
  have B2 : Hid (Below w.heap.size w W2) := B1.out.trans (b2.mono B1.out.size)
  clear b2 hbx hby H3
  go_wp2
  go_ret2
  exact ⟨by rw [HX.out]; rfl, B2.out⟩
 ·have hne : (r != 0) = true := by simpa using h2
  have HX : Hid (T.numR x0 x1 x2 x3 = (0, r)) := by have := HR.out; show _ = _; simpa [h2] using this
  clear h2 HR
  go_wp2
  go_ret2
  exact ⟨by rw [HX.out]; rfl, B1.out⟩
end Go.Proofs
namespace Go.Proofs
open Go.RowKit
def Tm.truR (T : Tm) (x0 x1 x2 x3 : Int) : Bool × Int := if T.askR 2 (Tk.fitsB x0 x1 x2 x3) ≠ 0 then (false, T.askR 2 (Tk.fitsB x0 x1 x2 x3)) else ((T.val (Tk.vget x0 x1 x2 x3)).2.1, (T.val (Tk.vget x0 x1 x2 x3)).2.2)
set_option maxHeartbeats 4000000 in
theorem Tryz.truthW_any (d : Nat) (T : Tm) (v : Value) (x0 x1 x2 x3 : Int) (w : World) (hT : Tm.Lies w w.heap.size d v T) (hO : Tk.Ops w) (hsz : T.size ≤ 2147483647) :
  Calls Tryz.prog 99 #[.agg #[.int .i64 T.op, .int .i64 T.num, v], .agg #[.int .i64 x0, .int .i64 x1, .int .i64 x2, .int .i64 x3]] w fun e w' => e = .returned (.tuple #[.bool (T.truR x0 x1 x2 x3).1, .int .i64 (T.truR x0 x1 x2 x3).2]) ∧ Below w.heap.size w w' := by
 obtain ⟨a, cap, rfl⟩ := hT.shape
 obtain ⟨o, ho⟩ : ∃ o, T.op = o := ⟨_, rfl⟩
 obtain ⟨m, hm⟩ : ∃ m, T.num = m := ⟨_, rfl⟩
 obtain ⟨n, hn⟩ : ∃ n, T.ks.length = n := ⟨_, rfl⟩
 rw [ho, hm, hn]
 rw [hn] at hT
 obtain ⟨w0, hw0⟩ : ∃ w0, (w.alloc (.cells #[.int .i64 o, .int .i64 m, .slice a n cap] 68)).alloc (.cells #[.int .i64 x0, .int .i64 x1, .int .i64 x2, .int .i64 x3] 27) = w0 := ⟨_, rfl⟩
 have A0 : Below w.heap.size w w0 := by rw [← hw0]; exact ((Below.refl _ w).alloc (Nat.le_refl _) _).alloc (by simp) _
 have C0 : w0.heap[w.heap.size]? = some (.cells #[.int .i64 o, .int .i64 m, .slice a n cap] 68 (0, 0)) := by rw [← hw0, Below.heap_alloc _ _ _ (by simp)]; exact heap_alloc_new w _
 have C1 : w0.heap[w.heap.size + 1]? = some (.cells #[.int .i64 x0, .int .i64 x1, .int .i64 x2, .int .i64 x3] 27 (0, 0)) := by
  rw [← hw0]
  have := heap_alloc_new (w.alloc (.cells #[.int .i64 o, .int .i64 m, .slice a n cap] 68)) (.cells #[.int .i64 x0, .int .i64 x1, .int .i64 x2, .int .i64 x3] 27)
  simpa using this
 have h1 := Tryz.ask_any d T (.slice a n cap) 2 x0 x1 x2 x3 w0 ((hT.below A0).wider A0.size) (hO.below A0 hO.lt) hsz
 have HR : Hid (T.truR x0 x1 x2 x3 = if T.askR 2 (Tk.fitsB x0 x1 x2 x3) ≠ 0 then (false, T.askR 2 (Tk.fitsB x0 x1 x2 x3)) else ((T.val (Tk.vget x0 x1 x2 x3)).2.1, (T.val (Tk.vget x0 x1 x2 x3)).2.2)) := rfl
 obtain ⟨r, hr⟩ : ∃ r, T.askR 2 (Tk.fitsB x0 x1 x2 x3) = r := ⟨_, rfl⟩
 rw [ho, hm, hr] at h1
 rw [hr] at HR
 have H1 : Hid _ := h1
 have HA : Hid (Below w.heap.size w w0) := A0
 have HC0 : Hid _ := C0
 have HC1 : Hid _ := C1
 have HM : Hid (T.op = o ∧ T.num = m ∧ T.askR 2 (Tk.fitsB x0 x1 x2 x3) = r) := ⟨ho, hm, hr⟩
 have HT : Hid (Tm.Lies w w.heap.size d (.slice a n cap) T) := hT
 have HW0 : Hid ((w.alloc (.cells #[.int .i64 o, .int .i64 m, .slice a n cap] 68)).alloc (.cells #[.int .i64 x0, .int .i64 x1, .int .i64 x2, .int .i64 x3] 27) = w0) := hw0
 have hu := Tryz.underlying27
 have hu2 := Tryz.underlying68
 clear hw0 h1 hT hO ho hm A0 C0 C1 hn hr
 go_enter Tryz.func99, Tryz.ntmps99
 go_wp2_with fail
 rw [HW0.out]
 refine Calls.mono H1.out ?_
 rintro e W1 ⟨rfl, b1⟩
 have B1 : Hid (Below w.heap.size w W1) := HA.out.trans (b1.mono HA.out.size)
 have hbx : W1.heap[w.heap.size + 1]? = some (.cells #[.int .i64 x0, .int .i64 x1, .int .i64 x2, .int .i64 x3] 27 (0, 0)) := by
  rw [b1.block _ (Array.getElem?_eq_some_iff.1 HC1.out).1]; exact HC1.out
 have hby : W1.heap[w.heap.size]? = some (.cells #[.int .i64 o, .int .i64 m, .slice a n cap] 68 (0, 0)) := by
  rw [b1.block _ (Array.getElem?_eq_some_iff.1 HC0.out).1]; exact HC0.out
 clear b1 H1 HW0
 by_cases h2 : r = 0
 ·subst h2
  obtain ⟨hc, hf⟩ := Tm.ask_zero HM.out.2.2
  obtain ⟨_, p2, p3, p4⟩ := Tm.check_ok hc
  have h3 := Tryz.truth_any x0 x1 x2 x3 hf d T (.slice a n cap) W1 ((HT.out.below B1.out).wider B1.out.size) p2 p3 p4
  rw [HM.out.1, HM.out.2.1] at h3
  have H3 : Hid _ := h3
  have HX : Hid (T.truR x0 x1 x2 x3 = ((T.val (Tk.vget x0 x1 x2 x3)).2.1, (T.val (Tk.vget x0 x1 x2 x3)).2.2)) := by have := HR.out; show _ = _; simpa using this
  clear h3 hc hf p2 p3 p4 HR
  go_wp2_with (first | (refine wpList_load_row rfl 68 _ rfl _ rfl 68 _ (0, 0) _ hby hu2 rfl (by kernel_rfl) ?_) | (refine wpList_load_row rfl 27 _ rfl _ rfl 27 _ (0, 0) _ hbx hu rfl (by kernel_rfl) ?_))
  go_wp2_with fail
  refine Calls.mono H3.out ?_
  rintro e W2 ⟨rfl, b2⟩
  have B2 : Hid (Below w.heap.size w W2) := B1.out.trans (b2.mono B1.out.size)
  clear b2 hbx hby H3
  go_wp2
  go_ret2
  exact ⟨by rw [HX.out]; rfl, B2.out⟩
 ·have hne : (r != 0) = true := by simpa using h2
  have HX : Hid (T.truR x0 x1 x2 x3 = (false, r)) := by have := HR.out; show _ = _; simpa [h2] using this
  clear h2 HR
  go_wp2
  go_ret2
  exact ⟨by rw [HX.out]; rfl, B1.out⟩
end Go.Proofs
