import Derived.Test.YtndfbgfpnjnmlaaGreatDoorRTSmall
namespace Go.Proofs
open Go.RowKit
def Tk.vget (x0 x1 x2 x3 n : Int) : Int := if n = 0 then x0 else if n = 1 then x1 else if n = 2 then x2 else x3
namespace Tm
def valOf (x : Int → Int) (op n : Int) (l : List (Int × Bool × Int)) : Int × Bool × Int :=
 if op = 1 then (n, false, 0) else if op = 2 then (x n, false, 0) else
 match l with
 | [] => (0, false, 0)
 | a :: r => if a.2.2 ≠ 0 then (0, false, a.2.2) else if op = 3 then (-a.1, false, 0) else if op = 4 then (0, !a.2.1, 0) else
   match r with
   | [] => (0, false, 0)
   | b :: _ => if op = 13 then (if a.2.1 = false then a else b) else if op = 14 then (if a.2.1 = true then a else b) else if b.2.2 ≠ 0 then (0, false, b.2.2) else Tk.sumR op a.1 b.1
mutual
def val (x : Int → Int) : Tm → Int × Bool × Int | mk op n ks => valOf x op n (vals x ks)
def vals (x : Int → Int) : List Tm → List (Int × Bool × Int) | [] => [] | k :: r => val x k :: vals x r
end
def Good (t : Int) (r : Int × Bool × Int) : Prop :=
 Tk.isNum r.1 = true ∧ (r.2.2 = 0 ∨ r.2.2 = 40 ∨ r.2.2 = 41) ∧ (r.2.2 ≠ 0 → r.1 = 0 ∧ r.2.1 = false) ∧ (t = 2 → r.1 = 0) ∧ (t = 1 → r.2.1 = false)
theorem right_cases {T : Tm} (hF : T.allForm = true) :
   (∃ n, T = mk 1 n [] ∧ 0 ≤ n ∧ n ≤ 1099511627776) ∨ (∃ n, T = mk 2 n [] ∧ 0 ≤ n ∧ n ≤ 3) ∨ (∃ op k, T = mk op 0 [k] ∧ (op = 3 ∨ op = 4) ∧ k.allForm = true) ∨
   (∃ op k l, T = mk op 0 [k, l] ∧ 5 ≤ op ∧ op ≤ 14 ∧ k.allForm = true ∧ l.allForm = true) := by
 obtain ⟨h1, h2⟩ := formed_of_all hF
 cases T with
 | mk op n ks =>
   simp only [Tm.op, Tm.num, Tm.ks] at h1 h2
   simp only [formedB, decide_eq_true_eq] at h1
   obtain ⟨g1, g2, g3, g4, g5⟩ := h1
   by_cases c1 : op = 1
   ·subst c1
    obtain rfl : ks = [] := List.length_eq_zero_iff.1 (by simpa [kidsOf] using g3)
    exact .inl ⟨n, rfl, g4, by simpa [mostOf] using g5⟩
   by_cases c2 : op = 2
   ·subst c2
    obtain rfl : ks = [] := List.length_eq_zero_iff.1 (by simpa [kidsOf] using g3)
    exact .inr (.inl ⟨n, rfl, g4, by simpa [mostOf] using g5⟩)
   have hn : n = 0 := by
    unfold mostOf at g5
    rw [if_neg c1, if_neg c2] at g5
    omega
   subst hn
   by_cases c3 : op < 5
   ·have hl : ks.length = 1 := by rw [g3]; unfold kidsOf; rw [if_neg (by omega), if_pos c3]
    match ks, hl with
    | [k], _ =>
      simp only [allForms, Bool.and_true] at h2
      exact .inr (.inr (.inl ⟨op, k, rfl, by omega, h2⟩))
   ·have hl : ks.length = 2 := by rw [g3]; unfold kidsOf; rw [if_neg (by omega), if_neg c3]
    match ks, hl with
    | [k, l], _ =>
      simp only [allForms, Bool.and_true, Bool.and_eq_true] at h2
      exact .inr (.inr (.inr ⟨op, k, l, rfl, by omega, g2, h2.1, h2.2⟩))
theorem good_fit (n : Int) : Good 1 ((Tk.fitR n).1, false, (Tk.fitR n).2) := by
 unfold Tk.fitR
 split
 ·rename_i h; exact ⟨h, .inl rfl, fun h => absurd rfl h, by omega, fun _ => rfl⟩
 ·exact ⟨by simp [Tk.isNum], .inr (.inl rfl), fun _ => ⟨rfl, rfl⟩, by omega, fun _ => rfl⟩
theorem good_sum (op a b : Int) (ha : Tk.isNum a = true) : Good (isOf op) (Tk.sumR op a b) ∨ ¬ (5 ≤ op ∧ op ≤ 12) := by
  by_cases h : 5 ≤ op ∧ op ≤ 12
  · left
    unfold Tk.sumR
    by_cases h10 : 10 ≤ op
    · rw [if_pos h10]
      have : isOf op = 2 := by unfold isOf; rw [if_pos (.inr h10)]
      rw [this]
      exact ⟨by simp [Tk.isNum], .inl rfl, fun h => absurd rfl h, fun _ => rfl, by omega⟩
    · rw [if_neg h10]
      have : isOf op = 1 := by unfold isOf; rw [if_neg (by omega)]
      rw [this]
      unfold Tk.reckR Tk.mulR
      have hn := Tk.isNum_iff.1 ha
      split
      · exact good_fit _
      · split
        · exact good_fit _
        · split
          · exact good_fit _
          · split
            · exact ⟨by simp [Tk.isNum], .inr (.inr rfl), fun _ => ⟨rfl, rfl⟩, by omega, fun _ => rfl⟩
            · split
              · have := Tk.tdiv_le a b
                exact ⟨Tk.isNum_iff.2 (by show -1099511627776 ≤ a.tdiv b ∧ a.tdiv b ≤ 1099511627776; omega), .inl rfl, fun h => absurd rfl h, by omega, fun _ => rfl⟩
              · have h3 : (a.tmod b).natAbs ≤ a.natAbs := by rw [Int.natAbs_tmod]; exact Nat.mod_le _ _
                exact ⟨Tk.isNum_iff.2 (by show -1099511627776 ≤ a.tmod b ∧ a.tmod b ≤ 1099511627776; omega), .inl rfl, fun h => absurd rfl h, by omega, fun _ => rfl⟩
  · exact .inr h
theorem typed_mk1 {op n : Int} {k : Tm} (h : (mk op n [k]).typedB = true) : isOf k.op = askedOf op ∧ k.typedB = true := by
 simpa [typedB, typeds] using h
theorem typed_mk2 {op n : Int} {k l : Tm} (h : (mk op n [k, l]).typedB = true) : (isOf k.op = askedOf op ∧ k.typedB = true) ∧ (isOf l.op = askedOf op ∧ l.typedB = true) := by
 simpa [typedB, typeds] using h
theorem good_val (x : Int → Int) (hx : ∀ n, Tk.isNum (x n) = true) : ∀ (d : Nat) (T : Tm), T.depth ≤ d → T.allForm = true → T.typedB = true → Good (isOf T.op) (T.val x)
  | 0, T, hd, _, _ => by rw [T.depth_eq] at hd; omega
  | d + 1, T, hd, hF, hY => by
    rcases right_cases hF with ⟨n, rfl, h1, h2⟩ | ⟨n, rfl, h1, h2⟩ | ⟨op, k, rfl, ho, hk⟩ | ⟨op, k, l, rfl, o1, o2, hk, hl⟩
    · exact ⟨by simp [val, valOf, Tk.isNum]; omega, .inl rfl, fun h => absurd rfl h, by simp [isOf, Tm.op], fun _ => rfl⟩
    · exact ⟨by simpa [val, valOf] using hx n, .inl rfl, fun h => absurd rfl h, by simp [isOf, Tm.op], fun _ => rfl⟩
    · obtain ⟨t1, t2⟩ := typed_mk1 hY
      have hdk : k.depth ≤ d := by simp only [depth, depths] at hd; omega
      have g := good_val x hx d k hdk hk t2
      rw [t1] at g
      simp only [val, vals, valOf, Tm.op]
      generalize k.val x = a at g
      have c1 : ¬ op = 1 := by omega
      have c2 : ¬ op = 2 := by omega
      rw [if_neg c1, if_neg c2]
      by_cases hf : a.2.2 ≠ 0
      · rw [if_pos hf]
        exact ⟨by simp [Tk.isNum], g.2.1, fun _ => ⟨rfl, rfl⟩, fun _ => rfl, fun _ => rfl⟩
      · rw [if_neg hf]
        rcases ho with rfl | rfl
        · rw [if_pos rfl]
          have := Tk.isNum_iff.1 g.1
          exact ⟨Tk.isNum_iff.2 (by show -1099511627776 ≤ -a.1 ∧ -a.1 ≤ 1099511627776; omega), .inl rfl, fun h => absurd rfl h, by simp [isOf], fun _ => rfl⟩
        · rw [if_neg (by decide), if_pos rfl]
          exact ⟨by simp [Tk.isNum], .inl rfl, fun h => absurd rfl h, fun _ => rfl, by simp [isOf]⟩
    · obtain ⟨⟨t1, t2⟩, t3, t4⟩ := typed_mk2 hY
      have hdk : k.depth ≤ d ∧ l.depth ≤ d := by simp only [depth, depths] at hd; omega
      have g := good_val x hx d k hdk.1 hk t2
      have g' := good_val x hx d l hdk.2 hl t4
      rw [t1] at g
      rw [t3] at g'
      simp only [val, vals, valOf, Tm.op]
      generalize k.val x = a at g
      generalize l.val x = b at g'
      rw [if_neg (by omega), if_neg (by omega)]
      by_cases hf : a.2.2 ≠ 0
      · rw [if_pos hf]
        exact ⟨by simp [Tk.isNum], g.2.1, fun _ => ⟨rfl, rfl⟩, fun _ => rfl, fun _ => rfl⟩
      · rw [if_neg hf, if_neg (by omega), if_neg (by omega)]
        by_cases h13 : 13 ≤ op
        · have e1 : askedOf op = 2 := by unfold askedOf; rw [if_neg (by omega), if_pos (.inr h13)]
          have e2 : isOf op = 2 := by unfold isOf; rw [if_pos (.inr (by omega))]
          rw [e1] at g g'
          rw [e2]
          split
          · split
            · exact g
            · exact g'
          · rw [if_pos (by omega)]
            split
            · exact g
            · exact g'
        · rw [if_neg (by omega), if_neg (by omega)]
          by_cases hf' : b.2.2 ≠ 0
          · rw [if_pos hf']
            exact ⟨by simp [Tk.isNum], g'.2.1, fun _ => ⟨rfl, rfl⟩, fun _ => rfl, fun _ => rfl⟩
          · rw [if_neg hf']
            rcases good_sum op a.1 b.1 g.1 with h | h
            · exact h
            · exact absurd ⟨o1, by omega⟩ h
end Tm
theorem Tk.vget_num {x0 x1 x2 x3 : Int} (h : Tk.fitsB x0 x1 x2 x3 = true) (n : Int) : Tk.isNum (Tk.vget x0 x1 x2 x3 n) = true := by
 simp only [Tk.fitsB, Bool.and_eq_true] at h
 unfold Tk.vget
 split
 ·exact h.1.1.1
 ·split
  ·exact h.1.1.2
  ·split
   ·exact h.1.2
   ·exact h.2
end Go.Proofs
namespace Go.Proofs
open Go.RowKit
def Tk.NumOk (x0 x1 x2 x3 : Int) (d : Nat) : Prop := ∀ (T : Tm) (v : Value) (w : World), Tm.Lies w w.heap.size d v T → T.allForm = true → T.typedB = true → Tm.isOf T.op = 1 →
 Calls Tryz.prog 98 #[.agg #[.int .i64 T.op, .int .i64 T.num, v], .agg #[.int .i64 x0, .int .i64 x1, .int .i64 x2, .int .i64 x3]] w fun e w' =>
  e = .returned (.tuple #[.int .i64 (T.val (Tk.vget x0 x1 x2 x3)).1, .int .i64 (T.val (Tk.vget x0 x1 x2 x3)).2.2]) ∧ Below w.heap.size w w'
def Tk.bothR (a b : Int × Bool × Int) : Int × Int × Int := if a.2.2 ≠ 0 then (0, 0, a.2.2) else if b.2.2 ≠ 0 then (0, 0, b.2.2) else (a.1, b.1, 0)
set_option maxHeartbeats 4000000 in
theorem Tryz.both_step (x0 x1 x2 x3 : Int) (d : Nat) (hN : Tk.NumOk x0 x1 x2 x3 d) (op : Int) (k l : Tm) (v : Value) (w : World) (hT : Tm.Lies w w.heap.size (d + 1) v (.mk op 0 [k, l])) (hk : k.allForm = true) (hl : l.allForm = true)
  (tk : k.typedB = true) (tl : l.typedB = true) (ik : Tm.isOf k.op = 1) (il : Tm.isOf l.op = 1) :
  Calls Tryz.prog 104 #[.agg #[.int .i64 op, .int .i64 0, v], .agg #[.int .i64 x0, .int .i64 x1, .int .i64 x2, .int .i64 x3]] w fun e w' =>
   e = .returned (.tuple #[.int .i64 (Tk.bothR (k.val (Tk.vget x0 x1 x2 x3)) (l.val (Tk.vget x0 x1 x2 x3))).1, .int .i64 (Tk.bothR (k.val (Tk.vget x0 x1 x2 x3)) (l.val (Tk.vget x0 x1 x2 x3))).2.1, .int .i64 (Tk.bothR (k.val (Tk.vget x0 x1 x2 x3)) (l.val (Tk.vget x0 x1 x2 x3))).2.2]) ∧ Below w.heap.size w w' := by
 obtain ⟨a, cap, rfl⟩ := hT.shape
 obtain ⟨g, off, u, rfl, hg, q0, q1, q2, q3⟩ := hT.kid 0 (by simp [Tm.ks])
 obtain ⟨g', off', u', e', hg', p0, p1, p2, p3⟩ := hT.kid 1 (by simp [Tm.ks])
 simp only [Option.some.injEq, Addr.mk.injEq, and_true] at e'
 obtain ⟨rfl, rfl⟩ := e'
 simp only [Tm.ks, List.getElem_cons_zero, List.getElem_cons_succ, List.length_cons, List.length_nil] at *
 obtain ⟨au, cu, rfl⟩ := q3.shape
 obtain ⟨al, cl, rfl⟩ := p3.shape
 obtain ⟨nk, hnk⟩ : ∃ n, k.ks.length = n := ⟨_, rfl⟩
 obtain ⟨nl, hnl⟩ : ∃ n, l.ks.length = n := ⟨_, rfl⟩
 obtain ⟨ok, hok⟩ : ∃ n, k.op = n := ⟨_, rfl⟩
 obtain ⟨ol, hol⟩ : ∃ n, l.op = n := ⟨_, rfl⟩
 obtain ⟨mk', hmk⟩ : ∃ n, k.num = n := ⟨_, rfl⟩
 obtain ⟨ml, hml⟩ : ∃ n, l.num = n := ⟨_, rfl⟩
 obtain ⟨va, hva⟩ : ∃ n, k.val (Tk.vget x0 x1 x2 x3) = n := ⟨_, rfl⟩
 obtain ⟨vb, hvb⟩ : ∃ n, l.val (Tk.vget x0 x1 x2 x3) = n := ⟨_, rfl⟩
 rw [hnk] at q2 q3
 rw [hnl] at p2 p3
 rw [hok] at q0
 rw [hmk] at q1
 rw [hol] at p0
 rw [hml] at p1
 rw [hva, hvb]
 obtain ⟨w0, hw0⟩ : ∃ w0, (w.alloc (.cells #[.int .i64 op, .int .i64 0, .slice (some ⟨g, off, none⟩) 2 cap] 68)).alloc (.cells #[.int .i64 x0, .int .i64 x1, .int .i64 x2, .int .i64 x3] 27) = w0 := ⟨_, rfl⟩
 have A0 : Hid (Below w.heap.size w w0) := by show Below _ _ _; rw [← hw0]; exact ((Below.refl _ w).alloc (Nat.le_refl _) _).alloc (by simp) _
 have CK : Hid (∀ W, Below w.heap.size w W → Below w0.heap.size w0 W → Calls Tryz.prog 98 #[.agg #[.int .i64 ok, .int .i64 mk', .slice au nk cu], .agg #[.int .i64 x0, .int .i64 x1, .int .i64 x2, .int .i64 x3]] W fun e w' => e = .returned (.tuple #[.int .i64 va.1, .int .i64 va.2.2]) ∧ Below w.heap.size w w' ∧ Below w0.heap.size w0 w') := by
  intro W hW hW0
  have := hN k (.slice au nk cu) W ((q3.below hW).wider hW.size) hk tk ik
  rw [hok, hmk, hva] at this
  exact this.mono fun e w' ⟨he, hb⟩ => ⟨he, hW.trans (hb.mono hW.size), hW0.trans (hb.mono hW0.size)⟩
 have CL : Hid (∀ W, Below w.heap.size w W → Below w0.heap.size w0 W → Calls Tryz.prog 98 #[.agg #[.int .i64 ol, .int .i64 ml, .slice al nl cl], .agg #[.int .i64 x0, .int .i64 x1, .int .i64 x2, .int .i64 x3]] W fun e w' => e = .returned (.tuple #[.int .i64 vb.1, .int .i64 vb.2.2]) ∧ Below w.heap.size w w' ∧ Below w0.heap.size w0 w') := by
  intro W hW hW0
  have := hN l (.slice al nl cl) W ((p3.below hW).wider hW.size) hl tl il
  rw [hol, hml, hvb] at this
  exact this.mono fun e w' ⟨he, hb⟩ => ⟨he, hW.trans (hb.mono hW.size), hW0.trans (hb.mono hW0.size)⟩
 obtain ⟨a1, ab, a3⟩ := va
 obtain ⟨f1, fb, f3⟩ := vb
 have C0 : w0.heap[w.heap.size]? = some (.cells #[.int .i64 op, .int .i64 0, .slice (some ⟨g, off, none⟩) 2 cap] 68 (0, 0)) := by
  rw [← hw0, Below.heap_alloc _ _ _ (by simp)]; exact heap_alloc_new w _
 have C1 : w0.heap[w.heap.size + 1]? = some (.cells #[.int .i64 x0, .int .i64 x1, .int .i64 x2, .int .i64 x3] 27 (0, 0)) := by
  rw [← hw0]
  have := heap_alloc_new (w.alloc (.cells #[.int .i64 op, .int .i64 0, .slice (some ⟨g, off, none⟩) 2 cap] 68)) (.cells #[.int .i64 x0, .int .i64 x1, .int .i64 x2, .int .i64 x3] 27)
  simpa using this
 have HW0 : Hid ((w.alloc (.cells #[.int .i64 op, .int .i64 0, .slice (some ⟨g, off, none⟩) 2 cap] 68)).alloc (.cells #[.int .i64 x0, .int .i64 x1, .int .i64 x2, .int .i64 x3] 27) = w0) := hw0
 have HQ : Hid (w.cell? ⟨g, off, none⟩ = some (.int .i64 ok) ∧ w.cell? ⟨g, off + 1, none⟩ = some (.int .i64 mk') ∧ w.cell? ⟨g, off + 2, none⟩ = some (.slice au nk cu)) := ⟨by simpa using q0, by simpa using q1, by simpa using q2⟩
 have HP : Hid (w.cell? ⟨g, off + 3, none⟩ = some (.int .i64 ol) ∧ w.cell? ⟨g, off + 4, none⟩ = some (.int .i64 ml) ∧ w.cell? ⟨g, off + 5, none⟩ = some (.slice al nl cl)) := ⟨by simpa using p0, by simpa using p1, by simpa using p2⟩
 have HG : Hid (g < w.heap.size) := hg
 have HC0 : Hid _ := C0
 have HC1 : Hid _ := C1
 have c0 : w0.cell? ⟨w.heap.size, 2, none⟩ = some (.slice (some ⟨g, off, none⟩) 2 cap) := by simp [World.cell?, C0]
 have d0 : w0.cell? ⟨w.heap.size + 1, 0, none⟩ = some (.int .i64 x0) := by simp [World.cell?, C1]
 have d1 : w0.cell? ⟨w.heap.size + 1, 1, none⟩ = some (.int .i64 x1) := by simp [World.cell?, C1]
 have d2 : w0.cell? ⟨w.heap.size + 1, 2, none⟩ = some (.int .i64 x2) := by simp [World.cell?, C1]
 have d3 : w0.cell? ⟨w.heap.size + 1, 3, none⟩ = some (.int .i64 x3) := by simp [World.cell?, C1]
 have k0 : w0.cell? ⟨g, off, none⟩ = some (.int .i64 ok) := by rw [A0.out.cell (p := ⟨g, off, none⟩) hg]; exact HQ.out.1
 have k1 : w0.cell? ⟨g, off + 1, none⟩ = some (.int .i64 mk') := by rw [A0.out.cell (p := ⟨g, off + 1, none⟩) hg]; exact HQ.out.2.1
 have k2 : w0.cell? ⟨g, off + 2, none⟩ = some (.slice au nk cu) := by rw [A0.out.cell (p := ⟨g, off + 2, none⟩) hg]; exact HQ.out.2.2
 clear hT q0 q1 q2 q3 p0 p1 p2 p3 hg hg' hw0 hva hvb hok hol hmk hml hnk hnl C0 C1 hk hl tk tl ik il hN
 go_enter Tryz.func104, Tryz.ntmps104
 go_wp2
 rw [HW0.out]
 clear HW0
 go_region_with (first | (go_at_call 98; refine Calls.mono (CK.out _ (by first | exact A0.out | exact A0.out.drew | exact Tk.below_drewN A0.out _) (by first | exact Below.refl _ _ | exact (Below.refl _ w0).drew | exact Tk.below_drewN (Below.refl _ w0) _)) ?_; rintro e W3 ⟨rfl, b3, c3⟩) | fail)
 all_goals
  have B3 : Hid (Below w.heap.size w W3) := b3
  have D3 : Hid (Below w0.heap.size w0 W3) := c3
  have S0 : w.heap.size + 1 < w0.heap.size := (Array.getElem?_eq_some_iff.1 HC1.out).1
  have C3 : W3.heap[w.heap.size]? = some (.cells #[.int .i64 op, .int .i64 0, .slice (some ⟨g, off, none⟩) 2 cap] 68 (0, 0)) := by rw [c3.block _ (by omega)]; exact HC0.out
  have E3 : W3.heap[w.heap.size + 1]? = some (.cells #[.int .i64 x0, .int .i64 x1, .int .i64 x2, .int .i64 x3] 27 (0, 0)) := by rw [c3.block _ S0]; exact HC1.out
  have c0' : W3.cell? ⟨w.heap.size, 2, none⟩ = some (.slice (some ⟨g, off, none⟩) 2 cap) := by simp [World.cell?, C3]
  have d0' : W3.cell? ⟨w.heap.size + 1, 0, none⟩ = some (.int .i64 x0) := by simp [World.cell?, E3]
  have d1' : W3.cell? ⟨w.heap.size + 1, 1, none⟩ = some (.int .i64 x1) := by simp [World.cell?, E3]
  have d2' : W3.cell? ⟨w.heap.size + 1, 2, none⟩ = some (.int .i64 x2) := by simp [World.cell?, E3]
  have d3' : W3.cell? ⟨w.heap.size + 1, 3, none⟩ = some (.int .i64 x3) := by simp [World.cell?, E3]
  have l0 : W3.cell? ⟨g, off + 3, none⟩ = some (.int .i64 ol) := by rw [b3.cell (p := ⟨g, off + 3, none⟩) HG.out]; exact HP.out.1
  have l1 : W3.cell? ⟨g, off + 4, none⟩ = some (.int .i64 ml) := by rw [b3.cell (p := ⟨g, off + 4, none⟩) HG.out]; exact HP.out.2.1
  have l2 : W3.cell? ⟨g, off + 5, none⟩ = some (.slice al nl cl) := by rw [b3.cell (p := ⟨g, off + 5, none⟩) HG.out]; exact HP.out.2.2
  clear b3 c3 C3 E3 S0 c0 d0 d1 d2 d3 k0 k1 k2
  by_cases ha : a3 = 0
  ·subst ha
   go_wp2
   go_region_with (first | (go_at_call 98; refine Calls.mono (CL.out _ (by first | exact B3.out | exact B3.out.drew | exact Tk.below_drewN B3.out _) (by first | exact D3.out | exact D3.out.drew | exact Tk.below_drewN D3.out _)) ?_; rintro e W4 ⟨rfl, b4, c4⟩) | fail)
   all_goals
    have B4 : Hid (Below w.heap.size w W4) := b4
    clear b4 c4
    by_cases hf : f3 = 0
    ·subst hf
     go_wp2
     go_ret3
     exact ⟨by simp [Tk.bothR], B4.out⟩
    ·have hne : (f3 != 0) = true := by simpa using hf
     have HF3 : Hid (¬ f3 = 0) := hf
     clear hf
     go_wp2
     go_ret3
     exact ⟨by simp [Tk.bothR, HF3.out], B4.out⟩
  ·have hne : (a3 != 0) = true := by simpa using ha
   have HF3 : Hid (¬ a3 = 0) := ha
   clear ha
   go_wp2
   go_ret3
   exact ⟨by simp [Tk.bothR, HF3.out], B3.out⟩
end Go.Proofs
namespace Go.Proofs
open Go.RowKit
set_option maxHeartbeats 4000000 in
theorem Tryz.num_leaf1 (x0 x1 x2 x3 n : Int) (a : Option Addr) (len cap : Nat) (w : World) :
  Calls Tryz.prog 98 #[.agg #[.int .i64 1, .int .i64 n, .slice a len cap], .agg #[.int .i64 x0, .int .i64 x1, .int .i64 x2, .int .i64 x3]] w fun e w' => e = .returned (.tuple #[.int .i64 n, .int .i64 0]) ∧ Below w.heap.size w w' := by
 go_enter Tryz.func98, Tryz.ntmps98
 go_wp2
 go_ret2
 exact ⟨rfl, ((Below.refl _ w).alloc (Nat.le_refl _) _).alloc (by simp) _⟩
set_option maxHeartbeats 4000000 in
theorem Tryz.num_leaf2 (x0 x1 x2 x3 n : Int) (a : Option Addr) (len cap : Nat) (w : World) (h : 0 ≤ n ∧ n ≤ 3) :
  Calls Tryz.prog 98 #[.agg #[.int .i64 2, .int .i64 n, .slice a len cap], .agg #[.int .i64 x0, .int .i64 x1, .int .i64 x2, .int .i64 x3]] w fun e w' => e = .returned (.tuple #[.int .i64 (Tk.vget x0 x1 x2 x3 n), .int .i64 0]) ∧ Below w.heap.size w w' := by
 obtain rfl | rfl | rfl | rfl : n = 0 ∨ n = 1 ∨ n = 2 ∨ n = 3 := by omega
 all_goals
  go_enter Tryz.func98, Tryz.ntmps98
  go_wp2
  go_ret2
  exact ⟨by simp [Tk.vget], ((Below.refl _ w).alloc (Nat.le_refl _) _).alloc (by simp) _⟩
set_option maxHeartbeats 4000000 in
theorem Tryz.num_neg (x0 x1 x2 x3 : Int) (d : Nat) (hN : Tk.NumOk x0 x1 x2 x3 d) (k : Tm) (v : Value) (w : World) (hT : Tm.Lies w w.heap.size (d + 1) v (.mk 3 0 [k])) (hk : k.allForm = true)
  (tk : k.typedB = true) (ik : Tm.isOf k.op = 1) (hg : Tm.Good 1 (k.val (Tk.vget x0 x1 x2 x3))) :
  Calls Tryz.prog 98 #[.agg #[.int .i64 3, .int .i64 0, v], .agg #[.int .i64 x0, .int .i64 x1, .int .i64 x2, .int .i64 x3]] w fun e w' =>
   e = .returned (.tuple #[.int .i64 (-(k.val (Tk.vget x0 x1 x2 x3)).1), .int .i64 (k.val (Tk.vget x0 x1 x2 x3)).2.2]) ∧ Below w.heap.size w w' := by
 obtain ⟨a, cap, rfl⟩ := hT.shape
 obtain ⟨g, off, u, rfl, hg', q0, q1, q2, q3⟩ := hT.kid 0 (by simp [Tm.ks])
 simp only [Tm.ks, List.getElem_cons_zero, List.length_cons, List.length_nil] at *
 obtain ⟨au, cu, rfl⟩ := q3.shape
 obtain ⟨nk, hnk⟩ : ∃ n, k.ks.length = n := ⟨_, rfl⟩
 obtain ⟨ok, hok⟩ : ∃ n, k.op = n := ⟨_, rfl⟩
 obtain ⟨mk', hmk⟩ : ∃ n, k.num = n := ⟨_, rfl⟩
 obtain ⟨va, hva⟩ : ∃ n, k.val (Tk.vget x0 x1 x2 x3) = n := ⟨_, rfl⟩
 rw [hnk] at q2 q3
 rw [hok] at q0
 rw [hmk] at q1
 rw [hva]
 rw [hva] at hg
 have hb := Tk.isNum_iff.1 hg.1
 have CK : Hid (∀ W, Below w.heap.size w W → Calls Tryz.prog 98 #[.agg #[.int .i64 ok, .int .i64 mk', .slice au nk cu], .agg #[.int .i64 x0, .int .i64 x1, .int .i64 x2, .int .i64 x3]] W fun e w' => e = .returned (.tuple #[.int .i64 va.1, .int .i64 va.2.2]) ∧ Below w.heap.size w w') := by
  intro W hW
  have := hN k (.slice au nk cu) W ((q3.below hW).wider hW.size) hk tk ik
  rw [hok, hmk, hva] at this
  exact this.mono fun e w' ⟨he, hb⟩ => ⟨he, hW.trans (hb.mono hW.size)⟩
 obtain ⟨a1, ab, a3⟩ := va
 simp only at hb
 obtain ⟨b1, b2⟩ := hb
 have A0 : Hid (Below w.heap.size w ((w.alloc (.cells #[.int .i64 3, .int .i64 0, .slice (some ⟨g, off, none⟩) 1 cap] 68)).alloc (.cells #[.int .i64 x0, .int .i64 x1, .int .i64 x2, .int .i64 x3] 27))) := ((Below.refl _ w).alloc (Nat.le_refl _) _).alloc (by simp) _
 have hc : ∀ p, ((w.alloc (.cells #[.int .i64 3, .int .i64 0, .slice (some ⟨g, off, none⟩) 1 cap] 68)).alloc (.cells #[.int .i64 x0, .int .i64 x1, .int .i64 x2, .int .i64 x3] 27)).cell? ⟨g, p, none⟩ = w.cell? ⟨g, p, none⟩ := fun p => A0.out.cell (p := ⟨g, p, none⟩) hg'
 have k0 : ((w.alloc (.cells #[.int .i64 3, .int .i64 0, .slice (some ⟨g, off, none⟩) 1 cap] 68)).alloc (.cells #[.int .i64 x0, .int .i64 x1, .int .i64 x2, .int .i64 x3] 27)).cell? ⟨g, off, none⟩ = some (.int .i64 ok) := by rw [hc]; simpa using q0
 have k1 : ((w.alloc (.cells #[.int .i64 3, .int .i64 0, .slice (some ⟨g, off, none⟩) 1 cap] 68)).alloc (.cells #[.int .i64 x0, .int .i64 x1, .int .i64 x2, .int .i64 x3] 27)).cell? ⟨g, off + 1, none⟩ = some (.int .i64 mk') := by rw [hc]; simpa using q1
 have k2 : ((w.alloc (.cells #[.int .i64 3, .int .i64 0, .slice (some ⟨g, off, none⟩) 1 cap] 68)).alloc (.cells #[.int .i64 x0, .int .i64 x1, .int .i64 x2, .int .i64 x3] 27)).cell? ⟨g, off + 2, none⟩ = some (.slice au nk cu) := by rw [hc]; simpa using q2
 clear hT q0 q1 q2 q3 hg' hva hok hmk hnk hk tk ik hN hc hg
 go_enter Tryz.func98, Tryz.ntmps98
 go_wp2
 go_region_with (first | (go_at_call 98; refine Calls.mono (CK.out _ (by first | exact A0.out | exact A0.out.drew | exact Tk.below_drewN A0.out _)) ?_; rintro e W3 ⟨rfl, b3⟩) | fail)
 all_goals
  have B3 : Hid (Below w.heap.size w W3) := b3
  clear b3
  go_wp2
  go_ret2
  exact ⟨rfl, B3.out⟩
end Go.Proofs
namespace Go.Proofs
open Go.RowKit
set_option maxHeartbeats 4000000 in
theorem Tryz.num_two (x0 x1 x2 x3 : Int) (d : Nat) (hN : Tk.NumOk x0 x1 x2 x3 d) (op : Int) (k l : Tm) (v : Value) (w : World) (h5 : 5 ≤ op) (h9 : op ≤ 9) (hT : Tm.Lies w w.heap.size (d + 1) v (.mk op 0 [k, l])) (hk : k.allForm = true) (hl : l.allForm = true)
  (tk : k.typedB = true) (tl : l.typedB = true) (ik : Tm.isOf k.op = 1) (il : Tm.isOf l.op = 1) (gk : Tm.Good 1 (k.val (Tk.vget x0 x1 x2 x3))) (gl : Tm.Good 1 (l.val (Tk.vget x0 x1 x2 x3))) (r : Int × Int)
  (hr : r = if (Tk.bothR (k.val (Tk.vget x0 x1 x2 x3)) (l.val (Tk.vget x0 x1 x2 x3))).2.2 ≠ 0 then (0, (Tk.bothR (k.val (Tk.vget x0 x1 x2 x3)) (l.val (Tk.vget x0 x1 x2 x3))).2.2) else Tk.reckR op (Tk.bothR (k.val (Tk.vget x0 x1 x2 x3)) (l.val (Tk.vget x0 x1 x2 x3))).1 (Tk.bothR (k.val (Tk.vget x0 x1 x2 x3)) (l.val (Tk.vget x0 x1 x2 x3))).2.1) :
  Calls Tryz.prog 98 #[.agg #[.int .i64 op, .int .i64 0, v], .agg #[.int .i64 x0, .int .i64 x1, .int .i64 x2, .int .i64 x3]] w fun e w' => e = .returned (.tuple #[.int .i64 r.1, .int .i64 r.2]) ∧ Below w.heap.size w w' := by
 have hbn : Tk.isNum (Tk.bothR (k.val (Tk.vget x0 x1 x2 x3)) (l.val (Tk.vget x0 x1 x2 x3))).1 = true ∧ Tk.isNum (Tk.bothR (k.val (Tk.vget x0 x1 x2 x3)) (l.val (Tk.vget x0 x1 x2 x3))).2.1 = true := by
  unfold Tk.bothR
  split
  ·exact ⟨by simp [Tk.isNum], by simp [Tk.isNum]⟩
  ·split
   ·exact ⟨by simp [Tk.isNum], by simp [Tk.isNum]⟩
   ·exact ⟨gk.1, gl.1⟩
 obtain ⟨a, cap, rfl⟩ := hT.shape
 simp only [Tm.ks, List.length_cons, List.length_nil] at *
 have CB : Hid (∀ W, Below w.heap.size w W → _) := fun W (hW : Below w.heap.size w W) => Tryz.both_step x0 x1 x2 x3 d hN op k l (.slice a 2 cap) W ((hT.below hW).wider hW.size) hk hl tk tl ik il
 obtain ⟨q, hq⟩ : ∃ q, Tk.bothR (k.val (Tk.vget x0 x1 x2 x3)) (l.val (Tk.vget x0 x1 x2 x3)) = q := ⟨_, rfl⟩
 rw [hq] at hbn hr CB
 obtain ⟨c1, c2, c3⟩ := q
 have h1 := Tk.isNum_iff.1 hbn.1
 have h2 := Tk.isNum_iff.1 hbn.2
 simp only at h1 h2 hr
 obtain ⟨w0, hw0⟩ : ∃ w0, (w.alloc (.cells #[.int .i64 op, .int .i64 0, .slice a 2 cap] 68)).alloc (.cells #[.int .i64 x0, .int .i64 x1, .int .i64 x2, .int .i64 x3] 27) = w0 := ⟨_, rfl⟩
 have A0 : Hid (Below w.heap.size w w0) := by show Below _ _ _; rw [← hw0]; exact ((Below.refl _ w).alloc (Nat.le_refl _) _).alloc (by simp) _
 have C0 : Hid (w0.heap[w.heap.size]? = some (.cells #[.int .i64 op, .int .i64 0, .slice a 2 cap] 68 (0, 0))) := by
  show _ = _
  rw [← hw0, Below.heap_alloc _ _ _ (by simp)]; exact heap_alloc_new w _
 have HW0 : Hid ((w.alloc (.cells #[.int .i64 op, .int .i64 0, .slice a 2 cap] 68)).alloc (.cells #[.int .i64 x0, .int .i64 x1, .int .i64 x2, .int .i64 x3] 27) = w0) := hw0
 have HR : Hid (r = if c3 ≠ 0 then (0, c3) else Tk.reckR op c1 c2) := hr
 have HB : Hid (-1099511627776 ≤ c1 ∧ c1 ≤ 1099511627776 ∧ -1099511627776 ≤ c2 ∧ c2 ≤ 1099511627776) := ⟨h1.1, h1.2, h2.1, h2.2⟩
 have e1 : (op == 1) = false := by simp; omega
 have e2 : (op == 2) = false := by simp; omega
 have e3 : (op == 3) = false := by simp; omega
 clear hT hk hl tk tl ik il gk gl hr hbn hq h1 h2 hw0 h5 h9 hN
 go_enter Tryz.func98, Tryz.ntmps98
 go_wp2_with fail
 rw [HW0.out]
 refine Calls.mono (CB.out w0 A0.out) ?_
 rintro e W1 ⟨rfl, b1⟩
 have B1 : Hid (Below w.heap.size w W1) := A0.out.trans (b1.mono A0.out.size)
 have c0 : W1.cell? ⟨w.heap.size, 0, none⟩ = some (.int .i64 op) := by
  have : W1.heap[w.heap.size]? = _ := (b1.block _ (Array.getElem?_eq_some_iff.1 C0.out).1).trans C0.out
  simp [World.cell?, this]
 clear b1 CB HW0
 by_cases h3 : c3 = 0
 ·subst h3
  have HRR : Hid (r = Tk.reckR op c1 c2) := by show r = Tk.reckR op c1 c2; have := HR.out; simpa using this
  clear HR
  go_wp2_with fail
  refine Calls.mono (Tryz.reckon_any op c1 c2 _ HB.out.1 HB.out.2.1 HB.out.2.2.1 HB.out.2.2.2) ?_
  rintro e W2 ⟨rfl, rfl⟩
  go_wp2
  go_ret2
  exact ⟨by rw [HRR.out]; rfl, B1.out⟩
 ·have hne : (c3 != 0) = true := by simpa using h3
  have HRR : Hid (r = (0, c3)) := by show r = (0, c3); have := HR.out; simpa [h3] using this
  clear HR h3
  go_wp2
  go_ret2
  exact ⟨by rw [HRR.out]; rfl, B1.out⟩
theorem Tryz.number_any (x0 x1 x2 x3 : Int) (hx : Tk.fitsB x0 x1 x2 x3 = true) : ∀ d, Tk.NumOk x0 x1 x2 x3 d := by
 intro d
 induction d with
 | zero => intro T v w h; exact h.elim
 | succ d ih =>
   intro T v w hT hF hY hi
   have hgood : ∀ k : Tm, k.allForm = true → k.typedB = true → Tm.isOf k.op = 1 → Tm.Good 1 (k.val (Tk.vget x0 x1 x2 x3)) := fun k h1 h2 h3 => by
    have := Tm.good_val _ (Tk.vget_num hx) k.depth k (Nat.le_refl _) h1 h2
    rw [h3] at this
    exact this
   rcases Tm.right_cases hF with ⟨n, rfl, h1, h2⟩ | ⟨n, rfl, h1, h2⟩ | ⟨op, k, rfl, ho, hk⟩ | ⟨op, k, l, rfl, o1, o2, hk, hl⟩
   ·obtain ⟨a, cap, rfl⟩ := hT.shape
    exact Tryz.num_leaf1 x0 x1 x2 x3 n a _ cap w
   ·obtain ⟨a, cap, rfl⟩ := hT.shape
    exact Tryz.num_leaf2 x0 x1 x2 x3 n a _ cap w ⟨h1, h2⟩
   ·obtain ⟨t1, t2⟩ := Tm.typed_mk1 hY
    obtain rfl : op = 3 := by
     rcases ho with h | h
     ·exact h
     ·subst h; simp [Tm.isOf, Tm.op] at hi
    have ik : Tm.isOf k.op = 1 := by rw [t1]; simp [Tm.askedOf]
    have g := hgood k hk t2 ik
    have := Tryz.num_neg x0 x1 x2 x3 d ih k v w hT hk t2 ik g
    refine this.mono fun e w' ⟨he, hb⟩ => ⟨?_, hb⟩
    rw [he]
    simp only [Tm.val, Tm.vals, Tm.valOf]
    generalize k.val (Tk.vget x0 x1 x2 x3) = va at g
    by_cases hf : va.2.2 = 0
    ·simp [hf]
    ·have := (g.2.2.1 hf).1
     simp [hf, this]
   ·obtain ⟨⟨t1, t2⟩, t3, t4⟩ := Tm.typed_mk2 hY
    have o9 : op ≤ 9 := by
     rcases Int.lt_or_le 9 op with h | h
     ·have h2 : Tm.isOf (Tm.mk op 0 [k, l]).op = 2 := by
       unfold Tm.isOf
       rw [if_pos (.inr (by show 10 ≤ op; omega))]
      rw [h2] at hi
      omega
     ·exact h
    have e1 : Tm.askedOf op = 1 := by unfold Tm.askedOf; rw [if_neg (by omega), if_neg (by omega)]
    have ik : Tm.isOf k.op = 1 := t1.trans e1
    have il : Tm.isOf l.op = 1 := t3.trans e1
    refine Tryz.num_two x0 x1 x2 x3 d ih op k l v w o1 o9 hT hk hl t2 t4 ik il (hgood k hk t2 ik) (hgood l hl t4 il) ((Tm.val (Tk.vget x0 x1 x2 x3) (.mk op 0 [k, l])).1, (Tm.val (Tk.vget x0 x1 x2 x3) (.mk op 0 [k, l])).2.2) ?_
    simp only [Tm.val, Tm.vals, Tm.valOf]
    generalize k.val (Tk.vget x0 x1 x2 x3) = va
    generalize l.val (Tk.vget x0 x1 x2 x3) = vb
    rw [if_neg (show ¬ op = 1 by omega), if_neg (show ¬ op = 2 by omega), if_neg (show ¬ op = 3 by omega), if_neg (show ¬ op = 4 by omega), if_neg (show ¬ op = 13 by omega), if_neg (show ¬ op = 14 by omega)]
    unfold Tk.bothR Tk.sumR
    rw [if_neg (show ¬ 10 ≤ op by omega)]
    by_cases hf : va.2.2 = 0
    ·by_cases hg : vb.2.2 = 0
     ·simp [hf, hg]
     ·simp [hf, hg]
    ·simp [hf]
end Go.Proofs
