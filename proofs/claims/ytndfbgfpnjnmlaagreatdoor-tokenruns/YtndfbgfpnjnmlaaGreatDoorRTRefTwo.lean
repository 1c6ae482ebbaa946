import Derived.Test.YtndfbgfpnjnmlaaGreatDoorRTRefOne
import Derived.Test.YtndfbgfpnjnmlaaGreatDoorRTRefOr
namespace Go.Proofs
open Go.RowKit
set_option maxHeartbeats 8000000 in
set_option maxRecDepth 20000 in
theorem Tryz.of_two (x0 x1 x2 x3 : Int) (d : Nat) (hN : Tk.OfOk x0 x1 x2 x3 d) (op : Int) (h5 : 5 ≤ op) (h12 : op ≤ 12) (k l : Tm) (v : Value) (w : World) (hT : Tm.Lies w w.heap.size (d + 1) v (.mk op 0 [k, l])) (hk : k.allForm = true) (hl : l.allForm = true) (tk : k.typedB = true) (tl : l.typedB = true) (hg1 : Tk.isNum (k.val (Tk.vget x0 x1 x2 x3)).1 = true) (hg2 : Tk.isNum (l.val (Tk.vget x0 x1 x2 x3)).1 = true) (r : Int × Bool × Int)
  (hr : r = if (k.val (Tk.vget x0 x1 x2 x3)).2.2 ≠ 0 then (0, false, (k.val (Tk.vget x0 x1 x2 x3)).2.2) else if (l.val (Tk.vget x0 x1 x2 x3)).2.2 ≠ 0 then (0, false, (l.val (Tk.vget x0 x1 x2 x3)).2.2) else Tk.sumR op (k.val (Tk.vget x0 x1 x2 x3)).1 (l.val (Tk.vget x0 x1 x2 x3)).1) :
  Calls Tryz.prog 89 #[.agg #[.int .i64 op, .int .i64 0, v], .agg #[.int .i64 x0, .int .i64 x1, .int .i64 x2, .int .i64 x3]] w fun e w' => e = .returned (.agg #[.int .i64 r.1, .bool r.2.1, .int .i64 r.2.2]) ∧ Below w.heap.size w w' := by
 obtain ⟨a, cap, rfl⟩ := hT.shape
 obtain ⟨g, off, u, rfl, hg, q0, q1, q2, q3⟩ := hT.kid 0 (by simp [Tm.ks])
 obtain ⟨g', off', u', e', hg', p0, p1, p2, p3⟩ := hT.kid 1 (by simp [Tm.ks])
 simp only [Option.some.injEq, Addr.mk.injEq, and_true] at e'
 obtain ⟨rfl, rfl⟩ := e'
 simp only [Tm.ks, List.getElem_cons_zero, List.getElem_cons_succ, List.length_cons, List.length_nil] at *
 obtain ⟨au, cu, rfl⟩ := q3.shape
 obtain ⟨al, cl, rfl⟩ := p3.shape
 obtain ⟨nk, hnk⟩ : ∃ n, k.ks.length = n := ⟨_, rfl⟩
 obtain ⟨ok, hok⟩ : ∃ n, k.op = n := ⟨_, rfl⟩
 obtain ⟨mk', hmk⟩ : ∃ n, k.num = n := ⟨_, rfl⟩
 obtain ⟨va, hva⟩ : ∃ n, k.val (Tk.vget x0 x1 x2 x3) = n := ⟨_, rfl⟩
 rw [hnk] at q2 q3
 rw [hok] at q0
 rw [hmk] at q1
 rw [hva] at hr hg1
 obtain ⟨nl, hnl⟩ : ∃ n, l.ks.length = n := ⟨_, rfl⟩
 obtain ⟨ol, hol⟩ : ∃ n, l.op = n := ⟨_, rfl⟩
 obtain ⟨ml, hml⟩ : ∃ n, l.num = n := ⟨_, rfl⟩
 obtain ⟨vb, hvb⟩ : ∃ n, l.val (Tk.vget x0 x1 x2 x3) = n := ⟨_, rfl⟩
 rw [hnl] at p2 p3
 rw [hol] at p0
 rw [hml] at p1
 rw [hvb] at hr hg2
 obtain ⟨w0, hw0⟩ : ∃ w0, ((w.alloc (.cells #[.int .i64 op, .int .i64 0, .slice (some ⟨g, off, none⟩) 2 cap] 68)).alloc (.cells #[.int .i64 x0, .int .i64 x1, .int .i64 x2, .int .i64 x3] 27)).alloc (.cells #[.int .i64 0, .bool false, .int .i64 0] 136) = w0 := ⟨_, rfl⟩
 have A0 : Hid (Below w.heap.size w w0) := by show Below _ _ _; rw [← hw0]; exact (((Below.refl _ w).alloc (Nat.le_refl _) _).alloc (by simp) _).alloc (by simp; omega) _
 have CK : Hid (∀ W, Below w.heap.size w W → Below w0.heap.size w0 W → Calls Tryz.prog 89 #[.agg #[.int .i64 ok, .int .i64 mk', .slice au nk cu], .agg #[.int .i64 x0, .int .i64 x1, .int .i64 x2, .int .i64 x3]] W fun e w' => e = .returned (.agg #[.int .i64 va.1, .bool va.2.1, .int .i64 va.2.2]) ∧ Below w.heap.size w w' ∧ Below w0.heap.size w0 w') := by
  intro W hW hW0
  have := hN k (.slice au nk cu) W ((q3.below hW).wider hW.size) hk tk
  rw [hok, hmk, hva] at this
  exact this.mono fun e w' ⟨he, hb⟩ => ⟨he, hW.trans (hb.mono hW.size), hW0.trans (hb.mono hW0.size)⟩
 have CZ : Hid (∀ W, Below w.heap.size w W → Below w0.heap.size w0 W → W.heap[w0.heap.size]? = some (.cells #[.int .i64 0, .bool false, .int .i64 0] 136 (0, 0)) → Calls Tryz.prog 89 #[.agg #[.int .i64 ok, .int .i64 mk', .slice au nk cu], .agg #[.int .i64 x0, .int .i64 x1, .int .i64 x2, .int .i64 x3]] W fun e w' => e = .returned (.agg #[.int .i64 va.1, .bool va.2.1, .int .i64 va.2.2]) ∧ Below w.heap.size w w' ∧ Below w0.heap.size w0 w' ∧
   (w'.cell? ⟨w0.heap.size, 0, none⟩ = some (.int .i64 0) ∧ w'.cell? ⟨w0.heap.size, 1, none⟩ = some (.bool false) ∧ w'.cell? ⟨w0.heap.size, 2, none⟩ = some (.int .i64 0)) ∧ (w'.frozen? ⟨w0.heap.size, 0, none⟩ = false ∧ w'.frozen? ⟨w0.heap.size, 1, none⟩ = false ∧ w'.frozen? ⟨w0.heap.size, 2, none⟩ = false) ∧ w'.heap[w0.heap.size]? = some (.cells #[.int .i64 0, .bool false, .int .i64 0] 136 (0, 0))) := by
  intro W hW hW0 hz
  have := hN k (.slice au nk cu) W ((q3.below hW).wider hW.size) hk tk
  rw [hok, hmk, hva] at this
  refine this.mono fun e w' ⟨he, hb⟩ => ?_
  have hz' : w'.heap[w0.heap.size]? = some (.cells #[.int .i64 0, .bool false, .int .i64 0] 136 (0, 0)) := by rw [hb.block _ (Array.getElem?_eq_some_iff.1 hz).1]; exact hz
  exact ⟨he, hW.trans (hb.mono hW.size), hW0.trans (hb.mono hW0.size), by simp [World.cell?, hz'], by simp [World.frozen?, hz'], hz'⟩
 have CL : Hid (∀ W, Below w.heap.size w W → Calls Tryz.prog 89 #[.agg #[.int .i64 ol, .int .i64 ml, .slice al nl cl], .agg #[.int .i64 x0, .int .i64 x1, .int .i64 x2, .int .i64 x3]] W fun e w' => e = .returned (.agg #[.int .i64 vb.1, .bool vb.2.1, .int .i64 vb.2.2]) ∧ Below W.heap.size W w') := by
  intro W hW
  have := hN l (.slice al nl cl) W ((p3.below hW).wider hW.size) hl tl
  rw [hol, hml, hvb] at this
  exact this
 obtain ⟨a1, ab, a3⟩ := va
 obtain ⟨f1, fb, f3⟩ := vb
 have C0 : w0.heap[w.heap.size]? = some (.cells #[.int .i64 op, .int .i64 0, .slice (some ⟨g, off, none⟩) 2 cap] 68 (0, 0)) := by
  rw [← hw0, Below.heap_alloc _ _ _ (by simp; omega), Below.heap_alloc _ _ _ (by simp)]; exact heap_alloc_new w _
 have C1 : w0.heap[w.heap.size + 1]? = some (.cells #[.int .i64 x0, .int .i64 x1, .int .i64 x2, .int .i64 x3] 27 (0, 0)) := by
  rw [← hw0, Below.heap_alloc _ _ _ (by simp)]
  have := heap_alloc_new (w.alloc (.cells #[.int .i64 op, .int .i64 0, .slice (some ⟨g, off, none⟩) 2 cap] 68)) (.cells #[.int .i64 x0, .int .i64 x1, .int .i64 x2, .int .i64 x3] 27)
  simpa using this
 have C2 : w0.heap[w.heap.size + 2]? = some (.cells #[.int .i64 0, .bool false, .int .i64 0] 136 (0, 0)) := by
  rw [← hw0]
  have := heap_alloc_new ((w.alloc (.cells #[.int .i64 op, .int .i64 0, .slice (some ⟨g, off, none⟩) 2 cap] 68)).alloc (.cells #[.int .i64 x0, .int .i64 x1, .int .i64 x2, .int .i64 x3] 27)) (.cells #[.int .i64 0, .bool false, .int .i64 0] 136)
  simpa using this
 have HW0 : Hid (((w.alloc (.cells #[.int .i64 op, .int .i64 0, .slice (some ⟨g, off, none⟩) 2 cap] 68)).alloc (.cells #[.int .i64 x0, .int .i64 x1, .int .i64 x2, .int .i64 x3] 27)).alloc (.cells #[.int .i64 0, .bool false, .int .i64 0] 136) = w0) := hw0
 have HQ : Hid (w.cell? ⟨g, off, none⟩ = some (.int .i64 ok) ∧ w.cell? ⟨g, off + 1, none⟩ = some (.int .i64 mk') ∧ w.cell? ⟨g, off + 2, none⟩ = some (.slice au nk cu)) := ⟨by simpa using q0, by simpa using q1, by simpa using q2⟩
 have HP : Hid (w.cell? ⟨g, off + 3, none⟩ = some (.int .i64 ol) ∧ w.cell? ⟨g, off + 4, none⟩ = some (.int .i64 ml) ∧ w.cell? ⟨g, off + 5, none⟩ = some (.slice al nl cl)) := ⟨by simpa using p0, by simpa using p1, by simpa using p2⟩
 have HG : Hid (g < w.heap.size) := hg
 have HC0 : Hid _ := C0
 have HC1 : Hid _ := C1
 have HC2 : Hid _ := C2
 have c0 : w0.cell? ⟨w.heap.size, 2, none⟩ = some (.slice (some ⟨g, off, none⟩) 2 cap) := by simp [World.cell?, C0]
 have o0 : w0.cell? ⟨w.heap.size, 0, none⟩ = some (.int .i64 op) := by simp [World.cell?, C0]
 have d0 : w0.cell? ⟨w.heap.size + 1, 0, none⟩ = some (.int .i64 x0) := by simp [World.cell?, C1]
 have d1 : w0.cell? ⟨w.heap.size + 1, 1, none⟩ = some (.int .i64 x1) := by simp [World.cell?, C1]
 have d2 : w0.cell? ⟨w.heap.size + 1, 2, none⟩ = some (.int .i64 x2) := by simp [World.cell?, C1]
 have d3 : w0.cell? ⟨w.heap.size + 1, 3, none⟩ = some (.int .i64 x3) := by simp [World.cell?, C1]
 have k0 : w0.cell? ⟨g, off, none⟩ = some (.int .i64 ok) := by rw [A0.out.cell (p := ⟨g, off, none⟩) hg]; exact HQ.out.1
 have k1 : w0.cell? ⟨g, off + 1, none⟩ = some (.int .i64 mk') := by rw [A0.out.cell (p := ⟨g, off + 1, none⟩) hg]; exact HQ.out.2.1
 have k2 : w0.cell? ⟨g, off + 2, none⟩ = some (.slice au nk cu) := by rw [A0.out.cell (p := ⟨g, off + 2, none⟩) hg]; exact HQ.out.2.2
 have e1 : (op == 1) = false := by simp; omega
 have e2 : (op == 2) = false := by simp; omega
 simp only at hr hg1 hg2
 have HR : Hid (r = _) := hr
 have HN1 : Hid (-1099511627776 ≤ a1 ∧ a1 ≤ 1099511627776) := Tk.isNum_iff.1 hg1
 have HN2 : Hid (-1099511627776 ≤ f1 ∧ f1 ≤ 1099511627776) := Tk.isNum_iff.1 hg2
 clear p0 p1 p2 p3 hg' hl tl hg2 hvb hol hml hnl
 clear hT q0 q1 q2 q3 hg hw0 hva hok hmk hnk C0 C1 C2 hk tk hN hr hg1
 have A1 : Hid (Below w.heap.size w (w0.alloc (.cells #[.int .i64 0, .bool false, .int .i64 0] 136))) := A0.out.alloc A0.out.size _
 have D1 : Hid (Below w0.heap.size w0 (w0.alloc (.cells #[.int .i64 0, .bool false, .int .i64 0] 136))) := (Below.refl _ w0).alloc (Nat.le_refl _) _
 have Z1 : Hid ((w0.alloc (.cells #[.int .i64 0, .bool false, .int .i64 0] 136)).heap[w0.heap.size]? = some (.cells #[.int .i64 0, .bool false, .int .i64 0] 136 (0, 0))) := heap_alloc_new w0 _
 have HS0 : Hid (w.heap.size + 2 < w0.heap.size) := (Array.getElem?_eq_some_iff.1 HC2.out).1
 have zc : ∀ (b p : Nat), b < w0.heap.size → (w0.alloc (.cells #[.int .i64 0, .bool false, .int .i64 0] 136)).cell? ⟨b, p, none⟩ = w0.cell? ⟨b, p, none⟩ := fun b p hb => D1.out.cell (p := ⟨b, p, none⟩) hb
 have c0z := (zc (w.heap.size) 2 (by have := HS0.out; omega)).trans c0
 have d0z := (zc (w.heap.size + 1) 0 (by have := HS0.out; omega)).trans d0
 have d1z := (zc (w.heap.size + 1) 1 (by have := HS0.out; omega)).trans d1
 have d2z := (zc (w.heap.size + 1) 2 (by have := HS0.out; omega)).trans d2
 have d3z := (zc (w.heap.size + 1) 3 (by have := HS0.out; omega)).trans d3
 have k0z := (zc g off (by have := HS0.out; have := HG.out; omega)).trans k0
 have k1z := (zc g (off + 1) (by have := HS0.out; have := HG.out; omega)).trans k1
 have k2z := (zc g (off + 2) (by have := HS0.out; have := HG.out; omega)).trans k2
 clear zc
 go_enter Tryz.func89, Tryz.ntmps89
 go_upto_region 5 with fail
 rw [HW0.out]
 clear HW0
 go_cut [5] (fun s5 wx => ∃ q : Nat, s5 = .pointer (some ⟨q, 0, none⟩) ∧ Hid (Tk.Got1 w w0 a1 ab a3 q wx))
 case first =>
  go_region_with (first | (go_at_call 89; refine Calls.mono (CZ.out _ (by first | exact A1.out | exact A1.out.drew | exact Tk.below_drewN A1.out _) (by first | exact D1.out | exact D1.out.drew | exact Tk.below_drewN D1.out _) (by exact Z1.out)) ?_; rintro e W3 ⟨rfl, b3, c3, ⟨z0, z1, z2⟩, ⟨y0, y1, y2⟩, z3⟩) | (go_at_call 89; refine Calls.mono (CK.out _ (by first | exact A0.out | exact A0.out.drew | exact Tk.below_drewN A0.out _) (by first | exact Below.refl _ _ | exact (Below.refl _ w0).drew | exact Tk.below_drewN (Below.refl _ w0) _)) ?_; rintro e W3 ⟨rfl, b3, c3⟩) | fail)
  all_goals (go_wp2_with fail; go_meet; first | exact ⟨_, rfl, Tk.Got1.late A0.out.size b3 c3⟩ | exact ⟨_, rfl, Tk.Got1.early A0.out.size b3 c3 z3⟩)
 case rest =>
 rename World => w1
 obtain ⟨q, rfl, HG1⟩ := hcut
 clear c0 o0 d0 d1 d2 d3 k0 k1 k2 c0z d0z d1z d2z d3z k0z k1z k2z A1 D1 Z1 CK CZ HQ
 have HC3 : Hid (w1.heap[w.heap.size]? = some (.cells #[.int .i64 op, .int .i64 0, .slice (some ⟨g, off, none⟩) 2 cap] 68 (0, 0))) := by show _ = _; rw [HG1.out.b0.block _ (by have := HS0.out; omega)]; exact HC0.out
 have HX3 : Hid (w1.heap[w.heap.size + 1]? = some (.cells #[.int .i64 x0, .int .i64 x1, .int .i64 x2, .int .i64 x3] 27 (0, 0))) := by show _ = _; rw [HG1.out.b0.block _ (by have := HS0.out; omega)]; exact HC1.out
 have HRES : Hid (w1.heap[w.heap.size + 2]? = some (.cells #[.int .i64 0, .bool false, .int .i64 0] 136 (0, 0))) := by show _ = _; rw [HG1.out.b0.block _ (by have := HS0.out; omega)]; exact HC2.out
 have o0' : w1.cell? ⟨w.heap.size, 0, none⟩ = some (.int .i64 op) := by have := HC3.out; simp [World.cell?, this]
 have v0' : w1.cell? ⟨q, 0, none⟩ = some (.int .i64 a1) := by have := HG1.out.box; simp [World.cell?, this]
 have v1' : w1.cell? ⟨q, 1, none⟩ = some (.bool ab) := by have := HG1.out.box; simp [World.cell?, this]
 have v2' : w1.cell? ⟨q, 2, none⟩ = some (.int .i64 a3) := by have := HG1.out.box; simp [World.cell?, this]
 have e3 : (op == 3) = false := by simp; omega
 have e4 : (op == 4) = false := by simp; omega
 have e13 : (op == 13) = false := by simp; omega
 have e14 : (op == 14) = false := by simp; omega
 have HOP : Hid (5 ≤ op ∧ op ≤ 12) := ⟨h5, h12⟩
 clear h5 h12
 by_cases ha : a3 = 0
 rotate_left
 ·have hne : (a3 != 0) = true := by simpa using ha
  have HRR : Hid (r = (0, false, a3)) := by show r = _; rw [HR.out]; simp [ha]
  clear ha HR
  go_wp2_with (refine wpList_store_row rfl 136 _ _ rfl (w.heap.size + 2) _ rfl rfl 136 #[.int .i64 0, .bool false, .int .i64 0] (by exact HRES.out) (by kernel_rfl) rfl (by kernel_rfl) ?_)
  refine bodyPost_ret (v := .agg #[.int .i64 (0), .bool (false), .int .i64 (a3)]) (results_cell_row Tryz.results89 _ _ (w.heap.size + 2) 136 #[.int .i64 (0), .bool (false), .int .i64 (a3)] (0, 0) _ rfl (setRow_heap _ _ _ _ _ _ HRES.out) Tryz.underlying136 rfl (by kernel_rfl)) rfl ⟨Tk.ret_val (by rw [HRR.out]) (by rw [HRR.out]) (by rw [HRR.out]), Tk.below_setRow HG1.out.bw (by omega) _⟩
 subst ha
 have hbwc : Hid (Below w.heap.size w w1) := HG1.out.bw
 have A2 : Hid (Below w.heap.size w (w1.alloc (.cells #[.int .i64 0, .bool false, .int .i64 0] 136))) := hbwc.out.alloc hbwc.out.size _
 have D2 : Hid (Below w1.heap.size w1 (w1.alloc (.cells #[.int .i64 0, .bool false, .int .i64 0] 136))) := (Below.refl _ w1).alloc (Nat.le_refl _) _
 have Z2 : Hid ((w1.alloc (.cells #[.int .i64 0, .bool false, .int .i64 0] 136)).heap[w1.heap.size]? = some (.cells #[.int .i64 0, .bool false, .int .i64 0] 136 (0, 0))) := heap_alloc_new w1 _
 have c0' : w1.cell? ⟨w.heap.size, 2, none⟩ = some (.slice (some ⟨g, off, none⟩) 2 cap) := by have := HC3.out; simp [World.cell?, this]
 have d0' : w1.cell? ⟨w.heap.size + 1, 0, none⟩ = some (.int .i64 x0) := by have := HX3.out; simp [World.cell?, this]
 have d1' : w1.cell? ⟨w.heap.size + 1, 1, none⟩ = some (.int .i64 x1) := by have := HX3.out; simp [World.cell?, this]
 have d2' : w1.cell? ⟨w.heap.size + 1, 2, none⟩ = some (.int .i64 x2) := by have := HX3.out; simp [World.cell?, this]
 have d3' : w1.cell? ⟨w.heap.size + 1, 3, none⟩ = some (.int .i64 x3) := by have := HX3.out; simp [World.cell?, this]
 have l0' : w1.cell? ⟨g, off + 3, none⟩ = some (.int .i64 ol) := by rw [HG1.out.bw.cell (p := ⟨g, off + 3, none⟩) HG.out]; exact HP.out.1
 have l1' : w1.cell? ⟨g, off + 4, none⟩ = some (.int .i64 ml) := by rw [HG1.out.bw.cell (p := ⟨g, off + 4, none⟩) HG.out]; exact HP.out.2.1
 have l2' : w1.cell? ⟨g, off + 5, none⟩ = some (.slice al nl cl) := by rw [HG1.out.bw.cell (p := ⟨g, off + 5, none⟩) HG.out]; exact HP.out.2.2
 have HSC : Hid (w.heap.size + 2 < w1.heap.size) := (Array.getElem?_eq_some_iff.1 HRES.out).1
 have zc : ∀ (b p : Nat), b < w1.heap.size → (w1.alloc (.cells #[.int .i64 0, .bool false, .int .i64 0] 136)).cell? ⟨b, p, none⟩ = w1.cell? ⟨b, p, none⟩ := fun b p hb => D2.out.cell (p := ⟨b, p, none⟩) hb
 have c0z := (zc (w.heap.size) 2 (by have := HSC.out; omega)).trans c0'
 have d0z := (zc (w.heap.size + 1) 0 (by have := HSC.out; omega)).trans d0'
 have d1z := (zc (w.heap.size + 1) 1 (by have := HSC.out; omega)).trans d1'
 have d2z := (zc (w.heap.size + 1) 2 (by have := HSC.out; omega)).trans d2'
 have d3z := (zc (w.heap.size + 1) 3 (by have := HSC.out; omega)).trans d3'
 have l0z := (zc g (off + 3) (by have := HSC.out; have := HG.out; omega)).trans l0'
 have l1z := (zc g (off + 4) (by have := HSC.out; have := HG.out; omega)).trans l1'
 have l2z := (zc g (off + 5) (by have := HSC.out; have := HG.out; omega)).trans l2'
 clear zc
 have LK : Hid (∀ W, Below w.heap.size w W → Below w1.heap.size w1 W → Calls Tryz.prog 89 #[.agg #[.int .i64 ol, .int .i64 ml, .slice al nl cl], .agg #[.int .i64 x0, .int .i64 x1, .int .i64 x2, .int .i64 x3]] W fun e w' => e = .returned (.agg #[.int .i64 f1, .bool fb, .int .i64 f3]) ∧ Below w.heap.size w w' ∧ Below w1.heap.size w1 w') := fun W hW hWc => (CL.out W hW).mono fun e w' ⟨he, hb⟩ => ⟨he, hW.trans (hb.mono hW.size), hWc.trans (hb.mono hWc.size)⟩
 have LZ : Hid (∀ W, Below w.heap.size w W → Below w1.heap.size w1 W → W.heap[w1.heap.size]? = some (.cells #[.int .i64 0, .bool false, .int .i64 0] 136 (0, 0)) → Calls Tryz.prog 89 #[.agg #[.int .i64 ol, .int .i64 ml, .slice al nl cl], .agg #[.int .i64 x0, .int .i64 x1, .int .i64 x2, .int .i64 x3]] W fun e w' => e = .returned (.agg #[.int .i64 f1, .bool fb, .int .i64 f3]) ∧ Below w.heap.size w w' ∧ Below w1.heap.size w1 w' ∧
   (w'.cell? ⟨w1.heap.size, 0, none⟩ = some (.int .i64 0) ∧ w'.cell? ⟨w1.heap.size, 1, none⟩ = some (.bool false) ∧ w'.cell? ⟨w1.heap.size, 2, none⟩ = some (.int .i64 0)) ∧ (w'.frozen? ⟨w1.heap.size, 0, none⟩ = false ∧ w'.frozen? ⟨w1.heap.size, 1, none⟩ = false ∧ w'.frozen? ⟨w1.heap.size, 2, none⟩ = false) ∧ w'.heap[w1.heap.size]? = some (.cells #[.int .i64 0, .bool false, .int .i64 0] 136 (0, 0))) := by
  intro W hW hWc hz
  refine (CL.out W hW).mono fun e w' ⟨he, hb⟩ => ?_
  have hz' : w'.heap[w1.heap.size]? = some (.cells #[.int .i64 0, .bool false, .int .i64 0] 136 (0, 0)) := by rw [hb.block _ (Array.getElem?_eq_some_iff.1 hz).1]; exact hz
  exact ⟨he, hW.trans (hb.mono hW.size), hWc.trans (hb.mono hWc.size), by simp [World.cell?, hz'], by simp [World.frozen?, hz'], hz'⟩
 clear CL
 go_upto_region 21 with fail
 go_cut [6] (fun s6 wx => ∃ q : Nat, s6 = .pointer (some ⟨q, 0, none⟩) ∧ Hid (Tk.Got1 w w1 f1 fb f3 q wx))
 case first =>
  go_region_with (first | (go_at_call 89; refine Calls.mono (LZ.out _ (by first | exact A2.out | exact A2.out.drew | exact Tk.below_drewN A2.out _) (by first | exact D2.out | exact D2.out.drew | exact Tk.below_drewN D2.out _) (by exact Z2.out)) ?_; rintro e W3 ⟨rfl, b3, c3, ⟨z0, z1, z2⟩, ⟨y0, y1, y2⟩, z3⟩) | (go_at_call 89; refine Calls.mono (LK.out _ (by first | exact hbwc.out | exact hbwc.out.drew | exact Tk.below_drewN hbwc.out _) (by first | exact Below.refl _ _ | exact (Below.refl _ w1).drew | exact Tk.below_drewN (Below.refl _ w1) _)) ?_; rintro e W3 ⟨rfl, b3, c3⟩) | fail)
  all_goals (go_wp2_with fail; go_meet; first | exact ⟨_, rfl, Tk.Got1.late hbwc.out.size b3 c3⟩ | exact ⟨_, rfl, Tk.Got1.early hbwc.out.size b3 c3 z3⟩)
 case rest =>
 rename World => wd
 obtain ⟨q2, rfl, HG2⟩ := hcut
 have HRS2 : Hid (wd.heap[w.heap.size + 2]? = some (.cells #[.int .i64 0, .bool false, .int .i64 0] 136 (0, 0))) := by show _ = _; rw [HG2.out.b0.block _ (by have := HSC.out; omega)]; exact HRES.out
 have hq := (Array.getElem?_eq_some_iff.1 HG1.out.box).1
 have hC := (HG2.out.b0.block _ hq).trans HG1.out.box
 have hD := (HG2.out.b0.block (w.heap.size) (by have := HSC.out; omega)).trans HC3.out
 have w0' : wd.cell? ⟨q, 0, none⟩ = some (.int .i64 a1) := by simp [World.cell?, hC]
 have w1' : wd.cell? ⟨q2, 0, none⟩ = some (.int .i64 f1) := by have := HG2.out.box; simp [World.cell?, this]
 have w2' : wd.cell? ⟨q2, 2, none⟩ = some (.int .i64 f3) := by have := HG2.out.box; simp [World.cell?, this]
 have w3' : wd.cell? ⟨w.heap.size, 0, none⟩ = some (.int .i64 op) := by simp [World.cell?, hD]
 clear hq hC hD c0' d0' d1' d2' d3' l0' l1' l2' c0z d0z d1z d2z d3z l0z l1z l2z v0' v1' v2' o0' A2 D2 Z2 LK LZ
 by_cases hf : f3 = 0
 ·subst hf
  have HRR : Hid (r = Tk.sumR op a1 f1) := by show r = _; rw [HR.out]; simp
  clear HR
  obtain ⟨s1, s2, s3⟩ := r
  go_wp2_with fail
  refine Calls.mono (Tryz.sum_any op a1 f1 _ HOP.out HN1.out.1 HN1.out.2 HN2.out.1 HN2.out.2) ?_
  rw [← HRR.out]
  rintro e W5 ⟨rfl, b5⟩
  have B5 : Hid (Below w.heap.size w W5) := HG2.out.bw.trans (b5.mono HG2.out.bw.size)
  have HRS5 : Hid (W5.heap[w.heap.size + 2]? = some (.cells #[.int .i64 0, .bool false, .int .i64 0] 136 (0, 0))) := by show _ = _; rw [b5.block _ (Array.getElem?_eq_some_iff.1 HRS2.out).1]; exact HRS2.out
  clear b5
  go_wp2_with (refine wpList_store_row rfl 136 _ _ rfl (w.heap.size + 2) _ rfl rfl 136 #[.int .i64 0, .bool false, .int .i64 0] (by exact HRS5.out) (by kernel_rfl) rfl (by kernel_rfl) ?_)
  exact bodyPost_ret (v := .agg #[.int .i64 s1, .bool s2, .int .i64 s3]) (results_cell_row Tryz.results89 _ _ (w.heap.size + 2) 136 #[.int .i64 s1, .bool s2, .int .i64 s3] (0, 0) _ rfl (setRow_heap _ _ _ _ _ _ HRS5.out) Tryz.underlying136 rfl (by kernel_rfl)) rfl ⟨rfl, Tk.below_setRow B5.out (by omega) _⟩
 ·have hne : (f3 != 0) = true := by simpa using hf
  have HRR : Hid (r = (0, false, f3)) := by show r = _; rw [HR.out]; simp [hf]
  clear hf HR
  go_wp2_with (refine wpList_store_row rfl 136 _ _ rfl (w.heap.size + 2) _ rfl rfl 136 #[.int .i64 0, .bool false, .int .i64 0] (by exact HRS2.out) (by kernel_rfl) rfl (by kernel_rfl) ?_)
  refine bodyPost_ret (v := .agg #[.int .i64 (0), .bool (false), .int .i64 (f3)]) (results_cell_row Tryz.results89 _ _ (w.heap.size + 2) 136 #[.int .i64 (0), .bool (false), .int .i64 (f3)] (0, 0) _ rfl (setRow_heap _ _ _ _ _ _ HRS2.out) Tryz.underlying136 rfl (by kernel_rfl)) rfl ⟨Tk.ret_val (by rw [HRR.out]) (by rw [HRR.out]) (by rw [HRR.out]), Tk.below_setRow HG2.out.bw (by omega) _⟩
end Go.Proofs
namespace Go.Proofs
open Go.RowKit
theorem Tryz.of_any (x0 x1 x2 x3 : Int) (hx : Tk.fitsB x0 x1 x2 x3 = true) : ∀ d, Tk.OfOk x0 x1 x2 x3 d := by
 intro d
 induction d with
 | zero => intro T v w h; exact h.elim
 | succ d ih =>
   intro T v w hT hF hY
   have good : ∀ k : Tm, k.allForm = true → k.typedB = true → Tk.isNum (k.val (Tk.vget x0 x1 x2 x3)).1 = true := fun k h1 h2 => (Tm.good_val _ (Tk.vget_num hx) k.depth k (Nat.le_refl _) h1 h2).1
   rcases Tm.right_cases hF with ⟨n, rfl, h1, h2⟩ | ⟨n, rfl, h1, h2⟩ | ⟨op, k, rfl, ho, hk⟩ | ⟨op, k, l, rfl, o1, o2, hk, hl⟩
   ·obtain ⟨a, cap, rfl⟩ := hT.shape
    exact Tryz.of_leaf1 x0 x1 x2 x3 n a _ cap w _ (by simp [Tm.val, Tm.valOf])
   ·obtain ⟨a, cap, rfl⟩ := hT.shape
    exact Tryz.of_leaf2 x0 x1 x2 x3 n a _ cap w ⟨h1, h2⟩ _ (by simp [Tm.val, Tm.valOf])
   ·obtain ⟨t1, t2⟩ := Tm.typed_mk1 hY
    refine Tryz.of_one x0 x1 x2 x3 d ih op ho k v w hT hk t2 (good k hk t2) _ ?_
    simp only [Tm.val, Tm.vals, Tm.valOf]
    rcases ho with rfl | rfl
    ·simp
    ·simp
   ·obtain ⟨⟨t1, t2⟩, t3, t4⟩ := Tm.typed_mk2 hY
    by_cases h13 : op = 13
    ·refine Tryz.of_and x0 x1 x2 x3 d ih op h13 k l v w hT hk hl t2 t4 (good k hk t2) (good l hl t4) _ ?_
     subst h13
     simp only [Tm.val, Tm.vals, Tm.valOf]
     simp
    ·by_cases h14 : op = 14
     ·refine Tryz.of_or x0 x1 x2 x3 d ih op h14 k l v w hT hk hl t2 t4 (good k hk t2) (good l hl t4) _ ?_
      subst h14
      simp only [Tm.val, Tm.vals, Tm.valOf]
      simp
     ·refine Tryz.of_two x0 x1 x2 x3 d ih op o1 (by omega) k l v w hT hk hl t2 t4 (good k hk t2) (good l hl t4) _ ?_
      simp only [Tm.val, Tm.vals, Tm.valOf]
      rw [if_neg (show ¬ op = 1 by omega), if_neg (show ¬ op = 2 by omega), if_neg (show ¬ op = 3 by omega), if_neg (show ¬ op = 4 by omega), if_neg h13, if_neg h14]
end Go.Proofs
namespace Go.Proofs
open Go.RowKit
set_option maxHeartbeats 4000000 in
theorem Tryz.refAsk_any (d : Nat) (T : Tm) (v : Value) (t : Int) (x0 x1 x2 x3 : Int) (w : World) (hT : Tm.Lies w w.heap.size d v T) (hsz : T.size ≤ 2147483647) :
  Calls Tryz.prog 88 #[.agg #[.int .i64 T.op, .int .i64 T.num, v], .agg #[.int .i64 x0, .int .i64 x1, .int .i64 x2, .int .i64 x3], .int .i64 t] w fun e w' => e = .returned (.int .i64 (T.askR t (Tk.fitsB x0 x1 x2 x3))) ∧ Below w.heap.size w w' := by
 obtain ⟨a, cap, rfl⟩ := hT.shape
 obtain ⟨o, ho⟩ : ∃ o, T.op = o := ⟨_, rfl⟩
 obtain ⟨m, hm⟩ : ∃ m, T.num = m := ⟨_, rfl⟩
 obtain ⟨n, hn⟩ : ∃ n, T.ks.length = n := ⟨_, rfl⟩
 rw [ho, hm, hn]
 rw [hn] at hT
 obtain ⟨w0, hw0⟩ : ∃ w0, (w.alloc (.cells #[.int .i64 o, .int .i64 m, .slice a n cap] 68)).alloc (.cells #[.int .i64 x0, .int .i64 x1, .int .i64 x2, .int .i64 x3] 27) = w0 := ⟨_, rfl⟩
 have A0 : Below w.heap.size w w0 := by rw [← hw0]; exact ((Below.refl _ w).alloc (Nat.le_refl _) _).alloc (by simp) _
 have C1 : w0.heap[w.heap.size + 1]? = some (.cells #[.int .i64 x0, .int .i64 x1, .int .i64 x2, .int .i64 x3] 27 (0, 0)) := by
  rw [← hw0]
  have := heap_alloc_new (w.alloc (.cells #[.int .i64 o, .int .i64 m, .slice a n cap] 68)) (.cells #[.int .i64 x0, .int .i64 x1, .int .i64 x2, .int .i64 x3] 27)
  simpa using this
 have h1 := Tryz.refCheck_any d T (.slice a n cap) w0 ((hT.below A0).wider A0.size) hsz
 rw [ho, hm] at h1
 have HR : Hid (∀ f, T.askR t f = if T.checkR.2 ≠ 0 then T.checkR.2 else if T.checkR.1 ≠ t then 30 else if f = false then 1 else 0) := fun f => rfl
 obtain ⟨q, hq⟩ : ∃ q, T.checkR = q := ⟨_, rfl⟩
 rw [hq] at h1 HR
 obtain ⟨c1, c2⟩ := q
 have H1 : Hid _ := h1
 have HA : Hid (Below w.heap.size w w0) := A0
 have HC1 : Hid _ := C1
 have HW0 : Hid ((w.alloc (.cells #[.int .i64 o, .int .i64 m, .slice a n cap] 68)).alloc (.cells #[.int .i64 x0, .int .i64 x1, .int .i64 x2, .int .i64 x3] 27) = w0) := hw0
 have hu := Tryz.underlying27
 clear hw0 h1 hT ho hm A0 C1 hn hq
 go_enter Tryz.func88, Tryz.ntmps88
 go_wp2_with fail
 rw [HW0.out]
 refine Calls.mono H1.out ?_
 rintro e W1 ⟨rfl, b1⟩
 have B1 : Hid (Below w.heap.size w W1) := HA.out.trans (b1.mono HA.out.size)
 have hbx : W1.heap[w.heap.size + 1]? = some (.cells #[.int .i64 x0, .int .i64 x1, .int .i64 x2, .int .i64 x3] 27 (0, 0)) := by
  rw [b1.block _ (Array.getElem?_eq_some_iff.1 HC1.out).1]; exact HC1.out
 clear b1 H1 HW0
 by_cases h2 : c2 = 0
 ·subst h2
  by_cases h3 : c1 = t
  ·subst h3
   have e1 := hbx
   go_wp2_with (refine wpList_load_row rfl 27 _ rfl _ rfl 27 _ (0, 0) _ hbx hu rfl (by kernel_rfl) ?_)
   go_wp2_with fail
   refine Calls.mono (Tryz.refFits_any x0 x1 x2 x3 _) ?_
   rintro e W2 ⟨rfl, b2⟩
   have B2 : Hid (Below w.heap.size w W2) := B1.out.trans (b2.mono B1.out.size)
   clear b2 hbx e1
   obtain ⟨fb, hfb⟩ : ∃ f, Tk.fitsB x0 x1 x2 x3 = f := ⟨_, rfl⟩
   have HX : Hid (T.askR c1 (Tk.fitsB x0 x1 x2 x3) = if fb = false then 1 else 0) := by show _ = _; rw [HR.out, hfb]; simp
   rw [hfb]
   clear HR hfb
   cases fb
   all_goals
    go_wp2
    go_ret
    exact ⟨by rw [HX.out]; rfl, B2.out⟩
  ·have hne : (c1 != t) = true := by simpa using h3
   have HX : Hid (T.askR t (Tk.fitsB x0 x1 x2 x3) = 30) := by show _ = _; rw [HR.out]; simp [h3]
   clear h3 HR
   go_wp2
   go_ret
   exact ⟨by rw [HX.out]; rfl, B1.out⟩
 ·have hne : (c2 != 0) = true := by simpa using h2
  have HX : Hid (T.askR t (Tk.fitsB x0 x1 x2 x3) = c2) := by show _ = _; rw [HR.out]; simp [h2]
  clear h2 HR
  go_wp2
  go_ret
  exact ⟨by rw [HX.out]; rfl, B1.out⟩
set_option maxHeartbeats 4000000 in
theorem Tryz.refNumber_any (d : Nat) (T : Tm) (v : Value) (x0 x1 x2 x3 : Int) (w : World) (hT : Tm.Lies w w.heap.size d v T) (hsz : T.size ≤ 2147483647) :
  Calls Tryz.prog 66 #[.agg #[.int .i64 T.op, .int .i64 T.num, v], .agg #[.int .i64 x0, .int .i64 x1, .int .i64 x2, .int .i64 x3]] w fun e w' => e = .returned (.tuple #[.int .i64 (T.numR x0 x1 x2 x3).1, .int .i64 (T.numR x0 x1 x2 x3).2]) ∧ Below w.heap.size w w' := by
 obtain ⟨a, cap, rfl⟩ := hT.shape
 obtain ⟨o, ho⟩ : ∃ o, T.op = o := ⟨_, rfl⟩
 obtain ⟨m, hm⟩ : ∃ m, T.num = m := ⟨_, rfl⟩
 obtain ⟨n, hn⟩ : ∃ n, T.ks.length = n := ⟨_, rfl⟩
 rw [ho, hm, hn]
 rw [hn] at hT
 obtain ⟨w0, hw0⟩ : ∃ w0, (w.alloc (.cells #[.int .i64 o, .int .i64 m, .slice a n cap] 68)).alloc (.cells #[.int .i64 x0, .int .i64 x1, .int .i64 x2, .int .i64 x3] 27) = w0 := ⟨_, rfl⟩
 have A0 : Below w.heap.size w w0 := by rw [← hw0]; exact ((Below.refl _ w).alloc (Nat.le_refl _) _).alloc (by simp) _
 have C0 : w0.heap[w.heap.size]? = some (.cells #[.int .i64 o, .int .i64 m, .slice a n cap] 68 (0, 0)) := by rw [← hw0, Below.heap_alloc _ _ _ (by simp)]; exact heap_alloc_new w _
 have C1 : w0.heap[w.heap.size + 1]? = some (.cells #[.int .i64 x0, .int .i64 x1, .int .i64 x2, .int .i64 x3] 27 (0, 0)) := by
  rw [← hw0]
  have := heap_alloc_new (w.alloc (.cells #[.int .i64 o, .int .i64 m, .slice a n cap] 68)) (.cells #[.int .i64 x0, .int .i64 x1, .int .i64 x2, .int .i64 x3] 27)
  simpa using this
 have h1 := Tryz.refAsk_any d T (.slice a n cap) 1 x0 x1 x2 x3 w0 ((hT.below A0).wider A0.size) hsz
 have HR : Hid (T.numR x0 x1 x2 x3 = if T.askR 1 (Tk.fitsB x0 x1 x2 x3) ≠ 0 then (0, T.askR 1 (Tk.fitsB x0 x1 x2 x3)) else ((T.val (Tk.vget x0 x1 x2 x3)).1, (T.val (Tk.vget x0 x1 x2 x3)).2.2)) := rfl
 obtain ⟨r, hr⟩ : ∃ r, T.askR 1 (Tk.fitsB x0 x1 x2 x3) = r := ⟨_, rfl⟩
 rw [ho, hm, hr] at h1
 rw [hr] at HR
 have H1 : Hid _ := h1
 have HA : Hid (Below w.heap.size w w0) := A0
 have HC0 : Hid _ := C0
 have HC1 : Hid _ := C1
 have HM : Hid (T.op = o ∧ T.num = m ∧ T.askR 1 (Tk.fitsB x0 x1 x2 x3) = r) := ⟨ho, hm, hr⟩
 have HT : Hid (Tm.Lies w w.heap.size d (.slice a n cap) T) := hT
 have HW0 : Hid ((w.alloc (.cells #[.int .i64 o, .int .i64 m, .slice a n cap] 68)).alloc (.cells #[.int .i64 x0, .int .i64 x1, .int .i64 x2, .int .i64 x3] 27) = w0) := hw0
 have hu := Tryz.underlying27
 have hu2 := Tryz.underlying68
 clear hw0 h1 hT ho hm A0 C0 C1 hn hr
 go_enter Tryz.func66, Tryz.ntmps66
 go_wp2_with fail
 rw [HW0.out]
 refine Calls.mono H1.out ?_
 rintro e W1 ⟨rfl, b1⟩
 have B1 : Hid (Below w.heap.size w W1) := HA.out.trans (b1.mono HA.out.size)
 have hbx : W1.heap[w.heap.size + 1]? = some (.cells #[.int .i64 x0, .int .i64 x1, .int .i64 x2, .int .i64 x3] 27 (0, 0)) := by
  rw [b1.block _ (Array.getElem?_eq_some_iff.1 HC1.out).1]; exact HC1.out
 have hby : W1.heap[w.heap.size]? = some (.cells #[.int .i64 o, .int .i64 m, .slice a n cap] 68 (0, 0)) := by
  rw [b1.block _ (Array.getElem?_eq_some_iff.1 HC0.out).1]; exact HC0.out
 clear b1 H1 HW0
 by_cases h2 : r = 0
 ·subst h2
  obtain ⟨hc, hf⟩ := Tm.ask_zero HM.out.2.2
  obtain ⟨_, p2, p3, p4⟩ := Tm.check_ok hc
  have h3 := Tryz.of_any x0 x1 x2 x3 hf d T (.slice a n cap) W1 ((HT.out.below B1.out).wider B1.out.size) p2 p3
  rw [HM.out.1, HM.out.2.1] at h3
  obtain ⟨⟨r1, r2, r3⟩, hr⟩ : ∃ q, T.val (Tk.vget x0 x1 x2 x3) = q := ⟨_, rfl⟩
  rw [hr] at h3 HR
  have H3 : Hid _ := h3
  have HX : Hid (T.numR x0 x1 x2 x3 = (r1, r3)) := by have := HR.out; show _ = _; simpa using this
  clear h3 hc hf p2 p3 p4 HR hr
  go_wp2_with (first | (refine wpList_load_row rfl 68 _ rfl _ rfl 68 _ (0, 0) _ hby hu2 rfl (by kernel_rfl) ?_) | (refine wpList_load_row rfl 27 _ rfl _ rfl 27 _ (0, 0) _ hbx hu rfl (by kernel_rfl) ?_))
  go_wp2_with fail
  refine Calls.mono H3.out ?_
  rintro e W2 ⟨rfl, b2⟩
  have B2 : Hid (Below w.heap.size w W2) := B1.out.trans (b2.mono B1.out.size)
  have B3 : Hid (Below w.heap.size w (W2.alloc (.cells #[.int .i64 r1, .bool r2, .int .i64 r3] 136))) := B2.out.alloc B2.out.size _
  clear b2 hbx hby H3
  go_wp2
  go_quiet (fail)
  go_wp2
  go_ret2
  exact ⟨by rw [HX.out]; rfl, by first | exact B3.out.drew | exact Tk.below_drewN B3.out _⟩
 ·have hne : (r != 0) = true := by simpa using h2
  have HX : Hid (T.numR x0 x1 x2 x3 = (0, r)) := by have := HR.out; show _ = _; simpa [h2] using this
  clear h2 HR
  go_wp2
  go_ret2
  exact ⟨by rw [HX.out]; rfl, B1.out⟩
set_option maxHeartbeats 4000000 in
theorem Tryz.refTruth4_any (d : Nat) (T : Tm) (v : Value) (x0 x1 x2 x3 : Int) (w : World) (hT : Tm.Lies w w.heap.size d v T) (hsz : T.size ≤ 2147483647) :
  Calls Tryz.prog 90 #[.agg #[.int .i64 T.op, .int .i64 T.num, v], .agg #[.int .i64 x0, .int .i64 x1, .int .i64 x2, .int .i64 x3]] w fun e w' => e = .returned (.tuple #[.bool (T.truR x0 x1 x2 x3).1, .int .i64 (T.truR x0 x1 x2 x3).2]) ∧ Below w.heap.size w w' := by
 obtain ⟨a, cap, rfl⟩ := hT.shape
 obtain ⟨o, ho⟩ : ∃ o, T.op = o := ⟨_, rfl⟩
 obtain ⟨m, hm⟩ : ∃ m, T.num = m := ⟨_, rfl⟩
 obtain ⟨n, hn⟩ : ∃ n, T.ks.length = n := ⟨_, rfl⟩
 rw [ho, hm, hn]
 rw [hn] at hT
 obtain ⟨w0, hw0⟩ : ∃ w0, (w.alloc (.cells #[.int .i64 o, .int .i64 m, .slice a n cap] 68)).alloc (.cells #[.int .i64 x0, .int .i64 x1, .int .i64 x2, .int .i64 x3] 27) = w0 := ⟨_, rfl⟩
 have A0 : Below w.heap.size w w0 := by rw [← hw0]; exact ((Below.refl _ w).alloc (Nat.le_refl _) _).alloc (by simp) _
 have C0 : w0.heap[w.heap.size]? = some (.cells #[.int .i64 o, .int .i64 m, .slice a n cap] 68 (0, 0)) := by rw [← hw0, Below.heap_alloc _ _ _ (by simp)]; exact heap_alloc_new w _
 have C1 : w0.heap[w.heap.size + 1]? = some (.cells #[.int .i64 x0, .int .i64 x1, .int .i64 x2, .int .i64 x3] 27 (0, 0)) := by
  rw [← hw0]
  have := heap_alloc_new (w.alloc (.cells #[.int .i64 o, .int .i64 m, .slice a n cap] 68)) (.cells #[.int .i64 x0, .int .i64 x1, .int .i64 x2, .int .i64 x3] 27)
  simpa using this
 have h1 := Tryz.refAsk_any d T (.slice a n cap) 2 x0 x1 x2 x3 w0 ((hT.below A0).wider A0.size) hsz
 have HR : Hid (T.truR x0 x1 x2 x3 = if T.askR 2 (Tk.fitsB x0 x1 x2 x3) ≠ 0 then (false, T.askR 2 (Tk.fitsB x0 x1 x2 x3)) else ((T.val (Tk.vget x0 x1 x2 x3)).2.1, (T.val (Tk.vget x0 x1 x2 x3)).2.2)) := rfl
 obtain ⟨r, hr⟩ : ∃ r, T.askR 2 (Tk.fitsB x0 x1 x2 x3) = r := ⟨_, rfl⟩
 rw [ho, hm, hr] at h1
 rw [hr] at HR
 have H1 : Hid _ := h1
 have HA : Hid (Below w.heap.size w w0) := A0
 have HC0 : Hid _ := C0
 have HC1 : Hid _ := C1
 have HM : Hid (T.op = o ∧ T.num = m ∧ T.askR 2 (Tk.fitsB x0 x1 x2 x3) = r) := ⟨ho, hm, hr⟩
 have HT : Hid (Tm.Lies w w.heap.size d (.slice a n cap) T) := hT
 have HW0 : Hid ((w.alloc (.cells #[.int .i64 o, .int .i64 m, .slice a n cap] 68)).alloc (.cells #[.int .i64 x0, .int .i64 x1, .int .i64 x2, .int .i64 x3] 27) = w0) := hw0
 have hu := Tryz.underlying27
 have hu2 := Tryz.underlying68
 clear hw0 h1 hT ho hm A0 C0 C1 hn hr
 go_enter Tryz.func90, Tryz.ntmps90
 go_wp2_with fail
 rw [HW0.out]
 refine Calls.mono H1.out ?_
 rintro e W1 ⟨rfl, b1⟩
 have B1 : Hid (Below w.heap.size w W1) := HA.out.trans (b1.mono HA.out.size)
 have hbx : W1.heap[w.heap.size + 1]? = some (.cells #[.int .i64 x0, .int .i64 x1, .int .i64 x2, .int .i64 x3] 27 (0, 0)) := by
  rw [b1.block _ (Array.getElem?_eq_some_iff.1 HC1.out).1]; exact HC1.out
 have hby : W1.heap[w.heap.size]? = some (.cells #[.int .i64 o, .int .i64 m, .slice a n cap] 68 (0, 0)) := by
  rw [b1.block _ (Array.getElem?_eq_some_iff.1 HC0.out).1]; exact HC0.out
 clear b1 H1 HW0
 by_cases h2 : r = 0
 ·subst h2
  obtain ⟨hc, hf⟩ := Tm.ask_zero HM.out.2.2
  obtain ⟨_, p2, p3, p4⟩ := Tm.check_ok hc
  have h3 := Tryz.of_any x0 x1 x2 x3 hf d T (.slice a n cap) W1 ((HT.out.below B1.out).wider B1.out.size) p2 p3
  rw [HM.out.1, HM.out.2.1] at h3
  obtain ⟨⟨r1, r2, r3⟩, hr⟩ : ∃ q, T.val (Tk.vget x0 x1 x2 x3) = q := ⟨_, rfl⟩
  rw [hr] at h3 HR
  have H3 : Hid _ := h3
  have HX : Hid (T.truR x0 x1 x2 x3 = (r2, r3)) := by have := HR.out; show _ = _; simpa using this
  clear h3 hc hf p2 p3 p4 HR hr
  go_wp2_with (first | (refine wpList_load_row rfl 68 _ rfl _ rfl 68 _ (0, 0) _ hby hu2 rfl (by kernel_rfl) ?_) | (refine wpList_load_row rfl 27 _ rfl _ rfl 27 _ (0, 0) _ hbx hu rfl (by kernel_rfl) ?_))
  go_wp2_with fail
  refine Calls.mono H3.out ?_
  rintro e W2 ⟨rfl, b2⟩
  have B2 : Hid (Below w.heap.size w W2) := B1.out.trans (b2.mono B1.out.size)
  have B3 : Hid (Below w.heap.size w (W2.alloc (.cells #[.int .i64 r1, .bool r2, .int .i64 r3] 136))) := B2.out.alloc B2.out.size _
  clear b2 hbx hby H3
  go_wp2
  go_quiet (fail)
  go_wp2
  go_ret2
  exact ⟨by rw [HX.out]; rfl, by first | exact B3.out.drew | exact Tk.below_drewN B3.out _⟩
 ·have hne : (r != 0) = true := by simpa using h2
  have HX : Hid (T.truR x0 x1 x2 x3 = (false, r)) := by have := HR.out; show _ = _; simpa [h2] using this
  clear h2 HR
  go_wp2
  go_ret2
  exact ⟨by rw [HX.out]; rfl, B1.out⟩
end Go.Proofs
