import Derived.Test.YtndfbgfpnjnmlaaGreatDoorRGmDCatch
namespace Go.Proofs
open Go.RowKit
set_option maxHeartbeats 8000000 in
set_option maxRecDepth 20000 in
theorem Tryz.of_one (x0 x1 x2 x3 : Int) (d : Nat) (hN : Tk.OfOk x0 x1 x2 x3 d) (op : Int) (ho : op = 3 ∨ op = 4) (k : Tm) (v : Value) (w : World) (hT : Tm.Lies w w.heap.size (d + 1) v (.mk op 0 [k])) (hk : k.allForm = true) (tk : k.typedB = true) (hg1 : Tk.isNum (k.val (Tk.vget x0 x1 x2 x3)).1 = true) (r : Int × Bool × Int)
  (hr : r = if (k.val (Tk.vget x0 x1 x2 x3)).2.2 ≠ 0 then (0, false, (k.val (Tk.vget x0 x1 x2 x3)).2.2) else if op = 3 then (-(k.val (Tk.vget x0 x1 x2 x3)).1, false, 0) else (0, !(k.val (Tk.vget x0 x1 x2 x3)).2.1, 0)) :
  Calls Tryz.prog 89 #[.agg #[.int .i64 op, .int .i64 0, v], .agg #[.int .i64 x0, .int .i64 x1, .int .i64 x2, .int .i64 x3]] w fun e w' => e = .returned (.agg #[.int .i64 r.1, .bool r.2.1, .int .i64 r.2.2]) ∧ Below w.heap.size w w' := by
 obtain ⟨a, cap, rfl⟩ := hT.shape
 obtain ⟨g, off, u, rfl, hg, q0, q1, q2, q3⟩ := hT.kid 0 (by simp [Tm.ks])
 simp only [Tm.ks, List.getElem_cons_zero, List.length_cons, List.length_nil] at *
 obtain ⟨au, cu, rfl⟩ := q3.shape
 obtain ⟨nk, hnk⟩ : ∃ n, k.ks.length = n := ⟨_, rfl⟩
 obtain ⟨ok, hok⟩ : ∃ n, k.op = n := ⟨_, rfl⟩
 obtain ⟨mk', hmk⟩ : ∃ n, k.num = n := ⟨_, rfl⟩
 obtain ⟨va, hva⟩ : ∃ n, k.val (Tk.vget x0 x1 x2 x3) = n := ⟨_, rfl⟩
 rw [hnk] at q2 q3
 rw [hok] at q0
 rw [hmk] at q1
 rw [hva] at hr hg1
 obtain ⟨w0, hw0⟩ : ∃ w0, ((w.alloc (.cells #[.int .i64 op, .int .i64 0, .slice (some ⟨g, off, none⟩) 1 cap] 68)).alloc (.cells #[.int .i64 x0, .int .i64 x1, .int .i64 x2, .int .i64 x3] 27)).alloc (.cells #[.int .i64 0, .bool false, .int .i64 0] 136) = w0 := ⟨_, rfl⟩
 have A0 : Hid (Below w.heap.size w w0) := by show Below _ _ _; rw [← hw0]; exact (((Below.refl _ w).alloc (Nat.le_refl _) _).alloc (by simp) _).alloc (by simp; omega) _
 have CK : Hid (∀ W, Below w.heap.size w W → Below w0.heap.size w0 W → Calls Tryz.prog 89 #[.agg #[.int .i64 ok, .int .i64 mk', .slice au nk cu], .agg #[.int .i64 x0, .int .i64 x1, .int .i64 x2, .int .i64 x3]] W fun e w' => e = .returned (.agg #[.int .i64 va.1, .bool va.2.1, .int .i64 va.2.2]) ∧ Below w.heap.size w w' ∧ Below w0.heap.size w0 w') := by
  intro W hW hW0
  have := hN k (.slice au nk cu) W ((q3.below hW).wider hW.size) hk tk
  rw [hok, hmk, hva] at this
  exact this.mono fun e w' ⟨he, hb⟩ => ⟨he, hW.trans (hb.mono hW.size), hW0.trans (hb.mono hW0.size)⟩
 have CZ : Hid (∀ W, Below w.heap.size w W → Below w0.heap.size w0 W → W.heap[w0.heap.size]? = some (.cells #[.int .i64 0, .bool false, .int .i64 0] 136 (0, 0)) → Calls Tryz.prog 89 #[.agg #[.int .i64 ok, .int .i64 mk', .slice au nk cu], .agg #[.int .i64 x0, .int .i64 x1, .int .i64 x2, .int .i64 x3]] W fun e w' => e = .returned (.agg #[.int .i64 va.1, .bool va.2.1, .int .i64 va.2.2]) ∧ Below w.heap.size w w' ∧ Below w0.heap.size w0 w' ∧
   (w'.cell? ⟨w0.heap.size, 0, none⟩ = some (.int .i64 0) ∧ w'.cell? ⟨w0.heap.size, 1, none⟩ = some (.bool false) ∧ w'.cell? ⟨w0.heap.size, 2, none⟩ = some (.int .i64 0)) ∧ (w'.frozen? ⟨w0.heap.size, 0, none⟩ = false ∧ w'.frozen? ⟨w0.heap.size, 1, none⟩ = false ∧ w'.frozen? ⟨w0.heap.size, 2, none⟩ = false) ∧ w'.heap[w0.heap.size]? = some (.cells #[.int .i64 0, .bool false, .int .i64 0] 136 (0, 0))) := by
  intro W hW hW0 hz
  have := hN k (.slice au nk cu) W ((q3.below hW).wider hW.size) hk tk
  rw [hok, hmk, hva] at this
  refine this.mono fun e w' ⟨he, hb⟩ => ?_
  have hz' : w'.heap[w0.heap.size]? = some (.cells #[.int .i64 0, .bool false, .int .i64 0] 136 (0, 0)) := by rw [hb.block _ (Array.getElem?_eq_some_iff.1 hz).1]; exact hz
  exact ⟨he, hW.trans (hb.mono hW.size), hW0.trans (hb.mono hW0.size), by simp [World.cell?, hz'], by simp [World.frozen?, hz'], hz'⟩
 obtain ⟨a1, ab, a3⟩ := va
 have C0 : w0.heap[w.heap.size]? = some (.cells #[.int .i64 op, .int .i64 0, .slice (some ⟨g, off, none⟩) 1 cap] 68 (0, 0)) := by
  rw [← hw0, Below.heap_alloc _ _ _ (by simp; omega), Below.heap_alloc _ _ _ (by simp)]; exact heap_alloc_new w _
 have C1 : w0.heap[w.heap.size + 1]? = some (.cells #[.int .i64 x0, .int .i64 x1, .int .i64 x2, .int .i64 x3] 27 (0, 0)) := by
  rw [← hw0, Below.heap_alloc _ _ _ (by simp)]
  have := heap_alloc_new (w.alloc (.cells #[.int .i64 op, .int .i64 0, .slice (some ⟨g, off, none⟩) 1 cap] 68)) (.cells #[.int .i64 x0, .int .i64 x1, .int .i64 x2, .int .i64 x3] 27)
  simpa using this
 have C2 : w0.heap[w.heap.size + 2]? = some (.cells #[.int .i64 0, .bool false, .int .i64 0] 136 (0, 0)) := by
  rw [← hw0]
  have := heap_alloc_new ((w.alloc (.cells #[.int .i64 op, .int .i64 0, .slice (some ⟨g, off, none⟩) 1 cap] 68)).alloc (.cells #[.int .i64 x0, .int .i64 x1, .int .i64 x2, .int .i64 x3] 27)) (.cells #[.int .i64 0, .bool false, .int .i64 0] 136)
  simpa using this
 have HW0 : Hid (((w.alloc (.cells #[.int .i64 op, .int .i64 0, .slice (some ⟨g, off, none⟩) 1 cap] 68)).alloc (.cells #[.int .i64 x0, .int .i64 x1, .int .i64 x2, .int .i64 x3] 27)).alloc (.cells #[.int .i64 0, .bool false, .int .i64 0] 136) = w0) := hw0
 have HQ : Hid (w.cell? ⟨g, off, none⟩ = some (.int .i64 ok) ∧ w.cell? ⟨g, off + 1, none⟩ = some (.int .i64 mk') ∧ w.cell? ⟨g, off + 2, none⟩ = some (.slice au nk cu)) := ⟨by simpa using q0, by simpa using q1, by simpa using q2⟩
 have HG : Hid (g < w.heap.size) := hg
 have HC0 : Hid _ := C0
 have HC1 : Hid _ := C1
 have HC2 : Hid _ := C2
 have c0 : w0.cell? ⟨w.heap.size, 2, none⟩ = some (.slice (some ⟨g, off, none⟩) 1 cap) := by simp [World.cell?, C0]
 have o0 : w0.cell? ⟨w.heap.size, 0, none⟩ = some (.int .i64 op) := by simp [World.cell?, C0]
 have d0 : w0.cell? ⟨w.heap.size + 1, 0, none⟩ = some (.int .i64 x0) := by simp [World.cell?, C1]
 have d1 : w0.cell? ⟨w.heap.size + 1, 1, none⟩ = some (.int .i64 x1) := by simp [World.cell?, C1]
 have d2 : w0.cell? ⟨w.heap.size + 1, 2, none⟩ = some (.int .i64 x2) := by simp [World.cell?, C1]
 have d3 : w0.cell? ⟨w.heap.size + 1, 3, none⟩ = some (.int .i64 x3) := by simp [World.cell?, C1]
 have k0 : w0.cell? ⟨g, off, none⟩ = some (.int .i64 ok) := by rw [A0.out.cell (p := ⟨g, off, none⟩) hg]; exact HQ.out.1
 have k1 : w0.cell? ⟨g, off + 1, none⟩ = some (.int .i64 mk') := by rw [A0.out.cell (p := ⟨g, off + 1, none⟩) hg]; exact HQ.out.2.1
 have k2 : w0.cell? ⟨g, off + 2, none⟩ = some (.slice au nk cu) := by rw [A0.out.cell (p := ⟨g, off + 2, none⟩) hg]; exact HQ.out.2.2
 have e1 : (op == 1) = false := by simp; omega
 have e2 : (op == 2) = false := by simp; omega
 simp only at hr hg1 
 have HR : Hid (r = _) := hr
 have HN1 : Hid (-1099511627776 ≤ a1 ∧ a1 ≤ 1099511627776) := Tk.isNum_iff.1 hg1
 clear hT q0 q1 q2 q3 hg hw0 hva hok hmk hnk C0 C1 C2 hk tk hN hr hg1
 have A1 : Hid (Below w.heap.size w (w0.alloc (.cells #[.int .i64 0, .bool false, .int .i64 0] 136))) := A0.out.alloc A0.out.size _
 have D1 : Hid (Below w0.heap.size w0 (w0.alloc (.cells #[.int .i64 0, .bool false, .int .i64 0] 136))) := (Below.refl _ w0).alloc (Nat.le_refl _) _
 have Z1 : Hid ((w0.alloc (.cells #[.int .i64 0, .bool false, .int .i64 0] 136)).heap[w0.heap.size]? = some (.cells #[.int .i64 0, .bool false, .int .i64 0] 136 (0, 0))) := heap_alloc_new w0 _
 have HS0 : Hid (w.heap.size + 2 < w0.heap.size) := (Array.getElem?_eq_some_iff.1 HC2.out).1
 have zc : ∀ (b p : Nat), b < w0.heap.size → (w0.alloc (.cells #[.int .i64 0, .bool false, .int .i64 0] 136)).cell? ⟨b, p, none⟩ = w0.cell? ⟨b, p, none⟩ := fun b p hb => D1.out.cell (p := ⟨b, p, none⟩) hb
 have c0z := (zc (w.heap.size) 2 (by have := HS0.out; omega)).trans c0
 have d0z := (zc (w.heap.size + 1) 0 (by have := HS0.out; omega)).trans d0
 have d1z := (zc (w.heap.size + 1) 1 (by have := HS0.out; omega)).trans d1
 have d2z := (zc (w.heap.size + 1) 2 (by have := HS0.out; omega)).trans d2
 have d3z := (zc (w.heap.size + 1) 3 (by have := HS0.out; omega)).trans d3
 have k0z := (zc g off (by have := HS0.out; have := HG.out; omega)).trans k0
 have k1z := (zc g (off + 1) (by have := HS0.out; have := HG.out; omega)).trans k1
 have k2z := (zc g (off + 2) (by have := HS0.out; have := HG.out; omega)).trans k2
 clear zc
 go_enter Tryz.func89, Tryz.ntmps89
 go_upto_region 5 with fail
 rw [HW0.out]
 clear HW0
 go_cut [5] (fun s5 wx => ∃ q : Nat, s5 = .pointer (some ⟨q, 0, none⟩) ∧ Hid (Tk.Got1 w w0 a1 ab a3 q wx))
 case first =>
  go_region_with (first | (go_at_call 89; refine Calls.mono (CZ.out _ (by first | exact A1.out | exact A1.out.drew | exact Tk.below_drewN A1.out _) (by first | exact D1.out | exact D1.out.drew | exact Tk.below_drewN D1.out _) (by exact Z1.out)) ?_; rintro e W3 ⟨rfl, b3, c3, ⟨z0, z1, z2⟩, ⟨y0, y1, y2⟩, z3⟩) | (go_at_call 89; refine Calls.mono (CK.out _ (by first | exact A0.out | exact A0.out.drew | exact Tk.below_drewN A0.out _) (by first | exact Below.refl _ _ | exact (Below.refl _ w0).drew | exact Tk.below_drewN (Below.refl _ w0) _)) ?_; rintro e W3 ⟨rfl, b3, c3⟩) | fail)
  all_goals (go_wp2_with fail; go_meet; first | exact ⟨_, rfl, Tk.Got1.late A0.out.size b3 c3⟩ | exact ⟨_, rfl, Tk.Got1.early A0.out.size b3 c3 z3⟩)
 case rest =>
 rename World => w1
 obtain ⟨q, rfl, HG1⟩ := hcut
 clear c0 o0 d0 d1 d2 d3 k0 k1 k2 c0z d0z d1z d2z d3z k0z k1z k2z A1 D1 Z1 CK CZ HQ
 have HC3 : Hid (w1.heap[w.heap.size]? = some (.cells #[.int .i64 op, .int .i64 0, .slice (some ⟨g, off, none⟩) 1 cap] 68 (0, 0))) := by show _ = _; rw [HG1.out.b0.block _ (by have := HS0.out; omega)]; exact HC0.out
 have HX3 : Hid (w1.heap[w.heap.size + 1]? = some (.cells #[.int .i64 x0, .int .i64 x1, .int .i64 x2, .int .i64 x3] 27 (0, 0))) := by show _ = _; rw [HG1.out.b0.block _ (by have := HS0.out; omega)]; exact HC1.out
 have HRES : Hid (w1.heap[w.heap.size + 2]? = some (.cells #[.int .i64 0, .bool false, .int .i64 0] 136 (0, 0))) := by show _ = _; rw [HG1.out.b0.block _ (by have := HS0.out; omega)]; exact HC2.out
 have o0' : w1.cell? ⟨w.heap.size, 0, none⟩ = some (.int .i64 op) := by have := HC3.out; simp [World.cell?, this]
 have v0' : w1.cell? ⟨q, 0, none⟩ = some (.int .i64 a1) := by have := HG1.out.box; simp [World.cell?, this]
 have v1' : w1.cell? ⟨q, 1, none⟩ = some (.bool ab) := by have := HG1.out.box; simp [World.cell?, this]
 have v2' : w1.cell? ⟨q, 2, none⟩ = some (.int .i64 a3) := by have := HG1.out.box; simp [World.cell?, this]
 by_cases ha : a3 = 0
 ·subst ha
  obtain ⟨b1, b2⟩ := HN1.out
  rcases ho with rfl | rfl
  ·have HRR : Hid (r = (-a1, false, 0)) := by show r = _; rw [HR.out]; simp
   clear HR
   go_wp2_with (refine wpList_store_row rfl 136 _ _ rfl (w.heap.size + 2) _ rfl rfl 136 #[.int .i64 0, .bool false, .int .i64 0] (by exact HRES.out) (by kernel_rfl) rfl (by kernel_rfl) ?_)
   refine bodyPost_ret (v := .agg #[.int .i64 (-a1), .bool (false), .int .i64 (0)]) (results_cell_row Tryz.results89 _ _ (w.heap.size + 2) 136 #[.int .i64 (-a1), .bool (false), .int .i64 (0)] (0, 0) _ rfl (setRow_heap _ _ _ _ _ _ HRES.out) Tryz.underlying136 rfl (by kernel_rfl)) rfl ⟨Tk.ret_val (by rw [HRR.out]) (by rw [HRR.out]) (by rw [HRR.out]), Tk.below_setRow HG1.out.bw (by omega) _⟩
  ·have HRR : Hid (r = (0, !ab, 0)) := by show r = _; rw [HR.out]; simp
   clear HR
   go_wp2_with (refine wpList_store_row rfl 136 _ _ rfl (w.heap.size + 2) _ rfl rfl 136 #[.int .i64 0, .bool false, .int .i64 0] (by exact HRES.out) (by kernel_rfl) rfl (by kernel_rfl) ?_)
   refine bodyPost_ret (v := .agg #[.int .i64 (0), .bool (!ab), .int .i64 (0)]) (results_cell_row Tryz.results89 _ _ (w.heap.size + 2) 136 #[.int .i64 (0), .bool (!ab), .int .i64 (0)] (0, 0) _ rfl (setRow_heap _ _ _ _ _ _ HRES.out) Tryz.underlying136 rfl (by kernel_rfl)) rfl ⟨Tk.ret_val (by rw [HRR.out]) (by rw [HRR.out]) (by rw [HRR.out]), Tk.below_setRow HG1.out.bw (by omega) _⟩
 ·have hne : (a3 != 0) = true := by simpa using ha
  have HRR : Hid (r = (0, false, a3)) := by show r = _; rw [HR.out]; simp [ha]
  clear ha HR
  go_wp2_with (refine wpList_store_row rfl 136 _ _ rfl (w.heap.size + 2) _ rfl rfl 136 #[.int .i64 0, .bool false, .int .i64 0] (by exact HRES.out) (by kernel_rfl) rfl (by kernel_rfl) ?_)
  refine bodyPost_ret (v := .agg #[.int .i64 (0), .bool (false), .int .i64 (a3)]) (results_cell_row Tryz.results89 _ _ (w.heap.size + 2) 136 #[.int .i64 (0), .bool (false), .int .i64 (a3)] (0, 0) _ rfl (setRow_heap _ _ _ _ _ _ HRES.out) Tryz.underlying136 rfl (by kernel_rfl)) rfl ⟨Tk.ret_val (by rw [HRR.out]) (by rw [HRR.out]) (by rw [HRR.out]), Tk.below_setRow HG1.out.bw (by omega) _⟩
end Go.Proofs
namespace Go.Proofs
open Go.RowKit
set_option maxHeartbeats 8000000 in
set_option maxRecDepth 20000 in
theorem Tryz.of_and (x0 x1 x2 x3 : Int) (d : Nat) (hN : Tk.OfOk x0 x1 x2 x3 d) (op : Int) (ho : op = 13) (k l : Tm) (v : Value) (w : World) (hT : Tm.Lies w w.heap.size (d + 1) v (.mk op 0 [k, l])) (hk : k.allForm = true) (hl : l.allForm = true) (tk : k.typedB = true) (tl : l.typedB = true) (hg1 : Tk.isNum (k.val (Tk.vget x0 x1 x2 x3)).1 = true) (hg2 : Tk.isNum (l.val (Tk.vget x0 x1 x2 x3)).1 = true) (r : Int × Bool × Int)
  (hr : r = if (k.val (Tk.vget x0 x1 x2 x3)).2.2 ≠ 0 then (0, false, (k.val (Tk.vget x0 x1 x2 x3)).2.2) else if (k.val (Tk.vget x0 x1 x2 x3)).2.1 = false then (k.val (Tk.vget x0 x1 x2 x3)) else (l.val (Tk.vget x0 x1 x2 x3))) :
  Calls Tryz.prog 89 #[.agg #[.int .i64 op, .int .i64 0, v], .agg #[.int .i64 x0, .int .i64 x1, .int .i64 x2, .int .i64 x3]] w fun e w' => e = .returned (.agg #[.int .i64 r.1, .bool r.2.1, .int .i64 r.2.2]) ∧ Below w.heap.size w w' := by
 obtain ⟨a, cap, rfl⟩ := hT.shape
 obtain ⟨g, off, u, rfl, hg, q0, q1, q2, q3⟩ := hT.kid 0 (by simp [Tm.ks])
 obtain ⟨g', off', u', e', hg', p0, p1, p2, p3⟩ := hT.kid 1 (by simp [Tm.ks])
 simp only [Option.some.injEq, Addr.mk.injEq, and_true] at e'
 obtain ⟨rfl, rfl⟩ := e'
 simp only [Tm.ks, List.getElem_cons_zero, List.getElem_cons_succ, List.length_cons, List.length_nil] at *
 obtain ⟨au, cu, rfl⟩ := q3.shape
 obtain ⟨al, cl, rfl⟩ := p3.shape
 obtain ⟨nk, hnk⟩ : ∃ n, k.ks.length = n := ⟨_, rfl⟩
 obtain ⟨ok, hok⟩ : ∃ n, k.op = n := ⟨_, rfl⟩
 obtain ⟨mk', hmk⟩ : ∃ n, k.num = n := ⟨_, rfl⟩
 obtain ⟨va, hva⟩ : ∃ n, k.val (Tk.vget x0 x1 x2 x3) = n := ⟨_, rfl⟩
 rw [hnk] at q2 q3
 rw [hok] at q0
 rw [hmk] at q1
 rw [hva] at hr hg1
 obtain ⟨nl, hnl⟩ : ∃ n, l.ks.length = n := ⟨_, rfl⟩
 obtain ⟨ol, hol⟩ : ∃ n, l.op = n := ⟨_, rfl⟩
 obtain ⟨ml, hml⟩ : ∃ n, l.num = n := ⟨_, rfl⟩
 obtain ⟨vb, hvb⟩ : ∃ n, l.val (Tk.vget x0 x1 x2 x3) = n := ⟨_, rfl⟩
 rw [hnl] at p2 p3
 rw [hol] at p0
 rw [hml] at p1
 rw [hvb] at hr hg2
 obtain ⟨w0, hw0⟩ : ∃ w0, ((w.alloc (.cells #[.int .i64 op, .int .i64 0, .slice (some ⟨g, off, none⟩) 2 cap] 68)).alloc (.cells #[.int .i64 x0, .int .i64 x1, .int .i64 x2, .int .i64 x3] 27)).alloc (.cells #[.int .i64 0, .bool false, .int .i64 0] 136) = w0 := ⟨_, rfl⟩
 have A0 : Hid (Below w.heap.size w w0) := by show Below _ _ _; rw [← hw0]; exact (((Below.refl _ w).alloc (Nat.le_refl _) _).alloc (by simp) _).alloc (by simp; omega) _
 have CK : Hid (∀ W, Below w.heap.size w W → Below w0.heap.size w0 W → Calls Tryz.prog 89 #[.agg #[.int .i64 ok, .int .i64 mk', .slice au nk cu], .agg #[.int .i64 x0, .int .i64 x1, .int .i64 x2, .int .i64 x3]] W fun e w' => e = .returned (.agg #[.int .i64 va.1, .bool va.2.1, .int .i64 va.2.2]) ∧ Below w.heap.size w w' ∧ Below w0.heap.size w0 w') := by
  intro W hW hW0
  have := hN k (.slice au nk cu) W ((q3.below hW).wider hW.size) hk tk
  rw [hok, hmk, hva] at this
  exact this.mono fun e w' ⟨he, hb⟩ => ⟨he, hW.trans (hb.mono hW.size), hW0.trans (hb.mono hW0.size)⟩
 have CZ : Hid (∀ W, Below w.heap.size w W → Below w0.heap.size w0 W → W.heap[w0.heap.size]? = some (.cells #[.int .i64 0, .bool false, .int .i64 0] 136 (0, 0)) → Calls Tryz.prog 89 #[.agg #[.int .i64 ok, .int .i64 mk', .slice au nk cu], .agg #[.int .i64 x0, .int .i64 x1, .int .i64 x2, .int .i64 x3]] W fun e w' => e = .returned (.agg #[.int .i64 va.1, .bool va.2.1, .int .i64 va.2.2]) ∧ Below w.heap.size w w' ∧ Below w0.heap.size w0 w' ∧
   (w'.cell? ⟨w0.heap.size, 0, none⟩ = some (.int .i64 0) ∧ w'.cell? ⟨w0.heap.size, 1, none⟩ = some (.bool false) ∧ w'.cell? ⟨w0.heap.size, 2, none⟩ = some (.int .i64 0)) ∧ (w'.frozen? ⟨w0.heap.size, 0, none⟩ = false ∧ w'.frozen? ⟨w0.heap.size, 1, none⟩ = false ∧ w'.frozen? ⟨w0.heap.size, 2, none⟩ = false) ∧ w'.heap[w0.heap.size]? = some (.cells #[.int .i64 0, .bool false, .int .i64 0] 136 (0, 0))) := by
  intro W hW hW0 hz
  have := hN k (.slice au nk cu) W ((q3.below hW).wider hW.size) hk tk
  rw [hok, hmk, hva] at this
  refine this.mono fun e w' ⟨he, hb⟩ => ?_
  have hz' : w'.heap[w0.heap.size]? = some (.cells #[.int .i64 0, .bool false, .int .i64 0] 136 (0, 0)) := by rw [hb.block _ (Array.getElem?_eq_some_iff.1 hz).1]; exact hz
  exact ⟨he, hW.trans (hb.mono hW.size), hW0.trans (hb.mono hW0.size), by simp [World.cell?, hz'], by simp [World.frozen?, hz'], hz'⟩
 have CL : Hid (∀ W, Below w.heap.size w W → Calls Tryz.prog 89 #[.agg #[.int .i64 ol, .int .i64 ml, .slice al nl cl], .agg #[.int .i64 x0, .int .i64 x1, .int .i64 x2, .int .i64 x3]] W fun e w' => e = .returned (.agg #[.int .i64 vb.1, .bool vb.2.1, .int .i64 vb.2.2]) ∧ Below W.heap.size W w') := by
  intro W hW
  have := hN l (.slice al nl cl) W ((p3.below hW).wider hW.size) hl tl
  rw [hol, hml, hvb] at this
  exact this
 obtain ⟨a1, ab, a3⟩ := va
 obtain ⟨f1, fb, f3⟩ := vb
 have C0 : w0.heap[w.heap.size]? = some (.cells #[.int .i64 op, .int .i64 0, .slice (some ⟨g, off, none⟩) 2 cap] 68 (0, 0)) := by
  rw [← hw0, Below.heap_alloc _ _ _ (by simp; omega), Below.heap_alloc _ _ _ (by simp)]; exact heap_alloc_new w _
 have C1 : w0.heap[w.heap.size + 1]? = some (.cells #[.int .i64 x0, .int .i64 x1, .int .i64 x2, .int .i64 x3] 27 (0, 0)) := by
  rw [← hw0, Below.heap_alloc _ _ _ (by simp)]
  have := heap_alloc_new (w.alloc (.cells #[.int .i64 op, .int .i64 0, .slice (some ⟨g, off, none⟩) 2 cap] 68)) (.cells #[.int .i64 x0, .int .i64 x1, .int .i64 x2, .int .i64 x3] 27)
  simpa using this
 have C2 : w0.heap[w.heap.size + 2]? = some (.cells #[.int .i64 0, .bool false, .int .i64 0] 136 (0, 0)) := by
  rw [← hw0]
  have := heap_alloc_new ((w.alloc (.cells #[.int .i64 op, .int .i64 0, .slice (some ⟨g, off, none⟩) 2 cap] 68)).alloc (.cells #[.int .i64 x0, .int .i64 x1, .int .i64 x2, .int .i64 x3] 27)) (.cells #[.int .i64 0, .bool false, .int .i64 0] 136)
  simpa using this
 have HW0 : Hid (((w.alloc (.cells #[.int .i64 op, .int .i64 0, .slice (some ⟨g, off, none⟩) 2 cap] 68)).alloc (.cells #[.int .i64 x0, .int .i64 x1, .int .i64 x2, .int .i64 x3] 27)).alloc (.cells #[.int .i64 0, .bool false, .int .i64 0] 136) = w0) := hw0
 have HQ : Hid (w.cell? ⟨g, off, none⟩ = some (.int .i64 ok) ∧ w.cell? ⟨g, off + 1, none⟩ = some (.int .i64 mk') ∧ w.cell? ⟨g, off + 2, none⟩ = some (.slice au nk cu)) := ⟨by simpa using q0, by simpa using q1, by simpa using q2⟩
 have HP : Hid (w.cell? ⟨g, off + 3, none⟩ = some (.int .i64 ol) ∧ w.cell? ⟨g, off + 4, none⟩ = some (.int .i64 ml) ∧ w.cell? ⟨g, off + 5, none⟩ = some (.slice al nl cl)) := ⟨by simpa using p0, by simpa using p1, by simpa using p2⟩
 have HG : Hid (g < w.heap.size) := hg
 have HC0 : Hid _ := C0
 have HC1 : Hid _ := C1
 have HC2 : Hid _ := C2
 have c0 : w0.cell? ⟨w.heap.size, 2, none⟩ = some (.slice (some ⟨g, off, none⟩) 2 cap) := by simp [World.cell?, C0]
 have o0 : w0.cell? ⟨w.heap.size, 0, none⟩ = some (.int .i64 op) := by simp [World.cell?, C0]
 have d0 : w0.cell? ⟨w.heap.size + 1, 0, none⟩ = some (.int .i64 x0) := by simp [World.cell?, C1]
 have d1 : w0.cell? ⟨w.heap.size + 1, 1, none⟩ = some (.int .i64 x1) := by simp [World.cell?, C1]
 have d2 : w0.cell? ⟨w.heap.size + 1, 2, none⟩ = some (.int .i64 x2) := by simp [World.cell?, C1]
 have d3 : w0.cell? ⟨w.heap.size + 1, 3, none⟩ = some (.int .i64 x3) := by simp [World.cell?, C1]
 have k0 : w0.cell? ⟨g, off, none⟩ = some (.int .i64 ok) := by rw [A0.out.cell (p := ⟨g, off, none⟩) hg]; exact HQ.out.1
 have k1 : w0.cell? ⟨g, off + 1, none⟩ = some (.int .i64 mk') := by rw [A0.out.cell (p := ⟨g, off + 1, none⟩) hg]; exact HQ.out.2.1
 have k2 : w0.cell? ⟨g, off + 2, none⟩ = some (.slice au nk cu) := by rw [A0.out.cell (p := ⟨g, off + 2, none⟩) hg]; exact HQ.out.2.2
 have e1 : (op == 1) = false := by simp; omega
 have e2 : (op == 2) = false := by simp; omega
 simp only at hr hg1 hg2
 have HR : Hid (r = _) := hr
 have HOP : Hid (op = 13) := ho
 clear ho
 have HN1 : Hid (-1099511627776 ≤ a1 ∧ a1 ≤ 1099511627776) := Tk.isNum_iff.1 hg1
 have HN2 : Hid (-1099511627776 ≤ f1 ∧ f1 ≤ 1099511627776) := Tk.isNum_iff.1 hg2
 clear p0 p1 p2 p3 hg' hl tl hg2 hvb hol hml hnl
 clear hT q0 q1 q2 q3 hg hw0 hva hok hmk hnk C0 C1 C2 hk tk hN hr hg1
 have A1 : Hid (Below w.heap.size w (w0.alloc (.cells #[.int .i64 0, .bool false, .int .i64 0] 136))) := A0.out.alloc A0.out.size _
 have D1 : Hid (Below w0.heap.size w0 (w0.alloc (.cells #[.int .i64 0, .bool false, .int .i64 0] 136))) := (Below.refl _ w0).alloc (Nat.le_refl _) _
 have Z1 : Hid ((w0.alloc (.cells #[.int .i64 0, .bool false, .int .i64 0] 136)).heap[w0.heap.size]? = some (.cells #[.int .i64 0, .bool false, .int .i64 0] 136 (0, 0))) := heap_alloc_new w0 _
 have HS0 : Hid (w.heap.size + 2 < w0.heap.size) := (Array.getElem?_eq_some_iff.1 HC2.out).1
 have zc : ∀ (b p : Nat), b < w0.heap.size → (w0.alloc (.cells #[.int .i64 0, .bool false, .int .i64 0] 136)).cell? ⟨b, p, none⟩ = w0.cell? ⟨b, p, none⟩ := fun b p hb => D1.out.cell (p := ⟨b, p, none⟩) hb
 have c0z := (zc (w.heap.size) 2 (by have := HS0.out; omega)).trans c0
 have d0z := (zc (w.heap.size + 1) 0 (by have := HS0.out; omega)).trans d0
 have d1z := (zc (w.heap.size + 1) 1 (by have := HS0.out; omega)).trans d1
 have d2z := (zc (w.heap.size + 1) 2 (by have := HS0.out; omega)).trans d2
 have d3z := (zc (w.heap.size + 1) 3 (by have := HS0.out; omega)).trans d3
 have k0z := (zc g off (by have := HS0.out; have := HG.out; omega)).trans k0
 have k1z := (zc g (off + 1) (by have := HS0.out; have := HG.out; omega)).trans k1
 have k2z := (zc g (off + 2) (by have := HS0.out; have := HG.out; omega)).trans k2
 clear zc
 go_enter Tryz.func89, Tryz.ntmps89
 go_upto_region 5 with fail
 rw [HW0.out]
 clear HW0
 go_cut [5] (fun s5 wx => ∃ q : Nat, s5 = .pointer (some ⟨q, 0, none⟩) ∧ Hid (Tk.Got1 w w0 a1 ab a3 q wx))
 case first =>
  go_region_with (first | (go_at_call 89; refine Calls.mono (CZ.out _ (by first | exact A1.out | exact A1.out.drew | exact Tk.below_drewN A1.out _) (by first | exact D1.out | exact D1.out.drew | exact Tk.below_drewN D1.out _) (by exact Z1.out)) ?_; rintro e W3 ⟨rfl, b3, c3, ⟨z0, z1, z2⟩, ⟨y0, y1, y2⟩, z3⟩) | (go_at_call 89; refine Calls.mono (CK.out _ (by first | exact A0.out | exact A0.out.drew | exact Tk.below_drewN A0.out _) (by first | exact Below.refl _ _ | exact (Below.refl _ w0).drew | exact Tk.below_drewN (Below.refl _ w0) _)) ?_; rintro e W3 ⟨rfl, b3, c3⟩) | fail)
  all_goals (go_wp2_with fail; go_meet; first | exact ⟨_, rfl, Tk.Got1.late A0.out.size b3 c3⟩ | exact ⟨_, rfl, Tk.Got1.early A0.out.size b3 c3 z3⟩)
 case rest =>
 rename World => w1
 obtain ⟨q, rfl, HG1⟩ := hcut
 clear c0 o0 d0 d1 d2 d3 k0 k1 k2 c0z d0z d1z d2z d3z k0z k1z k2z A1 D1 Z1 CK CZ HQ
 have HC3 : Hid (w1.heap[w.heap.size]? = some (.cells #[.int .i64 op, .int .i64 0, .slice (some ⟨g, off, none⟩) 2 cap] 68 (0, 0))) := by show _ = _; rw [HG1.out.b0.block _ (by have := HS0.out; omega)]; exact HC0.out
 have HX3 : Hid (w1.heap[w.heap.size + 1]? = some (.cells #[.int .i64 x0, .int .i64 x1, .int .i64 x2, .int .i64 x3] 27 (0, 0))) := by show _ = _; rw [HG1.out.b0.block _ (by have := HS0.out; omega)]; exact HC1.out
 have HRES : Hid (w1.heap[w.heap.size + 2]? = some (.cells #[.int .i64 0, .bool false, .int .i64 0] 136 (0, 0))) := by show _ = _; rw [HG1.out.b0.block _ (by have := HS0.out; omega)]; exact HC2.out
 have o0' : w1.cell? ⟨w.heap.size, 0, none⟩ = some (.int .i64 op) := by have := HC3.out; simp [World.cell?, this]
 have v0' : w1.cell? ⟨q, 0, none⟩ = some (.int .i64 a1) := by have := HG1.out.box; simp [World.cell?, this]
 have v1' : w1.cell? ⟨q, 1, none⟩ = some (.bool ab) := by have := HG1.out.box; simp [World.cell?, this]
 have v2' : w1.cell? ⟨q, 2, none⟩ = some (.int .i64 a3) := by have := HG1.out.box; simp [World.cell?, this]
 have ho := HOP.out
 subst ho
 clear HOP
 by_cases ha : a3 = 0
 ·subst ha
  cases ab
  ·have HRR : Hid (r = (a1, false, 0)) := by show r = _; rw [HR.out]; simp
   clear HR
   have hbox := HG1.out.box
   have hu := Tryz.underlying136
   go_wp2_with (first | (refine wpList_load_row rfl 136 _ rfl _ rfl 136 _ (0, 0) _ hbox hu rfl (by kernel_rfl) ?_) | (refine wpList_store_row rfl 136 _ _ rfl (w.heap.size + 2) _ rfl rfl 136 #[.int .i64 0, .bool false, .int .i64 0] (by exact HRES.out) (by kernel_rfl) rfl (by kernel_rfl) ?_))
   refine bodyPost_ret (v := .agg #[.int .i64 (a1), .bool (false), .int .i64 (0)]) (results_cell_row Tryz.results89 _ _ (w.heap.size + 2) 136 #[.int .i64 (a1), .bool (false), .int .i64 (0)] (0, 0) _ rfl (setRow_heap _ _ _ _ _ _ HRES.out) Tryz.underlying136 rfl (by kernel_rfl)) rfl ⟨Tk.ret_val (by rw [HRR.out]) (by rw [HRR.out]) (by rw [HRR.out]), Tk.below_setRow HG1.out.bw (by omega) _⟩
  ·have HRR : Hid (r = (f1, fb, f3)) := by show r = _; rw [HR.out]; simp
   clear HR
   have hbwc : Hid (Below w.heap.size w w1) := HG1.out.bw
   have c0' : w1.cell? ⟨w.heap.size, 2, none⟩ = some (.slice (some ⟨g, off, none⟩) 2 cap) := by have := HC3.out; simp [World.cell?, this]
   have d0' : w1.cell? ⟨w.heap.size + 1, 0, none⟩ = some (.int .i64 x0) := by have := HX3.out; simp [World.cell?, this]
   have d1' : w1.cell? ⟨w.heap.size + 1, 1, none⟩ = some (.int .i64 x1) := by have := HX3.out; simp [World.cell?, this]
   have d2' : w1.cell? ⟨w.heap.size + 1, 2, none⟩ = some (.int .i64 x2) := by have := HX3.out; simp [World.cell?, this]
   have d3' : w1.cell? ⟨w.heap.size + 1, 3, none⟩ = some (.int .i64 x3) := by have := HX3.out; simp [World.cell?, this]
   have l0' : w1.cell? ⟨g, off + 3, none⟩ = some (.int .i64 ol) := by rw [HG1.out.bw.cell (p := ⟨g, off + 3, none⟩) HG.out]; exact HP.out.1
   have l1' : w1.cell? ⟨g, off + 4, none⟩ = some (.int .i64 ml) := by rw [HG1.out.bw.cell (p := ⟨g, off + 4, none⟩) HG.out]; exact HP.out.2.1
   have l2' : w1.cell? ⟨g, off + 5, none⟩ = some (.slice al nl cl) := by rw [HG1.out.bw.cell (p := ⟨g, off + 5, none⟩) HG.out]; exact HP.out.2.2
   have CL' : Hid (∀ W, Below w.heap.size w W → W.heap[w.heap.size + 2]? = some (.cells #[.int .i64 0, .bool false, .int .i64 0] 136 (0, 0)) → Calls Tryz.prog 89 #[.agg #[.int .i64 ol, .int .i64 ml, .slice al nl cl], .agg #[.int .i64 x0, .int .i64 x1, .int .i64 x2, .int .i64 x3]] W fun e w' => e = .returned (.agg #[.int .i64 f1, .bool fb, .int .i64 f3]) ∧ Below w.heap.size w w' ∧
     (w'.cell? ⟨w.heap.size + 2, 0, none⟩ = some (.int .i64 0) ∧ w'.cell? ⟨w.heap.size + 2, 1, none⟩ = some (.bool false) ∧ w'.cell? ⟨w.heap.size + 2, 2, none⟩ = some (.int .i64 0)) ∧ (w'.frozen? ⟨w.heap.size + 2, 0, none⟩ = false ∧ w'.frozen? ⟨w.heap.size + 2, 1, none⟩ = false ∧ w'.frozen? ⟨w.heap.size + 2, 2, none⟩ = false) ∧ w'.heap[w.heap.size + 2]? = some (.cells #[.int .i64 0, .bool false, .int .i64 0] 136 (0, 0))) := by
    intro W hW hz
    refine (CL.out W hW).mono fun e w' ⟨he, hb⟩ => ?_
    have hz' : w'.heap[w.heap.size + 2]? = some (.cells #[.int .i64 0, .bool false, .int .i64 0] 136 (0, 0)) := by rw [hb.block _ (Array.getElem?_eq_some_iff.1 hz).1]; exact hz
    exact ⟨he, hW.trans (hb.mono hW.size), by simp [World.cell?, hz'], by simp [World.frozen?, hz'], hz'⟩
   clear CL
   go_upto_region 16 with fail
   go_region_with (first | (go_at_call 89; refine Calls.mono (CL'.out _ (by first | exact hbwc.out | exact hbwc.out.drew | exact Tk.below_drewN hbwc.out _) (by exact HRES.out)) ?_; rintro e W4 ⟨rfl, b4, ⟨z0, z1, z2⟩, ⟨y0, y1, y2⟩, z3⟩) | fail)
   all_goals
    have B4 : Hid (Below w.heap.size w W4) := b4
    have Z4 : Hid (W4.heap[w.heap.size + 2]? = some (.cells #[.int .i64 0, .bool false, .int .i64 0] 136 (0, 0))) := z3
    clear b4 z3
    go_wp2
    refine bodyPost_ret (v := .agg #[.int .i64 f1, .bool fb, .int .i64 f3]) (results_cell_row Tryz.results89 _ _ (w.heap.size + 2) 136 #[.int .i64 f1, .bool fb, .int .i64 f3] (0, 0) _ rfl (Tk.set3 Z4.out) Tryz.underlying136 rfl (by kernel_rfl)) rfl ⟨Tk.ret_val (by rw [HRR.out]) (by rw [HRR.out]) (by rw [HRR.out]), Tk.below_setCell (Tk.below_setCell (Tk.below_setCell B4.out (by show w.heap.size ≤ w.heap.size + 2; omega) _) (by show w.heap.size ≤ w.heap.size + 2; omega) _) (by show w.heap.size ≤ w.heap.size + 2; omega) _⟩
 ·have hne : (a3 != 0) = true := by simpa using ha
  have HRR : Hid (r = (0, false, a3)) := by show r = _; rw [HR.out]; simp [ha]
  clear ha HR
  go_wp2_with (refine wpList_store_row rfl 136 _ _ rfl (w.heap.size + 2) _ rfl rfl 136 #[.int .i64 0, .bool false, .int .i64 0] (by exact HRES.out) (by kernel_rfl) rfl (by kernel_rfl) ?_)
  refine bodyPost_ret (v := .agg #[.int .i64 (0), .bool (false), .int .i64 (a3)]) (results_cell_row Tryz.results89 _ _ (w.heap.size + 2) 136 #[.int .i64 (0), .bool (false), .int .i64 (a3)] (0, 0) _ rfl (setRow_heap _ _ _ _ _ _ HRES.out) Tryz.underlying136 rfl (by kernel_rfl)) rfl ⟨Tk.ret_val (by rw [HRR.out]) (by rw [HRR.out]) (by rw [HRR.out]), Tk.below_setRow HG1.out.bw (by omega) _⟩
end Go.Proofs
