/-
  The document's Is: is a rule broken at a place?
-/
import Derived.Test.YtiedlccnlkhnkaaDoorNtRefM
namespace Go.Proofs
open Go.RowKit Go.Shelf

theorem Nt.mem_filter_at {n k : Nat} {p : Nat → Bool} (h : k < n) : decide (k ∈ (List.range n).filter p) = p k := by
  rw [Bool.eq_iff_iff]
  simp [List.mem_filter, h]
theorem Nt.mem_filter_out {n k : Nat} {p : Nat → Bool} (h : n ≤ k) : decide (k ∈ (List.range n).filter p) = false := by
  refine decide_eq_false fun hm => ?_
  have := List.mem_range.1 (List.mem_filter.1 hm).1
  omega

/-- What stands of a call's box in later worlds. -/
structure Nt.Iw (w : World) (an af : Option Addr) (n cn m cf : Nat) (W : World) : Prop where
  below : Below w.heap.size w W
  box : W.heap[w.heap.size]? = some (.cells #[.slice an n cn, .slice af m cf] 25 (0, 0))
theorem Nt.Iw.next {w : World} {an af : Option Addr} {n cn m cf : Nat} {W W' : World} (h : Nt.Iw w an af n cn m cf W) (hb : Below W.heap.size W W') : Nt.Iw w an af n cn m cf W' :=
  ⟨h.below.trans (hb.mono h.below.size), by rw [hb.block _ (Nt.lt_of h.box)]; exact h.box⟩
theorem Nt.Iw.first (w : World) (an af : Option Addr) (n cn m cf : Nat) : Nt.Iw w an af n cn m cf (w.alloc (.cells #[.slice an n cn, .slice af m cf] 25)) := ⟨(Below.refl _ w).alloc (Nat.le_refl _) _, heap_alloc_new w _⟩
theorem Nt.Iw.drew {w : World} {an af : Option Addr} {n cn m cf : Nat} {W : World} (h : Nt.Iw w an af n cn m cf W) : Nt.Iw w an af n cn m cf W.drew := ⟨h.below.drew, h.box⟩

set_option maxRecDepth 20000 in
set_option maxHeartbeats 8000000 in
theorem Tryd.rIs1_any (k : Nat) (an : Option Addr) (cn : Nat) (af : Option Addr) (cf d : Nat) (ns : List Nd) (fs : List Fl) (w : World) (hH : Nt.Has w w.heap.size d an af ns fs) (hk : k ≤ 1000) :
    Calls Tryd.prog 14 #[.agg #[.slice an ns.length cn, .slice af fs.length cf], .int .i64 1, .int .i64 k] w fun e w' => e = .returned (.bool (decide (k ∈ Nt.wrong1 ns fs))) ∧ Below w.heap.size w w' := by
  obtain ⟨n, hnn⟩ : ∃ n, ns.length = n := ⟨_, rfl⟩
  obtain ⟨m, hmm⟩ : ∃ n, fs.length = n := ⟨_, rfl⟩
  have hn100 : n ≤ 100 := by have := hH.nlen; omega
  have hm100 : m ≤ 100 := by have := hH.flen; omega
  have HH : Hid (Nt.Has w w.heap.size d an af ns fs ∧ ns.length = n ∧ fs.length = m) := ⟨hH, hnn, hmm⟩
  obtain ⟨r, hr⟩ : ∃ r, decide (k ∈ Nt.wrong1 ns fs) = r := ⟨_, rfl⟩
  have HR : Hid (decide (k ∈ Nt.wrong1 ns fs) = r) := hr
  rw [hnn, hmm, hr]
  obtain ⟨w0, hw0⟩ : ∃ x, w.alloc (.cells #[.slice an n cn, .slice af m cf] 25) = x := ⟨_, rfl⟩
  have HI : Hid (Nt.Iw w an af n cn m cf w0) := by rw [← hw0]; exact Nt.Iw.first ..
  have H0 : Hid (w.alloc (.cells #[.slice an n cn, .slice af m cf] 25) = w0) := hw0
  obtain ⟨p0, p1⟩ := Nt.box2 HI.out.box
  clear hH hnn hmm hr hw0
  have hk0 : (0 : Int) ≤ k := by omega
  by_cases hbig : 24 < n ∨ 40 < m
  · have HE : Hid (r = ((k : Int) == 0)) := by
      show _ = _
      rw [← HR.out, Nt.wrong1, if_pos (by simp [Nt.hugeB, HH.out.2.1, HH.out.2.2]; omega), Bool.eq_iff_iff]
      simp
    obtain rfl := HE.out
    obtain h1 | ⟨h1, h2⟩ : decide ((24 : Int) < n) = true ∨ (decide ((24 : Int) < n) = false ∧ decide ((40 : Int) < m) = true) := by simp; omega
    all_goals
      clear hbig HE HR
      go_enter Tryd.func14, Tryd.ntmps14
      go_wp2
      go_ret
      rw [H0.out]
      exact ⟨by first | rfl | simp, HI.out.below⟩
  have h1 : decide ((24 : Int) < n) = false := decide_eq_false (by omega)
  have h2 : decide ((40 : Int) < m) = false := decide_eq_false (by omega)
  have HW : Hid (Nt.wrong1 ns fs = (List.range ns.length).filter (fun i => !((ns[i]?.map Nt.oneB).getD true))) := by
    show _ = _
    rw [Nt.wrong1, if_neg (by simp [Nt.hugeB, HH.out.2.1, HH.out.2.2]; omega)]
  clear hbig
  by_cases hlt : k < n
  rotate_left
  · have hd : decide ((k : Int) < n) = false := decide_eq_false (by omega)
    have hdn : decide (k < n) = false := decide_eq_false (by omega)
    obtain rfl : r = false := by rw [← HR.out, HW.out]; exact Nt.mem_filter_out (by rw [HH.out.2.1]; omega)
    clear hlt
    go_enter Tryd.func14, Tryd.ntmps14
    go_wp2
    go_ret
    rw [H0.out]
    exact ⟨rfl, HI.out.below⟩
  have hd : decide ((k : Int) < n) = true := decide_eq_true (by omega)
  have hdn : decide (k < n) = true := decide_eq_true (by omega)
  have hjl : k < ns.length := by rw [HH.out.2.1]; exact hlt
  obtain ⟨g, off, u, rfl, hg, q0, q1, q2, q3, q4, hT⟩ := HH.out.1.nds k hjl
  obtain ⟨au, cu, rfl⟩ := hT.shape
  obtain ⟨x, hx⟩ : ∃ x, ns[k] = x := ⟨_, rfl⟩
  have hsz := HH.out.1.nsz _ (List.getElem_mem hjl)
  rw [hx] at q0 q1 q2 q3 q4 hT hsz
  have hcall := Tryd.rone_any d x (.slice au x.t.ks.length cu) w0 ((hT.below HI.out.below).wider HI.out.below.size) hsz
  have hrx : r = !Nt.oneB x := by
    rw [← HR.out, HW.out, Nt.mem_filter_at hjl, List.getElem?_eq_getElem hjl, hx]
    rfl
  obtain ⟨x0, hx0⟩ : ∃ z, x.kind = z := ⟨_, rfl⟩
  obtain ⟨x1, hx1⟩ : ∃ z, x.a = z := ⟨_, rfl⟩
  obtain ⟨x2, hx2⟩ : ∃ z, x.t.op = z := ⟨_, rfl⟩
  obtain ⟨x3, hx3⟩ : ∃ z, x.t.num = z := ⟨_, rfl⟩
  obtain ⟨nu, hnu⟩ : ∃ z, x.t.ks.length = z := ⟨_, rfl⟩
  obtain ⟨b, hb⟩ : ∃ z, Nt.oneB x = z := ⟨_, rfl⟩
  rw [hx0, hx1, hx2, hx3, hnu, hb] at hcall
  rw [hb] at hrx
  rw [hx0] at q0
  rw [hx1] at q1
  rw [hx2] at q2
  rw [hx3] at q3
  rw [hnu] at q4
  have hcc : ∀ o, w0.cell? ⟨g, o, none⟩ = w.cell? ⟨g, o, none⟩ := fun o => HI.out.below.cell (p := ⟨g, o, none⟩) hg
  have d0 := (hcc _).trans q0
  have d1 := (hcc _).trans q1
  have d2 := (hcc _).trans q2
  have d3 := (hcc _).trans q3
  have d4 := (hcc _).trans q4
  have hu := Tryd.underlying34
  have HCL : Hid _ := hcall
  subst hrx
  clear hcall hcc hT hx hx0 hx1 hx2 hx3 hnu hb hsz HR HW
  go_enter Tryd.func14, Tryd.ntmps14
  go_wp2_with fail
  rw [H0.out]
  refine Calls.mono HCL.out ?_
  rintro e W2 ⟨rfl, hb2⟩
  have B2 : Hid (Below w.heap.size w W2) := (HI.out.next hb2).below
  clear hb2 HCL d0 d1 d2 d3 d4
  go_wp2
  go_ret
  exact ⟨rfl, B2.out⟩

set_option maxRecDepth 20000 in
set_option maxHeartbeats 8000000 in
theorem Tryd.rIs2_any (k : Nat) (an : Option Addr) (cn : Nat) (af : Option Addr) (cf d : Nat) (ns : List Nd) (fs : List Fl) (w : World) (hH : Nt.Has w w.heap.size d an af ns fs) (hk : k ≤ 1000) :
    Calls Tryd.prog 14 #[.agg #[.slice an ns.length cn, .slice af fs.length cf], .int .i64 2, .int .i64 k] w fun e w' => e = .returned (.bool (decide (k ∈ Nt.wrong2 ns fs))) ∧ Below w.heap.size w w' := by
  obtain ⟨n, hnn⟩ : ∃ n, ns.length = n := ⟨_, rfl⟩
  obtain ⟨m, hmm⟩ : ∃ n, fs.length = n := ⟨_, rfl⟩
  have hn100 : n ≤ 100 := by have := hH.nlen; omega
  have hm100 : m ≤ 100 := by have := hH.flen; omega
  have HH : Hid (Nt.Has w w.heap.size d an af ns fs ∧ ns.length = n ∧ fs.length = m) := ⟨hH, hnn, hmm⟩
  obtain ⟨r, hr⟩ : ∃ r, decide (k ∈ Nt.wrong2 ns fs) = r := ⟨_, rfl⟩
  have HR : Hid (decide (k ∈ Nt.wrong2 ns fs) = r) := hr
  rw [hnn, hmm, hr]
  obtain ⟨w0, hw0⟩ : ∃ x, w.alloc (.cells #[.slice an n cn, .slice af m cf] 25) = x := ⟨_, rfl⟩
  have HI : Hid (Nt.Iw w an af n cn m cf w0) := by rw [← hw0]; exact Nt.Iw.first ..
  have H0 : Hid (w.alloc (.cells #[.slice an n cn, .slice af m cf] 25) = w0) := hw0
  obtain ⟨p0, p1⟩ := Nt.box2 HI.out.box
  clear hH hnn hmm hr hw0
  have hk0 : (0 : Int) ≤ k := by omega
  by_cases hlt : k < m
  rotate_left
  · have hd : decide ((k : Int) < m) = false := decide_eq_false (by omega)
    have hdn : decide (k < m) = false := decide_eq_false (by omega)
    obtain rfl : r = false := by rw [← HR.out]; exact Nt.mem_filter_out (by rw [HH.out.2.2]; omega)
    clear hlt
    go_enter Tryd.func14, Tryd.ntmps14
    go_upto_region 7 with fail
    rw [H0.out]
    go_quiet (fail)
    all_goals
      go_wp2
      go_ret
      exact ⟨rfl, by first | exact HI.out.below | exact HI.out.below.drew | exact Tk.below_drewN HI.out.below _⟩
  have hd : decide ((k : Int) < m) = true := decide_eq_true (by omega)
  have hdn : decide (k < m) = true := decide_eq_true (by omega)
  have hlt' : (k : Int) < m := by omega
  have hjl : k < fs.length := by rw [HH.out.2.2]; exact hlt
  obtain ⟨g, off, u, rfl, hg, q0, q1, q2, q3, q4, q5, hT⟩ := HH.out.1.fls k hjl
  obtain ⟨au, cu, rfl⟩ := hT.shape
  obtain ⟨x, hx⟩ : ∃ x, fs[k] = x := ⟨_, rfl⟩
  have hsz := HH.out.1.fsz _ (List.getElem_mem hjl)
  rw [hx] at q0 q1 q2 q3 q4 q5 hT hsz
  have hcall : ∀ W, Nt.Iw w an (some ⟨g, off, none⟩) n cn m cf W → Calls Tryd.prog 40 #[.agg #[.slice an n cn, .slice (some ⟨g, off, none⟩) m cf], .agg #[.int .i64 x.fr, .int .i64 x.to, .bool x.els, .int .i64 x.c.op, .int .i64 x.c.num, .slice au x.c.ks.length cu]] W fun e w' => e = .returned (.bool (Nt.twoB ns fs x)) ∧ Hid (Nt.Iw w an (some ⟨g, off, none⟩) n cn m cf w') := fun W hw => by
    have h := Tryd.rtwo_any x (.slice au x.c.ks.length cu) an cn (some ⟨g, off, none⟩) cf d ns fs W ((HH.out.1.below hw.below).wider hw.below.size) ((hT.below hw.below).wider hw.below.size) hsz
    rw [HH.out.2.1, HH.out.2.2] at h
    exact h.mono fun e w' q => ⟨q.1, hw.next q.2⟩
  have hrx : r = !Nt.twoB ns fs x := by
    rw [← HR.out, Nt.wrong2, Nt.mem_filter_at hjl, List.getElem?_eq_getElem hjl, hx]
    rfl
  obtain ⟨x0, hx0⟩ : ∃ z, x.fr = z := ⟨_, rfl⟩
  obtain ⟨x1, hx1⟩ : ∃ z, x.to = z := ⟨_, rfl⟩
  obtain ⟨x2, hx2⟩ : ∃ z, x.els = z := ⟨_, rfl⟩
  obtain ⟨x3, hx3⟩ : ∃ z, x.c.op = z := ⟨_, rfl⟩
  obtain ⟨x4, hx4⟩ : ∃ z, x.c.num = z := ⟨_, rfl⟩
  obtain ⟨nu, hnu⟩ : ∃ z, x.c.ks.length = z := ⟨_, rfl⟩
  obtain ⟨b, hb⟩ : ∃ z, Nt.twoB ns fs x = z := ⟨_, rfl⟩
  rw [hx0, hx1, hx2, hx3, hx4, hnu, hb] at hcall
  rw [hb] at hrx
  rw [hx0] at q0
  rw [hx1] at q1
  rw [hx2] at q2
  rw [hx3] at q3
  rw [hx4] at q4
  rw [hnu] at q5
  have HCC : Hid (∀ W, Nt.Iw w an (some ⟨g, off, none⟩) n cn m cf W → W.cell? ⟨w.heap.size, 0, none⟩ = some (.slice an n cn) ∧ W.cell? ⟨w.heap.size, 1, none⟩ = some (.slice (some ⟨g, off, none⟩) m cf) ∧ W.cell? ⟨g, off + k * 6, none⟩ = some (.int .i64 x0) ∧ W.cell? ⟨g, off + k * 6 + 1, none⟩ = some (.int .i64 x1) ∧ W.cell? ⟨g, off + k * 6 + 2, none⟩ = some (.bool x2) ∧ W.cell? ⟨g, off + k * 6 + 3, none⟩ = some (.int .i64 x3) ∧ W.cell? ⟨g, off + k * 6 + 4, none⟩ = some (.int .i64 x4) ∧ W.cell? ⟨g, off + k * 6 + 5, none⟩ = some (.slice au nu cu)) := fun W hw => by
    have hcc : ∀ o, W.cell? ⟨g, o, none⟩ = w.cell? ⟨g, o, none⟩ := fun o => hw.below.cell (p := ⟨g, o, none⟩) hg
    exact ⟨(Nt.box2 hw.box).1, (Nt.box2 hw.box).2, (hcc _).trans q0, (hcc _).trans q1, (hcc _).trans q2, (hcc _).trans q3, (hcc _).trans q4, (hcc _).trans q5⟩
  have hu := Tryd.underlying36
  have CT : Hid _ := hcall
  subst hrx
  clear hcall hT hx hx0 hx1 hx2 hx3 hx4 hnu hb hsz HR q0 q1 q2 q3 q4 q5
  go_enter Tryd.func14, Tryd.ntmps14
  go_upto_region 7 with fail
  rw [H0.out]
  clear p0 p1 H0
  go_region_held3 (fun W => W.cell? ⟨w.heap.size, 0, none⟩ = some (.slice an n cn) ∧ W.cell? ⟨w.heap.size, 1, none⟩ = some (.slice (some ⟨g, off, none⟩) m cf) ∧ W.cell? ⟨g, off + k * 6, none⟩ = some (.int .i64 x0) ∧ W.cell? ⟨g, off + k * 6 + 1, none⟩ = some (.int .i64 x1) ∧ W.cell? ⟨g, off + k * 6 + 2, none⟩ = some (.bool x2) ∧ W.cell? ⟨g, off + k * 6 + 3, none⟩ = some (.int .i64 x3) ∧ W.cell? ⟨g, off + k * 6 + 4, none⟩ = some (.int .i64 x4) ∧ W.cell? ⟨g, off + k * 6 + 5, none⟩ = some (.slice au nu cu))
    (first | exact HCC.out _ B3.out | exact HCC.out _ HI.out | exact HCC.out _ HI.out.drew)
    (first | (go_simp; go_at_call 40; refine Calls.mono (CT.out _ ?_) ?_; (first | exact HI.out | exact HI.out.drew); rintro e W3 ⟨rfl, B3⟩))
  all_goals
    go_simp
    go_wp2
    go_ret
    exact ⟨rfl, B3.out.below⟩

set_option maxRecDepth 20000 in
set_option maxHeartbeats 8000000 in
theorem Tryd.rIs3_any (k : Nat) (an : Option Addr) (cn : Nat) (af : Option Addr) (cf d : Nat) (ns : List Nd) (fs : List Fl) (w : World) (hH : Nt.Has w w.heap.size d an af ns fs) (hto : ∀ f, f ∈ fs → 0 ≤ f.to ∧ f.to < ns.length) (hk : k ≤ 1000) :
    Calls Tryd.prog 14 #[.agg #[.slice an ns.length cn, .slice af fs.length cf], .int .i64 3, .int .i64 k] w fun e w' => e = .returned (.bool (decide (k ∈ Nt.wrong3 ns fs))) ∧ Below w.heap.size w w' := by
  obtain ⟨n, hnn⟩ : ∃ n, ns.length = n := ⟨_, rfl⟩
  obtain ⟨m, hmm⟩ : ∃ n, fs.length = n := ⟨_, rfl⟩
  have hn100 : n ≤ 100 := by have := hH.nlen; omega
  have hm100 : m ≤ 100 := by have := hH.flen; omega
  have HH : Hid (Nt.Has w w.heap.size d an af ns fs ∧ ns.length = n ∧ fs.length = m) := ⟨hH, hnn, hmm⟩
  have HTO : Hid (∀ f, f ∈ fs → 0 ≤ f.to ∧ f.to < ns.length) := hto
  obtain ⟨r, hr⟩ : ∃ r, decide (k ∈ Nt.wrong3 ns fs) = r := ⟨_, rfl⟩
  have HR : Hid (decide (k ∈ Nt.wrong3 ns fs) = r) := hr
  rw [hnn, hmm, hr]
  obtain ⟨w0, hw0⟩ : ∃ x, w.alloc (.cells #[.slice an n cn, .slice af m cf] 25) = x := ⟨_, rfl⟩
  have HI : Hid (Nt.Iw w an af n cn m cf w0) := by rw [← hw0]; exact Nt.Iw.first ..
  have H0 : Hid (w.alloc (.cells #[.slice an n cn, .slice af m cf] 25) = w0) := hw0
  obtain ⟨p0, p1⟩ := Nt.box2 HI.out.box
  obtain ⟨s, hs⟩ : ∃ z, Nt.firstI ns 1 = z := ⟨_, rfl⟩
  obtain ⟨t, ht⟩ : ∃ z, Nt.firstI ns 2 = z := ⟨_, rfl⟩
  have HF : Hid (Nt.firstI ns 1 = s ∧ Nt.firstI ns 2 = t) := ⟨hs, ht⟩
  have CF1 : Hid (∀ W, Nt.Iw w an af n cn m cf W → Calls Tryd.prog 41 #[.agg #[.slice an n cn, .slice af m cf], .int .i64 1] W fun e w' => e = .returned (.int .i64 s) ∧ Hid (Nt.Iw w an af n cn m cf w')) := fun W hw => by
    have h := Tryd.rFirst_any 1 an cn d af m cf ns W ((HH.out.1.below hw.below).wider hw.below.size).nds HH.out.1.nlen
    rw [hs, HH.out.2.1] at h
    exact h.mono fun e w' q => ⟨q.1, hw.next q.2⟩
  have CF2 : Hid (∀ W, Nt.Iw w an af n cn m cf W → Calls Tryd.prog 41 #[.agg #[.slice an n cn, .slice af m cf], .int .i64 2] W fun e w' => e = .returned (.int .i64 t) ∧ Hid (Nt.Iw w an af n cn m cf w')) := fun W hw => by
    have h := Tryd.rFirst_any 2 an cn d af m cf ns W ((HH.out.1.below hw.below).wider hw.below.size).nds HH.out.1.nlen
    rw [ht, HH.out.2.1] at h
    exact h.mono fun e w' q => ⟨q.1, hw.next q.2⟩
  clear hH hto hnn hmm hr hw0 hs ht
  have hk0 : (0 : Int) ≤ k := by omega
  have hlast : decide (k ∈ if Nt.lostB ns = true then [ns.length] else []) = (decide (k = n) && (decide (s < 0) || decide (t < 0))) := by
    rw [Nt.lostB, HF.out.1, HF.out.2, HH.out.2.1]
    cases decide (s < 0) <;> cases decide (t < 0) <;> simp
  have hsum : r = (decide (k ∈ (List.range ns.length).filter fun i => !Nt.jointB ns fs i) || (decide (k = n) && (decide (s < 0) || decide (t < 0)))) := by
    rw [← HR.out, ← hlast, Nt.wrong3, Bool.eq_iff_iff]
    simp only [List.mem_append, decide_eq_true_eq, Bool.or_eq_true]
  clear hlast HR
  go_enter Tryd.func14, Tryd.ntmps14
  go_wp2_with fail
  rw [H0.out]
  refine Calls.mono (CF1.out w0 HI.out) ?_
  rintro e W1 ⟨rfl, B1⟩
  clear CF1 p0 p1 H0
  obtain ⟨p0, p1⟩ := Nt.box2 B1.out.box
  go_wp2_with fail
  refine Calls.mono (CF2.out W1 B1.out) ?_
  rintro e W2 ⟨rfl, B2⟩
  clear CF2 p0 p1
  obtain ⟨p0, p1⟩ := Nt.box2 B2.out.box
  by_cases hkn : k = n
  · have hq : ((k : Int) == (n : Int)) = true := by simp; omega
    have hE : r = (decide (s < 0) || decide (t < 0)) := by rw [hsum, Nt.mem_filter_out (by rw [HH.out.2.1]; omega), decide_eq_true hkn]; simp
    subst hE
    clear hkn hsum
    cases h1 : decide (s < 0)
    · go_wp2
      go_ret
      exact ⟨Tk.ret_bool (by rw [h1]; rfl), B2.out.below⟩
    · go_wp2
      go_ret
      exact ⟨Tk.ret_bool (by rw [h1]; rfl), B2.out.below⟩
  have hq : ((k : Int) == (n : Int)) = false := by simp; omega
  rw [decide_eq_false hkn, Bool.false_and, Bool.or_false] at hsum
  by_cases hlt : k < n
  rotate_left
  · have hd : decide ((k : Int) < n) = false := decide_eq_false (by omega)
    have hdn : decide (k < n) = false := decide_eq_false (by omega)
    obtain rfl : r = false := by rw [hsum]; exact Nt.mem_filter_out (by rw [HH.out.2.1]; omega)
    clear hlt hsum hkn
    go_wp2
    go_ret
    exact ⟨rfl, B2.out.below⟩
  have hd : decide ((k : Int) < n) = true := decide_eq_true (by omega)
  have hdn : decide (k < n) = true := decide_eq_true (by omega)
  have hlt' : (k : Int) < n := by omega
  have hjl : k < ns.length := by rw [HH.out.2.1]; exact hlt
  obtain ⟨g, off, u, rfl, hg, q0, -⟩ := HH.out.1.nds k hjl
  have hcall : ∀ W, Nt.Iw w (some ⟨g, off, none⟩) af n cn m cf W → Calls Tryd.prog 42 #[.agg #[.slice (some ⟨g, off, none⟩) n cn, .slice af m cf], .int .i64 k] W fun e w' => e = .returned (.bool (Nt.threeB ns fs k)) ∧ Hid (Nt.Iw w (some ⟨g, off, none⟩) af n cn m cf w') := fun W hw => by
    have h := Tryd.rthree_any k (some ⟨g, off, none⟩) cn af cf d ns fs W ((HH.out.1.below hw.below).wider hw.below.size) HTO.out hjl
    rw [HH.out.2.1, HH.out.2.2] at h
    exact h.mono fun e w' q => ⟨q.1, hw.next q.2⟩
  rw [Nt.mem_filter_at hjl, Nt.joint_eq hjl, HF.out.1, HF.out.2] at hsum
  obtain ⟨x0, hx0⟩ : ∃ z, ns[k].kind = z := ⟨_, rfl⟩
  obtain ⟨b, hb⟩ : ∃ z, Nt.threeB ns fs k = z := ⟨_, rfl⟩
  rw [hx0] at q0 hsum
  rw [hb] at hcall hsum
  have HK : Hid (∀ W, Nt.Iw w (some ⟨g, off, none⟩) af n cn m cf W → W.cell? ⟨g, off + k * 5, none⟩ = some (.int .i64 x0)) := fun W hw => by rw [hw.below.cell (p := ⟨g, off + k * 5, none⟩) hg]; exact q0
  have CT : Hid _ := hcall
  have HS : Hid (r = (!b || decide (x0 = 1) && decide (s < (k : Int)) || decide (x0 = 2) && decide (t < (k : Int)))) := hsum
  clear hcall hsum hx0 hb q0 hkn hjl
  have d0 := HK.out W2 B2.out
  go_wp2_with fail
  refine Calls.mono (CT.out W2 B2.out) ?_
  rintro e W3 ⟨rfl, B3⟩
  clear p0 p1 d0 CT
  obtain ⟨p0, p1⟩ := Nt.box2 B3.out.box
  have d0 := HK.out W3 B3.out
  cases b with
  | false =>
    obtain rfl : r = true := by rw [HS.out]; rfl
    clear HS
    go_wp2
    go_ret
    exact ⟨rfl, B3.out.below⟩
  | true =>
    by_cases h1 : x0 = 1
    · subst h1
      have hE : r = decide (s < (k : Int)) := by rw [HS.out]; simp
      subst hE
      clear HS
      cases hsk : decide (s < (k : Int))
      · go_wp2
        go_ret
        exact ⟨Tk.ret_bool hsk.symm, B3.out.below⟩
      · go_wp2
        go_ret
        exact ⟨Tk.ret_bool hsk.symm, B3.out.below⟩
    have e1 : (x0 == 1) = false := by simpa using h1
    by_cases h2 : x0 = 2
    · subst h2
      have hE : r = decide (t < (k : Int)) := by rw [HS.out]; simp
      subst hE
      clear HS
      go_wp2
      go_ret
      exact ⟨rfl, B3.out.below⟩
    have e2 : (x0 == 2) = false := by simpa using h2
    obtain rfl : r = false := by rw [HS.out, decide_eq_false h1, decide_eq_false h2]; rfl
    clear HS h1 h2
    go_wp2
    go_ret
    exact ⟨rfl, B3.out.below⟩

end Go.Proofs
