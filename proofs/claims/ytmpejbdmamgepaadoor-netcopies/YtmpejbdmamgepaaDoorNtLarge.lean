/-
  The contract of the statements' large: a process that isn't large is small.
-/
import Derived.Test.YtmpejbdmamgepaaDoorNtDeep
import Derived.Test.YtmpejbdmamgepaaDoorNtTwo
namespace Go.Proofs
open Go.RowKit

/-- What large comes to. -/
def Nt.LargeEnd (ns : List Nd) (fs : List Fl) (w : World) (e : Ending) (w' : World) : Prop :=
  Below w.heap.size w w' ∧ (e = .returned (.bool true) ∨ (e = .returned (.bool false) ∧ ns.length ≤ 60 ∧ fs.length ≤ 100 ∧ (∀ x, x ∈ ns → x.t.size ≤ 3000) ∧ ∀ x, x ∈ fs → x.c.size ≤ 3000))

set_option maxRecDepth 20000 in
set_option maxHeartbeats 8000000 in
theorem Tryd.nlarge_any (an : Option Addr) (cn : Nat) (af : Option Addr) (cf d : Nat) (ns : List Nd) (fs : List Fl) (w : World) (hN : Nt.Nds w w.heap.size d an ns) (hF : Nt.Fls w w.heap.size d af fs) :
    Calls Tryd.prog 9 #[.agg #[.slice an ns.length cn, .slice af fs.length cf]] w fun e w' => Nt.LargeEnd ns fs w e w' := by
  obtain ⟨n, hnn⟩ : ∃ n, ns.length = n := ⟨_, rfl⟩
  obtain ⟨m, hmm⟩ : ∃ n, fs.length = n := ⟨_, rfl⟩
  rw [hnn, hmm]
  obtain ⟨w0, hw0⟩ : ∃ x, w.alloc (.cells #[.slice an n cn, .slice af m cf] 25) = x := ⟨_, rfl⟩
  have A0 : Below w.heap.size w w0 := by rw [← hw0]; exact (Below.refl _ w).alloc (Nat.le_refl _) _
  by_cases hbig : 60 < n ∨ 100 < m
  · have HA : Hid (Below w.heap.size w w0) := A0
    have H0 : Hid (w.alloc (.cells #[.slice an n cn, .slice af m cf] 25) = w0) := hw0
    obtain h1 | ⟨h1, h2⟩ : decide ((60 : Int) < n) = true ∨ (decide ((60 : Int) < n) = false ∧ decide ((100 : Int) < m) = true) := by simp; omega
    all_goals
      clear hN hF hnn hmm hw0 A0 hbig
      go_enter Tryd.func9, Tryd.ntmps9
      go_wp2
      go_ret
      rw [H0.out]
      exact ⟨HA.out, .inl rfl⟩
  · have h1 : decide ((60 : Int) < n) = false := decide_eq_false (by omega)
    have h2 : decide ((100 : Int) < m) = false := decide_eq_false (by omega)
    have hn60 : n ≤ 60 := by omega
    have hm100 : m ≤ 100 := by omega
    obtain ⟨w1, hw1⟩ : ∃ x, w0.alloc (.cells #[.int .i64 3000] 56) = x := ⟨_, rfl⟩
    have hs0 : w0.heap.size = w.heap.size + 1 := by rw [← hw0]; simp
    have A1 : Below w.heap.size w w1 := by rw [← hw1]; exact A0.alloc A0.size _
    have G1 : w1.heap[w.heap.size]? = some (.cells #[.slice an n cn, .slice af m cf] 25 (0, 0)) := by rw [← hw1, Below.heap_alloc _ _ _ (by omega), ← hw0]; exact heap_alloc_new w _
    have R1 : Tk.Rm (w.heap.size + 1) (3000 : Nat) w1 := by
      rw [← hw1, ← hs0]
      exact heap_alloc_new w0 _
    have HH : Hid (Nt.Nds w w.heap.size d an ns ∧ Nt.Fls w w.heap.size d af fs ∧ ns.length = n ∧ fs.length = m) := ⟨hN, hF, hnn, hmm⟩
    have H1 : Hid ((w.alloc (.cells #[.slice an n cn, .slice af m cf] 25)).alloc (.cells #[.int .i64 3000] 56) = w1) := by show _ = _; rw [hw0]; exact hw1
    have HK : Hid (∀ W, Tk.But (fun i => i = w.heap.size + 1) w1 W → Below w.heap.size w W ∧ W.cell? ⟨w.heap.size, 0, none⟩ = some (.slice an n cn) ∧ W.cell? ⟨w.heap.size, 1, none⟩ = some (.slice af m cf)) := fun W hb => by
      have hbl : Below w.heap.size w W := A1.trans (hb.below A1.size (by intro k hk; show ¬ k = w.heap.size + 1; omega))
      have := Nt.box2 ((hb.block _ (Nt.lt_of G1) (by show ¬ w.heap.size = w.heap.size + 1; omega)).trans G1)
      exact ⟨hbl, this.1, this.2⟩
    have HR1 : Hid (Tk.Rm (w.heap.size + 1) (3000 : Nat) w1) := R1
    obtain ⟨p0, p1⟩ := Nt.box2 G1
    clear hN hF hnn hmm hw0 hw1 A0 A1 G1 R1 hbig hs0
    go_enter Tryd.func9, Tryd.ntmps9
    go_wp2
    rw [H1.out]
    go_loopg [23] n (fun gk s23 wr => ∃ (j k : Nat), gk + j = n ∧ s23 = .int .i64 j ∧ Hid (Tk.But (fun i => i = w.heap.size + 1) w1 wr ∧ k ≤ 3000 ∧ Tk.Rm (w.heap.size + 1) ((k : Nat) : Int) wr ∧ ∀ x, x ∈ ns.take j → x.t.size ≤ 3000))
    case atStart => exact ⟨0, 3000, by omega, rfl, Tk.But.refl _ _, Nat.le_refl _, HR1.out, by simp⟩
    case round =>
      obtain ⟨j, k, hj, rfl, HI⟩ := hrel
      obtain ⟨hbl, p2, p3⟩ := HK.out wr HI.out.1
      have HBL : Hid (Below w.heap.size w wr) := hbl
      clear hbl p0 p1 H1
      by_cases hlt : j < n
      · have hd : decide ((j : Int) < n) = true := decide_eq_true (by omega)
        have hjl : j < ns.length := by rw [HH.out.2.2.1]; exact hlt
        obtain ⟨q, off, u, rfl, hq, c0, c1, c2, c3, c4, hT⟩ := HH.out.1 j hjl
        obtain ⟨x, hx⟩ : ∃ x, ns[j] = x := ⟨_, rfl⟩
        rw [hx] at c0 c1 c2 c3 hT
        obtain ⟨au, cu, rfl⟩ := hT.shape
        obtain ⟨nu, hnu⟩ : ∃ n, x.t.ks.length = n := ⟨_, rfl⟩
        rw [hnu] at c4
        obtain ⟨x0, hx0⟩ : ∃ z, x.kind = z := ⟨_, rfl⟩
        obtain ⟨x1, hx1⟩ : ∃ z, x.a = z := ⟨_, rfl⟩
        obtain ⟨x2, hx2⟩ : ∃ z, x.t.op = z := ⟨_, rfl⟩
        obtain ⟨x3, hx3⟩ : ∃ z, x.t.num = z := ⟨_, rfl⟩
        rw [hx0] at c0
        rw [hx1] at c1
        rw [hx2] at c2
        rw [hx3] at c3
        have hc : ∀ o, wr.cell? ⟨q, o, none⟩ = w.cell? ⟨q, o, none⟩ := fun o => HBL.out.cell (p := ⟨q, o, none⟩) hq
        have d0 := (hc _).trans c0
        have d1 := (hc _).trans c1
        have d2 := (hc _).trans c2
        have d3 := (hc _).trans c3
        have d4 := (hc _).trans c4
        have hu := Tryd.underlying37
        obtain ⟨W0, hW0⟩ : ∃ z, wr.alloc (.cells #[.int .i64 x0, .int .i64 x1, .int .i64 x2, .int .i64 x3, .slice au nu cu] 37) = z := ⟨_, rfl⟩
        have BW0 : Tk.But (fun i => i = w.heap.size + 1) w1 W0 := by rw [← hW0]; exact HI.out.1.alloc _
        have hcall := Tryd.deep_any d x.t (.slice au x.t.ks.length cu) k (w.heap.size + 1) 1 w.heap.size W0 (hT.below (HK.out W0 BW0).1) (by omega) (HK.out W0 BW0).1.size (by rw [← hW0]; exact HI.out.2.2.1.keep (Below.heap_alloc _ _ _ HI.out.2.2.1.lt)) (by have := HI.out.2.1; omega) (by omega)
        rw [hx2, hx3, hnu] at hcall
        have HC : Hid _ := hcall
        have HW0 : Hid (wr.alloc (.cells #[.int .i64 x0, .int .i64 x1, .int .i64 x2, .int .i64 x3, .slice au nu cu] 37) = W0) := hW0
        have HB0 : Hid (Tk.But (fun i => i = w.heap.size + 1) w1 W0) := BW0
        have HX : Hid (ns[j] = x) := hx
        clear hcall hc c0 c1 c2 c3 c4 hT hx hx0 hx1 hx2 hx3 hnu hq hW0 BW0
        go_wp2_with fail
        rw [HW0.out]
        refine Calls.mono HC.out ?_
        rintro e W3 ⟨hb3, ⟨rfl, hs3, hr3⟩ | rfl⟩
        · have B3 : Hid (Tk.But (fun i => i = w.heap.size + 1) w1 W3) := HB0.out.trans hb3
          have H3 : Hid (x.t.size ≤ k ∧ Tk.Rm (w.heap.size + 1) ((k - x.t.size : Nat) : Int) W3) := ⟨hs3, hr3⟩
          clear hb3 hs3 hr3 HC
          go_wp2
          go_roundg (gk - 1)
          case measure => omega
          case rel =>
            refine ⟨j + 1, k - x.t.size, by omega, by go_num, B3.out, by have := HI.out.2.1; omega, H3.out.2, fun y hy => ?_⟩
            rw [Tm.take_snoc _ _ hjl, List.mem_append] at hy
            rcases hy with hy | hy
            · exact HI.out.2.2.2 y hy
            · simp only [List.mem_singleton] at hy
              rw [hy, HX.out]
              have := H3.out.1; have := HI.out.2.1; omega
        · have B3 : Hid (Below w.heap.size w W3) := (HK.out _ (HB0.out.trans hb3)).1
          clear hb3 HC
          go_wp2
          go_ret
          exact ⟨B3.out, .inl rfl⟩
      · have hd : decide ((j : Int) < n) = false := decide_eq_false (by omega)
        have HNS : Hid (∀ x, x ∈ ns → x.t.size ≤ 3000) := fun x hx => HI.out.2.2.2 x (by rw [List.take_of_length_le (by rw [HH.out.2.2.1]; omega)]; exact hx)
        go_wp2
        go_loopg [35] m (fun gk s35 wr => ∃ (j k : Nat), gk + j = m ∧ s35 = .int .i64 j ∧ Hid (Tk.But (fun i => i = w.heap.size + 1) w1 wr ∧ k ≤ 3000 ∧ Tk.Rm (w.heap.size + 1) ((k : Nat) : Int) wr ∧ ∀ x, x ∈ fs.take j → x.c.size ≤ 3000))
        case atStart => exact ⟨0, k, by omega, rfl, HI.out.1, HI.out.2.1, HI.out.2.2.1, by simp⟩
        case round =>
          obtain ⟨j2, k2, hj2, rfl, HJ⟩ := hrel
          obtain ⟨hbl, p4, p5⟩ := HK.out wr HJ.out.1
          have HBL2 : Hid (Below w.heap.size w wr) := hbl
          clear hbl p2 p3
          by_cases hlt2 : j2 < m
          · have hd2 : decide ((j2 : Int) < m) = true := decide_eq_true (by omega)
            have hjl : j2 < fs.length := by rw [HH.out.2.2.2]; exact hlt2
            obtain ⟨q, off, u, rfl, hq, c0, c1, c2, c3, c4, c5, hT⟩ := HH.out.2.1 j2 hjl
            obtain ⟨x, hx⟩ : ∃ x, fs[j2] = x := ⟨_, rfl⟩
            rw [hx] at c0 c1 c2 c3 c4 hT
            obtain ⟨au, cu, rfl⟩ := hT.shape
            obtain ⟨nu, hnu⟩ : ∃ n, x.c.ks.length = n := ⟨_, rfl⟩
            rw [hnu] at c5
            obtain ⟨x0, hx0⟩ : ∃ z, x.fr = z := ⟨_, rfl⟩
            obtain ⟨x1, hx1⟩ : ∃ z, x.to = z := ⟨_, rfl⟩
            obtain ⟨x2, hx2⟩ : ∃ z, x.els = z := ⟨_, rfl⟩
            obtain ⟨x3, hx3⟩ : ∃ z, x.c.op = z := ⟨_, rfl⟩
            obtain ⟨x4, hx4⟩ : ∃ z, x.c.num = z := ⟨_, rfl⟩
            rw [hx0] at c0
            rw [hx1] at c1
            rw [hx2] at c2
            rw [hx3] at c3
            rw [hx4] at c4
            have hc : ∀ o, wr.cell? ⟨q, o, none⟩ = w.cell? ⟨q, o, none⟩ := fun o => HBL2.out.cell (p := ⟨q, o, none⟩) hq
            have d0 := (hc _).trans c0
            have d1 := (hc _).trans c1
            have d2 := (hc _).trans c2
            have d3 := (hc _).trans c3
            have d4 := (hc _).trans c4
            have d5 := (hc _).trans c5
            have hu := Tryd.underlying47
            obtain ⟨W0, hW0⟩ : ∃ z, wr.alloc (.cells #[.int .i64 x0, .int .i64 x1, .bool x2, .int .i64 x3, .int .i64 x4, .slice au nu cu] 47) = z := ⟨_, rfl⟩
            have BW0 : Tk.But (fun i => i = w.heap.size + 1) w1 W0 := by rw [← hW0]; exact HJ.out.1.alloc _
            have hcall := Tryd.deep_any d x.c (.slice au x.c.ks.length cu) k2 (w.heap.size + 1) 1 w.heap.size W0 (hT.below (HK.out W0 BW0).1) (by omega) (HK.out W0 BW0).1.size (by rw [← hW0]; exact HJ.out.2.2.1.keep (Below.heap_alloc _ _ _ HJ.out.2.2.1.lt)) (by have := HJ.out.2.1; omega) (by omega)
            rw [hx3, hx4, hnu] at hcall
            have HC : Hid _ := hcall
            have HW0 : Hid (wr.alloc (.cells #[.int .i64 x0, .int .i64 x1, .bool x2, .int .i64 x3, .int .i64 x4, .slice au nu cu] 47) = W0) := hW0
            have HB0 : Hid (Tk.But (fun i => i = w.heap.size + 1) w1 W0) := BW0
            have HX : Hid (fs[j2] = x) := hx
            clear hcall hc c0 c1 c2 c3 c4 c5 hT hx hx0 hx1 hx2 hx3 hx4 hnu hq hW0 BW0
            go_wp2_with fail
            rw [HW0.out]
            refine Calls.mono HC.out ?_
            rintro e W3 ⟨hb3, ⟨rfl, hs3, hr3⟩ | rfl⟩
            · have B3 : Hid (Tk.But (fun i => i = w.heap.size + 1) w1 W3) := HB0.out.trans hb3
              have H3 : Hid (x.c.size ≤ k2 ∧ Tk.Rm (w.heap.size + 1) ((k2 - x.c.size : Nat) : Int) W3) := ⟨hs3, hr3⟩
              clear hb3 hs3 hr3 HC
              go_wp2
              go_roundg (gk - 1)
              case measure => omega
              case rel =>
                refine ⟨j2 + 1, k2 - x.c.size, by omega, by go_num, B3.out, by have := HJ.out.2.1; omega, H3.out.2, fun y hy => ?_⟩
                rw [Tm.take_snoc _ _ hjl, List.mem_append] at hy
                rcases hy with hy | hy
                · exact HJ.out.2.2.2 y hy
                · simp only [List.mem_singleton] at hy
                  rw [hy, HX.out]
                  have := H3.out.1; have := HJ.out.2.1; omega
            · have B3 : Hid (Below w.heap.size w W3) := (HK.out _ (HB0.out.trans hb3)).1
              clear hb3 HC
              go_wp2
              go_ret
              exact ⟨B3.out, .inl rfl⟩
          · have hd2 : decide ((j2 : Int) < m) = false := decide_eq_false (by omega)
            have HFS : Hid (∀ x, x ∈ fs → x.c.size ≤ 3000) := fun x hx => HJ.out.2.2.2 x (by rw [List.take_of_length_le (by rw [HH.out.2.2.2]; omega)]; exact hx)
            go_wp2
            go_ret
            exact ⟨HBL2.out, .inr ⟨rfl, by rw [HH.out.2.2.1]; exact hn60, by rw [HH.out.2.2.2]; exact hm100, HNS.out, HFS.out⟩⟩

end Go.Proofs
