/-
  The walk of NetChecks: which rule any process breaks, and where.
-/
import Derived.Test.YtmhochajajaklaaDoorNtRef6
import Derived.Test.YtmhochajajaklaaDoorNtLine
import Derived.Test.YtmhochajajaklaaDoorNtLarge
namespace Go.Proofs.YtmhochajajaklaaDoor.NetChecks
open Go.RowKit Go.Shelf

set_option maxRecDepth 20000 in
set_option maxHeartbeats 8000000 in
theorem walk (an : Option Addr) (cn : Nat) (af : Option Addr) (cf : Nat) (ns : List Nd) (fs : List Fl) (d : Nat) (w : World) (hN : Nt.Nds w w.heap.size d an ns) (hF : Nt.Fls w w.heap.size d af fs) (hO : Tk.Ops w) :
    Calls Tryd.prog 3 #[.agg #[.slice an ns.length cn, .slice af fs.length cf]] w fun e w' => e = .returned (.bool true) ∧ Below w.heap.size w w' := by
  obtain ⟨w0, hw0⟩ : ∃ x, w.alloc (.cells #[.slice an ns.length cn, .slice af fs.length cf] 25) = x := ⟨_, rfl⟩
  have A0 : Below w.heap.size w w0 := by rw [← hw0]; exact (Below.refl _ w).alloc (Nat.le_refl _) _
  have G0 : w0.heap[w.heap.size]? = some (.cells #[.slice an ns.length cn, .slice af fs.length cf] 25 (0, 0)) := by rw [← hw0]; exact heap_alloc_new w _
  have hlg := Tryd.nlarge_any an cn af cf d ns fs w0 ((hN.below A0).wider A0.size) ((hF.below A0).wider A0.size)
  have HLN : Hid (∀ W, Below w.heap.size w W → Calls Tryd.prog 10 #[] W fun e w' => e = .returned (.bool true) ∧ Hid (Below w.heap.size w w')) := fun W hb => (Tryd.line_any W (hO.below hb hO.lt)).mono fun e w' h => ⟨h.1, hb.trans (h.2.mono hb.size)⟩
  obtain ⟨n, hnn⟩ : ∃ n, ns.length = n := ⟨_, rfl⟩
  obtain ⟨m, hmm⟩ : ∃ n, fs.length = n := ⟨_, rfl⟩
  have HBX : Hid (∀ W, Below w0.heap.size w0 W → W.cell? ⟨w.heap.size, 0, none⟩ = some (.slice an n cn) ∧ W.cell? ⟨w.heap.size, 1, none⟩ = some (.slice af m cf)) := fun W hb => by
    have := Nt.box2 ((hb.block _ (Nt.lt_of G0)).trans G0)
    rw [hnn, hmm] at this
    exact this
  have HNF : Hid (Nt.Nds w w.heap.size d an ns ∧ Nt.Fls w w.heap.size d af fs ∧ Tk.Ops w ∧ ns.length = n ∧ fs.length = m) := ⟨hN, hF, hO, hnn, hmm⟩
  rw [hnn, hmm] at hlg hw0 ⊢
  have HL : Hid _ := hlg
  have H0 : Hid (w.alloc (.cells #[.slice an n cn, .slice af m cf] 25) = w0) := hw0
  have HA : Hid (Below w.heap.size w w0) := A0
  clear hlg hw0 A0 G0 hN hF hO hnn hmm
  go_enter Tryd.func3, Tryd.ntmps3
  go_wp2_with fail
  rw [H0.out]
  refine Calls.mono HL.out ?_
  rintro e W1 ⟨hb1, rfl | ⟨rfl, hn60, hm100, hnz, hfz⟩⟩
  · have B1 : Hid (Below w.heap.size w W1) := HA.out.trans (hb1.mono HA.out.size)
    clear hb1 HL H0
    go_wp2_with fail
    refine Calls.mono (HLN.out W1 B1.out) ?_
    rintro e W2 ⟨rfl, B2⟩
    clear HLN
    go_wp2
    go_ret
    exact ⟨rfl, B2.out⟩
  have B1 : Hid (Below w0.heap.size w0 W1) := hb1
  have HS : Hid (∀ W, Below w0.heap.size w0 W → Nt.Has W W.heap.size d an af ns fs ∧ Tk.Ops W ∧ Below w.heap.size w W) := fun W hb => by
    have hbw : Below w.heap.size w W := HA.out.trans (hb.mono HA.out.size)
    refine ⟨⟨(HNF.out.1.below hbw).wider hbw.size, (HNF.out.2.1.below hbw).wider hbw.size, by omega, by omega, fun x hx => by have := hnz x hx; omega, fun x hx => by have := hfz x hx; omega⟩, HNF.out.2.2.1.below hbw HNF.out.2.2.1.lt, hbw⟩
  have hn' : n ≤ 60 := by rw [← HNF.out.2.2.2.1]; exact hn60
  have hm' : m ≤ 100 := by rw [← HNF.out.2.2.2.2]; exact hm100
  clear hb1 HL H0 hn60 hm100 hnz hfz
  have CK : Hid (∀ W, Below w0.heap.size w0 W → Calls Tryd.prog 11 #[.agg #[.slice an n cn, .slice af m cf]] W fun e w' => e = .returned (.tuple #[.int .i64 ((Nt.checkN ns fs).1 : Int), .int .i64 ((Nt.checkN ns fs).2 : Int)]) ∧ Hid (Below w0.heap.size w0 w')) := fun W hb => by
    have h := Tryd.nCheck_any an cn af cf d ns fs W (HS.out W hb).1 (HS.out W hb).2.1
    rw [HNF.out.2.2.2.1, HNF.out.2.2.2.2] at h
    exact h.mono fun e w' q => ⟨q.1, hb.trans (q.2.mono hb.size)⟩
  have CR : Hid (∀ W, Below w0.heap.size w0 W → Calls Tryd.prog 12 #[.agg #[.slice an n cn, .slice af m cf]] W fun e w' => e = .returned (.agg #[.int .i64 ((Nt.checkN ns fs).1 : Int), .int .i64 ((Nt.checkN ns fs).2 : Int)]) ∧ Hid (Below w0.heap.size w0 w')) := fun W hb => by
    have h := Tryd.rCheck_any an cn af cf d ns fs W (HS.out W hb).1
    rw [HNF.out.2.2.2.1, HNF.out.2.2.2.2] at h
    exact h.mono fun e w' q => ⟨q.1, hb.trans (q.2.mono hb.size)⟩
  obtain ⟨c, hc⟩ : ∃ c, Nt.checkN ns fs = c := ⟨_, rfl⟩
  rw [hc] at CK CR
  obtain ⟨r, at_⟩ := c
  have HCK : Hid (Nt.checkN ns fs = (r, at_)) := hc
  clear hc
  obtain ⟨p0, p1⟩ := HBX.out W1 B1.out
  go_wp2_with fail
  refine Calls.mono (CK.out W1 B1.out) ?_
  rintro e W2 ⟨rfl, B2⟩
  clear p0 p1 CK
  obtain ⟨p0, p1⟩ := HBX.out W2 B2.out
  go_wp2_with fail
  refine Calls.mono (CR.out W2 B2.out) ?_
  rintro e W3 ⟨rfl, B3⟩
  have B4 : Hid (Below w.heap.size w (W3.alloc (.cells #[.int .i64 (r : Int), .int .i64 (at_ : Int)] 31))) := by
    have := (HS.out W3 B3.out).2.2
    exact this.alloc this.size _
  clear p0 p1 CR HCK
  go_wp2_with fail
  refine Calls.mono (HLN.out _ B4.out) ?_
  rintro e W5 ⟨rfl, B5⟩
  clear HLN
  go_wp2
  go_ret
  exact ⟨rfl, B5.out⟩

end Go.Proofs.YtmhochajajaklaaDoor.NetChecks
