/-
  The walk of NetRoads: in a right process each node is led to from the start, and leads to the end.
-/
import Derived.Test.YtmhochajajaklaaDoorNtRef6
import Derived.Test.YtmhochajajaklaaDoorNtLine
import Derived.Test.YtmhochajajaklaaDoorNtLarge
import Derived.Test.YtmhochajajaklaaDoorWalkNetSums
namespace Go.Proofs.YtmhochajajaklaaDoor.NetRoads
open Go.RowKit Go.Shelf

set_option maxRecDepth 20000 in
set_option maxHeartbeats 8000000 in
theorem walk (an : Option Addr) (cn : Nat) (af : Option Addr) (cf : Nat) (ns : List Nd) (fs : List Fl) (d : Nat) (i : Int) (w : World) (hN : Nt.Nds w w.heap.size d an ns) (hF : Nt.Fls w w.heap.size d af fs) (hO : Tk.Ops w) :
    Calls Tryd.prog 7 #[.agg #[.slice an ns.length cn, .slice af fs.length cf], .int .i64 i] w fun e w' => e = .returned (.bool true) ∧ Below w.heap.size w w' := by
  obtain ⟨w0, hw0⟩ : ∃ x, w.alloc (.cells #[.slice an ns.length cn, .slice af fs.length cf] 25) = x := ⟨_, rfl⟩
  have A0 : Below w.heap.size w w0 := by rw [← hw0]; exact (Below.refl _ w).alloc (Nat.le_refl _) _
  have G0 : w0.heap[w.heap.size]? = some (.cells #[.slice an ns.length cn, .slice af fs.length cf] 25 (0, 0)) := by rw [← hw0]; exact heap_alloc_new w _
  have hlg := Tryd.nlarge_any an cn af cf d ns fs w0 ((hN.below A0).wider A0.size) ((hF.below A0).wider A0.size)
  have HLN : Hid (∀ W, Below w.heap.size w W → Calls Tryd.prog 10 #[] W fun e w' => e = .returned (.bool true) ∧ Hid (Below w.heap.size w w')) := fun W hb => (Tryd.line_any W (hO.below hb hO.lt)).mono fun e w' h => ⟨h.1, hb.trans (h.2.mono hb.size)⟩
  obtain ⟨n, hnn⟩ : ∃ n, ns.length = n := ⟨_, rfl⟩
  obtain ⟨m, hmm⟩ : ∃ n, fs.length = n := ⟨_, rfl⟩
  have HBX : Hid (∀ W, Below w0.heap.size w0 W → W.cell? ⟨w.heap.size, 0, none⟩ = some (.slice an n cn) ∧ W.cell? ⟨w.heap.size, 1, none⟩ = some (.slice af m cf)) := fun W hb => by
    have := Nt.box2 ((hb.block _ (Nt.lt_of G0)).trans G0)
    rw [hnn, hmm] at this
    exact this
  have HNF : Hid (Nt.Nds w w.heap.size d an ns ∧ Nt.Fls w w.heap.size d af fs ∧ Tk.Ops w ∧ ns.length = n ∧ fs.length = m) := ⟨hN, hF, hO, hnn, hmm⟩
  rw [hnn, hmm] at hlg hw0 ⊢
  have HL : Hid _ := hlg
  have H0 : Hid (w.alloc (.cells #[.slice an n cn, .slice af m cf] 25) = w0) := hw0
  have HA : Hid (Below w.heap.size w w0) := A0
  clear hlg hw0 A0 G0 hN hF hO hnn hmm
  go_enter Tryd.func7, Tryd.ntmps7
  go_wp2_with fail
  rw [H0.out]
  refine Calls.mono HL.out ?_
  rintro e W1 ⟨hb1, rfl | ⟨rfl, hn60, hm100, hnz, hfz⟩⟩
  · have B1 : Hid (Below w.heap.size w W1) := HA.out.trans (hb1.mono HA.out.size)
    clear hb1 HL H0
    go_wp2_with fail
    refine Calls.mono (HLN.out W1 B1.out) ?_
    rintro e W2 ⟨rfl, B2⟩
    clear HLN
    go_wp2
    go_ret
    exact ⟨rfl, B2.out⟩
  have B1 : Hid (Below w0.heap.size w0 W1) := hb1
  have HS : Hid (∀ W, Below w0.heap.size w0 W → Nt.Has W W.heap.size d an af ns fs ∧ Tk.Ops W ∧ Below w.heap.size w W) := fun W hb => by
    have hbw : Below w.heap.size w W := HA.out.trans (hb.mono HA.out.size)
    refine ⟨⟨(HNF.out.1.below hbw).wider hbw.size, (HNF.out.2.1.below hbw).wider hbw.size, by omega, by omega, fun x hx => by have := hnz x hx; omega, fun x hx => by have := hfz x hx; omega⟩, HNF.out.2.2.1.below hbw HNF.out.2.2.1.lt, hbw⟩
  have hn' : n ≤ 60 := by rw [← HNF.out.2.2.2.1]; exact hn60
  have hm' : m ≤ 100 := by rw [← HNF.out.2.2.2.2]; exact hm100
  clear hb1 HL H0 hn60 hm100 hnz hfz
  obtain ⟨p0, p1⟩ := HBX.out W1 B1.out
  by_cases hout : i < 0 ∨ (n : Int) ≤ i
  · obtain h1 | ⟨h1, h2⟩ : decide (i < 0) = true ∨ (decide (i < 0) = false ∧ decide ((n : Int) ≤ i) = true) := by simp; omega
    all_goals
      clear hout
      go_wp2_with fail
      refine Calls.mono (HLN.out W1 (HS.out W1 B1.out).2.2) ?_
      rintro e W2 ⟨rfl, B2⟩
      clear HLN p0 p1
      go_wp2
      go_ret
      exact ⟨rfl, B2.out⟩
  have h1 : decide (i < 0) = false := decide_eq_false (by omega)
  have h2 : decide ((n : Int) ≤ i) = false := decide_eq_false (by omega)
  obtain ⟨k, hk⟩ : ∃ k : Nat, i = k := ⟨i.toNat, by omega⟩
  subst hk
  have hkn : k < n := by omega
  have hkn' : (k : Int) < n := by omega
  have hk0 : (0 : Int) ≤ k := by omega
  have h2n : decide (n ≤ k) = false := decide_eq_false (by omega)
  clear hout
  have CK : Hid (∀ W, Below w0.heap.size w0 W → Calls Tryd.prog 11 #[.agg #[.slice an n cn, .slice af m cf]] W fun e w' => e = .returned (.tuple #[.int .i64 ((Nt.checkN ns fs).1 : Int), .int .i64 ((Nt.checkN ns fs).2 : Int)]) ∧ Hid (Below w0.heap.size w0 w')) := fun W hb => by
    have h := Tryd.nCheck_any an cn af cf d ns fs W (HS.out W hb).1 (HS.out W hb).2.1
    rw [HNF.out.2.2.2.1, HNF.out.2.2.2.2] at h
    exact h.mono fun e w' q => ⟨q.1, hb.trans (q.2.mono hb.size)⟩
  have CR : Hid (∀ W, Below w0.heap.size w0 W → Calls Tryd.prog 12 #[.agg #[.slice an n cn, .slice af m cf]] W fun e w' => e = .returned (.agg #[.int .i64 ((Nt.checkN ns fs).1 : Int), .int .i64 ((Nt.checkN ns fs).2 : Int)]) ∧ Hid (Below w0.heap.size w0 w')) := fun W hb => by
    have h := Tryd.rCheck_any an cn af cf d ns fs W (HS.out W hb).1
    rw [HNF.out.2.2.2.1, HNF.out.2.2.2.2] at h
    exact h.mono fun e w' q => ⟨q.1, hb.trans (q.2.mono hb.size)⟩
  obtain ⟨c, hc⟩ : ∃ c, Nt.checkN ns fs = c := ⟨_, rfl⟩
  rw [hc] at CK CR
  obtain ⟨r, at_⟩ := c
  have HCK : Hid (Nt.checkN ns fs = (r, at_)) := hc
  clear hc
  go_wp2_with fail
  refine Calls.mono (CK.out W1 B1.out) ?_
  rintro e W2 ⟨rfl, B2⟩
  clear p0 p1 CK
  by_cases hr : r = 0
  rotate_left
  · have e0 : ((r : Int) != 0) = true := by simpa using hr
    clear hr
    go_wp2_with fail
    refine Calls.mono (HLN.out W2 (HS.out W2 B2.out).2.2) ?_
    rintro e W3 ⟨rfl, B3⟩
    clear HLN
    go_wp2
    go_ret
    exact ⟨rfl, B3.out⟩
  subst hr
  have HR : Hid (Nt.wrong1 ns fs = [] ∧ Nt.wrong2 ns fs = [] ∧ Nt.wrong3 ns fs = [] ∧ Nt.wrong4 ns fs = []) := Nt.right_keeps (by rw [HCK.out])
  obtain ⟨p0, p1⟩ := HBX.out W2 B2.out
  go_wp2_with fail
  refine Calls.mono (CR.out W2 B2.out) ?_
  rintro e W3 ⟨rfl, B3⟩
  clear p0 p1 CR
  have h30 : 0 ≤ Nt.firstI ns 1 ∧ 0 ≤ Nt.firstI ns 2 := Nt.three_keeps (fs := fs) (by rw [HR.out.2.2.1]; rfl)
  obtain ⟨s, hs⟩ : ∃ s : Nat, Nt.firstI ns 1 = s := ⟨(Nt.firstI ns 1).toNat, by omega⟩
  obtain ⟨t, ht⟩ : ∃ s : Nat, Nt.firstI ns 2 = s := ⟨(Nt.firstI ns 2).toNat, by omega⟩
  have hsn : s < n := by have := Nt.firstI_lt ns 1; rw [HNF.out.2.2.2.1] at this; omega
  have htn : t < n := by have := Nt.firstI_lt ns 2; rw [HNF.out.2.2.2.1] at this; omega
  have CS : Hid (∀ W, Below w0.heap.size w0 W → Calls Tryd.prog 18 #[.agg #[.slice an n cn, .slice af m cf]] W fun e w' => e = .returned (.int .i64 s) ∧ Hid (Below w0.heap.size w0 w')) := fun W hb => by
    have h := Tryd.nStart_any an cn d af m cf ns W (HS.out W hb).1.nds (HS.out W hb).1.nlen
    rw [hs, HNF.out.2.2.2.1] at h
    exact h.mono fun e w' q => ⟨q.1, hb.trans (q.2.mono hb.size)⟩
  have CE : Hid (∀ W, Below w0.heap.size w0 W → Calls Tryd.prog 20 #[.agg #[.slice an n cn, .slice af m cf]] W fun e w' => e = .returned (.int .i64 t) ∧ Hid (Below w0.heap.size w0 w')) := fun W hb => by
    have h := Tryd.nEnd_any an cn d af m cf ns W (HS.out W hb).1.nds (HS.out W hb).1.nlen
    rw [ht, HNF.out.2.2.2.1] at h
    exact h.mono fun e w' q => ⟨q.1, hb.trans (q.2.mono hb.size)⟩
  have CH : Hid (∀ (a : Nat) (W : World), a < n → Below w0.heap.size w0 W → Calls Tryd.prog 24 #[.agg #[.slice an n cn, .slice af m cf], .int .i64 a] W fun e w' => ∃ g, e = .returned (.slice (some ⟨g, 0, none⟩) n n) ∧ Hid (Below W.heap.size W w' ∧ g < w'.heap.size ∧ ∀ i, i < n → w'.cell? ⟨g, i, none⟩ = some (.bool (Rk.met (Nt.edges fs) a i)))) := fun a W ha hb => by
    have hn24 := (Nt.one_keeps (ns := ns) (fs := fs) (by rw [HR.out.1]; rfl)).1
    have q := Tryd.rReach_any a an cn af cf d ns fs W (HS.out W hb).1 hn24 (fun f hf => by
      have := Nt.two_keeps (ns := ns) (fs := fs) (by rw [HR.out.2.1]; rfl) f hf
      exact ⟨this.1, this.2.1, this.2.2.1, this.2.2.2.1⟩) (by rw [HNF.out.2.2.2.1]; exact ha)
    rw [HNF.out.2.2.2.1, HNF.out.2.2.2.2] at q
    refine q.mono fun e w' ⟨g, he, _, hbt, hbb⟩ => ⟨g, he, hbb, hbt.lt, fun i hi => hbt.cell i _ (by simp [hi])⟩
  have hroad : Nt.roadB ns fs k = true := by
    have := Nt.filter_nil (n := ns.length) (p := fun i => !Nt.roadB ns fs i) (by rw [show (List.range ns.length).filter (fun i => !Nt.roadB ns fs i) = [] from HR.out.2.2.2]; rfl) k (by rw [HNF.out.2.2.2.1]; exact hkn)
    simpa using this
  unfold Nt.roadB at hroad
  rw [hs, ht] at hroad
  have HRD : Hid (Rk.met (Nt.edges fs) s k = true ∧ Rk.met (Nt.edges fs) k t = true) := by show _ ∧ _; simpa using hroad
  have t1 : decide ((s : Int) < 0) = false := decide_eq_false (by omega)
  have t2 : decide ((t : Int) < 0) = false := decide_eq_false (by omega)
  have t3 : decide ((n : Int) ≤ s) = false := decide_eq_false (by omega)
  have t4 : decide ((n : Int) ≤ t) = false := decide_eq_false (by omega)
  have t3n : decide (n ≤ s) = false := decide_eq_false (by omega)
  have t4n : decide (n ≤ t) = false := decide_eq_false (by omega)
  have htn' : (t : Int) < n := by omega
  have ht0 : (0 : Int) ≤ t := by omega
  obtain ⟨p0, p1⟩ := HBX.out W3 B3.out
  have hfd : ∀ W : World, (Instr.field 31 (.agg #[.int .i64 0, .int .i64 (at_ : Int)]) 0).run Tryd.prog W = .ok (.int .i64 0) W := fun _ => by kernel_rfl
  clear hs ht h30 hroad HCK HR
  go_wp2_with fail
  refine Calls.mono (CS.out W3 B3.out) ?_
  rintro e W4 ⟨rfl, B4⟩
  clear p0 p1 CS
  obtain ⟨p0, p1⟩ := HBX.out W4 B4.out
  go_wp2_with fail
  refine Calls.mono (CE.out W4 B4.out) ?_
  rintro e W5 ⟨rfl, B5⟩
  clear p0 p1 CE
  obtain ⟨p0, p1⟩ := HBX.out W5 B5.out
  go_wp2_with fail
  refine Calls.mono (CH.out s W5 hsn B5.out) ?_
  rintro e W6 ⟨gs, rfl, B6⟩
  have B6w : Hid (Below w0.heap.size w0 W6) := B5.out.trans (B6.out.1.mono B5.out.size)
  clear p0 p1
  obtain ⟨p0, p1⟩ := HBX.out W6 B6w.out
  go_wp2_with fail
  refine Calls.mono (CH.out k W6 hkn B6w.out) ?_
  rintro e W7 ⟨gb, rfl, B7⟩
  have B7w : Hid (Below w0.heap.size w0 W7) := B6w.out.trans (B7.out.1.mono B6w.out.size)
  have z1 : W7.cell? ⟨gs, k, none⟩ = some (.bool true) := by rw [B7.out.1.cell (p := ⟨gs, k, none⟩) B6.out.2.1, B6.out.2.2 k hkn, HRD.out.1]
  have z2 : W7.cell? ⟨gb, t, none⟩ = some (.bool true) := by rw [B7.out.2.2 t htn, HRD.out.2]
  clear p0 p1 CH
  go_wp2_with fail
  refine Calls.mono (HLN.out W7 (HS.out W7 B7w.out).2.2) ?_
  rintro e W8 ⟨rfl, B8⟩
  clear HLN z1 z2
  go_wp2
  go_ret
  exact ⟨rfl, B8.out⟩

end Go.Proofs.YtmhochajajaklaaDoor.NetRoads
