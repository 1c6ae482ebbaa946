/-
  The document's Is, of rule 4.
-/
import Derived.Test.YtiedlccnlkhnkaaDoorNtRef7
import Derived.Test.YtiedlccnlkhnkaaDoorNtTake
namespace Go.Proofs
open Go.RowKit Go.Shelf

set_option maxRecDepth 20000 in
set_option maxHeartbeats 8000000 in
theorem Tryd.rIs4_any (k : Nat) (an : Option Addr) (cn : Nat) (af : Option Addr) (cf d : Nat) (ns : List Nd) (fs : List Fl) (w : World) (hH : Nt.Has w w.heap.size d an af ns fs) (hn24 : ns.length ≤ 24) (hes : ∀ f, f ∈ fs → 0 ≤ f.fr ∧ f.fr < ns.length ∧ 0 ≤ f.to ∧ f.to < ns.length) (h30 : 0 ≤ Nt.firstI ns 1 ∧ 0 ≤ Nt.firstI ns 2) (hk : k ≤ 1000) :
    Calls Tryd.prog 14 #[.agg #[.slice an ns.length cn, .slice af fs.length cf], .int .i64 4, .int .i64 k] w fun e w' => e = .returned (.bool (decide (k ∈ Nt.wrong4 ns fs))) ∧ Below w.heap.size w w' := by
  obtain ⟨n, hnn⟩ : ∃ n, ns.length = n := ⟨_, rfl⟩
  obtain ⟨m, hmm⟩ : ∃ n, fs.length = n := ⟨_, rfl⟩
  have hn100 : n ≤ 100 := by have := hH.nlen; omega
  have hm100 : m ≤ 100 := by have := hH.flen; omega
  have HH : Hid (Nt.Has w w.heap.size d an af ns fs ∧ ns.length = n ∧ fs.length = m) := ⟨hH, hnn, hmm⟩
  obtain ⟨r, hr⟩ : ∃ r, decide (k ∈ Nt.wrong4 ns fs) = r := ⟨_, rfl⟩
  have HR : Hid (decide (k ∈ Nt.wrong4 ns fs) = r) := hr
  obtain ⟨s, hs⟩ : ∃ s : Nat, Nt.firstI ns 1 = s := ⟨(Nt.firstI ns 1).toNat, by omega⟩
  obtain ⟨t, ht⟩ : ∃ s : Nat, Nt.firstI ns 2 = s := ⟨(Nt.firstI ns 2).toNat, by omega⟩
  have hsn : s < n := by have := Nt.firstI_lt ns 1; omega
  have htn : t < n := by have := Nt.firstI_lt ns 2; omega
  have HF : Hid (Nt.firstI ns 1 = s ∧ Nt.firstI ns 2 = t) := ⟨hs, ht⟩
  have CF1 : Hid (∀ W, Nt.Iw w an af n cn m cf W → Calls Tryd.prog 41 #[.agg #[.slice an n cn, .slice af m cf], .int .i64 1] W fun e w' => e = .returned (.int .i64 s) ∧ Hid (Nt.Iw w an af n cn m cf w')) := fun W hw => by
    have h := Tryd.rFirst_any 1 an cn d af m cf ns W ((HH.out.1.below hw.below).wider hw.below.size).nds HH.out.1.nlen
    rw [hs, HH.out.2.1] at h
    exact h.mono fun e w' q => ⟨q.1, hw.next q.2⟩
  have CF2 : Hid (∀ (W : World) (g : Nat) (b : Bool), Nt.Iw w an af n cn m cf W ∧ g < W.heap.size ∧ W.cell? ⟨g, t, none⟩ = some (.bool b) → Calls Tryd.prog 41 #[.agg #[.slice an n cn, .slice af m cf], .int .i64 2] W fun e w' => e = .returned (.int .i64 t) ∧ Hid (Nt.Iw w an af n cn m cf w' ∧ w'.cell? ⟨g, t, none⟩ = some (.bool b))) := fun W g b ⟨hw, hgl, hgc⟩ => by
    have h := Tryd.rFirst_any 2 an cn d af m cf ns W ((HH.out.1.below hw.below).wider hw.below.size).nds HH.out.1.nlen
    rw [ht, HH.out.2.1] at h
    exact h.mono fun e w' q => ⟨q.1, hw.next q.2, by rw [q.2.cell (p := ⟨g, t, none⟩) hgl]; exact hgc⟩
  have CH : Hid (∀ (a i : Nat) (W : World), a < n → i < n → Nt.Iw w an af n cn m cf W → Calls Tryd.prog 43 #[.agg #[.slice an n cn, .slice af m cf], .int .i64 a] W fun e w' => ∃ g, e = .returned (.slice (some ⟨g, 0, none⟩) n n) ∧ Hid (Nt.Iw w an af n cn m cf w' ∧ g < w'.heap.size ∧ w'.cell? ⟨g, i, none⟩ = some (.bool (Rk.met (Nt.edges fs) a i)))) := fun a i W ha hi hw => by
    have q := Tryd.rReach_any a an cn af cf d ns fs W ((HH.out.1.below hw.below).wider hw.below.size) hn24 hes (by omega)
    rw [HH.out.2.1, HH.out.2.2] at q
    exact q.mono fun e w' ⟨g, he, _, hbt, hbb⟩ => ⟨g, he, hw.next hbb, hbt.lt, hbt.cell i _ (by simp [hi])⟩
  rw [hnn, hmm, hr]
  obtain ⟨w0, hw0⟩ : ∃ x, w.alloc (.cells #[.slice an n cn, .slice af m cf] 25) = x := ⟨_, rfl⟩
  have HI : Hid (Nt.Iw w an af n cn m cf w0) := by rw [← hw0]; exact Nt.Iw.first ..
  have H0 : Hid (w.alloc (.cells #[.slice an n cn, .slice af m cf] 25) = w0) := hw0
  have HBX : Hid (∀ W, Nt.Iw w an af n cn m cf W → W.cell? ⟨w.heap.size, 0, none⟩ = some (.slice an n cn) ∧ W.cell? ⟨w.heap.size, 1, none⟩ = some (.slice af m cf)) := fun W hw => Nt.box2 hw.box
  obtain ⟨p0, p1⟩ := Nt.box2 HI.out.box
  clear hH hes hn24 hnn hmm hr hw0 hs ht h30
  have hk0 : (0 : Int) ≤ k := by omega
  have ht0 : (0 : Int) ≤ t := by omega
  have htn' : (t : Int) < n := by omega
  by_cases hlt : k < n
  rotate_left
  · have hd : decide ((k : Int) < n) = false := decide_eq_false (by omega)
    have hdn : decide (k < n) = false := decide_eq_false (by omega)
    obtain rfl : r = false := by rw [← HR.out]; exact Nt.mem_filter_out (by rw [HH.out.2.1]; omega)
    clear hlt CF1 CF2 CH HBX
    go_enter Tryd.func14, Tryd.ntmps14
    go_upto_region 14 with fail
    rw [H0.out]
    go_quiet (fail)
    all_goals
      go_wp2
      go_ret
      exact ⟨rfl, by first | exact HI.out.below | exact HI.out.below.drew | exact Tk.below_drewN HI.out.below _⟩
  have hd : decide ((k : Int) < n) = true := decide_eq_true (by omega)
  have hdn : decide (k < n) = true := decide_eq_true (by omega)
  have hlt' : (k : Int) < n := by omega
  have hrx : r = !(Rk.met (Nt.edges fs) s k && Rk.met (Nt.edges fs) k t) := by
    rw [← HR.out, Nt.wrong4, Nt.mem_filter_at (by rw [HH.out.2.1]; exact hlt), Nt.roadB, HF.out.1, HF.out.2]
    rfl
  have C1 := fun W hw => CH.out s k W hsn hlt hw
  have C2 := fun W hw => CH.out k t W hlt htn hw
  obtain ⟨b1, hb1⟩ : ∃ z, Rk.met (Nt.edges fs) s k = z := ⟨_, rfl⟩
  obtain ⟨b2, hb2⟩ : ∃ z, Rk.met (Nt.edges fs) k t = z := ⟨_, rfl⟩
  rw [hb1] at hrx
  rw [hb2] at hrx
  simp only [hb1] at C1
  simp only [hb2] at C2
  have CR1 : Hid (∀ W, Nt.Iw w an af n cn m cf W → Calls Tryd.prog 43 #[.agg #[.slice an n cn, .slice af m cf], .int .i64 (s : Int)] W fun e w' => ∃ g, e = .returned (.slice (some ⟨g, 0, none⟩) n n) ∧ Hid (Nt.Iw w an af n cn m cf w' ∧ g < w'.heap.size ∧ w'.cell? ⟨g, k, none⟩ = some (.bool b1))) := C1
  have CR2 : Hid (∀ W, Nt.Iw w an af n cn m cf W → Calls Tryd.prog 43 #[.agg #[.slice an n cn, .slice af m cf], .int .i64 (k : Int)] W fun e w' => ∃ g, e = .returned (.slice (some ⟨g, 0, none⟩) n n) ∧ Hid (Nt.Iw w an af n cn m cf w' ∧ g < w'.heap.size ∧ w'.cell? ⟨g, t, none⟩ = some (.bool b2))) := C2
  have HS : Hid (r = !(b1 && b2)) := hrx
  clear C1 C2 CH hb1 hb2 hrx HR
  cases b1 with
  | false =>
    obtain rfl : r = true := by rw [HS.out]; rfl
    clear HS CR2 CF2
    go_enter Tryd.func14, Tryd.ntmps14
    go_upto_region 14 with fail
    rw [H0.out]
    clear H0
    refine wp_region_held_drew (S := fun W => W.cell? ⟨w.heap.size, 0, none⟩ = some (.slice an n cn) ∧ W.cell? ⟨w.heap.size, 1, none⟩ = some (.slice af m cf)) (by kernel_rfl) ?_ (fun hA => ?_)
    · exact HBX.out _ HI.out.drew
    refine Nt.takeS (v := ?va0) 0 123 rfl rfl (by kernel_rfl) (by kernel_rfl) (by kernel_rfl) (fun _ _ _ h => h) (Or.inl ⟨by rfl, ?ya0⟩) hA ?ra0
    case ya0 => (intro w hSw; (try dsimp only at hSw); go_simp; all_goals (with_reducible rfl))
    simp only [List.set_cons_succ, List.set_cons_zero]
    refine Nt.takeS (v := ?va1) 1 124 rfl rfl (by kernel_rfl) (by kernel_rfl) (by kernel_rfl) (fun _ _ _ h => h) (Or.inl ⟨by rfl, ?ya1⟩) hA ?ra1
    case ya1 => (intro w hSw; (try dsimp only at hSw); go_simp; all_goals (with_reducible rfl))
    simp only [List.set_cons_succ, List.set_cons_zero]
    refine Nt.takeS (v := ?va2) 2 125 rfl rfl (by kernel_rfl) (by kernel_rfl) (by kernel_rfl) (fun _ _ _ h => h) (Or.inl ⟨by rfl, ?ya2⟩) hA ?ra2
    case ya2 => (intro w hSw; (try dsimp only at hSw); go_simp; all_goals (with_reducible rfl))
    simp only [List.set_cons_succ, List.set_cons_zero]
    refine Nt.takeS (v := ?va3) 3 126 rfl rfl (by kernel_rfl) (by kernel_rfl) (by kernel_rfl) (fun _ _ _ h => h) (Or.inl ⟨by rfl, ?ya3⟩) hA ?ra3
    case ya3 => (intro w hSw; (try dsimp only at hSw); go_simp; all_goals (with_reducible rfl))
    simp only [List.set_cons_succ, List.set_cons_zero]
    refine Nt.takeS (v := ?va4) 4 127 rfl rfl (by kernel_rfl) (by kernel_rfl) (by kernel_rfl) (fun _ _ _ h => h) (Or.inl ⟨by rfl, ?ya4⟩) hA ?ra4
    case ya4 => (intro w hSw; (try dsimp only at hSw); go_simp; all_goals (with_reducible rfl))
    simp only [List.set_cons_succ, List.set_cons_zero]
    refine Nt.takeS (v := ?va5) 5 128 rfl rfl (by kernel_rfl) (by kernel_rfl) (by kernel_rfl) (fun _ _ _ h => h) (Or.inl ⟨by rfl, ?ya5⟩) hA ?ra5
    case ya5 => (intro w hSw; (try dsimp only at hSw); go_simp; all_goals (with_reducible rfl))
    simp only [List.set_cons_succ, List.set_cons_zero]
    refine Nt.takeS (v := ?va6) 6 129 rfl rfl (by kernel_rfl) (by kernel_rfl) (by kernel_rfl) (fun _ _ _ h => h) (Or.inl ⟨by rfl, ?ya6⟩) hA ?ra6
    case ya6 => (intro w hSw; (try dsimp only at hSw); go_simp; all_goals (with_reducible rfl))
    simp only [List.set_cons_succ, List.set_cons_zero]
    refine Nt.takeS (v := ?va7) 7 130 rfl rfl (by kernel_rfl) (by kernel_rfl) (by kernel_rfl) (fun _ _ _ h => h) (Or.inl ⟨by rfl, ?ya7⟩) hA ?ra7
    case ya7 => (intro w hSw; (try dsimp only at hSw); go_simp; all_goals (with_reducible rfl))
    simp only [List.set_cons_succ, List.set_cons_zero]
    refine Nt.takeS (v := ?va8) 8 131 rfl rfl (by kernel_rfl) (by kernel_rfl) (by kernel_rfl) (fun _ _ _ h => h) (Or.inl ⟨by rfl, ?ya8⟩) hA ?ra8
    case ya8 => (intro w hSw; (try dsimp only at hSw); go_simp; all_goals (with_reducible rfl))
    simp only [List.set_cons_succ, List.set_cons_zero]
    refine Nt.takeS (v := ?va9) 9 132 rfl rfl (by kernel_rfl) (by kernel_rfl) (by kernel_rfl) (fun _ _ _ h => h) (Or.inl ⟨by rfl, ?ya9⟩) hA ?ra9
    case ya9 => (intro w hSw; (try dsimp only at hSw); go_simp; all_goals (with_reducible rfl))
    simp only [List.set_cons_succ, List.set_cons_zero]
    refine Nt.takeS (v := ?va10) 10 133 rfl rfl (by kernel_rfl) (by kernel_rfl) (by kernel_rfl) (fun _ _ _ h => h) (Or.inl ⟨by rfl, ?ya10⟩) hA ?ra10
    case ya10 => (intro w hSw; (try dsimp only at hSw); go_simp; all_goals (with_reducible rfl))
    simp only [List.set_cons_succ, List.set_cons_zero]
    refine Nt.takeS (v := ?va11) 11 134 rfl rfl (by kernel_rfl) (by kernel_rfl) (by kernel_rfl) (fun _ _ _ h => h) (Or.inl ⟨by rfl, ?ya11⟩) hA ?ra11
    case ya11 => (intro w hSw; (try dsimp only at hSw); go_simp; all_goals (with_reducible rfl))
    simp only [List.set_cons_succ, List.set_cons_zero]
    refine Nt.takeS (v := ?va14) 14 137 rfl rfl (by kernel_rfl) (by kernel_rfl) (by kernel_rfl) (fun _ _ _ h => h) (Or.inl ⟨by rfl, ?ya14⟩) hA ?ra14
    case ya14 => (intro w hSw; (try dsimp only at hSw); go_simp; all_goals (with_reducible rfl))
    simp only [List.set_cons_succ, List.set_cons_zero]
    refine wpAnyH_ready (rs := [12]) (by kernel_rfl) (by simp) ?_
    refine AllReadyH.cons rfl (fun K hK => ?_) AllReadyH.nil
    go_simp
    go_at_call 41
    refine Calls.mono (CF1.out _ HI.out.drew) ?_
    rintro e W1 ⟨rfl, X1⟩
    go_wp2_with fail
    refine hK.out _ _ ?_ (fun hA12 => ?_)
    · exact HBX.out _ X1.out
    clear hK K
    first | refine Nt.normS 135 rfl ?_ | skip
    first | (simp only [List.set_cons_succ, List.set_cons_zero]) | skip
    refine wpAnyH_ready (rs := [13]) (by kernel_rfl) (by simp) ?_
    refine AllReadyH.cons rfl (fun K hK => ?_) AllReadyH.nil
    go_simp
    go_at_call 43
    refine Calls.mono (CR1.out _ X1.out) ?_
    rintro e W2 ⟨g2, rfl, X2⟩
    go_wp2_with fail
    have z2 := X2.out.2.2
    refine hK.out _ _ ?_ (fun hA13 => ?_)
    · exact HBX.out _ X2.out.1
    clear hK K
    first | refine Nt.normS 136 rfl ?_ | skip
    first | (simp only [List.set_cons_succ, List.set_cons_zero]) | skip
    refine Nt.takeS (v := ?va15) 15 138 rfl rfl (by kernel_rfl) (by kernel_rfl) (by kernel_rfl) (fun _ _ _ h => h) (Or.inl ⟨by rfl, ?ya15⟩) hA13 ?ra15
    case ya15 => (intro w hSw; (try dsimp only at hSw); go_simp; all_goals (with_reducible rfl))
    simp only [List.set_cons_succ, List.set_cons_zero]
    refine wpAnyH_ready (rs := [16]) (by kernel_rfl) (by simp) ?_
    refine AllReadyH.cons rfl (fun K hK => ?_) AllReadyH.nil
    go_simp
    refine hK.out _ _ ?_ (fun hA16 => ?_)
    · exact HBX.out _ X2.out.1
    clear hK K
    first | refine Nt.normS 139 rfl ?_ | skip
    first | (simp only [List.set_cons_succ, List.set_cons_zero]) | skip
    refine Nt.takeS (v := ?va17) 17 140 rfl rfl (by kernel_rfl) (by kernel_rfl) (by kernel_rfl) (fun _ _ _ h => h) (Or.inl ⟨by rfl, ?ya17⟩) hA16 ?ra17
    case ya17 => (intro w hSw; (try dsimp only at hSw); go_simp; all_goals (with_reducible rfl))
    simp only [List.set_cons_succ, List.set_cons_zero]
    refine Nt.takeS (v := ?va18) 18 141 rfl rfl (by kernel_rfl) (by kernel_rfl) (by kernel_rfl) (fun _ _ _ h => h) (Or.inl ⟨by rfl, ?ya18⟩) hA16 ?ra18
    case ya18 => (intro w hSw; (try dsimp only at hSw); go_simp; all_goals (with_reducible rfl))
    simp only [List.set_cons_succ, List.set_cons_zero]
    refine Nt.takeS (v := undef) 19 142 rfl rfl (by kernel_rfl) (by kernel_rfl) (by kernel_rfl) (fun _ _ _ h => h) (Or.inr ⟨by rfl, rfl⟩) hA16 ?_
    simp only [List.set_cons_succ, List.set_cons_zero]
    refine Nt.takeS (v := undef) 20 143 rfl rfl (by kernel_rfl) (by kernel_rfl) (by kernel_rfl) (fun _ _ _ h => h) (Or.inr ⟨by rfl, rfl⟩) hA16 ?_
    simp only [List.set_cons_succ, List.set_cons_zero]
    refine Nt.takeS (v := undef) 21 144 rfl rfl (by kernel_rfl) (by kernel_rfl) (by kernel_rfl) (fun _ _ _ h => h) (Or.inr ⟨by rfl, rfl⟩) hA16 ?_
    simp only [List.set_cons_succ, List.set_cons_zero]
    refine Nt.takeS (v := undef) 22 145 rfl rfl (by kernel_rfl) (by kernel_rfl) (by kernel_rfl) (fun _ _ _ h => h) (Or.inr ⟨by rfl, rfl⟩) hA16 ?_
    simp only [List.set_cons_succ, List.set_cons_zero]
    refine Nt.takeS (v := undef) 23 146 rfl rfl (by kernel_rfl) (by kernel_rfl) (by kernel_rfl) (fun _ _ _ h => h) (Or.inr ⟨by rfl, rfl⟩) hA16 ?_
    simp only [List.set_cons_succ, List.set_cons_zero]
    refine Nt.takeS (v := undef) 24 147 rfl rfl (by kernel_rfl) (by kernel_rfl) (by kernel_rfl) (fun _ _ _ h => h) (Or.inr ⟨by rfl, rfl⟩) hA16 ?_
    simp only [List.set_cons_succ, List.set_cons_zero]
    refine Nt.takeS (v := undef) 25 148 rfl rfl (by kernel_rfl) (by kernel_rfl) (by kernel_rfl) (fun _ _ _ h => h) (Or.inr ⟨by rfl, rfl⟩) hA16 ?_
    simp only [List.set_cons_succ, List.set_cons_zero]
    refine Nt.takeS (v := undef) 26 149 rfl rfl (by kernel_rfl) (by kernel_rfl) (by kernel_rfl) (fun _ _ _ h => h) (Or.inr ⟨by rfl, rfl⟩) hA16 ?_
    simp only [List.set_cons_succ, List.set_cons_zero]
    refine Nt.takeS (v := ?va27) 27 150 rfl rfl (by kernel_rfl) (by kernel_rfl) (by kernel_rfl) (fun _ _ _ h => h) (Or.inl ⟨by rfl, ?ya27⟩) hA16 ?ra27
    case ya27 => (intro w hSw; (try dsimp only at hSw); go_simp; all_goals (with_reducible rfl))
    simp only [List.set_cons_succ, List.set_cons_zero]
    refine Nt.takeS (v := ?va28) 28 151 rfl rfl (by kernel_rfl) (by kernel_rfl) (by kernel_rfl) (fun _ _ _ h => h) (Or.inl ⟨by rfl, ?ya28⟩) hA16 ?ra28
    case ya28 => (intro w hSw; (try dsimp only at hSw); go_simp; all_goals (with_reducible rfl))
    simp only [List.set_cons_succ, List.set_cons_zero]
    refine Nt.takeS (v := ?va29) 29 6 rfl rfl (by kernel_rfl) (by kernel_rfl) (by kernel_rfl) (fun _ _ _ h => h) (Or.inl ⟨by rfl, ?ya29⟩) hA16 ?ra29
    case ya29 => (intro w hSw; (try dsimp only at hSw); go_simp; all_goals (with_reducible rfl))
    simp only [List.set_cons_succ, List.set_cons_zero]
    refine wpAnyH_done (by kernel_rfl) ?_ _
    go_wp2
    go_ret
    exact ⟨rfl, X2.out.1.below⟩
  | true =>
    obtain rfl : r = !b2 := by rw [HS.out]; rfl
    clear HS
    go_enter Tryd.func14, Tryd.ntmps14
    go_upto_region 14 with fail
    rw [H0.out]
    clear H0
    refine wp_region_held_drew (S := fun W => W.cell? ⟨w.heap.size, 0, none⟩ = some (.slice an n cn) ∧ W.cell? ⟨w.heap.size, 1, none⟩ = some (.slice af m cf)) (by kernel_rfl) ?_ (fun hB => ?_)
    · exact HBX.out _ HI.out.drew
    refine Nt.takeS (v := ?vb0) 0 123 rfl rfl (by kernel_rfl) (by kernel_rfl) (by kernel_rfl) (fun _ _ _ h => h) (Or.inl ⟨by rfl, ?yb0⟩) hB ?rb0
    case yb0 => (intro w hSw; (try dsimp only at hSw); go_simp; all_goals (with_reducible rfl))
    simp only [List.set_cons_succ, List.set_cons_zero]
    refine Nt.takeS (v := ?vb1) 1 124 rfl rfl (by kernel_rfl) (by kernel_rfl) (by kernel_rfl) (fun _ _ _ h => h) (Or.inl ⟨by rfl, ?yb1⟩) hB ?rb1
    case yb1 => (intro w hSw; (try dsimp only at hSw); go_simp; all_goals (with_reducible rfl))
    simp only [List.set_cons_succ, List.set_cons_zero]
    refine Nt.takeS (v := ?vb2) 2 125 rfl rfl (by kernel_rfl) (by kernel_rfl) (by kernel_rfl) (fun _ _ _ h => h) (Or.inl ⟨by rfl, ?yb2⟩) hB ?rb2
    case yb2 => (intro w hSw; (try dsimp only at hSw); go_simp; all_goals (with_reducible rfl))
    simp only [List.set_cons_succ, List.set_cons_zero]
    refine Nt.takeS (v := ?vb3) 3 126 rfl rfl (by kernel_rfl) (by kernel_rfl) (by kernel_rfl) (fun _ _ _ h => h) (Or.inl ⟨by rfl, ?yb3⟩) hB ?rb3
    case yb3 => (intro w hSw; (try dsimp only at hSw); go_simp; all_goals (with_reducible rfl))
    simp only [List.set_cons_succ, List.set_cons_zero]
    refine Nt.takeS (v := ?vb4) 4 127 rfl rfl (by kernel_rfl) (by kernel_rfl) (by kernel_rfl) (fun _ _ _ h => h) (Or.inl ⟨by rfl, ?yb4⟩) hB ?rb4
    case yb4 => (intro w hSw; (try dsimp only at hSw); go_simp; all_goals (with_reducible rfl))
    simp only [List.set_cons_succ, List.set_cons_zero]
    refine Nt.takeS (v := ?vb5) 5 128 rfl rfl (by kernel_rfl) (by kernel_rfl) (by kernel_rfl) (fun _ _ _ h => h) (Or.inl ⟨by rfl, ?yb5⟩) hB ?rb5
    case yb5 => (intro w hSw; (try dsimp only at hSw); go_simp; all_goals (with_reducible rfl))
    simp only [List.set_cons_succ, List.set_cons_zero]
    refine Nt.takeS (v := ?vb6) 6 129 rfl rfl (by kernel_rfl) (by kernel_rfl) (by kernel_rfl) (fun _ _ _ h => h) (Or.inl ⟨by rfl, ?yb6⟩) hB ?rb6
    case yb6 => (intro w hSw; (try dsimp only at hSw); go_simp; all_goals (with_reducible rfl))
    simp only [List.set_cons_succ, List.set_cons_zero]
    refine Nt.takeS (v := ?vb7) 7 130 rfl rfl (by kernel_rfl) (by kernel_rfl) (by kernel_rfl) (fun _ _ _ h => h) (Or.inl ⟨by rfl, ?yb7⟩) hB ?rb7
    case yb7 => (intro w hSw; (try dsimp only at hSw); go_simp; all_goals (with_reducible rfl))
    simp only [List.set_cons_succ, List.set_cons_zero]
    refine Nt.takeS (v := ?vb8) 8 131 rfl rfl (by kernel_rfl) (by kernel_rfl) (by kernel_rfl) (fun _ _ _ h => h) (Or.inl ⟨by rfl, ?yb8⟩) hB ?rb8
    case yb8 => (intro w hSw; (try dsimp only at hSw); go_simp; all_goals (with_reducible rfl))
    simp only [List.set_cons_succ, List.set_cons_zero]
    refine Nt.takeS (v := ?vb9) 9 132 rfl rfl (by kernel_rfl) (by kernel_rfl) (by kernel_rfl) (fun _ _ _ h => h) (Or.inl ⟨by rfl, ?yb9⟩) hB ?rb9
    case yb9 => (intro w hSw; (try dsimp only at hSw); go_simp; all_goals (with_reducible rfl))
    simp only [List.set_cons_succ, List.set_cons_zero]
    refine Nt.takeS (v := ?vb10) 10 133 rfl rfl (by kernel_rfl) (by kernel_rfl) (by kernel_rfl) (fun _ _ _ h => h) (Or.inl ⟨by rfl, ?yb10⟩) hB ?rb10
    case yb10 => (intro w hSw; (try dsimp only at hSw); go_simp; all_goals (with_reducible rfl))
    simp only [List.set_cons_succ, List.set_cons_zero]
    refine Nt.takeS (v := ?vb11) 11 134 rfl rfl (by kernel_rfl) (by kernel_rfl) (by kernel_rfl) (fun _ _ _ h => h) (Or.inl ⟨by rfl, ?yb11⟩) hB ?rb11
    case yb11 => (intro w hSw; (try dsimp only at hSw); go_simp; all_goals (with_reducible rfl))
    simp only [List.set_cons_succ, List.set_cons_zero]
    refine Nt.takeS (v := ?vb14) 14 137 rfl rfl (by kernel_rfl) (by kernel_rfl) (by kernel_rfl) (fun _ _ _ h => h) (Or.inl ⟨by rfl, ?yb14⟩) hB ?rb14
    case yb14 => (intro w hSw; (try dsimp only at hSw); go_simp; all_goals (with_reducible rfl))
    simp only [List.set_cons_succ, List.set_cons_zero]
    refine wpAnyH_ready (rs := [12]) (by kernel_rfl) (by simp) ?_
    refine AllReadyH.cons rfl (fun K hK => ?_) AllReadyH.nil
    go_simp
    go_at_call 41
    refine Calls.mono (CF1.out _ HI.out.drew) ?_
    rintro e W1 ⟨rfl, X1⟩
    go_wp2_with fail
    refine hK.out _ _ ?_ (fun hB12 => ?_)
    · exact HBX.out _ X1.out
    clear hK K
    first | refine Nt.normS 135 rfl ?_ | skip
    first | (simp only [List.set_cons_succ, List.set_cons_zero]) | skip
    refine wpAnyH_ready (rs := [13]) (by kernel_rfl) (by simp) ?_
    refine AllReadyH.cons rfl (fun K hK => ?_) AllReadyH.nil
    go_simp
    go_at_call 43
    refine Calls.mono (CR1.out _ X1.out) ?_
    rintro e W2 ⟨g2, rfl, X2⟩
    go_wp2_with fail
    have z2 := X2.out.2.2
    refine hK.out _ _ ?_ (fun hB13 => ?_)
    · exact HBX.out _ X2.out.1
    clear hK K
    first | refine Nt.normS 136 rfl ?_ | skip
    first | (simp only [List.set_cons_succ, List.set_cons_zero]) | skip
    refine Nt.takeS (v := ?vb15) 15 138 rfl rfl (by kernel_rfl) (by kernel_rfl) (by kernel_rfl) (fun _ _ _ h => h) (Or.inl ⟨by rfl, ?yb15⟩) hB13 ?rb15
    case yb15 => (intro w hSw; (try dsimp only at hSw); go_simp; all_goals (with_reducible rfl))
    simp only [List.set_cons_succ, List.set_cons_zero]
    refine wpAnyH_ready (rs := [16]) (by kernel_rfl) (by simp) ?_
    refine AllReadyH.cons rfl (fun K hK => ?_) AllReadyH.nil
    go_simp
    refine hK.out _ _ ?_ (fun hB16 => ?_)
    · exact HBX.out _ X2.out.1
    clear hK K
    first | refine Nt.normS 139 rfl ?_ | skip
    first | (simp only [List.set_cons_succ, List.set_cons_zero]) | skip
    refine Nt.takeS (v := ?vb17) 17 140 rfl rfl (by kernel_rfl) (by kernel_rfl) (by kernel_rfl) (fun _ _ _ h => h) (Or.inl ⟨by rfl, ?yb17⟩) hB16 ?rb17
    case yb17 => (intro w hSw; (try dsimp only at hSw); go_simp; all_goals (with_reducible rfl))
    simp only [List.set_cons_succ, List.set_cons_zero]
    refine Nt.takeS (v := ?vb18) 18 141 rfl rfl (by kernel_rfl) (by kernel_rfl) (by kernel_rfl) (fun _ _ _ h => h) (Or.inl ⟨by rfl, ?yb18⟩) hB16 ?rb18
    case yb18 => (intro w hSw; (try dsimp only at hSw); go_simp; all_goals (with_reducible rfl))
    simp only [List.set_cons_succ, List.set_cons_zero]
    refine Nt.takeS (v := ?vb19) 19 142 rfl rfl (by kernel_rfl) (by kernel_rfl) (by kernel_rfl) (fun _ _ _ h => h) (Or.inl ⟨by rfl, ?yb19⟩) hB16 ?rb19
    case yb19 => (intro w hSw; (try dsimp only at hSw); go_simp; all_goals (with_reducible rfl))
    simp only [List.set_cons_succ, List.set_cons_zero]
    refine Nt.takeS (v := ?vb20) 20 143 rfl rfl (by kernel_rfl) (by kernel_rfl) (by kernel_rfl) (fun _ _ _ h => h) (Or.inl ⟨by rfl, ?yb20⟩) hB16 ?rb20
    case yb20 => (intro w hSw; (try dsimp only at hSw); go_simp; all_goals (with_reducible rfl))
    simp only [List.set_cons_succ, List.set_cons_zero]
    refine Nt.takeS (v := ?vb22) 22 145 rfl rfl (by kernel_rfl) (by kernel_rfl) (by kernel_rfl) (fun _ _ _ h => h) (Or.inl ⟨by rfl, ?yb22⟩) hB16 ?rb22
    case yb22 => (intro w hSw; (try dsimp only at hSw); go_simp; all_goals (with_reducible rfl))
    simp only [List.set_cons_succ, List.set_cons_zero]
    refine wpAnyH_ready (rs := [21]) (by kernel_rfl) (by simp) ?_
    refine AllReadyH.cons rfl (fun K hK => ?_) AllReadyH.nil
    go_simp
    go_at_call 43
    refine Calls.mono (CR2.out _ X2.out.1) ?_
    rintro e W3 ⟨g3, rfl, X3⟩
    go_wp2_with fail
    refine hK.out _ _ ?_ (fun hB21 => ?_)
    · exact HBX.out _ X3.out.1
    clear hK K
    first | refine Nt.normS 144 rfl ?_ | skip
    first | (simp only [List.set_cons_succ, List.set_cons_zero]) | skip
    refine wpAnyH_ready (rs := [23]) (by kernel_rfl) (by simp) ?_
    refine AllReadyH.cons rfl (fun K hK => ?_) AllReadyH.nil
    go_simp
    go_at_call 41
    refine Calls.mono (CF2.out _ _ _ X3.out) ?_
    rintro e W4 ⟨rfl, X4⟩
    go_wp2_with fail
    have z4 := X4.out.2
    refine hK.out _ _ ?_ (fun hB23 => ?_)
    · exact HBX.out _ X4.out.1
    clear hK K
    first | refine Nt.normS 146 rfl ?_ | skip
    first | (simp only [List.set_cons_succ, List.set_cons_zero]) | skip
    refine Nt.takeS (v := ?vb24) 24 147 rfl rfl (by kernel_rfl) (by kernel_rfl) (by kernel_rfl) (fun _ _ _ h => h) (Or.inl ⟨by rfl, ?yb24⟩) hB23 ?rb24
    case yb24 => (intro w hSw; (try dsimp only at hSw); go_simp; all_goals (with_reducible rfl))
    simp only [List.set_cons_succ, List.set_cons_zero]
    refine wpAnyH_ready (rs := [25]) (by kernel_rfl) (by simp) ?_
    refine AllReadyH.cons rfl (fun K hK => ?_) AllReadyH.nil
    go_simp
    refine hK.out _ _ ?_ (fun hB25 => ?_)
    · exact HBX.out _ X4.out.1
    clear hK K
    first | refine Nt.normS 148 rfl ?_ | skip
    first | (simp only [List.set_cons_succ, List.set_cons_zero]) | skip
    refine Nt.takeS (v := ?vb26) 26 149 rfl rfl (by kernel_rfl) (by kernel_rfl) (by kernel_rfl) (fun _ _ _ h => h) (Or.inl ⟨by rfl, ?yb26⟩) hB25 ?rb26
    case yb26 => (intro w hSw; (try dsimp only at hSw); go_simp; all_goals (with_reducible rfl))
    simp only [List.set_cons_succ, List.set_cons_zero]
    refine Nt.takeS (v := ?vb27) 27 150 rfl rfl (by kernel_rfl) (by kernel_rfl) (by kernel_rfl) (fun _ _ _ h => h) (Or.inl ⟨by rfl, ?yb27⟩) hB25 ?rb27
    case yb27 => (intro w hSw; (try dsimp only at hSw); go_simp; all_goals (with_reducible rfl))
    simp only [List.set_cons_succ, List.set_cons_zero]
    refine Nt.takeS (v := ?vb28) 28 151 rfl rfl (by kernel_rfl) (by kernel_rfl) (by kernel_rfl) (fun _ _ _ h => h) (Or.inl ⟨by rfl, ?yb28⟩) hB25 ?rb28
    case yb28 => (intro w hSw; (try dsimp only at hSw); go_simp; all_goals (with_reducible rfl))
    simp only [List.set_cons_succ, List.set_cons_zero]
    refine Nt.takeS (v := ?vb29) 29 6 rfl rfl (by kernel_rfl) (by kernel_rfl) (by kernel_rfl) (fun _ _ _ h => h) (Or.inl ⟨by rfl, ?yb29⟩) hB25 ?rb29
    case yb29 => (intro w hSw; (try dsimp only at hSw); go_simp; all_goals (with_reducible rfl))
    simp only [List.set_cons_succ, List.set_cons_zero]
    refine wpAnyH_done (by kernel_rfl) ?_ _
    go_wp2
    go_ret
    exact ⟨rfl, X4.out.1.below⟩

end Go.Proofs
