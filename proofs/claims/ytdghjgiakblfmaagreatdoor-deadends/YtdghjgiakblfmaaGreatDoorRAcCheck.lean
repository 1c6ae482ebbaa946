import Derived.Test.YtdghjgiakblfmaaGreatDoorRAcFormAny
import Derived.Test.YtdghjgiakblfmaaGreatDoorRDdInv
namespace Go.Proofs
open Go.RowKit Go.Shelf
def Ac.twiceB (T : Ac) : Bool := !(T.go Ac.enterS (List.replicate 24 false)).1
set_option maxRecDepth 20000 in
set_option maxHeartbeats 4000000 in
theorem Tryz.hasTwice_any (d e : Nat) (T : Ac) (V : Ac.Vs) (w : World) (hT : Ac.Lies w w.heap.size e d V T) (h0 : 0 < w.heap.size) (hsz : T.size ≤ 2147483647) (hdp : T.depth ≤ 1000) (hP : T.All Ac.NodeOk) :
  Calls Tryz.prog 49 #[.agg (Ac.row T V)] w fun e w' => e = .returned (.bool T.twiceB) ∧ Below w.heap.size w w' := by
 obtain ⟨x0, x1, x2, x3, x4, x5, x6, x7, x8, x9, x10, x11, hrow⟩ : ∃ x0 x1 x2 x3 x4 x5 x6 x7 x8 x9 x10 x11, Ac.row T V = #[x0, x1, x2, x3, x4, x5, x6, x7, x8, x9, x10, x11] := ⟨_, _, _, _, _, _, _, _, _, _, _, _, rfl⟩
 rw [hrow]
 obtain ⟨w1, hw1⟩ : ∃ x, w.alloc (.cells #[x0, x1, x2, x3, x4, x5, x6, x7, x8, x9, x10, x11] 32) = x := ⟨_, rfl⟩
 obtain ⟨w2, hw2⟩ : ∃ x, w1.alloc (.cells #[.bool false, .bool false, .bool false, .bool false, .bool false, .bool false, .bool false, .bool false, .bool false, .bool false, .bool false, .bool false, .bool false, .bool false, .bool false, .bool false, .bool false, .bool false, .bool false, .bool false, .bool false, .bool false, .bool false, .bool false] 116) = x := ⟨_, rfl⟩
 have A1 : Below w.heap.size w w1 := by rw [← hw1]; exact (Below.refl _ w).alloc (Nat.le_refl _) _
 have G1 : w1.heap[w.heap.size]? = some (.cells #[x0, x1, x2, x3, x4, x5, x6, x7, x8, x9, x10, x11] 32 (0, 0)) := by rw [← hw1]; exact heap_alloc_new w _
 have l1 := (Array.getElem?_eq_some_iff.1 G1).1
 have A2 : Below w1.heap.size w1 w2 := by rw [← hw2]; exact (Below.refl _ w1).alloc (Nat.le_refl _) _
 have G2 : w2.heap[w.heap.size]? = some (.cells #[x0, x1, x2, x3, x4, x5, x6, x7, x8, x9, x10, x11] 32 (0, 0)) := (A2.block _ l1).trans G1
 have hBt : Nt.Bt w2 w1.heap.size (List.replicate 24 false) := by
  show w2.heap[w1.heap.size]? = some (.cells #[.bool false, .bool false, .bool false, .bool false, .bool false, .bool false, .bool false, .bool false, .bool false, .bool false, .bool false, .bool false, .bool false, .bool false, .bool false, .bool false, .bool false, .bool false, .bool false, .bool false, .bool false, .bool false, .bool false, .bool false] 116 (0, 0))
  rw [← hw2]
  exact heap_alloc_new w1 _
 have l2 := hBt.lt
 have B2 : Below w.heap.size w w2 := A1.trans (A2.mono A1.size)
 have cc : w2.cell? ⟨w.heap.size, 0, none⟩ = some x0 ∧ w2.cell? ⟨w.heap.size, 1, none⟩ = some x1 ∧ w2.cell? ⟨w.heap.size, 2, none⟩ = some x2 ∧ w2.cell? ⟨w.heap.size, 3, none⟩ = some x3 ∧ w2.cell? ⟨w.heap.size, 4, none⟩ = some x4 ∧ w2.cell? ⟨w.heap.size, 5, none⟩ = some x5 ∧ w2.cell? ⟨w.heap.size, 6, none⟩ = some x6 ∧ w2.cell? ⟨w.heap.size, 7, none⟩ = some x7 ∧ w2.cell? ⟨w.heap.size, 8, none⟩ = some x8 ∧ w2.cell? ⟨w.heap.size, 9, none⟩ = some x9 ∧ w2.cell? ⟨w.heap.size, 10, none⟩ = some x10 ∧ w2.cell? ⟨w.heap.size, 11, none⟩ = some x11 := by simp [World.cell?, G2]
 obtain ⟨m0, m1, m2, m3, m4, m5, m6, m7, m8, m9, m10, m11⟩ := cc
 have key := Tryz.athrough_any (step := Ac.enterS) (P := Ac.NodeOk) (g := 66) (lb := #[.pointer (some ⟨w1.heap.size, 0, none⟩)]) (Inv := fun bs W => Nt.Bt W w1.heap.size bs ∧ bs.length = 24) (E := fun k => k = w1.heap.size) (B := w.heap.size) (e := e) d (List.replicate 24 false) T V w2 (fun bw hbw => Ak.stepped_twice w.heap.size e w1.heap.size bw (by omega) (by omega)) (hT.below B2) h0 B2.size ⟨hBt, by simp⟩ (fun k hk => by omega) hsz hP
 rw [hrow] at key
 have HC : Hid _ := key
 obtain ⟨R, hR⟩ : ∃ b, T.twiceB = b := ⟨_, rfl⟩
 rw [hR]
 have HR : Hid (T.twiceB = R ∧ T.depth ≤ 1000 ∧ T.size ≤ 2147483647 ∧ Below w.heap.size w w2 ∧ w.heap.size < w1.heap.size) := ⟨hR, hdp, hsz, B2, l1⟩
 have H1 : Hid (w.alloc (.cells #[x0, x1, x2, x3, x4, x5, x6, x7, x8, x9, x10, x11] 32) = w1) := hw1
 have H2 : Hid (w1.alloc (.cells #[.bool false, .bool false, .bool false, .bool false, .bool false, .bool false, .bool false, .bool false, .bool false, .bool false, .bool false, .bool false, .bool false, .bool false, .bool false, .bool false, .bool false, .bool false, .bool false, .bool false, .bool false, .bool false, .bool false, .bool false] 116) = w2) := hw2
 clear key hT hP hrow hw1 hw2 A1 G1 A2 G2 hBt l1 l2 B2 hR hsz hdp
 go_enter Tryz.func49, Tryz.ntmps49
 go_upto_region 1 with fail
 rw [H1.out]
 go_upto_region 2 with fail
 rw [H2.out]
 go_wp2_with fail
 refine Calls.mono HC.out ?_
 rintro e W3 ⟨b, rfl, hbt, hend⟩
 have H3 : Hid (R = !b ∧ Below w.heap.size w W3) := by
  have h := HR.out
  refine ⟨?_, h.2.2.2.1.trans (hbt.below h.2.2.2.1.size (fun k hk => by have := h.2.2.2.2; omega))⟩
  rcases hend with ⟨_, _, _, h4⟩ | ⟨h4, _⟩
  ·rw [← h.1, h4]; rfl
  ·exact absurd ⟨h.2.1, h.2.2.1⟩ h4
 clear hbt hend HC
 go_wp2
 go_ret
 exact ⟨Tk.ret_bool H3.out.1.symm, H3.out.2⟩
noncomputable def Ac.formB (T : Ac) : Bool := @decide T.Formed (Classical.propDecidable _)
noncomputable def Ac.stepF (T : Ac) (s : Unit) : Bool × Unit := (T.formB, s)
theorem Ac.formB_iff (T : Ac) : T.formB = true ↔ T.Formed := ⟨fun h => @of_decide_eq_true _ (Classical.propDecidable _) h, fun h => @decide_eq_true _ (Classical.propDecidable _) h⟩
theorem Ac.told_form {T : Ac} {e : Ending} (h : Ak.Told T.Formed e) : e = .returned (.bool T.formB) := by
 obtain ⟨r, h1, h2⟩ := h
 rw [h1]
 congr 2
 rw [Bool.eq_iff_iff, h2, Ac.formB_iff]
mutual
theorem Ac.go_form : ∀ (T : Ac) (s : Unit), (T.go Ac.stepF s).1 = true → T.All Ac.Formed
 | .mk k n a b t c ks l x y, s, h => by
   rw [Ac.go] at h
   split at h
   ·next h1 => exact ⟨(Ac.formB_iff _).1 h1, Ac.goes_form ks _ h⟩
   ·simp at h
theorem Ac.goes_form : ∀ (l : List Ac) (s : Unit), (Ac.goes Ac.stepF l s).1 = true → Ac.Alls Ac.Formed l
 | [], _, _ => trivial
 | k :: r, s, h => by
   rw [Ac.goes] at h
   split at h
   ·next h1 => exact ⟨Ac.go_form k s h1, Ac.goes_form r _ h⟩
   ·simp at h
end
mutual
theorem Ac.all_mono {P Q : Ac → Prop} (h : ∀ T, P T → Q T) : ∀ T : Ac, T.All P → T.All Q
 | .mk _ _ _ _ _ _ ks _ _ _, hh => ⟨h _ hh.1, Ac.alls_mono h ks hh.2⟩
theorem Ac.alls_mono {P Q : Ac → Prop} (h : ∀ T, P T → Q T) : ∀ l : List Ac, Ac.Alls P l → Ac.Alls Q l
 | [], _ => trivial
 | k :: r, hh => ⟨Ac.all_mono h k hh.1, Ac.alls_mono h r hh.2⟩
end
theorem Ac.formed_node (T : Ac) (h : T.Formed) : T.NodeOk := by
 intro hn
 unfold Ac.Formed at h
 rcases h with h | h | h | h | h | h | h | h | h | h | h | h | h | h | h
 ·rw [h.1] at hn; simp [Ac.hasNodeB] at hn
 ·exact h.2.2.1
 ·exact h.2.2.1
 ·exact h.2.2.1
 ·exact h.2.2.1
 ·exact h.2.2.1
 ·exact h.2.2.1
 ·exact h.2.2.1
 ·exact h.2.2.1
 ·rw [h.1] at hn; simp [Ac.hasNodeB] at hn
 ·rw [h.1] at hn; simp [Ac.hasNodeB] at hn
 ·exact h.2.2.2.1
 ·exact h.2.2.2.1
 ·rw [h.1] at hn; simp [Ac.hasNodeB] at hn
 ·rw [h.1] at hn; simp [Ac.hasNodeB] at hn
theorem Ak.stepped_form (B e bw : Nat) (hB : 0 < B) (hbw : 0 < bw) : Ak.Stepped Ac.stepF Ac.Fit 48 #[] (fun _ W => Tk.Ops W) (fun _ => False) B e bw where
 enters := enters_of Tryz.func48 (by kernel_rfl) rfl
 calls := fun s W d T V hF hI hBW hT => (Tryz.aformed_any d e T V W (hT.wider hBW) hF hI (by omega)).mono fun e w' h => ⟨Ac.told_form h.1, hI.below h.2 hI.lt, Tk.But.of_below h.2⟩
 keeps := fun _ W W' hI hb => hI.keep (hb.block _ hI.lt (by omega))
 above := fun k hk => hk.elim
 not_bw := fun h => h
noncomputable def Ac.checkC (T : Ac) : Int := if T.tooB = true then 2 else if T.kind = 10 ∨ T.kind = 12 ∨ (T.go Ac.stepF ()).1 = false then 4 else if T.twiceB = true then 8 else 0
set_option maxRecDepth 20000 in
set_option maxHeartbeats 8000000 in
theorem Tryz.aCheck_any (d e : Nat) (T : Ac) (V : Ac.Vs) (w : World) (hT : Ac.Lies w w.heap.size e d V T) (h0 : 0 < w.heap.size) (hsz : T.size ≤ 2147483647) (hF : T.All Ac.Fit) (hO : Tk.Ops w) :
    Calls Tryz.prog 38 #[.agg (Ac.row T V)] w fun e w' => e = .returned (.int .i64 T.checkC) ∧ Below w.heap.size w w' := by
  have CT : ∀ W, Below w.heap.size w W → Calls Tryz.prog 46 #[.agg (Ac.row T V)] W fun e w' => e = .returned (.bool T.tooB) ∧ Below W.heap.size W w' := fun W hb => Tryz.atooLarge_any d e T V W ((hT.below hb).wider hb.size) (by have := hb.size; omega) hsz
  have CF : T.depth ≤ 1000 → ∀ W, Below w.heap.size w W → Calls Tryz.prog 47 #[.agg (Ac.row T V), .func (.func 48) #[] #[]] W fun e w' => e = .returned (.bool (T.go Ac.stepF ()).1) ∧ Below W.heap.size W w' := fun hdp W hb => by
    have key := Tryz.athrough_any (step := Ac.stepF) (P := Ac.Fit) (g := 48) (lb := #[]) (Inv := fun _ W => Tk.Ops W) (E := fun _ => False) (B := w.heap.size) (e := e) d () T V W (fun bw hbw => Ak.stepped_form w.heap.size e bw h0 (by have := hO.lt; have := hb.size; omega)) (hT.below hb) h0 hb.size (hO.below hb hO.lt) (fun k hk => hk.elim) hsz hF
    refine key.mono fun e w' ⟨b, h1, h2, h3⟩ => ?_
    rcases h3 with ⟨_, _, _, h4⟩ | ⟨h4, _⟩
    · exact ⟨by rw [h1, h4], h2.below (Nat.le_refl _) (fun k _ h => h)⟩
    · exact absurd ⟨hdp, hsz⟩ h4
  have CW : T.depth ≤ 1000 → (T.go Ac.stepF ()).1 = true → ∀ W, Below w.heap.size w W → Calls Tryz.prog 49 #[.agg (Ac.row T V)] W fun e w' => e = .returned (.bool T.twiceB) ∧ Below W.heap.size W w' := fun hdp hg W hb =>
    Tryz.hasTwice_any d e T V W ((hT.below hb).wider hb.size) (by have := hb.size; omega) hsz hdp (Ac.all_mono Ac.formed_node T (Ac.go_form T () hg))
  have htoo : T.tooB = false → T.depth ≤ 1000 := fun h => by
    unfold Ac.tooB at h
    rw [Bool.not_eq_false', decide_eq_true_eq] at h
    omega
  obtain ⟨R, hR⟩ : ∃ c, T.checkC = c := ⟨_, rfl⟩
  have HR : Hid (R = if T.tooB = true then 2 else if T.kind = 10 ∨ T.kind = 12 ∨ (T.go Ac.stepF ()).1 = false then 4 else if T.twiceB = true then 8 else 0) := by show _ = _; rw [← hR]; rfl
  obtain ⟨k, hk⟩ : ∃ k, T.kind = k := ⟨_, rfl⟩
  obtain ⟨x1, x2, x3, x4, x5, x6, x7, x8, x9, x10, x11, hrow⟩ : ∃ x1 x2 x3 x4 x5 x6 x7 x8 x9 x10 x11, Ac.row T V = #[.int .i64 k, x1, x2, x3, x4, x5, x6, x7, x8, x9, x10, x11] := ⟨_, _, _, _, _, _, _, _, _, _, _, by unfold Ac.row; rw [hk]⟩
  rw [hrow] at CT CF CW
  rw [hrow, hR]
  rw [hk] at HR
  obtain ⟨b0, hb0⟩ : ∃ b, T.tooB = b := ⟨_, rfl⟩
  obtain ⟨b1, hb1⟩ : ∃ b, (T.go Ac.stepF ()).1 = b := ⟨_, rfl⟩
  obtain ⟨b2, hb2⟩ : ∃ b, T.twiceB = b := ⟨_, rfl⟩
  rw [hb0] at CT htoo HR
  rw [hb1] at CF CW HR
  rw [hb2] at CW HR
  obtain ⟨w1, hw1⟩ : ∃ x, w.alloc (.cells #[.int .i64 k, x1, x2, x3, x4, x5, x6, x7, x8, x9, x10, x11] 32) = x := ⟨_, rfl⟩
  have A1 : Below w.heap.size w w1 := by rw [← hw1]; exact (Below.refl _ w).alloc (Nat.le_refl _) _
  have G1 : w1.heap[w.heap.size]? = some (.cells #[.int .i64 k, x1, x2, x3, x4, x5, x6, x7, x8, x9, x10, x11] 32 (0, 0)) := by rw [← hw1]; exact heap_alloc_new w _
  have cA : ∀ W, Below w1.heap.size w1 W → W.cell? ⟨w.heap.size, 0, none⟩ = some (.int .i64 k) ∧ W.cell? ⟨w.heap.size, 1, none⟩ = some x1 ∧ W.cell? ⟨w.heap.size, 2, none⟩ = some x2 ∧ W.cell? ⟨w.heap.size, 3, none⟩ = some x3 ∧ W.cell? ⟨w.heap.size, 4, none⟩ = some x4 ∧ W.cell? ⟨w.heap.size, 5, none⟩ = some x5 ∧ W.cell? ⟨w.heap.size, 6, none⟩ = some x6 ∧ W.cell? ⟨w.heap.size, 7, none⟩ = some x7 ∧ W.cell? ⟨w.heap.size, 8, none⟩ = some x8 ∧ W.cell? ⟨w.heap.size, 9, none⟩ = some x9 ∧ W.cell? ⟨w.heap.size, 10, none⟩ = some x10 ∧ W.cell? ⟨w.heap.size, 11, none⟩ = some x11 := fun W hb => by
    have g1 := (hb.block _ (Array.getElem?_eq_some_iff.1 G1).1).trans G1
    simp [World.cell?, g1]
  have HCA : Hid _ := cA
  have HCT : Hid _ := CT
  have HCF : Hid _ := CF
  have HCW : Hid _ := CW
  have HTO : Hid _ := htoo
  have HA : Hid (Below w.heap.size w w1 ∧ ∀ W, Below w1.heap.size w1 W → Below w.heap.size w W) := ⟨A1, fun W hb => A1.trans (hb.mono A1.size)⟩
  have H1 : Hid (w.alloc (.cells #[.int .i64 k, x1, x2, x3, x4, x5, x6, x7, x8, x9, x10, x11] 32) = w1) := hw1
  obtain ⟨m0, m1, m2, m3, m4, m5, m6, m7, m8, m9, m10, m11⟩ := cA w1 (Below.refl _ _)
  clear CT CF CW htoo hR hk hrow hb0 hb1 hb2 hw1 A1 G1 cA hT hsz hF hO h0
  go_enter Tryz.func38, Tryz.ntmps38
  go_upto_region 1 with fail
  rw [H1.out]
  go_wp2_with fail
  refine Calls.mono (HCT.out _ HA.out.1) ?_
  rintro e W2 ⟨rfl, hbe2⟩
  have B2 : Hid (Below w1.heap.size w1 W2) := hbe2
  clear hbe2 m0 m1 m2 m3 m4 m5 m6 m7 m8 m9 m10 m11 H1 HCT
  cases b0 with
  | true =>
    go_wp2
    go_ret
    exact ⟨by rw [HR.out]; rfl, HA.out.2 _ B2.out⟩
  | false =>
  have hdp := HTO.out rfl
  have HDP : Hid (T.depth ≤ 1000) := hdp
  clear hdp HTO
  obtain ⟨m0, m1, m2, m3, m4, m5, m6, m7, m8, m9, m10, m11⟩ := HCA.out W2 B2.out
  by_cases q1 : k = 10
  · subst q1
    clear m1 m2 m3 m4 m5 m6 m7 m8 m9 m10 m11
    go_wp2
    go_ret
    exact ⟨by rw [HR.out]; rfl, HA.out.2 _ B2.out⟩
  have e1 : (k == 10) = false := by simpa using q1
  by_cases q2 : k = 12
  · subst q2
    clear m1 m2 m3 m4 m5 m6 m7 m8 m9 m10 m11 q1 e1
    go_wp2
    go_ret
    exact ⟨by rw [HR.out]; rfl, HA.out.2 _ B2.out⟩
  have e2 : (k == 12) = false := by simpa using q2
  have HK : Hid (¬ k = 10 ∧ ¬ k = 12) := ⟨q1, q2⟩
  clear q1 q2
  go_wp2_with fail
  refine Calls.mono (HCF.out HDP.out _ (HA.out.2 _ B2.out)) ?_
  rintro e W3 ⟨rfl, hbe3⟩
  have B3 : Hid (Below w1.heap.size w1 W3) := B2.out.trans (hbe3.mono B2.out.size)
  clear hbe3 m0 m1 m2 m3 m4 m5 m6 m7 m8 m9 m10 m11 HCF
  cases b1 with
  | false =>
    go_wp2
    go_ret
    exact ⟨by rw [HR.out, if_neg (by decide), if_pos (.inr (.inr (by first | rfl | trivial)))]; rfl, HA.out.2 _ B3.out⟩
  | true =>
  obtain ⟨m0, m1, m2, m3, m4, m5, m6, m7, m8, m9, m10, m11⟩ := HCA.out W3 B3.out
  go_wp2_with fail
  refine Calls.mono (HCW.out HDP.out (by first | rfl | trivial) _ (HA.out.2 _ B3.out)) ?_
  rintro e W4 ⟨rfl, hbe4⟩
  have B4 : Hid (Below w1.heap.size w1 W4) := B3.out.trans (hbe4.mono B3.out.size)
  clear hbe4 m0 m1 m2 m3 m4 m5 m6 m7 m8 m9 m10 m11 HCW
  have HRR : Hid (R = if b2 = true then 8 else 0) := by
    show _ = _
    rw [HR.out, if_neg (by decide), if_neg (by rintro (h | h | h); exact HK.out.1 h; exact HK.out.2 h; cases h)]
  cases b2 with
  | true =>
    go_wp2
    go_ret
    exact ⟨by rw [HRR.out]; rfl, HA.out.2 _ B4.out⟩
  | false =>
    go_wp2
    go_ret
    exact ⟨by rw [HRR.out]; rfl, HA.out.2 _ B4.out⟩
end Go.Proofs
namespace Go.Proofs
namespace Dd
def kkOf (T : Ac) : List (Int × Int) := T.ks.map fun x => (x.kind, x.a)
theorem kkOf_length (T : Ac) : (kkOf T).length = T.ks.length := by simp [kkOf]
theorem kkOf_get (T : Ac) (k : Nat) (h : k < T.ks.length) : ((kkOf T)[k]?).getD (0, 0) = (T.ks[k].kind, T.ks[k].a) := by simp [kkOf, h]
theorem gateB_kk (T : Ac) (k : Nat) (h : k < T.ks.length) : gateB (kkOf T) k = decide (T.ks[k].kind = 12) := by unfold gateB; rw [kkOf_get T k h]
theorem doesI_kk (T : Ac) (k : Nat) (h : k < T.ks.length) : doesI (kkOf T) k = T.ks[k].a := by unfold doesI; rw [kkOf_get T k h]
theorem cover : ∀ (n : Nat) (ls : List (Int × Int)), (∀ i : Nat, i < n → 1 ≤ ls.countP fun l => decide (l.2 = (i : Int))) → n ≤ ls.countP fun l => decide (0 ≤ l.2 ∧ l.2 < (n : Int))
 | 0, _, _ => Nat.zero_le _
 | n + 1, ls, h => by
   have ih := cover n ls fun i hi => h i (by omega)
   have h1 := h n (by omega)
   have h2 : ∀ l : List (Int × Int), (l.countP fun l => decide (0 ≤ l.2 ∧ l.2 < (n : Int))) + (l.countP fun l => decide (l.2 = (n : Int))) ≤ l.countP fun l => decide (0 ≤ l.2 ∧ l.2 < ((n + 1 : Nat) : Int)) := by
    intro l
    induction l with
    | nil => simp
    | cons x r ihr =>
      rw [List.countP_cons, List.countP_cons, List.countP_cons]
      by_cases a : x.2 = (n : Int)
      ·rw [decide_eq_false (show ¬ (0 ≤ x.2 ∧ x.2 < (n : Int)) by omega), decide_eq_true a, decide_eq_true (show 0 ≤ x.2 ∧ x.2 < ((n + 1 : Nat) : Int) by omega), if_pos rfl, if_neg (by decide)]
       omega
      ·by_cases b : 0 ≤ x.2 ∧ x.2 < (n : Int)
       ·rw [decide_eq_true b, decide_eq_false a, decide_eq_true (show 0 ≤ x.2 ∧ x.2 < ((n + 1 : Nat) : Int) by omega), if_pos rfl, if_neg (by decide)]
        omega
       ·rw [decide_eq_false b, decide_eq_false a, decide_eq_false (show ¬ (0 ≤ x.2 ∧ x.2 < ((n + 1 : Nat) : Int)) by omega), if_neg (by decide)]
        omega
   have := h2 ls
   omega
structure Right (T : Ac) : Prop where
 web : Web T.ls (kkOf T)
 free : ∃ rk, Free T.ls rk
 tos : ∀ i (h : i < T.ls.length), -1 ≤ T.ls[i].2 ∧ T.ls[i].2 < T.ks.length
 ins : ∀ k, k < T.ks.length → 1 ≤ T.ls.countP fun l => decide (l.2 = (k : Int))
 outs : ∀ k (h : k < T.ks.length), T.ks[k].kind = 12 → T.ks[k].a = 3 → (T.ls.countP fun l => decide (l.1 = (k : Int))) = T.ks[k].cs.length
 last : (T.ls.countP fun l => decide (l.2 = -1)) = 1
 first : (T.ls.countP fun l => decide (l.1 = -1)) = 1
 kids : 0 < T.ks.length
theorem right_of {T : Ac} (h : T.linkedB = true) : Right T := by
  unfold Ac.linkedB at h
  rw [Bool.and_eq_true, Bool.and_eq_true, Bool.and_eq_true, Bool.and_eq_true] at h
  obtain ⟨⟨⟨⟨h1, h2⟩, h3⟩, h4⟩, h5⟩ := h
  have h2 := of_decide_eq_true h2
  have hin : ∀ l ∈ T.ls, -1 ≤ l.1 ∧ -1 ≤ l.2 ∧ l.1 < T.ks.length ∧ l.2 < T.ks.length := fun l hl => of_decide_eq_true (List.all_eq_true.1 h3 l hl)
  have hj : ∀ i, i < T.ks.length + 1 → ∀ k, T.around[i]? = some k → Ac.joinedB k.kind k.a k.cs.length ((T.ls.countP fun l => decide (l.2 + 1 = (i : Int)) : Nat) : Int) ((T.ls.countP fun l => decide (l.1 + 1 = (i : Int)) : Nat) : Int) = true := fun i hi k hk => by
    have := List.all_eq_true.1 h4 i (List.mem_range.2 hi)
    unfold Ac.joinedAt at this
    rw [hk, Ac.insL_at _ _ _ hi, Ac.outsL_at _ _ _ hi] at this
    exact this
  have cvt : ∀ (f : Int × Int → Int) (k : Nat), (T.ls.countP fun l => decide (f l + 1 = ((k + 1 : Nat) : Int))) = T.ls.countP fun l => decide (f l = (k : Int)) := fun f k => by
    congr 1
    funext l
    by_cases e : f l = (k : Int)
    · rw [decide_eq_true e, decide_eq_true (by omega)]
    · rw [decide_eq_false e, decide_eq_false (by omega)]
  have cvo : ∀ (f : Int × Int → Int), (T.ls.countP fun l => decide (f l + 1 = ((0 : Nat) : Int))) = T.ls.countP fun l => decide (f l = -1) := fun f => by
    congr 1
    funext l
    by_cases e : f l = -1
    · rw [decide_eq_true e, decide_eq_true (by omega)]
    · rw [decide_eq_false e, decide_eq_false (by omega)]
  have hkid : ∀ k (h : k < T.ks.length), Ac.joinedB T.ks[k].kind T.ks[k].a T.ks[k].cs.length ((T.ls.countP fun l => decide (l.2 = (k : Int)) : Nat) : Int) ((T.ls.countP fun l => decide (l.1 = (k : Int)) : Nat) : Int) = true := fun k hk => by
    have := hj (k + 1) (by omega) T.ks[k] (by simp [Ac.around, hk])
    rw [cvt (fun l => l.2) k, cvt (fun l => l.1) k] at this
    exact this
  have hout := hj 0 (by omega) _ (by simp [Ac.around]; rfl)
  rw [cvo (fun l => l.2), cvo (fun l => l.1)] at hout
  have hout : ((T.ls.countP fun l => decide (l.2 = -1) : Nat) : Int) = 1 ∧ ((T.ls.countP fun l => decide (l.1 = -1) : Nat) : Int) = 1 := by
    unfold Ac.joinedB at hout
    rw [if_neg (by decide), Bool.and_eq_true, decide_eq_true_iff, decide_eq_true_iff] at hout
    exact hout
  have hins : ∀ k, k < T.ks.length → 1 ≤ T.ls.countP fun l => decide (l.2 = (k : Int)) := fun k hk => by
    have := hkid k hk
    unfold Ac.joinedB at this
    split at this
    · split at this
      · rw [Bool.and_eq_true, decide_eq_true_iff] at this; omega
      · split at this
        · rw [Bool.and_eq_true, decide_eq_true_iff] at this; omega
        · rw [Bool.and_eq_true, decide_eq_true_iff] at this; omega
    · rw [Bool.and_eq_true, decide_eq_true_iff] at this; omega
  have h64 : T.ks.length ≤ 40 := by
    have h6 := cover T.ks.length T.ls hins
    have h7 := List.countP_le_length (p := fun l : Int × Int => decide (0 ≤ l.2 ∧ l.2 < (T.ks.length : Int))) (l := T.ls)
    omega
  have hweb : Web T.ls (kkOf T) := by
    refine ⟨h2, by rw [kkOf_length]; omega, fun i x e => ?_⟩
    cases hq : T.ls[i]? with
    | none => rw [hq] at e; simp at e
    | some l =>
      rw [hq] at e
      obtain rfl : l.1 = x := by simpa using e
      have := hin l (List.mem_of_getElem? hq)
      by_cases z : l.1 = -1
      · exact .inl z
      · exact .inr ⟨l.1.toNat, by omega, by rw [kkOf_length]; omega⟩
  have hfree : ∃ rk, Free T.ls rk := by
    unfold Ac.freeB at h5
    split at h5
    · simp at h5
    · obtain ⟨es, hes⟩ : ∃ es, ((Ac.bet T.ls).map fun e => (e.1.toNat, e.2.toNat)) = es := ⟨_, rfl⟩
      rw [hes, List.isEmpty_iff] at h5
      have hno : ∀ i, i < T.ks.length → Rk.lead es i i = false := fun i hi => by
        cases hq : Rk.lead es i i with
        | false => rfl
        | true =>
          have : i ∈ (List.range T.ks.length).filter fun i => Rk.lead es i i := List.mem_filter.2 ⟨List.mem_range.2 hi, hq⟩
          rw [h5] at this
          simp at this
      refine ⟨fun k => (List.range T.ks.length).countP fun i => Rk.lead es i k, fun i f t e => ?_⟩
      have hl := hin _ (List.mem_of_getElem? e)
      have hm : (f, t) ∈ es := by
        rw [← hes]
        refine List.mem_map.2 ⟨((f : Int), (t : Int)), ?_, by simp⟩
        unfold Ac.bet
        refine List.mem_filter.2 ⟨List.mem_of_getElem? e, by simp⟩
      refine countP_lt (k := f) (by omega) (hno f (by omega)) ?_ fun j _ hjl => ?_
      · exact (Rk.lead_iff es f t).2 ⟨f, .refl f, hm⟩
      · exact (Rk.lead_iff es j t).2 ⟨f, ((Rk.lead_iff es j f).1 hjl).reach, hm⟩
  refine ⟨hweb, hfree, fun i hi => ?_, hins, fun k hk h12 h3 => ?_, by omega, by omega, ?_⟩
  · have := hin _ (List.getElem_mem hi)
    omega
  · have := hkid k hk
    unfold Ac.joinedB at this
    rw [if_pos h12, if_neg (by omega), if_pos h3, Bool.and_eq_true, decide_eq_true_iff, decide_eq_true_iff] at this
    omega
  · have : ¬ T.ks.length = 0 := by
      intro e
      rw [decide_eq_true e] at h1
      cases h1
    omega
end Dd
end Go.Proofs
namespace Go.Proofs
namespace Dd
def outsD (ls : List (Int × Int)) (kid : Int) : List Nat := (List.range ls.length).filter fun i => decide (((ls[i]?).map Prod.fst) = some kid)
def countD (ls : List (Int × Int)) (s : List Int) (kid : Int) : Nat → Nat × Nat × Nat
 | 0 => (0, 0, 0)
 | k + 1 => if (ls[k]?).map Prod.snd = some kid then ((countD ls s kid k).1 + (if s.getD k 0 = 1 then 1 else 0), (countD ls s kid k).2.1 + (if s.getD k 0 = 2 then 1 else 0), (countD ls s kid k).2.2 + 1) else countD ls s kid k
def livesD (kk : List (Int × Int)) (k : Nat) (c : Nat × Nat × Nat) : Bool := if gateB kk k = true ∧ doesI kk k = 2 then decide (c.1 = c.2.2) else decide (0 < c.1)
def fateD (ls kk : List (Int × Int)) (s : List Int) (k : Nat) : List Int :=
 if livesD kk k (countD ls s k ls.length) = false then ended ls s k 3 else if Auto kk k then ended ls s k 2 else s.set (40 + k) 1
def oneK (ls kk : List (Int × Int)) (s : List Int) : Nat → Option (List Int)
 | 0 => none
 | k + 1 => match oneK ls kk s k with
   | some t => some t
   | none => if s.getD (40 + k) 0 ≠ 0 ∨ (countD ls s k ls.length).1 + (countD ls s k ls.length).2.1 < (countD ls s k ls.length).2.2 then none else some (fateD ls kk s k)
def settledF (ls kk : List (Int × Int)) : Nat → List Int → List Int
 | 0, s => s
 | f + 1, s => settledF ls kk f ((oneK ls kk s kk.length).getD s)
def Val (ls : List (Int × Int)) (s : List Int) : Prop := s.length = 104 ∧ ∀ i, i < ls.length → s.getD i 0 = 0 ∨ s.getD i 0 = 1 ∨ s.getD i 0 = 2
def HasIn (ls kk : List (Int × Int)) : Prop := ∀ k : Nat, k < kk.length → ∃ i, i < ls.length ∧ (ls[i]?).map Prod.snd = some (k : Int)
end Dd
end Go.Proofs
