import Derived.Test.YtdghjgiakblfmaaGreatDoorRAcFormAny
import Derived.Test.YtdghjgiakblfmaaGreatDoorRDdStart
import Derived.Test.YtdghjgiakblfmaaGreatDoorRDdChoose
namespace Go.Proofs
open Go.RowKit Go.Shelf
def Ac.enterS (T : Ac) (bs : List Bool) : Bool × List Bool := if Ac.hasNodeB T.kind = true then (!((bs[T.node.toNat]?).getD true), bs.set T.node.toNat true) else (true, bs)
def Ac.NodeOk (T : Ac) : Prop := Ac.hasNodeB T.kind = true → 0 ≤ T.node ∧ T.node < 24
set_option maxRecDepth 20000 in
set_option maxHeartbeats 2000000 in
theorem Tryz.twice1_any (k m : Int) (x2 x3 x4 x5 x6 x7 x8 x9 x10 x11 : Value) (b : Nat) (bs : List Bool) (w : World) (h : Nt.Bt w b bs) (hl : bs.length = 24) (hm : Ac.hasNodeB k = true → 0 ≤ m ∧ m < 24) :
   Calls Tryz.prog 66 #[.agg #[.int .i64 k, .int .i64 m, x2, x3, x4, x5, x6, x7, x8, x9, x10, x11], .pointer (some ⟨b, 0, none⟩)] w fun e w' => e = .returned (.bool (if Ac.hasNodeB k = true then !((bs[m.toNat]?).getD true) else true)) ∧ Nt.Bt w' b (if Ac.hasNodeB k = true then bs.set m.toNat true else bs) ∧ Tk.But (fun x => x = b) w w' := by
 obtain ⟨w1, hw1⟩ : ∃ x, w.alloc (.cells #[.int .i64 k, .int .i64 m, x2, x3, x4, x5, x6, x7, x8, x9, x10, x11] 32) = x := ⟨_, rfl⟩
 have A1 : Below w.heap.size w w1 := by rw [← hw1]; exact (Below.refl _ w).alloc (Nat.le_refl _) _
 have G1 : w1.heap[w.heap.size]? = some (.cells #[.int .i64 k, .int .i64 m, x2, x3, x4, x5, x6, x7, x8, x9, x10, x11] 32 (0, 0)) := by rw [← hw1]; exact heap_alloc_new w _
 have c0 : w1.cell? ⟨w.heap.size, 0, none⟩ = some (.int .i64 k) := by simp [World.cell?, G1]
 have c1 : w1.cell? ⟨w.heap.size, 1, none⟩ = some (.int .i64 m) := by simp [World.cell?, G1]
 have h1 : Nt.Bt w1 b bs := h.keep (A1.block b h.lt)
 have H1 : Hid (w.alloc (.cells #[.int .i64 k, .int .i64 m, x2, x3, x4, x5, x6, x7, x8, x9, x10, x11] 32) = w1) := hw1
 have CN : Hid _ := Tryz.hasNode_any k w1
 obtain ⟨q, hq⟩ : ∃ q, Ac.hasNodeB k = q := ⟨_, rfl⟩
 rw [hq] at CN hm ⊢
 have HA : Hid (Below w.heap.size w w1 ∧ Nt.Bt w1 b bs) := ⟨A1, h1⟩
 cases q with
 | false =>
   clear hw1 A1 G1 h1 h hm hq hl
   go_enter Tryz.func66, Tryz.ntmps66
   go_upto_region 1 with fail
   rw [H1.out]
   go_wp2_with fail
   refine Calls.mono CN.out ?_
   rintro e W2 ⟨rfl, hw2⟩
   obtain rfl := hw2.symm
   go_wp2
   go_ret
   exact ⟨rfl, HA.out.2, Tk.But.of_below HA.out.1⟩
 | true =>
   obtain ⟨i, rfl⟩ : ∃ i : Nat, m = i := ⟨m.toNat, by have := hm rfl; omega⟩
   have hi : i < 24 := by have := hm rfl; omega
   have hx : bs[i]? = some (bs[i]'(by omega)) := List.getElem?_eq_getElem (by omega)
   obtain ⟨x, hxx⟩ : ∃ x, bs[i]'(by omega) = x := ⟨_, rfl⟩
   rw [hxx] at hx
   have d0 := h1.cell i x hx
   have f0 := h1.frozen i
   have hi' : (i : Int) < 24 := by omega
   have hi0 : (0 : Int) ≤ i := by omega
   have hlt : b ≠ w.heap.size := by have := h.lt; omega
   have c1' : (w1.setCell ⟨b, i, none⟩ (.bool true)).cell? ⟨w.heap.size, 1, none⟩ = some (.int .i64 (i : Int)) := by
    rw [World.cell?_of_block (w := w1) (Below.heap_setCell _ _ _ _ (Ne.symm hlt))]
    exact c1
   have HP : Hid (Nt.Bt (w1.setCell ⟨b, i, none⟩ (.bool true)) b (bs.set i true) ∧ Tk.But (fun k => k = b) w (w1.setCell ⟨b, i, none⟩ (.bool true)) ∧ (bs[i]?).getD true = x) := ⟨h1.put i true, (Tk.But.of_below A1).setCell (E := fun k => k = b) (p := ⟨b, i, none⟩) rfl _, by rw [hx]; rfl⟩
   clear hw1 A1 G1 h1 h hm hq hl hx hxx
   go_enter Tryz.func66, Tryz.ntmps66
   go_upto_region 1 with fail
   rw [H1.out]
   go_wp2_with fail
   refine Calls.mono CN.out ?_
   rintro e W2 ⟨rfl, hw2⟩
   obtain rfl := hw2.symm
   go_wp2
   go_ret
   exact ⟨by rw [HP.out.2.2]; rfl, HP.out.1, HP.out.2.1⟩
theorem Ak.stepped_twice (B e b bw : Nat) (hB : B ≤ b) (hne : b ≠ bw) : Ak.Stepped Ac.enterS Ac.NodeOk 66 #[.pointer (some ⟨b, 0, none⟩)] (fun bs W => Nt.Bt W b bs ∧ bs.length = 24) (fun k => k = b) B e bw where
 enters := enters_of Tryz.func66 (by kernel_rfl) rfl
 calls := fun s W d T V hP hI _ _ => by
  have h := Tryz.twice1_any T.kind T.node (.int .i64 T.a) (.int .i64 T.b) (.int .i64 T.t.op) (.int .i64 T.t.num) V.t V.c V.k V.l V.n V.f b s W hI.1 hI.2 hP
  refine Calls.mono h fun e w' q => ?_
  unfold Ac.enterS
  refine ⟨?_, ?_, q.2.2⟩
  ·rw [q.1]; congr 2; split <;> rfl
  ·have h2 := q.2.1
   split at h2
   ·next hh => rw [if_pos hh]; exact ⟨h2, by simp [hI.2]⟩
   ·next hh => rw [if_neg hh]; exact ⟨h2, hI.2⟩
 keeps := fun s W W' hI hb => ⟨hI.1.keep (hb.block b hI.1.lt hne), hI.2⟩
 above := fun k hk => hk ▸ hB
 not_bw := fun h => hne h.symm
end Go.Proofs
namespace Go.Proofs
open Go.RowKit Go.Shelf
def Ac.twiceB (T : Ac) : Bool := !(T.go Ac.enterS (List.replicate 24 false)).1
set_option maxRecDepth 20000 in
set_option maxHeartbeats 4000000 in
theorem Tryz.hasTwice_any (d e : Nat) (T : Ac) (V : Ac.Vs) (w : World) (hT : Ac.Lies w w.heap.size e d V T) (h0 : 0 < w.heap.size) (hsz : T.size ≤ 2147483647) (hdp : T.depth ≤ 1000) (hP : T.All Ac.NodeOk) :
  Calls Tryz.prog 49 #[.agg (Ac.row T V)] w fun e w' => e = .returned (.bool T.twiceB) ∧ Below w.heap.size w w' := by
 obtain ⟨x0, x1, x2, x3, x4, x5, x6, x7, x8, x9, x10, x11, hrow⟩ : ∃ x0 x1 x2 x3 x4 x5 x6 x7 x8 x9 x10 x11, Ac.row T V = #[x0, x1, x2, x3, x4, x5, x6, x7, x8, x9, x10, x11] := ⟨_, _, _, _, _, _, _, _, _, _, _, _, rfl⟩
 rw [hrow]
 obtain ⟨w1, hw1⟩ : ∃ x, w.alloc (.cells #[x0, x1, x2, x3, x4, x5, x6, x7, x8, x9, x10, x11] 32) = x := ⟨_, rfl⟩
 obtain ⟨w2, hw2⟩ : ∃ x, w1.alloc (.cells #[.bool false, .bool false, .bool false, .bool false, .bool false, .bool false, .bool false, .bool false, .bool false, .bool false, .bool false, .bool false, .bool false, .bool false, .bool false, .bool false, .bool false, .bool false, .bool false, .bool false, .bool false, .bool false, .bool false, .bool false] 116) = x := ⟨_, rfl⟩
 have A1 : Below w.heap.size w w1 := by rw [← hw1]; exact (Below.refl _ w).alloc (Nat.le_refl _) _
 have G1 : w1.heap[w.heap.size]? = some (.cells #[x0, x1, x2, x3, x4, x5, x6, x7, x8, x9, x10, x11] 32 (0, 0)) := by rw [← hw1]; exact heap_alloc_new w _
 have l1 := (Array.getElem?_eq_some_iff.1 G1).1
 have A2 : Below w1.heap.size w1 w2 := by rw [← hw2]; exact (Below.refl _ w1).alloc (Nat.le_refl _) _
 have G2 : w2.heap[w.heap.size]? = some (.cells #[x0, x1, x2, x3, x4, x5, x6, x7, x8, x9, x10, x11] 32 (0, 0)) := (A2.block _ l1).trans G1
 have hBt : Nt.Bt w2 w1.heap.size (List.replicate 24 false) := by
  show w2.heap[w1.heap.size]? = some (.cells #[.bool false, .bool false, .bool false, .bool false, .bool false, .bool false, .bool false, .bool false, .bool false, .bool false, .bool false, .bool false, .bool false, .bool false, .bool false, .bool false, .bool false, .bool false, .bool false, .bool false, .bool false, .bool false, .bool false, .bool false] 116 (0, 0))
  rw [← hw2]
  exact heap_alloc_new w1 _
 have l2 := hBt.lt
 have B2 : Below w.heap.size w w2 := A1.trans (A2.mono A1.size)
 have cc : w2.cell? ⟨w.heap.size, 0, none⟩ = some x0 ∧ w2.cell? ⟨w.heap.size, 1, none⟩ = some x1 ∧ w2.cell? ⟨w.heap.size, 2, none⟩ = some x2 ∧ w2.cell? ⟨w.heap.size, 3, none⟩ = some x3 ∧ w2.cell? ⟨w.heap.size, 4, none⟩ = some x4 ∧ w2.cell? ⟨w.heap.size, 5, none⟩ = some x5 ∧ w2.cell? ⟨w.heap.size, 6, none⟩ = some x6 ∧ w2.cell? ⟨w.heap.size, 7, none⟩ = some x7 ∧ w2.cell? ⟨w.heap.size, 8, none⟩ = some x8 ∧ w2.cell? ⟨w.heap.size, 9, none⟩ = some x9 ∧ w2.cell? ⟨w.heap.size, 10, none⟩ = some x10 ∧ w2.cell? ⟨w.heap.size, 11, none⟩ = some x11 := by simp [World.cell?, G2]
 obtain ⟨m0, m1, m2, m3, m4, m5, m6, m7, m8, m9, m10, m11⟩ := cc
 have key := Tryz.athrough_any (step := Ac.enterS) (P := Ac.NodeOk) (g := 66) (lb := #[.pointer (some ⟨w1.heap.size, 0, none⟩)]) (Inv := fun bs W => Nt.Bt W w1.heap.size bs ∧ bs.length = 24) (E := fun k => k = w1.heap.size) (B := w.heap.size) (e := e) d (List.replicate 24 false) T V w2 (fun bw hbw => Ak.stepped_twice w.heap.size e w1.heap.size bw (by omega) (by omega)) (hT.below B2) h0 B2.size ⟨hBt, by simp⟩ (fun k hk => by omega) hsz hP
 rw [hrow] at key
 have HC : Hid _ := key
 obtain ⟨R, hR⟩ : ∃ b, T.twiceB = b := ⟨_, rfl⟩
 rw [hR]
 have HR : Hid (T.twiceB = R ∧ T.depth ≤ 1000 ∧ T.size ≤ 2147483647 ∧ Below w.heap.size w w2 ∧ w.heap.size < w1.heap.size) := ⟨hR, hdp, hsz, B2, l1⟩
 have H1 : Hid (w.alloc (.cells #[x0, x1, x2, x3, x4, x5, x6, x7, x8, x9, x10, x11] 32) = w1) := hw1
 have H2 : Hid (w1.alloc (.cells #[.bool false, .bool false, .bool false, .bool false, .bool false, .bool false, .bool false, .bool false, .bool false, .bool false, .bool false, .bool false, .bool false, .bool false, .bool false, .bool false, .bool false, .bool false, .bool false, .bool false, .bool false, .bool false, .bool false, .bool false] 116) = w2) := hw2
 clear key hT hP hrow hw1 hw2 A1 G1 A2 G2 hBt l1 l2 B2 hR hsz hdp
 go_enter Tryz.func49, Tryz.ntmps49
 go_upto_region 1 with fail
 rw [H1.out]
 go_upto_region 2 with fail
 rw [H2.out]
 go_wp2_with fail
 refine Calls.mono HC.out ?_
 rintro e W3 ⟨b, rfl, hbt, hend⟩
 have H3 : Hid (R = !b ∧ Below w.heap.size w W3) := by
  have h := HR.out
  refine ⟨?_, h.2.2.2.1.trans (hbt.below h.2.2.2.1.size (fun k hk => by have := h.2.2.2.2; omega))⟩
  rcases hend with ⟨_, _, _, h4⟩ | ⟨h4, _⟩
  ·rw [← h.1, h4]; rfl
  ·exact absurd ⟨h.2.1, h.2.2.1⟩ h4
 clear hbt hend HC
 go_wp2
 go_ret
 exact ⟨Tk.ret_bool H3.out.1.symm, H3.out.2⟩
noncomputable def Ac.formB (T : Ac) : Bool := @decide T.Formed (Classical.propDecidable _)
noncomputable def Ac.stepF (T : Ac) (s : Unit) : Bool × Unit := (T.formB, s)
theorem Ac.formB_iff (T : Ac) : T.formB = true ↔ T.Formed := ⟨fun h => @of_decide_eq_true _ (Classical.propDecidable _) h, fun h => @decide_eq_true _ (Classical.propDecidable _) h⟩
theorem Ac.told_form {T : Ac} {e : Ending} (h : Ak.Told T.Formed e) : e = .returned (.bool T.formB) := by
 obtain ⟨r, h1, h2⟩ := h
 rw [h1]
 congr 2
 rw [Bool.eq_iff_iff, h2, Ac.formB_iff]
mutual
theorem Ac.go_form : ∀ (T : Ac) (s : Unit), (T.go Ac.stepF s).1 = true → T.All Ac.Formed
 | .mk k n a b t c ks l x y, s, h => by
   rw [Ac.go] at h
   split at h
   ·next h1 => exact ⟨(Ac.formB_iff _).1 h1, Ac.goes_form ks _ h⟩
   ·simp at h
theorem Ac.goes_form : ∀ (l : List Ac) (s : Unit), (Ac.goes Ac.stepF l s).1 = true → Ac.Alls Ac.Formed l
 | [], _, _ => trivial
 | k :: r, s, h => by
   rw [Ac.goes] at h
   split at h
   ·next h1 => exact ⟨Ac.go_form k s h1, Ac.goes_form r _ h⟩
   ·simp at h
end
mutual
theorem Ac.all_mono {P Q : Ac → Prop} (h : ∀ T, P T → Q T) : ∀ T : Ac, T.All P → T.All Q
 | .mk _ _ _ _ _ _ ks _ _ _, hh => ⟨h _ hh.1, Ac.alls_mono h ks hh.2⟩
theorem Ac.alls_mono {P Q : Ac → Prop} (h : ∀ T, P T → Q T) : ∀ l : List Ac, Ac.Alls P l → Ac.Alls Q l
 | [], _ => trivial
 | k :: r, hh => ⟨Ac.all_mono h k hh.1, Ac.alls_mono h r hh.2⟩
end
theorem Ac.formed_node (T : Ac) (h : T.Formed) : T.NodeOk := by
 intro hn
 unfold Ac.Formed at h
 rcases h with h | h | h | h | h | h | h | h | h | h | h | h | h | h | h
 ·rw [h.1] at hn; simp [Ac.hasNodeB] at hn
 ·exact h.2.2.1
 ·exact h.2.2.1
 ·exact h.2.2.1
 ·exact h.2.2.1
 ·exact h.2.2.1
 ·exact h.2.2.1
 ·exact h.2.2.1
 ·exact h.2.2.1
 ·rw [h.1] at hn; simp [Ac.hasNodeB] at hn
 ·rw [h.1] at hn; simp [Ac.hasNodeB] at hn
 ·exact h.2.2.2.1
 ·exact h.2.2.2.1
 ·rw [h.1] at hn; simp [Ac.hasNodeB] at hn
 ·rw [h.1] at hn; simp [Ac.hasNodeB] at hn
theorem Ak.stepped_form (B e bw : Nat) (hB : 0 < B) (hbw : 0 < bw) : Ak.Stepped Ac.stepF Ac.Fit 48 #[] (fun _ W => Tk.Ops W) (fun _ => False) B e bw where
 enters := enters_of Tryz.func48 (by kernel_rfl) rfl
 calls := fun s W d T V hF hI hBW hT => (Tryz.aformed_any d e T V W (hT.wider hBW) hF hI (by omega)).mono fun e w' h => ⟨Ac.told_form h.1, hI.below h.2 hI.lt, Tk.But.of_below h.2⟩
 keeps := fun _ W W' hI hb => hI.keep (hb.block _ hI.lt (by omega))
 above := fun k hk => hk.elim
 not_bw := fun h => h
noncomputable def Ac.checkC (T : Ac) : Int := if T.tooB = true then 2 else if T.kind = 10 ∨ T.kind = 12 ∨ (T.go Ac.stepF ()).1 = false then 4 else if T.twiceB = true then 8 else 0
set_option maxRecDepth 20000 in
set_option maxHeartbeats 8000000 in
theorem Tryz.aCheck_any (d e : Nat) (T : Ac) (V : Ac.Vs) (w : World) (hT : Ac.Lies w w.heap.size e d V T) (h0 : 0 < w.heap.size) (hsz : T.size ≤ 2147483647) (hF : T.All Ac.Fit) (hO : Tk.Ops w) :
    Calls Tryz.prog 38 #[.agg (Ac.row T V)] w fun e w' => e = .returned (.int .i64 T.checkC) ∧ Below w.heap.size w w' := by
  have CT : ∀ W, Below w.heap.size w W → Calls Tryz.prog 46 #[.agg (Ac.row T V)] W fun e w' => e = .returned (.bool T.tooB) ∧ Below W.heap.size W w' := fun W hb => Tryz.atooLarge_any d e T V W ((hT.below hb).wider hb.size) (by have := hb.size; omega) hsz
  have CF : T.depth ≤ 1000 → ∀ W, Below w.heap.size w W → Calls Tryz.prog 47 #[.agg (Ac.row T V), .func (.func 48) #[] #[]] W fun e w' => e = .returned (.bool (T.go Ac.stepF ()).1) ∧ Below W.heap.size W w' := fun hdp W hb => by
    have key := Tryz.athrough_any (step := Ac.stepF) (P := Ac.Fit) (g := 48) (lb := #[]) (Inv := fun _ W => Tk.Ops W) (E := fun _ => False) (B := w.heap.size) (e := e) d () T V W (fun bw hbw => Ak.stepped_form w.heap.size e bw h0 (by have := hO.lt; have := hb.size; omega)) (hT.below hb) h0 hb.size (hO.below hb hO.lt) (fun k hk => hk.elim) hsz hF
    refine key.mono fun e w' ⟨b, h1, h2, h3⟩ => ?_
    rcases h3 with ⟨_, _, _, h4⟩ | ⟨h4, _⟩
    · exact ⟨by rw [h1, h4], h2.below (Nat.le_refl _) (fun k _ h => h)⟩
    · exact absurd ⟨hdp, hsz⟩ h4
  have CW : T.depth ≤ 1000 → (T.go Ac.stepF ()).1 = true → ∀ W, Below w.heap.size w W → Calls Tryz.prog 49 #[.agg (Ac.row T V)] W fun e w' => e = .returned (.bool T.twiceB) ∧ Below W.heap.size W w' := fun hdp hg W hb =>
    Tryz.hasTwice_any d e T V W ((hT.below hb).wider hb.size) (by have := hb.size; omega) hsz hdp (Ac.all_mono Ac.formed_node T (Ac.go_form T () hg))
  have htoo : T.tooB = false → T.depth ≤ 1000 := fun h => by
    unfold Ac.tooB at h
    rw [Bool.not_eq_false', decide_eq_true_eq] at h
    omega
  obtain ⟨R, hR⟩ : ∃ c, T.checkC = c := ⟨_, rfl⟩
  have HR : Hid (R = if T.tooB = true then 2 else if T.kind = 10 ∨ T.kind = 12 ∨ (T.go Ac.stepF ()).1 = false then 4 else if T.twiceB = true then 8 else 0) := by show _ = _; rw [← hR]; rfl
  obtain ⟨k, hk⟩ : ∃ k, T.kind = k := ⟨_, rfl⟩
  obtain ⟨x1, x2, x3, x4, x5, x6, x7, x8, x9, x10, x11, hrow⟩ : ∃ x1 x2 x3 x4 x5 x6 x7 x8 x9 x10 x11, Ac.row T V = #[.int .i64 k, x1, x2, x3, x4, x5, x6, x7, x8, x9, x10, x11] := ⟨_, _, _, _, _, _, _, _, _, _, _, by unfold Ac.row; rw [hk]⟩
  rw [hrow] at CT CF CW
  rw [hrow, hR]
  rw [hk] at HR
  obtain ⟨b0, hb0⟩ : ∃ b, T.tooB = b := ⟨_, rfl⟩
  obtain ⟨b1, hb1⟩ : ∃ b, (T.go Ac.stepF ()).1 = b := ⟨_, rfl⟩
  obtain ⟨b2, hb2⟩ : ∃ b, T.twiceB = b := ⟨_, rfl⟩
  rw [hb0] at CT htoo HR
  rw [hb1] at CF CW HR
  rw [hb2] at CW HR
  obtain ⟨w1, hw1⟩ : ∃ x, w.alloc (.cells #[.int .i64 k, x1, x2, x3, x4, x5, x6, x7, x8, x9, x10, x11] 32) = x := ⟨_, rfl⟩
  have A1 : Below w.heap.size w w1 := by rw [← hw1]; exact (Below.refl _ w).alloc (Nat.le_refl _) _
  have G1 : w1.heap[w.heap.size]? = some (.cells #[.int .i64 k, x1, x2, x3, x4, x5, x6, x7, x8, x9, x10, x11] 32 (0, 0)) := by rw [← hw1]; exact heap_alloc_new w _
  have cA : ∀ W, Below w1.heap.size w1 W → W.cell? ⟨w.heap.size, 0, none⟩ = some (.int .i64 k) ∧ W.cell? ⟨w.heap.size, 1, none⟩ = some x1 ∧ W.cell? ⟨w.heap.size, 2, none⟩ = some x2 ∧ W.cell? ⟨w.heap.size, 3, none⟩ = some x3 ∧ W.cell? ⟨w.heap.size, 4, none⟩ = some x4 ∧ W.cell? ⟨w.heap.size, 5, none⟩ = some x5 ∧ W.cell? ⟨w.heap.size, 6, none⟩ = some x6 ∧ W.cell? ⟨w.heap.size, 7, none⟩ = some x7 ∧ W.cell? ⟨w.heap.size, 8, none⟩ = some x8 ∧ W.cell? ⟨w.heap.size, 9, none⟩ = some x9 ∧ W.cell? ⟨w.heap.size, 10, none⟩ = some x10 ∧ W.cell? ⟨w.heap.size, 11, none⟩ = some x11 := fun W hb => by
    have g1 := (hb.block _ (Array.getElem?_eq_some_iff.1 G1).1).trans G1
    simp [World.cell?, g1]
  have HCA : Hid _ := cA
  have HCT : Hid _ := CT
  have HCF : Hid _ := CF
  have HCW : Hid _ := CW
  have HTO : Hid _ := htoo
  have HA : Hid (Below w.heap.size w w1 ∧ ∀ W, Below w1.heap.size w1 W → Below w.heap.size w W) := ⟨A1, fun W hb => A1.trans (hb.mono A1.size)⟩
  have H1 : Hid (w.alloc (.cells #[.int .i64 k, x1, x2, x3, x4, x5, x6, x7, x8, x9, x10, x11] 32) = w1) := hw1
  obtain ⟨m0, m1, m2, m3, m4, m5, m6, m7, m8, m9, m10, m11⟩ := cA w1 (Below.refl _ _)
  clear CT CF CW htoo hR hk hrow hb0 hb1 hb2 hw1 A1 G1 cA hT hsz hF hO h0
  go_enter Tryz.func38, Tryz.ntmps38
  go_upto_region 1 with fail
  rw [H1.out]
  go_wp2_with fail
  refine Calls.mono (HCT.out _ HA.out.1) ?_
  rintro e W2 ⟨rfl, hbe2⟩
  have B2 : Hid (Below w1.heap.size w1 W2) := hbe2
  clear hbe2 m0 m1 m2 m3 m4 m5 m6 m7 m8 m9 m10 m11 H1 HCT
  cases b0 with
  | true =>
    go_wp2
    go_ret
    exact ⟨by rw [HR.out]; rfl, HA.out.2 _ B2.out⟩
  | false =>
  have hdp := HTO.out rfl
  have HDP : Hid (T.depth ≤ 1000) := hdp
  clear hdp HTO
  obtain ⟨m0, m1, m2, m3, m4, m5, m6, m7, m8, m9, m10, m11⟩ := HCA.out W2 B2.out
  by_cases q1 : k = 10
  · subst q1
    clear m1 m2 m3 m4 m5 m6 m7 m8 m9 m10 m11
    go_wp2
    go_ret
    exact ⟨by rw [HR.out]; rfl, HA.out.2 _ B2.out⟩
  have e1 : (k == 10) = false := by simpa using q1
  by_cases q2 : k = 12
  · subst q2
    clear m1 m2 m3 m4 m5 m6 m7 m8 m9 m10 m11 q1 e1
    go_wp2
    go_ret
    exact ⟨by rw [HR.out]; rfl, HA.out.2 _ B2.out⟩
  have e2 : (k == 12) = false := by simpa using q2
  have HK : Hid (¬ k = 10 ∧ ¬ k = 12) := ⟨q1, q2⟩
  clear q1 q2
  go_wp2_with fail
  refine Calls.mono (HCF.out HDP.out _ (HA.out.2 _ B2.out)) ?_
  rintro e W3 ⟨rfl, hbe3⟩
  have B3 : Hid (Below w1.heap.size w1 W3) := B2.out.trans (hbe3.mono B2.out.size)
  clear hbe3 m0 m1 m2 m3 m4 m5 m6 m7 m8 m9 m10 m11 HCF
  cases b1 with
  | false =>
    go_wp2
    go_ret
    exact ⟨by rw [HR.out, if_neg (by decide), if_pos (.inr (.inr (by first | rfl | trivial)))]; rfl, HA.out.2 _ B3.out⟩
  | true =>
  obtain ⟨m0, m1, m2, m3, m4, m5, m6, m7, m8, m9, m10, m11⟩ := HCA.out W3 B3.out
  go_wp2_with fail
  refine Calls.mono (HCW.out HDP.out (by first | rfl | trivial) _ (HA.out.2 _ B3.out)) ?_
  rintro e W4 ⟨rfl, hbe4⟩
  have B4 : Hid (Below w1.heap.size w1 W4) := B3.out.trans (hbe4.mono B3.out.size)
  clear hbe4 m0 m1 m2 m3 m4 m5 m6 m7 m8 m9 m10 m11 HCW
  have HRR : Hid (R = if b2 = true then 8 else 0) := by
    show _ = _
    rw [HR.out, if_neg (by decide), if_neg (by rintro (h | h | h); exact HK.out.1 h; exact HK.out.2 h; cases h)]
  cases b2 with
  | true =>
    go_wp2
    go_ret
    exact ⟨by rw [HRR.out]; rfl, HA.out.2 _ B4.out⟩
  | false =>
    go_wp2
    go_ret
    exact ⟨by rw [HRR.out]; rfl, HA.out.2 _ B4.out⟩
end Go.Proofs
namespace Go.Proofs
namespace Dd
def kkOf (T : Ac) : List (Int × Int) := T.ks.map fun x => (x.kind, x.a)
theorem kkOf_length (T : Ac) : (kkOf T).length = T.ks.length := by simp [kkOf]
theorem kkOf_get (T : Ac) (k : Nat) (h : k < T.ks.length) : ((kkOf T)[k]?).getD (0, 0) = (T.ks[k].kind, T.ks[k].a) := by simp [kkOf, h]
theorem gateB_kk (T : Ac) (k : Nat) (h : k < T.ks.length) : gateB (kkOf T) k = decide (T.ks[k].kind = 12) := by unfold gateB; rw [kkOf_get T k h]
theorem doesI_kk (T : Ac) (k : Nat) (h : k < T.ks.length) : doesI (kkOf T) k = T.ks[k].a := by unfold doesI; rw [kkOf_get T k h]
theorem cover : ∀ (n : Nat) (ls : List (Int × Int)), (∀ i : Nat, i < n → 1 ≤ ls.countP fun l => decide (l.2 = (i : Int))) → n ≤ ls.countP fun l => decide (0 ≤ l.2 ∧ l.2 < (n : Int))
 | 0, _, _ => Nat.zero_le _
 | n + 1, ls, h => by
   have ih := cover n ls fun i hi => h i (by omega)
   have h1 := h n (by omega)
   have h2 : ∀ l : List (Int × Int), (l.countP fun l => decide (0 ≤ l.2 ∧ l.2 < (n : Int))) + (l.countP fun l => decide (l.2 = (n : Int))) ≤ l.countP fun l => decide (0 ≤ l.2 ∧ l.2 < ((n + 1 : Nat) : Int)) := by
    intro l
    induction l with
    | nil => simp
    | cons x r ihr =>
      rw [List.countP_cons, List.countP_cons, List.countP_cons]
      by_cases a : x.2 = (n : Int)
      ·rw [decide_eq_false (show ¬ (0 ≤ x.2 ∧ x.2 < (n : Int)) by omega), decide_eq_true a, decide_eq_true (show 0 ≤ x.2 ∧ x.2 < ((n + 1 : Nat) : Int) by omega), if_pos rfl, if_neg (by decide)]
       omega
      ·by_cases b : 0 ≤ x.2 ∧ x.2 < (n : Int)
       ·rw [decide_eq_true b, decide_eq_false a, decide_eq_true (show 0 ≤ x.2 ∧ x.2 < ((n + 1 : Nat) : Int) by omega), if_pos rfl, if_neg (by decide)]
        omega
       ·rw [decide_eq_false b, decide_eq_false a, decide_eq_false (show ¬ (0 ≤ x.2 ∧ x.2 < ((n + 1 : Nat) : Int)) by omega), if_neg (by decide)]
        omega
   have := h2 ls
   omega
structure Right (T : Ac) : Prop where
 web : Web T.ls (kkOf T)
 free : ∃ rk, Free T.ls rk
 tos : ∀ i (h : i < T.ls.length), -1 ≤ T.ls[i].2 ∧ T.ls[i].2 < T.ks.length
 ins : ∀ k, k < T.ks.length → 1 ≤ T.ls.countP fun l => decide (l.2 = (k : Int))
 outs : ∀ k (h : k < T.ks.length), T.ks[k].kind = 12 → T.ks[k].a = 3 → (T.ls.countP fun l => decide (l.1 = (k : Int))) = T.ks[k].cs.length
 last : (T.ls.countP fun l => decide (l.2 = -1)) = 1
 first : (T.ls.countP fun l => decide (l.1 = -1)) = 1
 kids : 0 < T.ks.length
theorem right_of {T : Ac} (h : T.linkedB = true) : Right T := by
  unfold Ac.linkedB at h
  rw [Bool.and_eq_true, Bool.and_eq_true, Bool.and_eq_true, Bool.and_eq_true] at h
  obtain ⟨⟨⟨⟨h1, h2⟩, h3⟩, h4⟩, h5⟩ := h
  have h2 := of_decide_eq_true h2
  have hin : ∀ l ∈ T.ls, -1 ≤ l.1 ∧ -1 ≤ l.2 ∧ l.1 < T.ks.length ∧ l.2 < T.ks.length := fun l hl => of_decide_eq_true (List.all_eq_true.1 h3 l hl)
  have hj : ∀ i, i < T.ks.length + 1 → ∀ k, T.around[i]? = some k → Ac.joinedB k.kind k.a k.cs.length ((T.ls.countP fun l => decide (l.2 + 1 = (i : Int)) : Nat) : Int) ((T.ls.countP fun l => decide (l.1 + 1 = (i : Int)) : Nat) : Int) = true := fun i hi k hk => by
    have := List.all_eq_true.1 h4 i (List.mem_range.2 hi)
    unfold Ac.joinedAt at this
    rw [hk, Ac.insL_at _ _ _ hi, Ac.outsL_at _ _ _ hi] at this
    exact this
  have cvt : ∀ (f : Int × Int → Int) (k : Nat), (T.ls.countP fun l => decide (f l + 1 = ((k + 1 : Nat) : Int))) = T.ls.countP fun l => decide (f l = (k : Int)) := fun f k => by
    congr 1
    funext l
    by_cases e : f l = (k : Int)
    · rw [decide_eq_true e, decide_eq_true (by omega)]
    · rw [decide_eq_false e, decide_eq_false (by omega)]
  have cvo : ∀ (f : Int × Int → Int), (T.ls.countP fun l => decide (f l + 1 = ((0 : Nat) : Int))) = T.ls.countP fun l => decide (f l = -1) := fun f => by
    congr 1
    funext l
    by_cases e : f l = -1
    · rw [decide_eq_true e, decide_eq_true (by omega)]
    · rw [decide_eq_false e, decide_eq_false (by omega)]
  have hkid : ∀ k (h : k < T.ks.length), Ac.joinedB T.ks[k].kind T.ks[k].a T.ks[k].cs.length ((T.ls.countP fun l => decide (l.2 = (k : Int)) : Nat) : Int) ((T.ls.countP fun l => decide (l.1 = (k : Int)) : Nat) : Int) = true := fun k hk => by
    have := hj (k + 1) (by omega) T.ks[k] (by simp [Ac.around, hk])
    rw [cvt (fun l => l.2) k, cvt (fun l => l.1) k] at this
    exact this
  have hout := hj 0 (by omega) _ (by simp [Ac.around]; rfl)
  rw [cvo (fun l => l.2), cvo (fun l => l.1)] at hout
  have hout : ((T.ls.countP fun l => decide (l.2 = -1) : Nat) : Int) = 1 ∧ ((T.ls.countP fun l => decide (l.1 = -1) : Nat) : Int) = 1 := by
    unfold Ac.joinedB at hout
    rw [if_neg (by decide), Bool.and_eq_true, decide_eq_true_iff, decide_eq_true_iff] at hout
    exact hout
  have hins : ∀ k, k < T.ks.length → 1 ≤ T.ls.countP fun l => decide (l.2 = (k : Int)) := fun k hk => by
    have := hkid k hk
    unfold Ac.joinedB at this
    split at this
    · split at this
      · rw [Bool.and_eq_true, decide_eq_true_iff] at this; omega
      · split at this
        · rw [Bool.and_eq_true, decide_eq_true_iff] at this; omega
        · rw [Bool.and_eq_true, decide_eq_true_iff] at this; omega
    · rw [Bool.and_eq_true, decide_eq_true_iff] at this; omega
  have h64 : T.ks.length ≤ 40 := by
    have h6 := cover T.ks.length T.ls hins
    have h7 := List.countP_le_length (p := fun l : Int × Int => decide (0 ≤ l.2 ∧ l.2 < (T.ks.length : Int))) (l := T.ls)
    omega
  have hweb : Web T.ls (kkOf T) := by
    refine ⟨h2, by rw [kkOf_length]; omega, fun i x e => ?_⟩
    cases hq : T.ls[i]? with
    | none => rw [hq] at e; simp at e
    | some l =>
      rw [hq] at e
      obtain rfl : l.1 = x := by simpa using e
      have := hin l (List.mem_of_getElem? hq)
      by_cases z : l.1 = -1
      · exact .inl z
      · exact .inr ⟨l.1.toNat, by omega, by rw [kkOf_length]; omega⟩
  have hfree : ∃ rk, Free T.ls rk := by
    unfold Ac.freeB at h5
    split at h5
    · simp at h5
    · obtain ⟨es, hes⟩ : ∃ es, ((Ac.bet T.ls).map fun e => (e.1.toNat, e.2.toNat)) = es := ⟨_, rfl⟩
      rw [hes, List.isEmpty_iff] at h5
      have hno : ∀ i, i < T.ks.length → Rk.lead es i i = false := fun i hi => by
        cases hq : Rk.lead es i i with
        | false => rfl
        | true =>
          have : i ∈ (List.range T.ks.length).filter fun i => Rk.lead es i i := List.mem_filter.2 ⟨List.mem_range.2 hi, hq⟩
          rw [h5] at this
          simp at this
      refine ⟨fun k => (List.range T.ks.length).countP fun i => Rk.lead es i k, fun i f t e => ?_⟩
      have hl := hin _ (List.mem_of_getElem? e)
      have hm : (f, t) ∈ es := by
        rw [← hes]
        refine List.mem_map.2 ⟨((f : Int), (t : Int)), ?_, by simp⟩
        unfold Ac.bet
        refine List.mem_filter.2 ⟨List.mem_of_getElem? e, by simp⟩
      refine countP_lt (k := f) (by omega) (hno f (by omega)) ?_ fun j _ hjl => ?_
      · exact (Rk.lead_iff es f t).2 ⟨f, .refl f, hm⟩
      · exact (Rk.lead_iff es j t).2 ⟨f, ((Rk.lead_iff es j f).1 hjl).reach, hm⟩
  refine ⟨hweb, hfree, fun i hi => ?_, hins, fun k hk h12 h3 => ?_, by omega, by omega, ?_⟩
  · have := hin _ (List.getElem_mem hi)
    omega
  · have := hkid k hk
    unfold Ac.joinedB at this
    rw [if_pos h12, if_neg (by omega), if_pos h3, Bool.and_eq_true, decide_eq_true_iff, decide_eq_true_iff] at this
    omega
  · have : ¬ T.ks.length = 0 := by
      intro e
      rw [decide_eq_true e] at h1
      cases h1
    omega
end Dd
end Go.Proofs
namespace Go.Proofs
open Go.RowKit Go.Shelf
noncomputable def Dd.webB (T : Ac) : Bool := decide (T.kind = 13) && decide (T.checkC = 0)
set_option maxRecDepth 20000 in
set_option maxHeartbeats 4000000 in
theorem Tryz.isWeb_any (d e : Nat) (T : Ac) (V : Ac.Vs) (w : World) (hT : Ac.Lies w w.heap.size e d V T) (h0 : 0 < w.heap.size) (hsz : T.size ≤ 2147483647) (hF : T.All Ac.Fit) (hO : Tk.Ops w) :
  Calls Tryz.prog 26 #[.agg (Ac.row T V)] w fun e w' => e = .returned (.bool (Dd.webB T)) ∧ Below w.heap.size w w' := by
 obtain ⟨R, hR⟩ : ∃ R, Dd.webB T = R := ⟨_, rfl⟩
 rw [hR]
 obtain ⟨k, hk⟩ : ∃ k, T.kind = k := ⟨_, rfl⟩
 obtain ⟨x1, x2, x3, x4, x5, x6, x7, x8, x9, x10, x11, hrow⟩ : ∃ x1 x2 x3 x4 x5 x6 x7 x8 x9 x10 x11, Ac.row T V = #[.int .i64 k, x1, x2, x3, x4, x5, x6, x7, x8, x9, x10, x11] := ⟨_, _, _, _, _, _, _, _, _, _, _, by unfold Ac.row; rw [hk]⟩
 obtain ⟨w1, hw1⟩ : ∃ z, w.alloc (.cells (Ac.row T V) 32) = z := ⟨_, rfl⟩
 have B1 : Below w.heap.size w w1 := by rw [← hw1]; exact (Below.refl _ w).alloc (Nat.le_refl _) _
 have N1 : w1.heap[w.heap.size]? = some (.cells (Ac.row T V) 32 (0, 0)) := by rw [← hw1]; exact heap_alloc_new w _
 have HC0 := Tryz.aCheck_any d e T V w1 ((hT.below B1).wider B1.size) (by have := B1.size; omega) hsz hF (hO.below B1 hO.lt)
 obtain ⟨c, hc⟩ : ∃ c, T.checkC = c := ⟨_, rfl⟩
 rw [hc, hrow] at HC0
 rw [hrow] at hw1 N1 ⊢
 have HC : Hid _ := HC0
 have H1 : Hid _ := hw1
 have HB : Hid (Below w.heap.size w w1) := B1
 have HR : Hid (R = (decide (k = 13) && decide (c = 0))) := by
  show _ = _
  rw [← hR, Dd.webB, hk, hc]
 obtain ⟨c0, c1, c2, c3, c4, c5, c6, c7, c8, c9, c10, c11⟩ : w1.cell? ⟨w.heap.size, 0, none⟩ = some (.int .i64 k) ∧ w1.cell? ⟨w.heap.size, 1, none⟩ = some x1 ∧ w1.cell? ⟨w.heap.size, 2, none⟩ = some x2 ∧ w1.cell? ⟨w.heap.size, 3, none⟩ = some x3 ∧ w1.cell? ⟨w.heap.size, 4, none⟩ = some x4 ∧ w1.cell? ⟨w.heap.size, 5, none⟩ = some x5 ∧ w1.cell? ⟨w.heap.size, 6, none⟩ = some x6 ∧ w1.cell? ⟨w.heap.size, 7, none⟩ = some x7 ∧ w1.cell? ⟨w.heap.size, 8, none⟩ = some x8 ∧ w1.cell? ⟨w.heap.size, 9, none⟩ = some x9 ∧ w1.cell? ⟨w.heap.size, 10, none⟩ = some x10 ∧ w1.cell? ⟨w.heap.size, 11, none⟩ = some x11 := by simp [World.cell?, N1]
 clear hR hk hrow hw1 B1 HC0 hc hT h0 hsz hF hO
 by_cases hk13 : k = 13
 ·have ek : (k == 13) = true := by simp [hk13]
  by_cases hc0 : c = 0
  ·have ec : (c == 0) = true := by simp [hc0]
   have HQ : Hid (R = true) := by rw [HR.out, decide_eq_true hk13, decide_eq_true hc0]; rfl
   clear hk13 hc0 HR
   go_enter Tryz.func26, Tryz.ntmps26
   go_upto_region 1 with fail
   rw [H1.out]
   go_wp2_with fail
   refine Calls.mono HC.out ?_
   rintro e W2 ⟨rfl, hb2⟩
   have HX : Hid (Below w.heap.size w W2) := HB.out.trans (hb2.mono HB.out.size)
   clear hb2 HC N1 c0 c1 c2 c3 c4 c5 c6 c7 c8 c9 c10 c11
   go_wp2
   go_ret
   exact ⟨by rw [HQ.out]; rfl, HX.out⟩
  ·have ec : (c == 0) = false := by simpa using hc0
   have HQ : Hid (R = false) := by rw [HR.out, decide_eq_false hc0, Bool.and_false]; exact rfl
   clear hk13 hc0 HR
   go_enter Tryz.func26, Tryz.ntmps26
   go_upto_region 1 with fail
   rw [H1.out]
   go_wp2_with fail
   refine Calls.mono HC.out ?_
   rintro e W2 ⟨rfl, hb2⟩
   have HX : Hid (Below w.heap.size w W2) := HB.out.trans (hb2.mono HB.out.size)
   clear hb2 HC N1 c0 c1 c2 c3 c4 c5 c6 c7 c8 c9 c10 c11
   go_wp2
   go_ret
   exact ⟨by rw [HQ.out]; rfl, HX.out⟩
 ·have ek : (k == 13) = false := by simpa using hk13
  have HQ : Hid (R = false) := by rw [HR.out, decide_eq_false hk13, Bool.false_and]; exact rfl
  clear hk13 HR HC
  go_enter Tryz.func26, Tryz.ntmps26
  go_upto_region 1 with fail
  rw [H1.out]
  go_wp2
  go_ret
  exact ⟨by rw [HQ.out]; rfl, HB.out⟩
structure Dd.Rw (T : Ac) : Prop where
 right : Dd.Right T
 gate : ∀ k (h : k < T.ks.length), T.ks[k].kind = 12 → T.ks[k].a = 3 → 2 ≤ T.ks[k].cs.length
theorem Dd.rw_of {T : Ac} (h : Dd.webB T = true) : Dd.Rw T := by
 unfold Dd.webB at h
 rw [Bool.and_eq_true, decide_eq_true_iff, decide_eq_true_iff] at h
 obtain ⟨h13, hc⟩ := h
 have hg : (T.go Ac.stepF ()).1 = true := by
  cases hq : (T.go Ac.stepF ()).1 with
  | true => rfl
  | false =>
    unfold Ac.checkC at hc
    split at hc
    ·cases hc
    ·rw [if_pos (.inr (.inr hq))] at hc; cases hc
 have hall := Ac.go_form T () hg
 rw [T.all_eq] at hall
 refine ⟨Dd.right_of ((Ac.formed_13 h13).1 hall.1).2.1, fun k hk h12 h3 => ?_⟩
 have hkid := Ac.alls_get hall.2 k hk
 rw [Ac.all_eq] at hkid
 exact ((Ac.formed_12a h12 h3).1 hkid.1).2.2.1
theorem Dd.last_of {T : Ac} (h : Dd.Right T) : ∃ i : Nat, Dd.lastI T.ls = i ∧ i < 40 := by
 have h1 := h.last
 have l40 := h.web.l40
 have : ∃ x ∈ T.ls, decide (x.2 = -1) = true := by
   have : 0 < T.ls.countP fun l => decide (l.2 = -1) := by omega
   exact List.countP_pos_iff.1 this
 unfold Dd.lastI
 cases hq : T.ls.findIdx? (fun x => decide (x.2 = -1)) with
 | none =>
   obtain ⟨x, hx, hx2⟩ := this
   have := List.findIdx?_eq_none_iff.1 hq x hx
   rw [hx2] at this
   cases this
 | some i => exact ⟨i, rfl, by have := (List.findIdx?_eq_some_iff_getElem.1 hq).1; omega⟩
theorem Dd.kds_of {w : World} {B e d : Nat} {V : Ac.Vs} {T : Ac} (h : Ac.Lies w B e d V T) : ∃ a cap, V.k = .slice a T.ks.length cap ∧ Dd.Kds w B a (Dd.kkOf T) := by
 cases d with
 | zero => exact h.elim
 | succ d =>
   obtain ⟨_, a, cap, hv, hk⟩ := h
   refine ⟨a, cap, hv, fun j hj => ?_⟩
   rw [Dd.kkOf_length] at hj
   obtain ⟨g, off, U, ha, hg, hr, _⟩ := hk j hj
   have h0 := hr 0 (by simp [Ac.row])
   have h2 := hr 2 (by simp [Ac.row])
   refine ⟨g, off, ha, hg, ?_, ?_⟩
   ·rw [Nat.add_zero] at h0; rw [h0]; simp [Ac.row, Dd.kkOf]
   ·rw [h2]; simp [Ac.row, Dd.kkOf]
structure Dd.Ctx (w : World) (xs : Array Value) (wb : Bool) (ls kk : List (Int × Int)) : Prop where
 start : ∀ W, Below w.heap.size w W → Calls Tryz.prog 11 #[.agg xs] W fun e w' => e = .returned (Dd.two (Dd.startR wb ls kk)) ∧ Below W.heap.size W w'
 finish : ∀ W l (kid : Int), Below w.heap.size w W → l.length = 104 → Calls Tryz.prog 17 #[.agg xs, .agg (Dd.row l), .int .i64 kid] W fun e w' => e = .returned (Dd.two (Dd.finR wb ls kk l kid)) ∧ Below W.heap.size W w'
 choose : ∀ W l (kid out : Int), Below w.heap.size w W → l.length = 104 → -9223372036854775808 ≤ out → out ≤ 9223372036854775807 → Calls Tryz.prog 23 #[.agg xs, .agg (Dd.row l), .int .i64 kid, .int .i64 out] W fun e w' => e = .returned (Dd.two (Dd.choR wb ls kk l kid out)) ∧ Below W.heap.size W w'
 running : ∀ W l, Below w.heap.size w W → l.length = 104 → Calls Tryz.prog 14 #[.agg xs, .agg (Dd.row l)] W fun e w' => Nt.Gives (Dd.runL wb kk.length ls.length l) W e w'
 over : ∀ W l, Below w.heap.size w W → l.length = 104 → Calls Tryz.prog 21 #[.agg xs, .agg (Dd.row l)] W fun e w' => e = .returned (.bool (Dd.overB wb kk.length ls l)) ∧ Below W.heap.size W w'
 check : ∀ W l, Below w.heap.size w W → l.length = 104 → Calls Tryz.prog 19 #[.agg xs, .agg (Dd.row l)] W fun e w' => e = .returned (.int .i64 (Dd.checkI wb kk.length ls.length l)) ∧ Below W.heap.size W w'
theorem Dd.ctx (d e : Nat) (T : Ac) (V : Ac.Vs) (w : World) (hT : Ac.Lies w w.heap.size e d V T) (h0 : 0 < w.heap.size) (hsz : T.size ≤ 2147483647) (hF : T.All Ac.Fit) (hO : Tk.Ops w) : Dd.Ctx w (Ac.row T V) (Dd.webB T) T.ls (Dd.kkOf T) := by
 obtain ⟨ka, kc, hvk, hK⟩ := Dd.kds_of hT
 obtain ⟨la, lc, hvl, hL⟩ := hT.own.l
 obtain ⟨x0, x1, x2, x3, x4, x5, x6, x7, x10, x11, hrow⟩ : ∃ x0 x1 x2 x3 x4 x5 x6 x7 x10 x11, Ac.row T V = #[x0, x1, x2, x3, x4, x5, x6, x7, .slice ka T.ks.length kc, .slice la T.ls.length lc, x10, x11] := ⟨_, _, _, _, _, _, _, _, _, _, by unfold Ac.row; rw [hvk, hvl]⟩
 have hn : (Dd.kkOf T).length = T.ks.length := Dd.kkOf_length T
 have CW : ∀ W, Below w.heap.size w W → Calls Tryz.prog 26 #[.agg (Ac.row T V)] W fun e w' => e = .returned (.bool (Dd.webB T)) ∧ Below W.heap.size W w' := fun W hb =>
  Tryz.isWeb_any d e T V W ((hT.below hb).wider hb.size) (by have := hb.size; omega) hsz hF (hO.below hb hO.lt)
 have hW : Dd.webB T = true → Dd.Web T.ls (Dd.kkOf T) := fun h => (Dd.rw_of h).right.web
 have h40 : Dd.webB T = true → T.ls.length ≤ 40 ∧ T.ks.length ≤ 64 := fun h => ⟨(hW h).l40, by rw [← hn]; exact (hW h).k64⟩
 rw [hrow] at CW ⊢
 have LK : ∀ W, Below w.heap.size w W → Ac.Lks W W.heap.size la T.ls ∧ Dd.Kds W W.heap.size ka (Dd.kkOf T) := fun W hb => ⟨(hL.keep hb.block).wider hb.size, (hK.keep hb.block).wider hb.size⟩
 have up : ∀ {W W' : World}, Below w.heap.size w W → Below W.heap.size W W' → Below w.heap.size w W' := fun h h' => h.trans (h'.mono h.size)
 refine ⟨fun W hb => ?_, fun W l kid hb hl => ?_, fun W l kid out hb hl o0 o1 => ?_, fun W l hb hl => ?_, fun W l hb hl => ?_, fun W l hb hl => ?_⟩
 ·exact Tryz.deadStart_any x0 x1 x2 x3 x4 x5 x6 x7 x10 x11 ka la T.ks.length kc T.ls.length lc T.ls (Dd.kkOf T) (Dd.webB T) W (LK W hb).1 (LK W hb).2 rfl hn hW (fun W' hb' => CW W' (up hb hb'))
 ·exact Tryz.deadFinish_any x0 x1 x2 x3 x4 x5 x6 x7 x10 x11 ka la T.ks.length kc T.ls.length lc T.ls (Dd.kkOf T) l kid (Dd.webB T) W (LK W hb).1 (LK W hb).2 hl rfl hn hW (fun W' hb' => CW W' (up hb hb'))
 ·exact Tryz.deadChoose_any x0 x1 x2 x3 x4 x5 x6 x7 x10 x11 ka la T.ks.length kc T.ls.length lc T.ls (Dd.kkOf T) l kid out (Dd.webB T) W (LK W hb).1 (LK W hb).2 hl rfl hn hW o0 o1 (fun W' hb' => CW W' (up hb hb'))
 ·rw [hn]
  exact Tryz.deadRunning_any x0 x1 x2 x3 x4 x5 x6 x7 x10 x11 ka la T.ks.length kc T.ls.length lc l (Dd.webB T) W hl h40 (fun W' hb' => CW W' (up hb hb'))
 ·rw [hn]
  exact Tryz.deadOver_any x0 x1 x2 x3 x4 x5 x6 x7 x10 x11 ka la T.ks.length kc T.ls.length lc T.ls l (Dd.webB T) W (LK W hb).1 rfl hl h40 (fun h => Dd.last_of (Dd.rw_of h).right) (fun W' hb' => CW W' (up hb hb'))
 ·rw [hn]
  exact Tryz.deadCheck_any x0 x1 x2 x3 x4 x5 x6 x7 x10 x11 ka la T.ks.length kc T.ls.length lc l (Dd.webB T) W hl h40 (fun W' hb' => CW W' (up hb hb'))
end Go.Proofs
namespace Go.Proofs
open Go.RowKit
namespace Dd
def exZ : Tm := .mk 0 0 []
def exY : Tm := .mk 10 0 [.mk 2 0 [], .mk 2 0 []]
def ex0 : Ac := .mk 12 0 3 1 exZ [exY, exZ] [] [] [] []
def ex1 : Ac := .mk 5 1 0 0 exZ [] [] [] [] []
def ex2 : Ac := .mk 12 2 4 0 exZ [] [] [] [] []
def exL : List (Int × Int) := [(-1, 0), (0, 1), (0, 2), (1, 2), (2, -1)]
def exT : Ac := .mk 13 0 0 0 exZ [] [ex0, ex1, ex2] exL [] []
def exK : List (Int × Int) := [(12, 3), (5, 0), (12, 4)]
theorem lead_lt {es : List (Nat × Nat)} (h : ∀ e ∈ es, e.1 < e.2) {a b : Nat} (hr : Rk.Reach es a b) : a ≤ b := by
 induction hr with
 | refl => exact Nat.le_refl _
 | step _ m ih => have := h _ m; dsimp only at this; omega
theorem ex_free : Ac.freeB 3 (Ac.bet exL) = true := by
 have hb : Ac.bet exL = [(0, 1), (0, 2), (1, 2)] := by kernel_rfl
 unfold Ac.freeB
 have hc : Rk.chk (3 : Nat) [((0 : Int), (1 : Int)), (0, 2), (1, 2)] = 0 := by kernel_rfl
 rw [hb, hc, if_neg (by decide)]
 rw [List.isEmpty_iff, List.filter_eq_nil_iff]
 intro i _ hi
 rw [Rk.lead_iff] at hi
 obtain ⟨b, h1, h2⟩ := hi
 have hlt : ∀ e ∈ [((0 : Int), (1 : Int)), (0, 2), (1, 2)].map (fun e => (e.1.toNat, e.2.toNat)), e.1 < e.2 := by decide
 have h3 := lead_lt hlt h1
 have h4 := hlt _ h2
 dsimp only at h4
 omega
theorem ex_linked : exT.linkedB = true := by
 have h1 : Ac.freeB exT.ks.length (Ac.bet exT.ls) = true := ex_free
 unfold Ac.linkedB
 rw [h1, Bool.and_true]
 show _ = _
 kernel_rfl
theorem ex_same (T : Ac) (h : T.rest = Ac.zeroOf T.kind) : Ac.Same1 T.rest (Ac.zeroOf T.kind) := by rw [h]; exact ⟨rfl, rfl, rfl, rfl, rfl, rfl, rfl, rfl, rfl⟩
theorem ex_form : exT.Formed := (Ac.formed_13 rfl).2 ⟨by kernel_rfl, ex_linked, ex_same exT (by kernel_rfl), trivial⟩
theorem ex_form0 : ex0.Formed := (Ac.formed_12a rfl rfl).2 ⟨by kernel_rfl, ⟨by decide, by decide⟩, by decide, by kernel_rfl, ⟨by decide, by decide⟩, trivial, trivial, ex_same ex0 (by kernel_rfl), rfl⟩
theorem ex_form1 : ex1.Formed := (Ac.formed_5 rfl).2 ⟨by kernel_rfl, ⟨by decide, by decide⟩, ex_same ex1 (by kernel_rfl), rfl⟩
theorem ex_form2 : ex2.Formed := (Ac.formed_12b rfl (by decide)).2 ⟨by kernel_rfl, ⟨by decide, by decide⟩, by decide, ⟨by decide, by decide⟩, ex_same ex2 (by kernel_rfl), rfl⟩
theorem ex_go : (exT.go Ac.stepF ()).1 = true := by
 have f := (Ac.formB_iff exT).2 ex_form
 have f0 := (Ac.formB_iff ex0).2 ex_form0
 have f1 := (Ac.formB_iff ex1).2 ex_form1
 have f2 := (Ac.formB_iff ex2).2 ex_form2
 have leaf : ∀ x : Ac, x.formB = true → x.ks = [] → (x.go Ac.stepF ()).1 = true := fun x hx hk => by
  rw [Ac.go_eq, if_pos (show (Ac.stepF x ()).1 = true from hx), hk]
  rfl
 rw [Ac.go_eq, if_pos (show (Ac.stepF exT ()).1 = true from f)]
 show (Ac.goes Ac.stepF [ex0, ex1, ex2] _).1 = true
 rw [Ac.goes, if_pos (leaf ex0 f0 rfl), Ac.goes, if_pos (leaf ex1 f1 rfl), Ac.goes, if_pos (leaf ex2 f2 rfl)]
 rfl
theorem ex_web : webB exT = true := by
 have hc : exT.checkC = 0 := by
  have h1 : exT.tooB = false := by kernel_rfl
  have h2 : exT.twiceB = false := by kernel_rfl
  unfold Ac.checkC
  rw [h1, h2, if_neg (by decide), if_neg (fun h => ?_), if_neg (by decide)]
  rcases h with h | h | h
  ·exact absurd h (by decide)
  ·exact absurd h (by decide)
  ·rw [ex_go] at h; cases h
 unfold webB
 rw [hc]
 rfl
def exS : List Int := start exL exK
def exS1 : List Int := chose exL exK exS 0 2
theorem ex_start : startR true exL exK = (exS, 0) := rfl
theorem exS_length : exS.length = 104 := by kernel_rfl
theorem exS1_length : exS1.length = 104 := by kernel_rfl
theorem ex_choose : choR true exL exK exS 0 1 = (exS1, 0) := by
 have h1 : checkI true exK.length exL.length exS = 0 := by kernel_rfl
 have h2 : runsB exK.length exS 0 = true := by kernel_rfl
 have h3 : gateB exK (0 : Int).toNat = true := by kernel_rfl
 have h4 : linkAt 0 exL 0 1 = 2 := by kernel_rfl
 unfold choR
 rw [h1, if_neg (by decide), h2, h3, if_neg (by decide), h4, if_neg (by decide)]
 rfl
theorem ex_run : (runL true exK.length exL.length exS).length = 1 := by kernel_rfl
theorem ex_skip : exS1.getD 41 0 = 3 := by kernel_rfl
theorem ex_over1 : overB true exK.length exL exS1 = true := by kernel_rfl
theorem ex_over0 : overB true exK.length exL exS = false := by kernel_rfl
theorem ex_fit : exT.All Ac.Fit := by
 have leaf : ∀ x : Ac, x.ks = [] → x.Fit → x.All Ac.Fit := fun x hk hf => by rw [Ac.all_eq, hk]; exact ⟨hf, trivial⟩
 have z : exZ.size ≤ 2147483647 ∧ exZ.depth ≤ 1000 := ⟨by decide, by decide⟩
 have y : exY.size ≤ 2147483647 ∧ exY.depth ≤ 1000 := ⟨by decide, by decide⟩
 have nil : ∀ {α : Type} {P : α → Prop}, ∀ x ∈ ([] : List α), P x := fun x hx => by cases hx
 refine ⟨⟨z, nil, nil, nil, by decide, by decide, by decide, by decide, by decide⟩, leaf ex0 rfl ⟨z, fun x hx => ?_, nil, nil, by decide, by decide, by decide, by decide, by decide⟩, leaf ex1 rfl ⟨z, nil, nil, nil, by decide, by decide, by decide, by decide, by decide⟩, leaf ex2 rfl ⟨z, nil, nil, nil, by decide, by decide, by decide, by decide, by decide⟩, trivial⟩
 rcases List.mem_cons.1 hx with rfl | hx
 ·exact y
 ·rcases List.mem_cons.1 hx with rfl | hx
  ·exact z
  ·cases hx
end Dd
end Go.Proofs
