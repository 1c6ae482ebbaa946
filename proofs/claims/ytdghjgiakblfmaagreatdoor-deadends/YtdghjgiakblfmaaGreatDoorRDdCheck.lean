import Derived.Test.YtdghjgiakblfmaaGreatDoorRDdSettle
namespace Go.Proofs
open Go.RowKit Go.Shelf
def Dd.checkI (wb : Bool) (n m : Nat) (l : List Int) : Int := if wb = true then (if Dd.okB n m l = true then 0 else 1) else 4
set_option maxRecDepth 20000 in
set_option maxHeartbeats 8000000 in
theorem Tryz.deadCheck_any (x0 x1 x2 x3 x4 x5 x6 x7 x10 x11 : Value) (ka la : Option Addr) (n kc m lc : Nat) (l : List Int) (wb : Bool) (w : World) (hl : l.length = 104) (h40 : wb = true → m ≤ 40 ∧ n ≤ 64) (CW0 : ∀ W, Below w.heap.size w W → Calls Tryz.prog 26 #[.agg #[x0, x1, x2, x3, x4, x5, x6, x7, .slice ka n kc, .slice la m lc, x10, x11]] W fun e w' => e = .returned (.bool wb) ∧ Below W.heap.size W w') :
   Calls Tryz.prog 19 #[.agg #[x0, x1, x2, x3, x4, x5, x6, x7, .slice ka n kc, .slice la m lc, x10, x11], .agg (Dd.row l)] w fun e w' => e = .returned (.int .i64 (Dd.checkI wb n m l)) ∧ Below w.heap.size w w' := by
 obtain ⟨R, hR⟩ : ∃ R, Dd.checkI wb n m l = R := ⟨_, rfl⟩
 rw [hR]
 obtain ⟨w1, hw1⟩ : ∃ z, (w.alloc (.cells #[x0, x1, x2, x3, x4, x5, x6, x7, .slice ka n kc, .slice la m lc, x10, x11] 32)).alloc (.cells (Dd.row l) 41) = z := ⟨_, rfl⟩
 have h0 : Dd.Bx (w.alloc (.cells #[x0, x1, x2, x3, x4, x5, x6, x7, .slice ka n kc, .slice la m lc, x10, x11] 32)) w.heap.size #[x0, x1, x2, x3, x4, x5, x6, x7, .slice ka n kc, .slice la m lc, x10, x11] := heap_alloc_new w _
 have h1 := Dd.At.new (w.alloc (.cells #[x0, x1, x2, x3, x4, x5, x6, x7, .slice ka n kc, .slice la m lc, x10, x11] 32)) hl
 rw [show (w.alloc (.cells #[x0, x1, x2, x3, x4, x5, x6, x7, .slice ka n kc, .slice la m lc, x10, x11] 32)).heap.size = w.heap.size + 1 by simp, hw1] at h1
 have h2 : Dd.Bx w1 w.heap.size #[x0, x1, x2, x3, x4, x5, x6, x7, .slice ka n kc, .slice la m lc, x10, x11] := by rw [← hw1]; exact h0.keep (Below.heap_alloc _ _ _ h0.lt)
 have B1 : Below w.heap.size w w1 := by rw [← hw1]; exact ((Below.refl _ w).alloc (Nat.le_refl _) _).alloc (by simp) _
 have HB1 : Hid (Below w.heap.size w w1) := B1
 have CW : Hid _ := CW0 w1 B1
 have HF : Hid (∀ W, Below w1.heap.size w1 W → Dd.Bx W w.heap.size #[x0, x1, x2, x3, x4, x5, x6, x7, .slice ka n kc, .slice la m lc, x10, x11] ∧ Dd.At W (w.heap.size + 1) l ∧ Below w.heap.size w W) := fun W hb => ⟨h2.below hb h2.lt, h1.below hb h1.lt, B1.trans (hb.mono B1.size)⟩
 have H1 : Hid _ := hw1
 have NA := h2
 unfold Dd.Bx at NA
 have ha := Tryz.underlying32
 have ia : (Tryz.prog.info? 32).map (·.size) = some (#[x0, x1, x2, x3, x4, x5, x6, x7, .slice ka n kc, .slice la m lc, x10, x11] : Array Value).size := Dd.info_act
 clear hw1 h0 h1 h2 B1 CW0
 cases wb with
 | false =>
   have HR : Hid (R = 4) := hR.symm
   clear hR hl h40
   go_enter Tryz.func19, Tryz.ntmps19
   go_upto_region 1 with fail
   rw [H1.out]
   go_wp2_with (refine wpList_load_row rfl 32 _ rfl _ rfl 32 _ (0, 0) _ NA ha rfl ia ?_)
   refine Calls.mono CW.out ?_
   rintro e W2 ⟨rfl, hb2⟩
   have HB : Hid (Below w.heap.size w W2) := HB1.out.trans (hb2.mono HB1.out.size)
   clear hb2 CW HF NA
   go_wp2
   go_ret
   exact ⟨by rw [HR.out]; rfl, HB.out⟩
 | true =>
 obtain ⟨m40, n64⟩ := h40 rfl
 obtain ⟨r1, hr1⟩ : ∃ z, (Gm.heldB ((l.take 40).take m) 2 && Gm.heldB ((l.take 40).drop m) 0) = z := ⟨_, rfl⟩
 obtain ⟨r2, hr2⟩ : ∃ z, (Gm.heldB ((l.drop 40).take n) 3 && Gm.heldB ((l.drop 40).drop n) 0) = z := ⟨_, rfl⟩
 have HR : Hid (R = if (r1 && r2) = true then 0 else 1) := by
   show _ = _
   rw [← hR, ← hr1, ← hr2]
   rfl
 have e40 : (l.take 40).length = 40 := by simp; omega
 have e64 : (l.drop 40).length = 64 := by simp; omega
 have HA : Hid (∀ W, Dd.At W (w.heap.size + 1) l → Calls Tryz.prog 34 #[.slice (some ⟨w.heap.size + 1, 0, none⟩) 40 40, .int .i64 m, .int .i64 2] W fun e w' => e = .returned (.bool r1) ∧ w' = W) := fun W hA => by
   have h := Tryz.filled_any (w.heap.size + 1) 0 (l.take 40) m 2 W (fun j hj => by
     rw [e40] at hj
     rw [Nat.zero_add, hA.cell j (by omega), List.getElem_take]
     congr 2
     simp [List.getD_eq_getElem?_getD, show j < l.length by omega]) (by omega) (by omega)
   rw [e40, hr1] at h
   exact h
 have HK : Hid (∀ W, Dd.At W (w.heap.size + 1) l → Calls Tryz.prog 34 #[.slice (some ⟨w.heap.size + 1, 40, none⟩) 64 64, .int .i64 n, .int .i64 3] W fun e w' => e = .returned (.bool r2) ∧ w' = W) := fun W hA => by
   have h := Tryz.filled_any (w.heap.size + 1) 40 (l.drop 40) n 3 W (fun j hj => by
     rw [e64] at hj
     rw [hA.cell (40 + j) (by omega), List.getElem_drop]
     congr 2
     simp [List.getD_eq_getElem?_getD, show 40 + j < l.length by omega]) (by omega) (by omega)
   rw [e64, hr2] at h
   exact h
 have q0 : (0 : Int) ≤ m := by omega
 have q1 : (0 : Int) ≤ n := by omega
 clear hR hr1 hr2 e40 e64 hl h40
 go_enter Tryz.func19, Tryz.ntmps19
 go_upto_region 1 with fail
 rw [H1.out]
 go_wp2_with (refine wpList_load_row rfl 32 _ rfl _ rfl 32 _ (0, 0) _ NA ha rfl ia ?_)
 refine Calls.mono CW.out ?_
 rintro e W2 ⟨rfl, hb2⟩
 obtain ⟨h2, h1, HB⟩ := HF.out W2 hb2
 have HB : Hid (Below w.heap.size w W2) := HB
 have hbx : W2.heap[w.heap.size]? = some (.cells #[x0, x1, x2, x3, x4, x5, x6, x7, .slice ka n kc, .slice la m lc, x10, x11] 32 (0, 0)) := h2
 have c8 : W2.cell? ⟨w.heap.size, 8, none⟩ = some (.slice ka n kc) := by simp [World.cell?, hbx]
 have c9 : W2.cell? ⟨w.heap.size, 9, none⟩ = some (.slice la m lc) := by simp [World.cell?, hbx]
 have CA : ∀ nq, Calls Tryz.prog 34 #[.slice (some ⟨w.heap.size + 1, 0, none⟩) 40 40, .int .i64 m, .int .i64 2] (W2.drewN nq) fun e w' => e = .returned (.bool r1) ∧ w' = W2.drewN nq := fun nq => HA.out _ (h1.keep rfl)
 have CK : ∀ nq, Calls Tryz.prog 34 #[.slice (some ⟨w.heap.size + 1, 40, none⟩) 64 64, .int .i64 n, .int .i64 3] (W2.drewN nq) fun e w' => e = .returned (.bool r2) ∧ w' = W2.drewN nq := fun nq => HK.out _ (h1.keep rfl)
 have hst : W2.heap[w.heap.size + 1]? = some (.cells (Dd.row l) 41 (0, 0)) := h1.h
 clear hb2 CW HF NA h2 hbx HA HK h1
 have HCA : Hid _ := CA
 have HCK : Hid _ := CK
 clear CA CK
 have HW2 : Hid (∀ nq, Below w.heap.size w (W2.drewN nq)) := fun nq => HB.out.trans ⟨rfl, rfl, rfl, Nat.le_refl _, fun _ _ => rfl⟩
 cases r1 with
 | false =>
   have HQ : Hid (R = 1) := by rw [HR.out]; rfl
   go_wp2_with fail
   go_quiet (first | (go_at_call 34; with_reducible refine Calls.quiet_of_same (HCA.out _)))
   go_wp2
   go_ret
   exact ⟨by rw [HQ.out]; rfl, HW2.out _⟩
 | true =>
   cases r2 with
   | false =>
     have HQ : Hid (R = 1) := by rw [HR.out]; rfl
     go_wp2_with fail
     go_quiet (first | (go_at_call 34; with_reducible refine Calls.quiet_of_same (HCA.out _)) | (go_at_call 34; with_reducible refine Calls.quiet_of_same (HCK.out _)))
     go_wp2
     go_ret
     exact ⟨by rw [HQ.out]; rfl, HW2.out _⟩
   | true =>
     have HQ : Hid (R = 0) := by rw [HR.out]; rfl
     go_wp2_with fail
     go_quiet (first | (go_at_call 34; with_reducible refine Calls.quiet_of_same (HCA.out _)) | (go_at_call 34; with_reducible refine Calls.quiet_of_same (HCK.out _)))
     go_wp2
     go_ret
     exact ⟨by rw [HQ.out]; rfl, HW2.out _⟩
end Go.Proofs
namespace Go.Proofs
open Go
theorem Nt.put_some (ts : List Value) (ds : List Deferred) (d : Tmp) (v : Value) : Act.put ⟨ts.toArray, ds⟩ (some d) v = ⟨(ts.set d v).toArray, ds⟩ := by
 simp [Act.put]
theorem Nt.takeS {P : Program} {md : Region.Mode} {ops : Array Oper} {Q : Exit → Act → World → Prop} {S : World → Prop} (i : Nat) {oi : Oper} {v : Value} {fuel : Nat} {listed : Array Bool} {ts : List Value} {ds : List Deferred} {w : World} (d : Tmp) (hi : ops[i]? = some oi) (hd : oi.dst = some d)
  (hs : Region.noSelect ops = true) (hf : Region.free md ops listed i = true) (hr : (Region.ready md ops listed).contains i = true)
  (hQ : ∀ c a w, Q (.panic c) (a.put oi.dst v) w → Q (.panic c) a w) (hy : YieldsIf P ops S oi v ⟨ts.toArray, ds⟩) (hS : S w)
  (h : wpAnyH P md ops Q S fuel (listed.setIfInBounds i true) ⟨(ts.set d v).toArray, ds⟩ w) : wpAnyH P md ops Q S (fuel + 1) listed ⟨ts.toArray, ds⟩ w :=
 wpAnyH_take hi hs hf hr hQ hy hS (by rw [hd, Nt.put_some]; exact h)
end Go.Proofs
