/-
  The contracts of through and checkForm.
-/
import Derived.Test.YtbjomimdfcbdiaaDoorTShow
namespace Go.Proofs
open Go.RowKit

set_option maxHeartbeats 1600000 in
theorem Tryd.through_any (d : Nat) (T : Tm) (v : Value) (r : Bool) (br B : Nat) (w : World) (hT : Tm.Lies w B d v T) (hB : 0 < B) (hbr : B ≤ br) (hBs : B ≤ w.heap.size) (hO : Tk.Ops w) (hR : Tk.Rt br r w) (hsz : T.size ≤ 2147483647) :
    Calls Tryd.prog 31 #[.agg #[.int .i64 T.op, .int .i64 T.num, v], .int .i64 24, .func (.func 37) #[] #[.pointer (some ⟨br, 0, none⟩)]] w fun e w' =>
      Tk.But (fun k => k = br) w w' ∧ ((T.depth ≤ 24 ∧ e = .returned (.bool true) ∧ Tk.Rt br (r && T.allForm) w') ∨ (24 < T.depth ∧ e = .returned (.bool false))) := by
  obtain ⟨a, cap, rfl⟩ := hT.shape
  obtain ⟨o, ho⟩ : ∃ o, T.op = o := ⟨_, rfl⟩
  obtain ⟨m, hm⟩ : ∃ m, T.num = m := ⟨_, rfl⟩
  obtain ⟨n, hn⟩ : ∃ n, T.ks.length = n := ⟨_, rfl⟩
  rw [ho, hm, hn]
  rw [hn] at hT
  have A1 : Below w.heap.size w ((w.alloc (.cells #[.int .i64 o, .int .i64 m, .slice a n cap] 24)).alloc (.cells #[.int .i64 2147483647] 75)) := ((Below.refl _ w).alloc (Nat.le_refl _) _).alloc (by simp) _
  have hcall := Tryd.show_any d 24 T (.slice a n cap) 2147483647 r (w.heap.size + 1) br B _ (hT.below (A1.mono hBs)) hB (by omega) hbr (by have := hR.lt; omega) (by have := A1.size; omega) (hO.below A1 (by omega))
    (by have := heap_alloc_new (w.alloc (.cells #[.int .i64 o, .int .i64 m, .slice a n cap] 24)) (.cells #[.int .i64 2147483647] 75); simpa [Tk.Wk] using this) (hR.keep (A1.block br hR.lt)) hsz (Nat.le_refl _) (by decide)
  rw [ho, hm] at hcall
  have HC : Hid _ := hcall
  have HA : Hid _ := A1
  have HL : Hid (br < w.heap.size) := hR.lt
  clear hcall A1 hT hO hR ho hm hn
  go_enter Tryd.func31, Tryd.ntmps31
  go_wp2_with fail
  refine Calls.mono HC.out ?_
  rintro e W1 ⟨hb, ⟨hdp, rfl, _, hr⟩ | ⟨hdp, rfl⟩⟩
  · have X : Hid (Tk.But (fun k => k = br) w W1 ∧ T.depth ≤ 24 ∧ Tk.Rt br (r && T.allForm) W1) := ⟨⟨hb.os.trans HA.out.os, hb.tape.trans HA.out.tape, hb.output.trans HA.out.output, Nat.le_trans HA.out.size hb.size, fun i hi he => by
        rw [hb.block i (Nat.lt_of_lt_of_le hi HA.out.size) (by omega)]; exact HA.out.block i hi⟩, hdp, hr⟩
    clear hb hdp hr
    go_wp2
    go_ret
    exact ⟨X.out.1, .inl ⟨X.out.2.1, rfl, X.out.2.2⟩⟩
  · have X : Hid (Tk.But (fun k => k = br) w W1 ∧ 24 < T.depth) := ⟨⟨hb.os.trans HA.out.os, hb.tape.trans HA.out.tape, hb.output.trans HA.out.output, Nat.le_trans HA.out.size hb.size, fun i hi he => by
        rw [hb.block i (Nat.lt_of_lt_of_le hi HA.out.size) (by omega)]; exact HA.out.block i hi⟩, hdp⟩
    clear hb hdp
    go_wp2
    go_ret
    exact ⟨X.out.1, .inr ⟨X.out.2, rfl⟩⟩

/-- checkForm's answer. -/
def Tm.wrongR (T : Tm) : Int := if 24 < T.depth then 2 else if T.allForm = false then 4 else 0

set_option maxHeartbeats 1600000 in
theorem Tryd.checkForm_any (d : Nat) (T : Tm) (v : Value) (w : World) (hT : Tm.Lies w w.heap.size d v T) (hO : Tk.Ops w) (hsz : T.size ≤ 2147483647) :
    Calls Tryd.prog 22 #[.agg #[.int .i64 T.op, .int .i64 T.num, v]] w fun e w' => e = .returned (.int .i64 T.wrongR) ∧ Below w.heap.size w w' := by
  obtain ⟨a, cap, rfl⟩ := hT.shape
  obtain ⟨o, ho⟩ : ∃ o, T.op = o := ⟨_, rfl⟩
  obtain ⟨m, hm⟩ : ∃ m, T.num = m := ⟨_, rfl⟩
  obtain ⟨n, hn⟩ : ∃ n, T.ks.length = n := ⟨_, rfl⟩
  rw [ho, hm, hn]
  rw [hn] at hT
  have A1 : Below w.heap.size w ((w.alloc (.cells #[.int .i64 o, .int .i64 m, .slice a n cap] 24)).alloc (.cells #[.bool true] 4)) := ((Below.refl _ w).alloc (Nat.le_refl _) _).alloc (by simp) _
  have hR : Tk.Rt (w.heap.size + 1) true ((w.alloc (.cells #[.int .i64 o, .int .i64 m, .slice a n cap] 24)).alloc (.cells #[.bool true] 4)) := by
    have := heap_alloc_new (w.alloc (.cells #[.int .i64 o, .int .i64 m, .slice a n cap] 24)) (.cells #[.bool true] 4)
    simpa [Tk.Rt] using this
  have hcall := Tryd.through_any d T (.slice a n cap) true (w.heap.size + 1) w.heap.size _ (hT.below A1) hO.lt (by omega) (by have := A1.size; omega) (hO.below A1 hO.lt) hR hsz
  rw [ho, hm] at hcall
  have HC : Hid _ := hcall
  have HA : Hid _ := A1
  clear hcall A1 hT hO hR ho hm hn
  go_enter Tryd.func22, Tryd.ntmps22
  go_wp2_with fail
  refine Calls.mono HC.out ?_
  rintro e W1 ⟨hb, ⟨hdp, rfl, hr⟩ | ⟨hdp, rfl⟩⟩
  · have X : Hid (Below w.heap.size w W1) := HA.out.trans (hb.below (by have := HA.out.size; omega) (fun k hk => by omega))
    have hc := hr.c0
    have HD : Hid (T.depth ≤ 24) := hdp
    clear hb hdp hr
    cases hf : T.allForm
    · rw [hf] at hc
      have hc' : W1.cell? ⟨w.heap.size + 1, 0, none⟩ = some (.bool false) := hc
      have HF : Hid (T.wrongR = 4) := by
        show _ = _
        unfold Tm.wrongR
        rw [if_neg (by have := HD.out; omega), if_pos hf]
      clear hc hf
      go_wp2
      go_ret
      exact ⟨by rw [HF.out]; rfl, X.out⟩
    · rw [hf] at hc
      have hc' : W1.cell? ⟨w.heap.size + 1, 0, none⟩ = some (.bool true) := hc
      have HF : Hid (T.wrongR = 0) := by
        show _ = _
        unfold Tm.wrongR
        rw [if_neg (by have := HD.out; omega), hf]
        rfl
      clear hc hf
      go_wp2
      go_ret
      exact ⟨by rw [HF.out]; rfl, X.out⟩
  · have X : Hid (Below w.heap.size w W1) := HA.out.trans (hb.below (by have := HA.out.size; omega) (fun k hk => by omega))
    have HF : Hid (T.wrongR = 2) := by
      show _ = _
      unfold Tm.wrongR
      rw [if_pos hdp]
    clear hb hdp
    go_wp2
    go_ret
    exact ⟨by rw [HF.out]; rfl, X.out⟩

end Go.Proofs
