/-
  The statements' alt.
-/
import Derived.Test.YtimmgchapcbgfaaDoorBlTextOf
import Derived.Test.YtimmgchapcbgfaaDoorBlSame3
import Derived.Test.YtimmgchapcbgfaaDoorBlSize
namespace Go.Proofs
open Go.RowKit

/-- alt's block. -/
def Bk.altB : Bl := .mk 3 0 0 [.mk 2 1 0 [] [], .mk 5 2 0 [.mk 2 3 0 [] [], .mk 1 0 0 [] []] []] []
theorem Bk.altB_text : Bk.altB.textR = ([40, 115, 101, 113, 32, 49, 32, 40, 97, 108, 116, 58, 50, 32, 51, 32, 45, 41, 41], 0) := by
  have e1 : Lib.itoa 1 = [49] := by rw [show (1 : Int) = ((1 : Nat) : Int) from rfl, Lib.itoa_nonneg, Lib.decDigits_one (by omega)]; rfl
  have e2 : Lib.itoa 2 = [50] := by rw [show (2 : Int) = ((2 : Nat) : Int) from rfl, Lib.itoa_nonneg, Lib.decDigits_one (by omega)]; rfl
  have e3 : Lib.itoa 3 = [51] := by rw [show (3 : Int) = ((3 : Nat) : Int) from rfl, Lib.itoa_nonneg, Lib.decDigits_one (by omega)]; rfl
  have h1 : Bk.altB.tooB = false := by decide
  have h2 : Bk.altB.allP Bl.writB = true := by decide
  rw [Bl.textR, h1, h2]
  simp [Bk.altB, Bl.textL, Bl.textsL, Bl.nodeL, Bl.nameL, e1, e2, e3]

theorem Bl.lk_nil (W : World) (B : Nat) : Bl.Lk W B (.slice none 0 0) [] := ⟨none, 0, rfl, fun j h => by simp at h⟩
theorem Bl.lies_leaf (W : World) (B d : Nat) (k n r : Int) : Bl.Lies W B (d + 1) (.slice none 0 0) (.slice none 0 0) (.mk k n r [] []) := ⟨Bl.lk_nil W B, none, 0, rfl, .inl rfl⟩
theorem Bk.alt_lies (W : World) (b c B : Nat) (hb : W.heap[b]? = some (.cells #[.int .i64 2, .int .i64 3, .int .i64 0, .slice none 0 0, .slice none 0 0, .int .i64 1, .int .i64 0, .int .i64 0, .slice none 0 0, .slice none 0 0] 25 (0, 0)))
    (hc : W.heap[c]? = some (.cells #[.int .i64 2, .int .i64 1, .int .i64 0, .slice none 0 0, .slice none 0 0, .int .i64 5, .int .i64 2, .int .i64 0, .slice (some ⟨b, 0, none⟩) 2 2, .slice none 0 0] 25 (0, 0))) (hB : b < B) (hC : c < B) :
    Bl.Lies W B 3 (.slice (some ⟨c, 0, none⟩) 2 2) (.slice none 0 0) Bk.altB := by
  refine ⟨Bl.lk_nil W B, some ⟨c, 0, none⟩, 2, rfl, .inr ⟨c, 0, rfl, hC, fun j hj => ?_⟩⟩
  match j, hj with
  | 0, _ => exact ⟨.slice none 0 0, .slice none 0 0, by simp [World.cell?, hc]; rfl, by simp [World.cell?, hc]; rfl, by simp [World.cell?, hc]; rfl, by simp [World.cell?, hc], by simp [World.cell?, hc], Bl.lies_leaf W B 1 2 1 0⟩
  | 1, _ =>
    refine ⟨.slice (some ⟨b, 0, none⟩) 2 2, .slice none 0 0, by simp [World.cell?, hc]; rfl, by simp [World.cell?, hc]; rfl, by simp [World.cell?, hc]; rfl, by simp [World.cell?, hc], by simp [World.cell?, hc], ?_⟩
    refine ⟨Bl.lk_nil W B, some ⟨b, 0, none⟩, 2, rfl, .inr ⟨b, 0, rfl, hB, fun j hj => ?_⟩⟩
    match j, hj with
    | 0, _ => exact ⟨.slice none 0 0, .slice none 0 0, by simp [World.cell?, hb]; rfl, by simp [World.cell?, hb]; rfl, by simp [World.cell?, hb]; rfl, by simp [World.cell?, hb], by simp [World.cell?, hb], Bl.lies_leaf W B 0 2 3 0⟩
    | 1, _ => exact ⟨.slice none 0 0, .slice none 0 0, by simp [World.cell?, hb]; rfl, by simp [World.cell?, hb]; rfl, by simp [World.cell?, hb]; rfl, by simp [World.cell?, hb], by simp [World.cell?, hb], Bl.lies_leaf W B 0 1 0 0⟩

set_option maxRecDepth 20000 in
set_option maxHeartbeats 4000000 in
theorem Tryd.balt_any (w : World) (hO : Bk.Names w) (hTab : Lib.TabIs Tryd.prog w "internal/strconv.uint64pow10" .u64 Lib.pow10Tab) :
    Calls Tryd.prog 5 #[] w fun e w' => e = .returned (.bool true) ∧ Below w.heap.size w w' := by
  obtain ⟨W0, hW0⟩ : ∃ x, ((w.alloc (.cells #[.int .i64 2, .int .i64 3, .int .i64 0, .slice none 0 0, .slice none 0 0, .int .i64 1, .int .i64 0, .int .i64 0, .slice none 0 0, .slice none 0 0] 25)).alloc (.cells #[.int .i64 2, .int .i64 1, .int .i64 0, .slice none 0 0, .slice none 0 0, .int .i64 5, .int .i64 2, .int .i64 0, .slice (some ⟨w.heap.size, 0, none⟩) 2 2, .slice none 0 0] 25)).alloc (.cells #[.int .i64 3, .int .i64 0, .int .i64 0, .slice (some ⟨w.heap.size + 1, 0, none⟩) 2 2, .slice none 0 0] 25) = x := ⟨_, rfl⟩
  have A0 : Hid (Below w.heap.size w W0) := by show Below _ _ _; rw [← hW0]; exact (((Below.refl _ w).alloc (Nat.le_refl _) _).alloc (by simp) _).alloc (by simp; omega) _
  have S0 : Hid (W0.heap.size = w.heap.size + 3) := by show _ = _; rw [← hW0]; simp
  have R1 : Hid (W0.heap[w.heap.size]? = some (.cells #[.int .i64 2, .int .i64 3, .int .i64 0, .slice none 0 0, .slice none 0 0, .int .i64 1, .int .i64 0, .int .i64 0, .slice none 0 0, .slice none 0 0] 25 (0, 0))) := by
    show _ = _
    rw [← hW0, Below.heap_alloc _ _ _ (by simp; omega), Below.heap_alloc _ _ _ (by simp)]
    exact heap_alloc_new w _
  have R2 : Hid (W0.heap[w.heap.size + 1]? = some (.cells #[.int .i64 2, .int .i64 1, .int .i64 0, .slice none 0 0, .slice none 0 0, .int .i64 5, .int .i64 2, .int .i64 0, .slice (some ⟨w.heap.size, 0, none⟩) 2 2, .slice none 0 0] 25 (0, 0))) := by
    show _ = _
    rw [← hW0, Below.heap_alloc _ _ _ (by simp)]
    have := heap_alloc_new (w.alloc (.cells #[.int .i64 2, .int .i64 3, .int .i64 0, .slice none 0 0, .slice none 0 0, .int .i64 1, .int .i64 0, .int .i64 0, .slice none 0 0, .slice none 0 0] 25)) (.cells #[.int .i64 2, .int .i64 1, .int .i64 0, .slice none 0 0, .slice none 0 0, .int .i64 5, .int .i64 2, .int .i64 0, .slice (some ⟨w.heap.size, 0, none⟩) 2 2, .slice none 0 0] 25)
    simpa using this
  have R3 : Hid (W0.heap[w.heap.size + 1 + 1]? = some (.cells #[.int .i64 3, .int .i64 0, .int .i64 0, .slice (some ⟨w.heap.size + 1, 0, none⟩) 2 2, .slice none 0 0] 25 (0, 0))) := by
    show _ = _
    rw [← hW0]
    have := heap_alloc_new ((w.alloc (.cells #[.int .i64 2, .int .i64 3, .int .i64 0, .slice none 0 0, .slice none 0 0, .int .i64 1, .int .i64 0, .int .i64 0, .slice none 0 0, .slice none 0 0] 25)).alloc (.cells #[.int .i64 2, .int .i64 1, .int .i64 0, .slice none 0 0, .slice none 0 0, .int .i64 5, .int .i64 2, .int .i64 0, .slice (some ⟨w.heap.size, 0, none⟩) 2 2, .slice none 0 0] 25)) (.cells #[.int .i64 3, .int .i64 0, .int .i64 0, .slice (some ⟨w.heap.size + 1, 0, none⟩) 2 2, .slice none 0 0] 25)
    simpa using this
  have HC : Hid (∀ W, Below W0.heap.size W0 W → Bl.Lies W W.heap.size 3 (.slice (some ⟨w.heap.size + 1, 0, none⟩) 2 2) (.slice none 0 0) Bk.altB ∧ Below w.heap.size w W ∧ 0 < W.heap.size ∧ (W.cell? ⟨w.heap.size + 1 + 1, 0, none⟩ = some (.int .i64 3) ∧ W.cell? ⟨w.heap.size + 1 + 1, 1, none⟩ = some (.int .i64 0) ∧ W.cell? ⟨w.heap.size + 1 + 1, 2, none⟩ = some (.int .i64 0) ∧ W.cell? ⟨w.heap.size + 1 + 1, 3, none⟩ = some (.slice (some ⟨w.heap.size + 1, 0, none⟩) 2 2) ∧ W.cell? ⟨w.heap.size + 1 + 1, 4, none⟩ = some (.slice none 0 0))) := fun W hb => by
    have hs := S0.out
    have hz := hb.size
    exact ⟨Bk.alt_lies W w.heap.size (w.heap.size + 1) _ ((hb.block _ (by omega)).trans R1.out) ((hb.block _ (by omega)).trans R2.out) (by omega) (by omega), A0.out.trans (hb.mono (by omega)), by omega, Bk.box5 ((hb.block _ (by omega)).trans R3.out)⟩
  have HTX : Hid (Bk.Names W0 ∧ Lib.TabIs Tryd.prog W0 "internal/strconv.uint64pow10" .u64 Lib.pow10Tab) := ⟨hO.below A0.out hO.lt, Lib.tabBelow_of_tabIs hTab _ A0.out⟩
  have CT : Hid (Calls Tryd.prog 7 #[.agg #[.int .i64 3, .int .i64 0, .int .i64 0, .slice (some ⟨w.heap.size + 1, 0, none⟩) 2 2, .slice none 0 0]] W0 fun e w' => e = .returned (.tuple #[.string ⟨#[40, 115, 101, 113, 32, 49, 32, 40, 97, 108, 116, 58, 50, 32, 51, 32, 45, 41, 41]⟩, .int .i64 0]) ∧ Hid (Below W0.heap.size W0 w')) := by
    have h := Tryd.btext_any 3 Bk.altB _ _ W0 (HC.out W0 (Below.refl _ _)).1 HTX.out.1 HTX.out.2 (by decide) (by decide) (by decide) (by decide) (by decide)
    rw [Bk.altB_text] at h
    exact h.mono fun _ _ q => q
  have CS : Hid (∀ W, Below W0.heap.size W0 W → Calls Tryd.prog 9 #[.agg #[.int .i64 3, .int .i64 0, .int .i64 0, .slice (some ⟨w.heap.size + 1, 0, none⟩) 2 2, .slice none 0 0]] W fun e w' => e = .returned (.int .i64 5) ∧ Hid (Below W0.heap.size W0 w')) := fun W hb =>
    (Tryd.bsize_any 3 Bk.altB _ _ W (HC.out W hb).1 (HC.out W hb).2.2.1 (by decide) (by decide) (by decide)).mono fun _ _ q => ⟨q.1, hb.trans (q.2.mono hb.size)⟩
  have CE : Hid (∀ W, Below W0.heap.size W0 W → Calls Tryd.prog 11 #[.agg #[.int .i64 3, .int .i64 0, .int .i64 0, .slice (some ⟨w.heap.size + 1, 0, none⟩) 2 2, .slice none 0 0], .agg #[.int .i64 3, .int .i64 0, .int .i64 0, .slice (some ⟨w.heap.size + 1, 0, none⟩) 2 2, .slice none 0 0]] W fun e w' => e = .returned (.bool true) ∧ Hid (Below W0.heap.size W0 w')) := fun W hb => by
    have h := Tryd.blockSame_any 3 3 Bk.altB Bk.altB _ _ _ _ W (HC.out W hb).1 (HC.out W hb).1 (HC.out W hb).2.2.1 (by decide) (by decide) (by decide)
    refine h.mono ?_
    rintro e w' ⟨⟨r, rfl, hr⟩, hb'⟩
    rw [hr.2 rfl]
    exact ⟨rfl, hb.trans (hb'.mono hb.size)⟩
  have HW0 : Hid _ := hW0
  obtain ⟨-, -, -, k0, k1, k2, k3, k4⟩ := HC.out W0 (Below.refl _ _)
  clear hO hTab hW0 R1 R2 R3 HTX
  go_enter Tryd.func5, Tryd.ntmps5
  go_upto_region 2 with fail
  rw [HW0.out]
  clear HW0
  go_wp2_with fail
  refine Calls.mono CT.out ?_
  rintro e W1 ⟨rfl, B1⟩
  clear CT k0 k1 k2 k3 k4
  obtain ⟨-, -, -, k0, k1, k2, k3, k4⟩ := HC.out W1 B1.out
  go_wp2_with fail
  refine Calls.mono (CS.out _ B1.out) ?_
  rintro e W2 ⟨rfl, B2⟩
  clear CS k0 k1 k2 k3 k4
  obtain ⟨-, -, -, k0, k1, k2, k3, k4⟩ := HC.out W2 B2.out
  go_wp2_with fail
  refine Calls.mono (CE.out _ B2.out) ?_
  rintro e W3 ⟨rfl, B3⟩
  clear CE k0 k1 k2 k3 k4
  have HF : Hid (Below w.heap.size w W3) := (HC.out W3 B3.out).2.1
  go_wp2
  go_ret
  exact ⟨rfl, HF.out⟩

end Go.Proofs
