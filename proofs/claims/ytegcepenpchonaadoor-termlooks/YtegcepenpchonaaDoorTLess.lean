/-
  The contract of the law's less.
-/
import Derived.Test.YtegcepenpchonaaDoorTParse
import Derived.Test.YtegcepenpchonaaDoorTChk
import Derived.Test.YtegcepenpchonaaDoorTText
import Derived.Test.YtegcepenpchonaaDoorTSize
namespace Go.Proofs
open Go.RowKit

/-- less's text and its term. -/
def Tk.lessL : List UInt8 := [40, 108, 116, 32, 36, 48, 32, 40, 97, 100, 100, 32, 49, 32, 36, 51, 41, 41]
def Tk.lessT : Tm := .mk 11 0 [.mk 2 0 [], .mk 5 0 [.mk 1 1 [], .mk 2 3 []]]
theorem Tk.less_parse : Tk.parseR Tk.lessL = .ok Tk.lessT := by kernel_rfl
theorem Tk.less_check : Tk.lessT.checkR = (2, 0) := by kernel_rfl
theorem Tk.less_text : Tk.lessT.textR = (Tk.lessL, 0) := by kernel_rfl
theorem Tk.less_size : Tk.lessT.size = 5 := by kernel_rfl
theorem Tk.less_depth : Tk.lessT.depth = 3 := by kernel_rfl

set_option maxHeartbeats 4000000 in
set_option maxRecDepth 20000 in
theorem Tryd.less_any (w : World) (hO : Tk.Ops w) (hTB : Lib.TabBelow Tryd.prog w.heap.size w "internal/strconv.uint64pow10" .u64 Lib.pow10Tab) :
    Calls Tryd.prog 9 #[] w fun e w' => e = .returned (.bool true) ∧ Below w.heap.size w w' := by
  have HO : Hid (∀ W, Below w.heap.size w W → Tk.Ops W) := fun W h => hO.below h hO.lt
  have HTB : Hid (∀ W, Below w.heap.size w W → Lib.TabIs Tryd.prog W "internal/strconv.uint64pow10" .u64 Lib.pow10Tab) := hTB
  have H1 : Hid (Calls Tryd.prog 14 #[.string ⟨#[40, 108, 116, 32, 36, 48, 32, 40, 97, 100, 100, 32, 49, 32, 36, 51, 41, 41]⟩] w fun e w' => Tk.Parsed (.ok Tk.lessT) w e w') := by
    have := Tryd.parse_any Tk.lessL w hO (by decide)
    rw [Tk.less_parse] at this
    exact this
  obtain ⟨T, hTT⟩ : ∃ T, T = Tk.lessT := ⟨_, rfl⟩
  have H2 : Hid (∀ (W : World) (d : Nat) (v : Value), Tm.Lies W W.heap.size d v T → Below w.heap.size w W → Calls Tryd.prog 10 #[.agg #[.int .i64 T.op, .int .i64 T.num, v]] W fun e w' => e = .returned (.tuple #[.int .i64 2, .int .i64 0]) ∧ Below W.heap.size W w') := fun W d v hl hb => by
    have := Tryd.check_any d T v W hl (HO.out W hb) (by rw [hTT, Tk.less_size]; omega)
    rw [hTT, Tk.less_check] at this
    rw [hTT]
    exact this
  have H3 : Hid (∀ (W : World) (d : Nat) (v : Value), Tm.Lies W W.heap.size d v T → Below w.heap.size w W → Calls Tryd.prog 12 #[.agg #[.int .i64 T.op, .int .i64 T.num, v]] W fun e w' => e = .returned (.tuple #[.string ⟨#[40, 108, 116, 32, 36, 48, 32, 40, 97, 100, 100, 32, 49, 32, 36, 51, 41, 41]⟩, .int .i64 0]) ∧ Below W.heap.size W w') := fun W d v hl hb => by
    have := Tryd.text_any d T v W hl (HO.out W hb) (HTB.out W hb) (by rw [hTT, Tk.less_size]; omega)
    rw [hTT, Tk.less_text] at this
    rw [hTT]
    exact this
  have H4 : Hid (∀ (W : World) (d : Nat) (v : Value), Tm.Lies W W.heap.size d v T → Below w.heap.size w W → Calls Tryd.prog 20 #[.agg #[.int .i64 T.op, .int .i64 T.num, v]] W fun e w' => e = .returned (.int .i64 5) ∧ Below W.heap.size W w') := fun W d v hl hb => by
    have := Tryd.size_any d T v W hl (HO.out W hb) (by rw [hTT, Tk.less_size]; omega) (by rw [hTT, Tk.less_depth]; omega)
    rw [hTT, Tk.less_size] at this
    rw [hTT]
    exact this
  rw [← hTT] at H1
  clear hTT hO hTB
  obtain ⟨op, hop⟩ : ∃ x, T.op = x := ⟨_, rfl⟩
  obtain ⟨nm, hnm⟩ : ∃ x, T.num = x := ⟨_, rfl⟩
  rw [hop, hnm] at H2 H3 H4
  have HOP : Hid (T.op = op ∧ T.num = nm) := ⟨hop, hnm⟩
  clear hop hnm
  go_enter Tryd.func9, Tryd.ntmps9
  go_wp2_with fail
  refine Calls.mono H1.out ?_
  rintro e W1 ⟨op1, n1, a, len, cap, err, rfl, b1, rfl, rfl, rfl, hli⟩
  rw [HOP.out.1, HOP.out.2]
  have B1 : Hid (Below w.heap.size w (W1.alloc (.cells #[.int .i64 op, .int .i64 nm, .slice a len cap] 24))) := b1.alloc b1.size _
  have L1 : Hid (Tm.Lies (W1.alloc (.cells #[.int .i64 op, .int .i64 nm, .slice a len cap] 24)) W1.heap.size 24 (.slice a len cap) T) := hli.lies.keep (fun k hk => Below.heap_alloc _ _ _ hk)
  have S1 : Hid ((W1.alloc (.cells #[.int .i64 op, .int .i64 nm, .slice a len cap] 24)).heap.size = W1.heap.size + 1) := by show _ = _; simp
  have N1 : Hid ((W1.alloc (.cells #[.int .i64 op, .int .i64 nm, .slice a len cap] 24)).heap[W1.heap.size]? = some (.cells #[.int .i64 op, .int .i64 nm, .slice a len cap] 24 (0, 0))) := heap_alloc_new W1 _
  clear b1 hli
  go_wp2_with fail
  refine Calls.mono (H2.out _ 24 _ (L1.out.wider (by have := S1.out; omega)) B1.out) ?_
  rintro e W2 ⟨rfl, b2⟩
  have B2 : Hid (Below w.heap.size w W2) := B1.out.trans (b2.mono (B1.out.size))
  have L2 : Hid (Tm.Lies W2 W1.heap.size 24 (.slice a len cap) T) := L1.out.keep (fun k hk => b2.block k (by have := S1.out; omega))
  have S2 : Hid (W1.heap.size + 1 ≤ W2.heap.size) := by show _ ≤ _; have := b2.size; have := S1.out; omega
  have N2 : Hid (W2.heap[W1.heap.size]? = _) := (b2.block _ (by have := S1.out; omega)).trans N1.out
  clear b2
  obtain ⟨⟨z0, z1, z2⟩, _⟩ := Tk.row3 N2.out
  go_wp2_with fail
  refine Calls.mono (H3.out _ 24 _ (L2.out.wider (by have := S2.out; omega)) B2.out) ?_
  rintro e W3 ⟨rfl, b3⟩
  have B3 : Hid (Below w.heap.size w W3) := B2.out.trans (b3.mono (B2.out.size))
  have L3 : Hid (Tm.Lies W3 W1.heap.size 24 (.slice a len cap) T) := L2.out.keep (fun k hk => b3.block k (by have := S2.out; omega))
  have S3 : Hid (W1.heap.size + 1 ≤ W3.heap.size) := by show _ ≤ _; have := b3.size; have := S2.out; omega
  have N3 : Hid (W3.heap[W1.heap.size]? = _) := (b3.block _ (by have := S2.out; omega)).trans N2.out
  clear b3 z0 z1 z2
  obtain ⟨⟨z0, z1, z2⟩, _⟩ := Tk.row3 N3.out
  go_wp2_with fail
  refine Calls.mono (H4.out _ 24 _ (L3.out.wider (by have := S3.out; omega)) B3.out) ?_
  rintro e W4 ⟨rfl, b4⟩
  have B4 : Hid (Below w.heap.size w W4) := B3.out.trans (b4.mono (B3.out.size))
  clear b4
  go_wp2
  go_ret
  exact ⟨rfl, B4.out⟩

end Go.Proofs
