/-
  The walk of MarkWrites: of every mark (with bounds that any machine keeps), mark.Write and the document's Write answer alike.
-/
import Derived.Test.YtpnodpmjfaiblaaDoorLaid
import Derived.Test.YtpnodpmjfaiblaaDoorLawLarge
import Derived.Test.YtpnodpmjfaiblaaDoorLawRef
namespace Go.Proofs.YtpnodpmjfaiblaaDoor.MarkWrites
open Go.RowKit

set_option maxHeartbeats 2000000 in
theorem walk (kd at_ : Int) (nm tx : ByteArray) (a : Option Addr) (c : Nat) (xs : List (ByteArray × ByteArray)) (w : World) (hE : Mk.Esc w) (hA : Mk.AttrsAt w (.slice a xs.length c) xs) (hl : xs.length ≤ 140737488355328) (ht : tx.size ≤ 140737488355328)
    (hn : nm.size ≤ maxLen) (hv : ∀ j (h : j < xs.length), xs[j].1.size ≤ 140737488355328 ∧ xs[j].2.size ≤ 140737488355328) :
    Calls Tryd.prog 6 #[.agg #[.int .i64 kd, .int .i64 at_, .string nm, .slice a xs.length c, .string tx]] w fun e w' => e = .returned (.bool true) ∧ Below w.heap.size w w' := by
  have HV : Hid (∀ j (h : j < xs.length), xs[j].1.size ≤ 140737488355328 ∧ xs[j].2.size ≤ 140737488355328) := hv
  have B0 : Below w.heap.size w (w.alloc (.cells #[.int .i64 kd, .int .i64 at_, .string nm, .slice a xs.length c, .string tx] 38)) := (Below.refl _ w).alloc (Nat.le_refl _) _
  have X0 : Hid (Mk.Box w.heap.size kd at_ nm (.slice a xs.length c) tx (w.alloc (.cells #[.int .i64 kd, .int .i64 at_, .string nm, .slice a xs.length c, .string tx] 38))) := Mk.Box.new kd at_ nm tx (.slice a xs.length c) w
  have hX : (w.alloc (.cells #[.int .i64 kd, .int .i64 at_, .string nm, .slice a xs.length c, .string tx] 38)).heap[w.heap.size]? = some (.cells #[.int .i64 kd, .int .i64 at_, .string nm, .slice a xs.length c, .string tx] 38 (0, 0)) := heap_alloc_new w _
  have HA : Hid (Mk.AttrsAt w (.slice a xs.length c) xs) := hA
  have HE : Hid (Mk.Esc w) := hE
  have hu38 := Tryd.underlying38
  have A0 : Hid (Mk.AttrsAt (w.alloc (.cells #[.int .i64 kd, .int .i64 at_, .string nm, .slice a xs.length c, .string tx] 38)) (.slice a xs.length c) xs) := hA.below B0
  clear hv hA hE
  go_enter Tryd.func6, Tryd.ntmps6
  go_wp2_with (refine wpList_load_row rfl 38 _ rfl _ rfl 38 _ (0, 0) _ hX hu38 rfl (by kernel_rfl) ?_)
  go_wp2_with fail
  refine (Tryd.large_any kd at_ nm tx a c xs _ (by exact A0.out) hl ht (by exact HV.out)).mono ?_
  rintro e W1 ⟨⟨b, rfl, hS⟩, b1⟩
  have B1 := B0.trans (b1.mono (by simp))
  have X1 : Hid (Mk.Box w.heap.size kd at_ nm (.slice a xs.length c) tx W1) := X0.out.kept b1 (by simp)
  have HS : Hid (b = false → Mk.Small tx xs) := hS
  clear hS X0 A0 B0 b1 hX
  cases b
  · obtain ⟨hx1, hx2, hx3⟩ := HS.out rfl
    have HX3 : Hid (∀ j (h : j < xs.length), xs[j].1.size ≤ 1000000 ∧ xs[j].2.size ≤ 1000000) := fun j h => ⟨by have := (hx3 j h).1; omega, by have := (hx3 j h).2; omega⟩
    have E1 : Hid (Mk.Esc W1) := HE.out.kept (Mk.grown_of_below B1 none) (by simp)
    have A1 : Hid (Mk.AttrsAt W1 (.slice a xs.length c) xs) := HA.out.below B1
    have h1 : W1.heap[w.heap.size]? = some (.cells #[.int .i64 kd, .int .i64 at_, .string nm, .slice a xs.length c, .string tx] 38 (0, 0)) := X1.out
    clear hx3 HS
    go_wp2_with (refine wpList_load_row rfl 38 _ rfl _ rfl 38 _ (0, 0) _ h1 hu38 rfl (by kernel_rfl) ?_)
    go_wp2_with fail
    refine (Tryd.write_any kd at_ nm tx a c xs _ (by exact E1.out) (by exact A1.out) hn (by exact HX3.out) (by omega)).mono ?_
    rintro e W2 ⟨rfl, b2⟩
    have X2 : Hid (Mk.Box w.heap.size kd at_ nm (.slice a xs.length c) tx W2) := X1.out.kept b2 X1.out.lt
    have B2 := B1.trans (b2.mono B1.size)
    have A2 : Hid (Mk.AttrsAt W2 (.slice a xs.length c) xs) := HA.out.below B2
    have h2 : W2.heap[w.heap.size]? = some (.cells #[.int .i64 kd, .int .i64 at_, .string nm, .slice a xs.length c, .string tx] 38 (0, 0)) := X2.out
    clear h1 b2 X1 A1 E1
    go_wp2_with (refine wpList_load_row rfl 38 _ rfl _ rfl 38 _ (0, 0) _ h2 hu38 rfl (by kernel_rfl) ?_)
    go_wp2_with fail
    refine (Tryd.lawref_any kd at_ nm tx _ xs _ (by exact A2.out) (by omega)).mono ?_
    rintro e W3 ⟨b3, vb, rfl, o3⟩
    have B3 := B2.trans (b3.mono B2.size)
    obtain ⟨a', c', rfl⟩ := Mk.own_shape o3
    have A3 : Hid (Mk.AttrsAt W3 (.slice a' xs.length c') xs) := Mk.attrsAt_own o3
    clear b3 o3 h2 A2 X2
    go_wp2_with fail
    refine (Tryd.refWrite_any kd at_ nm tx a' c' xs _ (by exact A3.out) hn (by exact HX3.out) (by omega)).mono ?_
    rintro e W4 ⟨rfl, b4⟩
    have B4 := B3.trans (b4.mono B3.size)
    have E4 : Hid (Mk.Esc W4) := HE.out.kept (Mk.grown_of_below B4 none) (by simp)
    obtain ⟨r, hr⟩ : ∃ r, Mk.wMark kd nm tx xs = r := ⟨_, rfl⟩
    rw [hr]
    obtain ⟨r1, r2⟩ := r
    clear hr b4 A3
    go_wp2_with fail
    refine (Tryd.opens_true _ (by exact E4.out)).mono ?_
    rintro e W5 ⟨rfl, b5⟩
    go_wp2
    go_ret
    exact ⟨rfl, B4.trans (b5.mono B4.size)⟩
  · have E1 : Hid (Mk.Esc W1) := HE.out.kept (Mk.grown_of_below B1 none) (by simp)
    go_wp2_with fail
    refine (Tryd.opens_true _ (by exact E1.out)).mono ?_
    rintro e W5 ⟨rfl, b5⟩
    go_wp2
    go_ret
    exact ⟨rfl, B1.trans (b5.mono B1.size)⟩

end Go.Proofs.YtpnodpmjfaiblaaDoor.MarkWrites
