/-
  The contract of mark.Write: any mark's bytes, or why it has none.
-/
import Derived.Test.YtbcafacolohgbaaDoorWOpen
namespace Go.Proofs
open Go.RowKit
open Go.Proofs.Mk

/-- A mark's bytes and its error's number. -/
def Mk.wMark (kd : Int) (nm tx : ByteArray) (xs : List (ByteArray × ByteArray)) : ByteArray × Int :=
  if kd = 1 then Mk.wOpen nm tx xs else if kd = 2 then Mk.wClose nm tx xs.length else if kd = 3 then Mk.wText nm tx xs.length else (⟨#[]⟩, 1)

set_option maxHeartbeats 4000000 in
theorem Tryd.write_any (kd at_ : Int) (nm tx : ByteArray) (a : Option Addr) (c : Nat) (xs : List (ByteArray × ByteArray)) (w : World) (hE : Mk.Esc w) (hA : Mk.AttrsAt w (.slice a xs.length c) xs) (hs : nm.size ≤ maxLen)
    (hv : ∀ j (h : j < xs.length), xs[j].1.size ≤ 1000000 ∧ xs[j].2.size ≤ 1000000) (ht : tx.size ≤ 1000000000) :
    Calls Tryd.prog 38 #[.agg #[.int .i64 kd, .int .i64 at_, .string nm, .slice a xs.length c, .string tx]] w fun e w' =>
      e = .returned (.tuple #[.string (Mk.wMark kd nm tx xs).1, .int .i64 (Mk.wMark kd nm tx xs).2]) ∧ Below w.heap.size w w' := by
  obtain ⟨r, hr⟩ : ∃ r, Mk.wMark kd nm tx xs = r := ⟨_, rfl⟩
  have HR : Hid (Mk.wMark kd nm tx xs = r) := hr
  rw [hr]
  clear hr
  have B0 : Below w.heap.size w (w.alloc (.cells #[.int .i64 kd, .int .i64 at_, .string nm, .slice a xs.length c, .string tx] 78)) := (Below.refl _ w).alloc (Nat.le_refl _) _
  have HE : Hid (Mk.Esc (w.alloc (.cells #[.int .i64 kd, .int .i64 at_, .string nm, .slice a xs.length c, .string tx] 78))) := hE.kept (World.grownBy_alloc w _ none) (by simp)
  have HA : Hid (Mk.AttrsAt (w.alloc (.cells #[.int .i64 kd, .int .i64 at_, .string nm, .slice a xs.length c, .string tx] 78)) (.slice a xs.length c) xs) := hA.below B0
  have hX : (w.alloc (.cells #[.int .i64 kd, .int .i64 at_, .string nm, .slice a xs.length c, .string tx] 78)).heap[w.heap.size]? = some (.cells #[.int .i64 kd, .int .i64 at_, .string nm, .slice a xs.length c, .string tx] 78 (0, 0)) := heap_alloc_new w _
  have HV : Hid (∀ j (h : j < xs.length), xs[j].1.size ≤ 1000000 ∧ xs[j].2.size ≤ 1000000) := hv
  have hu38 := Tryd.underlying78
  clear hE hA hv
  by_cases h1 : kd = 1
  · subst h1
    have HQ : Hid (r = Mk.wOpen nm tx xs) := by show _ = _; rw [← HR.out, Mk.wMark, if_pos rfl]
    go_enter Tryd.func38, Tryd.ntmps38
    go_wp2_with (refine wpList_load_row rfl 78 _ rfl _ rfl 78 _ (0, 0) _ hX hu38 rfl (by kernel_rfl) ?_)
    go_wp2_with fail
    refine (Tryd.writeOpen_any 1 at_ nm tx a c xs _ (by exact HE.out) (by exact HA.out) hs (by exact HV.out)).mono ?_
    rintro e W1 ⟨rfl, b1⟩
    go_wp2
    go_ret2
    exact ⟨by rw [HQ.out]; rfl, B0.trans (b1.mono (by simp))⟩
  · by_cases h2 : kd = 2
    · subst h2
      have HQ : Hid (r = Mk.wClose nm tx xs.length) := by show _ = _; rw [← HR.out, Mk.wMark, if_neg (by decide), if_pos rfl]
      go_enter Tryd.func38, Tryd.ntmps38
      go_wp2_with (refine wpList_load_row rfl 78 _ rfl _ rfl 78 _ (0, 0) _ hX hu38 rfl (by kernel_rfl) ?_)
      go_wp2_with fail
      refine (Tryd.writeClose_any 2 at_ nm tx a xs.length c _ hs).mono ?_
      rintro e W1 ⟨rfl, b1⟩
      go_wp2
      go_ret2
      exact ⟨by rw [HQ.out]; rfl, B0.trans (b1.mono (by simp))⟩
    · by_cases h3 : kd = 3
      · subst h3
        have HQ : Hid (r = Mk.wText nm tx xs.length) := by show _ = _; rw [← HR.out, Mk.wMark, if_neg (by decide), if_neg (by decide), if_pos rfl]
        go_enter Tryd.func38, Tryd.ntmps38
        go_wp2_with (refine wpList_load_row rfl 78 _ rfl _ rfl 78 _ (0, 0) _ hX hu38 rfl (by kernel_rfl) ?_)
        go_wp2_with fail
        refine (Tryd.writeText_any 3 at_ nm tx a xs.length c _ (by exact HE.out) ht).mono ?_
        rintro e W1 ⟨rfl, b1⟩
        go_wp2
        go_ret2
        exact ⟨by rw [HQ.out]; rfl, B0.trans (b1.mono (by simp))⟩
      · have HQ : Hid (r = (⟨#[]⟩, 1)) := by show _ = _; rw [← HR.out, Mk.wMark, if_neg h1, if_neg h2, if_neg h3]
        have d1 : (kd == 1) = false := beq_eq_false_iff_ne.2 h1
        have d2 : (kd == 2) = false := beq_eq_false_iff_ne.2 h2
        have d3 : (kd == 3) = false := beq_eq_false_iff_ne.2 h3
        clear h1 h2 h3 hX HA HE HV hs ht hu38
        go_enter Tryd.func38, Tryd.ntmps38
        go_wp2
        go_ret2
        exact ⟨by rw [HQ.out]; rfl, B0⟩

end Go.Proofs
