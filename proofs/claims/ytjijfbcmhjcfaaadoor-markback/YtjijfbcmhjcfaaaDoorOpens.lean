/-
  The contract of opens, the statements' own example: true.
-/
import Derived.Test.YtjijfbcmhjcfaaaDoorRRead
namespace Go.Proofs
open Go.RowKit
open Go.Proofs.Mk

/-- The example's text. -/
def Mk.exText : ByteArray := ⟨#[60, 97, 32, 98, 61, 34, 49, 38, 108, 116, 59, 34, 47, 62]⟩
theorem Mk.exRead : Mk.readL Mk.exText.data.toList 0 = .ok [⟨1, 0, ⟨#[97]⟩, [(⟨#[98]⟩, ⟨#[49, 60]⟩)], ⟨#[]⟩⟩, ⟨2, 0, ⟨#[97]⟩, [], ⟨#[]⟩⟩] := by kernel_rfl

/-- The cells of a row that the call owns. -/
theorem Mk.own_cell {w : World} {B : Nat} {e : TypeId} {size : Nat} {g n cap : Nat} {cs : List Value} (h : w.ownsRow B e size (.slice (some ⟨g, 0, none⟩) n cap) n cs) (j : Nat) (u : Value) (hj : cs[j]? = some u) : w.cell? ⟨g, j, none⟩ = some u := by
  have h1 := h.cells rfl j u hj
  have ea : (⟨g, 0, none⟩ : Addr).add j = ⟨g, j, none⟩ := by unfold Addr.add; split <;> simp_all
  rw [ea] at h1
  exact h1

set_option maxHeartbeats 2000000 in
theorem Tryd.opens_true (w : World) (hE : Mk.Esc w) :
    Calls Tryd.prog 9 #[] w fun e w' => e = .returned (.bool true) ∧ Below w.heap.size w w' := by
  have HE : Hid (Mk.Esc w) := hE
  clear hE
  go_enter Tryd.func9, Tryd.ntmps9
  go_wp2_with fail
  refine (Tryd.read_any Mk.exText _ (by exact HE.out) (by decide)).mono ?_
  rintro e W1 ⟨b1, t1⟩
  unfold Mk.ReadEnd at t1
  rw [Mk.exRead] at t1
  obtain ⟨v, qs, rfl, hqs, o1⟩ := t1
  obtain ⟨⟨m1, v1⟩, ⟨m2, v2⟩, rfl⟩ : ∃ q1 q2, qs = [q1, q2] := by
    match qs, hqs with
    | [], h => simp at h
    | [_], h => simp at h
    | [q1, q2], _ => exact ⟨q1, q2, rfl⟩
    | _ :: _ :: _ :: _, h => simp at h
  simp only [List.map_cons, List.map_nil, List.cons.injEq, and_true] at hqs
  obtain ⟨rfl, rfl⟩ := hqs
  obtain ⟨g, cap, rfl⟩ : ∃ g cap, v = .slice (some ⟨g, 0, none⟩) 2 cap := by
    rcases o1.row.2 with ⟨_, h0⟩ | ⟨g', cap, cur, hv, _⟩
    · simp at h0
    · exact ⟨g', cap, hv⟩
  have a1 := o1.attrs _ (List.mem_cons_self ..)
  obtain ⟨g1, c1, rfl⟩ : ∃ g cap, v1 = .slice (some ⟨g, 0, none⟩) 1 cap := by
    rcases a1.2 with ⟨_, h0⟩ | ⟨g', cap, cur, hv, _⟩
    · simp at h0
    · exact ⟨g', cap, hv⟩
  have k0 := Mk.own_cell o1.row 0 (.int .i64 1) rfl
  have k3 := Mk.own_cell o1.row 3 (.slice (some ⟨g1, 0, none⟩) 1 c1) rfl
  have k5 := Mk.own_cell o1.row 5 (.int .i64 2) rfl
  have k7 := Mk.own_cell o1.row 7 (.string ⟨#[97]⟩) rfl
  have j1 := Mk.own_cell a1 1 (.string ⟨#[49, 60]⟩) rfl
  clear a1 o1
  go_wp2
  go_ret
  exact ⟨rfl, b1⟩

end Go.Proofs
