/-
  The contract of the document's has: is there an attribute of a name?
-/
import Derived.Test.YtbcafacolohgbaaDoorUnlike
namespace Go.Proofs
open Go.RowKit
open Go.Proofs.Mk

/-- has. -/
def Mk.hasB (xs : List (ByteArray × ByteArray)) (nm : ByteArray) : Bool := xs.any fun a => decide (a.1 = nm)

theorem Mk.hasB_true {xs : List (ByteArray × ByteArray)} {nm : ByteArray} {k : Nat} (hk : k < xs.length) (h : xs[k].1 = nm) : Mk.hasB xs nm = true := by
  simp only [Mk.hasB, List.any_eq_true, decide_eq_true_eq]
  exact ⟨xs[k], List.getElem_mem hk, h⟩
theorem Mk.hasB_false {xs : List (ByteArray × ByteArray)} {nm : ByteArray} (h : ∀ k (hk : k < xs.length), xs[k].1 ≠ nm) : Mk.hasB xs nm = false := by
  cases hc : Mk.hasB xs nm
  · rfl
  · simp only [Mk.hasB, List.any_eq_true, decide_eq_true_eq] at hc
    obtain ⟨a, ha, he⟩ := hc
    obtain ⟨k, hk, rfl⟩ := List.getElem_of_mem ha
    exact absurd he (h k hk)

set_option maxHeartbeats 2000000 in
theorem Tryd.has_some (g off cap : Nat) (xs : List (ByteArray × ByteArray)) (nm : ByteArray) (w : World) (_hcap : xs.length ≤ cap) (hg : g < w.heap.size) (hlen : xs.length ≤ 1000000)
    (hr : ∀ j (h : j < xs.length), w.cell? ⟨g, off + j * 2, none⟩ = some (.string xs[j].1) ∧ w.cell? ⟨g, off + j * 2 + 1, none⟩ = some (.string xs[j].2)) :
    Calls Tryd.prog 61 #[.slice (some ⟨g, off, none⟩) xs.length cap, .string nm] w fun e w' => e = .returned (.bool (Mk.hasB xs nm)) ∧ Below w.heap.size w w' := by
  have HR : Hid (∀ j (h : j < xs.length), w.cell? ⟨g, off + j * 2, none⟩ = some (.string xs[j].1) ∧ w.cell? ⟨g, off + j * 2 + 1, none⟩ = some (.string xs[j].2)) := hr
  clear hr
  go_enter Tryd.func61, Tryd.ntmps61
  go_wp2
  go_loopg [9] xs.length (fun n i wr => ∃ k : Nat, n + k = xs.length ∧ i = .int .i64 k ∧ Below w.heap.size w wr ∧ ∀ i (hi : i < xs.length), i < k → xs[i].1 ≠ nm)
  case atStart => exact ⟨0, by omega, rfl, Below.refl _ _, fun i hi hk => by omega⟩
  case round =>
    obtain ⟨k, hn, rfl, hbw, hne⟩ := hrel
    have HA : Hid (∀ i (hi : i < xs.length), i < k → xs[i].1 ≠ nm) := hne
    clear hne
    by_cases hk : k < xs.length
    · have hd : decide ((k : Int) < xs.length) = true := decide_eq_true (by omega)
      have hq := HR.out k hk
      have hc0 : wr.cell? ⟨g, off + k * 2, none⟩ = some (.string xs[k].1) := by rw [hbw.cell (p := ⟨g, off + k * 2, none⟩) hg]; exact hq.1
      have hc1 : wr.cell? ⟨g, off + k * 2 + 1, none⟩ = some (.string xs[k].2) := by rw [hbw.cell (p := ⟨g, off + k * 2 + 1, none⟩) hg]; exact hq.2
      clear hq
      have hlt := hbw.size
      by_cases he : xs[k].1 = nm
      · have HF : Hid (Mk.hasB xs nm = true) := Mk.hasB_true hk he
        have heb : (xs[k].1.toList == nm.toList) = true := Mk.beq_of_eq he
        clear he
        go_wp2
        go_ret
        exact ⟨by rw [HF.out]; rfl, hbw.alloc hbw.size _⟩
      · have heb : (xs[k].1.toList == nm.toList) = false := Mk.beq_of_ne he
        have HE : Hid (xs[k].1 ≠ nm) := he
        clear he
        go_wp2
        go_roundg (gk - 1)
        case measure => omega
        case rel =>
          refine ⟨k + 1, by omega, by go_num, hbw.alloc hbw.size _, fun i hi hl => ?_⟩
          by_cases e : i = k
          · subst e; exact HE.out
          · exact HA.out i hi (by omega)
    · have hd : decide ((k : Int) < xs.length) = false := decide_eq_false (by omega)
      have HT : Hid (Mk.hasB xs nm = false) := Mk.hasB_false fun i hi => HA.out i hi (by omega)
      go_wp2
      go_ret
      exact ⟨by rw [HT.out]; rfl, hbw⟩

set_option maxHeartbeats 1000000 in
theorem Tryd.has_nil (a : Option Addr) (c : Nat) (nm : ByteArray) (w : World) :
    Calls Tryd.prog 61 #[.slice a 0 c, .string nm] w fun e w' => e = .returned (.bool false) ∧ Below w.heap.size w w' := by
  go_enter Tryd.func61, Tryd.ntmps61
  go_wp2
  refine wp_loop_rounds 1 ?_
  rw [rounds_succ]
  go_wp2
  go_ret
  exact ⟨rfl, Below.refl _ _⟩

theorem Tryd.has_any (v : Value) (xs : List (ByteArray × ByteArray)) (nm : ByteArray) (w : World) (h : Mk.AttrsAt w v xs) (hlen : xs.length ≤ 1000000) :
    Calls Tryd.prog 61 #[v, .string nm] w fun e w' => e = .returned (.bool (Mk.hasB xs nm)) ∧ Below w.heap.size w w' := by
  rcases h with ⟨a, c, rfl, rfl⟩ | ⟨g, off, cap, rfl, hc, hg, hr⟩
  · exact Tryd.has_nil a c nm w
  · exact Tryd.has_some g off cap xs nm w hc hg hlen hr

end Go.Proofs
