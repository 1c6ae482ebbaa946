/-
  The contract of the statements' same: true of equal marks.
-/
import Derived.Test.YtjijfbcmhjcfaaaDoorLawRef
namespace Go.Proofs
open Go.RowKit
open Go.Proofs.Mk

set_option maxRecDepth 100000 in
set_option maxHeartbeats 4000000 in
theorem Tryd.same_some (kd a1 a2 : Int) (nm tx : ByteArray) (wh : Bool) (g off cap g' off' cap' : Nat) (xs : List (ByteArray × ByteArray)) (w : World) (hwh : wh = false ∨ a1 = a2) (_hcap : xs.length ≤ cap) (hg : g < w.heap.size) (_hcap' : xs.length ≤ cap') (hg' : g' < w.heap.size) (hlen : xs.length ≤ 1000000)
    (hr : ∀ j (h : j < xs.length), w.cell? ⟨g, off + j * 2, none⟩ = some (.string xs[j].1) ∧ w.cell? ⟨g, off + j * 2 + 1, none⟩ = some (.string xs[j].2))
    (hr' : ∀ j (h : j < xs.length), w.cell? ⟨g', off' + j * 2, none⟩ = some (.string xs[j].1) ∧ w.cell? ⟨g', off' + j * 2 + 1, none⟩ = some (.string xs[j].2)) :
    Calls Tryd.prog 14 #[.agg #[.int .i64 kd, .int .i64 a1, .string nm, .slice (some ⟨g, off, none⟩) xs.length cap, .string tx], .agg #[.int .i64 kd, .int .i64 a2, .string nm, .slice (some ⟨g', off', none⟩) xs.length cap', .string tx], .bool wh] w fun e w' => e = .returned (.bool true) ∧ Below w.heap.size w w' := by
  have HR : Hid (∀ j (h : j < xs.length), w.cell? ⟨g, off + j * 2, none⟩ = some (.string xs[j].1) ∧ w.cell? ⟨g, off + j * 2 + 1, none⟩ = some (.string xs[j].2)) := hr
  have HR' : Hid (∀ j (h : j < xs.length), w.cell? ⟨g', off' + j * 2, none⟩ = some (.string xs[j].1) ∧ w.cell? ⟨g', off' + j * 2 + 1, none⟩ = some (.string xs[j].2)) := hr'
  clear hr hr'
  have hwe : (wh && (a1 != a2)) = false := by
    rcases hwh with rfl | rfl
    · rfl
    · simp
  clear hwh
  cases wh
  · go_enter Tryd.func14, Tryd.ntmps14
    go_wp2
    go_loopg [49] xs.length (fun n i wr => ∃ k : Nat, n + k = xs.length ∧ i = .int .i64 k ∧ Below (w.heap.size + 2) ((w.alloc (.cells #[.int .i64 kd, .int .i64 a1, .string nm, .slice (some ⟨g, off, none⟩) xs.length cap, .string tx] 34)).alloc (.cells #[.int .i64 kd, .int .i64 a2, .string nm, .slice (some ⟨g', off', none⟩) xs.length cap', .string tx] 34)) wr)
    case atStart => exact ⟨0, by omega, rfl, Below.refl _ _⟩
    case round =>
      obtain ⟨k, hn, rfl, hbw⟩ := hrel
      have hB : Below w.heap.size w wr := (((Below.refl _ w).alloc (Nat.le_refl _) _).alloc (by simp) _).trans (hbw.mono (by omega))
      by_cases hk : k < xs.length
      · have hd : decide ((k : Int) < xs.length) = true := decide_eq_true (by omega)
        have hq := HR.out k hk
        have hq' := HR'.out k hk
        have h0 : wr.cell? ⟨g, off + k * 2, none⟩ = some (.string xs[k].1) := by rw [hB.cell (p := ⟨g, off + k * 2, none⟩) hg]; exact hq.1
        have h1 : wr.cell? ⟨g, off + k * 2 + 1, none⟩ = some (.string xs[k].2) := by rw [hB.cell (p := ⟨g, off + k * 2 + 1, none⟩) hg]; exact hq.2
        have h0' : wr.cell? ⟨g', off' + k * 2, none⟩ = some (.string xs[k].1) := by rw [hB.cell (p := ⟨g', off' + k * 2, none⟩) hg']; exact hq'.1
        have h1' : wr.cell? ⟨g', off' + k * 2 + 1, none⟩ = some (.string xs[k].2) := by rw [hB.cell (p := ⟨g', off' + k * 2 + 1, none⟩) hg']; exact hq'.2
        have hb0 : wr.cell? ⟨w.heap.size, 3, none⟩ = some (.slice (some ⟨g, off, none⟩) xs.length cap) := by
          rw [hbw.cell (p := ⟨w.heap.size, 3, none⟩) (by simp), World.cell?_of_block (w := w.alloc (.cells #[.int .i64 kd, .int .i64 a1, .string nm, .slice (some ⟨g, off, none⟩) xs.length cap, .string tx] 34)) (Lib.alloc_old _ _ _ (by simp))]
          have := heap_alloc_new w (.cells #[.int .i64 kd, .int .i64 a1, .string nm, .slice (some ⟨g, off, none⟩) xs.length cap, .string tx] 34)
          simp only [World.cell?, this]
          rfl
        have hb1 : wr.cell? ⟨w.heap.size + 1, 3, none⟩ = some (.slice (some ⟨g', off', none⟩) xs.length cap') := by
          rw [hbw.cell (p := ⟨w.heap.size + 1, 3, none⟩) (by simp)]
          have := heap_alloc_new (w.alloc (.cells #[.int .i64 kd, .int .i64 a1, .string nm, .slice (some ⟨g, off, none⟩) xs.length cap, .string tx] 34)) (.cells #[.int .i64 kd, .int .i64 a2, .string nm, .slice (some ⟨g', off', none⟩) xs.length cap', .string tx] 34)
          have hz : (w.alloc (.cells #[.int .i64 kd, .int .i64 a1, .string nm, .slice (some ⟨g, off, none⟩) xs.length cap, .string tx] 34)).heap.size = w.heap.size + 1 := by simp
          rw [hz] at this
          simp only [World.cell?, this]
          rfl
        clear hq hq'
        go_wp2
        go_quiet (fail)
        go_wp2
        go_roundg (gk - 1)
        case measure => omega
        case rel => exact ⟨k + 1, by omega, by go_num, Mk.below_drewN hbw _⟩
      · have hd : decide ((k : Int) < xs.length) = false := decide_eq_false (by omega)
        go_wp2
        go_ret
        exact ⟨rfl, hB⟩
  · have hne : (a1 != a2) = false := by simpa using hwe
    clear hwe
    go_enter Tryd.func14, Tryd.ntmps14
    go_wp2
    go_loopg [49] xs.length (fun n i wr => ∃ k : Nat, n + k = xs.length ∧ i = .int .i64 k ∧ Below (w.heap.size + 2) ((w.alloc (.cells #[.int .i64 kd, .int .i64 a1, .string nm, .slice (some ⟨g, off, none⟩) xs.length cap, .string tx] 34)).alloc (.cells #[.int .i64 kd, .int .i64 a2, .string nm, .slice (some ⟨g', off', none⟩) xs.length cap', .string tx] 34)) wr)
    case atStart => exact ⟨0, by omega, rfl, Below.refl _ _⟩
    case round =>
      obtain ⟨k, hn, rfl, hbw⟩ := hrel
      have hB : Below w.heap.size w wr := (((Below.refl _ w).alloc (Nat.le_refl _) _).alloc (by simp) _).trans (hbw.mono (by omega))
      by_cases hk : k < xs.length
      · have hd : decide ((k : Int) < xs.length) = true := decide_eq_true (by omega)
        have hq := HR.out k hk
        have hq' := HR'.out k hk
        have h0 : wr.cell? ⟨g, off + k * 2, none⟩ = some (.string xs[k].1) := by rw [hB.cell (p := ⟨g, off + k * 2, none⟩) hg]; exact hq.1
        have h1 : wr.cell? ⟨g, off + k * 2 + 1, none⟩ = some (.string xs[k].2) := by rw [hB.cell (p := ⟨g, off + k * 2 + 1, none⟩) hg]; exact hq.2
        have h0' : wr.cell? ⟨g', off' + k * 2, none⟩ = some (.string xs[k].1) := by rw [hB.cell (p := ⟨g', off' + k * 2, none⟩) hg']; exact hq'.1
        have h1' : wr.cell? ⟨g', off' + k * 2 + 1, none⟩ = some (.string xs[k].2) := by rw [hB.cell (p := ⟨g', off' + k * 2 + 1, none⟩) hg']; exact hq'.2
        have hb0 : wr.cell? ⟨w.heap.size, 3, none⟩ = some (.slice (some ⟨g, off, none⟩) xs.length cap) := by
          rw [hbw.cell (p := ⟨w.heap.size, 3, none⟩) (by simp), World.cell?_of_block (w := w.alloc (.cells #[.int .i64 kd, .int .i64 a1, .string nm, .slice (some ⟨g, off, none⟩) xs.length cap, .string tx] 34)) (Lib.alloc_old _ _ _ (by simp))]
          have := heap_alloc_new w (.cells #[.int .i64 kd, .int .i64 a1, .string nm, .slice (some ⟨g, off, none⟩) xs.length cap, .string tx] 34)
          simp only [World.cell?, this]
          rfl
        have hb1 : wr.cell? ⟨w.heap.size + 1, 3, none⟩ = some (.slice (some ⟨g', off', none⟩) xs.length cap') := by
          rw [hbw.cell (p := ⟨w.heap.size + 1, 3, none⟩) (by simp)]
          have := heap_alloc_new (w.alloc (.cells #[.int .i64 kd, .int .i64 a1, .string nm, .slice (some ⟨g, off, none⟩) xs.length cap, .string tx] 34)) (.cells #[.int .i64 kd, .int .i64 a2, .string nm, .slice (some ⟨g', off', none⟩) xs.length cap', .string tx] 34)
          have hz : (w.alloc (.cells #[.int .i64 kd, .int .i64 a1, .string nm, .slice (some ⟨g, off, none⟩) xs.length cap, .string tx] 34)).heap.size = w.heap.size + 1 := by simp
          rw [hz] at this
          simp only [World.cell?, this]
          rfl
        clear hq hq'
        go_wp2
        go_quiet (fail)
        go_wp2
        go_roundg (gk - 1)
        case measure => omega
        case rel => exact ⟨k + 1, by omega, by go_num, Mk.below_drewN hbw _⟩
      · have hd : decide ((k : Int) < xs.length) = false := decide_eq_false (by omega)
        go_wp2
        go_ret
        exact ⟨rfl, hB⟩

set_option maxRecDepth 100000 in
set_option maxHeartbeats 4000000 in
theorem Tryd.same_empty (kd a1 a2 : Int) (nm tx : ByteArray) (wh : Bool) (p p' : Option Addr) (c c' : Nat) (w : World) (hwh : wh = false ∨ a1 = a2) :
    Calls Tryd.prog 14 #[.agg #[.int .i64 kd, .int .i64 a1, .string nm, .slice p 0 c, .string tx], .agg #[.int .i64 kd, .int .i64 a2, .string nm, .slice p' 0 c', .string tx], .bool wh] w fun e w' => e = .returned (.bool true) ∧ Below w.heap.size w w' := by
  have hwe : (wh && (a1 != a2)) = false := by
    rcases hwh with rfl | rfl
    · rfl
    · simp
  clear hwh
  cases wh
  · go_enter Tryd.func14, Tryd.ntmps14
    go_wp2
    refine wp_loop_rounds 1 ?_
    rw [rounds_succ]
    go_wp2
    go_ret
    exact ⟨rfl, ((Below.refl _ w).alloc (Nat.le_refl _) _).alloc (by simp) _⟩
  · have hne : (a1 != a2) = false := by simpa using hwe
    clear hwe
    go_enter Tryd.func14, Tryd.ntmps14
    go_wp2
    refine wp_loop_rounds 1 ?_
    rw [rounds_succ]
    go_wp2
    go_ret
    exact ⟨rfl, ((Below.refl _ w).alloc (Nat.le_refl _) _).alloc (by simp) _⟩

theorem Tryd.same_any (kd a1 a2 : Int) (nm tx : ByteArray) (wh : Bool) (v v' : Value) (xs : List (ByteArray × ByteArray)) (w : World) (hwh : wh = false ∨ a1 = a2) (h : Mk.AttrsAt w v xs) (h' : Mk.AttrsAt w v' xs) (hlen : xs.length ≤ 1000000) :
    Calls Tryd.prog 14 #[.agg #[.int .i64 kd, .int .i64 a1, .string nm, v, .string tx], .agg #[.int .i64 kd, .int .i64 a2, .string nm, v', .string tx], .bool wh] w fun e w' => e = .returned (.bool true) ∧ Below w.heap.size w w' := by
  by_cases hx : xs = []
  · subst hx
    obtain ⟨p, c, rfl⟩ : ∃ p c, v = .slice p 0 c := by
      rcases h with ⟨_, _, rfl, _⟩ | ⟨g, off, cap, rfl, _⟩
      · exact ⟨_, _, rfl⟩
      · exact ⟨_, _, rfl⟩
    obtain ⟨p', c', rfl⟩ : ∃ p c, v' = .slice p 0 c := by
      rcases h' with ⟨_, _, rfl, _⟩ | ⟨g, off, cap, rfl, _⟩
      · exact ⟨_, _, rfl⟩
      · exact ⟨_, _, rfl⟩
    exact Tryd.same_empty kd a1 a2 nm tx wh p p' c c' w hwh
  · rcases h with ⟨_, _, _, e⟩ | ⟨g, off, cap, rfl, hc, hg, hr⟩
    · exact absurd e hx
    · rcases h' with ⟨_, _, _, e⟩ | ⟨g', off', cap', rfl, hc', hg', hr'⟩
      · exact absurd e hx
      · exact Tryd.same_some kd a1 a2 nm tx wh g off cap g' off' cap' xs w hwh hc hg hc' hg' hlen hr hr'

end Go.Proofs
