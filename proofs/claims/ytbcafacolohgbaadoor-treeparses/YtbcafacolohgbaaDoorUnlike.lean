/-
  The contract of unlike: not too many attributes, and no two of one name.
-/
import Derived.Test.YtbcafacolohgbaaDoorRText
namespace Go.Proofs
open Go.RowKit
open Go.Proofs.Mk

/-- A slice of attributes, as it lies in memory. -/
def Mk.AttrsAt (w : World) (v : Value) (xs : List (ByteArray × ByteArray)) : Prop :=
  (∃ a c, v = .slice a 0 c ∧ xs = []) ∨ ∃ g off cap, v = .slice (some ⟨g, off, none⟩) xs.length cap ∧ xs.length ≤ cap ∧ g < w.heap.size ∧
    ∀ j (h : j < xs.length), w.cell? ⟨g, off + j * 2, none⟩ = some (.string xs[j].1) ∧ w.cell? ⟨g, off + j * 2 + 1, none⟩ = some (.string xs[j].2)

theorem Mk.AttrsAt.below {w w' : World} {v : Value} {xs : List (ByteArray × ByteArray)} (h : Mk.AttrsAt w v xs) (hb : Below w.heap.size w w') : Mk.AttrsAt w' v xs := by
  rcases h with h | ⟨g, off, cap, hv, hc, hg, hr⟩
  · exact .inl h
  · refine .inr ⟨g, off, cap, hv, hc, Nat.lt_of_lt_of_le hg hb.size, fun j hj => ?_⟩
    rw [hb.cell (p := ⟨g, off + j * 2, none⟩) hg, hb.cell (p := ⟨g, off + j * 2 + 1, none⟩) hg]
    exact hr j hj

/-- No two names alike among the first k. -/
def Mk.Apart (xs : List (ByteArray × ByteArray)) (k : Nat) : Prop := ∀ i j (hi : i < xs.length) (_ : i < k) (hj : j < i), xs[i].1 ≠ (xs[j]'(by omega)).1
/-- unlike. -/
def Mk.unlikeB (xs : List (ByteArray × ByteArray)) : Bool := decide (xs.length ≤ 64) && decide ((xs.map (·.1)).Nodup)

theorem Mk.nodup_of_apart : ∀ (xs : List (ByteArray × ByteArray)), Mk.Apart xs xs.length → (xs.map (·.1)).Nodup := by
  intro xs h
  rw [List.nodup_iff_pairwise_ne, List.pairwise_iff_getElem]
  intro i j hi hj hij
  simp only [List.length_map] at hi hj
  simp only [List.getElem_map]
  exact Ne.symm (h j i hj hj hij)
theorem Mk.not_nodup {xs : List (ByteArray × ByteArray)} {i j : Nat} (hi : i < xs.length) (hj : j < i) (he : xs[i].1 = (xs[j]'(by omega)).1) : ¬ (xs.map (·.1)).Nodup := by
  intro h
  rw [List.nodup_iff_pairwise_ne, List.pairwise_iff_getElem] at h
  have := h j i (by simp; omega) (by simp; omega) hj
  simp only [List.getElem_map] at this
  exact this he.symm

theorem Mk.str_ext {a c : ByteArray} (h : a.toList = c.toList) : a = c := by
  rw [Lib.toList_data, Lib.toList_data] at h
  obtain ⟨⟨x⟩⟩ := a
  obtain ⟨⟨y⟩⟩ := c
  simp only at h
  rw [h]
theorem Mk.beq_of_eq {a c : ByteArray} (h : a = c) : (a.toList == c.toList) = true := by rw [h]; exact beq_self_eq_true _
theorem Mk.beq_of_ne {a c : ByteArray} (h : a ≠ c) : (a.toList == c.toList) = false := beq_eq_false_iff_ne.2 fun e => h (Mk.str_ext e)

set_option maxHeartbeats 2000000 in
theorem Tryd.unlike_some (g off cap : Nat) (xs : List (ByteArray × ByteArray)) (w : World) (hcap : xs.length ≤ cap) (hg : g < w.heap.size) (hlen : xs.length ≤ 64)
    (hr : ∀ j (h : j < xs.length), w.cell? ⟨g, off + j * 2, none⟩ = some (.string xs[j].1) ∧ w.cell? ⟨g, off + j * 2 + 1, none⟩ = some (.string xs[j].2)) :
    Calls Tryd.prog 75 #[.slice (some ⟨g, off, none⟩) xs.length cap] w fun e w' => e = .returned (.bool (Mk.unlikeB xs)) ∧ Below w.heap.size w w' := by
  have HR : Hid (∀ j (h : j < xs.length), w.cell? ⟨g, off + j * 2, none⟩ = some (.string xs[j].1) ∧ w.cell? ⟨g, off + j * 2 + 1, none⟩ = some (.string xs[j].2)) := hr
  have h64 : decide ((64 : Int) < xs.length) = false := decide_eq_false (by omega)
  clear hr
  go_enter Tryd.func75, Tryd.ntmps75
  go_wp2
  go_loopg [12] xs.length (fun n i wr => ∃ k : Nat, n + k = xs.length ∧ i = .int .i64 k ∧ Below w.heap.size w wr ∧ Mk.Apart xs k)
  case atStart => exact ⟨0, by omega, rfl, Below.refl _ _, fun i j hi hk => by omega⟩
  case round =>
    obtain ⟨k, hn, rfl, hbw, hap⟩ := hrel
    have HA : Hid (Mk.Apart xs k) := hap
    clear hap
    by_cases hk : k < xs.length
    · have hd : decide ((k : Int) < xs.length) = true := decide_eq_true (by omega)
      have hq := HR.out k hk
      have hc0 : wr.cell? ⟨g, off + k * 2, none⟩ = some (.string xs[k].1) := by rw [hbw.cell (p := ⟨g, off + k * 2, none⟩) hg]; exact hq.1
      have hc1 : wr.cell? ⟨g, off + k * 2 + 1, none⟩ = some (.string xs[k].2) := by rw [hbw.cell (p := ⟨g, off + k * 2 + 1, none⟩) hg]; exact hq.2
      clear hq
      have hlt := hbw.size
      obtain ⟨wo, rfl⟩ : ∃ wo : World, wo = wr := ⟨_, rfl⟩
      obtain ⟨go, rfl⟩ : ∃ go : Nat, go = gk := ⟨_, rfl⟩
      go_wp2
      go_loopg [21] k (fun n i wi => ∃ j : Nat, n + j = k ∧ i = .int .i64 j ∧ Below (wo.heap.size + 1) (wo.alloc (.cells #[.string xs[k].1, .string xs[k].2] 54)) wi ∧ ∀ i (hi : i < j) (hl : i < xs.length), xs[k].1 ≠ xs[i].1)
      case atStart => exact ⟨0, by omega, rfl, Below.refl _ _, fun i hi => by omega⟩
      case round =>
        obtain ⟨j, hnj, rfl, hbi, hne⟩ := hrel
        have HNE : Hid (∀ i (hi : i < j) (hl : i < xs.length), xs[k].1 ≠ xs[i].1) := hne
        clear hne
        have hzi : wo.heap.size + 1 ≤ wr.heap.size := by have := hbi.size; simpa using this
        have hzl : wo.heap.size < wr.heap.size := by omega
        have hbo : Below w.heap.size w wr := (hbw.alloc hbw.size (.cells #[.string xs[k].1, .string xs[k].2] 54)).trans (hbi.mono (by omega))
        have hca : wr.cell? ⟨wo.heap.size, 0, none⟩ = some (.string xs[k].1) := by
          rw [hbi.cell (p := ⟨wo.heap.size, 0, none⟩) (by simp)]
          simp
        by_cases hj : j < k
        · have hd2 : decide ((j : Int) < k) = true := decide_eq_true (by omega)
          have hq := HR.out j (by omega)
          have hj0 : wr.cell? ⟨g, off + j * 2, none⟩ = some (.string xs[j].1) := by rw [hbo.cell (p := ⟨g, off + j * 2, none⟩) hg]; exact hq.1
          have hj1 : wr.cell? ⟨g, off + j * 2 + 1, none⟩ = some (.string xs[j].2) := by rw [hbo.cell (p := ⟨g, off + j * 2 + 1, none⟩) hg]; exact hq.2
          clear hq
          by_cases he : xs[k].1 = xs[j].1
          · have HF : Hid (Mk.unlikeB xs = false) := by
              show _ = _
              simp only [Mk.unlikeB, Bool.and_eq_false_iff, decide_eq_false_iff_not]
              exact .inr (Mk.not_nodup hk hj he)
            have heb : (xs[k].1.toList == xs[j].1.toList) = true := Mk.beq_of_eq he
            clear he
            go_wp2
            go_ret
            exact ⟨by rw [HF.out]; rfl, hbo.alloc hbo.size _⟩
          · have heb : (xs[k].1.toList == xs[j].1.toList) = false := Mk.beq_of_ne he
            have HE : Hid (xs[k].1 ≠ xs[j].1) := he
            clear he
            go_wp2
            go_roundg (gk - 1)
            case measure => omega
            case rel =>
              refine ⟨j + 1, by omega, by go_num, hbi.alloc (by omega) _, fun i hi hl => ?_⟩
              by_cases e : i = j
              · subst e; exact HE.out
              · exact HNE.out i (by omega) hl
        · have hd2 : decide ((j : Int) < k) = false := decide_eq_false (by omega)
          go_wp2
          go_roundg (go - 1)
          case measure => omega
          case rel =>
            refine ⟨k + 1, by omega, by go_num, hbo, fun i l hi hk1 hl => ?_⟩
            by_cases e : i = k
            · subst e; exact HNE.out l (by omega) (by omega)
            · exact HA.out i l hi (by omega) hl
    · have hd : decide ((k : Int) < xs.length) = false := decide_eq_false (by omega)
      have HT : Hid (Mk.unlikeB xs = true) := by
        show _ = _
        simp only [Mk.unlikeB, Bool.and_eq_true, decide_eq_true_eq]
        exact ⟨hlen, Mk.nodup_of_apart xs (fun i j hi _ hj => HA.out i j hi (by omega) hj)⟩
      go_wp2
      go_ret
      exact ⟨by rw [HT.out]; rfl, hbw⟩

set_option maxHeartbeats 1000000 in
theorem Tryd.unlike_nil (a : Option Addr) (c : Nat) (w : World) :
    Calls Tryd.prog 75 #[.slice a 0 c] w fun e w' => e = .returned (.bool true) ∧ Below w.heap.size w w' := by
  go_enter Tryd.func75, Tryd.ntmps75
  go_wp2
  refine wp_loop_rounds 1 ?_
  rw [rounds_succ]
  go_wp2
  go_ret
  exact ⟨rfl, Below.refl _ _⟩

set_option maxHeartbeats 1000000 in
theorem Tryd.unlike_many (a : Option Addr) (n cap : Nat) (w : World) (h : 64 < n) :
    Calls Tryd.prog 75 #[.slice a n cap] w fun e w' => e = .returned (.bool false) ∧ Below w.heap.size w w' := by
  have h64 : decide ((64 : Int) < n) = true := decide_eq_true (by omega)
  go_enter Tryd.func75, Tryd.ntmps75
  go_wp2
  go_ret
  exact ⟨rfl, Below.refl _ _⟩

theorem Tryd.unlike_any (v : Value) (xs : List (ByteArray × ByteArray)) (w : World) (h : Mk.AttrsAt w v xs) :
    Calls Tryd.prog 75 #[v] w fun e w' => e = .returned (.bool (Mk.unlikeB xs)) ∧ Below w.heap.size w w' := by
  rcases h with ⟨a, c, rfl, rfl⟩ | ⟨g, off, cap, rfl, hc, hg, hr⟩
  · exact Tryd.unlike_nil a c w
  · by_cases h64 : xs.length ≤ 64
    · exact Tryd.unlike_some g off cap xs w hc hg h64 hr
    · have : Mk.unlikeB xs = false := by simp [Mk.unlikeB, h64]
      rw [this]
      exact Tryd.unlike_many _ _ _ w (by omega)

end Go.Proofs
