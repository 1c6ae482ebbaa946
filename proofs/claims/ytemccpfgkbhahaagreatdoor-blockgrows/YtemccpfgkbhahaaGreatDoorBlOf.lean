/-
  slices.Index and Contains of whole numbers; block.isOf and isEnd.
-/
import Derived.Test.YtemccpfgkbhahaaGreatDoorBlModel
import Derived.Test.YtemccpfgkbhahaaGreatDoorNtModel
import Derived.Lib.Hide
import Derived.Deep.DeepCutAuto
namespace Go.Proofs
open Go.RowKit

/-- Whole numbers in memory. -/
def Bk.Nums (w : World) (B : Nat) (a : Option Addr) (xs : List Int) : Prop := ∀ j (h : j < xs.length), ∃ g off, a = some ⟨g, off, none⟩ ∧ g < B ∧ w.cell? ⟨g, off + j, none⟩ = some (.int .i64 xs[j])
theorem Bk.Nums.below {w w' : World} {B : Nat} {a : Option Addr} {xs : List Int} (h : Bk.Nums w B a xs) (hb : Below B w w') : Bk.Nums w' B a xs := fun j hj => by
  obtain ⟨g, off, h1, h2, h3⟩ := h j hj
  exact ⟨g, off, h1, h2, by rw [hb.cell (p := ⟨g, off + j, none⟩) h2]; exact h3⟩

set_option maxRecDepth 20000 in
set_option maxHeartbeats 2000000 in
theorem Tryz.indexInt_any (xs : List Int) (x : Int) (a : Option Addr) (c B : Nat) (w : World) (hX : Bk.Nums w B a xs) (hl : xs.length ≤ 2147483647) :
    Calls Tryz.prog 58 #[.slice a xs.length c, .int .i64 x] w fun e w' => (∃ k : Int, e = .returned (.int .i64 k) ∧ decide (0 ≤ k) = decide (x ∈ xs)) ∧ w' = w := by
  obtain ⟨n, hn⟩ : ∃ n, xs.length = n := ⟨_, rfl⟩
  rw [hn] at hl ⊢
  have HX : Hid (Bk.Nums w B a xs ∧ xs.length = n) := ⟨hX, hn⟩
  clear hX hn
  go_enter Tryz.func58, Tryz.ntmps58
  go_wp2
  go_loopg [5, 8] n (fun gk _ s8 wr => ∃ k : Nat, gk + k = n ∧ s8 = .int .i64 k ∧ wr = w ∧ Hid (x ∉ xs.take k))
  case atStart => exact ⟨0, by omega, rfl, rfl, by show ¬ _; simp⟩
  case round =>
    obtain ⟨k, hk, rfl, hw, HB⟩ := hrel
    subst hw
    by_cases hlt : k < n
    · have hd : decide ((k : Int) < n) = true := decide_eq_true (by omega)
      have hkl : k < xs.length := by rw [HX.out.2]; exact hlt
      obtain ⟨q, off, rfl, hq, h0⟩ := HX.out.1 k hkl
      obtain ⟨y, hy⟩ : ∃ y, xs[k] = y := ⟨_, rfl⟩
      rw [hy] at h0
      have HY : Hid (xs[k] = y) := hy
      clear hy hq
      by_cases hxy : x = y
      · have he : (x == y) = true := by simpa using hxy
        have HE : Hid (x = y) := hxy
        clear hxy
        go_wp2
        go_ret
        refine ⟨⟨k, rfl, ?_⟩, rfl⟩
        rw [decide_eq_true (by omega)]
        exact (decide_eq_true (by rw [HE.out, ← HY.out]; exact List.getElem_mem hkl)).symm
      · have he : (x == y) = false := by simpa using hxy
        have HE : Hid (¬ x = y) := hxy
        clear hxy
        go_wp2
        go_roundg (gk - 1)
        case measure => omega
        case rel =>
          refine ⟨k + 1, by omega, by go_num, rfl, ?_⟩
          show ¬ _
          rw [Bl.take_snoc _ _ hkl, HY.out, List.mem_append, List.mem_singleton]
          intro h
          exact h.elim HB.out HE.out
    · have hd : decide ((k : Int) < n) = false := decide_eq_false (by omega)
      have hall : xs.take k = xs := List.take_of_length_le (by rw [HX.out.2]; omega)
      go_wp2
      go_ret
      refine ⟨⟨-1, rfl, ?_⟩, rfl⟩
      have h := HB.out
      rw [hall] at h
      rw [decide_eq_false h]
      rfl

set_option maxHeartbeats 2000000 in
theorem Tryz.containsInt_any (xs : List Int) (x : Int) (a : Option Addr) (c B : Nat) (w : World) (hX : Bk.Nums w B a xs) (hl : xs.length ≤ 2147483647) :
    Calls Tryz.prog 45 #[.slice a xs.length c, .int .i64 x] w fun e w' => e = .returned (.bool (decide (x ∈ xs))) ∧ w' = w := by
  have HC : Hid _ := Tryz.indexInt_any xs x a c B w hX hl
  obtain ⟨q, hq⟩ : ∃ q, decide (x ∈ xs) = q := ⟨_, rfl⟩
  rw [hq] at HC ⊢
  clear hX hq
  go_enter Tryz.func45, Tryz.ntmps45
  go_wp2_with fail
  refine Calls.mono HC.out ?_
  rintro e W1 ⟨⟨k, rfl, hk⟩, hb⟩
  have HB : Hid (W1 = w) := hb
  have HK : Hid (decide (0 ≤ k) = q) := hk
  clear hb hk HC
  go_wp2
  go_ret
  exact ⟨Tk.ret_bool HK.out, HB.out⟩

/-- Is i a node of one of these kinds? -/
def Nt.ofKinds (ns : List Nd) (i : Int) (xs : List Int) : Bool := decide (0 ≤ i) && (match ns[i.toNat]? with | some x => decide (x.kind ∈ xs) | none => false)

set_option maxRecDepth 20000 in
set_option maxHeartbeats 2000000 in
theorem Tryz.bisOf_any (i : Int) (xs : List Int) (a : Option Addr) (c : Nat) (an : Option Addr) (cn : Nat) (af : Option Addr) (m cf B d : Nat) (ns : List Nd) (w : World) (hN : Nt.Nds w B d an ns) (hX : Bk.Nums w B a xs) (hB : B ≤ w.heap.size) (hl : xs.length ≤ 2147483647) :
    Calls Tryz.prog 25 #[.agg #[.slice an ns.length cn, .slice af m cf], .int .i64 i, .slice a xs.length c] w fun e w' => e = .returned (.bool (Nt.ofKinds ns i xs)) ∧ Below w.heap.size w w' := by
  obtain ⟨n, hn⟩ : ∃ n, ns.length = n := ⟨_, rfl⟩
  obtain ⟨k, hk⟩ : ∃ n, xs.length = n := ⟨_, rfl⟩
  obtain ⟨W0, hW0⟩ : ∃ z, w.alloc (.cells #[.slice an n cn, .slice af m cf] 25) = z := ⟨_, rfl⟩
  have A0 : Below w.heap.size w W0 := by rw [← hW0]; exact (Below.refl _ w).alloc (Nat.le_refl _) _
  have G0 : W0.heap[w.heap.size]? = some (.cells #[.slice an n cn, .slice af m cf] 25 (0, 0)) := by rw [← hW0]; exact heap_alloc_new w _
  have c0 : W0.cell? ⟨w.heap.size, 0, none⟩ = some (.slice an n cn) := by simp [World.cell?, G0]
  have HA : Hid (Below w.heap.size w W0) := A0
  have HW0 : Hid _ := hW0
  rw [hn, hk]
  by_cases h0 : 0 ≤ i
  · have e0 : decide (0 ≤ i) = true := decide_eq_true h0
    obtain ⟨j, rfl⟩ : ∃ j : Nat, i = j := ⟨i.toNat, by omega⟩
    by_cases h1 : j < n
    · have e1 : decide ((j : Int) < n) = true := decide_eq_true (by omega)
      have hjl : j < ns.length := by omega
      obtain ⟨g, off, u, rfl, hg, p0, -⟩ := hN j hjl
      have q0 : W0.cell? ⟨g, off + j * 5, none⟩ = some (.int .i64 ns[j].kind) := by rw [A0.cell (p := ⟨g, off + j * 5, none⟩) (by show g < _; omega)]; exact p0
      have hR : Nt.ofKinds ns (j : Int) xs = decide (ns[j].kind ∈ xs) := by
        unfold Nt.ofKinds
        rw [e0, Int.toNat_natCast, List.getElem?_eq_getElem hjl]
        rfl
      rw [hR]
      obtain ⟨y, hy⟩ : ∃ y, ns[j].kind = y := ⟨_, rfl⟩
      rw [hy] at q0 ⊢
      have HC := Tryz.containsInt_any xs y a c B W0 (hX.below (A0.mono hB)) hl
      rw [hk] at HC
      obtain ⟨q, hq⟩ : ∃ q, decide (y ∈ xs) = q := ⟨_, rfl⟩
      rw [hq] at HC ⊢
      have HC' : Hid _ := HC
      clear HC hq hy p0 hR hN hX hW0 hn hk G0 A0 hjl h0
      go_enter Tryz.func25, Tryz.ntmps25
      go_upto_region 1 with fail
      rw [HW0.out]
      go_wp2_with fail
      refine Calls.mono HC'.out ?_
      rintro e W1 ⟨rfl, hw1⟩
      have HB1 : Hid (Below w.heap.size w W1) := by show Below _ _ _; rw [hw1]; exact HA.out
      clear HC' hw1
      go_wp2
      go_ret
      exact ⟨rfl, HB1.out⟩
    · have e1 : decide ((j : Int) < n) = false := decide_eq_false (by omega)
      have hR : Nt.ofKinds ns (j : Int) xs = false := by
        unfold Nt.ofKinds
        rw [Int.toNat_natCast, List.getElem?_eq_none (by omega)]
        simp
      rw [hR]
      clear hR hN hX hW0 hn hk G0 A0 h0
      go_enter Tryz.func25, Tryz.ntmps25
      go_upto_region 1 with fail
      rw [HW0.out]
      go_wp2
      go_ret
      exact ⟨rfl, HA.out⟩
  · have e0 : decide (0 ≤ i) = false := decide_eq_false h0
    have hR : Nt.ofKinds ns i xs = false := by unfold Nt.ofKinds; rw [e0]; rfl
    rw [hR]
    clear hR hN hX hW0 hn hk G0 A0 h0
    go_enter Tryz.func25, Tryz.ntmps25
    go_upto_region 1 with fail
    rw [HW0.out]
    go_wp2
    go_ret
    exact ⟨rfl, HA.out⟩

/-- May a link of a web with n kids begin or end there? -/
def Bl.endB (n : Nat) (i : Int) : Bool := decide (-1 ≤ i ∧ i < n)

set_option maxRecDepth 20000 in
set_option maxHeartbeats 2000000 in
theorem Tryz.isEnd_any (i : Int) (k n r : Int) (a : Option Addr) (len c : Nat) (al : Option Addr) (nl cl : Nat) (w : World) :
    Calls Tryz.prog 65 #[.agg #[.int .i64 k, .int .i64 n, .int .i64 r, .slice a len c, .slice al nl cl], .int .i64 i] w fun e w' => e = .returned (.bool (Bl.endB len i)) ∧ Below w.heap.size w w' := by
  have B0 : Hid (Below w.heap.size w (w.alloc (.cells #[.int .i64 k, .int .i64 n, .int .i64 r, .slice a len c, .slice al nl cl] 29))) := (Below.refl _ w).alloc (Nat.le_refl _) _
  obtain ⟨e0, e1, hR⟩ | ⟨e0, e1, hR⟩ | ⟨e0, hR⟩ : (decide (-1 ≤ i) = true ∧ decide (i < len) = true ∧ Bl.endB len i = true) ∨ (decide (-1 ≤ i) = true ∧ decide (i < len) = false ∧ Bl.endB len i = false) ∨ (decide (-1 ≤ i) = false ∧ Bl.endB len i = false) := by
    unfold Bl.endB; simp; omega
  all_goals
    rw [hR]
    clear hR
    go_enter Tryz.func65, Tryz.ntmps65
    go_wp2
    go_ret
    exact ⟨rfl, B0.out⟩

end Go.Proofs
