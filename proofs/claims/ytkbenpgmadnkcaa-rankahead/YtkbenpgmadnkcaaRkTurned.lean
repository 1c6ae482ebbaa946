/-
  The contracts of turned and Between.
-/
import Derived.Test.YtkbenpgmadnkcaaRkTake
namespace Go.Proofs
open Go.RowKit Go.Shelf

theorem Try.infoEdge : (Try.prog.info? 45).map (fun i => (i.zero, i.size, i.bytes)) = some (some (.agg #[.int .i64 0, .int .i64 0]), 2, 16) := by kernel_rfl
/-- A new row of edges. -/
def Rk.erow (n : Nat) : Array Value := madeCells #[.int .i64 0, .int .i64 0] (n * 2)
theorem Rk.make_edges (n : Nat) (hn : n ≤ 1000) (w : World) : (Instr.makeSlice 22 (.int .i64 (n : Int)) (.int .i64 (n : Int))).run Try.prog w = .ok (.slice (some ⟨w.heap.size, 0, none⟩) n n) (w.alloc (.cells (Rk.erow n) 45)) := by
  obtain ⟨i0, hi, hz0, hz1, hz2⟩ := info_parts Try.infoEdge
  have h := run_make (P := Try.prog) w 22 45 i0 _ Try.underlying22 hi hz0 .i64 .i64 n n (by omega) (by omega) (by rw [hz2]; omega) (by omega)
  rw [h, hz1]
  simp only [Int.toNat_natCast]
  rfl

/-- A row of edges being written: the first k stand. -/
def Rk.Rows (w : World) (g m k : Nat) (fs : List (Nat × Nat)) : Prop :=
  ∃ cs : Array Value, w.heap[g]? = some (.cells cs 45 (0, 0)) ∧ cs.size = m * 2 ∧ ∀ j (h : j < fs.length), j < k → cs[j * 2]? = some (.int .i64 (fs[j].1 : Int)) ∧ cs[j * 2 + 1]? = some (.int .i64 (fs[j].2 : Int))
theorem Rk.Rows.lt {w : World} {g m k : Nat} {fs : List (Nat × Nat)} (h : Rk.Rows w g m k fs) : g < w.heap.size := by
  obtain ⟨cs, h, _⟩ := h
  exact (Array.getElem?_eq_some_iff.1 h).1
theorem Rk.Rows.keep {w w' : World} {g m k : Nat} {fs : List (Nat × Nat)} (h : Rk.Rows w g m k fs) (hk : w'.heap[g]? = w.heap[g]?) : Rk.Rows w' g m k fs := by
  obtain ⟨cs, h, h2⟩ := h
  exact ⟨cs, by rw [hk]; exact h, h2⟩
theorem Rk.Rows.cell {w : World} {g m k : Nat} {fs : List (Nat × Nat)} (h : Rk.Rows w g m k fs) (j : Nat) (hj : j < m * 2) : (∃ v, w.cell? ⟨g, j, none⟩ = some v) ∧ w.frozen? ⟨g, j, none⟩ = false := by
  obtain ⟨cs, h, h2, _⟩ := h
  refine ⟨⟨cs[j]'(by omega), ?_⟩, by simp [World.frozen?, h]⟩
  simp only [World.cell?, h]
  simp [show j < cs.size by omega]

theorem Rk.Rows.put {w : World} {g m k x y : Nat} {fs : List (Nat × Nat)} (h : Rk.Rows w g m k fs) (hk : k < fs.length) (hkm : k < m) (he : fs[k] = (x, y)) :
    Rk.Rows ((w.setCell ⟨g, k * 2, none⟩ (.int .i64 (x : Int))).setCell ⟨g, k * 2 + 1, none⟩ (.int .i64 (y : Int))) g m (k + 1) fs := by
  obtain ⟨cs, h, h2, h3⟩ := h
  refine ⟨(cs.setIfInBounds (k * 2) (.int .i64 (x : Int))).setIfInBounds (k * 2 + 1) (.int .i64 (y : Int)), ?_, by simpa using h2, fun j hj hjk => ?_⟩
  · simp [World.setCell, Array.getElem?_modify, h]
  · by_cases e : j = k
    · subst e
      constructor
      · rw [Array.getElem?_setIfInBounds, if_neg (by omega), Array.getElem?_setIfInBounds, if_pos rfl, if_pos (by omega), he]
      · rw [Array.getElem?_setIfInBounds, if_pos rfl, if_pos (by simp; omega), he]
    · rw [Array.getElem?_setIfInBounds, if_neg (by omega), Array.getElem?_setIfInBounds, if_neg (by omega), Array.getElem?_setIfInBounds, if_neg (by omega), Array.getElem?_setIfInBounds, if_neg (by omega)]
      exact h3 j hj (by omega)
theorem Rk.Rows.eds {w : World} {g m B : Nat} {fs : List (Nat × Nat)} (h : Rk.Rows w g m m fs) (hl : fs.length = m) (hB : g < B) : Rk.Eds w B (some ⟨g, 0, none⟩) (Rk.up fs) := by
  obtain ⟨cs, h, h2, h3⟩ := h
  intro j hj
  rw [Rk.up_get]
  rw [Rk.up_length] at hj
  obtain ⟨q0, q1⟩ := h3 j hj (by omega)
  refine ⟨g, 0, rfl, hB, ?_, ?_⟩
  · rw [Nat.zero_add]; simp only [World.cell?, h]; exact q0
  · rw [Nat.zero_add]; simp only [World.cell?, h]; exact q1

set_option maxHeartbeats 4000000 in
theorem Try.turned_any (a : Option Addr) (c : Nat) (es : List (Nat × Nat)) (w : World) (hE : Rk.Eds w w.heap.size a (Rk.up es)) (hm : es.length ≤ 1000) :
    Calls Try.prog 32 #[.slice a es.length c] w fun e w' => e = .returned (.slice (some ⟨w.heap.size, 0, none⟩) es.length es.length) ∧ Rk.Rows w' w.heap.size es.length es.length (es.map fun e => (e.2, e.1)) ∧ Below w.heap.size w w' := by
  obtain ⟨m, hmm⟩ : ∃ m, es.length = m := ⟨_, rfl⟩
  rw [hmm] at hm ⊢
  have HE : Hid (Rk.Eds w w.heap.size a (Rk.up es) ∧ es.length = m) := ⟨hE, hmm⟩
  have hmk := Rk.make_edges m hm
  clear hE hmm
  go_enter Try.func32, Try.ntmps32
  go_wp2
  clear hmk
  go_loopg [11] m (fun gk s11 wr => ∃ k : Nat, gk + k = m ∧ s11 = .int .i64 k ∧ Hid (Rk.Rows wr w.heap.size m k (es.map fun e => (e.2, e.1)) ∧ Below w.heap.size w wr))
  case atStart =>
    refine ⟨0, by omega, rfl, ⟨Rk.erow m, heap_alloc_new w _, by simp [Rk.erow, size_madeCells], fun j _ h => by omega⟩, (Below.refl _ w).alloc (Nat.le_refl _) _⟩
  case round =>
    obtain ⟨k, hk, rfl, HB⟩ := hrel
    by_cases hlt : k < m
    · have hd : decide ((k : Int) < m) = true := decide_eq_true (by omega)
      have hlt' : (k : Int) < m := by omega
      have hkl : k < es.length := by rw [HE.out.2]; exact hlt
      obtain ⟨q, off, rfl, hq, h0, h1⟩ := HE.out.1 k (by rw [Rk.up_length]; exact hkl)
      obtain ⟨e, he⟩ : ∃ x, es[k] = x := ⟨_, rfl⟩
      obtain ⟨x, y⟩ := e
      rw [Rk.up_get, he] at h0 h1
      have hc0 : wr.cell? ⟨q, off + k * 2, none⟩ = some (.int .i64 x) := by rw [HB.out.2.cell (p := ⟨q, off + k * 2, none⟩) hq]; exact h0
      have hc1 : wr.cell? ⟨q, off + k * 2 + 1, none⟩ = some (.int .i64 y) := by rw [HB.out.2.cell (p := ⟨q, off + k * 2 + 1, none⟩) hq]; exact h1
      have HX : Hid (es[k] = (x, y)) := he
      have hz : w.heap.size < wr.heap.size := HB.out.1.lt
      have hqz : q < wr.heap.size := by omega
      have hu := Try.underlying45
      obtain ⟨⟨v0, k0⟩, f0⟩ := HB.out.1.cell (k * 2) (by omega)
      obtain ⟨⟨v1, k1⟩, f1⟩ := HB.out.1.cell (k * 2 + 1) (by omega)
      clear h0 h1 he
      go_wp2
      go_roundg (gk - 1)
      case measure => omega
      case rel =>
        refine ⟨k + 1, by omega, by go_num, ?_, ?_⟩
        · refine Rk.Rows.keep (HB.out.1.put (by simpa using hkl) hlt (by simp [HX.out])) (Below.heap_alloc _ _ _ (by simpa using hz))
        · exact ((HB.out.2.setCell (p := ⟨w.heap.size, k * 2, none⟩) (Nat.le_refl _) _).setCell (p := ⟨w.heap.size, k * 2 + 1, none⟩) (Nat.le_refl _) _).alloc (by simp; omega) _
    · have hd : decide ((k : Int) < m) = false := decide_eq_false (by omega)
      go_wp2
      go_ret
      obtain rfl : k = m := by omega
      exact ⟨rfl, HB.out.1, HB.out.2⟩

theorem Rk.enters_between : ∀ args w, (callFunc 33 args).run Try.prog w = .ok (.enter 33 args) w := enters_of Try.func33 (by kernel_rfl) rfl
set_option maxHeartbeats 2000000 in
theorem Rk.between_hold (b1 b2 g1 g2 n : Nat) (p q : Nat → Bool) (w : World) (h1 : b1 < w.heap.size) (h2 : b2 < w.heap.size) (hc1 : w.cell? ⟨b1, 0, none⟩ = some (.slice (some ⟨g1, 0, none⟩) n n)) (hc2 : w.cell? ⟨b2, 0, none⟩ = some (.slice (some ⟨g2, 0, none⟩) n n))
    (hb1 : Rk.Bits w g1 ((List.range n).map p)) (hb2 : Rk.Bits w g2 ((List.range n).map q)) : Rk.Hold 33 #[.pointer (some ⟨b1, 0, none⟩), .pointer (some ⟨b2, 0, none⟩)] (fun i => p i && q i) n w := by
  intro W i hi hW
  show Calls Try.prog 33 #[.int .i64 i, .pointer (some ⟨b1, 0, none⟩), .pointer (some ⟨b2, 0, none⟩)] W _
  have c0 : W.cell? ⟨b1, 0, none⟩ = some (.slice (some ⟨g1, 0, none⟩) n n) := (hW.cell (p := ⟨b1, 0, none⟩) h1).trans hc1
  have c1 : W.cell? ⟨b2, 0, none⟩ = some (.slice (some ⟨g2, 0, none⟩) n n) := (hW.cell (p := ⟨b2, 0, none⟩) h2).trans hc2
  have k0 : W.cell? ⟨g1, i, none⟩ = some (.bool (p i)) := (hb1.below hW hb1.lt).cell i (p i) (by simp [hi])
  have k1 : W.cell? ⟨g2, i, none⟩ = some (.bool (q i)) := (hb2.below hW hb2.lt).cell i (q i) (by simp [hi])
  have hi' : (i : Int) < n := by omega
  obtain ⟨x, hx⟩ : ∃ x, p i = x := ⟨_, rfl⟩
  obtain ⟨y, hy⟩ : ∃ x, q i = x := ⟨_, rfl⟩
  rw [hx] at k0
  rw [hy] at k1
  simp only [hx, hy]
  clear hc1 hc2 hb1 hb2 hW hx hy
  cases x
  · go_enter Try.func33, Try.ntmps33
    go_wp2
    go_ret
    exact ⟨rfl, Below.refl _ _⟩
  · go_enter Try.func33, Try.ntmps33
    go_wp2
    go_ret
    exact ⟨by simp, Below.refl _ _⟩

set_option maxHeartbeats 4000000 in
theorem Try.between_err (n x y err : Int) (a : Option Addr) (c : Nat) (rs : List (Int × Int)) (w : World) (hE : Rk.Eds w w.heap.size a rs) (hm : rs.length ≤ 1000000000000000) (he : Rk.chk n rs = err) (h0 : err ≠ 0) :
    Calls Try.prog 19 #[.int .i64 n, .slice a rs.length c, .int .i64 x, .int .i64 y] w fun e w' => e = .returned (.tuple #[.slice none 0 0, .int .i64 err]) ∧ Below w.heap.size w w' := by
  have H1 : Hid _ := Try.check_any n a c rs w hE hm
  rw [he] at H1
  have hd : (err == 0) = false := by simpa using h0
  obtain ⟨m, hmm⟩ : ∃ m, rs.length = m := ⟨_, rfl⟩
  rw [hmm] at H1 ⊢
  clear hE hm he hmm h0
  go_enter Try.func19, Try.ntmps19
  go_wp2_with fail
  refine Calls.mono H1.out ?_
  rintro e W1 ⟨rfl, hb⟩
  go_wp2
  go_ret2
  exact ⟨rfl, hb⟩

set_option maxHeartbeats 4000000 in
theorem Try.between_none (n x y : Int) (a : Option Addr) (c : Nat) (rs : List (Int × Int)) (w : World) (hE : Rk.Eds w w.heap.size a rs) (hm : rs.length ≤ 1000000000000000) (he : Rk.chk n rs = 0) (h0 : (Rk.inB n x && Rk.inB n y) = false) :
    Calls Try.prog 19 #[.int .i64 n, .slice a rs.length c, .int .i64 x, .int .i64 y] w fun e w' => e = .returned (.tuple #[.slice none 0 0, .int .i64 6]) ∧ Below w.heap.size w w' := by
  have H1 : Hid _ := Try.check_any n a c rs w hE hm
  rw [he] at H1
  obtain ⟨m, hmm⟩ : ∃ m, rs.length = m := ⟨_, rfl⟩
  rw [hmm] at H1 ⊢
  obtain ⟨p, hp⟩ : ∃ p, Rk.inB n x = p := ⟨_, rfl⟩
  obtain ⟨q, hq⟩ : ∃ p, Rk.inB n y = p := ⟨_, rfl⟩
  have HP : Hid ((decide (0 ≤ x) && decide (x < n)) = p) := hp
  have HQ : Hid ((decide (0 ≤ y) && decide (y < n)) = q) := hq
  rw [hp, hq] at h0
  clear hE hm he hmm hp hq
  cases p
  · go_enter Try.func19, Try.ntmps19
    go_wp2_with fail
    refine Calls.mono H1.out ?_
    rintro e W1 ⟨rfl, hb⟩
    go_wp2_with fail
    refine (Try.within_any n x _).mono ?_
    rintro e W2 ⟨rfl, rfl⟩
    rw [HP.out]
    go_wp2
    go_ret2
    exact ⟨rfl, hb⟩
  · cases q
    · go_enter Try.func19, Try.ntmps19
      go_wp2_with fail
      refine Calls.mono H1.out ?_
      rintro e W1 ⟨rfl, hb⟩
      go_wp2_with fail
      refine (Try.within_any n x _).mono ?_
      rintro e W2 ⟨rfl, rfl⟩
      rw [HP.out]
      go_wp2_with fail
      refine (Try.within_any n y _).mono ?_
      rintro e W2 ⟨rfl, rfl⟩
      rw [HQ.out]
      go_wp2
      go_ret2
      exact ⟨rfl, hb⟩
    · simp at h0

end Go.Proofs
