/-
  The document's office in memory: a list of boxes; At.
-/
import Derived.Test.YtdclfmmmlicaaaaPsPut
import Derived.Deep.AppendLies
namespace Go.Proofs
open Go.RowKit Go.Shelf Go.Maps

def Ps.cell5 (p : Int × Bx) : List Value := [.int .i64 p.1, .int .i64 p.2.1, .int .i64 p.2.2.1, .int .i64 p.2.2.2.1, .int .i64 p.2.2.2.2]
def Ps.cells (M : Ps.Ofc) : List Value := M.flatMap Ps.cell5
theorem Ps.cells_cons (p : Int × Bx) (M : Ps.Ofc) : Ps.cells (p :: M) = Ps.cell5 p ++ Ps.cells M := by simp [Ps.cells]
theorem Ps.cells_append (M N : Ps.Ofc) : Ps.cells (M ++ N) = Ps.cells M ++ Ps.cells N := by simp [Ps.cells]
theorem Ps.cells_length : ∀ M : Ps.Ofc, (Ps.cells M).length = M.length * 5
  | [] => rfl
  | p :: M => by
    rw [Ps.cells_cons, List.length_append, Ps.cells_length M, List.length_cons]
    simp [Ps.cell5]
    omega
theorem Ps.cells_at : ∀ (M : Ps.Ofc) (i j : Nat) (h : i < M.length), j < 5 → (Ps.cells M)[i * 5 + j]? = (Ps.cell5 M[i])[j]?
  | [], i, j, h, _ => by simp at h
  | p :: M, 0, j, _, hj => by
    rw [Ps.cells_cons, List.getElem?_append_left (by simp [Ps.cell5]; omega)]
    simp
  | p :: M, i + 1, j, h, hj => by
    rw [Ps.cells_cons, List.getElem?_append_right (by simp [Ps.cell5]; omega)]
    have e : (i + 1) * 5 + j - (Ps.cell5 p).length = i * 5 + j := by simp [Ps.cell5]; omega
    rw [e, Ps.cells_at M i j (by simpa using h) hj]
    simp
theorem Ps.cells_take : ∀ (M : Ps.Ofc) (i : Nat), Ps.cells (M.take i) = (Ps.cells M).take (i * 5)
  | [], i => by simp [Ps.cells]
  | p :: M, 0 => by simp [Ps.cells]
  | p :: M, i + 1 => by
    rw [List.take_succ_cons, Ps.cells_cons, Ps.cells_cons, Ps.cells_take M i, List.take_append]
    have e : (Ps.cell5 p).length = 5 := rfl
    have e1 : (Ps.cell5 p).take ((i + 1) * 5) = Ps.cell5 p := List.take_of_length_le (by rw [e]; omega)
    have e2 : (i + 1) * 5 - 5 = i * 5 := by omega
    rw [e, e1, e2]
theorem Ps.cells_drop : ∀ (M : Ps.Ofc) (i : Nat), Ps.cells (M.drop i) = (Ps.cells M).drop (i * 5)
  | [], i => by simp [Ps.cells]
  | p :: M, 0 => by simp
  | p :: M, i + 1 => by
    rw [List.drop_succ_cons, Ps.cells_cons, Ps.cells_drop M i, List.drop_append]
    have e : (Ps.cell5 p).length = 5 := rfl
    have e1 : (Ps.cell5 p).drop ((i + 1) * 5) = [] := List.drop_eq_nil_of_le (by rw [e]; omega)
    have e2 : (i + 1) * 5 - 5 = i * 5 := by omega
    rw [e, e1, e2, List.nil_append]
theorem Ps.oneCell (M : Ps.Ofc) : ∀ u ∈ Ps.cells M, u.oneCell' = true := by
  intro u hu
  simp only [Ps.cells, List.mem_flatMap] at hu
  obtain ⟨p, _, hu⟩ := hu
  simp only [Ps.cell5, List.mem_cons, List.not_mem_nil, or_false] at hu
  rcases hu with rfl | rfl | rfl | rfl | rfl <;> rfl

/-- An office of the document. -/
def Ps.Dc (B q : Nat) (v : Value) (M : Ps.Ofc) (w : World) : Prop :=
  w.heap[q]? = some (.cells #[v] 29 (0, 0)) ∧ w.ownsRow B 38 5 v M.length (Ps.cells M)
theorem Ps.Dc.lt {B q : Nat} {v : Value} {M : Ps.Ofc} {w : World} (h : Ps.Dc B q v M w) : q < w.heap.size := (Array.getElem?_eq_some_iff.1 h.1).1
theorem Ps.Dc.row {B q : Nat} {v : Value} {M : Ps.Ofc} {w : World} (h : Ps.Dc B q v M w) {g : Nat} (hg : v.ownBlock = some g) : g < w.heap.size ∧ B ≤ g ∧ g ≠ q := by
  obtain ⟨h1, h2, ⟨rfl, _⟩ | ⟨g', cap, cur, rfl, h3, h4, _⟩⟩ := h
  · simp [Value.ownBlock] at hg
  · simp only [Value.ownBlock, Option.some.injEq] at hg
    subst hg
    refine ⟨(Array.getElem?_eq_some_iff.1 h4).1, h3, fun e => ?_⟩
    rw [e, h1] at h4
    simp at h4
theorem Ps.Dc.keep {B q : Nat} {v : Value} {M : Ps.Ofc} {w w' : World} (h : Ps.Dc B q v M w) (h1 : w'.heap[q]? = w.heap[q]?) (h2 : ∀ g, v.ownBlock = some g → w'.heap[g]? = w.heap[g]?) : Ps.Dc B q v M w' := by
  refine ⟨h1.trans h.1, h.2.1, ?_⟩
  rcases h.2.2 with ⟨rfl, hn⟩ | ⟨g, cap, cur, rfl, h3, h4, h5⟩
  · exact .inl ⟨rfl, hn⟩
  · exact .inr ⟨g, cap, cur, rfl, h3, (h2 g rfl).trans h4, h5⟩
theorem Ps.Dc.but {E : Nat → Prop} {B q : Nat} {v : Value} {M : Ps.Ofc} {w w' : World} (h : Ps.Dc B q v M w) (hb : Tk.But E w w') (h1 : ¬ E q) (h2 : ∀ g, v.ownBlock = some g → ¬ E g) : Ps.Dc B q v M w' :=
  h.keep (hb.block q h.lt h1) fun g e => hb.block g (h.row e).1 (h2 g e)
theorem Ps.Dc.below {A B q : Nat} {v : Value} {M : Ps.Ofc} {w w' : World} (h : Ps.Dc B q v M w) (hb : Below A w w') (hA : w.heap.size ≤ A) : Ps.Dc B q v M w' :=
  h.keep (hb.block q (by have := h.lt; omega)) fun g e => hb.block g (by have := (h.row e).1; omega)
theorem Ps.Dc.alloc {B q : Nat} {v : Value} {M : Ps.Ofc} {w : World} (h : Ps.Dc B q v M w) (x : Obj) : Ps.Dc B q v M (w.alloc x) := h.below ((Below.refl w.heap.size w).alloc (Nat.le_refl _) x) (Nat.le_refl _)
theorem Ps.Dc.cell {B q : Nat} {v : Value} {M : Ps.Ofc} {w : World} (h : Ps.Dc B q v M w) : w.cell? ⟨q, 0, none⟩ = some v := by simp [World.cell?, h.1]
theorem Ps.Dc.frozen {B q : Nat} {v : Value} {M : Ps.Ofc} {w : World} (h : Ps.Dc B q v M w) : w.frozen? ⟨q, 0, none⟩ = false := by
  have := h.1
  simp [World.frozen?, this]
theorem Ps.Dc.shape {B q : Nat} {v : Value} {M : Ps.Ofc} {w : World} (h : Ps.Dc B q v M w) : ∃ a c, v = .slice a M.length c := by
  rcases h.2.2 with ⟨rfl, hn⟩ | ⟨g, cap, cur, rfl, _⟩
  · exact ⟨none, 0, by rw [hn]⟩
  · exact ⟨_, _, rfl⟩
/-- The cells of a box. -/
theorem Ps.Dc.at {B q : Nat} {v : Value} {M : Ps.Ofc} {w : World} (h : Ps.Dc B q v M w) {i : Nat} (hi : i < M.length) : ∃ g c, v = .slice (some ⟨g, 0, none⟩) M.length c ∧ g < w.heap.size ∧ M.length ≤ c ∧
    w.cell? ⟨g, i * 5, none⟩ = some (.int .i64 M[i].1) ∧ w.cell? ⟨g, i * 5 + 1, none⟩ = some (.int .i64 M[i].2.1) ∧ w.cell? ⟨g, i * 5 + 2, none⟩ = some (.int .i64 M[i].2.2.1) ∧ w.cell? ⟨g, i * 5 + 3, none⟩ = some (.int .i64 M[i].2.2.2.1) ∧ w.cell? ⟨g, i * 5 + 4, none⟩ = some (.int .i64 M[i].2.2.2.2) ∧ ∀ o, w.frozen? ⟨g, o, none⟩ = false := by
  rcases h.2.2 with ⟨rfl, hn⟩ | ⟨g, cap, cur, rfl, h3, h4, h5, _, h6, h7⟩
  · omega
  have key : ∀ j, j < 5 → w.cell? ⟨g, i * 5 + j, none⟩ = (Ps.cell5 M[i])[j]? := by
    intro j hj
    have h8 := Ps.cells_at M i j hi hj
    rw [← h7, List.getElem?_take] at h8
    rw [if_pos (by omega)] at h8
    simp only [World.cell?, h4]
    rw [← h8, Array.getElem?_toList]
    rfl
  have e0 := key 0 (by omega)
  refine ⟨g, cap, rfl, (Array.getElem?_eq_some_iff.1 h4).1, h5, e0, key 1 (by omega), key 2 (by omega), key 3 (by omega), key 4 (by omega), fun o => ?_⟩
  simp [World.frozen?, h4]

/-- Where a box stands. -/
def Ps.Ix (M : Ps.Ofc) (k r : Int) : Prop := (r = -1 ∧ Ps.has M k = false) ∨ ∃ i, ∃ h : i < M.length, r = (i : Int) ∧ M[i].1 = k

set_option maxRecDepth 20000 in
set_option maxHeartbeats 1600000 in
theorem Try.rAt_any (B q : Nat) (v : Value) (M : Ps.Ofc) (k : Int) (w : World) (h : Ps.Dc B q v M w) (hlen : M.length ≤ 8) :
    Calls Try.prog 12 #[.pointer (some ⟨q, 0, none⟩), .int .i64 k] w fun e w' => (∃ r, e = .returned (.int .i64 r) ∧ Ps.Ix M k r) ∧ Below w.heap.size w w' := by
  have c0 := h.cell
  have HE : Hid (Ps.Dc B q v M w) := h
  obtain ⟨a, c, rfl⟩ := h.shape
  obtain ⟨n, hn⟩ : ∃ n, M.length = n := ⟨_, rfl⟩
  have HN : Hid (M.length = n) := hn
  rw [hn] at c0 hlen
  rw [hn] at HE
  clear h hn
  go_enter Try.func12, Try.ntmps12
  go_wp2
  go_loopg [12] n (fun gk s wr => ∃ i : Nat, gk + i = n ∧ s = .int .i64 i ∧ Hid ((∀ p ∈ M.take i, p.1 ≠ k) ∧ Below w.heap.size w wr))
  case atStart => exact ⟨0, by omega, rfl, by simp, Below.refl _ _⟩
  case round =>
    obtain ⟨i, hi, rfl, HI⟩ := hrel
    by_cases hlt : i < n
    · have hd : decide ((i : Int) < n) = true := decide_eq_true (by omega)
      have hil : i < M.length := by rw [HN.out]; exact hlt
      obtain ⟨g, c', hv, hg, _, h0, h1, h2, h3, h4, _⟩ := HE.out.at hil
      have hv' : a = some ⟨g, 0, none⟩ := (Value.slice.inj hv).1
      subst hv'
      clear hv
      obtain ⟨⟨x, x0, x1, x2, x3⟩, hx⟩ : ∃ x, M[i] = x := ⟨_, rfl⟩
      rw [hx] at h0 h1 h2 h3 h4
      simp only at h0 h1 h2 h3 h4
      have hc : ∀ o, wr.cell? ⟨g, o, none⟩ = w.cell? ⟨g, o, none⟩ := fun o => HI.out.2.cell (p := ⟨g, o, none⟩) hg
      rw [← hc] at h0 h1 h2 h3 h4
      have HX : Hid (M[i] = (x, x0, x1, x2, x3)) := hx
      have BN : Hid (Below w.heap.size w (wr.alloc (.cells #[.int .i64 x, .int .i64 x0, .int .i64 x1, .int .i64 x2, .int .i64 x3] 38))) := HI.out.2.alloc HI.out.2.size _
      clear hc hx hg
      by_cases hk : x = k
      · have e1 : (x == k) = true := by simpa using hk
        have HK : Hid (x = k) := hk
        clear hk
        go_wp2
        go_ret
        exact ⟨⟨_, rfl, .inr ⟨i, hil, rfl, by rw [HX.out]; exact HK.out⟩⟩, BN.out⟩
      · have e1 : (x == k) = false := by simpa using hk
        have HK : Hid (x ≠ k) := hk
        clear hk
        go_wp2
        go_roundg (gk - 1)
        case measure => omega
        case rel =>
          refine ⟨i + 1, by omega, by go_num, fun p hp => ?_, BN.out⟩
          rw [Tm.take_snoc _ _ hil] at hp
          rcases List.mem_append.1 hp with hp | hp
          · exact HI.out.1 p hp
          · rw [List.mem_singleton.1 hp, HX.out]
            exact HK.out
    · have hd : decide ((i : Int) < n) = false := decide_eq_false (by omega)
      go_wp2
      go_ret
      refine ⟨⟨-1, rfl, .inl ⟨rfl, ?_⟩⟩, HI.out.2⟩
      rw [Ps.has, List.any_eq_false]
      intro p hp
      have := HI.out.1 p (by rw [List.take_of_length_le (by rw [HN.out]; omega)]; exact hp)
      simpa using this

end Go.Proofs
