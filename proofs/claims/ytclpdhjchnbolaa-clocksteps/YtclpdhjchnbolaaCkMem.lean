/-
  A clock in memory: its time and its row of alarms; Now, New, isTime; a nil clock.
-/
import Derived.Test.YtclpdhjchnbolaaTmModel
import Derived.Lib.Hide
import Derived.Laws.LoneSync
import Derived.Laws.AppendOwn
namespace Go.Proofs
open Go.RowKit

/-- An alarm: its id, its time. -/
abbrev Ck.Al := Int × Int
def Ck.enc (a : Ck.Al) : List Value := [.int .i64 a.1, .int .i64 a.2]
def Ck.cells (L : List Ck.Al) : List Value := L.flatMap Ck.enc

/-- A clock of the program: its time, its alarms in a row of its own. -/
structure Ck.At (B c : Nat) (v : Value) (now : Int) (L : List Ck.Al) (w : World) : Prop where
  low : B ≤ c
  blk : w.heap[c]? = some (.cells #[.int .i64 now, v] 57 (0, 0))
  row : w.ownsRow B 62 2 v L.length (Ck.cells L)

theorem Ck.cells_length (L : List Ck.Al) : (Ck.cells L).length = L.length * 2 := by
  induction L with
  | nil => rfl
  | cons a r ih => simp only [Ck.cells, List.flatMap_cons, List.length_append] at ih ⊢; rw [ih]; simp [Ck.enc]; omega
theorem Ck.At.lt {B c : Nat} {v : Value} {now : Int} {L : List Ck.Al} {w : World} (h : Ck.At B c v now L w) : c < w.heap.size := (Array.getElem?_eq_some_iff.1 h.blk).1
theorem Ck.At.c0 {B c : Nat} {v : Value} {now : Int} {L : List Ck.Al} {w : World} (h : Ck.At B c v now L w) : w.cell? ⟨c, 0, none⟩ = some (.int .i64 now) := by simp [World.cell?, h.blk]
theorem Ck.At.c1 {B c : Nat} {v : Value} {now : Int} {L : List Ck.Al} {w : World} (h : Ck.At B c v now L w) : w.cell? ⟨c, 1, none⟩ = some v := by simp [World.cell?, h.blk]
theorem Ck.At.fz {B c : Nat} {v : Value} {now : Int} {L : List Ck.Al} {w : World} (h : Ck.At B c v now L w) (i : Nat) : w.frozen? ⟨c, i, none⟩ = false := by simp [World.frozen?, h.blk]
theorem Ck.At.far {B c : Nat} {v : Value} {now : Int} {L : List Ck.Al} {w : World} (h : Ck.At B c v now L w) : v.ownBlock ≠ some c := fun e => by
  rcases h.row.2 with ⟨rfl, _⟩ | ⟨g, cap, cur, rfl, _, h4, _⟩
  · cases e
  · have : g = c := by simpa [Value.ownBlock] using e
    subst this
    rw [h.blk] at h4
    simp at h4
theorem Ck.At.keep {B c : Nat} {v : Value} {now : Int} {L : List Ck.Al} {w w' : World} (h : Ck.At B c v now L w) (h1 : w'.heap[c]? = w.heap[c]?) (h2 : ∀ b, v.ownBlock = some b → w'.heap[b]? = w.heap[b]?) : Ck.At B c v now L w' := by
  refine ⟨h.low, h1.trans h.blk, h.row.1, ?_⟩
  rcases h.row.2 with hn | ⟨g, cap, cur, rfl, h3, h4, h5⟩
  · exact .inl hn
  · exact .inr ⟨g, cap, cur, rfl, h3, (h2 g rfl).trans h4, h5⟩
theorem Ck.At.rlt {B c : Nat} {v : Value} {now : Int} {L : List Ck.Al} {w : World} (h : Ck.At B c v now L w) (b : Nat) (e : v.ownBlock = some b) : b < w.heap.size := (h.row.lt b e).2
theorem Ck.At.but {E : Nat → Prop} {B c : Nat} {v : Value} {now : Int} {L : List Ck.Al} {w w' : World} (h : Ck.At B c v now L w) (hb : Tk.But E w w') (h1 : ¬ E c) (h2 : ∀ b, v.ownBlock = some b → ¬ E b) : Ck.At B c v now L w' :=
  h.keep (hb.block c h.lt h1) fun b e => hb.block b (h.rlt b e) (h2 b e)
theorem Ck.At.below {D : Nat} {B c : Nat} {v : Value} {now : Int} {L : List Ck.Al} {w w' : World} (h : Ck.At B c v now L w) (hb : Below D w w') (hB : w.heap.size ≤ D) : Ck.At B c v now L w' :=
  h.keep (hb.block c (by have := h.lt; omega)) fun b e => hb.block b (by have := h.rlt b e; omega)
theorem Ck.At.alloc {B c : Nat} {v : Value} {now : Int} {L : List Ck.Al} {w : World} (h : Ck.At B c v now L w) (x : Obj) : Ck.At B c v now L (w.alloc x) := h.below ((Below.refl w.heap.size w).alloc (Nat.le_refl _) x) (Nat.le_refl _)

/-- Where alarm j lies. -/
theorem Ck.At.nth {B c : Nat} {v : Value} {now : Int} {L : List Ck.Al} {w : World} (h : Ck.At B c v now L w) {j : Nat} (hj : j < L.length) : ∃ g cap, v = .slice (some ⟨g, 0, none⟩) L.length cap ∧ g < w.heap.size ∧ L.length ≤ cap ∧ w.cell? ⟨g, j * 2, none⟩ = some (.int .i64 L[j].1) ∧ w.cell? ⟨g, j * 2 + 1, none⟩ = some (.int .i64 L[j].2) ∧ ∀ o, w.frozen? ⟨g, o, none⟩ = false := by
  rcases h.row.2 with ⟨_, hn⟩ | ⟨g, cap, cur, rfl, h3, h4, h5, h6, h7, h8⟩
  · omega
  · have key : ∀ (M : List Ck.Al) (i : Nat) (hi : i < M.length), (Ck.cells M)[i * 2]? = some (.int .i64 M[i].1) ∧ (Ck.cells M)[i * 2 + 1]? = some (.int .i64 M[i].2) := by
      intro M
      induction M with
      | nil => intro i hi; simp at hi
      | cons a r ih =>
        intro i hi
        have hc : Ck.cells (a :: r) = .int .i64 a.1 :: .int .i64 a.2 :: Ck.cells r := rfl
        rw [hc]
        cases i with
        | zero => simp
        | succ i =>
          have := ih i (by simpa using hi)
          rw [show (i + 1) * 2 = i * 2 + 1 + 1 by omega]
          simpa using this
    have hk := key L j hj
    rw [← h8, List.getElem?_take, List.getElem?_take, if_pos (by omega), if_pos (by omega), Array.getElem?_toList, Array.getElem?_toList] at hk
    refine ⟨g, cap, rfl, (Array.getElem?_eq_some_iff.1 h4).1, h5, ?_, ?_, fun o => by simp [World.frozen?, h4]⟩
    · simp only [World.cell?, h4]; exact hk.1
    · simp only [World.cell?, h4]; exact hk.2
theorem Ck.At.shape {B c : Nat} {v : Value} {now : Int} {L : List Ck.Al} {w : World} (h : Ck.At B c v now L w) : ∃ a cap, v = .slice a L.length cap := by
  rcases h.row.2 with ⟨e, hn⟩ | ⟨g', cap, cur, e, _⟩
  · exact ⟨none, 0, by rw [e, hn]⟩
  · exact ⟨_, _, e⟩

theorem Try.cLoad_any (c : Nat) (x : Int) (w : World) (h : w.cell? ⟨c, 0, none⟩ = some (.int .i64 x)) : Calls Try.prog 25 #[.pointer (some ⟨c, 0, none⟩)] w fun e w' => e = .returned (.int .i64 x) ∧ w' = w := by
  have hl := run_call_load (P := Try.prog) Try.func33 (by kernel_rfl) (by kernel_rfl) (by kernel_rfl) .i64 (by kernel_rfl) h
  go_enter Try.func25, Try.ntmps25
  go_wp2
  go_ret
  exact ⟨rfl, rfl⟩
theorem Try.cStore_any (c : Nat) (x y : Int) (w : World) (h : w.cell? ⟨c, 0, none⟩ = some (.int .i64 x)) (hf : w.frozen? ⟨c, 0, none⟩ = false) : Calls Try.prog 31 #[.pointer (some ⟨c, 0, none⟩), .int .i64 y] w fun e w' => e = .returned (.tuple #[]) ∧ w' = w.setCell ⟨c, 0, none⟩ (.int .i64 y) := by
  have hl := run_call_store (P := Try.prog) (k := .i64) (y := y) Try.func40 (by kernel_rfl) (by kernel_rfl) (by kernel_rfl) (by kernel_rfl) h hf
  go_enter Try.func31, Try.ntmps31
  go_wp2
  go_end0
  exact ⟨rfl, rfl⟩
theorem Try.cNow_nil (w : World) : Calls Try.prog 11 #[.pointer none] w fun e w' => e = .returned (.int .i64 0) ∧ w' = w := by
  go_enter Try.func11, Try.ntmps11
  go_wp2
  go_ret
  exact ⟨rfl, rfl⟩
theorem Try.cNow_any (c : Nat) (x : Int) (w : World) (h : w.cell? ⟨c, 0, none⟩ = some (.int .i64 x)) : Calls Try.prog 11 #[.pointer (some ⟨c, 0, none⟩)] w fun e w' => e = .returned (.int .i64 x) ∧ w' = w := by
  have C := Try.cLoad_any c x w h
  go_enter Try.func11, Try.ntmps11
  go_wp2_with (go_at_call 25; refine Calls.mono C ?_; rintro e w' ⟨rfl, rfl⟩)
  go_ret
  exact ⟨rfl, rfl⟩

/-- A time at which a clock may stand. -/
def Ck.time (n : Int) : Bool := decide (0 ≤ n) && decide (n ≤ 1099511627776)
theorem Ck.time_iff {n : Int} : Ck.time n = true ↔ 0 ≤ n ∧ n ≤ 1099511627776 := by simp [Ck.time]
theorem Try.cIsTime_any (n : Int) (w : World) : Calls Try.prog 28 #[.int .i64 n] w fun e w' => e = .returned (.bool (Ck.time n)) ∧ w' = w := by
  unfold Ck.time
  obtain ⟨a, ha⟩ : ∃ b, decide (0 ≤ n) = b := ⟨_, rfl⟩
  obtain ⟨b, hb⟩ : ∃ b, decide (n ≤ 1099511627776) = b := ⟨_, rfl⟩
  rw [ha, hb]
  cases a <;> cases b
  all_goals
    go_enter Try.func28, Try.ntmps28
    go_wp2
    go_ret
    exact ⟨rfl, rfl⟩

theorem Try.cNew_any (w : World) : Calls Try.prog 8 #[] w fun e w' => e = .returned (.pointer (some ⟨w.heap.size, 0, none⟩)) ∧ Below w.heap.size w w' ∧ Ck.At w.heap.size w.heap.size (.slice none 0 0) 0 [] w' := by
  go_enter Try.func8, Try.ntmps8
  go_wp2
  go_ret
  refine ⟨rfl, (Below.refl _ w).alloc (Nat.le_refl _) _, Nat.le_refl _, heap_alloc_new _ _, rfl, .inl ⟨rfl, rfl⟩⟩

end Go.Proofs
