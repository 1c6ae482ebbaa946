/-
  The parser in memory, and its small methods.
-/
import Derived.Test.YtbcafacolohgbaaDoorTrMach
import Derived.Deep.AppendLies
import Derived.WalkSmall
namespace Go.Proofs
open Go.RowKit
open Go.Proofs.Mk

/-- Elements' cells. -/
def Tr.eCells (qs : List (El × Value × Value)) : List Value := qs.flatMap fun q => [.string q.1.name, q.2.1, q.2.2, .string q.1.text]
theorem Tr.eCells_append (a b : List (El × Value × Value)) : Tr.eCells (a ++ b) = Tr.eCells a ++ Tr.eCells b := by simp [Tr.eCells]
theorem Tr.eCells_length (qs : List (El × Value × Value)) : (Tr.eCells qs).length = qs.length * 4 := by
  induction qs with
  | nil => rfl
  | cons a r ih => simp only [Tr.eCells, List.flatMap_cons, List.length_append, List.length_cons, List.length_nil] at *; omega
theorem Tr.eCells_at : ∀ (qs : List (El × Value × Value)) (j : Nat) (h : j < qs.length), (Tr.eCells qs)[j * 4]? = some (.string qs[j].1.name) ∧ (Tr.eCells qs)[j * 4 + 1]? = some qs[j].2.1 ∧ (Tr.eCells qs)[j * 4 + 2]? = some qs[j].2.2 ∧ (Tr.eCells qs)[j * 4 + 3]? = some (.string qs[j].1.text)
  | [], j, h => by simp at h
  | q :: r, 0, _ => by simp [Tr.eCells]
  | q :: r, j + 1, h => by
    have := Tr.eCells_at r j (by simpa using h)
    have e : Tr.eCells (q :: r) = [.string q.1.name, q.2.1, q.2.2, .string q.1.text] ++ Tr.eCells r := by simp [Tr.eCells]
    rw [e]
    rw [List.getElem?_append_right (by simp; omega), List.getElem?_append_right (by simp; omega), List.getElem?_append_right (by simp; omega), List.getElem?_append_right (by simp; omega)]
    simp only [List.length_cons, List.length_nil, List.getElem_cons_succ]
    rw [show (j + 1) * 4 - 4 = j * 4 by omega, show (j + 1) * 4 + 1 - 4 = j * 4 + 1 by omega, show (j + 1) * 4 + 2 - 4 = j * 4 + 2 by omega, show (j + 1) * 4 + 3 - 4 = j * 4 + 3 by omega]
    exact this
def Tr.nCells (l : List Nat) : List Value := l.map fun n : Nat => .int .i64 (n : Int)
theorem Tr.nCells_at (l : List Nat) (j : Nat) (h : j < l.length) : (Tr.nCells l)[j]? = some (.int .i64 l[j]) := by simp [Tr.nCells, h]

/-- A row's block is no other block of another type. -/
theorem Tr.row_ne {X : World} {B : Nat} {e : TypeId} {s : Nat} {v : Value} {n : Nat} {cs : List Value} (h : X.ownsRow B e s v n cs) {b : Nat} {c : Array Value} {t : TypeId} {fz : Nat × Nat} (hb : X.heap[b]? = some (.cells c t fz)) (hne : e ≠ t) : v.ownBlock ≠ some b := by
  rcases h.2 with ⟨rfl, _⟩ | ⟨g, cap, cur, rfl, _, hg, _⟩
  · simp [Value.ownBlock]
  · intro e1
    have e2 : g = b := Option.some.inj e1
    subst e2
    rw [hg] at hb
    cases hb
    exact hne rfl
/-- Two rows of other types. -/
theorem Tr.rows_ne {X : World} {B B' : Nat} {e e' : TypeId} {s s' : Nat} {v v' : Value} {n n' : Nat} {cs cs' : List Value} (h : X.ownsRow B e s v n cs) (h' : X.ownsRow B' e' s' v' n' cs') (hne : e ≠ e') {k : Nat} (hk : v.ownBlock = some k) : v'.ownBlock ≠ some k := by
  rcases h.2 with ⟨rfl, _⟩ | ⟨g, cap, cur, rfl, _, hg, _⟩
  · cases hk
  · have e2 : g = k := Option.some.inj hk
    subst e2
    exact Tr.row_ne h' hg (Ne.symm hne)
theorem Tr.row_lt {X : World} {B : Nat} {e : TypeId} {s : Nat} {v : Value} {n : Nat} {cs : List Value} (h : X.ownsRow B e s v n cs) {k : Nat} (hk : v.ownBlock = some k) : B ≤ k ∧ k < X.heap.size := by
  rcases h.2 with ⟨rfl, _⟩ | ⟨g, cap, cur, rfl, hb, hg, _⟩
  · cases hk
  · have e2 : g = k := Option.some.inj hk
    subst e2
    exact ⟨hb, (Array.getElem?_eq_some_iff.1 hg).1⟩
theorem Tr.own_kept {w w' : World} {B : Nat} {e : TypeId} {size : Nat} {v : Value} {n : Nat} {cs : List Value} (h : w.ownsRow B e size v n cs) (hb : ∀ k, v.ownBlock = some k → w'.heap[k]? = w.heap[k]?) : w'.ownsRow B e size v n cs :=
  ⟨h.1, h.2.imp id fun ⟨g, cap, cur, hv, h1, h2, h3⟩ => ⟨g, cap, cur, hv, h1, (hb g (by rw [hv]; rfl)).trans h2, h3⟩⟩

/-- Blocks that are neither the parser's nor its rows'. -/
def Tr.Apart (L bp : Nat) (vE vO : Value) (n k : Nat) : Prop := k < n ∧ k ≠ bp ∧ vE.ownBlock ≠ some k ∧ vO.ownBlock ≠ some k ∧ L ≤ k

/-- A parser in block bp. -/
structure Tr.Pa (L B bp : Nat) (st : Ps) (vE vO : Value) (qs : List (El × Value × Value)) (X : World) : Prop where
  par : X.heap[bp]? = some (.cells #[vE, vO] 76 (0, 0))
  rowE : X.ownsRow B 25 4 vE qs.length (Tr.eCells qs)
  rowO : X.ownsRow B 3 1 vO st.ops.length (Tr.nCells st.ops)
  els : qs.map (·.1) = st.els
  lies : ∀ q ∈ qs, ∃ d, El.Lies X (Tr.Apart L bp vE vO X.heap.size) d q.2.1 q.2.2 q.1
  new : st = .start → vE = .slice none 0 0 ∧ vO = .slice none 0 0
theorem Tr.Pa.lt {L B bp : Nat} {st : Ps} {vE vO : Value} {qs : List (El × Value × Value)} {X : World} (h : Tr.Pa L B bp st vE vO qs X) : bp < X.heap.size := (Array.getElem?_eq_some_iff.1 h.par).1
theorem Tr.Pa.step {L B bp : Nat} {st : Ps} {vE vO : Value} {qs : List (El × Value × Value)} {X X' : World} (h : Tr.Pa L B bp st vE vO qs X) (hb : Below X.heap.size X X') : Tr.Pa L B bp st vE vO qs X' :=
  ⟨(hb.block _ h.lt).trans h.par, Tr.own_kept h.rowE fun k hk => hb.block k (Tr.row_lt h.rowE hk).2, Tr.own_kept h.rowO fun k hk => hb.block k (Tr.row_lt h.rowO hk).2, h.els, fun q hq => by
    obtain ⟨d, hd⟩ := h.lies q hq
    exact ⟨d, hd.keep (fun k hk => hb.block k hk.1) fun k hk => ⟨Nat.lt_of_lt_of_le hk.1 hb.size, hk.2⟩⟩, h.new⟩
theorem Tr.Pa.c0 {L B bp : Nat} {st : Ps} {vE vO : Value} {qs : List (El × Value × Value)} {X : World} (h : Tr.Pa L B bp st vE vO qs X) : X.cell? ⟨bp, 0, none⟩ = some vE := by have := h.par; simp [World.cell?, this]
theorem Tr.Pa.c1 {L B bp : Nat} {st : Ps} {vE vO : Value} {qs : List (El × Value × Value)} {X : World} (h : Tr.Pa L B bp st vE vO qs X) : X.cell? ⟨bp, 1, none⟩ = some vO := by have := h.par; simp [World.cell?, this]
theorem Tr.Pa.f0 {L B bp : Nat} {st : Ps} {vE vO : Value} {qs : List (El × Value × Value)} {X : World} (h : Tr.Pa L B bp st vE vO qs X) : X.frozen? ⟨bp, 0, none⟩ = false := by have := h.par; simp [World.frozen?, this]
theorem Tr.Pa.f1 {L B bp : Nat} {st : Ps} {vE vO : Value} {qs : List (El × Value × Value)} {X : World} (h : Tr.Pa L B bp st vE vO qs X) : X.frozen? ⟨bp, 1, none⟩ = false := by have := h.par; simp [World.frozen?, this]

set_option maxHeartbeats 2000000 in
theorem Tryd.inside_any (bp : Nat) (o : Option Addr) (m c : Nat) (r : Bool) (w : World) (h1 : w.cell? ⟨bp, 1, none⟩ = some (.slice o m c)) (hr : decide (0 < m) = r) :
    Calls Tryd.prog 49 #[.pointer (some ⟨bp, 0, none⟩)] w fun e w' => e = .returned (.bool r) ∧ w' = w := by
  subst hr
  go_enter Tryd.func49, Tryd.ntmps49
  go_wp2
  go_ret
  exact ⟨by simp, rfl⟩

set_option maxHeartbeats 2000000 in
theorem Tryd.over_any (bp : Nat) (o o' : Option Addr) (m c n c' : Nat) (r : Bool) (w : World) (h0 : w.cell? ⟨bp, 0, none⟩ = some (.slice o' n c')) (h1 : w.cell? ⟨bp, 1, none⟩ = some (.slice o m c)) (hr : decide (m = 0 ∧ 0 < n) = r) :
    Calls Tryd.prog 32 #[.pointer (some ⟨bp, 0, none⟩)] w fun e w' => e = .returned (.bool r) ∧ w' = w := by
  subst hr
  cases m with
  | zero =>
    go_enter Tryd.func32, Tryd.ntmps32
    go_wp2_with fail
    refine (Tryd.inside_any bp o 0 c false _ h1 rfl).mono ?_
    rintro e W1 ⟨rfl, rfl⟩
    go_wp2
    go_ret
    exact ⟨by simp, rfl⟩
  | succ m =>
    go_enter Tryd.func32, Tryd.ntmps32
    go_wp2_with fail
    refine (Tryd.inside_any bp o (m + 1) c true _ h1 (by simp)).mono ?_
    rintro e W1 ⟨rfl, rfl⟩
    go_wp2
    go_ret
    exact ⟨by simp, rfl⟩

set_option maxHeartbeats 4000000 in
theorem Tryd.innermost_q (bp gE cE gO cO n m p : Nat) (w : World) (h0 : w.cell? ⟨bp, 0, none⟩ = some (.slice (some ⟨gE, 0, none⟩) n cE)) (h1 : w.cell? ⟨bp, 1, none⟩ = some (.slice (some ⟨gO, 0, none⟩) (m + 1) cO))
    (h2 : w.cell? ⟨gO, m, none⟩ = some (.int .i64 p)) (hp : p < n) (_hn : n ≤ 1000000) (hm : m ≤ 1000000) :
    Calls Tryd.prog 68 #[.pointer (some ⟨bp, 0, none⟩)] w fun e w' => e = .returned (.pointer (some ⟨gE, p * 4, none⟩)) ∧ ∃ k, w' = w.drewN k := by
  go_enter Tryd.func68, Tryd.ntmps68
  go_wp2
  go_quiet (fail)
  go_wp2
  go_ret
  exact ⟨by simp, _, rfl⟩

theorem Tryd.innermost_any (bp gE cE gO cO n m p : Nat) (w : World) (h0 : w.cell? ⟨bp, 0, none⟩ = some (.slice (some ⟨gE, 0, none⟩) n cE)) (h1 : w.cell? ⟨bp, 1, none⟩ = some (.slice (some ⟨gO, 0, none⟩) (m + 1) cO))
    (h2 : w.cell? ⟨gO, m, none⟩ = some (.int .i64 p)) (hp : p < n) (hn : n ≤ 1000000) (hm : m ≤ 1000000) :
    Calls Tryd.prog 68 #[.pointer (some ⟨bp, 0, none⟩)] w fun e w' => e = .returned (.pointer (some ⟨gE, p * 4, none⟩)) ∧ Below w.heap.size w w' ∧ w'.heap = w.heap := by
  refine (Tryd.innermost_q bp gE cE gO cO n m p w h0 h1 h2 hp hn hm).mono ?_
  rintro e w' ⟨rfl, k, rfl⟩
  exact ⟨rfl, Mk.below_drewN (Below.refl _ _) _, rfl⟩

set_option maxHeartbeats 4000000 in
theorem Tryd.pkids_q (bp gE cE gO cO n m p : Nat) (w : World) (h0 : w.cell? ⟨bp, 0, none⟩ = some (.slice (some ⟨gE, 0, none⟩) n cE)) (h1 : w.cell? ⟨bp, 1, none⟩ = some (.slice (some ⟨gO, 0, none⟩) (m + 1) cO))
    (h2 : w.cell? ⟨gO, m, none⟩ = some (.int .i64 p)) (hp : p < n) (hn : n ≤ 1000000) (hm : m ≤ 1000000) :
    Calls Tryd.prog 69 #[.pointer (some ⟨bp, 0, none⟩)] w fun e w' => e = .returned (.int .i64 ((n : Int) - p - 1)) ∧ ∃ k, w' = w.drewN k := by
  go_enter Tryd.func69, Tryd.ntmps69
  go_wp2
  go_quiet (fail)
  go_wp2
  go_ret
  exact ⟨by go_num, _, rfl⟩

theorem Tryd.pkids_any (bp gE cE gO cO n m p : Nat) (w : World) (h0 : w.cell? ⟨bp, 0, none⟩ = some (.slice (some ⟨gE, 0, none⟩) n cE)) (h1 : w.cell? ⟨bp, 1, none⟩ = some (.slice (some ⟨gO, 0, none⟩) (m + 1) cO))
    (h2 : w.cell? ⟨gO, m, none⟩ = some (.int .i64 p)) (hp : p < n) (hn : n ≤ 1000000) (hm : m ≤ 1000000) :
    Calls Tryd.prog 69 #[.pointer (some ⟨bp, 0, none⟩)] w fun e w' => e = .returned (.int .i64 ((n : Int) - p - 1)) ∧ Below w.heap.size w w' ∧ w'.heap = w.heap := by
  refine (Tryd.pkids_q bp gE cE gO cO n m p w h0 h1 h2 hp hn hm).mono ?_
  rintro e w' ⟨rfl, k, rfl⟩
  exact ⟨rfl, Mk.below_drewN (Below.refl _ _) _, rfl⟩

end Go.Proofs
