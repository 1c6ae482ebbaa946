/-
  A slice of marks that came in, as it is read.
-/
import Derived.Test.YtjijfbcmhjcfaaaDoorMarkArg
import Derived.Test.YtjijfbcmhjcfaaaDoorMBack
namespace Go.Proofs
open Go.RowKit Go.ChangeShapes Go.WideShapes Go.Deep
open Go.Proofs.Mk

/-- A mark of an argument. -/
structure Mk.AM where
  kd : Int
  at_ : Int
  nm : ByteArray
  tx : ByteArray
  a : Option Addr
  c : Nat
  xs : List (ByteArray × ByteArray)
instance : Inhabited Mk.AM := ⟨⟨0, 0, ⟨#[]⟩, ⟨#[]⟩, none, 0, []⟩⟩
def Mk.AM.q (m : Mk.AM) : Mk.Q := (m.kd, m.nm, m.tx, m.xs)
structure Mk.AMOk (w : World) (m : Mk.AM) : Prop where
  row : Mk.AttrsAt w (.slice m.a m.xs.length m.c) m.xs
  nm : m.nm.size ≤ maxLen
  xs : Mk.AttrsSmall m.xs
  tx : m.tx.size ≤ 140737488355328
/-- The marks lie in memory. -/
def Mk.ArgMarks (w : World) (v : Value) (l : List Mk.AM) : Prop :=
  ∃ a cap, v = .slice a l.length cap ∧ l.length ≤ maxLen ∧ (l = [] ∨ ∃ g off, a = some ⟨g, off, none⟩ ∧ g < w.heap.size ∧ ∀ j (h : j < l.length), w.cell? ⟨g, off + j * 5, none⟩ = some (.int .i64 l[j].kd) ∧ w.cell? ⟨g, off + j * 5 + 1, none⟩ = some (.int .i64 l[j].at_) ∧
    w.cell? ⟨g, off + j * 5 + 2, none⟩ = some (.string l[j].nm) ∧ w.cell? ⟨g, off + j * 5 + 3, none⟩ = some (.slice l[j].a l[j].xs.length l[j].c) ∧ w.cell? ⟨g, off + j * 5 + 4, none⟩ = some (.string l[j].tx) ∧ Mk.AMOk w l[j])

theorem Mk.open_marks {H : Type} {enc : TypeId × Value → H} {w : World} {spare : Nat → Bool} {held : Bool} {fuel : Nat} {cs : List Value} {x : DataW H × List MemPlace} (h : DataW.trod enc Tryd.prog w 0 spare held fuel 22 cs = some x)
    (hw : ∀ n ∈ x.1.weights Tryd.prog 22, n ≤ reachBytes) : ∃ v l, cs = [v] ∧ Mk.ArgMarks w v l := by
  rcases DataW.trod_slice Tryd.underlying22 h with ⟨rfl, _⟩ | ⟨a, len, cap, elems, rest, n', hn', rfl, hx, _, hlc, hcap, hlen, hel, _, _⟩
  · exact ⟨_, [], rfl, none, 0, rfl, by simp, .inl rfl⟩
  · have each : ∀ i, i < len → ∃ q : Mk.AM, w.cell? (a.add (i * 5)) = some (.int .i64 q.kd) ∧ w.cell? ((a.add (i * 5)).add 1) = some (.int .i64 q.at_) ∧ w.cell? ((a.add (i * 5)).add 2) = some (.string q.nm) ∧ w.cell? ((a.add (i * 5)).add 3) = some (.slice q.a q.xs.length q.c) ∧ w.cell? ((a.add (i * 5)).add 4) = some (.string q.tx) ∧ Mk.AMOk w q := by
      intro i hi
      have h1 := hel i hi
      rw [Mk.cellsMark, List.getElem?_eq_getElem (by omega)] at h1
      obtain ⟨cs', h2, h3⟩ := Option.bind_eq_some_iff.1 h1
      obtain ⟨kd, at_, nm, tx, b, c, xs, rfl, hA, _, _, hn, hsm⟩ := Mk.open_mark h3
      have hmem : elems[i].1 ∈ elems.map (·.1) := List.mem_map_of_mem (List.getElem_mem _)
      have hs := hsm fun m hm => hw m (by
        rw [hx]
        simp only [DataW.weights, Tryd.underlying22]
        exact List.mem_cons_of_mem _ (List.mem_append_left _ (Mk.weights_all hmem m hm)))
      obtain ⟨_, hl3, hc⟩ := World.cells?_some h2
      exact ⟨⟨kd, at_, nm, tx, b, c, xs⟩, by simpa [Addr.add] using hc 0 (by simp), by simpa using hc 1 (by simp), by simpa using hc 2 (by simp), by simpa using hc 3 (by simp), by simpa using hc 4 (by simp), ⟨hA, hn, hs.1, hs.2⟩⟩
    obtain ⟨q, hq⟩ := choose_lt each
    have hlen' : ((List.range len).map q).length = len := by simp
    have hget : ∀ j (h : j < ((List.range len).map q).length), ((List.range len).map q)[j] = q j := fun j h => by simp
    refine ⟨_, (List.range len).map q, rfl, some a, cap, by rw [hlen'], by rw [hlen']; omega, ?_⟩
    by_cases hz : len = 0
    · subst hz; exact .inl rfl
    · obtain ⟨g, off, spot⟩ := a
      obtain ⟨h0, _⟩ := hq 0 (by omega)
      have hspot : spot = none := by simpa [Addr.add] using World.cell?_spot h0
      subst hspot
      have hg : g < w.heap.size := by
        have := Mk.cell_lt h0
        simpa [Addr.add] using this
      refine .inr ⟨g, off, rfl, hg, fun j hj => ?_⟩
      rw [hget j hj]
      rw [hlen'] at hj
      obtain ⟨p0, p1, p2, p3, p4, p5⟩ := hq j hj
      have ea : ∀ (c k : Nat), ((⟨g, off, none⟩ : Addr).add c).add k = ⟨g, off + c + k, none⟩ := fun c k => by rw [Go.WideShapes.add_plain, Go.WideShapes.add_plain]
      rw [Go.WideShapes.add_plain] at p0
      rw [ea] at p1 p2 p3 p4
      exact ⟨p0, p1, p2, p3, p4, p5⟩

/-- The marks that are wanted, as the law lists them. -/
structure Mk.Wq where
  m : Mk.AM
  v : Value
def Mk.wqCells (q : Mk.Wq) : List Value := [.int .i64 q.m.kd, .int .i64 q.m.at_, .string q.m.nm, q.v, .string q.m.tx]
def Mk.wqsCells (l : List Mk.Wq) : List Value := l.flatMap Mk.wqCells
theorem Mk.wqsCells_length (l : List Mk.Wq) : (Mk.wqsCells l).length = l.length * 5 := by
  induction l with
  | nil => rfl
  | cons a r ih => simp only [Mk.wqsCells, List.flatMap_cons, List.length_append, Mk.wqCells, List.length_cons, List.length_nil] at *; omega
theorem Mk.wqsCells_append (a c : List Mk.Wq) : Mk.wqsCells (a ++ c) = Mk.wqsCells a ++ Mk.wqsCells c := by simp [Mk.wqsCells]
theorem Mk.wqsCells_get : ∀ (l : List Mk.Wq) (j : Nat) (h : j < l.length) (i : Nat), i < 5 → (Mk.wqsCells l)[j * 5 + i]? = (Mk.wqCells l[j])[i]?
  | [], j, h, i, hi => by simp at h
  | a :: r, 0, h, i, hi => by
    simp only [Mk.wqsCells, List.flatMap_cons, Nat.zero_mul, Nat.zero_add, List.getElem_cons_zero]
    rw [List.getElem?_append_left (by simpa [Mk.wqCells] using hi)]
  | a :: r, j + 1, h, i, hi => by
    have := Mk.wqsCells_get r j (by simpa using h) i hi
    have e1 : (j + 1) * 5 + i = (j * 5 + i) + 5 := by omega
    simp only [Mk.wqsCells, List.flatMap_cons, List.getElem_cons_succ] at *
    rw [e1, List.getElem?_append_right (by simp [Mk.wqCells])]
    simpa [Mk.wqCells] using this
structure Mk.Wants (w : World) (B : Nat) (v : Value) (l : List Mk.Wq) : Prop where
  row : w.ownsRow B 34 5 v l.length (Mk.wqsCells l)
  attrs : ∀ q ∈ l, w.ownsRow B 72 2 q.v q.m.xs.length (Mk.attrCells q.m.xs)

/-- No two texts one behind the other, one more. -/
theorem Mk.Sep_snoc : ∀ (l : List Mk.Q) (q : Mk.Q), Mk.Sep l → (∀ x, l.getLast? = some x → ¬ (x.1 = 3 ∧ q.1 = 3)) → Mk.Sep (l ++ [q])
  | [], _, _, _ => trivial
  | [a], q, _, h => ⟨h a rfl, trivial⟩
  | a :: b :: r, q, hs, h => ⟨hs.1, Mk.Sep_snoc (b :: r) q hs.2 (fun x hx => h x (by rw [List.getLast?_cons_cons]; exact hx))⟩

end Go.Proofs
