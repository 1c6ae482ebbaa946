/-
  Parsing: plain mathematics: a machine that takes marks one by one.
-/
import Derived.Test.YtbcafacolohgbaaDoorTrModel
import Derived.Test.YtbcafacolohgbaaDoorRRead
namespace Go.Proofs
open Go.RowKit
open Go.Proofs.Mk

/-- Where a parser is: at the start; inside an element (its head, its kids so far, those around it, the innermost first); behind the whole element. -/
inductive Ps where
  | start
  | ins (h : El) (ks : List El) (r : List (El × List El))
  | over (E : El)
namespace Ps
def leaf (m : MarkV) : El := .mk m.name m.attrs [] ⟨#[]⟩
def close (E : El) : List (El × List El) → Ps
  | [] => .over E
  | (h, ks) :: r => .ins h (ks ++ [E]) r
def withKids (h : El) (ks : List El) : El := .mk h.name h.attrs ks h.text
def withText (h : El) (t : ByteArray) : El := .mk h.name h.attrs h.kids t
/-- One mark. -/
def take : Ps → MarkV → Except Int Ps
  | .start, m => if m.kind = 1 then .ok (.ins (leaf m) [] []) else .error 4
  | .over _, _ => .error 4
  | .ins h ks r, m =>
    if m.kind = 1 then if h.text.data.toList ≠ [] then .error 4 else if r.length + 1 = 24 ∨ ks.length = 64 then .error 2 else .ok (.ins (leaf m) [] ((h, ks) :: r))
    else if m.kind = 2 then if h.name ≠ m.name then .error 4 else .ok (close (withKids h ks) r)
    else if ks ≠ [] then .error 4 else .ok (.ins (withText h m.text) ks r)
/-- Marks, from a place on; an error with the mark's own place. -/
def run : Ps → List MarkV → Except (Int × Nat) Ps
  | st, [] => .ok st
  | st, m :: r => match take st m with
    | .error e => .error (e, m.at_)
    | .ok st' => run st' r
theorem run_append : ∀ (l m : List MarkV) (st : Ps), run st (l ++ m) = match run st l with | .error e => .error e | .ok st' => run st' m
  | [], m, st => rfl
  | a :: l, m, st => by
    simp only [List.cons_append, run]
    cases take st a with
    | error e => rfl
    | ok st' => exact run_append l m st'
theorem run_take (l : List MarkV) (k : Nat) (h : k < l.length) (st st' : Ps) (hr : run st (l.take k) = .ok st') : run st (l.take (k + 1)) = match take st' l[k] with | .error e => .error (e, l[k].at_) | .ok x => .ok x := by
  rw [List.take_succ_eq_append_getElem h, run_append, hr]
  simp only [run]
theorem run_stays (l : List MarkV) (k : Nat) (st : Ps) {e : Int × Nat} (hr : run st (l.take k) = .error e) : run st l = .error e := by
  have := run_append (l.take k) (l.drop k) st
  rw [List.take_append_drop, hr] at this
  exact this
theorem run_fails (l : List MarkV) (k : Nat) (h : k < l.length) (st st' : Ps) (hr : run st (l.take k) = .ok st') {e : Int} (ht : take st' l[k] = .error e) : run st l = .error (e, l[k].at_) := by
  refine run_stays l (k + 1) st ?_
  rw [run_take l k h st st' hr, ht]
def isOver : Ps → Option El
  | .over E => some E
  | _ => none
/-- The elements one behind the other: each that is open, and behind it its kids that are closed. -/
def flat : List (El × List El) → List El
  | [] => []
  | (h, ks) :: r => flat r ++ h :: ks
def places : List (El × List El) → List Nat
  | [] => []
  | (_, _) :: r => places r ++ [(flat r).length]
def els : Ps → List El
  | .start => []
  | .ins h ks r => flat ((h, ks) :: r)
  | .over E => [E]
def ops : Ps → List Nat
  | .start => []
  | .ins h ks r => places ((h, ks) :: r)
  | .over _ => []
theorem places_length : ∀ l, (places l).length = l.length
  | [] => rfl
  | (_, _) :: r => by simp [places, places_length r]
theorem els_close (h : El) (ks : List El) (r : List (El × List El)) : els (close (withKids h ks) r) = flat r ++ [withKids h ks] := by
  cases r with
  | nil => rfl
  | cons a r => obtain ⟨h', ks'⟩ := a; simp [close, els, flat]
theorem ops_close (E : El) (r : List (El × List El)) : ops (close E r) = places r := by
  cases r with
  | nil => rfl
  | cons a r => obtain ⟨h', ks'⟩ := a; rfl
theorem take_ops {st st' : Ps} {m : MarkV} (h : take st m = .ok st') : st'.ops.length ≤ st.ops.length + 1 := by
  cases st with
  | start =>
    simp only [take] at h
    split at h
    · cases h; simp [ops, places]
    · cases h
  | over E => cases h
  | ins x ks r =>
    simp only [take] at h
    split at h
    · split at h
      · cases h
      · split at h
        · cases h
        · cases h; simp [ops, places]
    · split at h
      · split at h
        · cases h
        · cases h; rw [ops_close]; simp [ops, places]; omega
      · split at h
        · cases h
        · cases h; simp [ops, places]
end Ps

/-- Parse's answer: the element, or none; the place; the error. -/
def El.parseL (s : ByteArray) : Option El × Nat × Int := if 20000 < s.size then (none, 0, 2) else match Mk.readL s.data.toList 0 with
  | .error k => (none, k, 4)
  | .ok ms => match Ps.run .start ms with
    | .error (e, k) => (none, k, e)
    | .ok st => match st.isOver with
      | none => (none, s.size, 4)
      | some E => (some E, 0, 0)
def El.zero : El := .mk ⟨#[]⟩ [] [] ⟨#[]⟩

end Go.Proofs
