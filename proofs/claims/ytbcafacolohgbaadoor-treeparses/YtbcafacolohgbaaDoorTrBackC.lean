/-
  There and back: contracts over an element that stays in memory.
-/
import Derived.Test.YtbcafacolohgbaaDoorTrBackB
import Derived.Test.YtbcafacolohgbaaDoorTrSame
import Derived.Test.YtbcafacolohgbaaDoorTrKids
namespace Go.Proofs
open Go.RowKit
open Go.Proofs.Mk

/-- An element in memory, in this world and in all later ones. -/
def Tr.At (W : World) (E : El) (a : Option Addr) (c : Nat) (a' : Option Addr) (c' : Nat) : Prop := ∀ V, Below W.heap.size W V → ∃ d, El.Lies V (· < V.heap.size) d (.slice a E.attrs.length c) (.slice a' E.kids.length c') E
theorem Tr.At.later {W V : World} {E : El} {a a' : Option Addr} {c c' : Nat} (h : Tr.At W E a c a' c') (hb : Below W.heap.size W V) : Tr.At V E a c a' c' := fun U hU => h U (hb.trans (hU.mono hb.size))
theorem Tr.At.of {W : World} {E : El} {a a' : Option Addr} {c c' d : Nat} (h : El.Lies W (· < W.heap.size) d (.slice a E.attrs.length c) (.slice a' E.kids.length c') E) : Tr.At W E a c a' c' :=
  fun _ hV => ⟨d, h.keep (fun k hk => hV.block k hk) fun _ hk => Nat.lt_of_lt_of_le hk hV.size⟩
theorem Tr.At.ref {W : World} {E : El} {a a' : Option Addr} {c c' : Nat} (h : Tr.At W E a c a' c') (hw : E.weight ≤ 100000) :
    Calls Tryd.prog 12 #[.agg #[.string E.name, .slice a E.attrs.length c, .slice a' E.kids.length c', .string E.text]] W fun e w' => Below W.heap.size W w' ∧ ∃ b d b' d', e = .returned (.agg #[.string E.name, .slice b E.attrs.length d, .slice b' E.kids.length d', .string E.text]) ∧ Tr.At w' E b d b' d' := by
  obtain ⟨d, hl⟩ := h W (Below.refl _ _)
  refine (Tr.refC d E _ _ W hl hw).mono fun e w' ⟨hb, b, x, b', x', dd, he, hl'⟩ => ⟨hb, b, x, b', x', he, Tr.At.of (hl'.keep (fun k _ => rfl) fun k hk => hk.2)⟩
theorem Tr.At.same {W : World} {E : El} {a a' b b' : Option Addr} {c c' x x' : Nat} (h : Tr.At W E a c a' c') (h' : Tr.At W E b x b' x') (hR : E.Reach) :
    Calls Tryd.prog 16 #[.agg #[.string E.name, .slice a E.attrs.length c, .slice a' E.kids.length c', .string E.text], .agg #[.string E.name, .slice b E.attrs.length x, .slice b' E.kids.length x', .string E.text]] W fun e w' => e = .returned (.bool true) ∧ Below W.heap.size W w' := by
  obtain ⟨d, hl⟩ := h W (Below.refl _ _)
  obtain ⟨d', hl'⟩ := h' W (Below.refl _ _)
  exact Tryd.same02_any d d' E _ _ _ _ W hl hl' hR
theorem Tr.At.write {W : World} {E : El} {a a' : Option Addr} {c c' : Nat} (h : Tr.At W E a c a' c') (hR : E.Reach) (hw : E.weight ≤ 100000) (hE : Mk.Esc W) :
    Calls Tryd.prog 10 #[.agg #[.string E.name, .slice a E.attrs.length c, .slice a' E.kids.length c', .string E.text]] W fun e w' => e = .returned (.tuple #[.string E.writeR.1, .int .i64 E.writeR.2]) ∧ Below W.heap.size W w' := by
  obtain ⟨d, hl⟩ := h W (Below.refl _ _)
  exact Tryd.Write_any d E _ _ W hl hR hw hE
theorem Tr.parse_some {s : ByteArray} {E : El} {k : Nat} {er : Int} (h : El.parseL s = (some E, k, er)) (W : World) (hE : Mk.Esc W) (hs : s.size ≤ 140737488355328) :
    Calls Tryd.prog 14 #[.string s] W fun e w' => Below W.heap.size W w' ∧ ∃ b d b' d', e = .returned (.tuple #[.agg #[.string E.name, .slice b E.attrs.length d, .slice b' E.kids.length d', .string E.text], .int .i64 0, .int .i64 0]) ∧ Tr.At w' E b d b' d' := by
  refine (Tryd.parse_any s W hE hs).mono fun e w' ⟨hb, hp⟩ => ⟨hb, ?_⟩
  unfold Tr.ParseEnd at hp
  rw [h] at hp
  obtain ⟨va, vk, d, he, hl⟩ := hp
  obtain ⟨b, x, b', x', rfl, rfl⟩ := hl.shape
  exact ⟨b, x, b', x', he, Tr.At.of hl⟩
theorem Tr.parse_none {s : ByteArray} {k : Nat} {er : Int} (h : El.parseL s = (none, k, er)) (W : World) (hE : Mk.Esc W) (hs : s.size ≤ 140737488355328) :
    Calls Tryd.prog 14 #[.string s] W fun e w' => Below W.heap.size W w' ∧ e = .returned (.tuple #[.agg #[.string ⟨#[]⟩, .slice none 0 0, .slice none 0 0, .string ⟨#[]⟩], .int .i64 k, .int .i64 er]) := by
  refine (Tryd.parse_any s W hE hs).mono fun e w' ⟨hb, hp⟩ => ⟨hb, ?_⟩
  unfold Tr.ParseEnd at hp
  rw [h] at hp
  exact hp
theorem Ps.run_err : ∀ (ms : List Mk.MarkV) (st : Ps) (e : Int) (k : Nat), st.run ms = .error (e, k) → e ≠ 0
  | [], st, e, k, h => by rw [Ps.run] at h; cases h
  | m :: ms, st, e, k, h => by
    rw [Ps.run] at h
    cases ht : st.take m with
    | error x => rw [ht] at h; cases h; rcases Ps.take_err ht with rfl | rfl <;> decide
    | ok s1 => rw [ht] at h; exact Ps.run_err ms s1 e k h
theorem El.parse_err {s : ByteArray} {k : Nat} {er : Int} (h : El.parseL s = (none, k, er)) : er ≠ 0 := by
  unfold El.parseL at h
  split at h
  · cases h; decide
  split at h
  · cases h; decide
  split at h
  · rename_i e p hr
    cases h
    exact Ps.run_err _ _ _ _ hr
  split at h
  · cases h; decide
  · cases h

end Go.Proofs
