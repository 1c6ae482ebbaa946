import Derived.Test.YtbcafacolohgbaaDoorRRead
import Derived.Test.YtbcafacolohgbaaDoorRows
import Derived.ProofKit
import Derived.OpenShut
/-
  The contract of opens, the statements' own example: true.
-/
namespace Go.Proofs
open Go.RowKit
open Go.Proofs.Mk

/-- The example's text. -/
def Mk.exText : ByteArray := ⟨#[60, 97, 32, 98, 61, 34, 49, 38, 108, 116, 59, 34, 47, 62]⟩
theorem Mk.exRead : Mk.readL Mk.exText.data.toList 0 = .ok [⟨1, 0, ⟨#[97]⟩, [(⟨#[98]⟩, ⟨#[49, 60]⟩)], ⟨#[]⟩⟩, ⟨2, 0, ⟨#[97]⟩, [], ⟨#[]⟩⟩] := by kernel_rfl

/-- The cells of a row that the call owns. -/
theorem Mk.own_cell {w : World} {B : Nat} {e : TypeId} {size : Nat} {g n cap : Nat} {cs : List Value} (h : w.ownsRow B e size (.slice (some ⟨g, 0, none⟩) n cap) n cs) (j : Nat) (u : Value) (hj : cs[j]? = some u) : w.cell? ⟨g, j, none⟩ = some u := by
  have h1 := h.cells rfl j u hj
  have ea : (⟨g, 0, none⟩ : Addr).add j = ⟨g, j, none⟩ := by unfold Addr.add; split <;> simp_all
  rw [ea] at h1
  exact h1

end Go.Proofs

/-
  From the rows' list of what the table of escapes reads as to what its cells hold.
-/
namespace Go.Proofs.YtbcafacolohgbaaDoor
open Go.ChangeShapes Go.WideShapes Go.ChangeAt Go.RowKit

theorem gEsc : Tryd.prog.globalNamed "treenail/mark.escapes" = some 0 := by kernel_rfl
theorem gEscType : (Tryd.prog.globals[0]?).map (·.type) = some 145 := by kernel_rfl
theorem cellsEscs : Tryd.prog.cellsOf 145 = 8 := by kernel_rfl
theorem cellsEsc : Tryd.prog.cellsOf 144 = 2 := by kernel_rfl
theorem cellsRune : Tryd.prog.cellsOf 21 = 1 := by kernel_rfl
theorem cellsString : Tryd.prog.cellsOf 9 = 1 := by kernel_rfl

/-- One escape's two cells. -/
theorem esc_one {H : Type} {enc : TypeId × Value → H} {W : World} {base : Nat} {sp : Nat → Bool} {held : Bool} {fuel : Nat} {a c : Value} {x : DataW H × List MemPlace} {n : Int} {l : List UInt8}
    (h : DataW.trod enc Tryd.prog W base sp held fuel 144 [a, c] = some x) (hx : x.1 = .agg [.lit (.int .i32 n), .lit (.string l)]) : a = .int .i32 n ∧ c = .string ⟨l.toArray⟩ := by
  obtain ⟨y0, y1, m, rfl, _, h0, h1⟩ := trod_struct2 Tryd.underlying144 h
  simp only [cellsRune, cellsString] at h0 h1
  obtain ⟨n', e0, rfl, _⟩ := DataW.trod_int Tryd.underlying21 h0
  obtain ⟨s', e1, rfl, _⟩ := DataW.trod_string Tryd.underlying9 h1
  simp only [DataW.agg.injEq, List.cons.injEq, DataW.lit.injEq, Lit.int.injEq, Lit.string.injEq, and_true, true_and] at hx
  obtain ⟨rfl, rfl⟩ := hx
  simp at e0 e1
  exact ⟨e0, e1⟩

theorem list8 {α : Type} (l : List α) (h : l.length = 8) : ∃ a b c d e f g i, l = [a, b, c, d, e, f, g, i] := by
  match l, h with
  | [a, b, c, d, e, f, g, i], _ => exact ⟨a, b, c, d, e, f, g, i, rfl⟩
theorem list4 {α : Type} (l : List α) (h : l.length = 4) : ∃ a b c d, l = [a, b, c, d] := by
  match l, h with
  | [a, b, c, d], _ => exact ⟨a, b, c, d, rfl⟩

theorem esc_of_laid {W : World} (h : laidMet Tryd.prog [("treenail/mark.escapes", Rows.laid_treenail_mark_escapes)] W) : Mk.Esc W := by
  obtain ⟨ps, ⟨g', t', cs, fuel, p, q, hg', ht', hvar, hd, _, _⟩, _⟩ := h
  obtain rfl := Option.some.inj (gEsc.symm.trans hg')
  obtain rfl := Option.some.inj (gEscType.symm.trans ht')
  obtain ⟨xs, m, rfl, hx, hl, hxl, hf⟩ := DataW.trod_array Tryd.underlying145 hd
  rw [cellsEscs] at hl
  obtain ⟨c0, c1, c2, c3, c4, c5, c6, c7, hcs⟩ := list8 _ hl
  obtain ⟨x0, x1, x2, x3, rfl⟩ := list4 _ hxl
  simp only [cellsEsc, hcs] at hf
  have f0 := hf 0 (by decide)
  have f1 := hf 1 (by decide)
  have f2 := hf 2 (by decide)
  have f3 := hf 3 (by decide)
  have hx1 := congrArg Prod.fst hx
  simp only [Rows.laid_treenail_mark_escapes, List.map_cons, List.map_nil, DataW.agg.injEq, List.cons.injEq, and_true] at hx1
  obtain ⟨h0, h1, h2, h3⟩ := hx1
  obtain ⟨rfl, rfl⟩ := esc_one (x := x0) f0 h0.symm
  obtain ⟨rfl, rfl⟩ := esc_one (x := x1) f1 h1.symm
  obtain ⟨rfl, rfl⟩ := esc_one (x := x2) f2 h2.symm
  obtain ⟨rfl, rfl⟩ := esc_one (x := x3) f3 h3.symm
  have hca : cs = Mk.escVals := by
    apply Array.toList_inj.1
    rw [hcs]
    rfl
  subst hca
  simp only [World.var?, gEsc, Option.bind_some] at hvar
  split at hvar
  · rename_i cs' t fz hh
    obtain rfl := Option.some.inj hvar
    exact ⟨t, fz, hh⟩
  · cases hvar

end Go.Proofs.YtbcafacolohgbaaDoor
