/-
  From the rows' list of five tables (with the operators of terms) to what they hold; the witness's world.
-/
import Derived.Test.YtemccpfgkbhahaaGreatDoorAllBlOut
import Derived.Test.YtemccpfgkbhahaaGreatDoorTLaid
import Derived.Test.YtemccpfgkbhahaaGreatDoorRows
import Derived.ProofKit
import Derived.OpenShut
import Derived.Lib.LaidTab
import Derived.Lib.ItoaNum
import Derived.Lib.AppendIntMem
namespace Go.Proofs.YtemccpfgkbhahaaGreatDoor
open Go.ChangeShapes Go.WideShapes Go.ChangeAt Go.RowKit

theorem gNames : Tryz.prog.globalNamed "treenail/block.names" = some 0 := by kernel_rfl
theorem gNamesType : (Tryz.prog.globals[0]?).map (·.type) = some 88 := by kernel_rfl
theorem cellsNames : Tryz.prog.cellsOf 88 = 11 := by kernel_rfl
theorem names_of_laid {W : World} (h : laidMet Tryz.prog [("treenail/block.names", Rows.laid_treenail_block_names)] W) : Bk.Names W := by
  obtain ⟨ps, ⟨g', t', cs, fuel, p, q, hg', ht', hvar, hd, _, _⟩, _⟩ := h
  obtain rfl := Option.some.inj (gNames.symm.trans hg')
  obtain rfl := Option.some.inj (gNamesType.symm.trans ht')
  obtain ⟨xs, m, rfl, hx, hl, hxl, hf⟩ := DataW.trod_array Tryz.underlying88 hd
  rw [cellsNames] at hl
  simp only [cellsString'] at hf
  have hx1 := congrArg Prod.fst hx
  have hlen : xs.length = 11 := hxl
  simp only [Rows.laid_treenail_block_names, DataW.agg.injEq] at hx1
  have row : ∀ (i : Nat) (t : List UInt8), i < 11 → (xs.map (·.1))[i]? = some (.lit (.string t)) → cs.toList[i]? = some (.string ⟨t.toArray⟩) := by
    intro i t hi hL
    obtain ⟨x, hxi⟩ : ∃ x, xs[i]? = some x := ⟨xs[i]'(by omega), List.getElem?_eq_getElem (by omega)⟩
    rw [List.getElem?_map, hxi] at hL
    obtain ⟨s, e0, d0, _⟩ := DataW.trod_string Tryz.underlying9 ((hf i hi).trans hxi)
    have hL2 : x.1 = .lit (.string t) := by simpa using hL
    rw [d0] at hL2
    simp only [DataW.lit.injEq, Lit.string.injEq] at hL2
    subst hL2
    have h1 : cs.toList[i]? = ((cs.toList.drop (i * 1)).take 1)[0]? := by rw [List.getElem?_take, if_pos (by omega), List.getElem?_drop]; simp
    rw [h1, e0]
    rfl
  have hca : cs = Bk.names := by
    apply Array.toList_inj.1
    apply List.ext_getElem?
    intro i
    by_cases hi : i < 11
    · have hr : ∀ t, (xs.map (·.1))[i]? = some (.lit (.string t)) → cs.toList[i]? = some (.string ⟨t.toArray⟩) := fun t => row i t hi
      obtain rfl | rfl | rfl | rfl | rfl | rfl | rfl | rfl | rfl | rfl | rfl : i = 0 ∨ i = 1 ∨ i = 2 ∨ i = 3 ∨ i = 4 ∨ i = 5 ∨ i = 6 ∨ i = 7 ∨ i = 8 ∨ i = 9 ∨ i = 10 := by omega
      all_goals exact hr _ (by rw [← hx1]; rfl)
    · rw [List.getElem?_eq_none (by omega), List.getElem?_eq_none (by simp [Bk.names]; omega)]
  subst hca
  simp only [World.var?, gNames, Option.bind_some] at hvar
  split at hvar
  · rename_i cs' t fz hh
    obtain rfl := Option.some.inj hvar
    exact ⟨t, fz, hh⟩
  · cases hvar

/-- What is listed behind the first is met too. -/
theorem laid_rest {P : Program} {x : String × DataW Unit} {r : List (String × DataW Unit)} {w : World} (h : laidMet P (x :: r) w) : laidMet P r w := by
  obtain ⟨ps, hv, hnd, hrows⟩ := h
  obtain ⟨g, t, cs, fuel, p, q, _, _, _, _, hq, rfl⟩ := hv
  exact ⟨q, hq, List.Nodup.sublist (List.sublist_append_right _ _) hnd, fun b off hm => hrows b off (List.mem_append_right _ hm)⟩
/-- What is listed first is met by itself. -/
theorem laid_first {P : Program} {x : String × DataW Unit} {r : List (String × DataW Unit)} {w : World} (h : laidMet P (x :: r) w) : laidMet P [x] w := by
  obtain ⟨ps, hv, hnd, hrows⟩ := h
  obtain ⟨g, t, cs, fuel, p, q, h1, h2, h3, h4, _, rfl⟩ := hv
  refine ⟨_, ⟨g, t, cs, fuel, p, [], h1, h2, h3, h4, rfl, rfl⟩, ?_, fun b off hm => hrows b off ?_⟩
  · rw [List.append_nil]; exact List.Nodup.sublist (List.sublist_append_left _ _) hnd
  · rw [List.append_nil] at hm; exact List.mem_append_left _ hm
abbrev tables : List (String × DataW Unit) := [("math/bits.deBruijn32tab", Rows.laid_math_bits_deBruijn32tab), ("math/bits.deBruijn64tab", Rows.laid_math_bits_deBruijn64tab), ("internal/strconv.uint64pow10", Rows.laid_internal_strconv_uint64pow10), ("treenail/term.operators", Rows.laid_treenail_term_operators), ("treenail/block.names", Rows.laid_treenail_block_names)]
theorem names_of_tables {W : World} (h : laidMet Tryz.prog tables W) : Bk.Names W := names_of_laid (laid_rest (laid_rest (laid_rest (laid_rest h))))
theorem ops_of_tables {W : World} (h : laidMet Tryz.prog tables W) : Tk.Ops W := ops_of_laid (laid_first (laid_rest (laid_rest (laid_rest h))))
theorem pow10_eq : (Rows.laid_internal_strconv_uint64pow10 : DataW Unit) = Lib.tabData .u64 Lib.pow10Tab := by kernel_rfl
theorem gPow : Tryz.prog.globalNamed "internal/strconv.uint64pow10" = some 1 := by kernel_rfl
theorem gPowType : (Tryz.prog.globals[1]?).map (·.type) = some 136 := by kernel_rfl
theorem pow_of_tables {W : World} (h : laidMet Tryz.prog tables W) : Lib.TabIs Tryz.prog W "internal/strconv.uint64pow10" .u64 Lib.pow10Tab := by
  have h2 := laid_rest (laid_rest h)
  rw [pow10_eq] at h2
  exact Lib.tabIs_of_head gPow gPowType Tryz.underlying136 Tryz.underlying120 (by kernel_rfl) (by kernel_rfl) h2

def pow10Vals : Array Value := #[.int .u64 1, .int .u64 10, .int .u64 100, .int .u64 1000, .int .u64 10000, .int .u64 100000, .int .u64 1000000, .int .u64 10000000, .int .u64 100000000, .int .u64 1000000000, .int .u64 10000000000, .int .u64 100000000000, .int .u64 1000000000000, .int .u64 10000000000000, .int .u64 100000000000000, .int .u64 1000000000000000, .int .u64 10000000000000000, .int .u64 100000000000000000, .int .u64 1000000000000000000, .int .u64 10000000000000000000]
def b32Vals : Array Value := (#[0, 1, 28, 2, 29, 14, 24, 3, 30, 22, 20, 15, 25, 17, 4, 8, 31, 27, 13, 23, 21, 19, 16, 7, 26, 12, 18, 6, 11, 5, 10, 9] : Array Int).map (.int .u8 ·)
def b64Vals : Array Value := (#[0, 1, 56, 2, 57, 49, 28, 3, 61, 58, 42, 50, 38, 29, 17, 4, 62, 47, 59, 36, 45, 43, 51, 22, 53, 39, 33, 30, 24, 18, 12, 5, 63, 55, 48, 27, 60, 41, 37, 16, 46, 35, 44, 21, 52, 32, 23, 11, 54, 26, 40, 15, 34, 20, 31, 10, 25, 14, 19, 9, 13, 8, 7, 6] : Array Int).map (.int .u8 ·)
/- The witness's world: the settled one, the tables holding what their initialisers lay. -/
def putVals (h : Array Obj) (g : Nat) (vs : Array Value) : Array Obj := h.modify g fun | .cells _ t frozen => .cells vs t frozen | o => o
noncomputable def laidWorld (os : Os) : World :=
  { World.holding Tryz.prog os ⟨#[], #[], []⟩ with heap := putVals (putVals (putVals (putVals (putVals (World.holding Tryz.prog os ⟨#[], #[], []⟩).heap 0 Bk.names) 1 pow10Vals) 2 Tk.opVals) 3 b32Vals) 4 b64Vals }

end Go.Proofs.YtemccpfgkbhahaaGreatDoor
