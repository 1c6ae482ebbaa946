/-
  DERIVED. GIVEN WITH THE SEED: THE CARDS: each row of YtimmgchapcbgfaaDoorRows.lean that lists a variable, with what it lists TIED to the program's text (the seventh form; the later family's looks); each row that meets fmt, with fmt's text TOLD by the authors' own Lean function (tested against real Go, not proved from fmt's source: count such statements apart). THE CARD IS WHAT COUNTS. Prove the row's statement (the work); the ties are given (YtimmgchapcbgfaaDoorTie.lean); close each card by the builder's one call (the guide's Derived/Test/ToyasCard.lean, 'card_holds'). Laid BY PROGRAM, IN A SANDBOX (cutbox-door.mjs). By AI agents, Wed Nov 11 2026. No macro, syntax, notation, axiom, sorry.
-/
import Derived.Test.YtimmgchapcbgfaaDoorRows
import GoSem.ClaimSeven
namespace Go.Proofs.YtimmgchapcbgfaaDoor
namespace Rows

/-- THE TIED CARD OF 'treenaillaw10.BlockTexts'. -/
def blockTextsCard : Claim7 := { stood := { row := blockTextsRow, standIns := [], harness := (true, "03548122922c379543484957a88345af8e1a2880fa1d50da661bd3fe12c0ccf1"), looks := false }, kinds := [], alts := [], laidByText := true, laidKinds := [.data, .data, .data, .data], laidTests := true, laidLooks := .later }
def BlockTextsCardSaid : Prop := Claim7.holds Tryd.pinned (.plain (OpenSpec.ofChange blockTextsSpec)) blockTextsCard

/-- THE SECOND FORM's CARD OF 'treenaillaw10.BlockTexts'. -/
def blockTextsUptoCard : Claim7 := { stood := { row := blockTextsUptoRow, standIns := [], harness := (true, "03548122922c379543484957a88345af8e1a2880fa1d50da661bd3fe12c0ccf1"), looks := false }, kinds := [], alts := [], laidByText := true, laidKinds := [.data, .data, .data, .data], laidTests := true, laidLooks := .later }
def BlockTextsUptoCardSaid : Prop := Claim7.holds Tryd.pinned (.plain (OpenSpec.upto blockTextsSpec)) blockTextsUptoCard
end Rows
end Go.Proofs.YtimmgchapcbgfaaDoor
