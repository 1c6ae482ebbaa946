/-
  DERIVED. GIVEN WITH THE SEED: THE CARDS: each row of YtomcaophaglljaaDoorRows.lean that lists a variable, with what it lists TIED to the program's text (the seventh form; the later family's looks); each row that meets fmt, with fmt's text TOLD by the authors' own Lean function (tested against real Go, not proved from fmt's source: count such statements apart). THE CARD IS WHAT COUNTS. Prove the row's statement (the work); the ties are given (YtomcaophaglljaaDoorTie.lean); close each card by the builder's one call (the guide's Derived/Test/ToyasCard.lean, 'card_holds'). Laid BY PROGRAM, IN A SANDBOX (cutbox-door.mjs). By AI agents, Wed Nov 11 2026. No macro, syntax, notation, axiom, sorry.
-/
import Derived.Test.YtomcaophaglljaaDoorRows
import GoSem.ClaimSeven
namespace Go.Proofs.YtomcaophaglljaaDoor
namespace Rows

/-- THE TIED CARD OF 'treenaillaw10.BlockTexts'. -/
def blockTextsCard : Claim7 := { stood := { row := blockTextsRow, standIns := [], harness := (true, "a968e86a0365a0e06e89be52160e9e8cf21918baa18aca0437f598811f2bd6de"), looks := false }, kinds := [], alts := [], laidByText := true, laidKinds := [.data, .data, .data, .data], laidTests := true, laidLooks := .later }
def BlockTextsCardSaid : Prop := Claim7.holds Tryd.pinned (.plain (OpenSpec.ofChange blockTextsSpec)) blockTextsCard

/-- THE TIED CARD OF 'treenaillaw10.BlockSame'. -/
def blockSameCard : Claim7 := { stood := { row := blockSameRow, standIns := [], harness := (true, "a968e86a0365a0e06e89be52160e9e8cf21918baa18aca0437f598811f2bd6de"), looks := false }, kinds := [], alts := [], laidByText := true, laidKinds := [.data, .data, .data, .data], laidTests := true, laidLooks := .later }
def BlockSameCardSaid : Prop := Claim7.holds Tryd.pinned (.plain (OpenSpec.ofChange blockSameSpec)) blockSameCard

/-- THE SECOND FORM's CARD OF 'treenaillaw10.BlockTexts'. -/
def blockTextsUptoCard : Claim7 := { stood := { row := blockTextsUptoRow, standIns := [], harness := (true, "a968e86a0365a0e06e89be52160e9e8cf21918baa18aca0437f598811f2bd6de"), looks := false }, kinds := [], alts := [], laidByText := true, laidKinds := [.data, .data, .data, .data], laidTests := true, laidLooks := .later }
def BlockTextsUptoCardSaid : Prop := Claim7.holds Tryd.pinned (.plain (OpenSpec.upto blockTextsSpec)) blockTextsUptoCard

/-- THE SECOND FORM's CARD OF 'treenaillaw10.BlockSame'. -/
def blockSameUptoCard : Claim7 := { stood := { row := blockSameUptoRow, standIns := [], harness := (true, "a968e86a0365a0e06e89be52160e9e8cf21918baa18aca0437f598811f2bd6de"), looks := false }, kinds := [], alts := [], laidByText := true, laidKinds := [.data, .data, .data, .data], laidTests := true, laidLooks := .later }
def BlockSameUptoCardSaid : Prop := Claim7.holds Tryd.pinned (.plain (OpenSpec.upto blockSameSpec)) blockSameUptoCard
end Rows
end Go.Proofs.YtomcaophaglljaaDoor
