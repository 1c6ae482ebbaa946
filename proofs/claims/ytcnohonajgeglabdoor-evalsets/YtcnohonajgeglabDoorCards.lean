/-
  DERIVED. GIVEN WITH THE SEED: THE CARDS: each row of YtcnohonajgeglabDoorRows.lean that lists a variable, with what it lists TIED to the program's text (the seventh form; the later family's looks); each row that meets fmt, with fmt's text TOLD by the authors' own Lean function (tested against real Go, not proved from fmt's source: count such statements apart). THE CARD IS WHAT COUNTS. Prove the row's statement (the work); the ties are given (YtcnohonajgeglabDoorTie.lean); close each card by the builder's one call (the guide's Derived/Test/ToyasCard.lean, 'card_holds'). Laid BY PROGRAM, IN A SANDBOX (cutbox-door.mjs). By AI agents, Wed Nov 11 2026. No macro, syntax, notation, axiom, sorry.
-/
import Derived.Test.YtcnohonajgeglabDoorRows
import GoSem.ClaimSeven
namespace Go.Proofs.YtcnohonajgeglabDoor
namespace Rows

/-- THE TIED CARD OF 'treenaillaw04.EvalTruths'. -/
def evalTruthsCard : Claim7 := { stood := { row := evalTruthsRow, standIns := [], harness := (true, "18cf67062e60e069aa512c1c6d4b7b3112c04c3fa0e7063c2d5ef77cb4f80b1a"), looks := false }, kinds := [], alts := [], laidByText := true, laidKinds := [.data], laidTests := true, laidLooks := .later }
def EvalTruthsCardSaid : Prop := Claim7.holds Tryd.pinned (.plain (OpenSpec.ofChange evalTruthsSpec)) evalTruthsCard

/-- THE TIED CARD OF 'treenaillaw04.EvalSets'. -/
def evalSetsCard : Claim7 := { stood := { row := evalSetsRow, standIns := [], harness := (true, "18cf67062e60e069aa512c1c6d4b7b3112c04c3fa0e7063c2d5ef77cb4f80b1a"), looks := false }, kinds := [], alts := [], laidByText := true, laidKinds := [.data], laidTests := true, laidLooks := .later }
def EvalSetsCardSaid : Prop := Claim7.holds Tryd.pinned (.plain (OpenSpec.ofChange evalSetsSpec)) evalSetsCard

/-- THE TIED CARD OF 'treenaillaw04.EvalTotal'. -/
def evalTotalCard : Claim7 := { stood := { row := evalTotalRow, standIns := [], harness := (true, "18cf67062e60e069aa512c1c6d4b7b3112c04c3fa0e7063c2d5ef77cb4f80b1a"), looks := false }, kinds := [], alts := [], laidByText := true, laidKinds := [.data], laidTests := true, laidLooks := .later }
def EvalTotalCardSaid : Prop := Claim7.holds Tryd.pinned (.plain (OpenSpec.ofChange evalTotalSpec)) evalTotalCard

/-- THE TIED CARD OF 'treenaillaw04.EvalOthers'. -/
def evalOthersCard : Claim7 := { stood := { row := evalOthersRow, standIns := [], harness := (true, "18cf67062e60e069aa512c1c6d4b7b3112c04c3fa0e7063c2d5ef77cb4f80b1a"), looks := false }, kinds := [], alts := [], laidByText := true, laidKinds := [.data], laidTests := true, laidLooks := .later }
def EvalOthersCardSaid : Prop := Claim7.holds Tryd.pinned (.plain (OpenSpec.ofChange evalOthersSpec)) evalOthersCard

/-- THE SECOND FORM's CARD OF 'treenaillaw04.EvalTruths'. -/
def evalTruthsUptoCard : Claim7 := { stood := { row := evalTruthsUptoRow, standIns := [], harness := (true, "18cf67062e60e069aa512c1c6d4b7b3112c04c3fa0e7063c2d5ef77cb4f80b1a"), looks := false }, kinds := [], alts := [], laidByText := true, laidKinds := [.data], laidTests := true, laidLooks := .later }
def EvalTruthsUptoCardSaid : Prop := Claim7.holds Tryd.pinned (.plain (OpenSpec.upto evalTruthsSpec)) evalTruthsUptoCard

/-- THE SECOND FORM's CARD OF 'treenaillaw04.EvalSets'. -/
def evalSetsUptoCard : Claim7 := { stood := { row := evalSetsUptoRow, standIns := [], harness := (true, "18cf67062e60e069aa512c1c6d4b7b3112c04c3fa0e7063c2d5ef77cb4f80b1a"), looks := false }, kinds := [], alts := [], laidByText := true, laidKinds := [.data], laidTests := true, laidLooks := .later }
def EvalSetsUptoCardSaid : Prop := Claim7.holds Tryd.pinned (.plain (OpenSpec.upto evalSetsSpec)) evalSetsUptoCard

/-- THE SECOND FORM's CARD OF 'treenaillaw04.EvalTotal'. -/
def evalTotalUptoCard : Claim7 := { stood := { row := evalTotalUptoRow, standIns := [], harness := (true, "18cf67062e60e069aa512c1c6d4b7b3112c04c3fa0e7063c2d5ef77cb4f80b1a"), looks := false }, kinds := [], alts := [], laidByText := true, laidKinds := [.data], laidTests := true, laidLooks := .later }
def EvalTotalUptoCardSaid : Prop := Claim7.holds Tryd.pinned (.plain (OpenSpec.upto evalTotalSpec)) evalTotalUptoCard

/-- THE SECOND FORM's CARD OF 'treenaillaw04.EvalOthers'. -/
def evalOthersUptoCard : Claim7 := { stood := { row := evalOthersUptoRow, standIns := [], harness := (true, "18cf67062e60e069aa512c1c6d4b7b3112c04c3fa0e7063c2d5ef77cb4f80b1a"), looks := false }, kinds := [], alts := [], laidByText := true, laidKinds := [.data], laidTests := true, laidLooks := .later }
def EvalOthersUptoCardSaid : Prop := Claim7.holds Tryd.pinned (.plain (OpenSpec.upto evalOthersSpec)) evalOthersUptoCard
end Rows
end Go.Proofs.YtcnohonajgeglabDoor
