/-
  DERIVED. GIVEN WITH THE SEED: THE CARDS: each row of YtenaelpdnccgnaaGreatDoorRows.lean that lists a variable, with what it lists TIED to the program's text (the seventh form; the later family's looks); each row that meets fmt, with fmt's text TOLD by the authors' own Lean function (tested against real Go, not proved from fmt's source: count such statements apart). THE CARD IS WHAT COUNTS. Prove the row's statement (the work); the ties are given (YtenaelpdnccgnaaGreatDoorTie.lean); close each card by the builder's one call (the guide's Derived/Test/ToyasCard.lean, 'card_holds'). Laid BY PROGRAM, IN A SANDBOX (cutbox-door.mjs). By AI agents, Wed Nov 11 2026. No macro, syntax, notation, axiom, sorry.
-/
import Derived.Test.YtenaelpdnccgnaaGreatDoorRows
import GoSem.ClaimSeven
namespace Go.Proofs.YtenaelpdnccgnaaGreatDoor
namespace Rows

/-- THE TIED CARD OF 'treenaillaw16.BpelChecks'. -/
def bpelChecksCard : Claim7 := { stood := { row := bpelChecksRow, standIns := [], harness := (true, "7664320bc700f62df0d9075a92336598de7fc8155116a9d1909fd13110bd57d3"), looks := false }, kinds := [], alts := [], laidByText := true, laidKinds := [.data], laidTests := true, laidLooks := .later }
def BpelChecksCardSaid : Prop := Claim7.holds Tryz.pinned (.plain (OpenSpec.ofChange bpelChecksSpec)) bpelChecksCard

/-- THE TIED CARD OF 'treenaillaw16.BpelItems'. -/
def bpelItemsCard : Claim7 := { stood := { row := bpelItemsRow, standIns := [], harness := (true, "7664320bc700f62df0d9075a92336598de7fc8155116a9d1909fd13110bd57d3"), looks := false }, kinds := [], alts := [], laidByText := true, laidKinds := [.data], laidTests := true, laidLooks := .later }
def BpelItemsCardSaid : Prop := Claim7.holds Tryz.pinned (.plain (OpenSpec.ofChange bpelItemsSpec)) bpelItemsCard

/-- THE TIED CARD OF 'treenaillaw16.BpelAwaits'. -/
def bpelAwaitsCard : Claim7 := { stood := { row := bpelAwaitsRow, standIns := [], harness := (true, "7664320bc700f62df0d9075a92336598de7fc8155116a9d1909fd13110bd57d3"), looks := false }, kinds := [], alts := [], laidByText := true, laidKinds := [.data], laidTests := true, laidLooks := .later }
def BpelAwaitsCardSaid : Prop := Claim7.holds Tryz.pinned (.plain (OpenSpec.ofChange bpelAwaitsSpec)) bpelAwaitsCard

/-- THE TIED CARD OF 'treenaillaw16.BpelSame'. -/
def bpelSameCard : Claim7 := { stood := { row := bpelSameRow, standIns := [], harness := (true, "7664320bc700f62df0d9075a92336598de7fc8155116a9d1909fd13110bd57d3"), looks := false }, kinds := [], alts := [], laidByText := true, laidKinds := [.data], laidTests := true, laidLooks := .later }
def BpelSameCardSaid : Prop := Claim7.holds Tryz.pinned (.plain (OpenSpec.ofChange bpelSameSpec)) bpelSameCard

/-- THE TIED CARD OF 'treenaillaw16.BpelParts'. -/
def bpelPartsCard : Claim7 := { stood := { row := bpelPartsRow, standIns := [], harness := (true, "7664320bc700f62df0d9075a92336598de7fc8155116a9d1909fd13110bd57d3"), looks := false }, kinds := [], alts := [], laidByText := true, laidKinds := [.data], laidTests := true, laidLooks := .later }
def BpelPartsCardSaid : Prop := Claim7.holds Tryz.pinned (.plain (OpenSpec.ofChange bpelPartsSpec)) bpelPartsCard

/-- THE TIED CARD OF 'treenaillaw16.BpelRow'. -/
def bpelRowCard : Claim7 := { stood := { row := bpelRowRow, standIns := [], harness := (true, "7664320bc700f62df0d9075a92336598de7fc8155116a9d1909fd13110bd57d3"), looks := false }, kinds := [], alts := [], laidByText := true, laidKinds := [.data], laidTests := true, laidLooks := .later }
def BpelRowCardSaid : Prop := Claim7.holds Tryz.pinned (.plain (OpenSpec.ofChange bpelRowSpec)) bpelRowCard

/-- THE SECOND FORM's CARD OF 'treenaillaw16.BpelChecks'. -/
def bpelChecksUptoCard : Claim7 := { stood := { row := bpelChecksUptoRow, standIns := [], harness := (true, "7664320bc700f62df0d9075a92336598de7fc8155116a9d1909fd13110bd57d3"), looks := false }, kinds := [], alts := [], laidByText := true, laidKinds := [.data], laidTests := true, laidLooks := .later }
def BpelChecksUptoCardSaid : Prop := Claim7.holds Tryz.pinned (.plain (OpenSpec.upto bpelChecksSpec)) bpelChecksUptoCard

/-- THE SECOND FORM's CARD OF 'treenaillaw16.BpelItems'. -/
def bpelItemsUptoCard : Claim7 := { stood := { row := bpelItemsUptoRow, standIns := [], harness := (true, "7664320bc700f62df0d9075a92336598de7fc8155116a9d1909fd13110bd57d3"), looks := false }, kinds := [], alts := [], laidByText := true, laidKinds := [.data], laidTests := true, laidLooks := .later }
def BpelItemsUptoCardSaid : Prop := Claim7.holds Tryz.pinned (.plain (OpenSpec.upto bpelItemsSpec)) bpelItemsUptoCard

/-- THE SECOND FORM's CARD OF 'treenaillaw16.BpelAwaits'. -/
def bpelAwaitsUptoCard : Claim7 := { stood := { row := bpelAwaitsUptoRow, standIns := [], harness := (true, "7664320bc700f62df0d9075a92336598de7fc8155116a9d1909fd13110bd57d3"), looks := false }, kinds := [], alts := [], laidByText := true, laidKinds := [.data], laidTests := true, laidLooks := .later }
def BpelAwaitsUptoCardSaid : Prop := Claim7.holds Tryz.pinned (.plain (OpenSpec.upto bpelAwaitsSpec)) bpelAwaitsUptoCard

/-- THE SECOND FORM's CARD OF 'treenaillaw16.BpelSame'. -/
def bpelSameUptoCard : Claim7 := { stood := { row := bpelSameUptoRow, standIns := [], harness := (true, "7664320bc700f62df0d9075a92336598de7fc8155116a9d1909fd13110bd57d3"), looks := false }, kinds := [], alts := [], laidByText := true, laidKinds := [.data], laidTests := true, laidLooks := .later }
def BpelSameUptoCardSaid : Prop := Claim7.holds Tryz.pinned (.plain (OpenSpec.upto bpelSameSpec)) bpelSameUptoCard

/-- THE SECOND FORM's CARD OF 'treenaillaw16.BpelParts'. -/
def bpelPartsUptoCard : Claim7 := { stood := { row := bpelPartsUptoRow, standIns := [], harness := (true, "7664320bc700f62df0d9075a92336598de7fc8155116a9d1909fd13110bd57d3"), looks := false }, kinds := [], alts := [], laidByText := true, laidKinds := [.data], laidTests := true, laidLooks := .later }
def BpelPartsUptoCardSaid : Prop := Claim7.holds Tryz.pinned (.plain (OpenSpec.upto bpelPartsSpec)) bpelPartsUptoCard

/-- THE SECOND FORM's CARD OF 'treenaillaw16.BpelRow'. -/
def bpelRowUptoCard : Claim7 := { stood := { row := bpelRowUptoRow, standIns := [], harness := (true, "7664320bc700f62df0d9075a92336598de7fc8155116a9d1909fd13110bd57d3"), looks := false }, kinds := [], alts := [], laidByText := true, laidKinds := [.data], laidTests := true, laidLooks := .later }
def BpelRowUptoCardSaid : Prop := Claim7.holds Tryz.pinned (.plain (OpenSpec.upto bpelRowSpec)) bpelRowUptoCard
end Rows
end Go.Proofs.YtenaelpdnccgnaaGreatDoor
