/-
  DERIVED. GIVEN WITH THE SEED: THE CARDS: each row of YtmpejbdmamgepaaDoorRows.lean that lists a variable, with what it lists TIED to the program's text (the seventh form; the later family's looks); each row that meets fmt, with fmt's text TOLD by the authors' own Lean function (tested against real Go, not proved from fmt's source: count such statements apart). THE CARD IS WHAT COUNTS. Prove the row's statement (the work); the ties are given (YtmpejbdmamgepaaDoorTie.lean); close each card by the builder's one call (the guide's Derived/Test/ToyasCard.lean, 'card_holds'). Laid BY PROGRAM, IN A SANDBOX (cutbox-door.mjs). By AI agents, Wed Nov 11 2026. No macro, syntax, notation, axiom, sorry.
-/
import Derived.Test.YtmpejbdmamgepaaDoorRows
import GoSem.ClaimSeven
namespace Go.Proofs.YtmpejbdmamgepaaDoor
namespace Rows

/-- THE TIED CARD OF 'treenaillaw05.NetChecks'. -/
def netChecksCard : Claim7 := { stood := { row := netChecksRow, standIns := [], harness := (true, "128d2e57780a4cc79b81cb33991b1b17e0651f8b54e1711520ce001720b9d05e"), looks := false }, kinds := [], alts := [], laidByText := true, laidKinds := [.data], laidTests := true, laidLooks := .later }
def NetChecksCardSaid : Prop := Claim7.holds Tryd.pinned (.plain (OpenSpec.ofChange netChecksSpec)) netChecksCard

/-- THE TIED CARD OF 'treenaillaw05.NetFlows'. -/
def netFlowsCard : Claim7 := { stood := { row := netFlowsRow, standIns := [], harness := (true, "128d2e57780a4cc79b81cb33991b1b17e0651f8b54e1711520ce001720b9d05e"), looks := false }, kinds := [], alts := [], laidByText := true, laidKinds := [.data], laidTests := true, laidLooks := .later }
def NetFlowsCardSaid : Prop := Claim7.holds Tryd.pinned (.plain (OpenSpec.ofChange netFlowsSpec)) netFlowsCard

/-- THE TIED CARD OF 'treenaillaw05.NetCopies'. -/
def netCopiesCard : Claim7 := { stood := { row := netCopiesRow, standIns := [], harness := (true, "128d2e57780a4cc79b81cb33991b1b17e0651f8b54e1711520ce001720b9d05e"), looks := false }, kinds := [], alts := [], laidByText := true, laidKinds := [.data], laidTests := true, laidLooks := .later }
def NetCopiesCardSaid : Prop := Claim7.holds Tryd.pinned (.plain (OpenSpec.ofChange netCopiesSpec)) netCopiesCard

/-- THE TIED CARD OF 'treenaillaw05.NetSums'. -/
def netSumsCard : Claim7 := { stood := { row := netSumsRow, standIns := [], harness := (true, "128d2e57780a4cc79b81cb33991b1b17e0651f8b54e1711520ce001720b9d05e"), looks := false }, kinds := [], alts := [], laidByText := true, laidKinds := [.data], laidTests := true, laidLooks := .later }
def NetSumsCardSaid : Prop := Claim7.holds Tryd.pinned (.plain (OpenSpec.ofChange netSumsSpec)) netSumsCard

/-- THE TIED CARD OF 'treenaillaw05.NetRoads'. -/
def netRoadsCard : Claim7 := { stood := { row := netRoadsRow, standIns := [], harness := (true, "128d2e57780a4cc79b81cb33991b1b17e0651f8b54e1711520ce001720b9d05e"), looks := false }, kinds := [], alts := [], laidByText := true, laidKinds := [.data], laidTests := true, laidLooks := .later }
def NetRoadsCardSaid : Prop := Claim7.holds Tryd.pinned (.plain (OpenSpec.ofChange netRoadsSpec)) netRoadsCard

/-- THE TIED CARD OF 'treenaillaw05.NetAll'. -/
def netAllCard : Claim7 := { stood := { row := netAllRow, standIns := [], harness := (true, "128d2e57780a4cc79b81cb33991b1b17e0651f8b54e1711520ce001720b9d05e"), looks := false }, kinds := [], alts := [], laidByText := true, laidKinds := [.data], laidTests := true, laidLooks := .later }
def NetAllCardSaid : Prop := Claim7.holds Tryd.pinned (.plain (OpenSpec.ofChange netAllSpec)) netAllCard

/-- THE SECOND FORM's CARD OF 'treenaillaw05.NetChecks'. -/
def netChecksUptoCard : Claim7 := { stood := { row := netChecksUptoRow, standIns := [], harness := (true, "128d2e57780a4cc79b81cb33991b1b17e0651f8b54e1711520ce001720b9d05e"), looks := false }, kinds := [], alts := [], laidByText := true, laidKinds := [.data], laidTests := true, laidLooks := .later }
def NetChecksUptoCardSaid : Prop := Claim7.holds Tryd.pinned (.plain (OpenSpec.upto netChecksSpec)) netChecksUptoCard

/-- THE SECOND FORM's CARD OF 'treenaillaw05.NetFlows'. -/
def netFlowsUptoCard : Claim7 := { stood := { row := netFlowsUptoRow, standIns := [], harness := (true, "128d2e57780a4cc79b81cb33991b1b17e0651f8b54e1711520ce001720b9d05e"), looks := false }, kinds := [], alts := [], laidByText := true, laidKinds := [.data], laidTests := true, laidLooks := .later }
def NetFlowsUptoCardSaid : Prop := Claim7.holds Tryd.pinned (.plain (OpenSpec.upto netFlowsSpec)) netFlowsUptoCard

/-- THE SECOND FORM's CARD OF 'treenaillaw05.NetCopies'. -/
def netCopiesUptoCard : Claim7 := { stood := { row := netCopiesUptoRow, standIns := [], harness := (true, "128d2e57780a4cc79b81cb33991b1b17e0651f8b54e1711520ce001720b9d05e"), looks := false }, kinds := [], alts := [], laidByText := true, laidKinds := [.data], laidTests := true, laidLooks := .later }
def NetCopiesUptoCardSaid : Prop := Claim7.holds Tryd.pinned (.plain (OpenSpec.upto netCopiesSpec)) netCopiesUptoCard

/-- THE SECOND FORM's CARD OF 'treenaillaw05.NetSums'. -/
def netSumsUptoCard : Claim7 := { stood := { row := netSumsUptoRow, standIns := [], harness := (true, "128d2e57780a4cc79b81cb33991b1b17e0651f8b54e1711520ce001720b9d05e"), looks := false }, kinds := [], alts := [], laidByText := true, laidKinds := [.data], laidTests := true, laidLooks := .later }
def NetSumsUptoCardSaid : Prop := Claim7.holds Tryd.pinned (.plain (OpenSpec.upto netSumsSpec)) netSumsUptoCard

/-- THE SECOND FORM's CARD OF 'treenaillaw05.NetRoads'. -/
def netRoadsUptoCard : Claim7 := { stood := { row := netRoadsUptoRow, standIns := [], harness := (true, "128d2e57780a4cc79b81cb33991b1b17e0651f8b54e1711520ce001720b9d05e"), looks := false }, kinds := [], alts := [], laidByText := true, laidKinds := [.data], laidTests := true, laidLooks := .later }
def NetRoadsUptoCardSaid : Prop := Claim7.holds Tryd.pinned (.plain (OpenSpec.upto netRoadsSpec)) netRoadsUptoCard

/-- THE SECOND FORM's CARD OF 'treenaillaw05.NetAll'. -/
def netAllUptoCard : Claim7 := { stood := { row := netAllUptoRow, standIns := [], harness := (true, "128d2e57780a4cc79b81cb33991b1b17e0651f8b54e1711520ce001720b9d05e"), looks := false }, kinds := [], alts := [], laidByText := true, laidKinds := [.data], laidTests := true, laidLooks := .later }
def NetAllUptoCardSaid : Prop := Claim7.holds Tryd.pinned (.plain (OpenSpec.upto netAllSpec)) netAllUptoCard
end Rows
end Go.Proofs.YtmpejbdmamgepaaDoor
