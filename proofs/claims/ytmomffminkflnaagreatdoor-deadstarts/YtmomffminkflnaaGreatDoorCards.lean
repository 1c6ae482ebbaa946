/-
  DERIVED. GIVEN WITH THE SEED: THE CARDS: each row of YtmomffminkflnaaGreatDoorRows.lean that lists a variable, with what it lists TIED to the program's text (the seventh form; the later family's looks); each row that meets fmt, with fmt's text TOLD by the authors' own Lean function (tested against real Go, not proved from fmt's source: count such statements apart). THE CARD IS WHAT COUNTS. Prove the row's statement (the work); the ties are given (YtmomffminkflnaaGreatDoorTie.lean); close each card by the builder's one call (the guide's Derived/Test/ToyasCard.lean, 'card_holds'). Laid BY PROGRAM, IN A SANDBOX (cutbox-door.mjs). By AI agents, Wed Nov 11 2026. No macro, syntax, notation, axiom, sorry.
-/
import Derived.Test.YtmomffminkflnaaGreatDoorRows
import GoSem.ClaimSeven
namespace Go.Proofs.YtmomffminkflnaaGreatDoor
namespace Rows

/-- THE TIED CARD OF 'treenaillaw19.DeadStarts'. -/
def deadStartsCard : Claim7 := { stood := { row := deadStartsRow, standIns := [], harness := (true, "fb23f65eb122b90af3d5fd8b950e7de28209f3a0ae6a621c30c68ce5f1f04af1"), looks := false }, kinds := [], alts := [], laidByText := true, laidKinds := [.data], laidTests := true, laidLooks := .later }
def DeadStartsCardSaid : Prop := Claim7.holds Tryz.pinned (.plain (OpenSpec.ofChange deadStartsSpec)) deadStartsCard

/-- THE TIED CARD OF 'treenaillaw19.DeadFinishes'. -/
def deadFinishesCard : Claim7 := { stood := { row := deadFinishesRow, standIns := [], harness := (true, "fb23f65eb122b90af3d5fd8b950e7de28209f3a0ae6a621c30c68ce5f1f04af1"), looks := false }, kinds := [], alts := [], laidByText := true, laidKinds := [.data], laidTests := true, laidLooks := .later }
def DeadFinishesCardSaid : Prop := Claim7.holds Tryz.pinned (.plain (OpenSpec.ofChange deadFinishesSpec)) deadFinishesCard

/-- THE TIED CARD OF 'treenaillaw19.DeadChooses'. -/
def deadChoosesCard : Claim7 := { stood := { row := deadChoosesRow, standIns := [], harness := (true, "fb23f65eb122b90af3d5fd8b950e7de28209f3a0ae6a621c30c68ce5f1f04af1"), looks := false }, kinds := [], alts := [], laidByText := true, laidKinds := [.data], laidTests := true, laidLooks := .later }
def DeadChoosesCardSaid : Prop := Claim7.holds Tryz.pinned (.plain (OpenSpec.ofChange deadChoosesSpec)) deadChoosesCard

/-- THE TIED CARD OF 'treenaillaw19.DeadRuns'. -/
def deadRunsCard : Claim7 := { stood := { row := deadRunsRow, standIns := [], harness := (true, "fb23f65eb122b90af3d5fd8b950e7de28209f3a0ae6a621c30c68ce5f1f04af1"), looks := false }, kinds := [], alts := [], laidByText := true, laidKinds := [.data], laidTests := true, laidLooks := .later }
def DeadRunsCardSaid : Prop := Claim7.holds Tryz.pinned (.plain (OpenSpec.ofChange deadRunsSpec)) deadRunsCard

/-- THE TIED CARD OF 'treenaillaw19.DeadEnds'. -/
def deadEndsCard : Claim7 := { stood := { row := deadEndsRow, standIns := [], harness := (true, "fb23f65eb122b90af3d5fd8b950e7de28209f3a0ae6a621c30c68ce5f1f04af1"), looks := false }, kinds := [], alts := [], laidByText := true, laidKinds := [.data], laidTests := true, laidLooks := .later }
def DeadEndsCardSaid : Prop := Claim7.holds Tryz.pinned (.plain (OpenSpec.ofChange deadEndsSpec)) deadEndsCard

/-- THE TIED CARD OF 'treenaillaw19.DeadOrders'. -/
def deadOrdersCard : Claim7 := { stood := { row := deadOrdersRow, standIns := [], harness := (true, "fb23f65eb122b90af3d5fd8b950e7de28209f3a0ae6a621c30c68ce5f1f04af1"), looks := false }, kinds := [], alts := [], laidByText := true, laidKinds := [.data], laidTests := true, laidLooks := .later }
def DeadOrdersCardSaid : Prop := Claim7.holds Tryz.pinned (.plain (OpenSpec.ofChange deadOrdersSpec)) deadOrdersCard

/-- THE SECOND FORM's CARD OF 'treenaillaw19.DeadStarts'. -/
def deadStartsUptoCard : Claim7 := { stood := { row := deadStartsUptoRow, standIns := [], harness := (true, "fb23f65eb122b90af3d5fd8b950e7de28209f3a0ae6a621c30c68ce5f1f04af1"), looks := false }, kinds := [], alts := [], laidByText := true, laidKinds := [.data], laidTests := true, laidLooks := .later }
def DeadStartsUptoCardSaid : Prop := Claim7.holds Tryz.pinned (.plain (OpenSpec.upto deadStartsSpec)) deadStartsUptoCard

/-- THE SECOND FORM's CARD OF 'treenaillaw19.DeadFinishes'. -/
def deadFinishesUptoCard : Claim7 := { stood := { row := deadFinishesUptoRow, standIns := [], harness := (true, "fb23f65eb122b90af3d5fd8b950e7de28209f3a0ae6a621c30c68ce5f1f04af1"), looks := false }, kinds := [], alts := [], laidByText := true, laidKinds := [.data], laidTests := true, laidLooks := .later }
def DeadFinishesUptoCardSaid : Prop := Claim7.holds Tryz.pinned (.plain (OpenSpec.upto deadFinishesSpec)) deadFinishesUptoCard

/-- THE SECOND FORM's CARD OF 'treenaillaw19.DeadChooses'. -/
def deadChoosesUptoCard : Claim7 := { stood := { row := deadChoosesUptoRow, standIns := [], harness := (true, "fb23f65eb122b90af3d5fd8b950e7de28209f3a0ae6a621c30c68ce5f1f04af1"), looks := false }, kinds := [], alts := [], laidByText := true, laidKinds := [.data], laidTests := true, laidLooks := .later }
def DeadChoosesUptoCardSaid : Prop := Claim7.holds Tryz.pinned (.plain (OpenSpec.upto deadChoosesSpec)) deadChoosesUptoCard

/-- THE SECOND FORM's CARD OF 'treenaillaw19.DeadRuns'. -/
def deadRunsUptoCard : Claim7 := { stood := { row := deadRunsUptoRow, standIns := [], harness := (true, "fb23f65eb122b90af3d5fd8b950e7de28209f3a0ae6a621c30c68ce5f1f04af1"), looks := false }, kinds := [], alts := [], laidByText := true, laidKinds := [.data], laidTests := true, laidLooks := .later }
def DeadRunsUptoCardSaid : Prop := Claim7.holds Tryz.pinned (.plain (OpenSpec.upto deadRunsSpec)) deadRunsUptoCard

/-- THE SECOND FORM's CARD OF 'treenaillaw19.DeadEnds'. -/
def deadEndsUptoCard : Claim7 := { stood := { row := deadEndsUptoRow, standIns := [], harness := (true, "fb23f65eb122b90af3d5fd8b950e7de28209f3a0ae6a621c30c68ce5f1f04af1"), looks := false }, kinds := [], alts := [], laidByText := true, laidKinds := [.data], laidTests := true, laidLooks := .later }
def DeadEndsUptoCardSaid : Prop := Claim7.holds Tryz.pinned (.plain (OpenSpec.upto deadEndsSpec)) deadEndsUptoCard

/-- THE SECOND FORM's CARD OF 'treenaillaw19.DeadOrders'. -/
def deadOrdersUptoCard : Claim7 := { stood := { row := deadOrdersUptoRow, standIns := [], harness := (true, "fb23f65eb122b90af3d5fd8b950e7de28209f3a0ae6a621c30c68ce5f1f04af1"), looks := false }, kinds := [], alts := [], laidByText := true, laidKinds := [.data], laidTests := true, laidLooks := .later }
def DeadOrdersUptoCardSaid : Prop := Claim7.holds Tryz.pinned (.plain (OpenSpec.upto deadOrdersSpec)) deadOrdersUptoCard
end Rows
end Go.Proofs.YtmomffminkflnaaGreatDoor
