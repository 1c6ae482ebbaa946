/-
  DERIVED. GIVEN WITH THE SEED: THE CARDS: each row of YtiedlccnlkhnkaaDoorRows.lean that lists a variable, with what it lists TIED to the program's text (the seventh form; the later family's looks); each row that meets fmt, with fmt's text TOLD by the authors' own Lean function (tested against real Go, not proved from fmt's source: count such statements apart). THE CARD IS WHAT COUNTS. Prove the row's statement (the work); the ties are given (YtiedlccnlkhnkaaDoorTie.lean); close each card by the builder's one call (the guide's Derived/Test/ToyasCard.lean, 'card_holds'). Laid BY PROGRAM, IN A SANDBOX (cutbox-door.mjs). By AI agents, Wed Nov 11 2026. No macro, syntax, notation, axiom, sorry.
-/
import Derived.Test.YtiedlccnlkhnkaaDoorRows
import GoSem.ClaimSeven
namespace Go.Proofs.YtiedlccnlkhnkaaDoor
namespace Rows

/-- THE TIED CARD OF 'treenaillaw05.NetCopies'. -/
def netCopiesCard : Claim7 := { stood := { row := netCopiesRow, standIns := [], harness := (true, "190bee3c8e6774f914c30c0c5eb6c964dc22e83f513141f9a851434fb5e42ffd"), looks := false }, kinds := [], alts := [], laidByText := true, laidKinds := [.data], laidTests := true, laidLooks := .later }
def NetCopiesCardSaid : Prop := Claim7.holds Tryd.pinned (.plain (OpenSpec.ofChange netCopiesSpec)) netCopiesCard

/-- THE TIED CARD OF 'treenaillaw05.NetAll'. -/
def netAllCard : Claim7 := { stood := { row := netAllRow, standIns := [], harness := (true, "190bee3c8e6774f914c30c0c5eb6c964dc22e83f513141f9a851434fb5e42ffd"), looks := false }, kinds := [], alts := [], laidByText := true, laidKinds := [.data], laidTests := true, laidLooks := .later }
def NetAllCardSaid : Prop := Claim7.holds Tryd.pinned (.plain (OpenSpec.ofChange netAllSpec)) netAllCard

/-- THE TIED CARD OF 'treenaillaw14.RuleAll'. -/
def ruleAllCard : Claim7 := { stood := { row := ruleAllRow, standIns := [], harness := (true, "190bee3c8e6774f914c30c0c5eb6c964dc22e83f513141f9a851434fb5e42ffd"), looks := false }, kinds := [], alts := [], laidByText := true, laidKinds := [.data], laidTests := true, laidLooks := .later }
def RuleAllCardSaid : Prop := Claim7.holds Tryd.pinned (.plain (OpenSpec.ofChange ruleAllSpec)) ruleAllCard

/-- THE TIED CARD OF 'treenaillaw14.RuleDoes'. -/
def ruleDoesCard : Claim7 := { stood := { row := ruleDoesRow, standIns := [], harness := (true, "190bee3c8e6774f914c30c0c5eb6c964dc22e83f513141f9a851434fb5e42ffd"), looks := false }, kinds := [], alts := [], laidByText := true, laidKinds := [.data], laidTests := true, laidLooks := .later }
def RuleDoesCardSaid : Prop := Claim7.holds Tryd.pinned (.plain (OpenSpec.ofChange ruleDoesSpec)) ruleDoesCard

/-- THE TIED CARD OF 'treenaillaw14.RuleCounts'. -/
def ruleCountsCard : Claim7 := { stood := { row := ruleCountsRow, standIns := [], harness := (true, "190bee3c8e6774f914c30c0c5eb6c964dc22e83f513141f9a851434fb5e42ffd"), looks := false }, kinds := [], alts := [], laidByText := true, laidKinds := [.data], laidTests := true, laidLooks := .later }
def RuleCountsCardSaid : Prop := Claim7.holds Tryd.pinned (.plain (OpenSpec.ofChange ruleCountsSpec)) ruleCountsCard

/-- THE SECOND FORM's CARD OF 'treenaillaw05.NetCopies'. -/
def netCopiesUptoCard : Claim7 := { stood := { row := netCopiesUptoRow, standIns := [], harness := (true, "190bee3c8e6774f914c30c0c5eb6c964dc22e83f513141f9a851434fb5e42ffd"), looks := false }, kinds := [], alts := [], laidByText := true, laidKinds := [.data], laidTests := true, laidLooks := .later }
def NetCopiesUptoCardSaid : Prop := Claim7.holds Tryd.pinned (.plain (OpenSpec.upto netCopiesSpec)) netCopiesUptoCard

/-- THE SECOND FORM's CARD OF 'treenaillaw05.NetAll'. -/
def netAllUptoCard : Claim7 := { stood := { row := netAllUptoRow, standIns := [], harness := (true, "190bee3c8e6774f914c30c0c5eb6c964dc22e83f513141f9a851434fb5e42ffd"), looks := false }, kinds := [], alts := [], laidByText := true, laidKinds := [.data], laidTests := true, laidLooks := .later }
def NetAllUptoCardSaid : Prop := Claim7.holds Tryd.pinned (.plain (OpenSpec.upto netAllSpec)) netAllUptoCard

/-- THE SECOND FORM's CARD OF 'treenaillaw14.RuleAll'. -/
def ruleAllUptoCard : Claim7 := { stood := { row := ruleAllUptoRow, standIns := [], harness := (true, "190bee3c8e6774f914c30c0c5eb6c964dc22e83f513141f9a851434fb5e42ffd"), looks := false }, kinds := [], alts := [], laidByText := true, laidKinds := [.data], laidTests := true, laidLooks := .later }
def RuleAllUptoCardSaid : Prop := Claim7.holds Tryd.pinned (.plain (OpenSpec.upto ruleAllSpec)) ruleAllUptoCard

/-- THE SECOND FORM's CARD OF 'treenaillaw14.RuleDoes'. -/
def ruleDoesUptoCard : Claim7 := { stood := { row := ruleDoesUptoRow, standIns := [], harness := (true, "190bee3c8e6774f914c30c0c5eb6c964dc22e83f513141f9a851434fb5e42ffd"), looks := false }, kinds := [], alts := [], laidByText := true, laidKinds := [.data], laidTests := true, laidLooks := .later }
def RuleDoesUptoCardSaid : Prop := Claim7.holds Tryd.pinned (.plain (OpenSpec.upto ruleDoesSpec)) ruleDoesUptoCard

/-- THE SECOND FORM's CARD OF 'treenaillaw14.RuleCounts'. -/
def ruleCountsUptoCard : Claim7 := { stood := { row := ruleCountsUptoRow, standIns := [], harness := (true, "190bee3c8e6774f914c30c0c5eb6c964dc22e83f513141f9a851434fb5e42ffd"), looks := false }, kinds := [], alts := [], laidByText := true, laidKinds := [.data], laidTests := true, laidLooks := .later }
def RuleCountsUptoCardSaid : Prop := Claim7.holds Tryd.pinned (.plain (OpenSpec.upto ruleCountsSpec)) ruleCountsUptoCard
end Rows
end Go.Proofs.YtiedlccnlkhnkaaDoor
