import Derived.Test.YtenaelpdnccgnaaGreatDoorRAllNtOne
set_option maxRecDepth 100000
set_option maxHeartbeats 32000000
namespace Go.Proofs
open Go.RowKit Go.Shelf
def Nt.elsAt (fs:List Fl)(k:Nat):Bool:=((fs[k]?.map Fl.els).getD false)
def Nt.othAt (ns:List Nd)(fs:List Fl)(k:Nat):Bool:=((fs[k]?.map λf=> !decide (Nt.kindAt ns f.to.toNat=8)).getD false)
end Go.Proofs
