import Derived.Test.YtenaelpdnccgnaaGreatDoorRAcRConds
import Derived.Test.YtenaelpdnccgnaaGreatDoorRAcRLink
import Derived.Test.YtenaelpdnccgnaaGreatDoorRNtRef6
set_option maxRecDepth 100000
set_option maxHeartbeats 32000000
namespace Go.Proofs
open Go.RowKit Go.Shelf
def Ac.NumP (k a b:Int)(nk nc:Nat)(ot cA cB:Bool)(L:Prop)(N:Nat):Prop:=
 k=1∨k=5∨((k=2∨k=4)/\0<=a/\a<=3)∨(k=3/\(0<=a/\a<=3)/\ot=true)∨((k=6∨k=7∨k=9)/\2<=nk)∨
 (k=8/\2<=nk/\nc=nk/\cA=true)∨(k=10/\nk=1/\0<=a/\a<=4)∨(k=11/\nk=2/\nc=2/\cA=true/\(b=0∨b=1))∨(k=12/\a=3/\2<=nc/\cB=true)∨(k=12/\a≠3/\1<=a/\a<=4)∨
 (k=13/\1<=nk/\L)∨(k=14/\N=0)
namespace Ac
section
variable {a b:Int} {nk nc:Nat} {ot cA cB:Bool} {L:Prop} {N:Nat}
end
end Ac
end Go.Proofs
