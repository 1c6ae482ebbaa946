import Derived.Test.YtenaelpdnccgnaaGreatDoorRBwAt
import Derived.Test.YtenaelpdnccgnaaGreatDoorRAcFormM
set_option maxRecDepth 100000
set_option maxHeartbeats 32000000
namespace Go.Proofs
open Go.RowKit Go.Shelf
def Ac.hasL (k a:Int):List UInt8:=
 if k=2∨k=4 then [110,97]else if k=3 then [110,97,116]else if k=5 then [110]else if k=6∨k=7 then [107]else if k=8 then [110,97,107,99]
 else if k=9 then [110,107]else if k=10 then [110,97,107]else if k=11 then [110,97,98,107,99]else if k=12 then(if a=3 then [110,97,98,99]else [110,97])
 else if k=13 then [107,108]else if k=14 then [112]else []
def Ac.inB (L:List UInt8)(c:Int):Bool:=L.any λb=>decide ((b.toNat:Int)=c)
end Go.Proofs
