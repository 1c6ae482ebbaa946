import Derived.Test.YtenaelpdnccgnaaGreatDoorRAcRSmall
import Derived.Test.YtenaelpdnccgnaaGreatDoorRNtTake
set_option maxRecDepth 100000
set_option maxHeartbeats 32000000
namespace Go.Proofs
open Go.RowKit Go.Shelf
end Go.Proofs
