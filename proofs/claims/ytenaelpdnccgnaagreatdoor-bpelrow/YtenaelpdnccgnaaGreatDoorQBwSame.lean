import Derived.Test.YtenaelpdnccgnaaGreatDoorQAcFormed
set_option maxRecDepth 100000
set_option maxHeartbeats 32000000
namespace Go.Proofs
open Go.RowKit Go.Shelf
theorem Bw.rinfo:(Tryz.prog.info? 44).map (·.size)=some 12:=by kernel_rfl
end Go.Proofs
