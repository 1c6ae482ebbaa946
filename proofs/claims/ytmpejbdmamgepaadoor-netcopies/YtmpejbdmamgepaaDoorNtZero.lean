/-
  The zero value of 24 joints, for seats whose program isn't loaded in parts (there it is given under the same names).
-/
import Derived.Test.YtmpejbdmamgepaaDoorNtSmall
namespace Go.Proofs


end Go.Proofs
