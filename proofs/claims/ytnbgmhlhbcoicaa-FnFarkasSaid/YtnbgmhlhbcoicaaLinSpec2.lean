import Derived.Test.YtnbgmhlhbcoicaaLinSpec
import Derived.Test.YtnbgmhlhbcoicaaLinImpl2
import Derived.Deep.RegionHeld3
import Derived.RegionTactic
import Derived.ChangeAlike
import Derived.Deep.RegionLaw
import Derived.Deep.AppendLies
import Derived.Test.YtnbgmhlhbcoicaaAppend
/-
  The model's linear expressions: copies, tightened constraints.
-/
namespace Go.Proofs.Ytnbgmhlhbcoicaa
open Go.RowKit
namespace LinS
open RowK LinM ArithM

end LinS
end Go.Proofs.Ytnbgmhlhbcoicaa
