import Derived.Test.YtmkelfjnjnjgbaaLinSpec
import Derived.Test.YtmkelfjnjnjgbaaLinImpl2
import Derived.Deep.RegionHeld3
import Derived.RegionTactic
import Derived.ChangeAlike
import Derived.Deep.RegionLaw
import Derived.Deep.AppendLies
import Derived.Test.YtmkelfjnjnjgbaaAppend2
/-
  The model's linear expressions: copies, tightened constraints.
-/
namespace Go.Proofs.Ytmkelfjnjnjgbaa
open Go.RowKit
namespace LinS
open RowK LinM ArithM

end LinS
end Go.Proofs.Ytmkelfjnjnjgbaa
