/-
  The model's linear expressions: copies, tightened constraints.
-/
import Derived.Test.YtkeejkpeniinkaaLinSpec
import Derived.Test.YtkeejkpeniinkaaLinImpl2
import Derived.Deep.RegionHeld3
import Derived.RegionTactic
import Derived.ChangeAlike
import Derived.Deep.RegionLaw
import Derived.Deep.AppendLies
import Derived.Test.YtkeejkpeniinkaaAppend
namespace Go.Proofs.Ytkeejkpeniinkaa
open Go.RowKit
namespace LinS
open RowK LinM ArithM

end LinS
end Go.Proofs.Ytkeejkpeniinkaa
