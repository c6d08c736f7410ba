import Derived.Test.YtbdpohcababccaaSysOwn
import Derived.Test.YtbdpohcababccaaLinImpl4
import Derived.Test.YtbdpohcababccaaLinImpl2
/-
  The program's systems: validity, satisfaction, comparison.
-/
namespace Go.Proofs.Ytbdpohcababccaa
open Go.RowKit
namespace SysI
open RowK Mem LinM

/-- The row's value is there and not negative. -/
def okRow (vs : List Int) (x : Int × List Int) : Bool := (evalL x.1 x.2 vs).isSome && decide (0 ≤ (evalL x.1 x.2 vs).getD 0)
end SysI
end Go.Proofs.Ytbdpohcababccaa
