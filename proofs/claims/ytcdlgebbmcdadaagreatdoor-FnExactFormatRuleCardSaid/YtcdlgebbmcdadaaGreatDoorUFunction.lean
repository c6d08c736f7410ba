import Derived.Test.YtcdlgebbmcdadaaGreatDoorRepUni
import Derived.Deep.RegionLaw
import Derived.Deep.RegionHeld3
/-
  The laws' helpers on Function: copies, sizes, comparison, marks (made by tools/ukit.py).
-/
namespace Go.Proofs.YtcdlgebbmcdadaaGreatDoor
open Go.RowKit
namespace Mem
open RowK

abbrev FunctionT := ByteArray × List ByteArray × Bool × List (Int × List Int)
def fn : Rep FunctionT := Rep.prod Rep.str (Rep.prod (Rep.slice Rep.str) (Rep.prod Rep.bool (Rep.slice lin)))
end Mem
end Go.Proofs.YtcdlgebbmcdadaaGreatDoor
