import Derived.Test.YtcdlgebbmcdadaaGreatDoorProg
import Derived.Test.YtcdlgebbmcdadaaGreatDoorStrRow
import Derived.Test.YtcdlgebbmcdadaaGreatDoorArgMath
import Derived.Test.YtcdlgebbmcdadaaGreatDoorHas
import Derived.Test.YtcdlgebbmcdadaaGreatDoorShelf
import Derived.Lib.Hide
/-
  IndexOf and Without, the model's and the program's.
-/
namespace Go.Proofs.YtcdlgebbmcdadaaGreatDoor
open Go.RowKit
namespace StrK
/-- A new slice of these strings has been handed back. -/
def Gave (w : World) (ss : List ByteArray) (e : Ending) (w' : World) : Prop :=
  ∃ A cap, e = .returned (.slice A ss.length cap) ∧ SRow w' A ss ∧ Free w' A ss.length ∧ Below w.heap.size w w' ∧ (∀ a, A = some a → w.heap.size ≤ a.block) ∧ ss.length ≤ cap
end StrK
namespace NameS

end NameS
end Go.Proofs.YtcdlgebbmcdadaaGreatDoor
