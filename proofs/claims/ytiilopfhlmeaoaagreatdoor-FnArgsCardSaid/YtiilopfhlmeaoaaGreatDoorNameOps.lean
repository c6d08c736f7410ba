import Derived.Test.YtiilopfhlmeaoaaGreatDoorProg
import Derived.Test.YtiilopfhlmeaoaaGreatDoorStrRow
import Derived.Test.YtiilopfhlmeaoaaGreatDoorArgMath2
import Derived.Test.YtiilopfhlmeaoaaGreatDoorHas
import Derived.Test.YtiilopfhlmeaoaaGreatDoorShelf
import Derived.Lib.Hide
/-
  IndexOf and Without, the model's and the program's.
-/
namespace Go.Proofs.YtiilopfhlmeaoaaGreatDoor
open Go.RowKit
namespace StrK
/-- A new slice of these strings has been handed back. -/
def Gave (w : World) (ss : List ByteArray) (e : Ending) (w' : World) : Prop :=
  ∃ A cap, e = .returned (.slice A ss.length cap) ∧ SRow w' A ss ∧ Free w' A ss.length ∧ Below w.heap.size w w' ∧ (∀ a, A = some a → w.heap.size ≤ a.block) ∧ ss.length ≤ cap
end StrK
namespace NameS

theorem stringInfo : (Tryz.prog.info? 9).map (fun i => (i.zero, i.size, i.bytes)) = some (some (.string ByteArray.empty), 1, 16) := by kernel_rfl

end NameS
end Go.Proofs.YtiilopfhlmeaoaaGreatDoor
