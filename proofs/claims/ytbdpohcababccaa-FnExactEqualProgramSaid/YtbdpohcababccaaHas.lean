import Derived.Test.YtbdpohcababccaaProg
import Derived.Test.YtbdpohcababccaaStrRow
import Derived.Test.YtbdpohcababccaaNameMath
import Derived.Lib.Strings
import Derived.Lib.SlicesS
import Derived.Lib.Hide
/-
  The model's search in a slice of strings, and in the list of the reserved words.
-/
namespace Go.Proofs.Ytbdpohcababccaa
open Go.RowKit
namespace NameS
theorem ret_bool {a b : Bool} (h : a = b) : Ending.returned (.bool a) = .returned (.bool b) := by rw [h]

theorem cells1 : Try.prog.cellsOf 9 = 1 := by kernel_rfl

end NameS
end Go.Proofs.Ytbdpohcababccaa
