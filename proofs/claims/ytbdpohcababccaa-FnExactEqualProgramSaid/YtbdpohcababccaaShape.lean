import Derived.Test.YtbdpohcababccaaProg
import Derived.Test.YtbdpohcababccaaNameMath
import Derived.Test.YtbdpohcababccaaHas
import Derived.Test.YtbdpohcababccaaResv
import Derived.Lib.Hide
/-
  Which texts are valid names, which are names of lists: the model's answer and the program's.
-/
namespace Go.Proofs.Ytbdpohcababccaa
open Go.RowKit
namespace NameS

theorem at_data (s : ByteArray) (k : Nat) (h : k < s.size) : s.data.toList[k]? = some s[k] := by
  rw [List.getElem?_eq_getElem (by simpa using h)]; rfl

theorem valid_no {s : ByteArray} (h : s.size = 0 ∨ 8 < s.size ∨ NameM.shape s.data.toList = false) : NameM.validName s = false := by
  rcases h with h | h | h
  · have : NameM.shape s.data.toList = false := by
      cases h' : NameM.shape s.data.toList with
      | false => rfl
      | true => have := NameM.shape_pos h'; omega
    simp [NameM.validName, this]
  · simp [NameM.validName]; omega
  · simp [NameM.validName, h]

theorem last_at (s : ByteArray) (h : 0 < s.size) : s.data.toList.getLast? = some (s[s.size - 1]'(by omega)) := by
  rw [List.getLast?_eq_getElem?]
  have : s.data.toList.length = s.size := by simp
  rw [this]
  exact at_data s (s.size - 1) (by omega)

end NameS
end Go.Proofs.Ytbdpohcababccaa
