/-
  How much a list of strings holds: plain mathematics.
-/
import Derived.Lib.Join
namespace Go.Proofs.YtkeejkpeniinkaaDoor
namespace StrK

/-- Elements and bytes. -/
def bytesOf (ss : List ByteArray) : Nat := (ss.map ByteArray.size).sum
def total (ss : List ByteArray) : Nat := ss.length + bytesOf ss
/-- What is left of L; -1 where there is less than nothing. -/
def leftOf (L t : Nat) : Int := if t ≤ L then (L : Int) - t else -1

theorem bytesOf_take (ss : List ByteArray) (k : Nat) (h : k < ss.length) : bytesOf (ss.take (k + 1)) = bytesOf (ss.take k) + ss[k].size := by
  unfold bytesOf
  rw [List.take_add_one, List.getElem?_eq_getElem h, List.map_append, List.sum_append]
  simp
theorem bytesOf_le (ss : List ByteArray) (k : Nat) : bytesOf (ss.take k) ≤ bytesOf ss := by
  unfold bytesOf
  conv => rhs; rw [← List.take_append_drop k ss, List.map_append, List.sum_append]
  omega

end StrK
end Go.Proofs.YtkeejkpeniinkaaDoor
