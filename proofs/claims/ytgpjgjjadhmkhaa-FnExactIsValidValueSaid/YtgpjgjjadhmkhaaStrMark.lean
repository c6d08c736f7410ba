import Derived.Test.YtgpjgjjadhmkhaaKit
import Derived.Test.YtgpjgjjadhmkhaaFmtMath
import Derived.Test.YtgpjgjjadhmkhaaStrRow
import Derived.Lib.Hide
import Derived.Deep.RegionHeld3
/-
  The helpers that write marks into a slice of strings and ask for them.
-/
namespace Go.Proofs.Ytgpjgjjadhmkhaa
open Go.RowKit
namespace StrK

/-- The text of mark k. -/
def mt (k : Nat) : ByteArray := ⟨(109 :: FmtM.dg0 k).toArray⟩

/-- The marks from k on. -/
def marks (k n : Nat) : List ByteArray := (List.range n).map fun j => mt (k + j)
theorem marks_length (k n : Nat) : (marks k n).length = n := by simp [marks]
theorem marks_at {k n j : Nat} (h : j < n) : (marks k n)[j]? = some (mt (k + j)) := by
  rw [marks, List.getElem?_map, List.getElem?_range h]; rfl

end StrK
end Go.Proofs.Ytgpjgjjadhmkhaa
