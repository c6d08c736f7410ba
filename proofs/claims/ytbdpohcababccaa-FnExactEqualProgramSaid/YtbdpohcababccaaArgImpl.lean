import Derived.Test.YtbdpohcababccaaArgOwn
import Derived.Test.YtbdpohcababccaaArgMath
import Derived.Test.YtbdpohcababccaaArithSpec
import Derived.Test.YtbdpohcababccaaShape
import Derived.Sort.Walk0
import Derived.Lib.RowBridge
import Derived.Deep.QuietTactic
import Derived.BigQuiet
/-
  The program's sums: terms, validity.
-/
namespace Go.Proofs.Ytbdpohcababccaa
open Go.RowKit
namespace ArgI
open RowK Mem ArgM

theorem bytes_less (t s : ByteArray) : Op.bytesLess t.toList s.toList = decide (t.data.toList < s.data.toList) := by
  rw [Lib.toList_data, Lib.toList_data, Go.Proofs.bytesLess_eq]
theorem ret_b {a b : Bool} (h : a = b) : Ending.returned (.bool a) = .returned (.bool b) := by rw [h]

theorem all_snoc {α : Type} {p : α → Bool} {xs : List α} {k : Nat} (h : k < xs.length) (h1 : (xs.take k).all p = true) (h2 : p xs[k] = true) : (xs.take (k + 1)).all p = true := by
  rw [take_snoc h, List.all_append, h1]
  simp [h2]
theorem all_fail {α : Type} {p : α → Bool} {xs : List α} {k : Nat} (h : k < xs.length) (h2 : p xs[k] = false) : xs.all p = false := by
  cases e : xs.all p with
  | false => rfl
  | true => rw [List.all_eq_true.1 e _ (List.getElem_mem h)] at h2; cases h2
theorem ordT_bad {ts : List (Int × ByteArray)} {k : Nat} {a b : Int × ByteArray} (h1 : ts[k]? = some a) (h2 : ts[k + 1]? = some b) (h : ascN a b = false) : ordT ts = false := by
  cases e : ordT ts with
  | false => rfl
  | true => rw [ordT_iff.1 e k a b h1 h2] at h; cases h
end ArgI
end Go.Proofs.Ytbdpohcababccaa
