import Derived.Test.YtjjhpabmhnincaaGreatDoorProg
import Derived.Test.YtjjhpabmhnincaaGreatDoorStrRow
import Derived.Test.YtjjhpabmhnincaaGreatDoorArgMath2
import Derived.Test.YtjjhpabmhnincaaGreatDoorHas
import Derived.Test.YtjjhpabmhnincaaGreatDoorShelf
import Derived.Lib.Hide
/-
  IndexOf and Without, the model's and the program's.
-/
namespace Go.Proofs.YtjjhpabmhnincaaGreatDoor
open Go.RowKit
namespace StrK
/-- A new slice of these strings has been handed back. -/
def Gave (w : World) (ss : List ByteArray) (e : Ending) (w' : World) : Prop :=
  ∃ A cap, e = .returned (.slice A ss.length cap) ∧ SRow w' A ss ∧ Free w' A ss.length ∧ Below w.heap.size w w' ∧ (∀ a, A = some a → w.heap.size ≤ a.block) ∧ ss.length ≤ cap
end StrK
namespace NameS

theorem idx_hit {ss : List ByteArray} {s : ByteArray} (k : Nat) (h : ss[k]? = some s) (hne : ∀ j, j < k → ss[j]? ≠ some s) : Lib.idxOfS ss s = k := by
  have hk := (List.getElem?_eq_some_iff.1 h).1
  have := Lib.idxOfS_hit ss ss.length k s hk (Nat.le_refl _) (by rw [List.getD, h]; rfl) (fun j hj e => hne j hj (by
    rw [List.getElem?_eq_getElem (by omega)]
    rw [List.getD, List.getElem?_eq_getElem (by omega)] at e
    exact congrArg some e))
  rwa [List.take_length] at this
theorem idx_miss {ss : List ByteArray} {s : ByteArray} (hne : ∀ j, j < ss.length → ss[j]? ≠ some s) : Lib.idxOfS ss s = -1 := by
  have := Lib.idxOfS_miss ss ss.length s (fun j hj e => hne j hj (by
    rw [List.getElem?_eq_getElem hj]
    rw [List.getD, List.getElem?_eq_getElem hj] at e
    exact congrArg some e))
  rwa [List.take_length] at this
theorem idx_pos {ss : List ByteArray} {s : ByteArray} (h : NameM.hasB ss s = true) : 0 ≤ Lib.idxOfS ss s := (Lib.idxOfS_nonneg_iff ss s).2 (NameM.hasB_iff.1 h)
theorem idx_neg {ss : List ByteArray} {s : ByteArray} (h : NameM.hasB ss s = false) : Lib.idxOfS ss s < 0 := by
  rcases Int.lt_or_le (Lib.idxOfS ss s) 0 with h1 | h1
  · exact h1
  · rw [NameM.hasB_iff.2 ((Lib.idxOfS_nonneg_iff ss s).1 h1)] at h; cases h
theorem ret_int {k : IntKind} {a b : Int} (h : a = b) : Ending.returned (.int k a) = .returned (.int k b) := by rw [h]

theorem stringInfo : (Tryz.prog.info? 9).map (fun i => (i.zero, i.size, i.bytes)) = some (some (.string ByteArray.empty), 1, 16) := by kernel_rfl

end NameS
end Go.Proofs.YtjjhpabmhnincaaGreatDoor
