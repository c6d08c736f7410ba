import Derived.Test.YtgpjgjjadhmkhaaUOutcome
import Derived.Test.YtgpjgjjadhmkhaaArithSpec
/-
  Values and outcomes: as mathematics (made by tools/s12.py).
-/
namespace Go.Proofs.Ytgpjgjjadhmkhaa
namespace ValM
/-- The value is valid. -/
def valV (z0 : Bool) (z1 : Int) (xs : List Int) : Bool := if z0 then decide (z1 = 0) && decide (xs.length ≤ 40) && xs.all ArithM.inF else ArithM.inF z1 && decide (xs.length = 0)
def sizeV (z0 : Bool) (z1 : Int) (xs : List Int) : Int := if z0 then (xs.length : Int) else z1
theorem val_list {xs : List Int} (h : xs.length ≤ 40) : valV true 0 xs = xs.all ArithM.inF := by simp [valV, h]
theorem val_n {z : Int} {xs : List Int} (h : ¬ z = 0) : valV true z xs = false := by simp [valV, h]
theorem val_long {xs : List Int} {z : Int} (h : ¬ xs.length ≤ 40) : valV true z xs = false := by unfold valV; rw [decide_eq_false h]; simp
theorem len0 (n : Nat) : ((n : Int) == 0) = decide (n = 0) := by rw [Bool.eq_iff_iff]; simp
theorem val_int {z : Int} {xs : List Int} : valV false z xs = (ArithM.inF z && decide (xs.length = 0)) := by simp [valV]
end ValM
end Go.Proofs.Ytgpjgjjadhmkhaa
