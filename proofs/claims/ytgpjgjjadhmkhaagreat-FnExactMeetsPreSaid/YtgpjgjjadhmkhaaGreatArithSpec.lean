import Derived.Test.YtgpjgjjadhmkhaaGreatProg
import Derived.WalkKit
import Derived.Laws.EntriesVeiled
import Derived.Lib.Hide
import Derived.Deep.QuietTactic
import Derived.BigQuiet
/-
  Plain facts on bounded numbers: sums and products within limits, greatest common divisors by remainders, quotients rounded down.
-/
namespace Go.Proofs.YtgpjgjjadhmkhaaGreat
namespace ArithM

/-- Is the number within the limits of expressions? -/
def inC (z : Int) : Bool := decide (-1000000000 ≤ z) && decide (z ≤ 1000000000)
/-- Is the number within the limits of programs? -/
def inF (z : Int) : Bool := decide (-1000000 ≤ z) && decide (z ≤ 1000000)

theorem inC_iff {z : Int} : inC z = true ↔ -1000000000 ≤ z ∧ z ≤ 1000000000 := by simp [inC]
theorem inF_iff {z : Int} : inF z = true ↔ -1000000 ≤ z ∧ z ≤ 1000000 := by simp [inF]

end ArithM
end Go.Proofs.YtgpjgjjadhmkhaaGreat

/-
  The program's bounded arithmetic.
-/
namespace Go.Proofs.YtgpjgjjadhmkhaaGreat
open Go.RowKit
namespace ArithI

theorem below_drewN {b : Nat} {w w' : World} (h : Below b w w') (n : Nat) : Below b w (w'.drewN n) := h.trans ⟨rfl, rfl, rfl, Nat.le_refl _, fun _ _ => rfl⟩

theorem ret_bool {a b : Bool} (h : a = b) : Ending.returned (.bool a) = Ending.returned (.bool b) := by rw [h]

theorem isCoeff (z : Int) (w : World) :
    Calls Tryz.prog 191 #[.int .i64 z] w fun e w' => e = .returned (.bool (ArithM.inC z)) ∧ w = w' := by
  unfold ArithM.inC
  go_enter Tryz.func191, Tryz.ntmps191
  go_wp2
  all_goals
    go_ret
    exact ⟨ret_bool (by simp_all; try omega), rfl⟩

theorem fits (z : Int) (w : World) :
    Calls Tryz.prog 47 #[.int .i64 z] w fun e w' => e = .returned (.bool (ArithM.inF z)) ∧ w = w' := by
  unfold ArithM.inF
  go_enter Tryz.func47, Tryz.ntmps47
  go_wp2
  all_goals
    go_ret
    exact ⟨ret_bool (by simp_all; try omega), rfl⟩

end ArithI
end Go.Proofs.YtgpjgjjadhmkhaaGreat

/-
  The model's bounded arithmetic.
-/
namespace Go.Proofs.YtgpjgjjadhmkhaaGreat
open Go.RowKit
namespace ArithS
open ArithI (ret_bool below_drewN)

theorem inR (z a b : Int) (w : World) :
    Calls Tryz.prog 42 #[.int .i64 z, .int .i64 a, .int .i64 b] w fun e w' => e = .returned (.bool (decide (a ≤ z) && decide (z ≤ b))) ∧ w = w' := by
  go_enter Tryz.func42, Tryz.ntmps42
  go_wp2
  all_goals
    go_ret
    exact ⟨ret_bool (by simp_all; try omega), rfl⟩

theorem in3 (z : Int) (w : World) :
    Calls Tryz.prog 146 #[.int .i64 z] w fun e w' => e = .returned (.bool (ArithM.inC z)) ∧ w = w' := by
  go_enter Tryz.func146, Tryz.ntmps146
  go_wp2_with fail
  refine (inR z (-1000000000) 1000000000 _).mono ?_
  rintro e w1 ⟨rfl, rfl⟩
  go_wp2
  go_ret
  exact ⟨rfl, rfl⟩

theorem fits (z : Int) (w : World) :
    Calls Tryz.prog 48 #[.int .i64 z] w fun e w' => e = .returned (.bool (ArithM.inF z)) ∧ w = w' := by
  go_enter Tryz.func48, Tryz.ntmps48
  go_wp2_with fail
  refine (inR z (-1000000) 1000000 _).mono ?_
  rintro e w1 ⟨rfl, rfl⟩
  go_wp2
  go_ret
  exact ⟨rfl, rfl⟩

end ArithS
end Go.Proofs.YtgpjgjjadhmkhaaGreat
