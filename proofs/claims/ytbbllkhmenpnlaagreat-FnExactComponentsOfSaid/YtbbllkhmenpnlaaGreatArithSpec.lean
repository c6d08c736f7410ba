import Derived.Test.YtbbllkhmenpnlaaGreatProg
import Derived.WalkKit
import Derived.Laws.EntriesVeiled
import Derived.Lib.Hide
import Derived.Deep.QuietTactic
import Derived.BigQuiet
/-
  Plain facts on bounded numbers: sums and products within limits, greatest common divisors by remainders, quotients rounded down.
-/
namespace Go.Proofs.YtbbllkhmenpnlaaGreat
namespace ArithM

def inC (z : Int) : Bool := decide (-1000000000 ≤ z) && decide (z ≤ 1000000000)
def inF (z : Int) : Bool := decide (-1000000 ≤ z) && decide (z ≤ 1000000)

end ArithM
end Go.Proofs.YtbbllkhmenpnlaaGreat

/-
  The program's bounded arithmetic.
-/
namespace Go.Proofs.YtbbllkhmenpnlaaGreat
open Go.RowKit
namespace ArithI

theorem below_drewN {b : Nat} {w w' : World} (h : Below b w w') (n : Nat) : Below b w (w'.drewN n) := h.trans ⟨rfl, rfl, rfl, Nat.le_refl _, fun _ _ => rfl⟩

theorem ret_bool {a b : Bool} (h : a = b) : Ending.returned (.bool a) = Ending.returned (.bool b) := by rw [h]

theorem isCoeff (z : Int) (w : World) :
  Calls Tryz.prog 171 #[.int .i64 z] w fun e w' => e = .returned (.bool (ArithM.inC z)) ∧ w = w' := by
 unfold ArithM.inC
 go_enter Tryz.func171, Tryz.ntmps171
 go_wp2
 all_goals
  go_ret
  exact ⟨ret_bool (by simp_all; try omega), rfl⟩

theorem fits (z : Int) (w : World) :
  Calls Tryz.prog 262 #[.int .i64 z] w fun e w' => e = .returned (.bool (ArithM.inF z)) ∧ w = w' := by
 unfold ArithM.inF
 go_enter Tryz.func262, Tryz.ntmps262
 go_wp2
 all_goals
  go_ret
  exact ⟨ret_bool (by simp_all; try omega), rfl⟩

end ArithI
end Go.Proofs.YtbbllkhmenpnlaaGreat

/-
  The model's bounded arithmetic.
-/
namespace Go.Proofs.YtbbllkhmenpnlaaGreat
open Go.RowKit
namespace ArithS
open ArithI (ret_bool below_drewN)

theorem inR (z a b : Int) (w : World) :
  Calls Tryz.prog 97 #[.int .i64 z, .int .i64 a, .int .i64 b] w fun e w' => e = .returned (.bool (decide (a ≤ z) && decide (z ≤ b))) ∧ w = w' := by
 go_enter Tryz.func97, Tryz.ntmps97
 go_wp2
 all_goals
  go_ret
  exact ⟨ret_bool (by simp_all; try omega), rfl⟩

theorem in3 (z : Int) (w : World) :
  Calls Tryz.prog 138 #[.int .i64 z] w fun e w' => e = .returned (.bool (ArithM.inC z)) ∧ w = w' := by
 go_enter Tryz.func138, Tryz.ntmps138
 go_wp2_with fail
 refine (inR z (-1000000000) 1000000000 _).mono ?_
 rintro e w1 ⟨rfl, rfl⟩
 go_wp2
 go_ret
 exact ⟨rfl, rfl⟩

theorem fits (z : Int) (w : World) :
  Calls Tryz.prog 184 #[.int .i64 z] w fun e w' => e = .returned (.bool (ArithM.inF z)) ∧ w = w' := by
 go_enter Tryz.func184, Tryz.ntmps184
 go_wp2_with fail
 refine (inR z (-1000000) 1000000 _).mono ?_
 rintro e w1 ⟨rfl, rfl⟩
 go_wp2
 go_ret
 exact ⟨rfl, rfl⟩

end ArithS
end Go.Proofs.YtbbllkhmenpnlaaGreat
