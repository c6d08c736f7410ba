import Derived.Test.YtaepfdgfjcdidaaArithImpl
/-
  The model's bounded arithmetic.
-/
namespace Go.Proofs.Ytaepfdgfjcdidaa
open Go.RowKit
namespace ArithS
open ArithI (ret_bool below_drewN)

theorem inR (z a b : Int) (w : World) :
    Calls Try.prog 46 #[.int .i64 z, .int .i64 a, .int .i64 b] w fun e w' => e = .returned (.bool (decide (a ≤ z) && decide (z ≤ b))) ∧ w = w' := by
  go_enter Try.func46, Try.ntmps46
  go_wp2
  all_goals
    go_ret
    exact ⟨ret_bool (by simp_all; try omega), rfl⟩

theorem fits (z : Int) (w : World) :
    Calls Try.prog 26 #[.int .i64 z] w fun e w' => e = .returned (.bool (ArithM.inF z)) ∧ w = w' := by
  go_enter Try.func26, Try.ntmps26
  go_wp2_with fail
  refine (inR z (-1000000) 1000000 _).mono ?_
  rintro e w1 ⟨rfl, rfl⟩
  go_wp2
  go_ret
  exact ⟨rfl, rfl⟩

end ArithS
end Go.Proofs.Ytaepfdgfjcdidaa
