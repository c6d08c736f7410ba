import Derived.Test.YtiilopfhlmeaoaaGreatDoorProg
import Derived.Test.YtiilopfhlmeaoaaGreatDoorArgMath2
import Derived.WalkKit
import Derived.Laws.EntriesVeiled
import Derived.Lib.Hide
import Derived.Deep.QuietTactic
import Derived.BigQuiet
/-
  The program's bounded arithmetic.
-/
namespace Go.Proofs.YtiilopfhlmeaoaaGreatDoor
open Go.RowKit
namespace ArithI

theorem below_drewN {b : Nat} {w w' : World} (h : Below b w w') (n : Nat) : Below b w (w'.drewN n) := h.trans ⟨rfl, rfl, rfl, Nat.le_refl _, fun _ _ => rfl⟩

theorem ret_bool {a b : Bool} (h : a = b) : Ending.returned (.bool a) = Ending.returned (.bool b) := by rw [h]

theorem isCoeff (z : Int) (w : World) :
    Calls Tryz.prog 91 #[.int .i64 z] w fun e w' => e = .returned (.bool (ArithM.inC z)) ∧ w = w' := by
  unfold ArithM.inC
  go_enter Tryz.func91, Tryz.ntmps91
  go_wp2
  all_goals
    go_ret
    exact ⟨ret_bool (by simp_all; try omega), rfl⟩

theorem fits (z : Int) (w : World) :
    Calls Tryz.prog 65 #[.int .i64 z] w fun e w' => e = .returned (.bool (ArithM.inF z)) ∧ w = w' := by
  unfold ArithM.inF
  go_enter Tryz.func65, Tryz.ntmps65
  go_wp2
  all_goals
    go_ret
    exact ⟨ret_bool (by simp_all; try omega), rfl⟩

end ArithI
end Go.Proofs.YtiilopfhlmeaoaaGreatDoor
