import Derived.Test.YtbbllkhmenpnlaaGreatRows
import Derived.Test.YtbbllkhmenpnlaaGreatLiftComponentsOf
/- At every argument, impl.ComponentsOf answers as its model, writes nothing into its arguments and answers in new memory: the law FnExactComponentsOf returns true. There is no condition. -/
namespace Go.Proofs.YtbbllkhmenpnlaaGreat
open Go.ChangeShapes Go.WideShapes Go.ChangeAt Go.RowKit
open Go.ChangeMaps (open_string shut_string)
namespace LawComponentsOf
theorem proved : Rows.FnExactComponentsOfSaid :=
 OpenClaim.holds_of_wide 7 Tryz.f7 rfl rfl rfl rfl rfl rfl rfl ⟨rfl, rfl, rfl, rfl, rfl⟩ rfl rfl rfl rfl rfl (by kernel_rfl) Tryz.func7 (by kernel_rfl)
  (of_decide_eq_true (by kernel_rfl)) (by unfold Func.isWrapper; first | (rw [if_pos (by decide +kernel)]; kernel_rfl) | (rw [if_neg (by decide +kernel)]; exact ⟨rfl, rfl⟩))
  (fun os started H enc _ => LiftComponentsOf.lifted os started H enc)
end LawComponentsOf
end Go.Proofs.YtbbllkhmenpnlaaGreat
