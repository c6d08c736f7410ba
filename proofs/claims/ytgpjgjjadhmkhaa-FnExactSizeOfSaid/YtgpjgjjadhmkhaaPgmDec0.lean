import Derived.Test.YtgpjgjjadhmkhaaUOutcome
/-
  Values and outcomes: equality is decided (made by tools/s12.py).
-/
namespace Go.Proofs.Ytgpjgjjadhmkhaa
namespace Mem
instance decValue : DecidableEq ValueT := fun a b => inferInstanceAs (Decidable ((a : Bool × Int × List Int) = b))
instance decOutcome : DecidableEq OutcomeT := fun a b => inferInstanceAs (Decidable ((a : Int × ValueT × Int × Int) = b))
end Mem
end Go.Proofs.Ytgpjgjjadhmkhaa
