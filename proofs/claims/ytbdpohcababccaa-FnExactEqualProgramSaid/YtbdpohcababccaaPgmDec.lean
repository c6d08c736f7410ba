import Derived.Test.YtbdpohcababccaaUProgram
/-
  Programs: equality of the parts is decided (one instance for each, one out of the other: the search for all at once finds nothing).
-/
namespace Go.Proofs.Ytbdpohcababccaa
namespace Mem
instance decSum : DecidableEq SumT := fun a b => inferInstanceAs (Decidable ((a : Int × List (Int × ByteArray)) = b))
instance decArg : DecidableEq ArgT := fun a b => inferInstanceAs (Decidable ((a : Bool × List SumT × ByteArray) = b))
instance decCall : DecidableEq CallT := fun a b => inferInstanceAs (Decidable ((a : ByteArray × ByteArray × List ArgT) = b))
instance decPattern : DecidableEq PatternT := fun a b => inferInstanceAs (Decidable ((a : ByteArray × Bool × ByteArray × ByteArray) = b))
instance decRule : DecidableEq RuleT := fun a b => inferInstanceAs (Decidable ((a : ByteArray × List PatternT × List SumT × List CallT × ArgT) = b))
instance decFunction : DecidableEq FunctionT := fun a b => inferInstanceAs (Decidable ((a : ByteArray × List ByteArray × Bool × List (Int × List Int)) = b))
instance decProgram : DecidableEq ProgramT := fun a b => inferInstanceAs (Decidable ((a : List FunctionT × List RuleT) = b))
end Mem
end Go.Proofs.Ytbdpohcababccaa
