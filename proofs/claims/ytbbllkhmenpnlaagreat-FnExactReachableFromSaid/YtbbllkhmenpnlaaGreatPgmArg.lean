import Derived.Test.YtbbllkhmenpnlaaGreatPgmFindT
import Derived.Test.YtbbllkhmenpnlaaGreatPgmArg0
/-
  Programs as arguments of a law: their functions and rules; bounds.
-/
namespace Go.Proofs.YtbbllkhmenpnlaaGreat
open Go.RowKit
namespace Mem
open RowK ProgI
theorem find_small {fs : List FunctionT} {nm : ByteArray} {n : Nat} (h : fs.length + szs szFunctionU fs ≤ n) : szFunctionU ((findF fs nm).getD zeroF) ≤ n := by
 cases hf : findF fs nm with
 | none => show szFunctionU zeroF ≤ n; simp [szFunctionU, zeroF, szs]
 | some f =>
  have := szs_mem (sz := szFunctionU) (List.mem_of_find?_eq_some hf)
  show szFunctionU f ≤ n
  omega
end Mem
end Go.Proofs.YtbbllkhmenpnlaaGreat
