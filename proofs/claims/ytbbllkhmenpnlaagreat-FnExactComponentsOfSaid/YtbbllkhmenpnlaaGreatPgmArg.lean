import Derived.Test.YtbbllkhmenpnlaaGreatUProgram
import Derived.Test.YtbbllkhmenpnlaaGreatPgmFindT
/-
  Programs as arguments of a law: their functions and rules.
-/
namespace Go.Proofs.YtbbllkhmenpnlaaGreat
open Go.RowKit
namespace Mem
open RowK
theorem arg_prg {w : World} {A B : Option Addr} {c d : Nat} {fs : List FunctionT} {rs : List RuleT} (h : ArgR prg w [.slice A fs.length c, .slice B rs.length d] (fs, rs)) : ArgS fn w A fs.length c fs ∧ ArgS rule w B rs.length d rs := by
 obtain ⟨q, fp, h⟩ := h
 obtain ⟨f0, f1, _, h0, h1⟩ := prg_parts h
 exact ⟨⟨q, f0, h0⟩, q, f1, h1⟩
end Mem
end Go.Proofs.YtbbllkhmenpnlaaGreat

/-
  Programs as arguments of a law: their functions and rules; bounds.
-/
namespace Go.Proofs.YtbbllkhmenpnlaaGreat
open Go.RowKit
namespace Mem
open RowK ProgI
theorem find_small {fs : List FunctionT} {nm : ByteArray} {n : Nat} (h : fs.length + szs szFunctionU fs ≤ n) : szFunctionU ((findF fs nm).getD zeroF) ≤ n := by
 cases hf : findF fs nm with
 | none => show szFunctionU zeroF ≤ n; simp [szFunctionU, zeroF, szs]
 | some f =>
  have := szs_mem (sz := szFunctionU) (List.mem_of_find?_eq_some hf)
  show szFunctionU f ≤ n
  omega
end Mem
end Go.Proofs.YtbbllkhmenpnlaaGreat
