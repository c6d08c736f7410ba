import Derived.Test.YtbdpohcababccaaArgImpl
import Derived.Handy
/-
  The program's arguments: validity.
-/
namespace Go.Proofs.Ytbdpohcababccaa
open Go.RowKit
namespace ArgI
open RowK Mem ArgM

theorem sum_len {xs : List SumT} {k : Nat} (hk : k < xs.length) (h : xs.length + szs ssl xs ≤ 1000000000) : xs[k].2.length ≤ 1000000000 := by
  have := szs_mem (sz := ssl) (List.getElem_mem hk)
  simp only [ssl] at this
  omega
def intV (xs : List SumT) (s : ByteArray) : Bool := decide (xs.length = 1) && (decide (s.size = 0) && xs.all sumV)
def lstV (xs : List SumT) (s : ByteArray) : Bool := decide (xs.length ≤ 3) && (baseV s && xs.all sumV)
theorem argV_form (p : Bool) (xs : List SumT) (s : ByteArray) : argV (p, xs, s) = if p then lstV xs s else intV xs s := by
  unfold argV lstV intV
  cases p
  · simp only [Bool.false_eq_true, if_false]
    rw [Bool.and_comm, Bool.and_assoc]
  · simp only [if_true]
    rw [Bool.and_comm, Bool.and_assoc]
theorem str_empty (s : ByteArray) : (s.toList == ([] : List UInt8)) = decide (s.size = 0) := by
  rw [ByteArray.toList_eq]
  by_cases h : s.size = 0
  · rw [TextM.size_zero h, decide_eq_true h]; rfl
  · rw [decide_eq_false h, beq_eq_false_iff_ne]
    intro e
    have := congrArg List.length e
    rw [TextM.size_list] at this
    exact h this

end ArgI
end Go.Proofs.Ytbdpohcababccaa
