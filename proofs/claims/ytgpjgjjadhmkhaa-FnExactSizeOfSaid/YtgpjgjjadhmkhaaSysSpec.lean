import Derived.Test.YtgpjgjjadhmkhaaRepSys
import Derived.Test.YtgpjgjjadhmkhaaLinSpec
/-
  The model's functions on systems: validity, satisfaction, comparison.
-/
namespace Go.Proofs.Ytgpjgjjadhmkhaa
open Go.RowKit
namespace SysS
open RowK Mem LinM

/-- The system is valid. -/
def sysV (n : Int) (xs : List (Int × List Int)) : Bool := xs.all (fun x => vldB x.1 x.2 n) && (cntB n && decide (xs.length ≤ 20))
theorem all_no {p : Int × List Int → Bool} {xs : List (Int × List Int)} {k : Nat} (hk : k < xs.length) (h : p xs[k] = false) : xs.all p = false := by
  rw [List.all_eq_false]
  exact ⟨xs[k], List.getElem_mem _, by simp [h]⟩
theorem all_take {α : Type} {p : α → Bool} {xs : List α} {k : Nat} (hk : k < xs.length) (h : (xs.take k).all p = true) (h2 : p xs[k] = true) : (xs.take (k + 1)).all p = true := by
  rw [List.take_add_one, List.getElem?_eq_getElem hk, List.all_append, h]
  simp [h2]

def sysE (n m : Int) (xs ys : List (Int × List Int)) : Bool := decide (n = m) && decide (xs = ys)
theorem take_eq {xs ys : List (Int × List Int)} {k : Nat} (h1 : k < xs.length) (h2 : k < ys.length) (h : xs.take k = ys.take k) (he : xs[k] = ys[k]) : xs.take (k + 1) = ys.take (k + 1) := by
  rw [take_succ h1, take_succ h2, h, he]
theorem eqB_pair (x y : Int × List Int) : eqB x.1 y.1 x.2 y.2 = decide (x = y) := by
  obtain ⟨a, b⟩ := x
  obtain ⟨c, d⟩ := y
  simp [eqB]

/-- The values satisfy the system. -/
def satB (n : Int) (xs : List (Int × List Int)) (us : List Int) : Bool := us.all ArithM.inF && ((sysV n xs && decide ((us.length : Int) = n)) && xs.all (fun x => decide (0 ≤ (evalL x.1 x.2 us).getD 0)))
def SatRel (w : World) (n : Int) (A : Option Addr) (c : Nat) (xs : List (Int × List Int)) (us : List Int) (i : Value) (wr : World) : Prop :=
  ∃ k : Nat, k ≤ us.length ∧ i = .int .i64 k ∧ (us.take k).all ArithM.inF = true ∧ Lvar wr w.heap.size #[Value.int IntKind.i64 n, Value.slice A xs.length c] ∧ Below w.heap.size w wr
def SatRel2 (w : World) (n : Int) (A : Option Addr) (c : Nat) (xs : List (Int × List Int)) (us : List Int) (i : Value) (wr : World) : Prop :=
  ∃ k : Nat, k ≤ xs.length ∧ i = .int .i64 k ∧ (xs.take k).all (fun x => decide (0 ≤ (evalL x.1 x.2 us).getD 0)) = true ∧ Lvar wr w.heap.size #[Value.int IntKind.i64 n, Value.slice A xs.length c] ∧ Below w.heap.size w wr
theorem all_no1 {p : Int → Bool} {xs : List Int} {k : Nat} (hk : k < xs.length) (h : p xs[k] = false) : xs.all p = false := by
  rw [List.all_eq_false]
  exact ⟨xs[k], List.getElem_mem _, by simp [h]⟩

end SysS
end Go.Proofs.Ytgpjgjjadhmkhaa
