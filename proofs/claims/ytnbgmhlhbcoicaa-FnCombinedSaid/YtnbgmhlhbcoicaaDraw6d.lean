import Derived.Test.YtnbgmhlhbcoicaaDraw6c
import Derived.Test.YtnbgmhlhbcoicaaSysCopy
/-
  The draws of the sixth chapter: a system and a row.
-/
namespace Go.Proofs.Ytnbgmhlhbcoicaa
open Go.RowKit
namespace Draw
open RowK Mem LinM

def ANat (w : World) (e : Ending) (w' : World) : Prop := ∃ k : Nat, e = .returned (.int .i64 k) ∧ w = w'
theorem max0 (x : Int) (w : World) : Calls Try.prog 73 #[.int .i64 x, .int .i64 0] w (ANat w) := by
  by_cases h : 0 < x
  · obtain ⟨k, rfl⟩ := Int.eq_ofNat_of_zero_le (Int.le_of_lt h)
    go_enter Try.func73, Try.ntmps73
    go_wp2
    go_ret
    exact ⟨k, rfl, rfl⟩
  · have hd : decide (0 < x) = false := decide_eq_false h
    go_enter Try.func73, Try.ntmps73
    go_wp2
    go_ret
    exact ⟨0, rfl, rfl⟩
theorem min9 (k : Nat) (w : World) : Calls Try.prog 72 #[.int .i64 k, .int .i64 9] w fun e w' => ∃ m : Nat, m ≤ 9 ∧ e = .returned (.int .i64 m) ∧ w = w' := by
  by_cases h : (k : Int) < 9
  · go_enter Try.func72, Try.ntmps72
    go_wp2
    go_ret
    exact ⟨k, by omega, rfl, rfl⟩
  · have hd : decide ((k : Int) < 9) = false := decide_eq_false h
    go_enter Try.func72, Try.ntmps72
    go_wp2
    go_ret
    exact ⟨9, by omega, rfl, rfl⟩

/-- A system and a linear expression. -/
def SysLin (w : World) (e : Ending) (w' : World) : Prop :=
  ∃ (N : Int) (B : Option Addr) (d : Nat) (xs : List (Int × List Int)) (z : Int) (zs : List Int) (C : Option Addr) (f lo hi : Nat), e = .returned (.tuple #[.agg #[.int .i64 N, .slice B xs.length d], .agg #[.int .i64 z, .slice C zs.length f]]) ∧ Any6 N xs ∧ zs.length ≤ 9 ∧ SysK.Arg w' B xs.length d xs ∧ Row lo hi w' C (IntK.iv zs) ∧ Below w.heap.size w w'

end Draw
end Go.Proofs.Ytnbgmhlhbcoicaa
