import Derived.Test.YtgpjgjjadhmkhaaProg
import Derived.WalkKit
import Derived.Laws.EntriesVeiled
import Derived.Lib.Hide
import Derived.Deep.QuietTactic
import Derived.BigQuiet
/-
  Plain facts on bounded numbers: sums and products within limits, greatest common divisors by remainders, quotients rounded down.
-/
namespace Go.Proofs.Ytgpjgjjadhmkhaa
namespace ArithM

/-- Is the number within the limits of expressions? -/
def inC (z : Int) : Bool := decide (-1000000000 ≤ z) && decide (z ≤ 1000000000)
/-- Is the number within the limits of programs? -/
def inF (z : Int) : Bool := decide (-1000000 ≤ z) && decide (z ≤ 1000000)

theorem inC_iff {z : Int} : inC z = true ↔ -1000000000 ≤ z ∧ z ≤ 1000000000 := by simp [inC]
theorem inC_not {z : Int} : inC z = false ↔ z < -1000000000 ∨ 1000000000 < z := by
  rw [← Bool.not_eq_true, inC_iff]; omega
theorem inF_iff {z : Int} : inF z = true ↔ -1000000 ≤ z ∧ z ≤ 1000000 := by simp [inF]

/-- The sum, where all is within the limits. -/
def addL (x y : Int) : Option Int := if inC x ∧ inC y ∧ inC (x + y) then some (x + y) else none
/-- The product, where all is within the limits. -/
def mulL (x y : Int) : Option Int := if inC x ∧ inC y ∧ inC (x * y) then some (x * y) else none

theorem mul_bound {x y : Int} (hx : inC x = true) (hy : inC y = true) : -1000000000000000000 ≤ x * y ∧ x * y ≤ 1000000000000000000 := by
  rw [inC_iff] at hx hy
  have h1 : (x * y).natAbs ≤ 1000000000 * 1000000000 := by
    rw [Int.natAbs_mul]
    exact Nat.mul_le_mul (by omega) (by omega)
  omega

/-- The greatest common divisor, where both are within the limits. -/
def gcdL (x y : Int) : Int := if inC x ∧ inC y then (Nat.gcd x.natAbs y.natAbs : Int) else 0

theorem gcdL_nonneg (x y : Int) : 0 ≤ gcdL x y := by unfold gcdL; split <;> omega

/-- One step of Euclid's algorithm with Go's remainder. -/
theorem gcd_tmod (x y : Int) : Nat.gcd y.natAbs (Int.tmod x y).natAbs = Nat.gcd x.natAbs y.natAbs := by
  rw [Int.natAbs_tmod, Nat.gcd_comm y.natAbs, ← Nat.gcd_rec, Nat.gcd_comm]

/-- The quotient rounded down; 0 for a divisor that is not positive. -/
def floorL (x y : Int) : Int := if y ≤ 0 then 0 else x / y

theorem floor_neg {x y : Int} (hy : 0 < y) (h : Int.tmod x y < 0) : Int.tdiv x y - 1 = x / y := by
  have h1 := Int.mul_tdiv_add_tmod x y
  have h2 := Int.tmod_lt_of_pos x hy
  have h3 : -y < Int.tmod x y := by
    have e := Int.natAbs_tmod x y
    have := Nat.mod_lt x.natAbs (show 0 < y.natAbs by omega)
    omega
  symm
  rw [Int.ediv_eq_iff_of_pos hy]
  generalize x.tdiv y = q at *
  generalize x.tmod y = r at *
  have h4 : (q - 1) * y = y * q - y := by rw [Int.sub_mul, Int.mul_comm]; omega
  have h5 : (q - 1 + 1) * y = y * q := by rw [Int.sub_add_cancel, Int.mul_comm]
  omega
theorem floor_nn {x y : Int} (hy : 0 < y) (h : 0 ≤ Int.tmod x y) : Int.tdiv x y = x / y := by
  have h1 := Int.mul_tdiv_add_tmod x y
  have h2 := Int.tmod_lt_of_pos x hy
  symm
  rw [Int.ediv_eq_iff_of_pos hy]
  generalize x.tdiv y = q at *
  generalize x.tmod y = r at *
  have h4 : q * y = y * q := Int.mul_comm _ _
  have h5 : (q + 1) * y = y * q + y := by rw [Int.add_mul, Int.mul_comm]; omega
  omega

theorem floorL_bounds {x y : Int} (hx0 : -9223372036854775808 ≤ x) (hx1 : x ≤ 9223372036854775807) : -9223372036854775808 ≤ floorL x y ∧ floorL x y ≤ 9223372036854775807 := by
  unfold floorL
  split
  · omega
  · rename_i h
    have hy : 0 < y := by omega
    have h1 := Int.mul_ediv_add_emod x y
    have h2 := Int.emod_nonneg x (show y ≠ 0 by omega)
    have h3 := Int.emod_lt_of_pos x hy
    have h4 : (x / y).natAbs ≤ x.natAbs := by
      by_cases hq : 0 ≤ x / y
      · have : x / y ≤ y * (x / y) := by
          have := Int.mul_le_mul_of_nonneg_right (show 1 ≤ y by omega) hq
          omega
        omega
      · have h5 : x / y * (y - 1) ≤ 0 := Int.mul_nonpos_of_nonpos_of_nonneg (by omega) (by omega)
        have h6 : x / y * (y - 1) = y * (x / y) - x / y := by rw [Int.mul_sub, Int.mul_comm]; omega
        have h7 : (x / y + 1) * (y - 1) ≤ 0 := Int.mul_nonpos_of_nonpos_of_nonneg (by omega) (by omega)
        have h8 : (x / y + 1) * (y - 1) = y * (x / y) - x / y + y - 1 := by rw [Int.add_mul, h6]; omega
        omega
    have h9 : 0 ≤ x ∨ x / y < 0 := by
      by_cases h : 0 ≤ x
      · exact Or.inl h
      · exact Or.inr (Int.ediv_neg_of_neg_of_pos (by omega) hy)
    omega
end ArithM
end Go.Proofs.Ytgpjgjjadhmkhaa

/-
  The program's bounded arithmetic.
-/
namespace Go.Proofs.Ytgpjgjjadhmkhaa
open Go.RowKit
namespace ArithI

theorem below_drewN {b : Nat} {w w' : World} (h : Below b w w') (n : Nat) : Below b w (w'.drewN n) := h.trans ⟨rfl, rfl, rfl, Nat.le_refl _, fun _ _ => rfl⟩

theorem ret_bool {a b : Bool} (h : a = b) : Ending.returned (.bool a) = Ending.returned (.bool b) := by rw [h]

theorem fits (z : Int) (w : World) :
    Calls Try.prog 22 #[.int .i64 z] w fun e w' => e = .returned (.bool (ArithM.inF z)) ∧ w = w' := by
  unfold ArithM.inF
  go_enter Try.func22, Try.ntmps22
  go_wp2
  all_goals
    go_ret
    exact ⟨ret_bool (by simp_all; try omega), rfl⟩

end ArithI
end Go.Proofs.Ytgpjgjjadhmkhaa

/-
  The model's bounded arithmetic.
-/
namespace Go.Proofs.Ytgpjgjjadhmkhaa
open Go.RowKit
namespace ArithS
open ArithI (ret_bool below_drewN)

theorem inR (z a b : Int) (w : World) :
    Calls Try.prog 26 #[.int .i64 z, .int .i64 a, .int .i64 b] w fun e w' => e = .returned (.bool (decide (a ≤ z) && decide (z ≤ b))) ∧ w = w' := by
  go_enter Try.func26, Try.ntmps26
  go_wp2
  all_goals
    go_ret
    exact ⟨ret_bool (by simp_all; try omega), rfl⟩

theorem fits (z : Int) (w : World) :
    Calls Try.prog 19 #[.int .i64 z] w fun e w' => e = .returned (.bool (ArithM.inF z)) ∧ w = w' := by
  go_enter Try.func19, Try.ntmps19
  go_wp2_with fail
  refine (inR z (-1000000) 1000000 _).mono ?_
  rintro e w1 ⟨rfl, rfl⟩
  go_wp2
  go_ret
  exact ⟨rfl, rfl⟩

end ArithS
end Go.Proofs.Ytgpjgjjadhmkhaa
