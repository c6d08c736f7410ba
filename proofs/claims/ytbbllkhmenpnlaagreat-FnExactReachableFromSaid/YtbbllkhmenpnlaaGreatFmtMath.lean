import Derived.Lib.ItoaNum
/-
  Plain mathematics of decimal numerals: the digits as spec.FormatInt lays them, held against 'Lib.itoa'. Imports nothing of the program.
-/
namespace Go.Proofs.YtbbllkhmenpnlaaGreat
namespace FmtM

/-- The digits of a number above 0, the first ahead; none for 0. -/
def dg0 (u : Nat) : List UInt8 := if u = 0 then [] else Lib.decDigits u

theorem dg0_zero : dg0 0 = [] := by simp [dg0]
theorem dg0_pos {u : Nat} (h : u ≠ 0) : dg0 u = Lib.decDigits u := by simp [dg0, h]
theorem dg0_step (u : Nat) (h : u ≠ 0) : dg0 u = dg0 (u / 10) ++ [48 + UInt8.ofNat (u % 10)] := by
 rw [show (48 : UInt8) + UInt8.ofNat (u % 10) = UInt8.ofNat (48 + u % 10) by rw [UInt8.ofNat_add]; rfl, dg0_pos h]
 by_cases h10 : u < 10
 ·rw [Lib.decDigits, dif_pos h10, show u / 10 = 0 by omega, dg0_zero, Nat.mod_eq_of_lt h10]; rfl
 ·rw [Lib.decDigits, dif_neg h10, dg0_pos (by omega)]

theorem dg0_length (u : Nat) : (dg0 u).length ≤ Lib.nDigits u := by
 unfold dg0
 split
 ·simp
 ·rw [Lib.decDigits_length]; exact Nat.le_refl _

theorem nDigits_le (u : Nat) (h : u < 10 ^ 19) : Lib.nDigits u ≤ 19 := by
 rcases Nat.lt_or_ge 19 (Lib.nDigits u) with hc | hc
 ·exfalso
  have key : ∀ k u, k < Lib.nDigits u → 10 ^ k ≤ u ∨ k = 0 := by
   intro k
   induction k with
   | zero => intro u _; exact Or.inr rfl
   | succ k ih =>
    intro u hu
    left
    by_cases h10 : u < 10
    ·rw [Lib.nDigits_small h10] at hu; omega
    ·rw [Lib.nDigits_big h10] at hu
     rcases ih (u / 10) (by omega) with h1 | h1
     ·rw [Nat.pow_succ]; omega
     ·subst h1; simp; omega
  rcases key 19 u hc with h1 | h1
  ·omega
  ·omega
 ·exact hc
end FmtM
end Go.Proofs.YtbbllkhmenpnlaaGreat
