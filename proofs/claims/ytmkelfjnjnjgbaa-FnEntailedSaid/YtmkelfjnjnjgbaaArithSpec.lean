import Derived.Test.YtmkelfjnjnjgbaaProg
import Derived.WalkKit
import Derived.Laws.EntriesVeiled
import Derived.Lib.Hide
import Derived.Deep.QuietTactic
import Derived.BigQuiet
/-
  Plain facts on bounded numbers: sums and products within limits, greatest common divisors by remainders, quotients rounded down.
-/
namespace Go.Proofs.Ytmkelfjnjnjgbaa
namespace ArithM

/-- Is the number within the limits of expressions? -/
def inC (z : Int) : Bool := decide (-1000000000 ≤ z) && decide (z ≤ 1000000000)
/-- Is the number within the limits of programs? -/
def inF (z : Int) : Bool := decide (-1000000 ≤ z) && decide (z ≤ 1000000)

theorem inC_iff {z : Int} : inC z = true ↔ -1000000000 ≤ z ∧ z ≤ 1000000000 := by simp [inC]
theorem inC_not {z : Int} : inC z = false ↔ z < -1000000000 ∨ 1000000000 < z := by
  rw [← Bool.not_eq_true, inC_iff]; omega
theorem inF_iff {z : Int} : inF z = true ↔ -1000000 ≤ z ∧ z ≤ 1000000 := by simp [inF]

/-- The sum, where all is within the limits. -/
def addL (x y : Int) : Option Int := if inC x ∧ inC y ∧ inC (x + y) then some (x + y) else none
/-- The product, where all is within the limits. -/
def mulL (x y : Int) : Option Int := if inC x ∧ inC y ∧ inC (x * y) then some (x * y) else none

theorem mul_bound {x y : Int} (hx : inC x = true) (hy : inC y = true) : -1000000000000000000 ≤ x * y ∧ x * y ≤ 1000000000000000000 := by
  rw [inC_iff] at hx hy
  have h1 : (x * y).natAbs ≤ 1000000000 * 1000000000 := by
    rw [Int.natAbs_mul]
    exact Nat.mul_le_mul (by omega) (by omega)
  omega

/-- The greatest common divisor, where both are within the limits. -/
def gcdL (x y : Int) : Int := if inC x ∧ inC y then (Nat.gcd x.natAbs y.natAbs : Int) else 0

theorem gcdL_nonneg (x y : Int) : 0 ≤ gcdL x y := by unfold gcdL; split <;> omega

/-- One step of Euclid's algorithm with Go's remainder. -/
theorem gcd_tmod (x y : Int) : Nat.gcd y.natAbs (Int.tmod x y).natAbs = Nat.gcd x.natAbs y.natAbs := by
  rw [Int.natAbs_tmod, Nat.gcd_comm y.natAbs, ← Nat.gcd_rec, Nat.gcd_comm]

/-- The quotient rounded down; 0 for a divisor that is not positive. -/
def floorL (x y : Int) : Int := if y ≤ 0 then 0 else x / y

theorem floor_neg {x y : Int} (hy : 0 < y) (h : Int.tmod x y < 0) : Int.tdiv x y - 1 = x / y := by
  have h1 := Int.mul_tdiv_add_tmod x y
  have h2 := Int.tmod_lt_of_pos x hy
  have h3 : -y < Int.tmod x y := by
    have e := Int.natAbs_tmod x y
    have := Nat.mod_lt x.natAbs (show 0 < y.natAbs by omega)
    omega
  symm
  rw [Int.ediv_eq_iff_of_pos hy]
  generalize x.tdiv y = q at *
  generalize x.tmod y = r at *
  have h4 : (q - 1) * y = y * q - y := by rw [Int.sub_mul, Int.mul_comm]; omega
  have h5 : (q - 1 + 1) * y = y * q := by rw [Int.sub_add_cancel, Int.mul_comm]
  omega
theorem floor_nn {x y : Int} (hy : 0 < y) (h : 0 ≤ Int.tmod x y) : Int.tdiv x y = x / y := by
  have h1 := Int.mul_tdiv_add_tmod x y
  have h2 := Int.tmod_lt_of_pos x hy
  symm
  rw [Int.ediv_eq_iff_of_pos hy]
  generalize x.tdiv y = q at *
  generalize x.tmod y = r at *
  have h4 : q * y = y * q := Int.mul_comm _ _
  have h5 : (q + 1) * y = y * q + y := by rw [Int.add_mul, Int.mul_comm]; omega
  omega

theorem floorL_bounds {x y : Int} (hx0 : -9223372036854775808 ≤ x) (hx1 : x ≤ 9223372036854775807) : -9223372036854775808 ≤ floorL x y ∧ floorL x y ≤ 9223372036854775807 := by
  unfold floorL
  split
  · omega
  · rename_i h
    have hy : 0 < y := by omega
    have h1 := Int.mul_ediv_add_emod x y
    have h2 := Int.emod_nonneg x (show y ≠ 0 by omega)
    have h3 := Int.emod_lt_of_pos x hy
    have h4 : (x / y).natAbs ≤ x.natAbs := by
      by_cases hq : 0 ≤ x / y
      · have : x / y ≤ y * (x / y) := by
          have := Int.mul_le_mul_of_nonneg_right (show 1 ≤ y by omega) hq
          omega
        omega
      · have h5 : x / y * (y - 1) ≤ 0 := Int.mul_nonpos_of_nonpos_of_nonneg (by omega) (by omega)
        have h6 : x / y * (y - 1) = y * (x / y) - x / y := by rw [Int.mul_sub, Int.mul_comm]; omega
        have h7 : (x / y + 1) * (y - 1) ≤ 0 := Int.mul_nonpos_of_nonpos_of_nonneg (by omega) (by omega)
        have h8 : (x / y + 1) * (y - 1) = y * (x / y) - x / y + y - 1 := by rw [Int.add_mul, h6]; omega
        omega
    have h9 : 0 ≤ x ∨ x / y < 0 := by
      by_cases h : 0 ≤ x
      · exact Or.inl h
      · exact Or.inr (Int.ediv_neg_of_neg_of_pos (by omega) hy)
    omega
end ArithM
end Go.Proofs.Ytmkelfjnjnjgbaa

/-
  The program's bounded arithmetic.
-/
namespace Go.Proofs.Ytmkelfjnjnjgbaa
open Go.RowKit
namespace ArithI

theorem below_drewN {b : Nat} {w w' : World} (h : Below b w w') (n : Nat) : Below b w (w'.drewN n) := h.trans ⟨rfl, rfl, rfl, Nat.le_refl _, fun _ _ => rfl⟩

theorem ret_bool {a b : Bool} (h : a = b) : Ending.returned (.bool a) = Ending.returned (.bool b) := by rw [h]

theorem isCoeff (z : Int) (w : World) :
    Calls Try.prog 86 #[.int .i64 z] w fun e w' => e = .returned (.bool (ArithM.inC z)) ∧ w = w' := by
  unfold ArithM.inC
  go_enter Try.func86, Try.ntmps86
  go_wp2
  all_goals
    go_ret
    exact ⟨ret_bool (by simp_all; try omega), rfl⟩

theorem op0 (x y : Int) (hx : ArithM.inC x = true) (hy : ArithM.inC y = true) (w : World) :
    Calls Try.prog 112 #[.int .i64 x, .int .i64 y] w fun e w' => e = .returned (.int .i64 (x + y)) ∧ w = w' := by
  rw [ArithM.inC_iff] at hx hy
  go_enter Try.func112, Try.ntmps112
  go_wp2
  go_ret
  exact ⟨rfl, rfl⟩

theorem op1 (x y : Int) (hx : ArithM.inC x = true) (hy : ArithM.inC y = true) (w : World) :
    Calls Try.prog 113 #[.int .i64 x, .int .i64 y] w fun e w' => e = .returned (.int .i64 (x * y)) ∧ w = w' := by
  have hb := ArithM.mul_bound hx hy
  go_enter Try.func113, Try.ntmps113
  go_wp2
  generalize x * y = z at *
  go_ret
  exact ⟨rfl, rfl⟩

theorem operations (w : World) :
    Calls Try.prog 111 #[] w fun e w' => e = .returned (.agg #[.func (.func 112) #[] #[], .func (.func 113) #[] #[]]) ∧ Below w.heap.size w w' := by
  go_enter Try.func111, Try.ntmps111
  go_wp2
  refine bodyPost_ret (results_cell_row rfl _ _ w.heap.size _ _ _ _ rfl (heap_alloc_new _ _) Try.underlying132 rfl (by kernel_rfl)) rfl ?_
  exact ⟨rfl, (Below.refl _ _).alloc (Nat.le_refl _) _⟩

theorem at0 (f g : Value) (W : World) : (Instr.index 132 (.agg #[f, g]) (.int .i64 0)).run Try.prog W = .ok f W := by
  simp [Instr.index, run_underlying Try.underlying132, asIntOf, go_sem]
theorem at1 (f g : Value) (W : World) : (Instr.index 132 (.agg #[f, g]) (.int .i64 1)).run Try.prog W = .ok g W := by
  simp [Instr.index, run_underlying Try.underlying132, asIntOf, go_sem]

set_option maxHeartbeats 1000000 in
set_option maxRecDepth 100000 in
theorem limited0 (x y : Int) (w : World) :
    Calls Try.prog 110 #[.int .i64 0, .int .i64 x, .int .i64 y] w fun e w' => e = .returned (.tuple #[.int .i64 ((ArithM.addL x y).getD 0), .bool (ArithM.addL x y).isSome]) ∧ Below w.heap.size w w' := by
  have IC := Lib.hid isCoeff
  have hix := at0
  by_cases hx : ArithM.inC x = true
  · by_cases hy : ArithM.inC y = true
    · have hm : ArithM.addL x y = if ArithM.inC (x + y) = true then some (x + y) else none := by simp [ArithM.addL, hx, hy]
      have OP := Lib.hid (op0 x y hx hy)
      rw [hm]
      clear hm
      generalize x + y = z at *
      go_enter Try.func110, Try.ntmps110
      go_wp2_with fail
      refine (IC.out x _).mono ?_
      rintro e w1 ⟨rfl, rfl⟩
      simp only [hx]
      go_wp2_with fail
      refine (IC.out y _).mono ?_
      rintro e w1 ⟨rfl, rfl⟩
      simp only [hy]
      go_wp2_with fail
      refine (operations _).mono ?_
      rintro e w2 ⟨rfl, b2⟩
      go_wp2_with fail
      refine (OP.out _).mono ?_
      rintro e w3 ⟨rfl, rfl⟩
      go_wp2_with fail
      refine (IC.out z _).mono ?_
      rintro e w4 ⟨rfl, rfl⟩
      by_cases hz : ArithM.inC z = true
      · simp only [hz]
        go_wp2
        go_ret2
        exact ⟨rfl, b2⟩
      · simp only [Bool.not_eq_true] at hz
        simp only [hz]
        go_wp2
        all_goals first | (exfalso; simp_all; done) | (go_ret2; exact ⟨rfl, b2⟩)
    · have hm : ArithM.addL x y = none := by simp [ArithM.addL, hy]
      simp only [Bool.not_eq_true] at hy
      rw [hm]
      clear hm
      go_enter Try.func110, Try.ntmps110
      go_wp2_with fail
      refine (IC.out x _).mono ?_
      rintro e w1 ⟨rfl, rfl⟩
      simp only [hx]
      go_wp2_with fail
      refine (IC.out y _).mono ?_
      rintro e w1 ⟨rfl, rfl⟩
      simp only [hy]
      go_wp2
      go_ret2
      exact ⟨rfl, Below.refl _ _⟩
  · have hm : ArithM.addL x y = none := by simp [ArithM.addL, hx]
    simp only [Bool.not_eq_true] at hx
    rw [hm]
    clear hm
    go_enter Try.func110, Try.ntmps110
    go_wp2_with fail
    refine (IC.out x _).mono ?_
    rintro e w1 ⟨rfl, rfl⟩
    simp only [hx]
    go_wp2
    go_ret2
    exact ⟨rfl, Below.refl _ _⟩

set_option maxHeartbeats 1000000 in
set_option maxRecDepth 100000 in
theorem limited1 (x y : Int) (w : World) :
    Calls Try.prog 110 #[.int .i64 1, .int .i64 x, .int .i64 y] w fun e w' => e = .returned (.tuple #[.int .i64 ((ArithM.mulL x y).getD 0), .bool (ArithM.mulL x y).isSome]) ∧ Below w.heap.size w w' := by
  have IC := Lib.hid isCoeff
  have hix := at1
  by_cases hx : ArithM.inC x = true
  · by_cases hy : ArithM.inC y = true
    · have hm : ArithM.mulL x y = if ArithM.inC (x * y) = true then some (x * y) else none := by simp [ArithM.mulL, hx, hy]
      have OP := Lib.hid (op1 x y hx hy)
      rw [hm]
      clear hm
      generalize x * y = z at *
      go_enter Try.func110, Try.ntmps110
      go_wp2_with fail
      refine (IC.out x _).mono ?_
      rintro e w1 ⟨rfl, rfl⟩
      simp only [hx]
      go_wp2_with fail
      refine (IC.out y _).mono ?_
      rintro e w1 ⟨rfl, rfl⟩
      simp only [hy]
      go_wp2_with fail
      refine (operations _).mono ?_
      rintro e w2 ⟨rfl, b2⟩
      go_wp2_with fail
      refine (OP.out _).mono ?_
      rintro e w3 ⟨rfl, rfl⟩
      go_wp2_with fail
      refine (IC.out z _).mono ?_
      rintro e w4 ⟨rfl, rfl⟩
      by_cases hz : ArithM.inC z = true
      · simp only [hz]
        go_wp2
        go_ret2
        exact ⟨rfl, b2⟩
      · simp only [Bool.not_eq_true] at hz
        simp only [hz]
        go_wp2
        all_goals first | (exfalso; simp_all; done) | (go_ret2; exact ⟨rfl, b2⟩)
    · have hm : ArithM.mulL x y = none := by simp [ArithM.mulL, hy]
      simp only [Bool.not_eq_true] at hy
      rw [hm]
      clear hm
      go_enter Try.func110, Try.ntmps110
      go_wp2_with fail
      refine (IC.out x _).mono ?_
      rintro e w1 ⟨rfl, rfl⟩
      simp only [hx]
      go_wp2_with fail
      refine (IC.out y _).mono ?_
      rintro e w1 ⟨rfl, rfl⟩
      simp only [hy]
      go_wp2
      go_ret2
      exact ⟨rfl, Below.refl _ _⟩
  · have hm : ArithM.mulL x y = none := by simp [ArithM.mulL, hx]
    simp only [Bool.not_eq_true] at hx
    rw [hm]
    clear hm
    go_enter Try.func110, Try.ntmps110
    go_wp2_with fail
    refine (IC.out x _).mono ?_
    rintro e w1 ⟨rfl, rfl⟩
    simp only [hx]
    go_wp2
    go_ret2
    exact ⟨rfl, Below.refl _ _⟩

theorem add (x y : Int) (w : World) :
    Calls Try.prog 105 #[.int .i64 x, .int .i64 y] w fun e w' => e = .returned (.tuple #[.int .i64 ((ArithM.addL x y).getD 0), .bool (ArithM.addL x y).isSome]) ∧ Below w.heap.size w w' := by
  go_enter Try.func105, Try.ntmps105
  go_wp2_with fail
  refine (limited0 x y _).mono ?_
  rintro e w1 ⟨rfl, b1⟩
  go_wp2
  go_ret2
  exact ⟨rfl, b1⟩

theorem mul (x y : Int) (w : World) :
    Calls Try.prog 104 #[.int .i64 x, .int .i64 y] w fun e w' => e = .returned (.tuple #[.int .i64 ((ArithM.mulL x y).getD 0), .bool (ArithM.mulL x y).isSome]) ∧ Below w.heap.size w w' := by
  go_enter Try.func104, Try.ntmps104
  go_wp2_with fail
  refine (limited1 x y _).mono ?_
  rintro e w1 ⟨rfl, b1⟩
  go_wp2
  go_ret2
  exact ⟨rfl, b1⟩

set_option maxHeartbeats 1000000 in
theorem gcd (x y : Int) (w : World) :
    Calls Try.prog 95 #[.int .i64 x, .int .i64 y] w fun e w' => e = .returned (.int .i64 (ArithM.gcdL x y)) ∧ Below w.heap.size w w' := by
  have IC := Lib.hid isCoeff
  by_cases hx : ArithM.inC x = true
  · by_cases hy : ArithM.inC y = true
    · have hm : ArithM.gcdL x y = (Nat.gcd x.natAbs y.natAbs : Int) := by simp [ArithM.gcdL, hx, hy]
      rw [hm]
      clear hm
      go_enter Try.func95, Try.ntmps95
      go_wp2_with fail
      refine (IC.out x _).mono ?_
      rintro e w1 ⟨rfl, rfl⟩
      simp only [hx]
      go_wp2_with fail
      refine (IC.out y _).mono ?_
      rintro e w1 ⟨rfl, rfl⟩
      simp only [hy]
      go_wp2
      rw [ArithM.inC_iff] at hx hy
      go_loopw [0, 1] (fun a b wr => ∃ (p q : Int), a = .int .i64 p ∧ b = .int .i64 q ∧ (-1000000000 ≤ p ∧ p ≤ 1000000000) ∧ (-1000000000 ≤ q ∧ q ≤ 1000000000) ∧ Nat.gcd p.natAbs q.natAbs = Nat.gcd x.natAbs y.natAbs ∧ Below w.heap.size w wr) (fun _ b _ => (intOf b).natAbs)
      case atStart => exact ⟨x, y, rfl, rfl, hx, hy, rfl, Below.refl _ _⟩
      case round =>
        obtain ⟨p, q, rfl, rfl, hp, hq, hg, hb⟩ := hrel
        by_cases h0 : q = 0
        · subst h0
          rw [Int.natAbs_zero, Nat.gcd_zero_right] at hg
          have hg2 := Lib.hid hg
          clear hg
          go_wp2
          · go_ret
            refine ⟨?_, hb⟩
            rw [← hg2.out, show -p = (p.natAbs : Int) by omega]
            rfl
          · go_ret
            refine ⟨?_, hb⟩
            rw [← hg2.out]
            exact congrArg (fun z => Ending.returned (.int .i64 z)) (show p = (p.natAbs : Int) by omega)
        · have hn : (q != 0) = true := by simpa using h0
          have hs := Lib.hid (ArithM.gcd_tmod p q)
          have hr : -1000000000 ≤ p.tmod q ∧ p.tmod q ≤ 1000000000 ∧ (p.tmod q).natAbs < q.natAbs := by
            have e := Int.natAbs_tmod p q
            have := Nat.mod_lt p.natAbs (show 0 < q.natAbs by omega)
            omega
          go_wp2
          go_quiet (fail)
          go_wp2
          exact ⟨⟨q, p.tmod q, rfl, rfl, hq, ⟨hr.1, hr.2.1⟩, hs.out.trans hg, below_drewN hb _⟩, hr.2.2⟩
    · have hm : ArithM.gcdL x y = 0 := by simp [ArithM.gcdL, hy]
      simp only [Bool.not_eq_true] at hy
      rw [hm]
      clear hm
      go_enter Try.func95, Try.ntmps95
      go_wp2_with fail
      refine (IC.out x _).mono ?_
      rintro e w1 ⟨rfl, rfl⟩
      simp only [hx]
      go_wp2_with fail
      refine (IC.out y _).mono ?_
      rintro e w1 ⟨rfl, rfl⟩
      simp only [hy]
      go_wp2
      go_ret
      exact ⟨rfl, Below.refl _ _⟩
  · have hm : ArithM.gcdL x y = 0 := by simp [ArithM.gcdL, hx]
    simp only [Bool.not_eq_true] at hx
    rw [hm]
    clear hm
    go_enter Try.func95, Try.ntmps95
    go_wp2_with fail
    refine (IC.out x _).mono ?_
    rintro e w1 ⟨rfl, rfl⟩
    simp only [hx]
    go_wp2
    go_ret
    exact ⟨rfl, Below.refl _ _⟩

end ArithI
end Go.Proofs.Ytmkelfjnjnjgbaa

/-
  The model's bounded arithmetic.
-/
namespace Go.Proofs.Ytmkelfjnjnjgbaa
open Go.RowKit
namespace ArithS
open ArithI (ret_bool below_drewN)

theorem inR (z a b : Int) (w : World) :
    Calls Try.prog 50 #[.int .i64 z, .int .i64 a, .int .i64 b] w fun e w' => e = .returned (.bool (decide (a ≤ z) && decide (z ≤ b))) ∧ w = w' := by
  go_enter Try.func50, Try.ntmps50
  go_wp2
  all_goals
    go_ret
    exact ⟨ret_bool (by simp_all; try omega), rfl⟩

theorem in3 (z : Int) (w : World) :
    Calls Try.prog 82 #[.int .i64 z] w fun e w' => e = .returned (.bool (ArithM.inC z)) ∧ w = w' := by
  go_enter Try.func82, Try.ntmps82
  go_wp2_with fail
  refine (inR z (-1000000000) 1000000000 _).mono ?_
  rintro e w1 ⟨rfl, rfl⟩
  go_wp2
  go_ret
  exact ⟨rfl, rfl⟩

theorem fits (z : Int) (w : World) :
    Calls Try.prog 53 #[.int .i64 z] w fun e w' => e = .returned (.bool (ArithM.inF z)) ∧ w = w' := by
  go_enter Try.func53, Try.ntmps53
  go_wp2_with fail
  refine (inR z (-1000000) 1000000 _).mono ?_
  rintro e w1 ⟨rfl, rfl⟩
  go_wp2
  go_ret
  exact ⟨rfl, rfl⟩

theorem size3 (z : Int) (h0 : -1000000000 ≤ z) (h1 : z ≤ 1000000000) (w : World) :
    Calls Try.prog 109 #[.int .i64 z] w fun e w' => e = .returned (.int .i64 (z.natAbs : Int)) ∧ w = w' := by
  by_cases hz : z < 0
  · have e : (z.natAbs : Int) = -z := by omega
    rw [e]
    clear e
    go_enter Try.func109, Try.ntmps109
    go_wp2
    go_ret
    exact ⟨rfl, rfl⟩
  · have e : (z.natAbs : Int) = z := by omega
    rw [e]
    clear e
    go_enter Try.func109, Try.ntmps109
    go_wp2
    go_ret
    exact ⟨rfl, rfl⟩

set_option maxHeartbeats 1000000 in
set_option maxRecDepth 100000 in
theorem add (x y : Int) (w : World) :
    Calls Try.prog 101 #[.int .i64 x, .int .i64 y] w fun e w' => e = .returned (.tuple #[.int .i64 ((ArithM.addL x y).getD 0), .bool (ArithM.addL x y).isSome]) ∧ w = w' := by
  have IC := Lib.hid in3
  by_cases hx : ArithM.inC x = true
  · by_cases hy : ArithM.inC y = true
    · have hm : ArithM.addL x y = if ArithM.inC (x + y) = true then some (x + y) else none := by simp [ArithM.addL, hx, hy]
      have hb : -2000000000 ≤ x + y ∧ x + y ≤ 2000000000 := by rw [ArithM.inC_iff] at hx hy; omega
      rw [hm]
      clear hm
      go_enter Try.func101, Try.ntmps101
      go_wp2_with fail
      refine (IC.out x _).mono ?_
      rintro e w1 ⟨rfl, rfl⟩
      simp only [hx]
      go_wp2_with fail
      refine (IC.out y _).mono ?_
      rintro e w1 ⟨rfl, rfl⟩
      simp only [hy]
      go_wp2_with fail
      refine (IC.out (x + y) _).mono ?_
      rintro e w4 ⟨rfl, rfl⟩
      by_cases hz : ArithM.inC (x + y) = true
      · simp only [hz]
        go_wp2
        go_ret2
        exact ⟨rfl, rfl⟩
      · simp only [Bool.not_eq_true] at hz
        simp only [hz]
        go_wp2
        all_goals first | (exfalso; simp_all; done) | (go_ret2; exact ⟨rfl, rfl⟩)
    · have hm : ArithM.addL x y = none := by simp [ArithM.addL, hy]
      simp only [Bool.not_eq_true] at hy
      rw [hm]
      clear hm
      go_enter Try.func101, Try.ntmps101
      go_wp2_with fail
      refine (IC.out x _).mono ?_
      rintro e w1 ⟨rfl, rfl⟩
      simp only [hx]
      go_wp2_with fail
      refine (IC.out y _).mono ?_
      rintro e w1 ⟨rfl, rfl⟩
      simp only [hy]
      go_wp2
      go_ret2
      exact ⟨rfl, rfl⟩
  · have hm : ArithM.addL x y = none := by simp [ArithM.addL, hx]
    simp only [Bool.not_eq_true] at hx
    rw [hm]
    clear hm
    go_enter Try.func101, Try.ntmps101
    go_wp2_with fail
    refine (IC.out x _).mono ?_
    rintro e w1 ⟨rfl, rfl⟩
    simp only [hx]
    go_wp2
    go_ret2
    exact ⟨rfl, rfl⟩

set_option maxHeartbeats 1000000 in
set_option maxRecDepth 100000 in
theorem mul (x y : Int) (w : World) :
    Calls Try.prog 100 #[.int .i64 x, .int .i64 y] w fun e w' => e = .returned (.tuple #[.int .i64 ((ArithM.mulL x y).getD 0), .bool (ArithM.mulL x y).isSome]) ∧ w = w' := by
  have IC := Lib.hid in3
  by_cases hx : ArithM.inC x = true
  · by_cases hy : ArithM.inC y = true
    · have hb := ArithM.mul_bound hx hy
      have hw : wrap64 (x * y) = x * y := by generalize x * y = z at *; unfold wrap64; omega
      by_cases hz : ArithM.inC (x * y) = true
      · have hm : ArithM.mulL x y = some (x * y) := by simp [ArithM.mulL, hx, hy, hz]
        rw [hm]
        clear hm
        have IZ : Hid (∀ w, Calls Try.prog 82 #[.int .i64 (x * y)] w fun e w' => e = .returned (.bool true) ∧ w = w') := Lib.hid (fun w => hz ▸ in3 (x * y) w)
        clear hz
        go_enter Try.func100, Try.ntmps100
        go_wp2_with fail
        refine (IC.out x _).mono ?_
        rintro e w1 ⟨rfl, rfl⟩
        simp only [hx]
        go_wp2_with fail
        refine (IC.out y _).mono ?_
        rintro e w1 ⟨rfl, rfl⟩
        simp only [hy]
        go_wp2_with fail
        refine (IZ.out _).mono ?_
        rintro e w4 ⟨rfl, rfl⟩
        go_wp2
        go_ret2
        exact ⟨rfl, rfl⟩
      · have hm : ArithM.mulL x y = none := by simp [ArithM.mulL, hx, hy, hz]
        simp only [Bool.not_eq_true] at hz
        rw [hm]
        clear hm
        have IZ : Hid (∀ w, Calls Try.prog 82 #[.int .i64 (x * y)] w fun e w' => e = .returned (.bool false) ∧ w = w') := Lib.hid (fun w => hz ▸ in3 (x * y) w)
        clear hz
        go_enter Try.func100, Try.ntmps100
        go_wp2_with fail
        refine (IC.out x _).mono ?_
        rintro e w1 ⟨rfl, rfl⟩
        simp only [hx]
        go_wp2_with fail
        refine (IC.out y _).mono ?_
        rintro e w1 ⟨rfl, rfl⟩
        simp only [hy]
        go_wp2_with fail
        refine (IZ.out _).mono ?_
        rintro e w4 ⟨rfl, rfl⟩
        go_wp2
        go_ret2
        exact ⟨rfl, rfl⟩
    · have hm : ArithM.mulL x y = none := by simp [ArithM.mulL, hy]
      simp only [Bool.not_eq_true] at hy
      rw [hm]
      clear hm
      go_enter Try.func100, Try.ntmps100
      go_wp2_with fail
      refine (IC.out x _).mono ?_
      rintro e w1 ⟨rfl, rfl⟩
      simp only [hx]
      go_wp2_with fail
      refine (IC.out y _).mono ?_
      rintro e w1 ⟨rfl, rfl⟩
      simp only [hy]
      go_wp2
      go_ret2
      exact ⟨rfl, rfl⟩
  · have hm : ArithM.mulL x y = none := by simp [ArithM.mulL, hx]
    simp only [Bool.not_eq_true] at hx
    rw [hm]
    clear hm
    go_enter Try.func100, Try.ntmps100
    go_wp2_with fail
    refine (IC.out x _).mono ?_
    rintro e w1 ⟨rfl, rfl⟩
    simp only [hx]
    go_wp2
    go_ret2
    exact ⟨rfl, rfl⟩

set_option maxHeartbeats 1000000 in
theorem gcd (x y : Int) (w : World) :
    Calls Try.prog 102 #[.int .i64 x, .int .i64 y] w fun e w' => e = .returned (.int .i64 (ArithM.gcdL x y)) ∧ Below w.heap.size w w' := by
  have IC := Lib.hid in3
  by_cases hx : ArithM.inC x = true
  · by_cases hy : ArithM.inC y = true
    · have hm : ArithM.gcdL x y = (Nat.gcd x.natAbs y.natAbs : Int) := by simp [ArithM.gcdL, hx, hy]
      rw [hm]
      clear hm
      have hx' := hx
      have hy' := hy
      rw [ArithM.inC_iff] at hx' hy'
      have S1 := Lib.hid (size3 x hx'.1 hx'.2)
      have S2 := Lib.hid (size3 y hy'.1 hy'.2)
      have hp : x.natAbs ≤ 1000000000 := by omega
      have hq : y.natAbs ≤ 1000000000 := by omega
      generalize x.natAbs = a0 at *
      generalize y.natAbs = b0 at *
      go_enter Try.func102, Try.ntmps102
      go_wp2_with fail
      refine (IC.out x _).mono ?_
      rintro e w1 ⟨rfl, rfl⟩
      simp only [hx]
      go_wp2_with fail
      refine (IC.out y _).mono ?_
      rintro e w1 ⟨rfl, rfl⟩
      simp only [hy]
      go_wp2_with fail
      refine (S1.out _).mono ?_
      rintro e w1 ⟨rfl, rfl⟩
      go_wp2_with fail
      refine (S2.out _).mono ?_
      rintro e w1 ⟨rfl, rfl⟩
      clear hx hy hx' hy' S1 S2 IC
      go_wp2
      go_loopw [5, 6] (fun a b wr => ∃ (p q : Nat), a = .int .i64 p ∧ b = .int .i64 q ∧ p ≤ 1000000000 ∧ q ≤ 1000000000 ∧ Nat.gcd p q = Nat.gcd a0 b0 ∧ Below w.heap.size w wr) (fun _ b _ => (intOf b).natAbs)
      case atStart => exact ⟨a0, b0, rfl, rfl, hp, hq, rfl, Below.refl _ _⟩
      case round =>
        obtain ⟨p, q, rfl, rfl, hp, hq, hg, hb⟩ := hrel
        by_cases h0 : q = 0
        · subst h0
          rw [Nat.gcd_zero_right] at hg
          have hg2 := Lib.hid hg
          clear hg
          go_wp2
          go_ret
          exact ⟨by rw [← hg2.out]; rfl, hb⟩
        · have hn : (q : Int) ≠ 0 := by omega
          have hq0 : (0 : Int) < (q : Int) := by omega
          have hs : Hid (Nat.gcd q (p % q) = Nat.gcd p q) := Lib.hid (by rw [Nat.gcd_comm q, ← Nat.gcd_rec, Nat.gcd_comm])
          have hr : p % q < q := Nat.mod_lt _ (by omega)
          go_wp2
          exact ⟨⟨q, p % q, rfl, rfl, hq, by omega, hs.out.trans hg, hb⟩, by show (p % q : Nat) < q; exact hr⟩
    · have hm : ArithM.gcdL x y = 0 := by simp [ArithM.gcdL, hy]
      simp only [Bool.not_eq_true] at hy
      rw [hm]
      clear hm
      go_enter Try.func102, Try.ntmps102
      go_wp2_with fail
      refine (IC.out x _).mono ?_
      rintro e w1 ⟨rfl, rfl⟩
      simp only [hx]
      go_wp2_with fail
      refine (IC.out y _).mono ?_
      rintro e w1 ⟨rfl, rfl⟩
      simp only [hy]
      go_wp2
      go_ret
      exact ⟨rfl, Below.refl _ _⟩
  · have hm : ArithM.gcdL x y = 0 := by simp [ArithM.gcdL, hx]
    simp only [Bool.not_eq_true] at hx
    rw [hm]
    clear hm
    go_enter Try.func102, Try.ntmps102
    go_wp2_with fail
    refine (IC.out x _).mono ?_
    rintro e w1 ⟨rfl, rfl⟩
    simp only [hx]
    go_wp2
    go_ret
    exact ⟨rfl, Below.refl _ _⟩

end ArithS
end Go.Proofs.Ytmkelfjnjnjgbaa
