import Derived.Test.YtnbgmhlhbcoicaaProg
import Derived.Test.YtnbgmhlhbcoicaaArith
import Derived.WalkKit
import Derived.Laws.EntriesVeiled
import Derived.Lib.Hide
import Derived.Deep.QuietTactic
import Derived.BigQuiet
/-
  The program's bounded arithmetic.
-/
namespace Go.Proofs.Ytnbgmhlhbcoicaa
open Go.RowKit
namespace ArithI

theorem below_drewN {b : Nat} {w w' : World} (h : Below b w w') (n : Nat) : Below b w (w'.drewN n) := h.trans ⟨rfl, rfl, rfl, Nat.le_refl _, fun _ _ => rfl⟩

theorem ret_bool {a b : Bool} (h : a = b) : Ending.returned (.bool a) = Ending.returned (.bool b) := by rw [h]

theorem isCoeff (z : Int) (w : World) :
    Calls Try.prog 83 #[.int .i64 z] w fun e w' => e = .returned (.bool (ArithM.inC z)) ∧ w = w' := by
  unfold ArithM.inC
  go_enter Try.func83, Try.ntmps83
  go_wp2
  all_goals
    go_ret
    exact ⟨ret_bool (by simp_all; try omega), rfl⟩

theorem op0 (x y : Int) (hx : ArithM.inC x = true) (hy : ArithM.inC y = true) (w : World) :
    Calls Try.prog 96 #[.int .i64 x, .int .i64 y] w fun e w' => e = .returned (.int .i64 (x + y)) ∧ w = w' := by
  rw [ArithM.inC_iff] at hx hy
  go_enter Try.func96, Try.ntmps96
  go_wp2
  go_ret
  exact ⟨rfl, rfl⟩

theorem op1 (x y : Int) (hx : ArithM.inC x = true) (hy : ArithM.inC y = true) (w : World) :
    Calls Try.prog 97 #[.int .i64 x, .int .i64 y] w fun e w' => e = .returned (.int .i64 (x * y)) ∧ w = w' := by
  have hb := ArithM.mul_bound hx hy
  go_enter Try.func97, Try.ntmps97
  go_wp2
  generalize x * y = z at *
  go_ret
  exact ⟨rfl, rfl⟩

theorem operations (w : World) :
    Calls Try.prog 95 #[] w fun e w' => e = .returned (.agg #[.func (.func 96) #[] #[], .func (.func 97) #[] #[]]) ∧ Below w.heap.size w w' := by
  go_enter Try.func95, Try.ntmps95
  go_wp2
  refine bodyPost_ret (results_cell_row rfl _ _ w.heap.size _ _ _ _ rfl (heap_alloc_new _ _) Try.underlying108 rfl (by kernel_rfl)) rfl ?_
  exact ⟨rfl, (Below.refl _ _).alloc (Nat.le_refl _) _⟩

theorem at0 (f g : Value) (W : World) : (Instr.index 108 (.agg #[f, g]) (.int .i64 0)).run Try.prog W = .ok f W := by
  simp [Instr.index, run_underlying Try.underlying108, asIntOf, go_sem]
theorem at1 (f g : Value) (W : World) : (Instr.index 108 (.agg #[f, g]) (.int .i64 1)).run Try.prog W = .ok g W := by
  simp [Instr.index, run_underlying Try.underlying108, asIntOf, go_sem]

set_option maxHeartbeats 1000000 in
set_option maxRecDepth 100000 in
theorem limited0 (x y : Int) (w : World) :
    Calls Try.prog 94 #[.int .i64 0, .int .i64 x, .int .i64 y] w fun e w' => e = .returned (.tuple #[.int .i64 ((ArithM.addL x y).getD 0), .bool (ArithM.addL x y).isSome]) ∧ Below w.heap.size w w' := by
  have IC := Lib.hid isCoeff
  have hix := at0
  by_cases hx : ArithM.inC x = true
  · by_cases hy : ArithM.inC y = true
    · have hm : ArithM.addL x y = if ArithM.inC (x + y) = true then some (x + y) else none := by simp [ArithM.addL, hx, hy]
      have OP := Lib.hid (op0 x y hx hy)
      rw [hm]
      clear hm
      generalize x + y = z at *
      go_enter Try.func94, Try.ntmps94
      go_wp2_with fail
      refine (IC.out x _).mono ?_
      rintro e w1 ⟨rfl, rfl⟩
      simp only [hx]
      go_wp2_with fail
      refine (IC.out y _).mono ?_
      rintro e w1 ⟨rfl, rfl⟩
      simp only [hy]
      go_wp2_with fail
      refine (operations _).mono ?_
      rintro e w2 ⟨rfl, b2⟩
      go_wp2_with fail
      refine (OP.out _).mono ?_
      rintro e w3 ⟨rfl, rfl⟩
      go_wp2_with fail
      refine (IC.out z _).mono ?_
      rintro e w4 ⟨rfl, rfl⟩
      by_cases hz : ArithM.inC z = true
      · simp only [hz]
        go_wp2
        go_ret2
        exact ⟨rfl, b2⟩
      · simp only [Bool.not_eq_true] at hz
        simp only [hz]
        go_wp2
        all_goals first | (exfalso; simp_all; done) | (go_ret2; exact ⟨rfl, b2⟩)
    · have hm : ArithM.addL x y = none := by simp [ArithM.addL, hy]
      simp only [Bool.not_eq_true] at hy
      rw [hm]
      clear hm
      go_enter Try.func94, Try.ntmps94
      go_wp2_with fail
      refine (IC.out x _).mono ?_
      rintro e w1 ⟨rfl, rfl⟩
      simp only [hx]
      go_wp2_with fail
      refine (IC.out y _).mono ?_
      rintro e w1 ⟨rfl, rfl⟩
      simp only [hy]
      go_wp2
      go_ret2
      exact ⟨rfl, Below.refl _ _⟩
  · have hm : ArithM.addL x y = none := by simp [ArithM.addL, hx]
    simp only [Bool.not_eq_true] at hx
    rw [hm]
    clear hm
    go_enter Try.func94, Try.ntmps94
    go_wp2_with fail
    refine (IC.out x _).mono ?_
    rintro e w1 ⟨rfl, rfl⟩
    simp only [hx]
    go_wp2
    go_ret2
    exact ⟨rfl, Below.refl _ _⟩

set_option maxHeartbeats 1000000 in
set_option maxRecDepth 100000 in
theorem limited1 (x y : Int) (w : World) :
    Calls Try.prog 94 #[.int .i64 1, .int .i64 x, .int .i64 y] w fun e w' => e = .returned (.tuple #[.int .i64 ((ArithM.mulL x y).getD 0), .bool (ArithM.mulL x y).isSome]) ∧ Below w.heap.size w w' := by
  have IC := Lib.hid isCoeff
  have hix := at1
  by_cases hx : ArithM.inC x = true
  · by_cases hy : ArithM.inC y = true
    · have hm : ArithM.mulL x y = if ArithM.inC (x * y) = true then some (x * y) else none := by simp [ArithM.mulL, hx, hy]
      have OP := Lib.hid (op1 x y hx hy)
      rw [hm]
      clear hm
      generalize x * y = z at *
      go_enter Try.func94, Try.ntmps94
      go_wp2_with fail
      refine (IC.out x _).mono ?_
      rintro e w1 ⟨rfl, rfl⟩
      simp only [hx]
      go_wp2_with fail
      refine (IC.out y _).mono ?_
      rintro e w1 ⟨rfl, rfl⟩
      simp only [hy]
      go_wp2_with fail
      refine (operations _).mono ?_
      rintro e w2 ⟨rfl, b2⟩
      go_wp2_with fail
      refine (OP.out _).mono ?_
      rintro e w3 ⟨rfl, rfl⟩
      go_wp2_with fail
      refine (IC.out z _).mono ?_
      rintro e w4 ⟨rfl, rfl⟩
      by_cases hz : ArithM.inC z = true
      · simp only [hz]
        go_wp2
        go_ret2
        exact ⟨rfl, b2⟩
      · simp only [Bool.not_eq_true] at hz
        simp only [hz]
        go_wp2
        all_goals first | (exfalso; simp_all; done) | (go_ret2; exact ⟨rfl, b2⟩)
    · have hm : ArithM.mulL x y = none := by simp [ArithM.mulL, hy]
      simp only [Bool.not_eq_true] at hy
      rw [hm]
      clear hm
      go_enter Try.func94, Try.ntmps94
      go_wp2_with fail
      refine (IC.out x _).mono ?_
      rintro e w1 ⟨rfl, rfl⟩
      simp only [hx]
      go_wp2_with fail
      refine (IC.out y _).mono ?_
      rintro e w1 ⟨rfl, rfl⟩
      simp only [hy]
      go_wp2
      go_ret2
      exact ⟨rfl, Below.refl _ _⟩
  · have hm : ArithM.mulL x y = none := by simp [ArithM.mulL, hx]
    simp only [Bool.not_eq_true] at hx
    rw [hm]
    clear hm
    go_enter Try.func94, Try.ntmps94
    go_wp2_with fail
    refine (IC.out x _).mono ?_
    rintro e w1 ⟨rfl, rfl⟩
    simp only [hx]
    go_wp2
    go_ret2
    exact ⟨rfl, Below.refl _ _⟩

theorem add (x y : Int) (w : World) :
    Calls Try.prog 91 #[.int .i64 x, .int .i64 y] w fun e w' => e = .returned (.tuple #[.int .i64 ((ArithM.addL x y).getD 0), .bool (ArithM.addL x y).isSome]) ∧ Below w.heap.size w w' := by
  go_enter Try.func91, Try.ntmps91
  go_wp2_with fail
  refine (limited0 x y _).mono ?_
  rintro e w1 ⟨rfl, b1⟩
  go_wp2
  go_ret2
  exact ⟨rfl, b1⟩

theorem mul (x y : Int) (w : World) :
    Calls Try.prog 90 #[.int .i64 x, .int .i64 y] w fun e w' => e = .returned (.tuple #[.int .i64 ((ArithM.mulL x y).getD 0), .bool (ArithM.mulL x y).isSome]) ∧ Below w.heap.size w w' := by
  go_enter Try.func90, Try.ntmps90
  go_wp2_with fail
  refine (limited1 x y _).mono ?_
  rintro e w1 ⟨rfl, b1⟩
  go_wp2
  go_ret2
  exact ⟨rfl, b1⟩

end ArithI
end Go.Proofs.Ytnbgmhlhbcoicaa
