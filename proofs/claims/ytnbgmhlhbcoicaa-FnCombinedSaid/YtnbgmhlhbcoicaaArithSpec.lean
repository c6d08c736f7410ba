import Derived.Test.YtnbgmhlhbcoicaaArithImpl
/-
  The model's bounded arithmetic.
-/
namespace Go.Proofs.Ytnbgmhlhbcoicaa
open Go.RowKit
namespace ArithS
open ArithI (ret_bool below_drewN)

theorem inR (z a b : Int) (w : World) :
    Calls Try.prog 52 #[.int .i64 z, .int .i64 a, .int .i64 b] w fun e w' => e = .returned (.bool (decide (a ≤ z) && decide (z ≤ b))) ∧ w = w' := by
  go_enter Try.func52, Try.ntmps52
  go_wp2
  all_goals
    go_ret
    exact ⟨ret_bool (by simp_all; try omega), rfl⟩

theorem in3 (z : Int) (w : World) :
    Calls Try.prog 78 #[.int .i64 z] w fun e w' => e = .returned (.bool (ArithM.inC z)) ∧ w = w' := by
  go_enter Try.func78, Try.ntmps78
  go_wp2_with fail
  refine (inR z (-1000000000) 1000000000 _).mono ?_
  rintro e w1 ⟨rfl, rfl⟩
  go_wp2
  go_ret
  exact ⟨rfl, rfl⟩

theorem fits (z : Int) (w : World) :
    Calls Try.prog 56 #[.int .i64 z] w fun e w' => e = .returned (.bool (ArithM.inF z)) ∧ w = w' := by
  go_enter Try.func56, Try.ntmps56
  go_wp2_with fail
  refine (inR z (-1000000) 1000000 _).mono ?_
  rintro e w1 ⟨rfl, rfl⟩
  go_wp2
  go_ret
  exact ⟨rfl, rfl⟩

set_option maxHeartbeats 1000000 in
set_option maxRecDepth 100000 in
theorem add (x y : Int) (w : World) :
    Calls Try.prog 88 #[.int .i64 x, .int .i64 y] w fun e w' => e = .returned (.tuple #[.int .i64 ((ArithM.addL x y).getD 0), .bool (ArithM.addL x y).isSome]) ∧ w = w' := by
  have IC := Lib.hid in3
  by_cases hx : ArithM.inC x = true
  · by_cases hy : ArithM.inC y = true
    · have hm : ArithM.addL x y = if ArithM.inC (x + y) = true then some (x + y) else none := by simp [ArithM.addL, hx, hy]
      have hb : -2000000000 ≤ x + y ∧ x + y ≤ 2000000000 := by rw [ArithM.inC_iff] at hx hy; omega
      rw [hm]
      clear hm
      go_enter Try.func88, Try.ntmps88
      go_wp2_with fail
      refine (IC.out x _).mono ?_
      rintro e w1 ⟨rfl, rfl⟩
      simp only [hx]
      go_wp2_with fail
      refine (IC.out y _).mono ?_
      rintro e w1 ⟨rfl, rfl⟩
      simp only [hy]
      go_wp2_with fail
      refine (IC.out (x + y) _).mono ?_
      rintro e w4 ⟨rfl, rfl⟩
      by_cases hz : ArithM.inC (x + y) = true
      · simp only [hz]
        go_wp2
        go_ret2
        exact ⟨rfl, rfl⟩
      · simp only [Bool.not_eq_true] at hz
        simp only [hz]
        go_wp2
        all_goals first | (exfalso; simp_all; done) | (go_ret2; exact ⟨rfl, rfl⟩)
    · have hm : ArithM.addL x y = none := by simp [ArithM.addL, hy]
      simp only [Bool.not_eq_true] at hy
      rw [hm]
      clear hm
      go_enter Try.func88, Try.ntmps88
      go_wp2_with fail
      refine (IC.out x _).mono ?_
      rintro e w1 ⟨rfl, rfl⟩
      simp only [hx]
      go_wp2_with fail
      refine (IC.out y _).mono ?_
      rintro e w1 ⟨rfl, rfl⟩
      simp only [hy]
      go_wp2
      go_ret2
      exact ⟨rfl, rfl⟩
  · have hm : ArithM.addL x y = none := by simp [ArithM.addL, hx]
    simp only [Bool.not_eq_true] at hx
    rw [hm]
    clear hm
    go_enter Try.func88, Try.ntmps88
    go_wp2_with fail
    refine (IC.out x _).mono ?_
    rintro e w1 ⟨rfl, rfl⟩
    simp only [hx]
    go_wp2
    go_ret2
    exact ⟨rfl, rfl⟩

set_option maxHeartbeats 1000000 in
set_option maxRecDepth 100000 in
theorem mul (x y : Int) (w : World) :
    Calls Try.prog 87 #[.int .i64 x, .int .i64 y] w fun e w' => e = .returned (.tuple #[.int .i64 ((ArithM.mulL x y).getD 0), .bool (ArithM.mulL x y).isSome]) ∧ w = w' := by
  have IC := Lib.hid in3
  by_cases hx : ArithM.inC x = true
  · by_cases hy : ArithM.inC y = true
    · have hb := ArithM.mul_bound hx hy
      have hw : wrap64 (x * y) = x * y := by generalize x * y = z at *; unfold wrap64; omega
      by_cases hz : ArithM.inC (x * y) = true
      · have hm : ArithM.mulL x y = some (x * y) := by simp [ArithM.mulL, hx, hy, hz]
        rw [hm]
        clear hm
        have IZ : Hid (∀ w, Calls Try.prog 78 #[.int .i64 (x * y)] w fun e w' => e = .returned (.bool true) ∧ w = w') := Lib.hid (fun w => hz ▸ in3 (x * y) w)
        clear hz
        go_enter Try.func87, Try.ntmps87
        go_wp2_with fail
        refine (IC.out x _).mono ?_
        rintro e w1 ⟨rfl, rfl⟩
        simp only [hx]
        go_wp2_with fail
        refine (IC.out y _).mono ?_
        rintro e w1 ⟨rfl, rfl⟩
        simp only [hy]
        go_wp2_with fail
        refine (IZ.out _).mono ?_
        rintro e w4 ⟨rfl, rfl⟩
        go_wp2
        go_ret2
        exact ⟨rfl, rfl⟩
      · have hm : ArithM.mulL x y = none := by simp [ArithM.mulL, hx, hy, hz]
        simp only [Bool.not_eq_true] at hz
        rw [hm]
        clear hm
        have IZ : Hid (∀ w, Calls Try.prog 78 #[.int .i64 (x * y)] w fun e w' => e = .returned (.bool false) ∧ w = w') := Lib.hid (fun w => hz ▸ in3 (x * y) w)
        clear hz
        go_enter Try.func87, Try.ntmps87
        go_wp2_with fail
        refine (IC.out x _).mono ?_
        rintro e w1 ⟨rfl, rfl⟩
        simp only [hx]
        go_wp2_with fail
        refine (IC.out y _).mono ?_
        rintro e w1 ⟨rfl, rfl⟩
        simp only [hy]
        go_wp2_with fail
        refine (IZ.out _).mono ?_
        rintro e w4 ⟨rfl, rfl⟩
        go_wp2
        go_ret2
        exact ⟨rfl, rfl⟩
    · have hm : ArithM.mulL x y = none := by simp [ArithM.mulL, hy]
      simp only [Bool.not_eq_true] at hy
      rw [hm]
      clear hm
      go_enter Try.func87, Try.ntmps87
      go_wp2_with fail
      refine (IC.out x _).mono ?_
      rintro e w1 ⟨rfl, rfl⟩
      simp only [hx]
      go_wp2_with fail
      refine (IC.out y _).mono ?_
      rintro e w1 ⟨rfl, rfl⟩
      simp only [hy]
      go_wp2
      go_ret2
      exact ⟨rfl, rfl⟩
  · have hm : ArithM.mulL x y = none := by simp [ArithM.mulL, hx]
    simp only [Bool.not_eq_true] at hx
    rw [hm]
    clear hm
    go_enter Try.func87, Try.ntmps87
    go_wp2_with fail
    refine (IC.out x _).mono ?_
    rintro e w1 ⟨rfl, rfl⟩
    simp only [hx]
    go_wp2
    go_ret2
    exact ⟨rfl, rfl⟩

end ArithS
end Go.Proofs.Ytnbgmhlhbcoicaa
