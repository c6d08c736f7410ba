/-
  The model's bounded arithmetic.
-/
import Derived.Test.YtjhjbnfdnecidaaArithImpl
namespace Go.Proofs.Ytjhjbnfdnecidaa
open Go.RowKit
namespace ArithS
open ArithI (ret_bool below_drewN)

theorem inR (z a b : Int) (w : World) :
    Calls Try.prog 53 #[.int .i64 z, .int .i64 a, .int .i64 b] w fun e w' => e = .returned (.bool (decide (a ≤ z) && decide (z ≤ b))) ∧ w = w' := by
  go_enter Try.func53, Try.ntmps53
  go_wp2
  all_goals
    go_ret
    exact ⟨ret_bool (by simp_all; try omega), rfl⟩

theorem in3 (z : Int) (w : World) :
    Calls Try.prog 48 #[.int .i64 z] w fun e w' => e = .returned (.bool (ArithM.inC z)) ∧ w = w' := by
  go_enter Try.func48, Try.ntmps48
  go_wp2_with fail
  refine (inR z (-1000000000) 1000000000 _).mono ?_
  rintro e w1 ⟨rfl, rfl⟩
  go_wp2
  go_ret
  exact ⟨rfl, rfl⟩

theorem fits (z : Int) (w : World) :
    Calls Try.prog 63 #[.int .i64 z] w fun e w' => e = .returned (.bool (ArithM.inF z)) ∧ w = w' := by
  go_enter Try.func63, Try.ntmps63
  go_wp2_with fail
  refine (inR z (-1000000) 1000000 _).mono ?_
  rintro e w1 ⟨rfl, rfl⟩
  go_wp2
  go_ret
  exact ⟨rfl, rfl⟩

theorem size3 (z : Int) (h0 : -1000000000 ≤ z) (h1 : z ≤ 1000000000) (w : World) :
    Calls Try.prog 74 #[.int .i64 z] w fun e w' => e = .returned (.int .i64 (z.natAbs : Int)) ∧ w = w' := by
  by_cases hz : z < 0
  · have e : (z.natAbs : Int) = -z := by omega
    rw [e]
    clear e
    go_enter Try.func74, Try.ntmps74
    go_wp2
    go_ret
    exact ⟨rfl, rfl⟩
  · have e : (z.natAbs : Int) = z := by omega
    rw [e]
    clear e
    go_enter Try.func74, Try.ntmps74
    go_wp2
    go_ret
    exact ⟨rfl, rfl⟩

set_option maxHeartbeats 1000000 in
set_option maxRecDepth 100000 in
theorem add (x y : Int) (w : World) :
    Calls Try.prog 72 #[.int .i64 x, .int .i64 y] w fun e w' => e = .returned (.tuple #[.int .i64 ((ArithM.addL x y).getD 0), .bool (ArithM.addL x y).isSome]) ∧ w = w' := by
  have IC := Lib.hid in3
  by_cases hx : ArithM.inC x = true
  · by_cases hy : ArithM.inC y = true
    · have hm : ArithM.addL x y = if ArithM.inC (x + y) = true then some (x + y) else none := by simp [ArithM.addL, hx, hy]
      have hb : -2000000000 ≤ x + y ∧ x + y ≤ 2000000000 := by rw [ArithM.inC_iff] at hx hy; omega
      rw [hm]
      clear hm
      go_enter Try.func72, Try.ntmps72
      go_wp2_with fail
      refine (IC.out x _).mono ?_
      rintro e w1 ⟨rfl, rfl⟩
      simp only [hx]
      go_wp2_with fail
      refine (IC.out y _).mono ?_
      rintro e w1 ⟨rfl, rfl⟩
      simp only [hy]
      go_wp2_with fail
      refine (IC.out (x + y) _).mono ?_
      rintro e w4 ⟨rfl, rfl⟩
      by_cases hz : ArithM.inC (x + y) = true
      · simp only [hz]
        go_wp2
        go_ret2
        exact ⟨rfl, rfl⟩
      · simp only [Bool.not_eq_true] at hz
        simp only [hz]
        go_wp2
        all_goals first | (exfalso; simp_all; done) | (go_ret2; exact ⟨rfl, rfl⟩)
    · have hm : ArithM.addL x y = none := by simp [ArithM.addL, hy]
      simp only [Bool.not_eq_true] at hy
      rw [hm]
      clear hm
      go_enter Try.func72, Try.ntmps72
      go_wp2_with fail
      refine (IC.out x _).mono ?_
      rintro e w1 ⟨rfl, rfl⟩
      simp only [hx]
      go_wp2_with fail
      refine (IC.out y _).mono ?_
      rintro e w1 ⟨rfl, rfl⟩
      simp only [hy]
      go_wp2
      go_ret2
      exact ⟨rfl, rfl⟩
  · have hm : ArithM.addL x y = none := by simp [ArithM.addL, hx]
    simp only [Bool.not_eq_true] at hx
    rw [hm]
    clear hm
    go_enter Try.func72, Try.ntmps72
    go_wp2_with fail
    refine (IC.out x _).mono ?_
    rintro e w1 ⟨rfl, rfl⟩
    simp only [hx]
    go_wp2
    go_ret2
    exact ⟨rfl, rfl⟩

set_option maxHeartbeats 1000000 in
set_option maxRecDepth 100000 in
theorem mul (x y : Int) (w : World) :
    Calls Try.prog 55 #[.int .i64 x, .int .i64 y] w fun e w' => e = .returned (.tuple #[.int .i64 ((ArithM.mulL x y).getD 0), .bool (ArithM.mulL x y).isSome]) ∧ w = w' := by
  have IC := Lib.hid in3
  by_cases hx : ArithM.inC x = true
  · by_cases hy : ArithM.inC y = true
    · have hb := ArithM.mul_bound hx hy
      have hw : wrap64 (x * y) = x * y := by generalize x * y = z at *; unfold wrap64; omega
      by_cases hz : ArithM.inC (x * y) = true
      · have hm : ArithM.mulL x y = some (x * y) := by simp [ArithM.mulL, hx, hy, hz]
        rw [hm]
        clear hm
        have IZ : Hid (∀ w, Calls Try.prog 48 #[.int .i64 (x * y)] w fun e w' => e = .returned (.bool true) ∧ w = w') := Lib.hid (fun w => hz ▸ in3 (x * y) w)
        clear hz
        go_enter Try.func55, Try.ntmps55
        go_wp2_with fail
        refine (IC.out x _).mono ?_
        rintro e w1 ⟨rfl, rfl⟩
        simp only [hx]
        go_wp2_with fail
        refine (IC.out y _).mono ?_
        rintro e w1 ⟨rfl, rfl⟩
        simp only [hy]
        go_wp2_with fail
        refine (IZ.out _).mono ?_
        rintro e w4 ⟨rfl, rfl⟩
        go_wp2
        go_ret2
        exact ⟨rfl, rfl⟩
      · have hm : ArithM.mulL x y = none := by simp [ArithM.mulL, hx, hy, hz]
        simp only [Bool.not_eq_true] at hz
        rw [hm]
        clear hm
        have IZ : Hid (∀ w, Calls Try.prog 48 #[.int .i64 (x * y)] w fun e w' => e = .returned (.bool false) ∧ w = w') := Lib.hid (fun w => hz ▸ in3 (x * y) w)
        clear hz
        go_enter Try.func55, Try.ntmps55
        go_wp2_with fail
        refine (IC.out x _).mono ?_
        rintro e w1 ⟨rfl, rfl⟩
        simp only [hx]
        go_wp2_with fail
        refine (IC.out y _).mono ?_
        rintro e w1 ⟨rfl, rfl⟩
        simp only [hy]
        go_wp2_with fail
        refine (IZ.out _).mono ?_
        rintro e w4 ⟨rfl, rfl⟩
        go_wp2
        go_ret2
        exact ⟨rfl, rfl⟩
    · have hm : ArithM.mulL x y = none := by simp [ArithM.mulL, hy]
      simp only [Bool.not_eq_true] at hy
      rw [hm]
      clear hm
      go_enter Try.func55, Try.ntmps55
      go_wp2_with fail
      refine (IC.out x _).mono ?_
      rintro e w1 ⟨rfl, rfl⟩
      simp only [hx]
      go_wp2_with fail
      refine (IC.out y _).mono ?_
      rintro e w1 ⟨rfl, rfl⟩
      simp only [hy]
      go_wp2
      go_ret2
      exact ⟨rfl, rfl⟩
  · have hm : ArithM.mulL x y = none := by simp [ArithM.mulL, hx]
    simp only [Bool.not_eq_true] at hx
    rw [hm]
    clear hm
    go_enter Try.func55, Try.ntmps55
    go_wp2_with fail
    refine (IC.out x _).mono ?_
    rintro e w1 ⟨rfl, rfl⟩
    simp only [hx]
    go_wp2
    go_ret2
    exact ⟨rfl, rfl⟩

set_option maxHeartbeats 1000000 in
theorem gcd (x y : Int) (w : World) :
    Calls Try.prog 61 #[.int .i64 x, .int .i64 y] w fun e w' => e = .returned (.int .i64 (ArithM.gcdL x y)) ∧ Below w.heap.size w w' := by
  have IC := Lib.hid in3
  by_cases hx : ArithM.inC x = true
  · by_cases hy : ArithM.inC y = true
    · have hm : ArithM.gcdL x y = (Nat.gcd x.natAbs y.natAbs : Int) := by simp [ArithM.gcdL, hx, hy]
      rw [hm]
      clear hm
      have hx' := hx
      have hy' := hy
      rw [ArithM.inC_iff] at hx' hy'
      have S1 := Lib.hid (size3 x hx'.1 hx'.2)
      have S2 := Lib.hid (size3 y hy'.1 hy'.2)
      have hp : x.natAbs ≤ 1000000000 := by omega
      have hq : y.natAbs ≤ 1000000000 := by omega
      generalize x.natAbs = a0 at *
      generalize y.natAbs = b0 at *
      go_enter Try.func61, Try.ntmps61
      go_wp2_with fail
      refine (IC.out x _).mono ?_
      rintro e w1 ⟨rfl, rfl⟩
      simp only [hx]
      go_wp2_with fail
      refine (IC.out y _).mono ?_
      rintro e w1 ⟨rfl, rfl⟩
      simp only [hy]
      go_wp2_with fail
      refine (S1.out _).mono ?_
      rintro e w1 ⟨rfl, rfl⟩
      go_wp2_with fail
      refine (S2.out _).mono ?_
      rintro e w1 ⟨rfl, rfl⟩
      clear hx hy hx' hy' S1 S2 IC
      go_wp2
      go_loopw [5, 6] (fun a b wr => ∃ (p q : Nat), a = .int .i64 p ∧ b = .int .i64 q ∧ p ≤ 1000000000 ∧ q ≤ 1000000000 ∧ Nat.gcd p q = Nat.gcd a0 b0 ∧ Below w.heap.size w wr) (fun _ b _ => (intOf b).natAbs)
      case atStart => exact ⟨a0, b0, rfl, rfl, hp, hq, rfl, Below.refl _ _⟩
      case round =>
        obtain ⟨p, q, rfl, rfl, hp, hq, hg, hb⟩ := hrel
        by_cases h0 : q = 0
        · subst h0
          rw [Nat.gcd_zero_right] at hg
          have hg2 := Lib.hid hg
          clear hg
          go_wp2
          go_ret
          exact ⟨by rw [← hg2.out]; rfl, hb⟩
        · have hn : (q : Int) ≠ 0 := by omega
          have hq0 : (0 : Int) < (q : Int) := by omega
          have hs : Hid (Nat.gcd q (p % q) = Nat.gcd p q) := Lib.hid (by rw [Nat.gcd_comm q, ← Nat.gcd_rec, Nat.gcd_comm])
          have hr : p % q < q := Nat.mod_lt _ (by omega)
          go_wp2
          exact ⟨⟨q, p % q, rfl, rfl, hq, by omega, hs.out.trans hg, hb⟩, by show (p % q : Nat) < q; exact hr⟩
    · have hm : ArithM.gcdL x y = 0 := by simp [ArithM.gcdL, hy]
      simp only [Bool.not_eq_true] at hy
      rw [hm]
      clear hm
      go_enter Try.func61, Try.ntmps61
      go_wp2_with fail
      refine (IC.out x _).mono ?_
      rintro e w1 ⟨rfl, rfl⟩
      simp only [hx]
      go_wp2_with fail
      refine (IC.out y _).mono ?_
      rintro e w1 ⟨rfl, rfl⟩
      simp only [hy]
      go_wp2
      go_ret
      exact ⟨rfl, Below.refl _ _⟩
  · have hm : ArithM.gcdL x y = 0 := by simp [ArithM.gcdL, hx]
    simp only [Bool.not_eq_true] at hx
    rw [hm]
    clear hm
    go_enter Try.func61, Try.ntmps61
    go_wp2_with fail
    refine (IC.out x _).mono ?_
    rintro e w1 ⟨rfl, rfl⟩
    simp only [hx]
    go_wp2
    go_ret
    exact ⟨rfl, Below.refl _ _⟩

theorem floorDiv (x y : Int) (hx0 : -9223372036854775808 ≤ x) (hx1 : x ≤ 9223372036854775807) (hy0 : -9223372036854775808 ≤ y) (hy1 : y ≤ 9223372036854775807) (w : World) :
    Calls Try.prog 62 #[.int .i64 x, .int .i64 y] w fun e w' => e = .returned (.int .i64 (ArithM.floorL x y)) ∧ w = w' := by
  by_cases hy : y ≤ 0
  · have hm : ArithM.floorL x y = 0 := by simp [ArithM.floorL, hy]
    rw [hm]
    clear hm
    go_enter Try.func62, Try.ntmps62
    go_wp2
    go_ret
    exact ⟨rfl, rfl⟩
  · have hm : ArithM.floorL x y = x / y := by simp [ArithM.floorL, hy]
    have hb := ArithM.floorL_bounds (y := y) hx0 hx1
    rw [hm] at hb ⊢
    clear hm
    have F1 := Lib.hid (fun h => ArithM.floor_neg (x := x) (y := y) (by omega) h)
    have F2 := Lib.hid (fun h => ArithM.floor_nn (x := x) (y := y) (by omega) h)
    generalize x / y = d at *
    by_cases h : x.tmod y < 0
    · go_enter Try.func62, Try.ntmps62
      go_wp2
      go_ret
      rw [F1.out h]
      exact ⟨congrArg (fun z => Ending.returned (.int .i64 z)) (show wrap64 d = d by unfold wrap64; omega), rfl⟩
    · go_enter Try.func62, Try.ntmps62
      go_wp2
      go_ret
      exact ⟨congrArg (fun z => Ending.returned (.int .i64 z)) (F2.out (by omega)), rfl⟩
end ArithS
end Go.Proofs.Ytjhjbnfdnecidaa
