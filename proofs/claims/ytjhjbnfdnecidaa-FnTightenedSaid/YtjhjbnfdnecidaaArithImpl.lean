/-
  The program's bounded arithmetic.
-/
import Derived.Test.YtjhjbnfdnecidaaProg
import Derived.Test.YtjhjbnfdnecidaaArith
import Derived.WalkKit
import Derived.Laws.EntriesVeiled
import Derived.Lib.Hide
import Derived.Deep.QuietTactic
import Derived.BigQuiet
namespace Go.Proofs.Ytjhjbnfdnecidaa
open Go.RowKit
namespace ArithI

theorem below_drewN {b : Nat} {w w' : World} (h : Below b w w') (n : Nat) : Below b w (w'.drewN n) := h.trans ⟨rfl, rfl, rfl, Nat.le_refl _, fun _ _ => rfl⟩

theorem ret_bool {a b : Bool} (h : a = b) : Ending.returned (.bool a) = Ending.returned (.bool b) := by rw [h]

theorem isCoeff (z : Int) (w : World) :
    Calls Try.prog 52 #[.int .i64 z] w fun e w' => e = .returned (.bool (ArithM.inC z)) ∧ w = w' := by
  unfold ArithM.inC
  go_enter Try.func52, Try.ntmps52
  go_wp2
  all_goals
    go_ret
    exact ⟨ret_bool (by simp_all; try omega), rfl⟩

theorem fits (z : Int) (w : World) :
    Calls Try.prog 54 #[.int .i64 z] w fun e w' => e = .returned (.bool (ArithM.inF z)) ∧ w = w' := by
  unfold ArithM.inF
  go_enter Try.func54, Try.ntmps54
  go_wp2
  all_goals
    go_ret
    exact ⟨ret_bool (by simp_all; try omega), rfl⟩

theorem op0 (x y : Int) (hx : ArithM.inC x = true) (hy : ArithM.inC y = true) (w : World) :
    Calls Try.prog 77 #[.int .i64 x, .int .i64 y] w fun e w' => e = .returned (.int .i64 (x + y)) ∧ w = w' := by
  rw [ArithM.inC_iff] at hx hy
  go_enter Try.func77, Try.ntmps77
  go_wp2
  go_ret
  exact ⟨rfl, rfl⟩

theorem op1 (x y : Int) (hx : ArithM.inC x = true) (hy : ArithM.inC y = true) (w : World) :
    Calls Try.prog 78 #[.int .i64 x, .int .i64 y] w fun e w' => e = .returned (.int .i64 (x * y)) ∧ w = w' := by
  have hb := ArithM.mul_bound hx hy
  go_enter Try.func78, Try.ntmps78
  go_wp2
  generalize x * y = z at *
  go_ret
  exact ⟨rfl, rfl⟩

theorem operations (w : World) :
    Calls Try.prog 76 #[] w fun e w' => e = .returned (.agg #[.func (.func 77) #[] #[], .func (.func 78) #[] #[]]) ∧ Below w.heap.size w w' := by
  go_enter Try.func76, Try.ntmps76
  go_wp2
  refine bodyPost_ret (results_cell_row rfl _ _ w.heap.size _ _ _ _ rfl (heap_alloc_new _ _) Try.underlying77 rfl (by kernel_rfl)) rfl ?_
  exact ⟨rfl, (Below.refl _ _).alloc (Nat.le_refl _) _⟩

theorem at0 (f g : Value) (W : World) : (Instr.index 77 (.agg #[f, g]) (.int .i64 0)).run Try.prog W = .ok f W := by
  simp [Instr.index, run_underlying Try.underlying77, asIntOf, go_sem]
theorem at1 (f g : Value) (W : World) : (Instr.index 77 (.agg #[f, g]) (.int .i64 1)).run Try.prog W = .ok g W := by
  simp [Instr.index, run_underlying Try.underlying77, asIntOf, go_sem]

set_option maxHeartbeats 1000000 in
set_option maxRecDepth 100000 in
theorem limited0 (x y : Int) (w : World) :
    Calls Try.prog 75 #[.int .i64 0, .int .i64 x, .int .i64 y] w fun e w' => e = .returned (.tuple #[.int .i64 ((ArithM.addL x y).getD 0), .bool (ArithM.addL x y).isSome]) ∧ Below w.heap.size w w' := by
  have IC := Lib.hid isCoeff
  have hix := at0
  by_cases hx : ArithM.inC x = true
  · by_cases hy : ArithM.inC y = true
    · have hm : ArithM.addL x y = if ArithM.inC (x + y) = true then some (x + y) else none := by simp [ArithM.addL, hx, hy]
      have OP := Lib.hid (op0 x y hx hy)
      rw [hm]
      clear hm
      generalize x + y = z at *
      go_enter Try.func75, Try.ntmps75
      go_wp2_with fail
      refine (IC.out x _).mono ?_
      rintro e w1 ⟨rfl, rfl⟩
      simp only [hx]
      go_wp2_with fail
      refine (IC.out y _).mono ?_
      rintro e w1 ⟨rfl, rfl⟩
      simp only [hy]
      go_wp2_with fail
      refine (operations _).mono ?_
      rintro e w2 ⟨rfl, b2⟩
      go_wp2_with fail
      refine (OP.out _).mono ?_
      rintro e w3 ⟨rfl, rfl⟩
      go_wp2_with fail
      refine (IC.out z _).mono ?_
      rintro e w4 ⟨rfl, rfl⟩
      by_cases hz : ArithM.inC z = true
      · simp only [hz]
        go_wp2
        go_ret2
        exact ⟨rfl, b2⟩
      · simp only [Bool.not_eq_true] at hz
        simp only [hz]
        go_wp2
        all_goals first | (exfalso; simp_all; done) | (go_ret2; exact ⟨rfl, b2⟩)
    · have hm : ArithM.addL x y = none := by simp [ArithM.addL, hy]
      simp only [Bool.not_eq_true] at hy
      rw [hm]
      clear hm
      go_enter Try.func75, Try.ntmps75
      go_wp2_with fail
      refine (IC.out x _).mono ?_
      rintro e w1 ⟨rfl, rfl⟩
      simp only [hx]
      go_wp2_with fail
      refine (IC.out y _).mono ?_
      rintro e w1 ⟨rfl, rfl⟩
      simp only [hy]
      go_wp2
      go_ret2
      exact ⟨rfl, Below.refl _ _⟩
  · have hm : ArithM.addL x y = none := by simp [ArithM.addL, hx]
    simp only [Bool.not_eq_true] at hx
    rw [hm]
    clear hm
    go_enter Try.func75, Try.ntmps75
    go_wp2_with fail
    refine (IC.out x _).mono ?_
    rintro e w1 ⟨rfl, rfl⟩
    simp only [hx]
    go_wp2
    go_ret2
    exact ⟨rfl, Below.refl _ _⟩

set_option maxHeartbeats 1000000 in
set_option maxRecDepth 100000 in
theorem limited1 (x y : Int) (w : World) :
    Calls Try.prog 75 #[.int .i64 1, .int .i64 x, .int .i64 y] w fun e w' => e = .returned (.tuple #[.int .i64 ((ArithM.mulL x y).getD 0), .bool (ArithM.mulL x y).isSome]) ∧ Below w.heap.size w w' := by
  have IC := Lib.hid isCoeff
  have hix := at1
  by_cases hx : ArithM.inC x = true
  · by_cases hy : ArithM.inC y = true
    · have hm : ArithM.mulL x y = if ArithM.inC (x * y) = true then some (x * y) else none := by simp [ArithM.mulL, hx, hy]
      have OP := Lib.hid (op1 x y hx hy)
      rw [hm]
      clear hm
      generalize x * y = z at *
      go_enter Try.func75, Try.ntmps75
      go_wp2_with fail
      refine (IC.out x _).mono ?_
      rintro e w1 ⟨rfl, rfl⟩
      simp only [hx]
      go_wp2_with fail
      refine (IC.out y _).mono ?_
      rintro e w1 ⟨rfl, rfl⟩
      simp only [hy]
      go_wp2_with fail
      refine (operations _).mono ?_
      rintro e w2 ⟨rfl, b2⟩
      go_wp2_with fail
      refine (OP.out _).mono ?_
      rintro e w3 ⟨rfl, rfl⟩
      go_wp2_with fail
      refine (IC.out z _).mono ?_
      rintro e w4 ⟨rfl, rfl⟩
      by_cases hz : ArithM.inC z = true
      · simp only [hz]
        go_wp2
        go_ret2
        exact ⟨rfl, b2⟩
      · simp only [Bool.not_eq_true] at hz
        simp only [hz]
        go_wp2
        all_goals first | (exfalso; simp_all; done) | (go_ret2; exact ⟨rfl, b2⟩)
    · have hm : ArithM.mulL x y = none := by simp [ArithM.mulL, hy]
      simp only [Bool.not_eq_true] at hy
      rw [hm]
      clear hm
      go_enter Try.func75, Try.ntmps75
      go_wp2_with fail
      refine (IC.out x _).mono ?_
      rintro e w1 ⟨rfl, rfl⟩
      simp only [hx]
      go_wp2_with fail
      refine (IC.out y _).mono ?_
      rintro e w1 ⟨rfl, rfl⟩
      simp only [hy]
      go_wp2
      go_ret2
      exact ⟨rfl, Below.refl _ _⟩
  · have hm : ArithM.mulL x y = none := by simp [ArithM.mulL, hx]
    simp only [Bool.not_eq_true] at hx
    rw [hm]
    clear hm
    go_enter Try.func75, Try.ntmps75
    go_wp2_with fail
    refine (IC.out x _).mono ?_
    rintro e w1 ⟨rfl, rfl⟩
    simp only [hx]
    go_wp2
    go_ret2
    exact ⟨rfl, Below.refl _ _⟩

theorem add (x y : Int) (w : World) :
    Calls Try.prog 71 #[.int .i64 x, .int .i64 y] w fun e w' => e = .returned (.tuple #[.int .i64 ((ArithM.addL x y).getD 0), .bool (ArithM.addL x y).isSome]) ∧ Below w.heap.size w w' := by
  go_enter Try.func71, Try.ntmps71
  go_wp2_with fail
  refine (limited0 x y _).mono ?_
  rintro e w1 ⟨rfl, b1⟩
  go_wp2
  go_ret2
  exact ⟨rfl, b1⟩

theorem mul (x y : Int) (w : World) :
    Calls Try.prog 70 #[.int .i64 x, .int .i64 y] w fun e w' => e = .returned (.tuple #[.int .i64 ((ArithM.mulL x y).getD 0), .bool (ArithM.mulL x y).isSome]) ∧ Below w.heap.size w w' := by
  go_enter Try.func70, Try.ntmps70
  go_wp2_with fail
  refine (limited1 x y _).mono ?_
  rintro e w1 ⟨rfl, b1⟩
  go_wp2
  go_ret2
  exact ⟨rfl, b1⟩

set_option maxHeartbeats 1000000 in
theorem gcd (x y : Int) (w : World) :
    Calls Try.prog 57 #[.int .i64 x, .int .i64 y] w fun e w' => e = .returned (.int .i64 (ArithM.gcdL x y)) ∧ Below w.heap.size w w' := by
  have IC := Lib.hid isCoeff
  by_cases hx : ArithM.inC x = true
  · by_cases hy : ArithM.inC y = true
    · have hm : ArithM.gcdL x y = (Nat.gcd x.natAbs y.natAbs : Int) := by simp [ArithM.gcdL, hx, hy]
      rw [hm]
      clear hm
      go_enter Try.func57, Try.ntmps57
      go_wp2_with fail
      refine (IC.out x _).mono ?_
      rintro e w1 ⟨rfl, rfl⟩
      simp only [hx]
      go_wp2_with fail
      refine (IC.out y _).mono ?_
      rintro e w1 ⟨rfl, rfl⟩
      simp only [hy]
      go_wp2
      rw [ArithM.inC_iff] at hx hy
      go_loopw [0, 1] (fun a b wr => ∃ (p q : Int), a = .int .i64 p ∧ b = .int .i64 q ∧ (-1000000000 ≤ p ∧ p ≤ 1000000000) ∧ (-1000000000 ≤ q ∧ q ≤ 1000000000) ∧ Nat.gcd p.natAbs q.natAbs = Nat.gcd x.natAbs y.natAbs ∧ Below w.heap.size w wr) (fun _ b _ => (intOf b).natAbs)
      case atStart => exact ⟨x, y, rfl, rfl, hx, hy, rfl, Below.refl _ _⟩
      case round =>
        obtain ⟨p, q, rfl, rfl, hp, hq, hg, hb⟩ := hrel
        by_cases h0 : q = 0
        · subst h0
          rw [Int.natAbs_zero, Nat.gcd_zero_right] at hg
          have hg2 := Lib.hid hg
          clear hg
          go_wp2
          · go_ret
            refine ⟨?_, hb⟩
            rw [← hg2.out, show -p = (p.natAbs : Int) by omega]
            rfl
          · go_ret
            refine ⟨?_, hb⟩
            rw [← hg2.out]
            exact congrArg (fun z => Ending.returned (.int .i64 z)) (show p = (p.natAbs : Int) by omega)
        · have hn : (q != 0) = true := by simpa using h0
          have hs := Lib.hid (ArithM.gcd_tmod p q)
          have hr : -1000000000 ≤ p.tmod q ∧ p.tmod q ≤ 1000000000 ∧ (p.tmod q).natAbs < q.natAbs := by
            have e := Int.natAbs_tmod p q
            have := Nat.mod_lt p.natAbs (show 0 < q.natAbs by omega)
            omega
          go_wp2
          go_quiet (fail)
          go_wp2
          exact ⟨⟨q, p.tmod q, rfl, rfl, hq, ⟨hr.1, hr.2.1⟩, hs.out.trans hg, below_drewN hb _⟩, hr.2.2⟩
    · have hm : ArithM.gcdL x y = 0 := by simp [ArithM.gcdL, hy]
      simp only [Bool.not_eq_true] at hy
      rw [hm]
      clear hm
      go_enter Try.func57, Try.ntmps57
      go_wp2_with fail
      refine (IC.out x _).mono ?_
      rintro e w1 ⟨rfl, rfl⟩
      simp only [hx]
      go_wp2_with fail
      refine (IC.out y _).mono ?_
      rintro e w1 ⟨rfl, rfl⟩
      simp only [hy]
      go_wp2
      go_ret
      exact ⟨rfl, Below.refl _ _⟩
  · have hm : ArithM.gcdL x y = 0 := by simp [ArithM.gcdL, hx]
    simp only [Bool.not_eq_true] at hx
    rw [hm]
    clear hm
    go_enter Try.func57, Try.ntmps57
    go_wp2_with fail
    refine (IC.out x _).mono ?_
    rintro e w1 ⟨rfl, rfl⟩
    simp only [hx]
    go_wp2
    go_ret
    exact ⟨rfl, Below.refl _ _⟩

theorem floorDiv (x y : Int) (hx0 : -9223372036854775808 ≤ x) (hx1 : x ≤ 9223372036854775807) (hy0 : -9223372036854775808 ≤ y) (hy1 : y ≤ 9223372036854775807) (w : World) :
    Calls Try.prog 58 #[.int .i64 x, .int .i64 y] w fun e w' => e = .returned (.int .i64 (ArithM.floorL x y)) ∧ w = w' := by
  by_cases hy : y ≤ 0
  · have hm : ArithM.floorL x y = 0 := by simp [ArithM.floorL, hy]
    rw [hm]
    clear hm
    go_enter Try.func58, Try.ntmps58
    go_wp2
    go_ret
    exact ⟨rfl, rfl⟩
  · have hm : ArithM.floorL x y = x / y := by simp [ArithM.floorL, hy]
    have hb := ArithM.floorL_bounds (y := y) hx0 hx1
    rw [hm] at hb ⊢
    clear hm
    have F1 := Lib.hid (fun h => ArithM.floor_neg (x := x) (y := y) (by omega) h)
    have F2 := Lib.hid (fun h => ArithM.floor_nn (x := x) (y := y) (by omega) h)
    generalize x / y = d at *
    by_cases h : x.tmod y < 0
    · go_enter Try.func58, Try.ntmps58
      go_wp2
      go_ret
      rw [F1.out h]
      exact ⟨congrArg (fun z => Ending.returned (.int .i64 z)) (show wrap64 d = d by unfold wrap64; omega), rfl⟩
    · go_enter Try.func58, Try.ntmps58
      go_wp2
      go_ret
      exact ⟨congrArg (fun z => Ending.returned (.int .i64 z)) (F2.out (by omega)), rfl⟩
end ArithI
end Go.Proofs.Ytjhjbnfdnecidaa
