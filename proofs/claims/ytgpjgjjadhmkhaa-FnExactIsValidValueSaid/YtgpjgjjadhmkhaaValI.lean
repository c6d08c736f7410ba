import Derived.Test.YtgpjgjjadhmkhaaValMath
import Derived.Test.YtgpjgjjadhmkhaaSysImpl2
import Derived.Test.YtgpjgjjadhmkhaaFarkImpl
import Derived.Test.YtgpjgjjadhmkhaaPgmDec0
/-
  Values and outcomes: of the program (made by tools/s12.py).
-/
namespace Go.Proofs.Ytgpjgjjadhmkhaa
open Go.RowKit
namespace ValI
open RowK Mem ValM
set_option maxHeartbeats 1000000 in
set_option maxRecDepth 100000 in
theorem valid (z0 : Bool) (z1 : Int) (A2 : Option Addr) (c2 : Nat) (x2 : List Int) (w : World) (h : ArgS Rep.int w A2 x2.length c2 x2) (hl : x2.length ≤ 1000000000) :
    Calls Try.prog 9 #[.agg #[.bool z0, .int .i64 z1, .slice A2 x2.length c2]] w fun e w' => e = .returned (.bool (valV z0 z1 x2)) ∧ Below w.heap.size w w' := by
  obtain ⟨q, fp, h⟩ := h
  obtain ⟨lo, hi, _, hr, _⟩ := ints_row h
  have bb : Below w.heap.size w (w.alloc (Obj.cells #[Value.bool z0, Value.int .i64 z1, Value.slice A2 x2.length c2] 27)) := (Below.refl _ _).alloc (Nat.le_refl _) _
  have EV := SysI.everyFits lo hi A2 c2 x2 _ (hr.below bb) hl
  have FI := ArithI.fits z1
  have BB := Lib.hid bb
  clear h hr bb
  cases z0 with
  | true =>
    clear FI
    by_cases h1 : z1 = 0
    · subst h1
      by_cases h2 : x2.length ≤ 40
      · rw [val_list h2]
        have EV := Lib.hid EV
        generalize x2.all ArithM.inF = R at *
        go_enter Try.func9, Try.ntmps9
        go_wp2_with fail
        refine (Calls.mono EV.out) ?_
        rintro e w1 ⟨rfl, rfl⟩
        go_wp2
        go_ret
        exact ⟨rfl, BB.out⟩
      · rw [val_long h2]
        clear EV
        go_enter Try.func9, Try.ntmps9
        go_wp2
        go_ret
        exact ⟨rfl, BB.out⟩
    · rw [val_n h1]
      clear EV
      go_enter Try.func9, Try.ntmps9
      go_wp2
      go_ret
      exact ⟨rfl, BB.out⟩
  | false =>
    clear EV
    rw [val_int]
    have FI := Lib.hid FI
    generalize ArithM.inF z1 = R at *
    cases R with
    | true =>
      go_enter Try.func9, Try.ntmps9
      go_wp2_with fail
      refine (Calls.mono (FI.out _)) ?_
      rintro e w1 ⟨rfl, rfl⟩
      go_wp2
      go_ret
      exact ⟨ArithI.ret_bool (by rw [Bool.true_and]; exact len0 _), BB.out⟩
    | false =>
      go_enter Try.func9, Try.ntmps9
      go_wp2_with fail
      refine (Calls.mono (FI.out _)) ?_
      rintro e w1 ⟨rfl, rfl⟩
      go_wp2
      go_ret
      exact ⟨rfl, BB.out⟩
theorem size (z0 : Bool) (z1 : Int) (A2 : Option Addr) (c2 n2 : Nat) (x2 : List Int) (hn : n2 = x2.length) (w : World) :
    Calls Try.prog 12 #[.agg #[.bool z0, .int .i64 z1, .slice A2 n2 c2]] w fun e w' => e = .returned (.int .i64 (sizeV z0 z1 x2)) ∧ Below w.heap.size w w' := by
  subst hn
  cases z0 with
  | true =>
    go_enter Try.func12, Try.ntmps12
    go_wp2
    go_ret
    exact ⟨rfl, (Below.refl _ _).alloc (Nat.le_refl _) _⟩
  | false =>
    go_enter Try.func12, Try.ntmps12
    go_wp2
    go_ret
    exact ⟨rfl, (Below.refl _ _).alloc (Nat.le_refl _) _⟩
theorem same (A B : Option Addr) (c d : Nat) (xs ys : List Int) (w : World) (hA : ArgS Rep.int w A xs.length c xs) (hB : ArgS Rep.int w B ys.length d ys) (hl : xs.length ≤ 1000000000) (hl2 : ys.length ≤ 1000000000) :
    Calls Try.prog 28 #[.slice A xs.length c, .slice B ys.length d] w fun e w' => e = .returned (.bool (decide (xs = ys))) ∧ Below w.heap.size w w' := by
  obtain ⟨q, fp, hA⟩ := hA
  obtain ⟨q2, fp2, hB⟩ := hB
  obtain ⟨lo, hi, _, hr, _⟩ := ints_row hA
  obtain ⟨lo2, hi2, _, hr2, _⟩ := ints_row hB
  exact FarkI.sameInts lo hi lo2 hi2 A B c d xs ys w hr hr2 hl hl2
set_option maxHeartbeats 4000000 in
set_option maxRecDepth 100000 in
theorem equalValue (z0 : Bool) (z1 : Int) (A2 : Option Addr) (c2 : Nat) (x2 : List Int) (u0 : Bool) (u1 : Int) (B2 : Option Addr) (d2 : Nat) (y2 : List Int) (w : World) (h2 : ArgS Rep.int w A2 x2.length c2 x2) (k2 : ArgS Rep.int w B2 y2.length d2 y2) (hlx : szValueU (z0, z1, x2) ≤ 100000000) (hly : szValueU (u0, u1, y2) ≤ 100000000) :
    Calls Try.prog 25 #[.agg #[.bool z0, .int .i64 z1, .slice A2 x2.length c2], .agg #[.bool u0, .int .i64 u1, .slice B2 y2.length d2]] w fun e w' => e = .returned (.bool (decide (((z0, z1, x2) : ValueT) = (u0, u1, y2)))) ∧ Below w.heap.size w w' := by
  simp only [szValueU] at hlx hly
  have BB0 := Lib.hid (((Below.refl w.heap.size w).alloc (Nat.le_refl _) (Obj.cells #[Value.bool z0, Value.int .i64 z1, Value.slice A2 x2.length c2] 27)).alloc (by simp) (Obj.cells #[Value.bool u0, Value.int .i64 u1, Value.slice B2 y2.length d2] 27))
  have V0 := Lib.hid ((Lvar.new w #[Value.bool z0, Value.int .i64 z1, Value.slice A2 x2.length c2] 27).alloc (Obj.cells #[Value.bool u0, Value.int .i64 u1, Value.slice B2 y2.length d2] 27))
  have U0 := Lib.hid (Lvar.new (w.alloc (Obj.cells #[Value.bool z0, Value.int .i64 z1, Value.slice A2 x2.length c2] 27)) #[Value.bool u0, Value.int .i64 u1, Value.slice B2 y2.length d2] 27)
  simp only [World.size_alloc] at U0
  have EQ0 := fun W (h : Below w.heap.size w W) => same A2 B2 c2 d2 x2 y2 W (h2.below h) (k2.below h) (by omega) (by omega)
  obtain ⟨t0, ht0⟩ : ∃ t : Bool, t = decide (x2 = y2) := ⟨_, rfl⟩
  simp only [← ht0] at EQ0
  have EQ0 := Lib.hid EQ0
  have HT0 := Lib.hid ht0
  clear ht0
  obtain ⟨R, hR⟩ : ∃ R : Bool, R = decide (((z0, z1, x2) : ValueT) = (u0, u1, y2)) := ⟨_, rfl⟩
  rw [← hR]
  have HO := Lib.hid hR
  clear hR hlx hly h2 k2
  by_cases g0 : z0 = u0
  · subst g0
    cases z0
    all_goals
      by_cases g1 : z1 = u1
      · subst g1
        cases t0 with
        | true =>
          have HF := Lib.hid (show R = true by rw [HO.out]; exact decide_eq_true (by have e0 := of_decide_eq_true HT0.out.symm; simp_all))
          go_enter Try.func25, Try.ntmps25
          go_wp2_with fail
          refine (Calls.mono (EQ0.out _ ?_)) ?_
          · first | exact BB0.out | exact BB0.out.drew | exact below_drewN BB0.out _
          rintro e w1 ⟨rfl, b1⟩
          have BB1 := Lib.hid (show Below w.heap.size w w1 from by first | exact BB0.out.trans (b1.mono BB0.out.size) | exact BB0.out.drew.trans (b1.mono BB0.out.size))
          have V1 := Lib.hid (show Lvar w1 _ _ from by first | exact V0.out.below b1 | exact (V0.out.below (Below.refl _ _).drew).below b1)
          have v1_0 := V1.out.cell 0 _ rfl
          have v1_1 := V1.out.cell 1 _ rfl
          have v1_2 := V1.out.cell 2 _ rfl
          have U1 := Lib.hid (show Lvar w1 _ _ from by first | exact U0.out.below b1 | exact (U0.out.below (Below.refl _ _).drew).below b1)
          have u1_0 := U1.out.cell 0 _ rfl
          have u1_1 := U1.out.cell 1 _ rfl
          have u1_2 := U1.out.cell 2 _ rfl
          clear b1
          go_wp2
          go_ret
          exact ⟨ArithI.ret_bool HF.out.symm, BB1.out⟩
        | false =>
          have HF := Lib.hid (show R = false by rw [HO.out]; exact decide_eq_false (fun e => by have e2 := of_decide_eq_false HT0.out.symm; exact e2 (congrArg (fun p : ValueT => p.2.2) e)))
          go_enter Try.func25, Try.ntmps25
          go_wp2_with fail
          refine (Calls.mono (EQ0.out _ ?_)) ?_
          · first | exact BB0.out | exact BB0.out.drew | exact below_drewN BB0.out _
          rintro e w1 ⟨rfl, b1⟩
          have BB1 := Lib.hid (show Below w.heap.size w w1 from by first | exact BB0.out.trans (b1.mono BB0.out.size) | exact BB0.out.drew.trans (b1.mono BB0.out.size))
          have V1 := Lib.hid (show Lvar w1 _ _ from by first | exact V0.out.below b1 | exact (V0.out.below (Below.refl _ _).drew).below b1)
          have v1_0 := V1.out.cell 0 _ rfl
          have v1_1 := V1.out.cell 1 _ rfl
          have v1_2 := V1.out.cell 2 _ rfl
          have U1 := Lib.hid (show Lvar w1 _ _ from by first | exact U0.out.below b1 | exact (U0.out.below (Below.refl _ _).drew).below b1)
          have u1_0 := U1.out.cell 0 _ rfl
          have u1_1 := U1.out.cell 1 _ rfl
          have u1_2 := U1.out.cell 2 _ rfl
          clear b1
          go_wp2
          go_ret
          exact ⟨ArithI.ret_bool HF.out.symm, BB1.out⟩
      · have HF := Lib.hid (show R = false by rw [HO.out]; exact decide_eq_false (fun e => g1 (congrArg (fun p : ValueT => p.2.1) e)))
        have hs1 : (z1 == u1) = false := beq_eq_false_iff_ne.2 g1
        clear g1
        go_enter Try.func25, Try.ntmps25
        go_wp2
        go_ret
        exact ⟨ArithI.ret_bool HF.out.symm, BB0.out⟩
  · have HF := Lib.hid (show R = false by rw [HO.out]; exact decide_eq_false (fun e => g0 (congrArg (fun p : ValueT => p.1) e)))
    cases z0 <;> cases u0
    case false.false => exact absurd rfl g0
    case true.true => exact absurd rfl g0
    all_goals
      clear g0
      go_enter Try.func25, Try.ntmps25
      go_wp2
      go_ret
      exact ⟨ArithI.ret_bool HF.out.symm, BB0.out⟩
set_option maxHeartbeats 4000000 in
set_option maxRecDepth 100000 in
theorem equalOutcome0 (z0 : Int) (z1 : Bool) (z2 : Int) (A3 : Option Addr) (c3 : Nat) (x3 : List Int) (z4 : Int) (z5 : Int) (u0 : Int) (u1 : Bool) (u2 : Int) (B3 : Option Addr) (d3 : Nat) (y3 : List Int) (u4 : Int) (u5 : Int) (w : World) (h3 : ArgS Rep.int w A3 x3.length c3 x3) (k3 : ArgS Rep.int w B3 y3.length d3 y3) (hlx : szOutcomeU (z0, (z1, z2, x3), z4, z5) ≤ 100000000) (hly : szOutcomeU (u0, (u1, u2, y3), u4, u5) ≤ 100000000) :
    Calls Try.prog 16 #[.agg #[.int .i64 z0, .bool z1, .int .i64 z2, .slice A3 x3.length c3, .int .i64 z4, .int .i64 z5], .agg #[.int .i64 u0, .bool u1, .int .i64 u2, .slice B3 y3.length d3, .int .i64 u4, .int .i64 u5]] w fun e w' => e = .returned (.bool (decide (((z0, (z1, z2, x3), z4, z5) : OutcomeT) = (u0, (u1, u2, y3), u4, u5)))) ∧ Below w.heap.size w w' := by
  simp only [szOutcomeU, szValueU] at hlx hly
  have BB0 := Lib.hid (((Below.refl w.heap.size w).alloc (Nat.le_refl _) (Obj.cells #[Value.int .i64 z0, Value.bool z1, Value.int .i64 z2, Value.slice A3 x3.length c3, Value.int .i64 z4, Value.int .i64 z5] 37)).alloc (by simp) (Obj.cells #[Value.int .i64 u0, Value.bool u1, Value.int .i64 u2, Value.slice B3 y3.length d3, Value.int .i64 u4, Value.int .i64 u5] 37))
  have V0 := Lib.hid ((Lvar.new w #[Value.int .i64 z0, Value.bool z1, Value.int .i64 z2, Value.slice A3 x3.length c3, Value.int .i64 z4, Value.int .i64 z5] 37).alloc (Obj.cells #[Value.int .i64 u0, Value.bool u1, Value.int .i64 u2, Value.slice B3 y3.length d3, Value.int .i64 u4, Value.int .i64 u5] 37))
  have U0 := Lib.hid (Lvar.new (w.alloc (Obj.cells #[Value.int .i64 z0, Value.bool z1, Value.int .i64 z2, Value.slice A3 x3.length c3, Value.int .i64 z4, Value.int .i64 z5] 37)) #[Value.int .i64 u0, Value.bool u1, Value.int .i64 u2, Value.slice B3 y3.length d3, Value.int .i64 u4, Value.int .i64 u5] 37)
  simp only [World.size_alloc] at U0
  have EQ0 := fun W (h : Below w.heap.size w W) => equalValue z1 z2 A3 c3 x3 u1 u2 B3 d3 y3 W (h3.below h) (k3.below h) (by simp only [szValueU]; omega) (by simp only [szValueU]; omega)
  obtain ⟨t0, ht0⟩ : ∃ t : Bool, t = decide (((z1, z2, x3) : ValueT) = (u1, u2, y3)) := ⟨_, rfl⟩
  simp only [← ht0] at EQ0
  have EQ0 := Lib.hid EQ0
  have HT0 := Lib.hid ht0
  clear ht0
  obtain ⟨R, hR⟩ : ∃ R : Bool, R = decide (((z0, (z1, z2, x3), z4, z5) : OutcomeT) = (u0, (u1, u2, y3), u4, u5)) := ⟨_, rfl⟩
  rw [← hR]
  have HO := Lib.hid hR
  clear hR hlx hly h3 k3
  by_cases g0 : z0 = u0
  · subst g0
    cases t0 with
    | true =>
      by_cases g2 : z4 = u4
      · subst g2
        by_cases g3 : z5 = u5
        · subst g3
          have HF := Lib.hid (show R = true by rw [HO.out]; exact decide_eq_true (by have e0 := of_decide_eq_true HT0.out.symm; simp_all))
          go_enter Try.func16, Try.ntmps16
          go_wp2_with fail
          refine (Calls.mono (EQ0.out _ ?_)) ?_
          · first | exact BB0.out | exact BB0.out.drew | exact below_drewN BB0.out _
          rintro e w1 ⟨rfl, b1⟩
          have BB1 := Lib.hid (show Below w.heap.size w w1 from by first | exact BB0.out.trans (b1.mono BB0.out.size) | exact BB0.out.drew.trans (b1.mono BB0.out.size))
          have V1 := Lib.hid (show Lvar w1 _ _ from by first | exact V0.out.below b1 | exact (V0.out.below (Below.refl _ _).drew).below b1)
          have v1_0 := V1.out.cell 0 _ rfl
          have v1_1 := V1.out.cell 1 _ rfl
          have v1_2 := V1.out.cell 2 _ rfl
          have v1_3 := V1.out.cell 3 _ rfl
          have v1_4 := V1.out.cell 4 _ rfl
          have v1_5 := V1.out.cell 5 _ rfl
          have U1 := Lib.hid (show Lvar w1 _ _ from by first | exact U0.out.below b1 | exact (U0.out.below (Below.refl _ _).drew).below b1)
          have u1_0 := U1.out.cell 0 _ rfl
          have u1_1 := U1.out.cell 1 _ rfl
          have u1_2 := U1.out.cell 2 _ rfl
          have u1_3 := U1.out.cell 3 _ rfl
          have u1_4 := U1.out.cell 4 _ rfl
          have u1_5 := U1.out.cell 5 _ rfl
          clear b1
          go_wp2
          go_ret
          exact ⟨ArithI.ret_bool HF.out.symm, BB1.out⟩
        · have HF := Lib.hid (show R = false by rw [HO.out]; exact decide_eq_false (fun e => g3 (congrArg (fun p : OutcomeT => p.2.2.2) e)))
          have hs3 : (z5 == u5) = false := beq_eq_false_iff_ne.2 g3
          clear g3
          go_enter Try.func16, Try.ntmps16
          go_wp2_with fail
          refine (Calls.mono (EQ0.out _ ?_)) ?_
          · first | exact BB0.out | exact BB0.out.drew | exact below_drewN BB0.out _
          rintro e w1 ⟨rfl, b1⟩
          have BB1 := Lib.hid (show Below w.heap.size w w1 from by first | exact BB0.out.trans (b1.mono BB0.out.size) | exact BB0.out.drew.trans (b1.mono BB0.out.size))
          have V1 := Lib.hid (show Lvar w1 _ _ from by first | exact V0.out.below b1 | exact (V0.out.below (Below.refl _ _).drew).below b1)
          have v1_0 := V1.out.cell 0 _ rfl
          have v1_1 := V1.out.cell 1 _ rfl
          have v1_2 := V1.out.cell 2 _ rfl
          have v1_3 := V1.out.cell 3 _ rfl
          have v1_4 := V1.out.cell 4 _ rfl
          have v1_5 := V1.out.cell 5 _ rfl
          have U1 := Lib.hid (show Lvar w1 _ _ from by first | exact U0.out.below b1 | exact (U0.out.below (Below.refl _ _).drew).below b1)
          have u1_0 := U1.out.cell 0 _ rfl
          have u1_1 := U1.out.cell 1 _ rfl
          have u1_2 := U1.out.cell 2 _ rfl
          have u1_3 := U1.out.cell 3 _ rfl
          have u1_4 := U1.out.cell 4 _ rfl
          have u1_5 := U1.out.cell 5 _ rfl
          clear b1
          go_wp2
          go_ret
          exact ⟨ArithI.ret_bool HF.out.symm, BB1.out⟩
      · have HF := Lib.hid (show R = false by rw [HO.out]; exact decide_eq_false (fun e => g2 (congrArg (fun p : OutcomeT => p.2.2.1) e)))
        have hs2 : (z4 == u4) = false := beq_eq_false_iff_ne.2 g2
        clear g2
        go_enter Try.func16, Try.ntmps16
        go_wp2_with fail
        refine (Calls.mono (EQ0.out _ ?_)) ?_
        · first | exact BB0.out | exact BB0.out.drew | exact below_drewN BB0.out _
        rintro e w1 ⟨rfl, b1⟩
        have BB1 := Lib.hid (show Below w.heap.size w w1 from by first | exact BB0.out.trans (b1.mono BB0.out.size) | exact BB0.out.drew.trans (b1.mono BB0.out.size))
        have V1 := Lib.hid (show Lvar w1 _ _ from by first | exact V0.out.below b1 | exact (V0.out.below (Below.refl _ _).drew).below b1)
        have v1_0 := V1.out.cell 0 _ rfl
        have v1_1 := V1.out.cell 1 _ rfl
        have v1_2 := V1.out.cell 2 _ rfl
        have v1_3 := V1.out.cell 3 _ rfl
        have v1_4 := V1.out.cell 4 _ rfl
        have v1_5 := V1.out.cell 5 _ rfl
        have U1 := Lib.hid (show Lvar w1 _ _ from by first | exact U0.out.below b1 | exact (U0.out.below (Below.refl _ _).drew).below b1)
        have u1_0 := U1.out.cell 0 _ rfl
        have u1_1 := U1.out.cell 1 _ rfl
        have u1_2 := U1.out.cell 2 _ rfl
        have u1_3 := U1.out.cell 3 _ rfl
        have u1_4 := U1.out.cell 4 _ rfl
        have u1_5 := U1.out.cell 5 _ rfl
        clear b1
        go_wp2
        go_ret
        exact ⟨ArithI.ret_bool HF.out.symm, BB1.out⟩
    | false =>
      have HF := Lib.hid (show R = false by rw [HO.out]; exact decide_eq_false (fun e => by have e2 := of_decide_eq_false HT0.out.symm; exact e2 (congrArg (fun p : OutcomeT => p.2.1) e)))
      go_enter Try.func16, Try.ntmps16
      go_wp2_with fail
      refine (Calls.mono (EQ0.out _ ?_)) ?_
      · first | exact BB0.out | exact BB0.out.drew | exact below_drewN BB0.out _
      rintro e w1 ⟨rfl, b1⟩
      have BB1 := Lib.hid (show Below w.heap.size w w1 from by first | exact BB0.out.trans (b1.mono BB0.out.size) | exact BB0.out.drew.trans (b1.mono BB0.out.size))
      have V1 := Lib.hid (show Lvar w1 _ _ from by first | exact V0.out.below b1 | exact (V0.out.below (Below.refl _ _).drew).below b1)
      have v1_0 := V1.out.cell 0 _ rfl
      have v1_1 := V1.out.cell 1 _ rfl
      have v1_2 := V1.out.cell 2 _ rfl
      have v1_3 := V1.out.cell 3 _ rfl
      have v1_4 := V1.out.cell 4 _ rfl
      have v1_5 := V1.out.cell 5 _ rfl
      have U1 := Lib.hid (show Lvar w1 _ _ from by first | exact U0.out.below b1 | exact (U0.out.below (Below.refl _ _).drew).below b1)
      have u1_0 := U1.out.cell 0 _ rfl
      have u1_1 := U1.out.cell 1 _ rfl
      have u1_2 := U1.out.cell 2 _ rfl
      have u1_3 := U1.out.cell 3 _ rfl
      have u1_4 := U1.out.cell 4 _ rfl
      have u1_5 := U1.out.cell 5 _ rfl
      clear b1
      go_wp2
      go_ret
      exact ⟨ArithI.ret_bool HF.out.symm, BB1.out⟩
  · have HF := Lib.hid (show R = false by rw [HO.out]; exact decide_eq_false (fun e => g0 (congrArg (fun p : OutcomeT => p.1) e)))
    have hs0 : (z0 == u0) = false := beq_eq_false_iff_ne.2 g0
    clear g0
    go_enter Try.func16, Try.ntmps16
    go_wp2
    go_ret
    exact ⟨ArithI.ret_bool HF.out.symm, BB0.out⟩
theorem arg_valu {w : World} {A2 : Option Addr} {c2 : Nat} {z0 : Bool} {z1 : Int} {x2 : List Int} (h : ArgR valu w [.bool z0, .int .i64 z1, .slice A2 x2.length c2] (z0, z1, x2)) : ArgS Rep.int w A2 x2.length c2 x2 := by
  obtain ⟨q, fp, h⟩ := h
  obtain ⟨f2, _, h2⟩ := valu_parts h
  exact ⟨q, f2, h2⟩
theorem arg_outc {w : World} {A3 : Option Addr} {c3 : Nat} {z0 z2 z4 z5 : Int} {z1 : Bool} {x3 : List Int} (h : ArgR outc w [.int .i64 z0, .bool z1, .int .i64 z2, .slice A3 x3.length c3, .int .i64 z4, .int .i64 z5] (z0, (z1, z2, x3), z4, z5)) : ArgS Rep.int w A3 x3.length c3 x3 := by
  obtain ⟨q, fp, h⟩ := h
  obtain ⟨f2, _, h2⟩ := outc_parts h
  exact ⟨q, f2, h2⟩
theorem validA {A2 : Option Addr} {c2 : Nat} {z0 : Bool} {z1 : Int} {x2 : List Int} {w : World} (h : ArgR valu w [.bool z0, .int .i64 z1, .slice A2 x2.length c2] (z0, z1, x2)) (hl : szValueU (z0, z1, x2) ≤ 100000000) :
    Calls Try.prog 9 #[.agg #[.bool z0, .int .i64 z1, .slice A2 x2.length c2]] w fun e w' => e = .returned (.bool (valV z0 z1 x2)) ∧ Below w.heap.size w w' :=
  valid z0 z1 A2 c2 x2 w (arg_valu h) (by simp only [szValueU] at hl; omega)
theorem sizeA {A2 : Option Addr} {c2 : Nat} {z0 : Bool} {z1 : Int} {x2 : List Int} {w : World} (_h : ArgR valu w [.bool z0, .int .i64 z1, .slice A2 x2.length c2] (z0, z1, x2)) :
    Calls Try.prog 12 #[.agg #[.bool z0, .int .i64 z1, .slice A2 x2.length c2]] w fun e w' => e = .returned (.int .i64 (sizeV z0 z1 x2)) ∧ Below w.heap.size w w' :=
  size z0 z1 A2 c2 x2.length x2 rfl w
theorem equalOutcome {z0 z2 z4 z5 u0 u2 u4 u5 : Int} {z1 u1 : Bool} {A3 B3 : Option Addr} {c3 d3 : Nat} {x3 y3 : List Int} {w : World} (h : ArgR outc w [.int .i64 z0, .bool z1, .int .i64 z2, .slice A3 x3.length c3, .int .i64 z4, .int .i64 z5] (z0, (z1, z2, x3), z4, z5)) (k : ArgR outc w [.int .i64 u0, .bool u1, .int .i64 u2, .slice B3 y3.length d3, .int .i64 u4, .int .i64 u5] (u0, (u1, u2, y3), u4, u5)) (hlx : szOutcomeU (z0, (z1, z2, x3), z4, z5) ≤ 90000000) (hly : szOutcomeU (u0, (u1, u2, y3), u4, u5) ≤ 90000000) :
    Calls Try.prog 16 #[.agg #[.int .i64 z0, .bool z1, .int .i64 z2, .slice A3 x3.length c3, .int .i64 z4, .int .i64 z5], .agg #[.int .i64 u0, .bool u1, .int .i64 u2, .slice B3 y3.length d3, .int .i64 u4, .int .i64 u5]] w fun e w' => e = .returned (.bool (decide (((z0, (z1, z2, x3), z4, z5) : OutcomeT) = (u0, (u1, u2, y3), u4, u5)))) ∧ Below w.heap.size w w' :=
  equalOutcome0 z0 z1 z2 A3 c3 x3 z4 z5 u0 u1 u2 B3 d3 y3 u4 u5 w (arg_outc h) (arg_outc k) (by omega) (by omega)
end ValI
end Go.Proofs.Ytgpjgjjadhmkhaa
