import Derived.Test.YtgpjgjjadhmkhaaGreatRunMath
import Derived.Test.YtgpjgjjadhmkhaaGreatSysImpl2
import Derived.Test.YtgpjgjjadhmkhaaGreatSysSpec
import Derived.Test.YtgpjgjjadhmkhaaGreatDraw
import Derived.Test.YtgpjgjjadhmkhaaGreatRepGen
import Derived.Test.YtgpjgjjadhmkhaaGreatLinMath
import Derived.Test.YtgpjgjjadhmkhaaGreatPgmDec0
import Derived.Test.YtgpjgjjadhmkhaaGreatLinSpec
import Derived.Deep.QuietTactic
import Derived.BigQuiet
import Derived.Deep.RegionLaw
/-
  Values and outcomes: of the program (made by tools/s12.py).
-/
namespace Go.Proofs.YtgpjgjjadhmkhaaGreat
open Go.RowKit
namespace ValI
open RowK Mem ValM
set_option maxHeartbeats 1000000 in
set_option maxRecDepth 100000 in
theorem valid (z0 : Bool) (z1 : Int) (A2 : Option Addr) (c2 : Nat) (x2 : List Int) (w : World) (h : ArgS Rep.int w A2 x2.length c2 x2) (hl : x2.length ≤ 1000000000) :
    Calls Tryz.prog 15 #[.agg #[.bool z0, .int .i64 z1, .slice A2 x2.length c2]] w fun e w' => e = .returned (.bool (valV z0 z1 x2)) ∧ Below w.heap.size w w' := by
  obtain ⟨q, fp, h⟩ := h
  obtain ⟨lo, hi, _, hr, _⟩ := ints_row h
  have bb : Below w.heap.size w (w.alloc (Obj.cells #[Value.bool z0, Value.int .i64 z1, Value.slice A2 x2.length c2] 33)) := (Below.refl _ _).alloc (Nat.le_refl _) _
  have EV := SysI.everyFits lo hi A2 c2 x2 _ (hr.below bb) hl
  have FI := ArithI.fits z1
  have BB := Lib.hid bb
  clear h hr bb
  cases z0 with
  | true =>
    clear FI
    by_cases h1 : z1 = 0
    · subst h1
      by_cases h2 : x2.length ≤ 40
      · rw [val_list h2]
        have EV := Lib.hid EV
        generalize x2.all ArithM.inF = R at *
        go_enter Tryz.func15, Tryz.ntmps15
        go_wp2_with fail
        refine (Calls.mono EV.out) ?_
        rintro e w1 ⟨rfl, rfl⟩
        go_wp2
        go_ret
        exact ⟨rfl, BB.out⟩
      · rw [val_long h2]
        clear EV
        go_enter Tryz.func15, Tryz.ntmps15
        go_wp2
        go_ret
        exact ⟨rfl, BB.out⟩
    · rw [val_n h1]
      clear EV
      go_enter Tryz.func15, Tryz.ntmps15
      go_wp2
      go_ret
      exact ⟨rfl, BB.out⟩
  | false =>
    clear EV
    rw [val_int]
    have FI := Lib.hid FI
    generalize ArithM.inF z1 = R at *
    cases R with
    | true =>
      go_enter Tryz.func15, Tryz.ntmps15
      go_wp2_with fail
      refine (Calls.mono (FI.out _)) ?_
      rintro e w1 ⟨rfl, rfl⟩
      go_wp2
      go_ret
      exact ⟨ArithI.ret_bool (by rw [Bool.true_and]; exact len0 _), BB.out⟩
    | false =>
      go_enter Tryz.func15, Tryz.ntmps15
      go_wp2_with fail
      refine (Calls.mono (FI.out _)) ?_
      rintro e w1 ⟨rfl, rfl⟩
      go_wp2
      go_ret
      exact ⟨rfl, BB.out⟩
theorem size (z0 : Bool) (z1 : Int) (A2 : Option Addr) (c2 n2 : Nat) (x2 : List Int) (hn : n2 = x2.length) (w : World) :
    Calls Tryz.prog 17 #[.agg #[.bool z0, .int .i64 z1, .slice A2 n2 c2]] w fun e w' => e = .returned (.int .i64 (sizeV z0 z1 x2)) ∧ Below w.heap.size w w' := by
  subst hn
  cases z0 with
  | true =>
    go_enter Tryz.func17, Tryz.ntmps17
    go_wp2
    go_ret
    exact ⟨rfl, (Below.refl _ _).alloc (Nat.le_refl _) _⟩
  | false =>
    go_enter Tryz.func17, Tryz.ntmps17
    go_wp2
    go_ret
    exact ⟨rfl, (Below.refl _ _).alloc (Nat.le_refl _) _⟩
end ValI
end Go.Proofs.YtgpjgjjadhmkhaaGreat

/-
  Values and outcomes: of the model (made by tools/s12.py).
-/
namespace Go.Proofs.YtgpjgjjadhmkhaaGreat
open Go.RowKit
namespace ValS
open RowK Mem ValM
theorem size (z0 : Bool) (z1 : Int) (A2 : Option Addr) (c2 n2 : Nat) (x2 : List Int) (hn : n2 = x2.length) (w : World) :
    Calls Tryz.prog 18 #[.agg #[.bool z0, .int .i64 z1, .slice A2 n2 c2]] w fun e w' => e = .returned (.int .i64 (sizeV z0 z1 x2)) ∧ Below w.heap.size w w' := by
  subst hn
  cases z0 with
  | true =>
    go_enter Tryz.func18, Tryz.ntmps18
    go_wp2
    go_ret
    exact ⟨rfl, (Below.refl _ _).alloc (Nat.le_refl _) _⟩
  | false =>
    go_enter Tryz.func18, Tryz.ntmps18
    go_wp2
    go_ret
    exact ⟨rfl, (Below.refl _ _).alloc (Nat.le_refl _) _⟩
theorem v_no {z0 : Bool} {z1 : Int} {xs : List Int} {k : Nat} (hk : k < xs.length) (h : ArithM.inF xs[k] = false) : valV z0 z1 xs = false := by
  have ha : xs.all ArithM.inF = false := by
    rw [List.all_eq_false]
    exact ⟨xs[k], List.getElem_mem _, by simp [h]⟩
  unfold valV
  cases z0
  · rw [if_neg (by simp), decide_eq_false (show ¬ xs.length = 0 by omega), Bool.and_false]
  · rw [if_pos rfl, ha, Bool.and_false]
theorem v_list {z1 : Int} {xs : List Int} (h : xs.all ArithM.inF = true) : valV true z1 xs = (decide (z1 = 0) && decide (xs.length ≤ 40)) := by
  unfold valV
  rw [if_pos rfl, h, Bool.and_true]
set_option maxHeartbeats 1000000 in
set_option maxRecDepth 100000 in
theorem valid (z0 : Bool) (z1 : Int) (A2 : Option Addr) (c2 : Nat) (x2 : List Int) (w : World) (h : ArgS Rep.int w A2 x2.length c2 x2) (hl : x2.length ≤ 1000000000) :
    Calls Tryz.prog 16 #[.agg #[.bool z0, .int .i64 z1, .slice A2 x2.length c2]] w fun e w' => e = .returned (.bool (valV z0 z1 x2)) ∧ Below w.heap.size w w' := by
  obtain ⟨q, fp, h⟩ := h
  obtain ⟨lo, hi, _, hr, _⟩ := ints_row h
  have BB := Lib.hid (show Below w.heap.size w (w.alloc (Obj.cells #[Value.bool z0, Value.int .i64 z1, Value.slice A2 x2.length c2] 33)) from (Below.refl _ _).alloc (Nat.le_refl _) _)
  have V0 := Lib.hid (Lvar.new w #[Value.bool z0, Value.int .i64 z1, Value.slice A2 x2.length c2] 33)
  have FI := Lib.hid ArithS.fits
  have HA := Lib.hid hr
  clear h hr
  go_enter Tryz.func16, Tryz.ntmps16
  go_wp2
  go_loopw [3] (fun i wr => ∃ k : Nat, k ≤ x2.length ∧ i = .int .i64 k ∧ (x2.take k).all ArithM.inF = true ∧ Lvar wr w.heap.size #[Value.bool z0, Value.int .i64 z1, Value.slice A2 x2.length c2] ∧ Below w.heap.size w wr) (fun i _ => x2.length - (intOf i).toNat)
  case atStart => exact ⟨0, Nat.zero_le _, rfl, rfl, V0.out, BB.out⟩
  case round =>
    obtain ⟨k, hk, rfl, hall, hV, hb⟩ := hrel
    have v0 := hV.cell 0 (.bool z0) rfl
    have v1 := hV.cell 1 (.int .i64 z1) rfl
    have v2 := hV.cell 2 (.slice A2 x2.length c2) rfl
    have HAL := Lib.hid hall
    have HV := Lib.hid hV
    have HB := Lib.hid hb
    clear hall hV hb
    by_cases hlt : k < x2.length
    · obtain ⟨b, o, rfl, hbl, hc⟩ := IntK.at_below HA.out HB.out hlt
      have HN := Lib.hid (fun h => v_no (z0 := z0) (z1 := z1) hlt h)
      have HY := Lib.hid (fun h => SysS.all_take (p := ArithM.inF) hlt HAL.out h)
      have hi0 : (0 : Int) ≤ (k : Int) := by omega
      have hi1 : (k : Int) < (x2.length : Int) := by omega
      generalize x2[k] = x at *
      have FX := Lib.hid (FI.out x)
      generalize ArithM.inF x = t at *
      cases t with
      | false =>
        have HR := Lib.hid (HN.out rfl)
        clear HN HY
        go_wp2_with fail
        refine (Calls.mono (FX.out _)) ?_
        rintro e w1 ⟨rfl, rfl⟩
        go_wp2
        go_ret
        exact ⟨by rw [HR.out]; try rfl, by first | exact HB.out | exact HB.out.drew | exact below_drewN HB.out _⟩
      | true =>
        have HT := Lib.hid (HY.out rfl)
        clear HN HY
        go_wp2_with fail
        refine (Calls.mono (FX.out _)) ?_
        rintro e w1 ⟨rfl, rfl⟩
        go_wp2
        go_roundw
        case rel => exact ⟨k + 1, by omega, by go_num, HT.out, by first | exact HV.out, by first | exact HB.out⟩
        case measure => simp [intOf]; omega
    · obtain rfl : k = x2.length := by omega
      have HAX := Lib.hid (show x2.all ArithM.inF = true by have := HAL.out; rwa [List.take_length] at this)
      clear HAL
      cases z0 with
      | true =>
        by_cases h1 : z1 = 0
        · subst h1
          go_wp2
          go_ret
          exact ⟨ArithI.ret_bool (by rw [v_list HAX.out, decide_eq_true rfl, Bool.true_and]; exact decide_eq_decide.2 (by omega)), HB.out⟩
        · have h9 : (z1 == 0) = false := beq_eq_false_iff_ne.2 h1
          go_wp2
          go_ret
          exact ⟨ArithI.ret_bool (by rw [v_list HAX.out, decide_eq_false h1]; rfl), HB.out⟩
      | false =>
        have FX := Lib.hid (FI.out z1)
        have HR := Lib.hid (val_int (z := z1) (xs := x2))
        generalize ArithM.inF z1 = t at *
        cases t with
        | true =>
          go_wp2_with fail
          refine (Calls.mono (FX.out _)) ?_
          rintro e w1 ⟨rfl, rfl⟩
          go_wp2
          go_ret
          exact ⟨ArithI.ret_bool (by rw [HR.out, Bool.true_and]; exact len0 _), HB.out⟩
        | false =>
          go_wp2_with fail
          refine (Calls.mono (FX.out _)) ?_
          rintro e w1 ⟨rfl, rfl⟩
          go_wp2
          go_ret
          exact ⟨ArithI.ret_bool (by rw [HR.out]; rfl), HB.out⟩

end ValS
end Go.Proofs.YtgpjgjjadhmkhaaGreat
