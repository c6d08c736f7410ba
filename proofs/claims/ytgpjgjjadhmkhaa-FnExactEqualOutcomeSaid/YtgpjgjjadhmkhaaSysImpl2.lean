import Derived.Test.YtgpjgjjadhmkhaaSysOwn
import Derived.Test.YtgpjgjjadhmkhaaLinImpl4
import Derived.Test.YtgpjgjjadhmkhaaLinImpl2
/-
  The program's systems: validity, satisfaction, comparison.
-/
namespace Go.Proofs.Ytgpjgjjadhmkhaa
open Go.RowKit
namespace SysI
open RowK Mem LinM

/-- The row's value is there and not negative. -/
def okRow (vs : List Int) (x : Int × List Int) : Bool := (evalL x.1 x.2 vs).isSome && decide (0 ≤ (evalL x.1 x.2 vs).getD 0)
end SysI
end Go.Proofs.Ytgpjgjjadhmkhaa

/-
  The program's systems: satisfaction.
-/
namespace Go.Proofs.Ytgpjgjjadhmkhaa
open Go.RowKit
namespace SysI
open RowK Mem LinM

set_option maxHeartbeats 1000000 in
set_option maxRecDepth 100000 in
/-- All values fit. -/
theorem everyFits (lo hi : Nat) (A : Option Addr) (c : Nat) (vs : List Int) (w : World) (hA : Row lo hi w A (IntK.iv vs)) (hl : vs.length ≤ 1000000000) :
    Calls Try.prog 21 #[.slice A vs.length c, .func (.func 22) #[] #[]] w fun e w' => e = .returned (.bool (vs.all ArithM.inF)) ∧ w = w' := by
  have HA := Lib.hid hA
  have FI := Lib.hid ArithI.fits
  clear hA
  go_enter Try.func21, Try.ntmps21
  go_wp2
  go_loop [9] (fun i => ∃ k : Nat, k ≤ vs.length ∧ i = .int .i64 k ∧ (vs.take k).all ArithM.inF = true) (fun i => vs.length - (intOf i).toNat)
  case atStart => exact ⟨0, Nat.zero_le _, rfl, rfl⟩
  case round =>
    obtain ⟨k, hk, rfl, hall⟩ := hrel
    have HAL := Lib.hid hall
    clear hall
    by_cases hlt : k < vs.length
    · obtain ⟨b, o, rfl, hbl, hc⟩ := IntK.at_ HA.out hlt
      have HN := Lib.hid (fun h => SysS.all_no1 (p := ArithM.inF) hlt h)
      have HY := Lib.hid (fun h => SysS.all_take (p := ArithM.inF) hlt HAL.out h)
      have hi0 : (0 : Int) ≤ (k : Int) := by omega
      have hi1 : (k : Int) < (vs.length : Int) := by omega
      generalize vs[k] = x at *
      have FX := Lib.hid (FI.out x w)
      generalize ArithM.inF x = t at *
      cases t with
      | false =>
        have HR := Lib.hid (HN.out rfl)
        clear HN HY
        go_wp2_with fail
        refine (Calls.mono FX.out) ?_
        rintro e w1 ⟨rfl, rfl⟩
        go_wp2
        go_ret
        exact ⟨by rw [HR.out]; try rfl, rfl⟩
      | true =>
        have HT := Lib.hid (HY.out rfl)
        clear HN HY
        go_wp2_with fail
        refine (Calls.mono FX.out) ?_
        rintro e w1 ⟨rfl, rfl⟩
        go_wp2
        go_round
        case rel => exact ⟨k + 1, by omega, by go_num, HT.out⟩
        case measure => simp [intOf]; omega
    · obtain rfl : k = vs.length := by omega
      have HR := Lib.hid (show vs.all ArithM.inF = true by have := HAL.out; rwa [List.take_length] at this)
      clear HAL
      go_wp2
      go_ret
      exact ⟨by rw [HR.out]; try rfl, rfl⟩

theorem sat_no1 {n : Int} {xs : List (Int × List Int)} {vs : List Int} (h : SysS.sysV n xs = false) : SysS.satB n xs vs = false := by simp [SysS.satB, h]
theorem sat_no2 {n : Int} {xs : List (Int × List Int)} {vs : List Int} (h : ¬ (vs.length : Int) = n) : SysS.satB n xs vs = false := by simp [SysS.satB, h]
theorem sat_no3 {n : Int} {xs : List (Int × List Int)} {vs : List Int} (h : vs.all ArithM.inF = false) : SysS.satB n xs vs = false := by unfold SysS.satB; rw [h]; rfl
theorem sat_yes {n : Int} {xs : List (Int × List Int)} {vs : List Int} (h1 : SysS.sysV n xs = true) (h2 : (vs.length : Int) = n) (h3 : vs.all ArithM.inF = true) : SysS.satB n xs vs = xs.all (okRow vs) := by
  unfold SysS.satB
  rw [h1, h3, decide_eq_true h2]
  simp only [Bool.true_and, Bool.and_self]
  unfold SysS.sysV at h1
  simp only [Bool.and_eq_true, List.all_eq_true] at h1
  rw [Bool.eq_iff_iff, List.all_eq_true, List.all_eq_true]
  refine forall_congr' fun x => forall_congr' fun hx => ?_
  have hv := h1.1 x hx
  rw [← h2] at hv
  have he : (evalL x.1 x.2 vs).isSome = true := by unfold evalL; rw [if_pos ⟨hv, h3⟩]; rfl
  unfold okRow
  rw [he]
  simp

end SysI
end Go.Proofs.Ytgpjgjjadhmkhaa
