import Derived.Test.YtmkelfjnjnjgbaaFarkMath2
import Derived.Test.YtmkelfjnjnjgbaaSysImpl
/-
  The program's certificates: multipliers, constants, the rows' validity, comparison.
-/
namespace Go.Proofs.Ytmkelfjnjnjgbaa
open Go.RowKit
namespace FarkI
open RowK Mem LinM FarkM

theorem all_no1 {p : Int → Bool} {vs : List Int} {k : Nat} (hk : k < vs.length) (h : p vs[k] = false) : vs.all p = false := by
  rw [List.all_eq_false]
  exact ⟨vs[k], List.getElem_mem _, by simp [h]⟩
theorem mult (n : Int) (w : World) :
    Calls Try.prog 98 #[.int .i64 n] w fun e w' => e = .returned (.bool (scB n)) ∧ w = w' := by
  have IC := Lib.hid (ArithI.isCoeff n)
  by_cases h : 0 ≤ n
  · have HR := Lib.hid (show scB n = ArithM.inC n by
      unfold scB ArithM.inC
      rw [decide_eq_true h, decide_eq_true (show -1000000000 ≤ n by omega)])
    have h' : decide (0 ≤ n) = true := decide_eq_true h
    clear h
    go_enter Try.func98, Try.ntmps98
    go_wp2_with fail
    refine (Calls.mono (IC.out _)) ?_
    rintro e w1 ⟨rfl, rfl⟩
    go_wp2
    go_ret
    exact ⟨by rw [HR.out]; try rfl, rfl⟩
  · have HR := Lib.hid (show scB n = false by
      unfold scB
      rw [decide_eq_false h]; rfl)
    have h' : decide (0 ≤ n) = false := decide_eq_false h
    clear h
    go_enter Try.func98, Try.ntmps98
    go_wp2
    go_ret
    exact ⟨by rw [HR.out]; try rfl, rfl⟩
def zB (x : Int) : Bool := x == 0
theorem isZero (n : Int) (w : World) :
    Calls Try.prog 107 #[.int .i64 n] w fun e w' => e = .returned (.bool (zB n)) ∧ w = w' := by
  unfold zB
  go_enter Try.func107, Try.ntmps107
  go_wp2
  go_ret
  exact ⟨rfl, rfl⟩

set_option maxHeartbeats 1000000 in
set_option maxRecDepth 100000 in
theorem everyMult (lo hi : Nat) (A : Option Addr) (c : Nat) (vs : List Int) (w : World) (hA : Row lo hi w A (IntK.iv vs)) (hl : vs.length ≤ 1000000000) :
    Calls Try.prog 106 #[.slice A vs.length c, .func (.func 98) #[] #[]] w fun e w' => e = .returned (.bool (vs.all scB)) ∧ w = w' := by
  have HA := Lib.hid hA
  have FI := Lib.hid mult
  clear hA
  go_enter Try.func106, Try.ntmps106
  go_wp2
  go_loop [9] (fun i => ∃ k : Nat, k ≤ vs.length ∧ i = .int .i64 k ∧ (vs.take k).all scB = true) (fun i => vs.length - (intOf i).toNat)
  case atStart => exact ⟨0, Nat.zero_le _, rfl, rfl⟩
  case round =>
    obtain ⟨k, hk, rfl, hall⟩ := hrel
    have HAL := Lib.hid hall
    clear hall
    by_cases hlt : k < vs.length
    · obtain ⟨b, o, rfl, hbl, hc⟩ := IntK.at_ HA.out hlt
      have HN := Lib.hid (fun h => all_no1 (p := scB) hlt h)
      have HY := Lib.hid (fun h => SysS.all_take (p := scB) hlt HAL.out h)
      have hi0 : (0 : Int) ≤ (k : Int) := by omega
      have hi1 : (k : Int) < (vs.length : Int) := by omega
      generalize vs[k] = x at *
      have FX := Lib.hid (FI.out x w)
      generalize scB x = t at *
      cases t with
      | false =>
        have HR := Lib.hid (HN.out rfl)
        clear HN HY
        go_wp2_with fail
        refine (Calls.mono FX.out) ?_
        rintro e w1 ⟨rfl, rfl⟩
        go_wp2
        go_ret
        exact ⟨by rw [HR.out]; try rfl, rfl⟩
      | true =>
        have HT := Lib.hid (HY.out rfl)
        clear HN HY
        go_wp2_with fail
        refine (Calls.mono FX.out) ?_
        rintro e w1 ⟨rfl, rfl⟩
        go_wp2
        go_round
        case rel => exact ⟨k + 1, by omega, by go_num, HT.out⟩
        case measure => simp [intOf]; omega
    · obtain rfl : k = vs.length := by omega
      have HR := Lib.hid (show vs.all scB = true by have := HAL.out; rwa [List.take_length] at this)
      clear HAL
      go_wp2
      go_ret
      exact ⟨by rw [HR.out]; try rfl, rfl⟩

set_option maxHeartbeats 1000000 in
set_option maxRecDepth 100000 in
theorem everyZero (lo hi : Nat) (A : Option Addr) (c : Nat) (vs : List Int) (w : World) (hA : Row lo hi w A (IntK.iv vs)) (hl : vs.length ≤ 1000000000) :
    Calls Try.prog 106 #[.slice A vs.length c, .func (.func 107) #[] #[]] w fun e w' => e = .returned (.bool (vs.all zB)) ∧ w = w' := by
  have HA := Lib.hid hA
  have FI := Lib.hid isZero
  clear hA
  go_enter Try.func106, Try.ntmps106
  go_wp2
  go_loop [9] (fun i => ∃ k : Nat, k ≤ vs.length ∧ i = .int .i64 k ∧ (vs.take k).all zB = true) (fun i => vs.length - (intOf i).toNat)
  case atStart => exact ⟨0, Nat.zero_le _, rfl, rfl⟩
  case round =>
    obtain ⟨k, hk, rfl, hall⟩ := hrel
    have HAL := Lib.hid hall
    clear hall
    by_cases hlt : k < vs.length
    · obtain ⟨b, o, rfl, hbl, hc⟩ := IntK.at_ HA.out hlt
      have HN := Lib.hid (fun h => all_no1 (p := zB) hlt h)
      have HY := Lib.hid (fun h => SysS.all_take (p := zB) hlt HAL.out h)
      have hi0 : (0 : Int) ≤ (k : Int) := by omega
      have hi1 : (k : Int) < (vs.length : Int) := by omega
      generalize vs[k] = x at *
      have FX := Lib.hid (FI.out x w)
      generalize zB x = t at *
      cases t with
      | false =>
        have HR := Lib.hid (HN.out rfl)
        clear HN HY
        go_wp2_with fail
        refine (Calls.mono FX.out) ?_
        rintro e w1 ⟨rfl, rfl⟩
        go_wp2
        go_ret
        exact ⟨by rw [HR.out]; try rfl, rfl⟩
      | true =>
        have HT := Lib.hid (HY.out rfl)
        clear HN HY
        go_wp2_with fail
        refine (Calls.mono FX.out) ?_
        rintro e w1 ⟨rfl, rfl⟩
        go_wp2
        go_round
        case rel => exact ⟨k + 1, by omega, by go_num, HT.out⟩
        case measure => simp [intOf]; omega
    · obtain rfl : k = vs.length := by omega
      have HR := Lib.hid (show vs.all zB = true by have := HAL.out; rwa [List.take_length] at this)
      clear HAL
      go_wp2
      go_ret
      exact ⟨by rw [HR.out]; try rfl, rfl⟩

theorem isConst (lo hi : Nat) (z : Int) (A : Option Addr) (c : Nat) (zs : List Int) (w : World) (hA : Row lo hi w A (IntK.iv zs)) (hl : zs.length ≤ 1000000000) :
    Calls Try.prog 97 #[.agg #[.int .i64 z, .slice A zs.length c]] w fun e w' => e = .returned (.bool (isC zs)) ∧ Below w.heap.size w w' := by
  have b0 : Below w.heap.size w (w.alloc (Obj.cells #[Value.int IntKind.i64 z, Value.slice A zs.length c] 29)) := (Below.refl _ _).alloc (Nat.le_refl _) _
  have EV := Lib.hid (everyZero lo hi A c zs _ (hA.below b0) hl)
  have B0 := Lib.hid b0
  rw [show isC zs = zs.all zB from rfl]
  clear b0 hA
  generalize zs.all zB = R at *
  go_enter Try.func97, Try.ntmps97
  go_wp2_with fail
  refine (Calls.mono EV.out) ?_
  rintro e w1 ⟨rfl, rfl⟩
  go_wp2
  go_ret
  exact ⟨rfl, B0.out⟩

end FarkI
end Go.Proofs.Ytmkelfjnjnjgbaa

/-
  The program's certificates: validity of the weighted rows.
-/
namespace Go.Proofs.Ytmkelfjnjnjgbaa
open Go.RowKit
namespace FarkI
open RowK Mem LinM FarkM

set_option maxHeartbeats 1000000 in
set_option maxRecDepth 100000 in
theorem rowsValid (lo hi : Nat) (N : Int) (A M : Option Addr) (c d : Nat) (xs : List (Int × List Int)) (ms : List Int) (w : World) (hA : SysK.Arg w A xs.length c xs) (hl : linsSize xs ≤ 1000000000) (hM : Row lo hi w M (IntK.iv ms)) (hlm : ms.length ≤ 1000000000) :
    Calls Try.prog 108 #[.agg #[.int .i64 N, .slice A xs.length c, .slice M ms.length d]] w fun e w' => e = .returned (.bool (wB N xs ms)) ∧ Below w.heap.size w w' := by
  have hxl : xs.length ≤ 1000000000 := by unfold linsSize at hl; omega
  have b0 : Below w.heap.size w (w.alloc (Obj.cells #[Value.int IntKind.i64 N, Value.slice A xs.length c, Value.slice M ms.length d] 110)) := (Below.refl _ _).alloc (Nat.le_refl _) _
  have V0 := Lib.hid (Lvar.new w #[Value.int IntKind.i64 N, Value.slice A xs.length c, Value.slice M ms.length d] 110)
  have VA := Lib.hid (SysI.valid N A c xs _ (hA.below b0) hl)
  have B0 := Lib.hid b0
  have HM := Lib.hid hM
  have v0 := V0.out.cell 0 (.int .i64 N) rfl
  have v1 := V0.out.cell 1 (.slice A xs.length c) rfl
  have v2 := V0.out.cell 2 (.slice M ms.length d) rfl
  have HW := Lib.hid (show wB N xs ms = (SysS.sysV N xs && (decide (ms.length = xs.length) && ms.all scB)) from rfl)
  generalize wB N xs ms = R at *
  generalize SysS.sysV N xs = s at *
  clear b0 hA hl hM
  cases s with
  | false =>
    have HR := Lib.hid (show R = false by rw [HW.out]; rfl)
    clear HW
    go_enter Try.func108, Try.ntmps108
    go_wp2_with fail
    refine (Calls.mono VA.out) ?_
    rintro e w1 ⟨rfl, b1⟩
    have B1 := Lib.hid (B0.out.trans (b1.mono B0.out.size))
    clear b1
    go_wp2
    go_ret
    exact ⟨by rw [HR.out]; try rfl, B1.out⟩
  | true =>
    by_cases hlen : ms.length = xs.length
    · have HR := Lib.hid (show R = ms.all scB by rw [HW.out, decide_eq_true hlen]; rfl)
      have hne : ((ms.length : Int) == (xs.length : Int)) = true := by simp [hlen]
      clear HW hlen
      go_enter Try.func108, Try.ntmps108
      go_wp2_with fail
      refine (Calls.mono VA.out) ?_
      rintro e w1 ⟨rfl, b1⟩
      have B1 := Lib.hid (B0.out.trans (b1.mono B0.out.size))
      have V1 := Lib.hid (V0.out.below b1)
      clear b1 v0 v1 v2
      have v0 := V1.out.cell 0 (.int .i64 N) rfl
      have v1 := V1.out.cell 1 (.slice A xs.length c) rfl
      have v2 := V1.out.cell 2 (.slice M ms.length d) rfl
      have EF := Lib.hid (everyMult lo hi M d ms w1 (HM.out.below B1.out) hlm)
      generalize ms.all scB = t at *
      go_wp2_with fail
      refine (Calls.mono EF.out) ?_
      rintro e w2 ⟨rfl, rfl⟩
      go_wp2
      go_ret
      exact ⟨by rw [HR.out]; try rfl, B1.out⟩
    · have HR := Lib.hid (show R = false by rw [HW.out, decide_eq_false hlen]; rfl)
      have hne : ((ms.length : Int) == (xs.length : Int)) = false := by simp; omega
      clear HW hlen
      go_enter Try.func108, Try.ntmps108
      go_wp2_with fail
      refine (Calls.mono VA.out) ?_
      rintro e w1 ⟨rfl, b1⟩
      have B1 := Lib.hid (B0.out.trans (b1.mono B0.out.size))
      have V1 := Lib.hid (V0.out.below b1)
      clear b1 v0 v1 v2
      have v0 := V1.out.cell 0 (.int .i64 N) rfl
      have v1 := V1.out.cell 1 (.slice A xs.length c) rfl
      have v2 := V1.out.cell 2 (.slice M ms.length d) rfl
      go_wp2
      go_ret
      exact ⟨by rw [HR.out]; try rfl, B1.out⟩

end FarkI
end Go.Proofs.Ytmkelfjnjnjgbaa
