import Derived.Test.YtnbgmhlhbcoicaaFarkImpl
/-
  The program's certificates: validity of the weighted rows.
-/
namespace Go.Proofs.Ytnbgmhlhbcoicaa
open Go.RowKit
namespace FarkI
open RowK Mem LinM FarkM

set_option maxHeartbeats 1000000 in
set_option maxRecDepth 100000 in
theorem rowsValid (lo hi : Nat) (N : Int) (A M : Option Addr) (c d : Nat) (xs : List (Int × List Int)) (ms : List Int) (w : World) (hA : SysK.Arg w A xs.length c xs) (hl : linsSize xs ≤ 1000000000) (hM : Row lo hi w M (IntK.iv ms)) (hlm : ms.length ≤ 1000000000) :
    Calls Try.prog 80 #[.agg #[.int .i64 N, .slice A xs.length c, .slice M ms.length d]] w fun e w' => e = .returned (.bool (wB N xs ms)) ∧ Below w.heap.size w w' := by
  have hxl : xs.length ≤ 1000000000 := by unfold linsSize at hl; omega
  have b0 : Below w.heap.size w (w.alloc (Obj.cells #[Value.int IntKind.i64 N, Value.slice A xs.length c, Value.slice M ms.length d] 77)) := (Below.refl _ _).alloc (Nat.le_refl _) _
  have V0 := Lib.hid (Lvar.new w #[Value.int IntKind.i64 N, Value.slice A xs.length c, Value.slice M ms.length d] 77)
  have VA := Lib.hid (SysI.valid N A c xs _ (hA.below b0) hl)
  have B0 := Lib.hid b0
  have HM := Lib.hid hM
  have v0 := V0.out.cell 0 (.int .i64 N) rfl
  have v1 := V0.out.cell 1 (.slice A xs.length c) rfl
  have v2 := V0.out.cell 2 (.slice M ms.length d) rfl
  have HW := Lib.hid (show wB N xs ms = (SysS.sysV N xs && (decide (ms.length = xs.length) && ms.all scB)) from rfl)
  generalize wB N xs ms = R at *
  generalize SysS.sysV N xs = s at *
  clear b0 hA hl hM
  cases s with
  | false =>
    have HR := Lib.hid (show R = false by rw [HW.out]; rfl)
    clear HW
    go_enter Try.func80, Try.ntmps80
    go_wp2_with fail
    refine (Calls.mono VA.out) ?_
    rintro e w1 ⟨rfl, b1⟩
    have B1 := Lib.hid (B0.out.trans (b1.mono B0.out.size))
    clear b1
    go_wp2
    go_ret
    exact ⟨by rw [HR.out]; try rfl, B1.out⟩
  | true =>
    by_cases hlen : ms.length = xs.length
    · have HR := Lib.hid (show R = ms.all scB by rw [HW.out, decide_eq_true hlen]; rfl)
      have hne : ((ms.length : Int) == (xs.length : Int)) = true := by simp [hlen]
      clear HW hlen
      go_enter Try.func80, Try.ntmps80
      go_wp2_with fail
      refine (Calls.mono VA.out) ?_
      rintro e w1 ⟨rfl, b1⟩
      have B1 := Lib.hid (B0.out.trans (b1.mono B0.out.size))
      have V1 := Lib.hid (V0.out.below b1)
      clear b1 v0 v1 v2
      have v0 := V1.out.cell 0 (.int .i64 N) rfl
      have v1 := V1.out.cell 1 (.slice A xs.length c) rfl
      have v2 := V1.out.cell 2 (.slice M ms.length d) rfl
      have EF := Lib.hid (everyMult lo hi M d ms w1 (HM.out.below B1.out) hlm)
      generalize ms.all scB = t at *
      go_wp2_with fail
      refine (Calls.mono EF.out) ?_
      rintro e w2 ⟨rfl, rfl⟩
      go_wp2
      go_ret
      exact ⟨by rw [HR.out]; try rfl, B1.out⟩
    · have HR := Lib.hid (show R = false by rw [HW.out, decide_eq_false hlen]; rfl)
      have hne : ((ms.length : Int) == (xs.length : Int)) = false := by simp; omega
      clear HW hlen
      go_enter Try.func80, Try.ntmps80
      go_wp2_with fail
      refine (Calls.mono VA.out) ?_
      rintro e w1 ⟨rfl, b1⟩
      have B1 := Lib.hid (B0.out.trans (b1.mono B0.out.size))
      have V1 := Lib.hid (V0.out.below b1)
      clear b1 v0 v1 v2
      have v0 := V1.out.cell 0 (.int .i64 N) rfl
      have v1 := V1.out.cell 1 (.slice A xs.length c) rfl
      have v2 := V1.out.cell 2 (.slice M ms.length d) rfl
      go_wp2
      go_ret
      exact ⟨by rw [HR.out]; try rfl, B1.out⟩

end FarkI
end Go.Proofs.Ytnbgmhlhbcoicaa
