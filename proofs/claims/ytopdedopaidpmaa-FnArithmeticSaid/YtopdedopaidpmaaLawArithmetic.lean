/- At every code, the two integers that are drawn from it are added, multiplied and divided as the law FnArithmetic asks: it returns true. There is no condition. -/
import Derived.Test.YtopdedopaidpmaaRows
import Derived.Test.YtopdedopaidpmaaFrame
import Derived.Test.YtopdedopaidpmaaFrameCode
import Derived.Test.YtopdedopaidpmaaDraw3
import Derived.Test.YtopdedopaidpmaaArithSpec
import Derived.SliceStrings
namespace Go.Proofs.Ytopdedopaidpmaa
open Go.ChangeShapes Go.WideShapes Go.ChangeAt Go.RowKit
open Go.ChangeMaps (open_string shut_string)
namespace LawArithmetic
theorem gcd_rem {x y : Int} (h : 0 < ArithM.gcdL x y) : x.tmod (ArithM.gcdL x y) = 0 ∧ y.tmod (ArithM.gcdL x y) = 0 := by
  unfold ArithM.gcdL at h ⊢
  split
  · exact ⟨Int.tmod_eq_zero_of_dvd (Int.ofNat_dvd_left.2 (Nat.gcd_dvd_left _ _)), Int.tmod_eq_zero_of_dvd (Int.ofNat_dvd_left.2 (Nat.gcd_dvd_right _ _))⟩
  · rename_i hn
    rw [if_neg hn] at h
    omega
theorem floor_rest {x y : Int} (hy : 0 < y) : 0 ≤ x - ArithM.floorL x y * y ∧ x - ArithM.floorL x y * y < y := by
  unfold ArithM.floorL
  rw [if_neg (by omega)]
  have h1 := Int.mul_ediv_add_emod x y
  have h2 := Int.emod_nonneg x (show y ≠ 0 by omega)
  have h3 := Int.emod_lt_of_pos x hy
  rw [Int.mul_comm] at h1
  omega
theorem wrap_rest {x z y : Int} (h0 : 0 ≤ x - z) (h1 : x - z < y) (hy : y ≤ 9223372036854775807) : wrap64 (x - wrap64 z) = x - z := by
  unfold wrap64
  omega
theorem threes_range : ∀ x ∈ Draw.threes, -9223372036854775808 ≤ x ∧ x ≤ 9223372036854775807 := by decide

set_option maxHeartbeats 2000000 in
set_option maxRecDepth 100000 in
theorem walk (A : Option Addr) (n c : Nat) (w : World) (hc : Draw.Code w A n) :
    Calls Try.prog 3 #[.slice A n c] w fun e w' => e = .returned (.bool true) ∧ Below w.heap.size w w' := by
  by_cases hn : n ≤ 1048576
  · go_enter Try.func3, Try.ntmps3
    go_wp2_with fail
    refine (Draw.small A n c hn _).mono ?_
    rintro e w' ⟨rfl, rfl⟩
    go_wp2_with fail
    refine (Draw.drawAddLimited A n c hn _ hc).mono ?_
    rintro e w1 ⟨x, hx, y, hy, rfl, b1⟩
    have hx2 := threes_range x hx
    have hy2 := threes_range y hy
    clear hx hy
    have IA := Lib.hid (fun W => ArithI.add x y W)
    have IM := Lib.hid (fun W => ArithI.mul x y W)
    have SA := Lib.hid (fun W => ArithS.add x y W)
    have SM := Lib.hid (fun W => ArithS.mul x y W)
    have IF := Lib.hid (fun W => ArithI.fits x W)
    have SF := Lib.hid (fun W => ArithS.fits x W)
    have IG := Lib.hid (fun W => ArithI.gcd x y W)
    have SG := Lib.hid (fun W => ArithS.gcd x y W)
    have ID := Lib.hid (fun W => ArithI.floorDiv x y hx2.1 hx2.2 hy2.1 hy2.2 W)
    have SD := Lib.hid (fun W => ArithS.floorDiv x y hx2.1 hx2.2 hy2.1 hy2.2 W)
    have HG := Lib.hid (fun h => gcd_rem (x := x) (y := y) h)
    have hg0 := ArithM.gcdL_nonneg x y
    have HF := Lib.hid (fun h => floor_rest (x := x) (y := y) h)
    have HF0 : Hid (y ≤ 0 → ArithM.floorL x y = 0) := Lib.hid (fun h => by unfold ArithM.floorL; rw [if_pos h])
    have hb := ArithM.floorL_bounds (y := y) hx2.1 hx2.2
    generalize (ArithM.addL x y).getD 0 = a1 at *
    generalize (ArithM.addL x y).isSome = a2 at *
    generalize (ArithM.mulL x y).getD 0 = a3 at *
    generalize (ArithM.mulL x y).isSome = a4 at *
    generalize ArithM.inF x = a5 at *
    generalize ArithM.gcdL x y = g at *
    generalize ArithM.floorL x y = q at *
    go_wp2_with fail
    refine (IA.out _).mono ?_
    rintro e w2 ⟨rfl, b2⟩
    have hb2 := b1.trans (b2.mono b1.size)
    go_wp2_with fail
    refine (IM.out _).mono ?_
    rintro e w3 ⟨rfl, b3⟩
    have hb3 := hb2.trans (b3.mono hb2.size)
    clear b1 b2 b3 hb2
    go_wp2_with fail
    refine (SA.out _).mono ?_
    rintro e w4 ⟨rfl, rfl⟩
    go_wp2_with fail
    refine (SM.out _).mono ?_
    rintro e w4 ⟨rfl, rfl⟩
    go_wp2_with fail
    refine (IF.out _).mono ?_
    rintro e w4 ⟨rfl, rfl⟩
    go_wp2_with fail
    refine (SF.out _).mono ?_
    rintro e w4 ⟨rfl, rfl⟩
    go_wp2_with fail
    refine (IG.out _).mono ?_
    rintro e w4 ⟨rfl, b4⟩
    have hb4 := hb3.trans (b4.mono hb3.size)
    go_wp2_with fail
    refine (SG.out _).mono ?_
    rintro e w5 ⟨rfl, b5⟩
    have hb5 := hb4.trans (b5.mono hb4.size)
    clear b4 b5 hb3 hb4
    by_cases hg : g = 0
    · subst hg
      go_wp2_with fail
      refine (ID.out _).mono ?_
      rintro e w6 ⟨rfl, rfl⟩
      go_wp2_with fail
      refine (SD.out _).mono ?_
      rintro e w6 ⟨rfl, rfl⟩
      by_cases hy0 : y ≤ 0
      · obtain rfl := HF0.out hy0
        go_wp2
        go_ret
        exact ⟨rfl, hb5⟩
      · have hf := HF.out (by omega)
        have hw1 := Lib.hid (wrap_rest hf.1 hf.2 hy2.2)
        have HN : Hid (0 ≤ wrap64 (x - wrap64 (q * y))) := Lib.hid (by rw [hw1.out]; exact hf.1)
        have HD : Hid (decide (wrap64 (x - wrap64 (q * y)) < y) = true) := Lib.hid (by rw [hw1.out]; exact decide_eq_true hf.2)
        clear hf
        go_wp2
        all_goals first | (go_ret; exact ⟨congrArg (fun b => Ending.returned (.bool b)) HD.out, hb5⟩) | (exfalso; have := HN.out; omega)
    · have hgp : 0 < g := by omega
      obtain ⟨t1, t2⟩ := HG.out hgp
      go_wp2_with fail
      refine (ID.out _).mono ?_
      rintro e w6 ⟨rfl, rfl⟩
      go_wp2_with fail
      refine (SD.out _).mono ?_
      rintro e w6 ⟨rfl, rfl⟩
      by_cases hy0 : y ≤ 0
      · obtain rfl := HF0.out hy0
        go_wp2
        go_ret
        exact ⟨rfl, hb5⟩
      · have hf := HF.out (by omega)
        have hw1 := Lib.hid (wrap_rest hf.1 hf.2 hy2.2)
        have HN : Hid (0 ≤ wrap64 (x - wrap64 (q * y))) := Lib.hid (by rw [hw1.out]; exact hf.1)
        have HD : Hid (decide (wrap64 (x - wrap64 (q * y)) < y) = true) := Lib.hid (by rw [hw1.out]; exact decide_eq_true hf.2)
        clear hf
        go_wp2
        all_goals first | (go_ret; exact ⟨congrArg (fun b => Ending.returned (.bool b)) HD.out, hb5⟩) | (exfalso; have := HN.out; omega)
  · go_enter Try.func3, Try.ntmps3
    go_wp2_with fail
    refine (Draw.great A n c hn _).mono ?_
    rintro e w' ⟨rfl, rfl⟩
    go_wp2
    go_ret
    exact ⟨rfl, Below.refl _ _⟩

set_option maxRecDepth 100000 in
theorem lifted (os : Os) (started : os.Started) (H : Type) (enc : TypeId × Value → H) :
    ReturnsInHanded {} Try.checked os 3 .any (Rows.fnArithmeticSpec.pre6 enc Try.prog Try.f3 Rows.fnArithmeticRow.domain false) (Rows.fnArithmeticSpec.post enc Try.prog Try.f3 false true false false) := by
  refine returnsInHanded_of_change (C := Try.checked) Frame.own started (by kernel_rfl) Try.func3
    (ChangeSpec.witness6 (enc := enc) (C := Try.checked) false ⟨#[], #[.slice none 0 0], []⟩ 8 (by kernel_rfl) (by kernel_rfl) (by kernel_rfl) (by kernel_rfl)) ?_
  intro W base args ds gs before hval0 hW _ _
  have hW' := hW
  have hval : ∀ (j : Nat) t v, Try.f3.params[j]? = some t → args[j]? = some v → Value.okWide Try.prog W .any base t v := hval0
  obtain ⟨p, q, hA0, hV, rfl, hfz, hnd⟩ := hW
  have hA : DataW.TrodAll enc Try.prog W 0 (fun _ => true) true Try.f3.params.toList args.toList ds p := hA0
  rw [Try.params3] at hA hval
  obtain ⟨v0, d0, rfl, rfl, h0⟩ := trodAll_one hA
  have hlt := fun x hx => hW'.lt x hx
  obtain ⟨rfl, rfl⟩ := trodVars_none hV
  obtain ⟨ak, nk, ck, rfl⟩ := okWide_slice Try.underlying22 (hval 0 22 v0 rfl rfl)
  obtain ⟨hk, hlk⟩ := Frame.open_code (W := W) (by kernel_rfl) Try.underlying22 Try.underlying5 h0 (fun x hx => hlt x (by simp [hx]))
  refine (walk ak nk ck W hk).mono fun e W' ⟨he, hb⟩ => ?_
  subst he
  exact ⟨_, rfl, Frame.law_post (tb := 4) Frame.laidOut (by kernel_rfl) (by kernel_rfl) (by kernel_rfl) Try.underlying4 hW' rfl hb⟩

theorem proved : Rows.FnArithmeticSaid :=
  OpenClaim.holds_of_wide 3 Try.f3 rfl rfl rfl rfl rfl rfl rfl ⟨rfl, rfl, rfl, rfl, rfl⟩ rfl rfl rfl rfl rfl (by kernel_rfl) Try.func3 (by kernel_rfl)
    (of_decide_eq_true (by kernel_rfl)) (by unfold Func.isWrapper; first | (rw [if_pos (by decide +kernel)]; kernel_rfl) | (rw [if_neg (by decide +kernel)]; exact ⟨rfl, rfl⟩))
    (fun os started H enc _ => lifted os started H enc)
end LawArithmetic
end Go.Proofs.Ytopdedopaidpmaa
