/- At every slice of strings, impl.AllDistinct answers as its model: the law FnExactAllDistinct returns true. There is no condition. -/
import Derived.Test.YtedechmbondpaaaRows
import Derived.Test.YtedechmbondpaaaFrame
import Derived.Test.YtedechmbondpaaaStrEq
import Derived.Test.YtedechmbondpaaaStrMore
import Derived.Test.YtedechmbondpaaaStrSize
import Derived.Test.YtedechmbondpaaaStrMark2
import Derived.Test.YtedechmbondpaaaSortImpl
import Derived.Test.YtedechmbondpaaaSortSpec1
import Derived.Test.YtedechmbondpaaaSortSpec2
import Derived.SliceStrings
namespace Go.Proofs.Ytedechmbondpaaa
open Go.ChangeShapes Go.WideShapes Go.ChangeAt Go.RowKit
open Go.ChangeMaps (open_string shut_string)
namespace LawAllDistinct
set_option maxHeartbeats 2000000 in
set_option maxRecDepth 100000 in
theorem walk (A : Option Addr) (c : Nat) (ss : List ByteArray) (w : World) (hA : StrK.SRow w A ss) (hl : ss.length ≤ 9223372036854775807) (hs : ∀ s ∈ ss, s.size ≤ 9223372036854775807) :
    Calls Try.prog 7 #[.slice A ss.length c] w fun e w' => e = .returned (.bool true) ∧ Below w.heap.size w w' := by

  have SZ : ∀ W, StrK.SRow W A ss → Calls Try.prog 27 #[.slice A ss.length c, .int .i64 1048576] W fun e w' => e = .returned (.int .i64 (StrK.leftOf 1048576 (StrK.total ss))) ∧ Below W.heap.size W w' := fun W h => StrK.size A c 1048576 ss W h (by omega) hl hs
  by_cases ht : StrK.total ss ≤ 1048576
  · have htt : StrK.total ss = ss.length + StrK.bytesOf ss := rfl
    have hlen : ss.length ≤ 1048576 := by omega
    have hleft : StrK.leftOf 1048576 (StrK.total ss) = 1048576 - (StrK.total ss : Int) := by rw [StrK.leftOf, if_pos ht]; rfl
    rw [hleft] at SZ
    have hT : (StrK.total ss : Int) ≤ 1048576 := by omega
    have HS := Lib.hid SZ
    clear SZ hleft htt ht hs
    generalize (StrK.total ss : Int) = t at *
    go_enter Try.func7, Try.ntmps7
    go_wp2_with fail
    refine (Calls.mono (HS.out _ hA)) ?_
    rintro e w1 ⟨rfl, b1⟩
    go_wp2_with fail
    refine (StrK.copy A c ss _ (hA.below b1) (by omega)).mono ?_
    rintro e w2 ⟨A2, rfl, r2, _, b2, _⟩
    have hb2 := b1.trans (b2.mono b1.size)
    have SP := Lib.hid (fun (A : Option Addr) W (h1 : StrK.SRow W A ss) => NameS.specDistinct A ss.length ss W h1 (by omega) (Nat.le_refl _))
    have IM := Lib.hid (fun (A : Option Addr) W (h1 : StrK.SRow W A ss) => NameS.implDistinct A ss.length ss W h1 (by omega))
    generalize NameS.dist ss = db at *
    go_wp2_with fail
    refine (SP.out _ _ r2).mono ?_
    rintro e w3 ⟨rfl, b3⟩
    have hb3 := hb2.trans (b3.mono hb2.size)
    go_wp2_with fail
    refine (StrK.copy A c ss _ (hA.below hb3) (by omega)).mono ?_
    rintro e w4 ⟨A4, rfl, r4, _, b4, _⟩
    have hb4 := hb3.trans (b4.mono hb3.size)
    go_wp2_with fail
    refine (IM.out _ _ r4).mono ?_
    rintro e w5 ⟨rfl, b5⟩
    have hb5 := hb4.trans (b5.mono hb4.size)
    go_wp2_with fail
    refine (StrK.copy A c ss _ (hA.below hb5) (by omega)).mono ?_
    rintro e w6 ⟨A6, rfl, r6, _, b6, _⟩
    have hb6 := hb5.trans (b6.mono hb5.size)
    go_wp2_with fail
    refine (StrK.eq_same A4 A6 ss.length ss.length ss _ ((r4.below b5).below b6) r6 (by omega)).mono ?_
    rintro e w7 ⟨rfl, b7⟩
    go_wp2
    go_ret
    exact ⟨rfl, hb6.trans (b7.mono hb6.size)⟩
  · have hleft : StrK.leftOf 1048576 (StrK.total ss) = -1 := by rw [StrK.leftOf, if_neg ht]
    rw [hleft] at SZ
    have HS := Lib.hid SZ
    clear SZ hleft ht hs
    go_enter Try.func7, Try.ntmps7
    go_wp2_with fail
    refine (Calls.mono (HS.out _ hA)) ?_
    rintro e w1 ⟨rfl, b1⟩
    go_wp2
    go_ret
    exact ⟨rfl, b1⟩

set_option maxRecDepth 100000 in
theorem lifted (os : Os) (started : os.Started) (H : Type) (enc : TypeId × Value → H) :
    ReturnsInHanded {} Try.checked os 7 .any (Rows.fnExactAllDistinctSpec.pre6 enc Try.prog Try.f7 Rows.fnExactAllDistinctRow.domain false) (Rows.fnExactAllDistinctSpec.post enc Try.prog Try.f7 false true false false) := by
  refine returnsInHanded_of_change (C := Try.checked) Frame.own started (by kernel_rfl) Try.func7
    (ChangeSpec.witness6 (enc := enc) (C := Try.checked) false ⟨#[], #[.slice none 0 0], []⟩ 8 (by kernel_rfl) (by kernel_rfl) (by kernel_rfl) (by kernel_rfl)) ?_
  intro W base args ds gs before hval0 hW _ _
  have hW' := hW
  have hval : ∀ (j : Nat) t v, Try.f7.params[j]? = some t → args[j]? = some v → Value.okWide Try.prog W .any base t v := hval0
  obtain ⟨p, q, hA0, hV, rfl, hfz, hnd⟩ := hW
  have hA : DataW.TrodAll enc Try.prog W 0 (fun _ => true) true Try.f7.params.toList args.toList ds p := hA0
  rw [Try.params7] at hA hval
  obtain ⟨v0, d0, rfl, rfl, h0⟩ := trodAll_one hA
  have hlt := fun x hx => hW'.lt x hx
  obtain ⟨rfl, rfl⟩ := trodVars_none hV
  obtain ⟨al, nl, cl, rfl⟩ := okWide_slice Try.underlying24 (hval 0 24 v0 rfl rfl)
  obtain ⟨l, rfl, hrl, hll, hsl⟩ := Frame.open_strs (W := W) (by kernel_rfl) Try.underlying24 Try.underlying9 h0 (fun x hx => hlt x (by simp [hx]))
  refine (walk al cl l W hrl hll hsl).mono fun e W' ⟨he, hb⟩ => ?_
  subst he
  exact ⟨_, rfl, Frame.law_post (tb := 4) Frame.laidOut (by kernel_rfl) (by kernel_rfl) (by kernel_rfl) Try.underlying4 hW' rfl hb⟩

theorem proved : Rows.FnExactAllDistinctSaid :=
  OpenClaim.holds_of_wide 7 Try.f7 rfl rfl rfl rfl rfl rfl rfl ⟨rfl, rfl, rfl, rfl, rfl⟩ rfl rfl rfl rfl rfl (by kernel_rfl) Try.func7 (by kernel_rfl)
    (of_decide_eq_true (by kernel_rfl)) (by unfold Func.isWrapper; first | (rw [if_pos (by decide +kernel)]; kernel_rfl) | (rw [if_neg (by decide +kernel)]; exact ⟨rfl, rfl⟩))
    (fun os started H enc _ => lifted os started H enc)
end LawAllDistinct
end Go.Proofs.Ytedechmbondpaaa
