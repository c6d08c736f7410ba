/- At every slice of strings and every string, impl.IndexOf answers as its model: the law FnExactIndexOf returns true. There is no condition. -/
import Derived.Test.YtedechmbondpaaaRows
import Derived.Test.YtedechmbondpaaaFrame
import Derived.Test.YtedechmbondpaaaNameOps
import Derived.Test.YtedechmbondpaaaStrEq
import Derived.Test.YtedechmbondpaaaStrMore
import Derived.Test.YtedechmbondpaaaStrSize
import Derived.SliceStrings
namespace Go.Proofs.Ytedechmbondpaaa
open Go.ChangeShapes Go.WideShapes Go.ChangeAt Go.RowKit
open Go.ChangeMaps (open_string shut_string)
namespace LawIndexOf
set_option maxHeartbeats 1000000 in
set_option maxRecDepth 100000 in
theorem walk (A : Option Addr) (c : Nat) (ss : List ByteArray) (s : ByteArray) (w : World) (hA : StrK.SRow w A ss) (hl : ss.length ≤ 9223372036854775807) (hs : ∀ s ∈ ss, s.size ≤ 9223372036854775807) :
    Calls Try.prog 6 #[.slice A ss.length c, .string s] w fun e w' => e = .returned (.bool true) ∧ Below w.heap.size w w' := by
  by_cases hsz : s.size ≤ 1048576
  · have SZ : ∀ W, StrK.SRow W A ss → Calls Try.prog 27 #[.slice A ss.length c, .int .i64 1048576] W fun e w' => e = .returned (.int .i64 (StrK.leftOf 1048576 (StrK.total ss))) ∧ Below W.heap.size W w' := fun W h => StrK.size A c 1048576 ss W h (by omega) hl hs
    by_cases ht : StrK.total ss ≤ 1048576
    · have htt : StrK.total ss = ss.length + StrK.bytesOf ss := rfl
      have hlen : ss.length ≤ 1048576 := by omega
      have hleft : StrK.leftOf 1048576 (StrK.total ss) = 1048576 - (StrK.total ss : Int) := by rw [StrK.leftOf, if_pos ht]; rfl
      rw [hleft] at SZ
      have hT : (StrK.total ss : Int) ≤ 1048576 := by omega
      have HS := Lib.hid SZ
      clear SZ hleft htt ht hs
      generalize (StrK.total ss : Int) = t at *
      go_enter Try.func6, Try.ntmps6
      go_wp2_with fail
      refine (Calls.mono (HS.out _ hA)) ?_
      rintro e w1 ⟨rfl, b1⟩
      go_wp2_with fail
      refine (StrK.copy A c ss _ (hA.below b1) (by omega)).mono ?_
      rintro e w2 ⟨A2, rfl, r2, _, b2, _⟩
      have hb2 := b1.trans (b2.mono b1.size)
      go_wp2_with fail
      refine (NameS.specIndex A2 ss.length ss s _ r2 (by omega)).mono ?_
      rintro e w3 ⟨rfl, rfl⟩
      go_wp2_with fail
      refine (StrK.copy A c ss _ (hA.below hb2) (by omega)).mono ?_
      rintro e w4 ⟨A4, rfl, r4, _, b4, _⟩
      have hb4 := hb2.trans (b4.mono hb2.size)
      go_wp2_with fail
      refine (NameS.implIndex A4 ss.length ss s _ r4 (by omega)).mono ?_
      rintro e w5 ⟨rfl, rfl⟩
      generalize Lib.idxOfS ss s = ix at *
      go_wp2_with fail
      refine (StrK.copy A c ss _ (hA.below hb4) (by omega)).mono ?_
      rintro e w6 ⟨A6, rfl, r6, _, b6, _⟩
      have hb6 := hb4.trans (b6.mono hb4.size)
      go_wp2_with fail
      refine (StrK.eq_same A4 A6 ss.length ss.length ss _ (r4.below b6) r6 (by omega)).mono ?_
      rintro e w7 ⟨rfl, b7⟩
      go_wp2
      go_ret
      exact ⟨rfl, hb6.trans (b7.mono hb6.size)⟩
    · have hleft : StrK.leftOf 1048576 (StrK.total ss) = -1 := by rw [StrK.leftOf, if_neg ht]
      rw [hleft] at SZ
      have HS := Lib.hid SZ
      clear SZ hleft ht hs
      go_enter Try.func6, Try.ntmps6
      go_wp2_with fail
      refine (Calls.mono (HS.out _ hA)) ?_
      rintro e w1 ⟨rfl, b1⟩
      go_wp2
      go_ret
      exact ⟨rfl, b1⟩
  · go_enter Try.func6, Try.ntmps6
    go_wp2
    go_ret
    exact ⟨rfl, Below.refl _ _⟩

set_option maxRecDepth 100000 in
theorem lifted (os : Os) (started : os.Started) (H : Type) (enc : TypeId × Value → H) :
    ReturnsInHanded {} Try.checked os 6 .any (Rows.fnExactIndexOfSpec.pre6 enc Try.prog Try.f6 Rows.fnExactIndexOfRow.domain false) (Rows.fnExactIndexOfSpec.post enc Try.prog Try.f6 false true false false) := by
  refine returnsInHanded_of_change (C := Try.checked) Frame.own started (by kernel_rfl) Try.func6
    (ChangeSpec.witness6 (enc := enc) (C := Try.checked) false ⟨#[], #[.slice none 0 0, .string .empty], []⟩ 8 (by kernel_rfl) (by kernel_rfl) (by kernel_rfl) (by kernel_rfl)) ?_
  intro W base args ds gs before hval0 hW _ _
  have hW' := hW
  have hval : ∀ (j : Nat) t v, Try.f6.params[j]? = some t → args[j]? = some v → Value.okWide Try.prog W .any base t v := hval0
  obtain ⟨p, q, hA0, hV, rfl, hfz, hnd⟩ := hW
  have hA : DataW.TrodAll enc Try.prog W 0 (fun _ => true) true Try.f6.params.toList args.toList ds p := hA0
  rw [Try.params6] at hA hval
  obtain ⟨v0, v1, d0, d1, p0, p1, rfl, rfl, rfl, h0, h1⟩ := trodAll_two hA
  have hlt := fun x hx => hW'.lt x hx
  obtain ⟨rfl, rfl⟩ := trodVars_none hV
  obtain ⟨al, nl, cl, rfl⟩ := okWide_slice Try.underlying24 (hval 0 24 v0 rfl rfl)
  obtain ⟨l, rfl, hrl, hll, hsl⟩ := Frame.open_strs (W := W) (by kernel_rfl) Try.underlying24 Try.underlying9 h0 (fun x hx => hlt x (by simp [hx]))
  obtain ⟨s, rfl, rfl, rfl, ws⟩ := open_string Try.underlying9 (hval 1 9 v1 rfl rfl) h1
  refine (walk al cl l s W hrl hll hsl).mono fun e W' ⟨he, hb⟩ => ?_
  subst he
  exact ⟨_, rfl, Frame.law_post (tb := 4) Frame.laidOut (by kernel_rfl) (by kernel_rfl) (by kernel_rfl) Try.underlying4 hW' rfl hb⟩

theorem proved : Rows.FnExactIndexOfSaid :=
  OpenClaim.holds_of_wide 6 Try.f6 rfl rfl rfl rfl rfl rfl rfl ⟨rfl, rfl, rfl, rfl, rfl⟩ rfl rfl rfl rfl rfl (by kernel_rfl) Try.func6 (by kernel_rfl)
    (of_decide_eq_true (by kernel_rfl)) (by unfold Func.isWrapper; first | (rw [if_pos (by decide +kernel)]; kernel_rfl) | (rw [if_neg (by decide +kernel)]; exact ⟨rfl, rfl⟩))
    (fun os started H enc _ => lifted os started H enc)
end LawIndexOf
end Go.Proofs.Ytedechmbondpaaa
