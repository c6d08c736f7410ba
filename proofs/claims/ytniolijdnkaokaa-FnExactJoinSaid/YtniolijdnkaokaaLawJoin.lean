/- At every list of strings and every separator, impl.Join answers as its model: the law FnExactJoin returns true. There is no condition. -/
import Derived.Test.YtniolijdnkaokaaRows
import Derived.Test.YtniolijdnkaokaaFrame
import Derived.Test.YtniolijdnkaokaaJoinSpec
import Derived.Test.YtniolijdnkaokaaStrEq
import Derived.Test.YtniolijdnkaokaaStrMore
import Derived.Test.YtniolijdnkaokaaStrSize
import Derived.SliceStrings
namespace Go.Proofs.Ytniolijdnkaokaa
open Go.ChangeShapes Go.WideShapes Go.ChangeAt Go.RowKit
open Go.ChangeMaps (open_string shut_string)
namespace LawJoin

set_option maxHeartbeats 1000000 in
set_option maxRecDepth 100000 in
theorem walk (A : Option Addr) (c : Nat) (ss : List ByteArray) (sep : ByteArray) (w : World) (hA : StrK.SRow w A ss) (hl : ss.length ≤ 9223372036854775807) (hs : ∀ s ∈ ss, s.size ≤ 9223372036854775807) :
    Calls Try.prog 3 #[.slice A ss.length c, .string sep] w fun e w' => e = .returned (.bool true) ∧ Below w.heap.size w w' := by
  by_cases hsep : sep.size ≤ 1048576
  · have SZ : ∀ W, StrK.SRow W A ss → Calls Try.prog 4 #[.slice A ss.length c, .int .i64 1048576] W fun e w' => e = .returned (.int .i64 (StrK.leftOf 1048576 (StrK.total ss))) ∧ Below W.heap.size W w' := fun W h => StrK.size A c 1048576 ss W h (by omega) hl hs
    by_cases ht : StrK.total ss ≤ 1048576
    · have htt : StrK.total ss = ss.length + StrK.bytesOf ss := rfl
      have hlen : ss.length ≤ 1048576 := by omega
      have hroom : StrK.bytesOf ss + ss.length * sep.size ≤ 100000000000000 := by
        have h1 : ss.length * sep.size ≤ 1048576 * 1048576 := Nat.mul_le_mul hlen hsep
        omega
      have hleft : StrK.leftOf 1048576 (StrK.total ss) = 1048576 - (StrK.total ss : Int) := by rw [StrK.leftOf, if_pos ht]; rfl
      rw [hleft] at SZ
      have hT : (StrK.total ss : Int) ≤ 1048576 := by omega
      have HS := Lib.hid SZ
      have HR := Lib.hid hroom
      clear SZ hroom hleft htt ht hs
      generalize (StrK.total ss : Int) = t at *
      go_enter Try.func3, Try.ntmps3
      go_wp2_with fail
      refine (Calls.mono (HS.out _ hA)) ?_
      rintro e w1 ⟨rfl, b1⟩
      go_wp2_with fail
      refine (StrK.copy A c ss _ (hA.below b1) (by omega)).mono ?_
      rintro e w2 ⟨A2, rfl, r2, _, b2, _⟩
      go_wp2_with fail
      refine (JoinS.spec A2 ss.length ss sep _ r2 (by omega) HR.out).mono ?_
      rintro e w3 ⟨rfl, b3⟩
      have hb3 : Below w.heap.size w w3 := (b1.trans (b2.mono b1.size)).trans (b3.mono (Nat.le_trans b1.size b2.size))
      go_wp2_with fail
      refine (StrK.copy A c ss _ (hA.below hb3) (by omega)).mono ?_
      rintro e w4 ⟨A4, rfl, r4, _, b4, _⟩
      go_wp2_with fail
      refine (JoinS.impl A4 ss.length ss sep _ r4 (by omega) (Nat.le_refl _) HR.out).mono ?_
      rintro e w5 ⟨rfl, b5⟩
      have hb4 := hb3.trans (b4.mono hb3.size)
      have hb5 := hb4.trans (b5.mono hb4.size)
      generalize (JoinS.joined ss sep) = jj at *
      go_wp2_with fail
      refine (StrK.copy A c ss _ (hA.below hb5) (by omega)).mono ?_
      rintro e w6 ⟨A6, rfl, r6, _, b6, _⟩
      go_wp2_with fail
      refine (StrK.eq_same A4 A6 ss.length ss.length ss _ ((r4.below b5).below b6) r6 (by omega)).mono ?_
      rintro e w7 ⟨rfl, b7⟩
      have hb6 := hb5.trans (b6.mono hb5.size)
      go_wp2
      go_ret
      exact ⟨rfl, hb6.trans (b7.mono hb6.size)⟩
    · have hleft : StrK.leftOf 1048576 (StrK.total ss) = -1 := by rw [StrK.leftOf, if_neg ht]
      rw [hleft] at SZ
      have HS := Lib.hid SZ
      clear SZ hleft ht hs
      go_enter Try.func3, Try.ntmps3
      go_wp2_with fail
      refine (Calls.mono (HS.out _ hA)) ?_
      rintro e w1 ⟨rfl, b1⟩
      go_wp2
      go_ret
      exact ⟨rfl, b1⟩
  · go_enter Try.func3, Try.ntmps3
    go_wp2
    go_ret
    exact ⟨rfl, Below.refl _ _⟩

set_option maxRecDepth 100000 in
theorem lifted (os : Os) (started : os.Started) (H : Type) (enc : TypeId × Value → H) :
    ReturnsInHanded {} Try.checked os 3 .any (Rows.fnExactJoinSpec.pre6 enc Try.prog Try.f3 Rows.fnExactJoinRow.domain false) (Rows.fnExactJoinSpec.post enc Try.prog Try.f3 false true false false) := by
  refine returnsInHanded_of_change (C := Try.checked) Frame.own started (by kernel_rfl) Try.func3
    (ChangeSpec.witness6 (enc := enc) (C := Try.checked) false ⟨#[], #[.slice none 0 0, .string .empty], []⟩ 8 (by kernel_rfl) (by kernel_rfl) (by kernel_rfl) (by kernel_rfl)) ?_
  intro W base args ds gs before hval0 hW _ _
  have hW' := hW
  have hval : ∀ (j : Nat) t v, Try.f3.params[j]? = some t → args[j]? = some v → Value.okWide Try.prog W .any base t v := hval0
  obtain ⟨p, q, hA0, hV, rfl, hfz, hnd⟩ := hW
  have hA : DataW.TrodAll enc Try.prog W 0 (fun _ => true) true Try.f3.params.toList args.toList ds p := hA0
  rw [Try.params3] at hA hval
  obtain ⟨v0, v1, d0, d1, p0, p1, rfl, rfl, rfl, h0, h1⟩ := trodAll_two hA
  obtain ⟨rfl, rfl⟩ := trodVars_none hV
  obtain ⟨a0, len, cap, rfl⟩ := okWide_slice Try.underlying22 (hval 0 22 v0 rfl rfl)
  obtain ⟨sep, rfl, rfl, rfl, wsep⟩ := open_string Try.underlying9 (hval 1 9 v1 rfl rfl) h1
  have hlt : ∀ x ∈ p0, x.block < W.heap.size := fun x hx => by
    have := hW'.lt x (by simpa using hx)
    exact this
  obtain ⟨ss, rfl, hr, hl, hs⟩ := Frame.open_strs (W := W) (by kernel_rfl) Try.underlying22 Try.underlying9 h0 hlt
  refine (walk a0 cap ss sep W hr hl hs).mono fun e W' ⟨he, hb⟩ => ?_
  subst he
  exact ⟨_, rfl, Frame.law_post (tb := 4) Frame.laidOut (by kernel_rfl) (by kernel_rfl) (by kernel_rfl) Try.underlying4 hW' rfl hb⟩

theorem proved : Rows.FnExactJoinSaid :=
  OpenClaim.holds_of_wide 3 Try.f3 rfl rfl rfl rfl rfl rfl rfl ⟨rfl, rfl, rfl, rfl, rfl⟩ rfl rfl rfl rfl rfl (by kernel_rfl) Try.func3 (by kernel_rfl)
    (of_decide_eq_true (by kernel_rfl)) (by unfold Func.isWrapper; first | (rw [if_pos (by decide +kernel)]; kernel_rfl) | (rw [if_neg (by decide +kernel)]; exact ⟨rfl, rfl⟩))
    (fun os started H enc _ => lifted os started H enc)
end LawJoin
end Go.Proofs.Ytniolijdnkaokaa
