/- At every slice of strings, impl.SortNames answers as its model, writes nothing into its argument and answers in new memory: the law FnExactSortNames returns true. There is no condition. -/
import Derived.Test.YtedechmbondpaaaRows
import Derived.Test.YtedechmbondpaaaFrame
import Derived.Test.YtedechmbondpaaaStrEq
import Derived.Test.YtedechmbondpaaaStrMore
import Derived.Test.YtedechmbondpaaaStrSize
import Derived.Test.YtedechmbondpaaaStrMark2
import Derived.Test.YtedechmbondpaaaSortImpl
import Derived.Test.YtedechmbondpaaaSortSpec1
import Derived.Test.YtedechmbondpaaaSortSpec2
import Derived.SliceStrings
namespace Go.Proofs.Ytedechmbondpaaa
open Go.ChangeShapes Go.WideShapes Go.ChangeAt Go.RowKit
open Go.ChangeMaps (open_string shut_string)
namespace LawSortNames
set_option maxHeartbeats 2000000 in
set_option maxRecDepth 100000 in
theorem walk (A : Option Addr) (c : Nat) (ss : List ByteArray) (w : World) (hA : StrK.SRow w A ss) (hl : ss.length ≤ 9223372036854775807) (hs : ∀ s ∈ ss, s.size ≤ 9223372036854775807) :
    Calls Try.prog 8 #[.slice A ss.length c] w fun e w' => e = .returned (.bool true) ∧ Below w.heap.size w w' := by

  have SZ : ∀ W, StrK.SRow W A ss → Calls Try.prog 27 #[.slice A ss.length c, .int .i64 1048576] W fun e w' => e = .returned (.int .i64 (StrK.leftOf 1048576 (StrK.total ss))) ∧ Below W.heap.size W w' := fun W h => StrK.size A c 1048576 ss W h (by omega) hl hs
  by_cases ht : StrK.total ss ≤ 1048576
  · have htt : StrK.total ss = ss.length + StrK.bytesOf ss := rfl
    have hlen : ss.length ≤ 1048576 := by omega
    have hleft : StrK.leftOf 1048576 (StrK.total ss) = 1048576 - (StrK.total ss : Int) := by rw [StrK.leftOf, if_pos ht]; rfl
    rw [hleft] at SZ
    have hT : (StrK.total ss : Int) ≤ 1048576 := by omega
    have HS := Lib.hid SZ
    clear SZ hleft htt ht hs
    generalize (StrK.total ss : Int) = t at *
    go_enter Try.func8, Try.ntmps8
    go_wp2_with fail
    refine (Calls.mono (HS.out _ hA)) ?_
    rintro e w1 ⟨rfl, b1⟩
    go_wp2_with fail
    refine (StrK.copy A c ss _ (hA.below b1) (by omega)).mono ?_
    rintro e w2 ⟨A2, rfl, r2, _, b2, _⟩
    have hb2 := b1.trans (b2.mono b1.size)
    have hol := SortM.srtB_length ss
    have SP := Lib.hid (fun (A : Option Addr) W (h1 : StrK.SRow W A ss) => NameS.specSort A ss.length ss W h1 (by omega))
    have IM := Lib.hid (fun (A : Option Addr) W (h1 : StrK.SRow W A ss) => NameS.implSort A ss.length ss W h1 (by omega))
    generalize SortM.srtB ss = os at *
    go_wp2_with fail
    refine (SP.out _ _ r2).mono ?_
    rintro e w3 ⟨W0, cw, rfl, rw0, _, b3, _, _⟩
    have hb3 := hb2.trans (b3.mono hb2.size)
    go_wp2_with fail
    refine (StrK.copy A c ss _ (hA.below hb3) (by omega)).mono ?_
    rintro e w4 ⟨X0, rfl, rx0, fx0, b4, nx0⟩
    have hb4 := hb3.trans (b4.mono hb3.size)
    go_wp2_with fail
    refine (IM.out _ _ rx0).mono ?_
    rintro e w5 ⟨G, cg, rfl, rg, fg, b5, ng, _⟩
    have hb5 := hb4.trans (b5.mono hb4.size)
    have rw5 := (rw0.below b4).below b5
    go_wp2_with fail
    refine (StrK.eq_same G W0 cg cw os _ rg rw5 (by omega)).mono ?_
    rintro e w6 ⟨rfl, b6⟩
    have hb6 := hb5.trans (b6.mono hb5.size)
    have k6 := b5.trans (b6.mono b5.size)
    go_wp2_with fail
    refine (StrK.copy A c ss _ (hA.below hb6) (by omega)).mono ?_
    rintro e w7 ⟨C1, rfl, rc1, _, b7, _⟩
    have hb7 := hb6.trans (b7.mono hb6.size)
    go_wp2_with fail
    refine (StrK.eq_same X0 C1 ss.length ss.length ss _ ((rx0.below k6).below b7) rc1 (by omega)).mono ?_
    rintro e w8 ⟨rfl, b8⟩
    have hb8 := hb7.trans (b8.mono hb7.size)
    have k8 := (k6.trans (b7.mono k6.size)).trans (b8.mono (Nat.le_trans k6.size b7.size))
    have g8 := (b6.trans (b7.mono b6.size)).trans (b8.mono (Nat.le_trans b6.size b7.size))
    clear rc1 b7 b8 b6 k6
    -- the marks in the argument's copy
    go_wp2_with fail
    refine (StrK.mark21 X0 ss.length ss _ (rx0.below k8) (fx0.below rx0 k8) (by omega)).mono ?_
    rintro e w9 ⟨rfl, _, o9, _⟩
    have hb9 : Below w.heap.size w w9 := StrK.below_blk hb8 o9 hb8.size (fun b e => Nat.le_trans hb3.size (nx0 b e))
    have hX0 : ∀ b, StrK.blk X0 ss = some b → b.block < w4.heap.size := StrK.blk_lt rx0
    have rg9 := (rg.below g8).only_earlier o9 ng hX0
    have fg9 := (fg.below rg g8).only_earlier (rg.below g8) o9 ng hX0
    have rw9 := (rw5.below g8).only_later_ rw0 o9 (StrK.blk_ge nx0)
    go_wp2_with fail
    refine (StrK.eq_same G W0 cg cw os _ rg9 rw9 (by omega)).mono ?_
    rintro e w10 ⟨rfl, b10⟩
    have hb10 := hb9.trans (b10.mono hb9.size)
    -- the marks in the answer
    go_wp2_with fail
    refine (StrK.mark21 G cg os _ (rg9.below b10) (fg9.below rg9 b10) (by omega)).mono ?_
    rintro e w11 ⟨rfl, rm, o11, _⟩
    have hb11 : Below w.heap.size w w11 := StrK.below_blk hb10 o11 hb10.size (fun b e => Nat.le_trans hb4.size (ng b e))
    have rw11 := (rw9.below b10).only_later_ rw0 o11 (StrK.blk_ge (fun a e => Nat.le_trans b4.size (ng a e)))
    go_wp2_with fail
    refine (StrK.held1 G cg os.length _ rm (by omega)).mono ?_
    rintro e w12 ⟨rfl, b12⟩
    have hb12 := hb11.trans (b12.mono hb11.size)
    go_wp2_with fail
    refine (StrK.copy A c ss _ (hA.below hb12) (by omega)).mono ?_
    rintro e w13 ⟨D1, rfl, rd1, _, b13, _⟩
    have hb13 := hb12.trans (b13.mono hb12.size)
    go_wp2_with fail
    refine (IM.out _ _ rd1).mono ?_
    rintro e w14 ⟨H0, ch, rfl, rh, _, b14, _, _⟩
    have hb14 := hb13.trans (b14.mono hb13.size)
    have k14 := (b12.trans (b13.mono b12.size)).trans (b14.mono (Nat.le_trans b12.size b13.size))
    go_wp2_with fail
    refine (StrK.eq_same H0 W0 ch cw os _ rh (rw11.below k14) (by omega)).mono ?_
    rintro e w15 ⟨rfl, b15⟩
    have hb15 := hb14.trans (b15.mono hb14.size)
    go_wp2_with fail
    refine (StrK.held1 G cg os.length _ ((rm.below k14).below b15) (by omega)).mono ?_
    rintro e w16 ⟨rfl, b16⟩
    go_wp2
    go_ret
    exact ⟨rfl, hb15.trans (b16.mono hb15.size)⟩
  · have hleft : StrK.leftOf 1048576 (StrK.total ss) = -1 := by rw [StrK.leftOf, if_neg ht]
    rw [hleft] at SZ
    have HS := Lib.hid SZ
    clear SZ hleft ht hs
    go_enter Try.func8, Try.ntmps8
    go_wp2_with fail
    refine (Calls.mono (HS.out _ hA)) ?_
    rintro e w1 ⟨rfl, b1⟩
    go_wp2
    go_ret
    exact ⟨rfl, b1⟩

set_option maxRecDepth 100000 in
theorem lifted (os : Os) (started : os.Started) (H : Type) (enc : TypeId × Value → H) :
    ReturnsInHanded {} Try.checked os 8 .any (Rows.fnExactSortNamesSpec.pre6 enc Try.prog Try.f8 Rows.fnExactSortNamesRow.domain false) (Rows.fnExactSortNamesSpec.post enc Try.prog Try.f8 false true false false) := by
  refine returnsInHanded_of_change (C := Try.checked) Frame.own started (by kernel_rfl) Try.func8
    (ChangeSpec.witness6 (enc := enc) (C := Try.checked) false ⟨#[], #[.slice none 0 0], []⟩ 8 (by kernel_rfl) (by kernel_rfl) (by kernel_rfl) (by kernel_rfl)) ?_
  intro W base args ds gs before hval0 hW _ _
  have hW' := hW
  have hval : ∀ (j : Nat) t v, Try.f8.params[j]? = some t → args[j]? = some v → Value.okWide Try.prog W .any base t v := hval0
  obtain ⟨p, q, hA0, hV, rfl, hfz, hnd⟩ := hW
  have hA : DataW.TrodAll enc Try.prog W 0 (fun _ => true) true Try.f8.params.toList args.toList ds p := hA0
  rw [Try.params8] at hA hval
  obtain ⟨v0, d0, rfl, rfl, h0⟩ := trodAll_one hA
  have hlt := fun x hx => hW'.lt x hx
  obtain ⟨rfl, rfl⟩ := trodVars_none hV
  obtain ⟨al, nl, cl, rfl⟩ := okWide_slice Try.underlying24 (hval 0 24 v0 rfl rfl)
  obtain ⟨l, rfl, hrl, hll, hsl⟩ := Frame.open_strs (W := W) (by kernel_rfl) Try.underlying24 Try.underlying9 h0 (fun x hx => hlt x (by simp [hx]))
  refine (walk al cl l W hrl hll hsl).mono fun e W' ⟨he, hb⟩ => ?_
  subst he
  exact ⟨_, rfl, Frame.law_post (tb := 4) Frame.laidOut (by kernel_rfl) (by kernel_rfl) (by kernel_rfl) Try.underlying4 hW' rfl hb⟩

theorem proved : Rows.FnExactSortNamesSaid :=
  OpenClaim.holds_of_wide 8 Try.f8 rfl rfl rfl rfl rfl rfl rfl ⟨rfl, rfl, rfl, rfl, rfl⟩ rfl rfl rfl rfl rfl (by kernel_rfl) Try.func8 (by kernel_rfl)
    (of_decide_eq_true (by kernel_rfl)) (by unfold Func.isWrapper; first | (rw [if_pos (by decide +kernel)]; kernel_rfl) | (rw [if_neg (by decide +kernel)]; exact ⟨rfl, rfl⟩))
    (fun os started H enc _ => lifted os started H enc)
end LawSortNames
end Go.Proofs.Ytedechmbondpaaa
