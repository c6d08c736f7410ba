/- At every two slices of strings, impl.Without answers as its model: the law FnExactWithout returns true. There is no condition. -/
import Derived.Test.YtedechmbondpaaaRows
import Derived.Test.YtedechmbondpaaaFrame
import Derived.Test.YtedechmbondpaaaNameOps
import Derived.Test.YtedechmbondpaaaStrEq
import Derived.Test.YtedechmbondpaaaStrMore
import Derived.Test.YtedechmbondpaaaStrSize
import Derived.Test.YtedechmbondpaaaStrMark2
import Derived.SliceStrings
namespace Go.Proofs.Ytedechmbondpaaa
open Go.ChangeShapes Go.WideShapes Go.ChangeAt Go.RowKit
open Go.ChangeMaps (open_string shut_string)
namespace LawWithout
set_option maxHeartbeats 2000000 in
set_option maxRecDepth 100000 in
theorem walk (A B : Option Addr) (c d : Nat) (ss rs : List ByteArray) (w : World) (hA : StrK.SRow w A ss) (hB : StrK.SRow w B rs) (hl : ss.length ≤ 9223372036854775807) (hl2 : rs.length ≤ 9223372036854775807) (hs : ∀ s ∈ ss, s.size ≤ 9223372036854775807) (hs2 : ∀ s ∈ rs, s.size ≤ 9223372036854775807) :
    Calls Try.prog 9 #[.slice A ss.length c, .slice B rs.length d] w fun e w' => e = .returned (.bool true) ∧ Below w.heap.size w w' := by
  have SZ : ∀ W, StrK.SRow W A ss → Calls Try.prog 27 #[.slice A ss.length c, .int .i64 1048576] W fun e w' => e = .returned (.int .i64 (StrK.leftOf 1048576 (StrK.total ss))) ∧ Below W.heap.size W w' := fun W h => StrK.size A c 1048576 ss W h (by omega) hl hs
  by_cases ht : StrK.total ss ≤ 1048576
  · have htt : StrK.total ss = ss.length + StrK.bytesOf ss := rfl
    have hlen : ss.length ≤ 1048576 := by omega
    have hleft : StrK.leftOf 1048576 (StrK.total ss) = ((1048576 - StrK.total ss : Nat) : Int) := by rw [StrK.leftOf, if_pos ht]; omega
    rw [hleft] at SZ
    have HS := Lib.hid SZ
    have hT : 1048576 - StrK.total ss ≤ 1048576 := by omega
    clear SZ hleft htt ht hs
    generalize 1048576 - StrK.total ss = t at *
    have SZ2 : ∀ W, StrK.SRow W B rs → Calls Try.prog 27 #[.slice B rs.length d, .int .i64 (t : Int)] W fun e w' => e = .returned (.int .i64 (StrK.leftOf t (StrK.total rs))) ∧ Below W.heap.size W w' := fun W h => StrK.size B d t rs W h (by omega) hl2 hs2
    by_cases ht2 : StrK.total rs ≤ t
    · have htt2 : StrK.total rs = rs.length + StrK.bytesOf rs := rfl
      have hlen2 : rs.length ≤ 1048576 := by omega
      have hleft2 : StrK.leftOf t (StrK.total rs) = ((t - StrK.total rs : Nat) : Int) := by rw [StrK.leftOf, if_pos ht2]; omega
      rw [hleft2] at SZ2
      have HS2 := Lib.hid SZ2
      have hT2 : t - StrK.total rs ≤ 1048576 := by omega
      clear SZ2 hleft2 htt2 ht2 hs2
      generalize t - StrK.total rs = t2 at *
      have hwl := NameM.wo_length ss rs
      have SP := Lib.hid (fun (A B : Option Addr) W (h1 : StrK.SRow W A ss) (h2 : StrK.SRow W B rs) => NameS.specWithout A B ss.length rs.length ss rs W h1 h2 (by omega) (by omega))
      have IM := Lib.hid (fun (A B : Option Addr) W (h1 : StrK.SRow W A ss) (h2 : StrK.SRow W B rs) => NameS.implWithout A B ss.length rs.length ss rs W h1 h2 (by omega) (by omega))
      generalize NameM.wo ss rs = os at *
      go_enter Try.func9, Try.ntmps9
      go_wp2_with fail
      refine (Calls.mono (HS.out _ hA)) ?_
      rintro e w1 ⟨rfl, b1⟩
      go_wp2_with fail
      refine (Calls.mono (HS2.out _ (hB.below b1))) ?_
      rintro e w2 ⟨rfl, b2⟩
      have hb2 := b1.trans (b2.mono b1.size)
      clear b2
      go_wp2_with fail
      refine (StrK.copy A c ss _ (hA.below hb2) (by omega)).mono ?_
      rintro e w3 ⟨A3, rfl, r3, _, b3, _⟩
      have hb3 := hb2.trans (b3.mono hb2.size)
      clear b3
      go_wp2_with fail
      refine (StrK.copy B d rs _ (hB.below hb3) (by omega)).mono ?_
      rintro e w4 ⟨B4, rfl, r4, _, b4, _⟩
      have hb4 := hb3.trans (b4.mono hb3.size)
      go_wp2_with fail
      refine (SP.out _ _ _ (r3.below b4) r4).mono ?_
      rintro e w5 ⟨W0, cw, rfl, rw0, fw0, b5, nw0, _⟩
      have hb5 := hb4.trans (b5.mono hb4.size)
      clear r3 r4 b4 b5 fw0 nw0
      go_wp2_with fail
      refine (StrK.copy A c ss _ (hA.below hb5) (by omega)).mono ?_
      rintro e w6 ⟨X0, rfl, rx0, fx0, b6, nx0⟩
      have hb6 := hb5.trans (b6.mono hb5.size)
      go_wp2_with fail
      refine (StrK.copy B d rs _ (hB.below hb6) (by omega)).mono ?_
      rintro e w7 ⟨X1, rfl, rx1, fx1, b7, nx1⟩
      have hb7 := hb6.trans (b7.mono hb6.size)
      have rx07 := rx0.below b7
      go_wp2_with fail
      refine (IM.out _ _ _ rx07 rx1).mono ?_
      rintro e w8 ⟨G, cg, rfl, rg, fg, b8, ng, _⟩
      have hb8 := hb7.trans (b8.mono hb7.size)
      have rw8 := ((rw0.below b6).below b7).below b8
      go_wp2_with fail
      refine (StrK.eq_same G W0 cg cw os _ rg rw8 (by omega)).mono ?_
      rintro e w9 ⟨rfl, b9⟩
      have hb9 := hb8.trans (b9.mono hb8.size)
      have k89 := b8.trans (b9.mono b8.size)
      go_wp2_with fail
      refine (StrK.copy A c ss _ (hA.below hb9) (by omega)).mono ?_
      rintro e w10 ⟨C1, rfl, rc1, _, b10, _⟩
      have hb10 := hb9.trans (b10.mono hb9.size)
      go_wp2_with fail
      refine (StrK.eq_same X0 C1 ss.length ss.length ss _ ((rx07.below k89).below b10) rc1 (by omega)).mono ?_
      rintro e w11 ⟨rfl, b11⟩
      have hb11 := hb10.trans (b11.mono hb10.size)
      have k11 := (k89.trans (b10.mono k89.size)).trans (b11.mono (Nat.le_trans k89.size b10.size))
      go_wp2_with fail
      refine (StrK.copy B d rs _ (hB.below hb11) (by omega)).mono ?_
      rintro e w12 ⟨C2, rfl, rc2, _, b12, _⟩
      have hb12 := hb11.trans (b12.mono hb11.size)
      go_wp2_with fail
      refine (StrK.eq_same X1 C2 rs.length rs.length rs _ ((rx1.below k11).below b12) rc2 (by omega)).mono ?_
      rintro e w13 ⟨rfl, b13⟩
      have hb13 := hb12.trans (b13.mono hb12.size)
      have k13 := (k11.trans (b12.mono k11.size)).trans (b13.mono (Nat.le_trans k11.size b12.size))
      have g13 := (((((b9.trans (b10.mono b9.size)).trans (b11.mono (Nat.le_trans b9.size b10.size))))).trans (b12.mono (Nat.le_trans b9.size (Nat.le_trans b10.size b11.size)))).trans (b13.mono (Nat.le_trans b9.size (Nat.le_trans b10.size (Nat.le_trans b11.size b12.size))))
      clear rc1 rc2 b10 b11 b12 b13 b9 k11 k89
      -- the marks in the first argument's copy
      go_wp2_with fail
      refine (StrK.mark21 X0 ss.length ss _ (rx07.below k13) ((fx0.below rx0 b7).below rx07 k13) (by omega)).mono ?_
      rintro e w14 ⟨rfl, _, o14, _⟩
      have hb14 : Below w.heap.size w w14 := StrK.below_blk hb13 o14 hb13.size (fun b e => Nat.le_trans hb5.size (nx0 b e))
      have hX0 : ∀ b, StrK.blk X0 ss = some b → b.block < w6.heap.size := StrK.blk_lt rx0
      have rx1' := (rx1.below k13).only_earlier o14 nx1 hX0
      have fx1' := (fx1.below rx1 k13).only_earlier (rx1.below k13) o14 nx1 hX0
      have ng6 : ∀ a, G = some a → w6.heap.size ≤ a.block := fun a e => Nat.le_trans b7.size (ng a e)
      have rg14 := (rg.below g13).only_earlier o14 ng6 hX0
      have fg14 := (fg.below rg g13).only_earlier (rg.below g13) o14 ng6 hX0
      have rw14 := (rw8.below g13).only_later_ rw0 o14 (StrK.blk_ge nx0)
      go_wp2_with fail
      refine ((by simpa using StrK.mark2 X1 rs.length (1 + ss.length) rs _ rx1' fx1' (by omega) (by omega) : Calls Try.prog 33 #[.slice X1 rs.length rs.length, .int .i64 (1 + (ss.length : Int))] _ _)).mono ?_
      rintro e w15 ⟨rfl, _, o15, _⟩
      have hb15 : Below w.heap.size w w15 := StrK.below_blk hb14 o15 hb14.size (fun b e => Nat.le_trans hb6.size (nx1 b e))
      have hX1 : ∀ b, StrK.blk X1 rs = some b → b.block < w7.heap.size := StrK.blk_lt rx1
      have rg15 := rg14.only_earlier o15 ng hX1
      have fg15 := fg14.only_earlier rg14 o15 ng hX1
      have rw15 := rw14.only_later_ rw0 o15 (StrK.blk_ge (fun a e => Nat.le_trans b6.size (nx1 a e)))
      have hk0 : (0 : Int) ≤ 1 + ss.length + rs.length := by omega
      go_wp2_with fail
      refine (StrK.eq_same G W0 cg cw os _ rg15 rw15 (by omega)).mono ?_
      rintro e w16 ⟨rfl, b16⟩
      have hb16 := hb15.trans (b16.mono hb15.size)
      -- the marks in the answer
      go_wp2_with fail
      refine (StrK.mark21 G cg os _ (rg15.below b16) (fg15.below rg15 b16) (by omega)).mono ?_
      rintro e w17 ⟨rfl, rm, o17, _⟩
      have hb17 : Below w.heap.size w w17 := StrK.below_blk hb16 o17 hb16.size (fun b e => Nat.le_trans hb7.size (ng b e))
      have rw17 := (rw15.below b16).only_later_ rw0 o17 (StrK.blk_ge (fun a e => Nat.le_trans b6.size (Nat.le_trans b7.size (ng a e))))
      go_wp2_with fail
      refine (StrK.held1 G cg os.length _ rm (by omega)).mono ?_
      rintro e w18 ⟨rfl, b18⟩
      have hb18 := hb17.trans (b18.mono hb17.size)
      go_wp2_with fail
      refine (StrK.copy A c ss _ (hA.below hb18) (by omega)).mono ?_
      rintro e w19 ⟨D1, rfl, rd1, _, b19, _⟩
      have hb19 := hb18.trans (b19.mono hb18.size)
      go_wp2_with fail
      refine (StrK.copy B d rs _ (hB.below hb19) (by omega)).mono ?_
      rintro e w20 ⟨D2, rfl, rd2, _, b20, _⟩
      have hb20 := hb19.trans (b20.mono hb19.size)
      go_wp2_with fail
      refine (IM.out _ _ _ (rd1.below b20) rd2).mono ?_
      rintro e w21 ⟨H0, ch, rfl, rh, _, b21, _, _⟩
      have hb21 := hb20.trans (b21.mono hb20.size)
      have k21 := ((b18.trans (b19.mono b18.size)).trans (b20.mono (Nat.le_trans b18.size b19.size))).trans (b21.mono (Nat.le_trans b18.size (Nat.le_trans b19.size b20.size)))
      go_wp2_with fail
      refine (StrK.eq_same H0 W0 ch cw os _ rh (rw17.below k21) (by omega)).mono ?_
      rintro e w22 ⟨rfl, b22⟩
      have hb22 := hb21.trans (b22.mono hb21.size)
      go_wp2_with fail
      refine (StrK.held1 G cg os.length _ ((rm.below k21).below b22) (by omega)).mono ?_
      rintro e w23 ⟨rfl, b23⟩
      have hb23 := hb22.trans (b23.mono hb22.size)
      go_wp2
      go_ret
      exact ⟨rfl, hb23⟩
    · have hleft2 : StrK.leftOf t (StrK.total rs) = -1 := by rw [StrK.leftOf, if_neg ht2]
      rw [hleft2] at SZ2
      have HS2 := Lib.hid SZ2
      clear SZ2 hleft2 ht2 hs2
      go_enter Try.func9, Try.ntmps9
      go_wp2_with fail
      refine (Calls.mono (HS.out _ hA)) ?_
      rintro e w1 ⟨rfl, b1⟩
      go_wp2_with fail
      refine (Calls.mono (HS2.out _ (hB.below b1))) ?_
      rintro e w2 ⟨rfl, b2⟩
      go_wp2
      go_ret
      exact ⟨rfl, b1.trans (b2.mono b1.size)⟩
  · have hleft : StrK.leftOf 1048576 (StrK.total ss) = -1 := by rw [StrK.leftOf, if_neg ht]
    rw [hleft] at SZ
    have HS := Lib.hid SZ
    clear SZ hleft ht hs
    go_enter Try.func9, Try.ntmps9
    go_wp2_with fail
    refine (Calls.mono (HS.out _ hA)) ?_
    rintro e w1 ⟨rfl, b1⟩
    go_wp2
    go_ret
    exact ⟨rfl, b1⟩

set_option maxRecDepth 100000 in
theorem lifted (os : Os) (started : os.Started) (H : Type) (enc : TypeId × Value → H) :
    ReturnsInHanded {} Try.checked os 9 .any (Rows.fnExactWithoutSpec.pre6 enc Try.prog Try.f9 Rows.fnExactWithoutRow.domain false) (Rows.fnExactWithoutSpec.post enc Try.prog Try.f9 false true false false) := by
  refine returnsInHanded_of_change (C := Try.checked) Frame.own started (by kernel_rfl) Try.func9
    (ChangeSpec.witness6 (enc := enc) (C := Try.checked) false ⟨#[], #[.slice none 0 0, .slice none 0 0], []⟩ 8 (by kernel_rfl) (by kernel_rfl) (by kernel_rfl) (by kernel_rfl)) ?_
  intro W base args ds gs before hval0 hW _ _
  have hW' := hW
  have hval : ∀ (j : Nat) t v, Try.f9.params[j]? = some t → args[j]? = some v → Value.okWide Try.prog W .any base t v := hval0
  obtain ⟨p, q, hA0, hV, rfl, hfz, hnd⟩ := hW
  have hA : DataW.TrodAll enc Try.prog W 0 (fun _ => true) true Try.f9.params.toList args.toList ds p := hA0
  rw [Try.params9] at hA hval
  obtain ⟨v0, v1, d0, d1, p0, p1, rfl, rfl, rfl, h0, h1⟩ := trodAll_two hA
  have hlt := fun x hx => hW'.lt x hx
  obtain ⟨rfl, rfl⟩ := trodVars_none hV
  obtain ⟨al, nl, cl, rfl⟩ := okWide_slice Try.underlying24 (hval 0 24 v0 rfl rfl)
  obtain ⟨l, rfl, hrl, hll, hsl⟩ := Frame.open_strs (W := W) (by kernel_rfl) Try.underlying24 Try.underlying9 h0 (fun x hx => hlt x (by simp [hx]))
  obtain ⟨ar, nr, cr, rfl⟩ := okWide_slice Try.underlying24 (hval 1 24 v1 rfl rfl)
  obtain ⟨r, rfl, hrr, hlr, hsr⟩ := Frame.open_strs (W := W) (by kernel_rfl) Try.underlying24 Try.underlying9 h1 (fun x hx => hlt x (by simp [hx]))
  refine (walk al ar cl cr l r W hrl hrr hll hlr hsl hsr).mono fun e W' ⟨he, hb⟩ => ?_
  subst he
  exact ⟨_, rfl, Frame.law_post (tb := 4) Frame.laidOut (by kernel_rfl) (by kernel_rfl) (by kernel_rfl) Try.underlying4 hW' rfl hb⟩

theorem proved : Rows.FnExactWithoutSaid :=
  OpenClaim.holds_of_wide 9 Try.f9 rfl rfl rfl rfl rfl rfl rfl ⟨rfl, rfl, rfl, rfl, rfl⟩ rfl rfl rfl rfl rfl (by kernel_rfl) Try.func9 (by kernel_rfl)
    (of_decide_eq_true (by kernel_rfl)) (by unfold Func.isWrapper; first | (rw [if_pos (by decide +kernel)]; kernel_rfl) | (rw [if_neg (by decide +kernel)]; exact ⟨rfl, rfl⟩))
    (fun os started H enc _ => lifted os started H enc)
end LawWithout
end Go.Proofs.Ytedechmbondpaaa
