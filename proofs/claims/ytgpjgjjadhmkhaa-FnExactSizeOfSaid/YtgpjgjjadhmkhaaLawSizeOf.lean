import Derived.Test.YtgpjgjjadhmkhaaRows
import Derived.Test.YtgpjgjjadhmkhaaFrameArg
import Derived.Test.YtgpjgjjadhmkhaaFValue
import Derived.Test.YtgpjgjjadhmkhaaValI
import Derived.Test.YtgpjgjjadhmkhaaValS
import Derived.Deep.RegionHeld3
import Derived.SliceStrings
/- At every argument, impl.SizeOf answers as its model and writes nothing into its arguments: the law FnExactSizeOf returns true. There is no condition. -/
namespace Go.Proofs.Ytgpjgjjadhmkhaa
open Go.ChangeShapes Go.WideShapes Go.ChangeAt Go.RowKit
open Go.ChangeMaps (open_string shut_string)
namespace LawSizeOf
open RowK Mem
set_option maxHeartbeats 4000000 in
set_option maxRecDepth 100000 in
theorem walk (z0p : Bool) (z1p : Int) (A2p : Option Addr) (c2p : Nat) (x2p : List Int) (w0 : World) (hp : Mem.ArgR Mem.valu w0 [.bool z0p, .int .i64 z1p, .slice A2p x2p.length c2p] (z0p, z1p, x2p)) (hwfp : Mem.WfValueU (z0p, z1p, x2p)) :
    Calls Try.prog 4 #[.agg #[.bool z0p, .int .i64 z1p, .slice A2p x2p.length c2p]] w0 fun e w' => e = .returned (.bool true) ∧ Below w0.heap.size w0 w' := by
  have SZ := fun W (h : Mem.ArgR Mem.valu W [.bool z0p, .int .i64 z1p, .slice A2p x2p.length c2p] (z0p, z1p, x2p)) => Mem.sizeValueA z0p z1p A2p c2p x2p 1048576 W h (by omega) hwfp
  unfold IntK.leftOf at SZ
  by_cases htp : Mem.szValueU (z0p, z1p, x2p) ≤ 1048576
  · simp only [if_pos htp] at SZ
    have HS0 := Lib.hid SZ
    have hnp : Mem.szValueU (z0p, z1p, x2p) ≤ 100000000 := by omega
    clear SZ
    clear hwfp
    have B0 := Lib.hid (Below.refl w0.heap.size w0)
    go_enter Try.func4, Try.ntmps4
    go_wp2_with fail
    refine (Calls.mono (HS0.out _ (hp.below (B0.out.trans (((Below.refl w0.heap.size w0).alloc (by first | (simp; done) | (simp; omega)) (Obj.cells #[Value.bool z0p, Value.int .i64 z1p, Value.slice A2p x2p.length c2p] 24)).mono B0.out.size))))) ?_
    rintro e w1 ⟨rfl, b1⟩
    have hs1 : (w0.alloc (Obj.cells #[Value.bool z0p, Value.int .i64 z1p, Value.slice A2p x2p.length c2p] 24)).heap.size ≤ w1.heap.size := b1.size
    simp only [World.size_alloc] at hs1
    have d1 : Below w0.heap.size w0 w1 := ((Below.refl w0.heap.size w0).alloc (by first | (simp; done) | (simp; omega)) (Obj.cells #[Value.bool z0p, Value.int .i64 z1p, Value.slice A2p x2p.length c2p] 24)).trans (b1.mono (show w0.heap.size ≤ (w0.alloc (Obj.cells #[Value.bool z0p, Value.int .i64 z1p, Value.slice A2p x2p.length c2p] 24)).heap.size by first | exact Nat.le_refl _ | (simp; done) | (simp; omega)))
    have B1 := Lib.hid (B0.out.trans (d1.mono B0.out.size))
    have Vbp_1 := Lib.hid ((Lvar.new w0 #[Value.bool z0p, Value.int .i64 z1p, Value.slice A2p x2p.length c2p] 24).below b1)
    clear b1 d1
    have c_Vbp_0 := Vbp_1.out.cell 0 _ rfl
    have c_Vbp_1 := Vbp_1.out.cell 1 _ rfl
    have c_Vbp_2 := Vbp_1.out.cell 2 _ rfl
    have lt_Vbp := Vbp_1.out.lt
    go_wp2_with fail
    refine (Calls.mono (Mem.copyValueA z0p z1p A2p c2p x2p _ (hp.below B1.out) hnp)) ?_
    rintro e w2 ⟨Tp_2, rfl, otp, b2⟩
    have Otp := Lib.hid (show Mem.OwnR Mem.valu (w1.heap.size) w2.heap.size w2 [.bool z0p, .int .i64 z1p, .slice Tp_2 x2p.length x2p.length] (z0p, z1p, x2p) from otp)
    have hs2 : w1.heap.size ≤ w2.heap.size := b2.size
    have d2 : Below w1.heap.size w1 w2 := (Below.refl w1.heap.size w1).trans (b2.mono (show w1.heap.size ≤ w1.heap.size by first | exact Nat.le_refl _ | (simp; done) | (simp; omega)))
    have B2 := Lib.hid (B1.out.trans (d2.mono B1.out.size))
    have Vbp_2 := Lib.hid (Vbp_1.out.below d2)
    clear Vbp_1 c_Vbp_0 c_Vbp_1 c_Vbp_2 lt_Vbp b2 d2
    have c_Vbp_0 := Vbp_2.out.cell 0 _ rfl
    have c_Vbp_1 := Vbp_2.out.cell 1 _ rfl
    have c_Vbp_2 := Vbp_2.out.cell 2 _ rfl
    have lt_Vbp := Vbp_2.out.lt
    go_wp2_with fail
    refine (Calls.mono (ValS.sizeA Otp.out.arg)) ?_
    rintro e w3 ⟨rfl, b3⟩
    have hs3 : w2.heap.size ≤ w3.heap.size := b3.size
    have d3 : Below w2.heap.size w2 w3 := (Below.refl w2.heap.size w2).trans (b3.mono (show w2.heap.size ≤ w2.heap.size by first | exact Nat.le_refl _ | (simp; done) | (simp; omega)))
    have B3 := Lib.hid (B2.out.trans (d3.mono B2.out.size))
    have Vbp_3 := Lib.hid (Vbp_2.out.below d3)
    have Otp_3 := Lib.hid (Otp.out.below d3)
    clear Vbp_2 Otp c_Vbp_0 c_Vbp_1 c_Vbp_2 lt_Vbp b3 d3
    clear Otp_3
    have c_Vbp_0 := Vbp_3.out.cell 0 _ rfl
    have c_Vbp_1 := Vbp_3.out.cell 1 _ rfl
    have c_Vbp_2 := Vbp_3.out.cell 2 _ rfl
    have lt_Vbp := Vbp_3.out.lt
    go_wp2_with fail
    refine (Calls.mono (Mem.copyValueA z0p z1p A2p c2p x2p _ (hp.below B3.out) hnp)) ?_
    rintro e w4 ⟨Xp_2, rfl, oxp, b4⟩
    have Oxp := Lib.hid (show Mem.OwnR Mem.valu (w3.heap.size) w4.heap.size w4 [.bool z0p, .int .i64 z1p, .slice Xp_2 x2p.length x2p.length] (z0p, z1p, x2p) from oxp)
    have hs4 : w3.heap.size ≤ w4.heap.size := b4.size
    have d4 : Below w3.heap.size w3 w4 := (Below.refl w3.heap.size w3).trans (b4.mono (show w3.heap.size ≤ w3.heap.size by first | exact Nat.le_refl _ | (simp; done) | (simp; omega)))
    have B4 := Lib.hid (B3.out.trans (d4.mono B3.out.size))
    have Vbp_4 := Lib.hid (Vbp_3.out.below d4)
    clear Vbp_3 c_Vbp_0 c_Vbp_1 c_Vbp_2 lt_Vbp b4 d4
    have c_Vbp_0 := Vbp_4.out.cell 0 _ rfl
    have c_Vbp_1 := Vbp_4.out.cell 1 _ rfl
    have c_Vbp_2 := Vbp_4.out.cell 2 _ rfl
    have lt_Vbp := Vbp_4.out.lt
    go_wp2_with fail
    refine (Calls.mono (ValI.sizeA (Oxp.out.below ((Below.refl w4.heap.size w4).alloc (by first | (simp; done) | (simp; omega)) (Obj.cells #[Value.bool z0p, Value.int .i64 z1p, Value.slice Xp_2 x2p.length x2p.length] 27))).arg)) ?_
    rintro e w5 ⟨rfl, b5⟩
    have hs5 : (w4.alloc (Obj.cells #[Value.bool z0p, Value.int .i64 z1p, Value.slice Xp_2 x2p.length x2p.length] 27)).heap.size ≤ w5.heap.size := b5.size
    simp only [World.size_alloc] at hs5
    have d5 : Below w4.heap.size w4 w5 := ((Below.refl w4.heap.size w4).alloc (by first | (simp; done) | (simp; omega)) (Obj.cells #[Value.bool z0p, Value.int .i64 z1p, Value.slice Xp_2 x2p.length x2p.length] 27)).trans (b5.mono (show w4.heap.size ≤ (w4.alloc (Obj.cells #[Value.bool z0p, Value.int .i64 z1p, Value.slice Xp_2 x2p.length x2p.length] 27)).heap.size by first | exact Nat.le_refl _ | (simp; done) | (simp; omega)))
    have B5 := Lib.hid (B4.out.trans (d5.mono B4.out.size))
    have Vbp_5 := Lib.hid (Vbp_4.out.below d5)
    have Oxp_5 := Lib.hid (Oxp.out.below d5)
    have Vxp_5 := Lib.hid ((Lvar.new w4 #[Value.bool z0p, Value.int .i64 z1p, Value.slice Xp_2 x2p.length x2p.length] 27).below b5)
    clear Vbp_4 Oxp c_Vbp_0 c_Vbp_1 c_Vbp_2 lt_Vbp b5 d5
    have c_Vbp_0 := Vbp_5.out.cell 0 _ rfl
    have c_Vbp_1 := Vbp_5.out.cell 1 _ rfl
    have c_Vbp_2 := Vbp_5.out.cell 2 _ rfl
    have lt_Vbp := Vbp_5.out.lt
    have c_Vxp_0 := Vxp_5.out.cell 0 _ rfl
    have c_Vxp_1 := Vxp_5.out.cell 1 _ rfl
    have c_Vxp_2 := Vxp_5.out.cell 2 _ rfl
    have lt_Vxp := Vxp_5.out.lt
    go_wp2_with fail
    go_region_held3 (fun w' => w'.cell? ⟨w4.heap.size, 0, none⟩ = some (Value.bool z0p) ∧ w'.cell? ⟨w4.heap.size, 1, none⟩ = some (Value.int .i64 z1p) ∧ w'.cell? ⟨w4.heap.size, 2, none⟩ = some (Value.slice Xp_2 x2p.length x2p.length) ∧ w'.cell? ⟨w0.heap.size, 0, none⟩ = some (Value.bool z0p) ∧ w'.cell? ⟨w0.heap.size, 1, none⟩ = some (Value.int .i64 z1p) ∧ w'.cell? ⟨w0.heap.size, 2, none⟩ = some (Value.slice A2p x2p.length c2p))
      (first | exact ⟨(((Vxp_5.out.below (Below.refl _ _).drew).below b6).below b7).cell 0 _ rfl, (((Vxp_5.out.below (Below.refl _ _).drew).below b6).below b7).cell 1 _ rfl, (((Vxp_5.out.below (Below.refl _ _).drew).below b6).below b7).cell 2 _ rfl, (((Vbp_5.out.below (Below.refl _ _).drew).below b6).below b7).cell 0 _ rfl, (((Vbp_5.out.below (Below.refl _ _).drew).below b6).below b7).cell 1 _ rfl, (((Vbp_5.out.below (Below.refl _ _).drew).below b6).below b7).cell 2 _ rfl⟩ | exact ⟨((Vxp_5.out.below (Below.refl _ _).drew).below b6).cell 0 _ rfl, ((Vxp_5.out.below (Below.refl _ _).drew).below b6).cell 1 _ rfl, ((Vxp_5.out.below (Below.refl _ _).drew).below b6).cell 2 _ rfl, ((Vbp_5.out.below (Below.refl _ _).drew).below b6).cell 0 _ rfl, ((Vbp_5.out.below (Below.refl _ _).drew).below b6).cell 1 _ rfl, ((Vbp_5.out.below (Below.refl _ _).drew).below b6).cell 2 _ rfl⟩ | go_keep)
      (first
        | (go_at_call 8; refine (Calls.mono (Mem.copyValueA z0p z1p A2p c2p x2p _ (hp.below B5.out.drew) hnp)) ?_; rintro e w6 ⟨C5_2, rfl, oc5, b6⟩)
        | (go_at_call 10; refine (Calls.mono (Mem.eqValueA z0p z1p Xp_2 x2p.length x2p C5_2 x2p.length _ ((Oxp_5.out.below (Below.refl _ _).drew).below b6).arg oc5.arg hnp)) ?_; rintro e w7 ⟨rfl, b7⟩))
    have h6 : w5.heap.size ≤ w6.heap.size := b6.size
    have h7 : w6.heap.size ≤ w7.heap.size := b7.size
    have d7 : Below w5.heap.size w5 w7 := (((Below.refl w5.heap.size w5).drew.trans (b6.mono (show w5.heap.size ≤ w5.heap.size by omega))).trans (b7.mono (show w5.heap.size ≤ w6.heap.size by omega)))
    have hs7 := d7.size
    have B7 := Lib.hid (B5.out.trans (d7.mono B5.out.size))
    have Vbp_7 := Lib.hid (Vbp_5.out.below d7)
    have Oxp_7 := Lib.hid (Oxp_5.out.below d7)
    have Vxp_7 := Lib.hid (Vxp_5.out.below d7)
    clear Vbp_5 Oxp_5 Vxp_5 c_Vbp_0 c_Vbp_1 c_Vbp_2 lt_Vbp c_Vxp_0 c_Vxp_1 c_Vxp_2 lt_Vxp b6 h6 b7 h7 d7
    clear oc5
    have c_Vbp_0 := Vbp_7.out.cell 0 _ rfl
    have c_Vbp_1 := Vbp_7.out.cell 1 _ rfl
    have c_Vbp_2 := Vbp_7.out.cell 2 _ rfl
    have lt_Vbp := Vbp_7.out.lt
    have c_Vxp_0 := Vxp_7.out.cell 0 _ rfl
    have c_Vxp_1 := Vxp_7.out.cell 1 _ rfl
    have c_Vxp_2 := Vxp_7.out.cell 2 _ rfl
    have lt_Vxp := Vxp_7.out.lt
    go_wp2
    go_ret
    exact ⟨rfl, B7.out⟩
  · simp only [if_neg htp] at SZ
    have HS0 := Lib.hid SZ
    clear SZ hwfp
    have B0 := Lib.hid (Below.refl w0.heap.size w0)
    go_enter Try.func4, Try.ntmps4
    go_wp2_with fail
    refine (Calls.mono (HS0.out _ (hp.below (B0.out.trans (((Below.refl w0.heap.size w0).alloc (by first | (simp; done) | (simp; omega)) (Obj.cells #[Value.bool z0p, Value.int .i64 z1p, Value.slice A2p x2p.length c2p] 24)).mono B0.out.size))))) ?_
    rintro e w1 ⟨rfl, b1⟩
    have hs1 : (w0.alloc (Obj.cells #[Value.bool z0p, Value.int .i64 z1p, Value.slice A2p x2p.length c2p] 24)).heap.size ≤ w1.heap.size := b1.size
    simp only [World.size_alloc] at hs1
    have d1 : Below w0.heap.size w0 w1 := ((Below.refl w0.heap.size w0).alloc (by first | (simp; done) | (simp; omega)) (Obj.cells #[Value.bool z0p, Value.int .i64 z1p, Value.slice A2p x2p.length c2p] 24)).trans (b1.mono (show w0.heap.size ≤ (w0.alloc (Obj.cells #[Value.bool z0p, Value.int .i64 z1p, Value.slice A2p x2p.length c2p] 24)).heap.size by first | exact Nat.le_refl _ | (simp; done) | (simp; omega)))
    have B1 := Lib.hid (B0.out.trans (d1.mono B0.out.size))
    have Vbp_1 := Lib.hid ((Lvar.new w0 #[Value.bool z0p, Value.int .i64 z1p, Value.slice A2p x2p.length c2p] 24).below b1)
    clear b1 d1
    have c_Vbp_0 := Vbp_1.out.cell 0 _ rfl
    have c_Vbp_1 := Vbp_1.out.cell 1 _ rfl
    have c_Vbp_2 := Vbp_1.out.cell 2 _ rfl
    have lt_Vbp := Vbp_1.out.lt
    go_wp2
    go_ret
    exact ⟨rfl, B1.out⟩

set_option maxRecDepth 100000 in
theorem lifted (os : Os) (started : os.Started) (H : Type) (enc : TypeId × Value → H) :
    ReturnsInHanded {} Try.checked os 4 .any (Rows.fnExactSizeOfSpec.pre6 enc Try.prog Try.f4 Rows.fnExactSizeOfRow.domain false) (Rows.fnExactSizeOfSpec.post enc Try.prog Try.f4 false true false false) := by
  refine returnsInHanded_of_change (C := Try.checked) Frame.own started (by kernel_rfl) Try.func4
    (ChangeSpec.witness6 (enc := enc) (C := Try.checked) false ⟨#[], #[.agg #[.bool false, .int .i64 0, .slice none 0 0]], []⟩ 8 (by kernel_rfl) (by kernel_rfl) (by kernel_rfl) (by kernel_rfl)) ?_
  intro W base args ds gs before hval0 hW _ _
  have hW' := hW
  have hval : ∀ (j : Nat) t v, Try.f4.params[j]? = some t → args[j]? = some v → Value.okWide Try.prog W .any base t v := hval0
  obtain ⟨p, q, hA0, hV, rfl, hfz, hnd⟩ := hW
  have hA : DataW.TrodAll enc Try.prog W 0 (fun _ => true) true Try.f4.params.toList args.toList ds p := hA0
  rw [Try.params4] at hA hval
  obtain ⟨v0, d0, rfl, rfl, h0⟩ := trodAll_one hA
  have hlt := fun x hx => hW'.lt x hx
  obtain ⟨rfl, rfl⟩ := trodVars_none hV
  obtain ⟨z0p, z1p, A2p, c2p, x2p, rfl, hrp, hwp⟩ := Frame.openU_Value (W := W) (hval 0 24 v0 rfl rfl) h0 (fun x hx => hlt x (by simp [hx]))
  refine (walk z0p z1p A2p c2p x2p W hrp hwp).mono fun e W' ⟨he, hb⟩ => ?_
  subst he
  exact ⟨_, rfl, Frame.law_post (tb := 4) Frame.laidOut (by kernel_rfl) (by kernel_rfl) (by kernel_rfl) Try.underlying4 hW' rfl hb⟩

theorem proved : Rows.FnExactSizeOfSaid :=
  OpenClaim.holds_of_wide 4 Try.f4 rfl rfl rfl rfl rfl rfl rfl ⟨rfl, rfl, rfl, rfl, rfl⟩ rfl rfl rfl rfl rfl (by kernel_rfl) Try.func4 (by kernel_rfl)
    (of_decide_eq_true (by kernel_rfl)) (by unfold Func.isWrapper; first | (rw [if_pos (by decide +kernel)]; kernel_rfl) | (rw [if_neg (by decide +kernel)]; exact ⟨rfl, rfl⟩))
    (fun os started H enc _ => lifted os started H enc)
end LawSizeOf
end Go.Proofs.Ytgpjgjjadhmkhaa
