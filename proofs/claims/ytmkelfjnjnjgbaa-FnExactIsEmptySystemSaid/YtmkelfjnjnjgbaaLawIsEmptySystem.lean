import Derived.Test.YtmkelfjnjnjgbaaRows
import Derived.Test.YtmkelfjnjnjgbaaFrame
import Derived.Test.YtmkelfjnjnjgbaaFrameSys
import Derived.Test.YtmkelfjnjnjgbaaFrameLin
import Derived.Test.YtmkelfjnjnjgbaaSysOwn
import Derived.Test.YtmkelfjnjnjgbaaLinK
import Derived.Test.YtmkelfjnjnjgbaaElimEntS
import Derived.Deep.RegionHeld3
import Derived.SliceStrings
/- At every argument, impl.IsEmptySystem answers as its model and writes nothing into its arguments: the law FnExactIsEmptySystem returns true. There is no condition. -/
namespace Go.Proofs.Ytmkelfjnjnjgbaa
open Go.ChangeShapes Go.WideShapes Go.ChangeAt Go.RowKit
open Go.ChangeMaps (open_string shut_string)
namespace LawIsEmptySystem
theorem isLin : Frame.IsLin Try.prog 48 3 27 :=
  ⟨⟨_, _, Try.underlying48, rfl, rfl, rfl, rfl⟩, Try.underlying3, Try.underlying27, by kernel_rfl, by kernel_rfl, by kernel_rfl⟩

open RowK LinM FarkM
set_option maxHeartbeats 4000000 in
set_option maxRecDepth 100000 in
theorem walk (ny : Int) (Ay : Option Addr) (cy : Nat) (y : List (Int × List Int)) (w0 : World) (hy : SysK.Arg w0 Ay y.length cy y) (hleny : y.length ≤ 9223372036854775807) (hwfy : ∀ x ∈ y, Frame.WfLin x) :
    Calls Try.prog 7 #[.agg #[.int .i64 ny, .slice Ay y.length cy]] w0 fun e w' => e = .returned (.bool true) ∧ Below w0.heap.size w0 w' := by
  have SZ := fun W (h : SysK.Arg W Ay y.length cy y) => SysK.size ny Ay cy 1048576 y W h (by omega) hleny (fun x hx => (hwfy x hx).2.1)
  unfold IntK.leftOf at SZ
  by_cases hty : Mem.linsSize y ≤ 1048576
  · simp only [if_pos hty] at SZ
    have HS0 := Lib.hid SZ
    have hny : Mem.linsSize y ≤ 1000000000 := by omega
    clear SZ hleny hwfy
    have B0 := Lib.hid (Below.refl w0.heap.size w0)
    go_enter Try.func7, Try.ntmps7
    go_wp2_with fail
    refine (Calls.mono (HS0.out _ (hy.below (B0.out.trans (((Below.refl w0.heap.size w0).alloc (by first | (simp; done) | (simp; omega)) (Obj.cells #[Value.int .i64 ny, Value.slice Ay y.length cy] 47)).mono B0.out.size))))) ?_
    rintro e w1 ⟨rfl, b1⟩
    have hs1 : (w0.alloc (Obj.cells #[Value.int .i64 ny, Value.slice Ay y.length cy] 47)).heap.size ≤ w1.heap.size := b1.size
    simp only [World.size_alloc] at hs1
    have d1 : Below w0.heap.size w0 w1 := ((Below.refl w0.heap.size w0).alloc (by first | (simp; done) | (simp; omega)) (Obj.cells #[Value.int .i64 ny, Value.slice Ay y.length cy] 47)).trans (b1.mono (show w0.heap.size ≤ (w0.alloc (Obj.cells #[Value.int .i64 ny, Value.slice Ay y.length cy] 47)).heap.size by first | exact Nat.le_refl _ | (simp; done) | (simp; omega)))
    have B1 := Lib.hid (B0.out.trans (d1.mono B0.out.size))
    have Vby_1 := Lib.hid ((Lvar.new w0 #[Value.int .i64 ny, Value.slice Ay y.length cy] 47).below b1)
    clear b1 d1
    have c_Vby_0 := Vby_1.out.cell 0 _ rfl
    have c_Vby_1 := Vby_1.out.cell 1 _ rfl
    have lt_Vby := Vby_1.out.lt
    go_wp2_with fail
    refine (Calls.mono (SysK.copy ny Ay cy y _ (hy.below B1.out) hny)) ?_
    rintro e w2 ⟨Ty, rfl, oty, b2⟩
    have Oty := Lib.hid (show SysK.Own (w1.heap.size) w2.heap.size w2 Ty y.length y.length y from oty)
    have hs2 : w1.heap.size ≤ w2.heap.size := b2.size
    have d2 : Below w1.heap.size w1 w2 := (Below.refl w1.heap.size w1).trans (b2.mono (show w1.heap.size ≤ w1.heap.size by first | exact Nat.le_refl _ | (simp; done) | (simp; omega)))
    have B2 := Lib.hid (B1.out.trans (d2.mono B1.out.size))
    have Vby_2 := Lib.hid (Vby_1.out.below d2)
    clear Vby_1 c_Vby_0 c_Vby_1 lt_Vby b2 d2
    have c_Vby_0 := Vby_2.out.cell 0 _ rfl
    have c_Vby_1 := Vby_2.out.cell 1 _ rfl
    have lt_Vby := Vby_2.out.lt
    go_wp2_with fail
    refine (Calls.mono (ElimS.isEmpty ny Ty y.length y _ Oty.out.arg hny)) ?_
    rintro e w3 ⟨rfl, b3⟩
    have hs3 : w2.heap.size ≤ w3.heap.size := b3.size
    have d3 : Below w2.heap.size w2 w3 := (Below.refl w2.heap.size w2).trans (b3.mono (show w2.heap.size ≤ w2.heap.size by first | exact Nat.le_refl _ | (simp; done) | (simp; omega)))
    have B3 := Lib.hid (B2.out.trans (d3.mono B2.out.size))
    have Vby_3 := Lib.hid (Vby_2.out.below d3)
    have Oty_3 := Lib.hid (Oty.out.below d3)
    clear Vby_2 Oty c_Vby_0 c_Vby_1 lt_Vby b3 d3
    clear Oty_3
    have c_Vby_0 := Vby_3.out.cell 0 _ rfl
    have c_Vby_1 := Vby_3.out.cell 1 _ rfl
    have lt_Vby := Vby_3.out.lt
    go_wp2_with fail
    refine (Calls.mono (SysK.copy ny Ay cy y _ (hy.below B3.out) hny)) ?_
    rintro e w4 ⟨Xy, rfl, oxy, b4⟩
    have Oxy := Lib.hid (show SysK.Own (w3.heap.size) w4.heap.size w4 Xy y.length y.length y from oxy)
    have hs4 : w3.heap.size ≤ w4.heap.size := b4.size
    have d4 : Below w3.heap.size w3 w4 := (Below.refl w3.heap.size w3).trans (b4.mono (show w3.heap.size ≤ w3.heap.size by first | exact Nat.le_refl _ | (simp; done) | (simp; omega)))
    have B4 := Lib.hid (B3.out.trans (d4.mono B3.out.size))
    have Vby_4 := Lib.hid (Vby_3.out.below d4)
    clear Vby_3 c_Vby_0 c_Vby_1 lt_Vby b4 d4
    have c_Vby_0 := Vby_4.out.cell 0 _ rfl
    have c_Vby_1 := Vby_4.out.cell 1 _ rfl
    have lt_Vby := Vby_4.out.lt
    go_wp2_with fail
    refine (Calls.mono (ElimI.isEmpty ny Xy y.length y _ (Oxy.out.below ((Below.refl w4.heap.size w4).alloc (by first | (simp; done) | (simp; omega)) (Obj.cells #[Value.int .i64 ny, Value.slice Xy y.length y.length] 26))).arg hny)) ?_
    rintro e w5 ⟨rfl, b5⟩
    have hs5 : (w4.alloc (Obj.cells #[Value.int .i64 ny, Value.slice Xy y.length y.length] 26)).heap.size ≤ w5.heap.size := b5.size
    simp only [World.size_alloc] at hs5
    have d5 : Below w4.heap.size w4 w5 := ((Below.refl w4.heap.size w4).alloc (by first | (simp; done) | (simp; omega)) (Obj.cells #[Value.int .i64 ny, Value.slice Xy y.length y.length] 26)).trans (b5.mono (show w4.heap.size ≤ (w4.alloc (Obj.cells #[Value.int .i64 ny, Value.slice Xy y.length y.length] 26)).heap.size by first | exact Nat.le_refl _ | (simp; done) | (simp; omega)))
    have B5 := Lib.hid (B4.out.trans (d5.mono B4.out.size))
    have Vby_5 := Lib.hid (Vby_4.out.below d5)
    have Oxy_5 := Lib.hid (Oxy.out.below d5)
    have Vxy_5 := Lib.hid ((Lvar.new w4 #[Value.int .i64 ny, Value.slice Xy y.length y.length] 26).below b5)
    clear Vby_4 Oxy c_Vby_0 c_Vby_1 lt_Vby b5 d5
    have c_Vby_0 := Vby_5.out.cell 0 _ rfl
    have c_Vby_1 := Vby_5.out.cell 1 _ rfl
    have lt_Vby := Vby_5.out.lt
    have c_Vxy_0 := Vxy_5.out.cell 0 _ rfl
    have c_Vxy_1 := Vxy_5.out.cell 1 _ rfl
    have lt_Vxy := Vxy_5.out.lt
    go_wp2_with fail
    go_region_held3 (fun w' => w'.cell? ⟨w4.heap.size, 0, none⟩ = some (Value.int .i64 ny) ∧ w'.cell? ⟨w4.heap.size, 1, none⟩ = some (Value.slice Xy y.length y.length) ∧ w'.cell? ⟨w0.heap.size, 0, none⟩ = some (Value.int .i64 ny) ∧ w'.cell? ⟨w0.heap.size, 1, none⟩ = some (Value.slice Ay y.length cy))
      (first | exact ⟨(((Vxy_5.out.below (Below.refl _ _).drew).below b6).below b7).cell 0 _ rfl, (((Vxy_5.out.below (Below.refl _ _).drew).below b6).below b7).cell 1 _ rfl, (((Vby_5.out.below (Below.refl _ _).drew).below b6).below b7).cell 0 _ rfl, (((Vby_5.out.below (Below.refl _ _).drew).below b6).below b7).cell 1 _ rfl⟩ | exact ⟨((Vxy_5.out.below (Below.refl _ _).drew).below b6).cell 0 _ rfl, ((Vxy_5.out.below (Below.refl _ _).drew).below b6).cell 1 _ rfl, ((Vby_5.out.below (Below.refl _ _).drew).below b6).cell 0 _ rfl, ((Vby_5.out.below (Below.refl _ _).drew).below b6).cell 1 _ rfl⟩ | go_keep)
      (first
        | (go_at_call 25; refine (Calls.mono (SysK.copy ny Ay cy y _ (hy.below B5.out.drew) hny)) ?_; rintro e w6 ⟨C5, rfl, oc5, b6⟩)
        | (go_at_call 28; refine (Calls.mono (SysK.eq_same ny Xy C5 y.length y.length y _ ((Oxy_5.out.below (Below.refl _ _).drew).below b6).arg oc5.arg hny)) ?_; rintro e w7 ⟨rfl, b7⟩))
    have h6 : w5.heap.size ≤ w6.heap.size := b6.size
    have h7 : w6.heap.size ≤ w7.heap.size := b7.size
    have d7 : Below w5.heap.size w5 w7 := (((Below.refl w5.heap.size w5).drew.trans (b6.mono (show w5.heap.size ≤ w5.heap.size by omega))).trans (b7.mono (show w5.heap.size ≤ w6.heap.size by omega)))
    have hs7 := d7.size
    have B7 := Lib.hid (B5.out.trans (d7.mono B5.out.size))
    have Vby_7 := Lib.hid (Vby_5.out.below d7)
    have Oxy_7 := Lib.hid (Oxy_5.out.below d7)
    have Vxy_7 := Lib.hid (Vxy_5.out.below d7)
    clear Vby_5 Oxy_5 Vxy_5 c_Vby_0 c_Vby_1 lt_Vby c_Vxy_0 c_Vxy_1 lt_Vxy b6 h6 b7 h7 d7
    clear oc5
    have c_Vby_0 := Vby_7.out.cell 0 _ rfl
    have c_Vby_1 := Vby_7.out.cell 1 _ rfl
    have lt_Vby := Vby_7.out.lt
    have c_Vxy_0 := Vxy_7.out.cell 0 _ rfl
    have c_Vxy_1 := Vxy_7.out.cell 1 _ rfl
    have lt_Vxy := Vxy_7.out.lt
    go_wp2
    go_ret
    exact ⟨rfl, B7.out⟩
  · simp only [if_neg hty] at SZ
    have HS0 := Lib.hid SZ
    clear SZ hleny hwfy
    have B0 := Lib.hid (Below.refl w0.heap.size w0)
    go_enter Try.func7, Try.ntmps7
    go_wp2_with fail
    refine (Calls.mono (HS0.out _ (hy.below (B0.out.trans (((Below.refl w0.heap.size w0).alloc (by first | (simp; done) | (simp; omega)) (Obj.cells #[Value.int .i64 ny, Value.slice Ay y.length cy] 47)).mono B0.out.size))))) ?_
    rintro e w1 ⟨rfl, b1⟩
    have hs1 : (w0.alloc (Obj.cells #[Value.int .i64 ny, Value.slice Ay y.length cy] 47)).heap.size ≤ w1.heap.size := b1.size
    simp only [World.size_alloc] at hs1
    have d1 : Below w0.heap.size w0 w1 := ((Below.refl w0.heap.size w0).alloc (by first | (simp; done) | (simp; omega)) (Obj.cells #[Value.int .i64 ny, Value.slice Ay y.length cy] 47)).trans (b1.mono (show w0.heap.size ≤ (w0.alloc (Obj.cells #[Value.int .i64 ny, Value.slice Ay y.length cy] 47)).heap.size by first | exact Nat.le_refl _ | (simp; done) | (simp; omega)))
    have B1 := Lib.hid (B0.out.trans (d1.mono B0.out.size))
    have Vby_1 := Lib.hid ((Lvar.new w0 #[Value.int .i64 ny, Value.slice Ay y.length cy] 47).below b1)
    clear b1 d1
    have c_Vby_0 := Vby_1.out.cell 0 _ rfl
    have c_Vby_1 := Vby_1.out.cell 1 _ rfl
    have lt_Vby := Vby_1.out.lt
    go_wp2
    go_ret
    exact ⟨rfl, B1.out⟩

set_option maxRecDepth 100000 in
theorem lifted (os : Os) (started : os.Started) (H : Type) (enc : TypeId × Value → H) :
    ReturnsInHanded {} Try.checked os 7 .any (Rows.fnExactIsEmptySystemSpec.pre6 enc Try.prog Try.f7 Rows.fnExactIsEmptySystemRow.domain false) (Rows.fnExactIsEmptySystemSpec.post enc Try.prog Try.f7 false true false false) := by
  refine returnsInHanded_of_change (C := Try.checked) Frame.own started (by kernel_rfl) Try.func7
    (ChangeSpec.witness6 (enc := enc) (C := Try.checked) false ⟨#[], #[.agg #[.int .i64 0, .slice none 0 0]], []⟩ 8 (by kernel_rfl) (by kernel_rfl) (by kernel_rfl) (by kernel_rfl)) ?_
  intro W base args ds gs before hval0 hW _ _
  have hW' := hW
  have hval : ∀ (j : Nat) t v, Try.f7.params[j]? = some t → args[j]? = some v → Value.okWide Try.prog W .any base t v := hval0
  obtain ⟨p, q, hA0, hV, rfl, hfz, hnd⟩ := hW
  have hA : DataW.TrodAll enc Try.prog W 0 (fun _ => true) true Try.f7.params.toList args.toList ds p := hA0
  rw [Try.params7] at hA hval
  obtain ⟨v0, d0, rfl, rfl, h0⟩ := trodAll_one hA
  have hlt := fun x hx => hW'.lt x hx
  obtain ⟨rfl, rfl⟩ := trodVars_none hV
  obtain ⟨ny, ay, cy, fpy, y, rfl, wy, hry, hly, hsy⟩ := Frame.open_sys (W := W) isLin Try.underlying47 (by kernel_rfl) (by kernel_rfl) rfl rfl Try.underlying45 (hval 0 47 v0 rfl rfl) h0 (fun x hx => hlt x (by simp [hx]))
  refine (walk ny ay cy y W ⟨_, _, hry⟩ hly hsy).mono fun e W' ⟨he, hb⟩ => ?_
  subst he
  exact ⟨_, rfl, Frame.law_post (tb := 4) Frame.laidOut (by kernel_rfl) (by kernel_rfl) (by kernel_rfl) Try.underlying4 hW' rfl hb⟩

theorem proved : Rows.FnExactIsEmptySystemSaid :=
  OpenClaim.holds_of_wide 7 Try.f7 rfl rfl rfl rfl rfl rfl rfl ⟨rfl, rfl, rfl, rfl, rfl⟩ rfl rfl rfl rfl rfl (by kernel_rfl) Try.func7 (by kernel_rfl)
    (of_decide_eq_true (by kernel_rfl)) (by unfold Func.isWrapper; first | (rw [if_pos (by decide +kernel)]; kernel_rfl) | (rw [if_neg (by decide +kernel)]; exact ⟨rfl, rfl⟩))
    (fun os started H enc _ => lifted os started H enc)
end LawIsEmptySystem
end Go.Proofs.Ytmkelfjnjnjgbaa
