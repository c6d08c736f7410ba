import Derived.Test.YtnbgmhlhbcoicaaRows
import Derived.Test.YtnbgmhlhbcoicaaFrame
import Derived.Test.YtnbgmhlhbcoicaaFrameSys
import Derived.Test.YtnbgmhlhbcoicaaFrameLin
import Derived.Test.YtnbgmhlhbcoicaaSysOwn
import Derived.Test.YtnbgmhlhbcoicaaFarK
import Derived.Test.YtnbgmhlhbcoicaaLinK
import Derived.Test.YtnbgmhlhbcoicaaFarkCheck2
import Derived.Test.YtnbgmhlhbcoicaaFarkSpec2
import Derived.Deep.RegionHeld3
import Derived.SliceStrings
/- At every argument, impl.CheckEmpty answers as its model and writes nothing into its arguments: the law FnExactCheckEmpty returns true. There is no condition. -/
namespace Go.Proofs.Ytnbgmhlhbcoicaa
open Go.ChangeShapes Go.WideShapes Go.ChangeAt Go.RowKit
open Go.ChangeMaps (open_string shut_string)
namespace LawCheckEmpty
theorem isLin : Frame.IsLin Try.prog 46 3 27 :=
  ⟨⟨_, _, Try.underlying46, rfl, rfl, rfl, rfl⟩, Try.underlying3, Try.underlying27, by kernel_rfl, by kernel_rfl, by kernel_rfl⟩

open RowK LinM FarkM
set_option maxHeartbeats 4000000 in
set_option maxRecDepth 100000 in
theorem walk (ny : Int) (Ay : Option Addr) (cy : Nat) (y : List (Int × List Int)) (Av : Option Addr) (cv : Nat) (v : List Int) (w0 : World) (hy : SysK.Arg w0 Ay y.length cy y) (hleny : y.length ≤ 9223372036854775807) (hwfy : ∀ x ∈ y, Frame.WfLin x) (hv : Row 0 w0.heap.size w0 Av (IntK.iv v)) :
    Calls Try.prog 8 #[.agg #[.int .i64 ny, .slice Ay y.length cy], .slice Av v.length cv] w0 fun e w' => e = .returned (.bool true) ∧ Below w0.heap.size w0 w' := by
  by_cases htv : v.length ≤ 1048576
  · have hnv : v.length ≤ 1000000000 := by omega
    have SZ := fun W (h : SysK.Arg W Ay y.length cy y) => SysK.size ny Ay cy 1048576 y W h (by omega) hleny (fun x hx => (hwfy x hx).2.1)
    unfold IntK.leftOf at SZ
    by_cases hty : Mem.linsSize y ≤ 1048576
    · simp only [if_pos hty] at SZ
      have HS0 := Lib.hid SZ
      have hny : Mem.linsSize y ≤ 1000000000 := by omega
      clear SZ hleny hwfy
      have B0 := Lib.hid (Below.refl w0.heap.size w0)
      go_enter Try.func8, Try.ntmps8
      go_wp2_with fail
      refine (Calls.mono (HS0.out _ (hy.below (B0.out.trans (((Below.refl w0.heap.size w0).alloc (by first | (simp; done) | (simp; omega)) (Obj.cells #[Value.int .i64 ny, Value.slice Ay y.length cy] 52)).mono B0.out.size))))) ?_
      rintro e w1 ⟨rfl, b1⟩
      have hs1 : (w0.alloc (Obj.cells #[Value.int .i64 ny, Value.slice Ay y.length cy] 52)).heap.size ≤ w1.heap.size := b1.size
      simp only [World.size_alloc] at hs1
      have d1 : Below w0.heap.size w0 w1 := ((Below.refl w0.heap.size w0).alloc (by first | (simp; done) | (simp; omega)) (Obj.cells #[Value.int .i64 ny, Value.slice Ay y.length cy] 52)).trans (b1.mono (show w0.heap.size ≤ (w0.alloc (Obj.cells #[Value.int .i64 ny, Value.slice Ay y.length cy] 52)).heap.size by first | exact Nat.le_refl _ | (simp; done) | (simp; omega)))
      have B1 := Lib.hid (B0.out.trans (d1.mono B0.out.size))
      have Vby_1 := Lib.hid ((Lvar.new w0 #[Value.int .i64 ny, Value.slice Ay y.length cy] 52).below b1)
      clear b1 d1
      have c_Vby_0 := Vby_1.out.cell 0 _ rfl
      have c_Vby_1 := Vby_1.out.cell 1 _ rfl
      have lt_Vby := Vby_1.out.lt
      go_wp2_with fail
      refine (Calls.mono (SysK.copy ny Ay cy y _ (hy.below B1.out) hny)) ?_
      rintro e w2 ⟨Ty, rfl, oty, b2⟩
      have Oty := Lib.hid (show SysK.Own (w1.heap.size) w2.heap.size w2 Ty y.length y.length y from oty)
      have hs2 : w1.heap.size ≤ w2.heap.size := b2.size
      have d2 : Below w1.heap.size w1 w2 := (Below.refl w1.heap.size w1).trans (b2.mono (show w1.heap.size ≤ w1.heap.size by first | exact Nat.le_refl _ | (simp; done) | (simp; omega)))
      have B2 := Lib.hid (B1.out.trans (d2.mono B1.out.size))
      have Vby_2 := Lib.hid (Vby_1.out.below d2)
      clear Vby_1 c_Vby_0 c_Vby_1 lt_Vby b2 d2
      have c_Vby_0 := Vby_2.out.cell 0 _ rfl
      have c_Vby_1 := Vby_2.out.cell 1 _ rfl
      have lt_Vby := Vby_2.out.lt
      go_wp2_with fail
      refine (Calls.mono (IntK.copy 0 w0.heap.size Av cv v _ (hv.below B2.out) hnv)) ?_
      rintro e w3 ⟨Tv, rfl, rtv, ftv, b3⟩
      have Otv := Lib.hid (show IntK.Own (w2.heap.size) w3.heap.size w3 Tv v from ⟨rtv, ftv⟩)
      have hs3 : w2.heap.size ≤ w3.heap.size := b3.size
      have d3 : Below w2.heap.size w2 w3 := (Below.refl w2.heap.size w2).trans (b3.mono (show w2.heap.size ≤ w2.heap.size by first | exact Nat.le_refl _ | (simp; done) | (simp; omega)))
      have B3 := Lib.hid (B2.out.trans (d3.mono B2.out.size))
      have Vby_3 := Lib.hid (Vby_2.out.below d3)
      have Oty_3 := Lib.hid (Oty.out.below d3)
      clear Vby_2 Oty c_Vby_0 c_Vby_1 lt_Vby b3 d3
      have c_Vby_0 := Vby_3.out.cell 0 _ rfl
      have c_Vby_1 := Vby_3.out.cell 1 _ rfl
      have lt_Vby := Vby_3.out.lt
      go_wp2_with fail
      refine (Calls.mono (FarkS.checkEmpty _ _ ny Ty Tv y.length v.length y v _ Oty_3.out.arg hny Otv.out.1 hnv)) ?_
      rintro e w4 ⟨rfl, b4⟩
      have hs4 : w3.heap.size ≤ w4.heap.size := b4.size
      have d4 : Below w3.heap.size w3 w4 := (Below.refl w3.heap.size w3).trans (b4.mono (show w3.heap.size ≤ w3.heap.size by first | exact Nat.le_refl _ | (simp; done) | (simp; omega)))
      have B4 := Lib.hid (B3.out.trans (d4.mono B3.out.size))
      have Vby_4 := Lib.hid (Vby_3.out.below d4)
      have Oty_4 := Lib.hid (Oty_3.out.below d4)
      have Otv_4 := Lib.hid (Otv.out.below d4)
      clear Vby_3 Oty_3 Otv c_Vby_0 c_Vby_1 lt_Vby b4 d4
      clear Oty_4
      clear Otv_4
      have c_Vby_0 := Vby_4.out.cell 0 _ rfl
      have c_Vby_1 := Vby_4.out.cell 1 _ rfl
      have lt_Vby := Vby_4.out.lt
      go_wp2_with fail
      refine (Calls.mono (SysK.copy ny Ay cy y _ (hy.below B4.out) hny)) ?_
      rintro e w5 ⟨Xy, rfl, oxy, b5⟩
      have Oxy := Lib.hid (show SysK.Own (w4.heap.size) w5.heap.size w5 Xy y.length y.length y from oxy)
      have hs5 : w4.heap.size ≤ w5.heap.size := b5.size
      have d5 : Below w4.heap.size w4 w5 := (Below.refl w4.heap.size w4).trans (b5.mono (show w4.heap.size ≤ w4.heap.size by first | exact Nat.le_refl _ | (simp; done) | (simp; omega)))
      have B5 := Lib.hid (B4.out.trans (d5.mono B4.out.size))
      have Vby_5 := Lib.hid (Vby_4.out.below d5)
      clear Vby_4 c_Vby_0 c_Vby_1 lt_Vby b5 d5
      have c_Vby_0 := Vby_5.out.cell 0 _ rfl
      have c_Vby_1 := Vby_5.out.cell 1 _ rfl
      have lt_Vby := Vby_5.out.lt
      go_wp2_with fail
      refine (Calls.mono (IntK.copy 0 w0.heap.size Av cv v _ (hv.below (B5.out.trans (((Below.refl w5.heap.size w5).alloc (by first | (simp; done) | (simp; omega)) (Obj.cells #[Value.int .i64 ny, Value.slice Xy y.length y.length] 26)).mono B5.out.size))) hnv)) ?_
      rintro e w6 ⟨Xv, rfl, rxv, fxv, b6⟩
      simp only [World.size_alloc] at rxv
      have Oxv := Lib.hid (show IntK.Own (w5.heap.size + 1) w6.heap.size w6 Xv v from ⟨rxv, fxv⟩)
      have hs6 : (w5.alloc (Obj.cells #[Value.int .i64 ny, Value.slice Xy y.length y.length] 26)).heap.size ≤ w6.heap.size := b6.size
      simp only [World.size_alloc] at hs6
      have d6 : Below w5.heap.size w5 w6 := ((Below.refl w5.heap.size w5).alloc (by first | (simp; done) | (simp; omega)) (Obj.cells #[Value.int .i64 ny, Value.slice Xy y.length y.length] 26)).trans (b6.mono (show w5.heap.size ≤ (w5.alloc (Obj.cells #[Value.int .i64 ny, Value.slice Xy y.length y.length] 26)).heap.size by first | exact Nat.le_refl _ | (simp; done) | (simp; omega)))
      have B6 := Lib.hid (B5.out.trans (d6.mono B5.out.size))
      have Vby_6 := Lib.hid (Vby_5.out.below d6)
      have Oxy_6 := Lib.hid (Oxy.out.below d6)
      have Vxy_6 := Lib.hid ((Lvar.new w5 #[Value.int .i64 ny, Value.slice Xy y.length y.length] 26).below b6)
      clear Vby_5 Oxy c_Vby_0 c_Vby_1 lt_Vby b6 d6
      have c_Vby_0 := Vby_6.out.cell 0 _ rfl
      have c_Vby_1 := Vby_6.out.cell 1 _ rfl
      have lt_Vby := Vby_6.out.lt
      have c_Vxy_0 := Vxy_6.out.cell 0 _ rfl
      have c_Vxy_1 := Vxy_6.out.cell 1 _ rfl
      have lt_Vxy := Vxy_6.out.lt
      go_wp2_with fail
      refine (Calls.mono (FarkI.checkEmpty _ _ ny Xy Xv y.length v.length y v _ Oxy_6.out.arg hny Oxv.out.1 hnv)) ?_
      rintro e w7 ⟨rfl, b7⟩
      have hs7 : w6.heap.size ≤ w7.heap.size := b7.size
      have d7 : Below w6.heap.size w6 w7 := (Below.refl w6.heap.size w6).trans (b7.mono (show w6.heap.size ≤ w6.heap.size by first | exact Nat.le_refl _ | (simp; done) | (simp; omega)))
      have B7 := Lib.hid (B6.out.trans (d7.mono B6.out.size))
      have Vby_7 := Lib.hid (Vby_6.out.below d7)
      have Oxy_7 := Lib.hid (Oxy_6.out.below d7)
      have Vxy_7 := Lib.hid (Vxy_6.out.below d7)
      have Oxv_7 := Lib.hid (Oxv.out.below d7)
      clear Vby_6 Oxy_6 Vxy_6 Oxv c_Vby_0 c_Vby_1 lt_Vby c_Vxy_0 c_Vxy_1 lt_Vxy b7 d7
      have c_Vby_0 := Vby_7.out.cell 0 _ rfl
      have c_Vby_1 := Vby_7.out.cell 1 _ rfl
      have lt_Vby := Vby_7.out.lt
      have c_Vxy_0 := Vxy_7.out.cell 0 _ rfl
      have c_Vxy_1 := Vxy_7.out.cell 1 _ rfl
      have lt_Vxy := Vxy_7.out.lt
      go_wp2_with fail
      go_region_held3 (fun w' => w'.cell? ⟨w5.heap.size, 0, none⟩ = some (Value.int .i64 ny) ∧ w'.cell? ⟨w5.heap.size, 1, none⟩ = some (Value.slice Xy y.length y.length) ∧ w'.cell? ⟨w0.heap.size, 0, none⟩ = some (Value.int .i64 ny) ∧ w'.cell? ⟨w0.heap.size, 1, none⟩ = some (Value.slice Ay y.length cy))
        (first | exact ⟨(((Vxy_7.out.below (Below.refl _ _).drew).below b8).below b9).cell 0 _ rfl, (((Vxy_7.out.below (Below.refl _ _).drew).below b8).below b9).cell 1 _ rfl, (((Vby_7.out.below (Below.refl _ _).drew).below b8).below b9).cell 0 _ rfl, (((Vby_7.out.below (Below.refl _ _).drew).below b8).below b9).cell 1 _ rfl⟩ | exact ⟨((Vxy_7.out.below (Below.refl _ _).drew).below b8).cell 0 _ rfl, ((Vxy_7.out.below (Below.refl _ _).drew).below b8).cell 1 _ rfl, ((Vby_7.out.below (Below.refl _ _).drew).below b8).cell 0 _ rfl, ((Vby_7.out.below (Below.refl _ _).drew).below b8).cell 1 _ rfl⟩ | go_keep)
        (first
          | (go_at_call 31; refine (Calls.mono (SysK.copy ny Ay cy y _ (hy.below B7.out.drew) hny)) ?_; rintro e w8 ⟨C7, rfl, oc7, b8⟩)
          | (go_at_call 33; refine (Calls.mono (SysK.eq_same ny Xy C7 y.length y.length y _ ((Oxy_7.out.below (Below.refl _ _).drew).below b8).arg oc7.arg hny)) ?_; rintro e w9 ⟨rfl, b9⟩))
      have h8 : w7.heap.size ≤ w8.heap.size := b8.size
      have h9 : w8.heap.size ≤ w9.heap.size := b9.size
      have d9 : Below w7.heap.size w7 w9 := (((Below.refl w7.heap.size w7).drew.trans (b8.mono (show w7.heap.size ≤ w7.heap.size by omega))).trans (b9.mono (show w7.heap.size ≤ w8.heap.size by omega)))
      have hs9 := d9.size
      have B9 := Lib.hid (B7.out.trans (d9.mono B7.out.size))
      have Vby_9 := Lib.hid (Vby_7.out.below d9)
      have Oxy_9 := Lib.hid (Oxy_7.out.below d9)
      have Vxy_9 := Lib.hid (Vxy_7.out.below d9)
      have Oxv_9 := Lib.hid (Oxv_7.out.below d9)
      clear Vby_7 Oxy_7 Vxy_7 Oxv_7 c_Vby_0 c_Vby_1 lt_Vby c_Vxy_0 c_Vxy_1 lt_Vxy b8 h8 b9 h9 d9
      clear oc7
      have c_Vby_0 := Vby_9.out.cell 0 _ rfl
      have c_Vby_1 := Vby_9.out.cell 1 _ rfl
      have lt_Vby := Vby_9.out.lt
      have c_Vxy_0 := Vxy_9.out.cell 0 _ rfl
      have c_Vxy_1 := Vxy_9.out.cell 1 _ rfl
      have lt_Vxy := Vxy_9.out.lt
      go_wp2_with fail
      refine (Calls.mono (IntK.copy 0 w0.heap.size Av cv v _ (hv.below B9.out) hnv)) ?_
      rintro e w10 ⟨Ev, rfl, rexv, fexv, b10⟩
      have hs10 : w9.heap.size ≤ w10.heap.size := b10.size
      have d10 : Below w9.heap.size w9 w10 := (Below.refl w9.heap.size w9).trans (b10.mono (show w9.heap.size ≤ w9.heap.size by first | exact Nat.le_refl _ | (simp; done) | (simp; omega)))
      have B10 := Lib.hid (B9.out.trans (d10.mono B9.out.size))
      have Vby_10 := Lib.hid (Vby_9.out.below d10)
      have Oxy_10 := Lib.hid (Oxy_9.out.below d10)
      have Vxy_10 := Lib.hid (Vxy_9.out.below d10)
      have Oxv_10 := Lib.hid (Oxv_9.out.below d10)
      clear Vby_9 Oxy_9 Vxy_9 Oxv_9 c_Vby_0 c_Vby_1 lt_Vby c_Vxy_0 c_Vxy_1 lt_Vxy b10 d10
      have c_Vby_0 := Vby_10.out.cell 0 _ rfl
      have c_Vby_1 := Vby_10.out.cell 1 _ rfl
      have lt_Vby := Vby_10.out.lt
      have c_Vxy_0 := Vxy_10.out.cell 0 _ rfl
      have c_Vxy_1 := Vxy_10.out.cell 1 _ rfl
      have lt_Vxy := Vxy_10.out.lt
      go_wp2_with fail
      refine (Calls.mono (IntK.eq_same _ _ _ _ Xv Ev v.length v.length v _ Oxv_10.out.1 rexv (by omega))) ?_
      rintro e w11 ⟨rfl, b11⟩
      have hs11 : w10.heap.size ≤ w11.heap.size := b11.size
      have d11 : Below w10.heap.size w10 w11 := (Below.refl w10.heap.size w10).trans (b11.mono (show w10.heap.size ≤ w10.heap.size by first | exact Nat.le_refl _ | (simp; done) | (simp; omega)))
      have B11 := Lib.hid (B10.out.trans (d11.mono B10.out.size))
      have Vby_11 := Lib.hid (Vby_10.out.below d11)
      have Oxy_11 := Lib.hid (Oxy_10.out.below d11)
      have Vxy_11 := Lib.hid (Vxy_10.out.below d11)
      have Oxv_11 := Lib.hid (Oxv_10.out.below d11)
      clear Vby_10 Oxy_10 Vxy_10 Oxv_10 c_Vby_0 c_Vby_1 lt_Vby c_Vxy_0 c_Vxy_1 lt_Vxy b11 d11
      have c_Vby_0 := Vby_11.out.cell 0 _ rfl
      have c_Vby_1 := Vby_11.out.cell 1 _ rfl
      have lt_Vby := Vby_11.out.lt
      have c_Vxy_0 := Vxy_11.out.cell 0 _ rfl
      have c_Vxy_1 := Vxy_11.out.cell 1 _ rfl
      have lt_Vxy := Vxy_11.out.lt
      go_wp2
      go_ret
      exact ⟨rfl, B11.out⟩
    · simp only [if_neg hty] at SZ
      have HS0 := Lib.hid SZ
      clear SZ hleny hwfy
      have B0 := Lib.hid (Below.refl w0.heap.size w0)
      go_enter Try.func8, Try.ntmps8
      go_wp2_with fail
      refine (Calls.mono (HS0.out _ (hy.below (B0.out.trans (((Below.refl w0.heap.size w0).alloc (by first | (simp; done) | (simp; omega)) (Obj.cells #[Value.int .i64 ny, Value.slice Ay y.length cy] 52)).mono B0.out.size))))) ?_
      rintro e w1 ⟨rfl, b1⟩
      have hs1 : (w0.alloc (Obj.cells #[Value.int .i64 ny, Value.slice Ay y.length cy] 52)).heap.size ≤ w1.heap.size := b1.size
      simp only [World.size_alloc] at hs1
      have d1 : Below w0.heap.size w0 w1 := ((Below.refl w0.heap.size w0).alloc (by first | (simp; done) | (simp; omega)) (Obj.cells #[Value.int .i64 ny, Value.slice Ay y.length cy] 52)).trans (b1.mono (show w0.heap.size ≤ (w0.alloc (Obj.cells #[Value.int .i64 ny, Value.slice Ay y.length cy] 52)).heap.size by first | exact Nat.le_refl _ | (simp; done) | (simp; omega)))
      have B1 := Lib.hid (B0.out.trans (d1.mono B0.out.size))
      have Vby_1 := Lib.hid ((Lvar.new w0 #[Value.int .i64 ny, Value.slice Ay y.length cy] 52).below b1)
      clear b1 d1
      have c_Vby_0 := Vby_1.out.cell 0 _ rfl
      have c_Vby_1 := Vby_1.out.cell 1 _ rfl
      have lt_Vby := Vby_1.out.lt
      go_wp2
      go_ret
      exact ⟨rfl, B1.out⟩
  · go_enter Try.func8, Try.ntmps8
    go_wp2
    go_ret
    exact ⟨rfl, ((Below.refl _ _).alloc (by first | (simp; done) | (simp; omega)) _)⟩

set_option maxRecDepth 100000 in
theorem lifted (os : Os) (started : os.Started) (H : Type) (enc : TypeId × Value → H) :
    ReturnsInHanded {} Try.checked os 8 .any (Rows.fnExactCheckEmptySpec.pre6 enc Try.prog Try.f8 Rows.fnExactCheckEmptyRow.domain false) (Rows.fnExactCheckEmptySpec.post enc Try.prog Try.f8 false true false false) := by
  refine returnsInHanded_of_change (C := Try.checked) Frame.own started (by kernel_rfl) Try.func8
    (ChangeSpec.witness6 (enc := enc) (C := Try.checked) false ⟨#[], #[.agg #[.int .i64 0, .slice none 0 0], .slice none 0 0], []⟩ 8 (by kernel_rfl) (by kernel_rfl) (by kernel_rfl) (by kernel_rfl)) ?_
  intro W base args ds gs before hval0 hW _ _
  have hW' := hW
  have hval : ∀ (j : Nat) t v, Try.f8.params[j]? = some t → args[j]? = some v → Value.okWide Try.prog W .any base t v := hval0
  obtain ⟨p, q, hA0, hV, rfl, hfz, hnd⟩ := hW
  have hA : DataW.TrodAll enc Try.prog W 0 (fun _ => true) true Try.f8.params.toList args.toList ds p := hA0
  rw [Try.params8] at hA hval
  obtain ⟨v0, v1, d0, d1, p0, p1, rfl, rfl, rfl, h0, h1⟩ := trodAll_two hA
  have hlt := fun x hx => hW'.lt x hx
  obtain ⟨rfl, rfl⟩ := trodVars_none hV
  obtain ⟨ny, ay, cy, fpy, y, rfl, wy, hry, hly, hsy⟩ := Frame.open_sys (W := W) isLin Try.underlying52 (by kernel_rfl) (by kernel_rfl) rfl rfl Try.underlying50 (hval 0 52 v0 rfl rfl) h0 (fun x hx => hlt x (by simp [hx]))
  obtain ⟨av, cv, v, rfl, hrv, hlv, hsv, hcv⟩ := Frame.open_ints_row (W := W) (by kernel_rfl) Try.underlying27 Try.underlying3 (hval 1 27 v1 rfl rfl) h1 (fun x hx => hlt x (by simp [hx]))
  refine (walk ny ay cy y av cv v W ⟨_, _, hry⟩ hly hsy hrv).mono fun e W' ⟨he, hb⟩ => ?_
  subst he
  exact ⟨_, rfl, Frame.law_post (tb := 4) Frame.laidOut (by kernel_rfl) (by kernel_rfl) (by kernel_rfl) Try.underlying4 hW' rfl hb⟩

theorem proved : Rows.FnExactCheckEmptySaid :=
  OpenClaim.holds_of_wide 8 Try.f8 rfl rfl rfl rfl rfl rfl rfl ⟨rfl, rfl, rfl, rfl, rfl⟩ rfl rfl rfl rfl rfl (by kernel_rfl) Try.func8 (by kernel_rfl)
    (of_decide_eq_true (by kernel_rfl)) (by unfold Func.isWrapper; first | (rw [if_pos (by decide +kernel)]; kernel_rfl) | (rw [if_neg (by decide +kernel)]; exact ⟨rfl, rfl⟩))
    (fun os started H enc _ => lifted os started H enc)
end LawCheckEmpty
end Go.Proofs.Ytnbgmhlhbcoicaa
