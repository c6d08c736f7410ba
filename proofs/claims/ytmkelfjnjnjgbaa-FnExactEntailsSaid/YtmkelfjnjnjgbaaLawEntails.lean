import Derived.Test.YtmkelfjnjnjgbaaRows
import Derived.Test.YtmkelfjnjnjgbaaFrame
import Derived.Test.YtmkelfjnjnjgbaaFrameSys
import Derived.Test.YtmkelfjnjnjgbaaFrameLin
import Derived.Test.YtmkelfjnjnjgbaaSysOwn
import Derived.Test.YtmkelfjnjnjgbaaLinK
import Derived.Test.YtmkelfjnjnjgbaaElimEntS
import Derived.Deep.RegionHeld3
import Derived.SliceStrings
/- At every argument, impl.Entails answers as its model and writes nothing into its arguments: the law FnExactEntails returns true. There is no condition. -/
namespace Go.Proofs.Ytmkelfjnjnjgbaa
open Go.ChangeShapes Go.WideShapes Go.ChangeAt Go.RowKit
open Go.ChangeMaps (open_string shut_string)
namespace LawEntails
theorem isLin : Frame.IsLin Try.prog 48 3 27 :=
  ⟨⟨_, _, Try.underlying48, rfl, rfl, rfl, rfl⟩, Try.underlying3, Try.underlying27, by kernel_rfl, by kernel_rfl, by kernel_rfl⟩

open RowK LinM FarkM
set_option maxHeartbeats 4000000 in
set_option maxRecDepth 100000 in
theorem walk (ny : Int) (Ay : Option Addr) (cy : Nat) (y : List (Int × List Int)) (zl : Int) (Al : Option Addr) (cl : Nat) (l : List Int) (w0 : World) (hy : SysK.Arg w0 Ay y.length cy y) (hleny : y.length ≤ 9223372036854775807) (hwfy : ∀ x ∈ y, Frame.WfLin x) (hl : Row 0 w0.heap.size w0 Al (IntK.iv l)) (hlenl : l.length ≤ 9223372036854775807) :
    Calls Try.prog 6 #[.agg #[.int .i64 ny, .slice Ay y.length cy], .agg #[.int .i64 zl, .slice Al l.length cl]] w0 fun e w' => e = .returned (.bool true) ∧ Below w0.heap.size w0 w' := by
  have SZ := fun W (h : SysK.Arg W Ay y.length cy y) => SysK.size ny Ay cy 1048576 y W h (by omega) hleny (fun x hx => (hwfy x hx).2.1)
  unfold IntK.leftOf at SZ
  by_cases hty : Mem.linsSize y ≤ 1048576
  · simp only [if_pos hty] at SZ
    have HS0 := Lib.hid SZ
    have hny : Mem.linsSize y ≤ 1000000000 := by omega
    clear SZ hleny hwfy
    obtain ⟨t0, hte0⟩ : ∃ t : Nat, t = 1048576 - Mem.linsSize y := ⟨_, rfl⟩
    have htc0 : ((1048576 : Nat) : Int) - ((Mem.linsSize y : Nat) : Int) = (t0 : Int) := by omega
    have htl0 : t0 ≤ 1048576 := by omega
    rw [htc0] at HS0
    clear hte0 htc0
    have SZ := fun W => LinK.size zl Al cl t0 l.length W (by omega) hlenl
    unfold IntK.leftOf at SZ
    by_cases htl : l.length ≤ t0
    · simp only [if_pos htl] at SZ
      have HS1 := Lib.hid SZ
      have hnl : l.length ≤ 1000000000 := by omega
      clear SZ hlenl
      have B0 := Lib.hid (Below.refl w0.heap.size w0)
      go_enter Try.func6, Try.ntmps6
      go_wp2_with fail
      refine (Calls.mono (HS0.out _ (hy.below (B0.out.trans ((((Below.refl w0.heap.size w0).alloc (by first | (simp; done) | (simp; omega)) (Obj.cells #[Value.int .i64 ny, Value.slice Ay y.length cy] 47)).alloc (by first | (simp; done) | (simp; omega)) (Obj.cells #[Value.int .i64 zl, Value.slice Al l.length cl] 48)).mono B0.out.size))))) ?_
      rintro e w1 ⟨rfl, b1⟩
      have hs1 : ((w0.alloc (Obj.cells #[Value.int .i64 ny, Value.slice Ay y.length cy] 47)).alloc (Obj.cells #[Value.int .i64 zl, Value.slice Al l.length cl] 48)).heap.size ≤ w1.heap.size := b1.size
      simp only [World.size_alloc] at hs1
      have d1 : Below w0.heap.size w0 w1 := (((Below.refl w0.heap.size w0).alloc (by first | (simp; done) | (simp; omega)) (Obj.cells #[Value.int .i64 ny, Value.slice Ay y.length cy] 47)).alloc (by first | (simp; done) | (simp; omega)) (Obj.cells #[Value.int .i64 zl, Value.slice Al l.length cl] 48)).trans (b1.mono (show w0.heap.size ≤ ((w0.alloc (Obj.cells #[Value.int .i64 ny, Value.slice Ay y.length cy] 47)).alloc (Obj.cells #[Value.int .i64 zl, Value.slice Al l.length cl] 48)).heap.size by first | exact Nat.le_refl _ | (simp; done) | (simp; omega)))
      have B1 := Lib.hid (B0.out.trans (d1.mono B0.out.size))
      have Vby_1 := Lib.hid (((Lvar.new w0 #[Value.int .i64 ny, Value.slice Ay y.length cy] 47).alloc (Obj.cells #[Value.int .i64 zl, Value.slice Al l.length cl] 48)).below b1)
      have Vbl_1 := Lib.hid ((Lvar.new (w0.alloc (Obj.cells #[Value.int .i64 ny, Value.slice Ay y.length cy] 47)) #[Value.int .i64 zl, Value.slice Al l.length cl] 48).below b1)
      simp only [World.size_alloc] at Vbl_1
      clear b1 d1
      have c_Vby_0 := Vby_1.out.cell 0 _ rfl
      have c_Vby_1 := Vby_1.out.cell 1 _ rfl
      have lt_Vby := Vby_1.out.lt
      have c_Vbl_0 := Vbl_1.out.cell 0 _ rfl
      have c_Vbl_1 := Vbl_1.out.cell 1 _ rfl
      have lt_Vbl := Vbl_1.out.lt
      go_wp2_with fail
      refine (Calls.mono (HS1.out _)) ?_
      rintro e w2 ⟨rfl, b2⟩
      have hs2 : w1.heap.size ≤ w2.heap.size := b2.size
      have d2 : Below w1.heap.size w1 w2 := (Below.refl w1.heap.size w1).trans (b2.mono (show w1.heap.size ≤ w1.heap.size by first | exact Nat.le_refl _ | (simp; done) | (simp; omega)))
      have B2 := Lib.hid (B1.out.trans (d2.mono B1.out.size))
      have Vby_2 := Lib.hid (Vby_1.out.below d2)
      have Vbl_2 := Lib.hid (Vbl_1.out.below d2)
      clear Vby_1 Vbl_1 c_Vby_0 c_Vby_1 lt_Vby c_Vbl_0 c_Vbl_1 lt_Vbl b2 d2
      have c_Vby_0 := Vby_2.out.cell 0 _ rfl
      have c_Vby_1 := Vby_2.out.cell 1 _ rfl
      have lt_Vby := Vby_2.out.lt
      have c_Vbl_0 := Vbl_2.out.cell 0 _ rfl
      have c_Vbl_1 := Vbl_2.out.cell 1 _ rfl
      have lt_Vbl := Vbl_2.out.lt
      go_wp2_with fail
      go_region_held3 (fun w' => w'.cell? ⟨w0.heap.size, 0, none⟩ = some (Value.int .i64 ny) ∧ w'.cell? ⟨w0.heap.size, 1, none⟩ = some (Value.slice Ay y.length cy) ∧ w'.cell? ⟨w0.heap.size + 1, 0, none⟩ = some (Value.int .i64 zl) ∧ w'.cell? ⟨w0.heap.size + 1, 1, none⟩ = some (Value.slice Al l.length cl))
        (first | exact ⟨((((Vby_2.out.below (Below.refl _ _).drew).below b3).below b4).below b5).cell 0 _ rfl, ((((Vby_2.out.below (Below.refl _ _).drew).below b3).below b4).below b5).cell 1 _ rfl, ((((Vbl_2.out.below (Below.refl _ _).drew).below b3).below b4).below b5).cell 0 _ rfl, ((((Vbl_2.out.below (Below.refl _ _).drew).below b3).below b4).below b5).cell 1 _ rfl⟩ | exact ⟨(((Vby_2.out.below (Below.refl _ _).drew).below b3).below b4).cell 0 _ rfl, (((Vby_2.out.below (Below.refl _ _).drew).below b3).below b4).cell 1 _ rfl, (((Vbl_2.out.below (Below.refl _ _).drew).below b3).below b4).cell 0 _ rfl, (((Vbl_2.out.below (Below.refl _ _).drew).below b3).below b4).cell 1 _ rfl⟩ | exact ⟨((Vby_2.out.below (Below.refl _ _).drew).below b3).cell 0 _ rfl, ((Vby_2.out.below (Below.refl _ _).drew).below b3).cell 1 _ rfl, ((Vbl_2.out.below (Below.refl _ _).drew).below b3).cell 0 _ rfl, ((Vbl_2.out.below (Below.refl _ _).drew).below b3).cell 1 _ rfl⟩ | go_keep)
        (first
          | (go_at_call 25; refine (Calls.mono (SysK.copy ny Ay cy y _ (hy.below B2.out.drew) hny)) ?_; rintro e w3 ⟨Cy, rfl, oqy, b3⟩)
          | (go_at_call 26; refine (Calls.mono (LinK.copy 0 w0.heap.size zl Al cl l _ (hl.below (B2.out.drew.trans (b3.mono B2.out.size))) hnl)) ?_; rintro e w4 ⟨Cl, rfl, rql, fql, b4⟩)
          | (go_at_call 18; refine (Calls.mono (ElimS.entails _ _ ny Cy Cl y.length l.length y zl l _ (oqy.below b4).arg hny rql hnl)) ?_; rintro e w5 ⟨rfl, b5⟩))
      have h3 : w2.heap.size ≤ w3.heap.size := b3.size
      have h4 : w3.heap.size ≤ w4.heap.size := b4.size
      have h5 : w4.heap.size ≤ w5.heap.size := b5.size
      have d5 : Below w2.heap.size w2 w5 := ((((Below.refl w2.heap.size w2).drew.trans (b3.mono (show w2.heap.size ≤ w2.heap.size by omega))).trans (b4.mono (show w2.heap.size ≤ w3.heap.size by omega))).trans (b5.mono (show w2.heap.size ≤ w4.heap.size by omega)))
      have hs5 := d5.size
      have B5 := Lib.hid (B2.out.trans (d5.mono B2.out.size))
      have Vby_5 := Lib.hid (Vby_2.out.below d5)
      have Vbl_5 := Lib.hid (Vbl_2.out.below d5)
      clear Vby_2 Vbl_2 c_Vby_0 c_Vby_1 lt_Vby c_Vbl_0 c_Vbl_1 lt_Vbl b3 h3 b4 h4 b5 h5 d5
      clear oqy rql fql
      have c_Vby_0 := Vby_5.out.cell 0 _ rfl
      have c_Vby_1 := Vby_5.out.cell 1 _ rfl
      have lt_Vby := Vby_5.out.lt
      have c_Vbl_0 := Vbl_5.out.cell 0 _ rfl
      have c_Vbl_1 := Vbl_5.out.cell 1 _ rfl
      have lt_Vbl := Vbl_5.out.lt
      go_wp2_with fail
      refine (Calls.mono (SysK.copy ny Ay cy y _ (hy.below B5.out) hny)) ?_
      rintro e w6 ⟨Xy, rfl, oxy, b6⟩
      have Oxy := Lib.hid (show SysK.Own (w5.heap.size) w6.heap.size w6 Xy y.length y.length y from oxy)
      have hs6 : w5.heap.size ≤ w6.heap.size := b6.size
      have d6 : Below w5.heap.size w5 w6 := (Below.refl w5.heap.size w5).trans (b6.mono (show w5.heap.size ≤ w5.heap.size by first | exact Nat.le_refl _ | (simp; done) | (simp; omega)))
      have B6 := Lib.hid (B5.out.trans (d6.mono B5.out.size))
      have Vby_6 := Lib.hid (Vby_5.out.below d6)
      have Vbl_6 := Lib.hid (Vbl_5.out.below d6)
      clear Vby_5 Vbl_5 c_Vby_0 c_Vby_1 lt_Vby c_Vbl_0 c_Vbl_1 lt_Vbl b6 d6
      have c_Vby_0 := Vby_6.out.cell 0 _ rfl
      have c_Vby_1 := Vby_6.out.cell 1 _ rfl
      have lt_Vby := Vby_6.out.lt
      have c_Vbl_0 := Vbl_6.out.cell 0 _ rfl
      have c_Vbl_1 := Vbl_6.out.cell 1 _ rfl
      have lt_Vbl := Vbl_6.out.lt
      go_wp2_with fail
      refine (Calls.mono (LinK.copy 0 w0.heap.size zl Al cl l _ (hl.below (B6.out.trans (((Below.refl w6.heap.size w6).alloc (by first | (simp; done) | (simp; omega)) (Obj.cells #[Value.int .i64 ny, Value.slice Xy y.length y.length] 26)).mono B6.out.size))) hnl)) ?_
      rintro e w7 ⟨Xl, rfl, rxl, fxl, b7⟩
      simp only [World.size_alloc] at rxl
      have Oxl := Lib.hid (show IntK.Own (w6.heap.size + 1) w7.heap.size w7 Xl l from ⟨rxl, fxl⟩)
      have hs7 : (w6.alloc (Obj.cells #[Value.int .i64 ny, Value.slice Xy y.length y.length] 26)).heap.size ≤ w7.heap.size := b7.size
      simp only [World.size_alloc] at hs7
      have d7 : Below w6.heap.size w6 w7 := ((Below.refl w6.heap.size w6).alloc (by first | (simp; done) | (simp; omega)) (Obj.cells #[Value.int .i64 ny, Value.slice Xy y.length y.length] 26)).trans (b7.mono (show w6.heap.size ≤ (w6.alloc (Obj.cells #[Value.int .i64 ny, Value.slice Xy y.length y.length] 26)).heap.size by first | exact Nat.le_refl _ | (simp; done) | (simp; omega)))
      have B7 := Lib.hid (B6.out.trans (d7.mono B6.out.size))
      have Vby_7 := Lib.hid (Vby_6.out.below d7)
      have Vbl_7 := Lib.hid (Vbl_6.out.below d7)
      have Oxy_7 := Lib.hid (Oxy.out.below d7)
      have Vxy_7 := Lib.hid ((Lvar.new w6 #[Value.int .i64 ny, Value.slice Xy y.length y.length] 26).below b7)
      clear Vby_6 Vbl_6 Oxy c_Vby_0 c_Vby_1 lt_Vby c_Vbl_0 c_Vbl_1 lt_Vbl b7 d7
      have c_Vby_0 := Vby_7.out.cell 0 _ rfl
      have c_Vby_1 := Vby_7.out.cell 1 _ rfl
      have lt_Vby := Vby_7.out.lt
      have c_Vbl_0 := Vbl_7.out.cell 0 _ rfl
      have c_Vbl_1 := Vbl_7.out.cell 1 _ rfl
      have lt_Vbl := Vbl_7.out.lt
      have c_Vxy_0 := Vxy_7.out.cell 0 _ rfl
      have c_Vxy_1 := Vxy_7.out.cell 1 _ rfl
      have lt_Vxy := Vxy_7.out.lt
      go_wp2_with fail
      refine (Calls.mono (ElimI.entails _ _ ny Xy Xl y.length l.length y zl l _ (Oxy_7.out.below ((Below.refl w7.heap.size w7).alloc (by first | (simp; done) | (simp; omega)) (Obj.cells #[Value.int .i64 zl, Value.slice Xl l.length l.length] 29))).arg hny (Oxl.out.below ((Below.refl w7.heap.size w7).alloc (by first | (simp; done) | (simp; omega)) (Obj.cells #[Value.int .i64 zl, Value.slice Xl l.length l.length] 29))).1 hnl)) ?_
      rintro e w8 ⟨rfl, b8⟩
      have hs8 : (w7.alloc (Obj.cells #[Value.int .i64 zl, Value.slice Xl l.length l.length] 29)).heap.size ≤ w8.heap.size := b8.size
      simp only [World.size_alloc] at hs8
      have d8 : Below w7.heap.size w7 w8 := ((Below.refl w7.heap.size w7).alloc (by first | (simp; done) | (simp; omega)) (Obj.cells #[Value.int .i64 zl, Value.slice Xl l.length l.length] 29)).trans (b8.mono (show w7.heap.size ≤ (w7.alloc (Obj.cells #[Value.int .i64 zl, Value.slice Xl l.length l.length] 29)).heap.size by first | exact Nat.le_refl _ | (simp; done) | (simp; omega)))
      have B8 := Lib.hid (B7.out.trans (d8.mono B7.out.size))
      have Vby_8 := Lib.hid (Vby_7.out.below d8)
      have Vbl_8 := Lib.hid (Vbl_7.out.below d8)
      have Oxy_8 := Lib.hid (Oxy_7.out.below d8)
      have Vxy_8 := Lib.hid (Vxy_7.out.below d8)
      have Oxl_8 := Lib.hid (Oxl.out.below d8)
      have Vxl_8 := Lib.hid ((Lvar.new w7 #[Value.int .i64 zl, Value.slice Xl l.length l.length] 29).below b8)
      clear Vby_7 Vbl_7 Oxy_7 Vxy_7 Oxl c_Vby_0 c_Vby_1 lt_Vby c_Vbl_0 c_Vbl_1 lt_Vbl c_Vxy_0 c_Vxy_1 lt_Vxy b8 d8
      have c_Vby_0 := Vby_8.out.cell 0 _ rfl
      have c_Vby_1 := Vby_8.out.cell 1 _ rfl
      have lt_Vby := Vby_8.out.lt
      have c_Vbl_0 := Vbl_8.out.cell 0 _ rfl
      have c_Vbl_1 := Vbl_8.out.cell 1 _ rfl
      have lt_Vbl := Vbl_8.out.lt
      have c_Vxy_0 := Vxy_8.out.cell 0 _ rfl
      have c_Vxy_1 := Vxy_8.out.cell 1 _ rfl
      have lt_Vxy := Vxy_8.out.lt
      have c_Vxl_0 := Vxl_8.out.cell 0 _ rfl
      have c_Vxl_1 := Vxl_8.out.cell 1 _ rfl
      have lt_Vxl := Vxl_8.out.lt
      go_wp2_with fail
      go_region_held3 (fun w' => w'.cell? ⟨w6.heap.size, 0, none⟩ = some (Value.int .i64 ny) ∧ w'.cell? ⟨w6.heap.size, 1, none⟩ = some (Value.slice Xy y.length y.length) ∧ w'.cell? ⟨w0.heap.size, 0, none⟩ = some (Value.int .i64 ny) ∧ w'.cell? ⟨w0.heap.size, 1, none⟩ = some (Value.slice Ay y.length cy))
        (first | exact ⟨(((Vxy_8.out.below (Below.refl _ _).drew).below b9).below b10).cell 0 _ rfl, (((Vxy_8.out.below (Below.refl _ _).drew).below b9).below b10).cell 1 _ rfl, (((Vby_8.out.below (Below.refl _ _).drew).below b9).below b10).cell 0 _ rfl, (((Vby_8.out.below (Below.refl _ _).drew).below b9).below b10).cell 1 _ rfl⟩ | exact ⟨((Vxy_8.out.below (Below.refl _ _).drew).below b9).cell 0 _ rfl, ((Vxy_8.out.below (Below.refl _ _).drew).below b9).cell 1 _ rfl, ((Vby_8.out.below (Below.refl _ _).drew).below b9).cell 0 _ rfl, ((Vby_8.out.below (Below.refl _ _).drew).below b9).cell 1 _ rfl⟩ | go_keep)
        (first
          | (go_at_call 25; refine (Calls.mono (SysK.copy ny Ay cy y _ (hy.below B8.out.drew) hny)) ?_; rintro e w9 ⟨C8, rfl, oc8, b9⟩)
          | (go_at_call 28; refine (Calls.mono (SysK.eq_same ny Xy C8 y.length y.length y _ ((Oxy_8.out.below (Below.refl _ _).drew).below b9).arg oc8.arg hny)) ?_; rintro e w10 ⟨rfl, b10⟩))
      have h9 : w8.heap.size ≤ w9.heap.size := b9.size
      have h10 : w9.heap.size ≤ w10.heap.size := b10.size
      have d10 : Below w8.heap.size w8 w10 := (((Below.refl w8.heap.size w8).drew.trans (b9.mono (show w8.heap.size ≤ w8.heap.size by omega))).trans (b10.mono (show w8.heap.size ≤ w9.heap.size by omega)))
      have hs10 := d10.size
      have B10 := Lib.hid (B8.out.trans (d10.mono B8.out.size))
      have Vby_10 := Lib.hid (Vby_8.out.below d10)
      have Vbl_10 := Lib.hid (Vbl_8.out.below d10)
      have Oxy_10 := Lib.hid (Oxy_8.out.below d10)
      have Vxy_10 := Lib.hid (Vxy_8.out.below d10)
      have Oxl_10 := Lib.hid (Oxl_8.out.below d10)
      have Vxl_10 := Lib.hid (Vxl_8.out.below d10)
      clear Vby_8 Vbl_8 Oxy_8 Vxy_8 Oxl_8 Vxl_8 c_Vby_0 c_Vby_1 lt_Vby c_Vbl_0 c_Vbl_1 lt_Vbl c_Vxy_0 c_Vxy_1 lt_Vxy c_Vxl_0 c_Vxl_1 lt_Vxl b9 h9 b10 h10 d10
      clear oc8
      have c_Vby_0 := Vby_10.out.cell 0 _ rfl
      have c_Vby_1 := Vby_10.out.cell 1 _ rfl
      have lt_Vby := Vby_10.out.lt
      have c_Vbl_0 := Vbl_10.out.cell 0 _ rfl
      have c_Vbl_1 := Vbl_10.out.cell 1 _ rfl
      have lt_Vbl := Vbl_10.out.lt
      have c_Vxy_0 := Vxy_10.out.cell 0 _ rfl
      have c_Vxy_1 := Vxy_10.out.cell 1 _ rfl
      have lt_Vxy := Vxy_10.out.lt
      have c_Vxl_0 := Vxl_10.out.cell 0 _ rfl
      have c_Vxl_1 := Vxl_10.out.cell 1 _ rfl
      have lt_Vxl := Vxl_10.out.lt
      go_wp2_with fail
      go_region_held3 (fun w' => w'.cell? ⟨w7.heap.size, 0, none⟩ = some (Value.int .i64 zl) ∧ w'.cell? ⟨w7.heap.size, 1, none⟩ = some (Value.slice Xl l.length l.length) ∧ w'.cell? ⟨w0.heap.size + 1, 0, none⟩ = some (Value.int .i64 zl) ∧ w'.cell? ⟨w0.heap.size + 1, 1, none⟩ = some (Value.slice Al l.length cl))
        (first | exact ⟨(((Vxl_10.out.below (Below.refl _ _).drew).below b11).below b12).cell 0 _ rfl, (((Vxl_10.out.below (Below.refl _ _).drew).below b11).below b12).cell 1 _ rfl, (((Vbl_10.out.below (Below.refl _ _).drew).below b11).below b12).cell 0 _ rfl, (((Vbl_10.out.below (Below.refl _ _).drew).below b11).below b12).cell 1 _ rfl⟩ | exact ⟨((Vxl_10.out.below (Below.refl _ _).drew).below b11).cell 0 _ rfl, ((Vxl_10.out.below (Below.refl _ _).drew).below b11).cell 1 _ rfl, ((Vbl_10.out.below (Below.refl _ _).drew).below b11).cell 0 _ rfl, ((Vbl_10.out.below (Below.refl _ _).drew).below b11).cell 1 _ rfl⟩ | go_keep)
        (first
          | (go_at_call 26; refine (Calls.mono (LinK.copy 0 w0.heap.size zl Al cl l _ (hl.below B10.out.drew) hnl)) ?_; rintro e w11 ⟨C10, rfl, rc10, fc10, b11⟩)
          | (go_at_call 29; refine (Calls.mono (LinK.eq_same _ _ _ _ zl Xl C10 l.length l.length l _ ((Oxl_10.out.below (Below.refl _ _).drew).below b11).1 rc10 (by omega))) ?_; rintro e w12 ⟨rfl, b12⟩))
      have h11 : w10.heap.size ≤ w11.heap.size := b11.size
      have h12 : w11.heap.size ≤ w12.heap.size := b12.size
      have d12 : Below w10.heap.size w10 w12 := (((Below.refl w10.heap.size w10).drew.trans (b11.mono (show w10.heap.size ≤ w10.heap.size by omega))).trans (b12.mono (show w10.heap.size ≤ w11.heap.size by omega)))
      have hs12 := d12.size
      have B12 := Lib.hid (B10.out.trans (d12.mono B10.out.size))
      have Vby_12 := Lib.hid (Vby_10.out.below d12)
      have Vbl_12 := Lib.hid (Vbl_10.out.below d12)
      have Oxy_12 := Lib.hid (Oxy_10.out.below d12)
      have Vxy_12 := Lib.hid (Vxy_10.out.below d12)
      have Oxl_12 := Lib.hid (Oxl_10.out.below d12)
      have Vxl_12 := Lib.hid (Vxl_10.out.below d12)
      clear Vby_10 Vbl_10 Oxy_10 Vxy_10 Oxl_10 Vxl_10 c_Vby_0 c_Vby_1 lt_Vby c_Vbl_0 c_Vbl_1 lt_Vbl c_Vxy_0 c_Vxy_1 lt_Vxy c_Vxl_0 c_Vxl_1 lt_Vxl b11 h11 b12 h12 d12
      clear rc10 fc10
      have c_Vby_0 := Vby_12.out.cell 0 _ rfl
      have c_Vby_1 := Vby_12.out.cell 1 _ rfl
      have lt_Vby := Vby_12.out.lt
      have c_Vbl_0 := Vbl_12.out.cell 0 _ rfl
      have c_Vbl_1 := Vbl_12.out.cell 1 _ rfl
      have lt_Vbl := Vbl_12.out.lt
      have c_Vxy_0 := Vxy_12.out.cell 0 _ rfl
      have c_Vxy_1 := Vxy_12.out.cell 1 _ rfl
      have lt_Vxy := Vxy_12.out.lt
      have c_Vxl_0 := Vxl_12.out.cell 0 _ rfl
      have c_Vxl_1 := Vxl_12.out.cell 1 _ rfl
      have lt_Vxl := Vxl_12.out.lt
      go_wp2
      go_ret
      exact ⟨rfl, B12.out⟩
    · simp only [if_neg htl] at SZ
      have HS1 := Lib.hid SZ
      clear SZ hlenl
      have B0 := Lib.hid (Below.refl w0.heap.size w0)
      go_enter Try.func6, Try.ntmps6
      go_wp2_with fail
      refine (Calls.mono (HS0.out _ (hy.below (B0.out.trans ((((Below.refl w0.heap.size w0).alloc (by first | (simp; done) | (simp; omega)) (Obj.cells #[Value.int .i64 ny, Value.slice Ay y.length cy] 47)).alloc (by first | (simp; done) | (simp; omega)) (Obj.cells #[Value.int .i64 zl, Value.slice Al l.length cl] 48)).mono B0.out.size))))) ?_
      rintro e w1 ⟨rfl, b1⟩
      have hs1 : ((w0.alloc (Obj.cells #[Value.int .i64 ny, Value.slice Ay y.length cy] 47)).alloc (Obj.cells #[Value.int .i64 zl, Value.slice Al l.length cl] 48)).heap.size ≤ w1.heap.size := b1.size
      simp only [World.size_alloc] at hs1
      have d1 : Below w0.heap.size w0 w1 := (((Below.refl w0.heap.size w0).alloc (by first | (simp; done) | (simp; omega)) (Obj.cells #[Value.int .i64 ny, Value.slice Ay y.length cy] 47)).alloc (by first | (simp; done) | (simp; omega)) (Obj.cells #[Value.int .i64 zl, Value.slice Al l.length cl] 48)).trans (b1.mono (show w0.heap.size ≤ ((w0.alloc (Obj.cells #[Value.int .i64 ny, Value.slice Ay y.length cy] 47)).alloc (Obj.cells #[Value.int .i64 zl, Value.slice Al l.length cl] 48)).heap.size by first | exact Nat.le_refl _ | (simp; done) | (simp; omega)))
      have B1 := Lib.hid (B0.out.trans (d1.mono B0.out.size))
      have Vby_1 := Lib.hid (((Lvar.new w0 #[Value.int .i64 ny, Value.slice Ay y.length cy] 47).alloc (Obj.cells #[Value.int .i64 zl, Value.slice Al l.length cl] 48)).below b1)
      have Vbl_1 := Lib.hid ((Lvar.new (w0.alloc (Obj.cells #[Value.int .i64 ny, Value.slice Ay y.length cy] 47)) #[Value.int .i64 zl, Value.slice Al l.length cl] 48).below b1)
      simp only [World.size_alloc] at Vbl_1
      clear b1 d1
      have c_Vby_0 := Vby_1.out.cell 0 _ rfl
      have c_Vby_1 := Vby_1.out.cell 1 _ rfl
      have lt_Vby := Vby_1.out.lt
      have c_Vbl_0 := Vbl_1.out.cell 0 _ rfl
      have c_Vbl_1 := Vbl_1.out.cell 1 _ rfl
      have lt_Vbl := Vbl_1.out.lt
      go_wp2_with fail
      refine (Calls.mono (HS1.out _)) ?_
      rintro e w2 ⟨rfl, b2⟩
      have hs2 : w1.heap.size ≤ w2.heap.size := b2.size
      have d2 : Below w1.heap.size w1 w2 := (Below.refl w1.heap.size w1).trans (b2.mono (show w1.heap.size ≤ w1.heap.size by first | exact Nat.le_refl _ | (simp; done) | (simp; omega)))
      have B2 := Lib.hid (B1.out.trans (d2.mono B1.out.size))
      have Vby_2 := Lib.hid (Vby_1.out.below d2)
      have Vbl_2 := Lib.hid (Vbl_1.out.below d2)
      clear Vby_1 Vbl_1 c_Vby_0 c_Vby_1 lt_Vby c_Vbl_0 c_Vbl_1 lt_Vbl b2 d2
      have c_Vby_0 := Vby_2.out.cell 0 _ rfl
      have c_Vby_1 := Vby_2.out.cell 1 _ rfl
      have lt_Vby := Vby_2.out.lt
      have c_Vbl_0 := Vbl_2.out.cell 0 _ rfl
      have c_Vbl_1 := Vbl_2.out.cell 1 _ rfl
      have lt_Vbl := Vbl_2.out.lt
      go_wp2
      go_ret
      exact ⟨rfl, B2.out⟩
  · simp only [if_neg hty] at SZ
    have HS0 := Lib.hid SZ
    clear SZ hleny hwfy
    have B0 := Lib.hid (Below.refl w0.heap.size w0)
    go_enter Try.func6, Try.ntmps6
    go_wp2_with fail
    refine (Calls.mono (HS0.out _ (hy.below (B0.out.trans ((((Below.refl w0.heap.size w0).alloc (by first | (simp; done) | (simp; omega)) (Obj.cells #[Value.int .i64 ny, Value.slice Ay y.length cy] 47)).alloc (by first | (simp; done) | (simp; omega)) (Obj.cells #[Value.int .i64 zl, Value.slice Al l.length cl] 48)).mono B0.out.size))))) ?_
    rintro e w1 ⟨rfl, b1⟩
    have hs1 : ((w0.alloc (Obj.cells #[Value.int .i64 ny, Value.slice Ay y.length cy] 47)).alloc (Obj.cells #[Value.int .i64 zl, Value.slice Al l.length cl] 48)).heap.size ≤ w1.heap.size := b1.size
    simp only [World.size_alloc] at hs1
    have d1 : Below w0.heap.size w0 w1 := (((Below.refl w0.heap.size w0).alloc (by first | (simp; done) | (simp; omega)) (Obj.cells #[Value.int .i64 ny, Value.slice Ay y.length cy] 47)).alloc (by first | (simp; done) | (simp; omega)) (Obj.cells #[Value.int .i64 zl, Value.slice Al l.length cl] 48)).trans (b1.mono (show w0.heap.size ≤ ((w0.alloc (Obj.cells #[Value.int .i64 ny, Value.slice Ay y.length cy] 47)).alloc (Obj.cells #[Value.int .i64 zl, Value.slice Al l.length cl] 48)).heap.size by first | exact Nat.le_refl _ | (simp; done) | (simp; omega)))
    have B1 := Lib.hid (B0.out.trans (d1.mono B0.out.size))
    have Vby_1 := Lib.hid (((Lvar.new w0 #[Value.int .i64 ny, Value.slice Ay y.length cy] 47).alloc (Obj.cells #[Value.int .i64 zl, Value.slice Al l.length cl] 48)).below b1)
    have Vbl_1 := Lib.hid ((Lvar.new (w0.alloc (Obj.cells #[Value.int .i64 ny, Value.slice Ay y.length cy] 47)) #[Value.int .i64 zl, Value.slice Al l.length cl] 48).below b1)
    simp only [World.size_alloc] at Vbl_1
    clear b1 d1
    have c_Vby_0 := Vby_1.out.cell 0 _ rfl
    have c_Vby_1 := Vby_1.out.cell 1 _ rfl
    have lt_Vby := Vby_1.out.lt
    have c_Vbl_0 := Vbl_1.out.cell 0 _ rfl
    have c_Vbl_1 := Vbl_1.out.cell 1 _ rfl
    have lt_Vbl := Vbl_1.out.lt
    go_wp2
    go_ret
    exact ⟨rfl, B1.out⟩

set_option maxRecDepth 100000 in
theorem lifted (os : Os) (started : os.Started) (H : Type) (enc : TypeId × Value → H) :
    ReturnsInHanded {} Try.checked os 6 .any (Rows.fnExactEntailsSpec.pre6 enc Try.prog Try.f6 Rows.fnExactEntailsRow.domain false) (Rows.fnExactEntailsSpec.post enc Try.prog Try.f6 false true false false) := by
  refine returnsInHanded_of_change (C := Try.checked) Frame.own started (by kernel_rfl) Try.func6
    (ChangeSpec.witness6 (enc := enc) (C := Try.checked) false ⟨#[], #[.agg #[.int .i64 0, .slice none 0 0], .agg #[.int .i64 0, .slice none 0 0]], []⟩ 8 (by kernel_rfl) (by kernel_rfl) (by kernel_rfl) (by kernel_rfl)) ?_
  intro W base args ds gs before hval0 hW _ _
  have hW' := hW
  have hval : ∀ (j : Nat) t v, Try.f6.params[j]? = some t → args[j]? = some v → Value.okWide Try.prog W .any base t v := hval0
  obtain ⟨p, q, hA0, hV, rfl, hfz, hnd⟩ := hW
  have hA : DataW.TrodAll enc Try.prog W 0 (fun _ => true) true Try.f6.params.toList args.toList ds p := hA0
  rw [Try.params6] at hA hval
  obtain ⟨v0, v1, d0, d1, p0, p1, rfl, rfl, rfl, h0, h1⟩ := trodAll_two hA
  have hlt := fun x hx => hW'.lt x hx
  obtain ⟨rfl, rfl⟩ := trodVars_none hV
  obtain ⟨ny, ay, cy, fpy, y, rfl, wy, hry, hly, hsy⟩ := Frame.open_sys (W := W) isLin Try.underlying47 (by kernel_rfl) (by kernel_rfl) rfl rfl Try.underlying45 (hval 0 47 v0 rfl rfl) h0 (fun x hx => hlt x (by simp [hx]))
  obtain ⟨zl, al, cl, l, rfl, wl, hrl, hll, hsl, hcl⟩ := Frame.open_lin (W := W) Try.underlying48 (by kernel_rfl) (by kernel_rfl) rfl rfl Try.underlying3 Try.underlying27 (by kernel_rfl) (hval 1 48 v1 rfl rfl) h1 (fun x hx => hlt x (by simp [hx]))
  refine (walk ny ay cy y zl al cl l W ⟨_, _, hry⟩ hly hsy hrl hll).mono fun e W' ⟨he, hb⟩ => ?_
  subst he
  exact ⟨_, rfl, Frame.law_post (tb := 4) Frame.laidOut (by kernel_rfl) (by kernel_rfl) (by kernel_rfl) Try.underlying4 hW' rfl hb⟩

theorem proved : Rows.FnExactEntailsSaid :=
  OpenClaim.holds_of_wide 6 Try.f6 rfl rfl rfl rfl rfl rfl rfl ⟨rfl, rfl, rfl, rfl, rfl⟩ rfl rfl rfl rfl rfl (by kernel_rfl) Try.func6 (by kernel_rfl)
    (of_decide_eq_true (by kernel_rfl)) (by unfold Func.isWrapper; first | (rw [if_pos (by decide +kernel)]; kernel_rfl) | (rw [if_neg (by decide +kernel)]; exact ⟨rfl, rfl⟩))
    (fun os started H enc _ => lifted os started H enc)
end LawEntails
end Go.Proofs.Ytmkelfjnjnjgbaa
