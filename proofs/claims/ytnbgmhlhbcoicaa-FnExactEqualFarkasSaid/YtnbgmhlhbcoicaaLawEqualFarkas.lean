import Derived.Test.YtnbgmhlhbcoicaaRows
import Derived.Test.YtnbgmhlhbcoicaaFrame
import Derived.Test.YtnbgmhlhbcoicaaFrameSys
import Derived.Test.YtnbgmhlhbcoicaaFrameLin
import Derived.Test.YtnbgmhlhbcoicaaSysOwn
import Derived.Test.YtnbgmhlhbcoicaaFarK
import Derived.Test.YtnbgmhlhbcoicaaLinK
import Derived.Test.YtnbgmhlhbcoicaaFarkCheck2
import Derived.Test.YtnbgmhlhbcoicaaFarkSpec2
import Derived.Deep.RegionHeld3
import Derived.SliceStrings
/- At every argument, impl.EqualFarkas answers as its model and writes nothing into its arguments: the law FnExactEqualFarkas returns true. There is no condition. -/
namespace Go.Proofs.Ytnbgmhlhbcoicaa
open Go.ChangeShapes Go.WideShapes Go.ChangeAt Go.RowKit
open Go.ChangeMaps (open_string shut_string)
namespace LawEqualFarkas
open RowK LinM FarkM
set_option maxHeartbeats 4000000 in
set_option maxRecDepth 100000 in
theorem walk (zl : Int) (Al : Option Addr) (cl : Nat) (l : List Int) (zr : Int) (Ar : Option Addr) (cr : Nat) (r : List Int) (w0 : World) (hl : Row 0 w0.heap.size w0 Al (IntK.iv l)) (hlenl : l.length ≤ 9223372036854775807) (hr : Row 0 w0.heap.size w0 Ar (IntK.iv r)) (hlenr : r.length ≤ 9223372036854775807) :
    Calls Try.prog 9 #[.agg #[.int .i64 zl, .slice Al l.length cl], .agg #[.int .i64 zr, .slice Ar r.length cr]] w0 fun e w' => e = .returned (.bool true) ∧ Below w0.heap.size w0 w' := by
  have SZ := fun W => FarK.size zl Al cl 1048576 l.length W (by omega) hlenl
  unfold IntK.leftOf at SZ
  by_cases htl : l.length ≤ 1048576
  · simp only [if_pos htl] at SZ
    have HS0 := Lib.hid SZ
    have hnl : l.length ≤ 1000000000 := by omega
    clear SZ hlenl
    obtain ⟨t0, hte0⟩ : ∃ t : Nat, t = 1048576 - l.length := ⟨_, rfl⟩
    have htc0 : ((1048576 : Nat) : Int) - ((l.length : Nat) : Int) = (t0 : Int) := by omega
    have htl0 : t0 ≤ 1048576 := by omega
    rw [htc0] at HS0
    clear hte0 htc0
    have SZ := fun W => FarK.size zr Ar cr t0 r.length W (by omega) hlenr
    unfold IntK.leftOf at SZ
    by_cases htr : r.length ≤ t0
    · simp only [if_pos htr] at SZ
      have HS1 := Lib.hid SZ
      have hnr : r.length ≤ 1000000000 := by omega
      clear SZ hlenr
      have B0 := Lib.hid (Below.refl w0.heap.size w0)
      go_enter Try.func9, Try.ntmps9
      go_wp2_with fail
      refine (Calls.mono (HS0.out _)) ?_
      rintro e w1 ⟨rfl, b1⟩
      have hs1 : ((w0.alloc (Obj.cells #[Value.int .i64 zl, Value.slice Al l.length cl] 62)).alloc (Obj.cells #[Value.int .i64 zr, Value.slice Ar r.length cr] 62)).heap.size ≤ w1.heap.size := b1.size
      simp only [World.size_alloc] at hs1
      have d1 : Below w0.heap.size w0 w1 := (((Below.refl w0.heap.size w0).alloc (by first | (simp; done) | (simp; omega)) (Obj.cells #[Value.int .i64 zl, Value.slice Al l.length cl] 62)).alloc (by first | (simp; done) | (simp; omega)) (Obj.cells #[Value.int .i64 zr, Value.slice Ar r.length cr] 62)).trans (b1.mono (show w0.heap.size ≤ ((w0.alloc (Obj.cells #[Value.int .i64 zl, Value.slice Al l.length cl] 62)).alloc (Obj.cells #[Value.int .i64 zr, Value.slice Ar r.length cr] 62)).heap.size by first | exact Nat.le_refl _ | (simp; done) | (simp; omega)))
      have B1 := Lib.hid (B0.out.trans (d1.mono B0.out.size))
      have Vbl_1 := Lib.hid (((Lvar.new w0 #[Value.int .i64 zl, Value.slice Al l.length cl] 62).alloc (Obj.cells #[Value.int .i64 zr, Value.slice Ar r.length cr] 62)).below b1)
      have Vbr_1 := Lib.hid ((Lvar.new (w0.alloc (Obj.cells #[Value.int .i64 zl, Value.slice Al l.length cl] 62)) #[Value.int .i64 zr, Value.slice Ar r.length cr] 62).below b1)
      simp only [World.size_alloc] at Vbr_1
      clear b1 d1
      have c_Vbl_0 := Vbl_1.out.cell 0 _ rfl
      have c_Vbl_1 := Vbl_1.out.cell 1 _ rfl
      have lt_Vbl := Vbl_1.out.lt
      have c_Vbr_0 := Vbr_1.out.cell 0 _ rfl
      have c_Vbr_1 := Vbr_1.out.cell 1 _ rfl
      have lt_Vbr := Vbr_1.out.lt
      go_wp2_with fail
      refine (Calls.mono (HS1.out _)) ?_
      rintro e w2 ⟨rfl, b2⟩
      have hs2 : w1.heap.size ≤ w2.heap.size := b2.size
      have d2 : Below w1.heap.size w1 w2 := (Below.refl w1.heap.size w1).trans (b2.mono (show w1.heap.size ≤ w1.heap.size by first | exact Nat.le_refl _ | (simp; done) | (simp; omega)))
      have B2 := Lib.hid (B1.out.trans (d2.mono B1.out.size))
      have Vbl_2 := Lib.hid (Vbl_1.out.below d2)
      have Vbr_2 := Lib.hid (Vbr_1.out.below d2)
      clear Vbl_1 Vbr_1 c_Vbl_0 c_Vbl_1 lt_Vbl c_Vbr_0 c_Vbr_1 lt_Vbr b2 d2
      have c_Vbl_0 := Vbl_2.out.cell 0 _ rfl
      have c_Vbl_1 := Vbl_2.out.cell 1 _ rfl
      have lt_Vbl := Vbl_2.out.lt
      have c_Vbr_0 := Vbr_2.out.cell 0 _ rfl
      have c_Vbr_1 := Vbr_2.out.cell 1 _ rfl
      have lt_Vbr := Vbr_2.out.lt
      go_wp2_with fail
      go_region_held3 (fun w' => w'.cell? ⟨w0.heap.size, 0, none⟩ = some (Value.int .i64 zl) ∧ w'.cell? ⟨w0.heap.size, 1, none⟩ = some (Value.slice Al l.length cl) ∧ w'.cell? ⟨w0.heap.size + 1, 0, none⟩ = some (Value.int .i64 zr) ∧ w'.cell? ⟨w0.heap.size + 1, 1, none⟩ = some (Value.slice Ar r.length cr))
        (first | exact ⟨((((Vbl_2.out.below (Below.refl _ _).drew).below b3).below b4).below b5).cell 0 _ rfl, ((((Vbl_2.out.below (Below.refl _ _).drew).below b3).below b4).below b5).cell 1 _ rfl, ((((Vbr_2.out.below (Below.refl _ _).drew).below b3).below b4).below b5).cell 0 _ rfl, ((((Vbr_2.out.below (Below.refl _ _).drew).below b3).below b4).below b5).cell 1 _ rfl⟩ | exact ⟨(((Vbl_2.out.below (Below.refl _ _).drew).below b3).below b4).cell 0 _ rfl, (((Vbl_2.out.below (Below.refl _ _).drew).below b3).below b4).cell 1 _ rfl, (((Vbr_2.out.below (Below.refl _ _).drew).below b3).below b4).cell 0 _ rfl, (((Vbr_2.out.below (Below.refl _ _).drew).below b3).below b4).cell 1 _ rfl⟩ | exact ⟨((Vbl_2.out.below (Below.refl _ _).drew).below b3).cell 0 _ rfl, ((Vbl_2.out.below (Below.refl _ _).drew).below b3).cell 1 _ rfl, ((Vbr_2.out.below (Below.refl _ _).drew).below b3).cell 0 _ rfl, ((Vbr_2.out.below (Below.refl _ _).drew).below b3).cell 1 _ rfl⟩ | go_keep)
        (first
          | (go_at_call_of 40 (Value.agg #[Value.int .i64 zl, Value.slice Al l.length cl]); refine (Calls.mono (FarK.copy 0 w0.heap.size zl Al cl l _ (hl.below B2.out.drew) hnl)) ?_; rintro e w3 ⟨Cl, rfl, rql, fql, b3⟩)
          | (go_at_call_of 40 (Value.agg #[Value.int .i64 zr, Value.slice Ar r.length cr]); refine (Calls.mono (FarK.copy 0 w0.heap.size zr Ar cr r _ (hr.below (B2.out.drew.trans (b3.mono B2.out.size))) hnr)) ?_; rintro e w4 ⟨Cr, rfl, rqr, fqr, b4⟩)
          | (go_at_call 42; refine (Calls.mono (FarkS.equal _ _ _ _ zl zr Cl Cr l.length r.length l r _ (rql.below b4) rqr hnl hnr)) ?_; rintro e w5 ⟨rfl, b5⟩))
      have h3 : w2.heap.size ≤ w3.heap.size := b3.size
      have h4 : w3.heap.size ≤ w4.heap.size := b4.size
      have h5 : w4.heap.size ≤ w5.heap.size := b5.size
      have d5 : Below w2.heap.size w2 w5 := ((((Below.refl w2.heap.size w2).drew.trans (b3.mono (show w2.heap.size ≤ w2.heap.size by omega))).trans (b4.mono (show w2.heap.size ≤ w3.heap.size by omega))).trans (b5.mono (show w2.heap.size ≤ w4.heap.size by omega)))
      have hs5 := d5.size
      have B5 := Lib.hid (B2.out.trans (d5.mono B2.out.size))
      have Vbl_5 := Lib.hid (Vbl_2.out.below d5)
      have Vbr_5 := Lib.hid (Vbr_2.out.below d5)
      clear Vbl_2 Vbr_2 c_Vbl_0 c_Vbl_1 lt_Vbl c_Vbr_0 c_Vbr_1 lt_Vbr b3 h3 b4 h4 b5 h5 d5
      clear rql fql rqr fqr
      have c_Vbl_0 := Vbl_5.out.cell 0 _ rfl
      have c_Vbl_1 := Vbl_5.out.cell 1 _ rfl
      have lt_Vbl := Vbl_5.out.lt
      have c_Vbr_0 := Vbr_5.out.cell 0 _ rfl
      have c_Vbr_1 := Vbr_5.out.cell 1 _ rfl
      have lt_Vbr := Vbr_5.out.lt
      go_wp2_with fail
      refine (Calls.mono (FarK.copy 0 w0.heap.size zl Al cl l _ (hl.below B5.out) hnl)) ?_
      rintro e w6 ⟨Xl, rfl, rxl, fxl, b6⟩
      have Oxl := Lib.hid (show IntK.Own (w5.heap.size) w6.heap.size w6 Xl l from ⟨rxl, fxl⟩)
      have hs6 : w5.heap.size ≤ w6.heap.size := b6.size
      have d6 : Below w5.heap.size w5 w6 := (Below.refl w5.heap.size w5).trans (b6.mono (show w5.heap.size ≤ w5.heap.size by first | exact Nat.le_refl _ | (simp; done) | (simp; omega)))
      have B6 := Lib.hid (B5.out.trans (d6.mono B5.out.size))
      have Vbl_6 := Lib.hid (Vbl_5.out.below d6)
      have Vbr_6 := Lib.hid (Vbr_5.out.below d6)
      clear Vbl_5 Vbr_5 c_Vbl_0 c_Vbl_1 lt_Vbl c_Vbr_0 c_Vbr_1 lt_Vbr b6 d6
      have c_Vbl_0 := Vbl_6.out.cell 0 _ rfl
      have c_Vbl_1 := Vbl_6.out.cell 1 _ rfl
      have lt_Vbl := Vbl_6.out.lt
      have c_Vbr_0 := Vbr_6.out.cell 0 _ rfl
      have c_Vbr_1 := Vbr_6.out.cell 1 _ rfl
      have lt_Vbr := Vbr_6.out.lt
      go_wp2_with fail
      refine (Calls.mono (FarK.copy 0 w0.heap.size zr Ar cr r _ (hr.below (B6.out.trans (((Below.refl w6.heap.size w6).alloc (by first | (simp; done) | (simp; omega)) (Obj.cells #[Value.int .i64 zl, Value.slice Xl l.length l.length] 31)).mono B6.out.size))) hnr)) ?_
      rintro e w7 ⟨Xr, rfl, rxr, fxr, b7⟩
      simp only [World.size_alloc] at rxr
      have Oxr := Lib.hid (show IntK.Own (w6.heap.size + 1) w7.heap.size w7 Xr r from ⟨rxr, fxr⟩)
      have hs7 : (w6.alloc (Obj.cells #[Value.int .i64 zl, Value.slice Xl l.length l.length] 31)).heap.size ≤ w7.heap.size := b7.size
      simp only [World.size_alloc] at hs7
      have d7 : Below w6.heap.size w6 w7 := ((Below.refl w6.heap.size w6).alloc (by first | (simp; done) | (simp; omega)) (Obj.cells #[Value.int .i64 zl, Value.slice Xl l.length l.length] 31)).trans (b7.mono (show w6.heap.size ≤ (w6.alloc (Obj.cells #[Value.int .i64 zl, Value.slice Xl l.length l.length] 31)).heap.size by first | exact Nat.le_refl _ | (simp; done) | (simp; omega)))
      have B7 := Lib.hid (B6.out.trans (d7.mono B6.out.size))
      have Vbl_7 := Lib.hid (Vbl_6.out.below d7)
      have Vbr_7 := Lib.hid (Vbr_6.out.below d7)
      have Oxl_7 := Lib.hid (Oxl.out.below d7)
      have Vxl_7 := Lib.hid ((Lvar.new w6 #[Value.int .i64 zl, Value.slice Xl l.length l.length] 31).below b7)
      clear Vbl_6 Vbr_6 Oxl c_Vbl_0 c_Vbl_1 lt_Vbl c_Vbr_0 c_Vbr_1 lt_Vbr b7 d7
      have c_Vbl_0 := Vbl_7.out.cell 0 _ rfl
      have c_Vbl_1 := Vbl_7.out.cell 1 _ rfl
      have lt_Vbl := Vbl_7.out.lt
      have c_Vbr_0 := Vbr_7.out.cell 0 _ rfl
      have c_Vbr_1 := Vbr_7.out.cell 1 _ rfl
      have lt_Vbr := Vbr_7.out.lt
      have c_Vxl_0 := Vxl_7.out.cell 0 _ rfl
      have c_Vxl_1 := Vxl_7.out.cell 1 _ rfl
      have lt_Vxl := Vxl_7.out.lt
      go_wp2_with fail
      refine (Calls.mono (FarkI.equal _ _ _ _ zl zr Xl Xr l.length r.length l r _ (Oxl_7.out.below ((Below.refl w7.heap.size w7).alloc (by first | (simp; done) | (simp; omega)) (Obj.cells #[Value.int .i64 zr, Value.slice Xr r.length r.length] 31))).1 (Oxr.out.below ((Below.refl w7.heap.size w7).alloc (by first | (simp; done) | (simp; omega)) (Obj.cells #[Value.int .i64 zr, Value.slice Xr r.length r.length] 31))).1 hnl hnr)) ?_
      rintro e w8 ⟨rfl, b8⟩
      have hs8 : (w7.alloc (Obj.cells #[Value.int .i64 zr, Value.slice Xr r.length r.length] 31)).heap.size ≤ w8.heap.size := b8.size
      simp only [World.size_alloc] at hs8
      have d8 : Below w7.heap.size w7 w8 := ((Below.refl w7.heap.size w7).alloc (by first | (simp; done) | (simp; omega)) (Obj.cells #[Value.int .i64 zr, Value.slice Xr r.length r.length] 31)).trans (b8.mono (show w7.heap.size ≤ (w7.alloc (Obj.cells #[Value.int .i64 zr, Value.slice Xr r.length r.length] 31)).heap.size by first | exact Nat.le_refl _ | (simp; done) | (simp; omega)))
      have B8 := Lib.hid (B7.out.trans (d8.mono B7.out.size))
      have Vbl_8 := Lib.hid (Vbl_7.out.below d8)
      have Vbr_8 := Lib.hid (Vbr_7.out.below d8)
      have Oxl_8 := Lib.hid (Oxl_7.out.below d8)
      have Vxl_8 := Lib.hid (Vxl_7.out.below d8)
      have Oxr_8 := Lib.hid (Oxr.out.below d8)
      have Vxr_8 := Lib.hid ((Lvar.new w7 #[Value.int .i64 zr, Value.slice Xr r.length r.length] 31).below b8)
      clear Vbl_7 Vbr_7 Oxl_7 Vxl_7 Oxr c_Vbl_0 c_Vbl_1 lt_Vbl c_Vbr_0 c_Vbr_1 lt_Vbr c_Vxl_0 c_Vxl_1 lt_Vxl b8 d8
      have c_Vbl_0 := Vbl_8.out.cell 0 _ rfl
      have c_Vbl_1 := Vbl_8.out.cell 1 _ rfl
      have lt_Vbl := Vbl_8.out.lt
      have c_Vbr_0 := Vbr_8.out.cell 0 _ rfl
      have c_Vbr_1 := Vbr_8.out.cell 1 _ rfl
      have lt_Vbr := Vbr_8.out.lt
      have c_Vxl_0 := Vxl_8.out.cell 0 _ rfl
      have c_Vxl_1 := Vxl_8.out.cell 1 _ rfl
      have lt_Vxl := Vxl_8.out.lt
      have c_Vxr_0 := Vxr_8.out.cell 0 _ rfl
      have c_Vxr_1 := Vxr_8.out.cell 1 _ rfl
      have lt_Vxr := Vxr_8.out.lt
      go_wp2_with fail
      go_region_held3 (fun w' => w'.cell? ⟨w6.heap.size, 0, none⟩ = some (Value.int .i64 zl) ∧ w'.cell? ⟨w6.heap.size, 1, none⟩ = some (Value.slice Xl l.length l.length) ∧ w'.cell? ⟨w0.heap.size, 0, none⟩ = some (Value.int .i64 zl) ∧ w'.cell? ⟨w0.heap.size, 1, none⟩ = some (Value.slice Al l.length cl))
        (first | exact ⟨(((Vxl_8.out.below (Below.refl _ _).drew).below b9).below b10).cell 0 _ rfl, (((Vxl_8.out.below (Below.refl _ _).drew).below b9).below b10).cell 1 _ rfl, (((Vbl_8.out.below (Below.refl _ _).drew).below b9).below b10).cell 0 _ rfl, (((Vbl_8.out.below (Below.refl _ _).drew).below b9).below b10).cell 1 _ rfl⟩ | exact ⟨((Vxl_8.out.below (Below.refl _ _).drew).below b9).cell 0 _ rfl, ((Vxl_8.out.below (Below.refl _ _).drew).below b9).cell 1 _ rfl, ((Vbl_8.out.below (Below.refl _ _).drew).below b9).cell 0 _ rfl, ((Vbl_8.out.below (Below.refl _ _).drew).below b9).cell 1 _ rfl⟩ | go_keep)
        (first
          | (go_at_call 40; refine (Calls.mono (FarK.copy 0 w0.heap.size zl Al cl l _ (hl.below B8.out.drew) hnl)) ?_; rintro e w9 ⟨C8, rfl, rc8, fc8, b9⟩)
          | (go_at_call 41; refine (Calls.mono (FarK.eq_same _ _ _ _ zl Xl C8 l.length l.length l _ ((Oxl_8.out.below (Below.refl _ _).drew).below b9).1 rc8 (by omega))) ?_; rintro e w10 ⟨rfl, b10⟩))
      have h9 : w8.heap.size ≤ w9.heap.size := b9.size
      have h10 : w9.heap.size ≤ w10.heap.size := b10.size
      have d10 : Below w8.heap.size w8 w10 := (((Below.refl w8.heap.size w8).drew.trans (b9.mono (show w8.heap.size ≤ w8.heap.size by omega))).trans (b10.mono (show w8.heap.size ≤ w9.heap.size by omega)))
      have hs10 := d10.size
      have B10 := Lib.hid (B8.out.trans (d10.mono B8.out.size))
      have Vbl_10 := Lib.hid (Vbl_8.out.below d10)
      have Vbr_10 := Lib.hid (Vbr_8.out.below d10)
      have Oxl_10 := Lib.hid (Oxl_8.out.below d10)
      have Vxl_10 := Lib.hid (Vxl_8.out.below d10)
      have Oxr_10 := Lib.hid (Oxr_8.out.below d10)
      have Vxr_10 := Lib.hid (Vxr_8.out.below d10)
      clear Vbl_8 Vbr_8 Oxl_8 Vxl_8 Oxr_8 Vxr_8 c_Vbl_0 c_Vbl_1 lt_Vbl c_Vbr_0 c_Vbr_1 lt_Vbr c_Vxl_0 c_Vxl_1 lt_Vxl c_Vxr_0 c_Vxr_1 lt_Vxr b9 h9 b10 h10 d10
      clear rc8 fc8
      have c_Vbl_0 := Vbl_10.out.cell 0 _ rfl
      have c_Vbl_1 := Vbl_10.out.cell 1 _ rfl
      have lt_Vbl := Vbl_10.out.lt
      have c_Vbr_0 := Vbr_10.out.cell 0 _ rfl
      have c_Vbr_1 := Vbr_10.out.cell 1 _ rfl
      have lt_Vbr := Vbr_10.out.lt
      have c_Vxl_0 := Vxl_10.out.cell 0 _ rfl
      have c_Vxl_1 := Vxl_10.out.cell 1 _ rfl
      have lt_Vxl := Vxl_10.out.lt
      have c_Vxr_0 := Vxr_10.out.cell 0 _ rfl
      have c_Vxr_1 := Vxr_10.out.cell 1 _ rfl
      have lt_Vxr := Vxr_10.out.lt
      go_wp2_with fail
      go_region_held3 (fun w' => w'.cell? ⟨w7.heap.size, 0, none⟩ = some (Value.int .i64 zr) ∧ w'.cell? ⟨w7.heap.size, 1, none⟩ = some (Value.slice Xr r.length r.length) ∧ w'.cell? ⟨w0.heap.size + 1, 0, none⟩ = some (Value.int .i64 zr) ∧ w'.cell? ⟨w0.heap.size + 1, 1, none⟩ = some (Value.slice Ar r.length cr))
        (first | exact ⟨(((Vxr_10.out.below (Below.refl _ _).drew).below b11).below b12).cell 0 _ rfl, (((Vxr_10.out.below (Below.refl _ _).drew).below b11).below b12).cell 1 _ rfl, (((Vbr_10.out.below (Below.refl _ _).drew).below b11).below b12).cell 0 _ rfl, (((Vbr_10.out.below (Below.refl _ _).drew).below b11).below b12).cell 1 _ rfl⟩ | exact ⟨((Vxr_10.out.below (Below.refl _ _).drew).below b11).cell 0 _ rfl, ((Vxr_10.out.below (Below.refl _ _).drew).below b11).cell 1 _ rfl, ((Vbr_10.out.below (Below.refl _ _).drew).below b11).cell 0 _ rfl, ((Vbr_10.out.below (Below.refl _ _).drew).below b11).cell 1 _ rfl⟩ | go_keep)
        (first
          | (go_at_call 40; refine (Calls.mono (FarK.copy 0 w0.heap.size zr Ar cr r _ (hr.below B10.out.drew) hnr)) ?_; rintro e w11 ⟨C10, rfl, rc10, fc10, b11⟩)
          | (go_at_call 41; refine (Calls.mono (FarK.eq_same _ _ _ _ zr Xr C10 r.length r.length r _ ((Oxr_10.out.below (Below.refl _ _).drew).below b11).1 rc10 (by omega))) ?_; rintro e w12 ⟨rfl, b12⟩))
      have h11 : w10.heap.size ≤ w11.heap.size := b11.size
      have h12 : w11.heap.size ≤ w12.heap.size := b12.size
      have d12 : Below w10.heap.size w10 w12 := (((Below.refl w10.heap.size w10).drew.trans (b11.mono (show w10.heap.size ≤ w10.heap.size by omega))).trans (b12.mono (show w10.heap.size ≤ w11.heap.size by omega)))
      have hs12 := d12.size
      have B12 := Lib.hid (B10.out.trans (d12.mono B10.out.size))
      have Vbl_12 := Lib.hid (Vbl_10.out.below d12)
      have Vbr_12 := Lib.hid (Vbr_10.out.below d12)
      have Oxl_12 := Lib.hid (Oxl_10.out.below d12)
      have Vxl_12 := Lib.hid (Vxl_10.out.below d12)
      have Oxr_12 := Lib.hid (Oxr_10.out.below d12)
      have Vxr_12 := Lib.hid (Vxr_10.out.below d12)
      clear Vbl_10 Vbr_10 Oxl_10 Vxl_10 Oxr_10 Vxr_10 c_Vbl_0 c_Vbl_1 lt_Vbl c_Vbr_0 c_Vbr_1 lt_Vbr c_Vxl_0 c_Vxl_1 lt_Vxl c_Vxr_0 c_Vxr_1 lt_Vxr b11 h11 b12 h12 d12
      clear rc10 fc10
      have c_Vbl_0 := Vbl_12.out.cell 0 _ rfl
      have c_Vbl_1 := Vbl_12.out.cell 1 _ rfl
      have lt_Vbl := Vbl_12.out.lt
      have c_Vbr_0 := Vbr_12.out.cell 0 _ rfl
      have c_Vbr_1 := Vbr_12.out.cell 1 _ rfl
      have lt_Vbr := Vbr_12.out.lt
      have c_Vxl_0 := Vxl_12.out.cell 0 _ rfl
      have c_Vxl_1 := Vxl_12.out.cell 1 _ rfl
      have lt_Vxl := Vxl_12.out.lt
      have c_Vxr_0 := Vxr_12.out.cell 0 _ rfl
      have c_Vxr_1 := Vxr_12.out.cell 1 _ rfl
      have lt_Vxr := Vxr_12.out.lt
      go_wp2
      go_ret
      exact ⟨rfl, B12.out⟩
    · simp only [if_neg htr] at SZ
      have HS1 := Lib.hid SZ
      clear SZ hlenr
      have B0 := Lib.hid (Below.refl w0.heap.size w0)
      go_enter Try.func9, Try.ntmps9
      go_wp2_with fail
      refine (Calls.mono (HS0.out _)) ?_
      rintro e w1 ⟨rfl, b1⟩
      have hs1 : ((w0.alloc (Obj.cells #[Value.int .i64 zl, Value.slice Al l.length cl] 62)).alloc (Obj.cells #[Value.int .i64 zr, Value.slice Ar r.length cr] 62)).heap.size ≤ w1.heap.size := b1.size
      simp only [World.size_alloc] at hs1
      have d1 : Below w0.heap.size w0 w1 := (((Below.refl w0.heap.size w0).alloc (by first | (simp; done) | (simp; omega)) (Obj.cells #[Value.int .i64 zl, Value.slice Al l.length cl] 62)).alloc (by first | (simp; done) | (simp; omega)) (Obj.cells #[Value.int .i64 zr, Value.slice Ar r.length cr] 62)).trans (b1.mono (show w0.heap.size ≤ ((w0.alloc (Obj.cells #[Value.int .i64 zl, Value.slice Al l.length cl] 62)).alloc (Obj.cells #[Value.int .i64 zr, Value.slice Ar r.length cr] 62)).heap.size by first | exact Nat.le_refl _ | (simp; done) | (simp; omega)))
      have B1 := Lib.hid (B0.out.trans (d1.mono B0.out.size))
      have Vbl_1 := Lib.hid (((Lvar.new w0 #[Value.int .i64 zl, Value.slice Al l.length cl] 62).alloc (Obj.cells #[Value.int .i64 zr, Value.slice Ar r.length cr] 62)).below b1)
      have Vbr_1 := Lib.hid ((Lvar.new (w0.alloc (Obj.cells #[Value.int .i64 zl, Value.slice Al l.length cl] 62)) #[Value.int .i64 zr, Value.slice Ar r.length cr] 62).below b1)
      simp only [World.size_alloc] at Vbr_1
      clear b1 d1
      have c_Vbl_0 := Vbl_1.out.cell 0 _ rfl
      have c_Vbl_1 := Vbl_1.out.cell 1 _ rfl
      have lt_Vbl := Vbl_1.out.lt
      have c_Vbr_0 := Vbr_1.out.cell 0 _ rfl
      have c_Vbr_1 := Vbr_1.out.cell 1 _ rfl
      have lt_Vbr := Vbr_1.out.lt
      go_wp2_with fail
      refine (Calls.mono (HS1.out _)) ?_
      rintro e w2 ⟨rfl, b2⟩
      have hs2 : w1.heap.size ≤ w2.heap.size := b2.size
      have d2 : Below w1.heap.size w1 w2 := (Below.refl w1.heap.size w1).trans (b2.mono (show w1.heap.size ≤ w1.heap.size by first | exact Nat.le_refl _ | (simp; done) | (simp; omega)))
      have B2 := Lib.hid (B1.out.trans (d2.mono B1.out.size))
      have Vbl_2 := Lib.hid (Vbl_1.out.below d2)
      have Vbr_2 := Lib.hid (Vbr_1.out.below d2)
      clear Vbl_1 Vbr_1 c_Vbl_0 c_Vbl_1 lt_Vbl c_Vbr_0 c_Vbr_1 lt_Vbr b2 d2
      have c_Vbl_0 := Vbl_2.out.cell 0 _ rfl
      have c_Vbl_1 := Vbl_2.out.cell 1 _ rfl
      have lt_Vbl := Vbl_2.out.lt
      have c_Vbr_0 := Vbr_2.out.cell 0 _ rfl
      have c_Vbr_1 := Vbr_2.out.cell 1 _ rfl
      have lt_Vbr := Vbr_2.out.lt
      go_wp2
      go_ret
      exact ⟨rfl, B2.out⟩
  · simp only [if_neg htl] at SZ
    have HS0 := Lib.hid SZ
    clear SZ hlenl
    have B0 := Lib.hid (Below.refl w0.heap.size w0)
    go_enter Try.func9, Try.ntmps9
    go_wp2_with fail
    refine (Calls.mono (HS0.out _)) ?_
    rintro e w1 ⟨rfl, b1⟩
    have hs1 : ((w0.alloc (Obj.cells #[Value.int .i64 zl, Value.slice Al l.length cl] 62)).alloc (Obj.cells #[Value.int .i64 zr, Value.slice Ar r.length cr] 62)).heap.size ≤ w1.heap.size := b1.size
    simp only [World.size_alloc] at hs1
    have d1 : Below w0.heap.size w0 w1 := (((Below.refl w0.heap.size w0).alloc (by first | (simp; done) | (simp; omega)) (Obj.cells #[Value.int .i64 zl, Value.slice Al l.length cl] 62)).alloc (by first | (simp; done) | (simp; omega)) (Obj.cells #[Value.int .i64 zr, Value.slice Ar r.length cr] 62)).trans (b1.mono (show w0.heap.size ≤ ((w0.alloc (Obj.cells #[Value.int .i64 zl, Value.slice Al l.length cl] 62)).alloc (Obj.cells #[Value.int .i64 zr, Value.slice Ar r.length cr] 62)).heap.size by first | exact Nat.le_refl _ | (simp; done) | (simp; omega)))
    have B1 := Lib.hid (B0.out.trans (d1.mono B0.out.size))
    have Vbl_1 := Lib.hid (((Lvar.new w0 #[Value.int .i64 zl, Value.slice Al l.length cl] 62).alloc (Obj.cells #[Value.int .i64 zr, Value.slice Ar r.length cr] 62)).below b1)
    have Vbr_1 := Lib.hid ((Lvar.new (w0.alloc (Obj.cells #[Value.int .i64 zl, Value.slice Al l.length cl] 62)) #[Value.int .i64 zr, Value.slice Ar r.length cr] 62).below b1)
    simp only [World.size_alloc] at Vbr_1
    clear b1 d1
    have c_Vbl_0 := Vbl_1.out.cell 0 _ rfl
    have c_Vbl_1 := Vbl_1.out.cell 1 _ rfl
    have lt_Vbl := Vbl_1.out.lt
    have c_Vbr_0 := Vbr_1.out.cell 0 _ rfl
    have c_Vbr_1 := Vbr_1.out.cell 1 _ rfl
    have lt_Vbr := Vbr_1.out.lt
    go_wp2
    go_ret
    exact ⟨rfl, B1.out⟩

set_option maxRecDepth 100000 in
theorem lifted (os : Os) (started : os.Started) (H : Type) (enc : TypeId × Value → H) :
    ReturnsInHanded {} Try.checked os 9 .any (Rows.fnExactEqualFarkasSpec.pre6 enc Try.prog Try.f9 Rows.fnExactEqualFarkasRow.domain false) (Rows.fnExactEqualFarkasSpec.post enc Try.prog Try.f9 false true false false) := by
  refine returnsInHanded_of_change (C := Try.checked) Frame.own started (by kernel_rfl) Try.func9
    (ChangeSpec.witness6 (enc := enc) (C := Try.checked) false ⟨#[], #[.agg #[.int .i64 0, .slice none 0 0], .agg #[.int .i64 0, .slice none 0 0]], []⟩ 8 (by kernel_rfl) (by kernel_rfl) (by kernel_rfl) (by kernel_rfl)) ?_
  intro W base args ds gs before hval0 hW _ _
  have hW' := hW
  have hval : ∀ (j : Nat) t v, Try.f9.params[j]? = some t → args[j]? = some v → Value.okWide Try.prog W .any base t v := hval0
  obtain ⟨p, q, hA0, hV, rfl, hfz, hnd⟩ := hW
  have hA : DataW.TrodAll enc Try.prog W 0 (fun _ => true) true Try.f9.params.toList args.toList ds p := hA0
  rw [Try.params9] at hA hval
  obtain ⟨v0, v1, d0, d1, p0, p1, rfl, rfl, rfl, h0, h1⟩ := trodAll_two hA
  have hlt := fun x hx => hW'.lt x hx
  obtain ⟨rfl, rfl⟩ := trodVars_none hV
  obtain ⟨zl, al, cl, l, rfl, wl, hrl, hll, hsl, hcl⟩ := Frame.open_lin (W := W) Try.underlying62 (by kernel_rfl) (by kernel_rfl) rfl rfl Try.underlying3 Try.underlying27 (by kernel_rfl) (hval 0 62 v0 rfl rfl) h0 (fun x hx => hlt x (by simp [hx]))
  obtain ⟨zr, ar, cr, r, rfl, wr, hrr, hlr, hsr, hcr⟩ := Frame.open_lin (W := W) Try.underlying62 (by kernel_rfl) (by kernel_rfl) rfl rfl Try.underlying3 Try.underlying27 (by kernel_rfl) (hval 1 62 v1 rfl rfl) h1 (fun x hx => hlt x (by simp [hx]))
  refine (walk zl al cl l zr ar cr r W hrl hll hrr hlr).mono fun e W' ⟨he, hb⟩ => ?_
  subst he
  exact ⟨_, rfl, Frame.law_post (tb := 4) Frame.laidOut (by kernel_rfl) (by kernel_rfl) (by kernel_rfl) Try.underlying4 hW' rfl hb⟩

theorem proved : Rows.FnExactEqualFarkasSaid :=
  OpenClaim.holds_of_wide 9 Try.f9 rfl rfl rfl rfl rfl rfl rfl ⟨rfl, rfl, rfl, rfl, rfl⟩ rfl rfl rfl rfl rfl (by kernel_rfl) Try.func9 (by kernel_rfl)
    (of_decide_eq_true (by kernel_rfl)) (by unfold Func.isWrapper; first | (rw [if_pos (by decide +kernel)]; kernel_rfl) | (rw [if_neg (by decide +kernel)]; exact ⟨rfl, rfl⟩))
    (fun os started H enc _ => lifted os started H enc)
end LawEqualFarkas
end Go.Proofs.Ytnbgmhlhbcoicaa
