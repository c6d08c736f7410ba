import Derived.Test.YtaepfdgfjcdidaaRows
import Derived.Test.YtaepfdgfjcdidaaFrame
import Derived.Test.YtaepfdgfjcdidaaFrameArg
import Derived.Test.YtaepfdgfjcdidaaArgOwn
import Derived.Test.YtaepfdgfjcdidaaArgSpec
import Derived.Test.YtaepfdgfjcdidaaArgEqS
import Derived.Deep.RegionHeld3
import Derived.SliceStrings
/- At every argument, impl.EqualArg answers as its model and writes nothing into its arguments: the law FnExactEqualArg returns true. There is no condition. -/
namespace Go.Proofs.Ytaepfdgfjcdidaa
open Go.ChangeShapes Go.WideShapes Go.ChangeAt Go.RowKit
open Go.ChangeMaps (open_string shut_string)
namespace LawEqualArg
theorem isSum : Frame.IsSum Try.prog 24 22 72 3 9 :=
  ⟨⟨_, _, Try.underlying24, rfl, rfl, rfl, rfl⟩, ⟨_, _, Try.underlying72, rfl, rfl, rfl, rfl⟩, Try.underlying3, Try.underlying9, Try.underlying22, by kernel_rfl, by kernel_rfl, by kernel_rfl, by kernel_rfl, by kernel_rfl⟩

open RowK Mem
set_option maxHeartbeats 4000000 in
set_option maxRecDepth 100000 in
theorem walk (py : Bool) (sy : ByteArray) (Ay : Option Addr) (cy : Nat) (y : List Mem.SumT) (pr : Bool) (sr : ByteArray) (Ar : Option Addr) (cr : Nat) (r : List Mem.SumT) (w0 : World) (hy : Mem.ArgS Mem.sum w0 Ay y.length cy y) (hleny : y.length ≤ 9223372036854775807) (hwfy : ∀ x ∈ y, Mem.WfSum x) (hbsy : sy.size ≤ 9223372036854775807) (hr : Mem.ArgS Mem.sum w0 Ar r.length cr r) (hlenr : r.length ≤ 9223372036854775807) (hwfr : ∀ x ∈ r, Mem.WfSum x) (hbsr : sr.size ≤ 9223372036854775807) :
    Calls Try.prog 6 #[.agg #[.bool py, .slice Ay y.length cy, .string sy], .agg #[.bool pr, .slice Ar r.length cr, .string sr]] w0 fun e w' => e = .returned (.bool true) ∧ Below w0.heap.size w0 w' := by
  have SZ := fun W (h : Mem.ArgS Mem.sum W Ay y.length cy y) => ArgK.size py sy Ay cy 1048576 y W h (by omega) hleny hwfy hbsy
  unfold IntK.leftOf at SZ
  by_cases hty : Mem.argsSize y sy ≤ 1048576
  · simp only [if_pos hty] at SZ
    have HS0 := Lib.hid SZ
    have hny : Mem.argsSize y sy ≤ 1000000000 := by omega
    clear SZ hleny hwfy hbsy
    obtain ⟨t0, hte0⟩ : ∃ t : Nat, t = 1048576 - Mem.argsSize y sy := ⟨_, rfl⟩
    have htc0 : ((1048576 : Nat) : Int) - ((Mem.argsSize y sy : Nat) : Int) = (t0 : Int) := by omega
    have htl0 : t0 ≤ 1048576 := by omega
    rw [htc0] at HS0
    clear hte0 htc0
    have SZ := fun W (h : Mem.ArgS Mem.sum W Ar r.length cr r) => ArgK.size pr sr Ar cr t0 r W h (by omega) hlenr hwfr hbsr
    unfold IntK.leftOf at SZ
    by_cases htr : Mem.argsSize r sr ≤ t0
    · simp only [if_pos htr] at SZ
      have HS1 := Lib.hid SZ
      have hnr : Mem.argsSize r sr ≤ 1000000000 := by omega
      clear SZ hlenr hwfr hbsr
      have B0 := Lib.hid (Below.refl w0.heap.size w0)
      go_enter Try.func6, Try.ntmps6
      go_wp2_with fail
      refine (Calls.mono (HS0.out _ (hy.below (B0.out.trans ((((Below.refl w0.heap.size w0).alloc (by first | (simp; done) | (simp; omega)) (Obj.cells #[Value.bool py, Value.slice Ay y.length cy, Value.string sy] 35)).alloc (by first | (simp; done) | (simp; omega)) (Obj.cells #[Value.bool pr, Value.slice Ar r.length cr, Value.string sr] 35)).mono B0.out.size))))) ?_
      rintro e w1 ⟨rfl, b1⟩
      have hs1 : ((w0.alloc (Obj.cells #[Value.bool py, Value.slice Ay y.length cy, Value.string sy] 35)).alloc (Obj.cells #[Value.bool pr, Value.slice Ar r.length cr, Value.string sr] 35)).heap.size ≤ w1.heap.size := b1.size
      simp only [World.size_alloc] at hs1
      have d1 : Below w0.heap.size w0 w1 := (((Below.refl w0.heap.size w0).alloc (by first | (simp; done) | (simp; omega)) (Obj.cells #[Value.bool py, Value.slice Ay y.length cy, Value.string sy] 35)).alloc (by first | (simp; done) | (simp; omega)) (Obj.cells #[Value.bool pr, Value.slice Ar r.length cr, Value.string sr] 35)).trans (b1.mono (show w0.heap.size ≤ ((w0.alloc (Obj.cells #[Value.bool py, Value.slice Ay y.length cy, Value.string sy] 35)).alloc (Obj.cells #[Value.bool pr, Value.slice Ar r.length cr, Value.string sr] 35)).heap.size by first | exact Nat.le_refl _ | (simp; done) | (simp; omega)))
      have B1 := Lib.hid (B0.out.trans (d1.mono B0.out.size))
      have Vby_1 := Lib.hid (((Lvar.new w0 #[Value.bool py, Value.slice Ay y.length cy, Value.string sy] 35).alloc (Obj.cells #[Value.bool pr, Value.slice Ar r.length cr, Value.string sr] 35)).below b1)
      have Vbr_1 := Lib.hid ((Lvar.new (w0.alloc (Obj.cells #[Value.bool py, Value.slice Ay y.length cy, Value.string sy] 35)) #[Value.bool pr, Value.slice Ar r.length cr, Value.string sr] 35).below b1)
      simp only [World.size_alloc] at Vbr_1
      clear b1 d1
      have c_Vby_0 := Vby_1.out.cell 0 _ rfl
      have c_Vby_1 := Vby_1.out.cell 1 _ rfl
      have c_Vby_2 := Vby_1.out.cell 2 _ rfl
      have lt_Vby := Vby_1.out.lt
      have c_Vbr_0 := Vbr_1.out.cell 0 _ rfl
      have c_Vbr_1 := Vbr_1.out.cell 1 _ rfl
      have c_Vbr_2 := Vbr_1.out.cell 2 _ rfl
      have lt_Vbr := Vbr_1.out.lt
      go_wp2_with fail
      refine (Calls.mono (HS1.out _ (hr.below B1.out))) ?_
      rintro e w2 ⟨rfl, b2⟩
      have hs2 : w1.heap.size ≤ w2.heap.size := b2.size
      have d2 : Below w1.heap.size w1 w2 := (Below.refl w1.heap.size w1).trans (b2.mono (show w1.heap.size ≤ w1.heap.size by first | exact Nat.le_refl _ | (simp; done) | (simp; omega)))
      have B2 := Lib.hid (B1.out.trans (d2.mono B1.out.size))
      have Vby_2 := Lib.hid (Vby_1.out.below d2)
      have Vbr_2 := Lib.hid (Vbr_1.out.below d2)
      clear Vby_1 Vbr_1 c_Vby_0 c_Vby_1 c_Vby_2 lt_Vby c_Vbr_0 c_Vbr_1 c_Vbr_2 lt_Vbr b2 d2
      have c_Vby_0 := Vby_2.out.cell 0 _ rfl
      have c_Vby_1 := Vby_2.out.cell 1 _ rfl
      have c_Vby_2 := Vby_2.out.cell 2 _ rfl
      have lt_Vby := Vby_2.out.lt
      have c_Vbr_0 := Vbr_2.out.cell 0 _ rfl
      have c_Vbr_1 := Vbr_2.out.cell 1 _ rfl
      have c_Vbr_2 := Vbr_2.out.cell 2 _ rfl
      have lt_Vbr := Vbr_2.out.lt
      go_wp2_with fail
      go_region_held3 (fun w' => w'.cell? ⟨w0.heap.size, 0, none⟩ = some (Value.bool py) ∧ w'.cell? ⟨w0.heap.size, 1, none⟩ = some (Value.slice Ay y.length cy) ∧ w'.cell? ⟨w0.heap.size, 2, none⟩ = some (Value.string sy) ∧ w'.cell? ⟨w0.heap.size + 1, 0, none⟩ = some (Value.bool pr) ∧ w'.cell? ⟨w0.heap.size + 1, 1, none⟩ = some (Value.slice Ar r.length cr) ∧ w'.cell? ⟨w0.heap.size + 1, 2, none⟩ = some (Value.string sr))
        (first | exact ⟨((((Vby_2.out.below (Below.refl _ _).drew).below b3).below b4).below b5).cell 0 _ rfl, ((((Vby_2.out.below (Below.refl _ _).drew).below b3).below b4).below b5).cell 1 _ rfl, ((((Vby_2.out.below (Below.refl _ _).drew).below b3).below b4).below b5).cell 2 _ rfl, ((((Vbr_2.out.below (Below.refl _ _).drew).below b3).below b4).below b5).cell 0 _ rfl, ((((Vbr_2.out.below (Below.refl _ _).drew).below b3).below b4).below b5).cell 1 _ rfl, ((((Vbr_2.out.below (Below.refl _ _).drew).below b3).below b4).below b5).cell 2 _ rfl⟩ | exact ⟨(((Vby_2.out.below (Below.refl _ _).drew).below b3).below b4).cell 0 _ rfl, (((Vby_2.out.below (Below.refl _ _).drew).below b3).below b4).cell 1 _ rfl, (((Vby_2.out.below (Below.refl _ _).drew).below b3).below b4).cell 2 _ rfl, (((Vbr_2.out.below (Below.refl _ _).drew).below b3).below b4).cell 0 _ rfl, (((Vbr_2.out.below (Below.refl _ _).drew).below b3).below b4).cell 1 _ rfl, (((Vbr_2.out.below (Below.refl _ _).drew).below b3).below b4).cell 2 _ rfl⟩ | exact ⟨((Vby_2.out.below (Below.refl _ _).drew).below b3).cell 0 _ rfl, ((Vby_2.out.below (Below.refl _ _).drew).below b3).cell 1 _ rfl, ((Vby_2.out.below (Below.refl _ _).drew).below b3).cell 2 _ rfl, ((Vbr_2.out.below (Below.refl _ _).drew).below b3).cell 0 _ rfl, ((Vbr_2.out.below (Below.refl _ _).drew).below b3).cell 1 _ rfl, ((Vbr_2.out.below (Below.refl _ _).drew).below b3).cell 2 _ rfl⟩ | go_keep)
        (first
          | (go_at_call_of 14 (Value.agg #[Value.bool py, Value.slice Ay y.length cy, Value.string sy]); refine (Calls.mono (ArgK.copy py sy Ay cy y _ (hy.below B2.out.drew) hny)) ?_; rintro e w3 ⟨Cy, rfl, oqy, b3⟩)
          | (go_at_call_of 14 (Value.agg #[Value.bool pr, Value.slice Ar r.length cr, Value.string sr]); refine (Calls.mono (ArgK.copy pr sr Ar cr r _ (hr.below (B2.out.drew.trans (b3.mono B2.out.size))) hnr)) ?_; rintro e w4 ⟨Cr, rfl, oqr, b4⟩)
          | (go_at_call 23; refine (Calls.mono (ArgP.equalArg py pr sy sr Cy Cr y.length r.length y r _ (oqy.below b4).arg oqr.arg (Nat.le_trans (ArgK.len_le y sy) hny) (Nat.le_trans (ArgK.len_le r sr) hnr))) ?_; rintro e w5 ⟨rfl, b5⟩))
      have h3 : w2.heap.size ≤ w3.heap.size := b3.size
      have h4 : w3.heap.size ≤ w4.heap.size := b4.size
      have h5 : w4.heap.size ≤ w5.heap.size := b5.size
      have d5 : Below w2.heap.size w2 w5 := ((((Below.refl w2.heap.size w2).drew.trans (b3.mono (show w2.heap.size ≤ w2.heap.size by omega))).trans (b4.mono (show w2.heap.size ≤ w3.heap.size by omega))).trans (b5.mono (show w2.heap.size ≤ w4.heap.size by omega)))
      have hs5 := d5.size
      have B5 := Lib.hid (B2.out.trans (d5.mono B2.out.size))
      have Vby_5 := Lib.hid (Vby_2.out.below d5)
      have Vbr_5 := Lib.hid (Vbr_2.out.below d5)
      clear Vby_2 Vbr_2 c_Vby_0 c_Vby_1 c_Vby_2 lt_Vby c_Vbr_0 c_Vbr_1 c_Vbr_2 lt_Vbr b3 h3 b4 h4 b5 h5 d5
      clear oqy oqr
      have c_Vby_0 := Vby_5.out.cell 0 _ rfl
      have c_Vby_1 := Vby_5.out.cell 1 _ rfl
      have c_Vby_2 := Vby_5.out.cell 2 _ rfl
      have lt_Vby := Vby_5.out.lt
      have c_Vbr_0 := Vbr_5.out.cell 0 _ rfl
      have c_Vbr_1 := Vbr_5.out.cell 1 _ rfl
      have c_Vbr_2 := Vbr_5.out.cell 2 _ rfl
      have lt_Vbr := Vbr_5.out.lt
      go_wp2_with fail
      refine (Calls.mono (ArgK.copy py sy Ay cy y _ (hy.below B5.out) hny)) ?_
      rintro e w6 ⟨Xy, rfl, oxy, b6⟩
      have Oxy := Lib.hid (show Mem.OwnS Mem.sum (w5.heap.size) w6.heap.size w6 Xy y.length y.length y from oxy)
      have hs6 : w5.heap.size ≤ w6.heap.size := b6.size
      have d6 : Below w5.heap.size w5 w6 := (Below.refl w5.heap.size w5).trans (b6.mono (show w5.heap.size ≤ w5.heap.size by first | exact Nat.le_refl _ | (simp; done) | (simp; omega)))
      have B6 := Lib.hid (B5.out.trans (d6.mono B5.out.size))
      have Vby_6 := Lib.hid (Vby_5.out.below d6)
      have Vbr_6 := Lib.hid (Vbr_5.out.below d6)
      clear Vby_5 Vbr_5 c_Vby_0 c_Vby_1 c_Vby_2 lt_Vby c_Vbr_0 c_Vbr_1 c_Vbr_2 lt_Vbr b6 d6
      have c_Vby_0 := Vby_6.out.cell 0 _ rfl
      have c_Vby_1 := Vby_6.out.cell 1 _ rfl
      have c_Vby_2 := Vby_6.out.cell 2 _ rfl
      have lt_Vby := Vby_6.out.lt
      have c_Vbr_0 := Vbr_6.out.cell 0 _ rfl
      have c_Vbr_1 := Vbr_6.out.cell 1 _ rfl
      have c_Vbr_2 := Vbr_6.out.cell 2 _ rfl
      have lt_Vbr := Vbr_6.out.lt
      go_wp2_with fail
      refine (Calls.mono (ArgK.copy pr sr Ar cr r _ (hr.below (B6.out.trans (((Below.refl w6.heap.size w6).alloc (by first | (simp; done) | (simp; omega)) (Obj.cells #[Value.bool py, Value.slice Xy y.length y.length, Value.string sy] 40)).mono B6.out.size))) hnr)) ?_
      rintro e w7 ⟨Xr, rfl, oxr, b7⟩
      simp only [World.size_alloc] at oxr
      have Oxr := Lib.hid (show Mem.OwnS Mem.sum (w6.heap.size + 1) w7.heap.size w7 Xr r.length r.length r from oxr)
      have hs7 : (w6.alloc (Obj.cells #[Value.bool py, Value.slice Xy y.length y.length, Value.string sy] 40)).heap.size ≤ w7.heap.size := b7.size
      simp only [World.size_alloc] at hs7
      have d7 : Below w6.heap.size w6 w7 := ((Below.refl w6.heap.size w6).alloc (by first | (simp; done) | (simp; omega)) (Obj.cells #[Value.bool py, Value.slice Xy y.length y.length, Value.string sy] 40)).trans (b7.mono (show w6.heap.size ≤ (w6.alloc (Obj.cells #[Value.bool py, Value.slice Xy y.length y.length, Value.string sy] 40)).heap.size by first | exact Nat.le_refl _ | (simp; done) | (simp; omega)))
      have B7 := Lib.hid (B6.out.trans (d7.mono B6.out.size))
      have Vby_7 := Lib.hid (Vby_6.out.below d7)
      have Vbr_7 := Lib.hid (Vbr_6.out.below d7)
      have Oxy_7 := Lib.hid (Oxy.out.below d7)
      have Vxy_7 := Lib.hid ((Lvar.new w6 #[Value.bool py, Value.slice Xy y.length y.length, Value.string sy] 40).below b7)
      clear Vby_6 Vbr_6 Oxy c_Vby_0 c_Vby_1 c_Vby_2 lt_Vby c_Vbr_0 c_Vbr_1 c_Vbr_2 lt_Vbr b7 d7
      have c_Vby_0 := Vby_7.out.cell 0 _ rfl
      have c_Vby_1 := Vby_7.out.cell 1 _ rfl
      have c_Vby_2 := Vby_7.out.cell 2 _ rfl
      have lt_Vby := Vby_7.out.lt
      have c_Vbr_0 := Vbr_7.out.cell 0 _ rfl
      have c_Vbr_1 := Vbr_7.out.cell 1 _ rfl
      have c_Vbr_2 := Vbr_7.out.cell 2 _ rfl
      have lt_Vbr := Vbr_7.out.lt
      have c_Vxy_0 := Vxy_7.out.cell 0 _ rfl
      have c_Vxy_1 := Vxy_7.out.cell 1 _ rfl
      have c_Vxy_2 := Vxy_7.out.cell 2 _ rfl
      have lt_Vxy := Vxy_7.out.lt
      go_wp2_with fail
      refine (Calls.mono (ArgI.equalArg py pr sy sr Xy Xr y.length r.length y r _ (Oxy_7.out.below ((Below.refl w7.heap.size w7).alloc (by first | (simp; done) | (simp; omega)) (Obj.cells #[Value.bool pr, Value.slice Xr r.length r.length, Value.string sr] 40))).arg (Oxr.out.below ((Below.refl w7.heap.size w7).alloc (by first | (simp; done) | (simp; omega)) (Obj.cells #[Value.bool pr, Value.slice Xr r.length r.length, Value.string sr] 40))).arg (Nat.le_trans (ArgK.len_le y sy) hny) (Nat.le_trans (ArgK.len_le r sr) hnr))) ?_
      rintro e w8 ⟨rfl, b8⟩
      have hs8 : (w7.alloc (Obj.cells #[Value.bool pr, Value.slice Xr r.length r.length, Value.string sr] 40)).heap.size ≤ w8.heap.size := b8.size
      simp only [World.size_alloc] at hs8
      have d8 : Below w7.heap.size w7 w8 := ((Below.refl w7.heap.size w7).alloc (by first | (simp; done) | (simp; omega)) (Obj.cells #[Value.bool pr, Value.slice Xr r.length r.length, Value.string sr] 40)).trans (b8.mono (show w7.heap.size ≤ (w7.alloc (Obj.cells #[Value.bool pr, Value.slice Xr r.length r.length, Value.string sr] 40)).heap.size by first | exact Nat.le_refl _ | (simp; done) | (simp; omega)))
      have B8 := Lib.hid (B7.out.trans (d8.mono B7.out.size))
      have Vby_8 := Lib.hid (Vby_7.out.below d8)
      have Vbr_8 := Lib.hid (Vbr_7.out.below d8)
      have Oxy_8 := Lib.hid (Oxy_7.out.below d8)
      have Vxy_8 := Lib.hid (Vxy_7.out.below d8)
      have Oxr_8 := Lib.hid (Oxr.out.below d8)
      have Vxr_8 := Lib.hid ((Lvar.new w7 #[Value.bool pr, Value.slice Xr r.length r.length, Value.string sr] 40).below b8)
      clear Vby_7 Vbr_7 Oxy_7 Vxy_7 Oxr c_Vby_0 c_Vby_1 c_Vby_2 lt_Vby c_Vbr_0 c_Vbr_1 c_Vbr_2 lt_Vbr c_Vxy_0 c_Vxy_1 c_Vxy_2 lt_Vxy b8 d8
      have c_Vby_0 := Vby_8.out.cell 0 _ rfl
      have c_Vby_1 := Vby_8.out.cell 1 _ rfl
      have c_Vby_2 := Vby_8.out.cell 2 _ rfl
      have lt_Vby := Vby_8.out.lt
      have c_Vbr_0 := Vbr_8.out.cell 0 _ rfl
      have c_Vbr_1 := Vbr_8.out.cell 1 _ rfl
      have c_Vbr_2 := Vbr_8.out.cell 2 _ rfl
      have lt_Vbr := Vbr_8.out.lt
      have c_Vxy_0 := Vxy_8.out.cell 0 _ rfl
      have c_Vxy_1 := Vxy_8.out.cell 1 _ rfl
      have c_Vxy_2 := Vxy_8.out.cell 2 _ rfl
      have lt_Vxy := Vxy_8.out.lt
      have c_Vxr_0 := Vxr_8.out.cell 0 _ rfl
      have c_Vxr_1 := Vxr_8.out.cell 1 _ rfl
      have c_Vxr_2 := Vxr_8.out.cell 2 _ rfl
      have lt_Vxr := Vxr_8.out.lt
      go_wp2_with fail
      go_region_held3 (fun w' => w'.cell? ⟨w6.heap.size, 0, none⟩ = some (Value.bool py) ∧ w'.cell? ⟨w6.heap.size, 1, none⟩ = some (Value.slice Xy y.length y.length) ∧ w'.cell? ⟨w6.heap.size, 2, none⟩ = some (Value.string sy) ∧ w'.cell? ⟨w0.heap.size, 0, none⟩ = some (Value.bool py) ∧ w'.cell? ⟨w0.heap.size, 1, none⟩ = some (Value.slice Ay y.length cy) ∧ w'.cell? ⟨w0.heap.size, 2, none⟩ = some (Value.string sy))
        (first | exact ⟨(((Vxy_8.out.below (Below.refl _ _).drew).below b9).below b10).cell 0 _ rfl, (((Vxy_8.out.below (Below.refl _ _).drew).below b9).below b10).cell 1 _ rfl, (((Vxy_8.out.below (Below.refl _ _).drew).below b9).below b10).cell 2 _ rfl, (((Vby_8.out.below (Below.refl _ _).drew).below b9).below b10).cell 0 _ rfl, (((Vby_8.out.below (Below.refl _ _).drew).below b9).below b10).cell 1 _ rfl, (((Vby_8.out.below (Below.refl _ _).drew).below b9).below b10).cell 2 _ rfl⟩ | exact ⟨((Vxy_8.out.below (Below.refl _ _).drew).below b9).cell 0 _ rfl, ((Vxy_8.out.below (Below.refl _ _).drew).below b9).cell 1 _ rfl, ((Vxy_8.out.below (Below.refl _ _).drew).below b9).cell 2 _ rfl, ((Vby_8.out.below (Below.refl _ _).drew).below b9).cell 0 _ rfl, ((Vby_8.out.below (Below.refl _ _).drew).below b9).cell 1 _ rfl, ((Vby_8.out.below (Below.refl _ _).drew).below b9).cell 2 _ rfl⟩ | go_keep)
        (first
          | (go_at_call 14; refine (Calls.mono (ArgK.copy py sy Ay cy y _ (hy.below B8.out.drew) hny)) ?_; rintro e w9 ⟨C8, rfl, oc8, b9⟩)
          | (go_at_call 16; refine (Calls.mono (ArgK.eq_same py sy Xy C8 y.length y.length y _ ((Oxy_8.out.below (Below.refl _ _).drew).below b9).arg oc8.arg hny)) ?_; rintro e w10 ⟨rfl, b10⟩))
      have h9 : w8.heap.size ≤ w9.heap.size := b9.size
      have h10 : w9.heap.size ≤ w10.heap.size := b10.size
      have d10 : Below w8.heap.size w8 w10 := (((Below.refl w8.heap.size w8).drew.trans (b9.mono (show w8.heap.size ≤ w8.heap.size by omega))).trans (b10.mono (show w8.heap.size ≤ w9.heap.size by omega)))
      have hs10 := d10.size
      have B10 := Lib.hid (B8.out.trans (d10.mono B8.out.size))
      have Vby_10 := Lib.hid (Vby_8.out.below d10)
      have Vbr_10 := Lib.hid (Vbr_8.out.below d10)
      have Oxy_10 := Lib.hid (Oxy_8.out.below d10)
      have Vxy_10 := Lib.hid (Vxy_8.out.below d10)
      have Oxr_10 := Lib.hid (Oxr_8.out.below d10)
      have Vxr_10 := Lib.hid (Vxr_8.out.below d10)
      clear Vby_8 Vbr_8 Oxy_8 Vxy_8 Oxr_8 Vxr_8 c_Vby_0 c_Vby_1 c_Vby_2 lt_Vby c_Vbr_0 c_Vbr_1 c_Vbr_2 lt_Vbr c_Vxy_0 c_Vxy_1 c_Vxy_2 lt_Vxy c_Vxr_0 c_Vxr_1 c_Vxr_2 lt_Vxr b9 h9 b10 h10 d10
      clear oc8
      have c_Vby_0 := Vby_10.out.cell 0 _ rfl
      have c_Vby_1 := Vby_10.out.cell 1 _ rfl
      have c_Vby_2 := Vby_10.out.cell 2 _ rfl
      have lt_Vby := Vby_10.out.lt
      have c_Vbr_0 := Vbr_10.out.cell 0 _ rfl
      have c_Vbr_1 := Vbr_10.out.cell 1 _ rfl
      have c_Vbr_2 := Vbr_10.out.cell 2 _ rfl
      have lt_Vbr := Vbr_10.out.lt
      have c_Vxy_0 := Vxy_10.out.cell 0 _ rfl
      have c_Vxy_1 := Vxy_10.out.cell 1 _ rfl
      have c_Vxy_2 := Vxy_10.out.cell 2 _ rfl
      have lt_Vxy := Vxy_10.out.lt
      have c_Vxr_0 := Vxr_10.out.cell 0 _ rfl
      have c_Vxr_1 := Vxr_10.out.cell 1 _ rfl
      have c_Vxr_2 := Vxr_10.out.cell 2 _ rfl
      have lt_Vxr := Vxr_10.out.lt
      go_wp2_with fail
      go_region_held3 (fun w' => w'.cell? ⟨w7.heap.size, 0, none⟩ = some (Value.bool pr) ∧ w'.cell? ⟨w7.heap.size, 1, none⟩ = some (Value.slice Xr r.length r.length) ∧ w'.cell? ⟨w7.heap.size, 2, none⟩ = some (Value.string sr) ∧ w'.cell? ⟨w0.heap.size + 1, 0, none⟩ = some (Value.bool pr) ∧ w'.cell? ⟨w0.heap.size + 1, 1, none⟩ = some (Value.slice Ar r.length cr) ∧ w'.cell? ⟨w0.heap.size + 1, 2, none⟩ = some (Value.string sr))
        (first | exact ⟨(((Vxr_10.out.below (Below.refl _ _).drew).below b11).below b12).cell 0 _ rfl, (((Vxr_10.out.below (Below.refl _ _).drew).below b11).below b12).cell 1 _ rfl, (((Vxr_10.out.below (Below.refl _ _).drew).below b11).below b12).cell 2 _ rfl, (((Vbr_10.out.below (Below.refl _ _).drew).below b11).below b12).cell 0 _ rfl, (((Vbr_10.out.below (Below.refl _ _).drew).below b11).below b12).cell 1 _ rfl, (((Vbr_10.out.below (Below.refl _ _).drew).below b11).below b12).cell 2 _ rfl⟩ | exact ⟨((Vxr_10.out.below (Below.refl _ _).drew).below b11).cell 0 _ rfl, ((Vxr_10.out.below (Below.refl _ _).drew).below b11).cell 1 _ rfl, ((Vxr_10.out.below (Below.refl _ _).drew).below b11).cell 2 _ rfl, ((Vbr_10.out.below (Below.refl _ _).drew).below b11).cell 0 _ rfl, ((Vbr_10.out.below (Below.refl _ _).drew).below b11).cell 1 _ rfl, ((Vbr_10.out.below (Below.refl _ _).drew).below b11).cell 2 _ rfl⟩ | go_keep)
        (first
          | (go_at_call 14; refine (Calls.mono (ArgK.copy pr sr Ar cr r _ (hr.below B10.out.drew) hnr)) ?_; rintro e w11 ⟨C10, rfl, oc10, b11⟩)
          | (go_at_call 16; refine (Calls.mono (ArgK.eq_same pr sr Xr C10 r.length r.length r _ ((Oxr_10.out.below (Below.refl _ _).drew).below b11).arg oc10.arg hnr)) ?_; rintro e w12 ⟨rfl, b12⟩))
      have h11 : w10.heap.size ≤ w11.heap.size := b11.size
      have h12 : w11.heap.size ≤ w12.heap.size := b12.size
      have d12 : Below w10.heap.size w10 w12 := (((Below.refl w10.heap.size w10).drew.trans (b11.mono (show w10.heap.size ≤ w10.heap.size by omega))).trans (b12.mono (show w10.heap.size ≤ w11.heap.size by omega)))
      have hs12 := d12.size
      have B12 := Lib.hid (B10.out.trans (d12.mono B10.out.size))
      have Vby_12 := Lib.hid (Vby_10.out.below d12)
      have Vbr_12 := Lib.hid (Vbr_10.out.below d12)
      have Oxy_12 := Lib.hid (Oxy_10.out.below d12)
      have Vxy_12 := Lib.hid (Vxy_10.out.below d12)
      have Oxr_12 := Lib.hid (Oxr_10.out.below d12)
      have Vxr_12 := Lib.hid (Vxr_10.out.below d12)
      clear Vby_10 Vbr_10 Oxy_10 Vxy_10 Oxr_10 Vxr_10 c_Vby_0 c_Vby_1 c_Vby_2 lt_Vby c_Vbr_0 c_Vbr_1 c_Vbr_2 lt_Vbr c_Vxy_0 c_Vxy_1 c_Vxy_2 lt_Vxy c_Vxr_0 c_Vxr_1 c_Vxr_2 lt_Vxr b11 h11 b12 h12 d12
      clear oc10
      have c_Vby_0 := Vby_12.out.cell 0 _ rfl
      have c_Vby_1 := Vby_12.out.cell 1 _ rfl
      have c_Vby_2 := Vby_12.out.cell 2 _ rfl
      have lt_Vby := Vby_12.out.lt
      have c_Vbr_0 := Vbr_12.out.cell 0 _ rfl
      have c_Vbr_1 := Vbr_12.out.cell 1 _ rfl
      have c_Vbr_2 := Vbr_12.out.cell 2 _ rfl
      have lt_Vbr := Vbr_12.out.lt
      have c_Vxy_0 := Vxy_12.out.cell 0 _ rfl
      have c_Vxy_1 := Vxy_12.out.cell 1 _ rfl
      have c_Vxy_2 := Vxy_12.out.cell 2 _ rfl
      have lt_Vxy := Vxy_12.out.lt
      have c_Vxr_0 := Vxr_12.out.cell 0 _ rfl
      have c_Vxr_1 := Vxr_12.out.cell 1 _ rfl
      have c_Vxr_2 := Vxr_12.out.cell 2 _ rfl
      have lt_Vxr := Vxr_12.out.lt
      go_wp2
      go_ret
      exact ⟨rfl, B12.out⟩
    · simp only [if_neg htr] at SZ
      have HS1 := Lib.hid SZ
      clear SZ hlenr hwfr hbsr
      have B0 := Lib.hid (Below.refl w0.heap.size w0)
      go_enter Try.func6, Try.ntmps6
      go_wp2_with fail
      refine (Calls.mono (HS0.out _ (hy.below (B0.out.trans ((((Below.refl w0.heap.size w0).alloc (by first | (simp; done) | (simp; omega)) (Obj.cells #[Value.bool py, Value.slice Ay y.length cy, Value.string sy] 35)).alloc (by first | (simp; done) | (simp; omega)) (Obj.cells #[Value.bool pr, Value.slice Ar r.length cr, Value.string sr] 35)).mono B0.out.size))))) ?_
      rintro e w1 ⟨rfl, b1⟩
      have hs1 : ((w0.alloc (Obj.cells #[Value.bool py, Value.slice Ay y.length cy, Value.string sy] 35)).alloc (Obj.cells #[Value.bool pr, Value.slice Ar r.length cr, Value.string sr] 35)).heap.size ≤ w1.heap.size := b1.size
      simp only [World.size_alloc] at hs1
      have d1 : Below w0.heap.size w0 w1 := (((Below.refl w0.heap.size w0).alloc (by first | (simp; done) | (simp; omega)) (Obj.cells #[Value.bool py, Value.slice Ay y.length cy, Value.string sy] 35)).alloc (by first | (simp; done) | (simp; omega)) (Obj.cells #[Value.bool pr, Value.slice Ar r.length cr, Value.string sr] 35)).trans (b1.mono (show w0.heap.size ≤ ((w0.alloc (Obj.cells #[Value.bool py, Value.slice Ay y.length cy, Value.string sy] 35)).alloc (Obj.cells #[Value.bool pr, Value.slice Ar r.length cr, Value.string sr] 35)).heap.size by first | exact Nat.le_refl _ | (simp; done) | (simp; omega)))
      have B1 := Lib.hid (B0.out.trans (d1.mono B0.out.size))
      have Vby_1 := Lib.hid (((Lvar.new w0 #[Value.bool py, Value.slice Ay y.length cy, Value.string sy] 35).alloc (Obj.cells #[Value.bool pr, Value.slice Ar r.length cr, Value.string sr] 35)).below b1)
      have Vbr_1 := Lib.hid ((Lvar.new (w0.alloc (Obj.cells #[Value.bool py, Value.slice Ay y.length cy, Value.string sy] 35)) #[Value.bool pr, Value.slice Ar r.length cr, Value.string sr] 35).below b1)
      simp only [World.size_alloc] at Vbr_1
      clear b1 d1
      have c_Vby_0 := Vby_1.out.cell 0 _ rfl
      have c_Vby_1 := Vby_1.out.cell 1 _ rfl
      have c_Vby_2 := Vby_1.out.cell 2 _ rfl
      have lt_Vby := Vby_1.out.lt
      have c_Vbr_0 := Vbr_1.out.cell 0 _ rfl
      have c_Vbr_1 := Vbr_1.out.cell 1 _ rfl
      have c_Vbr_2 := Vbr_1.out.cell 2 _ rfl
      have lt_Vbr := Vbr_1.out.lt
      go_wp2_with fail
      refine (Calls.mono (HS1.out _ (hr.below B1.out))) ?_
      rintro e w2 ⟨rfl, b2⟩
      have hs2 : w1.heap.size ≤ w2.heap.size := b2.size
      have d2 : Below w1.heap.size w1 w2 := (Below.refl w1.heap.size w1).trans (b2.mono (show w1.heap.size ≤ w1.heap.size by first | exact Nat.le_refl _ | (simp; done) | (simp; omega)))
      have B2 := Lib.hid (B1.out.trans (d2.mono B1.out.size))
      have Vby_2 := Lib.hid (Vby_1.out.below d2)
      have Vbr_2 := Lib.hid (Vbr_1.out.below d2)
      clear Vby_1 Vbr_1 c_Vby_0 c_Vby_1 c_Vby_2 lt_Vby c_Vbr_0 c_Vbr_1 c_Vbr_2 lt_Vbr b2 d2
      have c_Vby_0 := Vby_2.out.cell 0 _ rfl
      have c_Vby_1 := Vby_2.out.cell 1 _ rfl
      have c_Vby_2 := Vby_2.out.cell 2 _ rfl
      have lt_Vby := Vby_2.out.lt
      have c_Vbr_0 := Vbr_2.out.cell 0 _ rfl
      have c_Vbr_1 := Vbr_2.out.cell 1 _ rfl
      have c_Vbr_2 := Vbr_2.out.cell 2 _ rfl
      have lt_Vbr := Vbr_2.out.lt
      go_wp2
      go_ret
      exact ⟨rfl, B2.out⟩
  · simp only [if_neg hty] at SZ
    have HS0 := Lib.hid SZ
    clear SZ hleny hwfy hbsy
    have B0 := Lib.hid (Below.refl w0.heap.size w0)
    go_enter Try.func6, Try.ntmps6
    go_wp2_with fail
    refine (Calls.mono (HS0.out _ (hy.below (B0.out.trans ((((Below.refl w0.heap.size w0).alloc (by first | (simp; done) | (simp; omega)) (Obj.cells #[Value.bool py, Value.slice Ay y.length cy, Value.string sy] 35)).alloc (by first | (simp; done) | (simp; omega)) (Obj.cells #[Value.bool pr, Value.slice Ar r.length cr, Value.string sr] 35)).mono B0.out.size))))) ?_
    rintro e w1 ⟨rfl, b1⟩
    have hs1 : ((w0.alloc (Obj.cells #[Value.bool py, Value.slice Ay y.length cy, Value.string sy] 35)).alloc (Obj.cells #[Value.bool pr, Value.slice Ar r.length cr, Value.string sr] 35)).heap.size ≤ w1.heap.size := b1.size
    simp only [World.size_alloc] at hs1
    have d1 : Below w0.heap.size w0 w1 := (((Below.refl w0.heap.size w0).alloc (by first | (simp; done) | (simp; omega)) (Obj.cells #[Value.bool py, Value.slice Ay y.length cy, Value.string sy] 35)).alloc (by first | (simp; done) | (simp; omega)) (Obj.cells #[Value.bool pr, Value.slice Ar r.length cr, Value.string sr] 35)).trans (b1.mono (show w0.heap.size ≤ ((w0.alloc (Obj.cells #[Value.bool py, Value.slice Ay y.length cy, Value.string sy] 35)).alloc (Obj.cells #[Value.bool pr, Value.slice Ar r.length cr, Value.string sr] 35)).heap.size by first | exact Nat.le_refl _ | (simp; done) | (simp; omega)))
    have B1 := Lib.hid (B0.out.trans (d1.mono B0.out.size))
    have Vby_1 := Lib.hid (((Lvar.new w0 #[Value.bool py, Value.slice Ay y.length cy, Value.string sy] 35).alloc (Obj.cells #[Value.bool pr, Value.slice Ar r.length cr, Value.string sr] 35)).below b1)
    have Vbr_1 := Lib.hid ((Lvar.new (w0.alloc (Obj.cells #[Value.bool py, Value.slice Ay y.length cy, Value.string sy] 35)) #[Value.bool pr, Value.slice Ar r.length cr, Value.string sr] 35).below b1)
    simp only [World.size_alloc] at Vbr_1
    clear b1 d1
    have c_Vby_0 := Vby_1.out.cell 0 _ rfl
    have c_Vby_1 := Vby_1.out.cell 1 _ rfl
    have c_Vby_2 := Vby_1.out.cell 2 _ rfl
    have lt_Vby := Vby_1.out.lt
    have c_Vbr_0 := Vbr_1.out.cell 0 _ rfl
    have c_Vbr_1 := Vbr_1.out.cell 1 _ rfl
    have c_Vbr_2 := Vbr_1.out.cell 2 _ rfl
    have lt_Vbr := Vbr_1.out.lt
    go_wp2
    go_ret
    exact ⟨rfl, B1.out⟩

set_option maxRecDepth 100000 in
theorem lifted (os : Os) (started : os.Started) (H : Type) (enc : TypeId × Value → H) :
    ReturnsInHanded {} Try.checked os 6 .any (Rows.fnExactEqualArgSpec.pre6 enc Try.prog Try.f6 Rows.fnExactEqualArgRow.domain false) (Rows.fnExactEqualArgSpec.post enc Try.prog Try.f6 false true false false) := by
  refine returnsInHanded_of_change (C := Try.checked) Frame.own started (by kernel_rfl) Try.func6
    (ChangeSpec.witness6 (enc := enc) (C := Try.checked) false ⟨#[], #[.agg #[.bool false, .slice none 0 0, .string .empty], .agg #[.bool false, .slice none 0 0, .string .empty]], []⟩ 8 (by kernel_rfl) (by kernel_rfl) (by kernel_rfl) (by kernel_rfl)) ?_
  intro W base args ds gs before hval0 hW _ _
  have hW' := hW
  have hval : ∀ (j : Nat) t v, Try.f6.params[j]? = some t → args[j]? = some v → Value.okWide Try.prog W .any base t v := hval0
  obtain ⟨p, q, hA0, hV, rfl, hfz, hnd⟩ := hW
  have hA : DataW.TrodAll enc Try.prog W 0 (fun _ => true) true Try.f6.params.toList args.toList ds p := hA0
  rw [Try.params6] at hA hval
  obtain ⟨v0, v1, d0, d1, p0, p1, rfl, rfl, rfl, h0, h1⟩ := trodAll_two hA
  have hlt := fun x hx => hW'.lt x hx
  obtain ⟨rfl, rfl⟩ := trodVars_none hV
  obtain ⟨py, ay, cy, y, sy, rfl, hry, hly, hsy, hby⟩ := Frame.open_arg (W := W) isSum Try.underlying35 (by kernel_rfl) (by kernel_rfl) rfl rfl rfl Try.underlying4 Try.underlying33 (hval 0 35 v0 rfl rfl) h0 (fun x hx => hlt x (by simp [hx]))
  obtain ⟨pr, ar, cr, r, sr, rfl, hrr, hlr, hsr, hbr⟩ := Frame.open_arg (W := W) isSum Try.underlying35 (by kernel_rfl) (by kernel_rfl) rfl rfl rfl Try.underlying4 Try.underlying33 (hval 1 35 v1 rfl rfl) h1 (fun x hx => hlt x (by simp [hx]))
  refine (walk py sy ay cy y pr sr ar cr r W hry hly hsy hby hrr hlr hsr hbr).mono fun e W' ⟨he, hb⟩ => ?_
  subst he
  exact ⟨_, rfl, Frame.law_post (tb := 4) Frame.laidOut (by kernel_rfl) (by kernel_rfl) (by kernel_rfl) Try.underlying4 hW' rfl hb⟩

theorem proved : Rows.FnExactEqualArgSaid :=
  OpenClaim.holds_of_wide 6 Try.f6 rfl rfl rfl rfl rfl rfl rfl ⟨rfl, rfl, rfl, rfl, rfl⟩ rfl rfl rfl rfl rfl (by kernel_rfl) Try.func6 (by kernel_rfl)
    (of_decide_eq_true (by kernel_rfl)) (by unfold Func.isWrapper; first | (rw [if_pos (by decide +kernel)]; kernel_rfl) | (rw [if_neg (by decide +kernel)]; exact ⟨rfl, rfl⟩))
    (fun os started H enc _ => lifted os started H enc)
end LawEqualArg
end Go.Proofs.Ytaepfdgfjcdidaa
