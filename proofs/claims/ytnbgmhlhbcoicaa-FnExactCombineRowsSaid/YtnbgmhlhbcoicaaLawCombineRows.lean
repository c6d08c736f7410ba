import Derived.Test.YtnbgmhlhbcoicaaRows
import Derived.Test.YtnbgmhlhbcoicaaFrame
import Derived.Test.YtnbgmhlhbcoicaaFrameSys
import Derived.Test.YtnbgmhlhbcoicaaFrameLin
import Derived.Test.YtnbgmhlhbcoicaaSysOwn
import Derived.Test.YtnbgmhlhbcoicaaFarK
import Derived.Test.YtnbgmhlhbcoicaaLinK
import Derived.Test.YtnbgmhlhbcoicaaFarkCheck2
import Derived.Test.YtnbgmhlhbcoicaaFarkSpec2
import Derived.Deep.RegionHeld3
import Derived.SliceStrings
/- At every system and every slice of integers, impl.CombineRows answers as its model, writes nothing into its arguments and answers in new memory: the law FnExactCombineRows returns true. There is no condition. -/
namespace Go.Proofs.Ytnbgmhlhbcoicaa
open Go.ChangeShapes Go.WideShapes Go.ChangeAt Go.RowKit
open Go.ChangeMaps (open_string shut_string)
namespace LawCombineRows
theorem isLin : Frame.IsLin Try.prog 46 3 27 :=
  ⟨⟨_, _, Try.underlying46, rfl, rfl, rfl, rfl⟩, Try.underlying3, Try.underlying27, by kernel_rfl, by kernel_rfl, by kernel_rfl⟩

theorem markInts (lo hi : Nat) (A : Option Addr) (c k : Nat) (zs : List Int) (w : World) (h : IntK.Own lo hi w A zs) (hk : k ≤ 1000000000) (h2 : zs.length ≤ 1000000000) :
    Calls Try.prog 36 #[.slice A zs.length c, .int .i64 (1 + (k : Int))] w fun e w' => e = .returned (.int .i64 (1 + (k : Int) + zs.length)) ∧ RowK.Row lo hi w' A (IntK.iv (IntK.marks (1 + k) zs.length)) ∧ RowK.Mod lo hi w w' := by
  have h' := IntK.mark lo hi A c (1 + k) zs w h.1 h.2 (by omega)
  rw [show (((1 + k : Nat)) : Int) = 1 + (k : Int) by omega] at h'
  exact h'.mono fun e w' ⟨h1, h2, h3, _⟩ => ⟨h1, h2, h3⟩

open RowK LinM FarkM
set_option maxHeartbeats 4000000 in
set_option maxRecDepth 100000 in
theorem walk (ny : Int) (Ay : Option Addr) (cy : Nat) (y : List (Int × List Int)) (Av : Option Addr) (cv : Nat) (v : List Int) (w0 : World) (hy : SysK.Arg w0 Ay y.length cy y) (hleny : y.length ≤ 9223372036854775807) (hwfy : ∀ x ∈ y, Frame.WfLin x) (hv : Row 0 w0.heap.size w0 Av (IntK.iv v)) :
    Calls Try.prog 6 #[.agg #[.int .i64 ny, .slice Ay y.length cy], .slice Av v.length cv] w0 fun e w' => e = .returned (.bool true) ∧ Below w0.heap.size w0 w' := by
  by_cases htv : v.length ≤ 1048576
  · have hnv : v.length ≤ 1000000000 := by omega
    have SZ := fun W (h : SysK.Arg W Ay y.length cy y) => SysK.size ny Ay cy 1048576 y W h (by omega) hleny (fun x hx => (hwfy x hx).2.1)
    unfold IntK.leftOf at SZ
    by_cases hty : Mem.linsSize y ≤ 1048576
    · simp only [if_pos hty] at SZ
      have HS0 := Lib.hid SZ
      have hny : Mem.linsSize y ≤ 1000000000 := by omega
      clear SZ hleny hwfy
      have SP := fun A M c d lo hi W (h : SysK.Arg W A y.length c y) (h' : Row lo hi W M (IntK.iv v)) => FarkS.combine lo hi ny A M c d y v W h hny h' hnv
      have IM := fun A M c d lo hi W (h : SysK.Arg W A y.length c y) (h' : Row lo hi W M (IntK.iv v)) => (FarkI.combineC lo hi ny A M c d y v W h hny h' hnv).mono fun _ _ h => h.gave
      have hT := FarkM.combR_small ny y v
      unfold LinI.GaveO at SP IM
      generalize (combR ny y v).getD (0, []) = T at *
      generalize (combR ny y v).isSome = q at *
      have SP := Lib.hid SP
      have IM := Lib.hid IM
      have B0 := Lib.hid (Below.refl w0.heap.size w0)
      go_enter Try.func6, Try.ntmps6
      go_wp2_with fail
      refine (Calls.mono (HS0.out _ (hy.below (B0.out.trans (((Below.refl w0.heap.size w0).alloc (by first | (simp; done) | (simp; omega)) (Obj.cells #[Value.int .i64 ny, Value.slice Ay y.length cy] 52)).mono B0.out.size))))) ?_
      rintro e w1 ⟨rfl, b1⟩
      have hs1 : (w0.alloc (Obj.cells #[Value.int .i64 ny, Value.slice Ay y.length cy] 52)).heap.size ≤ w1.heap.size := b1.size
      simp only [World.size_alloc] at hs1
      have d1 : Below w0.heap.size w0 w1 := ((Below.refl w0.heap.size w0).alloc (by first | (simp; done) | (simp; omega)) (Obj.cells #[Value.int .i64 ny, Value.slice Ay y.length cy] 52)).trans (b1.mono (show w0.heap.size ≤ (w0.alloc (Obj.cells #[Value.int .i64 ny, Value.slice Ay y.length cy] 52)).heap.size by first | exact Nat.le_refl _ | (simp; done) | (simp; omega)))
      have B1 := Lib.hid (B0.out.trans (d1.mono B0.out.size))
      have Vby_1 := Lib.hid ((Lvar.new w0 #[Value.int .i64 ny, Value.slice Ay y.length cy] 52).below b1)
      clear b1 d1
      have c_Vby_0 := Vby_1.out.cell 0 _ rfl
      have c_Vby_1 := Vby_1.out.cell 1 _ rfl
      have lt_Vby := Vby_1.out.lt
      go_wp2_with fail
      refine (Calls.mono (SysK.copy ny Ay cy y _ (hy.below B1.out) hny)) ?_
      rintro e w2 ⟨Ty, rfl, oty, b2⟩
      have Oty := Lib.hid (show SysK.Own (w1.heap.size) w2.heap.size w2 Ty y.length y.length y from oty)
      have hs2 : w1.heap.size ≤ w2.heap.size := b2.size
      have d2 : Below w1.heap.size w1 w2 := (Below.refl w1.heap.size w1).trans (b2.mono (show w1.heap.size ≤ w1.heap.size by first | exact Nat.le_refl _ | (simp; done) | (simp; omega)))
      have B2 := Lib.hid (B1.out.trans (d2.mono B1.out.size))
      have Vby_2 := Lib.hid (Vby_1.out.below d2)
      clear Vby_1 c_Vby_0 c_Vby_1 lt_Vby b2 d2
      have c_Vby_0 := Vby_2.out.cell 0 _ rfl
      have c_Vby_1 := Vby_2.out.cell 1 _ rfl
      have lt_Vby := Vby_2.out.lt
      go_wp2_with fail
      refine (Calls.mono (IntK.copy 0 w0.heap.size Av cv v _ (hv.below B2.out) hnv)) ?_
      rintro e w3 ⟨Tv, rfl, rtv, ftv, b3⟩
      have Otv := Lib.hid (show IntK.Own (w2.heap.size) w3.heap.size w3 Tv v from ⟨rtv, ftv⟩)
      have hs3 : w2.heap.size ≤ w3.heap.size := b3.size
      have d3 : Below w2.heap.size w2 w3 := (Below.refl w2.heap.size w2).trans (b3.mono (show w2.heap.size ≤ w2.heap.size by first | exact Nat.le_refl _ | (simp; done) | (simp; omega)))
      have B3 := Lib.hid (B2.out.trans (d3.mono B2.out.size))
      have Vby_3 := Lib.hid (Vby_2.out.below d3)
      have Oty_3 := Lib.hid (Oty.out.below d3)
      clear Vby_2 Oty c_Vby_0 c_Vby_1 lt_Vby b3 d3
      have c_Vby_0 := Vby_3.out.cell 0 _ rfl
      have c_Vby_1 := Vby_3.out.cell 1 _ rfl
      have lt_Vby := Vby_3.out.lt
      go_wp2_with fail
      refine (Calls.mono (SP.out Ty Tv y.length v.length _ _ _ Oty_3.out.arg Otv.out.1)) ?_
      rintro e w4 ⟨W, cw, rfl, rw, fw, b4⟩
      have Ow := Lib.hid (show IntK.Own (w3.heap.size) w4.heap.size w4 W T.2 from ⟨rw, fw⟩)
      have hs4 : w3.heap.size ≤ w4.heap.size := b4.size
      have d4 : Below w3.heap.size w3 w4 := (Below.refl w3.heap.size w3).trans (b4.mono (show w3.heap.size ≤ w3.heap.size by first | exact Nat.le_refl _ | (simp; done) | (simp; omega)))
      have B4 := Lib.hid (B3.out.trans (d4.mono B3.out.size))
      have Vby_4 := Lib.hid (Vby_3.out.below d4)
      have Oty_4 := Lib.hid (Oty_3.out.below d4)
      have Otv_4 := Lib.hid (Otv.out.below d4)
      clear Vby_3 Oty_3 Otv c_Vby_0 c_Vby_1 lt_Vby b4 d4
      clear Oty_4
      clear Otv_4
      have c_Vby_0 := Vby_4.out.cell 0 _ rfl
      have c_Vby_1 := Vby_4.out.cell 1 _ rfl
      have lt_Vby := Vby_4.out.lt
      go_wp2_with fail
      refine (Calls.mono (SysK.copy ny Ay cy y _ (hy.below (B4.out.trans (((Below.refl w4.heap.size w4).alloc (by first | (simp; done) | (simp; omega)) (Obj.cells #[Value.int .i64 T.1, Value.slice W T.2.length cw] 29)).mono B4.out.size))) hny)) ?_
      rintro e w5 ⟨Xy, rfl, oxy, b5⟩
      simp only [World.size_alloc] at oxy
      have Oxy := Lib.hid (show SysK.Own (w4.heap.size + 1) w5.heap.size w5 Xy y.length y.length y from oxy)
      have hs5 : (w4.alloc (Obj.cells #[Value.int .i64 T.1, Value.slice W T.2.length cw] 29)).heap.size ≤ w5.heap.size := b5.size
      simp only [World.size_alloc] at hs5
      have d5 : Below w4.heap.size w4 w5 := ((Below.refl w4.heap.size w4).alloc (by first | (simp; done) | (simp; omega)) (Obj.cells #[Value.int .i64 T.1, Value.slice W T.2.length cw] 29)).trans (b5.mono (show w4.heap.size ≤ (w4.alloc (Obj.cells #[Value.int .i64 T.1, Value.slice W T.2.length cw] 29)).heap.size by first | exact Nat.le_refl _ | (simp; done) | (simp; omega)))
      have B5 := Lib.hid (B4.out.trans (d5.mono B4.out.size))
      have Vby_5 := Lib.hid (Vby_4.out.below d5)
      have Ow_5 := Lib.hid (Ow.out.below d5)
      have Vw_5 := Lib.hid ((Lvar.new w4 #[Value.int .i64 T.1, Value.slice W T.2.length cw] 29).below b5)
      clear Vby_4 Ow c_Vby_0 c_Vby_1 lt_Vby b5 d5
      have c_Vby_0 := Vby_5.out.cell 0 _ rfl
      have c_Vby_1 := Vby_5.out.cell 1 _ rfl
      have lt_Vby := Vby_5.out.lt
      have c_Vw_0 := Vw_5.out.cell 0 _ rfl
      have c_Vw_1 := Vw_5.out.cell 1 _ rfl
      have lt_Vw := Vw_5.out.lt
      go_wp2_with fail
      refine (Calls.mono (IntK.copy 0 w0.heap.size Av cv v _ (hv.below (B5.out.trans (((Below.refl w5.heap.size w5).alloc (by first | (simp; done) | (simp; omega)) (Obj.cells #[Value.int .i64 ny, Value.slice Xy y.length y.length] 26)).mono B5.out.size))) hnv)) ?_
      rintro e w6 ⟨Xv, rfl, rxv, fxv, b6⟩
      simp only [World.size_alloc] at rxv
      have Oxv := Lib.hid (show IntK.Own (w5.heap.size + 1) w6.heap.size w6 Xv v from ⟨rxv, fxv⟩)
      have hs6 : (w5.alloc (Obj.cells #[Value.int .i64 ny, Value.slice Xy y.length y.length] 26)).heap.size ≤ w6.heap.size := b6.size
      simp only [World.size_alloc] at hs6
      have d6 : Below w5.heap.size w5 w6 := ((Below.refl w5.heap.size w5).alloc (by first | (simp; done) | (simp; omega)) (Obj.cells #[Value.int .i64 ny, Value.slice Xy y.length y.length] 26)).trans (b6.mono (show w5.heap.size ≤ (w5.alloc (Obj.cells #[Value.int .i64 ny, Value.slice Xy y.length y.length] 26)).heap.size by first | exact Nat.le_refl _ | (simp; done) | (simp; omega)))
      have B6 := Lib.hid (B5.out.trans (d6.mono B5.out.size))
      have Vby_6 := Lib.hid (Vby_5.out.below d6)
      have Ow_6 := Lib.hid (Ow_5.out.below d6)
      have Vw_6 := Lib.hid (Vw_5.out.below d6)
      have Oxy_6 := Lib.hid (Oxy.out.below d6)
      have Vxy_6 := Lib.hid ((Lvar.new w5 #[Value.int .i64 ny, Value.slice Xy y.length y.length] 26).below b6)
      clear Vby_5 Ow_5 Vw_5 Oxy c_Vby_0 c_Vby_1 lt_Vby c_Vw_0 c_Vw_1 lt_Vw b6 d6
      have c_Vby_0 := Vby_6.out.cell 0 _ rfl
      have c_Vby_1 := Vby_6.out.cell 1 _ rfl
      have lt_Vby := Vby_6.out.lt
      have c_Vw_0 := Vw_6.out.cell 0 _ rfl
      have c_Vw_1 := Vw_6.out.cell 1 _ rfl
      have lt_Vw := Vw_6.out.lt
      have c_Vxy_0 := Vxy_6.out.cell 0 _ rfl
      have c_Vxy_1 := Vxy_6.out.cell 1 _ rfl
      have lt_Vxy := Vxy_6.out.lt
      go_wp2_with fail
      refine (Calls.mono (IM.out Xy Xv y.length v.length _ _ _ Oxy_6.out.arg Oxv.out.1)) ?_
      rintro e w7 ⟨G, cg, rfl, rg, fg, b7⟩
      have Og := Lib.hid (show IntK.Own (w6.heap.size) w7.heap.size w7 G T.2 from ⟨rg, fg⟩)
      have hs7 : w6.heap.size ≤ w7.heap.size := b7.size
      have d7 : Below w6.heap.size w6 w7 := (Below.refl w6.heap.size w6).trans (b7.mono (show w6.heap.size ≤ w6.heap.size by first | exact Nat.le_refl _ | (simp; done) | (simp; omega)))
      have B7 := Lib.hid (B6.out.trans (d7.mono B6.out.size))
      have Vby_7 := Lib.hid (Vby_6.out.below d7)
      have Ow_7 := Lib.hid (Ow_6.out.below d7)
      have Vw_7 := Lib.hid (Vw_6.out.below d7)
      have Oxy_7 := Lib.hid (Oxy_6.out.below d7)
      have Vxy_7 := Lib.hid (Vxy_6.out.below d7)
      have Oxv_7 := Lib.hid (Oxv.out.below d7)
      clear Vby_6 Ow_6 Vw_6 Oxy_6 Vxy_6 Oxv c_Vby_0 c_Vby_1 lt_Vby c_Vw_0 c_Vw_1 lt_Vw c_Vxy_0 c_Vxy_1 lt_Vxy b7 d7
      have c_Vby_0 := Vby_7.out.cell 0 _ rfl
      have c_Vby_1 := Vby_7.out.cell 1 _ rfl
      have lt_Vby := Vby_7.out.lt
      have c_Vw_0 := Vw_7.out.cell 0 _ rfl
      have c_Vw_1 := Vw_7.out.cell 1 _ rfl
      have lt_Vw := Vw_7.out.lt
      have c_Vxy_0 := Vxy_7.out.cell 0 _ rfl
      have c_Vxy_1 := Vxy_7.out.cell 1 _ rfl
      have lt_Vxy := Vxy_7.out.lt
      go_wp2_with fail
      refine (Calls.mono (LinK.eq_same _ _ _ _ T.1 G W cg cw T.2 _ (Og.out.below ((Below.refl w7.heap.size w7).alloc (by first | (simp; done) | (simp; omega)) (Obj.cells #[Value.int .i64 T.1, Value.slice G T.2.length cg] 29))).1 (Ow_7.out.below ((Below.refl w7.heap.size w7).alloc (by first | (simp; done) | (simp; omega)) (Obj.cells #[Value.int .i64 T.1, Value.slice G T.2.length cg] 29))).1 (by omega))) ?_
      rintro e w8 ⟨rfl, b8⟩
      have hs8 : (w7.alloc (Obj.cells #[Value.int .i64 T.1, Value.slice G T.2.length cg] 29)).heap.size ≤ w8.heap.size := b8.size
      simp only [World.size_alloc] at hs8
      have d8 : Below w7.heap.size w7 w8 := ((Below.refl w7.heap.size w7).alloc (by first | (simp; done) | (simp; omega)) (Obj.cells #[Value.int .i64 T.1, Value.slice G T.2.length cg] 29)).trans (b8.mono (show w7.heap.size ≤ (w7.alloc (Obj.cells #[Value.int .i64 T.1, Value.slice G T.2.length cg] 29)).heap.size by first | exact Nat.le_refl _ | (simp; done) | (simp; omega)))
      have B8 := Lib.hid (B7.out.trans (d8.mono B7.out.size))
      have Vby_8 := Lib.hid (Vby_7.out.below d8)
      have Ow_8 := Lib.hid (Ow_7.out.below d8)
      have Vw_8 := Lib.hid (Vw_7.out.below d8)
      have Oxy_8 := Lib.hid (Oxy_7.out.below d8)
      have Vxy_8 := Lib.hid (Vxy_7.out.below d8)
      have Oxv_8 := Lib.hid (Oxv_7.out.below d8)
      have Og_8 := Lib.hid (Og.out.below d8)
      have Vg_8 := Lib.hid ((Lvar.new w7 #[Value.int .i64 T.1, Value.slice G T.2.length cg] 29).below b8)
      clear Vby_7 Ow_7 Vw_7 Oxy_7 Vxy_7 Oxv_7 Og c_Vby_0 c_Vby_1 lt_Vby c_Vw_0 c_Vw_1 lt_Vw c_Vxy_0 c_Vxy_1 lt_Vxy b8 d8
      have c_Vby_0 := Vby_8.out.cell 0 _ rfl
      have c_Vby_1 := Vby_8.out.cell 1 _ rfl
      have lt_Vby := Vby_8.out.lt
      have c_Vw_0 := Vw_8.out.cell 0 _ rfl
      have c_Vw_1 := Vw_8.out.cell 1 _ rfl
      have lt_Vw := Vw_8.out.lt
      have c_Vxy_0 := Vxy_8.out.cell 0 _ rfl
      have c_Vxy_1 := Vxy_8.out.cell 1 _ rfl
      have lt_Vxy := Vxy_8.out.lt
      have c_Vg_0 := Vg_8.out.cell 0 _ rfl
      have c_Vg_1 := Vg_8.out.cell 1 _ rfl
      have lt_Vg := Vg_8.out.lt
      go_wp2_with fail
      go_region_held3 (fun w' => w'.cell? ⟨w5.heap.size, 0, none⟩ = some (Value.int .i64 ny) ∧ w'.cell? ⟨w5.heap.size, 1, none⟩ = some (Value.slice Xy y.length y.length) ∧ w'.cell? ⟨w0.heap.size, 0, none⟩ = some (Value.int .i64 ny) ∧ w'.cell? ⟨w0.heap.size, 1, none⟩ = some (Value.slice Ay y.length cy))
        (first | exact ⟨(((Vxy_8.out.below (Below.refl _ _).drew).below b9).below b10).cell 0 _ rfl, (((Vxy_8.out.below (Below.refl _ _).drew).below b9).below b10).cell 1 _ rfl, (((Vby_8.out.below (Below.refl _ _).drew).below b9).below b10).cell 0 _ rfl, (((Vby_8.out.below (Below.refl _ _).drew).below b9).below b10).cell 1 _ rfl⟩ | exact ⟨((Vxy_8.out.below (Below.refl _ _).drew).below b9).cell 0 _ rfl, ((Vxy_8.out.below (Below.refl _ _).drew).below b9).cell 1 _ rfl, ((Vby_8.out.below (Below.refl _ _).drew).below b9).cell 0 _ rfl, ((Vby_8.out.below (Below.refl _ _).drew).below b9).cell 1 _ rfl⟩ | go_keep)
        (first
          | (go_at_call 31; refine (Calls.mono (SysK.copy ny Ay cy y _ (hy.below B8.out.drew) hny)) ?_; rintro e w9 ⟨C8, rfl, oc8, b9⟩)
          | (go_at_call 33; refine (Calls.mono (SysK.eq_same ny Xy C8 y.length y.length y _ ((Oxy_8.out.below (Below.refl _ _).drew).below b9).arg oc8.arg hny)) ?_; rintro e w10 ⟨rfl, b10⟩))
      have h9 : w8.heap.size ≤ w9.heap.size := b9.size
      have h10 : w9.heap.size ≤ w10.heap.size := b10.size
      have d10 : Below w8.heap.size w8 w10 := (((Below.refl w8.heap.size w8).drew.trans (b9.mono (show w8.heap.size ≤ w8.heap.size by omega))).trans (b10.mono (show w8.heap.size ≤ w9.heap.size by omega)))
      have hs10 := d10.size
      have B10 := Lib.hid (B8.out.trans (d10.mono B8.out.size))
      have Vby_10 := Lib.hid (Vby_8.out.below d10)
      have Ow_10 := Lib.hid (Ow_8.out.below d10)
      have Vw_10 := Lib.hid (Vw_8.out.below d10)
      have Oxy_10 := Lib.hid (Oxy_8.out.below d10)
      have Vxy_10 := Lib.hid (Vxy_8.out.below d10)
      have Oxv_10 := Lib.hid (Oxv_8.out.below d10)
      have Og_10 := Lib.hid (Og_8.out.below d10)
      have Vg_10 := Lib.hid (Vg_8.out.below d10)
      clear Vby_8 Ow_8 Vw_8 Oxy_8 Vxy_8 Oxv_8 Og_8 Vg_8 c_Vby_0 c_Vby_1 lt_Vby c_Vw_0 c_Vw_1 lt_Vw c_Vxy_0 c_Vxy_1 lt_Vxy c_Vg_0 c_Vg_1 lt_Vg b9 h9 b10 h10 d10
      clear oc8
      have c_Vby_0 := Vby_10.out.cell 0 _ rfl
      have c_Vby_1 := Vby_10.out.cell 1 _ rfl
      have lt_Vby := Vby_10.out.lt
      have c_Vw_0 := Vw_10.out.cell 0 _ rfl
      have c_Vw_1 := Vw_10.out.cell 1 _ rfl
      have lt_Vw := Vw_10.out.lt
      have c_Vxy_0 := Vxy_10.out.cell 0 _ rfl
      have c_Vxy_1 := Vxy_10.out.cell 1 _ rfl
      have lt_Vxy := Vxy_10.out.lt
      have c_Vg_0 := Vg_10.out.cell 0 _ rfl
      have c_Vg_1 := Vg_10.out.cell 1 _ rfl
      have lt_Vg := Vg_10.out.lt
      go_wp2_with fail
      refine (Calls.mono (IntK.copy 0 w0.heap.size Av cv v _ (hv.below B10.out) hnv)) ?_
      rintro e w11 ⟨Ev, rfl, rexv, fexv, b11⟩
      have hs11 : w10.heap.size ≤ w11.heap.size := b11.size
      have d11 : Below w10.heap.size w10 w11 := (Below.refl w10.heap.size w10).trans (b11.mono (show w10.heap.size ≤ w10.heap.size by first | exact Nat.le_refl _ | (simp; done) | (simp; omega)))
      have B11 := Lib.hid (B10.out.trans (d11.mono B10.out.size))
      have Vby_11 := Lib.hid (Vby_10.out.below d11)
      have Ow_11 := Lib.hid (Ow_10.out.below d11)
      have Vw_11 := Lib.hid (Vw_10.out.below d11)
      have Oxy_11 := Lib.hid (Oxy_10.out.below d11)
      have Vxy_11 := Lib.hid (Vxy_10.out.below d11)
      have Oxv_11 := Lib.hid (Oxv_10.out.below d11)
      have Og_11 := Lib.hid (Og_10.out.below d11)
      have Vg_11 := Lib.hid (Vg_10.out.below d11)
      clear Vby_10 Ow_10 Vw_10 Oxy_10 Vxy_10 Oxv_10 Og_10 Vg_10 c_Vby_0 c_Vby_1 lt_Vby c_Vw_0 c_Vw_1 lt_Vw c_Vxy_0 c_Vxy_1 lt_Vxy c_Vg_0 c_Vg_1 lt_Vg b11 d11
      have c_Vby_0 := Vby_11.out.cell 0 _ rfl
      have c_Vby_1 := Vby_11.out.cell 1 _ rfl
      have lt_Vby := Vby_11.out.lt
      have c_Vw_0 := Vw_11.out.cell 0 _ rfl
      have c_Vw_1 := Vw_11.out.cell 1 _ rfl
      have lt_Vw := Vw_11.out.lt
      have c_Vxy_0 := Vxy_11.out.cell 0 _ rfl
      have c_Vxy_1 := Vxy_11.out.cell 1 _ rfl
      have lt_Vxy := Vxy_11.out.lt
      have c_Vg_0 := Vg_11.out.cell 0 _ rfl
      have c_Vg_1 := Vg_11.out.cell 1 _ rfl
      have lt_Vg := Vg_11.out.lt
      go_wp2_with fail
      refine (Calls.mono (IntK.eq_same _ _ _ _ Xv Ev v.length v.length v _ Oxv_11.out.1 rexv (by omega))) ?_
      rintro e w12 ⟨rfl, b12⟩
      have hs12 : w11.heap.size ≤ w12.heap.size := b12.size
      have d12 : Below w11.heap.size w11 w12 := (Below.refl w11.heap.size w11).trans (b12.mono (show w11.heap.size ≤ w11.heap.size by first | exact Nat.le_refl _ | (simp; done) | (simp; omega)))
      have B12 := Lib.hid (B11.out.trans (d12.mono B11.out.size))
      have Vby_12 := Lib.hid (Vby_11.out.below d12)
      have Ow_12 := Lib.hid (Ow_11.out.below d12)
      have Vw_12 := Lib.hid (Vw_11.out.below d12)
      have Oxy_12 := Lib.hid (Oxy_11.out.below d12)
      have Vxy_12 := Lib.hid (Vxy_11.out.below d12)
      have Oxv_12 := Lib.hid (Oxv_11.out.below d12)
      have Og_12 := Lib.hid (Og_11.out.below d12)
      have Vg_12 := Lib.hid (Vg_11.out.below d12)
      clear Vby_11 Ow_11 Vw_11 Oxy_11 Vxy_11 Oxv_11 Og_11 Vg_11 c_Vby_0 c_Vby_1 lt_Vby c_Vw_0 c_Vw_1 lt_Vw c_Vxy_0 c_Vxy_1 lt_Vxy c_Vg_0 c_Vg_1 lt_Vg b12 d12
      have c_Vby_0 := Vby_12.out.cell 0 _ rfl
      have c_Vby_1 := Vby_12.out.cell 1 _ rfl
      have lt_Vby := Vby_12.out.lt
      have c_Vw_0 := Vw_12.out.cell 0 _ rfl
      have c_Vw_1 := Vw_12.out.cell 1 _ rfl
      have lt_Vw := Vw_12.out.lt
      have c_Vxy_0 := Vxy_12.out.cell 0 _ rfl
      have c_Vxy_1 := Vxy_12.out.cell 1 _ rfl
      have lt_Vxy := Vxy_12.out.lt
      have c_Vg_0 := Vg_12.out.cell 0 _ rfl
      have c_Vg_1 := Vg_12.out.cell 1 _ rfl
      have lt_Vg := Vg_12.out.lt
      go_wp2_with fail
      refine (Calls.mono (SysK.mark (w4.heap.size + 1) w5.heap.size ny Xy y.length 1 y _ Oxy_12.out hny (by omega))) ?_
      rintro e w13 ⟨rfl, rm, b13⟩
      have hs13 := b13.size
      have B13 := Lib.hid (below_mod B12.out b13 (by have := B12.out.size; omega) B12.out.size)
      have Vby_13 := Lib.hid (Vby_12.out.keep b13 (by omega))
      have Ow_13 := Lib.hid (Ow_12.out.keep b13 (by omega))
      have Vw_13 := Lib.hid (Vw_12.out.keep b13 (by omega))
      have Vxy_13 := Lib.hid (Vxy_12.out.keep b13 (by omega))
      have Oxv_13 := Lib.hid (Oxv_12.out.keep b13 (by omega))
      have Og_13 := Lib.hid (Og_12.out.keep b13 (by omega))
      have Vg_13 := Lib.hid (Vg_12.out.keep b13 (by omega))
      clear Vby_12 Ow_12 Vw_12 Vxy_12 Oxv_12 Og_12 Vg_12 c_Vby_0 c_Vby_1 lt_Vby c_Vw_0 c_Vw_1 lt_Vw c_Vxy_0 c_Vxy_1 lt_Vxy c_Vg_0 c_Vg_1 lt_Vg b13
      clear rm Oxy_12
      have c_Vby_0 := Vby_13.out.cell 0 _ rfl
      have c_Vby_1 := Vby_13.out.cell 1 _ rfl
      have lt_Vby := Vby_13.out.lt
      have c_Vw_0 := Vw_13.out.cell 0 _ rfl
      have c_Vw_1 := Vw_13.out.cell 1 _ rfl
      have lt_Vw := Vw_13.out.lt
      have c_Vxy_0 := Vxy_13.out.cell 0 _ rfl
      have c_Vxy_1 := Vxy_13.out.cell 1 _ rfl
      have lt_Vxy := Vxy_13.out.lt
      have c_Vg_0 := Vg_13.out.cell 0 _ rfl
      have c_Vg_1 := Vg_13.out.cell 1 _ rfl
      have lt_Vg := Vg_13.out.lt
      go_wp2_with fail
      refine (Calls.mono (markInts (w5.heap.size + 1) w6.heap.size Xv v.length (Mem.linsSize y) v _ Oxv_13.out (by omega) hnv)) ?_
      rintro e w14 ⟨rfl, rm, b14⟩
      have hs14 := b14.size
      have B14 := Lib.hid (below_mod B13.out b14 (by have := B13.out.size; omega) B13.out.size)
      have Vby_14 := Lib.hid (Vby_13.out.keep b14 (by omega))
      have Ow_14 := Lib.hid (Ow_13.out.keep b14 (by omega))
      have Vw_14 := Lib.hid (Vw_13.out.keep b14 (by omega))
      have Vxy_14 := Lib.hid (Vxy_13.out.keep b14 (by omega))
      have Og_14 := Lib.hid (Og_13.out.keep b14 (by omega))
      have Vg_14 := Lib.hid (Vg_13.out.keep b14 (by omega))
      clear Vby_13 Ow_13 Vw_13 Vxy_13 Og_13 Vg_13 c_Vby_0 c_Vby_1 lt_Vby c_Vw_0 c_Vw_1 lt_Vw c_Vxy_0 c_Vxy_1 lt_Vxy c_Vg_0 c_Vg_1 lt_Vg b14
      clear rm Oxv_13
      have c_Vby_0 := Vby_14.out.cell 0 _ rfl
      have c_Vby_1 := Vby_14.out.cell 1 _ rfl
      have lt_Vby := Vby_14.out.lt
      have c_Vw_0 := Vw_14.out.cell 0 _ rfl
      have c_Vw_1 := Vw_14.out.cell 1 _ rfl
      have lt_Vw := Vw_14.out.lt
      have c_Vxy_0 := Vxy_14.out.cell 0 _ rfl
      have c_Vxy_1 := Vxy_14.out.cell 1 _ rfl
      have lt_Vxy := Vxy_14.out.lt
      have c_Vg_0 := Vg_14.out.cell 0 _ rfl
      have c_Vg_1 := Vg_14.out.cell 1 _ rfl
      have lt_Vg := Vg_14.out.lt
      go_wp2_with fail
      refine (Calls.mono (LinK.eq_same _ _ _ _ T.1 G W cg cw T.2 _ Og_14.out.1 Ow_14.out.1 (by omega))) ?_
      rintro e w15 ⟨rfl, b15⟩
      have hs15 : w14.heap.size ≤ w15.heap.size := b15.size
      have d15 : Below w14.heap.size w14 w15 := (Below.refl w14.heap.size w14).trans (b15.mono (show w14.heap.size ≤ w14.heap.size by first | exact Nat.le_refl _ | (simp; done) | (simp; omega)))
      have B15 := Lib.hid (B14.out.trans (d15.mono B14.out.size))
      have Vby_15 := Lib.hid (Vby_14.out.below d15)
      have Ow_15 := Lib.hid (Ow_14.out.below d15)
      have Vw_15 := Lib.hid (Vw_14.out.below d15)
      have Vxy_15 := Lib.hid (Vxy_14.out.below d15)
      have Og_15 := Lib.hid (Og_14.out.below d15)
      have Vg_15 := Lib.hid (Vg_14.out.below d15)
      clear Vby_14 Ow_14 Vw_14 Vxy_14 Og_14 Vg_14 c_Vby_0 c_Vby_1 lt_Vby c_Vw_0 c_Vw_1 lt_Vw c_Vxy_0 c_Vxy_1 lt_Vxy c_Vg_0 c_Vg_1 lt_Vg b15 d15
      have c_Vby_0 := Vby_15.out.cell 0 _ rfl
      have c_Vby_1 := Vby_15.out.cell 1 _ rfl
      have lt_Vby := Vby_15.out.lt
      have c_Vw_0 := Vw_15.out.cell 0 _ rfl
      have c_Vw_1 := Vw_15.out.cell 1 _ rfl
      have lt_Vw := Vw_15.out.lt
      have c_Vxy_0 := Vxy_15.out.cell 0 _ rfl
      have c_Vxy_1 := Vxy_15.out.cell 1 _ rfl
      have lt_Vxy := Vxy_15.out.lt
      have c_Vg_0 := Vg_15.out.cell 0 _ rfl
      have c_Vg_1 := Vg_15.out.cell 1 _ rfl
      have lt_Vg := Vg_15.out.lt
      go_wp2_with fail
      refine (Calls.mono (LinK.mark1 (w6.heap.size) w7.heap.size T.1 G cg T.2 _ Og_15.out (by omega))) ?_
      rintro e w16 ⟨rfl, rm, b16⟩
      have hs16 := b16.size
      have B16 := Lib.hid (below_mod B15.out b16 (by have := B15.out.size; omega) B15.out.size)
      have Vby_16 := Lib.hid (Vby_15.out.keep b16 (by omega))
      have Ow_16 := Lib.hid (Ow_15.out.keep b16 (by omega))
      have Vw_16 := Lib.hid (Vw_15.out.keep b16 (by omega))
      have Vxy_16 := Lib.hid (Vxy_15.out.keep b16 (by omega))
      have Vg_16 := Lib.hid (Vg_15.out.keep b16 (by omega))
      clear Vby_15 Ow_15 Vw_15 Vxy_15 Vg_15 c_Vby_0 c_Vby_1 lt_Vby c_Vw_0 c_Vw_1 lt_Vw c_Vxy_0 c_Vxy_1 lt_Vxy c_Vg_0 c_Vg_1 lt_Vg b16
      have Rg := Lib.hid rm
      clear rm Og_15
      have c_Vby_0 := Vby_16.out.cell 0 _ rfl
      have c_Vby_1 := Vby_16.out.cell 1 _ rfl
      have lt_Vby := Vby_16.out.lt
      have c_Vw_0 := Vw_16.out.cell 0 _ rfl
      have c_Vw_1 := Vw_16.out.cell 1 _ rfl
      have lt_Vw := Vw_16.out.lt
      have c_Vxy_0 := Vxy_16.out.cell 0 _ rfl
      have c_Vxy_1 := Vxy_16.out.cell 1 _ rfl
      have lt_Vxy := Vxy_16.out.lt
      have c_Vg_0 := Vg_16.out.cell 0 _ rfl
      have c_Vg_1 := Vg_16.out.cell 1 _ rfl
      have lt_Vg := Vg_16.out.lt
      go_wp2_with fail
      refine (Calls.mono (LinK.held1 _ _ T.1 G cg T.2.length _ Rg.out (by omega))) ?_
      rintro e w17 ⟨rfl, b17⟩
      have hs17 : w16.heap.size ≤ w17.heap.size := b17.size
      have d17 : Below w16.heap.size w16 w17 := (Below.refl w16.heap.size w16).trans (b17.mono (show w16.heap.size ≤ w16.heap.size by first | exact Nat.le_refl _ | (simp; done) | (simp; omega)))
      have B17 := Lib.hid (B16.out.trans (d17.mono B16.out.size))
      have Vby_17 := Lib.hid (Vby_16.out.below d17)
      have Ow_17 := Lib.hid (Ow_16.out.below d17)
      have Vw_17 := Lib.hid (Vw_16.out.below d17)
      have Vxy_17 := Lib.hid (Vxy_16.out.below d17)
      have Vg_17 := Lib.hid (Vg_16.out.below d17)
      have Rg_17 := Lib.hid (Rg.out.below d17)
      clear Vby_16 Ow_16 Vw_16 Vxy_16 Vg_16 Rg c_Vby_0 c_Vby_1 lt_Vby c_Vw_0 c_Vw_1 lt_Vw c_Vxy_0 c_Vxy_1 lt_Vxy c_Vg_0 c_Vg_1 lt_Vg b17 d17
      have c_Vby_0 := Vby_17.out.cell 0 _ rfl
      have c_Vby_1 := Vby_17.out.cell 1 _ rfl
      have lt_Vby := Vby_17.out.lt
      have c_Vw_0 := Vw_17.out.cell 0 _ rfl
      have c_Vw_1 := Vw_17.out.cell 1 _ rfl
      have lt_Vw := Vw_17.out.lt
      have c_Vxy_0 := Vxy_17.out.cell 0 _ rfl
      have c_Vxy_1 := Vxy_17.out.cell 1 _ rfl
      have lt_Vxy := Vxy_17.out.lt
      have c_Vg_0 := Vg_17.out.cell 0 _ rfl
      have c_Vg_1 := Vg_17.out.cell 1 _ rfl
      have lt_Vg := Vg_17.out.lt
      go_wp2_with fail
      refine (Calls.mono (SysK.copy ny Ay cy y _ (hy.below B17.out) hny)) ?_
      rintro e w18 ⟨Uy, rfl, ouy, b18⟩
      have Ouy := Lib.hid (show SysK.Own (w17.heap.size) w18.heap.size w18 Uy y.length y.length y from ouy)
      have hs18 : w17.heap.size ≤ w18.heap.size := b18.size
      have d18 : Below w17.heap.size w17 w18 := (Below.refl w17.heap.size w17).trans (b18.mono (show w17.heap.size ≤ w17.heap.size by first | exact Nat.le_refl _ | (simp; done) | (simp; omega)))
      have B18 := Lib.hid (B17.out.trans (d18.mono B17.out.size))
      have Vby_18 := Lib.hid (Vby_17.out.below d18)
      have Ow_18 := Lib.hid (Ow_17.out.below d18)
      have Vw_18 := Lib.hid (Vw_17.out.below d18)
      have Vxy_18 := Lib.hid (Vxy_17.out.below d18)
      have Vg_18 := Lib.hid (Vg_17.out.below d18)
      have Rg_18 := Lib.hid (Rg_17.out.below d18)
      clear Vby_17 Ow_17 Vw_17 Vxy_17 Vg_17 Rg_17 c_Vby_0 c_Vby_1 lt_Vby c_Vw_0 c_Vw_1 lt_Vw c_Vxy_0 c_Vxy_1 lt_Vxy c_Vg_0 c_Vg_1 lt_Vg b18 d18
      have c_Vby_0 := Vby_18.out.cell 0 _ rfl
      have c_Vby_1 := Vby_18.out.cell 1 _ rfl
      have lt_Vby := Vby_18.out.lt
      have c_Vw_0 := Vw_18.out.cell 0 _ rfl
      have c_Vw_1 := Vw_18.out.cell 1 _ rfl
      have lt_Vw := Vw_18.out.lt
      have c_Vxy_0 := Vxy_18.out.cell 0 _ rfl
      have c_Vxy_1 := Vxy_18.out.cell 1 _ rfl
      have lt_Vxy := Vxy_18.out.lt
      have c_Vg_0 := Vg_18.out.cell 0 _ rfl
      have c_Vg_1 := Vg_18.out.cell 1 _ rfl
      have lt_Vg := Vg_18.out.lt
      go_wp2_with fail
      refine (Calls.mono (IntK.copy 0 w0.heap.size Av cv v _ (hv.below B18.out) hnv)) ?_
      rintro e w19 ⟨Uv, rfl, ruv, fuv, b19⟩
      have Ouv := Lib.hid (show IntK.Own (w18.heap.size) w19.heap.size w19 Uv v from ⟨ruv, fuv⟩)
      have hs19 : w18.heap.size ≤ w19.heap.size := b19.size
      have d19 : Below w18.heap.size w18 w19 := (Below.refl w18.heap.size w18).trans (b19.mono (show w18.heap.size ≤ w18.heap.size by first | exact Nat.le_refl _ | (simp; done) | (simp; omega)))
      have B19 := Lib.hid (B18.out.trans (d19.mono B18.out.size))
      have Vby_19 := Lib.hid (Vby_18.out.below d19)
      have Ow_19 := Lib.hid (Ow_18.out.below d19)
      have Vw_19 := Lib.hid (Vw_18.out.below d19)
      have Vxy_19 := Lib.hid (Vxy_18.out.below d19)
      have Vg_19 := Lib.hid (Vg_18.out.below d19)
      have Rg_19 := Lib.hid (Rg_18.out.below d19)
      have Ouy_19 := Lib.hid (Ouy.out.below d19)
      clear Vby_18 Ow_18 Vw_18 Vxy_18 Vg_18 Rg_18 Ouy c_Vby_0 c_Vby_1 lt_Vby c_Vw_0 c_Vw_1 lt_Vw c_Vxy_0 c_Vxy_1 lt_Vxy c_Vg_0 c_Vg_1 lt_Vg b19 d19
      have c_Vby_0 := Vby_19.out.cell 0 _ rfl
      have c_Vby_1 := Vby_19.out.cell 1 _ rfl
      have lt_Vby := Vby_19.out.lt
      have c_Vw_0 := Vw_19.out.cell 0 _ rfl
      have c_Vw_1 := Vw_19.out.cell 1 _ rfl
      have lt_Vw := Vw_19.out.lt
      have c_Vxy_0 := Vxy_19.out.cell 0 _ rfl
      have c_Vxy_1 := Vxy_19.out.cell 1 _ rfl
      have lt_Vxy := Vxy_19.out.lt
      have c_Vg_0 := Vg_19.out.cell 0 _ rfl
      have c_Vg_1 := Vg_19.out.cell 1 _ rfl
      have lt_Vg := Vg_19.out.lt
      go_wp2_with fail
      refine (Calls.mono (IM.out Uy Uv y.length v.length _ _ _ Ouy_19.out.arg Ouv.out.1)) ?_
      rintro e w20 ⟨H, ch, rfl, rh, fh, b20⟩
      have Oh := Lib.hid (show IntK.Own (w19.heap.size) w20.heap.size w20 H T.2 from ⟨rh, fh⟩)
      have hs20 : w19.heap.size ≤ w20.heap.size := b20.size
      have d20 : Below w19.heap.size w19 w20 := (Below.refl w19.heap.size w19).trans (b20.mono (show w19.heap.size ≤ w19.heap.size by first | exact Nat.le_refl _ | (simp; done) | (simp; omega)))
      have B20 := Lib.hid (B19.out.trans (d20.mono B19.out.size))
      have Vby_20 := Lib.hid (Vby_19.out.below d20)
      have Ow_20 := Lib.hid (Ow_19.out.below d20)
      have Vw_20 := Lib.hid (Vw_19.out.below d20)
      have Vxy_20 := Lib.hid (Vxy_19.out.below d20)
      have Vg_20 := Lib.hid (Vg_19.out.below d20)
      have Rg_20 := Lib.hid (Rg_19.out.below d20)
      have Ouy_20 := Lib.hid (Ouy_19.out.below d20)
      have Ouv_20 := Lib.hid (Ouv.out.below d20)
      clear Vby_19 Ow_19 Vw_19 Vxy_19 Vg_19 Rg_19 Ouy_19 Ouv c_Vby_0 c_Vby_1 lt_Vby c_Vw_0 c_Vw_1 lt_Vw c_Vxy_0 c_Vxy_1 lt_Vxy c_Vg_0 c_Vg_1 lt_Vg b20 d20
      clear Ouy_20
      clear Ouv_20
      have c_Vby_0 := Vby_20.out.cell 0 _ rfl
      have c_Vby_1 := Vby_20.out.cell 1 _ rfl
      have lt_Vby := Vby_20.out.lt
      have c_Vw_0 := Vw_20.out.cell 0 _ rfl
      have c_Vw_1 := Vw_20.out.cell 1 _ rfl
      have lt_Vw := Vw_20.out.lt
      have c_Vxy_0 := Vxy_20.out.cell 0 _ rfl
      have c_Vxy_1 := Vxy_20.out.cell 1 _ rfl
      have lt_Vxy := Vxy_20.out.lt
      have c_Vg_0 := Vg_20.out.cell 0 _ rfl
      have c_Vg_1 := Vg_20.out.cell 1 _ rfl
      have lt_Vg := Vg_20.out.lt
      go_wp2_with fail
      refine (Calls.mono (LinK.eq_same _ _ _ _ T.1 H W ch cw T.2 _ (Oh.out.below ((Below.refl w20.heap.size w20).alloc (by first | (simp; done) | (simp; omega)) (Obj.cells #[Value.int .i64 T.1, Value.slice H T.2.length ch] 29))).1 (Ow_20.out.below ((Below.refl w20.heap.size w20).alloc (by first | (simp; done) | (simp; omega)) (Obj.cells #[Value.int .i64 T.1, Value.slice H T.2.length ch] 29))).1 (by omega))) ?_
      rintro e w21 ⟨rfl, b21⟩
      have hs21 : (w20.alloc (Obj.cells #[Value.int .i64 T.1, Value.slice H T.2.length ch] 29)).heap.size ≤ w21.heap.size := b21.size
      simp only [World.size_alloc] at hs21
      have d21 : Below w20.heap.size w20 w21 := ((Below.refl w20.heap.size w20).alloc (by first | (simp; done) | (simp; omega)) (Obj.cells #[Value.int .i64 T.1, Value.slice H T.2.length ch] 29)).trans (b21.mono (show w20.heap.size ≤ (w20.alloc (Obj.cells #[Value.int .i64 T.1, Value.slice H T.2.length ch] 29)).heap.size by first | exact Nat.le_refl _ | (simp; done) | (simp; omega)))
      have B21 := Lib.hid (B20.out.trans (d21.mono B20.out.size))
      have Vby_21 := Lib.hid (Vby_20.out.below d21)
      have Ow_21 := Lib.hid (Ow_20.out.below d21)
      have Vw_21 := Lib.hid (Vw_20.out.below d21)
      have Vxy_21 := Lib.hid (Vxy_20.out.below d21)
      have Vg_21 := Lib.hid (Vg_20.out.below d21)
      have Rg_21 := Lib.hid (Rg_20.out.below d21)
      have Oh_21 := Lib.hid (Oh.out.below d21)
      have Vh_21 := Lib.hid ((Lvar.new w20 #[Value.int .i64 T.1, Value.slice H T.2.length ch] 29).below b21)
      clear Vby_20 Ow_20 Vw_20 Vxy_20 Vg_20 Rg_20 Oh c_Vby_0 c_Vby_1 lt_Vby c_Vw_0 c_Vw_1 lt_Vw c_Vxy_0 c_Vxy_1 lt_Vxy c_Vg_0 c_Vg_1 lt_Vg b21 d21
      have c_Vby_0 := Vby_21.out.cell 0 _ rfl
      have c_Vby_1 := Vby_21.out.cell 1 _ rfl
      have lt_Vby := Vby_21.out.lt
      have c_Vw_0 := Vw_21.out.cell 0 _ rfl
      have c_Vw_1 := Vw_21.out.cell 1 _ rfl
      have lt_Vw := Vw_21.out.lt
      have c_Vxy_0 := Vxy_21.out.cell 0 _ rfl
      have c_Vxy_1 := Vxy_21.out.cell 1 _ rfl
      have lt_Vxy := Vxy_21.out.lt
      have c_Vg_0 := Vg_21.out.cell 0 _ rfl
      have c_Vg_1 := Vg_21.out.cell 1 _ rfl
      have lt_Vg := Vg_21.out.lt
      have c_Vh_0 := Vh_21.out.cell 0 _ rfl
      have c_Vh_1 := Vh_21.out.cell 1 _ rfl
      have lt_Vh := Vh_21.out.lt
      go_wp2_with fail
      refine (Calls.mono (LinK.held1 _ _ T.1 G cg T.2.length _ Rg_21.out (by omega))) ?_
      rintro e w22 ⟨rfl, b22⟩
      have hs22 : w21.heap.size ≤ w22.heap.size := b22.size
      have d22 : Below w21.heap.size w21 w22 := (Below.refl w21.heap.size w21).trans (b22.mono (show w21.heap.size ≤ w21.heap.size by first | exact Nat.le_refl _ | (simp; done) | (simp; omega)))
      have B22 := Lib.hid (B21.out.trans (d22.mono B21.out.size))
      have Vby_22 := Lib.hid (Vby_21.out.below d22)
      have Ow_22 := Lib.hid (Ow_21.out.below d22)
      have Vw_22 := Lib.hid (Vw_21.out.below d22)
      have Vxy_22 := Lib.hid (Vxy_21.out.below d22)
      have Vg_22 := Lib.hid (Vg_21.out.below d22)
      have Rg_22 := Lib.hid (Rg_21.out.below d22)
      have Oh_22 := Lib.hid (Oh_21.out.below d22)
      have Vh_22 := Lib.hid (Vh_21.out.below d22)
      clear Vby_21 Ow_21 Vw_21 Vxy_21 Vg_21 Rg_21 Oh_21 Vh_21 c_Vby_0 c_Vby_1 lt_Vby c_Vw_0 c_Vw_1 lt_Vw c_Vxy_0 c_Vxy_1 lt_Vxy c_Vg_0 c_Vg_1 lt_Vg c_Vh_0 c_Vh_1 lt_Vh b22 d22
      have c_Vby_0 := Vby_22.out.cell 0 _ rfl
      have c_Vby_1 := Vby_22.out.cell 1 _ rfl
      have lt_Vby := Vby_22.out.lt
      have c_Vw_0 := Vw_22.out.cell 0 _ rfl
      have c_Vw_1 := Vw_22.out.cell 1 _ rfl
      have lt_Vw := Vw_22.out.lt
      have c_Vxy_0 := Vxy_22.out.cell 0 _ rfl
      have c_Vxy_1 := Vxy_22.out.cell 1 _ rfl
      have lt_Vxy := Vxy_22.out.lt
      have c_Vg_0 := Vg_22.out.cell 0 _ rfl
      have c_Vg_1 := Vg_22.out.cell 1 _ rfl
      have lt_Vg := Vg_22.out.lt
      have c_Vh_0 := Vh_22.out.cell 0 _ rfl
      have c_Vh_1 := Vh_22.out.cell 1 _ rfl
      have lt_Vh := Vh_22.out.lt
      go_wp2
      go_ret
      exact ⟨rfl, B22.out⟩
    · simp only [if_neg hty] at SZ
      have HS0 := Lib.hid SZ
      clear SZ hleny hwfy
      have B0 := Lib.hid (Below.refl w0.heap.size w0)
      go_enter Try.func6, Try.ntmps6
      go_wp2_with fail
      refine (Calls.mono (HS0.out _ (hy.below (B0.out.trans (((Below.refl w0.heap.size w0).alloc (by first | (simp; done) | (simp; omega)) (Obj.cells #[Value.int .i64 ny, Value.slice Ay y.length cy] 52)).mono B0.out.size))))) ?_
      rintro e w1 ⟨rfl, b1⟩
      have hs1 : (w0.alloc (Obj.cells #[Value.int .i64 ny, Value.slice Ay y.length cy] 52)).heap.size ≤ w1.heap.size := b1.size
      simp only [World.size_alloc] at hs1
      have d1 : Below w0.heap.size w0 w1 := ((Below.refl w0.heap.size w0).alloc (by first | (simp; done) | (simp; omega)) (Obj.cells #[Value.int .i64 ny, Value.slice Ay y.length cy] 52)).trans (b1.mono (show w0.heap.size ≤ (w0.alloc (Obj.cells #[Value.int .i64 ny, Value.slice Ay y.length cy] 52)).heap.size by first | exact Nat.le_refl _ | (simp; done) | (simp; omega)))
      have B1 := Lib.hid (B0.out.trans (d1.mono B0.out.size))
      have Vby_1 := Lib.hid ((Lvar.new w0 #[Value.int .i64 ny, Value.slice Ay y.length cy] 52).below b1)
      clear b1 d1
      have c_Vby_0 := Vby_1.out.cell 0 _ rfl
      have c_Vby_1 := Vby_1.out.cell 1 _ rfl
      have lt_Vby := Vby_1.out.lt
      go_wp2
      go_ret
      exact ⟨rfl, B1.out⟩
  · go_enter Try.func6, Try.ntmps6
    go_wp2
    go_ret
    exact ⟨rfl, ((Below.refl _ _).alloc (by first | (simp; done) | (simp; omega)) _)⟩

set_option maxRecDepth 100000 in
theorem lifted (os : Os) (started : os.Started) (H : Type) (enc : TypeId × Value → H) :
    ReturnsInHanded {} Try.checked os 6 .any (Rows.fnExactCombineRowsSpec.pre6 enc Try.prog Try.f6 Rows.fnExactCombineRowsRow.domain false) (Rows.fnExactCombineRowsSpec.post enc Try.prog Try.f6 false true false false) := by
  refine returnsInHanded_of_change (C := Try.checked) Frame.own started (by kernel_rfl) Try.func6
    (ChangeSpec.witness6 (enc := enc) (C := Try.checked) false ⟨#[], #[.agg #[.int .i64 0, .slice none 0 0], .slice none 0 0], []⟩ 8 (by kernel_rfl) (by kernel_rfl) (by kernel_rfl) (by kernel_rfl)) ?_
  intro W base args ds gs before hval0 hW _ _
  have hW' := hW
  have hval : ∀ (j : Nat) t v, Try.f6.params[j]? = some t → args[j]? = some v → Value.okWide Try.prog W .any base t v := hval0
  obtain ⟨p, q, hA0, hV, rfl, hfz, hnd⟩ := hW
  have hA : DataW.TrodAll enc Try.prog W 0 (fun _ => true) true Try.f6.params.toList args.toList ds p := hA0
  rw [Try.params6] at hA hval
  obtain ⟨v0, v1, d0, d1, p0, p1, rfl, rfl, rfl, h0, h1⟩ := trodAll_two hA
  have hlt := fun x hx => hW'.lt x hx
  obtain ⟨rfl, rfl⟩ := trodVars_none hV
  obtain ⟨ny, ay, cy, fpy, y, rfl, wy, hry, hly, hsy⟩ := Frame.open_sys (W := W) isLin Try.underlying52 (by kernel_rfl) (by kernel_rfl) rfl rfl Try.underlying50 (hval 0 52 v0 rfl rfl) h0 (fun x hx => hlt x (by simp [hx]))
  obtain ⟨av, cv, v, rfl, hrv, hlv, hsv, hcv⟩ := Frame.open_ints_row (W := W) (by kernel_rfl) Try.underlying27 Try.underlying3 (hval 1 27 v1 rfl rfl) h1 (fun x hx => hlt x (by simp [hx]))
  refine (walk ny ay cy y av cv v W ⟨_, _, hry⟩ hly hsy hrv).mono fun e W' ⟨he, hb⟩ => ?_
  subst he
  exact ⟨_, rfl, Frame.law_post (tb := 4) Frame.laidOut (by kernel_rfl) (by kernel_rfl) (by kernel_rfl) Try.underlying4 hW' rfl hb⟩

theorem proved : Rows.FnExactCombineRowsSaid :=
  OpenClaim.holds_of_wide 6 Try.f6 rfl rfl rfl rfl rfl rfl rfl ⟨rfl, rfl, rfl, rfl, rfl⟩ rfl rfl rfl rfl rfl (by kernel_rfl) Try.func6 (by kernel_rfl)
    (of_decide_eq_true (by kernel_rfl)) (by unfold Func.isWrapper; first | (rw [if_pos (by decide +kernel)]; kernel_rfl) | (rw [if_neg (by decide +kernel)]; exact ⟨rfl, rfl⟩))
    (fun os started H enc _ => lifted os started H enc)
end LawCombineRows
end Go.Proofs.Ytnbgmhlhbcoicaa
