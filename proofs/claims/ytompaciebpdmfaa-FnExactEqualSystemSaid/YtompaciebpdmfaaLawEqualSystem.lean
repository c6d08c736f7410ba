import Derived.Test.YtompaciebpdmfaaRows
import Derived.Test.YtompaciebpdmfaaFrame
import Derived.Test.YtompaciebpdmfaaFrameSys
import Derived.Test.YtompaciebpdmfaaSysOwn
import Derived.Deep.RegionHeld3
import Derived.Test.YtompaciebpdmfaaSysImpl3
import Derived.SliceStrings
/- At every two systems, impl.EqualSystem answers as its model and writes nothing into its arguments: the law FnExactEqualSystem returns true. There is no condition. -/
namespace Go.Proofs.Ytompaciebpdmfaa
open Go.ChangeShapes Go.WideShapes Go.ChangeAt Go.RowKit
open Go.ChangeMaps (open_string shut_string)
namespace LawEqualSystem
theorem isLin : Frame.IsLin Try.prog 49 3 27 :=
  ⟨⟨_, _, Try.underlying49, rfl, rfl, rfl, rfl⟩, Try.underlying3, Try.underlying27, by kernel_rfl, by kernel_rfl, by kernel_rfl⟩

open RowK
set_option maxHeartbeats 4000000 in
set_option maxRecDepth 100000 in
theorem walk (ns : Int) (As : Option Addr) (cs : Nat) (s : List (Int × List Int)) (nr : Int) (Ar : Option Addr) (cr : Nat) (r : List (Int × List Int)) (w0 : World) (hs : SysK.Arg w0 As s.length cs s) (hlens : s.length ≤ 9223372036854775807) (hwfs : ∀ x ∈ s, Frame.WfLin x) (hr : SysK.Arg w0 Ar r.length cr r) (hlenr : r.length ≤ 9223372036854775807) (hwfr : ∀ x ∈ r, Frame.WfLin x) :
    Calls Try.prog 7 #[.agg #[.int .i64 ns, .slice As s.length cs], .agg #[.int .i64 nr, .slice Ar r.length cr]] w0 fun e w' => e = .returned (.bool true) ∧ Below w0.heap.size w0 w' := by
  have SZ := fun W (h : SysK.Arg W As s.length cs s) => SysK.size ns As cs 1048576 s W h (by omega) hlens (fun x hx => (hwfs x hx).2.1)
  unfold IntK.leftOf at SZ
  by_cases hts : Mem.linsSize s ≤ 1048576
  · simp only [if_pos hts] at SZ
    have HS := Lib.hid SZ
    have hns : Mem.linsSize s ≤ 1000000000 := by omega
    clear SZ hlens hwfs
    have hsub : ∃ t : Nat, t = 1048576 - Mem.linsSize s := ⟨_, rfl⟩
    obtain ⟨t, hte⟩ := hsub
    have htc : ((1048576 : Nat) : Int) - (Mem.linsSize s : Int) = (t : Int) := by omega
    have ht1 : t ≤ 1048576 := by omega
    rw [htc] at HS
    clear hte htc
    have SZ := fun W (h : SysK.Arg W Ar r.length cr r) => SysK.size nr Ar cr t r W h (by omega) hlenr (fun x hx => (hwfr x hx).2.1)
    unfold IntK.leftOf at SZ
    by_cases htr : Mem.linsSize r ≤ t
    · simp only [if_pos htr] at SZ
      have HS2 := Lib.hid SZ
      have hnr : Mem.linsSize r ≤ 1000000000 := by omega
      clear SZ hlenr hwfr
      have B0 := Lib.hid (Below.refl w0.heap.size w0)
      go_enter Try.func7, Try.ntmps7
      go_wp2_with fail
      refine (Calls.mono (HS.out _ (hs.below (B0.out.trans ((((Below.refl w0.heap.size w0).alloc (by first | (simp; done) | (simp; omega)) (Obj.cells #[Value.int .i64 ns, Value.slice As s.length cs] 42)).alloc (by first | (simp; done) | (simp; omega)) (Obj.cells #[Value.int .i64 nr, Value.slice Ar r.length cr] 42)).mono B0.out.size))))) ?_
      rintro e w1 ⟨rfl, b1⟩
      have hs1 : ((w0.alloc (Obj.cells #[Value.int .i64 ns, Value.slice As s.length cs] 42)).alloc (Obj.cells #[Value.int .i64 nr, Value.slice Ar r.length cr] 42)).heap.size ≤ w1.heap.size := b1.size
      simp only [World.size_alloc] at hs1
      have d1 : Below w0.heap.size w0 w1 := (((Below.refl w0.heap.size w0).alloc (by first | (simp; done) | (simp; omega)) (Obj.cells #[Value.int .i64 ns, Value.slice As s.length cs] 42)).alloc (by first | (simp; done) | (simp; omega)) (Obj.cells #[Value.int .i64 nr, Value.slice Ar r.length cr] 42)).trans (b1.mono (show w0.heap.size ≤ ((w0.alloc (Obj.cells #[Value.int .i64 ns, Value.slice As s.length cs] 42)).alloc (Obj.cells #[Value.int .i64 nr, Value.slice Ar r.length cr] 42)).heap.size by first | exact Nat.le_refl _ | (simp; done) | (simp; omega)))
      have B1 := Lib.hid (B0.out.trans (d1.mono B0.out.size))
      have Va_1 := Lib.hid (((Lvar.new w0 #[Value.int .i64 ns, Value.slice As s.length cs] 42).alloc (Obj.cells #[Value.int .i64 nr, Value.slice Ar r.length cr] 42)).below b1)
      have Vb_1 := Lib.hid ((Lvar.new (w0.alloc (Obj.cells #[Value.int .i64 ns, Value.slice As s.length cs] 42)) #[Value.int .i64 nr, Value.slice Ar r.length cr] 42).below b1)
      simp only [World.size_alloc] at Vb_1
      clear b1 d1
      have c_Va_0 := Va_1.out.cell 0 _ rfl
      have c_Va_1 := Va_1.out.cell 1 _ rfl
      have lt_Va := Va_1.out.lt
      have c_Vb_0 := Vb_1.out.cell 0 _ rfl
      have c_Vb_1 := Vb_1.out.cell 1 _ rfl
      have lt_Vb := Vb_1.out.lt
      go_wp2_with fail
      refine (Calls.mono (HS2.out _ (hr.below B1.out))) ?_
      rintro e w2 ⟨rfl, b2⟩
      have hs2 : w1.heap.size ≤ w2.heap.size := b2.size
      have d2 : Below w1.heap.size w1 w2 := (Below.refl w1.heap.size w1).trans (b2.mono (show w1.heap.size ≤ w1.heap.size by first | exact Nat.le_refl _ | (simp; done) | (simp; omega)))
      have B2 := Lib.hid (B1.out.trans (d2.mono B1.out.size))
      have Va_2 := Lib.hid (Va_1.out.below d2)
      have Vb_2 := Lib.hid (Vb_1.out.below d2)
      clear Va_1 Vb_1 c_Va_0 c_Va_1 lt_Va c_Vb_0 c_Vb_1 lt_Vb b2 d2
      have c_Va_0 := Va_2.out.cell 0 _ rfl
      have c_Va_1 := Va_2.out.cell 1 _ rfl
      have lt_Va := Va_2.out.lt
      have c_Vb_0 := Vb_2.out.cell 0 _ rfl
      have c_Vb_1 := Vb_2.out.cell 1 _ rfl
      have lt_Vb := Vb_2.out.lt
      go_wp2_with fail
      go_region_held3 (fun w' => w'.cell? ⟨w0.heap.size, 0, none⟩ = some (Value.int .i64 ns) ∧ w'.cell? ⟨w0.heap.size, 1, none⟩ = some (Value.slice As s.length cs) ∧ w'.cell? ⟨w0.heap.size + 1, 0, none⟩ = some (Value.int .i64 nr) ∧ w'.cell? ⟨w0.heap.size + 1, 1, none⟩ = some (Value.slice Ar r.length cr))
        (first | exact ⟨((((Va_2.out.below (Below.refl _ _).drew).below b3).below b4).below b5).cell 0 _ rfl, ((((Va_2.out.below (Below.refl _ _).drew).below b3).below b4).below b5).cell 1 _ rfl, ((((Vb_2.out.below (Below.refl _ _).drew).below b3).below b4).below b5).cell 0 _ rfl, ((((Vb_2.out.below (Below.refl _ _).drew).below b3).below b4).below b5).cell 1 _ rfl⟩ | exact ⟨(((Va_2.out.below (Below.refl _ _).drew).below b3).below b4).cell 0 _ rfl, (((Va_2.out.below (Below.refl _ _).drew).below b3).below b4).cell 1 _ rfl, (((Vb_2.out.below (Below.refl _ _).drew).below b3).below b4).cell 0 _ rfl, (((Vb_2.out.below (Below.refl _ _).drew).below b3).below b4).cell 1 _ rfl⟩ | exact ⟨((Va_2.out.below (Below.refl _ _).drew).below b3).cell 0 _ rfl, ((Va_2.out.below (Below.refl _ _).drew).below b3).cell 1 _ rfl, ((Vb_2.out.below (Below.refl _ _).drew).below b3).cell 0 _ rfl, ((Vb_2.out.below (Below.refl _ _).drew).below b3).cell 1 _ rfl⟩ | go_keep)
        (first
          | (go_at_call_of 21 (Value.agg #[Value.int .i64 ns, Value.slice As s.length cs]); refine (Calls.mono (SysK.copy ns As cs s _ (hs.below B2.out.drew) hns)) ?_; rintro e w3 ⟨C1, rfl, oc1, b3⟩)
          | (go_at_call_of 21 (Value.agg #[Value.int .i64 nr, Value.slice Ar r.length cr]); refine (Calls.mono (SysK.copy nr Ar cr r _ (hr.below ((B2.out.drew).trans (b3.mono B2.out.size))) hnr)) ?_; rintro e w4 ⟨C2, rfl, oc2, b4⟩)
          | (go_at_call 15; refine (Calls.mono (SysK.equal ns nr C1 C2 s.length r.length s r _ (oc1.below b4).arg oc2.arg hns hnr)) ?_; rintro e w5 ⟨rfl, b5⟩))
      have h3 : w2.heap.size ≤ w3.heap.size := b3.size
      have h4 : w3.heap.size ≤ w4.heap.size := b4.size
      have h5 : w4.heap.size ≤ w5.heap.size := b5.size
      have d5 : Below w2.heap.size w2 w5 := ((((Below.refl w2.heap.size w2).drew.trans (b3.mono (show w2.heap.size ≤ w2.heap.size by omega))).trans (b4.mono (show w2.heap.size ≤ w3.heap.size by omega))).trans (b5.mono (show w2.heap.size ≤ w4.heap.size by omega)))
      have hs5 := d5.size
      have B5 := Lib.hid (B2.out.trans (d5.mono B2.out.size))
      have Va_5 := Lib.hid (Va_2.out.below d5)
      have Vb_5 := Lib.hid (Vb_2.out.below d5)
      clear Va_2 Vb_2 c_Va_0 c_Va_1 lt_Va c_Vb_0 c_Vb_1 lt_Vb b3 h3 b4 h4 b5 h5 d5
      clear oc1 oc2
      have c_Va_0 := Va_5.out.cell 0 _ rfl
      have c_Va_1 := Va_5.out.cell 1 _ rfl
      have lt_Va := Va_5.out.lt
      have c_Vb_0 := Vb_5.out.cell 0 _ rfl
      have c_Vb_1 := Vb_5.out.cell 1 _ rfl
      have lt_Vb := Vb_5.out.lt
      go_wp2_with fail
      refine (Calls.mono (SysK.copy ns As cs s _ (hs.below B5.out) hns)) ?_
      rintro e w6 ⟨X1, rfl, ox, b6⟩
      have Ox := Lib.hid (show SysK.Own (w5.heap.size) w6.heap.size w6 X1 s.length s.length s from ox)
      have hs6 : w5.heap.size ≤ w6.heap.size := b6.size
      have d6 : Below w5.heap.size w5 w6 := (Below.refl w5.heap.size w5).trans (b6.mono (show w5.heap.size ≤ w5.heap.size by first | exact Nat.le_refl _ | (simp; done) | (simp; omega)))
      have B6 := Lib.hid (B5.out.trans (d6.mono B5.out.size))
      have Va_6 := Lib.hid (Va_5.out.below d6)
      have Vb_6 := Lib.hid (Vb_5.out.below d6)
      clear Va_5 Vb_5 c_Va_0 c_Va_1 lt_Va c_Vb_0 c_Vb_1 lt_Vb b6 d6
      clear ox
      have c_Va_0 := Va_6.out.cell 0 _ rfl
      have c_Va_1 := Va_6.out.cell 1 _ rfl
      have lt_Va := Va_6.out.lt
      have c_Vb_0 := Vb_6.out.cell 0 _ rfl
      have c_Vb_1 := Vb_6.out.cell 1 _ rfl
      have lt_Vb := Vb_6.out.lt
      go_wp2_with fail
      refine (Calls.mono (SysK.copy nr Ar cr r _ (hr.below (B6.out.trans (((Below.refl w6.heap.size w6).alloc (by first | (simp; done) | (simp; omega)) (Obj.cells #[Value.int .i64 ns, Value.slice X1 s.length s.length] 26)).mono B6.out.size))) hnr)) ?_
      rintro e w7 ⟨Y1, rfl, oy, b7⟩
      simp only [World.size_alloc] at oy
      have Oy := Lib.hid (show SysK.Own (w6.heap.size + 1) w7.heap.size w7 Y1 r.length r.length r from oy)
      have hs7 : (w6.alloc (Obj.cells #[Value.int .i64 ns, Value.slice X1 s.length s.length] 26)).heap.size ≤ w7.heap.size := b7.size
      simp only [World.size_alloc] at hs7
      have d7 : Below w6.heap.size w6 w7 := ((Below.refl w6.heap.size w6).alloc (by first | (simp; done) | (simp; omega)) (Obj.cells #[Value.int .i64 ns, Value.slice X1 s.length s.length] 26)).trans (b7.mono (show w6.heap.size ≤ (w6.alloc (Obj.cells #[Value.int .i64 ns, Value.slice X1 s.length s.length] 26)).heap.size by first | exact Nat.le_refl _ | (simp; done) | (simp; omega)))
      have B7 := Lib.hid (B6.out.trans (d7.mono B6.out.size))
      have Va_7 := Lib.hid (Va_6.out.below d7)
      have Vb_7 := Lib.hid (Vb_6.out.below d7)
      have Ox_7 := Lib.hid (Ox.out.below d7)
      have Vx_7 := Lib.hid ((Lvar.new w6 #[Value.int .i64 ns, Value.slice X1 s.length s.length] 26).below b7)
      clear Va_6 Vb_6 Ox c_Va_0 c_Va_1 lt_Va c_Vb_0 c_Vb_1 lt_Vb b7 d7
      clear oy
      have c_Va_0 := Va_7.out.cell 0 _ rfl
      have c_Va_1 := Va_7.out.cell 1 _ rfl
      have lt_Va := Va_7.out.lt
      have c_Vb_0 := Vb_7.out.cell 0 _ rfl
      have c_Vb_1 := Vb_7.out.cell 1 _ rfl
      have lt_Vb := Vb_7.out.lt
      have c_Vx_0 := Vx_7.out.cell 0 _ rfl
      have c_Vx_1 := Vx_7.out.cell 1 _ rfl
      have lt_Vx := Vx_7.out.lt
      go_wp2_with fail
      refine (Calls.mono (SysI.equal ns nr X1 Y1 s.length r.length s r _ (Ox_7.out.below ((Below.refl w7.heap.size w7).alloc (by first | (simp; done) | (simp; omega)) (Obj.cells #[Value.int .i64 nr, Value.slice Y1 r.length r.length] 26))).arg (Oy.out.below ((Below.refl w7.heap.size w7).alloc (by first | (simp; done) | (simp; omega)) (Obj.cells #[Value.int .i64 nr, Value.slice Y1 r.length r.length] 26))).arg hns hnr)) ?_
      rintro e w8 ⟨rfl, b8⟩
      have hs8 : (w7.alloc (Obj.cells #[Value.int .i64 nr, Value.slice Y1 r.length r.length] 26)).heap.size ≤ w8.heap.size := b8.size
      simp only [World.size_alloc] at hs8
      have d8 : Below w7.heap.size w7 w8 := ((Below.refl w7.heap.size w7).alloc (by first | (simp; done) | (simp; omega)) (Obj.cells #[Value.int .i64 nr, Value.slice Y1 r.length r.length] 26)).trans (b8.mono (show w7.heap.size ≤ (w7.alloc (Obj.cells #[Value.int .i64 nr, Value.slice Y1 r.length r.length] 26)).heap.size by first | exact Nat.le_refl _ | (simp; done) | (simp; omega)))
      have B8 := Lib.hid (B7.out.trans (d8.mono B7.out.size))
      have Va_8 := Lib.hid (Va_7.out.below d8)
      have Vb_8 := Lib.hid (Vb_7.out.below d8)
      have Ox_8 := Lib.hid (Ox_7.out.below d8)
      have Vx_8 := Lib.hid (Vx_7.out.below d8)
      have Oy_8 := Lib.hid (Oy.out.below d8)
      have Vy_8 := Lib.hid ((Lvar.new w7 #[Value.int .i64 nr, Value.slice Y1 r.length r.length] 26).below b8)
      clear Va_7 Vb_7 Ox_7 Vx_7 Oy c_Va_0 c_Va_1 lt_Va c_Vb_0 c_Vb_1 lt_Vb c_Vx_0 c_Vx_1 lt_Vx b8 d8
      have c_Va_0 := Va_8.out.cell 0 _ rfl
      have c_Va_1 := Va_8.out.cell 1 _ rfl
      have lt_Va := Va_8.out.lt
      have c_Vb_0 := Vb_8.out.cell 0 _ rfl
      have c_Vb_1 := Vb_8.out.cell 1 _ rfl
      have lt_Vb := Vb_8.out.lt
      have c_Vx_0 := Vx_8.out.cell 0 _ rfl
      have c_Vx_1 := Vx_8.out.cell 1 _ rfl
      have lt_Vx := Vx_8.out.lt
      have c_Vy_0 := Vy_8.out.cell 0 _ rfl
      have c_Vy_1 := Vy_8.out.cell 1 _ rfl
      have lt_Vy := Vy_8.out.lt
      go_wp2_with fail
      go_region_held3 (fun w' => w'.cell? ⟨w6.heap.size, 0, none⟩ = some (Value.int .i64 ns) ∧ w'.cell? ⟨w6.heap.size, 1, none⟩ = some (Value.slice X1 s.length s.length) ∧ w'.cell? ⟨w0.heap.size, 0, none⟩ = some (Value.int .i64 ns) ∧ w'.cell? ⟨w0.heap.size, 1, none⟩ = some (Value.slice As s.length cs))
        (first | exact ⟨(((Vx_8.out.below (Below.refl _ _).drew).below b9).below b10).cell 0 _ rfl, (((Vx_8.out.below (Below.refl _ _).drew).below b9).below b10).cell 1 _ rfl, (((Va_8.out.below (Below.refl _ _).drew).below b9).below b10).cell 0 _ rfl, (((Va_8.out.below (Below.refl _ _).drew).below b9).below b10).cell 1 _ rfl⟩ | exact ⟨((Vx_8.out.below (Below.refl _ _).drew).below b9).cell 0 _ rfl, ((Vx_8.out.below (Below.refl _ _).drew).below b9).cell 1 _ rfl, ((Va_8.out.below (Below.refl _ _).drew).below b9).cell 0 _ rfl, ((Va_8.out.below (Below.refl _ _).drew).below b9).cell 1 _ rfl⟩ | go_keep)
        (first
          | (go_at_call 21; refine (Calls.mono (SysK.copy ns As cs s _ (hs.below B8.out.drew) hns)) ?_; rintro e w9 ⟨C8, rfl, oc8, b9⟩)
          | (go_at_call 22; refine (Calls.mono (SysK.eq_same ns X1 C8 s.length s.length s _ ((Ox_8.out.below (Below.refl _ _).drew).below b9).arg oc8.arg hns)) ?_; rintro e w10 ⟨rfl, b10⟩))
      have h9 : w8.heap.size ≤ w9.heap.size := b9.size
      have h10 : w9.heap.size ≤ w10.heap.size := b10.size
      have d10 : Below w8.heap.size w8 w10 := (((Below.refl w8.heap.size w8).drew.trans (b9.mono (show w8.heap.size ≤ w8.heap.size by omega))).trans (b10.mono (show w8.heap.size ≤ w9.heap.size by omega)))
      have hs10 := d10.size
      have B10 := Lib.hid (B8.out.trans (d10.mono B8.out.size))
      have Va_10 := Lib.hid (Va_8.out.below d10)
      have Vb_10 := Lib.hid (Vb_8.out.below d10)
      have Ox_10 := Lib.hid (Ox_8.out.below d10)
      have Vx_10 := Lib.hid (Vx_8.out.below d10)
      have Oy_10 := Lib.hid (Oy_8.out.below d10)
      have Vy_10 := Lib.hid (Vy_8.out.below d10)
      clear Va_8 Vb_8 Ox_8 Vx_8 Oy_8 Vy_8 c_Va_0 c_Va_1 lt_Va c_Vb_0 c_Vb_1 lt_Vb c_Vx_0 c_Vx_1 lt_Vx c_Vy_0 c_Vy_1 lt_Vy b9 h9 b10 h10 d10
      clear oc8
      have c_Va_0 := Va_10.out.cell 0 _ rfl
      have c_Va_1 := Va_10.out.cell 1 _ rfl
      have lt_Va := Va_10.out.lt
      have c_Vb_0 := Vb_10.out.cell 0 _ rfl
      have c_Vb_1 := Vb_10.out.cell 1 _ rfl
      have lt_Vb := Vb_10.out.lt
      have c_Vx_0 := Vx_10.out.cell 0 _ rfl
      have c_Vx_1 := Vx_10.out.cell 1 _ rfl
      have lt_Vx := Vx_10.out.lt
      have c_Vy_0 := Vy_10.out.cell 0 _ rfl
      have c_Vy_1 := Vy_10.out.cell 1 _ rfl
      have lt_Vy := Vy_10.out.lt
      go_wp2_with fail
      go_region_held3 (fun w' => w'.cell? ⟨w7.heap.size, 0, none⟩ = some (Value.int .i64 nr) ∧ w'.cell? ⟨w7.heap.size, 1, none⟩ = some (Value.slice Y1 r.length r.length) ∧ w'.cell? ⟨w0.heap.size + 1, 0, none⟩ = some (Value.int .i64 nr) ∧ w'.cell? ⟨w0.heap.size + 1, 1, none⟩ = some (Value.slice Ar r.length cr))
        (first | exact ⟨(((Vy_10.out.below (Below.refl _ _).drew).below b11).below b12).cell 0 _ rfl, (((Vy_10.out.below (Below.refl _ _).drew).below b11).below b12).cell 1 _ rfl, (((Vb_10.out.below (Below.refl _ _).drew).below b11).below b12).cell 0 _ rfl, (((Vb_10.out.below (Below.refl _ _).drew).below b11).below b12).cell 1 _ rfl⟩ | exact ⟨((Vy_10.out.below (Below.refl _ _).drew).below b11).cell 0 _ rfl, ((Vy_10.out.below (Below.refl _ _).drew).below b11).cell 1 _ rfl, ((Vb_10.out.below (Below.refl _ _).drew).below b11).cell 0 _ rfl, ((Vb_10.out.below (Below.refl _ _).drew).below b11).cell 1 _ rfl⟩ | go_keep)
        (first
          | (go_at_call 21; refine (Calls.mono (SysK.copy nr Ar cr r _ (hr.below B10.out.drew) hnr)) ?_; rintro e w11 ⟨C10, rfl, oc10, b11⟩)
          | (go_at_call 22; refine (Calls.mono (SysK.eq_same nr Y1 C10 r.length r.length r _ ((Oy_10.out.below (Below.refl _ _).drew).below b11).arg oc10.arg hnr)) ?_; rintro e w12 ⟨rfl, b12⟩))
      have h11 : w10.heap.size ≤ w11.heap.size := b11.size
      have h12 : w11.heap.size ≤ w12.heap.size := b12.size
      have d12 : Below w10.heap.size w10 w12 := (((Below.refl w10.heap.size w10).drew.trans (b11.mono (show w10.heap.size ≤ w10.heap.size by omega))).trans (b12.mono (show w10.heap.size ≤ w11.heap.size by omega)))
      have hs12 := d12.size
      have B12 := Lib.hid (B10.out.trans (d12.mono B10.out.size))
      have Va_12 := Lib.hid (Va_10.out.below d12)
      have Vb_12 := Lib.hid (Vb_10.out.below d12)
      have Ox_12 := Lib.hid (Ox_10.out.below d12)
      have Vx_12 := Lib.hid (Vx_10.out.below d12)
      have Oy_12 := Lib.hid (Oy_10.out.below d12)
      have Vy_12 := Lib.hid (Vy_10.out.below d12)
      clear Va_10 Vb_10 Ox_10 Vx_10 Oy_10 Vy_10 c_Va_0 c_Va_1 lt_Va c_Vb_0 c_Vb_1 lt_Vb c_Vx_0 c_Vx_1 lt_Vx c_Vy_0 c_Vy_1 lt_Vy b11 h11 b12 h12 d12
      clear oc10
      have c_Va_0 := Va_12.out.cell 0 _ rfl
      have c_Va_1 := Va_12.out.cell 1 _ rfl
      have lt_Va := Va_12.out.lt
      have c_Vb_0 := Vb_12.out.cell 0 _ rfl
      have c_Vb_1 := Vb_12.out.cell 1 _ rfl
      have lt_Vb := Vb_12.out.lt
      have c_Vx_0 := Vx_12.out.cell 0 _ rfl
      have c_Vx_1 := Vx_12.out.cell 1 _ rfl
      have lt_Vx := Vx_12.out.lt
      have c_Vy_0 := Vy_12.out.cell 0 _ rfl
      have c_Vy_1 := Vy_12.out.cell 1 _ rfl
      have lt_Vy := Vy_12.out.lt
      go_wp2
      go_ret
      exact ⟨rfl, B12.out⟩
    · simp only [if_neg htr] at SZ
      have HS2 := Lib.hid SZ
      clear SZ hlenr hwfr
      have l0 := (Lvar.new (w0.alloc (Obj.cells #[Value.int .i64 ns, Value.slice As s.length cs] 42)) #[Value.int .i64 nr, Value.slice Ar r.length cr] 42)
      have s0 : Below w0.heap.size w0 ((w0.alloc (Obj.cells #[Value.int .i64 ns, Value.slice As s.length cs] 42)).alloc (Obj.cells #[Value.int .i64 nr, Value.slice Ar r.length cr] 42)) := (((Below.refl _ _).alloc (by first | (simp; done) | (simp; omega)) _).alloc (by first | (simp; done) | (simp; omega)) _)
      have S0 := Lib.hid s0
      clear s0
      go_enter Try.func7, Try.ntmps7
      go_wp2_with fail
      refine (HS.out _ (hs.below S0.out)).mono ?_
      rintro e w1 ⟨rfl, b1⟩
      have L0 := l0.below b1
      simp only [World.size_alloc] at L0
      have k0 := L0.cell 0 _ rfl
      have k1 := L0.cell 1 _ rfl
      have S1 := Lib.hid (S0.out.trans (b1.mono S0.out.size))
      clear l0 b1
      go_wp2_with fail
      refine (HS2.out _ (hr.below S1.out)).mono ?_
      rintro e w2 ⟨rfl, b2⟩
      have S2 := Lib.hid (S1.out.trans (b2.mono S1.out.size))
      clear b2
      go_wp2
      go_ret
      exact ⟨rfl, S2.out⟩

  · simp only [if_neg hts] at SZ
    have HS := Lib.hid SZ
    clear SZ hlens hwfs
    have s0 : Below w0.heap.size w0 ((w0.alloc (Obj.cells #[Value.int .i64 ns, Value.slice As s.length cs] 42)).alloc (Obj.cells #[Value.int .i64 nr, Value.slice Ar r.length cr] 42)) := (((Below.refl _ _).alloc (by first | (simp; done) | (simp; omega)) _).alloc (by first | (simp; done) | (simp; omega)) _)
    have S0 := Lib.hid s0
    clear s0
    go_enter Try.func7, Try.ntmps7
    go_wp2_with fail
    refine (HS.out _ (hs.below S0.out)).mono ?_
    rintro e w1 ⟨rfl, b1⟩
    go_wp2
    go_ret
    exact ⟨rfl, S0.out.trans (b1.mono S0.out.size)⟩

set_option maxRecDepth 100000 in
theorem lifted (os : Os) (started : os.Started) (H : Type) (enc : TypeId × Value → H) :
    ReturnsInHanded {} Try.checked os 7 .any (Rows.fnExactEqualSystemSpec.pre6 enc Try.prog Try.f7 Rows.fnExactEqualSystemRow.domain false) (Rows.fnExactEqualSystemSpec.post enc Try.prog Try.f7 false true false false) := by
  refine returnsInHanded_of_change (C := Try.checked) Frame.own started (by kernel_rfl) Try.func7
    (ChangeSpec.witness6 (enc := enc) (C := Try.checked) false ⟨#[], #[.agg #[.int .i64 0, .slice none 0 0], .agg #[.int .i64 0, .slice none 0 0]], []⟩ 8 (by kernel_rfl) (by kernel_rfl) (by kernel_rfl) (by kernel_rfl)) ?_
  intro W base args ds gs before hval0 hW _ _
  have hW' := hW
  have hval : ∀ (j : Nat) t v, Try.f7.params[j]? = some t → args[j]? = some v → Value.okWide Try.prog W .any base t v := hval0
  obtain ⟨p, q, hA0, hV, rfl, hfz, hnd⟩ := hW
  have hA : DataW.TrodAll enc Try.prog W 0 (fun _ => true) true Try.f7.params.toList args.toList ds p := hA0
  rw [Try.params7] at hA hval
  obtain ⟨v0, v1, d0, d1, p0, p1, rfl, rfl, rfl, h0, h1⟩ := trodAll_two hA
  have hlt := fun x hx => hW'.lt x hx
  obtain ⟨rfl, rfl⟩ := trodVars_none hV
  obtain ⟨ny, ay, cy, fpy, y, rfl, wy, hry, hly, hsy⟩ := Frame.open_sys (W := W) isLin Try.underlying42 (by kernel_rfl) (by kernel_rfl) rfl rfl Try.underlying40 (hval 0 42 v0 rfl rfl) h0 (fun x hx => hlt x (by simp [hx]))
  obtain ⟨nr, ar, cr, fpr, r, rfl, wr, hrr, hlr, hsr⟩ := Frame.open_sys (W := W) isLin Try.underlying42 (by kernel_rfl) (by kernel_rfl) rfl rfl Try.underlying40 (hval 1 42 v1 rfl rfl) h1 (fun x hx => hlt x (by simp [hx]))
  refine (walk ny ay cy y nr ar cr r W ⟨_, _, hry⟩ hly hsy ⟨_, _, hrr⟩ hlr hsr).mono fun e W' ⟨he, hb⟩ => ?_
  subst he
  exact ⟨_, rfl, Frame.law_post (tb := 4) Frame.laidOut (by kernel_rfl) (by kernel_rfl) (by kernel_rfl) Try.underlying4 hW' rfl hb⟩

theorem proved : Rows.FnExactEqualSystemSaid :=
  OpenClaim.holds_of_wide 7 Try.f7 rfl rfl rfl rfl rfl rfl rfl ⟨rfl, rfl, rfl, rfl, rfl⟩ rfl rfl rfl rfl rfl (by kernel_rfl) Try.func7 (by kernel_rfl)
    (of_decide_eq_true (by kernel_rfl)) (by unfold Func.isWrapper; first | (rw [if_pos (by decide +kernel)]; kernel_rfl) | (rw [if_neg (by decide +kernel)]; exact ⟨rfl, rfl⟩))
    (fun os started H enc _ => lifted os started H enc)
end LawEqualSystem
end Go.Proofs.Ytompaciebpdmfaa
