import Derived.Test.YtnbgmhlhbcoicaaRows
import Derived.Test.YtnbgmhlhbcoicaaFrame
import Derived.Test.YtnbgmhlhbcoicaaFrameSys
import Derived.Test.YtnbgmhlhbcoicaaFrameLin
import Derived.Test.YtnbgmhlhbcoicaaSysOwn
import Derived.Test.YtnbgmhlhbcoicaaFarK
import Derived.Test.YtnbgmhlhbcoicaaLinK
import Derived.Test.YtnbgmhlhbcoicaaFarkCheck2
import Derived.Test.YtnbgmhlhbcoicaaFarkSpec2
import Derived.Deep.RegionHeld3
import Derived.SliceStrings
/- At every argument, impl.CheckFarkas answers as its model and writes nothing into its arguments: the law FnExactCheckFarkas returns true. There is no condition. -/
namespace Go.Proofs.Ytnbgmhlhbcoicaa
open Go.ChangeShapes Go.WideShapes Go.ChangeAt Go.RowKit
open Go.ChangeMaps (open_string shut_string)
namespace LawCheckFarkas
theorem isLin : Frame.IsLin Try.prog 46 3 27 :=
  ⟨⟨_, _, Try.underlying46, rfl, rfl, rfl, rfl⟩, Try.underlying3, Try.underlying27, by kernel_rfl, by kernel_rfl, by kernel_rfl⟩

open RowK LinM FarkM
set_option maxHeartbeats 4000000 in
set_option maxRecDepth 100000 in
theorem walk (ny : Int) (Ay : Option Addr) (cy : Nat) (y : List (Int × List Int)) (zl : Int) (Al : Option Addr) (cl : Nat) (l : List Int) (zf : Int) (Af : Option Addr) (cf : Nat) (f : List Int) (w0 : World) (hy : SysK.Arg w0 Ay y.length cy y) (hleny : y.length ≤ 9223372036854775807) (hwfy : ∀ x ∈ y, Frame.WfLin x) (hl : Row 0 w0.heap.size w0 Al (IntK.iv l)) (hlenl : l.length ≤ 9223372036854775807) (hf : Row 0 w0.heap.size w0 Af (IntK.iv f)) (hlenf : f.length ≤ 9223372036854775807) :
    Calls Try.prog 7 #[.agg #[.int .i64 ny, .slice Ay y.length cy], .agg #[.int .i64 zl, .slice Al l.length cl], .agg #[.int .i64 zf, .slice Af f.length cf]] w0 fun e w' => e = .returned (.bool true) ∧ Below w0.heap.size w0 w' := by
  have SZ := fun W (h : SysK.Arg W Ay y.length cy y) => SysK.size ny Ay cy 1048576 y W h (by omega) hleny (fun x hx => (hwfy x hx).2.1)
  unfold IntK.leftOf at SZ
  by_cases hty : Mem.linsSize y ≤ 1048576
  · simp only [if_pos hty] at SZ
    have HS0 := Lib.hid SZ
    have hny : Mem.linsSize y ≤ 1000000000 := by omega
    clear SZ hleny hwfy
    obtain ⟨t0, hte0⟩ : ∃ t : Nat, t = 1048576 - Mem.linsSize y := ⟨_, rfl⟩
    have htc0 : ((1048576 : Nat) : Int) - ((Mem.linsSize y : Nat) : Int) = (t0 : Int) := by omega
    have htl0 : t0 ≤ 1048576 := by omega
    rw [htc0] at HS0
    clear hte0 htc0
    have SZ := fun W => LinK.size zl Al cl t0 l.length W (by omega) hlenl
    unfold IntK.leftOf at SZ
    by_cases htl : l.length ≤ t0
    · simp only [if_pos htl] at SZ
      have HS1 := Lib.hid SZ
      have hnl : l.length ≤ 1000000000 := by omega
      clear SZ hlenl
      obtain ⟨t1, hte1⟩ : ∃ t : Nat, t = t0 - l.length := ⟨_, rfl⟩
      have htc1 : ((t0 : Nat) : Int) - ((l.length : Nat) : Int) = (t1 : Int) := by omega
      have htl1 : t1 ≤ 1048576 := by omega
      rw [htc1] at HS1
      clear hte1 htc1
      have SZ := fun W => FarK.size zf Af cf t1 f.length W (by omega) hlenf
      unfold IntK.leftOf at SZ
      by_cases htf : f.length ≤ t1
      · simp only [if_pos htf] at SZ
        have HS2 := Lib.hid SZ
        have hnf : f.length ≤ 1000000000 := by omega
        clear SZ hlenf
        have B0 := Lib.hid (Below.refl w0.heap.size w0)
        go_enter Try.func7, Try.ntmps7
        go_wp2_with fail
        refine (Calls.mono (HS0.out _ (hy.below (B0.out.trans (((((Below.refl w0.heap.size w0).alloc (by first | (simp; done) | (simp; omega)) (Obj.cells #[Value.int .i64 ny, Value.slice Ay y.length cy] 52)).alloc (by first | (simp; done) | (simp; omega)) (Obj.cells #[Value.int .i64 zl, Value.slice Al l.length cl] 46)).alloc (by first | (simp; done) | (simp; omega)) (Obj.cells #[Value.int .i64 zf, Value.slice Af f.length cf] 62)).mono B0.out.size))))) ?_
        rintro e w1 ⟨rfl, b1⟩
        have hs1 : (((w0.alloc (Obj.cells #[Value.int .i64 ny, Value.slice Ay y.length cy] 52)).alloc (Obj.cells #[Value.int .i64 zl, Value.slice Al l.length cl] 46)).alloc (Obj.cells #[Value.int .i64 zf, Value.slice Af f.length cf] 62)).heap.size ≤ w1.heap.size := b1.size
        simp only [World.size_alloc] at hs1
        have d1 : Below w0.heap.size w0 w1 := ((((Below.refl w0.heap.size w0).alloc (by first | (simp; done) | (simp; omega)) (Obj.cells #[Value.int .i64 ny, Value.slice Ay y.length cy] 52)).alloc (by first | (simp; done) | (simp; omega)) (Obj.cells #[Value.int .i64 zl, Value.slice Al l.length cl] 46)).alloc (by first | (simp; done) | (simp; omega)) (Obj.cells #[Value.int .i64 zf, Value.slice Af f.length cf] 62)).trans (b1.mono (show w0.heap.size ≤ (((w0.alloc (Obj.cells #[Value.int .i64 ny, Value.slice Ay y.length cy] 52)).alloc (Obj.cells #[Value.int .i64 zl, Value.slice Al l.length cl] 46)).alloc (Obj.cells #[Value.int .i64 zf, Value.slice Af f.length cf] 62)).heap.size by first | exact Nat.le_refl _ | (simp; done) | (simp; omega)))
        have B1 := Lib.hid (B0.out.trans (d1.mono B0.out.size))
        have Vby_1 := Lib.hid ((((Lvar.new w0 #[Value.int .i64 ny, Value.slice Ay y.length cy] 52).alloc (Obj.cells #[Value.int .i64 zl, Value.slice Al l.length cl] 46)).alloc (Obj.cells #[Value.int .i64 zf, Value.slice Af f.length cf] 62)).below b1)
        have Vbl_1 := Lib.hid (((Lvar.new (w0.alloc (Obj.cells #[Value.int .i64 ny, Value.slice Ay y.length cy] 52)) #[Value.int .i64 zl, Value.slice Al l.length cl] 46).alloc (Obj.cells #[Value.int .i64 zf, Value.slice Af f.length cf] 62)).below b1)
        simp only [World.size_alloc] at Vbl_1
        have Vbf_1 := Lib.hid ((Lvar.new ((w0.alloc (Obj.cells #[Value.int .i64 ny, Value.slice Ay y.length cy] 52)).alloc (Obj.cells #[Value.int .i64 zl, Value.slice Al l.length cl] 46)) #[Value.int .i64 zf, Value.slice Af f.length cf] 62).below b1)
        simp only [World.size_alloc] at Vbf_1
        clear b1 d1
        have c_Vby_0 := Vby_1.out.cell 0 _ rfl
        have c_Vby_1 := Vby_1.out.cell 1 _ rfl
        have lt_Vby := Vby_1.out.lt
        have c_Vbl_0 := Vbl_1.out.cell 0 _ rfl
        have c_Vbl_1 := Vbl_1.out.cell 1 _ rfl
        have lt_Vbl := Vbl_1.out.lt
        have c_Vbf_0 := Vbf_1.out.cell 0 _ rfl
        have c_Vbf_1 := Vbf_1.out.cell 1 _ rfl
        have lt_Vbf := Vbf_1.out.lt
        go_wp2_with fail
        refine (Calls.mono (HS1.out _)) ?_
        rintro e w2 ⟨rfl, b2⟩
        have hs2 : w1.heap.size ≤ w2.heap.size := b2.size
        have d2 : Below w1.heap.size w1 w2 := (Below.refl w1.heap.size w1).trans (b2.mono (show w1.heap.size ≤ w1.heap.size by first | exact Nat.le_refl _ | (simp; done) | (simp; omega)))
        have B2 := Lib.hid (B1.out.trans (d2.mono B1.out.size))
        have Vby_2 := Lib.hid (Vby_1.out.below d2)
        have Vbl_2 := Lib.hid (Vbl_1.out.below d2)
        have Vbf_2 := Lib.hid (Vbf_1.out.below d2)
        clear Vby_1 Vbl_1 Vbf_1 c_Vby_0 c_Vby_1 lt_Vby c_Vbl_0 c_Vbl_1 lt_Vbl c_Vbf_0 c_Vbf_1 lt_Vbf b2 d2
        have c_Vby_0 := Vby_2.out.cell 0 _ rfl
        have c_Vby_1 := Vby_2.out.cell 1 _ rfl
        have lt_Vby := Vby_2.out.lt
        have c_Vbl_0 := Vbl_2.out.cell 0 _ rfl
        have c_Vbl_1 := Vbl_2.out.cell 1 _ rfl
        have lt_Vbl := Vbl_2.out.lt
        have c_Vbf_0 := Vbf_2.out.cell 0 _ rfl
        have c_Vbf_1 := Vbf_2.out.cell 1 _ rfl
        have lt_Vbf := Vbf_2.out.lt
        go_wp2_with fail
        refine (Calls.mono (HS2.out _)) ?_
        rintro e w3 ⟨rfl, b3⟩
        have hs3 : w2.heap.size ≤ w3.heap.size := b3.size
        have d3 : Below w2.heap.size w2 w3 := (Below.refl w2.heap.size w2).trans (b3.mono (show w2.heap.size ≤ w2.heap.size by first | exact Nat.le_refl _ | (simp; done) | (simp; omega)))
        have B3 := Lib.hid (B2.out.trans (d3.mono B2.out.size))
        have Vby_3 := Lib.hid (Vby_2.out.below d3)
        have Vbl_3 := Lib.hid (Vbl_2.out.below d3)
        have Vbf_3 := Lib.hid (Vbf_2.out.below d3)
        clear Vby_2 Vbl_2 Vbf_2 c_Vby_0 c_Vby_1 lt_Vby c_Vbl_0 c_Vbl_1 lt_Vbl c_Vbf_0 c_Vbf_1 lt_Vbf b3 d3
        have c_Vby_0 := Vby_3.out.cell 0 _ rfl
        have c_Vby_1 := Vby_3.out.cell 1 _ rfl
        have lt_Vby := Vby_3.out.lt
        have c_Vbl_0 := Vbl_3.out.cell 0 _ rfl
        have c_Vbl_1 := Vbl_3.out.cell 1 _ rfl
        have lt_Vbl := Vbl_3.out.lt
        have c_Vbf_0 := Vbf_3.out.cell 0 _ rfl
        have c_Vbf_1 := Vbf_3.out.cell 1 _ rfl
        have lt_Vbf := Vbf_3.out.lt
        go_wp2_with fail
        go_region_held3 (fun w' => w'.cell? ⟨w0.heap.size, 0, none⟩ = some (Value.int .i64 ny) ∧ w'.cell? ⟨w0.heap.size, 1, none⟩ = some (Value.slice Ay y.length cy) ∧ w'.cell? ⟨w0.heap.size + 1, 0, none⟩ = some (Value.int .i64 zl) ∧ w'.cell? ⟨w0.heap.size + 1, 1, none⟩ = some (Value.slice Al l.length cl) ∧ w'.cell? ⟨w0.heap.size + 1 + 1, 0, none⟩ = some (Value.int .i64 zf) ∧ w'.cell? ⟨w0.heap.size + 1 + 1, 1, none⟩ = some (Value.slice Af f.length cf))
          (first | exact ⟨(((((Vby_3.out.below (Below.refl _ _).drew).below b4).below b5).below b6).below b7).cell 0 _ rfl, (((((Vby_3.out.below (Below.refl _ _).drew).below b4).below b5).below b6).below b7).cell 1 _ rfl, (((((Vbl_3.out.below (Below.refl _ _).drew).below b4).below b5).below b6).below b7).cell 0 _ rfl, (((((Vbl_3.out.below (Below.refl _ _).drew).below b4).below b5).below b6).below b7).cell 1 _ rfl, (((((Vbf_3.out.below (Below.refl _ _).drew).below b4).below b5).below b6).below b7).cell 0 _ rfl, (((((Vbf_3.out.below (Below.refl _ _).drew).below b4).below b5).below b6).below b7).cell 1 _ rfl⟩ | exact ⟨((((Vby_3.out.below (Below.refl _ _).drew).below b4).below b5).below b6).cell 0 _ rfl, ((((Vby_3.out.below (Below.refl _ _).drew).below b4).below b5).below b6).cell 1 _ rfl, ((((Vbl_3.out.below (Below.refl _ _).drew).below b4).below b5).below b6).cell 0 _ rfl, ((((Vbl_3.out.below (Below.refl _ _).drew).below b4).below b5).below b6).cell 1 _ rfl, ((((Vbf_3.out.below (Below.refl _ _).drew).below b4).below b5).below b6).cell 0 _ rfl, ((((Vbf_3.out.below (Below.refl _ _).drew).below b4).below b5).below b6).cell 1 _ rfl⟩ | exact ⟨(((Vby_3.out.below (Below.refl _ _).drew).below b4).below b5).cell 0 _ rfl, (((Vby_3.out.below (Below.refl _ _).drew).below b4).below b5).cell 1 _ rfl, (((Vbl_3.out.below (Below.refl _ _).drew).below b4).below b5).cell 0 _ rfl, (((Vbl_3.out.below (Below.refl _ _).drew).below b4).below b5).cell 1 _ rfl, (((Vbf_3.out.below (Below.refl _ _).drew).below b4).below b5).cell 0 _ rfl, (((Vbf_3.out.below (Below.refl _ _).drew).below b4).below b5).cell 1 _ rfl⟩ | exact ⟨((Vby_3.out.below (Below.refl _ _).drew).below b4).cell 0 _ rfl, ((Vby_3.out.below (Below.refl _ _).drew).below b4).cell 1 _ rfl, ((Vbl_3.out.below (Below.refl _ _).drew).below b4).cell 0 _ rfl, ((Vbl_3.out.below (Below.refl _ _).drew).below b4).cell 1 _ rfl, ((Vbf_3.out.below (Below.refl _ _).drew).below b4).cell 0 _ rfl, ((Vbf_3.out.below (Below.refl _ _).drew).below b4).cell 1 _ rfl⟩ | go_keep)
          (first
            | (go_at_call 31; refine (Calls.mono (SysK.copy ny Ay cy y _ (hy.below B3.out.drew) hny)) ?_; rintro e w4 ⟨Cy, rfl, oqy, b4⟩)
            | (go_at_call 28; refine (Calls.mono (LinK.copy 0 w0.heap.size zl Al cl l _ (hl.below (B3.out.drew.trans (b4.mono B3.out.size))) hnl)) ?_; rintro e w5 ⟨Cl, rfl, rql, fql, b5⟩)
            | (go_at_call 40; refine (Calls.mono (FarK.copy 0 w0.heap.size zf Af cf f _ (hf.below ((B3.out.drew.trans (b4.mono B3.out.size)).trans (b5.mono (Nat.le_trans B3.out.size b4.size)))) hnf)) ?_; rintro e w6 ⟨Cf, rfl, rqf, fqf, b6⟩)
            | (go_at_call 13; refine (Calls.mono (FarkS.checkFarkas _ _ _ _ ny Cy Cf Cl y.length f.length l.length y f zl l zf _ ((oqy.below b5).below b6).arg hny rqf hnf (rql.below b6) hnl)) ?_; rintro e w7 ⟨rfl, b7⟩))
        have h4 : w3.heap.size ≤ w4.heap.size := b4.size
        have h5 : w4.heap.size ≤ w5.heap.size := b5.size
        have h6 : w5.heap.size ≤ w6.heap.size := b6.size
        have h7 : w6.heap.size ≤ w7.heap.size := b7.size
        have d7 : Below w3.heap.size w3 w7 := (((((Below.refl w3.heap.size w3).drew.trans (b4.mono (show w3.heap.size ≤ w3.heap.size by omega))).trans (b5.mono (show w3.heap.size ≤ w4.heap.size by omega))).trans (b6.mono (show w3.heap.size ≤ w5.heap.size by omega))).trans (b7.mono (show w3.heap.size ≤ w6.heap.size by omega)))
        have hs7 := d7.size
        have B7 := Lib.hid (B3.out.trans (d7.mono B3.out.size))
        have Vby_7 := Lib.hid (Vby_3.out.below d7)
        have Vbl_7 := Lib.hid (Vbl_3.out.below d7)
        have Vbf_7 := Lib.hid (Vbf_3.out.below d7)
        clear Vby_3 Vbl_3 Vbf_3 c_Vby_0 c_Vby_1 lt_Vby c_Vbl_0 c_Vbl_1 lt_Vbl c_Vbf_0 c_Vbf_1 lt_Vbf b4 h4 b5 h5 b6 h6 b7 h7 d7
        clear oqy rql fql rqf fqf
        have c_Vby_0 := Vby_7.out.cell 0 _ rfl
        have c_Vby_1 := Vby_7.out.cell 1 _ rfl
        have lt_Vby := Vby_7.out.lt
        have c_Vbl_0 := Vbl_7.out.cell 0 _ rfl
        have c_Vbl_1 := Vbl_7.out.cell 1 _ rfl
        have lt_Vbl := Vbl_7.out.lt
        have c_Vbf_0 := Vbf_7.out.cell 0 _ rfl
        have c_Vbf_1 := Vbf_7.out.cell 1 _ rfl
        have lt_Vbf := Vbf_7.out.lt
        go_wp2_with fail
        refine (Calls.mono (SysK.copy ny Ay cy y _ (hy.below B7.out) hny)) ?_
        rintro e w8 ⟨Xy, rfl, oxy, b8⟩
        have Oxy := Lib.hid (show SysK.Own (w7.heap.size) w8.heap.size w8 Xy y.length y.length y from oxy)
        have hs8 : w7.heap.size ≤ w8.heap.size := b8.size
        have d8 : Below w7.heap.size w7 w8 := (Below.refl w7.heap.size w7).trans (b8.mono (show w7.heap.size ≤ w7.heap.size by first | exact Nat.le_refl _ | (simp; done) | (simp; omega)))
        have B8 := Lib.hid (B7.out.trans (d8.mono B7.out.size))
        have Vby_8 := Lib.hid (Vby_7.out.below d8)
        have Vbl_8 := Lib.hid (Vbl_7.out.below d8)
        have Vbf_8 := Lib.hid (Vbf_7.out.below d8)
        clear Vby_7 Vbl_7 Vbf_7 c_Vby_0 c_Vby_1 lt_Vby c_Vbl_0 c_Vbl_1 lt_Vbl c_Vbf_0 c_Vbf_1 lt_Vbf b8 d8
        have c_Vby_0 := Vby_8.out.cell 0 _ rfl
        have c_Vby_1 := Vby_8.out.cell 1 _ rfl
        have lt_Vby := Vby_8.out.lt
        have c_Vbl_0 := Vbl_8.out.cell 0 _ rfl
        have c_Vbl_1 := Vbl_8.out.cell 1 _ rfl
        have lt_Vbl := Vbl_8.out.lt
        have c_Vbf_0 := Vbf_8.out.cell 0 _ rfl
        have c_Vbf_1 := Vbf_8.out.cell 1 _ rfl
        have lt_Vbf := Vbf_8.out.lt
        go_wp2_with fail
        refine (Calls.mono (LinK.copy 0 w0.heap.size zl Al cl l _ (hl.below (B8.out.trans (((Below.refl w8.heap.size w8).alloc (by first | (simp; done) | (simp; omega)) (Obj.cells #[Value.int .i64 ny, Value.slice Xy y.length y.length] 26)).mono B8.out.size))) hnl)) ?_
        rintro e w9 ⟨Xl, rfl, rxl, fxl, b9⟩
        simp only [World.size_alloc] at rxl
        have Oxl := Lib.hid (show IntK.Own (w8.heap.size + 1) w9.heap.size w9 Xl l from ⟨rxl, fxl⟩)
        have hs9 : (w8.alloc (Obj.cells #[Value.int .i64 ny, Value.slice Xy y.length y.length] 26)).heap.size ≤ w9.heap.size := b9.size
        simp only [World.size_alloc] at hs9
        have d9 : Below w8.heap.size w8 w9 := ((Below.refl w8.heap.size w8).alloc (by first | (simp; done) | (simp; omega)) (Obj.cells #[Value.int .i64 ny, Value.slice Xy y.length y.length] 26)).trans (b9.mono (show w8.heap.size ≤ (w8.alloc (Obj.cells #[Value.int .i64 ny, Value.slice Xy y.length y.length] 26)).heap.size by first | exact Nat.le_refl _ | (simp; done) | (simp; omega)))
        have B9 := Lib.hid (B8.out.trans (d9.mono B8.out.size))
        have Vby_9 := Lib.hid (Vby_8.out.below d9)
        have Vbl_9 := Lib.hid (Vbl_8.out.below d9)
        have Vbf_9 := Lib.hid (Vbf_8.out.below d9)
        have Oxy_9 := Lib.hid (Oxy.out.below d9)
        have Vxy_9 := Lib.hid ((Lvar.new w8 #[Value.int .i64 ny, Value.slice Xy y.length y.length] 26).below b9)
        clear Vby_8 Vbl_8 Vbf_8 Oxy c_Vby_0 c_Vby_1 lt_Vby c_Vbl_0 c_Vbl_1 lt_Vbl c_Vbf_0 c_Vbf_1 lt_Vbf b9 d9
        have c_Vby_0 := Vby_9.out.cell 0 _ rfl
        have c_Vby_1 := Vby_9.out.cell 1 _ rfl
        have lt_Vby := Vby_9.out.lt
        have c_Vbl_0 := Vbl_9.out.cell 0 _ rfl
        have c_Vbl_1 := Vbl_9.out.cell 1 _ rfl
        have lt_Vbl := Vbl_9.out.lt
        have c_Vbf_0 := Vbf_9.out.cell 0 _ rfl
        have c_Vbf_1 := Vbf_9.out.cell 1 _ rfl
        have lt_Vbf := Vbf_9.out.lt
        have c_Vxy_0 := Vxy_9.out.cell 0 _ rfl
        have c_Vxy_1 := Vxy_9.out.cell 1 _ rfl
        have lt_Vxy := Vxy_9.out.lt
        go_wp2_with fail
        refine (Calls.mono (FarK.copy 0 w0.heap.size zf Af cf f _ (hf.below (B9.out.trans (((Below.refl w9.heap.size w9).alloc (by first | (simp; done) | (simp; omega)) (Obj.cells #[Value.int .i64 zl, Value.slice Xl l.length l.length] 29)).mono B9.out.size))) hnf)) ?_
        rintro e w10 ⟨Xf, rfl, rxf, fxf, b10⟩
        simp only [World.size_alloc] at rxf
        have Oxf := Lib.hid (show IntK.Own (w9.heap.size + 1) w10.heap.size w10 Xf f from ⟨rxf, fxf⟩)
        have hs10 : (w9.alloc (Obj.cells #[Value.int .i64 zl, Value.slice Xl l.length l.length] 29)).heap.size ≤ w10.heap.size := b10.size
        simp only [World.size_alloc] at hs10
        have d10 : Below w9.heap.size w9 w10 := ((Below.refl w9.heap.size w9).alloc (by first | (simp; done) | (simp; omega)) (Obj.cells #[Value.int .i64 zl, Value.slice Xl l.length l.length] 29)).trans (b10.mono (show w9.heap.size ≤ (w9.alloc (Obj.cells #[Value.int .i64 zl, Value.slice Xl l.length l.length] 29)).heap.size by first | exact Nat.le_refl _ | (simp; done) | (simp; omega)))
        have B10 := Lib.hid (B9.out.trans (d10.mono B9.out.size))
        have Vby_10 := Lib.hid (Vby_9.out.below d10)
        have Vbl_10 := Lib.hid (Vbl_9.out.below d10)
        have Vbf_10 := Lib.hid (Vbf_9.out.below d10)
        have Oxy_10 := Lib.hid (Oxy_9.out.below d10)
        have Vxy_10 := Lib.hid (Vxy_9.out.below d10)
        have Oxl_10 := Lib.hid (Oxl.out.below d10)
        have Vxl_10 := Lib.hid ((Lvar.new w9 #[Value.int .i64 zl, Value.slice Xl l.length l.length] 29).below b10)
        clear Vby_9 Vbl_9 Vbf_9 Oxy_9 Vxy_9 Oxl c_Vby_0 c_Vby_1 lt_Vby c_Vbl_0 c_Vbl_1 lt_Vbl c_Vbf_0 c_Vbf_1 lt_Vbf c_Vxy_0 c_Vxy_1 lt_Vxy b10 d10
        have c_Vby_0 := Vby_10.out.cell 0 _ rfl
        have c_Vby_1 := Vby_10.out.cell 1 _ rfl
        have lt_Vby := Vby_10.out.lt
        have c_Vbl_0 := Vbl_10.out.cell 0 _ rfl
        have c_Vbl_1 := Vbl_10.out.cell 1 _ rfl
        have lt_Vbl := Vbl_10.out.lt
        have c_Vbf_0 := Vbf_10.out.cell 0 _ rfl
        have c_Vbf_1 := Vbf_10.out.cell 1 _ rfl
        have lt_Vbf := Vbf_10.out.lt
        have c_Vxy_0 := Vxy_10.out.cell 0 _ rfl
        have c_Vxy_1 := Vxy_10.out.cell 1 _ rfl
        have lt_Vxy := Vxy_10.out.lt
        have c_Vxl_0 := Vxl_10.out.cell 0 _ rfl
        have c_Vxl_1 := Vxl_10.out.cell 1 _ rfl
        have lt_Vxl := Vxl_10.out.lt
        go_wp2_with fail
        refine (Calls.mono (FarkI.checkFarkas _ _ _ _ ny Xy Xf Xl y.length f.length l.length y f zl l zf _ (Oxy_10.out.below ((Below.refl w10.heap.size w10).alloc (by first | (simp; done) | (simp; omega)) (Obj.cells #[Value.int .i64 zf, Value.slice Xf f.length f.length] 31))).arg hny (Oxf.out.below ((Below.refl w10.heap.size w10).alloc (by first | (simp; done) | (simp; omega)) (Obj.cells #[Value.int .i64 zf, Value.slice Xf f.length f.length] 31))).1 hnf (Oxl_10.out.below ((Below.refl w10.heap.size w10).alloc (by first | (simp; done) | (simp; omega)) (Obj.cells #[Value.int .i64 zf, Value.slice Xf f.length f.length] 31))).1 hnl)) ?_
        rintro e w11 ⟨rfl, b11⟩
        have hs11 : (w10.alloc (Obj.cells #[Value.int .i64 zf, Value.slice Xf f.length f.length] 31)).heap.size ≤ w11.heap.size := b11.size
        simp only [World.size_alloc] at hs11
        have d11 : Below w10.heap.size w10 w11 := ((Below.refl w10.heap.size w10).alloc (by first | (simp; done) | (simp; omega)) (Obj.cells #[Value.int .i64 zf, Value.slice Xf f.length f.length] 31)).trans (b11.mono (show w10.heap.size ≤ (w10.alloc (Obj.cells #[Value.int .i64 zf, Value.slice Xf f.length f.length] 31)).heap.size by first | exact Nat.le_refl _ | (simp; done) | (simp; omega)))
        have B11 := Lib.hid (B10.out.trans (d11.mono B10.out.size))
        have Vby_11 := Lib.hid (Vby_10.out.below d11)
        have Vbl_11 := Lib.hid (Vbl_10.out.below d11)
        have Vbf_11 := Lib.hid (Vbf_10.out.below d11)
        have Oxy_11 := Lib.hid (Oxy_10.out.below d11)
        have Vxy_11 := Lib.hid (Vxy_10.out.below d11)
        have Oxl_11 := Lib.hid (Oxl_10.out.below d11)
        have Vxl_11 := Lib.hid (Vxl_10.out.below d11)
        have Oxf_11 := Lib.hid (Oxf.out.below d11)
        have Vxf_11 := Lib.hid ((Lvar.new w10 #[Value.int .i64 zf, Value.slice Xf f.length f.length] 31).below b11)
        clear Vby_10 Vbl_10 Vbf_10 Oxy_10 Vxy_10 Oxl_10 Vxl_10 Oxf c_Vby_0 c_Vby_1 lt_Vby c_Vbl_0 c_Vbl_1 lt_Vbl c_Vbf_0 c_Vbf_1 lt_Vbf c_Vxy_0 c_Vxy_1 lt_Vxy c_Vxl_0 c_Vxl_1 lt_Vxl b11 d11
        have c_Vby_0 := Vby_11.out.cell 0 _ rfl
        have c_Vby_1 := Vby_11.out.cell 1 _ rfl
        have lt_Vby := Vby_11.out.lt
        have c_Vbl_0 := Vbl_11.out.cell 0 _ rfl
        have c_Vbl_1 := Vbl_11.out.cell 1 _ rfl
        have lt_Vbl := Vbl_11.out.lt
        have c_Vbf_0 := Vbf_11.out.cell 0 _ rfl
        have c_Vbf_1 := Vbf_11.out.cell 1 _ rfl
        have lt_Vbf := Vbf_11.out.lt
        have c_Vxy_0 := Vxy_11.out.cell 0 _ rfl
        have c_Vxy_1 := Vxy_11.out.cell 1 _ rfl
        have lt_Vxy := Vxy_11.out.lt
        have c_Vxl_0 := Vxl_11.out.cell 0 _ rfl
        have c_Vxl_1 := Vxl_11.out.cell 1 _ rfl
        have lt_Vxl := Vxl_11.out.lt
        have c_Vxf_0 := Vxf_11.out.cell 0 _ rfl
        have c_Vxf_1 := Vxf_11.out.cell 1 _ rfl
        have lt_Vxf := Vxf_11.out.lt
        go_wp2_with fail
        go_region_held3 (fun w' => w'.cell? ⟨w8.heap.size, 0, none⟩ = some (Value.int .i64 ny) ∧ w'.cell? ⟨w8.heap.size, 1, none⟩ = some (Value.slice Xy y.length y.length) ∧ w'.cell? ⟨w0.heap.size, 0, none⟩ = some (Value.int .i64 ny) ∧ w'.cell? ⟨w0.heap.size, 1, none⟩ = some (Value.slice Ay y.length cy))
          (first | exact ⟨(((Vxy_11.out.below (Below.refl _ _).drew).below b12).below b13).cell 0 _ rfl, (((Vxy_11.out.below (Below.refl _ _).drew).below b12).below b13).cell 1 _ rfl, (((Vby_11.out.below (Below.refl _ _).drew).below b12).below b13).cell 0 _ rfl, (((Vby_11.out.below (Below.refl _ _).drew).below b12).below b13).cell 1 _ rfl⟩ | exact ⟨((Vxy_11.out.below (Below.refl _ _).drew).below b12).cell 0 _ rfl, ((Vxy_11.out.below (Below.refl _ _).drew).below b12).cell 1 _ rfl, ((Vby_11.out.below (Below.refl _ _).drew).below b12).cell 0 _ rfl, ((Vby_11.out.below (Below.refl _ _).drew).below b12).cell 1 _ rfl⟩ | go_keep)
          (first
            | (go_at_call 31; refine (Calls.mono (SysK.copy ny Ay cy y _ (hy.below B11.out.drew) hny)) ?_; rintro e w12 ⟨C11, rfl, oc11, b12⟩)
            | (go_at_call 33; refine (Calls.mono (SysK.eq_same ny Xy C11 y.length y.length y _ ((Oxy_11.out.below (Below.refl _ _).drew).below b12).arg oc11.arg hny)) ?_; rintro e w13 ⟨rfl, b13⟩))
        have h12 : w11.heap.size ≤ w12.heap.size := b12.size
        have h13 : w12.heap.size ≤ w13.heap.size := b13.size
        have d13 : Below w11.heap.size w11 w13 := (((Below.refl w11.heap.size w11).drew.trans (b12.mono (show w11.heap.size ≤ w11.heap.size by omega))).trans (b13.mono (show w11.heap.size ≤ w12.heap.size by omega)))
        have hs13 := d13.size
        have B13 := Lib.hid (B11.out.trans (d13.mono B11.out.size))
        have Vby_13 := Lib.hid (Vby_11.out.below d13)
        have Vbl_13 := Lib.hid (Vbl_11.out.below d13)
        have Vbf_13 := Lib.hid (Vbf_11.out.below d13)
        have Oxy_13 := Lib.hid (Oxy_11.out.below d13)
        have Vxy_13 := Lib.hid (Vxy_11.out.below d13)
        have Oxl_13 := Lib.hid (Oxl_11.out.below d13)
        have Vxl_13 := Lib.hid (Vxl_11.out.below d13)
        have Oxf_13 := Lib.hid (Oxf_11.out.below d13)
        have Vxf_13 := Lib.hid (Vxf_11.out.below d13)
        clear Vby_11 Vbl_11 Vbf_11 Oxy_11 Vxy_11 Oxl_11 Vxl_11 Oxf_11 Vxf_11 c_Vby_0 c_Vby_1 lt_Vby c_Vbl_0 c_Vbl_1 lt_Vbl c_Vbf_0 c_Vbf_1 lt_Vbf c_Vxy_0 c_Vxy_1 lt_Vxy c_Vxl_0 c_Vxl_1 lt_Vxl c_Vxf_0 c_Vxf_1 lt_Vxf b12 h12 b13 h13 d13
        clear oc11
        have c_Vby_0 := Vby_13.out.cell 0 _ rfl
        have c_Vby_1 := Vby_13.out.cell 1 _ rfl
        have lt_Vby := Vby_13.out.lt
        have c_Vbl_0 := Vbl_13.out.cell 0 _ rfl
        have c_Vbl_1 := Vbl_13.out.cell 1 _ rfl
        have lt_Vbl := Vbl_13.out.lt
        have c_Vbf_0 := Vbf_13.out.cell 0 _ rfl
        have c_Vbf_1 := Vbf_13.out.cell 1 _ rfl
        have lt_Vbf := Vbf_13.out.lt
        have c_Vxy_0 := Vxy_13.out.cell 0 _ rfl
        have c_Vxy_1 := Vxy_13.out.cell 1 _ rfl
        have lt_Vxy := Vxy_13.out.lt
        have c_Vxl_0 := Vxl_13.out.cell 0 _ rfl
        have c_Vxl_1 := Vxl_13.out.cell 1 _ rfl
        have lt_Vxl := Vxl_13.out.lt
        have c_Vxf_0 := Vxf_13.out.cell 0 _ rfl
        have c_Vxf_1 := Vxf_13.out.cell 1 _ rfl
        have lt_Vxf := Vxf_13.out.lt
        go_wp2_with fail
        go_region_held3 (fun w' => w'.cell? ⟨w9.heap.size, 0, none⟩ = some (Value.int .i64 zl) ∧ w'.cell? ⟨w9.heap.size, 1, none⟩ = some (Value.slice Xl l.length l.length) ∧ w'.cell? ⟨w0.heap.size + 1, 0, none⟩ = some (Value.int .i64 zl) ∧ w'.cell? ⟨w0.heap.size + 1, 1, none⟩ = some (Value.slice Al l.length cl))
          (first | exact ⟨(((Vxl_13.out.below (Below.refl _ _).drew).below b14).below b15).cell 0 _ rfl, (((Vxl_13.out.below (Below.refl _ _).drew).below b14).below b15).cell 1 _ rfl, (((Vbl_13.out.below (Below.refl _ _).drew).below b14).below b15).cell 0 _ rfl, (((Vbl_13.out.below (Below.refl _ _).drew).below b14).below b15).cell 1 _ rfl⟩ | exact ⟨((Vxl_13.out.below (Below.refl _ _).drew).below b14).cell 0 _ rfl, ((Vxl_13.out.below (Below.refl _ _).drew).below b14).cell 1 _ rfl, ((Vbl_13.out.below (Below.refl _ _).drew).below b14).cell 0 _ rfl, ((Vbl_13.out.below (Below.refl _ _).drew).below b14).cell 1 _ rfl⟩ | go_keep)
          (first
            | (go_at_call 28; refine (Calls.mono (LinK.copy 0 w0.heap.size zl Al cl l _ (hl.below B13.out.drew) hnl)) ?_; rintro e w14 ⟨C13, rfl, rc13, fc13, b14⟩)
            | (go_at_call 29; refine (Calls.mono (LinK.eq_same _ _ _ _ zl Xl C13 l.length l.length l _ ((Oxl_13.out.below (Below.refl _ _).drew).below b14).1 rc13 (by omega))) ?_; rintro e w15 ⟨rfl, b15⟩))
        have h14 : w13.heap.size ≤ w14.heap.size := b14.size
        have h15 : w14.heap.size ≤ w15.heap.size := b15.size
        have d15 : Below w13.heap.size w13 w15 := (((Below.refl w13.heap.size w13).drew.trans (b14.mono (show w13.heap.size ≤ w13.heap.size by omega))).trans (b15.mono (show w13.heap.size ≤ w14.heap.size by omega)))
        have hs15 := d15.size
        have B15 := Lib.hid (B13.out.trans (d15.mono B13.out.size))
        have Vby_15 := Lib.hid (Vby_13.out.below d15)
        have Vbl_15 := Lib.hid (Vbl_13.out.below d15)
        have Vbf_15 := Lib.hid (Vbf_13.out.below d15)
        have Oxy_15 := Lib.hid (Oxy_13.out.below d15)
        have Vxy_15 := Lib.hid (Vxy_13.out.below d15)
        have Oxl_15 := Lib.hid (Oxl_13.out.below d15)
        have Vxl_15 := Lib.hid (Vxl_13.out.below d15)
        have Oxf_15 := Lib.hid (Oxf_13.out.below d15)
        have Vxf_15 := Lib.hid (Vxf_13.out.below d15)
        clear Vby_13 Vbl_13 Vbf_13 Oxy_13 Vxy_13 Oxl_13 Vxl_13 Oxf_13 Vxf_13 c_Vby_0 c_Vby_1 lt_Vby c_Vbl_0 c_Vbl_1 lt_Vbl c_Vbf_0 c_Vbf_1 lt_Vbf c_Vxy_0 c_Vxy_1 lt_Vxy c_Vxl_0 c_Vxl_1 lt_Vxl c_Vxf_0 c_Vxf_1 lt_Vxf b14 h14 b15 h15 d15
        clear rc13 fc13
        have c_Vby_0 := Vby_15.out.cell 0 _ rfl
        have c_Vby_1 := Vby_15.out.cell 1 _ rfl
        have lt_Vby := Vby_15.out.lt
        have c_Vbl_0 := Vbl_15.out.cell 0 _ rfl
        have c_Vbl_1 := Vbl_15.out.cell 1 _ rfl
        have lt_Vbl := Vbl_15.out.lt
        have c_Vbf_0 := Vbf_15.out.cell 0 _ rfl
        have c_Vbf_1 := Vbf_15.out.cell 1 _ rfl
        have lt_Vbf := Vbf_15.out.lt
        have c_Vxy_0 := Vxy_15.out.cell 0 _ rfl
        have c_Vxy_1 := Vxy_15.out.cell 1 _ rfl
        have lt_Vxy := Vxy_15.out.lt
        have c_Vxl_0 := Vxl_15.out.cell 0 _ rfl
        have c_Vxl_1 := Vxl_15.out.cell 1 _ rfl
        have lt_Vxl := Vxl_15.out.lt
        have c_Vxf_0 := Vxf_15.out.cell 0 _ rfl
        have c_Vxf_1 := Vxf_15.out.cell 1 _ rfl
        have lt_Vxf := Vxf_15.out.lt
        go_wp2_with fail
        go_region_held3 (fun w' => w'.cell? ⟨w10.heap.size, 0, none⟩ = some (Value.int .i64 zf) ∧ w'.cell? ⟨w10.heap.size, 1, none⟩ = some (Value.slice Xf f.length f.length) ∧ w'.cell? ⟨w0.heap.size + 1 + 1, 0, none⟩ = some (Value.int .i64 zf) ∧ w'.cell? ⟨w0.heap.size + 1 + 1, 1, none⟩ = some (Value.slice Af f.length cf))
          (first | exact ⟨(((Vxf_15.out.below (Below.refl _ _).drew).below b16).below b17).cell 0 _ rfl, (((Vxf_15.out.below (Below.refl _ _).drew).below b16).below b17).cell 1 _ rfl, (((Vbf_15.out.below (Below.refl _ _).drew).below b16).below b17).cell 0 _ rfl, (((Vbf_15.out.below (Below.refl _ _).drew).below b16).below b17).cell 1 _ rfl⟩ | exact ⟨((Vxf_15.out.below (Below.refl _ _).drew).below b16).cell 0 _ rfl, ((Vxf_15.out.below (Below.refl _ _).drew).below b16).cell 1 _ rfl, ((Vbf_15.out.below (Below.refl _ _).drew).below b16).cell 0 _ rfl, ((Vbf_15.out.below (Below.refl _ _).drew).below b16).cell 1 _ rfl⟩ | go_keep)
          (first
            | (go_at_call 40; refine (Calls.mono (FarK.copy 0 w0.heap.size zf Af cf f _ (hf.below B15.out.drew) hnf)) ?_; rintro e w16 ⟨C15, rfl, rc15, fc15, b16⟩)
            | (go_at_call 41; refine (Calls.mono (FarK.eq_same _ _ _ _ zf Xf C15 f.length f.length f _ ((Oxf_15.out.below (Below.refl _ _).drew).below b16).1 rc15 (by omega))) ?_; rintro e w17 ⟨rfl, b17⟩))
        have h16 : w15.heap.size ≤ w16.heap.size := b16.size
        have h17 : w16.heap.size ≤ w17.heap.size := b17.size
        have d17 : Below w15.heap.size w15 w17 := (((Below.refl w15.heap.size w15).drew.trans (b16.mono (show w15.heap.size ≤ w15.heap.size by omega))).trans (b17.mono (show w15.heap.size ≤ w16.heap.size by omega)))
        have hs17 := d17.size
        have B17 := Lib.hid (B15.out.trans (d17.mono B15.out.size))
        have Vby_17 := Lib.hid (Vby_15.out.below d17)
        have Vbl_17 := Lib.hid (Vbl_15.out.below d17)
        have Vbf_17 := Lib.hid (Vbf_15.out.below d17)
        have Oxy_17 := Lib.hid (Oxy_15.out.below d17)
        have Vxy_17 := Lib.hid (Vxy_15.out.below d17)
        have Oxl_17 := Lib.hid (Oxl_15.out.below d17)
        have Vxl_17 := Lib.hid (Vxl_15.out.below d17)
        have Oxf_17 := Lib.hid (Oxf_15.out.below d17)
        have Vxf_17 := Lib.hid (Vxf_15.out.below d17)
        clear Vby_15 Vbl_15 Vbf_15 Oxy_15 Vxy_15 Oxl_15 Vxl_15 Oxf_15 Vxf_15 c_Vby_0 c_Vby_1 lt_Vby c_Vbl_0 c_Vbl_1 lt_Vbl c_Vbf_0 c_Vbf_1 lt_Vbf c_Vxy_0 c_Vxy_1 lt_Vxy c_Vxl_0 c_Vxl_1 lt_Vxl c_Vxf_0 c_Vxf_1 lt_Vxf b16 h16 b17 h17 d17
        clear rc15 fc15
        have c_Vby_0 := Vby_17.out.cell 0 _ rfl
        have c_Vby_1 := Vby_17.out.cell 1 _ rfl
        have lt_Vby := Vby_17.out.lt
        have c_Vbl_0 := Vbl_17.out.cell 0 _ rfl
        have c_Vbl_1 := Vbl_17.out.cell 1 _ rfl
        have lt_Vbl := Vbl_17.out.lt
        have c_Vbf_0 := Vbf_17.out.cell 0 _ rfl
        have c_Vbf_1 := Vbf_17.out.cell 1 _ rfl
        have lt_Vbf := Vbf_17.out.lt
        have c_Vxy_0 := Vxy_17.out.cell 0 _ rfl
        have c_Vxy_1 := Vxy_17.out.cell 1 _ rfl
        have lt_Vxy := Vxy_17.out.lt
        have c_Vxl_0 := Vxl_17.out.cell 0 _ rfl
        have c_Vxl_1 := Vxl_17.out.cell 1 _ rfl
        have lt_Vxl := Vxl_17.out.lt
        have c_Vxf_0 := Vxf_17.out.cell 0 _ rfl
        have c_Vxf_1 := Vxf_17.out.cell 1 _ rfl
        have lt_Vxf := Vxf_17.out.lt
        go_wp2
        go_ret
        exact ⟨rfl, B17.out⟩
      · simp only [if_neg htf] at SZ
        have HS2 := Lib.hid SZ
        clear SZ hlenf
        have B0 := Lib.hid (Below.refl w0.heap.size w0)
        go_enter Try.func7, Try.ntmps7
        go_wp2_with fail
        refine (Calls.mono (HS0.out _ (hy.below (B0.out.trans (((((Below.refl w0.heap.size w0).alloc (by first | (simp; done) | (simp; omega)) (Obj.cells #[Value.int .i64 ny, Value.slice Ay y.length cy] 52)).alloc (by first | (simp; done) | (simp; omega)) (Obj.cells #[Value.int .i64 zl, Value.slice Al l.length cl] 46)).alloc (by first | (simp; done) | (simp; omega)) (Obj.cells #[Value.int .i64 zf, Value.slice Af f.length cf] 62)).mono B0.out.size))))) ?_
        rintro e w1 ⟨rfl, b1⟩
        have hs1 : (((w0.alloc (Obj.cells #[Value.int .i64 ny, Value.slice Ay y.length cy] 52)).alloc (Obj.cells #[Value.int .i64 zl, Value.slice Al l.length cl] 46)).alloc (Obj.cells #[Value.int .i64 zf, Value.slice Af f.length cf] 62)).heap.size ≤ w1.heap.size := b1.size
        simp only [World.size_alloc] at hs1
        have d1 : Below w0.heap.size w0 w1 := ((((Below.refl w0.heap.size w0).alloc (by first | (simp; done) | (simp; omega)) (Obj.cells #[Value.int .i64 ny, Value.slice Ay y.length cy] 52)).alloc (by first | (simp; done) | (simp; omega)) (Obj.cells #[Value.int .i64 zl, Value.slice Al l.length cl] 46)).alloc (by first | (simp; done) | (simp; omega)) (Obj.cells #[Value.int .i64 zf, Value.slice Af f.length cf] 62)).trans (b1.mono (show w0.heap.size ≤ (((w0.alloc (Obj.cells #[Value.int .i64 ny, Value.slice Ay y.length cy] 52)).alloc (Obj.cells #[Value.int .i64 zl, Value.slice Al l.length cl] 46)).alloc (Obj.cells #[Value.int .i64 zf, Value.slice Af f.length cf] 62)).heap.size by first | exact Nat.le_refl _ | (simp; done) | (simp; omega)))
        have B1 := Lib.hid (B0.out.trans (d1.mono B0.out.size))
        have Vby_1 := Lib.hid ((((Lvar.new w0 #[Value.int .i64 ny, Value.slice Ay y.length cy] 52).alloc (Obj.cells #[Value.int .i64 zl, Value.slice Al l.length cl] 46)).alloc (Obj.cells #[Value.int .i64 zf, Value.slice Af f.length cf] 62)).below b1)
        have Vbl_1 := Lib.hid (((Lvar.new (w0.alloc (Obj.cells #[Value.int .i64 ny, Value.slice Ay y.length cy] 52)) #[Value.int .i64 zl, Value.slice Al l.length cl] 46).alloc (Obj.cells #[Value.int .i64 zf, Value.slice Af f.length cf] 62)).below b1)
        simp only [World.size_alloc] at Vbl_1
        have Vbf_1 := Lib.hid ((Lvar.new ((w0.alloc (Obj.cells #[Value.int .i64 ny, Value.slice Ay y.length cy] 52)).alloc (Obj.cells #[Value.int .i64 zl, Value.slice Al l.length cl] 46)) #[Value.int .i64 zf, Value.slice Af f.length cf] 62).below b1)
        simp only [World.size_alloc] at Vbf_1
        clear b1 d1
        have c_Vby_0 := Vby_1.out.cell 0 _ rfl
        have c_Vby_1 := Vby_1.out.cell 1 _ rfl
        have lt_Vby := Vby_1.out.lt
        have c_Vbl_0 := Vbl_1.out.cell 0 _ rfl
        have c_Vbl_1 := Vbl_1.out.cell 1 _ rfl
        have lt_Vbl := Vbl_1.out.lt
        have c_Vbf_0 := Vbf_1.out.cell 0 _ rfl
        have c_Vbf_1 := Vbf_1.out.cell 1 _ rfl
        have lt_Vbf := Vbf_1.out.lt
        go_wp2_with fail
        refine (Calls.mono (HS1.out _)) ?_
        rintro e w2 ⟨rfl, b2⟩
        have hs2 : w1.heap.size ≤ w2.heap.size := b2.size
        have d2 : Below w1.heap.size w1 w2 := (Below.refl w1.heap.size w1).trans (b2.mono (show w1.heap.size ≤ w1.heap.size by first | exact Nat.le_refl _ | (simp; done) | (simp; omega)))
        have B2 := Lib.hid (B1.out.trans (d2.mono B1.out.size))
        have Vby_2 := Lib.hid (Vby_1.out.below d2)
        have Vbl_2 := Lib.hid (Vbl_1.out.below d2)
        have Vbf_2 := Lib.hid (Vbf_1.out.below d2)
        clear Vby_1 Vbl_1 Vbf_1 c_Vby_0 c_Vby_1 lt_Vby c_Vbl_0 c_Vbl_1 lt_Vbl c_Vbf_0 c_Vbf_1 lt_Vbf b2 d2
        have c_Vby_0 := Vby_2.out.cell 0 _ rfl
        have c_Vby_1 := Vby_2.out.cell 1 _ rfl
        have lt_Vby := Vby_2.out.lt
        have c_Vbl_0 := Vbl_2.out.cell 0 _ rfl
        have c_Vbl_1 := Vbl_2.out.cell 1 _ rfl
        have lt_Vbl := Vbl_2.out.lt
        have c_Vbf_0 := Vbf_2.out.cell 0 _ rfl
        have c_Vbf_1 := Vbf_2.out.cell 1 _ rfl
        have lt_Vbf := Vbf_2.out.lt
        go_wp2_with fail
        refine (Calls.mono (HS2.out _)) ?_
        rintro e w3 ⟨rfl, b3⟩
        have hs3 : w2.heap.size ≤ w3.heap.size := b3.size
        have d3 : Below w2.heap.size w2 w3 := (Below.refl w2.heap.size w2).trans (b3.mono (show w2.heap.size ≤ w2.heap.size by first | exact Nat.le_refl _ | (simp; done) | (simp; omega)))
        have B3 := Lib.hid (B2.out.trans (d3.mono B2.out.size))
        have Vby_3 := Lib.hid (Vby_2.out.below d3)
        have Vbl_3 := Lib.hid (Vbl_2.out.below d3)
        have Vbf_3 := Lib.hid (Vbf_2.out.below d3)
        clear Vby_2 Vbl_2 Vbf_2 c_Vby_0 c_Vby_1 lt_Vby c_Vbl_0 c_Vbl_1 lt_Vbl c_Vbf_0 c_Vbf_1 lt_Vbf b3 d3
        have c_Vby_0 := Vby_3.out.cell 0 _ rfl
        have c_Vby_1 := Vby_3.out.cell 1 _ rfl
        have lt_Vby := Vby_3.out.lt
        have c_Vbl_0 := Vbl_3.out.cell 0 _ rfl
        have c_Vbl_1 := Vbl_3.out.cell 1 _ rfl
        have lt_Vbl := Vbl_3.out.lt
        have c_Vbf_0 := Vbf_3.out.cell 0 _ rfl
        have c_Vbf_1 := Vbf_3.out.cell 1 _ rfl
        have lt_Vbf := Vbf_3.out.lt
        go_wp2
        go_ret
        exact ⟨rfl, B3.out⟩
    · simp only [if_neg htl] at SZ
      have HS1 := Lib.hid SZ
      clear SZ hlenl
      have B0 := Lib.hid (Below.refl w0.heap.size w0)
      go_enter Try.func7, Try.ntmps7
      go_wp2_with fail
      refine (Calls.mono (HS0.out _ (hy.below (B0.out.trans (((((Below.refl w0.heap.size w0).alloc (by first | (simp; done) | (simp; omega)) (Obj.cells #[Value.int .i64 ny, Value.slice Ay y.length cy] 52)).alloc (by first | (simp; done) | (simp; omega)) (Obj.cells #[Value.int .i64 zl, Value.slice Al l.length cl] 46)).alloc (by first | (simp; done) | (simp; omega)) (Obj.cells #[Value.int .i64 zf, Value.slice Af f.length cf] 62)).mono B0.out.size))))) ?_
      rintro e w1 ⟨rfl, b1⟩
      have hs1 : (((w0.alloc (Obj.cells #[Value.int .i64 ny, Value.slice Ay y.length cy] 52)).alloc (Obj.cells #[Value.int .i64 zl, Value.slice Al l.length cl] 46)).alloc (Obj.cells #[Value.int .i64 zf, Value.slice Af f.length cf] 62)).heap.size ≤ w1.heap.size := b1.size
      simp only [World.size_alloc] at hs1
      have d1 : Below w0.heap.size w0 w1 := ((((Below.refl w0.heap.size w0).alloc (by first | (simp; done) | (simp; omega)) (Obj.cells #[Value.int .i64 ny, Value.slice Ay y.length cy] 52)).alloc (by first | (simp; done) | (simp; omega)) (Obj.cells #[Value.int .i64 zl, Value.slice Al l.length cl] 46)).alloc (by first | (simp; done) | (simp; omega)) (Obj.cells #[Value.int .i64 zf, Value.slice Af f.length cf] 62)).trans (b1.mono (show w0.heap.size ≤ (((w0.alloc (Obj.cells #[Value.int .i64 ny, Value.slice Ay y.length cy] 52)).alloc (Obj.cells #[Value.int .i64 zl, Value.slice Al l.length cl] 46)).alloc (Obj.cells #[Value.int .i64 zf, Value.slice Af f.length cf] 62)).heap.size by first | exact Nat.le_refl _ | (simp; done) | (simp; omega)))
      have B1 := Lib.hid (B0.out.trans (d1.mono B0.out.size))
      have Vby_1 := Lib.hid ((((Lvar.new w0 #[Value.int .i64 ny, Value.slice Ay y.length cy] 52).alloc (Obj.cells #[Value.int .i64 zl, Value.slice Al l.length cl] 46)).alloc (Obj.cells #[Value.int .i64 zf, Value.slice Af f.length cf] 62)).below b1)
      have Vbl_1 := Lib.hid (((Lvar.new (w0.alloc (Obj.cells #[Value.int .i64 ny, Value.slice Ay y.length cy] 52)) #[Value.int .i64 zl, Value.slice Al l.length cl] 46).alloc (Obj.cells #[Value.int .i64 zf, Value.slice Af f.length cf] 62)).below b1)
      simp only [World.size_alloc] at Vbl_1
      have Vbf_1 := Lib.hid ((Lvar.new ((w0.alloc (Obj.cells #[Value.int .i64 ny, Value.slice Ay y.length cy] 52)).alloc (Obj.cells #[Value.int .i64 zl, Value.slice Al l.length cl] 46)) #[Value.int .i64 zf, Value.slice Af f.length cf] 62).below b1)
      simp only [World.size_alloc] at Vbf_1
      clear b1 d1
      have c_Vby_0 := Vby_1.out.cell 0 _ rfl
      have c_Vby_1 := Vby_1.out.cell 1 _ rfl
      have lt_Vby := Vby_1.out.lt
      have c_Vbl_0 := Vbl_1.out.cell 0 _ rfl
      have c_Vbl_1 := Vbl_1.out.cell 1 _ rfl
      have lt_Vbl := Vbl_1.out.lt
      have c_Vbf_0 := Vbf_1.out.cell 0 _ rfl
      have c_Vbf_1 := Vbf_1.out.cell 1 _ rfl
      have lt_Vbf := Vbf_1.out.lt
      go_wp2_with fail
      refine (Calls.mono (HS1.out _)) ?_
      rintro e w2 ⟨rfl, b2⟩
      have hs2 : w1.heap.size ≤ w2.heap.size := b2.size
      have d2 : Below w1.heap.size w1 w2 := (Below.refl w1.heap.size w1).trans (b2.mono (show w1.heap.size ≤ w1.heap.size by first | exact Nat.le_refl _ | (simp; done) | (simp; omega)))
      have B2 := Lib.hid (B1.out.trans (d2.mono B1.out.size))
      have Vby_2 := Lib.hid (Vby_1.out.below d2)
      have Vbl_2 := Lib.hid (Vbl_1.out.below d2)
      have Vbf_2 := Lib.hid (Vbf_1.out.below d2)
      clear Vby_1 Vbl_1 Vbf_1 c_Vby_0 c_Vby_1 lt_Vby c_Vbl_0 c_Vbl_1 lt_Vbl c_Vbf_0 c_Vbf_1 lt_Vbf b2 d2
      have c_Vby_0 := Vby_2.out.cell 0 _ rfl
      have c_Vby_1 := Vby_2.out.cell 1 _ rfl
      have lt_Vby := Vby_2.out.lt
      have c_Vbl_0 := Vbl_2.out.cell 0 _ rfl
      have c_Vbl_1 := Vbl_2.out.cell 1 _ rfl
      have lt_Vbl := Vbl_2.out.lt
      have c_Vbf_0 := Vbf_2.out.cell 0 _ rfl
      have c_Vbf_1 := Vbf_2.out.cell 1 _ rfl
      have lt_Vbf := Vbf_2.out.lt
      go_wp2
      go_ret
      exact ⟨rfl, B2.out⟩
  · simp only [if_neg hty] at SZ
    have HS0 := Lib.hid SZ
    clear SZ hleny hwfy
    have B0 := Lib.hid (Below.refl w0.heap.size w0)
    go_enter Try.func7, Try.ntmps7
    go_wp2_with fail
    refine (Calls.mono (HS0.out _ (hy.below (B0.out.trans (((((Below.refl w0.heap.size w0).alloc (by first | (simp; done) | (simp; omega)) (Obj.cells #[Value.int .i64 ny, Value.slice Ay y.length cy] 52)).alloc (by first | (simp; done) | (simp; omega)) (Obj.cells #[Value.int .i64 zl, Value.slice Al l.length cl] 46)).alloc (by first | (simp; done) | (simp; omega)) (Obj.cells #[Value.int .i64 zf, Value.slice Af f.length cf] 62)).mono B0.out.size))))) ?_
    rintro e w1 ⟨rfl, b1⟩
    have hs1 : (((w0.alloc (Obj.cells #[Value.int .i64 ny, Value.slice Ay y.length cy] 52)).alloc (Obj.cells #[Value.int .i64 zl, Value.slice Al l.length cl] 46)).alloc (Obj.cells #[Value.int .i64 zf, Value.slice Af f.length cf] 62)).heap.size ≤ w1.heap.size := b1.size
    simp only [World.size_alloc] at hs1
    have d1 : Below w0.heap.size w0 w1 := ((((Below.refl w0.heap.size w0).alloc (by first | (simp; done) | (simp; omega)) (Obj.cells #[Value.int .i64 ny, Value.slice Ay y.length cy] 52)).alloc (by first | (simp; done) | (simp; omega)) (Obj.cells #[Value.int .i64 zl, Value.slice Al l.length cl] 46)).alloc (by first | (simp; done) | (simp; omega)) (Obj.cells #[Value.int .i64 zf, Value.slice Af f.length cf] 62)).trans (b1.mono (show w0.heap.size ≤ (((w0.alloc (Obj.cells #[Value.int .i64 ny, Value.slice Ay y.length cy] 52)).alloc (Obj.cells #[Value.int .i64 zl, Value.slice Al l.length cl] 46)).alloc (Obj.cells #[Value.int .i64 zf, Value.slice Af f.length cf] 62)).heap.size by first | exact Nat.le_refl _ | (simp; done) | (simp; omega)))
    have B1 := Lib.hid (B0.out.trans (d1.mono B0.out.size))
    have Vby_1 := Lib.hid ((((Lvar.new w0 #[Value.int .i64 ny, Value.slice Ay y.length cy] 52).alloc (Obj.cells #[Value.int .i64 zl, Value.slice Al l.length cl] 46)).alloc (Obj.cells #[Value.int .i64 zf, Value.slice Af f.length cf] 62)).below b1)
    have Vbl_1 := Lib.hid (((Lvar.new (w0.alloc (Obj.cells #[Value.int .i64 ny, Value.slice Ay y.length cy] 52)) #[Value.int .i64 zl, Value.slice Al l.length cl] 46).alloc (Obj.cells #[Value.int .i64 zf, Value.slice Af f.length cf] 62)).below b1)
    simp only [World.size_alloc] at Vbl_1
    have Vbf_1 := Lib.hid ((Lvar.new ((w0.alloc (Obj.cells #[Value.int .i64 ny, Value.slice Ay y.length cy] 52)).alloc (Obj.cells #[Value.int .i64 zl, Value.slice Al l.length cl] 46)) #[Value.int .i64 zf, Value.slice Af f.length cf] 62).below b1)
    simp only [World.size_alloc] at Vbf_1
    clear b1 d1
    have c_Vby_0 := Vby_1.out.cell 0 _ rfl
    have c_Vby_1 := Vby_1.out.cell 1 _ rfl
    have lt_Vby := Vby_1.out.lt
    have c_Vbl_0 := Vbl_1.out.cell 0 _ rfl
    have c_Vbl_1 := Vbl_1.out.cell 1 _ rfl
    have lt_Vbl := Vbl_1.out.lt
    have c_Vbf_0 := Vbf_1.out.cell 0 _ rfl
    have c_Vbf_1 := Vbf_1.out.cell 1 _ rfl
    have lt_Vbf := Vbf_1.out.lt
    go_wp2
    go_ret
    exact ⟨rfl, B1.out⟩

set_option maxRecDepth 100000 in
theorem lifted (os : Os) (started : os.Started) (H : Type) (enc : TypeId × Value → H) :
    ReturnsInHanded {} Try.checked os 7 .any (Rows.fnExactCheckFarkasSpec.pre6 enc Try.prog Try.f7 Rows.fnExactCheckFarkasRow.domain false) (Rows.fnExactCheckFarkasSpec.post enc Try.prog Try.f7 false true false false) := by
  refine returnsInHanded_of_change (C := Try.checked) Frame.own started (by kernel_rfl) Try.func7
    (ChangeSpec.witness6 (enc := enc) (C := Try.checked) false ⟨#[], #[.agg #[.int .i64 0, .slice none 0 0], .agg #[.int .i64 0, .slice none 0 0], .agg #[.int .i64 0, .slice none 0 0]], []⟩ 8 (by kernel_rfl) (by kernel_rfl) (by kernel_rfl) (by kernel_rfl)) ?_
  intro W base args ds gs before hval0 hW _ _
  have hW' := hW
  have hval : ∀ (j : Nat) t v, Try.f7.params[j]? = some t → args[j]? = some v → Value.okWide Try.prog W .any base t v := hval0
  obtain ⟨p, q, hA0, hV, rfl, hfz, hnd⟩ := hW
  have hA : DataW.TrodAll enc Try.prog W 0 (fun _ => true) true Try.f7.params.toList args.toList ds p := hA0
  rw [Try.params7] at hA hval
  obtain ⟨v0, v1, v2, d0, d1, d2, p0, p1, p2, rfl, rfl, rfl, h0, h1, h2⟩ := trodAll_three hA
  have hlt := fun x hx => hW'.lt x hx
  obtain ⟨rfl, rfl⟩ := trodVars_none hV
  obtain ⟨ny, ay, cy, fpy, y, rfl, wy, hry, hly, hsy⟩ := Frame.open_sys (W := W) isLin Try.underlying52 (by kernel_rfl) (by kernel_rfl) rfl rfl Try.underlying50 (hval 0 52 v0 rfl rfl) h0 (fun x hx => hlt x (by simp [hx]))
  obtain ⟨zl, al, cl, l, rfl, wl, hrl, hll, hsl, hcl⟩ := Frame.open_lin (W := W) Try.underlying46 (by kernel_rfl) (by kernel_rfl) rfl rfl Try.underlying3 Try.underlying27 (by kernel_rfl) (hval 1 46 v1 rfl rfl) h1 (fun x hx => hlt x (by simp [hx]))
  obtain ⟨zf, af, cf, f, rfl, wf, hrf, hlf, hsf, hcf⟩ := Frame.open_lin (W := W) Try.underlying62 (by kernel_rfl) (by kernel_rfl) rfl rfl Try.underlying3 Try.underlying27 (by kernel_rfl) (hval 2 62 v2 rfl rfl) h2 (fun x hx => hlt x (by simp [hx]))
  refine (walk ny ay cy y zl al cl l zf af cf f W ⟨_, _, hry⟩ hly hsy hrl hll hrf hlf).mono fun e W' ⟨he, hb⟩ => ?_
  subst he
  exact ⟨_, rfl, Frame.law_post (tb := 4) Frame.laidOut (by kernel_rfl) (by kernel_rfl) (by kernel_rfl) Try.underlying4 hW' rfl hb⟩

theorem proved : Rows.FnExactCheckFarkasSaid :=
  OpenClaim.holds_of_wide 7 Try.f7 rfl rfl rfl rfl rfl rfl rfl ⟨rfl, rfl, rfl, rfl, rfl⟩ rfl rfl rfl rfl rfl (by kernel_rfl) Try.func7 (by kernel_rfl)
    (of_decide_eq_true (by kernel_rfl)) (by unfold Func.isWrapper; first | (rw [if_pos (by decide +kernel)]; kernel_rfl) | (rw [if_neg (by decide +kernel)]; exact ⟨rfl, rfl⟩))
    (fun os started H enc _ => lifted os started H enc)
end LawCheckFarkas
end Go.Proofs.Ytnbgmhlhbcoicaa
