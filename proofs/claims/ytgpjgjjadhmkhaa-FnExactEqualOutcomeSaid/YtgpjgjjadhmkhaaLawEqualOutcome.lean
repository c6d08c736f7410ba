import Derived.Test.YtgpjgjjadhmkhaaRows
import Derived.Test.YtgpjgjjadhmkhaaFrameArg
import Derived.Test.YtgpjgjjadhmkhaaFOutcome
import Derived.Test.YtgpjgjjadhmkhaaValI
import Derived.Test.YtgpjgjjadhmkhaaValS
import Derived.Deep.RegionHeld3
import Derived.SliceStrings
/- At every argument, impl.EqualOutcome answers as its model and writes nothing into its arguments: the law FnExactEqualOutcome returns true. There is no condition. -/
namespace Go.Proofs.Ytgpjgjjadhmkhaa
open Go.ChangeShapes Go.WideShapes Go.ChangeAt Go.RowKit
open Go.ChangeMaps (open_string shut_string)
namespace LawEqualOutcome
open RowK Mem
set_option maxHeartbeats 4000000 in
set_option maxRecDepth 100000 in
theorem walk (z0p : Int) (z1p : Bool) (z2p : Int) (A3p : Option Addr) (c3p : Nat) (x3p : List Int) (z4p : Int) (z5p : Int) (z0r : Int) (z1r : Bool) (z2r : Int) (A3r : Option Addr) (c3r : Nat) (x3r : List Int) (z4r : Int) (z5r : Int) (w0 : World) (hp : Mem.ArgR Mem.outc w0 [.int .i64 z0p, .bool z1p, .int .i64 z2p, .slice A3p x3p.length c3p, .int .i64 z4p, .int .i64 z5p] (z0p, (z1p, z2p, x3p), z4p, z5p)) (hwfp : Mem.WfOutcomeU (z0p, (z1p, z2p, x3p), z4p, z5p)) (hr : Mem.ArgR Mem.outc w0 [.int .i64 z0r, .bool z1r, .int .i64 z2r, .slice A3r x3r.length c3r, .int .i64 z4r, .int .i64 z5r] (z0r, (z1r, z2r, x3r), z4r, z5r)) (hwfr : Mem.WfOutcomeU (z0r, (z1r, z2r, x3r), z4r, z5r)) :
    Calls Try.prog 5 #[.agg #[.int .i64 z0p, .bool z1p, .int .i64 z2p, .slice A3p x3p.length c3p, .int .i64 z4p, .int .i64 z5p], .agg #[.int .i64 z0r, .bool z1r, .int .i64 z2r, .slice A3r x3r.length c3r, .int .i64 z4r, .int .i64 z5r]] w0 fun e w' => e = .returned (.bool true) ∧ Below w0.heap.size w0 w' := by
  have SZ := fun W (h : Mem.ArgR Mem.outc W [.int .i64 z0p, .bool z1p, .int .i64 z2p, .slice A3p x3p.length c3p, .int .i64 z4p, .int .i64 z5p] (z0p, (z1p, z2p, x3p), z4p, z5p)) => Mem.sizeOutcomeA z0p z1p z2p A3p c3p x3p z4p z5p 1048576 W h (by omega) hwfp
  unfold IntK.leftOf at SZ
  by_cases htp : Mem.szOutcomeU (z0p, (z1p, z2p, x3p), z4p, z5p) ≤ 1048576
  · simp only [if_pos htp] at SZ
    have HS0 := Lib.hid SZ
    have hnp : Mem.szOutcomeU (z0p, (z1p, z2p, x3p), z4p, z5p) ≤ 100000000 := by omega
    clear SZ
    obtain ⟨t0, hte0⟩ : ∃ t : Nat, t = 1048576 - Mem.szOutcomeU (z0p, (z1p, z2p, x3p), z4p, z5p) := ⟨_, rfl⟩
    have htc0 : ((1048576 : Nat) : Int) - ((Mem.szOutcomeU (z0p, (z1p, z2p, x3p), z4p, z5p) : Nat) : Int) = (t0 : Int) := by omega
    have htl0 : t0 ≤ 1048576 := by omega
    rw [htc0] at HS0
    clear hte0 htc0
    have SZ := fun W (h : Mem.ArgR Mem.outc W [.int .i64 z0r, .bool z1r, .int .i64 z2r, .slice A3r x3r.length c3r, .int .i64 z4r, .int .i64 z5r] (z0r, (z1r, z2r, x3r), z4r, z5r)) => Mem.sizeOutcomeA z0r z1r z2r A3r c3r x3r z4r z5r t0 W h (by omega) hwfr
    unfold IntK.leftOf at SZ
    by_cases htr : Mem.szOutcomeU (z0r, (z1r, z2r, x3r), z4r, z5r) ≤ t0
    · simp only [if_pos htr] at SZ
      have HS1 := Lib.hid SZ
      have hnr : Mem.szOutcomeU (z0r, (z1r, z2r, x3r), z4r, z5r) ≤ 100000000 := by omega
      clear SZ
      clear hwfp
      clear hwfr
      have B0 := Lib.hid (Below.refl w0.heap.size w0)
      go_enter Try.func5, Try.ntmps5
      go_wp2_with fail
      refine (Calls.mono (HS0.out _ (hp.below (B0.out.trans ((((Below.refl w0.heap.size w0).alloc (by first | (simp; done) | (simp; omega)) (Obj.cells #[Value.int .i64 z0p, Value.bool z1p, Value.int .i64 z2p, Value.slice A3p x3p.length c3p, Value.int .i64 z4p, Value.int .i64 z5p] 33)).alloc (by first | (simp; done) | (simp; omega)) (Obj.cells #[Value.int .i64 z0r, Value.bool z1r, Value.int .i64 z2r, Value.slice A3r x3r.length c3r, Value.int .i64 z4r, Value.int .i64 z5r] 33)).mono B0.out.size))))) ?_
      rintro e w1 ⟨rfl, b1⟩
      have hs1 : ((w0.alloc (Obj.cells #[Value.int .i64 z0p, Value.bool z1p, Value.int .i64 z2p, Value.slice A3p x3p.length c3p, Value.int .i64 z4p, Value.int .i64 z5p] 33)).alloc (Obj.cells #[Value.int .i64 z0r, Value.bool z1r, Value.int .i64 z2r, Value.slice A3r x3r.length c3r, Value.int .i64 z4r, Value.int .i64 z5r] 33)).heap.size ≤ w1.heap.size := b1.size
      simp only [World.size_alloc] at hs1
      have d1 : Below w0.heap.size w0 w1 := (((Below.refl w0.heap.size w0).alloc (by first | (simp; done) | (simp; omega)) (Obj.cells #[Value.int .i64 z0p, Value.bool z1p, Value.int .i64 z2p, Value.slice A3p x3p.length c3p, Value.int .i64 z4p, Value.int .i64 z5p] 33)).alloc (by first | (simp; done) | (simp; omega)) (Obj.cells #[Value.int .i64 z0r, Value.bool z1r, Value.int .i64 z2r, Value.slice A3r x3r.length c3r, Value.int .i64 z4r, Value.int .i64 z5r] 33)).trans (b1.mono (show w0.heap.size ≤ ((w0.alloc (Obj.cells #[Value.int .i64 z0p, Value.bool z1p, Value.int .i64 z2p, Value.slice A3p x3p.length c3p, Value.int .i64 z4p, Value.int .i64 z5p] 33)).alloc (Obj.cells #[Value.int .i64 z0r, Value.bool z1r, Value.int .i64 z2r, Value.slice A3r x3r.length c3r, Value.int .i64 z4r, Value.int .i64 z5r] 33)).heap.size by first | exact Nat.le_refl _ | (simp; done) | (simp; omega)))
      have B1 := Lib.hid (B0.out.trans (d1.mono B0.out.size))
      have Vbp_1 := Lib.hid (((Lvar.new w0 #[Value.int .i64 z0p, Value.bool z1p, Value.int .i64 z2p, Value.slice A3p x3p.length c3p, Value.int .i64 z4p, Value.int .i64 z5p] 33).alloc (Obj.cells #[Value.int .i64 z0r, Value.bool z1r, Value.int .i64 z2r, Value.slice A3r x3r.length c3r, Value.int .i64 z4r, Value.int .i64 z5r] 33)).below b1)
      have Vbr_1 := Lib.hid ((Lvar.new (w0.alloc (Obj.cells #[Value.int .i64 z0p, Value.bool z1p, Value.int .i64 z2p, Value.slice A3p x3p.length c3p, Value.int .i64 z4p, Value.int .i64 z5p] 33)) #[Value.int .i64 z0r, Value.bool z1r, Value.int .i64 z2r, Value.slice A3r x3r.length c3r, Value.int .i64 z4r, Value.int .i64 z5r] 33).below b1)
      simp only [World.size_alloc] at Vbr_1
      clear b1 d1
      have c_Vbp_0 := Vbp_1.out.cell 0 _ rfl
      have c_Vbp_1 := Vbp_1.out.cell 1 _ rfl
      have c_Vbp_2 := Vbp_1.out.cell 2 _ rfl
      have c_Vbp_3 := Vbp_1.out.cell 3 _ rfl
      have c_Vbp_4 := Vbp_1.out.cell 4 _ rfl
      have c_Vbp_5 := Vbp_1.out.cell 5 _ rfl
      have lt_Vbp := Vbp_1.out.lt
      have c_Vbr_0 := Vbr_1.out.cell 0 _ rfl
      have c_Vbr_1 := Vbr_1.out.cell 1 _ rfl
      have c_Vbr_2 := Vbr_1.out.cell 2 _ rfl
      have c_Vbr_3 := Vbr_1.out.cell 3 _ rfl
      have c_Vbr_4 := Vbr_1.out.cell 4 _ rfl
      have c_Vbr_5 := Vbr_1.out.cell 5 _ rfl
      have lt_Vbr := Vbr_1.out.lt
      go_wp2_with fail
      refine (Calls.mono (HS1.out _ (hr.below B1.out))) ?_
      rintro e w2 ⟨rfl, b2⟩
      have hs2 : w1.heap.size ≤ w2.heap.size := b2.size
      have d2 : Below w1.heap.size w1 w2 := (Below.refl w1.heap.size w1).trans (b2.mono (show w1.heap.size ≤ w1.heap.size by first | exact Nat.le_refl _ | (simp; done) | (simp; omega)))
      have B2 := Lib.hid (B1.out.trans (d2.mono B1.out.size))
      have Vbp_2 := Lib.hid (Vbp_1.out.below d2)
      have Vbr_2 := Lib.hid (Vbr_1.out.below d2)
      clear Vbp_1 Vbr_1 c_Vbp_0 c_Vbp_1 c_Vbp_2 c_Vbp_3 c_Vbp_4 c_Vbp_5 lt_Vbp c_Vbr_0 c_Vbr_1 c_Vbr_2 c_Vbr_3 c_Vbr_4 c_Vbr_5 lt_Vbr b2 d2
      have c_Vbp_0 := Vbp_2.out.cell 0 _ rfl
      have c_Vbp_1 := Vbp_2.out.cell 1 _ rfl
      have c_Vbp_2 := Vbp_2.out.cell 2 _ rfl
      have c_Vbp_3 := Vbp_2.out.cell 3 _ rfl
      have c_Vbp_4 := Vbp_2.out.cell 4 _ rfl
      have c_Vbp_5 := Vbp_2.out.cell 5 _ rfl
      have lt_Vbp := Vbp_2.out.lt
      have c_Vbr_0 := Vbr_2.out.cell 0 _ rfl
      have c_Vbr_1 := Vbr_2.out.cell 1 _ rfl
      have c_Vbr_2 := Vbr_2.out.cell 2 _ rfl
      have c_Vbr_3 := Vbr_2.out.cell 3 _ rfl
      have c_Vbr_4 := Vbr_2.out.cell 4 _ rfl
      have c_Vbr_5 := Vbr_2.out.cell 5 _ rfl
      have lt_Vbr := Vbr_2.out.lt
      go_wp2_with fail
      go_region_held3 (fun w' => w'.cell? ⟨w0.heap.size, 0, none⟩ = some (Value.int .i64 z0p) ∧ w'.cell? ⟨w0.heap.size, 1, none⟩ = some (Value.bool z1p) ∧ w'.cell? ⟨w0.heap.size, 2, none⟩ = some (Value.int .i64 z2p) ∧ w'.cell? ⟨w0.heap.size, 3, none⟩ = some (Value.slice A3p x3p.length c3p) ∧ w'.cell? ⟨w0.heap.size, 4, none⟩ = some (Value.int .i64 z4p) ∧ w'.cell? ⟨w0.heap.size, 5, none⟩ = some (Value.int .i64 z5p) ∧ w'.cell? ⟨w0.heap.size + 1, 0, none⟩ = some (Value.int .i64 z0r) ∧ w'.cell? ⟨w0.heap.size + 1, 1, none⟩ = some (Value.bool z1r) ∧ w'.cell? ⟨w0.heap.size + 1, 2, none⟩ = some (Value.int .i64 z2r) ∧ w'.cell? ⟨w0.heap.size + 1, 3, none⟩ = some (Value.slice A3r x3r.length c3r) ∧ w'.cell? ⟨w0.heap.size + 1, 4, none⟩ = some (Value.int .i64 z4r) ∧ w'.cell? ⟨w0.heap.size + 1, 5, none⟩ = some (Value.int .i64 z5r))
        (first | exact ⟨((((Vbp_2.out.below (Below.refl _ _).drew).below b3).below b4).below b5).cell 0 _ rfl, ((((Vbp_2.out.below (Below.refl _ _).drew).below b3).below b4).below b5).cell 1 _ rfl, ((((Vbp_2.out.below (Below.refl _ _).drew).below b3).below b4).below b5).cell 2 _ rfl, ((((Vbp_2.out.below (Below.refl _ _).drew).below b3).below b4).below b5).cell 3 _ rfl, ((((Vbp_2.out.below (Below.refl _ _).drew).below b3).below b4).below b5).cell 4 _ rfl, ((((Vbp_2.out.below (Below.refl _ _).drew).below b3).below b4).below b5).cell 5 _ rfl, ((((Vbr_2.out.below (Below.refl _ _).drew).below b3).below b4).below b5).cell 0 _ rfl, ((((Vbr_2.out.below (Below.refl _ _).drew).below b3).below b4).below b5).cell 1 _ rfl, ((((Vbr_2.out.below (Below.refl _ _).drew).below b3).below b4).below b5).cell 2 _ rfl, ((((Vbr_2.out.below (Below.refl _ _).drew).below b3).below b4).below b5).cell 3 _ rfl, ((((Vbr_2.out.below (Below.refl _ _).drew).below b3).below b4).below b5).cell 4 _ rfl, ((((Vbr_2.out.below (Below.refl _ _).drew).below b3).below b4).below b5).cell 5 _ rfl⟩ | exact ⟨(((Vbp_2.out.below (Below.refl _ _).drew).below b3).below b4).cell 0 _ rfl, (((Vbp_2.out.below (Below.refl _ _).drew).below b3).below b4).cell 1 _ rfl, (((Vbp_2.out.below (Below.refl _ _).drew).below b3).below b4).cell 2 _ rfl, (((Vbp_2.out.below (Below.refl _ _).drew).below b3).below b4).cell 3 _ rfl, (((Vbp_2.out.below (Below.refl _ _).drew).below b3).below b4).cell 4 _ rfl, (((Vbp_2.out.below (Below.refl _ _).drew).below b3).below b4).cell 5 _ rfl, (((Vbr_2.out.below (Below.refl _ _).drew).below b3).below b4).cell 0 _ rfl, (((Vbr_2.out.below (Below.refl _ _).drew).below b3).below b4).cell 1 _ rfl, (((Vbr_2.out.below (Below.refl _ _).drew).below b3).below b4).cell 2 _ rfl, (((Vbr_2.out.below (Below.refl _ _).drew).below b3).below b4).cell 3 _ rfl, (((Vbr_2.out.below (Below.refl _ _).drew).below b3).below b4).cell 4 _ rfl, (((Vbr_2.out.below (Below.refl _ _).drew).below b3).below b4).cell 5 _ rfl⟩ | exact ⟨((Vbp_2.out.below (Below.refl _ _).drew).below b3).cell 0 _ rfl, ((Vbp_2.out.below (Below.refl _ _).drew).below b3).cell 1 _ rfl, ((Vbp_2.out.below (Below.refl _ _).drew).below b3).cell 2 _ rfl, ((Vbp_2.out.below (Below.refl _ _).drew).below b3).cell 3 _ rfl, ((Vbp_2.out.below (Below.refl _ _).drew).below b3).cell 4 _ rfl, ((Vbp_2.out.below (Below.refl _ _).drew).below b3).cell 5 _ rfl, ((Vbr_2.out.below (Below.refl _ _).drew).below b3).cell 0 _ rfl, ((Vbr_2.out.below (Below.refl _ _).drew).below b3).cell 1 _ rfl, ((Vbr_2.out.below (Below.refl _ _).drew).below b3).cell 2 _ rfl, ((Vbr_2.out.below (Below.refl _ _).drew).below b3).cell 3 _ rfl, ((Vbr_2.out.below (Below.refl _ _).drew).below b3).cell 4 _ rfl, ((Vbr_2.out.below (Below.refl _ _).drew).below b3).cell 5 _ rfl⟩ | go_keep)
        (first
          | (go_at_call_of 15 (Value.agg #[Value.int .i64 z0p, Value.bool z1p, Value.int .i64 z2p, Value.slice A3p x3p.length c3p, Value.int .i64 z4p, Value.int .i64 z5p]); refine (Calls.mono (Mem.copyOutcomeA z0p z1p z2p A3p c3p x3p z4p z5p _ (hp.below B2.out.drew) hnp)) ?_; rintro e w3 ⟨Cp_3, rfl, oqp, b3⟩)
          | (go_at_call_of 15 (Value.agg #[Value.int .i64 z0r, Value.bool z1r, Value.int .i64 z2r, Value.slice A3r x3r.length c3r, Value.int .i64 z4r, Value.int .i64 z5r]); refine (Calls.mono (Mem.copyOutcomeA z0r z1r z2r A3r c3r x3r z4r z5r _ (hr.below (B2.out.drew.trans (b3.mono B2.out.size))) hnr)) ?_; rintro e w4 ⟨Cr_3, rfl, oqr, b4⟩)
          | (go_at_call 14; refine (Calls.mono (ValS.equalOutcome (oqp.below b4).arg oqr.arg (by omega) (by omega))) ?_; rintro e w5 ⟨rfl, b5⟩))
      have h3 : w2.heap.size ≤ w3.heap.size := b3.size
      have h4 : w3.heap.size ≤ w4.heap.size := b4.size
      have h5 : w4.heap.size ≤ w5.heap.size := b5.size
      have d5 : Below w2.heap.size w2 w5 := ((((Below.refl w2.heap.size w2).drew.trans (b3.mono (show w2.heap.size ≤ w2.heap.size by omega))).trans (b4.mono (show w2.heap.size ≤ w3.heap.size by omega))).trans (b5.mono (show w2.heap.size ≤ w4.heap.size by omega)))
      have hs5 := d5.size
      have B5 := Lib.hid (B2.out.trans (d5.mono B2.out.size))
      have Vbp_5 := Lib.hid (Vbp_2.out.below d5)
      have Vbr_5 := Lib.hid (Vbr_2.out.below d5)
      clear Vbp_2 Vbr_2 c_Vbp_0 c_Vbp_1 c_Vbp_2 c_Vbp_3 c_Vbp_4 c_Vbp_5 lt_Vbp c_Vbr_0 c_Vbr_1 c_Vbr_2 c_Vbr_3 c_Vbr_4 c_Vbr_5 lt_Vbr b3 h3 b4 h4 b5 h5 d5
      clear oqp oqr
      have c_Vbp_0 := Vbp_5.out.cell 0 _ rfl
      have c_Vbp_1 := Vbp_5.out.cell 1 _ rfl
      have c_Vbp_2 := Vbp_5.out.cell 2 _ rfl
      have c_Vbp_3 := Vbp_5.out.cell 3 _ rfl
      have c_Vbp_4 := Vbp_5.out.cell 4 _ rfl
      have c_Vbp_5 := Vbp_5.out.cell 5 _ rfl
      have lt_Vbp := Vbp_5.out.lt
      have c_Vbr_0 := Vbr_5.out.cell 0 _ rfl
      have c_Vbr_1 := Vbr_5.out.cell 1 _ rfl
      have c_Vbr_2 := Vbr_5.out.cell 2 _ rfl
      have c_Vbr_3 := Vbr_5.out.cell 3 _ rfl
      have c_Vbr_4 := Vbr_5.out.cell 4 _ rfl
      have c_Vbr_5 := Vbr_5.out.cell 5 _ rfl
      have lt_Vbr := Vbr_5.out.lt
      go_wp2_with fail
      refine (Calls.mono (Mem.copyOutcomeA z0p z1p z2p A3p c3p x3p z4p z5p _ (hp.below B5.out) hnp)) ?_
      rintro e w6 ⟨Xp_3, rfl, oxp, b6⟩
      have Oxp := Lib.hid (show Mem.OwnR Mem.outc (w5.heap.size) w6.heap.size w6 [.int .i64 z0p, .bool z1p, .int .i64 z2p, .slice Xp_3 x3p.length x3p.length, .int .i64 z4p, .int .i64 z5p] (z0p, (z1p, z2p, x3p), z4p, z5p) from oxp)
      have hs6 : w5.heap.size ≤ w6.heap.size := b6.size
      have d6 : Below w5.heap.size w5 w6 := (Below.refl w5.heap.size w5).trans (b6.mono (show w5.heap.size ≤ w5.heap.size by first | exact Nat.le_refl _ | (simp; done) | (simp; omega)))
      have B6 := Lib.hid (B5.out.trans (d6.mono B5.out.size))
      have Vbp_6 := Lib.hid (Vbp_5.out.below d6)
      have Vbr_6 := Lib.hid (Vbr_5.out.below d6)
      clear Vbp_5 Vbr_5 c_Vbp_0 c_Vbp_1 c_Vbp_2 c_Vbp_3 c_Vbp_4 c_Vbp_5 lt_Vbp c_Vbr_0 c_Vbr_1 c_Vbr_2 c_Vbr_3 c_Vbr_4 c_Vbr_5 lt_Vbr b6 d6
      have c_Vbp_0 := Vbp_6.out.cell 0 _ rfl
      have c_Vbp_1 := Vbp_6.out.cell 1 _ rfl
      have c_Vbp_2 := Vbp_6.out.cell 2 _ rfl
      have c_Vbp_3 := Vbp_6.out.cell 3 _ rfl
      have c_Vbp_4 := Vbp_6.out.cell 4 _ rfl
      have c_Vbp_5 := Vbp_6.out.cell 5 _ rfl
      have lt_Vbp := Vbp_6.out.lt
      have c_Vbr_0 := Vbr_6.out.cell 0 _ rfl
      have c_Vbr_1 := Vbr_6.out.cell 1 _ rfl
      have c_Vbr_2 := Vbr_6.out.cell 2 _ rfl
      have c_Vbr_3 := Vbr_6.out.cell 3 _ rfl
      have c_Vbr_4 := Vbr_6.out.cell 4 _ rfl
      have c_Vbr_5 := Vbr_6.out.cell 5 _ rfl
      have lt_Vbr := Vbr_6.out.lt
      go_wp2_with fail
      refine (Calls.mono (Mem.copyOutcomeA z0r z1r z2r A3r c3r x3r z4r z5r _ (hr.below (B6.out.trans (((Below.refl w6.heap.size w6).alloc (by first | (simp; done) | (simp; omega)) (Obj.cells #[Value.int .i64 z0p, Value.bool z1p, Value.int .i64 z2p, Value.slice Xp_3 x3p.length x3p.length, Value.int .i64 z4p, Value.int .i64 z5p] 37)).mono B6.out.size))) hnr)) ?_
      rintro e w7 ⟨Xr_3, rfl, oxr, b7⟩
      simp only [World.size_alloc] at oxr
      have Oxr := Lib.hid (show Mem.OwnR Mem.outc (w6.heap.size + 1) w7.heap.size w7 [.int .i64 z0r, .bool z1r, .int .i64 z2r, .slice Xr_3 x3r.length x3r.length, .int .i64 z4r, .int .i64 z5r] (z0r, (z1r, z2r, x3r), z4r, z5r) from oxr)
      have hs7 : (w6.alloc (Obj.cells #[Value.int .i64 z0p, Value.bool z1p, Value.int .i64 z2p, Value.slice Xp_3 x3p.length x3p.length, Value.int .i64 z4p, Value.int .i64 z5p] 37)).heap.size ≤ w7.heap.size := b7.size
      simp only [World.size_alloc] at hs7
      have d7 : Below w6.heap.size w6 w7 := ((Below.refl w6.heap.size w6).alloc (by first | (simp; done) | (simp; omega)) (Obj.cells #[Value.int .i64 z0p, Value.bool z1p, Value.int .i64 z2p, Value.slice Xp_3 x3p.length x3p.length, Value.int .i64 z4p, Value.int .i64 z5p] 37)).trans (b7.mono (show w6.heap.size ≤ (w6.alloc (Obj.cells #[Value.int .i64 z0p, Value.bool z1p, Value.int .i64 z2p, Value.slice Xp_3 x3p.length x3p.length, Value.int .i64 z4p, Value.int .i64 z5p] 37)).heap.size by first | exact Nat.le_refl _ | (simp; done) | (simp; omega)))
      have B7 := Lib.hid (B6.out.trans (d7.mono B6.out.size))
      have Vbp_7 := Lib.hid (Vbp_6.out.below d7)
      have Vbr_7 := Lib.hid (Vbr_6.out.below d7)
      have Oxp_7 := Lib.hid (Oxp.out.below d7)
      have Vxp_7 := Lib.hid ((Lvar.new w6 #[Value.int .i64 z0p, Value.bool z1p, Value.int .i64 z2p, Value.slice Xp_3 x3p.length x3p.length, Value.int .i64 z4p, Value.int .i64 z5p] 37).below b7)
      clear Vbp_6 Vbr_6 Oxp c_Vbp_0 c_Vbp_1 c_Vbp_2 c_Vbp_3 c_Vbp_4 c_Vbp_5 lt_Vbp c_Vbr_0 c_Vbr_1 c_Vbr_2 c_Vbr_3 c_Vbr_4 c_Vbr_5 lt_Vbr b7 d7
      have c_Vbp_0 := Vbp_7.out.cell 0 _ rfl
      have c_Vbp_1 := Vbp_7.out.cell 1 _ rfl
      have c_Vbp_2 := Vbp_7.out.cell 2 _ rfl
      have c_Vbp_3 := Vbp_7.out.cell 3 _ rfl
      have c_Vbp_4 := Vbp_7.out.cell 4 _ rfl
      have c_Vbp_5 := Vbp_7.out.cell 5 _ rfl
      have lt_Vbp := Vbp_7.out.lt
      have c_Vbr_0 := Vbr_7.out.cell 0 _ rfl
      have c_Vbr_1 := Vbr_7.out.cell 1 _ rfl
      have c_Vbr_2 := Vbr_7.out.cell 2 _ rfl
      have c_Vbr_3 := Vbr_7.out.cell 3 _ rfl
      have c_Vbr_4 := Vbr_7.out.cell 4 _ rfl
      have c_Vbr_5 := Vbr_7.out.cell 5 _ rfl
      have lt_Vbr := Vbr_7.out.lt
      have c_Vxp_0 := Vxp_7.out.cell 0 _ rfl
      have c_Vxp_1 := Vxp_7.out.cell 1 _ rfl
      have c_Vxp_2 := Vxp_7.out.cell 2 _ rfl
      have c_Vxp_3 := Vxp_7.out.cell 3 _ rfl
      have c_Vxp_4 := Vxp_7.out.cell 4 _ rfl
      have c_Vxp_5 := Vxp_7.out.cell 5 _ rfl
      have lt_Vxp := Vxp_7.out.lt
      go_wp2_with fail
      refine (Calls.mono (ValI.equalOutcome (Oxp_7.out.below ((Below.refl w7.heap.size w7).alloc (by first | (simp; done) | (simp; omega)) (Obj.cells #[Value.int .i64 z0r, Value.bool z1r, Value.int .i64 z2r, Value.slice Xr_3 x3r.length x3r.length, Value.int .i64 z4r, Value.int .i64 z5r] 37))).arg (Oxr.out.below ((Below.refl w7.heap.size w7).alloc (by first | (simp; done) | (simp; omega)) (Obj.cells #[Value.int .i64 z0r, Value.bool z1r, Value.int .i64 z2r, Value.slice Xr_3 x3r.length x3r.length, Value.int .i64 z4r, Value.int .i64 z5r] 37))).arg (by omega) (by omega))) ?_
      rintro e w8 ⟨rfl, b8⟩
      have hs8 : (w7.alloc (Obj.cells #[Value.int .i64 z0r, Value.bool z1r, Value.int .i64 z2r, Value.slice Xr_3 x3r.length x3r.length, Value.int .i64 z4r, Value.int .i64 z5r] 37)).heap.size ≤ w8.heap.size := b8.size
      simp only [World.size_alloc] at hs8
      have d8 : Below w7.heap.size w7 w8 := ((Below.refl w7.heap.size w7).alloc (by first | (simp; done) | (simp; omega)) (Obj.cells #[Value.int .i64 z0r, Value.bool z1r, Value.int .i64 z2r, Value.slice Xr_3 x3r.length x3r.length, Value.int .i64 z4r, Value.int .i64 z5r] 37)).trans (b8.mono (show w7.heap.size ≤ (w7.alloc (Obj.cells #[Value.int .i64 z0r, Value.bool z1r, Value.int .i64 z2r, Value.slice Xr_3 x3r.length x3r.length, Value.int .i64 z4r, Value.int .i64 z5r] 37)).heap.size by first | exact Nat.le_refl _ | (simp; done) | (simp; omega)))
      have B8 := Lib.hid (B7.out.trans (d8.mono B7.out.size))
      have Vbp_8 := Lib.hid (Vbp_7.out.below d8)
      have Vbr_8 := Lib.hid (Vbr_7.out.below d8)
      have Oxp_8 := Lib.hid (Oxp_7.out.below d8)
      have Vxp_8 := Lib.hid (Vxp_7.out.below d8)
      have Oxr_8 := Lib.hid (Oxr.out.below d8)
      have Vxr_8 := Lib.hid ((Lvar.new w7 #[Value.int .i64 z0r, Value.bool z1r, Value.int .i64 z2r, Value.slice Xr_3 x3r.length x3r.length, Value.int .i64 z4r, Value.int .i64 z5r] 37).below b8)
      clear Vbp_7 Vbr_7 Oxp_7 Vxp_7 Oxr c_Vbp_0 c_Vbp_1 c_Vbp_2 c_Vbp_3 c_Vbp_4 c_Vbp_5 lt_Vbp c_Vbr_0 c_Vbr_1 c_Vbr_2 c_Vbr_3 c_Vbr_4 c_Vbr_5 lt_Vbr c_Vxp_0 c_Vxp_1 c_Vxp_2 c_Vxp_3 c_Vxp_4 c_Vxp_5 lt_Vxp b8 d8
      have c_Vbp_0 := Vbp_8.out.cell 0 _ rfl
      have c_Vbp_1 := Vbp_8.out.cell 1 _ rfl
      have c_Vbp_2 := Vbp_8.out.cell 2 _ rfl
      have c_Vbp_3 := Vbp_8.out.cell 3 _ rfl
      have c_Vbp_4 := Vbp_8.out.cell 4 _ rfl
      have c_Vbp_5 := Vbp_8.out.cell 5 _ rfl
      have lt_Vbp := Vbp_8.out.lt
      have c_Vbr_0 := Vbr_8.out.cell 0 _ rfl
      have c_Vbr_1 := Vbr_8.out.cell 1 _ rfl
      have c_Vbr_2 := Vbr_8.out.cell 2 _ rfl
      have c_Vbr_3 := Vbr_8.out.cell 3 _ rfl
      have c_Vbr_4 := Vbr_8.out.cell 4 _ rfl
      have c_Vbr_5 := Vbr_8.out.cell 5 _ rfl
      have lt_Vbr := Vbr_8.out.lt
      have c_Vxp_0 := Vxp_8.out.cell 0 _ rfl
      have c_Vxp_1 := Vxp_8.out.cell 1 _ rfl
      have c_Vxp_2 := Vxp_8.out.cell 2 _ rfl
      have c_Vxp_3 := Vxp_8.out.cell 3 _ rfl
      have c_Vxp_4 := Vxp_8.out.cell 4 _ rfl
      have c_Vxp_5 := Vxp_8.out.cell 5 _ rfl
      have lt_Vxp := Vxp_8.out.lt
      have c_Vxr_0 := Vxr_8.out.cell 0 _ rfl
      have c_Vxr_1 := Vxr_8.out.cell 1 _ rfl
      have c_Vxr_2 := Vxr_8.out.cell 2 _ rfl
      have c_Vxr_3 := Vxr_8.out.cell 3 _ rfl
      have c_Vxr_4 := Vxr_8.out.cell 4 _ rfl
      have c_Vxr_5 := Vxr_8.out.cell 5 _ rfl
      have lt_Vxr := Vxr_8.out.lt
      go_wp2_with fail
      go_region_held3 (fun w' => w'.cell? ⟨w6.heap.size, 0, none⟩ = some (Value.int .i64 z0p) ∧ w'.cell? ⟨w6.heap.size, 1, none⟩ = some (Value.bool z1p) ∧ w'.cell? ⟨w6.heap.size, 2, none⟩ = some (Value.int .i64 z2p) ∧ w'.cell? ⟨w6.heap.size, 3, none⟩ = some (Value.slice Xp_3 x3p.length x3p.length) ∧ w'.cell? ⟨w6.heap.size, 4, none⟩ = some (Value.int .i64 z4p) ∧ w'.cell? ⟨w6.heap.size, 5, none⟩ = some (Value.int .i64 z5p) ∧ w'.cell? ⟨w0.heap.size, 0, none⟩ = some (Value.int .i64 z0p) ∧ w'.cell? ⟨w0.heap.size, 1, none⟩ = some (Value.bool z1p) ∧ w'.cell? ⟨w0.heap.size, 2, none⟩ = some (Value.int .i64 z2p) ∧ w'.cell? ⟨w0.heap.size, 3, none⟩ = some (Value.slice A3p x3p.length c3p) ∧ w'.cell? ⟨w0.heap.size, 4, none⟩ = some (Value.int .i64 z4p) ∧ w'.cell? ⟨w0.heap.size, 5, none⟩ = some (Value.int .i64 z5p))
        (first | exact ⟨(((Vxp_8.out.below (Below.refl _ _).drew).below b9).below b10).cell 0 _ rfl, (((Vxp_8.out.below (Below.refl _ _).drew).below b9).below b10).cell 1 _ rfl, (((Vxp_8.out.below (Below.refl _ _).drew).below b9).below b10).cell 2 _ rfl, (((Vxp_8.out.below (Below.refl _ _).drew).below b9).below b10).cell 3 _ rfl, (((Vxp_8.out.below (Below.refl _ _).drew).below b9).below b10).cell 4 _ rfl, (((Vxp_8.out.below (Below.refl _ _).drew).below b9).below b10).cell 5 _ rfl, (((Vbp_8.out.below (Below.refl _ _).drew).below b9).below b10).cell 0 _ rfl, (((Vbp_8.out.below (Below.refl _ _).drew).below b9).below b10).cell 1 _ rfl, (((Vbp_8.out.below (Below.refl _ _).drew).below b9).below b10).cell 2 _ rfl, (((Vbp_8.out.below (Below.refl _ _).drew).below b9).below b10).cell 3 _ rfl, (((Vbp_8.out.below (Below.refl _ _).drew).below b9).below b10).cell 4 _ rfl, (((Vbp_8.out.below (Below.refl _ _).drew).below b9).below b10).cell 5 _ rfl⟩ | exact ⟨((Vxp_8.out.below (Below.refl _ _).drew).below b9).cell 0 _ rfl, ((Vxp_8.out.below (Below.refl _ _).drew).below b9).cell 1 _ rfl, ((Vxp_8.out.below (Below.refl _ _).drew).below b9).cell 2 _ rfl, ((Vxp_8.out.below (Below.refl _ _).drew).below b9).cell 3 _ rfl, ((Vxp_8.out.below (Below.refl _ _).drew).below b9).cell 4 _ rfl, ((Vxp_8.out.below (Below.refl _ _).drew).below b9).cell 5 _ rfl, ((Vbp_8.out.below (Below.refl _ _).drew).below b9).cell 0 _ rfl, ((Vbp_8.out.below (Below.refl _ _).drew).below b9).cell 1 _ rfl, ((Vbp_8.out.below (Below.refl _ _).drew).below b9).cell 2 _ rfl, ((Vbp_8.out.below (Below.refl _ _).drew).below b9).cell 3 _ rfl, ((Vbp_8.out.below (Below.refl _ _).drew).below b9).cell 4 _ rfl, ((Vbp_8.out.below (Below.refl _ _).drew).below b9).cell 5 _ rfl⟩ | go_keep)
        (first
          | (go_at_call 15; refine (Calls.mono (Mem.copyOutcomeA z0p z1p z2p A3p c3p x3p z4p z5p _ (hp.below B8.out.drew) hnp)) ?_; rintro e w9 ⟨C8_3, rfl, oc8, b9⟩)
          | (go_at_call 17; refine (Calls.mono (Mem.eqOutcomeA z0p z1p z2p Xp_3 x3p.length x3p z4p z5p C8_3 x3p.length _ ((Oxp_8.out.below (Below.refl _ _).drew).below b9).arg oc8.arg hnp)) ?_; rintro e w10 ⟨rfl, b10⟩))
      have h9 : w8.heap.size ≤ w9.heap.size := b9.size
      have h10 : w9.heap.size ≤ w10.heap.size := b10.size
      have d10 : Below w8.heap.size w8 w10 := (((Below.refl w8.heap.size w8).drew.trans (b9.mono (show w8.heap.size ≤ w8.heap.size by omega))).trans (b10.mono (show w8.heap.size ≤ w9.heap.size by omega)))
      have hs10 := d10.size
      have B10 := Lib.hid (B8.out.trans (d10.mono B8.out.size))
      have Vbp_10 := Lib.hid (Vbp_8.out.below d10)
      have Vbr_10 := Lib.hid (Vbr_8.out.below d10)
      have Oxp_10 := Lib.hid (Oxp_8.out.below d10)
      have Vxp_10 := Lib.hid (Vxp_8.out.below d10)
      have Oxr_10 := Lib.hid (Oxr_8.out.below d10)
      have Vxr_10 := Lib.hid (Vxr_8.out.below d10)
      clear Vbp_8 Vbr_8 Oxp_8 Vxp_8 Oxr_8 Vxr_8 c_Vbp_0 c_Vbp_1 c_Vbp_2 c_Vbp_3 c_Vbp_4 c_Vbp_5 lt_Vbp c_Vbr_0 c_Vbr_1 c_Vbr_2 c_Vbr_3 c_Vbr_4 c_Vbr_5 lt_Vbr c_Vxp_0 c_Vxp_1 c_Vxp_2 c_Vxp_3 c_Vxp_4 c_Vxp_5 lt_Vxp c_Vxr_0 c_Vxr_1 c_Vxr_2 c_Vxr_3 c_Vxr_4 c_Vxr_5 lt_Vxr b9 h9 b10 h10 d10
      clear oc8
      have c_Vbp_0 := Vbp_10.out.cell 0 _ rfl
      have c_Vbp_1 := Vbp_10.out.cell 1 _ rfl
      have c_Vbp_2 := Vbp_10.out.cell 2 _ rfl
      have c_Vbp_3 := Vbp_10.out.cell 3 _ rfl
      have c_Vbp_4 := Vbp_10.out.cell 4 _ rfl
      have c_Vbp_5 := Vbp_10.out.cell 5 _ rfl
      have lt_Vbp := Vbp_10.out.lt
      have c_Vbr_0 := Vbr_10.out.cell 0 _ rfl
      have c_Vbr_1 := Vbr_10.out.cell 1 _ rfl
      have c_Vbr_2 := Vbr_10.out.cell 2 _ rfl
      have c_Vbr_3 := Vbr_10.out.cell 3 _ rfl
      have c_Vbr_4 := Vbr_10.out.cell 4 _ rfl
      have c_Vbr_5 := Vbr_10.out.cell 5 _ rfl
      have lt_Vbr := Vbr_10.out.lt
      have c_Vxp_0 := Vxp_10.out.cell 0 _ rfl
      have c_Vxp_1 := Vxp_10.out.cell 1 _ rfl
      have c_Vxp_2 := Vxp_10.out.cell 2 _ rfl
      have c_Vxp_3 := Vxp_10.out.cell 3 _ rfl
      have c_Vxp_4 := Vxp_10.out.cell 4 _ rfl
      have c_Vxp_5 := Vxp_10.out.cell 5 _ rfl
      have lt_Vxp := Vxp_10.out.lt
      have c_Vxr_0 := Vxr_10.out.cell 0 _ rfl
      have c_Vxr_1 := Vxr_10.out.cell 1 _ rfl
      have c_Vxr_2 := Vxr_10.out.cell 2 _ rfl
      have c_Vxr_3 := Vxr_10.out.cell 3 _ rfl
      have c_Vxr_4 := Vxr_10.out.cell 4 _ rfl
      have c_Vxr_5 := Vxr_10.out.cell 5 _ rfl
      have lt_Vxr := Vxr_10.out.lt
      go_wp2_with fail
      go_region_held3 (fun w' => w'.cell? ⟨w7.heap.size, 0, none⟩ = some (Value.int .i64 z0r) ∧ w'.cell? ⟨w7.heap.size, 1, none⟩ = some (Value.bool z1r) ∧ w'.cell? ⟨w7.heap.size, 2, none⟩ = some (Value.int .i64 z2r) ∧ w'.cell? ⟨w7.heap.size, 3, none⟩ = some (Value.slice Xr_3 x3r.length x3r.length) ∧ w'.cell? ⟨w7.heap.size, 4, none⟩ = some (Value.int .i64 z4r) ∧ w'.cell? ⟨w7.heap.size, 5, none⟩ = some (Value.int .i64 z5r) ∧ w'.cell? ⟨w0.heap.size + 1, 0, none⟩ = some (Value.int .i64 z0r) ∧ w'.cell? ⟨w0.heap.size + 1, 1, none⟩ = some (Value.bool z1r) ∧ w'.cell? ⟨w0.heap.size + 1, 2, none⟩ = some (Value.int .i64 z2r) ∧ w'.cell? ⟨w0.heap.size + 1, 3, none⟩ = some (Value.slice A3r x3r.length c3r) ∧ w'.cell? ⟨w0.heap.size + 1, 4, none⟩ = some (Value.int .i64 z4r) ∧ w'.cell? ⟨w0.heap.size + 1, 5, none⟩ = some (Value.int .i64 z5r))
        (first | exact ⟨(((Vxr_10.out.below (Below.refl _ _).drew).below b11).below b12).cell 0 _ rfl, (((Vxr_10.out.below (Below.refl _ _).drew).below b11).below b12).cell 1 _ rfl, (((Vxr_10.out.below (Below.refl _ _).drew).below b11).below b12).cell 2 _ rfl, (((Vxr_10.out.below (Below.refl _ _).drew).below b11).below b12).cell 3 _ rfl, (((Vxr_10.out.below (Below.refl _ _).drew).below b11).below b12).cell 4 _ rfl, (((Vxr_10.out.below (Below.refl _ _).drew).below b11).below b12).cell 5 _ rfl, (((Vbr_10.out.below (Below.refl _ _).drew).below b11).below b12).cell 0 _ rfl, (((Vbr_10.out.below (Below.refl _ _).drew).below b11).below b12).cell 1 _ rfl, (((Vbr_10.out.below (Below.refl _ _).drew).below b11).below b12).cell 2 _ rfl, (((Vbr_10.out.below (Below.refl _ _).drew).below b11).below b12).cell 3 _ rfl, (((Vbr_10.out.below (Below.refl _ _).drew).below b11).below b12).cell 4 _ rfl, (((Vbr_10.out.below (Below.refl _ _).drew).below b11).below b12).cell 5 _ rfl⟩ | exact ⟨((Vxr_10.out.below (Below.refl _ _).drew).below b11).cell 0 _ rfl, ((Vxr_10.out.below (Below.refl _ _).drew).below b11).cell 1 _ rfl, ((Vxr_10.out.below (Below.refl _ _).drew).below b11).cell 2 _ rfl, ((Vxr_10.out.below (Below.refl _ _).drew).below b11).cell 3 _ rfl, ((Vxr_10.out.below (Below.refl _ _).drew).below b11).cell 4 _ rfl, ((Vxr_10.out.below (Below.refl _ _).drew).below b11).cell 5 _ rfl, ((Vbr_10.out.below (Below.refl _ _).drew).below b11).cell 0 _ rfl, ((Vbr_10.out.below (Below.refl _ _).drew).below b11).cell 1 _ rfl, ((Vbr_10.out.below (Below.refl _ _).drew).below b11).cell 2 _ rfl, ((Vbr_10.out.below (Below.refl _ _).drew).below b11).cell 3 _ rfl, ((Vbr_10.out.below (Below.refl _ _).drew).below b11).cell 4 _ rfl, ((Vbr_10.out.below (Below.refl _ _).drew).below b11).cell 5 _ rfl⟩ | go_keep)
        (first
          | (go_at_call 15; refine (Calls.mono (Mem.copyOutcomeA z0r z1r z2r A3r c3r x3r z4r z5r _ (hr.below B10.out.drew) hnr)) ?_; rintro e w11 ⟨C10_3, rfl, oc10, b11⟩)
          | (go_at_call 17; refine (Calls.mono (Mem.eqOutcomeA z0r z1r z2r Xr_3 x3r.length x3r z4r z5r C10_3 x3r.length _ ((Oxr_10.out.below (Below.refl _ _).drew).below b11).arg oc10.arg hnr)) ?_; rintro e w12 ⟨rfl, b12⟩))
      have h11 : w10.heap.size ≤ w11.heap.size := b11.size
      have h12 : w11.heap.size ≤ w12.heap.size := b12.size
      have d12 : Below w10.heap.size w10 w12 := (((Below.refl w10.heap.size w10).drew.trans (b11.mono (show w10.heap.size ≤ w10.heap.size by omega))).trans (b12.mono (show w10.heap.size ≤ w11.heap.size by omega)))
      have hs12 := d12.size
      have B12 := Lib.hid (B10.out.trans (d12.mono B10.out.size))
      have Vbp_12 := Lib.hid (Vbp_10.out.below d12)
      have Vbr_12 := Lib.hid (Vbr_10.out.below d12)
      have Oxp_12 := Lib.hid (Oxp_10.out.below d12)
      have Vxp_12 := Lib.hid (Vxp_10.out.below d12)
      have Oxr_12 := Lib.hid (Oxr_10.out.below d12)
      have Vxr_12 := Lib.hid (Vxr_10.out.below d12)
      clear Vbp_10 Vbr_10 Oxp_10 Vxp_10 Oxr_10 Vxr_10 c_Vbp_0 c_Vbp_1 c_Vbp_2 c_Vbp_3 c_Vbp_4 c_Vbp_5 lt_Vbp c_Vbr_0 c_Vbr_1 c_Vbr_2 c_Vbr_3 c_Vbr_4 c_Vbr_5 lt_Vbr c_Vxp_0 c_Vxp_1 c_Vxp_2 c_Vxp_3 c_Vxp_4 c_Vxp_5 lt_Vxp c_Vxr_0 c_Vxr_1 c_Vxr_2 c_Vxr_3 c_Vxr_4 c_Vxr_5 lt_Vxr b11 h11 b12 h12 d12
      clear oc10
      have c_Vbp_0 := Vbp_12.out.cell 0 _ rfl
      have c_Vbp_1 := Vbp_12.out.cell 1 _ rfl
      have c_Vbp_2 := Vbp_12.out.cell 2 _ rfl
      have c_Vbp_3 := Vbp_12.out.cell 3 _ rfl
      have c_Vbp_4 := Vbp_12.out.cell 4 _ rfl
      have c_Vbp_5 := Vbp_12.out.cell 5 _ rfl
      have lt_Vbp := Vbp_12.out.lt
      have c_Vbr_0 := Vbr_12.out.cell 0 _ rfl
      have c_Vbr_1 := Vbr_12.out.cell 1 _ rfl
      have c_Vbr_2 := Vbr_12.out.cell 2 _ rfl
      have c_Vbr_3 := Vbr_12.out.cell 3 _ rfl
      have c_Vbr_4 := Vbr_12.out.cell 4 _ rfl
      have c_Vbr_5 := Vbr_12.out.cell 5 _ rfl
      have lt_Vbr := Vbr_12.out.lt
      have c_Vxp_0 := Vxp_12.out.cell 0 _ rfl
      have c_Vxp_1 := Vxp_12.out.cell 1 _ rfl
      have c_Vxp_2 := Vxp_12.out.cell 2 _ rfl
      have c_Vxp_3 := Vxp_12.out.cell 3 _ rfl
      have c_Vxp_4 := Vxp_12.out.cell 4 _ rfl
      have c_Vxp_5 := Vxp_12.out.cell 5 _ rfl
      have lt_Vxp := Vxp_12.out.lt
      have c_Vxr_0 := Vxr_12.out.cell 0 _ rfl
      have c_Vxr_1 := Vxr_12.out.cell 1 _ rfl
      have c_Vxr_2 := Vxr_12.out.cell 2 _ rfl
      have c_Vxr_3 := Vxr_12.out.cell 3 _ rfl
      have c_Vxr_4 := Vxr_12.out.cell 4 _ rfl
      have c_Vxr_5 := Vxr_12.out.cell 5 _ rfl
      have lt_Vxr := Vxr_12.out.lt
      go_wp2
      go_ret
      exact ⟨rfl, B12.out⟩
    · simp only [if_neg htr] at SZ
      have HS1 := Lib.hid SZ
      clear SZ hwfr
      have B0 := Lib.hid (Below.refl w0.heap.size w0)
      go_enter Try.func5, Try.ntmps5
      go_wp2_with fail
      refine (Calls.mono (HS0.out _ (hp.below (B0.out.trans ((((Below.refl w0.heap.size w0).alloc (by first | (simp; done) | (simp; omega)) (Obj.cells #[Value.int .i64 z0p, Value.bool z1p, Value.int .i64 z2p, Value.slice A3p x3p.length c3p, Value.int .i64 z4p, Value.int .i64 z5p] 33)).alloc (by first | (simp; done) | (simp; omega)) (Obj.cells #[Value.int .i64 z0r, Value.bool z1r, Value.int .i64 z2r, Value.slice A3r x3r.length c3r, Value.int .i64 z4r, Value.int .i64 z5r] 33)).mono B0.out.size))))) ?_
      rintro e w1 ⟨rfl, b1⟩
      have hs1 : ((w0.alloc (Obj.cells #[Value.int .i64 z0p, Value.bool z1p, Value.int .i64 z2p, Value.slice A3p x3p.length c3p, Value.int .i64 z4p, Value.int .i64 z5p] 33)).alloc (Obj.cells #[Value.int .i64 z0r, Value.bool z1r, Value.int .i64 z2r, Value.slice A3r x3r.length c3r, Value.int .i64 z4r, Value.int .i64 z5r] 33)).heap.size ≤ w1.heap.size := b1.size
      simp only [World.size_alloc] at hs1
      have d1 : Below w0.heap.size w0 w1 := (((Below.refl w0.heap.size w0).alloc (by first | (simp; done) | (simp; omega)) (Obj.cells #[Value.int .i64 z0p, Value.bool z1p, Value.int .i64 z2p, Value.slice A3p x3p.length c3p, Value.int .i64 z4p, Value.int .i64 z5p] 33)).alloc (by first | (simp; done) | (simp; omega)) (Obj.cells #[Value.int .i64 z0r, Value.bool z1r, Value.int .i64 z2r, Value.slice A3r x3r.length c3r, Value.int .i64 z4r, Value.int .i64 z5r] 33)).trans (b1.mono (show w0.heap.size ≤ ((w0.alloc (Obj.cells #[Value.int .i64 z0p, Value.bool z1p, Value.int .i64 z2p, Value.slice A3p x3p.length c3p, Value.int .i64 z4p, Value.int .i64 z5p] 33)).alloc (Obj.cells #[Value.int .i64 z0r, Value.bool z1r, Value.int .i64 z2r, Value.slice A3r x3r.length c3r, Value.int .i64 z4r, Value.int .i64 z5r] 33)).heap.size by first | exact Nat.le_refl _ | (simp; done) | (simp; omega)))
      have B1 := Lib.hid (B0.out.trans (d1.mono B0.out.size))
      have Vbp_1 := Lib.hid (((Lvar.new w0 #[Value.int .i64 z0p, Value.bool z1p, Value.int .i64 z2p, Value.slice A3p x3p.length c3p, Value.int .i64 z4p, Value.int .i64 z5p] 33).alloc (Obj.cells #[Value.int .i64 z0r, Value.bool z1r, Value.int .i64 z2r, Value.slice A3r x3r.length c3r, Value.int .i64 z4r, Value.int .i64 z5r] 33)).below b1)
      have Vbr_1 := Lib.hid ((Lvar.new (w0.alloc (Obj.cells #[Value.int .i64 z0p, Value.bool z1p, Value.int .i64 z2p, Value.slice A3p x3p.length c3p, Value.int .i64 z4p, Value.int .i64 z5p] 33)) #[Value.int .i64 z0r, Value.bool z1r, Value.int .i64 z2r, Value.slice A3r x3r.length c3r, Value.int .i64 z4r, Value.int .i64 z5r] 33).below b1)
      simp only [World.size_alloc] at Vbr_1
      clear b1 d1
      have c_Vbp_0 := Vbp_1.out.cell 0 _ rfl
      have c_Vbp_1 := Vbp_1.out.cell 1 _ rfl
      have c_Vbp_2 := Vbp_1.out.cell 2 _ rfl
      have c_Vbp_3 := Vbp_1.out.cell 3 _ rfl
      have c_Vbp_4 := Vbp_1.out.cell 4 _ rfl
      have c_Vbp_5 := Vbp_1.out.cell 5 _ rfl
      have lt_Vbp := Vbp_1.out.lt
      have c_Vbr_0 := Vbr_1.out.cell 0 _ rfl
      have c_Vbr_1 := Vbr_1.out.cell 1 _ rfl
      have c_Vbr_2 := Vbr_1.out.cell 2 _ rfl
      have c_Vbr_3 := Vbr_1.out.cell 3 _ rfl
      have c_Vbr_4 := Vbr_1.out.cell 4 _ rfl
      have c_Vbr_5 := Vbr_1.out.cell 5 _ rfl
      have lt_Vbr := Vbr_1.out.lt
      go_wp2_with fail
      refine (Calls.mono (HS1.out _ (hr.below B1.out))) ?_
      rintro e w2 ⟨rfl, b2⟩
      have hs2 : w1.heap.size ≤ w2.heap.size := b2.size
      have d2 : Below w1.heap.size w1 w2 := (Below.refl w1.heap.size w1).trans (b2.mono (show w1.heap.size ≤ w1.heap.size by first | exact Nat.le_refl _ | (simp; done) | (simp; omega)))
      have B2 := Lib.hid (B1.out.trans (d2.mono B1.out.size))
      have Vbp_2 := Lib.hid (Vbp_1.out.below d2)
      have Vbr_2 := Lib.hid (Vbr_1.out.below d2)
      clear Vbp_1 Vbr_1 c_Vbp_0 c_Vbp_1 c_Vbp_2 c_Vbp_3 c_Vbp_4 c_Vbp_5 lt_Vbp c_Vbr_0 c_Vbr_1 c_Vbr_2 c_Vbr_3 c_Vbr_4 c_Vbr_5 lt_Vbr b2 d2
      have c_Vbp_0 := Vbp_2.out.cell 0 _ rfl
      have c_Vbp_1 := Vbp_2.out.cell 1 _ rfl
      have c_Vbp_2 := Vbp_2.out.cell 2 _ rfl
      have c_Vbp_3 := Vbp_2.out.cell 3 _ rfl
      have c_Vbp_4 := Vbp_2.out.cell 4 _ rfl
      have c_Vbp_5 := Vbp_2.out.cell 5 _ rfl
      have lt_Vbp := Vbp_2.out.lt
      have c_Vbr_0 := Vbr_2.out.cell 0 _ rfl
      have c_Vbr_1 := Vbr_2.out.cell 1 _ rfl
      have c_Vbr_2 := Vbr_2.out.cell 2 _ rfl
      have c_Vbr_3 := Vbr_2.out.cell 3 _ rfl
      have c_Vbr_4 := Vbr_2.out.cell 4 _ rfl
      have c_Vbr_5 := Vbr_2.out.cell 5 _ rfl
      have lt_Vbr := Vbr_2.out.lt
      go_wp2
      go_ret
      exact ⟨rfl, B2.out⟩
  · simp only [if_neg htp] at SZ
    have HS0 := Lib.hid SZ
    clear SZ hwfp
    have B0 := Lib.hid (Below.refl w0.heap.size w0)
    go_enter Try.func5, Try.ntmps5
    go_wp2_with fail
    refine (Calls.mono (HS0.out _ (hp.below (B0.out.trans ((((Below.refl w0.heap.size w0).alloc (by first | (simp; done) | (simp; omega)) (Obj.cells #[Value.int .i64 z0p, Value.bool z1p, Value.int .i64 z2p, Value.slice A3p x3p.length c3p, Value.int .i64 z4p, Value.int .i64 z5p] 33)).alloc (by first | (simp; done) | (simp; omega)) (Obj.cells #[Value.int .i64 z0r, Value.bool z1r, Value.int .i64 z2r, Value.slice A3r x3r.length c3r, Value.int .i64 z4r, Value.int .i64 z5r] 33)).mono B0.out.size))))) ?_
    rintro e w1 ⟨rfl, b1⟩
    have hs1 : ((w0.alloc (Obj.cells #[Value.int .i64 z0p, Value.bool z1p, Value.int .i64 z2p, Value.slice A3p x3p.length c3p, Value.int .i64 z4p, Value.int .i64 z5p] 33)).alloc (Obj.cells #[Value.int .i64 z0r, Value.bool z1r, Value.int .i64 z2r, Value.slice A3r x3r.length c3r, Value.int .i64 z4r, Value.int .i64 z5r] 33)).heap.size ≤ w1.heap.size := b1.size
    simp only [World.size_alloc] at hs1
    have d1 : Below w0.heap.size w0 w1 := (((Below.refl w0.heap.size w0).alloc (by first | (simp; done) | (simp; omega)) (Obj.cells #[Value.int .i64 z0p, Value.bool z1p, Value.int .i64 z2p, Value.slice A3p x3p.length c3p, Value.int .i64 z4p, Value.int .i64 z5p] 33)).alloc (by first | (simp; done) | (simp; omega)) (Obj.cells #[Value.int .i64 z0r, Value.bool z1r, Value.int .i64 z2r, Value.slice A3r x3r.length c3r, Value.int .i64 z4r, Value.int .i64 z5r] 33)).trans (b1.mono (show w0.heap.size ≤ ((w0.alloc (Obj.cells #[Value.int .i64 z0p, Value.bool z1p, Value.int .i64 z2p, Value.slice A3p x3p.length c3p, Value.int .i64 z4p, Value.int .i64 z5p] 33)).alloc (Obj.cells #[Value.int .i64 z0r, Value.bool z1r, Value.int .i64 z2r, Value.slice A3r x3r.length c3r, Value.int .i64 z4r, Value.int .i64 z5r] 33)).heap.size by first | exact Nat.le_refl _ | (simp; done) | (simp; omega)))
    have B1 := Lib.hid (B0.out.trans (d1.mono B0.out.size))
    have Vbp_1 := Lib.hid (((Lvar.new w0 #[Value.int .i64 z0p, Value.bool z1p, Value.int .i64 z2p, Value.slice A3p x3p.length c3p, Value.int .i64 z4p, Value.int .i64 z5p] 33).alloc (Obj.cells #[Value.int .i64 z0r, Value.bool z1r, Value.int .i64 z2r, Value.slice A3r x3r.length c3r, Value.int .i64 z4r, Value.int .i64 z5r] 33)).below b1)
    have Vbr_1 := Lib.hid ((Lvar.new (w0.alloc (Obj.cells #[Value.int .i64 z0p, Value.bool z1p, Value.int .i64 z2p, Value.slice A3p x3p.length c3p, Value.int .i64 z4p, Value.int .i64 z5p] 33)) #[Value.int .i64 z0r, Value.bool z1r, Value.int .i64 z2r, Value.slice A3r x3r.length c3r, Value.int .i64 z4r, Value.int .i64 z5r] 33).below b1)
    simp only [World.size_alloc] at Vbr_1
    clear b1 d1
    have c_Vbp_0 := Vbp_1.out.cell 0 _ rfl
    have c_Vbp_1 := Vbp_1.out.cell 1 _ rfl
    have c_Vbp_2 := Vbp_1.out.cell 2 _ rfl
    have c_Vbp_3 := Vbp_1.out.cell 3 _ rfl
    have c_Vbp_4 := Vbp_1.out.cell 4 _ rfl
    have c_Vbp_5 := Vbp_1.out.cell 5 _ rfl
    have lt_Vbp := Vbp_1.out.lt
    have c_Vbr_0 := Vbr_1.out.cell 0 _ rfl
    have c_Vbr_1 := Vbr_1.out.cell 1 _ rfl
    have c_Vbr_2 := Vbr_1.out.cell 2 _ rfl
    have c_Vbr_3 := Vbr_1.out.cell 3 _ rfl
    have c_Vbr_4 := Vbr_1.out.cell 4 _ rfl
    have c_Vbr_5 := Vbr_1.out.cell 5 _ rfl
    have lt_Vbr := Vbr_1.out.lt
    go_wp2
    go_ret
    exact ⟨rfl, B1.out⟩

set_option maxRecDepth 100000 in
theorem lifted (os : Os) (started : os.Started) (H : Type) (enc : TypeId × Value → H) :
    ReturnsInHanded {} Try.checked os 5 .any (Rows.fnExactEqualOutcomeSpec.pre6 enc Try.prog Try.f5 Rows.fnExactEqualOutcomeRow.domain false) (Rows.fnExactEqualOutcomeSpec.post enc Try.prog Try.f5 false true false false) := by
  refine returnsInHanded_of_change (C := Try.checked) Frame.own started (by kernel_rfl) Try.func5
    (ChangeSpec.witness6 (enc := enc) (C := Try.checked) false ⟨#[], #[.agg #[.int .i64 0, .bool false, .int .i64 0, .slice none 0 0, .int .i64 0, .int .i64 0], .agg #[.int .i64 0, .bool false, .int .i64 0, .slice none 0 0, .int .i64 0, .int .i64 0]], []⟩ 8 (by kernel_rfl) (by kernel_rfl) (by kernel_rfl) (by kernel_rfl)) ?_
  intro W base args ds gs before hval0 hW _ _
  have hW' := hW
  have hval : ∀ (j : Nat) t v, Try.f5.params[j]? = some t → args[j]? = some v → Value.okWide Try.prog W .any base t v := hval0
  obtain ⟨p, q, hA0, hV, rfl, hfz, hnd⟩ := hW
  have hA : DataW.TrodAll enc Try.prog W 0 (fun _ => true) true Try.f5.params.toList args.toList ds p := hA0
  rw [Try.params5] at hA hval
  obtain ⟨v0, v1, d0, d1, p0, p1, rfl, rfl, rfl, h0, h1⟩ := trodAll_two hA
  have hlt := fun x hx => hW'.lt x hx
  obtain ⟨rfl, rfl⟩ := trodVars_none hV
  obtain ⟨z0p, z1p, z2p, A3p, c3p, x3p, z4p, z5p, rfl, hrp, hwp⟩ := Frame.openU_Outcome (W := W) (hval 0 33 v0 rfl rfl) h0 (fun x hx => hlt x (by simp [hx]))
  obtain ⟨z0r, z1r, z2r, A3r, c3r, x3r, z4r, z5r, rfl, hrr, hwr⟩ := Frame.openU_Outcome (W := W) (hval 1 33 v1 rfl rfl) h1 (fun x hx => hlt x (by simp [hx]))
  refine (walk z0p z1p z2p A3p c3p x3p z4p z5p z0r z1r z2r A3r c3r x3r z4r z5r W hrp hwp hrr hwr).mono fun e W' ⟨he, hb⟩ => ?_
  subst he
  exact ⟨_, rfl, Frame.law_post (tb := 4) Frame.laidOut (by kernel_rfl) (by kernel_rfl) (by kernel_rfl) Try.underlying4 hW' rfl hb⟩

theorem proved : Rows.FnExactEqualOutcomeSaid :=
  OpenClaim.holds_of_wide 5 Try.f5 rfl rfl rfl rfl rfl rfl rfl ⟨rfl, rfl, rfl, rfl, rfl⟩ rfl rfl rfl rfl rfl (by kernel_rfl) Try.func5 (by kernel_rfl)
    (of_decide_eq_true (by kernel_rfl)) (by unfold Func.isWrapper; first | (rw [if_pos (by decide +kernel)]; kernel_rfl) | (rw [if_neg (by decide +kernel)]; exact ⟨rfl, rfl⟩))
    (fun os started H enc _ => lifted os started H enc)
end LawEqualOutcome
end Go.Proofs.Ytgpjgjjadhmkhaa
