import Derived.Test.YtcdlgebbmcdadaaGreatDoorCards
import Derived.Test.YtcdlgebbmcdadaaGreatDoorTie
import Derived.Test.YtcdlgebbmcdadaaGreatDoorFrame
import Derived.Test.YtcdlgebbmcdadaaGreatDoorFRule
import Derived.Test.YtcdlgebbmcdadaaGreatDoorRepSum
import Derived.Test.YtcdlgebbmcdadaaGreatDoorPgmArg2
import Derived.Test.YtcdlgebbmcdadaaGreatDoorPgmFmtS
import Derived.Deep.RegionHeld3
import Derived.SliceStrings
import Derived.LaidMore
import Derived.LaidSub
import Derived.MakeChecks
import Derived.Deep.DeepWitnessRowRef
import Derived.SevenTiedAt
/- At every rule, impl.FormatRule answers as its model and writes nothing into its argument: the law FnExactFormatRule returns true. Its condition: the listed tables of the library hold what their text lays. -/
namespace Go.Proofs.YtcdlgebbmcdadaaGreatDoor
open Go.ChangeShapes Go.WideShapes Go.ChangeAt Go.RowKit
open Go.ChangeMaps (open_string shut_string)
namespace LawFormatRule

theorem pow {W : World} (h : laidMetH Tryz.prog Rows.fnExactFormatRuleRow.laid W) : FmtI.Pow W := by
  have h1 := laidMetH.filter (fun x => x.1 == "internal/strconv.uint64pow10") h
  rw [MakeChecks.laidMetH_plain _ _ _ (by kernel_rfl)] at h1
  exact Lib.tabIs_of_head (P := Tryz.prog) (rest := []) (g := 1) (t := 179) (e := 163) (n := 20) (by kernel_rfl) (by kernel_rfl) Tryz.underlying179 Tryz.underlying163 (by kernel_rfl) (by kernel_rfl) h1

open RowK Mem
set_option maxHeartbeats 4000000 in
set_option maxRecDepth 100000 in
theorem walk (z0r : ByteArray) (A1r : Option Addr) (c1r : Nat) (x1r : List Mem.PatternT) (A2r : Option Addr) (c2r : Nat) (x2r : List Mem.SumT) (A3r : Option Addr) (c3r : Nat) (x3r : List Mem.CallT) (z4r : Bool) (A5r : Option Addr) (c5r : Nat) (x5r : List Mem.SumT) (z6r : ByteArray) (w0 : World) (hr : Mem.ArgR Mem.rule w0 [.string z0r, .slice A1r x1r.length c1r, .slice A2r x2r.length c2r, .slice A3r x3r.length c3r, .bool z4r, .slice A5r x5r.length c5r, .string z6r] (z0r, x1r, x2r, x3r, (z4r, x5r, z6r))) (hwfr : Mem.WfRuleU (z0r, x1r, x2r, x3r, (z4r, x5r, z6r))) (hp : FmtI.Pow w0) :
    Calls Tryz.prog 3 #[.agg #[.string z0r, .slice A1r x1r.length c1r, .slice A2r x2r.length c2r, .slice A3r x3r.length c3r, .bool z4r, .slice A5r x5r.length c5r, .string z6r]] w0 fun e w' => e = .returned (.bool true) ∧ Below w0.heap.size w0 w' := by
  have SZ := fun W (h : Mem.ArgR Mem.rule W [.string z0r, .slice A1r x1r.length c1r, .slice A2r x2r.length c2r, .slice A3r x3r.length c3r, .bool z4r, .slice A5r x5r.length c5r, .string z6r] (z0r, x1r, x2r, x3r, (z4r, x5r, z6r))) => Mem.sizeRuleA z0r A1r c1r x1r A2r c2r x2r A3r c3r x3r z4r A5r c5r x5r z6r 1048576 W h (by omega) hwfr
  unfold IntK.leftOf at SZ
  by_cases htr : Mem.szRuleU (z0r, x1r, x2r, x3r, (z4r, x5r, z6r)) ≤ 1048576
  · simp only [if_pos htr] at SZ
    have HS0 := Lib.hid SZ
    have hnr : Mem.szRuleU (z0r, x1r, x2r, x3r, (z4r, x5r, z6r)) ≤ 100000000 := by omega
    clear SZ
    have SP := Lib.hid (fun A1 c1 A2 c2 A3 c3 A5 c5 W (h : Mem.ArgR Mem.rule W [.string z0r, .slice A1 x1r.length c1, .slice A2 x2r.length c2, .slice A3 x3r.length c3, .bool z4r, .slice A5 x5r.length c5, .string z6r] (z0r, x1r, x2r, x3r, z4r, x5r, z6r)) => FmtS.rule z0r A1 c1 x1r A2 c2 x2r A3 c3 x3r z4r A5 c5 x5r z6r W (arg_rule h).1 (arg_rule h).2.1 (arg_rule h).2.2.1 (arg_rule h).2.2.2 (by omega))
    have IM := Lib.hid (fun A1 c1 A2 c2 A3 c3 A5 c5 W (h : Mem.ArgR Mem.rule W [.string z0r, .slice A1 x1r.length c1, .slice A2 x2r.length c2, .slice A3 x3r.length c3, .bool z4r, .slice A5 x5r.length c5, .string z6r] (z0r, x1r, x2r, x3r, z4r, x5r, z6r)) => FmtI.rule z0r A1 c1 x1r A2 c2 x2r A3 c3 x3r z4r A5 c5 x5r z6r W (arg_rule h).1 (arg_rule h).2.1 (arg_rule h).2.2.1 (arg_rule h).2.2.2 (by omega))
    have HP := Lib.hid hp
    clear hp
    generalize FmtR.ruleT (z0r, x1r, x2r, x3r, z4r, x5r, z6r) = FF at *
    clear hwfr
    have B0 := Lib.hid (Below.refl w0.heap.size w0)
    go_enter Tryz.func3, Tryz.ntmps3
    go_wp2_with fail
    refine (Calls.mono (HS0.out _ (hr.below (B0.out.trans (((Below.refl w0.heap.size w0).alloc (by first | (simp; done) | (simp; omega)) (Obj.cells #[Value.string z0r, Value.slice A1r x1r.length c1r, Value.slice A2r x2r.length c2r, Value.slice A3r x3r.length c3r, Value.bool z4r, Value.slice A5r x5r.length c5r, Value.string z6r] 28)).mono B0.out.size))))) ?_
    rintro e w1 ⟨rfl, b1⟩
    have hs1 : (w0.alloc (Obj.cells #[Value.string z0r, Value.slice A1r x1r.length c1r, Value.slice A2r x2r.length c2r, Value.slice A3r x3r.length c3r, Value.bool z4r, Value.slice A5r x5r.length c5r, Value.string z6r] 28)).heap.size ≤ w1.heap.size := b1.size
    simp only [World.size_alloc] at hs1
    have d1 : Below w0.heap.size w0 w1 := ((Below.refl w0.heap.size w0).alloc (by first | (simp; done) | (simp; omega)) (Obj.cells #[Value.string z0r, Value.slice A1r x1r.length c1r, Value.slice A2r x2r.length c2r, Value.slice A3r x3r.length c3r, Value.bool z4r, Value.slice A5r x5r.length c5r, Value.string z6r] 28)).trans (b1.mono (show w0.heap.size ≤ (w0.alloc (Obj.cells #[Value.string z0r, Value.slice A1r x1r.length c1r, Value.slice A2r x2r.length c2r, Value.slice A3r x3r.length c3r, Value.bool z4r, Value.slice A5r x5r.length c5r, Value.string z6r] 28)).heap.size by first | exact Nat.le_refl _ | (simp; done) | (simp; omega)))
    have B1 := Lib.hid (B0.out.trans (d1.mono B0.out.size))
    have Vbr_1 := Lib.hid ((Lvar.new w0 #[Value.string z0r, Value.slice A1r x1r.length c1r, Value.slice A2r x2r.length c2r, Value.slice A3r x3r.length c3r, Value.bool z4r, Value.slice A5r x5r.length c5r, Value.string z6r] 28).below b1)
    clear b1 d1
    have c_Vbr_0 := Vbr_1.out.cell 0 _ rfl
    have c_Vbr_1 := Vbr_1.out.cell 1 _ rfl
    have c_Vbr_2 := Vbr_1.out.cell 2 _ rfl
    have c_Vbr_3 := Vbr_1.out.cell 3 _ rfl
    have c_Vbr_4 := Vbr_1.out.cell 4 _ rfl
    have c_Vbr_5 := Vbr_1.out.cell 5 _ rfl
    have c_Vbr_6 := Vbr_1.out.cell 6 _ rfl
    have lt_Vbr := Vbr_1.out.lt
    go_wp2_with fail
    refine (Calls.mono (Mem.copyRuleA z0r A1r c1r x1r A2r c2r x2r A3r c3r x3r z4r A5r c5r x5r z6r _ (hr.below B1.out) hnr)) ?_
    rintro e w2 ⟨Tr_1, Tr_2, Tr_3, Tr_5, rfl, otr, b2⟩
    have Otr := Lib.hid (show Mem.OwnR Mem.rule (w1.heap.size) w2.heap.size w2 [.string z0r, .slice Tr_1 x1r.length x1r.length, .slice Tr_2 x2r.length x2r.length, .slice Tr_3 x3r.length x3r.length, .bool z4r, .slice Tr_5 x5r.length x5r.length, .string z6r] (z0r, x1r, x2r, x3r, (z4r, x5r, z6r)) from otr)
    have hs2 : w1.heap.size ≤ w2.heap.size := b2.size
    have d2 : Below w1.heap.size w1 w2 := (Below.refl w1.heap.size w1).trans (b2.mono (show w1.heap.size ≤ w1.heap.size by first | exact Nat.le_refl _ | (simp; done) | (simp; omega)))
    have B2 := Lib.hid (B1.out.trans (d2.mono B1.out.size))
    have Vbr_2 := Lib.hid (Vbr_1.out.below d2)
    clear Vbr_1 c_Vbr_0 c_Vbr_1 c_Vbr_2 c_Vbr_3 c_Vbr_4 c_Vbr_5 c_Vbr_6 lt_Vbr b2 d2
    have c_Vbr_0 := Vbr_2.out.cell 0 _ rfl
    have c_Vbr_1 := Vbr_2.out.cell 1 _ rfl
    have c_Vbr_2 := Vbr_2.out.cell 2 _ rfl
    have c_Vbr_3 := Vbr_2.out.cell 3 _ rfl
    have c_Vbr_4 := Vbr_2.out.cell 4 _ rfl
    have c_Vbr_5 := Vbr_2.out.cell 5 _ rfl
    have c_Vbr_6 := Vbr_2.out.cell 6 _ rfl
    have lt_Vbr := Vbr_2.out.lt
    go_wp2_with fail
    refine (Calls.mono (SP.out _ _ _ _ _ _ _ _ _ Otr.out.arg)) ?_
    rintro e w3 ⟨rfl, b3⟩
    have hs3 : w2.heap.size ≤ w3.heap.size := b3.size
    have d3 : Below w2.heap.size w2 w3 := (Below.refl w2.heap.size w2).trans (b3.mono (show w2.heap.size ≤ w2.heap.size by first | exact Nat.le_refl _ | (simp; done) | (simp; omega)))
    have B3 := Lib.hid (B2.out.trans (d3.mono B2.out.size))
    have Vbr_3 := Lib.hid (Vbr_2.out.below d3)
    have Otr_3 := Lib.hid (Otr.out.below d3)
    clear Vbr_2 Otr c_Vbr_0 c_Vbr_1 c_Vbr_2 c_Vbr_3 c_Vbr_4 c_Vbr_5 c_Vbr_6 lt_Vbr b3 d3
    clear Otr_3
    have c_Vbr_0 := Vbr_3.out.cell 0 _ rfl
    have c_Vbr_1 := Vbr_3.out.cell 1 _ rfl
    have c_Vbr_2 := Vbr_3.out.cell 2 _ rfl
    have c_Vbr_3 := Vbr_3.out.cell 3 _ rfl
    have c_Vbr_4 := Vbr_3.out.cell 4 _ rfl
    have c_Vbr_5 := Vbr_3.out.cell 5 _ rfl
    have c_Vbr_6 := Vbr_3.out.cell 6 _ rfl
    have lt_Vbr := Vbr_3.out.lt
    go_wp2_with fail
    refine (Calls.mono (Mem.copyRuleA z0r A1r c1r x1r A2r c2r x2r A3r c3r x3r z4r A5r c5r x5r z6r _ (hr.below B3.out) hnr)) ?_
    rintro e w4 ⟨Xr_1, Xr_2, Xr_3, Xr_5, rfl, oxr, b4⟩
    have Oxr := Lib.hid (show Mem.OwnR Mem.rule (w3.heap.size) w4.heap.size w4 [.string z0r, .slice Xr_1 x1r.length x1r.length, .slice Xr_2 x2r.length x2r.length, .slice Xr_3 x3r.length x3r.length, .bool z4r, .slice Xr_5 x5r.length x5r.length, .string z6r] (z0r, x1r, x2r, x3r, (z4r, x5r, z6r)) from oxr)
    have hs4 : w3.heap.size ≤ w4.heap.size := b4.size
    have d4 : Below w3.heap.size w3 w4 := (Below.refl w3.heap.size w3).trans (b4.mono (show w3.heap.size ≤ w3.heap.size by first | exact Nat.le_refl _ | (simp; done) | (simp; omega)))
    have B4 := Lib.hid (B3.out.trans (d4.mono B3.out.size))
    have Vbr_4 := Lib.hid (Vbr_3.out.below d4)
    clear Vbr_3 c_Vbr_0 c_Vbr_1 c_Vbr_2 c_Vbr_3 c_Vbr_4 c_Vbr_5 c_Vbr_6 lt_Vbr b4 d4
    have c_Vbr_0 := Vbr_4.out.cell 0 _ rfl
    have c_Vbr_1 := Vbr_4.out.cell 1 _ rfl
    have c_Vbr_2 := Vbr_4.out.cell 2 _ rfl
    have c_Vbr_3 := Vbr_4.out.cell 3 _ rfl
    have c_Vbr_4 := Vbr_4.out.cell 4 _ rfl
    have c_Vbr_5 := Vbr_4.out.cell 5 _ rfl
    have c_Vbr_6 := Vbr_4.out.cell 6 _ rfl
    have lt_Vbr := Vbr_4.out.lt
    go_wp2_with fail
    refine (Calls.mono (IM.out _ _ _ _ _ _ _ _ _ (Oxr.out.below ((Below.refl w4.heap.size w4).alloc (by first | (simp; done) | (simp; omega)) (Obj.cells #[Value.string z0r, Value.slice Xr_1 x1r.length x1r.length, Value.slice Xr_2 x2r.length x2r.length, Value.slice Xr_3 x3r.length x3r.length, Value.bool z4r, Value.slice Xr_5 x5r.length x5r.length, Value.string z6r] 37))).arg (HP.out.below (B4.out.trans (((Below.refl w4.heap.size w4).alloc (by first | (simp; done) | (simp; omega)) (Obj.cells #[Value.string z0r, Value.slice Xr_1 x1r.length x1r.length, Value.slice Xr_2 x2r.length x2r.length, Value.slice Xr_3 x3r.length x3r.length, Value.bool z4r, Value.slice Xr_5 x5r.length x5r.length, Value.string z6r] 37)).mono B4.out.size))))) ?_
    rintro e w5 ⟨rfl, b5⟩
    have hs5 : (w4.alloc (Obj.cells #[Value.string z0r, Value.slice Xr_1 x1r.length x1r.length, Value.slice Xr_2 x2r.length x2r.length, Value.slice Xr_3 x3r.length x3r.length, Value.bool z4r, Value.slice Xr_5 x5r.length x5r.length, Value.string z6r] 37)).heap.size ≤ w5.heap.size := b5.size
    simp only [World.size_alloc] at hs5
    have d5 : Below w4.heap.size w4 w5 := ((Below.refl w4.heap.size w4).alloc (by first | (simp; done) | (simp; omega)) (Obj.cells #[Value.string z0r, Value.slice Xr_1 x1r.length x1r.length, Value.slice Xr_2 x2r.length x2r.length, Value.slice Xr_3 x3r.length x3r.length, Value.bool z4r, Value.slice Xr_5 x5r.length x5r.length, Value.string z6r] 37)).trans (b5.mono (show w4.heap.size ≤ (w4.alloc (Obj.cells #[Value.string z0r, Value.slice Xr_1 x1r.length x1r.length, Value.slice Xr_2 x2r.length x2r.length, Value.slice Xr_3 x3r.length x3r.length, Value.bool z4r, Value.slice Xr_5 x5r.length x5r.length, Value.string z6r] 37)).heap.size by first | exact Nat.le_refl _ | (simp; done) | (simp; omega)))
    have B5 := Lib.hid (B4.out.trans (d5.mono B4.out.size))
    have Vbr_5 := Lib.hid (Vbr_4.out.below d5)
    have Oxr_5 := Lib.hid (Oxr.out.below d5)
    have Vxr_5 := Lib.hid ((Lvar.new w4 #[Value.string z0r, Value.slice Xr_1 x1r.length x1r.length, Value.slice Xr_2 x2r.length x2r.length, Value.slice Xr_3 x3r.length x3r.length, Value.bool z4r, Value.slice Xr_5 x5r.length x5r.length, Value.string z6r] 37).below b5)
    clear Vbr_4 Oxr c_Vbr_0 c_Vbr_1 c_Vbr_2 c_Vbr_3 c_Vbr_4 c_Vbr_5 c_Vbr_6 lt_Vbr b5 d5
    have c_Vbr_0 := Vbr_5.out.cell 0 _ rfl
    have c_Vbr_1 := Vbr_5.out.cell 1 _ rfl
    have c_Vbr_2 := Vbr_5.out.cell 2 _ rfl
    have c_Vbr_3 := Vbr_5.out.cell 3 _ rfl
    have c_Vbr_4 := Vbr_5.out.cell 4 _ rfl
    have c_Vbr_5 := Vbr_5.out.cell 5 _ rfl
    have c_Vbr_6 := Vbr_5.out.cell 6 _ rfl
    have lt_Vbr := Vbr_5.out.lt
    have c_Vxr_0 := Vxr_5.out.cell 0 _ rfl
    have c_Vxr_1 := Vxr_5.out.cell 1 _ rfl
    have c_Vxr_2 := Vxr_5.out.cell 2 _ rfl
    have c_Vxr_3 := Vxr_5.out.cell 3 _ rfl
    have c_Vxr_4 := Vxr_5.out.cell 4 _ rfl
    have c_Vxr_5 := Vxr_5.out.cell 5 _ rfl
    have c_Vxr_6 := Vxr_5.out.cell 6 _ rfl
    have lt_Vxr := Vxr_5.out.lt
    go_wp2_with fail
    go_region_held3 (fun w' => w'.cell? ⟨w4.heap.size, 0, none⟩ = some (Value.string z0r) ∧ w'.cell? ⟨w4.heap.size, 1, none⟩ = some (Value.slice Xr_1 x1r.length x1r.length) ∧ w'.cell? ⟨w4.heap.size, 2, none⟩ = some (Value.slice Xr_2 x2r.length x2r.length) ∧ w'.cell? ⟨w4.heap.size, 3, none⟩ = some (Value.slice Xr_3 x3r.length x3r.length) ∧ w'.cell? ⟨w4.heap.size, 4, none⟩ = some (Value.bool z4r) ∧ w'.cell? ⟨w4.heap.size, 5, none⟩ = some (Value.slice Xr_5 x5r.length x5r.length) ∧ w'.cell? ⟨w4.heap.size, 6, none⟩ = some (Value.string z6r) ∧ w'.cell? ⟨w0.heap.size, 0, none⟩ = some (Value.string z0r) ∧ w'.cell? ⟨w0.heap.size, 1, none⟩ = some (Value.slice A1r x1r.length c1r) ∧ w'.cell? ⟨w0.heap.size, 2, none⟩ = some (Value.slice A2r x2r.length c2r) ∧ w'.cell? ⟨w0.heap.size, 3, none⟩ = some (Value.slice A3r x3r.length c3r) ∧ w'.cell? ⟨w0.heap.size, 4, none⟩ = some (Value.bool z4r) ∧ w'.cell? ⟨w0.heap.size, 5, none⟩ = some (Value.slice A5r x5r.length c5r) ∧ w'.cell? ⟨w0.heap.size, 6, none⟩ = some (Value.string z6r))
      (first | exact ⟨(((Vxr_5.out.below (Below.refl _ _).drew).below b6).below b7).cell 0 _ rfl, (((Vxr_5.out.below (Below.refl _ _).drew).below b6).below b7).cell 1 _ rfl, (((Vxr_5.out.below (Below.refl _ _).drew).below b6).below b7).cell 2 _ rfl, (((Vxr_5.out.below (Below.refl _ _).drew).below b6).below b7).cell 3 _ rfl, (((Vxr_5.out.below (Below.refl _ _).drew).below b6).below b7).cell 4 _ rfl, (((Vxr_5.out.below (Below.refl _ _).drew).below b6).below b7).cell 5 _ rfl, (((Vxr_5.out.below (Below.refl _ _).drew).below b6).below b7).cell 6 _ rfl, (((Vbr_5.out.below (Below.refl _ _).drew).below b6).below b7).cell 0 _ rfl, (((Vbr_5.out.below (Below.refl _ _).drew).below b6).below b7).cell 1 _ rfl, (((Vbr_5.out.below (Below.refl _ _).drew).below b6).below b7).cell 2 _ rfl, (((Vbr_5.out.below (Below.refl _ _).drew).below b6).below b7).cell 3 _ rfl, (((Vbr_5.out.below (Below.refl _ _).drew).below b6).below b7).cell 4 _ rfl, (((Vbr_5.out.below (Below.refl _ _).drew).below b6).below b7).cell 5 _ rfl, (((Vbr_5.out.below (Below.refl _ _).drew).below b6).below b7).cell 6 _ rfl⟩ | exact ⟨((Vxr_5.out.below (Below.refl _ _).drew).below b6).cell 0 _ rfl, ((Vxr_5.out.below (Below.refl _ _).drew).below b6).cell 1 _ rfl, ((Vxr_5.out.below (Below.refl _ _).drew).below b6).cell 2 _ rfl, ((Vxr_5.out.below (Below.refl _ _).drew).below b6).cell 3 _ rfl, ((Vxr_5.out.below (Below.refl _ _).drew).below b6).cell 4 _ rfl, ((Vxr_5.out.below (Below.refl _ _).drew).below b6).cell 5 _ rfl, ((Vxr_5.out.below (Below.refl _ _).drew).below b6).cell 6 _ rfl, ((Vbr_5.out.below (Below.refl _ _).drew).below b6).cell 0 _ rfl, ((Vbr_5.out.below (Below.refl _ _).drew).below b6).cell 1 _ rfl, ((Vbr_5.out.below (Below.refl _ _).drew).below b6).cell 2 _ rfl, ((Vbr_5.out.below (Below.refl _ _).drew).below b6).cell 3 _ rfl, ((Vbr_5.out.below (Below.refl _ _).drew).below b6).cell 4 _ rfl, ((Vbr_5.out.below (Below.refl _ _).drew).below b6).cell 5 _ rfl, ((Vbr_5.out.below (Below.refl _ _).drew).below b6).cell 6 _ rfl⟩ | go_keep)
      (first
        | (go_at_call 6; refine (Calls.mono (Mem.copyRuleA z0r A1r c1r x1r A2r c2r x2r A3r c3r x3r z4r A5r c5r x5r z6r _ (hr.below B5.out.drew) hnr)) ?_; rintro e w6 ⟨C5_1, C5_2, C5_3, C5_5, rfl, oc5, b6⟩)
        | (go_at_call 8; refine (Calls.mono (Mem.eqRuleA z0r Xr_1 x1r.length x1r Xr_2 x2r.length x2r Xr_3 x3r.length x3r z4r Xr_5 x5r.length x5r z6r C5_1 x1r.length C5_2 x2r.length C5_3 x3r.length C5_5 x5r.length _ ((Oxr_5.out.below (Below.refl _ _).drew).below b6).arg oc5.arg hnr)) ?_; rintro e w7 ⟨rfl, b7⟩))
    have h6 : w5.heap.size ≤ w6.heap.size := b6.size
    have h7 : w6.heap.size ≤ w7.heap.size := b7.size
    have d7 : Below w5.heap.size w5 w7 := (((Below.refl w5.heap.size w5).drew.trans (b6.mono (show w5.heap.size ≤ w5.heap.size by omega))).trans (b7.mono (show w5.heap.size ≤ w6.heap.size by omega)))
    have hs7 := d7.size
    have B7 := Lib.hid (B5.out.trans (d7.mono B5.out.size))
    have Vbr_7 := Lib.hid (Vbr_5.out.below d7)
    have Oxr_7 := Lib.hid (Oxr_5.out.below d7)
    have Vxr_7 := Lib.hid (Vxr_5.out.below d7)
    clear Vbr_5 Oxr_5 Vxr_5 c_Vbr_0 c_Vbr_1 c_Vbr_2 c_Vbr_3 c_Vbr_4 c_Vbr_5 c_Vbr_6 lt_Vbr c_Vxr_0 c_Vxr_1 c_Vxr_2 c_Vxr_3 c_Vxr_4 c_Vxr_5 c_Vxr_6 lt_Vxr b6 h6 b7 h7 d7
    clear oc5
    have c_Vbr_0 := Vbr_7.out.cell 0 _ rfl
    have c_Vbr_1 := Vbr_7.out.cell 1 _ rfl
    have c_Vbr_2 := Vbr_7.out.cell 2 _ rfl
    have c_Vbr_3 := Vbr_7.out.cell 3 _ rfl
    have c_Vbr_4 := Vbr_7.out.cell 4 _ rfl
    have c_Vbr_5 := Vbr_7.out.cell 5 _ rfl
    have c_Vbr_6 := Vbr_7.out.cell 6 _ rfl
    have lt_Vbr := Vbr_7.out.lt
    have c_Vxr_0 := Vxr_7.out.cell 0 _ rfl
    have c_Vxr_1 := Vxr_7.out.cell 1 _ rfl
    have c_Vxr_2 := Vxr_7.out.cell 2 _ rfl
    have c_Vxr_3 := Vxr_7.out.cell 3 _ rfl
    have c_Vxr_4 := Vxr_7.out.cell 4 _ rfl
    have c_Vxr_5 := Vxr_7.out.cell 5 _ rfl
    have c_Vxr_6 := Vxr_7.out.cell 6 _ rfl
    have lt_Vxr := Vxr_7.out.lt
    go_wp2
    go_ret
    exact ⟨rfl, B7.out⟩
  · simp only [if_neg htr] at SZ
    have HS0 := Lib.hid SZ
    clear SZ hwfr
    have B0 := Lib.hid (Below.refl w0.heap.size w0)
    go_enter Tryz.func3, Tryz.ntmps3
    go_wp2_with fail
    refine (Calls.mono (HS0.out _ (hr.below (B0.out.trans (((Below.refl w0.heap.size w0).alloc (by first | (simp; done) | (simp; omega)) (Obj.cells #[Value.string z0r, Value.slice A1r x1r.length c1r, Value.slice A2r x2r.length c2r, Value.slice A3r x3r.length c3r, Value.bool z4r, Value.slice A5r x5r.length c5r, Value.string z6r] 28)).mono B0.out.size))))) ?_
    rintro e w1 ⟨rfl, b1⟩
    have hs1 : (w0.alloc (Obj.cells #[Value.string z0r, Value.slice A1r x1r.length c1r, Value.slice A2r x2r.length c2r, Value.slice A3r x3r.length c3r, Value.bool z4r, Value.slice A5r x5r.length c5r, Value.string z6r] 28)).heap.size ≤ w1.heap.size := b1.size
    simp only [World.size_alloc] at hs1
    have d1 : Below w0.heap.size w0 w1 := ((Below.refl w0.heap.size w0).alloc (by first | (simp; done) | (simp; omega)) (Obj.cells #[Value.string z0r, Value.slice A1r x1r.length c1r, Value.slice A2r x2r.length c2r, Value.slice A3r x3r.length c3r, Value.bool z4r, Value.slice A5r x5r.length c5r, Value.string z6r] 28)).trans (b1.mono (show w0.heap.size ≤ (w0.alloc (Obj.cells #[Value.string z0r, Value.slice A1r x1r.length c1r, Value.slice A2r x2r.length c2r, Value.slice A3r x3r.length c3r, Value.bool z4r, Value.slice A5r x5r.length c5r, Value.string z6r] 28)).heap.size by first | exact Nat.le_refl _ | (simp; done) | (simp; omega)))
    have B1 := Lib.hid (B0.out.trans (d1.mono B0.out.size))
    have Vbr_1 := Lib.hid ((Lvar.new w0 #[Value.string z0r, Value.slice A1r x1r.length c1r, Value.slice A2r x2r.length c2r, Value.slice A3r x3r.length c3r, Value.bool z4r, Value.slice A5r x5r.length c5r, Value.string z6r] 28).below b1)
    clear b1 d1
    have c_Vbr_0 := Vbr_1.out.cell 0 _ rfl
    have c_Vbr_1 := Vbr_1.out.cell 1 _ rfl
    have c_Vbr_2 := Vbr_1.out.cell 2 _ rfl
    have c_Vbr_3 := Vbr_1.out.cell 3 _ rfl
    have c_Vbr_4 := Vbr_1.out.cell 4 _ rfl
    have c_Vbr_5 := Vbr_1.out.cell 5 _ rfl
    have c_Vbr_6 := Vbr_1.out.cell 6 _ rfl
    have lt_Vbr := Vbr_1.out.lt
    go_wp2
    go_ret
    exact ⟨rfl, B1.out⟩

theorem laid_met (os : Os) : laidMetH Tryz.prog Rows.fnExactFormatRuleRow.laid ((World.doorLaid Tryz.prog 4000 os).forCall (fun _ _ => 0) ⟨#[], #[.agg #[.string .empty, .slice none 0 0, .slice none 0 0, .slice none 0 0, .bool false, .slice none 0 0, .string .empty]], []⟩).memory :=
  laidMetH_of_parts3 (fuel := 8) (laidMet_of_run' 8 (by kernel_rfl) (by kernel_rfl)) (by kernel_rfl) (by kernel_rfl)
set_option maxRecDepth 100000 in
theorem lifted (os : Os) (started : os.Started) (H : Type) (enc : TypeId × Value → H) (F : Stop.Interp) :
    ReturnsInHanded {} Tryz.checked os 3 .any ((OpenSpec.ofChange Rows.fnExactFormatRuleSpec).preRow enc Tryz.prog Tryz.f3 Rows.fnExactFormatRuleRow.domain false Rows.fnExactFormatRuleRow.laid) (((OpenSpec.ofChange Rows.fnExactFormatRuleSpec).at F).post enc Tryz.prog Tryz.f3 false true false false) := by
  have hx : (DataW.whole enc Tryz.prog ((World.doorLaid Tryz.prog 4000 os).forCall (fun _ _ => 0) ⟨#[], #[.agg #[.string .empty, .slice none 0 0, .slice none 0 0, .slice none 0 0, .bool false, .slice none 0 0, .string .empty]], []⟩).memory Tryz.f3.params.toList Rows.fnExactFormatRuleSpec.vars false #[Value.agg #[.string .empty, .slice none 0 0, .slice none 0 0, .slice none 0 0, .bool false, .slice none 0 0, .string .empty]].toList 8).isSome = true := by kernel_rfl
  obtain ⟨x, hx⟩ := Option.isSome_iff_exists.1 hx
  refine returnsInHanded_of_row (C := Tryz.checked) (s := OpenSpec.ofChange Rows.fnExactFormatRuleSpec) Frame.own started (by kernel_rfl) Tryz.func3
    (witness_row_atRef (enc := enc) (C := Tryz.checked) false (World.doorLaid Tryz.prog 4000 os) #[.agg #[.string .empty, .slice none 0 0, .slice none 0 0, .slice none 0 0, .bool false, .slice none 0 0, .string .empty]] rfl (by kernel_rfl) (by kernel_rfl) (by kernel_rfl)
      (OpenSpec.preRow_of_cond 8 hx rfl (fun k hk => by cases hk) (by kernel_rfl) (laid_met os))) ?_
  intro W base args ds gs before hval0 hW _ _ _ hL _ _
  have hW' := hW
  obtain ⟨p, q, hA0, hV, rfl, hfz, hnd⟩ := hW
  have hval : ∀ (j : Nat) t v, Tryz.f3.params[j]? = some t → args[j]? = some v → Value.okWide Tryz.prog W .any base t v := hval0
  have hA : DataW.TrodAll enc Tryz.prog W 0 (fun _ => true) true Tryz.f3.params.toList args.toList ds p := hA0
  rw [Tryz.params3] at hA hval
  obtain ⟨v0, d0, rfl, rfl, h0⟩ := trodAll_one hA
  have hlt := fun x hx => hW'.lt x hx
  obtain ⟨rfl, rfl⟩ := trodVars_none hV
  obtain ⟨z0r, A1r, c1r, x1r, A2r, c2r, x2r, A3r, c3r, x3r, z4r, A5r, c5r, x5r, z6r, rfl, hrr, hwr⟩ := Frame.openU_Rule (W := W) (hval 0 28 v0 rfl rfl) h0 (fun x hx => hlt x (by simp [hx]))
  refine (walk z0r A1r c1r x1r A2r c2r x2r A3r c3r x3r z4r A5r c5r x5r z6r W hrr hwr (pow hL)).mono fun e W' ⟨he, hb⟩ => ?_
  subst he
  exact ⟨_, rfl, Frame.law_post (tb := 4) Frame.laidOut (by kernel_rfl) (by kernel_rfl) (by kernel_rfl) Tryz.underlying4 hW' rfl hb⟩

theorem said : Rows.FnExactFormatRuleSaid :=
  OpenClaim.holds_of_cond 3 Tryz.f3 rfl rfl rfl rfl rfl rfl rfl ⟨rfl, rfl, rfl, rfl, rfl⟩ rfl rfl rfl rfl rfl (by kernel_rfl) Tryz.func3 (by kernel_rfl)
    (of_decide_eq_true (by kernel_rfl)) (by unfold Func.isWrapper; first | (rw [if_pos (by decide +kernel)]; kernel_rfl) | (rw [if_neg (by decide +kernel)]; exact ⟨rfl, rfl⟩))
    (fun os started H enc _ F => by rw [OpenClaim.pre_eq_preRow]; exact lifted os started H enc F)

theorem plain (f : FuncId) (fn : Func) (hf : Tryz.pinned.checked.prog.funcNamed "loop.example/g00515/laws.FnExactFormatRule" = some f) (hfn : Tryz.pinned.checked.prog.funcs[f]? = some fn) :
    false = Tryz.pinned.checked.prog.looks [] ∧ ∀ (j : Nat) t, fn.params[j]? = some t → Tryz.pinned.checked.prog.wantsStandIn t = false := by
  obtain rfl : f = 3 := Option.some.inj ((show Tryz.prog.funcNamed "loop.example/g00515/laws.FnExactFormatRule" = some 3 by kernel_rfl).symm.trans hf) |>.symm
  obtain rfl : fn = Tryz.f3 := (Option.some.inj (Tryz.func3.symm.trans hfn)).symm
  refine ⟨by kernel_rfl, fun j t ht => ?_⟩
  rw [Tryz.params3] at ht
  have hm : t ∈ [28] := by simpa using Array.mem_of_getElem? ht
  have hall : ([28].all fun u => !Tryz.prog.wantsStandIn u) = true := by kernel_rfl
  exact (show Tryz.prog.wantsStandIn t = false by simpa using List.all_eq_true.1 hall t hm)

theorem card : Rows.FnExactFormatRuleCardSaid :=
  Claim7.holds_tied_plain_at .later [] _ _ _ _ said (fun _ h => by cases h) (by kernel_rfl) (fun _ h => by cases h) fnExactFormatRule_row_tie rfl ⟨rfl, rfl⟩ (by kernel_rfl) rfl plain (by kernel_rfl)
end LawFormatRule
end Go.Proofs.YtcdlgebbmcdadaaGreatDoor
