import Derived.Test.YtbdpohcababccaaGreatRows
import Derived.Test.YtbdpohcababccaaGreatFrame
import Derived.Test.YtbdpohcababccaaGreatFProgram
import Derived.Test.YtbdpohcababccaaGreatPgmValA
import Derived.Deep.RegionHeld3
import Derived.SliceStrings
/- At every argument, impl.IsValidRule answers as its model and writes nothing into its arguments: the law FnExactIsValidRule returns true. There is no condition. -/
namespace Go.Proofs.YtbdpohcababccaaGreat
open Go.ChangeShapes Go.WideShapes Go.ChangeAt Go.RowKit
open Go.ChangeMaps (open_string shut_string)
namespace LawIsValidRule
open RowK Mem
set_option maxHeartbeats 4000000 in
set_option maxRecDepth 100000 in
theorem walk (A0p : Option Addr) (c0p : Nat) (x0p : List Mem.FunctionT) (A1p : Option Addr) (c1p : Nat) (x1p : List Mem.RuleT) (z0r : ByteArray) (A1r : Option Addr) (c1r : Nat) (x1r : List Mem.PatternT) (A2r : Option Addr) (c2r : Nat) (x2r : List Mem.SumT) (A3r : Option Addr) (c3r : Nat) (x3r : List Mem.CallT) (z4r : Bool) (A5r : Option Addr) (c5r : Nat) (x5r : List Mem.SumT) (z6r : ByteArray) (w0 : World) (hp : Mem.ArgR Mem.prg w0 [.slice A0p x0p.length c0p, .slice A1p x1p.length c1p] (x0p, x1p)) (hwfp : Mem.WfProgramU (x0p, x1p)) (hr : Mem.ArgR Mem.rule w0 [.string z0r, .slice A1r x1r.length c1r, .slice A2r x2r.length c2r, .slice A3r x3r.length c3r, .bool z4r, .slice A5r x5r.length c5r, .string z6r] (z0r, x1r, x2r, x3r, (z4r, x5r, z6r))) (hwfr : Mem.WfRuleU (z0r, x1r, x2r, x3r, (z4r, x5r, z6r))) :
    Calls Tryz.prog 4 #[.agg #[.slice A0p x0p.length c0p, .slice A1p x1p.length c1p], .agg #[.string z0r, .slice A1r x1r.length c1r, .slice A2r x2r.length c2r, .slice A3r x3r.length c3r, .bool z4r, .slice A5r x5r.length c5r, .string z6r]] w0 fun e w' => e = .returned (.bool true) ∧ Below w0.heap.size w0 w' := by
  have SZ := fun W (h : Mem.ArgR Mem.prg W [.slice A0p x0p.length c0p, .slice A1p x1p.length c1p] (x0p, x1p)) => Mem.sizeProgramA A0p c0p x0p A1p c1p x1p 1048576 W h (by omega) hwfp
  unfold IntK.leftOf at SZ
  by_cases htp : Mem.szProgramU (x0p, x1p) ≤ 1048576
  · simp only [if_pos htp] at SZ
    have HS0 := Lib.hid SZ
    have hnp : Mem.szProgramU (x0p, x1p) ≤ 100000000 := by omega
    clear SZ
    obtain ⟨t0, hte0⟩ : ∃ t : Nat, t = 1048576 - Mem.szProgramU (x0p, x1p) := ⟨_, rfl⟩
    have htc0 : ((1048576 : Nat) : Int) - ((Mem.szProgramU (x0p, x1p) : Nat) : Int) = (t0 : Int) := by omega
    have htl0 : t0 ≤ 1048576 := by omega
    rw [htc0] at HS0
    clear hte0 htc0
    have SZ := fun W (h : Mem.ArgR Mem.rule W [.string z0r, .slice A1r x1r.length c1r, .slice A2r x2r.length c2r, .slice A3r x3r.length c3r, .bool z4r, .slice A5r x5r.length c5r, .string z6r] (z0r, x1r, x2r, x3r, (z4r, x5r, z6r))) => Mem.sizeRuleA z0r A1r c1r x1r A2r c2r x2r A3r c3r x3r z4r A5r c5r x5r z6r t0 W h (by omega) hwfr
    unfold IntK.leftOf at SZ
    by_cases htr : Mem.szRuleU (z0r, x1r, x2r, x3r, (z4r, x5r, z6r)) ≤ t0
    · simp only [if_pos htr] at SZ
      have HS1 := Lib.hid SZ
      have hnr : Mem.szRuleU (z0r, x1r, x2r, x3r, (z4r, x5r, z6r)) ≤ 100000000 := by omega
      clear SZ
      clear hwfp
      clear hwfr
      have B0 := Lib.hid (Below.refl w0.heap.size w0)
      go_enter Tryz.func4, Tryz.ntmps4
      go_wp2_with fail
      refine (Calls.mono (HS0.out _ (hp.below (B0.out.trans ((((Below.refl w0.heap.size w0).alloc (by first | (simp; done) | (simp; omega)) (Obj.cells #[Value.slice A0p x0p.length c0p, Value.slice A1p x1p.length c1p] 54)).alloc (by first | (simp; done) | (simp; omega)) (Obj.cells #[Value.string z0r, Value.slice A1r x1r.length c1r, Value.slice A2r x2r.length c2r, Value.slice A3r x3r.length c3r, Value.bool z4r, Value.slice A5r x5r.length c5r, Value.string z6r] 61)).mono B0.out.size))))) ?_
      rintro e w1 ⟨rfl, b1⟩
      have hs1 : ((w0.alloc (Obj.cells #[Value.slice A0p x0p.length c0p, Value.slice A1p x1p.length c1p] 54)).alloc (Obj.cells #[Value.string z0r, Value.slice A1r x1r.length c1r, Value.slice A2r x2r.length c2r, Value.slice A3r x3r.length c3r, Value.bool z4r, Value.slice A5r x5r.length c5r, Value.string z6r] 61)).heap.size ≤ w1.heap.size := b1.size
      simp only [World.size_alloc] at hs1
      have d1 : Below w0.heap.size w0 w1 := (((Below.refl w0.heap.size w0).alloc (by first | (simp; done) | (simp; omega)) (Obj.cells #[Value.slice A0p x0p.length c0p, Value.slice A1p x1p.length c1p] 54)).alloc (by first | (simp; done) | (simp; omega)) (Obj.cells #[Value.string z0r, Value.slice A1r x1r.length c1r, Value.slice A2r x2r.length c2r, Value.slice A3r x3r.length c3r, Value.bool z4r, Value.slice A5r x5r.length c5r, Value.string z6r] 61)).trans (b1.mono (show w0.heap.size ≤ ((w0.alloc (Obj.cells #[Value.slice A0p x0p.length c0p, Value.slice A1p x1p.length c1p] 54)).alloc (Obj.cells #[Value.string z0r, Value.slice A1r x1r.length c1r, Value.slice A2r x2r.length c2r, Value.slice A3r x3r.length c3r, Value.bool z4r, Value.slice A5r x5r.length c5r, Value.string z6r] 61)).heap.size by first | exact Nat.le_refl _ | (simp; done) | (simp; omega)))
      have B1 := Lib.hid (B0.out.trans (d1.mono B0.out.size))
      have Vbp_1 := Lib.hid (((Lvar.new w0 #[Value.slice A0p x0p.length c0p, Value.slice A1p x1p.length c1p] 54).alloc (Obj.cells #[Value.string z0r, Value.slice A1r x1r.length c1r, Value.slice A2r x2r.length c2r, Value.slice A3r x3r.length c3r, Value.bool z4r, Value.slice A5r x5r.length c5r, Value.string z6r] 61)).below b1)
      have Vbr_1 := Lib.hid ((Lvar.new (w0.alloc (Obj.cells #[Value.slice A0p x0p.length c0p, Value.slice A1p x1p.length c1p] 54)) #[Value.string z0r, Value.slice A1r x1r.length c1r, Value.slice A2r x2r.length c2r, Value.slice A3r x3r.length c3r, Value.bool z4r, Value.slice A5r x5r.length c5r, Value.string z6r] 61).below b1)
      simp only [World.size_alloc] at Vbr_1
      clear b1 d1
      have c_Vbp_0 := Vbp_1.out.cell 0 _ rfl
      have c_Vbp_1 := Vbp_1.out.cell 1 _ rfl
      have lt_Vbp := Vbp_1.out.lt
      have c_Vbr_0 := Vbr_1.out.cell 0 _ rfl
      have c_Vbr_1 := Vbr_1.out.cell 1 _ rfl
      have c_Vbr_2 := Vbr_1.out.cell 2 _ rfl
      have c_Vbr_3 := Vbr_1.out.cell 3 _ rfl
      have c_Vbr_4 := Vbr_1.out.cell 4 _ rfl
      have c_Vbr_5 := Vbr_1.out.cell 5 _ rfl
      have c_Vbr_6 := Vbr_1.out.cell 6 _ rfl
      have lt_Vbr := Vbr_1.out.lt
      go_wp2_with fail
      refine (Calls.mono (HS1.out _ (hr.below B1.out))) ?_
      rintro e w2 ⟨rfl, b2⟩
      have hs2 : w1.heap.size ≤ w2.heap.size := b2.size
      have d2 : Below w1.heap.size w1 w2 := (Below.refl w1.heap.size w1).trans (b2.mono (show w1.heap.size ≤ w1.heap.size by first | exact Nat.le_refl _ | (simp; done) | (simp; omega)))
      have B2 := Lib.hid (B1.out.trans (d2.mono B1.out.size))
      have Vbp_2 := Lib.hid (Vbp_1.out.below d2)
      have Vbr_2 := Lib.hid (Vbr_1.out.below d2)
      clear Vbp_1 Vbr_1 c_Vbp_0 c_Vbp_1 lt_Vbp c_Vbr_0 c_Vbr_1 c_Vbr_2 c_Vbr_3 c_Vbr_4 c_Vbr_5 c_Vbr_6 lt_Vbr b2 d2
      have c_Vbp_0 := Vbp_2.out.cell 0 _ rfl
      have c_Vbp_1 := Vbp_2.out.cell 1 _ rfl
      have lt_Vbp := Vbp_2.out.lt
      have c_Vbr_0 := Vbr_2.out.cell 0 _ rfl
      have c_Vbr_1 := Vbr_2.out.cell 1 _ rfl
      have c_Vbr_2 := Vbr_2.out.cell 2 _ rfl
      have c_Vbr_3 := Vbr_2.out.cell 3 _ rfl
      have c_Vbr_4 := Vbr_2.out.cell 4 _ rfl
      have c_Vbr_5 := Vbr_2.out.cell 5 _ rfl
      have c_Vbr_6 := Vbr_2.out.cell 6 _ rfl
      have lt_Vbr := Vbr_2.out.lt
      go_wp2_with fail
      go_region_held3 (fun w' => w'.cell? ⟨w0.heap.size, 0, none⟩ = some (Value.slice A0p x0p.length c0p) ∧ w'.cell? ⟨w0.heap.size, 1, none⟩ = some (Value.slice A1p x1p.length c1p) ∧ w'.cell? ⟨w0.heap.size + 1, 0, none⟩ = some (Value.string z0r) ∧ w'.cell? ⟨w0.heap.size + 1, 1, none⟩ = some (Value.slice A1r x1r.length c1r) ∧ w'.cell? ⟨w0.heap.size + 1, 2, none⟩ = some (Value.slice A2r x2r.length c2r) ∧ w'.cell? ⟨w0.heap.size + 1, 3, none⟩ = some (Value.slice A3r x3r.length c3r) ∧ w'.cell? ⟨w0.heap.size + 1, 4, none⟩ = some (Value.bool z4r) ∧ w'.cell? ⟨w0.heap.size + 1, 5, none⟩ = some (Value.slice A5r x5r.length c5r) ∧ w'.cell? ⟨w0.heap.size + 1, 6, none⟩ = some (Value.string z6r))
        (first | exact ⟨((((Vbp_2.out.below (Below.refl _ _).drew).below b3).below b4).below b5).cell 0 _ rfl, ((((Vbp_2.out.below (Below.refl _ _).drew).below b3).below b4).below b5).cell 1 _ rfl, ((((Vbr_2.out.below (Below.refl _ _).drew).below b3).below b4).below b5).cell 0 _ rfl, ((((Vbr_2.out.below (Below.refl _ _).drew).below b3).below b4).below b5).cell 1 _ rfl, ((((Vbr_2.out.below (Below.refl _ _).drew).below b3).below b4).below b5).cell 2 _ rfl, ((((Vbr_2.out.below (Below.refl _ _).drew).below b3).below b4).below b5).cell 3 _ rfl, ((((Vbr_2.out.below (Below.refl _ _).drew).below b3).below b4).below b5).cell 4 _ rfl, ((((Vbr_2.out.below (Below.refl _ _).drew).below b3).below b4).below b5).cell 5 _ rfl, ((((Vbr_2.out.below (Below.refl _ _).drew).below b3).below b4).below b5).cell 6 _ rfl⟩ | exact ⟨(((Vbp_2.out.below (Below.refl _ _).drew).below b3).below b4).cell 0 _ rfl, (((Vbp_2.out.below (Below.refl _ _).drew).below b3).below b4).cell 1 _ rfl, (((Vbr_2.out.below (Below.refl _ _).drew).below b3).below b4).cell 0 _ rfl, (((Vbr_2.out.below (Below.refl _ _).drew).below b3).below b4).cell 1 _ rfl, (((Vbr_2.out.below (Below.refl _ _).drew).below b3).below b4).cell 2 _ rfl, (((Vbr_2.out.below (Below.refl _ _).drew).below b3).below b4).cell 3 _ rfl, (((Vbr_2.out.below (Below.refl _ _).drew).below b3).below b4).cell 4 _ rfl, (((Vbr_2.out.below (Below.refl _ _).drew).below b3).below b4).cell 5 _ rfl, (((Vbr_2.out.below (Below.refl _ _).drew).below b3).below b4).cell 6 _ rfl⟩ | exact ⟨((Vbp_2.out.below (Below.refl _ _).drew).below b3).cell 0 _ rfl, ((Vbp_2.out.below (Below.refl _ _).drew).below b3).cell 1 _ rfl, ((Vbr_2.out.below (Below.refl _ _).drew).below b3).cell 0 _ rfl, ((Vbr_2.out.below (Below.refl _ _).drew).below b3).cell 1 _ rfl, ((Vbr_2.out.below (Below.refl _ _).drew).below b3).cell 2 _ rfl, ((Vbr_2.out.below (Below.refl _ _).drew).below b3).cell 3 _ rfl, ((Vbr_2.out.below (Below.refl _ _).drew).below b3).cell 4 _ rfl, ((Vbr_2.out.below (Below.refl _ _).drew).below b3).cell 5 _ rfl, ((Vbr_2.out.below (Below.refl _ _).drew).below b3).cell 6 _ rfl⟩ | go_keep)
        (first
          | (go_at_call 21; refine (Calls.mono (Mem.copyProgramA A0p c0p x0p A1p c1p x1p _ (hp.below B2.out.drew) hnp)) ?_; rintro e w3 ⟨Cp_0, Cp_1, rfl, oqp, b3⟩)
          | (go_at_call 22; refine (Calls.mono (Mem.copyRuleA z0r A1r c1r x1r A2r c2r x2r A3r c3r x3r z4r A5r c5r x5r z6r _ (hr.below (B2.out.drew.trans (b3.mono B2.out.size))) hnr)) ?_; rintro e w4 ⟨Cr_1, Cr_2, Cr_3, Cr_5, rfl, oqr, b4⟩)
          | (go_at_call 16; refine (Calls.mono (ProgS.ruleA (oqp.below b4).arg oqr.arg (by omega) (by omega))) ?_; rintro e w5 ⟨rfl, b5⟩))
      have h3 : w2.heap.size ≤ w3.heap.size := b3.size
      have h4 : w3.heap.size ≤ w4.heap.size := b4.size
      have h5 : w4.heap.size ≤ w5.heap.size := b5.size
      have d5 : Below w2.heap.size w2 w5 := ((((Below.refl w2.heap.size w2).drew.trans (b3.mono (show w2.heap.size ≤ w2.heap.size by omega))).trans (b4.mono (show w2.heap.size ≤ w3.heap.size by omega))).trans (b5.mono (show w2.heap.size ≤ w4.heap.size by omega)))
      have hs5 := d5.size
      have B5 := Lib.hid (B2.out.trans (d5.mono B2.out.size))
      have Vbp_5 := Lib.hid (Vbp_2.out.below d5)
      have Vbr_5 := Lib.hid (Vbr_2.out.below d5)
      clear Vbp_2 Vbr_2 c_Vbp_0 c_Vbp_1 lt_Vbp c_Vbr_0 c_Vbr_1 c_Vbr_2 c_Vbr_3 c_Vbr_4 c_Vbr_5 c_Vbr_6 lt_Vbr b3 h3 b4 h4 b5 h5 d5
      clear oqp oqr
      have c_Vbp_0 := Vbp_5.out.cell 0 _ rfl
      have c_Vbp_1 := Vbp_5.out.cell 1 _ rfl
      have lt_Vbp := Vbp_5.out.lt
      have c_Vbr_0 := Vbr_5.out.cell 0 _ rfl
      have c_Vbr_1 := Vbr_5.out.cell 1 _ rfl
      have c_Vbr_2 := Vbr_5.out.cell 2 _ rfl
      have c_Vbr_3 := Vbr_5.out.cell 3 _ rfl
      have c_Vbr_4 := Vbr_5.out.cell 4 _ rfl
      have c_Vbr_5 := Vbr_5.out.cell 5 _ rfl
      have c_Vbr_6 := Vbr_5.out.cell 6 _ rfl
      have lt_Vbr := Vbr_5.out.lt
      go_wp2_with fail
      refine (Calls.mono (Mem.copyProgramA A0p c0p x0p A1p c1p x1p _ (hp.below B5.out) hnp)) ?_
      rintro e w6 ⟨Xp_0, Xp_1, rfl, oxp, b6⟩
      have Oxp := Lib.hid (show Mem.OwnR Mem.prg (w5.heap.size) w6.heap.size w6 [.slice Xp_0 x0p.length x0p.length, .slice Xp_1 x1p.length x1p.length] (x0p, x1p) from oxp)
      have hs6 : w5.heap.size ≤ w6.heap.size := b6.size
      have d6 : Below w5.heap.size w5 w6 := (Below.refl w5.heap.size w5).trans (b6.mono (show w5.heap.size ≤ w5.heap.size by first | exact Nat.le_refl _ | (simp; done) | (simp; omega)))
      have B6 := Lib.hid (B5.out.trans (d6.mono B5.out.size))
      have Vbp_6 := Lib.hid (Vbp_5.out.below d6)
      have Vbr_6 := Lib.hid (Vbr_5.out.below d6)
      clear Vbp_5 Vbr_5 c_Vbp_0 c_Vbp_1 lt_Vbp c_Vbr_0 c_Vbr_1 c_Vbr_2 c_Vbr_3 c_Vbr_4 c_Vbr_5 c_Vbr_6 lt_Vbr b6 d6
      have c_Vbp_0 := Vbp_6.out.cell 0 _ rfl
      have c_Vbp_1 := Vbp_6.out.cell 1 _ rfl
      have lt_Vbp := Vbp_6.out.lt
      have c_Vbr_0 := Vbr_6.out.cell 0 _ rfl
      have c_Vbr_1 := Vbr_6.out.cell 1 _ rfl
      have c_Vbr_2 := Vbr_6.out.cell 2 _ rfl
      have c_Vbr_3 := Vbr_6.out.cell 3 _ rfl
      have c_Vbr_4 := Vbr_6.out.cell 4 _ rfl
      have c_Vbr_5 := Vbr_6.out.cell 5 _ rfl
      have c_Vbr_6 := Vbr_6.out.cell 6 _ rfl
      have lt_Vbr := Vbr_6.out.lt
      go_wp2_with fail
      refine (Calls.mono (Mem.copyRuleA z0r A1r c1r x1r A2r c2r x2r A3r c3r x3r z4r A5r c5r x5r z6r _ (hr.below (B6.out.trans (((Below.refl w6.heap.size w6).alloc (by first | (simp; done) | (simp; omega)) (Obj.cells #[Value.slice Xp_0 x0p.length x0p.length, Value.slice Xp_1 x1p.length x1p.length] 27)).mono B6.out.size))) hnr)) ?_
      rintro e w7 ⟨Xr_1, Xr_2, Xr_3, Xr_5, rfl, oxr, b7⟩
      simp only [World.size_alloc] at oxr
      have Oxr := Lib.hid (show Mem.OwnR Mem.rule (w6.heap.size + 1) w7.heap.size w7 [.string z0r, .slice Xr_1 x1r.length x1r.length, .slice Xr_2 x2r.length x2r.length, .slice Xr_3 x3r.length x3r.length, .bool z4r, .slice Xr_5 x5r.length x5r.length, .string z6r] (z0r, x1r, x2r, x3r, (z4r, x5r, z6r)) from oxr)
      have hs7 : (w6.alloc (Obj.cells #[Value.slice Xp_0 x0p.length x0p.length, Value.slice Xp_1 x1p.length x1p.length] 27)).heap.size ≤ w7.heap.size := b7.size
      simp only [World.size_alloc] at hs7
      have d7 : Below w6.heap.size w6 w7 := ((Below.refl w6.heap.size w6).alloc (by first | (simp; done) | (simp; omega)) (Obj.cells #[Value.slice Xp_0 x0p.length x0p.length, Value.slice Xp_1 x1p.length x1p.length] 27)).trans (b7.mono (show w6.heap.size ≤ (w6.alloc (Obj.cells #[Value.slice Xp_0 x0p.length x0p.length, Value.slice Xp_1 x1p.length x1p.length] 27)).heap.size by first | exact Nat.le_refl _ | (simp; done) | (simp; omega)))
      have B7 := Lib.hid (B6.out.trans (d7.mono B6.out.size))
      have Vbp_7 := Lib.hid (Vbp_6.out.below d7)
      have Vbr_7 := Lib.hid (Vbr_6.out.below d7)
      have Oxp_7 := Lib.hid (Oxp.out.below d7)
      have Vxp_7 := Lib.hid ((Lvar.new w6 #[Value.slice Xp_0 x0p.length x0p.length, Value.slice Xp_1 x1p.length x1p.length] 27).below b7)
      clear Vbp_6 Vbr_6 Oxp c_Vbp_0 c_Vbp_1 lt_Vbp c_Vbr_0 c_Vbr_1 c_Vbr_2 c_Vbr_3 c_Vbr_4 c_Vbr_5 c_Vbr_6 lt_Vbr b7 d7
      have c_Vbp_0 := Vbp_7.out.cell 0 _ rfl
      have c_Vbp_1 := Vbp_7.out.cell 1 _ rfl
      have lt_Vbp := Vbp_7.out.lt
      have c_Vbr_0 := Vbr_7.out.cell 0 _ rfl
      have c_Vbr_1 := Vbr_7.out.cell 1 _ rfl
      have c_Vbr_2 := Vbr_7.out.cell 2 _ rfl
      have c_Vbr_3 := Vbr_7.out.cell 3 _ rfl
      have c_Vbr_4 := Vbr_7.out.cell 4 _ rfl
      have c_Vbr_5 := Vbr_7.out.cell 5 _ rfl
      have c_Vbr_6 := Vbr_7.out.cell 6 _ rfl
      have lt_Vbr := Vbr_7.out.lt
      have c_Vxp_0 := Vxp_7.out.cell 0 _ rfl
      have c_Vxp_1 := Vxp_7.out.cell 1 _ rfl
      have lt_Vxp := Vxp_7.out.lt
      go_wp2_with fail
      refine (Calls.mono (ProgI.ruleA (Oxp_7.out.below ((Below.refl w7.heap.size w7).alloc (by first | (simp; done) | (simp; omega)) (Obj.cells #[Value.string z0r, Value.slice Xr_1 x1r.length x1r.length, Value.slice Xr_2 x2r.length x2r.length, Value.slice Xr_3 x3r.length x3r.length, Value.bool z4r, Value.slice Xr_5 x5r.length x5r.length, Value.string z6r] 38))).arg (Oxr.out.below ((Below.refl w7.heap.size w7).alloc (by first | (simp; done) | (simp; omega)) (Obj.cells #[Value.string z0r, Value.slice Xr_1 x1r.length x1r.length, Value.slice Xr_2 x2r.length x2r.length, Value.slice Xr_3 x3r.length x3r.length, Value.bool z4r, Value.slice Xr_5 x5r.length x5r.length, Value.string z6r] 38))).arg (by omega) (by omega))) ?_
      rintro e w8 ⟨rfl, b8⟩
      have hs8 : (w7.alloc (Obj.cells #[Value.string z0r, Value.slice Xr_1 x1r.length x1r.length, Value.slice Xr_2 x2r.length x2r.length, Value.slice Xr_3 x3r.length x3r.length, Value.bool z4r, Value.slice Xr_5 x5r.length x5r.length, Value.string z6r] 38)).heap.size ≤ w8.heap.size := b8.size
      simp only [World.size_alloc] at hs8
      have d8 : Below w7.heap.size w7 w8 := ((Below.refl w7.heap.size w7).alloc (by first | (simp; done) | (simp; omega)) (Obj.cells #[Value.string z0r, Value.slice Xr_1 x1r.length x1r.length, Value.slice Xr_2 x2r.length x2r.length, Value.slice Xr_3 x3r.length x3r.length, Value.bool z4r, Value.slice Xr_5 x5r.length x5r.length, Value.string z6r] 38)).trans (b8.mono (show w7.heap.size ≤ (w7.alloc (Obj.cells #[Value.string z0r, Value.slice Xr_1 x1r.length x1r.length, Value.slice Xr_2 x2r.length x2r.length, Value.slice Xr_3 x3r.length x3r.length, Value.bool z4r, Value.slice Xr_5 x5r.length x5r.length, Value.string z6r] 38)).heap.size by first | exact Nat.le_refl _ | (simp; done) | (simp; omega)))
      have B8 := Lib.hid (B7.out.trans (d8.mono B7.out.size))
      have Vbp_8 := Lib.hid (Vbp_7.out.below d8)
      have Vbr_8 := Lib.hid (Vbr_7.out.below d8)
      have Oxp_8 := Lib.hid (Oxp_7.out.below d8)
      have Vxp_8 := Lib.hid (Vxp_7.out.below d8)
      have Oxr_8 := Lib.hid (Oxr.out.below d8)
      have Vxr_8 := Lib.hid ((Lvar.new w7 #[Value.string z0r, Value.slice Xr_1 x1r.length x1r.length, Value.slice Xr_2 x2r.length x2r.length, Value.slice Xr_3 x3r.length x3r.length, Value.bool z4r, Value.slice Xr_5 x5r.length x5r.length, Value.string z6r] 38).below b8)
      clear Vbp_7 Vbr_7 Oxp_7 Vxp_7 Oxr c_Vbp_0 c_Vbp_1 lt_Vbp c_Vbr_0 c_Vbr_1 c_Vbr_2 c_Vbr_3 c_Vbr_4 c_Vbr_5 c_Vbr_6 lt_Vbr c_Vxp_0 c_Vxp_1 lt_Vxp b8 d8
      have c_Vbp_0 := Vbp_8.out.cell 0 _ rfl
      have c_Vbp_1 := Vbp_8.out.cell 1 _ rfl
      have lt_Vbp := Vbp_8.out.lt
      have c_Vbr_0 := Vbr_8.out.cell 0 _ rfl
      have c_Vbr_1 := Vbr_8.out.cell 1 _ rfl
      have c_Vbr_2 := Vbr_8.out.cell 2 _ rfl
      have c_Vbr_3 := Vbr_8.out.cell 3 _ rfl
      have c_Vbr_4 := Vbr_8.out.cell 4 _ rfl
      have c_Vbr_5 := Vbr_8.out.cell 5 _ rfl
      have c_Vbr_6 := Vbr_8.out.cell 6 _ rfl
      have lt_Vbr := Vbr_8.out.lt
      have c_Vxp_0 := Vxp_8.out.cell 0 _ rfl
      have c_Vxp_1 := Vxp_8.out.cell 1 _ rfl
      have lt_Vxp := Vxp_8.out.lt
      have c_Vxr_0 := Vxr_8.out.cell 0 _ rfl
      have c_Vxr_1 := Vxr_8.out.cell 1 _ rfl
      have c_Vxr_2 := Vxr_8.out.cell 2 _ rfl
      have c_Vxr_3 := Vxr_8.out.cell 3 _ rfl
      have c_Vxr_4 := Vxr_8.out.cell 4 _ rfl
      have c_Vxr_5 := Vxr_8.out.cell 5 _ rfl
      have c_Vxr_6 := Vxr_8.out.cell 6 _ rfl
      have lt_Vxr := Vxr_8.out.lt
      go_wp2_with fail
      go_region_held3 (fun w' => w'.cell? ⟨w6.heap.size, 0, none⟩ = some (Value.slice Xp_0 x0p.length x0p.length) ∧ w'.cell? ⟨w6.heap.size, 1, none⟩ = some (Value.slice Xp_1 x1p.length x1p.length) ∧ w'.cell? ⟨w0.heap.size, 0, none⟩ = some (Value.slice A0p x0p.length c0p) ∧ w'.cell? ⟨w0.heap.size, 1, none⟩ = some (Value.slice A1p x1p.length c1p))
        (first | exact ⟨(((Vxp_8.out.below (Below.refl _ _).drew).below b9).below b10).cell 0 _ rfl, (((Vxp_8.out.below (Below.refl _ _).drew).below b9).below b10).cell 1 _ rfl, (((Vbp_8.out.below (Below.refl _ _).drew).below b9).below b10).cell 0 _ rfl, (((Vbp_8.out.below (Below.refl _ _).drew).below b9).below b10).cell 1 _ rfl⟩ | exact ⟨((Vxp_8.out.below (Below.refl _ _).drew).below b9).cell 0 _ rfl, ((Vxp_8.out.below (Below.refl _ _).drew).below b9).cell 1 _ rfl, ((Vbp_8.out.below (Below.refl _ _).drew).below b9).cell 0 _ rfl, ((Vbp_8.out.below (Below.refl _ _).drew).below b9).cell 1 _ rfl⟩ | go_keep)
        (first
          | (go_at_call 21; refine (Calls.mono (Mem.copyProgramA A0p c0p x0p A1p c1p x1p _ (hp.below B8.out.drew) hnp)) ?_; rintro e w9 ⟨C8_0, C8_1, rfl, oc8, b9⟩)
          | (go_at_call 23; refine (Calls.mono (Mem.eqProgramA Xp_0 x0p.length x0p Xp_1 x1p.length x1p C8_0 x0p.length C8_1 x1p.length _ ((Oxp_8.out.below (Below.refl _ _).drew).below b9).arg oc8.arg hnp)) ?_; rintro e w10 ⟨rfl, b10⟩))
      have h9 : w8.heap.size ≤ w9.heap.size := b9.size
      have h10 : w9.heap.size ≤ w10.heap.size := b10.size
      have d10 : Below w8.heap.size w8 w10 := (((Below.refl w8.heap.size w8).drew.trans (b9.mono (show w8.heap.size ≤ w8.heap.size by omega))).trans (b10.mono (show w8.heap.size ≤ w9.heap.size by omega)))
      have hs10 := d10.size
      have B10 := Lib.hid (B8.out.trans (d10.mono B8.out.size))
      have Vbp_10 := Lib.hid (Vbp_8.out.below d10)
      have Vbr_10 := Lib.hid (Vbr_8.out.below d10)
      have Oxp_10 := Lib.hid (Oxp_8.out.below d10)
      have Vxp_10 := Lib.hid (Vxp_8.out.below d10)
      have Oxr_10 := Lib.hid (Oxr_8.out.below d10)
      have Vxr_10 := Lib.hid (Vxr_8.out.below d10)
      clear Vbp_8 Vbr_8 Oxp_8 Vxp_8 Oxr_8 Vxr_8 c_Vbp_0 c_Vbp_1 lt_Vbp c_Vbr_0 c_Vbr_1 c_Vbr_2 c_Vbr_3 c_Vbr_4 c_Vbr_5 c_Vbr_6 lt_Vbr c_Vxp_0 c_Vxp_1 lt_Vxp c_Vxr_0 c_Vxr_1 c_Vxr_2 c_Vxr_3 c_Vxr_4 c_Vxr_5 c_Vxr_6 lt_Vxr b9 h9 b10 h10 d10
      clear oc8
      have c_Vbp_0 := Vbp_10.out.cell 0 _ rfl
      have c_Vbp_1 := Vbp_10.out.cell 1 _ rfl
      have lt_Vbp := Vbp_10.out.lt
      have c_Vbr_0 := Vbr_10.out.cell 0 _ rfl
      have c_Vbr_1 := Vbr_10.out.cell 1 _ rfl
      have c_Vbr_2 := Vbr_10.out.cell 2 _ rfl
      have c_Vbr_3 := Vbr_10.out.cell 3 _ rfl
      have c_Vbr_4 := Vbr_10.out.cell 4 _ rfl
      have c_Vbr_5 := Vbr_10.out.cell 5 _ rfl
      have c_Vbr_6 := Vbr_10.out.cell 6 _ rfl
      have lt_Vbr := Vbr_10.out.lt
      have c_Vxp_0 := Vxp_10.out.cell 0 _ rfl
      have c_Vxp_1 := Vxp_10.out.cell 1 _ rfl
      have lt_Vxp := Vxp_10.out.lt
      have c_Vxr_0 := Vxr_10.out.cell 0 _ rfl
      have c_Vxr_1 := Vxr_10.out.cell 1 _ rfl
      have c_Vxr_2 := Vxr_10.out.cell 2 _ rfl
      have c_Vxr_3 := Vxr_10.out.cell 3 _ rfl
      have c_Vxr_4 := Vxr_10.out.cell 4 _ rfl
      have c_Vxr_5 := Vxr_10.out.cell 5 _ rfl
      have c_Vxr_6 := Vxr_10.out.cell 6 _ rfl
      have lt_Vxr := Vxr_10.out.lt
      go_wp2_with fail
      go_region_held3 (fun w' => w'.cell? ⟨w7.heap.size, 0, none⟩ = some (Value.string z0r) ∧ w'.cell? ⟨w7.heap.size, 1, none⟩ = some (Value.slice Xr_1 x1r.length x1r.length) ∧ w'.cell? ⟨w7.heap.size, 2, none⟩ = some (Value.slice Xr_2 x2r.length x2r.length) ∧ w'.cell? ⟨w7.heap.size, 3, none⟩ = some (Value.slice Xr_3 x3r.length x3r.length) ∧ w'.cell? ⟨w7.heap.size, 4, none⟩ = some (Value.bool z4r) ∧ w'.cell? ⟨w7.heap.size, 5, none⟩ = some (Value.slice Xr_5 x5r.length x5r.length) ∧ w'.cell? ⟨w7.heap.size, 6, none⟩ = some (Value.string z6r) ∧ w'.cell? ⟨w0.heap.size + 1, 0, none⟩ = some (Value.string z0r) ∧ w'.cell? ⟨w0.heap.size + 1, 1, none⟩ = some (Value.slice A1r x1r.length c1r) ∧ w'.cell? ⟨w0.heap.size + 1, 2, none⟩ = some (Value.slice A2r x2r.length c2r) ∧ w'.cell? ⟨w0.heap.size + 1, 3, none⟩ = some (Value.slice A3r x3r.length c3r) ∧ w'.cell? ⟨w0.heap.size + 1, 4, none⟩ = some (Value.bool z4r) ∧ w'.cell? ⟨w0.heap.size + 1, 5, none⟩ = some (Value.slice A5r x5r.length c5r) ∧ w'.cell? ⟨w0.heap.size + 1, 6, none⟩ = some (Value.string z6r))
        (first | exact ⟨(((Vxr_10.out.below (Below.refl _ _).drew).below b11).below b12).cell 0 _ rfl, (((Vxr_10.out.below (Below.refl _ _).drew).below b11).below b12).cell 1 _ rfl, (((Vxr_10.out.below (Below.refl _ _).drew).below b11).below b12).cell 2 _ rfl, (((Vxr_10.out.below (Below.refl _ _).drew).below b11).below b12).cell 3 _ rfl, (((Vxr_10.out.below (Below.refl _ _).drew).below b11).below b12).cell 4 _ rfl, (((Vxr_10.out.below (Below.refl _ _).drew).below b11).below b12).cell 5 _ rfl, (((Vxr_10.out.below (Below.refl _ _).drew).below b11).below b12).cell 6 _ rfl, (((Vbr_10.out.below (Below.refl _ _).drew).below b11).below b12).cell 0 _ rfl, (((Vbr_10.out.below (Below.refl _ _).drew).below b11).below b12).cell 1 _ rfl, (((Vbr_10.out.below (Below.refl _ _).drew).below b11).below b12).cell 2 _ rfl, (((Vbr_10.out.below (Below.refl _ _).drew).below b11).below b12).cell 3 _ rfl, (((Vbr_10.out.below (Below.refl _ _).drew).below b11).below b12).cell 4 _ rfl, (((Vbr_10.out.below (Below.refl _ _).drew).below b11).below b12).cell 5 _ rfl, (((Vbr_10.out.below (Below.refl _ _).drew).below b11).below b12).cell 6 _ rfl⟩ | exact ⟨((Vxr_10.out.below (Below.refl _ _).drew).below b11).cell 0 _ rfl, ((Vxr_10.out.below (Below.refl _ _).drew).below b11).cell 1 _ rfl, ((Vxr_10.out.below (Below.refl _ _).drew).below b11).cell 2 _ rfl, ((Vxr_10.out.below (Below.refl _ _).drew).below b11).cell 3 _ rfl, ((Vxr_10.out.below (Below.refl _ _).drew).below b11).cell 4 _ rfl, ((Vxr_10.out.below (Below.refl _ _).drew).below b11).cell 5 _ rfl, ((Vxr_10.out.below (Below.refl _ _).drew).below b11).cell 6 _ rfl, ((Vbr_10.out.below (Below.refl _ _).drew).below b11).cell 0 _ rfl, ((Vbr_10.out.below (Below.refl _ _).drew).below b11).cell 1 _ rfl, ((Vbr_10.out.below (Below.refl _ _).drew).below b11).cell 2 _ rfl, ((Vbr_10.out.below (Below.refl _ _).drew).below b11).cell 3 _ rfl, ((Vbr_10.out.below (Below.refl _ _).drew).below b11).cell 4 _ rfl, ((Vbr_10.out.below (Below.refl _ _).drew).below b11).cell 5 _ rfl, ((Vbr_10.out.below (Below.refl _ _).drew).below b11).cell 6 _ rfl⟩ | go_keep)
        (first
          | (go_at_call 22; refine (Calls.mono (Mem.copyRuleA z0r A1r c1r x1r A2r c2r x2r A3r c3r x3r z4r A5r c5r x5r z6r _ (hr.below B10.out.drew) hnr)) ?_; rintro e w11 ⟨C10_1, C10_2, C10_3, C10_5, rfl, oc10, b11⟩)
          | (go_at_call 24; refine (Calls.mono (Mem.eqRuleA z0r Xr_1 x1r.length x1r Xr_2 x2r.length x2r Xr_3 x3r.length x3r z4r Xr_5 x5r.length x5r z6r C10_1 x1r.length C10_2 x2r.length C10_3 x3r.length C10_5 x5r.length _ ((Oxr_10.out.below (Below.refl _ _).drew).below b11).arg oc10.arg hnr)) ?_; rintro e w12 ⟨rfl, b12⟩))
      have h11 : w10.heap.size ≤ w11.heap.size := b11.size
      have h12 : w11.heap.size ≤ w12.heap.size := b12.size
      have d12 : Below w10.heap.size w10 w12 := (((Below.refl w10.heap.size w10).drew.trans (b11.mono (show w10.heap.size ≤ w10.heap.size by omega))).trans (b12.mono (show w10.heap.size ≤ w11.heap.size by omega)))
      have hs12 := d12.size
      have B12 := Lib.hid (B10.out.trans (d12.mono B10.out.size))
      have Vbp_12 := Lib.hid (Vbp_10.out.below d12)
      have Vbr_12 := Lib.hid (Vbr_10.out.below d12)
      have Oxp_12 := Lib.hid (Oxp_10.out.below d12)
      have Vxp_12 := Lib.hid (Vxp_10.out.below d12)
      have Oxr_12 := Lib.hid (Oxr_10.out.below d12)
      have Vxr_12 := Lib.hid (Vxr_10.out.below d12)
      clear Vbp_10 Vbr_10 Oxp_10 Vxp_10 Oxr_10 Vxr_10 c_Vbp_0 c_Vbp_1 lt_Vbp c_Vbr_0 c_Vbr_1 c_Vbr_2 c_Vbr_3 c_Vbr_4 c_Vbr_5 c_Vbr_6 lt_Vbr c_Vxp_0 c_Vxp_1 lt_Vxp c_Vxr_0 c_Vxr_1 c_Vxr_2 c_Vxr_3 c_Vxr_4 c_Vxr_5 c_Vxr_6 lt_Vxr b11 h11 b12 h12 d12
      clear oc10
      have c_Vbp_0 := Vbp_12.out.cell 0 _ rfl
      have c_Vbp_1 := Vbp_12.out.cell 1 _ rfl
      have lt_Vbp := Vbp_12.out.lt
      have c_Vbr_0 := Vbr_12.out.cell 0 _ rfl
      have c_Vbr_1 := Vbr_12.out.cell 1 _ rfl
      have c_Vbr_2 := Vbr_12.out.cell 2 _ rfl
      have c_Vbr_3 := Vbr_12.out.cell 3 _ rfl
      have c_Vbr_4 := Vbr_12.out.cell 4 _ rfl
      have c_Vbr_5 := Vbr_12.out.cell 5 _ rfl
      have c_Vbr_6 := Vbr_12.out.cell 6 _ rfl
      have lt_Vbr := Vbr_12.out.lt
      have c_Vxp_0 := Vxp_12.out.cell 0 _ rfl
      have c_Vxp_1 := Vxp_12.out.cell 1 _ rfl
      have lt_Vxp := Vxp_12.out.lt
      have c_Vxr_0 := Vxr_12.out.cell 0 _ rfl
      have c_Vxr_1 := Vxr_12.out.cell 1 _ rfl
      have c_Vxr_2 := Vxr_12.out.cell 2 _ rfl
      have c_Vxr_3 := Vxr_12.out.cell 3 _ rfl
      have c_Vxr_4 := Vxr_12.out.cell 4 _ rfl
      have c_Vxr_5 := Vxr_12.out.cell 5 _ rfl
      have c_Vxr_6 := Vxr_12.out.cell 6 _ rfl
      have lt_Vxr := Vxr_12.out.lt
      go_wp2
      go_ret
      exact ⟨rfl, B12.out⟩
    · simp only [if_neg htr] at SZ
      have HS1 := Lib.hid SZ
      clear SZ hwfr
      have B0 := Lib.hid (Below.refl w0.heap.size w0)
      go_enter Tryz.func4, Tryz.ntmps4
      go_wp2_with fail
      refine (Calls.mono (HS0.out _ (hp.below (B0.out.trans ((((Below.refl w0.heap.size w0).alloc (by first | (simp; done) | (simp; omega)) (Obj.cells #[Value.slice A0p x0p.length c0p, Value.slice A1p x1p.length c1p] 54)).alloc (by first | (simp; done) | (simp; omega)) (Obj.cells #[Value.string z0r, Value.slice A1r x1r.length c1r, Value.slice A2r x2r.length c2r, Value.slice A3r x3r.length c3r, Value.bool z4r, Value.slice A5r x5r.length c5r, Value.string z6r] 61)).mono B0.out.size))))) ?_
      rintro e w1 ⟨rfl, b1⟩
      have hs1 : ((w0.alloc (Obj.cells #[Value.slice A0p x0p.length c0p, Value.slice A1p x1p.length c1p] 54)).alloc (Obj.cells #[Value.string z0r, Value.slice A1r x1r.length c1r, Value.slice A2r x2r.length c2r, Value.slice A3r x3r.length c3r, Value.bool z4r, Value.slice A5r x5r.length c5r, Value.string z6r] 61)).heap.size ≤ w1.heap.size := b1.size
      simp only [World.size_alloc] at hs1
      have d1 : Below w0.heap.size w0 w1 := (((Below.refl w0.heap.size w0).alloc (by first | (simp; done) | (simp; omega)) (Obj.cells #[Value.slice A0p x0p.length c0p, Value.slice A1p x1p.length c1p] 54)).alloc (by first | (simp; done) | (simp; omega)) (Obj.cells #[Value.string z0r, Value.slice A1r x1r.length c1r, Value.slice A2r x2r.length c2r, Value.slice A3r x3r.length c3r, Value.bool z4r, Value.slice A5r x5r.length c5r, Value.string z6r] 61)).trans (b1.mono (show w0.heap.size ≤ ((w0.alloc (Obj.cells #[Value.slice A0p x0p.length c0p, Value.slice A1p x1p.length c1p] 54)).alloc (Obj.cells #[Value.string z0r, Value.slice A1r x1r.length c1r, Value.slice A2r x2r.length c2r, Value.slice A3r x3r.length c3r, Value.bool z4r, Value.slice A5r x5r.length c5r, Value.string z6r] 61)).heap.size by first | exact Nat.le_refl _ | (simp; done) | (simp; omega)))
      have B1 := Lib.hid (B0.out.trans (d1.mono B0.out.size))
      have Vbp_1 := Lib.hid (((Lvar.new w0 #[Value.slice A0p x0p.length c0p, Value.slice A1p x1p.length c1p] 54).alloc (Obj.cells #[Value.string z0r, Value.slice A1r x1r.length c1r, Value.slice A2r x2r.length c2r, Value.slice A3r x3r.length c3r, Value.bool z4r, Value.slice A5r x5r.length c5r, Value.string z6r] 61)).below b1)
      have Vbr_1 := Lib.hid ((Lvar.new (w0.alloc (Obj.cells #[Value.slice A0p x0p.length c0p, Value.slice A1p x1p.length c1p] 54)) #[Value.string z0r, Value.slice A1r x1r.length c1r, Value.slice A2r x2r.length c2r, Value.slice A3r x3r.length c3r, Value.bool z4r, Value.slice A5r x5r.length c5r, Value.string z6r] 61).below b1)
      simp only [World.size_alloc] at Vbr_1
      clear b1 d1
      have c_Vbp_0 := Vbp_1.out.cell 0 _ rfl
      have c_Vbp_1 := Vbp_1.out.cell 1 _ rfl
      have lt_Vbp := Vbp_1.out.lt
      have c_Vbr_0 := Vbr_1.out.cell 0 _ rfl
      have c_Vbr_1 := Vbr_1.out.cell 1 _ rfl
      have c_Vbr_2 := Vbr_1.out.cell 2 _ rfl
      have c_Vbr_3 := Vbr_1.out.cell 3 _ rfl
      have c_Vbr_4 := Vbr_1.out.cell 4 _ rfl
      have c_Vbr_5 := Vbr_1.out.cell 5 _ rfl
      have c_Vbr_6 := Vbr_1.out.cell 6 _ rfl
      have lt_Vbr := Vbr_1.out.lt
      go_wp2_with fail
      refine (Calls.mono (HS1.out _ (hr.below B1.out))) ?_
      rintro e w2 ⟨rfl, b2⟩
      have hs2 : w1.heap.size ≤ w2.heap.size := b2.size
      have d2 : Below w1.heap.size w1 w2 := (Below.refl w1.heap.size w1).trans (b2.mono (show w1.heap.size ≤ w1.heap.size by first | exact Nat.le_refl _ | (simp; done) | (simp; omega)))
      have B2 := Lib.hid (B1.out.trans (d2.mono B1.out.size))
      have Vbp_2 := Lib.hid (Vbp_1.out.below d2)
      have Vbr_2 := Lib.hid (Vbr_1.out.below d2)
      clear Vbp_1 Vbr_1 c_Vbp_0 c_Vbp_1 lt_Vbp c_Vbr_0 c_Vbr_1 c_Vbr_2 c_Vbr_3 c_Vbr_4 c_Vbr_5 c_Vbr_6 lt_Vbr b2 d2
      have c_Vbp_0 := Vbp_2.out.cell 0 _ rfl
      have c_Vbp_1 := Vbp_2.out.cell 1 _ rfl
      have lt_Vbp := Vbp_2.out.lt
      have c_Vbr_0 := Vbr_2.out.cell 0 _ rfl
      have c_Vbr_1 := Vbr_2.out.cell 1 _ rfl
      have c_Vbr_2 := Vbr_2.out.cell 2 _ rfl
      have c_Vbr_3 := Vbr_2.out.cell 3 _ rfl
      have c_Vbr_4 := Vbr_2.out.cell 4 _ rfl
      have c_Vbr_5 := Vbr_2.out.cell 5 _ rfl
      have c_Vbr_6 := Vbr_2.out.cell 6 _ rfl
      have lt_Vbr := Vbr_2.out.lt
      go_wp2
      go_ret
      exact ⟨rfl, B2.out⟩
  · simp only [if_neg htp] at SZ
    have HS0 := Lib.hid SZ
    clear SZ hwfp
    have B0 := Lib.hid (Below.refl w0.heap.size w0)
    go_enter Tryz.func4, Tryz.ntmps4
    go_wp2_with fail
    refine (Calls.mono (HS0.out _ (hp.below (B0.out.trans ((((Below.refl w0.heap.size w0).alloc (by first | (simp; done) | (simp; omega)) (Obj.cells #[Value.slice A0p x0p.length c0p, Value.slice A1p x1p.length c1p] 54)).alloc (by first | (simp; done) | (simp; omega)) (Obj.cells #[Value.string z0r, Value.slice A1r x1r.length c1r, Value.slice A2r x2r.length c2r, Value.slice A3r x3r.length c3r, Value.bool z4r, Value.slice A5r x5r.length c5r, Value.string z6r] 61)).mono B0.out.size))))) ?_
    rintro e w1 ⟨rfl, b1⟩
    have hs1 : ((w0.alloc (Obj.cells #[Value.slice A0p x0p.length c0p, Value.slice A1p x1p.length c1p] 54)).alloc (Obj.cells #[Value.string z0r, Value.slice A1r x1r.length c1r, Value.slice A2r x2r.length c2r, Value.slice A3r x3r.length c3r, Value.bool z4r, Value.slice A5r x5r.length c5r, Value.string z6r] 61)).heap.size ≤ w1.heap.size := b1.size
    simp only [World.size_alloc] at hs1
    have d1 : Below w0.heap.size w0 w1 := (((Below.refl w0.heap.size w0).alloc (by first | (simp; done) | (simp; omega)) (Obj.cells #[Value.slice A0p x0p.length c0p, Value.slice A1p x1p.length c1p] 54)).alloc (by first | (simp; done) | (simp; omega)) (Obj.cells #[Value.string z0r, Value.slice A1r x1r.length c1r, Value.slice A2r x2r.length c2r, Value.slice A3r x3r.length c3r, Value.bool z4r, Value.slice A5r x5r.length c5r, Value.string z6r] 61)).trans (b1.mono (show w0.heap.size ≤ ((w0.alloc (Obj.cells #[Value.slice A0p x0p.length c0p, Value.slice A1p x1p.length c1p] 54)).alloc (Obj.cells #[Value.string z0r, Value.slice A1r x1r.length c1r, Value.slice A2r x2r.length c2r, Value.slice A3r x3r.length c3r, Value.bool z4r, Value.slice A5r x5r.length c5r, Value.string z6r] 61)).heap.size by first | exact Nat.le_refl _ | (simp; done) | (simp; omega)))
    have B1 := Lib.hid (B0.out.trans (d1.mono B0.out.size))
    have Vbp_1 := Lib.hid (((Lvar.new w0 #[Value.slice A0p x0p.length c0p, Value.slice A1p x1p.length c1p] 54).alloc (Obj.cells #[Value.string z0r, Value.slice A1r x1r.length c1r, Value.slice A2r x2r.length c2r, Value.slice A3r x3r.length c3r, Value.bool z4r, Value.slice A5r x5r.length c5r, Value.string z6r] 61)).below b1)
    have Vbr_1 := Lib.hid ((Lvar.new (w0.alloc (Obj.cells #[Value.slice A0p x0p.length c0p, Value.slice A1p x1p.length c1p] 54)) #[Value.string z0r, Value.slice A1r x1r.length c1r, Value.slice A2r x2r.length c2r, Value.slice A3r x3r.length c3r, Value.bool z4r, Value.slice A5r x5r.length c5r, Value.string z6r] 61).below b1)
    simp only [World.size_alloc] at Vbr_1
    clear b1 d1
    have c_Vbp_0 := Vbp_1.out.cell 0 _ rfl
    have c_Vbp_1 := Vbp_1.out.cell 1 _ rfl
    have lt_Vbp := Vbp_1.out.lt
    have c_Vbr_0 := Vbr_1.out.cell 0 _ rfl
    have c_Vbr_1 := Vbr_1.out.cell 1 _ rfl
    have c_Vbr_2 := Vbr_1.out.cell 2 _ rfl
    have c_Vbr_3 := Vbr_1.out.cell 3 _ rfl
    have c_Vbr_4 := Vbr_1.out.cell 4 _ rfl
    have c_Vbr_5 := Vbr_1.out.cell 5 _ rfl
    have c_Vbr_6 := Vbr_1.out.cell 6 _ rfl
    have lt_Vbr := Vbr_1.out.lt
    go_wp2
    go_ret
    exact ⟨rfl, B1.out⟩

set_option maxRecDepth 100000 in
theorem lifted (os : Os) (started : os.Started) (H : Type) (enc : TypeId × Value → H) :
    ReturnsInHanded {} Tryz.checked os 4 .any (Rows.fnExactIsValidRuleSpec.pre6 enc Tryz.prog Tryz.f4 Rows.fnExactIsValidRuleRow.domain false) (Rows.fnExactIsValidRuleSpec.post enc Tryz.prog Tryz.f4 false true false false) := by
  refine returnsInHanded_of_change (C := Tryz.checked) Frame.own started (by kernel_rfl) Tryz.func4
    (ChangeSpec.witness6 (enc := enc) (C := Tryz.checked) false ⟨#[], #[.agg #[.slice none 0 0, .slice none 0 0], .agg #[.string .empty, .slice none 0 0, .slice none 0 0, .slice none 0 0, .bool false, .slice none 0 0, .string .empty]], []⟩ 8 (by kernel_rfl) (by kernel_rfl) (by kernel_rfl) (by kernel_rfl)) ?_
  intro W base args ds gs before hval0 hW _ _
  have hW' := hW
  have hval : ∀ (j : Nat) t v, Tryz.f4.params[j]? = some t → args[j]? = some v → Value.okWide Tryz.prog W .any base t v := hval0
  obtain ⟨p, q, hA0, hV, rfl, hfz, hnd⟩ := hW
  have hA : DataW.TrodAll enc Tryz.prog W 0 (fun _ => true) true Tryz.f4.params.toList args.toList ds p := hA0
  rw [Tryz.params4] at hA hval
  obtain ⟨v0, v1, d0, d1, p0, p1, rfl, rfl, rfl, h0, h1⟩ := trodAll_two hA
  have hlt := fun x hx => hW'.lt x hx
  obtain ⟨rfl, rfl⟩ := trodVars_none hV
  obtain ⟨A0p, c0p, x0p, A1p, c1p, x1p, rfl, hrp, hwp⟩ := Frame.openU_Program (W := W) (hval 0 54 v0 rfl rfl) h0 (fun x hx => hlt x (by simp [hx]))
  obtain ⟨z0r, A1r, c1r, x1r, A2r, c2r, x2r, A3r, c3r, x3r, z4r, A5r, c5r, x5r, z6r, rfl, hrr, hwr⟩ := Frame.openU_Rule (W := W) (hval 1 61 v1 rfl rfl) h1 (fun x hx => hlt x (by simp [hx]))
  refine (walk A0p c0p x0p A1p c1p x1p z0r A1r c1r x1r A2r c2r x2r A3r c3r x3r z4r A5r c5r x5r z6r W hrp hwp hrr hwr).mono fun e W' ⟨he, hb⟩ => ?_
  subst he
  exact ⟨_, rfl, Frame.law_post (tb := 4) Frame.laidOut (by kernel_rfl) (by kernel_rfl) (by kernel_rfl) Tryz.underlying4 hW' rfl hb⟩

theorem proved : Rows.FnExactIsValidRuleSaid :=
  OpenClaim.holds_of_wide 4 Tryz.f4 rfl rfl rfl rfl rfl rfl rfl ⟨rfl, rfl, rfl, rfl, rfl⟩ rfl rfl rfl rfl rfl (by kernel_rfl) Tryz.func4 (by kernel_rfl)
    (of_decide_eq_true (by kernel_rfl)) (by unfold Func.isWrapper; first | (rw [if_pos (by decide +kernel)]; kernel_rfl) | (rw [if_neg (by decide +kernel)]; exact ⟨rfl, rfl⟩))
    (fun os started H enc _ => lifted os started H enc)
end LawIsValidRule
end Go.Proofs.YtbdpohcababccaaGreat
