import Derived.Test.YtgpjgjjadhmkhaaGreatRows
import Derived.Test.YtgpjgjjadhmkhaaGreatFrame
import Derived.Test.YtgpjgjjadhmkhaaGreatFProgram
import Derived.Test.YtgpjgjjadhmkhaaGreatFSValue
import Derived.Test.YtgpjgjjadhmkhaaGreatRunMeetS
import Derived.Deep.RegionHeld3
import Derived.SliceStrings
/- At every argument, impl.MeetsPre answers as its model and writes nothing into its arguments: the law FnExactMeetsPre returns true. There is no condition. -/
namespace Go.Proofs.YtgpjgjjadhmkhaaGreat
open Go.ChangeShapes Go.WideShapes Go.ChangeAt Go.RowKit
open Go.ChangeMaps (open_string shut_string)
namespace LawMeetsPre
open RowK Mem
set_option maxHeartbeats 4000000 in
set_option maxRecDepth 100000 in
theorem walk (A0p : Option Addr) (c0p : Nat) (x0p : List Mem.FunctionT) (A1p : Option Addr) (c1p : Nat) (x1p : List Mem.RuleT) (n : ByteArray) (Av : Option Addr) (cv : Nat) (xv : List Mem.ValueT) (w0 : World) (hp : Mem.ArgR Mem.prg w0 [.slice A0p x0p.length c0p, .slice A1p x1p.length c1p] (x0p, x1p)) (hwfp : Mem.WfProgramU (x0p, x1p)) (hszn : n.size ≤ 9223372036854775807) (hv : Mem.ArgS Mem.valu w0 Av xv.length cv xv) (hlenv : xv.length ≤ 9223372036854775807) (hwfv : ∀ e ∈ xv, Mem.WfValueU e) :
    Calls Tryz.prog 6 #[.agg #[.slice A0p x0p.length c0p, .slice A1p x1p.length c1p], .string n, .slice Av xv.length cv] w0 fun e w' => e = .returned (.bool true) ∧ Below w0.heap.size w0 w' := by
  by_cases htn : n.size ≤ 1048576
  · have hnn : n.size ≤ 100000000 := by omega
    have SZ := fun W (h : Mem.ArgR Mem.prg W [.slice A0p x0p.length c0p, .slice A1p x1p.length c1p] (x0p, x1p)) => Mem.sizeProgramA A0p c0p x0p A1p c1p x1p 1048576 W h (by omega) hwfp
    unfold IntK.leftOf at SZ
    by_cases htp : Mem.szProgramU (x0p, x1p) ≤ 1048576
    · simp only [if_pos htp] at SZ
      have HS0 := Lib.hid SZ
      have hnp : Mem.szProgramU (x0p, x1p) ≤ 100000000 := by omega
      clear SZ
      obtain ⟨t0, hte0⟩ : ∃ t : Nat, t = 1048576 - Mem.szProgramU (x0p, x1p) := ⟨_, rfl⟩
      have htc0 : ((1048576 : Nat) : Int) - ((Mem.szProgramU (x0p, x1p) : Nat) : Int) = (t0 : Int) := by omega
      have htl0 : t0 ≤ 1048576 := by omega
      rw [htc0] at HS0
      clear hte0 htc0
      have SZ := fun W (h : Mem.ArgS Mem.valu W Av xv.length cv xv) => Mem.sizeValueSA Av cv t0 xv W h (by omega) hlenv hwfv
      unfold IntK.leftOf at SZ
      by_cases htv : (xv.length + Mem.szs Mem.szValueU xv) ≤ t0
      · simp only [if_pos htv] at SZ
        have HS1 := Lib.hid SZ
        have hnv : (xv.length + Mem.szs Mem.szValueU xv) ≤ 100000000 := by omega
        clear SZ
        clear hwfp
        clear hwfv hlenv
        have B0 := Lib.hid (Below.refl w0.heap.size w0)
        go_enter Tryz.func6, Tryz.ntmps6
        go_wp2_with fail
        refine (Calls.mono (HS0.out _ (hp.below (B0.out.trans (((Below.refl w0.heap.size w0).alloc (by first | (simp; done) | (simp; omega)) (Obj.cells #[Value.slice A0p x0p.length c0p, Value.slice A1p x1p.length c1p] 54)).mono B0.out.size))))) ?_
        rintro e w1 ⟨rfl, b1⟩
        have hs1 : (w0.alloc (Obj.cells #[Value.slice A0p x0p.length c0p, Value.slice A1p x1p.length c1p] 54)).heap.size ≤ w1.heap.size := b1.size
        simp only [World.size_alloc] at hs1
        have d1 : Below w0.heap.size w0 w1 := ((Below.refl w0.heap.size w0).alloc (by first | (simp; done) | (simp; omega)) (Obj.cells #[Value.slice A0p x0p.length c0p, Value.slice A1p x1p.length c1p] 54)).trans (b1.mono (show w0.heap.size ≤ (w0.alloc (Obj.cells #[Value.slice A0p x0p.length c0p, Value.slice A1p x1p.length c1p] 54)).heap.size by first | exact Nat.le_refl _ | (simp; done) | (simp; omega)))
        have B1 := Lib.hid (B0.out.trans (d1.mono B0.out.size))
        have Vbp_1 := Lib.hid ((Lvar.new w0 #[Value.slice A0p x0p.length c0p, Value.slice A1p x1p.length c1p] 54).below b1)
        clear b1 d1
        have c_Vbp_0 := Vbp_1.out.cell 0 _ rfl
        have c_Vbp_1 := Vbp_1.out.cell 1 _ rfl
        have lt_Vbp := Vbp_1.out.lt
        go_wp2_with fail
        refine (Calls.mono (HS1.out _ (hv.below B1.out))) ?_
        rintro e w2 ⟨rfl, b2⟩
        have hs2 : w1.heap.size ≤ w2.heap.size := b2.size
        have d2 : Below w1.heap.size w1 w2 := (Below.refl w1.heap.size w1).trans (b2.mono (show w1.heap.size ≤ w1.heap.size by first | exact Nat.le_refl _ | (simp; done) | (simp; omega)))
        have B2 := Lib.hid (B1.out.trans (d2.mono B1.out.size))
        have Vbp_2 := Lib.hid (Vbp_1.out.below d2)
        clear Vbp_1 c_Vbp_0 c_Vbp_1 lt_Vbp b2 d2
        have c_Vbp_0 := Vbp_2.out.cell 0 _ rfl
        have c_Vbp_1 := Vbp_2.out.cell 1 _ rfl
        have lt_Vbp := Vbp_2.out.lt
        go_wp2_with fail
        refine (Calls.mono (Mem.copyProgramA A0p c0p x0p A1p c1p x1p _ (hp.below B2.out) hnp)) ?_
        rintro e w3 ⟨Tp_0, Tp_1, rfl, otp, b3⟩
        have Otp := Lib.hid (show Mem.OwnR Mem.prg (w2.heap.size) w3.heap.size w3 [.slice Tp_0 x0p.length x0p.length, .slice Tp_1 x1p.length x1p.length] (x0p, x1p) from otp)
        have hs3 : w2.heap.size ≤ w3.heap.size := b3.size
        have d3 : Below w2.heap.size w2 w3 := (Below.refl w2.heap.size w2).trans (b3.mono (show w2.heap.size ≤ w2.heap.size by first | exact Nat.le_refl _ | (simp; done) | (simp; omega)))
        have B3 := Lib.hid (B2.out.trans (d3.mono B2.out.size))
        have Vbp_3 := Lib.hid (Vbp_2.out.below d3)
        clear Vbp_2 c_Vbp_0 c_Vbp_1 lt_Vbp b3 d3
        have c_Vbp_0 := Vbp_3.out.cell 0 _ rfl
        have c_Vbp_1 := Vbp_3.out.cell 1 _ rfl
        have lt_Vbp := Vbp_3.out.lt
        go_wp2_with fail
        refine (Calls.mono (Mem.copyValueSA Av cv xv _ (hv.below B3.out) hnv)) ?_
        rintro e w4 ⟨Tv, rfl, otv, b4⟩
        have Otv := Lib.hid (show Mem.OwnS Mem.valu (w3.heap.size) w4.heap.size w4 Tv xv.length xv.length xv from otv)
        have hs4 : w3.heap.size ≤ w4.heap.size := b4.size
        have d4 : Below w3.heap.size w3 w4 := (Below.refl w3.heap.size w3).trans (b4.mono (show w3.heap.size ≤ w3.heap.size by first | exact Nat.le_refl _ | (simp; done) | (simp; omega)))
        have B4 := Lib.hid (B3.out.trans (d4.mono B3.out.size))
        have Vbp_4 := Lib.hid (Vbp_3.out.below d4)
        have Otp_4 := Lib.hid (Otp.out.below d4)
        clear Vbp_3 Otp c_Vbp_0 c_Vbp_1 lt_Vbp b4 d4
        have c_Vbp_0 := Vbp_4.out.cell 0 _ rfl
        have c_Vbp_1 := Vbp_4.out.cell 1 _ rfl
        have lt_Vbp := Vbp_4.out.lt
        go_wp2_with fail
        refine (Calls.mono (RunS.meets _ _ _ _ _ _ n _ _ _ _ Otp_4.out.arg (by omega) Otv.out.arg (by omega))) ?_
        rintro e w5 ⟨rfl, b5⟩
        have hs5 : w4.heap.size ≤ w5.heap.size := b5.size
        have d5 : Below w4.heap.size w4 w5 := (Below.refl w4.heap.size w4).trans (b5.mono (show w4.heap.size ≤ w4.heap.size by first | exact Nat.le_refl _ | (simp; done) | (simp; omega)))
        have B5 := Lib.hid (B4.out.trans (d5.mono B4.out.size))
        have Vbp_5 := Lib.hid (Vbp_4.out.below d5)
        have Otp_5 := Lib.hid (Otp_4.out.below d5)
        have Otv_5 := Lib.hid (Otv.out.below d5)
        clear Vbp_4 Otp_4 Otv c_Vbp_0 c_Vbp_1 lt_Vbp b5 d5
        clear Otp_5
        clear Otv_5
        have c_Vbp_0 := Vbp_5.out.cell 0 _ rfl
        have c_Vbp_1 := Vbp_5.out.cell 1 _ rfl
        have lt_Vbp := Vbp_5.out.lt
        go_wp2_with fail
        refine (Calls.mono (Mem.copyProgramA A0p c0p x0p A1p c1p x1p _ (hp.below B5.out) hnp)) ?_
        rintro e w6 ⟨Xp_0, Xp_1, rfl, oxp, b6⟩
        have Oxp := Lib.hid (show Mem.OwnR Mem.prg (w5.heap.size) w6.heap.size w6 [.slice Xp_0 x0p.length x0p.length, .slice Xp_1 x1p.length x1p.length] (x0p, x1p) from oxp)
        have hs6 : w5.heap.size ≤ w6.heap.size := b6.size
        have d6 : Below w5.heap.size w5 w6 := (Below.refl w5.heap.size w5).trans (b6.mono (show w5.heap.size ≤ w5.heap.size by first | exact Nat.le_refl _ | (simp; done) | (simp; omega)))
        have B6 := Lib.hid (B5.out.trans (d6.mono B5.out.size))
        have Vbp_6 := Lib.hid (Vbp_5.out.below d6)
        clear Vbp_5 c_Vbp_0 c_Vbp_1 lt_Vbp b6 d6
        have c_Vbp_0 := Vbp_6.out.cell 0 _ rfl
        have c_Vbp_1 := Vbp_6.out.cell 1 _ rfl
        have lt_Vbp := Vbp_6.out.lt
        go_wp2_with fail
        refine (Calls.mono (Mem.copyValueSA Av cv xv _ (hv.below (B6.out.trans (((Below.refl w6.heap.size w6).alloc (by first | (simp; done) | (simp; omega)) (Obj.cells #[Value.slice Xp_0 x0p.length x0p.length, Value.slice Xp_1 x1p.length x1p.length] 27)).mono B6.out.size))) hnv)) ?_
        rintro e w7 ⟨Xv, rfl, oxv, b7⟩
        simp only [World.size_alloc] at oxv
        have Oxv := Lib.hid (show Mem.OwnS Mem.valu (w6.heap.size + 1) w7.heap.size w7 Xv xv.length xv.length xv from oxv)
        have hs7 : (w6.alloc (Obj.cells #[Value.slice Xp_0 x0p.length x0p.length, Value.slice Xp_1 x1p.length x1p.length] 27)).heap.size ≤ w7.heap.size := b7.size
        simp only [World.size_alloc] at hs7
        have d7 : Below w6.heap.size w6 w7 := ((Below.refl w6.heap.size w6).alloc (by first | (simp; done) | (simp; omega)) (Obj.cells #[Value.slice Xp_0 x0p.length x0p.length, Value.slice Xp_1 x1p.length x1p.length] 27)).trans (b7.mono (show w6.heap.size ≤ (w6.alloc (Obj.cells #[Value.slice Xp_0 x0p.length x0p.length, Value.slice Xp_1 x1p.length x1p.length] 27)).heap.size by first | exact Nat.le_refl _ | (simp; done) | (simp; omega)))
        have B7 := Lib.hid (B6.out.trans (d7.mono B6.out.size))
        have Vbp_7 := Lib.hid (Vbp_6.out.below d7)
        have Oxp_7 := Lib.hid (Oxp.out.below d7)
        have Vxp_7 := Lib.hid ((Lvar.new w6 #[Value.slice Xp_0 x0p.length x0p.length, Value.slice Xp_1 x1p.length x1p.length] 27).below b7)
        clear Vbp_6 Oxp c_Vbp_0 c_Vbp_1 lt_Vbp b7 d7
        have c_Vbp_0 := Vbp_7.out.cell 0 _ rfl
        have c_Vbp_1 := Vbp_7.out.cell 1 _ rfl
        have lt_Vbp := Vbp_7.out.lt
        have c_Vxp_0 := Vxp_7.out.cell 0 _ rfl
        have c_Vxp_1 := Vxp_7.out.cell 1 _ rfl
        have lt_Vxp := Vxp_7.out.lt
        go_wp2_with fail
        refine (Calls.mono (RunI.meets _ _ _ _ _ _ n _ _ _ _ Oxp_7.out.arg (by omega) Oxv.out.arg (by omega))) ?_
        rintro e w8 ⟨rfl, b8⟩
        have hs8 : w7.heap.size ≤ w8.heap.size := b8.size
        have d8 : Below w7.heap.size w7 w8 := (Below.refl w7.heap.size w7).trans (b8.mono (show w7.heap.size ≤ w7.heap.size by first | exact Nat.le_refl _ | (simp; done) | (simp; omega)))
        have B8 := Lib.hid (B7.out.trans (d8.mono B7.out.size))
        have Vbp_8 := Lib.hid (Vbp_7.out.below d8)
        have Oxp_8 := Lib.hid (Oxp_7.out.below d8)
        have Vxp_8 := Lib.hid (Vxp_7.out.below d8)
        have Oxv_8 := Lib.hid (Oxv.out.below d8)
        clear Vbp_7 Oxp_7 Vxp_7 Oxv c_Vbp_0 c_Vbp_1 lt_Vbp c_Vxp_0 c_Vxp_1 lt_Vxp b8 d8
        have c_Vbp_0 := Vbp_8.out.cell 0 _ rfl
        have c_Vbp_1 := Vbp_8.out.cell 1 _ rfl
        have lt_Vbp := Vbp_8.out.lt
        have c_Vxp_0 := Vxp_8.out.cell 0 _ rfl
        have c_Vxp_1 := Vxp_8.out.cell 1 _ rfl
        have lt_Vxp := Vxp_8.out.lt
        go_wp2_with fail
        go_region_held3 (fun w' => w'.cell? ⟨w6.heap.size, 0, none⟩ = some (Value.slice Xp_0 x0p.length x0p.length) ∧ w'.cell? ⟨w6.heap.size, 1, none⟩ = some (Value.slice Xp_1 x1p.length x1p.length) ∧ w'.cell? ⟨w0.heap.size, 0, none⟩ = some (Value.slice A0p x0p.length c0p) ∧ w'.cell? ⟨w0.heap.size, 1, none⟩ = some (Value.slice A1p x1p.length c1p))
          (first | exact ⟨(((Vxp_8.out.below (Below.refl _ _).drew).below b9).below b10).cell 0 _ rfl, (((Vxp_8.out.below (Below.refl _ _).drew).below b9).below b10).cell 1 _ rfl, (((Vbp_8.out.below (Below.refl _ _).drew).below b9).below b10).cell 0 _ rfl, (((Vbp_8.out.below (Below.refl _ _).drew).below b9).below b10).cell 1 _ rfl⟩ | exact ⟨((Vxp_8.out.below (Below.refl _ _).drew).below b9).cell 0 _ rfl, ((Vxp_8.out.below (Below.refl _ _).drew).below b9).cell 1 _ rfl, ((Vbp_8.out.below (Below.refl _ _).drew).below b9).cell 0 _ rfl, ((Vbp_8.out.below (Below.refl _ _).drew).below b9).cell 1 _ rfl⟩ | go_keep)
          (first
            | (go_at_call 26; refine (Calls.mono (Mem.copyProgramA A0p c0p x0p A1p c1p x1p _ (hp.below B8.out.drew) hnp)) ?_; rintro e w9 ⟨C8_0, C8_1, rfl, oc8, b9⟩)
            | (go_at_call 29; refine (Calls.mono (Mem.eqProgramA Xp_0 x0p.length x0p Xp_1 x1p.length x1p C8_0 x0p.length C8_1 x1p.length _ ((Oxp_8.out.below (Below.refl _ _).drew).below b9).arg oc8.arg hnp)) ?_; rintro e w10 ⟨rfl, b10⟩))
        have h9 : w8.heap.size ≤ w9.heap.size := b9.size
        have h10 : w9.heap.size ≤ w10.heap.size := b10.size
        have d10 : Below w8.heap.size w8 w10 := (((Below.refl w8.heap.size w8).drew.trans (b9.mono (show w8.heap.size ≤ w8.heap.size by omega))).trans (b10.mono (show w8.heap.size ≤ w9.heap.size by omega)))
        have hs10 := d10.size
        have B10 := Lib.hid (B8.out.trans (d10.mono B8.out.size))
        have Vbp_10 := Lib.hid (Vbp_8.out.below d10)
        have Oxp_10 := Lib.hid (Oxp_8.out.below d10)
        have Vxp_10 := Lib.hid (Vxp_8.out.below d10)
        have Oxv_10 := Lib.hid (Oxv_8.out.below d10)
        clear Vbp_8 Oxp_8 Vxp_8 Oxv_8 c_Vbp_0 c_Vbp_1 lt_Vbp c_Vxp_0 c_Vxp_1 lt_Vxp b9 h9 b10 h10 d10
        clear oc8
        have c_Vbp_0 := Vbp_10.out.cell 0 _ rfl
        have c_Vbp_1 := Vbp_10.out.cell 1 _ rfl
        have lt_Vbp := Vbp_10.out.lt
        have c_Vxp_0 := Vxp_10.out.cell 0 _ rfl
        have c_Vxp_1 := Vxp_10.out.cell 1 _ rfl
        have lt_Vxp := Vxp_10.out.lt
        go_wp2_with fail
        refine (Calls.mono (Mem.copyValueSA Av cv xv _ (hv.below B10.out) hnv)) ?_
        rintro e w11 ⟨Ev, rfl, oexv, b11⟩
        have hs11 : w10.heap.size ≤ w11.heap.size := b11.size
        have d11 : Below w10.heap.size w10 w11 := (Below.refl w10.heap.size w10).trans (b11.mono (show w10.heap.size ≤ w10.heap.size by first | exact Nat.le_refl _ | (simp; done) | (simp; omega)))
        have B11 := Lib.hid (B10.out.trans (d11.mono B10.out.size))
        have Vbp_11 := Lib.hid (Vbp_10.out.below d11)
        have Oxp_11 := Lib.hid (Oxp_10.out.below d11)
        have Vxp_11 := Lib.hid (Vxp_10.out.below d11)
        have Oxv_11 := Lib.hid (Oxv_10.out.below d11)
        clear Vbp_10 Oxp_10 Vxp_10 Oxv_10 c_Vbp_0 c_Vbp_1 lt_Vbp c_Vxp_0 c_Vxp_1 lt_Vxp b11 d11
        have c_Vbp_0 := Vbp_11.out.cell 0 _ rfl
        have c_Vbp_1 := Vbp_11.out.cell 1 _ rfl
        have lt_Vbp := Vbp_11.out.lt
        have c_Vxp_0 := Vxp_11.out.cell 0 _ rfl
        have c_Vxp_1 := Vxp_11.out.cell 1 _ rfl
        have lt_Vxp := Vxp_11.out.lt
        go_wp2_with fail
        refine (Calls.mono (Mem.eqValueSA Xv Ev xv.length xv.length xv _ Oxv_11.out.arg oexv.arg hnv)) ?_
        rintro e w12 ⟨rfl, b12⟩
        have hs12 : w11.heap.size ≤ w12.heap.size := b12.size
        have d12 : Below w11.heap.size w11 w12 := (Below.refl w11.heap.size w11).trans (b12.mono (show w11.heap.size ≤ w11.heap.size by first | exact Nat.le_refl _ | (simp; done) | (simp; omega)))
        have B12 := Lib.hid (B11.out.trans (d12.mono B11.out.size))
        have Vbp_12 := Lib.hid (Vbp_11.out.below d12)
        have Oxp_12 := Lib.hid (Oxp_11.out.below d12)
        have Vxp_12 := Lib.hid (Vxp_11.out.below d12)
        have Oxv_12 := Lib.hid (Oxv_11.out.below d12)
        clear Vbp_11 Oxp_11 Vxp_11 Oxv_11 c_Vbp_0 c_Vbp_1 lt_Vbp c_Vxp_0 c_Vxp_1 lt_Vxp b12 d12
        have c_Vbp_0 := Vbp_12.out.cell 0 _ rfl
        have c_Vbp_1 := Vbp_12.out.cell 1 _ rfl
        have lt_Vbp := Vbp_12.out.lt
        have c_Vxp_0 := Vxp_12.out.cell 0 _ rfl
        have c_Vxp_1 := Vxp_12.out.cell 1 _ rfl
        have lt_Vxp := Vxp_12.out.lt
        go_wp2
        go_ret
        exact ⟨rfl, B12.out⟩
      · simp only [if_neg htv] at SZ
        have HS1 := Lib.hid SZ
        clear SZ hlenv hwfv
        have B0 := Lib.hid (Below.refl w0.heap.size w0)
        go_enter Tryz.func6, Tryz.ntmps6
        go_wp2_with fail
        refine (Calls.mono (HS0.out _ (hp.below (B0.out.trans (((Below.refl w0.heap.size w0).alloc (by first | (simp; done) | (simp; omega)) (Obj.cells #[Value.slice A0p x0p.length c0p, Value.slice A1p x1p.length c1p] 54)).mono B0.out.size))))) ?_
        rintro e w1 ⟨rfl, b1⟩
        have hs1 : (w0.alloc (Obj.cells #[Value.slice A0p x0p.length c0p, Value.slice A1p x1p.length c1p] 54)).heap.size ≤ w1.heap.size := b1.size
        simp only [World.size_alloc] at hs1
        have d1 : Below w0.heap.size w0 w1 := ((Below.refl w0.heap.size w0).alloc (by first | (simp; done) | (simp; omega)) (Obj.cells #[Value.slice A0p x0p.length c0p, Value.slice A1p x1p.length c1p] 54)).trans (b1.mono (show w0.heap.size ≤ (w0.alloc (Obj.cells #[Value.slice A0p x0p.length c0p, Value.slice A1p x1p.length c1p] 54)).heap.size by first | exact Nat.le_refl _ | (simp; done) | (simp; omega)))
        have B1 := Lib.hid (B0.out.trans (d1.mono B0.out.size))
        have Vbp_1 := Lib.hid ((Lvar.new w0 #[Value.slice A0p x0p.length c0p, Value.slice A1p x1p.length c1p] 54).below b1)
        clear b1 d1
        have c_Vbp_0 := Vbp_1.out.cell 0 _ rfl
        have c_Vbp_1 := Vbp_1.out.cell 1 _ rfl
        have lt_Vbp := Vbp_1.out.lt
        go_wp2_with fail
        refine (Calls.mono (HS1.out _ (hv.below B1.out))) ?_
        rintro e w2 ⟨rfl, b2⟩
        have hs2 : w1.heap.size ≤ w2.heap.size := b2.size
        have d2 : Below w1.heap.size w1 w2 := (Below.refl w1.heap.size w1).trans (b2.mono (show w1.heap.size ≤ w1.heap.size by first | exact Nat.le_refl _ | (simp; done) | (simp; omega)))
        have B2 := Lib.hid (B1.out.trans (d2.mono B1.out.size))
        have Vbp_2 := Lib.hid (Vbp_1.out.below d2)
        clear Vbp_1 c_Vbp_0 c_Vbp_1 lt_Vbp b2 d2
        have c_Vbp_0 := Vbp_2.out.cell 0 _ rfl
        have c_Vbp_1 := Vbp_2.out.cell 1 _ rfl
        have lt_Vbp := Vbp_2.out.lt
        go_wp2
        go_ret
        exact ⟨rfl, B2.out⟩
    · simp only [if_neg htp] at SZ
      have HS0 := Lib.hid SZ
      clear SZ hwfp
      have B0 := Lib.hid (Below.refl w0.heap.size w0)
      go_enter Tryz.func6, Tryz.ntmps6
      go_wp2_with fail
      refine (Calls.mono (HS0.out _ (hp.below (B0.out.trans (((Below.refl w0.heap.size w0).alloc (by first | (simp; done) | (simp; omega)) (Obj.cells #[Value.slice A0p x0p.length c0p, Value.slice A1p x1p.length c1p] 54)).mono B0.out.size))))) ?_
      rintro e w1 ⟨rfl, b1⟩
      have hs1 : (w0.alloc (Obj.cells #[Value.slice A0p x0p.length c0p, Value.slice A1p x1p.length c1p] 54)).heap.size ≤ w1.heap.size := b1.size
      simp only [World.size_alloc] at hs1
      have d1 : Below w0.heap.size w0 w1 := ((Below.refl w0.heap.size w0).alloc (by first | (simp; done) | (simp; omega)) (Obj.cells #[Value.slice A0p x0p.length c0p, Value.slice A1p x1p.length c1p] 54)).trans (b1.mono (show w0.heap.size ≤ (w0.alloc (Obj.cells #[Value.slice A0p x0p.length c0p, Value.slice A1p x1p.length c1p] 54)).heap.size by first | exact Nat.le_refl _ | (simp; done) | (simp; omega)))
      have B1 := Lib.hid (B0.out.trans (d1.mono B0.out.size))
      have Vbp_1 := Lib.hid ((Lvar.new w0 #[Value.slice A0p x0p.length c0p, Value.slice A1p x1p.length c1p] 54).below b1)
      clear b1 d1
      have c_Vbp_0 := Vbp_1.out.cell 0 _ rfl
      have c_Vbp_1 := Vbp_1.out.cell 1 _ rfl
      have lt_Vbp := Vbp_1.out.lt
      go_wp2
      go_ret
      exact ⟨rfl, B1.out⟩
  · go_enter Tryz.func6, Tryz.ntmps6
    go_wp2
    go_ret
    exact ⟨rfl, ((Below.refl _ _).alloc (by first | (simp; done) | (simp; omega)) _)⟩

set_option maxRecDepth 100000 in
theorem lifted (os : Os) (started : os.Started) (H : Type) (enc : TypeId × Value → H) :
    ReturnsInHanded {} Tryz.checked os 6 .any (Rows.fnExactMeetsPreSpec.pre6 enc Tryz.prog Tryz.f6 Rows.fnExactMeetsPreRow.domain false) (Rows.fnExactMeetsPreSpec.post enc Tryz.prog Tryz.f6 false true false false) := by
  refine returnsInHanded_of_change (C := Tryz.checked) Frame.own started (by kernel_rfl) Tryz.func6
    (ChangeSpec.witness6 (enc := enc) (C := Tryz.checked) false ⟨#[], #[.agg #[.slice none 0 0, .slice none 0 0], .string .empty, .slice none 0 0], []⟩ 8 (by kernel_rfl) (by kernel_rfl) (by kernel_rfl) (by kernel_rfl)) ?_
  intro W base args ds gs before hval0 hW _ _
  have hW' := hW
  have hval : ∀ (j : Nat) t v, Tryz.f6.params[j]? = some t → args[j]? = some v → Value.okWide Tryz.prog W .any base t v := hval0
  obtain ⟨p, q, hA0, hV, rfl, hfz, hnd⟩ := hW
  have hA : DataW.TrodAll enc Tryz.prog W 0 (fun _ => true) true Tryz.f6.params.toList args.toList ds p := hA0
  rw [Tryz.params6] at hA hval
  obtain ⟨v0, v1, v2, d0, d1, d2, p0, p1, p2, rfl, rfl, rfl, h0, h1, h2⟩ := trodAll_three hA
  have hlt := fun x hx => hW'.lt x hx
  obtain ⟨rfl, rfl⟩ := trodVars_none hV
  obtain ⟨A0p, c0p, x0p, A1p, c1p, x1p, rfl, hrp, hwp⟩ := Frame.openU_Program (W := W) (hval 0 54 v0 rfl rfl) h0 (fun x hx => hlt x (by simp [hx]))
  obtain ⟨n, rfl, rfl, rfl, wn⟩ := open_string Tryz.underlying9 (hval 1 9 v1 rfl rfl) h1
  obtain ⟨av, cv, xv, rfl, hrv, hlv, hwv⟩ := Frame.openS_Value (W := W) (hval 2 55 v2 rfl rfl) h2 (fun x hx => hlt x (by simp [hx]))
  refine (walk A0p c0p x0p A1p c1p x1p n av cv xv W hrp hwp wn hrv hlv hwv).mono fun e W' ⟨he, hb⟩ => ?_
  subst he
  exact ⟨_, rfl, Frame.law_post (tb := 4) Frame.laidOut (by kernel_rfl) (by kernel_rfl) (by kernel_rfl) Tryz.underlying4 hW' rfl hb⟩

theorem proved : Rows.FnExactMeetsPreSaid :=
  OpenClaim.holds_of_wide 6 Tryz.f6 rfl rfl rfl rfl rfl rfl rfl ⟨rfl, rfl, rfl, rfl, rfl⟩ rfl rfl rfl rfl rfl (by kernel_rfl) Tryz.func6 (by kernel_rfl)
    (of_decide_eq_true (by kernel_rfl)) (by unfold Func.isWrapper; first | (rw [if_pos (by decide +kernel)]; kernel_rfl) | (rw [if_neg (by decide +kernel)]; exact ⟨rfl, rfl⟩))
    (fun os started H enc _ => lifted os started H enc)
end LawMeetsPre
end Go.Proofs.YtgpjgjjadhmkhaaGreat
