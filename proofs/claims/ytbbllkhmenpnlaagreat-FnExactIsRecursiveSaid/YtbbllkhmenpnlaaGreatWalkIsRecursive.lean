import Derived.Test.YtbbllkhmenpnlaaGreatFrame
import Derived.Test.YtbbllkhmenpnlaaGreatFProgram
import Derived.Test.YtbbllkhmenpnlaaGreatRecI
import Derived.Test.YtbbllkhmenpnlaaGreatRecS
import Derived.Deep.RegionHeld3
import Derived.SliceStrings
/- The walk of FnExactIsRecursive. -/
namespace Go.Proofs.YtbbllkhmenpnlaaGreat
open Go.ChangeShapes Go.WideShapes Go.ChangeAt Go.RowKit
open Go.ChangeMaps (open_string shut_string)
namespace LawIsRecursive
open RowK Mem
set_option maxHeartbeats 4000000 in
set_option maxRecDepth 100000 in
theorem walk (A0p : Option Addr) (c0p : Nat) (x0p : List Mem.FunctionT) (A1p : Option Addr) (c1p : Nat) (x1p : List Mem.RuleT) (s : ByteArray) (w0 : World) (hp : Mem.ArgR Mem.prg w0 [.slice A0p x0p.length c0p, .slice A1p x1p.length c1p] (x0p, x1p)) (hwfp : Mem.WfProgramU (x0p, x1p)) (hszs : s.size ≤ 9223372036854775807) :
  Calls Tryz.prog 9 #[.agg #[.slice A0p x0p.length c0p, .slice A1p x1p.length c1p], .string s] w0 fun e w' => e = .returned (.bool true) ∧ Below w0.heap.size w0 w' := by
 by_cases hts : s.size ≤ 1048576
 ·have hns : s.size ≤ 100000000 := by omega
  have SZ := fun W (h : Mem.ArgR Mem.prg W [.slice A0p x0p.length c0p, .slice A1p x1p.length c1p] (x0p, x1p)) => Mem.sizeProgramA A0p c0p x0p A1p c1p x1p 1048576 W h (by omega) hwfp
  unfold IntK.leftOf at SZ
  by_cases htp : Mem.szProgramU (x0p, x1p) ≤ 1048576
  ·simp only [if_pos htp] at SZ
   have HS0 := Lib.hid SZ
   have hnp : Mem.szProgramU (x0p, x1p) ≤ 100000000 := by omega
   clear SZ
   have hp9 : Mem.szProgramU (x0p, x1p) ≤ 9000000 := by omega
   have hn9 : s.size ≤ maxLen := by unfold maxLen; omega
   have SP := fun A c B d W (h : Mem.ArgR Mem.prg W [.slice A x0p.length c, .slice B x1p.length d] (x0p, x1p)) => GraphS.isRecursive A B c d x0p x1p s W (Mem.arg_prg h).1 (Mem.arg_prg h).2 hp9
   have IM := fun A c B d W (h : Mem.ArgR Mem.prg W [.slice A x0p.length c, .slice B x1p.length d] (x0p, x1p)) => GraphI.isRecursive A B c d x0p x1p s W (Mem.arg_prg h).1 (Mem.arg_prg h).2 hp9 hn9
   generalize GraphM.recB x0p x1p s = R at *
   have SP := Lib.hid SP
   have IM := Lib.hid IM
   clear hp9 hn9
   clear hwfp
   have B0 := Lib.hid (Below.refl w0.heap.size w0)
   go_enter Tryz.func9, Tryz.ntmps9
   go_wp2_with fail
   refine (Calls.mono (HS0.out _ (hp.below (B0.out.trans (((Below.refl w0.heap.size w0).alloc (by first | (simp; done) | (simp; omega)) (Obj.cells #[Value.slice A0p x0p.length c0p, Value.slice A1p x1p.length c1p] 56)).mono B0.out.size))))) ?_
   rintro e w1 ⟨rfl, b1⟩
   have hs1 : (w0.alloc (Obj.cells #[Value.slice A0p x0p.length c0p, Value.slice A1p x1p.length c1p] 56)).heap.size ≤ w1.heap.size := b1.size
   simp only [World.size_alloc] at hs1
   have d1 : Below w0.heap.size w0 w1 := ((Below.refl w0.heap.size w0).alloc (by first | (simp; done) | (simp; omega)) (Obj.cells #[Value.slice A0p x0p.length c0p, Value.slice A1p x1p.length c1p] 56)).trans (b1.mono (show w0.heap.size ≤ (w0.alloc (Obj.cells #[Value.slice A0p x0p.length c0p, Value.slice A1p x1p.length c1p] 56)).heap.size by first | exact Nat.le_refl _ | (simp; done) | (simp; omega)))
   have B1 := Lib.hid (B0.out.trans (d1.mono B0.out.size))
   have Vbp_1 := Lib.hid ((Lvar.new w0 #[Value.slice A0p x0p.length c0p, Value.slice A1p x1p.length c1p] 56).below b1)
   clear b1 d1
   have c_Vbp_0 := Vbp_1.out.cell 0 _ rfl
   have c_Vbp_1 := Vbp_1.out.cell 1 _ rfl
   have lt_Vbp := Vbp_1.out.lt
   go_wp2_with fail
   refine (Calls.mono (Mem.copyProgramA A0p c0p x0p A1p c1p x1p _ (hp.below B1.out) hnp)) ?_
   rintro e w2 ⟨Tp_0, Tp_1, rfl, otp, b2⟩
   have Otp := Lib.hid (show Mem.OwnR Mem.prg (w1.heap.size) w2.heap.size w2 [.slice Tp_0 x0p.length x0p.length, .slice Tp_1 x1p.length x1p.length] (x0p, x1p) from otp)
   have hs2 : w1.heap.size ≤ w2.heap.size := b2.size
   have d2 : Below w1.heap.size w1 w2 := (Below.refl w1.heap.size w1).trans (b2.mono (show w1.heap.size ≤ w1.heap.size by first | exact Nat.le_refl _ | (simp; done) | (simp; omega)))
   have B2 := Lib.hid (B1.out.trans (d2.mono B1.out.size))
   have Vbp_2 := Lib.hid (Vbp_1.out.below d2)
   clear Vbp_1 c_Vbp_0 c_Vbp_1 lt_Vbp b2 d2
   have c_Vbp_0 := Vbp_2.out.cell 0 _ rfl
   have c_Vbp_1 := Vbp_2.out.cell 1 _ rfl
   have lt_Vbp := Vbp_2.out.lt
   go_wp2_with fail
   refine (Calls.mono (SP.out _ _ _ _ _ Otp.out.arg)) ?_
   rintro e w3 ⟨rfl, b3⟩
   have hs3 : w2.heap.size ≤ w3.heap.size := b3.size
   have d3 : Below w2.heap.size w2 w3 := (Below.refl w2.heap.size w2).trans (b3.mono (show w2.heap.size ≤ w2.heap.size by first | exact Nat.le_refl _ | (simp; done) | (simp; omega)))
   have B3 := Lib.hid (B2.out.trans (d3.mono B2.out.size))
   have Vbp_3 := Lib.hid (Vbp_2.out.below d3)
   have Otp_3 := Lib.hid (Otp.out.below d3)
   clear Vbp_2 Otp c_Vbp_0 c_Vbp_1 lt_Vbp b3 d3
   clear Otp_3
   have c_Vbp_0 := Vbp_3.out.cell 0 _ rfl
   have c_Vbp_1 := Vbp_3.out.cell 1 _ rfl
   have lt_Vbp := Vbp_3.out.lt
   go_wp2_with fail
   refine (Calls.mono (Mem.copyProgramA A0p c0p x0p A1p c1p x1p _ (hp.below B3.out) hnp)) ?_
   rintro e w4 ⟨Xp_0, Xp_1, rfl, oxp, b4⟩
   have Oxp := Lib.hid (show Mem.OwnR Mem.prg (w3.heap.size) w4.heap.size w4 [.slice Xp_0 x0p.length x0p.length, .slice Xp_1 x1p.length x1p.length] (x0p, x1p) from oxp)
   have hs4 : w3.heap.size ≤ w4.heap.size := b4.size
   have d4 : Below w3.heap.size w3 w4 := (Below.refl w3.heap.size w3).trans (b4.mono (show w3.heap.size ≤ w3.heap.size by first | exact Nat.le_refl _ | (simp; done) | (simp; omega)))
   have B4 := Lib.hid (B3.out.trans (d4.mono B3.out.size))
   have Vbp_4 := Lib.hid (Vbp_3.out.below d4)
   clear Vbp_3 c_Vbp_0 c_Vbp_1 lt_Vbp b4 d4
   have c_Vbp_0 := Vbp_4.out.cell 0 _ rfl
   have c_Vbp_1 := Vbp_4.out.cell 1 _ rfl
   have lt_Vbp := Vbp_4.out.lt
   go_wp2_with fail
   refine (Calls.mono (IM.out _ _ _ _ _ (Oxp.out.below ((Below.refl w4.heap.size w4).alloc (by first | (simp; done) | (simp; omega)) (Obj.cells #[Value.slice Xp_0 x0p.length x0p.length, Value.slice Xp_1 x1p.length x1p.length] 27))).arg)) ?_
   rintro e w5 ⟨rfl, b5⟩
   have hs5 : (w4.alloc (Obj.cells #[Value.slice Xp_0 x0p.length x0p.length, Value.slice Xp_1 x1p.length x1p.length] 27)).heap.size ≤ w5.heap.size := b5.size
   simp only [World.size_alloc] at hs5
   have d5 : Below w4.heap.size w4 w5 := ((Below.refl w4.heap.size w4).alloc (by first | (simp; done) | (simp; omega)) (Obj.cells #[Value.slice Xp_0 x0p.length x0p.length, Value.slice Xp_1 x1p.length x1p.length] 27)).trans (b5.mono (show w4.heap.size ≤ (w4.alloc (Obj.cells #[Value.slice Xp_0 x0p.length x0p.length, Value.slice Xp_1 x1p.length x1p.length] 27)).heap.size by first | exact Nat.le_refl _ | (simp; done) | (simp; omega)))
   have B5 := Lib.hid (B4.out.trans (d5.mono B4.out.size))
   have Vbp_5 := Lib.hid (Vbp_4.out.below d5)
   have Oxp_5 := Lib.hid (Oxp.out.below d5)
   have Vxp_5 := Lib.hid ((Lvar.new w4 #[Value.slice Xp_0 x0p.length x0p.length, Value.slice Xp_1 x1p.length x1p.length] 27).below b5)
   clear Vbp_4 Oxp c_Vbp_0 c_Vbp_1 lt_Vbp b5 d5
   have c_Vbp_0 := Vbp_5.out.cell 0 _ rfl
   have c_Vbp_1 := Vbp_5.out.cell 1 _ rfl
   have lt_Vbp := Vbp_5.out.lt
   have c_Vxp_0 := Vxp_5.out.cell 0 _ rfl
   have c_Vxp_1 := Vxp_5.out.cell 1 _ rfl
   have lt_Vxp := Vxp_5.out.lt
   go_wp2_with fail
   go_region_held3 (fun w' => w'.cell? ⟨w4.heap.size, 0, none⟩ = some (Value.slice Xp_0 x0p.length x0p.length) ∧ w'.cell? ⟨w4.heap.size, 1, none⟩ = some (Value.slice Xp_1 x1p.length x1p.length) ∧ w'.cell? ⟨w0.heap.size, 0, none⟩ = some (Value.slice A0p x0p.length c0p) ∧ w'.cell? ⟨w0.heap.size, 1, none⟩ = some (Value.slice A1p x1p.length c1p))
    (first | exact ⟨(((Vxp_5.out.below (Below.refl _ _).drew).below b6).below b7).cell 0 _ rfl, (((Vxp_5.out.below (Below.refl _ _).drew).below b6).below b7).cell 1 _ rfl, (((Vbp_5.out.below (Below.refl _ _).drew).below b6).below b7).cell 0 _ rfl, (((Vbp_5.out.below (Below.refl _ _).drew).below b6).below b7).cell 1 _ rfl⟩ | exact ⟨((Vxp_5.out.below (Below.refl _ _).drew).below b6).cell 0 _ rfl, ((Vxp_5.out.below (Below.refl _ _).drew).below b6).cell 1 _ rfl, ((Vbp_5.out.below (Below.refl _ _).drew).below b6).cell 0 _ rfl, ((Vbp_5.out.below (Below.refl _ _).drew).below b6).cell 1 _ rfl⟩ | go_keep)
    (first
     | (go_at_call 28; refine (Calls.mono (Mem.copyProgramA A0p c0p x0p A1p c1p x1p _ (hp.below B5.out.drew) hnp)) ?_; rintro e w6 ⟨C5_0, C5_1, rfl, oc5, b6⟩)
     | (go_at_call 30; refine (Calls.mono (Mem.eqProgramA Xp_0 x0p.length x0p Xp_1 x1p.length x1p C5_0 x0p.length C5_1 x1p.length _ ((Oxp_5.out.below (Below.refl _ _).drew).below b6).arg oc5.arg hnp)) ?_; rintro e w7 ⟨rfl, b7⟩))
   have h6 : w5.heap.size ≤ w6.heap.size := b6.size
   have h7 : w6.heap.size ≤ w7.heap.size := b7.size
   have d7 : Below w5.heap.size w5 w7 := (((Below.refl w5.heap.size w5).drew.trans (b6.mono (show w5.heap.size ≤ w5.heap.size by omega))).trans (b7.mono (show w5.heap.size ≤ w6.heap.size by omega)))
   have hs7 := d7.size
   have B7 := Lib.hid (B5.out.trans (d7.mono B5.out.size))
   have Vbp_7 := Lib.hid (Vbp_5.out.below d7)
   have Oxp_7 := Lib.hid (Oxp_5.out.below d7)
   have Vxp_7 := Lib.hid (Vxp_5.out.below d7)
   clear Vbp_5 Oxp_5 Vxp_5 c_Vbp_0 c_Vbp_1 lt_Vbp c_Vxp_0 c_Vxp_1 lt_Vxp b6 h6 b7 h7 d7
   clear oc5
   have c_Vbp_0 := Vbp_7.out.cell 0 _ rfl
   have c_Vbp_1 := Vbp_7.out.cell 1 _ rfl
   have lt_Vbp := Vbp_7.out.lt
   have c_Vxp_0 := Vxp_7.out.cell 0 _ rfl
   have c_Vxp_1 := Vxp_7.out.cell 1 _ rfl
   have lt_Vxp := Vxp_7.out.lt
   go_wp2
   go_ret
   exact ⟨rfl, B7.out⟩
  ·simp only [if_neg htp] at SZ
   have HS0 := Lib.hid SZ
   clear SZ hwfp
   have B0 := Lib.hid (Below.refl w0.heap.size w0)
   go_enter Tryz.func9, Tryz.ntmps9
   go_wp2_with fail
   refine (Calls.mono (HS0.out _ (hp.below (B0.out.trans (((Below.refl w0.heap.size w0).alloc (by first | (simp; done) | (simp; omega)) (Obj.cells #[Value.slice A0p x0p.length c0p, Value.slice A1p x1p.length c1p] 56)).mono B0.out.size))))) ?_
   rintro e w1 ⟨rfl, b1⟩
   have hs1 : (w0.alloc (Obj.cells #[Value.slice A0p x0p.length c0p, Value.slice A1p x1p.length c1p] 56)).heap.size ≤ w1.heap.size := b1.size
   simp only [World.size_alloc] at hs1
   have d1 : Below w0.heap.size w0 w1 := ((Below.refl w0.heap.size w0).alloc (by first | (simp; done) | (simp; omega)) (Obj.cells #[Value.slice A0p x0p.length c0p, Value.slice A1p x1p.length c1p] 56)).trans (b1.mono (show w0.heap.size ≤ (w0.alloc (Obj.cells #[Value.slice A0p x0p.length c0p, Value.slice A1p x1p.length c1p] 56)).heap.size by first | exact Nat.le_refl _ | (simp; done) | (simp; omega)))
   have B1 := Lib.hid (B0.out.trans (d1.mono B0.out.size))
   have Vbp_1 := Lib.hid ((Lvar.new w0 #[Value.slice A0p x0p.length c0p, Value.slice A1p x1p.length c1p] 56).below b1)
   clear b1 d1
   have c_Vbp_0 := Vbp_1.out.cell 0 _ rfl
   have c_Vbp_1 := Vbp_1.out.cell 1 _ rfl
   have lt_Vbp := Vbp_1.out.lt
   go_wp2
   go_ret
   exact ⟨rfl, B1.out⟩
 ·go_enter Tryz.func9, Tryz.ntmps9
  go_wp2
  go_ret
  exact ⟨rfl, ((Below.refl _ _).alloc (by first | (simp; done) | (simp; omega)) _)⟩
end LawIsRecursive
end Go.Proofs.YtbbllkhmenpnlaaGreat
