import Derived.Test.YtbbllkhmenpnlaaGreatFrame
import Derived.Test.YtbbllkhmenpnlaaGreatFProgram
import Derived.Test.YtbbllkhmenpnlaaGreatGSStringS
import Derived.Test.YtbbllkhmenpnlaaGreatCompsI
import Derived.Test.YtbbllkhmenpnlaaGreatCompsS
import Derived.Deep.RegionHeld3
import Derived.SliceStrings
import Derived.Test.YtbbllkhmenpnlaaGreatRows
/- The walk of FnExactComponentsOf. -/
namespace Go.Proofs.YtbbllkhmenpnlaaGreat
open Go.ChangeShapes Go.WideShapes Go.ChangeAt Go.RowKit
open Go.ChangeMaps (open_string shut_string)
namespace LawComponentsOf
open RowK Mem
set_option maxHeartbeats 4000000 in
set_option maxRecDepth 100000 in
theorem walk (A0p : Option Addr) (c0p : Nat) (x0p : List Mem.FunctionT) (A1p : Option Addr) (c1p : Nat) (x1p : List Mem.RuleT) (w0 : World) (hp : Mem.ArgR Mem.prg w0 [.slice A0p x0p.length c0p, .slice A1p x1p.length c1p] (x0p, x1p)) (hwfp : Mem.WfProgramU (x0p, x1p)) :
  Calls Tryz.prog 7 #[.agg #[.slice A0p x0p.length c0p, .slice A1p x1p.length c1p]] w0 fun e w' => e = .returned (.bool true) ∧ Below w0.heap.size w0 w' := by
 have SZ := fun W (h : Mem.ArgR Mem.prg W [.slice A0p x0p.length c0p, .slice A1p x1p.length c1p] (x0p, x1p)) => Mem.sizeProgramA A0p c0p x0p A1p c1p x1p 1048576 W h (by omega) hwfp
 unfold IntK.leftOf at SZ
 by_cases htp : Mem.szProgramU (x0p, x1p) ≤ 1048576
 ·simp only [if_pos htp] at SZ
  have HS0 := Lib.hid SZ
  have hnp : Mem.szProgramU (x0p, x1p) ≤ 100000000 := by omega
  clear SZ
  have hnvp := Mem.nvProgram_le (x0p, x1p)
  obtain ⟨k1p, hk1p⟩ : ∃ k : Nat, k = 1 + Mem.nvProgram (x0p, x1p) := ⟨_, rfl⟩
  have hkbp : 1 ≤ k1p ∧ k1p ≤ 10000000 := by omega
  have hkzp : decide ((k1p : Int) < 0) = false := decide_eq_false (by omega)
  have HKp := Lib.hid hk1p
  clear hk1p hnvp
  have hp9 : Mem.szProgramU (x0p, x1p) ≤ 9000000 := by omega
  have SP := fun A c B d W (h : Mem.ArgR Mem.prg W [.slice A x0p.length c, .slice B x1p.length d] (x0p, x1p)) => GraphS.componentsOf A B c d x0p x1p W (Mem.arg_prg h).1 (Mem.arg_prg h).2 hp9
  have IM := fun A c B d W (h : Mem.ArgR Mem.prg W [.slice A x0p.length c, .slice B x1p.length d] (x0p, x1p)) => GraphI.componentsOf A B c d x0p x1p W (Mem.arg_prg h).1 (Mem.arg_prg h).2 hp9
  have hT := GraphM.comps_small (fs := x0p) (rs := x1p) (show x0p.length + Mem.szs Mem.szFunctionU x0p ≤ 9000000 by simp only [Mem.szProgramU] at hp9; omega)
  unfold GraphM.GaveSS at SP IM
  generalize (@ite _ (ProgM.progV x0p x1p = true) _ (GraphM.compsA (GraphM.names x0p) (GraphM.arrows x1p)) []) = T at *
  have SP := Lib.hid SP
  have IM := Lib.hid IM
  clear hp9
  have hnvT := Mem.szs_bound Mem.nRowString_le T
  obtain ⟨m1, hm1⟩ : ∃ k : Nat, k = 1 + Mem.szs Mem.nRowString T := ⟨_, rfl⟩
  have hmb : 1 ≤ m1 ∧ m1 ≤ 1000000000 := by omega
  have hmz : decide ((m1 : Int) < 0) = false := decide_eq_false (by omega)
  have HM := Lib.hid hm1
  clear hm1 hnvT
  clear hwfp
  have B0 := Lib.hid (Below.refl w0.heap.size w0)
  go_enter Tryz.func7, Tryz.ntmps7
  go_wp2_with fail
  refine (Calls.mono (HS0.out _ (hp.below (B0.out.trans (((Below.refl w0.heap.size w0).alloc (by first | (simp; done) | (simp; omega)) (Obj.cells #[Value.slice A0p x0p.length c0p, Value.slice A1p x1p.length c1p] 56)).mono B0.out.size))))) ?_
  rintro e w1 ⟨rfl, b1⟩
  have hs1 : (w0.alloc (Obj.cells #[Value.slice A0p x0p.length c0p, Value.slice A1p x1p.length c1p] 56)).heap.size ≤ w1.heap.size := b1.size
  simp only [World.size_alloc] at hs1
  have d1 : Below w0.heap.size w0 w1 := ((Below.refl w0.heap.size w0).alloc (by first | (simp; done) | (simp; omega)) (Obj.cells #[Value.slice A0p x0p.length c0p, Value.slice A1p x1p.length c1p] 56)).trans (b1.mono (show w0.heap.size ≤ (w0.alloc (Obj.cells #[Value.slice A0p x0p.length c0p, Value.slice A1p x1p.length c1p] 56)).heap.size by first | exact Nat.le_refl _ | (simp; done) | (simp; omega)))
  have B1 := Lib.hid (B0.out.trans (d1.mono B0.out.size))
  have Vbp_1 := Lib.hid ((Lvar.new w0 #[Value.slice A0p x0p.length c0p, Value.slice A1p x1p.length c1p] 56).below b1)
  clear b1 d1
  have c_Vbp_0 := Vbp_1.out.cell 0 _ rfl
  have c_Vbp_1 := Vbp_1.out.cell 1 _ rfl
  have lt_Vbp := Vbp_1.out.lt
  go_wp2_with fail
  refine (Calls.mono (Mem.copyProgramA A0p c0p x0p A1p c1p x1p _ (hp.below B1.out) hnp)) ?_
  rintro e w2 ⟨Tp_0, Tp_1, rfl, otp, b2⟩
  have Otp := Lib.hid (show Mem.OwnR Mem.prg (w1.heap.size) w2.heap.size w2 [.slice Tp_0 x0p.length x0p.length, .slice Tp_1 x1p.length x1p.length] (x0p, x1p) from otp)
  have hs2 : w1.heap.size ≤ w2.heap.size := b2.size
  have d2 : Below w1.heap.size w1 w2 := (Below.refl w1.heap.size w1).trans (b2.mono (show w1.heap.size ≤ w1.heap.size by first | exact Nat.le_refl _ | (simp; done) | (simp; omega)))
  have B2 := Lib.hid (B1.out.trans (d2.mono B1.out.size))
  have Vbp_2 := Lib.hid (Vbp_1.out.below d2)
  clear Vbp_1 c_Vbp_0 c_Vbp_1 lt_Vbp b2 d2
  have c_Vbp_0 := Vbp_2.out.cell 0 _ rfl
  have c_Vbp_1 := Vbp_2.out.cell 1 _ rfl
  have lt_Vbp := Vbp_2.out.lt
  go_wp2_with fail
  refine (Calls.mono (SP.out _ _ _ _ _ Otp.out.arg)) ?_
  rintro e w3 ⟨w, cw, rfl, ow, b3⟩
  have Ow := Lib.hid (show Mem.OwnS Mem.rowString (w2.heap.size) w3.heap.size w3 w T.length cw T from ow)
  clear ow
  have hs3 : w2.heap.size ≤ w3.heap.size := b3.size
  have d3 : Below w2.heap.size w2 w3 := (Below.refl w2.heap.size w2).trans (b3.mono (show w2.heap.size ≤ w2.heap.size by first | exact Nat.le_refl _ | (simp; done) | (simp; omega)))
  have B3 := Lib.hid (B2.out.trans (d3.mono B2.out.size))
  have Vbp_3 := Lib.hid (Vbp_2.out.below d3)
  have Otp_3 := Lib.hid (Otp.out.below d3)
  clear Vbp_2 Otp c_Vbp_0 c_Vbp_1 lt_Vbp b3 d3
  clear Otp_3
  have c_Vbp_0 := Vbp_3.out.cell 0 _ rfl
  have c_Vbp_1 := Vbp_3.out.cell 1 _ rfl
  have lt_Vbp := Vbp_3.out.lt
  go_wp2_with fail
  refine (Calls.mono (Mem.copyProgramA A0p c0p x0p A1p c1p x1p _ (hp.below B3.out) hnp)) ?_
  rintro e w4 ⟨Xp_0, Xp_1, rfl, oxp, b4⟩
  have Oxp := Lib.hid (show Mem.OwnR Mem.prg (w3.heap.size) w4.heap.size w4 [.slice Xp_0 x0p.length x0p.length, .slice Xp_1 x1p.length x1p.length] (x0p, x1p) from oxp)
  have hs4 : w3.heap.size ≤ w4.heap.size := b4.size
  have d4 : Below w3.heap.size w3 w4 := (Below.refl w3.heap.size w3).trans (b4.mono (show w3.heap.size ≤ w3.heap.size by first | exact Nat.le_refl _ | (simp; done) | (simp; omega)))
  have B4 := Lib.hid (B3.out.trans (d4.mono B3.out.size))
  have Vbp_4 := Lib.hid (Vbp_3.out.below d4)
  have Ow_4 := Lib.hid (Ow.out.below d4)
  clear Vbp_3 Ow c_Vbp_0 c_Vbp_1 lt_Vbp b4 d4
  have c_Vbp_0 := Vbp_4.out.cell 0 _ rfl
  have c_Vbp_1 := Vbp_4.out.cell 1 _ rfl
  have lt_Vbp := Vbp_4.out.lt
  go_wp2_with fail
  refine (Calls.mono (IM.out _ _ _ _ _ (Oxp.out.below ((Below.refl w4.heap.size w4).alloc (by first | (simp; done) | (simp; omega)) (Obj.cells #[Value.slice Xp_0 x0p.length x0p.length, Value.slice Xp_1 x1p.length x1p.length] 27))).arg)) ?_
  rintro e w5 ⟨g, cg, rfl, og, b5⟩
  simp only [World.size_alloc] at og
  have Og := Lib.hid (show Mem.OwnS Mem.rowString (w4.heap.size + 1) w5.heap.size w5 g T.length cg T from og)
  clear og
  have hs5 : (w4.alloc (Obj.cells #[Value.slice Xp_0 x0p.length x0p.length, Value.slice Xp_1 x1p.length x1p.length] 27)).heap.size ≤ w5.heap.size := b5.size
  simp only [World.size_alloc] at hs5
  have d5 : Below w4.heap.size w4 w5 := ((Below.refl w4.heap.size w4).alloc (by first | (simp; done) | (simp; omega)) (Obj.cells #[Value.slice Xp_0 x0p.length x0p.length, Value.slice Xp_1 x1p.length x1p.length] 27)).trans (b5.mono (show w4.heap.size ≤ (w4.alloc (Obj.cells #[Value.slice Xp_0 x0p.length x0p.length, Value.slice Xp_1 x1p.length x1p.length] 27)).heap.size by first | exact Nat.le_refl _ | (simp; done) | (simp; omega)))
  have B5 := Lib.hid (B4.out.trans (d5.mono B4.out.size))
  have Vbp_5 := Lib.hid (Vbp_4.out.below d5)
  have Ow_5 := Lib.hid (Ow_4.out.below d5)
  have Oxp_5 := Lib.hid (Oxp.out.below d5)
  have Vxp_5 := Lib.hid ((Lvar.new w4 #[Value.slice Xp_0 x0p.length x0p.length, Value.slice Xp_1 x1p.length x1p.length] 27).below b5)
  clear Vbp_4 Ow_4 Oxp c_Vbp_0 c_Vbp_1 lt_Vbp b5 d5
  have c_Vbp_0 := Vbp_5.out.cell 0 _ rfl
  have c_Vbp_1 := Vbp_5.out.cell 1 _ rfl
  have lt_Vbp := Vbp_5.out.lt
  have c_Vxp_0 := Vxp_5.out.cell 0 _ rfl
  have c_Vxp_1 := Vxp_5.out.cell 1 _ rfl
  have lt_Vxp := Vxp_5.out.lt
  go_wp2_with fail
  refine (Calls.mono (Mem.eqStringSSR g w cg cw T _ Og.out.arg Ow_5.out.arg hT)) ?_
  rintro e w6 ⟨rfl, b6⟩
  have hs6 : w5.heap.size ≤ w6.heap.size := b6.size
  have d6 : Below w5.heap.size w5 w6 := (Below.refl w5.heap.size w5).trans (b6.mono (show w5.heap.size ≤ w5.heap.size by first | exact Nat.le_refl _ | (simp; done) | (simp; omega)))
  have B6 := Lib.hid (B5.out.trans (d6.mono B5.out.size))
  have Vbp_6 := Lib.hid (Vbp_5.out.below d6)
  have Ow_6 := Lib.hid (Ow_5.out.below d6)
  have Oxp_6 := Lib.hid (Oxp_5.out.below d6)
  have Vxp_6 := Lib.hid (Vxp_5.out.below d6)
  have Og_6 := Lib.hid (Og.out.below d6)
  clear Vbp_5 Ow_5 Oxp_5 Vxp_5 Og c_Vbp_0 c_Vbp_1 lt_Vbp c_Vxp_0 c_Vxp_1 lt_Vxp b6 d6
  have c_Vbp_0 := Vbp_6.out.cell 0 _ rfl
  have c_Vbp_1 := Vbp_6.out.cell 1 _ rfl
  have lt_Vbp := Vbp_6.out.lt
  have c_Vxp_0 := Vxp_6.out.cell 0 _ rfl
  have c_Vxp_1 := Vxp_6.out.cell 1 _ rfl
  have lt_Vxp := Vxp_6.out.lt
  go_wp2_with fail
  go_region_held3 (fun w' => w'.cell? ⟨w4.heap.size, 0, none⟩ = some (Value.slice Xp_0 x0p.length x0p.length) ∧ w'.cell? ⟨w4.heap.size, 1, none⟩ = some (Value.slice Xp_1 x1p.length x1p.length) ∧ w'.cell? ⟨w0.heap.size, 0, none⟩ = some (Value.slice A0p x0p.length c0p) ∧ w'.cell? ⟨w0.heap.size, 1, none⟩ = some (Value.slice A1p x1p.length c1p))
   (first | exact ⟨(((Vxp_6.out.below (Below.refl _ _).drew).below b7).below b8).cell 0 _ rfl, (((Vxp_6.out.below (Below.refl _ _).drew).below b7).below b8).cell 1 _ rfl, (((Vbp_6.out.below (Below.refl _ _).drew).below b7).below b8).cell 0 _ rfl, (((Vbp_6.out.below (Below.refl _ _).drew).below b7).below b8).cell 1 _ rfl⟩ | exact ⟨((Vxp_6.out.below (Below.refl _ _).drew).below b7).cell 0 _ rfl, ((Vxp_6.out.below (Below.refl _ _).drew).below b7).cell 1 _ rfl, ((Vbp_6.out.below (Below.refl _ _).drew).below b7).cell 0 _ rfl, ((Vbp_6.out.below (Below.refl _ _).drew).below b7).cell 1 _ rfl⟩ | go_keep)
   (first
    | (go_at_call 28; refine (Calls.mono (Mem.copyProgramA A0p c0p x0p A1p c1p x1p _ (hp.below B6.out.drew) hnp)) ?_; rintro e w7 ⟨C6_0, C6_1, rfl, oc6, b7⟩)
    | (go_at_call 30; refine (Calls.mono (Mem.eqProgramA Xp_0 x0p.length x0p Xp_1 x1p.length x1p C6_0 x0p.length C6_1 x1p.length _ ((Oxp_6.out.below (Below.refl _ _).drew).below b7).arg oc6.arg hnp)) ?_; rintro e w8 ⟨rfl, b8⟩))
  have h7 : w6.heap.size ≤ w7.heap.size := b7.size
  have h8 : w7.heap.size ≤ w8.heap.size := b8.size
  have d8 : Below w6.heap.size w6 w8 := (((Below.refl w6.heap.size w6).drew.trans (b7.mono (show w6.heap.size ≤ w6.heap.size by omega))).trans (b8.mono (show w6.heap.size ≤ w7.heap.size by omega)))
  have hs8 := d8.size
  have B8 := Lib.hid (B6.out.trans (d8.mono B6.out.size))
  have Vbp_8 := Lib.hid (Vbp_6.out.below d8)
  have Ow_8 := Lib.hid (Ow_6.out.below d8)
  have Oxp_8 := Lib.hid (Oxp_6.out.below d8)
  have Vxp_8 := Lib.hid (Vxp_6.out.below d8)
  have Og_8 := Lib.hid (Og_6.out.below d8)
  clear Vbp_6 Ow_6 Oxp_6 Vxp_6 Og_6 c_Vbp_0 c_Vbp_1 lt_Vbp c_Vxp_0 c_Vxp_1 lt_Vxp b7 h7 b8 h8 d8
  clear oc6
  have c_Vbp_0 := Vbp_8.out.cell 0 _ rfl
  have c_Vbp_1 := Vbp_8.out.cell 1 _ rfl
  have lt_Vbp := Vbp_8.out.lt
  have c_Vxp_0 := Vxp_8.out.cell 0 _ rfl
  have c_Vxp_1 := Vxp_8.out.cell 1 _ rfl
  have lt_Vxp := Vxp_8.out.lt
  go_wp2_with fail
  refine (Calls.mono (Mem.markProgramK (w3.heap.size) w4.heap.size Xp_0 x0p.length x0p Xp_1 x1p.length x1p 1 k1p HKp.out _ Oxp_8.out (by omega) (by omega))) ?_
  rintro e w9 ⟨rfl, rm, b9⟩
  have hs9 := b9.size
  have B9 := Lib.hid (below_mod B8.out b9 (by have := B8.out.size; omega) B8.out.size)
  have Vbp_9 := Lib.hid (Vbp_8.out.keep b9 (by omega))
  have Ow_9 := Lib.hid (Ow_8.out.keep b9 (by omega))
  have Vxp_9 := Lib.hid (Vxp_8.out.keep b9 (by omega))
  have Og_9 := Lib.hid (Og_8.out.keep b9 (by omega))
  clear Vbp_8 Ow_8 Vxp_8 Og_8 c_Vbp_0 c_Vbp_1 lt_Vbp c_Vxp_0 c_Vxp_1 lt_Vxp b9
  clear rm Oxp_8
  have c_Vbp_0 := Vbp_9.out.cell 0 _ rfl
  have c_Vbp_1 := Vbp_9.out.cell 1 _ rfl
  have lt_Vbp := Vbp_9.out.lt
  have c_Vxp_0 := Vxp_9.out.cell 0 _ rfl
  have c_Vxp_1 := Vxp_9.out.cell 1 _ rfl
  have lt_Vxp := Vxp_9.out.lt
  go_wp2_with fail
  refine (Calls.mono (Mem.eqStringSSR g w cg cw T _ Og_9.out.arg Ow_9.out.arg hT)) ?_
  rintro e w10 ⟨rfl, b10⟩
  have hs10 : w9.heap.size ≤ w10.heap.size := b10.size
  have d10 : Below w9.heap.size w9 w10 := (Below.refl w9.heap.size w9).trans (b10.mono (show w9.heap.size ≤ w9.heap.size by first | exact Nat.le_refl _ | (simp; done) | (simp; omega)))
  have B10 := Lib.hid (B9.out.trans (d10.mono B9.out.size))
  have Vbp_10 := Lib.hid (Vbp_9.out.below d10)
  have Ow_10 := Lib.hid (Ow_9.out.below d10)
  have Vxp_10 := Lib.hid (Vxp_9.out.below d10)
  have Og_10 := Lib.hid (Og_9.out.below d10)
  clear Vbp_9 Ow_9 Vxp_9 Og_9 c_Vbp_0 c_Vbp_1 lt_Vbp c_Vxp_0 c_Vxp_1 lt_Vxp b10 d10
  have c_Vbp_0 := Vbp_10.out.cell 0 _ rfl
  have c_Vbp_1 := Vbp_10.out.cell 1 _ rfl
  have lt_Vbp := Vbp_10.out.lt
  have c_Vxp_0 := Vxp_10.out.cell 0 _ rfl
  have c_Vxp_1 := Vxp_10.out.cell 1 _ rfl
  have lt_Vxp := Vxp_10.out.lt
  go_wp2_with fail
  refine (Calls.mono (Mem.markStringSSR (w4.heap.size + 1) w5.heap.size g cg T m1 HM.out _ Og_10.out hT)) ?_
  rintro e w11 ⟨rfl, rm, b11⟩
  have hs11 := b11.size
  have B11 := Lib.hid (below_mod B10.out b11 (by have := B10.out.size; omega) B10.out.size)
  have Vbp_11 := Lib.hid (Vbp_10.out.keep b11 (by omega))
  have Ow_11 := Lib.hid (Ow_10.out.keep b11 (by omega))
  have Vxp_11 := Lib.hid (Vxp_10.out.keep b11 (by omega))
  clear Vbp_10 Ow_10 Vxp_10 c_Vbp_0 c_Vbp_1 lt_Vbp c_Vxp_0 c_Vxp_1 lt_Vxp b11
  have Rg := Lib.hid rm
  clear rm Og_10
  have c_Vbp_0 := Vbp_11.out.cell 0 _ rfl
  have c_Vbp_1 := Vbp_11.out.cell 1 _ rfl
  have lt_Vbp := Vbp_11.out.lt
  have c_Vxp_0 := Vxp_11.out.cell 0 _ rfl
  have c_Vxp_1 := Vxp_11.out.cell 1 _ rfl
  have lt_Vxp := Vxp_11.out.lt
  go_wp2_with fail
  refine (Calls.mono (Mem.heldStringSSR g cg T m1 HM.out _ Rg.out.arg hT)) ?_
  rintro e w12 ⟨rfl, b12⟩
  have hs12 : w11.heap.size ≤ w12.heap.size := b12.size
  have d12 : Below w11.heap.size w11 w12 := (Below.refl w11.heap.size w11).trans (b12.mono (show w11.heap.size ≤ w11.heap.size by first | exact Nat.le_refl _ | (simp; done) | (simp; omega)))
  have B12 := Lib.hid (B11.out.trans (d12.mono B11.out.size))
  have Vbp_12 := Lib.hid (Vbp_11.out.below d12)
  have Ow_12 := Lib.hid (Ow_11.out.below d12)
  have Vxp_12 := Lib.hid (Vxp_11.out.below d12)
  have Rg_12 := Lib.hid (Rg.out.below d12)
  clear Vbp_11 Ow_11 Vxp_11 Rg c_Vbp_0 c_Vbp_1 lt_Vbp c_Vxp_0 c_Vxp_1 lt_Vxp b12 d12
  have c_Vbp_0 := Vbp_12.out.cell 0 _ rfl
  have c_Vbp_1 := Vbp_12.out.cell 1 _ rfl
  have lt_Vbp := Vbp_12.out.lt
  have c_Vxp_0 := Vxp_12.out.cell 0 _ rfl
  have c_Vxp_1 := Vxp_12.out.cell 1 _ rfl
  have lt_Vxp := Vxp_12.out.lt
  go_wp2_with fail
  refine (Calls.mono (Mem.copyProgramA A0p c0p x0p A1p c1p x1p _ (hp.below B12.out) hnp)) ?_
  rintro e w13 ⟨Up_0, Up_1, rfl, oup, b13⟩
  have Oup := Lib.hid (show Mem.OwnR Mem.prg (w12.heap.size) w13.heap.size w13 [.slice Up_0 x0p.length x0p.length, .slice Up_1 x1p.length x1p.length] (x0p, x1p) from oup)
  have hs13 : w12.heap.size ≤ w13.heap.size := b13.size
  have d13 : Below w12.heap.size w12 w13 := (Below.refl w12.heap.size w12).trans (b13.mono (show w12.heap.size ≤ w12.heap.size by first | exact Nat.le_refl _ | (simp; done) | (simp; omega)))
  have B13 := Lib.hid (B12.out.trans (d13.mono B12.out.size))
  have Vbp_13 := Lib.hid (Vbp_12.out.below d13)
  have Ow_13 := Lib.hid (Ow_12.out.below d13)
  have Vxp_13 := Lib.hid (Vxp_12.out.below d13)
  have Rg_13 := Lib.hid (Rg_12.out.below d13)
  clear Vbp_12 Ow_12 Vxp_12 Rg_12 c_Vbp_0 c_Vbp_1 lt_Vbp c_Vxp_0 c_Vxp_1 lt_Vxp b13 d13
  have c_Vbp_0 := Vbp_13.out.cell 0 _ rfl
  have c_Vbp_1 := Vbp_13.out.cell 1 _ rfl
  have lt_Vbp := Vbp_13.out.lt
  have c_Vxp_0 := Vxp_13.out.cell 0 _ rfl
  have c_Vxp_1 := Vxp_13.out.cell 1 _ rfl
  have lt_Vxp := Vxp_13.out.lt
  go_wp2_with fail
  refine (Calls.mono (IM.out _ _ _ _ _ Oup.out.arg)) ?_
  rintro e w14 ⟨h, ch, rfl, oh, b14⟩
  have Oh := Lib.hid (show Mem.OwnS Mem.rowString (w13.heap.size) w14.heap.size w14 h T.length ch T from oh)
  clear oh
  have hs14 : w13.heap.size ≤ w14.heap.size := b14.size
  have d14 : Below w13.heap.size w13 w14 := (Below.refl w13.heap.size w13).trans (b14.mono (show w13.heap.size ≤ w13.heap.size by first | exact Nat.le_refl _ | (simp; done) | (simp; omega)))
  have B14 := Lib.hid (B13.out.trans (d14.mono B13.out.size))
  have Vbp_14 := Lib.hid (Vbp_13.out.below d14)
  have Ow_14 := Lib.hid (Ow_13.out.below d14)
  have Vxp_14 := Lib.hid (Vxp_13.out.below d14)
  have Rg_14 := Lib.hid (Rg_13.out.below d14)
  have Oup_14 := Lib.hid (Oup.out.below d14)
  clear Vbp_13 Ow_13 Vxp_13 Rg_13 Oup c_Vbp_0 c_Vbp_1 lt_Vbp c_Vxp_0 c_Vxp_1 lt_Vxp b14 d14
  clear Oup_14
  have c_Vbp_0 := Vbp_14.out.cell 0 _ rfl
  have c_Vbp_1 := Vbp_14.out.cell 1 _ rfl
  have lt_Vbp := Vbp_14.out.lt
  have c_Vxp_0 := Vxp_14.out.cell 0 _ rfl
  have c_Vxp_1 := Vxp_14.out.cell 1 _ rfl
  have lt_Vxp := Vxp_14.out.lt
  go_wp2_with fail
  refine (Calls.mono (Mem.eqStringSSR h w ch cw T _ Oh.out.arg Ow_14.out.arg hT)) ?_
  rintro e w15 ⟨rfl, b15⟩
  have hs15 : w14.heap.size ≤ w15.heap.size := b15.size
  have d15 : Below w14.heap.size w14 w15 := (Below.refl w14.heap.size w14).trans (b15.mono (show w14.heap.size ≤ w14.heap.size by first | exact Nat.le_refl _ | (simp; done) | (simp; omega)))
  have B15 := Lib.hid (B14.out.trans (d15.mono B14.out.size))
  have Vbp_15 := Lib.hid (Vbp_14.out.below d15)
  have Ow_15 := Lib.hid (Ow_14.out.below d15)
  have Vxp_15 := Lib.hid (Vxp_14.out.below d15)
  have Rg_15 := Lib.hid (Rg_14.out.below d15)
  have Oh_15 := Lib.hid (Oh.out.below d15)
  clear Vbp_14 Ow_14 Vxp_14 Rg_14 Oh c_Vbp_0 c_Vbp_1 lt_Vbp c_Vxp_0 c_Vxp_1 lt_Vxp b15 d15
  have c_Vbp_0 := Vbp_15.out.cell 0 _ rfl
  have c_Vbp_1 := Vbp_15.out.cell 1 _ rfl
  have lt_Vbp := Vbp_15.out.lt
  have c_Vxp_0 := Vxp_15.out.cell 0 _ rfl
  have c_Vxp_1 := Vxp_15.out.cell 1 _ rfl
  have lt_Vxp := Vxp_15.out.lt
  go_wp2_with fail
  refine (Calls.mono (Mem.heldStringSSR g cg T m1 HM.out _ Rg_15.out.arg hT)) ?_
  rintro e w16 ⟨rfl, b16⟩
  have hs16 : w15.heap.size ≤ w16.heap.size := b16.size
  have d16 : Below w15.heap.size w15 w16 := (Below.refl w15.heap.size w15).trans (b16.mono (show w15.heap.size ≤ w15.heap.size by first | exact Nat.le_refl _ | (simp; done) | (simp; omega)))
  have B16 := Lib.hid (B15.out.trans (d16.mono B15.out.size))
  have Vbp_16 := Lib.hid (Vbp_15.out.below d16)
  have Ow_16 := Lib.hid (Ow_15.out.below d16)
  have Vxp_16 := Lib.hid (Vxp_15.out.below d16)
  have Rg_16 := Lib.hid (Rg_15.out.below d16)
  have Oh_16 := Lib.hid (Oh_15.out.below d16)
  clear Vbp_15 Ow_15 Vxp_15 Rg_15 Oh_15 c_Vbp_0 c_Vbp_1 lt_Vbp c_Vxp_0 c_Vxp_1 lt_Vxp b16 d16
  have c_Vbp_0 := Vbp_16.out.cell 0 _ rfl
  have c_Vbp_1 := Vbp_16.out.cell 1 _ rfl
  have lt_Vbp := Vbp_16.out.lt
  have c_Vxp_0 := Vxp_16.out.cell 0 _ rfl
  have c_Vxp_1 := Vxp_16.out.cell 1 _ rfl
  have lt_Vxp := Vxp_16.out.lt
  go_wp2
  go_ret
  exact ⟨rfl, B16.out⟩
 ·simp only [if_neg htp] at SZ
  have HS0 := Lib.hid SZ
  clear SZ hwfp
  have B0 := Lib.hid (Below.refl w0.heap.size w0)
  go_enter Tryz.func7, Tryz.ntmps7
  go_wp2_with fail
  refine (Calls.mono (HS0.out _ (hp.below (B0.out.trans (((Below.refl w0.heap.size w0).alloc (by first | (simp; done) | (simp; omega)) (Obj.cells #[Value.slice A0p x0p.length c0p, Value.slice A1p x1p.length c1p] 56)).mono B0.out.size))))) ?_
  rintro e w1 ⟨rfl, b1⟩
  have hs1 : (w0.alloc (Obj.cells #[Value.slice A0p x0p.length c0p, Value.slice A1p x1p.length c1p] 56)).heap.size ≤ w1.heap.size := b1.size
  simp only [World.size_alloc] at hs1
  have d1 : Below w0.heap.size w0 w1 := ((Below.refl w0.heap.size w0).alloc (by first | (simp; done) | (simp; omega)) (Obj.cells #[Value.slice A0p x0p.length c0p, Value.slice A1p x1p.length c1p] 56)).trans (b1.mono (show w0.heap.size ≤ (w0.alloc (Obj.cells #[Value.slice A0p x0p.length c0p, Value.slice A1p x1p.length c1p] 56)).heap.size by first | exact Nat.le_refl _ | (simp; done) | (simp; omega)))
  have B1 := Lib.hid (B0.out.trans (d1.mono B0.out.size))
  have Vbp_1 := Lib.hid ((Lvar.new w0 #[Value.slice A0p x0p.length c0p, Value.slice A1p x1p.length c1p] 56).below b1)
  clear b1 d1
  have c_Vbp_0 := Vbp_1.out.cell 0 _ rfl
  have c_Vbp_1 := Vbp_1.out.cell 1 _ rfl
  have lt_Vbp := Vbp_1.out.lt
  go_wp2
  go_ret
  exact ⟨rfl, B1.out⟩
end LawComponentsOf
end Go.Proofs.YtbbllkhmenpnlaaGreat

/- At every argument, impl.ComponentsOf answers as its model, writes nothing into its arguments and answers in new memory: the law FnExactComponentsOf returns true. There is no condition. -/
namespace Go.Proofs.YtbbllkhmenpnlaaGreat
open Go.ChangeShapes Go.WideShapes Go.ChangeAt Go.RowKit
open Go.ChangeMaps (open_string shut_string)
namespace LiftComponentsOf


set_option maxRecDepth 100000 in
theorem lifted (os : Os) (started : os.Started) (H : Type) (enc : TypeId × Value → H) :
  ReturnsInHanded {} Tryz.checked os 7 .any (Rows.fnExactComponentsOfSpec.pre6 enc Tryz.prog Tryz.f7 Rows.fnExactComponentsOfRow.domain false) (Rows.fnExactComponentsOfSpec.post enc Tryz.prog Tryz.f7 false true false false) := by
 refine returnsInHanded_of_change (C := Tryz.checked) Frame.own started (by kernel_rfl) Tryz.func7
  (ChangeSpec.witness6 (enc := enc) (C := Tryz.checked) false ⟨#[], #[.agg #[.slice none 0 0, .slice none 0 0]], []⟩ 8 (by kernel_rfl) (by kernel_rfl) (by kernel_rfl) (by kernel_rfl)) ?_
 intro W base args ds gs before hval0 hW _ _
 have hW' := hW
 have hval : ∀ (j : Nat) t v, Tryz.f7.params[j]? = some t → args[j]? = some v → Value.okWide Tryz.prog W .any base t v := hval0
 obtain ⟨p, q, hA0, hV, rfl, hfz, hnd⟩ := hW
 have hA : DataW.TrodAll enc Tryz.prog W 0 (fun _ => true) true Tryz.f7.params.toList args.toList ds p := hA0
 rw [Tryz.params7] at hA hval
 obtain ⟨v0, d0, rfl, rfl, h0⟩ := trodAll_one hA
 have hlt := fun x hx => hW'.lt x hx
 obtain ⟨rfl, rfl⟩ := trodVars_none hV
 obtain ⟨A0p, c0p, x0p, A1p, c1p, x1p, rfl, hrp, hwp⟩ := Frame.openU_Program (W := W) (hval 0 56 v0 rfl rfl) h0 (fun x hx => hlt x (by simp [hx]))
 refine (LawComponentsOf.walk A0p c0p x0p A1p c1p x1p W hrp hwp).mono fun e W' ⟨he, hb⟩ => ?_
 subst he
 exact ⟨_, rfl, Frame.law_post (tb := 4) Frame.laidOut (by kernel_rfl) (by kernel_rfl) (by kernel_rfl) Tryz.underlying4 hW' rfl hb⟩
end LiftComponentsOf
end Go.Proofs.YtbbllkhmenpnlaaGreat
