import Derived.Test.YtbbllkhmenpnlaaGreatFrame
import Derived.Test.YtbbllkhmenpnlaaGreatFProgram
import Derived.Test.YtbbllkhmenpnlaaGreatFSString
import Derived.Test.YtbbllkhmenpnlaaGreatGSEdge
import Derived.Test.YtbbllkhmenpnlaaGreatInnerS
import Derived.Deep.RegionHeld3
import Derived.SliceStrings
/- The walk of FnExactInnerEdges. -/
namespace Go.Proofs.YtbbllkhmenpnlaaGreat
open Go.ChangeShapes Go.WideShapes Go.ChangeAt Go.RowKit
open Go.ChangeMaps (open_string shut_string)
namespace LawInnerEdges
open RowK Mem
set_option maxHeartbeats 4000000 in
set_option maxRecDepth 100000 in
theorem walk (A0p : Option Addr) (c0p : Nat) (x0p : List Mem.FunctionT) (A1p : Option Addr) (c1p : Nat) (x1p : List Mem.RuleT) (Al : Option Addr) (cl : Nat) (xl : List ByteArray) (w0 : World) (hp : Mem.ArgR Mem.prg w0 [.slice A0p x0p.length c0p, .slice A1p x1p.length c1p] (x0p, x1p)) (hwfp : Mem.WfProgramU (x0p, x1p)) (hl : Mem.ArgS Mem.strR w0 Al xl.length cl xl) (hlenl : xl.length ≤ 9223372036854775807) (hwfl : ∀ e ∈ xl, Mem.WfStr e) :
  Calls Tryz.prog 8 #[.agg #[.slice A0p x0p.length c0p, .slice A1p x1p.length c1p], .slice Al xl.length cl] w0 fun e w' => e = .returned (.bool true) ∧ Below w0.heap.size w0 w' := by
 have SZ := fun W (h : Mem.ArgR Mem.prg W [.slice A0p x0p.length c0p, .slice A1p x1p.length c1p] (x0p, x1p)) => Mem.sizeProgramA A0p c0p x0p A1p c1p x1p 1048576 W h (by omega) hwfp
 unfold IntK.leftOf at SZ
 by_cases htp : Mem.szProgramU (x0p, x1p) ≤ 1048576
 ·simp only [if_pos htp] at SZ
  have HS0 := Lib.hid SZ
  have hnp : Mem.szProgramU (x0p, x1p) ≤ 100000000 := by omega
  clear SZ
  obtain ⟨t0, hte0⟩ : ∃ t : Nat, t = 1048576 - Mem.szProgramU (x0p, x1p) := ⟨_, rfl⟩
  have htc0 : ((1048576 : Nat) : Int) - ((Mem.szProgramU (x0p, x1p) : Nat) : Int) = (t0 : Int) := by omega
  have htl0 : t0 ≤ 1048576 := by omega
  rw [htc0] at HS0
  clear hte0 htc0
  have SZ := fun W (h : Mem.ArgS Mem.strR W Al xl.length cl xl) => Mem.sizeStringSA Al cl t0 xl W h (by omega) hlenl hwfl
  unfold IntK.leftOf at SZ
  by_cases htl : (xl.length + Mem.szs Mem.szStr xl) ≤ t0
  ·simp only [if_pos htl] at SZ
   have HS1 := Lib.hid SZ
   have hnl : (xl.length + Mem.szs Mem.szStr xl) ≤ 100000000 := by omega
   clear SZ
   have hnvp := Mem.nvProgram_le (x0p, x1p)
   obtain ⟨k1p, hk1p⟩ : ∃ k : Nat, k = 1 + Mem.nvProgram (x0p, x1p) := ⟨_, rfl⟩
   have hkbp : 1 ≤ k1p ∧ k1p ≤ 10000000 := by omega
   have hkzp : decide ((k1p : Int) < 0) = false := decide_eq_false (by omega)
   have HKp := Lib.hid hk1p
   clear hk1p hnvp
   have hnvl := Mem.szs_bound Mem.nStr_le xl
   obtain ⟨k1l, hk1l⟩ : ∃ k : Nat, k = k1p + Mem.szs Mem.nStr xl := ⟨_, rfl⟩
   have hkbl : 1 ≤ k1l ∧ k1l ≤ 20000000 := by omega
   have hkzl : decide ((k1l : Int) < 0) = false := decide_eq_false (by omega)
   have HKl := Lib.hid hk1l
   clear hk1l hnvl
   have hp9 : Mem.szProgramU (x0p, x1p) ≤ 9000000 := by omega
   have hs9 : xl.length ≤ 1000000000 := by omega
   have SP := fun A c B d L lc W (h : Mem.ArgR Mem.prg W [.slice A x0p.length c, .slice B x1p.length d] (x0p, x1p)) (h2 : Mem.ArgS Mem.strR W L xl.length lc xl) => GraphS.innerEdges A B L c d lc x0p x1p xl W (Mem.arg_prg h).1 (Mem.arg_prg h).2 h2 hp9 hs9
   have IM := fun A c B d L lc W (h : Mem.ArgR Mem.prg W [.slice A x0p.length c, .slice B x1p.length d] (x0p, x1p)) (h2 : Mem.ArgS Mem.strR W L xl.length lc xl) => GraphI.innerEdges A B L c d lc x0p x1p xl W (Mem.arg_prg h).1 (Mem.arg_prg h).2 h2 hp9 hs9
   have hT := GraphM.edges_small2 (ProgM.progV x0p x1p) (GraphM.innerP x1p xl) (show x1p.length + Mem.szs Mem.szRuleU x1p ≤ 9000000 by simp only [Mem.szProgramU] at hp9; omega)
   unfold GraphM.GaveE at SP IM
   generalize (if ProgM.progV x0p x1p = true then (GraphM.edgesA x1p).filter (GraphM.innerP x1p xl) else []) = T at *
   have hT : T.length + Mem.szs Mem.szEdgeU T ≤ 100000000 := by omega
   have SP := Lib.hid SP
   have IM := Lib.hid IM
   clear hp9 hs9
   have hnvT := Mem.szs_bound Mem.nEdgeU_le T
   obtain ⟨m1, hm1⟩ : ∃ k : Nat, k = 1 + Mem.szs Mem.nEdgeU T := ⟨_, rfl⟩
   have hmb : 1 ≤ m1 ∧ m1 ≤ 1000000000 := by omega
   have hmz : decide ((m1 : Int) < 0) = false := decide_eq_false (by omega)
   have HM := Lib.hid hm1
   clear hm1 hnvT
   clear hwfp
   clear hwfl hlenl
   have B0 := Lib.hid (Below.refl w0.heap.size w0)
   go_enter Tryz.func8, Tryz.ntmps8
   go_wp2_with fail
   refine (Calls.mono (HS0.out _ (hp.below (B0.out.trans (((Below.refl w0.heap.size w0).alloc (by first | (simp; done) | (simp; omega)) (Obj.cells #[Value.slice A0p x0p.length c0p, Value.slice A1p x1p.length c1p] 56)).mono B0.out.size))))) ?_
   rintro e w1 ⟨rfl, b1⟩
   have hs1 : (w0.alloc (Obj.cells #[Value.slice A0p x0p.length c0p, Value.slice A1p x1p.length c1p] 56)).heap.size ≤ w1.heap.size := b1.size
   simp only [World.size_alloc] at hs1
   have d1 : Below w0.heap.size w0 w1 := ((Below.refl w0.heap.size w0).alloc (by first | (simp; done) | (simp; omega)) (Obj.cells #[Value.slice A0p x0p.length c0p, Value.slice A1p x1p.length c1p] 56)).trans (b1.mono (show w0.heap.size ≤ (w0.alloc (Obj.cells #[Value.slice A0p x0p.length c0p, Value.slice A1p x1p.length c1p] 56)).heap.size by first | exact Nat.le_refl _ | (simp; done) | (simp; omega)))
   have B1 := Lib.hid (B0.out.trans (d1.mono B0.out.size))
   have Vbp_1 := Lib.hid ((Lvar.new w0 #[Value.slice A0p x0p.length c0p, Value.slice A1p x1p.length c1p] 56).below b1)
   clear b1 d1
   have c_Vbp_0 := Vbp_1.out.cell 0 _ rfl
   have c_Vbp_1 := Vbp_1.out.cell 1 _ rfl
   have lt_Vbp := Vbp_1.out.lt
   go_wp2_with fail
   refine (Calls.mono (HS1.out _ (hl.below B1.out))) ?_
   rintro e w2 ⟨rfl, b2⟩
   have hs2 : w1.heap.size ≤ w2.heap.size := b2.size
   have d2 : Below w1.heap.size w1 w2 := (Below.refl w1.heap.size w1).trans (b2.mono (show w1.heap.size ≤ w1.heap.size by first | exact Nat.le_refl _ | (simp; done) | (simp; omega)))
   have B2 := Lib.hid (B1.out.trans (d2.mono B1.out.size))
   have Vbp_2 := Lib.hid (Vbp_1.out.below d2)
   clear Vbp_1 c_Vbp_0 c_Vbp_1 lt_Vbp b2 d2
   have c_Vbp_0 := Vbp_2.out.cell 0 _ rfl
   have c_Vbp_1 := Vbp_2.out.cell 1 _ rfl
   have lt_Vbp := Vbp_2.out.lt
   go_wp2_with fail
   refine (Calls.mono (Mem.copyProgramA A0p c0p x0p A1p c1p x1p _ (hp.below B2.out) hnp)) ?_
   rintro e w3 ⟨Tp_0, Tp_1, rfl, otp, b3⟩
   have Otp := Lib.hid (show Mem.OwnR Mem.prg (w2.heap.size) w3.heap.size w3 [.slice Tp_0 x0p.length x0p.length, .slice Tp_1 x1p.length x1p.length] (x0p, x1p) from otp)
   have hs3 : w2.heap.size ≤ w3.heap.size := b3.size
   have d3 : Below w2.heap.size w2 w3 := (Below.refl w2.heap.size w2).trans (b3.mono (show w2.heap.size ≤ w2.heap.size by first | exact Nat.le_refl _ | (simp; done) | (simp; omega)))
   have B3 := Lib.hid (B2.out.trans (d3.mono B2.out.size))
   have Vbp_3 := Lib.hid (Vbp_2.out.below d3)
   clear Vbp_2 c_Vbp_0 c_Vbp_1 lt_Vbp b3 d3
   have c_Vbp_0 := Vbp_3.out.cell 0 _ rfl
   have c_Vbp_1 := Vbp_3.out.cell 1 _ rfl
   have lt_Vbp := Vbp_3.out.lt
   go_wp2_with fail
   refine (Calls.mono (Mem.copyStringSA Al cl xl _ (hl.below B3.out) hnl)) ?_
   rintro e w4 ⟨Tl, rfl, otl, b4⟩
   have Otl := Lib.hid (show Mem.OwnS Mem.strR (w3.heap.size) w4.heap.size w4 Tl xl.length xl.length xl from otl)
   have hs4 : w3.heap.size ≤ w4.heap.size := b4.size
   have d4 : Below w3.heap.size w3 w4 := (Below.refl w3.heap.size w3).trans (b4.mono (show w3.heap.size ≤ w3.heap.size by first | exact Nat.le_refl _ | (simp; done) | (simp; omega)))
   have B4 := Lib.hid (B3.out.trans (d4.mono B3.out.size))
   have Vbp_4 := Lib.hid (Vbp_3.out.below d4)
   have Otp_4 := Lib.hid (Otp.out.below d4)
   clear Vbp_3 Otp c_Vbp_0 c_Vbp_1 lt_Vbp b4 d4
   have c_Vbp_0 := Vbp_4.out.cell 0 _ rfl
   have c_Vbp_1 := Vbp_4.out.cell 1 _ rfl
   have lt_Vbp := Vbp_4.out.lt
   go_wp2_with fail
   refine (Calls.mono (SP.out _ _ _ _ _ _ _ Otp_4.out.arg Otl.out.arg)) ?_
   rintro e w5 ⟨w, cw, rfl, ow, b5⟩
   have Ow := Lib.hid (show Mem.OwnS Mem.edge (w4.heap.size) w5.heap.size w5 w T.length cw T from ow)
   clear ow
   have hs5 : w4.heap.size ≤ w5.heap.size := b5.size
   have d5 : Below w4.heap.size w4 w5 := (Below.refl w4.heap.size w4).trans (b5.mono (show w4.heap.size ≤ w4.heap.size by first | exact Nat.le_refl _ | (simp; done) | (simp; omega)))
   have B5 := Lib.hid (B4.out.trans (d5.mono B4.out.size))
   have Vbp_5 := Lib.hid (Vbp_4.out.below d5)
   have Otp_5 := Lib.hid (Otp_4.out.below d5)
   have Otl_5 := Lib.hid (Otl.out.below d5)
   clear Vbp_4 Otp_4 Otl c_Vbp_0 c_Vbp_1 lt_Vbp b5 d5
   clear Otp_5
   clear Otl_5
   have c_Vbp_0 := Vbp_5.out.cell 0 _ rfl
   have c_Vbp_1 := Vbp_5.out.cell 1 _ rfl
   have lt_Vbp := Vbp_5.out.lt
   go_wp2_with fail
   refine (Calls.mono (Mem.copyProgramA A0p c0p x0p A1p c1p x1p _ (hp.below B5.out) hnp)) ?_
   rintro e w6 ⟨Xp_0, Xp_1, rfl, oxp, b6⟩
   have Oxp := Lib.hid (show Mem.OwnR Mem.prg (w5.heap.size) w6.heap.size w6 [.slice Xp_0 x0p.length x0p.length, .slice Xp_1 x1p.length x1p.length] (x0p, x1p) from oxp)
   have hs6 : w5.heap.size ≤ w6.heap.size := b6.size
   have d6 : Below w5.heap.size w5 w6 := (Below.refl w5.heap.size w5).trans (b6.mono (show w5.heap.size ≤ w5.heap.size by first | exact Nat.le_refl _ | (simp; done) | (simp; omega)))
   have B6 := Lib.hid (B5.out.trans (d6.mono B5.out.size))
   have Vbp_6 := Lib.hid (Vbp_5.out.below d6)
   have Ow_6 := Lib.hid (Ow.out.below d6)
   clear Vbp_5 Ow c_Vbp_0 c_Vbp_1 lt_Vbp b6 d6
   have c_Vbp_0 := Vbp_6.out.cell 0 _ rfl
   have c_Vbp_1 := Vbp_6.out.cell 1 _ rfl
   have lt_Vbp := Vbp_6.out.lt
   go_wp2_with fail
   refine (Calls.mono (Mem.copyStringSA Al cl xl _ (hl.below (B6.out.trans (((Below.refl w6.heap.size w6).alloc (by first | (simp; done) | (simp; omega)) (Obj.cells #[Value.slice Xp_0 x0p.length x0p.length, Value.slice Xp_1 x1p.length x1p.length] 27)).mono B6.out.size))) hnl)) ?_
   rintro e w7 ⟨Xl, rfl, oxl, b7⟩
   simp only [World.size_alloc] at oxl
   have Oxl := Lib.hid (show Mem.OwnS Mem.strR (w6.heap.size + 1) w7.heap.size w7 Xl xl.length xl.length xl from oxl)
   have hs7 : (w6.alloc (Obj.cells #[Value.slice Xp_0 x0p.length x0p.length, Value.slice Xp_1 x1p.length x1p.length] 27)).heap.size ≤ w7.heap.size := b7.size
   simp only [World.size_alloc] at hs7
   have d7 : Below w6.heap.size w6 w7 := ((Below.refl w6.heap.size w6).alloc (by first | (simp; done) | (simp; omega)) (Obj.cells #[Value.slice Xp_0 x0p.length x0p.length, Value.slice Xp_1 x1p.length x1p.length] 27)).trans (b7.mono (show w6.heap.size ≤ (w6.alloc (Obj.cells #[Value.slice Xp_0 x0p.length x0p.length, Value.slice Xp_1 x1p.length x1p.length] 27)).heap.size by first | exact Nat.le_refl _ | (simp; done) | (simp; omega)))
   have B7 := Lib.hid (B6.out.trans (d7.mono B6.out.size))
   have Vbp_7 := Lib.hid (Vbp_6.out.below d7)
   have Ow_7 := Lib.hid (Ow_6.out.below d7)
   have Oxp_7 := Lib.hid (Oxp.out.below d7)
   have Vxp_7 := Lib.hid ((Lvar.new w6 #[Value.slice Xp_0 x0p.length x0p.length, Value.slice Xp_1 x1p.length x1p.length] 27).below b7)
   clear Vbp_6 Ow_6 Oxp c_Vbp_0 c_Vbp_1 lt_Vbp b7 d7
   have c_Vbp_0 := Vbp_7.out.cell 0 _ rfl
   have c_Vbp_1 := Vbp_7.out.cell 1 _ rfl
   have lt_Vbp := Vbp_7.out.lt
   have c_Vxp_0 := Vxp_7.out.cell 0 _ rfl
   have c_Vxp_1 := Vxp_7.out.cell 1 _ rfl
   have lt_Vxp := Vxp_7.out.lt
   go_wp2_with fail
   refine (Calls.mono (IM.out _ _ _ _ _ _ _ Oxp_7.out.arg Oxl.out.arg)) ?_
   rintro e w8 ⟨g, cg, rfl, og, b8⟩
   have Og := Lib.hid (show Mem.OwnS Mem.edge (w7.heap.size) w8.heap.size w8 g T.length cg T from og)
   clear og
   have hs8 : w7.heap.size ≤ w8.heap.size := b8.size
   have d8 : Below w7.heap.size w7 w8 := (Below.refl w7.heap.size w7).trans (b8.mono (show w7.heap.size ≤ w7.heap.size by first | exact Nat.le_refl _ | (simp; done) | (simp; omega)))
   have B8 := Lib.hid (B7.out.trans (d8.mono B7.out.size))
   have Vbp_8 := Lib.hid (Vbp_7.out.below d8)
   have Ow_8 := Lib.hid (Ow_7.out.below d8)
   have Oxp_8 := Lib.hid (Oxp_7.out.below d8)
   have Vxp_8 := Lib.hid (Vxp_7.out.below d8)
   have Oxl_8 := Lib.hid (Oxl.out.below d8)
   clear Vbp_7 Ow_7 Oxp_7 Vxp_7 Oxl c_Vbp_0 c_Vbp_1 lt_Vbp c_Vxp_0 c_Vxp_1 lt_Vxp b8 d8
   have c_Vbp_0 := Vbp_8.out.cell 0 _ rfl
   have c_Vbp_1 := Vbp_8.out.cell 1 _ rfl
   have lt_Vbp := Vbp_8.out.lt
   have c_Vxp_0 := Vxp_8.out.cell 0 _ rfl
   have c_Vxp_1 := Vxp_8.out.cell 1 _ rfl
   have lt_Vxp := Vxp_8.out.lt
   go_wp2_with fail
   refine (Calls.mono (Mem.eqEdgeSR g w cg cw T _ Og.out.arg Ow_8.out.arg hT)) ?_
   rintro e w9 ⟨rfl, b9⟩
   have hs9 : w8.heap.size ≤ w9.heap.size := b9.size
   have d9 : Below w8.heap.size w8 w9 := (Below.refl w8.heap.size w8).trans (b9.mono (show w8.heap.size ≤ w8.heap.size by first | exact Nat.le_refl _ | (simp; done) | (simp; omega)))
   have B9 := Lib.hid (B8.out.trans (d9.mono B8.out.size))
   have Vbp_9 := Lib.hid (Vbp_8.out.below d9)
   have Ow_9 := Lib.hid (Ow_8.out.below d9)
   have Oxp_9 := Lib.hid (Oxp_8.out.below d9)
   have Vxp_9 := Lib.hid (Vxp_8.out.below d9)
   have Oxl_9 := Lib.hid (Oxl_8.out.below d9)
   have Og_9 := Lib.hid (Og.out.below d9)
   clear Vbp_8 Ow_8 Oxp_8 Vxp_8 Oxl_8 Og c_Vbp_0 c_Vbp_1 lt_Vbp c_Vxp_0 c_Vxp_1 lt_Vxp b9 d9
   have c_Vbp_0 := Vbp_9.out.cell 0 _ rfl
   have c_Vbp_1 := Vbp_9.out.cell 1 _ rfl
   have lt_Vbp := Vbp_9.out.lt
   have c_Vxp_0 := Vxp_9.out.cell 0 _ rfl
   have c_Vxp_1 := Vxp_9.out.cell 1 _ rfl
   have lt_Vxp := Vxp_9.out.lt
   go_wp2_with fail
   go_region_held3 (fun w' => w'.cell? ⟨w6.heap.size, 0, none⟩ = some (Value.slice Xp_0 x0p.length x0p.length) ∧ w'.cell? ⟨w6.heap.size, 1, none⟩ = some (Value.slice Xp_1 x1p.length x1p.length) ∧ w'.cell? ⟨w0.heap.size, 0, none⟩ = some (Value.slice A0p x0p.length c0p) ∧ w'.cell? ⟨w0.heap.size, 1, none⟩ = some (Value.slice A1p x1p.length c1p))
    (first | exact ⟨(((Vxp_9.out.below (Below.refl _ _).drew).below b10).below b11).cell 0 _ rfl, (((Vxp_9.out.below (Below.refl _ _).drew).below b10).below b11).cell 1 _ rfl, (((Vbp_9.out.below (Below.refl _ _).drew).below b10).below b11).cell 0 _ rfl, (((Vbp_9.out.below (Below.refl _ _).drew).below b10).below b11).cell 1 _ rfl⟩ | exact ⟨((Vxp_9.out.below (Below.refl _ _).drew).below b10).cell 0 _ rfl, ((Vxp_9.out.below (Below.refl _ _).drew).below b10).cell 1 _ rfl, ((Vbp_9.out.below (Below.refl _ _).drew).below b10).cell 0 _ rfl, ((Vbp_9.out.below (Below.refl _ _).drew).below b10).cell 1 _ rfl⟩ | go_keep)
    (first
     | (go_at_call 28; refine (Calls.mono (Mem.copyProgramA A0p c0p x0p A1p c1p x1p _ (hp.below B9.out.drew) hnp)) ?_; rintro e w10 ⟨C9_0, C9_1, rfl, oc9, b10⟩)
     | (go_at_call 30; refine (Calls.mono (Mem.eqProgramA Xp_0 x0p.length x0p Xp_1 x1p.length x1p C9_0 x0p.length C9_1 x1p.length _ ((Oxp_9.out.below (Below.refl _ _).drew).below b10).arg oc9.arg hnp)) ?_; rintro e w11 ⟨rfl, b11⟩))
   have h10 : w9.heap.size ≤ w10.heap.size := b10.size
   have h11 : w10.heap.size ≤ w11.heap.size := b11.size
   have d11 : Below w9.heap.size w9 w11 := (((Below.refl w9.heap.size w9).drew.trans (b10.mono (show w9.heap.size ≤ w9.heap.size by omega))).trans (b11.mono (show w9.heap.size ≤ w10.heap.size by omega)))
   have hs11 := d11.size
   have B11 := Lib.hid (B9.out.trans (d11.mono B9.out.size))
   have Vbp_11 := Lib.hid (Vbp_9.out.below d11)
   have Ow_11 := Lib.hid (Ow_9.out.below d11)
   have Oxp_11 := Lib.hid (Oxp_9.out.below d11)
   have Vxp_11 := Lib.hid (Vxp_9.out.below d11)
   have Oxl_11 := Lib.hid (Oxl_9.out.below d11)
   have Og_11 := Lib.hid (Og_9.out.below d11)
   clear Vbp_9 Ow_9 Oxp_9 Vxp_9 Oxl_9 Og_9 c_Vbp_0 c_Vbp_1 lt_Vbp c_Vxp_0 c_Vxp_1 lt_Vxp b10 h10 b11 h11 d11
   clear oc9
   have c_Vbp_0 := Vbp_11.out.cell 0 _ rfl
   have c_Vbp_1 := Vbp_11.out.cell 1 _ rfl
   have lt_Vbp := Vbp_11.out.lt
   have c_Vxp_0 := Vxp_11.out.cell 0 _ rfl
   have c_Vxp_1 := Vxp_11.out.cell 1 _ rfl
   have lt_Vxp := Vxp_11.out.lt
   go_wp2_with fail
   refine (Calls.mono (Mem.copyStringSA Al cl xl _ (hl.below B11.out) hnl)) ?_
   rintro e w12 ⟨El, rfl, oexl, b12⟩
   have hs12 : w11.heap.size ≤ w12.heap.size := b12.size
   have d12 : Below w11.heap.size w11 w12 := (Below.refl w11.heap.size w11).trans (b12.mono (show w11.heap.size ≤ w11.heap.size by first | exact Nat.le_refl _ | (simp; done) | (simp; omega)))
   have B12 := Lib.hid (B11.out.trans (d12.mono B11.out.size))
   have Vbp_12 := Lib.hid (Vbp_11.out.below d12)
   have Ow_12 := Lib.hid (Ow_11.out.below d12)
   have Oxp_12 := Lib.hid (Oxp_11.out.below d12)
   have Vxp_12 := Lib.hid (Vxp_11.out.below d12)
   have Oxl_12 := Lib.hid (Oxl_11.out.below d12)
   have Og_12 := Lib.hid (Og_11.out.below d12)
   clear Vbp_11 Ow_11 Oxp_11 Vxp_11 Oxl_11 Og_11 c_Vbp_0 c_Vbp_1 lt_Vbp c_Vxp_0 c_Vxp_1 lt_Vxp b12 d12
   have c_Vbp_0 := Vbp_12.out.cell 0 _ rfl
   have c_Vbp_1 := Vbp_12.out.cell 1 _ rfl
   have lt_Vbp := Vbp_12.out.lt
   have c_Vxp_0 := Vxp_12.out.cell 0 _ rfl
   have c_Vxp_1 := Vxp_12.out.cell 1 _ rfl
   have lt_Vxp := Vxp_12.out.lt
   go_wp2_with fail
   refine (Calls.mono (Mem.eqStringSA Xl El xl.length xl.length xl _ Oxl_12.out.arg oexl.arg hnl)) ?_
   rintro e w13 ⟨rfl, b13⟩
   have hs13 : w12.heap.size ≤ w13.heap.size := b13.size
   have d13 : Below w12.heap.size w12 w13 := (Below.refl w12.heap.size w12).trans (b13.mono (show w12.heap.size ≤ w12.heap.size by first | exact Nat.le_refl _ | (simp; done) | (simp; omega)))
   have B13 := Lib.hid (B12.out.trans (d13.mono B12.out.size))
   have Vbp_13 := Lib.hid (Vbp_12.out.below d13)
   have Ow_13 := Lib.hid (Ow_12.out.below d13)
   have Oxp_13 := Lib.hid (Oxp_12.out.below d13)
   have Vxp_13 := Lib.hid (Vxp_12.out.below d13)
   have Oxl_13 := Lib.hid (Oxl_12.out.below d13)
   have Og_13 := Lib.hid (Og_12.out.below d13)
   clear Vbp_12 Ow_12 Oxp_12 Vxp_12 Oxl_12 Og_12 c_Vbp_0 c_Vbp_1 lt_Vbp c_Vxp_0 c_Vxp_1 lt_Vxp b13 d13
   have c_Vbp_0 := Vbp_13.out.cell 0 _ rfl
   have c_Vbp_1 := Vbp_13.out.cell 1 _ rfl
   have lt_Vbp := Vbp_13.out.lt
   have c_Vxp_0 := Vxp_13.out.cell 0 _ rfl
   have c_Vxp_1 := Vxp_13.out.cell 1 _ rfl
   have lt_Vxp := Vxp_13.out.lt
   go_wp2_with fail
   refine (Calls.mono (Mem.markProgramK (w5.heap.size) w6.heap.size Xp_0 x0p.length x0p Xp_1 x1p.length x1p 1 k1p HKp.out _ Oxp_13.out (by omega) (by omega))) ?_
   rintro e w14 ⟨rfl, rm, b14⟩
   have hs14 := b14.size
   have B14 := Lib.hid (below_mod B13.out b14 (by have := B13.out.size; omega) B13.out.size)
   have Vbp_14 := Lib.hid (Vbp_13.out.keep b14 (by omega))
   have Ow_14 := Lib.hid (Ow_13.out.keep b14 (by omega))
   have Vxp_14 := Lib.hid (Vxp_13.out.keep b14 (by omega))
   have Oxl_14 := Lib.hid (Oxl_13.out.keep b14 (by omega))
   have Og_14 := Lib.hid (Og_13.out.keep b14 (by omega))
   clear Vbp_13 Ow_13 Vxp_13 Oxl_13 Og_13 c_Vbp_0 c_Vbp_1 lt_Vbp c_Vxp_0 c_Vxp_1 lt_Vxp b14
   clear rm Oxp_13
   have c_Vbp_0 := Vbp_14.out.cell 0 _ rfl
   have c_Vbp_1 := Vbp_14.out.cell 1 _ rfl
   have lt_Vbp := Vbp_14.out.lt
   have c_Vxp_0 := Vxp_14.out.cell 0 _ rfl
   have c_Vxp_1 := Vxp_14.out.cell 1 _ rfl
   have lt_Vxp := Vxp_14.out.lt
   go_wp2_with fail
   refine (Calls.mono (Mem.markStringSK (w6.heap.size + 1) w7.heap.size Xl xl.length xl k1p k1l HKl.out _ Oxl_14.out (by omega) (by omega))) ?_
   rintro e w15 ⟨rfl, rm, b15⟩
   have hs15 := b15.size
   have B15 := Lib.hid (below_mod B14.out b15 (by have := B14.out.size; omega) B14.out.size)
   have Vbp_15 := Lib.hid (Vbp_14.out.keep b15 (by omega))
   have Ow_15 := Lib.hid (Ow_14.out.keep b15 (by omega))
   have Vxp_15 := Lib.hid (Vxp_14.out.keep b15 (by omega))
   have Og_15 := Lib.hid (Og_14.out.keep b15 (by omega))
   clear Vbp_14 Ow_14 Vxp_14 Og_14 c_Vbp_0 c_Vbp_1 lt_Vbp c_Vxp_0 c_Vxp_1 lt_Vxp b15
   clear rm Oxl_14
   have c_Vbp_0 := Vbp_15.out.cell 0 _ rfl
   have c_Vbp_1 := Vbp_15.out.cell 1 _ rfl
   have lt_Vbp := Vbp_15.out.lt
   have c_Vxp_0 := Vxp_15.out.cell 0 _ rfl
   have c_Vxp_1 := Vxp_15.out.cell 1 _ rfl
   have lt_Vxp := Vxp_15.out.lt
   go_wp2_with fail
   refine (Calls.mono (Mem.eqEdgeSR g w cg cw T _ Og_15.out.arg Ow_15.out.arg hT)) ?_
   rintro e w16 ⟨rfl, b16⟩
   have hs16 : w15.heap.size ≤ w16.heap.size := b16.size
   have d16 : Below w15.heap.size w15 w16 := (Below.refl w15.heap.size w15).trans (b16.mono (show w15.heap.size ≤ w15.heap.size by first | exact Nat.le_refl _ | (simp; done) | (simp; omega)))
   have B16 := Lib.hid (B15.out.trans (d16.mono B15.out.size))
   have Vbp_16 := Lib.hid (Vbp_15.out.below d16)
   have Ow_16 := Lib.hid (Ow_15.out.below d16)
   have Vxp_16 := Lib.hid (Vxp_15.out.below d16)
   have Og_16 := Lib.hid (Og_15.out.below d16)
   clear Vbp_15 Ow_15 Vxp_15 Og_15 c_Vbp_0 c_Vbp_1 lt_Vbp c_Vxp_0 c_Vxp_1 lt_Vxp b16 d16
   have c_Vbp_0 := Vbp_16.out.cell 0 _ rfl
   have c_Vbp_1 := Vbp_16.out.cell 1 _ rfl
   have lt_Vbp := Vbp_16.out.lt
   have c_Vxp_0 := Vxp_16.out.cell 0 _ rfl
   have c_Vxp_1 := Vxp_16.out.cell 1 _ rfl
   have lt_Vxp := Vxp_16.out.lt
   go_wp2_with fail
   refine (Calls.mono (Mem.markEdgeSR (w7.heap.size) w8.heap.size g cg T m1 HM.out _ Og_16.out hT)) ?_
   rintro e w17 ⟨rfl, rm, b17⟩
   have hs17 := b17.size
   have B17 := Lib.hid (below_mod B16.out b17 (by have := B16.out.size; omega) B16.out.size)
   have Vbp_17 := Lib.hid (Vbp_16.out.keep b17 (by omega))
   have Ow_17 := Lib.hid (Ow_16.out.keep b17 (by omega))
   have Vxp_17 := Lib.hid (Vxp_16.out.keep b17 (by omega))
   clear Vbp_16 Ow_16 Vxp_16 c_Vbp_0 c_Vbp_1 lt_Vbp c_Vxp_0 c_Vxp_1 lt_Vxp b17
   have Rg := Lib.hid rm
   clear rm Og_16
   have c_Vbp_0 := Vbp_17.out.cell 0 _ rfl
   have c_Vbp_1 := Vbp_17.out.cell 1 _ rfl
   have lt_Vbp := Vbp_17.out.lt
   have c_Vxp_0 := Vxp_17.out.cell 0 _ rfl
   have c_Vxp_1 := Vxp_17.out.cell 1 _ rfl
   have lt_Vxp := Vxp_17.out.lt
   go_wp2_with fail
   refine (Calls.mono (Mem.heldEdgeSR g cg T m1 HM.out _ Rg.out.arg hT)) ?_
   rintro e w18 ⟨rfl, b18⟩
   have hs18 : w17.heap.size ≤ w18.heap.size := b18.size
   have d18 : Below w17.heap.size w17 w18 := (Below.refl w17.heap.size w17).trans (b18.mono (show w17.heap.size ≤ w17.heap.size by first | exact Nat.le_refl _ | (simp; done) | (simp; omega)))
   have B18 := Lib.hid (B17.out.trans (d18.mono B17.out.size))
   have Vbp_18 := Lib.hid (Vbp_17.out.below d18)
   have Ow_18 := Lib.hid (Ow_17.out.below d18)
   have Vxp_18 := Lib.hid (Vxp_17.out.below d18)
   have Rg_18 := Lib.hid (Rg.out.below d18)
   clear Vbp_17 Ow_17 Vxp_17 Rg c_Vbp_0 c_Vbp_1 lt_Vbp c_Vxp_0 c_Vxp_1 lt_Vxp b18 d18
   have c_Vbp_0 := Vbp_18.out.cell 0 _ rfl
   have c_Vbp_1 := Vbp_18.out.cell 1 _ rfl
   have lt_Vbp := Vbp_18.out.lt
   have c_Vxp_0 := Vxp_18.out.cell 0 _ rfl
   have c_Vxp_1 := Vxp_18.out.cell 1 _ rfl
   have lt_Vxp := Vxp_18.out.lt
   go_wp2_with fail
   refine (Calls.mono (Mem.copyProgramA A0p c0p x0p A1p c1p x1p _ (hp.below B18.out) hnp)) ?_
   rintro e w19 ⟨Up_0, Up_1, rfl, oup, b19⟩
   have Oup := Lib.hid (show Mem.OwnR Mem.prg (w18.heap.size) w19.heap.size w19 [.slice Up_0 x0p.length x0p.length, .slice Up_1 x1p.length x1p.length] (x0p, x1p) from oup)
   have hs19 : w18.heap.size ≤ w19.heap.size := b19.size
   have d19 : Below w18.heap.size w18 w19 := (Below.refl w18.heap.size w18).trans (b19.mono (show w18.heap.size ≤ w18.heap.size by first | exact Nat.le_refl _ | (simp; done) | (simp; omega)))
   have B19 := Lib.hid (B18.out.trans (d19.mono B18.out.size))
   have Vbp_19 := Lib.hid (Vbp_18.out.below d19)
   have Ow_19 := Lib.hid (Ow_18.out.below d19)
   have Vxp_19 := Lib.hid (Vxp_18.out.below d19)
   have Rg_19 := Lib.hid (Rg_18.out.below d19)
   clear Vbp_18 Ow_18 Vxp_18 Rg_18 c_Vbp_0 c_Vbp_1 lt_Vbp c_Vxp_0 c_Vxp_1 lt_Vxp b19 d19
   have c_Vbp_0 := Vbp_19.out.cell 0 _ rfl
   have c_Vbp_1 := Vbp_19.out.cell 1 _ rfl
   have lt_Vbp := Vbp_19.out.lt
   have c_Vxp_0 := Vxp_19.out.cell 0 _ rfl
   have c_Vxp_1 := Vxp_19.out.cell 1 _ rfl
   have lt_Vxp := Vxp_19.out.lt
   go_wp2_with fail
   refine (Calls.mono (Mem.copyStringSA Al cl xl _ (hl.below B19.out) hnl)) ?_
   rintro e w20 ⟨Ul, rfl, oul, b20⟩
   have Oul := Lib.hid (show Mem.OwnS Mem.strR (w19.heap.size) w20.heap.size w20 Ul xl.length xl.length xl from oul)
   have hs20 : w19.heap.size ≤ w20.heap.size := b20.size
   have d20 : Below w19.heap.size w19 w20 := (Below.refl w19.heap.size w19).trans (b20.mono (show w19.heap.size ≤ w19.heap.size by first | exact Nat.le_refl _ | (simp; done) | (simp; omega)))
   have B20 := Lib.hid (B19.out.trans (d20.mono B19.out.size))
   have Vbp_20 := Lib.hid (Vbp_19.out.below d20)
   have Ow_20 := Lib.hid (Ow_19.out.below d20)
   have Vxp_20 := Lib.hid (Vxp_19.out.below d20)
   have Rg_20 := Lib.hid (Rg_19.out.below d20)
   have Oup_20 := Lib.hid (Oup.out.below d20)
   clear Vbp_19 Ow_19 Vxp_19 Rg_19 Oup c_Vbp_0 c_Vbp_1 lt_Vbp c_Vxp_0 c_Vxp_1 lt_Vxp b20 d20
   have c_Vbp_0 := Vbp_20.out.cell 0 _ rfl
   have c_Vbp_1 := Vbp_20.out.cell 1 _ rfl
   have lt_Vbp := Vbp_20.out.lt
   have c_Vxp_0 := Vxp_20.out.cell 0 _ rfl
   have c_Vxp_1 := Vxp_20.out.cell 1 _ rfl
   have lt_Vxp := Vxp_20.out.lt
   go_wp2_with fail
   refine (Calls.mono (IM.out _ _ _ _ _ _ _ Oup_20.out.arg Oul.out.arg)) ?_
   rintro e w21 ⟨h, ch, rfl, oh, b21⟩
   have Oh := Lib.hid (show Mem.OwnS Mem.edge (w20.heap.size) w21.heap.size w21 h T.length ch T from oh)
   clear oh
   have hs21 : w20.heap.size ≤ w21.heap.size := b21.size
   have d21 : Below w20.heap.size w20 w21 := (Below.refl w20.heap.size w20).trans (b21.mono (show w20.heap.size ≤ w20.heap.size by first | exact Nat.le_refl _ | (simp; done) | (simp; omega)))
   have B21 := Lib.hid (B20.out.trans (d21.mono B20.out.size))
   have Vbp_21 := Lib.hid (Vbp_20.out.below d21)
   have Ow_21 := Lib.hid (Ow_20.out.below d21)
   have Vxp_21 := Lib.hid (Vxp_20.out.below d21)
   have Rg_21 := Lib.hid (Rg_20.out.below d21)
   have Oup_21 := Lib.hid (Oup_20.out.below d21)
   have Oul_21 := Lib.hid (Oul.out.below d21)
   clear Vbp_20 Ow_20 Vxp_20 Rg_20 Oup_20 Oul c_Vbp_0 c_Vbp_1 lt_Vbp c_Vxp_0 c_Vxp_1 lt_Vxp b21 d21
   clear Oup_21
   clear Oul_21
   have c_Vbp_0 := Vbp_21.out.cell 0 _ rfl
   have c_Vbp_1 := Vbp_21.out.cell 1 _ rfl
   have lt_Vbp := Vbp_21.out.lt
   have c_Vxp_0 := Vxp_21.out.cell 0 _ rfl
   have c_Vxp_1 := Vxp_21.out.cell 1 _ rfl
   have lt_Vxp := Vxp_21.out.lt
   go_wp2_with fail
   refine (Calls.mono (Mem.eqEdgeSR h w ch cw T _ Oh.out.arg Ow_21.out.arg hT)) ?_
   rintro e w22 ⟨rfl, b22⟩
   have hs22 : w21.heap.size ≤ w22.heap.size := b22.size
   have d22 : Below w21.heap.size w21 w22 := (Below.refl w21.heap.size w21).trans (b22.mono (show w21.heap.size ≤ w21.heap.size by first | exact Nat.le_refl _ | (simp; done) | (simp; omega)))
   have B22 := Lib.hid (B21.out.trans (d22.mono B21.out.size))
   have Vbp_22 := Lib.hid (Vbp_21.out.below d22)
   have Ow_22 := Lib.hid (Ow_21.out.below d22)
   have Vxp_22 := Lib.hid (Vxp_21.out.below d22)
   have Rg_22 := Lib.hid (Rg_21.out.below d22)
   have Oh_22 := Lib.hid (Oh.out.below d22)
   clear Vbp_21 Ow_21 Vxp_21 Rg_21 Oh c_Vbp_0 c_Vbp_1 lt_Vbp c_Vxp_0 c_Vxp_1 lt_Vxp b22 d22
   have c_Vbp_0 := Vbp_22.out.cell 0 _ rfl
   have c_Vbp_1 := Vbp_22.out.cell 1 _ rfl
   have lt_Vbp := Vbp_22.out.lt
   have c_Vxp_0 := Vxp_22.out.cell 0 _ rfl
   have c_Vxp_1 := Vxp_22.out.cell 1 _ rfl
   have lt_Vxp := Vxp_22.out.lt
   go_wp2_with fail
   refine (Calls.mono (Mem.heldEdgeSR g cg T m1 HM.out _ Rg_22.out.arg hT)) ?_
   rintro e w23 ⟨rfl, b23⟩
   have hs23 : w22.heap.size ≤ w23.heap.size := b23.size
   have d23 : Below w22.heap.size w22 w23 := (Below.refl w22.heap.size w22).trans (b23.mono (show w22.heap.size ≤ w22.heap.size by first | exact Nat.le_refl _ | (simp; done) | (simp; omega)))
   have B23 := Lib.hid (B22.out.trans (d23.mono B22.out.size))
   have Vbp_23 := Lib.hid (Vbp_22.out.below d23)
   have Ow_23 := Lib.hid (Ow_22.out.below d23)
   have Vxp_23 := Lib.hid (Vxp_22.out.below d23)
   have Rg_23 := Lib.hid (Rg_22.out.below d23)
   have Oh_23 := Lib.hid (Oh_22.out.below d23)
   clear Vbp_22 Ow_22 Vxp_22 Rg_22 Oh_22 c_Vbp_0 c_Vbp_1 lt_Vbp c_Vxp_0 c_Vxp_1 lt_Vxp b23 d23
   have c_Vbp_0 := Vbp_23.out.cell 0 _ rfl
   have c_Vbp_1 := Vbp_23.out.cell 1 _ rfl
   have lt_Vbp := Vbp_23.out.lt
   have c_Vxp_0 := Vxp_23.out.cell 0 _ rfl
   have c_Vxp_1 := Vxp_23.out.cell 1 _ rfl
   have lt_Vxp := Vxp_23.out.lt
   go_wp2
   go_ret
   exact ⟨rfl, B23.out⟩
  ·simp only [if_neg htl] at SZ
   have HS1 := Lib.hid SZ
   clear SZ hlenl hwfl
   have B0 := Lib.hid (Below.refl w0.heap.size w0)
   go_enter Tryz.func8, Tryz.ntmps8
   go_wp2_with fail
   refine (Calls.mono (HS0.out _ (hp.below (B0.out.trans (((Below.refl w0.heap.size w0).alloc (by first | (simp; done) | (simp; omega)) (Obj.cells #[Value.slice A0p x0p.length c0p, Value.slice A1p x1p.length c1p] 56)).mono B0.out.size))))) ?_
   rintro e w1 ⟨rfl, b1⟩
   have hs1 : (w0.alloc (Obj.cells #[Value.slice A0p x0p.length c0p, Value.slice A1p x1p.length c1p] 56)).heap.size ≤ w1.heap.size := b1.size
   simp only [World.size_alloc] at hs1
   have d1 : Below w0.heap.size w0 w1 := ((Below.refl w0.heap.size w0).alloc (by first | (simp; done) | (simp; omega)) (Obj.cells #[Value.slice A0p x0p.length c0p, Value.slice A1p x1p.length c1p] 56)).trans (b1.mono (show w0.heap.size ≤ (w0.alloc (Obj.cells #[Value.slice A0p x0p.length c0p, Value.slice A1p x1p.length c1p] 56)).heap.size by first | exact Nat.le_refl _ | (simp; done) | (simp; omega)))
   have B1 := Lib.hid (B0.out.trans (d1.mono B0.out.size))
   have Vbp_1 := Lib.hid ((Lvar.new w0 #[Value.slice A0p x0p.length c0p, Value.slice A1p x1p.length c1p] 56).below b1)
   clear b1 d1
   have c_Vbp_0 := Vbp_1.out.cell 0 _ rfl
   have c_Vbp_1 := Vbp_1.out.cell 1 _ rfl
   have lt_Vbp := Vbp_1.out.lt
   go_wp2_with fail
   refine (Calls.mono (HS1.out _ (hl.below B1.out))) ?_
   rintro e w2 ⟨rfl, b2⟩
   have hs2 : w1.heap.size ≤ w2.heap.size := b2.size
   have d2 : Below w1.heap.size w1 w2 := (Below.refl w1.heap.size w1).trans (b2.mono (show w1.heap.size ≤ w1.heap.size by first | exact Nat.le_refl _ | (simp; done) | (simp; omega)))
   have B2 := Lib.hid (B1.out.trans (d2.mono B1.out.size))
   have Vbp_2 := Lib.hid (Vbp_1.out.below d2)
   clear Vbp_1 c_Vbp_0 c_Vbp_1 lt_Vbp b2 d2
   have c_Vbp_0 := Vbp_2.out.cell 0 _ rfl
   have c_Vbp_1 := Vbp_2.out.cell 1 _ rfl
   have lt_Vbp := Vbp_2.out.lt
   go_wp2
   go_ret
   exact ⟨rfl, B2.out⟩
 ·simp only [if_neg htp] at SZ
  have HS0 := Lib.hid SZ
  clear SZ hwfp
  have B0 := Lib.hid (Below.refl w0.heap.size w0)
  go_enter Tryz.func8, Tryz.ntmps8
  go_wp2_with fail
  refine (Calls.mono (HS0.out _ (hp.below (B0.out.trans (((Below.refl w0.heap.size w0).alloc (by first | (simp; done) | (simp; omega)) (Obj.cells #[Value.slice A0p x0p.length c0p, Value.slice A1p x1p.length c1p] 56)).mono B0.out.size))))) ?_
  rintro e w1 ⟨rfl, b1⟩
  have hs1 : (w0.alloc (Obj.cells #[Value.slice A0p x0p.length c0p, Value.slice A1p x1p.length c1p] 56)).heap.size ≤ w1.heap.size := b1.size
  simp only [World.size_alloc] at hs1
  have d1 : Below w0.heap.size w0 w1 := ((Below.refl w0.heap.size w0).alloc (by first | (simp; done) | (simp; omega)) (Obj.cells #[Value.slice A0p x0p.length c0p, Value.slice A1p x1p.length c1p] 56)).trans (b1.mono (show w0.heap.size ≤ (w0.alloc (Obj.cells #[Value.slice A0p x0p.length c0p, Value.slice A1p x1p.length c1p] 56)).heap.size by first | exact Nat.le_refl _ | (simp; done) | (simp; omega)))
  have B1 := Lib.hid (B0.out.trans (d1.mono B0.out.size))
  have Vbp_1 := Lib.hid ((Lvar.new w0 #[Value.slice A0p x0p.length c0p, Value.slice A1p x1p.length c1p] 56).below b1)
  clear b1 d1
  have c_Vbp_0 := Vbp_1.out.cell 0 _ rfl
  have c_Vbp_1 := Vbp_1.out.cell 1 _ rfl
  have lt_Vbp := Vbp_1.out.lt
  go_wp2
  go_ret
  exact ⟨rfl, B1.out⟩
end LawInnerEdges
end Go.Proofs.YtbbllkhmenpnlaaGreat
