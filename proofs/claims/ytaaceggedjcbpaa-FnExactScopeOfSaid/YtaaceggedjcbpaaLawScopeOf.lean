import Derived.Test.YtaaceggedjcbpaaRows
import Derived.Test.YtaaceggedjcbpaaFrame
import Derived.Test.YtaaceggedjcbpaaFProgram
import Derived.Test.YtaaceggedjcbpaaPgmArg2
import Derived.Test.YtaaceggedjcbpaaStrEq
import Derived.Deep.RegionHeld3
import Derived.SliceStrings
/- At every program, rule and integer, impl.ScopeOf answers as its model, writes nothing into its arguments and answers in new memory: the law FnExactScopeOf returns true. There is no condition. -/
namespace Go.Proofs.Ytaaceggedjcbpaa
open Go.ChangeShapes Go.WideShapes Go.ChangeAt Go.RowKit
open Go.ChangeMaps (open_string shut_string)
namespace LawScopeOf
open RowK Mem
set_option maxHeartbeats 4000000 in
set_option maxRecDepth 100000 in
theorem walk (A0p : Option Addr) (c0p : Nat) (x0p : List Mem.FunctionT) (A1p : Option Addr) (c1p : Nat) (x1p : List Mem.RuleT) (z0r : ByteArray) (A1r : Option Addr) (c1r : Nat) (x1r : List Mem.PatternT) (A2r : Option Addr) (c2r : Nat) (x2r : List Mem.SumT) (A3r : Option Addr) (c3r : Nat) (x3r : List Mem.CallT) (z4r : Bool) (A5r : Option Addr) (c5r : Nat) (x5r : List Mem.SumT) (z6r : ByteArray) (n : Int) (w0 : World) (hp : Mem.ArgR Mem.prg w0 [.slice A0p x0p.length c0p, .slice A1p x1p.length c1p] (x0p, x1p)) (hwfp : Mem.WfProgramU (x0p, x1p)) (hr : Mem.ArgR Mem.rule w0 [.string z0r, .slice A1r x1r.length c1r, .slice A2r x2r.length c2r, .slice A3r x3r.length c3r, .bool z4r, .slice A5r x5r.length c5r, .string z6r] (z0r, x1r, x2r, x3r, (z4r, x5r, z6r))) (hwfr : Mem.WfRuleU (z0r, x1r, x2r, x3r, (z4r, x5r, z6r)))  :
    Calls Try.prog 4 #[.agg #[.slice A0p x0p.length c0p, .slice A1p x1p.length c1p], .agg #[.string z0r, .slice A1r x1r.length c1r, .slice A2r x2r.length c2r, .slice A3r x3r.length c3r, .bool z4r, .slice A5r x5r.length c5r, .string z6r], .int .i64 n] w0 fun e w' => e = .returned (.bool true) ∧ Below w0.heap.size w0 w' := by
  have SZ := fun W (h : Mem.ArgR Mem.prg W [.slice A0p x0p.length c0p, .slice A1p x1p.length c1p] (x0p, x1p)) => Mem.sizeProgramA A0p c0p x0p A1p c1p x1p 1048576 W h (by omega) hwfp
  unfold IntK.leftOf at SZ
  by_cases htp : Mem.szProgramU (x0p, x1p) ≤ 1048576
  · simp only [if_pos htp] at SZ
    have HS0 := Lib.hid SZ
    have hnp : Mem.szProgramU (x0p, x1p) ≤ 100000000 := by omega
    clear SZ
    obtain ⟨t0, hte0⟩ : ∃ t : Nat, t = 1048576 - Mem.szProgramU (x0p, x1p) := ⟨_, rfl⟩
    have htc0 : ((1048576 : Nat) : Int) - ((Mem.szProgramU (x0p, x1p) : Nat) : Int) = (t0 : Int) := by omega
    have htl0 : t0 ≤ 1048576 := by omega
    rw [htc0] at HS0
    clear hte0 htc0
    have SZ := fun W (h : Mem.ArgR Mem.rule W [.string z0r, .slice A1r x1r.length c1r, .slice A2r x2r.length c2r, .slice A3r x3r.length c3r, .bool z4r, .slice A5r x5r.length c5r, .string z6r] (z0r, x1r, x2r, x3r, (z4r, x5r, z6r))) => Mem.sizeRuleA z0r A1r c1r x1r A2r c2r x2r A3r c3r x3r z4r A5r c5r x5r z6r t0 W h (by omega) hwfr
    unfold IntK.leftOf at SZ
    by_cases htr : Mem.szRuleU (z0r, x1r, x2r, x3r, (z4r, x5r, z6r)) ≤ t0
    · simp only [if_pos htr] at SZ
      have HS1 := Lib.hid SZ
      have hnr : Mem.szRuleU (z0r, x1r, x2r, x3r, (z4r, x5r, z6r)) ≤ 100000000 := by omega
      clear SZ
      have hnvp := Mem.nvProgram_le (x0p, x1p)
      obtain ⟨k1p, hk1p⟩ : ∃ k : Nat, k = 1 + Mem.nvProgram (x0p, x1p) := ⟨_, rfl⟩
      have hkbp : 1 ≤ k1p ∧ k1p ≤ 10000000 := by omega
      have hkzp : decide ((k1p : Int) < 0) = false := decide_eq_false (by omega)
      have HKp := Lib.hid hk1p
      clear hk1p hnvp
      have hnvr := Mem.nvRule_le (z0r, x1r, x2r, x3r, (z4r, x5r, z6r))
      obtain ⟨k1r, hk1r⟩ : ∃ k : Nat, k = k1p + Mem.nvRule (z0r, x1r, x2r, x3r, (z4r, x5r, z6r)) := ⟨_, rfl⟩
      have hkbr : 1 ≤ k1r ∧ k1r ≤ 20000000 := by omega
      have hkzr : decide ((k1r : Int) < 0) = false := decide_eq_false (by omega)
      have HKr := Lib.hid hk1r
      clear hk1r hnvr
      have hfs := Mem.prg_fns hnp
      have hps : x1r.length ≤ 1048576 ∧ x3r.length ≤ 1048576 := by simp only [Mem.szRuleU] at htr; omega
      have hT : (ProgI.scopeM x0p z0r x1r x3r n).length ≤ 100000000 := Nat.le_trans (Mem.scope_len x0p z0r x1r x3r n (m := 1048576) (by simp only [Mem.szProgramU] at htp; omega)) (by omega)
      have SP := fun A c B d A1 c1 A2 c2 A3 c3 A5 c5 W (h : Mem.ArgR Mem.prg W [.slice A x0p.length c, .slice B x1p.length d] (x0p, x1p)) (h2 : Mem.ArgR Mem.rule W [.string z0r, .slice A1 x1r.length c1, .slice A2 x2r.length c2, .slice A3 x3r.length c3, .bool z4r, .slice A5 x5r.length c5, .string z6r] (z0r, x1r, x2r, x3r, z4r, x5r, z6r)) => ProgS.scopeOf A B x1p.length c d x0p z0r A1 c1 x1r A2 c2 x2r A3 c3 x3r z4r A5 c5 x5r z6r n W (Mem.arg_prg h).1 hfs (Mem.arg_rule h2).1 (Mem.arg_rule h2).2.2.1 (by omega) (by omega)
      have IM := fun A c B d A1 c1 A2 c2 A3 c3 A5 c5 W (h : Mem.ArgR Mem.prg W [.slice A x0p.length c, .slice B x1p.length d] (x0p, x1p)) (h2 : Mem.ArgR Mem.rule W [.string z0r, .slice A1 x1r.length c1, .slice A2 x2r.length c2, .slice A3 x3r.length c3, .bool z4r, .slice A5 x5r.length c5, .string z6r] (z0r, x1r, x2r, x3r, z4r, x5r, z6r)) => ProgI.scopeOf A B x1p.length c d x0p z0r A1 c1 x1r A2 c2 x2r A3 c3 x3r z4r A5 c5 x5r z6r n W (Mem.arg_prg h).1 hfs (Mem.arg_rule h2).1 (Mem.arg_rule h2).2.2.1 (by omega) (by omega)
      unfold ProgI.GaveS at SP IM
      generalize ProgI.scopeM x0p z0r x1r x3r n = T at *
      have SP := Lib.hid SP
      have IM := Lib.hid IM
      clear hfs hps
      clear hwfp
      clear hwfr
      have B0 := Lib.hid (Below.refl w0.heap.size w0)
      go_enter Try.func4, Try.ntmps4
      go_wp2_with fail
      refine (Calls.mono (HS0.out _ (hp.below (B0.out.trans ((((Below.refl w0.heap.size w0).alloc (by first | (simp; done) | (simp; omega)) (Obj.cells #[Value.slice A0p x0p.length c0p, Value.slice A1p x1p.length c1p] 25)).alloc (by first | (simp; done) | (simp; omega)) (Obj.cells #[Value.string z0r, Value.slice A1r x1r.length c1r, Value.slice A2r x2r.length c2r, Value.slice A3r x3r.length c3r, Value.bool z4r, Value.slice A5r x5r.length c5r, Value.string z6r] 49)).mono B0.out.size))))) ?_
      rintro e w1 ⟨rfl, b1⟩
      have hs1 : ((w0.alloc (Obj.cells #[Value.slice A0p x0p.length c0p, Value.slice A1p x1p.length c1p] 25)).alloc (Obj.cells #[Value.string z0r, Value.slice A1r x1r.length c1r, Value.slice A2r x2r.length c2r, Value.slice A3r x3r.length c3r, Value.bool z4r, Value.slice A5r x5r.length c5r, Value.string z6r] 49)).heap.size ≤ w1.heap.size := b1.size
      simp only [World.size_alloc] at hs1
      have d1 : Below w0.heap.size w0 w1 := (((Below.refl w0.heap.size w0).alloc (by first | (simp; done) | (simp; omega)) (Obj.cells #[Value.slice A0p x0p.length c0p, Value.slice A1p x1p.length c1p] 25)).alloc (by first | (simp; done) | (simp; omega)) (Obj.cells #[Value.string z0r, Value.slice A1r x1r.length c1r, Value.slice A2r x2r.length c2r, Value.slice A3r x3r.length c3r, Value.bool z4r, Value.slice A5r x5r.length c5r, Value.string z6r] 49)).trans (b1.mono (show w0.heap.size ≤ ((w0.alloc (Obj.cells #[Value.slice A0p x0p.length c0p, Value.slice A1p x1p.length c1p] 25)).alloc (Obj.cells #[Value.string z0r, Value.slice A1r x1r.length c1r, Value.slice A2r x2r.length c2r, Value.slice A3r x3r.length c3r, Value.bool z4r, Value.slice A5r x5r.length c5r, Value.string z6r] 49)).heap.size by first | exact Nat.le_refl _ | (simp; done) | (simp; omega)))
      have B1 := Lib.hid (B0.out.trans (d1.mono B0.out.size))
      have Vbp_1 := Lib.hid (((Lvar.new w0 #[Value.slice A0p x0p.length c0p, Value.slice A1p x1p.length c1p] 25).alloc (Obj.cells #[Value.string z0r, Value.slice A1r x1r.length c1r, Value.slice A2r x2r.length c2r, Value.slice A3r x3r.length c3r, Value.bool z4r, Value.slice A5r x5r.length c5r, Value.string z6r] 49)).below b1)
      have Vbr_1 := Lib.hid ((Lvar.new (w0.alloc (Obj.cells #[Value.slice A0p x0p.length c0p, Value.slice A1p x1p.length c1p] 25)) #[Value.string z0r, Value.slice A1r x1r.length c1r, Value.slice A2r x2r.length c2r, Value.slice A3r x3r.length c3r, Value.bool z4r, Value.slice A5r x5r.length c5r, Value.string z6r] 49).below b1)
      simp only [World.size_alloc] at Vbr_1
      clear b1 d1
      have c_Vbp_0 := Vbp_1.out.cell 0 _ rfl
      have c_Vbp_1 := Vbp_1.out.cell 1 _ rfl
      have lt_Vbp := Vbp_1.out.lt
      have c_Vbr_0 := Vbr_1.out.cell 0 _ rfl
      have c_Vbr_1 := Vbr_1.out.cell 1 _ rfl
      have c_Vbr_2 := Vbr_1.out.cell 2 _ rfl
      have c_Vbr_3 := Vbr_1.out.cell 3 _ rfl
      have c_Vbr_4 := Vbr_1.out.cell 4 _ rfl
      have c_Vbr_5 := Vbr_1.out.cell 5 _ rfl
      have c_Vbr_6 := Vbr_1.out.cell 6 _ rfl
      have lt_Vbr := Vbr_1.out.lt
      go_wp2_with fail
      refine (Calls.mono (HS1.out _ (hr.below B1.out))) ?_
      rintro e w2 ⟨rfl, b2⟩
      have hs2 : w1.heap.size ≤ w2.heap.size := b2.size
      have d2 : Below w1.heap.size w1 w2 := (Below.refl w1.heap.size w1).trans (b2.mono (show w1.heap.size ≤ w1.heap.size by first | exact Nat.le_refl _ | (simp; done) | (simp; omega)))
      have B2 := Lib.hid (B1.out.trans (d2.mono B1.out.size))
      have Vbp_2 := Lib.hid (Vbp_1.out.below d2)
      have Vbr_2 := Lib.hid (Vbr_1.out.below d2)
      clear Vbp_1 Vbr_1 c_Vbp_0 c_Vbp_1 lt_Vbp c_Vbr_0 c_Vbr_1 c_Vbr_2 c_Vbr_3 c_Vbr_4 c_Vbr_5 c_Vbr_6 lt_Vbr b2 d2
      have c_Vbp_0 := Vbp_2.out.cell 0 _ rfl
      have c_Vbp_1 := Vbp_2.out.cell 1 _ rfl
      have lt_Vbp := Vbp_2.out.lt
      have c_Vbr_0 := Vbr_2.out.cell 0 _ rfl
      have c_Vbr_1 := Vbr_2.out.cell 1 _ rfl
      have c_Vbr_2 := Vbr_2.out.cell 2 _ rfl
      have c_Vbr_3 := Vbr_2.out.cell 3 _ rfl
      have c_Vbr_4 := Vbr_2.out.cell 4 _ rfl
      have c_Vbr_5 := Vbr_2.out.cell 5 _ rfl
      have c_Vbr_6 := Vbr_2.out.cell 6 _ rfl
      have lt_Vbr := Vbr_2.out.lt
      go_wp2_with fail
      go_region_held3 (fun w' => w'.cell? ⟨w0.heap.size, 0, none⟩ = some (Value.slice A0p x0p.length c0p) ∧ w'.cell? ⟨w0.heap.size, 1, none⟩ = some (Value.slice A1p x1p.length c1p) ∧ w'.cell? ⟨w0.heap.size + 1, 0, none⟩ = some (Value.string z0r) ∧ w'.cell? ⟨w0.heap.size + 1, 1, none⟩ = some (Value.slice A1r x1r.length c1r) ∧ w'.cell? ⟨w0.heap.size + 1, 2, none⟩ = some (Value.slice A2r x2r.length c2r) ∧ w'.cell? ⟨w0.heap.size + 1, 3, none⟩ = some (Value.slice A3r x3r.length c3r) ∧ w'.cell? ⟨w0.heap.size + 1, 4, none⟩ = some (Value.bool z4r) ∧ w'.cell? ⟨w0.heap.size + 1, 5, none⟩ = some (Value.slice A5r x5r.length c5r) ∧ w'.cell? ⟨w0.heap.size + 1, 6, none⟩ = some (Value.string z6r))
        (first | exact ⟨((((Vbp_2.out.below (Below.refl _ _).drew).below b3).below b4).below b5).cell 0 _ rfl, ((((Vbp_2.out.below (Below.refl _ _).drew).below b3).below b4).below b5).cell 1 _ rfl, ((((Vbr_2.out.below (Below.refl _ _).drew).below b3).below b4).below b5).cell 0 _ rfl, ((((Vbr_2.out.below (Below.refl _ _).drew).below b3).below b4).below b5).cell 1 _ rfl, ((((Vbr_2.out.below (Below.refl _ _).drew).below b3).below b4).below b5).cell 2 _ rfl, ((((Vbr_2.out.below (Below.refl _ _).drew).below b3).below b4).below b5).cell 3 _ rfl, ((((Vbr_2.out.below (Below.refl _ _).drew).below b3).below b4).below b5).cell 4 _ rfl, ((((Vbr_2.out.below (Below.refl _ _).drew).below b3).below b4).below b5).cell 5 _ rfl, ((((Vbr_2.out.below (Below.refl _ _).drew).below b3).below b4).below b5).cell 6 _ rfl⟩ | exact ⟨(((Vbp_2.out.below (Below.refl _ _).drew).below b3).below b4).cell 0 _ rfl, (((Vbp_2.out.below (Below.refl _ _).drew).below b3).below b4).cell 1 _ rfl, (((Vbr_2.out.below (Below.refl _ _).drew).below b3).below b4).cell 0 _ rfl, (((Vbr_2.out.below (Below.refl _ _).drew).below b3).below b4).cell 1 _ rfl, (((Vbr_2.out.below (Below.refl _ _).drew).below b3).below b4).cell 2 _ rfl, (((Vbr_2.out.below (Below.refl _ _).drew).below b3).below b4).cell 3 _ rfl, (((Vbr_2.out.below (Below.refl _ _).drew).below b3).below b4).cell 4 _ rfl, (((Vbr_2.out.below (Below.refl _ _).drew).below b3).below b4).cell 5 _ rfl, (((Vbr_2.out.below (Below.refl _ _).drew).below b3).below b4).cell 6 _ rfl⟩ | exact ⟨((Vbp_2.out.below (Below.refl _ _).drew).below b3).cell 0 _ rfl, ((Vbp_2.out.below (Below.refl _ _).drew).below b3).cell 1 _ rfl, ((Vbr_2.out.below (Below.refl _ _).drew).below b3).cell 0 _ rfl, ((Vbr_2.out.below (Below.refl _ _).drew).below b3).cell 1 _ rfl, ((Vbr_2.out.below (Below.refl _ _).drew).below b3).cell 2 _ rfl, ((Vbr_2.out.below (Below.refl _ _).drew).below b3).cell 3 _ rfl, ((Vbr_2.out.below (Below.refl _ _).drew).below b3).cell 4 _ rfl, ((Vbr_2.out.below (Below.refl _ _).drew).below b3).cell 5 _ rfl, ((Vbr_2.out.below (Below.refl _ _).drew).below b3).cell 6 _ rfl⟩ | go_keep)
        (first
          | (go_at_call 8; refine (Calls.mono (Mem.copyProgramA A0p c0p x0p A1p c1p x1p _ (hp.below B2.out.drew) hnp)) ?_; rintro e w3 ⟨Cwp_0, Cwp_1, rfl, oqp, b3⟩)
          | (go_at_call 17; refine (Calls.mono (Mem.copyRuleA z0r A1r c1r x1r A2r c2r x2r A3r c3r x3r z4r A5r c5r x5r z6r _ (hr.below (B2.out.drew.trans (b3.mono B2.out.size))) hnr)) ?_; rintro e w4 ⟨Cwr_1, Cwr_2, Cwr_3, Cwr_5, rfl, oqr, b4⟩)
          | (go_at_call 16; refine (Calls.mono (SP.out _ _ _ _ _ _ _ _ _ _ _ _ _ (oqp.below b4).arg oqr.arg)) ?_; rintro e w5 ⟨W, cw, rfl, ow, b5⟩))
      have h3 : w2.heap.size ≤ w3.heap.size := b3.size
      have h4 : w3.heap.size ≤ w4.heap.size := b4.size
      have h5 : w4.heap.size ≤ w5.heap.size := b5.size
      have d5 : Below w2.heap.size w2 w5 := ((((Below.refl w2.heap.size w2).drew.trans (b3.mono (show w2.heap.size ≤ w2.heap.size by omega))).trans (b4.mono (show w2.heap.size ≤ w3.heap.size by omega))).trans (b5.mono (show w2.heap.size ≤ w4.heap.size by omega)))
      have hs5 := d5.size
      have B5 := Lib.hid (B2.out.trans (d5.mono B2.out.size))
      have Vbp_5 := Lib.hid (Vbp_2.out.below d5)
      have Vbr_5 := Lib.hid (Vbr_2.out.below d5)
      clear Vbp_2 Vbr_2 c_Vbp_0 c_Vbp_1 lt_Vbp c_Vbr_0 c_Vbr_1 c_Vbr_2 c_Vbr_3 c_Vbr_4 c_Vbr_5 c_Vbr_6 lt_Vbr b3 h3 b4 h4 b5 h5 d5
      clear oqp oqr
      have Kw := Lib.hid (Mem.own_SR ow)
      clear ow
      have c_Vbp_0 := Vbp_5.out.cell 0 _ rfl
      have c_Vbp_1 := Vbp_5.out.cell 1 _ rfl
      have lt_Vbp := Vbp_5.out.lt
      have c_Vbr_0 := Vbr_5.out.cell 0 _ rfl
      have c_Vbr_1 := Vbr_5.out.cell 1 _ rfl
      have c_Vbr_2 := Vbr_5.out.cell 2 _ rfl
      have c_Vbr_3 := Vbr_5.out.cell 3 _ rfl
      have c_Vbr_4 := Vbr_5.out.cell 4 _ rfl
      have c_Vbr_5 := Vbr_5.out.cell 5 _ rfl
      have c_Vbr_6 := Vbr_5.out.cell 6 _ rfl
      have lt_Vbr := Vbr_5.out.lt
      go_wp2_with fail
      refine (Calls.mono (Mem.copyProgramA A0p c0p x0p A1p c1p x1p _ (hp.below B5.out) hnp)) ?_
      rintro e w6 ⟨Xp_0, Xp_1, rfl, oxp, b6⟩
      have Oxp := Lib.hid (show Mem.OwnR Mem.prg (w5.heap.size) w6.heap.size w6 [.slice Xp_0 x0p.length x0p.length, .slice Xp_1 x1p.length x1p.length] (x0p, x1p) from oxp)
      have hs6 : w5.heap.size ≤ w6.heap.size := b6.size
      have d6 : Below w5.heap.size w5 w6 := (Below.refl w5.heap.size w5).trans (b6.mono (show w5.heap.size ≤ w5.heap.size by first | exact Nat.le_refl _ | (simp; done) | (simp; omega)))
      have B6 := Lib.hid (B5.out.trans (d6.mono B5.out.size))
      have Vbp_6 := Lib.hid (Vbp_5.out.below d6)
      have Vbr_6 := Lib.hid (Vbr_5.out.below d6)
      have Kw_6 := Lib.hid (Kw.out.below d6)
      clear Vbp_5 Vbr_5 Kw c_Vbp_0 c_Vbp_1 lt_Vbp c_Vbr_0 c_Vbr_1 c_Vbr_2 c_Vbr_3 c_Vbr_4 c_Vbr_5 c_Vbr_6 lt_Vbr b6 d6
      have c_Vbp_0 := Vbp_6.out.cell 0 _ rfl
      have c_Vbp_1 := Vbp_6.out.cell 1 _ rfl
      have lt_Vbp := Vbp_6.out.lt
      have c_Vbr_0 := Vbr_6.out.cell 0 _ rfl
      have c_Vbr_1 := Vbr_6.out.cell 1 _ rfl
      have c_Vbr_2 := Vbr_6.out.cell 2 _ rfl
      have c_Vbr_3 := Vbr_6.out.cell 3 _ rfl
      have c_Vbr_4 := Vbr_6.out.cell 4 _ rfl
      have c_Vbr_5 := Vbr_6.out.cell 5 _ rfl
      have c_Vbr_6 := Vbr_6.out.cell 6 _ rfl
      have lt_Vbr := Vbr_6.out.lt
      go_wp2_with fail
      refine (Calls.mono (Mem.copyRuleA z0r A1r c1r x1r A2r c2r x2r A3r c3r x3r z4r A5r c5r x5r z6r _ (hr.below (B6.out.trans (((Below.refl w6.heap.size w6).alloc (by first | (simp; done) | (simp; omega)) (Obj.cells #[Value.slice Xp_0 x0p.length x0p.length, Value.slice Xp_1 x1p.length x1p.length] 36)).mono B6.out.size))) hnr)) ?_
      rintro e w7 ⟨Xr_1, Xr_2, Xr_3, Xr_5, rfl, oxr, b7⟩
      simp only [World.size_alloc] at oxr
      have Oxr := Lib.hid (show Mem.OwnR Mem.rule (w6.heap.size + 1) w7.heap.size w7 [.string z0r, .slice Xr_1 x1r.length x1r.length, .slice Xr_2 x2r.length x2r.length, .slice Xr_3 x3r.length x3r.length, .bool z4r, .slice Xr_5 x5r.length x5r.length, .string z6r] (z0r, x1r, x2r, x3r, (z4r, x5r, z6r)) from oxr)
      have hs7 : (w6.alloc (Obj.cells #[Value.slice Xp_0 x0p.length x0p.length, Value.slice Xp_1 x1p.length x1p.length] 36)).heap.size ≤ w7.heap.size := b7.size
      simp only [World.size_alloc] at hs7
      have d7 : Below w6.heap.size w6 w7 := ((Below.refl w6.heap.size w6).alloc (by first | (simp; done) | (simp; omega)) (Obj.cells #[Value.slice Xp_0 x0p.length x0p.length, Value.slice Xp_1 x1p.length x1p.length] 36)).trans (b7.mono (show w6.heap.size ≤ (w6.alloc (Obj.cells #[Value.slice Xp_0 x0p.length x0p.length, Value.slice Xp_1 x1p.length x1p.length] 36)).heap.size by first | exact Nat.le_refl _ | (simp; done) | (simp; omega)))
      have B7 := Lib.hid (B6.out.trans (d7.mono B6.out.size))
      have Vbp_7 := Lib.hid (Vbp_6.out.below d7)
      have Vbr_7 := Lib.hid (Vbr_6.out.below d7)
      have Kw_7 := Lib.hid (Kw_6.out.below d7)
      have Oxp_7 := Lib.hid (Oxp.out.below d7)
      have Vxp_7 := Lib.hid ((Lvar.new w6 #[Value.slice Xp_0 x0p.length x0p.length, Value.slice Xp_1 x1p.length x1p.length] 36).below b7)
      clear Vbp_6 Vbr_6 Kw_6 Oxp c_Vbp_0 c_Vbp_1 lt_Vbp c_Vbr_0 c_Vbr_1 c_Vbr_2 c_Vbr_3 c_Vbr_4 c_Vbr_5 c_Vbr_6 lt_Vbr b7 d7
      have c_Vbp_0 := Vbp_7.out.cell 0 _ rfl
      have c_Vbp_1 := Vbp_7.out.cell 1 _ rfl
      have lt_Vbp := Vbp_7.out.lt
      have c_Vbr_0 := Vbr_7.out.cell 0 _ rfl
      have c_Vbr_1 := Vbr_7.out.cell 1 _ rfl
      have c_Vbr_2 := Vbr_7.out.cell 2 _ rfl
      have c_Vbr_3 := Vbr_7.out.cell 3 _ rfl
      have c_Vbr_4 := Vbr_7.out.cell 4 _ rfl
      have c_Vbr_5 := Vbr_7.out.cell 5 _ rfl
      have c_Vbr_6 := Vbr_7.out.cell 6 _ rfl
      have lt_Vbr := Vbr_7.out.lt
      have c_Vxp_0 := Vxp_7.out.cell 0 _ rfl
      have c_Vxp_1 := Vxp_7.out.cell 1 _ rfl
      have lt_Vxp := Vxp_7.out.lt
      go_wp2_with fail
      refine (Calls.mono (IM.out _ _ _ _ _ _ _ _ _ _ _ _ _ (Oxp_7.out.below ((Below.refl w7.heap.size w7).alloc (by first | (simp; done) | (simp; omega)) (Obj.cells #[Value.string z0r, Value.slice Xr_1 x1r.length x1r.length, Value.slice Xr_2 x2r.length x2r.length, Value.slice Xr_3 x3r.length x3r.length, Value.bool z4r, Value.slice Xr_5 x5r.length x5r.length, Value.string z6r] 58))).arg (Oxr.out.below ((Below.refl w7.heap.size w7).alloc (by first | (simp; done) | (simp; omega)) (Obj.cells #[Value.string z0r, Value.slice Xr_1 x1r.length x1r.length, Value.slice Xr_2 x2r.length x2r.length, Value.slice Xr_3 x3r.length x3r.length, Value.bool z4r, Value.slice Xr_5 x5r.length x5r.length, Value.string z6r] 58))).arg)) ?_
      rintro e w8 ⟨G, cg, rfl, og, b8⟩
      simp only [World.size_alloc] at og
      have Kg := Lib.hid (Mem.own_SR og)
      clear og
      have hs8 : (w7.alloc (Obj.cells #[Value.string z0r, Value.slice Xr_1 x1r.length x1r.length, Value.slice Xr_2 x2r.length x2r.length, Value.slice Xr_3 x3r.length x3r.length, Value.bool z4r, Value.slice Xr_5 x5r.length x5r.length, Value.string z6r] 58)).heap.size ≤ w8.heap.size := b8.size
      simp only [World.size_alloc] at hs8
      have d8 : Below w7.heap.size w7 w8 := ((Below.refl w7.heap.size w7).alloc (by first | (simp; done) | (simp; omega)) (Obj.cells #[Value.string z0r, Value.slice Xr_1 x1r.length x1r.length, Value.slice Xr_2 x2r.length x2r.length, Value.slice Xr_3 x3r.length x3r.length, Value.bool z4r, Value.slice Xr_5 x5r.length x5r.length, Value.string z6r] 58)).trans (b8.mono (show w7.heap.size ≤ (w7.alloc (Obj.cells #[Value.string z0r, Value.slice Xr_1 x1r.length x1r.length, Value.slice Xr_2 x2r.length x2r.length, Value.slice Xr_3 x3r.length x3r.length, Value.bool z4r, Value.slice Xr_5 x5r.length x5r.length, Value.string z6r] 58)).heap.size by first | exact Nat.le_refl _ | (simp; done) | (simp; omega)))
      have B8 := Lib.hid (B7.out.trans (d8.mono B7.out.size))
      have Vbp_8 := Lib.hid (Vbp_7.out.below d8)
      have Vbr_8 := Lib.hid (Vbr_7.out.below d8)
      have Kw_8 := Lib.hid (Kw_7.out.below d8)
      have Oxp_8 := Lib.hid (Oxp_7.out.below d8)
      have Vxp_8 := Lib.hid (Vxp_7.out.below d8)
      have Oxr_8 := Lib.hid (Oxr.out.below d8)
      have Vxr_8 := Lib.hid ((Lvar.new w7 #[Value.string z0r, Value.slice Xr_1 x1r.length x1r.length, Value.slice Xr_2 x2r.length x2r.length, Value.slice Xr_3 x3r.length x3r.length, Value.bool z4r, Value.slice Xr_5 x5r.length x5r.length, Value.string z6r] 58).below b8)
      clear Vbp_7 Vbr_7 Kw_7 Oxp_7 Vxp_7 Oxr c_Vbp_0 c_Vbp_1 lt_Vbp c_Vbr_0 c_Vbr_1 c_Vbr_2 c_Vbr_3 c_Vbr_4 c_Vbr_5 c_Vbr_6 lt_Vbr c_Vxp_0 c_Vxp_1 lt_Vxp b8 d8
      have c_Vbp_0 := Vbp_8.out.cell 0 _ rfl
      have c_Vbp_1 := Vbp_8.out.cell 1 _ rfl
      have lt_Vbp := Vbp_8.out.lt
      have c_Vbr_0 := Vbr_8.out.cell 0 _ rfl
      have c_Vbr_1 := Vbr_8.out.cell 1 _ rfl
      have c_Vbr_2 := Vbr_8.out.cell 2 _ rfl
      have c_Vbr_3 := Vbr_8.out.cell 3 _ rfl
      have c_Vbr_4 := Vbr_8.out.cell 4 _ rfl
      have c_Vbr_5 := Vbr_8.out.cell 5 _ rfl
      have c_Vbr_6 := Vbr_8.out.cell 6 _ rfl
      have lt_Vbr := Vbr_8.out.lt
      have c_Vxp_0 := Vxp_8.out.cell 0 _ rfl
      have c_Vxp_1 := Vxp_8.out.cell 1 _ rfl
      have lt_Vxp := Vxp_8.out.lt
      have c_Vxr_0 := Vxr_8.out.cell 0 _ rfl
      have c_Vxr_1 := Vxr_8.out.cell 1 _ rfl
      have c_Vxr_2 := Vxr_8.out.cell 2 _ rfl
      have c_Vxr_3 := Vxr_8.out.cell 3 _ rfl
      have c_Vxr_4 := Vxr_8.out.cell 4 _ rfl
      have c_Vxr_5 := Vxr_8.out.cell 5 _ rfl
      have c_Vxr_6 := Vxr_8.out.cell 6 _ rfl
      have lt_Vxr := Vxr_8.out.lt
      go_wp2_with fail
      refine (Calls.mono (StrK.eq_same G W cg cw T _ Kg.out.1 Kw_8.out.1 (by omega))) ?_
      rintro e w9 ⟨rfl, b9⟩
      have hs9 : w8.heap.size ≤ w9.heap.size := b9.size
      have d9 : Below w8.heap.size w8 w9 := (Below.refl w8.heap.size w8).trans (b9.mono (show w8.heap.size ≤ w8.heap.size by first | exact Nat.le_refl _ | (simp; done) | (simp; omega)))
      have B9 := Lib.hid (B8.out.trans (d9.mono B8.out.size))
      have Vbp_9 := Lib.hid (Vbp_8.out.below d9)
      have Vbr_9 := Lib.hid (Vbr_8.out.below d9)
      have Kw_9 := Lib.hid (Kw_8.out.below d9)
      have Oxp_9 := Lib.hid (Oxp_8.out.below d9)
      have Vxp_9 := Lib.hid (Vxp_8.out.below d9)
      have Oxr_9 := Lib.hid (Oxr_8.out.below d9)
      have Vxr_9 := Lib.hid (Vxr_8.out.below d9)
      have Kg_9 := Lib.hid (Kg.out.below d9)
      clear Vbp_8 Vbr_8 Kw_8 Oxp_8 Vxp_8 Oxr_8 Vxr_8 Kg c_Vbp_0 c_Vbp_1 lt_Vbp c_Vbr_0 c_Vbr_1 c_Vbr_2 c_Vbr_3 c_Vbr_4 c_Vbr_5 c_Vbr_6 lt_Vbr c_Vxp_0 c_Vxp_1 lt_Vxp c_Vxr_0 c_Vxr_1 c_Vxr_2 c_Vxr_3 c_Vxr_4 c_Vxr_5 c_Vxr_6 lt_Vxr b9 d9
      have c_Vbp_0 := Vbp_9.out.cell 0 _ rfl
      have c_Vbp_1 := Vbp_9.out.cell 1 _ rfl
      have lt_Vbp := Vbp_9.out.lt
      have c_Vbr_0 := Vbr_9.out.cell 0 _ rfl
      have c_Vbr_1 := Vbr_9.out.cell 1 _ rfl
      have c_Vbr_2 := Vbr_9.out.cell 2 _ rfl
      have c_Vbr_3 := Vbr_9.out.cell 3 _ rfl
      have c_Vbr_4 := Vbr_9.out.cell 4 _ rfl
      have c_Vbr_5 := Vbr_9.out.cell 5 _ rfl
      have c_Vbr_6 := Vbr_9.out.cell 6 _ rfl
      have lt_Vbr := Vbr_9.out.lt
      have c_Vxp_0 := Vxp_9.out.cell 0 _ rfl
      have c_Vxp_1 := Vxp_9.out.cell 1 _ rfl
      have lt_Vxp := Vxp_9.out.lt
      have c_Vxr_0 := Vxr_9.out.cell 0 _ rfl
      have c_Vxr_1 := Vxr_9.out.cell 1 _ rfl
      have c_Vxr_2 := Vxr_9.out.cell 2 _ rfl
      have c_Vxr_3 := Vxr_9.out.cell 3 _ rfl
      have c_Vxr_4 := Vxr_9.out.cell 4 _ rfl
      have c_Vxr_5 := Vxr_9.out.cell 5 _ rfl
      have c_Vxr_6 := Vxr_9.out.cell 6 _ rfl
      have lt_Vxr := Vxr_9.out.lt
      go_wp2_with fail
      go_region_held3 (fun w' => w'.cell? ⟨w6.heap.size, 0, none⟩ = some (Value.slice Xp_0 x0p.length x0p.length) ∧ w'.cell? ⟨w6.heap.size, 1, none⟩ = some (Value.slice Xp_1 x1p.length x1p.length) ∧ w'.cell? ⟨w0.heap.size, 0, none⟩ = some (Value.slice A0p x0p.length c0p) ∧ w'.cell? ⟨w0.heap.size, 1, none⟩ = some (Value.slice A1p x1p.length c1p))
        (first | exact ⟨(((Vxp_9.out.below (Below.refl _ _).drew).below b10).below b11).cell 0 _ rfl, (((Vxp_9.out.below (Below.refl _ _).drew).below b10).below b11).cell 1 _ rfl, (((Vbp_9.out.below (Below.refl _ _).drew).below b10).below b11).cell 0 _ rfl, (((Vbp_9.out.below (Below.refl _ _).drew).below b10).below b11).cell 1 _ rfl⟩ | exact ⟨((Vxp_9.out.below (Below.refl _ _).drew).below b10).cell 0 _ rfl, ((Vxp_9.out.below (Below.refl _ _).drew).below b10).cell 1 _ rfl, ((Vbp_9.out.below (Below.refl _ _).drew).below b10).cell 0 _ rfl, ((Vbp_9.out.below (Below.refl _ _).drew).below b10).cell 1 _ rfl⟩ | go_keep)
        (first
          | (go_at_call 8; refine (Calls.mono (Mem.copyProgramA A0p c0p x0p A1p c1p x1p _ (hp.below B9.out.drew) hnp)) ?_; rintro e w10 ⟨C9_0, C9_1, rfl, oc9, b10⟩)
          | (go_at_call 11; refine (Calls.mono (Mem.eqProgramA Xp_0 x0p.length x0p Xp_1 x1p.length x1p C9_0 x0p.length C9_1 x1p.length _ ((Oxp_9.out.below (Below.refl _ _).drew).below b10).arg oc9.arg hnp)) ?_; rintro e w11 ⟨rfl, b11⟩))
      have h10 : w9.heap.size ≤ w10.heap.size := b10.size
      have h11 : w10.heap.size ≤ w11.heap.size := b11.size
      have d11 : Below w9.heap.size w9 w11 := (((Below.refl w9.heap.size w9).drew.trans (b10.mono (show w9.heap.size ≤ w9.heap.size by omega))).trans (b11.mono (show w9.heap.size ≤ w10.heap.size by omega)))
      have hs11 := d11.size
      have B11 := Lib.hid (B9.out.trans (d11.mono B9.out.size))
      have Vbp_11 := Lib.hid (Vbp_9.out.below d11)
      have Vbr_11 := Lib.hid (Vbr_9.out.below d11)
      have Kw_11 := Lib.hid (Kw_9.out.below d11)
      have Oxp_11 := Lib.hid (Oxp_9.out.below d11)
      have Vxp_11 := Lib.hid (Vxp_9.out.below d11)
      have Oxr_11 := Lib.hid (Oxr_9.out.below d11)
      have Vxr_11 := Lib.hid (Vxr_9.out.below d11)
      have Kg_11 := Lib.hid (Kg_9.out.below d11)
      clear Vbp_9 Vbr_9 Kw_9 Oxp_9 Vxp_9 Oxr_9 Vxr_9 Kg_9 c_Vbp_0 c_Vbp_1 lt_Vbp c_Vbr_0 c_Vbr_1 c_Vbr_2 c_Vbr_3 c_Vbr_4 c_Vbr_5 c_Vbr_6 lt_Vbr c_Vxp_0 c_Vxp_1 lt_Vxp c_Vxr_0 c_Vxr_1 c_Vxr_2 c_Vxr_3 c_Vxr_4 c_Vxr_5 c_Vxr_6 lt_Vxr b10 h10 b11 h11 d11
      clear oc9
      have c_Vbp_0 := Vbp_11.out.cell 0 _ rfl
      have c_Vbp_1 := Vbp_11.out.cell 1 _ rfl
      have lt_Vbp := Vbp_11.out.lt
      have c_Vbr_0 := Vbr_11.out.cell 0 _ rfl
      have c_Vbr_1 := Vbr_11.out.cell 1 _ rfl
      have c_Vbr_2 := Vbr_11.out.cell 2 _ rfl
      have c_Vbr_3 := Vbr_11.out.cell 3 _ rfl
      have c_Vbr_4 := Vbr_11.out.cell 4 _ rfl
      have c_Vbr_5 := Vbr_11.out.cell 5 _ rfl
      have c_Vbr_6 := Vbr_11.out.cell 6 _ rfl
      have lt_Vbr := Vbr_11.out.lt
      have c_Vxp_0 := Vxp_11.out.cell 0 _ rfl
      have c_Vxp_1 := Vxp_11.out.cell 1 _ rfl
      have lt_Vxp := Vxp_11.out.lt
      have c_Vxr_0 := Vxr_11.out.cell 0 _ rfl
      have c_Vxr_1 := Vxr_11.out.cell 1 _ rfl
      have c_Vxr_2 := Vxr_11.out.cell 2 _ rfl
      have c_Vxr_3 := Vxr_11.out.cell 3 _ rfl
      have c_Vxr_4 := Vxr_11.out.cell 4 _ rfl
      have c_Vxr_5 := Vxr_11.out.cell 5 _ rfl
      have c_Vxr_6 := Vxr_11.out.cell 6 _ rfl
      have lt_Vxr := Vxr_11.out.lt
      go_wp2_with fail
      go_region_held3 (fun w' => w'.cell? ⟨w7.heap.size, 0, none⟩ = some (Value.string z0r) ∧ w'.cell? ⟨w7.heap.size, 1, none⟩ = some (Value.slice Xr_1 x1r.length x1r.length) ∧ w'.cell? ⟨w7.heap.size, 2, none⟩ = some (Value.slice Xr_2 x2r.length x2r.length) ∧ w'.cell? ⟨w7.heap.size, 3, none⟩ = some (Value.slice Xr_3 x3r.length x3r.length) ∧ w'.cell? ⟨w7.heap.size, 4, none⟩ = some (Value.bool z4r) ∧ w'.cell? ⟨w7.heap.size, 5, none⟩ = some (Value.slice Xr_5 x5r.length x5r.length) ∧ w'.cell? ⟨w7.heap.size, 6, none⟩ = some (Value.string z6r) ∧ w'.cell? ⟨w0.heap.size + 1, 0, none⟩ = some (Value.string z0r) ∧ w'.cell? ⟨w0.heap.size + 1, 1, none⟩ = some (Value.slice A1r x1r.length c1r) ∧ w'.cell? ⟨w0.heap.size + 1, 2, none⟩ = some (Value.slice A2r x2r.length c2r) ∧ w'.cell? ⟨w0.heap.size + 1, 3, none⟩ = some (Value.slice A3r x3r.length c3r) ∧ w'.cell? ⟨w0.heap.size + 1, 4, none⟩ = some (Value.bool z4r) ∧ w'.cell? ⟨w0.heap.size + 1, 5, none⟩ = some (Value.slice A5r x5r.length c5r) ∧ w'.cell? ⟨w0.heap.size + 1, 6, none⟩ = some (Value.string z6r))
        (first | exact ⟨(((Vxr_11.out.below (Below.refl _ _).drew).below b12).below b13).cell 0 _ rfl, (((Vxr_11.out.below (Below.refl _ _).drew).below b12).below b13).cell 1 _ rfl, (((Vxr_11.out.below (Below.refl _ _).drew).below b12).below b13).cell 2 _ rfl, (((Vxr_11.out.below (Below.refl _ _).drew).below b12).below b13).cell 3 _ rfl, (((Vxr_11.out.below (Below.refl _ _).drew).below b12).below b13).cell 4 _ rfl, (((Vxr_11.out.below (Below.refl _ _).drew).below b12).below b13).cell 5 _ rfl, (((Vxr_11.out.below (Below.refl _ _).drew).below b12).below b13).cell 6 _ rfl, (((Vbr_11.out.below (Below.refl _ _).drew).below b12).below b13).cell 0 _ rfl, (((Vbr_11.out.below (Below.refl _ _).drew).below b12).below b13).cell 1 _ rfl, (((Vbr_11.out.below (Below.refl _ _).drew).below b12).below b13).cell 2 _ rfl, (((Vbr_11.out.below (Below.refl _ _).drew).below b12).below b13).cell 3 _ rfl, (((Vbr_11.out.below (Below.refl _ _).drew).below b12).below b13).cell 4 _ rfl, (((Vbr_11.out.below (Below.refl _ _).drew).below b12).below b13).cell 5 _ rfl, (((Vbr_11.out.below (Below.refl _ _).drew).below b12).below b13).cell 6 _ rfl⟩ | exact ⟨((Vxr_11.out.below (Below.refl _ _).drew).below b12).cell 0 _ rfl, ((Vxr_11.out.below (Below.refl _ _).drew).below b12).cell 1 _ rfl, ((Vxr_11.out.below (Below.refl _ _).drew).below b12).cell 2 _ rfl, ((Vxr_11.out.below (Below.refl _ _).drew).below b12).cell 3 _ rfl, ((Vxr_11.out.below (Below.refl _ _).drew).below b12).cell 4 _ rfl, ((Vxr_11.out.below (Below.refl _ _).drew).below b12).cell 5 _ rfl, ((Vxr_11.out.below (Below.refl _ _).drew).below b12).cell 6 _ rfl, ((Vbr_11.out.below (Below.refl _ _).drew).below b12).cell 0 _ rfl, ((Vbr_11.out.below (Below.refl _ _).drew).below b12).cell 1 _ rfl, ((Vbr_11.out.below (Below.refl _ _).drew).below b12).cell 2 _ rfl, ((Vbr_11.out.below (Below.refl _ _).drew).below b12).cell 3 _ rfl, ((Vbr_11.out.below (Below.refl _ _).drew).below b12).cell 4 _ rfl, ((Vbr_11.out.below (Below.refl _ _).drew).below b12).cell 5 _ rfl, ((Vbr_11.out.below (Below.refl _ _).drew).below b12).cell 6 _ rfl⟩ | go_keep)
        (first
          | (go_at_call 17; refine (Calls.mono (Mem.copyRuleA z0r A1r c1r x1r A2r c2r x2r A3r c3r x3r z4r A5r c5r x5r z6r _ (hr.below B11.out.drew) hnr)) ?_; rintro e w12 ⟨C11_1, C11_2, C11_3, C11_5, rfl, oc11, b12⟩)
          | (go_at_call 20; refine (Calls.mono (Mem.eqRuleA z0r Xr_1 x1r.length x1r Xr_2 x2r.length x2r Xr_3 x3r.length x3r z4r Xr_5 x5r.length x5r z6r C11_1 x1r.length C11_2 x2r.length C11_3 x3r.length C11_5 x5r.length _ ((Oxr_11.out.below (Below.refl _ _).drew).below b12).arg oc11.arg hnr)) ?_; rintro e w13 ⟨rfl, b13⟩))
      have h12 : w11.heap.size ≤ w12.heap.size := b12.size
      have h13 : w12.heap.size ≤ w13.heap.size := b13.size
      have d13 : Below w11.heap.size w11 w13 := (((Below.refl w11.heap.size w11).drew.trans (b12.mono (show w11.heap.size ≤ w11.heap.size by omega))).trans (b13.mono (show w11.heap.size ≤ w12.heap.size by omega)))
      have hs13 := d13.size
      have B13 := Lib.hid (B11.out.trans (d13.mono B11.out.size))
      have Vbp_13 := Lib.hid (Vbp_11.out.below d13)
      have Vbr_13 := Lib.hid (Vbr_11.out.below d13)
      have Kw_13 := Lib.hid (Kw_11.out.below d13)
      have Oxp_13 := Lib.hid (Oxp_11.out.below d13)
      have Vxp_13 := Lib.hid (Vxp_11.out.below d13)
      have Oxr_13 := Lib.hid (Oxr_11.out.below d13)
      have Vxr_13 := Lib.hid (Vxr_11.out.below d13)
      have Kg_13 := Lib.hid (Kg_11.out.below d13)
      clear Vbp_11 Vbr_11 Kw_11 Oxp_11 Vxp_11 Oxr_11 Vxr_11 Kg_11 c_Vbp_0 c_Vbp_1 lt_Vbp c_Vbr_0 c_Vbr_1 c_Vbr_2 c_Vbr_3 c_Vbr_4 c_Vbr_5 c_Vbr_6 lt_Vbr c_Vxp_0 c_Vxp_1 lt_Vxp c_Vxr_0 c_Vxr_1 c_Vxr_2 c_Vxr_3 c_Vxr_4 c_Vxr_5 c_Vxr_6 lt_Vxr b12 h12 b13 h13 d13
      clear oc11
      have c_Vbp_0 := Vbp_13.out.cell 0 _ rfl
      have c_Vbp_1 := Vbp_13.out.cell 1 _ rfl
      have lt_Vbp := Vbp_13.out.lt
      have c_Vbr_0 := Vbr_13.out.cell 0 _ rfl
      have c_Vbr_1 := Vbr_13.out.cell 1 _ rfl
      have c_Vbr_2 := Vbr_13.out.cell 2 _ rfl
      have c_Vbr_3 := Vbr_13.out.cell 3 _ rfl
      have c_Vbr_4 := Vbr_13.out.cell 4 _ rfl
      have c_Vbr_5 := Vbr_13.out.cell 5 _ rfl
      have c_Vbr_6 := Vbr_13.out.cell 6 _ rfl
      have lt_Vbr := Vbr_13.out.lt
      have c_Vxp_0 := Vxp_13.out.cell 0 _ rfl
      have c_Vxp_1 := Vxp_13.out.cell 1 _ rfl
      have lt_Vxp := Vxp_13.out.lt
      have c_Vxr_0 := Vxr_13.out.cell 0 _ rfl
      have c_Vxr_1 := Vxr_13.out.cell 1 _ rfl
      have c_Vxr_2 := Vxr_13.out.cell 2 _ rfl
      have c_Vxr_3 := Vxr_13.out.cell 3 _ rfl
      have c_Vxr_4 := Vxr_13.out.cell 4 _ rfl
      have c_Vxr_5 := Vxr_13.out.cell 5 _ rfl
      have c_Vxr_6 := Vxr_13.out.cell 6 _ rfl
      have lt_Vxr := Vxr_13.out.lt
      go_wp2_with fail
      refine (Calls.mono (Mem.markProgramK (w5.heap.size) w6.heap.size Xp_0 x0p.length x0p Xp_1 x1p.length x1p 1 k1p HKp.out _ Oxp_13.out (by omega) (by omega))) ?_
      rintro e w14 ⟨rfl, rm, b14⟩
      have hs14 := b14.size
      have B14 := Lib.hid (below_mod B13.out b14 (by have := B13.out.size; omega) B13.out.size)
      have Vbp_14 := Lib.hid (Vbp_13.out.keep b14 (by omega))
      have Vbr_14 := Lib.hid (Vbr_13.out.keep b14 (by omega))
      have Kw_14 := Lib.hid (Kw_13.out.keep b14 (by omega))
      have Vxp_14 := Lib.hid (Vxp_13.out.keep b14 (by omega))
      have Oxr_14 := Lib.hid (Oxr_13.out.keep b14 (by omega))
      have Vxr_14 := Lib.hid (Vxr_13.out.keep b14 (by omega))
      have Kg_14 := Lib.hid (Kg_13.out.keep b14 (by omega))
      clear Vbp_13 Vbr_13 Kw_13 Vxp_13 Oxr_13 Vxr_13 Kg_13 c_Vbp_0 c_Vbp_1 lt_Vbp c_Vbr_0 c_Vbr_1 c_Vbr_2 c_Vbr_3 c_Vbr_4 c_Vbr_5 c_Vbr_6 lt_Vbr c_Vxp_0 c_Vxp_1 lt_Vxp c_Vxr_0 c_Vxr_1 c_Vxr_2 c_Vxr_3 c_Vxr_4 c_Vxr_5 c_Vxr_6 lt_Vxr b14
      clear rm Oxp_13
      have c_Vbp_0 := Vbp_14.out.cell 0 _ rfl
      have c_Vbp_1 := Vbp_14.out.cell 1 _ rfl
      have lt_Vbp := Vbp_14.out.lt
      have c_Vbr_0 := Vbr_14.out.cell 0 _ rfl
      have c_Vbr_1 := Vbr_14.out.cell 1 _ rfl
      have c_Vbr_2 := Vbr_14.out.cell 2 _ rfl
      have c_Vbr_3 := Vbr_14.out.cell 3 _ rfl
      have c_Vbr_4 := Vbr_14.out.cell 4 _ rfl
      have c_Vbr_5 := Vbr_14.out.cell 5 _ rfl
      have c_Vbr_6 := Vbr_14.out.cell 6 _ rfl
      have lt_Vbr := Vbr_14.out.lt
      have c_Vxp_0 := Vxp_14.out.cell 0 _ rfl
      have c_Vxp_1 := Vxp_14.out.cell 1 _ rfl
      have lt_Vxp := Vxp_14.out.lt
      have c_Vxr_0 := Vxr_14.out.cell 0 _ rfl
      have c_Vxr_1 := Vxr_14.out.cell 1 _ rfl
      have c_Vxr_2 := Vxr_14.out.cell 2 _ rfl
      have c_Vxr_3 := Vxr_14.out.cell 3 _ rfl
      have c_Vxr_4 := Vxr_14.out.cell 4 _ rfl
      have c_Vxr_5 := Vxr_14.out.cell 5 _ rfl
      have c_Vxr_6 := Vxr_14.out.cell 6 _ rfl
      have lt_Vxr := Vxr_14.out.lt
      go_wp2_with fail
      refine (Calls.mono (Mem.markRuleK (w6.heap.size + 1) w7.heap.size z0r Xr_1 x1r.length x1r Xr_2 x2r.length x2r Xr_3 x3r.length x3r z4r Xr_5 x5r.length x5r z6r k1p k1r HKr.out _ Oxr_14.out (by omega) (by omega))) ?_
      rintro e w15 ⟨rfl, rm, b15⟩
      have hs15 := b15.size
      have B15 := Lib.hid (below_mod B14.out b15 (by have := B14.out.size; omega) B14.out.size)
      have Vbp_15 := Lib.hid (Vbp_14.out.keep b15 (by omega))
      have Vbr_15 := Lib.hid (Vbr_14.out.keep b15 (by omega))
      have Kw_15 := Lib.hid (Kw_14.out.keep b15 (by omega))
      have Vxp_15 := Lib.hid (Vxp_14.out.keep b15 (by omega))
      have Vxr_15 := Lib.hid (Vxr_14.out.keep b15 (by omega))
      have Kg_15 := Lib.hid (Kg_14.out.keep b15 (by omega))
      clear Vbp_14 Vbr_14 Kw_14 Vxp_14 Vxr_14 Kg_14 c_Vbp_0 c_Vbp_1 lt_Vbp c_Vbr_0 c_Vbr_1 c_Vbr_2 c_Vbr_3 c_Vbr_4 c_Vbr_5 c_Vbr_6 lt_Vbr c_Vxp_0 c_Vxp_1 lt_Vxp c_Vxr_0 c_Vxr_1 c_Vxr_2 c_Vxr_3 c_Vxr_4 c_Vxr_5 c_Vxr_6 lt_Vxr b15
      clear rm Oxr_14
      have c_Vbp_0 := Vbp_15.out.cell 0 _ rfl
      have c_Vbp_1 := Vbp_15.out.cell 1 _ rfl
      have lt_Vbp := Vbp_15.out.lt
      have c_Vbr_0 := Vbr_15.out.cell 0 _ rfl
      have c_Vbr_1 := Vbr_15.out.cell 1 _ rfl
      have c_Vbr_2 := Vbr_15.out.cell 2 _ rfl
      have c_Vbr_3 := Vbr_15.out.cell 3 _ rfl
      have c_Vbr_4 := Vbr_15.out.cell 4 _ rfl
      have c_Vbr_5 := Vbr_15.out.cell 5 _ rfl
      have c_Vbr_6 := Vbr_15.out.cell 6 _ rfl
      have lt_Vbr := Vbr_15.out.lt
      have c_Vxp_0 := Vxp_15.out.cell 0 _ rfl
      have c_Vxp_1 := Vxp_15.out.cell 1 _ rfl
      have lt_Vxp := Vxp_15.out.lt
      have c_Vxr_0 := Vxr_15.out.cell 0 _ rfl
      have c_Vxr_1 := Vxr_15.out.cell 1 _ rfl
      have c_Vxr_2 := Vxr_15.out.cell 2 _ rfl
      have c_Vxr_3 := Vxr_15.out.cell 3 _ rfl
      have c_Vxr_4 := Vxr_15.out.cell 4 _ rfl
      have c_Vxr_5 := Vxr_15.out.cell 5 _ rfl
      have c_Vxr_6 := Vxr_15.out.cell 6 _ rfl
      have lt_Vxr := Vxr_15.out.lt
      go_wp2_with fail
      refine (Calls.mono (StrK.eq_same G W cg cw T _ Kg_15.out.1 Kw_15.out.1 (by omega))) ?_
      rintro e w16 ⟨rfl, b16⟩
      have hs16 : w15.heap.size ≤ w16.heap.size := b16.size
      have d16 : Below w15.heap.size w15 w16 := (Below.refl w15.heap.size w15).trans (b16.mono (show w15.heap.size ≤ w15.heap.size by first | exact Nat.le_refl _ | (simp; done) | (simp; omega)))
      have B16 := Lib.hid (B15.out.trans (d16.mono B15.out.size))
      have Vbp_16 := Lib.hid (Vbp_15.out.below d16)
      have Vbr_16 := Lib.hid (Vbr_15.out.below d16)
      have Kw_16 := Lib.hid (Kw_15.out.below d16)
      have Vxp_16 := Lib.hid (Vxp_15.out.below d16)
      have Vxr_16 := Lib.hid (Vxr_15.out.below d16)
      have Kg_16 := Lib.hid (Kg_15.out.below d16)
      clear Vbp_15 Vbr_15 Kw_15 Vxp_15 Vxr_15 Kg_15 c_Vbp_0 c_Vbp_1 lt_Vbp c_Vbr_0 c_Vbr_1 c_Vbr_2 c_Vbr_3 c_Vbr_4 c_Vbr_5 c_Vbr_6 lt_Vbr c_Vxp_0 c_Vxp_1 lt_Vxp c_Vxr_0 c_Vxr_1 c_Vxr_2 c_Vxr_3 c_Vxr_4 c_Vxr_5 c_Vxr_6 lt_Vxr b16 d16
      have c_Vbp_0 := Vbp_16.out.cell 0 _ rfl
      have c_Vbp_1 := Vbp_16.out.cell 1 _ rfl
      have lt_Vbp := Vbp_16.out.lt
      have c_Vbr_0 := Vbr_16.out.cell 0 _ rfl
      have c_Vbr_1 := Vbr_16.out.cell 1 _ rfl
      have c_Vbr_2 := Vbr_16.out.cell 2 _ rfl
      have c_Vbr_3 := Vbr_16.out.cell 3 _ rfl
      have c_Vbr_4 := Vbr_16.out.cell 4 _ rfl
      have c_Vbr_5 := Vbr_16.out.cell 5 _ rfl
      have c_Vbr_6 := Vbr_16.out.cell 6 _ rfl
      have lt_Vbr := Vbr_16.out.lt
      have c_Vxp_0 := Vxp_16.out.cell 0 _ rfl
      have c_Vxp_1 := Vxp_16.out.cell 1 _ rfl
      have lt_Vxp := Vxp_16.out.lt
      have c_Vxr_0 := Vxr_16.out.cell 0 _ rfl
      have c_Vxr_1 := Vxr_16.out.cell 1 _ rfl
      have c_Vxr_2 := Vxr_16.out.cell 2 _ rfl
      have c_Vxr_3 := Vxr_16.out.cell 3 _ rfl
      have c_Vxr_4 := Vxr_16.out.cell 4 _ rfl
      have c_Vxr_5 := Vxr_16.out.cell 5 _ rfl
      have c_Vxr_6 := Vxr_16.out.cell 6 _ rfl
      have lt_Vxr := Vxr_16.out.lt
      go_wp2_with fail
      refine (Calls.mono (StrK.markSR (w7.heap.size + 1) w8.heap.size G cg T _ Kg_16.out (by omega))) ?_
      rintro e w17 ⟨rfl, rm, b17⟩
      have hs17 := b17.size
      have B17 := Lib.hid (below_mod B16.out b17 (by have := B16.out.size; omega) B16.out.size)
      have Vbp_17 := Lib.hid (Vbp_16.out.keep b17 (by omega))
      have Vbr_17 := Lib.hid (Vbr_16.out.keep b17 (by omega))
      have Kw_17 := Lib.hid (Kw_16.out.keep b17 (by omega))
      have Vxp_17 := Lib.hid (Vxp_16.out.keep b17 (by omega))
      have Vxr_17 := Lib.hid (Vxr_16.out.keep b17 (by omega))
      clear Vbp_16 Vbr_16 Kw_16 Vxp_16 Vxr_16 c_Vbp_0 c_Vbp_1 lt_Vbp c_Vbr_0 c_Vbr_1 c_Vbr_2 c_Vbr_3 c_Vbr_4 c_Vbr_5 c_Vbr_6 lt_Vbr c_Vxp_0 c_Vxp_1 lt_Vxp c_Vxr_0 c_Vxr_1 c_Vxr_2 c_Vxr_3 c_Vxr_4 c_Vxr_5 c_Vxr_6 lt_Vxr b17
      have Rg := Lib.hid rm
      clear rm Kg_16
      have c_Vbp_0 := Vbp_17.out.cell 0 _ rfl
      have c_Vbp_1 := Vbp_17.out.cell 1 _ rfl
      have lt_Vbp := Vbp_17.out.lt
      have c_Vbr_0 := Vbr_17.out.cell 0 _ rfl
      have c_Vbr_1 := Vbr_17.out.cell 1 _ rfl
      have c_Vbr_2 := Vbr_17.out.cell 2 _ rfl
      have c_Vbr_3 := Vbr_17.out.cell 3 _ rfl
      have c_Vbr_4 := Vbr_17.out.cell 4 _ rfl
      have c_Vbr_5 := Vbr_17.out.cell 5 _ rfl
      have c_Vbr_6 := Vbr_17.out.cell 6 _ rfl
      have lt_Vbr := Vbr_17.out.lt
      have c_Vxp_0 := Vxp_17.out.cell 0 _ rfl
      have c_Vxp_1 := Vxp_17.out.cell 1 _ rfl
      have lt_Vxp := Vxp_17.out.lt
      have c_Vxr_0 := Vxr_17.out.cell 0 _ rfl
      have c_Vxr_1 := Vxr_17.out.cell 1 _ rfl
      have c_Vxr_2 := Vxr_17.out.cell 2 _ rfl
      have c_Vxr_3 := Vxr_17.out.cell 3 _ rfl
      have c_Vxr_4 := Vxr_17.out.cell 4 _ rfl
      have c_Vxr_5 := Vxr_17.out.cell 5 _ rfl
      have c_Vxr_6 := Vxr_17.out.cell 6 _ rfl
      have lt_Vxr := Vxr_17.out.lt
      go_wp2_with fail
      refine (Calls.mono (StrK.held1 G cg T.length _ Rg.out.1 (by omega))) ?_
      rintro e w18 ⟨rfl, b18⟩
      have hs18 : w17.heap.size ≤ w18.heap.size := b18.size
      have d18 : Below w17.heap.size w17 w18 := (Below.refl w17.heap.size w17).trans (b18.mono (show w17.heap.size ≤ w17.heap.size by first | exact Nat.le_refl _ | (simp; done) | (simp; omega)))
      have B18 := Lib.hid (B17.out.trans (d18.mono B17.out.size))
      have Vbp_18 := Lib.hid (Vbp_17.out.below d18)
      have Vbr_18 := Lib.hid (Vbr_17.out.below d18)
      have Kw_18 := Lib.hid (Kw_17.out.below d18)
      have Vxp_18 := Lib.hid (Vxp_17.out.below d18)
      have Vxr_18 := Lib.hid (Vxr_17.out.below d18)
      have Rg_18 := Lib.hid (Rg.out.below d18)
      clear Vbp_17 Vbr_17 Kw_17 Vxp_17 Vxr_17 Rg c_Vbp_0 c_Vbp_1 lt_Vbp c_Vbr_0 c_Vbr_1 c_Vbr_2 c_Vbr_3 c_Vbr_4 c_Vbr_5 c_Vbr_6 lt_Vbr c_Vxp_0 c_Vxp_1 lt_Vxp c_Vxr_0 c_Vxr_1 c_Vxr_2 c_Vxr_3 c_Vxr_4 c_Vxr_5 c_Vxr_6 lt_Vxr b18 d18
      have c_Vbp_0 := Vbp_18.out.cell 0 _ rfl
      have c_Vbp_1 := Vbp_18.out.cell 1 _ rfl
      have lt_Vbp := Vbp_18.out.lt
      have c_Vbr_0 := Vbr_18.out.cell 0 _ rfl
      have c_Vbr_1 := Vbr_18.out.cell 1 _ rfl
      have c_Vbr_2 := Vbr_18.out.cell 2 _ rfl
      have c_Vbr_3 := Vbr_18.out.cell 3 _ rfl
      have c_Vbr_4 := Vbr_18.out.cell 4 _ rfl
      have c_Vbr_5 := Vbr_18.out.cell 5 _ rfl
      have c_Vbr_6 := Vbr_18.out.cell 6 _ rfl
      have lt_Vbr := Vbr_18.out.lt
      have c_Vxp_0 := Vxp_18.out.cell 0 _ rfl
      have c_Vxp_1 := Vxp_18.out.cell 1 _ rfl
      have lt_Vxp := Vxp_18.out.lt
      have c_Vxr_0 := Vxr_18.out.cell 0 _ rfl
      have c_Vxr_1 := Vxr_18.out.cell 1 _ rfl
      have c_Vxr_2 := Vxr_18.out.cell 2 _ rfl
      have c_Vxr_3 := Vxr_18.out.cell 3 _ rfl
      have c_Vxr_4 := Vxr_18.out.cell 4 _ rfl
      have c_Vxr_5 := Vxr_18.out.cell 5 _ rfl
      have c_Vxr_6 := Vxr_18.out.cell 6 _ rfl
      have lt_Vxr := Vxr_18.out.lt
      go_wp2_with fail
      go_region_held3 (fun w' => w'.cell? ⟨w0.heap.size, 0, none⟩ = some (Value.slice A0p x0p.length c0p) ∧ w'.cell? ⟨w0.heap.size, 1, none⟩ = some (Value.slice A1p x1p.length c1p) ∧ w'.cell? ⟨w0.heap.size + 1, 0, none⟩ = some (Value.string z0r) ∧ w'.cell? ⟨w0.heap.size + 1, 1, none⟩ = some (Value.slice A1r x1r.length c1r) ∧ w'.cell? ⟨w0.heap.size + 1, 2, none⟩ = some (Value.slice A2r x2r.length c2r) ∧ w'.cell? ⟨w0.heap.size + 1, 3, none⟩ = some (Value.slice A3r x3r.length c3r) ∧ w'.cell? ⟨w0.heap.size + 1, 4, none⟩ = some (Value.bool z4r) ∧ w'.cell? ⟨w0.heap.size + 1, 5, none⟩ = some (Value.slice A5r x5r.length c5r) ∧ w'.cell? ⟨w0.heap.size + 1, 6, none⟩ = some (Value.string z6r))
        (first | exact ⟨((((Vbp_18.out.below (Below.refl _ _).drew).below b19).below b20).below b21).cell 0 _ rfl, ((((Vbp_18.out.below (Below.refl _ _).drew).below b19).below b20).below b21).cell 1 _ rfl, ((((Vbr_18.out.below (Below.refl _ _).drew).below b19).below b20).below b21).cell 0 _ rfl, ((((Vbr_18.out.below (Below.refl _ _).drew).below b19).below b20).below b21).cell 1 _ rfl, ((((Vbr_18.out.below (Below.refl _ _).drew).below b19).below b20).below b21).cell 2 _ rfl, ((((Vbr_18.out.below (Below.refl _ _).drew).below b19).below b20).below b21).cell 3 _ rfl, ((((Vbr_18.out.below (Below.refl _ _).drew).below b19).below b20).below b21).cell 4 _ rfl, ((((Vbr_18.out.below (Below.refl _ _).drew).below b19).below b20).below b21).cell 5 _ rfl, ((((Vbr_18.out.below (Below.refl _ _).drew).below b19).below b20).below b21).cell 6 _ rfl⟩ | exact ⟨(((Vbp_18.out.below (Below.refl _ _).drew).below b19).below b20).cell 0 _ rfl, (((Vbp_18.out.below (Below.refl _ _).drew).below b19).below b20).cell 1 _ rfl, (((Vbr_18.out.below (Below.refl _ _).drew).below b19).below b20).cell 0 _ rfl, (((Vbr_18.out.below (Below.refl _ _).drew).below b19).below b20).cell 1 _ rfl, (((Vbr_18.out.below (Below.refl _ _).drew).below b19).below b20).cell 2 _ rfl, (((Vbr_18.out.below (Below.refl _ _).drew).below b19).below b20).cell 3 _ rfl, (((Vbr_18.out.below (Below.refl _ _).drew).below b19).below b20).cell 4 _ rfl, (((Vbr_18.out.below (Below.refl _ _).drew).below b19).below b20).cell 5 _ rfl, (((Vbr_18.out.below (Below.refl _ _).drew).below b19).below b20).cell 6 _ rfl⟩ | exact ⟨((Vbp_18.out.below (Below.refl _ _).drew).below b19).cell 0 _ rfl, ((Vbp_18.out.below (Below.refl _ _).drew).below b19).cell 1 _ rfl, ((Vbr_18.out.below (Below.refl _ _).drew).below b19).cell 0 _ rfl, ((Vbr_18.out.below (Below.refl _ _).drew).below b19).cell 1 _ rfl, ((Vbr_18.out.below (Below.refl _ _).drew).below b19).cell 2 _ rfl, ((Vbr_18.out.below (Below.refl _ _).drew).below b19).cell 3 _ rfl, ((Vbr_18.out.below (Below.refl _ _).drew).below b19).cell 4 _ rfl, ((Vbr_18.out.below (Below.refl _ _).drew).below b19).cell 5 _ rfl, ((Vbr_18.out.below (Below.refl _ _).drew).below b19).cell 6 _ rfl⟩ | go_keep)
        (first
          | (go_at_call 8; refine (Calls.mono (Mem.copyProgramA A0p c0p x0p A1p c1p x1p _ (hp.below B18.out.drew) hnp)) ?_; rintro e w19 ⟨Chp_0, Chp_1, rfl, oqp, b19⟩)
          | (go_at_call 17; refine (Calls.mono (Mem.copyRuleA z0r A1r c1r x1r A2r c2r x2r A3r c3r x3r z4r A5r c5r x5r z6r _ (hr.below (B18.out.drew.trans (b19.mono B18.out.size))) hnr)) ?_; rintro e w20 ⟨Chr_1, Chr_2, Chr_3, Chr_5, rfl, oqr, b20⟩)
          | (go_at_call 18; refine (Calls.mono (IM.out _ _ _ _ _ _ _ _ _ _ _ _ _ (oqp.below b20).arg oqr.arg)) ?_; rintro e w21 ⟨H, ch, rfl, oh, b21⟩))
      have h19 : w18.heap.size ≤ w19.heap.size := b19.size
      have h20 : w19.heap.size ≤ w20.heap.size := b20.size
      have h21 : w20.heap.size ≤ w21.heap.size := b21.size
      have d21 : Below w18.heap.size w18 w21 := ((((Below.refl w18.heap.size w18).drew.trans (b19.mono (show w18.heap.size ≤ w18.heap.size by omega))).trans (b20.mono (show w18.heap.size ≤ w19.heap.size by omega))).trans (b21.mono (show w18.heap.size ≤ w20.heap.size by omega)))
      have hs21 := d21.size
      have B21 := Lib.hid (B18.out.trans (d21.mono B18.out.size))
      have Vbp_21 := Lib.hid (Vbp_18.out.below d21)
      have Vbr_21 := Lib.hid (Vbr_18.out.below d21)
      have Kw_21 := Lib.hid (Kw_18.out.below d21)
      have Vxp_21 := Lib.hid (Vxp_18.out.below d21)
      have Vxr_21 := Lib.hid (Vxr_18.out.below d21)
      have Rg_21 := Lib.hid (Rg_18.out.below d21)
      clear Vbp_18 Vbr_18 Kw_18 Vxp_18 Vxr_18 Rg_18 c_Vbp_0 c_Vbp_1 lt_Vbp c_Vbr_0 c_Vbr_1 c_Vbr_2 c_Vbr_3 c_Vbr_4 c_Vbr_5 c_Vbr_6 lt_Vbr c_Vxp_0 c_Vxp_1 lt_Vxp c_Vxr_0 c_Vxr_1 c_Vxr_2 c_Vxr_3 c_Vxr_4 c_Vxr_5 c_Vxr_6 lt_Vxr b19 h19 b20 h20 b21 h21 d21
      clear oqp oqr
      have Kh := Lib.hid (Mem.own_SR oh)
      clear oh
      have c_Vbp_0 := Vbp_21.out.cell 0 _ rfl
      have c_Vbp_1 := Vbp_21.out.cell 1 _ rfl
      have lt_Vbp := Vbp_21.out.lt
      have c_Vbr_0 := Vbr_21.out.cell 0 _ rfl
      have c_Vbr_1 := Vbr_21.out.cell 1 _ rfl
      have c_Vbr_2 := Vbr_21.out.cell 2 _ rfl
      have c_Vbr_3 := Vbr_21.out.cell 3 _ rfl
      have c_Vbr_4 := Vbr_21.out.cell 4 _ rfl
      have c_Vbr_5 := Vbr_21.out.cell 5 _ rfl
      have c_Vbr_6 := Vbr_21.out.cell 6 _ rfl
      have lt_Vbr := Vbr_21.out.lt
      have c_Vxp_0 := Vxp_21.out.cell 0 _ rfl
      have c_Vxp_1 := Vxp_21.out.cell 1 _ rfl
      have lt_Vxp := Vxp_21.out.lt
      have c_Vxr_0 := Vxr_21.out.cell 0 _ rfl
      have c_Vxr_1 := Vxr_21.out.cell 1 _ rfl
      have c_Vxr_2 := Vxr_21.out.cell 2 _ rfl
      have c_Vxr_3 := Vxr_21.out.cell 3 _ rfl
      have c_Vxr_4 := Vxr_21.out.cell 4 _ rfl
      have c_Vxr_5 := Vxr_21.out.cell 5 _ rfl
      have c_Vxr_6 := Vxr_21.out.cell 6 _ rfl
      have lt_Vxr := Vxr_21.out.lt
      go_wp2_with fail
      refine (Calls.mono (StrK.eq_same H W ch cw T _ Kh.out.1 Kw_21.out.1 (by omega))) ?_
      rintro e w22 ⟨rfl, b22⟩
      have hs22 : w21.heap.size ≤ w22.heap.size := b22.size
      have d22 : Below w21.heap.size w21 w22 := (Below.refl w21.heap.size w21).trans (b22.mono (show w21.heap.size ≤ w21.heap.size by first | exact Nat.le_refl _ | (simp; done) | (simp; omega)))
      have B22 := Lib.hid (B21.out.trans (d22.mono B21.out.size))
      have Vbp_22 := Lib.hid (Vbp_21.out.below d22)
      have Vbr_22 := Lib.hid (Vbr_21.out.below d22)
      have Kw_22 := Lib.hid (Kw_21.out.below d22)
      have Vxp_22 := Lib.hid (Vxp_21.out.below d22)
      have Vxr_22 := Lib.hid (Vxr_21.out.below d22)
      have Rg_22 := Lib.hid (Rg_21.out.below d22)
      have Kh_22 := Lib.hid (Kh.out.below d22)
      clear Vbp_21 Vbr_21 Kw_21 Vxp_21 Vxr_21 Rg_21 Kh c_Vbp_0 c_Vbp_1 lt_Vbp c_Vbr_0 c_Vbr_1 c_Vbr_2 c_Vbr_3 c_Vbr_4 c_Vbr_5 c_Vbr_6 lt_Vbr c_Vxp_0 c_Vxp_1 lt_Vxp c_Vxr_0 c_Vxr_1 c_Vxr_2 c_Vxr_3 c_Vxr_4 c_Vxr_5 c_Vxr_6 lt_Vxr b22 d22
      have c_Vbp_0 := Vbp_22.out.cell 0 _ rfl
      have c_Vbp_1 := Vbp_22.out.cell 1 _ rfl
      have lt_Vbp := Vbp_22.out.lt
      have c_Vbr_0 := Vbr_22.out.cell 0 _ rfl
      have c_Vbr_1 := Vbr_22.out.cell 1 _ rfl
      have c_Vbr_2 := Vbr_22.out.cell 2 _ rfl
      have c_Vbr_3 := Vbr_22.out.cell 3 _ rfl
      have c_Vbr_4 := Vbr_22.out.cell 4 _ rfl
      have c_Vbr_5 := Vbr_22.out.cell 5 _ rfl
      have c_Vbr_6 := Vbr_22.out.cell 6 _ rfl
      have lt_Vbr := Vbr_22.out.lt
      have c_Vxp_0 := Vxp_22.out.cell 0 _ rfl
      have c_Vxp_1 := Vxp_22.out.cell 1 _ rfl
      have lt_Vxp := Vxp_22.out.lt
      have c_Vxr_0 := Vxr_22.out.cell 0 _ rfl
      have c_Vxr_1 := Vxr_22.out.cell 1 _ rfl
      have c_Vxr_2 := Vxr_22.out.cell 2 _ rfl
      have c_Vxr_3 := Vxr_22.out.cell 3 _ rfl
      have c_Vxr_4 := Vxr_22.out.cell 4 _ rfl
      have c_Vxr_5 := Vxr_22.out.cell 5 _ rfl
      have c_Vxr_6 := Vxr_22.out.cell 6 _ rfl
      have lt_Vxr := Vxr_22.out.lt
      go_wp2_with fail
      refine (Calls.mono (StrK.held1 G cg T.length _ Rg_22.out.1 (by omega))) ?_
      rintro e w23 ⟨rfl, b23⟩
      have hs23 : w22.heap.size ≤ w23.heap.size := b23.size
      have d23 : Below w22.heap.size w22 w23 := (Below.refl w22.heap.size w22).trans (b23.mono (show w22.heap.size ≤ w22.heap.size by first | exact Nat.le_refl _ | (simp; done) | (simp; omega)))
      have B23 := Lib.hid (B22.out.trans (d23.mono B22.out.size))
      have Vbp_23 := Lib.hid (Vbp_22.out.below d23)
      have Vbr_23 := Lib.hid (Vbr_22.out.below d23)
      have Kw_23 := Lib.hid (Kw_22.out.below d23)
      have Vxp_23 := Lib.hid (Vxp_22.out.below d23)
      have Vxr_23 := Lib.hid (Vxr_22.out.below d23)
      have Rg_23 := Lib.hid (Rg_22.out.below d23)
      have Kh_23 := Lib.hid (Kh_22.out.below d23)
      clear Vbp_22 Vbr_22 Kw_22 Vxp_22 Vxr_22 Rg_22 Kh_22 c_Vbp_0 c_Vbp_1 lt_Vbp c_Vbr_0 c_Vbr_1 c_Vbr_2 c_Vbr_3 c_Vbr_4 c_Vbr_5 c_Vbr_6 lt_Vbr c_Vxp_0 c_Vxp_1 lt_Vxp c_Vxr_0 c_Vxr_1 c_Vxr_2 c_Vxr_3 c_Vxr_4 c_Vxr_5 c_Vxr_6 lt_Vxr b23 d23
      have c_Vbp_0 := Vbp_23.out.cell 0 _ rfl
      have c_Vbp_1 := Vbp_23.out.cell 1 _ rfl
      have lt_Vbp := Vbp_23.out.lt
      have c_Vbr_0 := Vbr_23.out.cell 0 _ rfl
      have c_Vbr_1 := Vbr_23.out.cell 1 _ rfl
      have c_Vbr_2 := Vbr_23.out.cell 2 _ rfl
      have c_Vbr_3 := Vbr_23.out.cell 3 _ rfl
      have c_Vbr_4 := Vbr_23.out.cell 4 _ rfl
      have c_Vbr_5 := Vbr_23.out.cell 5 _ rfl
      have c_Vbr_6 := Vbr_23.out.cell 6 _ rfl
      have lt_Vbr := Vbr_23.out.lt
      have c_Vxp_0 := Vxp_23.out.cell 0 _ rfl
      have c_Vxp_1 := Vxp_23.out.cell 1 _ rfl
      have lt_Vxp := Vxp_23.out.lt
      have c_Vxr_0 := Vxr_23.out.cell 0 _ rfl
      have c_Vxr_1 := Vxr_23.out.cell 1 _ rfl
      have c_Vxr_2 := Vxr_23.out.cell 2 _ rfl
      have c_Vxr_3 := Vxr_23.out.cell 3 _ rfl
      have c_Vxr_4 := Vxr_23.out.cell 4 _ rfl
      have c_Vxr_5 := Vxr_23.out.cell 5 _ rfl
      have c_Vxr_6 := Vxr_23.out.cell 6 _ rfl
      have lt_Vxr := Vxr_23.out.lt
      go_wp2
      go_ret
      exact ⟨rfl, B23.out⟩
    · simp only [if_neg htr] at SZ
      have HS1 := Lib.hid SZ
      clear SZ hwfr
      have B0 := Lib.hid (Below.refl w0.heap.size w0)
      go_enter Try.func4, Try.ntmps4
      go_wp2_with fail
      refine (Calls.mono (HS0.out _ (hp.below (B0.out.trans ((((Below.refl w0.heap.size w0).alloc (by first | (simp; done) | (simp; omega)) (Obj.cells #[Value.slice A0p x0p.length c0p, Value.slice A1p x1p.length c1p] 25)).alloc (by first | (simp; done) | (simp; omega)) (Obj.cells #[Value.string z0r, Value.slice A1r x1r.length c1r, Value.slice A2r x2r.length c2r, Value.slice A3r x3r.length c3r, Value.bool z4r, Value.slice A5r x5r.length c5r, Value.string z6r] 49)).mono B0.out.size))))) ?_
      rintro e w1 ⟨rfl, b1⟩
      have hs1 : ((w0.alloc (Obj.cells #[Value.slice A0p x0p.length c0p, Value.slice A1p x1p.length c1p] 25)).alloc (Obj.cells #[Value.string z0r, Value.slice A1r x1r.length c1r, Value.slice A2r x2r.length c2r, Value.slice A3r x3r.length c3r, Value.bool z4r, Value.slice A5r x5r.length c5r, Value.string z6r] 49)).heap.size ≤ w1.heap.size := b1.size
      simp only [World.size_alloc] at hs1
      have d1 : Below w0.heap.size w0 w1 := (((Below.refl w0.heap.size w0).alloc (by first | (simp; done) | (simp; omega)) (Obj.cells #[Value.slice A0p x0p.length c0p, Value.slice A1p x1p.length c1p] 25)).alloc (by first | (simp; done) | (simp; omega)) (Obj.cells #[Value.string z0r, Value.slice A1r x1r.length c1r, Value.slice A2r x2r.length c2r, Value.slice A3r x3r.length c3r, Value.bool z4r, Value.slice A5r x5r.length c5r, Value.string z6r] 49)).trans (b1.mono (show w0.heap.size ≤ ((w0.alloc (Obj.cells #[Value.slice A0p x0p.length c0p, Value.slice A1p x1p.length c1p] 25)).alloc (Obj.cells #[Value.string z0r, Value.slice A1r x1r.length c1r, Value.slice A2r x2r.length c2r, Value.slice A3r x3r.length c3r, Value.bool z4r, Value.slice A5r x5r.length c5r, Value.string z6r] 49)).heap.size by first | exact Nat.le_refl _ | (simp; done) | (simp; omega)))
      have B1 := Lib.hid (B0.out.trans (d1.mono B0.out.size))
      have Vbp_1 := Lib.hid (((Lvar.new w0 #[Value.slice A0p x0p.length c0p, Value.slice A1p x1p.length c1p] 25).alloc (Obj.cells #[Value.string z0r, Value.slice A1r x1r.length c1r, Value.slice A2r x2r.length c2r, Value.slice A3r x3r.length c3r, Value.bool z4r, Value.slice A5r x5r.length c5r, Value.string z6r] 49)).below b1)
      have Vbr_1 := Lib.hid ((Lvar.new (w0.alloc (Obj.cells #[Value.slice A0p x0p.length c0p, Value.slice A1p x1p.length c1p] 25)) #[Value.string z0r, Value.slice A1r x1r.length c1r, Value.slice A2r x2r.length c2r, Value.slice A3r x3r.length c3r, Value.bool z4r, Value.slice A5r x5r.length c5r, Value.string z6r] 49).below b1)
      simp only [World.size_alloc] at Vbr_1
      clear b1 d1
      have c_Vbp_0 := Vbp_1.out.cell 0 _ rfl
      have c_Vbp_1 := Vbp_1.out.cell 1 _ rfl
      have lt_Vbp := Vbp_1.out.lt
      have c_Vbr_0 := Vbr_1.out.cell 0 _ rfl
      have c_Vbr_1 := Vbr_1.out.cell 1 _ rfl
      have c_Vbr_2 := Vbr_1.out.cell 2 _ rfl
      have c_Vbr_3 := Vbr_1.out.cell 3 _ rfl
      have c_Vbr_4 := Vbr_1.out.cell 4 _ rfl
      have c_Vbr_5 := Vbr_1.out.cell 5 _ rfl
      have c_Vbr_6 := Vbr_1.out.cell 6 _ rfl
      have lt_Vbr := Vbr_1.out.lt
      go_wp2_with fail
      refine (Calls.mono (HS1.out _ (hr.below B1.out))) ?_
      rintro e w2 ⟨rfl, b2⟩
      have hs2 : w1.heap.size ≤ w2.heap.size := b2.size
      have d2 : Below w1.heap.size w1 w2 := (Below.refl w1.heap.size w1).trans (b2.mono (show w1.heap.size ≤ w1.heap.size by first | exact Nat.le_refl _ | (simp; done) | (simp; omega)))
      have B2 := Lib.hid (B1.out.trans (d2.mono B1.out.size))
      have Vbp_2 := Lib.hid (Vbp_1.out.below d2)
      have Vbr_2 := Lib.hid (Vbr_1.out.below d2)
      clear Vbp_1 Vbr_1 c_Vbp_0 c_Vbp_1 lt_Vbp c_Vbr_0 c_Vbr_1 c_Vbr_2 c_Vbr_3 c_Vbr_4 c_Vbr_5 c_Vbr_6 lt_Vbr b2 d2
      have c_Vbp_0 := Vbp_2.out.cell 0 _ rfl
      have c_Vbp_1 := Vbp_2.out.cell 1 _ rfl
      have lt_Vbp := Vbp_2.out.lt
      have c_Vbr_0 := Vbr_2.out.cell 0 _ rfl
      have c_Vbr_1 := Vbr_2.out.cell 1 _ rfl
      have c_Vbr_2 := Vbr_2.out.cell 2 _ rfl
      have c_Vbr_3 := Vbr_2.out.cell 3 _ rfl
      have c_Vbr_4 := Vbr_2.out.cell 4 _ rfl
      have c_Vbr_5 := Vbr_2.out.cell 5 _ rfl
      have c_Vbr_6 := Vbr_2.out.cell 6 _ rfl
      have lt_Vbr := Vbr_2.out.lt
      go_wp2
      go_ret
      exact ⟨rfl, B2.out⟩
  · simp only [if_neg htp] at SZ
    have HS0 := Lib.hid SZ
    clear SZ hwfp
    have B0 := Lib.hid (Below.refl w0.heap.size w0)
    go_enter Try.func4, Try.ntmps4
    go_wp2_with fail
    refine (Calls.mono (HS0.out _ (hp.below (B0.out.trans ((((Below.refl w0.heap.size w0).alloc (by first | (simp; done) | (simp; omega)) (Obj.cells #[Value.slice A0p x0p.length c0p, Value.slice A1p x1p.length c1p] 25)).alloc (by first | (simp; done) | (simp; omega)) (Obj.cells #[Value.string z0r, Value.slice A1r x1r.length c1r, Value.slice A2r x2r.length c2r, Value.slice A3r x3r.length c3r, Value.bool z4r, Value.slice A5r x5r.length c5r, Value.string z6r] 49)).mono B0.out.size))))) ?_
    rintro e w1 ⟨rfl, b1⟩
    have hs1 : ((w0.alloc (Obj.cells #[Value.slice A0p x0p.length c0p, Value.slice A1p x1p.length c1p] 25)).alloc (Obj.cells #[Value.string z0r, Value.slice A1r x1r.length c1r, Value.slice A2r x2r.length c2r, Value.slice A3r x3r.length c3r, Value.bool z4r, Value.slice A5r x5r.length c5r, Value.string z6r] 49)).heap.size ≤ w1.heap.size := b1.size
    simp only [World.size_alloc] at hs1
    have d1 : Below w0.heap.size w0 w1 := (((Below.refl w0.heap.size w0).alloc (by first | (simp; done) | (simp; omega)) (Obj.cells #[Value.slice A0p x0p.length c0p, Value.slice A1p x1p.length c1p] 25)).alloc (by first | (simp; done) | (simp; omega)) (Obj.cells #[Value.string z0r, Value.slice A1r x1r.length c1r, Value.slice A2r x2r.length c2r, Value.slice A3r x3r.length c3r, Value.bool z4r, Value.slice A5r x5r.length c5r, Value.string z6r] 49)).trans (b1.mono (show w0.heap.size ≤ ((w0.alloc (Obj.cells #[Value.slice A0p x0p.length c0p, Value.slice A1p x1p.length c1p] 25)).alloc (Obj.cells #[Value.string z0r, Value.slice A1r x1r.length c1r, Value.slice A2r x2r.length c2r, Value.slice A3r x3r.length c3r, Value.bool z4r, Value.slice A5r x5r.length c5r, Value.string z6r] 49)).heap.size by first | exact Nat.le_refl _ | (simp; done) | (simp; omega)))
    have B1 := Lib.hid (B0.out.trans (d1.mono B0.out.size))
    have Vbp_1 := Lib.hid (((Lvar.new w0 #[Value.slice A0p x0p.length c0p, Value.slice A1p x1p.length c1p] 25).alloc (Obj.cells #[Value.string z0r, Value.slice A1r x1r.length c1r, Value.slice A2r x2r.length c2r, Value.slice A3r x3r.length c3r, Value.bool z4r, Value.slice A5r x5r.length c5r, Value.string z6r] 49)).below b1)
    have Vbr_1 := Lib.hid ((Lvar.new (w0.alloc (Obj.cells #[Value.slice A0p x0p.length c0p, Value.slice A1p x1p.length c1p] 25)) #[Value.string z0r, Value.slice A1r x1r.length c1r, Value.slice A2r x2r.length c2r, Value.slice A3r x3r.length c3r, Value.bool z4r, Value.slice A5r x5r.length c5r, Value.string z6r] 49).below b1)
    simp only [World.size_alloc] at Vbr_1
    clear b1 d1
    have c_Vbp_0 := Vbp_1.out.cell 0 _ rfl
    have c_Vbp_1 := Vbp_1.out.cell 1 _ rfl
    have lt_Vbp := Vbp_1.out.lt
    have c_Vbr_0 := Vbr_1.out.cell 0 _ rfl
    have c_Vbr_1 := Vbr_1.out.cell 1 _ rfl
    have c_Vbr_2 := Vbr_1.out.cell 2 _ rfl
    have c_Vbr_3 := Vbr_1.out.cell 3 _ rfl
    have c_Vbr_4 := Vbr_1.out.cell 4 _ rfl
    have c_Vbr_5 := Vbr_1.out.cell 5 _ rfl
    have c_Vbr_6 := Vbr_1.out.cell 6 _ rfl
    have lt_Vbr := Vbr_1.out.lt
    go_wp2
    go_ret
    exact ⟨rfl, B1.out⟩

set_option maxRecDepth 100000 in
theorem lifted (os : Os) (started : os.Started) (H : Type) (enc : TypeId × Value → H) :
    ReturnsInHanded {} Try.checked os 4 .any (Rows.fnExactScopeOfSpec.pre6 enc Try.prog Try.f4 Rows.fnExactScopeOfRow.domain false) (Rows.fnExactScopeOfSpec.post enc Try.prog Try.f4 false true false false) := by
  refine returnsInHanded_of_change (C := Try.checked) Frame.own started (by kernel_rfl) Try.func4
    (ChangeSpec.witness6 (enc := enc) (C := Try.checked) false ⟨#[], #[.agg #[.slice none 0 0, .slice none 0 0], .agg #[.string .empty, .slice none 0 0, .slice none 0 0, .slice none 0 0, .bool false, .slice none 0 0, .string .empty], .int .i64 0], []⟩ 8 (by kernel_rfl) (by kernel_rfl) (by kernel_rfl) (by kernel_rfl)) ?_
  intro W base args ds gs before hval0 hW _ _
  have hW' := hW
  have hval : ∀ (j : Nat) t v, Try.f4.params[j]? = some t → args[j]? = some v → Value.okWide Try.prog W .any base t v := hval0
  obtain ⟨p, q, hA0, hV, rfl, hfz, hnd⟩ := hW
  have hA : DataW.TrodAll enc Try.prog W 0 (fun _ => true) true Try.f4.params.toList args.toList ds p := hA0
  rw [Try.params4] at hA hval
  obtain ⟨v0, v1, v2, d0, d1, d2, p0, p1, p2, rfl, rfl, rfl, h0, h1, h2⟩ := trodAll_three hA
  have hlt := fun x hx => hW'.lt x hx
  obtain ⟨rfl, rfl⟩ := trodVars_none hV
  obtain ⟨A0p, c0p, x0p, A1p, c1p, x1p, rfl, hrp, hwp⟩ := Frame.openU_Program (W := W) (hval 0 25 v0 rfl rfl) h0 (fun x hx => hlt x (by simp [hx]))
  obtain ⟨z0r, A1r, c1r, x1r, A2r, c2r, x2r, A3r, c3r, x3r, z4r, A5r, c5r, x5r, z6r, rfl, hrr, hwr⟩ := Frame.openU_Rule (W := W) (hval 1 49 v1 rfl rfl) h1 (fun x hx => hlt x (by simp [hx]))
  obtain ⟨n, rfl, rfl, rfl, wn⟩ := open_int Try.underlying3 (hval 2 3 v2 rfl rfl) h2
  refine (walk A0p c0p x0p A1p c1p x1p z0r A1r c1r x1r A2r c2r x2r A3r c3r x3r z4r A5r c5r x5r z6r n W hrp hwp hrr hwr).mono fun e W' ⟨he, hb⟩ => ?_
  subst he
  exact ⟨_, rfl, Frame.law_post (tb := 4) Frame.laidOut (by kernel_rfl) (by kernel_rfl) (by kernel_rfl) Try.underlying4 hW' rfl hb⟩

theorem proved : Rows.FnExactScopeOfSaid :=
  OpenClaim.holds_of_wide 4 Try.f4 rfl rfl rfl rfl rfl rfl rfl ⟨rfl, rfl, rfl, rfl, rfl⟩ rfl rfl rfl rfl rfl (by kernel_rfl) Try.func4 (by kernel_rfl)
    (of_decide_eq_true (by kernel_rfl)) (by unfold Func.isWrapper; first | (rw [if_pos (by decide +kernel)]; kernel_rfl) | (rw [if_neg (by decide +kernel)]; exact ⟨rfl, rfl⟩))
    (fun os started H enc _ => lifted os started H enc)
end LawScopeOf
end Go.Proofs.Ytaaceggedjcbpaa
