import Derived.Test.YtbbllkhmenpnlaaGreatPgmValS3
import Derived.Deep.RegionHeld3
import Derived.BigQuiet
/-
  Programs: validity of rules, of the model (made by tools/s10w.py): a rule.
-/
namespace Go.Proofs.YtbbllkhmenpnlaaGreat
open Go.RowKit
def oPgmValS4O23 : Oper := { dst := some 39, op := Op.pick (Operand.tmp 34) (Operand.const (Value.bool true)) (Operand.tmp 38), type := 4, pos := "l10_program.go:85", after := #[{ on := 18, ground := Ground.data }, { on := 22, ground := Ground.data }], guard := none }
def oPgmValS4O22 : Oper := { dst := some 38, op := Op.binOp BinOp.gtr 3 (Operand.tmp 37) (Operand.const (Value.int IntKind.i64 2)) 3, type := 4, pos := "l10_program.go:85", after := #[{ on := 21, ground := Ground.data }, { on := 18, ground := Ground.guard }], guard := some (18, false) }
def oPgmValS4O21 : Oper := { dst := some 37, op := Op.call { callee := Callee.builtin Builtin.len, args := #[Operand.tmp 36], argTypes := #[44] }, type := 3, pos := "l10_program.go:85", after := #[{ on := 20, ground := Ground.data }, { on := 18, ground := Ground.guard }], guard := some (18, false) }
def oPgmValS4O20 : Oper := { dst := some 36, op := Op.load 44 (Operand.tmp 35), type := 44, pos := "l10_program.go:85", after := #[{ on := 19, ground := Ground.data }, { on := 18, ground := Ground.guard }], guard := some (18, false) }
def oPgmValS4O19 : Oper := { dst := some 35, op := Op.fieldAddr 48 (Operand.tmp 3) 3, type := 0, pos := "l10_program.go:85", after := #[{ on := 18, ground := Ground.guard }], guard := some (18, false) }
def oPgmValS4O18 : Oper := { dst := some 34, op := Op.move (Operand.tmp 33), type := 4, pos := "l10_program.go:85", after := #[{ on := 17, ground := Ground.data }, { on := 15, ground := Ground.chain }], guard := none }
def oPgmValS4O17 : Oper := { dst := some 33, op := Op.pick (Operand.tmp 25) (Operand.const (Value.bool true)) (Operand.tmp 32), type := 4, pos := "l10_program.go:85", after := #[{ on := 9, ground := Ground.data }, { on := 16, ground := Ground.data }], guard := none }
def oPgmValS4O16 : Oper := { dst := some 32, op := Op.unOp UnOp.not 4 (Operand.tmp 31), type := 4, pos := "l10_program.go:85", after := #[{ on := 15, ground := Ground.data }, { on := 9, ground := Ground.guard }], guard := some (9, false) }
def oPgmValS4O15 : Oper := { dst := some 31, op := Op.call { callee := Callee.value (Operand.func 100), args := #[Operand.tmp 27, Operand.tmp 30], argTypes := #[43, 31] }, type := 4, pos := "l10_program.go:85", after := #[{ on := 11, ground := Ground.data }, { on := 14, ground := Ground.data }, { on := 14, ground := Ground.chain }, { on := 9, ground := Ground.guard }], guard := some (9, false) }
def oPgmValS4O14 : Oper := { dst := some 30, op := Op.call { callee := Callee.value (Operand.func 101), args := #[Operand.tmp 28, Operand.tmp 29, Operand.const (Value.int IntKind.i64 0)], argTypes := #[27, 48, 3] }, type := 31, pos := "l10_program.go:85", after := #[{ on := 12, ground := Ground.data }, { on := 13, ground := Ground.data }, { on := 9, ground := Ground.chain }, { on := 9, ground := Ground.guard }], guard := some (9, false) }
def oPgmValS4O13 : Oper := { dst := some 29, op := Op.load 48 (Operand.tmp 3), type := 48, pos := "l10_program.go:85", after := #[{ on := 9, ground := Ground.guard }], guard := some (9, false) }
def oPgmValS4O12 : Oper := { dst := some 28, op := Op.load 27 (Operand.tmp 2), type := 27, pos := "l10_program.go:85", after := #[{ on := 9, ground := Ground.guard }], guard := some (9, false) }
def oPgmValS4O11 : Oper := { dst := some 27, op := Op.load 43 (Operand.tmp 26), type := 43, pos := "l10_program.go:85", after := #[{ on := 10, ground := Ground.data }, { on := 9, ground := Ground.guard }], guard := some (9, false) }
def oPgmValS4O10 : Oper := { dst := some 26, op := Op.fieldAddr 48 (Operand.tmp 3) 2, type := 0, pos := "l10_program.go:85", after := #[{ on := 9, ground := Ground.guard }], guard := some (9, false) }
def oPgmValS4O9 : Oper := { dst := some 25, op := Op.move (Operand.tmp 24), type := 4, pos := "l10_program.go:85", after := #[{ on := 8, ground := Ground.data }, { on := 6, ground := Ground.chain }], guard := none }
def oPgmValS4O8 : Oper := { dst := some 24, op := Op.pick (Operand.tmp 18) (Operand.const (Value.bool true)) (Operand.tmp 23), type := 4, pos := "l10_program.go:85", after := #[{ on := 2, ground := Ground.data }, { on := 7, ground := Ground.data }], guard := none }
def oPgmValS4O7 : Oper := { dst := some 23, op := Op.unOp UnOp.not 4 (Operand.tmp 22), type := 4, pos := "l10_program.go:85", after := #[{ on := 6, ground := Ground.data }, { on := 2, ground := Ground.guard }], guard := some (2, false) }
def oPgmValS4O6 : Oper := { dst := some 22, op := Op.call { callee := Callee.value (Operand.func 99), args := #[Operand.tmp 19, Operand.tmp 21], argTypes := #[98, 42] }, type := 4, pos := "l10_program.go:85", after := #[{ on := 3, ground := Ground.data }, { on := 5, ground := Ground.data }, { on := 2, ground := Ground.chain }, { on := 2, ground := Ground.guard }], guard := some (2, false) }
def oPgmValS4O5 : Oper := { dst := some 21, op := Op.load 42 (Operand.tmp 20), type := 42, pos := "l10_program.go:85", after := #[{ on := 4, ground := Ground.data }, { on := 2, ground := Ground.guard }], guard := some (2, false) }
def oPgmValS4O4 : Oper := { dst := some 20, op := Op.fieldAddr 48 (Operand.tmp 3) 1, type := 0, pos := "l10_program.go:85", after := #[{ on := 2, ground := Ground.guard }], guard := some (2, false) }
def oPgmValS4O3 : Oper := { dst := some 19, op := Op.load 98 (Operand.tmp 5), type := 98, pos := "l10_program.go:85", after := #[{ on := 2, ground := Ground.guard }], guard := some (2, false) }
def oPgmValS4O2 : Oper := { dst := some 18, op := Op.move (Operand.tmp 17), type := 4, pos := "l10_program.go:85", after := #[{ on := 1, ground := Ground.data }], guard := none }
def oPgmValS4O1 : Oper := { dst := some 17, op := Op.unOp UnOp.not 4 (Operand.tmp 16), type := 4, pos := "l10_program.go:85", after := #[{ on := 0, ground := Ground.data }], guard := none }
def oPgmValS4O0 : Oper := { dst := some 16, op := Op.move (Operand.tmp 6), type := 4, pos := "l10_program.go:85", after := #[], guard := none }
namespace ProgS
open RowK Mem ProgM ProgI
set_option maxHeartbeats 8000000 in
set_option maxRecDepth 100000 in
theorem validRule (A B : Option Addr) (m c d : Nat) (fs : List FunctionT) (z0 : ByteArray) (A1 : Option Addr) (c1 : Nat) (x1 : List PatternT) (A2 : Option Addr) (c2 : Nat) (x2 : List SumT) (A3 : Option Addr) (c3 : Nat) (x3 : List CallT) (z4 : Bool) (A5 : Option Addr) (c5 : Nat) (x5 : List SumT) (z6 : ByteArray) (w : World)
  (hA : ArgS fn w A fs.length c fs) (hl : fs.length + szs szFunctionU fs ≤ 9000000) (h1 : ArgS pat w A1 x1.length c1 x1) (h2 : ArgS Mem.sum w A2 x2.length c2 x2) (h3 : ArgS Mem.call w A3 x3.length c3 x3) (h5 : ArgS Mem.sum w A5 x5.length c5 x5) (hr : szRuleU (z0, x1, x2, x3, z4, x5, z6) ≤ 9000000) :
  Calls Tryz.prog 61 #[.agg #[.slice A fs.length c, .slice B m d], .agg #[.string z0, .slice A1 x1.length c1, .slice A2 x2.length c2, .slice A3 x3.length c3, .bool z4, .slice A5 x5.length c5, .string z6]] w fun e w' => e = .returned (.bool (ruleV fs (z0, x1, x2, x3, z4, x5, z6))) ∧ Below w.heap.size w w' := by
 have b0 : Below w.heap.size w ((w.alloc (Obj.cells #[Value.slice A fs.length c, Value.slice B m d] 27)).alloc (Obj.cells #[Value.string z0, Value.slice A1 x1.length c1, Value.slice A2 x2.length c2, Value.slice A3 x3.length c3, Value.bool z4, Value.slice A5 x5.length c5, Value.string z6] 48)) := ((Below.refl _ _).alloc (Nat.le_refl _) _).alloc (by simp) _
 have B0 := Lib.hid b0
 have P0 := Lib.hid ((Lvar.new w #[Value.slice A fs.length c, Value.slice B m d] 27).alloc (Obj.cells #[Value.string z0, Value.slice A1 x1.length c1, Value.slice A2 x2.length c2, Value.slice A3 x3.length c3, Value.bool z4, Value.slice A5 x5.length c5, Value.string z6] 48))
 have V0 := Lvar.new (w.alloc (Obj.cells #[Value.slice A fs.length c, Value.slice B m d] 27)) #[Value.string z0, Value.slice A1 x1.length c1, Value.slice A2 x2.length c2, Value.slice A3 x3.length c3, Value.bool z4, Value.slice A5 x5.length c5, Value.string z6] 48
 simp only [World.size_alloc] at V0
 have V0 := Lib.hid V0
 have FF := Lib.hid (find A B m c d fs z0 _ (hA.below b0) (by omega))
 have HA := Lib.hid hA
 have HLF := Lib.hid hl
 have H1 := Lib.hid h1
 have H2 := Lib.hid h2
 have H3 := Lib.hid h3
 have H5 := Lib.hid h5
 simp only [szRuleU, szArgU] at hr
 have HRS := Lib.hid hr
 have hxl : x1.length ≤ 9000000 ∧ x2.length ≤ 9000000 ∧ x3.length ≤ 9000000 := by omega
 have HFS := Lib.hid (find_small (nm := z0) hl)
 have SO := Lib.hid (fun n W (h : Below w.heap.size w W) => scopeOf A B m c d fs z0 A1 c1 x1 A2 c2 x2 A3 c3 x3 z4 A5 c5 x5 z6 n W (hA.below h) (by omega) (h1.below h) (h3.below h) (by omega) (by omega))
 have HO := Lib.hid (show ruleV fs (z0, x1, x2, x3, z4, x5, z6) = ((findF fs z0).isSome && ruleF fs ((findF fs z0).getD zeroF) (z0, x1, x2, x3, z4, x5, z6)) from rfl)
 generalize ruleV fs (z0, x1, x2, x3, z4, x5, z6) = R at *
 clear hA h1 h2 h3 h5 b0 hl hr
 go_enter Tryz.func61, Tryz.ntmps61
 go_wp2_with fail
 refine (Calls.mono FF.out) ?_
 rintro e w1 ⟨D1, d1, D3, d3, rfl, o1, b1⟩
 have B1 := Lib.hid (below_step B0.out b1)
 have V1 := Lib.hid (V0.out.below b1)
 have P1 := Lib.hid (P0.out.below b1)
 have O1 := Lib.hid o1
 have hz := b1.size
 simp only [World.size_alloc] at hz
 clear o1 b1
 cases hF : findF fs z0 with
 | none =>
  have HR := Lib.hid (show R = false by rw [HO.out, hF]; rfl)
  have FIN := Lib.hid (B1.out.alloc B1.out.size (Obj.cells #[Value.string ByteArray.empty, Value.slice D1 0 d1, Value.bool false, Value.slice D3 0 d3] 98))
  simp only [Option.getD_none, Option.isSome_none, zeroF, List.length_nil]
  clear hF HO SO
  go_wp2
  go_quiet (fail)
  go_wp2
  go_ret
  exact ⟨ArgI.ret_b HR.out.symm, below_drewN FIN.out _⟩
 | some f =>
  have HFF := Lib.hid hF
  rw [hF] at HO HFS
  obtain ⟨fz0, fx1, fz2, fx3⟩ := f
  have O2 := O1.out
  rw [hF] at O2
  have O2 := Lib.hid (OwnR.arg (show OwnR fn _ w1.heap.size w1 [.string fz0, .slice D1 fx1.length d1, .bool fz2, .slice D3 fx3.length d3] (fz0, fx1, fz2, fx3) from O2))
  have hfz : szFunctionU (fz0, fx1, fz2, fx3) ≤ 9000000 := HFS.out
  simp only [szFunctionU] at hfz
  have hfx : fx1.length ≤ 9000000 := by omega
  have hnl := nmP_len x1
  have HSM := Lib.hid (show ∀ k : Nat, k ≤ x3.length → scopeM fs z0 x1 x3 (k : Int) = fx1 ++ nmP x1 ++ nmC (x3.take k) from fun k hk => by
   unfold scopeM
   rw [HFF.out]
   show (if 0 ≤ (k : Int) ∧ (k : Int) ≤ (x3.length : Int) then _ else _) = _
   rw [if_pos ⟨by omega, by omega⟩, Int.toNat_natCast])
  have SO := Lib.hid (show ∀ (k : Nat), k ≤ x3.length → ∀ W, Below w.heap.size w W → Calls Tryz.prog 101 #[.agg #[.slice A fs.length c, .slice B m d], .agg #[.string z0, .slice A1 x1.length c1, .slice A2 x2.length c2, .slice A3 x3.length c3, .bool z4, .slice A5 x5.length c5, .string z6], .int .i64 (k : Int)] W (GaveS W (fx1 ++ nmP x1 ++ nmC (x3.take k))) from fun k hk W h => by
   have := SO.out (k : Int) W h
   rwa [HSM.out k hk] at this)
  have hscl : (fx1 ++ nmP x1).length ≤ 27000000 := by rw [List.length_append]; omega
  have HO := Lib.hid (show R = ((patsV fx1 x1 && ((guardsV x2 (fx1 ++ nmP x1) && decide (x2.length ≤ 2)) && decide (x3.length ≤ 2))) && restV fs fz2 (z4, x5, z6) (fx1 ++ nmP x1) x3) by
   rw [HO.out]
   show (true && (patsV fx1 x1 && (decide (x2.length ≤ 2) && (decide (x3.length ≤ 2) && (guardsV x2 (fx1 ++ nmP x1) && restV fs fz2 (z4, x5, z6) (fx1 ++ nmP x1) x3))))) = _
   cases patsV fx1 x1 <;> cases decide (x2.length ≤ 2) <;> cases decide (x3.length ≤ 2) <;> cases guardsV x2 (fx1 ++ nmP x1) <;> rfl)
  simp only [Option.getD_some, Option.isSome_some]
  clear hF O1 HFS hfz HSM
  generalize fx1 ++ nmP x1 = sc at *
  have V2 := Lib.hid (V1.out.alloc (Obj.cells #[Value.string fz0, Value.slice D1 fx1.length d1, Value.bool fz2, Value.slice D3 fx3.length d3] 98))
  have P2 := Lib.hid (P1.out.alloc (Obj.cells #[Value.string fz0, Value.slice D1 fx1.length d1, Value.bool fz2, Value.slice D3 fx3.length d3] 98))
  have L2 := Lib.hid (Lvar.new w1 #[Value.string fz0, Value.slice D1 fx1.length d1, Value.bool fz2, Value.slice D3 fx3.length d3] 98)
  have B2 := Lib.hid (B1.out.alloc B1.out.size (Obj.cells #[Value.string fz0, Value.slice D1 fx1.length d1, Value.bool fz2, Value.slice D3 fx3.length d3] 98))
  have O3 := Lib.hid ((arg_fn O2.out).1.below ((Below.refl w1.heap.size w1).alloc (Nat.le_refl _) (Obj.cells #[Value.string fz0, Value.slice D1 fx1.length d1, Value.bool fz2, Value.slice D3 fx3.length d3] 98)))
  have hzw : w1.heap.size + 1 ≤ (w1.alloc (Obj.cells #[Value.string fz0, Value.slice D1 fx1.length d1, Value.bool fz2, Value.slice D3 fx3.length d3] 98)).heap.size := by simp
  clear O2 V1 V0 P1 P0 FF
  go_upto_region 2 with fail
  generalize w1.alloc (Obj.cells #[Value.string fz0, Value.slice D1 fx1.length d1, Value.bool fz2, Value.slice D3 fx3.length d3] 98) = w2 at *
  have EP := Lib.hid (fun W (h : Below w2.heap.size w2 W) => patterns fz0 D1 d1 fx1 fz2 D3 d3 fx3 A1 c1 x1 W (O3.out.below h) (H1.out.below (below_step B2.out h)) (by omega) (by have := HRS.out; omega))
  have EG := Lib.hid (fun (N : Option Addr) (cn : Nat) W (h : Below w2.heap.size w2 W) (hN : StrK.SRow W N sc) => guards A2 c2 x2 N cn sc W (H2.out.below (below_step B2.out h)) (by have := HRS.out; omega) hN (by omega))
  have e0 : sc ++ nmC (x3.take 0) = sc := by simp [nmC]
  have SO0 := Lib.hid (fun W (h : Below w2.heap.size w2 W) => SO.out 0 (Nat.zero_le _) W (below_step B2.out h))
  rw [e0] at SO0
  have SOF := Lib.hid SO.out
  have SO := Lib.hid (show ∀ W, Below w2.heap.size w2 W → Calls Tryz.prog 101 #[.agg #[.slice A fs.length c, .slice B m d], .agg #[.string z0, .slice A1 x1.length c1, .slice A2 x2.length c2, .slice A3 x3.length c3, .bool z4, .slice A5 x5.length c5, .string z6], .int .i64 0] W (GaveS W sc) from SO0.out)
  clear e0 SO0
  have KS := Lib.hid (fun W (h : Below w2.heap.size w2 W) => (show W.cell? ⟨w1.heap.size, 0, none⟩ = some (Value.string fz0) ∧ W.cell? ⟨w1.heap.size, 1, none⟩ = some (Value.slice D1 fx1.length d1) ∧ W.cell? ⟨w1.heap.size, 2, none⟩ = some (Value.bool fz2) ∧ W.cell? ⟨w1.heap.size, 3, none⟩ = some (Value.slice D3 fx3.length d3) ∧ W.cell? ⟨w.heap.size + 1, 0, none⟩ = some (Value.string z0) ∧ W.cell? ⟨w.heap.size + 1, 1, none⟩ = some (Value.slice A1 x1.length c1) ∧ W.cell? ⟨w.heap.size + 1, 2, none⟩ = some (Value.slice A2 x2.length c2) ∧ W.cell? ⟨w.heap.size + 1, 3, none⟩ = some (Value.slice A3 x3.length c3) ∧ W.cell? ⟨w.heap.size + 1, 4, none⟩ = some (Value.bool z4) ∧ W.cell? ⟨w.heap.size + 1, 5, none⟩ = some (Value.slice A5 x5.length c5) ∧ W.cell? ⟨w.heap.size + 1, 6, none⟩ = some (Value.string z6) ∧ W.cell? ⟨w.heap.size, 0, none⟩ = some (Value.slice A fs.length c) ∧ W.cell? ⟨w.heap.size, 1, none⟩ = some (Value.slice B m d) from ⟨(L2.out.below h).cell 0 _ rfl, (L2.out.below h).cell 1 _ rfl, (L2.out.below h).cell 2 _ rfl, (L2.out.below h).cell 3 _ rfl, (V2.out.below h).cell 0 _ rfl, (V2.out.below h).cell 1 _ rfl, (V2.out.below h).cell 2 _ rfl, (V2.out.below h).cell 3 _ rfl, (V2.out.below h).cell 4 _ rfl, (V2.out.below h).cell 5 _ rfl, (V2.out.below h).cell 6 _ rfl, (P2.out.below h).cell 0 _ rfl, (P2.out.below h).cell 1 _ rfl⟩))
  have D2 := Lib.hid (Below.refl w2.heap.size w2).drew
  obtain ⟨q, hq⟩ : ∃ q : Bool, q = (patsV fx1 x1 && ((guardsV x2 (sc) && decide (x2.length ≤ 2)) && decide (x3.length ≤ 2))) := ⟨_, rfl⟩
  rw [← hq] at HO
  have HQ := Lib.hid hq
  clear hq
  generalize patsV fx1 x1 = tp at *
  generalize (guardsV x2 (sc) && decide (x2.length ≤ 2)) = tg at *
  go_cut [39] (fun s wx => s = .bool (!q) ∧ Below w2.heap.size w2 wx)
  case first =>
   cases tp with
   | false =>
    have HF := Lib.hid (show q = false by rw [HQ.out]; rfl)
    refine wp_region_held_drew (S := (fun w' => w'.cell? ⟨w1.heap.size, 0, none⟩ = some (Value.string fz0) ∧ w'.cell? ⟨w1.heap.size, 1, none⟩ = some (Value.slice D1 fx1.length d1) ∧ w'.cell? ⟨w1.heap.size, 2, none⟩ = some (Value.bool fz2) ∧ w'.cell? ⟨w1.heap.size, 3, none⟩ = some (Value.slice D3 fx3.length d3) ∧ w'.cell? ⟨w.heap.size + 1, 0, none⟩ = some (Value.string z0) ∧ w'.cell? ⟨w.heap.size + 1, 1, none⟩ = some (Value.slice A1 x1.length c1) ∧ w'.cell? ⟨w.heap.size + 1, 2, none⟩ = some (Value.slice A2 x2.length c2) ∧ w'.cell? ⟨w.heap.size + 1, 3, none⟩ = some (Value.slice A3 x3.length c3) ∧ w'.cell? ⟨w.heap.size + 1, 4, none⟩ = some (Value.bool z4) ∧ w'.cell? ⟨w.heap.size + 1, 5, none⟩ = some (Value.slice A5 x5.length c5) ∧ w'.cell? ⟨w.heap.size + 1, 6, none⟩ = some (Value.string z6) ∧ w'.cell? ⟨w.heap.size, 0, none⟩ = some (Value.slice A fs.length c) ∧ w'.cell? ⟨w.heap.size, 1, none⟩ = some (Value.slice B m d))) (by kernel_rfl) ?_ (fun hHeld => ?_)
    ·(try dsimp only); exact KS.out _ D2.out
    refine tkW 0 oPgmValS4O0 ?v1_0 ?hy1_0 ?r1_0
    case hy1_0 => (intro w hSw; (try dsimp only at hSw); (try unfold oPgmValS4O0); go_simp; try (with_reducible rfl))
    (try simp only [oPgmValS4O0, Act.put, zA, zB, zC])
    refine tkW 1 oPgmValS4O1 ?v1_1 ?hy1_1 ?r1_1
    case hy1_1 => (intro w hSw; (try dsimp only at hSw); (try unfold oPgmValS4O1); go_simp; try (with_reducible rfl))
    (try simp only [oPgmValS4O1, Act.put, zA, zB, zC])
    refine tkW 2 oPgmValS4O2 ?v1_2 ?hy1_2 ?r1_2
    case hy1_2 => (intro w hSw; (try dsimp only at hSw); (try unfold oPgmValS4O2); go_simp; try (with_reducible rfl))
    (try simp only [oPgmValS4O2, Act.put, zA, zB, zC])
    refine tkW 3 oPgmValS4O3 ?v1_3 ?hy1_3 ?r1_3
    case hy1_3 => (intro w hSw; (try dsimp only at hSw); (try unfold oPgmValS4O3); go_simp; try (with_reducible rfl))
    (try simp only [oPgmValS4O3, Act.put, zA, zB, zC])
    refine tkW 4 oPgmValS4O4 ?v1_4 ?hy1_4 ?r1_4
    case hy1_4 => (intro w hSw; (try dsimp only at hSw); (try unfold oPgmValS4O4); go_simp; try (with_reducible rfl))
    (try simp only [oPgmValS4O4, Act.put, zA, zB, zC])
    refine tkW 5 oPgmValS4O5 ?v1_5 ?hy1_5 ?r1_5
    case hy1_5 => (intro w hSw; (try dsimp only at hSw); (try unfold oPgmValS4O5); go_simp; try (with_reducible rfl))
    (try simp only [oPgmValS4O5, Act.put, zA, zB, zC])
    refine wpAnyH_ready (rs := [6]) (by kernel_rfl) (by simp) ?_
    refine AllReadyH.cons (o := oPgmValS4O6) rfl (fun K hK => ?_) AllReadyH.nil
    ((try unfold oPgmValS4O6); go_simp)
    go_at_call 99; (with_reducible refine (Calls.mono (EP.out _ D2.out)) ?_); rintro e w3 ⟨rfl, b3⟩; (have D3 := Lib.hid (show Below w2.heap.size w2 w3 from below_step D2.out b3)); clear b3
    refine hK.out _ _ ?_ (fun hHeld2 => ?_)
    ·(try dsimp only); exact KS.out _ D3.out
    clear hK K
    (try simp only [oPgmValS4O6, Act.put, zA, zB, zC])
    refine tkW 7 oPgmValS4O7 ?v1_7 ?hy1_7 ?r1_7
    case hy1_7 => (intro w hSw; (try dsimp only at hSw); (try unfold oPgmValS4O7); go_simp; try (with_reducible rfl))
    (try simp only [oPgmValS4O7, Act.put, zA, zB, zC])
    refine tkW 8 oPgmValS4O8 ?v1_8 ?hy1_8 ?r1_8
    case hy1_8 => (intro w hSw; (try dsimp only at hSw); (try unfold oPgmValS4O8); go_simp; try (with_reducible rfl))
    (try simp only [oPgmValS4O8, Act.put, zA, zB, zC])
    refine tkW 9 oPgmValS4O9 ?v1_9 ?hy1_9 ?r1_9
    case hy1_9 => (intro w hSw; (try dsimp only at hSw); (try unfold oPgmValS4O9); go_simp; try (with_reducible rfl))
    (try simp only [oPgmValS4O9, Act.put, zA, zB, zC])
    refine tkU 10 oPgmValS4O10 ?_
    (try simp only [oPgmValS4O10, Act.put, zA, zB, zC])
    refine tkU 11 oPgmValS4O11 ?_
    (try simp only [oPgmValS4O11, Act.put, zA, zB, zC])
    refine tkU 12 oPgmValS4O12 ?_
    (try simp only [oPgmValS4O12, Act.put, zA, zB, zC])
    refine tkU 13 oPgmValS4O13 ?_
    (try simp only [oPgmValS4O13, Act.put, zA, zB, zC])
    refine tkU 14 oPgmValS4O14 ?_
    (try simp only [oPgmValS4O14, Act.put, zA, zB, zC])
    refine tkU 15 oPgmValS4O15 ?_
    (try simp only [oPgmValS4O15, Act.put, zA, zB, zC])
    refine tkU 16 oPgmValS4O16 ?_
    (try simp only [oPgmValS4O16, Act.put, zA, zB, zC])
    refine tkW 17 oPgmValS4O17 ?v1_17 ?hy1_17 ?r1_17
    case hy1_17 => (intro w hSw; (try dsimp only at hSw); (try unfold oPgmValS4O17); go_simp; try (with_reducible rfl))
    (try simp only [oPgmValS4O17, Act.put, zA, zB, zC])
    refine tkW 18 oPgmValS4O18 ?v1_18 ?hy1_18 ?r1_18
    case hy1_18 => (intro w hSw; (try dsimp only at hSw); (try unfold oPgmValS4O18); go_simp; try (with_reducible rfl))
    (try simp only [oPgmValS4O18, Act.put, zA, zB, zC])
    refine tkU 19 oPgmValS4O19 ?_
    (try simp only [oPgmValS4O19, Act.put, zA, zB, zC])
    refine tkU 20 oPgmValS4O20 ?_
    (try simp only [oPgmValS4O20, Act.put, zA, zB, zC])
    refine tkU 21 oPgmValS4O21 ?_
    (try simp only [oPgmValS4O21, Act.put, zA, zB, zC])
    refine tkU 22 oPgmValS4O22 ?_
    (try simp only [oPgmValS4O22, Act.put, zA, zB, zC])
    refine tkW 23 oPgmValS4O23 ?v1_23 ?hy1_23 ?r1_23
    case hy1_23 => (intro w hSw; (try dsimp only at hSw); (try unfold oPgmValS4O23); go_simp; try (with_reducible rfl))
    (try simp only [oPgmValS4O23, Act.put, zA, zB, zC])
    refine wpAnyH_done (by kernel_rfl) ?_ _
    all_goals
     go_wp2_with fail
     go_meet
     exact ⟨by rw [HF.out]; rfl, by first | exact D3.out | exact D3.out.drew⟩
   | true =>
    cases tg with
    | false =>
     have HF := Lib.hid (show q = false by rw [HQ.out]; rfl)
     refine wp_region_held_drew (S := (fun w' => w'.cell? ⟨w1.heap.size, 0, none⟩ = some (Value.string fz0) ∧ w'.cell? ⟨w1.heap.size, 1, none⟩ = some (Value.slice D1 fx1.length d1) ∧ w'.cell? ⟨w1.heap.size, 2, none⟩ = some (Value.bool fz2) ∧ w'.cell? ⟨w1.heap.size, 3, none⟩ = some (Value.slice D3 fx3.length d3) ∧ w'.cell? ⟨w.heap.size + 1, 0, none⟩ = some (Value.string z0) ∧ w'.cell? ⟨w.heap.size + 1, 1, none⟩ = some (Value.slice A1 x1.length c1) ∧ w'.cell? ⟨w.heap.size + 1, 2, none⟩ = some (Value.slice A2 x2.length c2) ∧ w'.cell? ⟨w.heap.size + 1, 3, none⟩ = some (Value.slice A3 x3.length c3) ∧ w'.cell? ⟨w.heap.size + 1, 4, none⟩ = some (Value.bool z4) ∧ w'.cell? ⟨w.heap.size + 1, 5, none⟩ = some (Value.slice A5 x5.length c5) ∧ w'.cell? ⟨w.heap.size + 1, 6, none⟩ = some (Value.string z6) ∧ w'.cell? ⟨w.heap.size, 0, none⟩ = some (Value.slice A fs.length c) ∧ w'.cell? ⟨w.heap.size, 1, none⟩ = some (Value.slice B m d))) (by kernel_rfl) ?_ (fun hHeld => ?_)
     ·(try dsimp only); exact KS.out _ D2.out
     refine tkW 0 oPgmValS4O0 ?v2_0 ?hy2_0 ?r2_0
     case hy2_0 => (intro w hSw; (try dsimp only at hSw); (try unfold oPgmValS4O0); go_simp; try (with_reducible rfl))
     (try simp only [oPgmValS4O0, Act.put, zA, zB, zC])
     refine tkW 1 oPgmValS4O1 ?v2_1 ?hy2_1 ?r2_1
     case hy2_1 => (intro w hSw; (try dsimp only at hSw); (try unfold oPgmValS4O1); go_simp; try (with_reducible rfl))
     (try simp only [oPgmValS4O1, Act.put, zA, zB, zC])
     refine tkW 2 oPgmValS4O2 ?v2_2 ?hy2_2 ?r2_2
     case hy2_2 => (intro w hSw; (try dsimp only at hSw); (try unfold oPgmValS4O2); go_simp; try (with_reducible rfl))
     (try simp only [oPgmValS4O2, Act.put, zA, zB, zC])
     refine tkW 3 oPgmValS4O3 ?v2_3 ?hy2_3 ?r2_3
     case hy2_3 => (intro w hSw; (try dsimp only at hSw); (try unfold oPgmValS4O3); go_simp; try (with_reducible rfl))
     (try simp only [oPgmValS4O3, Act.put, zA, zB, zC])
     refine tkW 4 oPgmValS4O4 ?v2_4 ?hy2_4 ?r2_4
     case hy2_4 => (intro w hSw; (try dsimp only at hSw); (try unfold oPgmValS4O4); go_simp; try (with_reducible rfl))
     (try simp only [oPgmValS4O4, Act.put, zA, zB, zC])
     refine tkW 5 oPgmValS4O5 ?v2_5 ?hy2_5 ?r2_5
     case hy2_5 => (intro w hSw; (try dsimp only at hSw); (try unfold oPgmValS4O5); go_simp; try (with_reducible rfl))
     (try simp only [oPgmValS4O5, Act.put, zA, zB, zC])
     refine wpAnyH_ready (rs := [6]) (by kernel_rfl) (by simp) ?_
     refine AllReadyH.cons (o := oPgmValS4O6) rfl (fun K hK => ?_) AllReadyH.nil
     ((try unfold oPgmValS4O6); go_simp)
     go_at_call 99; (with_reducible refine (Calls.mono (EP.out _ D2.out)) ?_); rintro e w3 ⟨rfl, b3⟩; (have D3 := Lib.hid (show Below w2.heap.size w2 w3 from below_step D2.out b3)); clear b3
     refine hK.out _ _ ?_ (fun hHeld2 => ?_)
     ·(try dsimp only); exact KS.out _ D3.out
     clear hK K
     (try simp only [oPgmValS4O6, Act.put, zA, zB, zC])
     refine tkW 7 oPgmValS4O7 ?v2_7 ?hy2_7 ?r2_7
     case hy2_7 => (intro w hSw; (try dsimp only at hSw); (try unfold oPgmValS4O7); go_simp; try (with_reducible rfl))
     (try simp only [oPgmValS4O7, Act.put, zA, zB, zC])
     refine tkW 8 oPgmValS4O8 ?v2_8 ?hy2_8 ?r2_8
     case hy2_8 => (intro w hSw; (try dsimp only at hSw); (try unfold oPgmValS4O8); go_simp; try (with_reducible rfl))
     (try simp only [oPgmValS4O8, Act.put, zA, zB, zC])
     refine tkW 9 oPgmValS4O9 ?v2_9 ?hy2_9 ?r2_9
     case hy2_9 => (intro w hSw; (try dsimp only at hSw); (try unfold oPgmValS4O9); go_simp; try (with_reducible rfl))
     (try simp only [oPgmValS4O9, Act.put, zA, zB, zC])
     refine tkW 10 oPgmValS4O10 ?v2_10 ?hy2_10 ?r2_10
     case hy2_10 => (intro w hSw; (try dsimp only at hSw); (try unfold oPgmValS4O10); go_simp; try (with_reducible rfl))
     (try simp only [oPgmValS4O10, Act.put, zA, zB, zC])
     refine tkW 11 oPgmValS4O11 ?v2_11 ?hy2_11 ?r2_11
     case hy2_11 => (intro w hSw; (try dsimp only at hSw); (try unfold oPgmValS4O11); go_simp; try (with_reducible rfl))
     (try simp only [oPgmValS4O11, Act.put, zA, zB, zC])
     refine tkW 12 oPgmValS4O12 ?v2_12 ?hy2_12 ?r2_12
     case hy2_12 => (intro w hSw; (try dsimp only at hSw); (try unfold oPgmValS4O12); go_simp; try (with_reducible rfl))
     (try simp only [oPgmValS4O12, Act.put, zA, zB, zC])
     refine tkW 13 oPgmValS4O13 ?v2_13 ?hy2_13 ?r2_13
     case hy2_13 => (intro w hSw; (try dsimp only at hSw); (try unfold oPgmValS4O13); go_simp; try (with_reducible rfl))
     (try simp only [oPgmValS4O13, Act.put, zA, zB, zC])
     refine wpAnyH_ready (rs := [14]) (by kernel_rfl) (by simp) ?_
     refine AllReadyH.cons (o := oPgmValS4O14) rfl (fun K hK => ?_) AllReadyH.nil
     ((try unfold oPgmValS4O14); go_simp)
     go_at_call 101; (with_reducible refine (Calls.mono (SO.out _ D3.out)) ?_); rintro e w4 ⟨N4, c4, rfl, o4, b4⟩; (have D4 := Lib.hid (show Below w2.heap.size w2 w4 from below_step D3.out b4)); (have EG4 := Lib.hid (EG.out N4 c4 w4 D4.out (own_SR o4).1)); clear b4 o4
     refine hK.out _ _ ?_ (fun hHeld2 => ?_)
     ·(try dsimp only); exact KS.out _ D4.out
     clear hK K
     (try simp only [oPgmValS4O14, Act.put, zA, zB, zC])
     refine wpAnyH_ready (rs := [15]) (by kernel_rfl) (by simp) ?_
     refine AllReadyH.cons (o := oPgmValS4O15) rfl (fun K hK => ?_) AllReadyH.nil
     ((try unfold oPgmValS4O15); go_simp)
     go_at_call 100; (with_reducible refine (Calls.mono EG4.out) ?_); rintro e w5 ⟨rfl, b5⟩; (have D5 := Lib.hid (show Below w2.heap.size w2 w5 from below_step D4.out b5)); clear b5
     refine hK.out _ _ ?_ (fun hHeld2 => ?_)
     ·(try dsimp only); exact KS.out _ D5.out
     clear hK K
     (try simp only [oPgmValS4O15, Act.put, zA, zB, zC])
     refine tkW 16 oPgmValS4O16 ?v2_16 ?hy2_16 ?r2_16
     case hy2_16 => (intro w hSw; (try dsimp only at hSw); (try unfold oPgmValS4O16); go_simp; try (with_reducible rfl))
     (try simp only [oPgmValS4O16, Act.put, zA, zB, zC])
     refine tkW 17 oPgmValS4O17 ?v2_17 ?hy2_17 ?r2_17
     case hy2_17 => (intro w hSw; (try dsimp only at hSw); (try unfold oPgmValS4O17); go_simp; try (with_reducible rfl))
     (try simp only [oPgmValS4O17, Act.put, zA, zB, zC])
     refine tkW 18 oPgmValS4O18 ?v2_18 ?hy2_18 ?r2_18
     case hy2_18 => (intro w hSw; (try dsimp only at hSw); (try unfold oPgmValS4O18); go_simp; try (with_reducible rfl))
     (try simp only [oPgmValS4O18, Act.put, zA, zB, zC])
     refine tkU 19 oPgmValS4O19 ?_
     (try simp only [oPgmValS4O19, Act.put, zA, zB, zC])
     refine tkU 20 oPgmValS4O20 ?_
     (try simp only [oPgmValS4O20, Act.put, zA, zB, zC])
     refine tkU 21 oPgmValS4O21 ?_
     (try simp only [oPgmValS4O21, Act.put, zA, zB, zC])
     refine tkU 22 oPgmValS4O22 ?_
     (try simp only [oPgmValS4O22, Act.put, zA, zB, zC])
     refine tkW 23 oPgmValS4O23 ?v2_23 ?hy2_23 ?r2_23
     case hy2_23 => (intro w hSw; (try dsimp only at hSw); (try unfold oPgmValS4O23); go_simp; try (with_reducible rfl))
     (try simp only [oPgmValS4O23, Act.put, zA, zB, zC])
     refine wpAnyH_done (by kernel_rfl) ?_ _
     all_goals
      go_wp2_with fail
      go_meet
      exact ⟨by rw [HF.out]; rfl, by first | exact D5.out | exact D5.out.drew⟩
    | true =>
     by_cases n3 : x3.length ≤ 2
     ·have hq3 : decide ((x3.length : Int) > 2) = false := decide_eq_false (by omega)
      have HF := Lib.hid (show q = true by rw [HQ.out, decide_eq_true n3]; rfl)
      refine wp_region_held_drew (S := (fun w' => w'.cell? ⟨w1.heap.size, 0, none⟩ = some (Value.string fz0) ∧ w'.cell? ⟨w1.heap.size, 1, none⟩ = some (Value.slice D1 fx1.length d1) ∧ w'.cell? ⟨w1.heap.size, 2, none⟩ = some (Value.bool fz2) ∧ w'.cell? ⟨w1.heap.size, 3, none⟩ = some (Value.slice D3 fx3.length d3) ∧ w'.cell? ⟨w.heap.size + 1, 0, none⟩ = some (Value.string z0) ∧ w'.cell? ⟨w.heap.size + 1, 1, none⟩ = some (Value.slice A1 x1.length c1) ∧ w'.cell? ⟨w.heap.size + 1, 2, none⟩ = some (Value.slice A2 x2.length c2) ∧ w'.cell? ⟨w.heap.size + 1, 3, none⟩ = some (Value.slice A3 x3.length c3) ∧ w'.cell? ⟨w.heap.size + 1, 4, none⟩ = some (Value.bool z4) ∧ w'.cell? ⟨w.heap.size + 1, 5, none⟩ = some (Value.slice A5 x5.length c5) ∧ w'.cell? ⟨w.heap.size + 1, 6, none⟩ = some (Value.string z6) ∧ w'.cell? ⟨w.heap.size, 0, none⟩ = some (Value.slice A fs.length c) ∧ w'.cell? ⟨w.heap.size, 1, none⟩ = some (Value.slice B m d))) (by kernel_rfl) ?_ (fun hHeld => ?_)
      ·(try dsimp only); exact KS.out _ D2.out
      refine tkW 0 oPgmValS4O0 ?v3_0 ?hy3_0 ?r3_0
      case hy3_0 => (intro w hSw; (try dsimp only at hSw); (try unfold oPgmValS4O0); go_simp; try (with_reducible rfl))
      (try simp only [oPgmValS4O0, Act.put, zA, zB, zC])
      refine tkW 1 oPgmValS4O1 ?v3_1 ?hy3_1 ?r3_1
      case hy3_1 => (intro w hSw; (try dsimp only at hSw); (try unfold oPgmValS4O1); go_simp; try (with_reducible rfl))
      (try simp only [oPgmValS4O1, Act.put, zA, zB, zC])
      refine tkW 2 oPgmValS4O2 ?v3_2 ?hy3_2 ?r3_2
      case hy3_2 => (intro w hSw; (try dsimp only at hSw); (try unfold oPgmValS4O2); go_simp; try (with_reducible rfl))
      (try simp only [oPgmValS4O2, Act.put, zA, zB, zC])
      refine tkW 3 oPgmValS4O3 ?v3_3 ?hy3_3 ?r3_3
      case hy3_3 => (intro w hSw; (try dsimp only at hSw); (try unfold oPgmValS4O3); go_simp; try (with_reducible rfl))
      (try simp only [oPgmValS4O3, Act.put, zA, zB, zC])
      refine tkW 4 oPgmValS4O4 ?v3_4 ?hy3_4 ?r3_4
      case hy3_4 => (intro w hSw; (try dsimp only at hSw); (try unfold oPgmValS4O4); go_simp; try (with_reducible rfl))
      (try simp only [oPgmValS4O4, Act.put, zA, zB, zC])
      refine tkW 5 oPgmValS4O5 ?v3_5 ?hy3_5 ?r3_5
      case hy3_5 => (intro w hSw; (try dsimp only at hSw); (try unfold oPgmValS4O5); go_simp; try (with_reducible rfl))
      (try simp only [oPgmValS4O5, Act.put, zA, zB, zC])
      refine wpAnyH_ready (rs := [6]) (by kernel_rfl) (by simp) ?_
      refine AllReadyH.cons (o := oPgmValS4O6) rfl (fun K hK => ?_) AllReadyH.nil
      ((try unfold oPgmValS4O6); go_simp)
      go_at_call 99; (with_reducible refine (Calls.mono (EP.out _ D2.out)) ?_); rintro e w3 ⟨rfl, b3⟩; (have D3 := Lib.hid (show Below w2.heap.size w2 w3 from below_step D2.out b3)); clear b3
      refine hK.out _ _ ?_ (fun hHeld2 => ?_)
      ·(try dsimp only); exact KS.out _ D3.out
      clear hK K
      (try simp only [oPgmValS4O6, Act.put, zA, zB, zC])
      refine tkW 7 oPgmValS4O7 ?v3_7 ?hy3_7 ?r3_7
      case hy3_7 => (intro w hSw; (try dsimp only at hSw); (try unfold oPgmValS4O7); go_simp; try (with_reducible rfl))
      (try simp only [oPgmValS4O7, Act.put, zA, zB, zC])
      refine tkW 8 oPgmValS4O8 ?v3_8 ?hy3_8 ?r3_8
      case hy3_8 => (intro w hSw; (try dsimp only at hSw); (try unfold oPgmValS4O8); go_simp; try (with_reducible rfl))
      (try simp only [oPgmValS4O8, Act.put, zA, zB, zC])
      refine tkW 9 oPgmValS4O9 ?v3_9 ?hy3_9 ?r3_9
      case hy3_9 => (intro w hSw; (try dsimp only at hSw); (try unfold oPgmValS4O9); go_simp; try (with_reducible rfl))
      (try simp only [oPgmValS4O9, Act.put, zA, zB, zC])
      refine tkW 10 oPgmValS4O10 ?v3_10 ?hy3_10 ?r3_10
      case hy3_10 => (intro w hSw; (try dsimp only at hSw); (try unfold oPgmValS4O10); go_simp; try (with_reducible rfl))
      (try simp only [oPgmValS4O10, Act.put, zA, zB, zC])
      refine tkW 11 oPgmValS4O11 ?v3_11 ?hy3_11 ?r3_11
      case hy3_11 => (intro w hSw; (try dsimp only at hSw); (try unfold oPgmValS4O11); go_simp; try (with_reducible rfl))
      (try simp only [oPgmValS4O11, Act.put, zA, zB, zC])
      refine tkW 12 oPgmValS4O12 ?v3_12 ?hy3_12 ?r3_12
      case hy3_12 => (intro w hSw; (try dsimp only at hSw); (try unfold oPgmValS4O12); go_simp; try (with_reducible rfl))
      (try simp only [oPgmValS4O12, Act.put, zA, zB, zC])
      refine tkW 13 oPgmValS4O13 ?v3_13 ?hy3_13 ?r3_13
      case hy3_13 => (intro w hSw; (try dsimp only at hSw); (try unfold oPgmValS4O13); go_simp; try (with_reducible rfl))
      (try simp only [oPgmValS4O13, Act.put, zA, zB, zC])
      refine wpAnyH_ready (rs := [14]) (by kernel_rfl) (by simp) ?_
      refine AllReadyH.cons (o := oPgmValS4O14) rfl (fun K hK => ?_) AllReadyH.nil
      ((try unfold oPgmValS4O14); go_simp)
      go_at_call 101; (with_reducible refine (Calls.mono (SO.out _ D3.out)) ?_); rintro e w4 ⟨N4, c4, rfl, o4, b4⟩; (have D4 := Lib.hid (show Below w2.heap.size w2 w4 from below_step D3.out b4)); (have EG4 := Lib.hid (EG.out N4 c4 w4 D4.out (own_SR o4).1)); clear b4 o4
      refine hK.out _ _ ?_ (fun hHeld2 => ?_)
      ·(try dsimp only); exact KS.out _ D4.out
      clear hK K
      (try simp only [oPgmValS4O14, Act.put, zA, zB, zC])
      refine wpAnyH_ready (rs := [15]) (by kernel_rfl) (by simp) ?_
      refine AllReadyH.cons (o := oPgmValS4O15) rfl (fun K hK => ?_) AllReadyH.nil
      ((try unfold oPgmValS4O15); go_simp)
      go_at_call 100; (with_reducible refine (Calls.mono EG4.out) ?_); rintro e w5 ⟨rfl, b5⟩; (have D5 := Lib.hid (show Below w2.heap.size w2 w5 from below_step D4.out b5)); clear b5
      refine hK.out _ _ ?_ (fun hHeld2 => ?_)
      ·(try dsimp only); exact KS.out _ D5.out
      clear hK K
      (try simp only [oPgmValS4O15, Act.put, zA, zB, zC])
      refine tkW 16 oPgmValS4O16 ?v3_16 ?hy3_16 ?r3_16
      case hy3_16 => (intro w hSw; (try dsimp only at hSw); (try unfold oPgmValS4O16); go_simp; try (with_reducible rfl))
      (try simp only [oPgmValS4O16, Act.put, zA, zB, zC])
      refine tkW 17 oPgmValS4O17 ?v3_17 ?hy3_17 ?r3_17
      case hy3_17 => (intro w hSw; (try dsimp only at hSw); (try unfold oPgmValS4O17); go_simp; try (with_reducible rfl))
      (try simp only [oPgmValS4O17, Act.put, zA, zB, zC])
      refine tkW 18 oPgmValS4O18 ?v3_18 ?hy3_18 ?r3_18
      case hy3_18 => (intro w hSw; (try dsimp only at hSw); (try unfold oPgmValS4O18); go_simp; try (with_reducible rfl))
      (try simp only [oPgmValS4O18, Act.put, zA, zB, zC])
      refine tkW 19 oPgmValS4O19 ?v3_19 ?hy3_19 ?r3_19
      case hy3_19 => (intro w hSw; (try dsimp only at hSw); (try unfold oPgmValS4O19); go_simp; try (with_reducible rfl))
      (try simp only [oPgmValS4O19, Act.put, zA, zB, zC])
      refine tkW 20 oPgmValS4O20 ?v3_20 ?hy3_20 ?r3_20
      case hy3_20 => (intro w hSw; (try dsimp only at hSw); (try unfold oPgmValS4O20); go_simp; try (with_reducible rfl))
      (try simp only [oPgmValS4O20, Act.put, zA, zB, zC])
      refine tkW 21 oPgmValS4O21 ?v3_21 ?hy3_21 ?r3_21
      case hy3_21 => (intro w hSw; (try dsimp only at hSw); (try unfold oPgmValS4O21); go_simp; try (with_reducible rfl))
      (try simp only [oPgmValS4O21, Act.put, zA, zB, zC])
      refine tkW 22 oPgmValS4O22 ?v3_22 ?hy3_22 ?r3_22
      case hy3_22 => (intro w hSw; (try dsimp only at hSw); (try unfold oPgmValS4O22); go_simp; try (with_reducible rfl))
      (try simp only [oPgmValS4O22, Act.put, zA, zB, zC])
      refine tkW 23 oPgmValS4O23 ?v3_23 ?hy3_23 ?r3_23
      case hy3_23 => (intro w hSw; (try dsimp only at hSw); (try unfold oPgmValS4O23); go_simp; try (with_reducible rfl))
      (try simp only [oPgmValS4O23, Act.put, zA, zB, zC])
      refine wpAnyH_done (by kernel_rfl) ?_ _
      all_goals
       go_wp2_with fail
       go_meet
       exact ⟨by rw [HF.out]; rfl, by first | exact D5.out | exact D5.out.drew⟩
     ·have hq3 : decide ((x3.length : Int) > 2) = true := decide_eq_true (by omega)
      have HF := Lib.hid (show q = false by rw [HQ.out, decide_eq_false n3]; rfl)
      refine wp_region_held_drew (S := (fun w' => w'.cell? ⟨w1.heap.size, 0, none⟩ = some (Value.string fz0) ∧ w'.cell? ⟨w1.heap.size, 1, none⟩ = some (Value.slice D1 fx1.length d1) ∧ w'.cell? ⟨w1.heap.size, 2, none⟩ = some (Value.bool fz2) ∧ w'.cell? ⟨w1.heap.size, 3, none⟩ = some (Value.slice D3 fx3.length d3) ∧ w'.cell? ⟨w.heap.size + 1, 0, none⟩ = some (Value.string z0) ∧ w'.cell? ⟨w.heap.size + 1, 1, none⟩ = some (Value.slice A1 x1.length c1) ∧ w'.cell? ⟨w.heap.size + 1, 2, none⟩ = some (Value.slice A2 x2.length c2) ∧ w'.cell? ⟨w.heap.size + 1, 3, none⟩ = some (Value.slice A3 x3.length c3) ∧ w'.cell? ⟨w.heap.size + 1, 4, none⟩ = some (Value.bool z4) ∧ w'.cell? ⟨w.heap.size + 1, 5, none⟩ = some (Value.slice A5 x5.length c5) ∧ w'.cell? ⟨w.heap.size + 1, 6, none⟩ = some (Value.string z6) ∧ w'.cell? ⟨w.heap.size, 0, none⟩ = some (Value.slice A fs.length c) ∧ w'.cell? ⟨w.heap.size, 1, none⟩ = some (Value.slice B m d))) (by kernel_rfl) ?_ (fun hHeld => ?_)
      ·(try dsimp only); exact KS.out _ D2.out
      refine tkW 0 oPgmValS4O0 ?v4_0 ?hy4_0 ?r4_0
      case hy4_0 => (intro w hSw; (try dsimp only at hSw); (try unfold oPgmValS4O0); go_simp; try (with_reducible rfl))
      (try simp only [oPgmValS4O0, Act.put, zA, zB, zC])
      refine tkW 1 oPgmValS4O1 ?v4_1 ?hy4_1 ?r4_1
      case hy4_1 => (intro w hSw; (try dsimp only at hSw); (try unfold oPgmValS4O1); go_simp; try (with_reducible rfl))
      (try simp only [oPgmValS4O1, Act.put, zA, zB, zC])
      refine tkW 2 oPgmValS4O2 ?v4_2 ?hy4_2 ?r4_2
      case hy4_2 => (intro w hSw; (try dsimp only at hSw); (try unfold oPgmValS4O2); go_simp; try (with_reducible rfl))
      (try simp only [oPgmValS4O2, Act.put, zA, zB, zC])
      refine tkW 3 oPgmValS4O3 ?v4_3 ?hy4_3 ?r4_3
      case hy4_3 => (intro w hSw; (try dsimp only at hSw); (try unfold oPgmValS4O3); go_simp; try (with_reducible rfl))
      (try simp only [oPgmValS4O3, Act.put, zA, zB, zC])
      refine tkW 4 oPgmValS4O4 ?v4_4 ?hy4_4 ?r4_4
      case hy4_4 => (intro w hSw; (try dsimp only at hSw); (try unfold oPgmValS4O4); go_simp; try (with_reducible rfl))
      (try simp only [oPgmValS4O4, Act.put, zA, zB, zC])
      refine tkW 5 oPgmValS4O5 ?v4_5 ?hy4_5 ?r4_5
      case hy4_5 => (intro w hSw; (try dsimp only at hSw); (try unfold oPgmValS4O5); go_simp; try (with_reducible rfl))
      (try simp only [oPgmValS4O5, Act.put, zA, zB, zC])
      refine wpAnyH_ready (rs := [6]) (by kernel_rfl) (by simp) ?_
      refine AllReadyH.cons (o := oPgmValS4O6) rfl (fun K hK => ?_) AllReadyH.nil
      ((try unfold oPgmValS4O6); go_simp)
      go_at_call 99; (with_reducible refine (Calls.mono (EP.out _ D2.out)) ?_); rintro e w3 ⟨rfl, b3⟩; (have D3 := Lib.hid (show Below w2.heap.size w2 w3 from below_step D2.out b3)); clear b3
      refine hK.out _ _ ?_ (fun hHeld2 => ?_)
      ·(try dsimp only); exact KS.out _ D3.out
      clear hK K
      (try simp only [oPgmValS4O6, Act.put, zA, zB, zC])
      refine tkW 7 oPgmValS4O7 ?v4_7 ?hy4_7 ?r4_7
      case hy4_7 => (intro w hSw; (try dsimp only at hSw); (try unfold oPgmValS4O7); go_simp; try (with_reducible rfl))
      (try simp only [oPgmValS4O7, Act.put, zA, zB, zC])
      refine tkW 8 oPgmValS4O8 ?v4_8 ?hy4_8 ?r4_8
      case hy4_8 => (intro w hSw; (try dsimp only at hSw); (try unfold oPgmValS4O8); go_simp; try (with_reducible rfl))
      (try simp only [oPgmValS4O8, Act.put, zA, zB, zC])
      refine tkW 9 oPgmValS4O9 ?v4_9 ?hy4_9 ?r4_9
      case hy4_9 => (intro w hSw; (try dsimp only at hSw); (try unfold oPgmValS4O9); go_simp; try (with_reducible rfl))
      (try simp only [oPgmValS4O9, Act.put, zA, zB, zC])
      refine tkW 10 oPgmValS4O10 ?v4_10 ?hy4_10 ?r4_10
      case hy4_10 => (intro w hSw; (try dsimp only at hSw); (try unfold oPgmValS4O10); go_simp; try (with_reducible rfl))
      (try simp only [oPgmValS4O10, Act.put, zA, zB, zC])
      refine tkW 11 oPgmValS4O11 ?v4_11 ?hy4_11 ?r4_11
      case hy4_11 => (intro w hSw; (try dsimp only at hSw); (try unfold oPgmValS4O11); go_simp; try (with_reducible rfl))
      (try simp only [oPgmValS4O11, Act.put, zA, zB, zC])
      refine tkW 12 oPgmValS4O12 ?v4_12 ?hy4_12 ?r4_12
      case hy4_12 => (intro w hSw; (try dsimp only at hSw); (try unfold oPgmValS4O12); go_simp; try (with_reducible rfl))
      (try simp only [oPgmValS4O12, Act.put, zA, zB, zC])
      refine tkW 13 oPgmValS4O13 ?v4_13 ?hy4_13 ?r4_13
      case hy4_13 => (intro w hSw; (try dsimp only at hSw); (try unfold oPgmValS4O13); go_simp; try (with_reducible rfl))
      (try simp only [oPgmValS4O13, Act.put, zA, zB, zC])
      refine wpAnyH_ready (rs := [14]) (by kernel_rfl) (by simp) ?_
      refine AllReadyH.cons (o := oPgmValS4O14) rfl (fun K hK => ?_) AllReadyH.nil
      ((try unfold oPgmValS4O14); go_simp)
      go_at_call 101; (with_reducible refine (Calls.mono (SO.out _ D3.out)) ?_); rintro e w4 ⟨N4, c4, rfl, o4, b4⟩; (have D4 := Lib.hid (show Below w2.heap.size w2 w4 from below_step D3.out b4)); (have EG4 := Lib.hid (EG.out N4 c4 w4 D4.out (own_SR o4).1)); clear b4 o4
      refine hK.out _ _ ?_ (fun hHeld2 => ?_)
      ·(try dsimp only); exact KS.out _ D4.out
      clear hK K
      (try simp only [oPgmValS4O14, Act.put, zA, zB, zC])
      refine wpAnyH_ready (rs := [15]) (by kernel_rfl) (by simp) ?_
      refine AllReadyH.cons (o := oPgmValS4O15) rfl (fun K hK => ?_) AllReadyH.nil
      ((try unfold oPgmValS4O15); go_simp)
      go_at_call 100; (with_reducible refine (Calls.mono EG4.out) ?_); rintro e w5 ⟨rfl, b5⟩; (have D5 := Lib.hid (show Below w2.heap.size w2 w5 from below_step D4.out b5)); clear b5
      refine hK.out _ _ ?_ (fun hHeld2 => ?_)
      ·(try dsimp only); exact KS.out _ D5.out
      clear hK K
      (try simp only [oPgmValS4O15, Act.put, zA, zB, zC])
      refine tkW 16 oPgmValS4O16 ?v4_16 ?hy4_16 ?r4_16
      case hy4_16 => (intro w hSw; (try dsimp only at hSw); (try unfold oPgmValS4O16); go_simp; try (with_reducible rfl))
      (try simp only [oPgmValS4O16, Act.put, zA, zB, zC])
      refine tkW 17 oPgmValS4O17 ?v4_17 ?hy4_17 ?r4_17
      case hy4_17 => (intro w hSw; (try dsimp only at hSw); (try unfold oPgmValS4O17); go_simp; try (with_reducible rfl))
      (try simp only [oPgmValS4O17, Act.put, zA, zB, zC])
      refine tkW 18 oPgmValS4O18 ?v4_18 ?hy4_18 ?r4_18
      case hy4_18 => (intro w hSw; (try dsimp only at hSw); (try unfold oPgmValS4O18); go_simp; try (with_reducible rfl))
      (try simp only [oPgmValS4O18, Act.put, zA, zB, zC])
      refine tkW 19 oPgmValS4O19 ?v4_19 ?hy4_19 ?r4_19
      case hy4_19 => (intro w hSw; (try dsimp only at hSw); (try unfold oPgmValS4O19); go_simp; try (with_reducible rfl))
      (try simp only [oPgmValS4O19, Act.put, zA, zB, zC])
      refine tkW 20 oPgmValS4O20 ?v4_20 ?hy4_20 ?r4_20
      case hy4_20 => (intro w hSw; (try dsimp only at hSw); (try unfold oPgmValS4O20); go_simp; try (with_reducible rfl))
      (try simp only [oPgmValS4O20, Act.put, zA, zB, zC])
      refine tkW 21 oPgmValS4O21 ?v4_21 ?hy4_21 ?r4_21
      case hy4_21 => (intro w hSw; (try dsimp only at hSw); (try unfold oPgmValS4O21); go_simp; try (with_reducible rfl))
      (try simp only [oPgmValS4O21, Act.put, zA, zB, zC])
      refine tkW 22 oPgmValS4O22 ?v4_22 ?hy4_22 ?r4_22
      case hy4_22 => (intro w hSw; (try dsimp only at hSw); (try unfold oPgmValS4O22); go_simp; try (with_reducible rfl))
      (try simp only [oPgmValS4O22, Act.put, zA, zB, zC])
      refine tkW 23 oPgmValS4O23 ?v4_23 ?hy4_23 ?r4_23
      case hy4_23 => (intro w hSw; (try dsimp only at hSw); (try unfold oPgmValS4O23); go_simp; try (with_reducible rfl))
      (try simp only [oPgmValS4O23, Act.put, zA, zB, zC])
      refine wpAnyH_done (by kernel_rfl) ?_ _
      all_goals
       go_wp2_with fail
       go_meet
       exact ⟨by rw [HF.out]; rfl, by first | exact D5.out | exact D5.out.drew⟩
  case rest =>
   obtain ⟨w4, rfl⟩ : ∃ w4 : World, w4 = wc := ⟨_, rfl⟩
   obtain ⟨rfl, b4⟩ := hcut
   have B4 := Lib.hid (below_step B2.out b4)
   have V4 := Lib.hid (V2.out.below b4)
   have P4 := Lib.hid (P2.out.below b4)
   have L4 := Lib.hid (L2.out.below b4)
   clear b4 V2 P2 L2 O3 B2 D2 EP EG KS
   cases q with
   | false =>
    have HF := Lib.hid (show R = false by rw [HO.out]; rfl)
    go_wp2
    go_ret
    exact ⟨ArgI.ret_b HF.out.symm, B4.out⟩
   | true =>
    have HN3 := Lib.hid (show x3.length ≤ 2 from by
     have := HQ.out.symm
     simp only [Bool.and_eq_true, decide_eq_true_eq] at this
     exact this.2.2)
    have HO := Lib.hid (show R = restV fs fz2 (z4, x5, z6) (sc ++ nmC (x3.take 0)) (x3.drop 0) by rw [HO.out]; simp [nmC])
    have v43 : w4.cell? ⟨w.heap.size + 1, 3, none⟩ = some (.slice A3 x3.length c3) := V4.out.cell 3 _ rfl
    clear HQ
    try simp only [Bool.not_true]
    go_wp2
    go_loopw [7] (fun i wr => ∃ k : Nat, k ≤ x3.length ∧ i = .int .i64 k ∧ Hid (restV fs fz2 (z4, x5, z6) (sc ++ nmC (x3.take k)) (x3.drop k) = R) ∧ Below w4.heap.size w4 wr) (fun i _ => x3.length - (intOf i).toNat)
    case atStart => exact ⟨0, Nat.zero_le _, rfl, Lib.hid HO.out.symm, Below.refl _ _⟩
    case round =>
     clear v43
     obtain ⟨k, hk, rfl, hall, hb⟩ := hrel
     have HAL := Lib.hid hall.out
     have HB := Lib.hid hb
     clear hall hb
     have BW := Lib.hid (below_step B4.out HB.out)
     have VW := Lib.hid (V4.out.below HB.out)
     have PW := Lib.hid (P4.out.below HB.out)
     have LW := Lib.hid (L4.out.below HB.out)
     have vw3 : wr.cell? ⟨w.heap.size + 1, 3, none⟩ = some (.slice A3 x3.length c3) := VW.out.cell 3 _ rfl
     have hskl : (sc ++ nmC (x3.take k)).length ≤ 50000000 := by
      rw [List.length_append]
      unfold nmC
      rw [List.length_map, List.length_take]
      omega
     have hk9 : k ≤ 9000000 := by omega
     by_cases hlt : k < x3.length
     ·obtain ⟨b1, o1, G1, e1, rfl, hbb1, g0, g1, g2, r1⟩ := (H3.out.below BW.out).call_at hlt
      have hsz : szCallU x3[k] ≤ 10000000 := by
       have := HRS.out
       have := szs_mem (sz := szCallU) (List.getElem_mem hlt)
       omega
      have HST := Lib.hid (restV_step (fs := fs) (l := fz2) (res := (z4, x5, z6)) (sc := sc ++ nmC (x3.take k)) hlt)
      have HSC := Lib.hid (show sc ++ nmC (x3.take (k + 1)) = sc ++ nmC (x3.take k) ++ [x3[k].1] by rw [take_snoc hlt, nmC_snoc, List.append_assoc])
      have SOK := Lib.hid (fun W (h : Below wr.heap.size wr W) => SOF.out k (by omega) W (below_step BW.out h))
      generalize sc ++ nmC (x3.take k) = sck at *
      generalize x3[k] = x at *
      obtain ⟨y0, y1, ya⟩ := x
      simp only at g0 g1 g2 r1
      have hi0 : (0 : Int) ≤ (k : Int) := by omega
      have hi1 : (k : Int) < (x3.length : Int) := by omega
      have CV := Lib.hid (fun (N : Option Addr) (cn : Nat) W (h : Below wr.heap.size wr W) (hN : StrK.SRow W N sck) => callOk A B m c d fs y0 y1 G1 e1 ya N cn sck W (HA.out.below (below_step BW.out h)) (by have := HLF.out; omega) (r1.below h) hsz hN (by omega))
      have KS := Lib.hid (fun W (h : Below wr.heap.size wr W) => (show W.cell? ⟨w.heap.size + 1, 0, none⟩ = some (Value.string z0) ∧ W.cell? ⟨w.heap.size + 1, 1, none⟩ = some (Value.slice A1 x1.length c1) ∧ W.cell? ⟨w.heap.size + 1, 2, none⟩ = some (Value.slice A2 x2.length c2) ∧ W.cell? ⟨w.heap.size + 1, 3, none⟩ = some (Value.slice (some ⟨b1, o1, none⟩) x3.length c3) ∧ W.cell? ⟨w.heap.size + 1, 4, none⟩ = some (Value.bool z4) ∧ W.cell? ⟨w.heap.size + 1, 5, none⟩ = some (Value.slice A5 x5.length c5) ∧ W.cell? ⟨w.heap.size + 1, 6, none⟩ = some (Value.string z6) ∧ W.cell? ⟨w.heap.size, 0, none⟩ = some (Value.slice A fs.length c) ∧ W.cell? ⟨w.heap.size, 1, none⟩ = some (Value.slice B m d) ∧ W.cell? ⟨b1, o1 + k * 3, none⟩ = some (Value.string y0) ∧ W.cell? ⟨b1, o1 + k * 3 + 1, none⟩ = some (Value.string y1) ∧ W.cell? ⟨b1, o1 + k * 3 + 2, none⟩ = some (Value.slice G1 ya.length e1) from ⟨(VW.out.below h).cell 0 _ rfl, (VW.out.below h).cell 1 _ rfl, (VW.out.below h).cell 2 _ rfl, (VW.out.below h).cell 3 _ rfl, (VW.out.below h).cell 4 _ rfl, (VW.out.below h).cell 5 _ rfl, (VW.out.below h).cell 6 _ rfl, (PW.out.below h).cell 0 _ rfl, (PW.out.below h).cell 1 _ rfl, (h.cell (p := ⟨b1, o1 + k * 3, none⟩) hbb1).trans g0, (h.cell (p := ⟨b1, o1 + k * 3 + 1, none⟩) hbb1).trans g1, (h.cell (p := ⟨b1, o1 + k * 3 + 2, none⟩) hbb1).trans g2⟩))
      have D2 := Lib.hid (Below.refl wr.heap.size wr).drew
      have D2r := Lib.hid (Below.refl wr.heap.size wr)
      clear r1 hsz
      generalize callV fs (y0, y1, ya) sck = ta at *
      cases ta
      case false =>
       have HF := Lib.hid (show R = false by rw [← HAL.out, HST.out]; rfl)
       go_wp2_with fail
       go_region_held3 (fun w' => w'.cell? ⟨w.heap.size + 1, 0, none⟩ = some (Value.string z0) ∧ w'.cell? ⟨w.heap.size + 1, 1, none⟩ = some (Value.slice A1 x1.length c1) ∧ w'.cell? ⟨w.heap.size + 1, 2, none⟩ = some (Value.slice A2 x2.length c2) ∧ w'.cell? ⟨w.heap.size + 1, 3, none⟩ = some (Value.slice (some ⟨b1, o1, none⟩) x3.length c3) ∧ w'.cell? ⟨w.heap.size + 1, 4, none⟩ = some (Value.bool z4) ∧ w'.cell? ⟨w.heap.size + 1, 5, none⟩ = some (Value.slice A5 x5.length c5) ∧ w'.cell? ⟨w.heap.size + 1, 6, none⟩ = some (Value.string z6) ∧ w'.cell? ⟨w.heap.size, 0, none⟩ = some (Value.slice A fs.length c) ∧ w'.cell? ⟨w.heap.size, 1, none⟩ = some (Value.slice B m d) ∧ w'.cell? ⟨b1, o1 + k * 3, none⟩ = some (Value.string y0) ∧ w'.cell? ⟨b1, o1 + k * 3 + 1, none⟩ = some (Value.string y1) ∧ w'.cell? ⟨b1, o1 + k * 3 + 2, none⟩ = some (Value.slice G1 ya.length e1))
        (first | with_reducible exact KS.out _ D4.out | with_reducible exact KS.out _ D3.out | with_reducible exact KS.out _ D2.out | with_reducible exact KS.out _ D2r.out | go_keep)
        (first | (go_at_call 101; (with_reducible refine (Calls.mono (SOK.out _ (by first | exact D2.out | exact D2r.out))) ?_); rintro e w3 ⟨N3, c3', rfl, o3, b3⟩; (have D3 := Lib.hid (show Below wr.heap.size wr w3 from by first | exact below_step D2.out b3 | exact b3)); (have CV3 := Lib.hid (fun W (h : Below w3.heap.size w3 W) => CV.out N3 c3' W (below_step D3.out h) ((own_SR o3).1.below h))); clear b3 o3) | (go_at_call 102; (with_reducible refine (Calls.mono (CV3.out _ (by first | exact Below.refl _ _ | exact (Below.refl _ _).drew))) ?_); rintro e w4' ⟨rfl, b4⟩; (have D4 := Lib.hid (show Below wr.heap.size wr w4' from by first | exact below_step D3.out b4 | exact below_step D3.out.drew b4)); clear b4))
       all_goals
        have B7 := Lib.hid (show Below w.heap.size w _ from below_step BW.out D4.out)
        go_wp2
        go_ret
        exact ⟨ArgI.ret_b HF.out.symm, by first | exact B7.out | exact B7.out.drew⟩
      case true =>
       have HF := Lib.hid (show restV fs fz2 (z4, x5, z6) (sc ++ nmC (x3.take (k + 1))) (x3.drop (k + 1)) = R by rw [← HAL.out, HST.out, HSC.out]; rfl)
       go_wp2_with fail
       go_region_held3 (fun w' => w'.cell? ⟨w.heap.size + 1, 0, none⟩ = some (Value.string z0) ∧ w'.cell? ⟨w.heap.size + 1, 1, none⟩ = some (Value.slice A1 x1.length c1) ∧ w'.cell? ⟨w.heap.size + 1, 2, none⟩ = some (Value.slice A2 x2.length c2) ∧ w'.cell? ⟨w.heap.size + 1, 3, none⟩ = some (Value.slice (some ⟨b1, o1, none⟩) x3.length c3) ∧ w'.cell? ⟨w.heap.size + 1, 4, none⟩ = some (Value.bool z4) ∧ w'.cell? ⟨w.heap.size + 1, 5, none⟩ = some (Value.slice A5 x5.length c5) ∧ w'.cell? ⟨w.heap.size + 1, 6, none⟩ = some (Value.string z6) ∧ w'.cell? ⟨w.heap.size, 0, none⟩ = some (Value.slice A fs.length c) ∧ w'.cell? ⟨w.heap.size, 1, none⟩ = some (Value.slice B m d) ∧ w'.cell? ⟨b1, o1 + k * 3, none⟩ = some (Value.string y0) ∧ w'.cell? ⟨b1, o1 + k * 3 + 1, none⟩ = some (Value.string y1) ∧ w'.cell? ⟨b1, o1 + k * 3 + 2, none⟩ = some (Value.slice G1 ya.length e1))
        (first | with_reducible exact KS.out _ D4.out | with_reducible exact KS.out _ D3.out | with_reducible exact KS.out _ D2.out | with_reducible exact KS.out _ D2r.out | go_keep)
        (first | (go_at_call 101; (with_reducible refine (Calls.mono (SOK.out _ (by first | exact D2.out | exact D2r.out))) ?_); rintro e w3 ⟨N3, c3', rfl, o3, b3⟩; (have D3 := Lib.hid (show Below wr.heap.size wr w3 from by first | exact below_step D2.out b3 | exact b3)); (have CV3 := Lib.hid (fun W (h : Below w3.heap.size w3 W) => CV.out N3 c3' W (below_step D3.out h) ((own_SR o3).1.below h))); clear b3 o3) | (go_at_call 102; (with_reducible refine (Calls.mono (CV3.out _ (by first | exact Below.refl _ _ | exact (Below.refl _ _).drew))) ?_); rintro e w4' ⟨rfl, b4⟩; (have D4 := Lib.hid (show Below wr.heap.size wr w4' from by first | exact below_step D3.out b4 | exact below_step D3.out.drew b4)); clear b4))
       all_goals
        have B7 := Lib.hid (show Below w4.heap.size w4 _ from below_step HB.out D4.out)
        go_wp2
        go_roundw
        case rel => exact ⟨k + 1, by omega, by go_num, HF, by first | exact B7.out | exact B7.out.drew⟩
        case measure => simp [intOf]; omega
     ·obtain rfl : k = x3.length := by omega
      have SOL := Lib.hid (SOF.out x3.length (Nat.le_refl _) wr BW.out)
      have HO := Lib.hid (show R = (argIn (z4, x5, z6) fz2 (sc ++ nmC (x3.take x3.length)) && NameS.dist (sc ++ nmC (x3.take x3.length))) by rw [← HAL.out, List.drop_length]; rfl)
      generalize sc ++ nmC (x3.take x3.length) = sck at *
      have p0 : wr.cell? ⟨w.heap.size, 0, none⟩ = some (.slice A fs.length c) := PW.out.cell 0 _ rfl
      have p1 : wr.cell? ⟨w.heap.size, 1, none⟩ = some (.slice B m d) := PW.out.cell 1 _ rfl
      have v0 : wr.cell? ⟨w.heap.size + 1, 0, none⟩ = some (.string z0) := VW.out.cell 0 _ rfl
      have v1 : wr.cell? ⟨w.heap.size + 1, 1, none⟩ = some (.slice A1 x1.length c1) := VW.out.cell 1 _ rfl
      have v2 : wr.cell? ⟨w.heap.size + 1, 2, none⟩ = some (.slice A2 x2.length c2) := VW.out.cell 2 _ rfl
      have v4 : wr.cell? ⟨w.heap.size + 1, 4, none⟩ = some (.bool z4) := VW.out.cell 4 _ rfl
      have v5 : wr.cell? ⟨w.heap.size + 1, 5, none⟩ = some (.slice A5 x5.length c5) := VW.out.cell 5 _ rfl
      have v6 : wr.cell? ⟨w.heap.size + 1, 6, none⟩ = some (.string z6) := VW.out.cell 6 _ rfl
      clear HAL
      go_wp2_with fail
      refine (Calls.mono SOL.out) ?_
      rintro e w5 ⟨N, cn, rfl, oN, b5⟩
      have B5 := Lib.hid (below_step BW.out b5)
      have V5 := Lib.hid (VW.out.below b5)
      have L5 := Lib.hid (LW.out.below b5)
      have EA := Lib.hid (argOk z4 A5 c5 x5 z6 fz2 N cn sck w5 (H5.out.below B5.out) (by have := HRS.out; simp only [szArgU]; omega) (own_SR oN).1 (by omega))
      have hcp := (ArgS.cap oN.arg).2
      have DI := Lib.hid (fun W (h : Below w5.heap.size w5 W) => NameS.specDistinct N cn sck W ((own_SR oN).1.below h) (by omega) hcp)
      have u4 : w5.cell? ⟨w.heap.size + 1, 4, none⟩ = some (.bool z4) := V5.out.cell 4 _ rfl
      have u5 : w5.cell? ⟨w.heap.size + 1, 5, none⟩ = some (.slice A5 x5.length c5) := V5.out.cell 5 _ rfl
      have u6 : w5.cell? ⟨w.heap.size + 1, 6, none⟩ = some (.string z6) := V5.out.cell 6 _ rfl
      have l2 : w5.cell? ⟨w1.heap.size, 2, none⟩ = some (.bool fz2) := L5.out.cell 2 _ rfl
      clear b5 oN p0 p1 v0 v1 v2 v4 v5 v6 vw3
      generalize argIn (z4, x5, z6) fz2 sck = ta at *
      cases ta with
      | false =>
       have HF := Lib.hid (show R = false by rw [HO.out]; rfl)
       go_wp2_with fail
       refine (Calls.mono EA.out) ?_
       rintro e w6 ⟨rfl, b6⟩
       have B6 := Lib.hid (below_step B5.out b6)
       clear b6
       go_wp2
       go_ret
       exact ⟨ArgI.ret_b HF.out.symm, B6.out⟩
      | true =>
       have HF := Lib.hid (show R = NameS.dist sck by rw [HO.out]; rfl)
       go_wp2_with fail
       refine (Calls.mono EA.out) ?_
       rintro e w6 ⟨rfl, b6⟩
       have DI6 := Lib.hid (DI.out w6 b6)
       have B6 := Lib.hid (below_step B5.out b6)
       clear b6
       go_wp2_with fail
       refine (Calls.mono DI6.out) ?_
       rintro e w7 ⟨rfl, b7⟩
       have B7 := Lib.hid (below_step B6.out b7)
       clear b7
       go_wp2
       go_ret
       exact ⟨ArgI.ret_b HF.out.symm, B7.out⟩
end ProgS
end Go.Proofs.YtbbllkhmenpnlaaGreat
