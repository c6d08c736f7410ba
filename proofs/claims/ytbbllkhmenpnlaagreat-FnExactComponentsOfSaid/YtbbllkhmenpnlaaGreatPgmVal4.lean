import Derived.Test.YtbbllkhmenpnlaaGreatPgmMath
import Derived.Test.YtbbllkhmenpnlaaGreatArgImpl2
import Derived.Test.YtbbllkhmenpnlaaGreatPgmArg2
import Derived.Test.YtbbllkhmenpnlaaGreatPgmScope3
import Derived.Handy
import Derived.Deep.RegionLaw
import Derived.Deep.RegionHeld3
import Derived.BigQuiet
import Derived.Test.YtbbllkhmenpnlaaGreatAppend4
/-
  Programs: validity of rules, of the program (made by tools/s10v.py): patterns, visible arguments.
-/
namespace Go.Proofs.YtbbllkhmenpnlaaGreat
open Go.RowKit
def oPgmVal4O24 : Oper := { dst := some 42, op := Op.pick (Operand.tmp 34) (Operand.const (Value.bool true)) (Operand.tmp 41), type := 4, pos := "l10_program.go:174", after := #[{ on := 16, ground := Ground.data }, { on := 23, ground := Ground.data }], guard := none }
def oPgmVal4O23 : Oper := { dst := some 41, op := Op.binOp BinOp.neq 3 (Operand.tmp 37) (Operand.tmp 40) 3, type := 4, pos := "l10_program.go:174", after := #[{ on := 19, ground := Ground.data }, { on := 22, ground := Ground.data }, { on := 16, ground := Ground.guard }], guard := some (16, false) }
def oPgmVal4O22 : Oper := { dst := some 40, op := Op.call { callee := Callee.builtin Builtin.len, args := #[Operand.tmp 39], argTypes := #[31] }, type := 3, pos := "l10_program.go:174", after := #[{ on := 21, ground := Ground.data }, { on := 16, ground := Ground.guard }], guard := some (16, false) }
def oPgmVal4O21 : Oper := { dst := some 39, op := Op.load 31 (Operand.tmp 38), type := 31, pos := "l10_program.go:174", after := #[{ on := 20, ground := Ground.data }, { on := 16, ground := Ground.guard }], guard := some (16, false) }
def oPgmVal4O20 : Oper := { dst := some 38, op := Op.fieldAddr 98 (Operand.tmp 7) 1, type := 0, pos := "l10_program.go:174", after := #[{ on := 16, ground := Ground.guard }], guard := some (16, false) }
def oPgmVal4O19 : Oper := { dst := some 37, op := Op.call { callee := Callee.builtin Builtin.len, args := #[Operand.tmp 36], argTypes := #[110] }, type := 3, pos := "l10_program.go:174", after := #[{ on := 18, ground := Ground.data }, { on := 16, ground := Ground.guard }], guard := some (16, false) }
def oPgmVal4O18 : Oper := { dst := some 36, op := Op.load 110 (Operand.tmp 35), type := 110, pos := "l10_program.go:174", after := #[{ on := 17, ground := Ground.data }, { on := 16, ground := Ground.guard }], guard := some (16, false) }
def oPgmVal4O17 : Oper := { dst := some 35, op := Op.fieldAddr 112 (Operand.tmp 4) 2, type := 0, pos := "l10_program.go:174", after := #[{ on := 16, ground := Ground.guard }], guard := some (16, false) }
def oPgmVal4O16 : Oper := { dst := some 34, op := Op.move (Operand.tmp 33), type := 4, pos := "l10_program.go:174", after := #[{ on := 15, ground := Ground.data }, { on := 11, ground := Ground.chain }], guard := none }
def oPgmVal4O15 : Oper := { dst := some 33, op := Op.pick (Operand.tmp 26) (Operand.const (Value.bool true)) (Operand.tmp 32), type := 4, pos := "l10_program.go:174", after := #[{ on := 8, ground := Ground.data }, { on := 14, ground := Ground.data }], guard := none }
def oPgmVal4O14 : Oper := { dst := some 32, op := Op.binOp BinOp.neq 4 (Operand.tmp 29) (Operand.tmp 31) 4, type := 4, pos := "l10_program.go:174", after := #[{ on := 11, ground := Ground.data }, { on := 13, ground := Ground.data }, { on := 8, ground := Ground.guard }], guard := some (8, false) }
def oPgmVal4O13 : Oper := { dst := some 31, op := Op.load 4 (Operand.tmp 30), type := 4, pos := "l10_program.go:174", after := #[{ on := 12, ground := Ground.data }, { on := 8, ground := Ground.guard }], guard := some (8, false) }
def oPgmVal4O12 : Oper := { dst := some 30, op := Op.fieldAddr 98 (Operand.tmp 7) 2, type := 0, pos := "l10_program.go:174", after := #[{ on := 8, ground := Ground.guard }], guard := some (8, false) }
def oPgmVal4O11 : Oper := { dst := some 29, op := Op.call { callee := Callee.value (Operand.func 168), args := #[Operand.tmp 28], argTypes := #[9] }, type := 4, pos := "l10_program.go:174", after := #[{ on := 10, ground := Ground.data }, { on := 8, ground := Ground.chain }, { on := 8, ground := Ground.guard }], guard := some (8, false) }
def oPgmVal4O10 : Oper := { dst := some 28, op := Op.load 9 (Operand.tmp 27), type := 9, pos := "l10_program.go:174", after := #[{ on := 9, ground := Ground.data }, { on := 8, ground := Ground.guard }], guard := some (8, false) }
def oPgmVal4O9 : Oper := { dst := some 27, op := Op.fieldAddr 112 (Operand.tmp 4) 0, type := 0, pos := "l10_program.go:174", after := #[{ on := 8, ground := Ground.guard }], guard := some (8, false) }
def oPgmVal4O8 : Oper := { dst := some 26, op := Op.move (Operand.tmp 25), type := 4, pos := "l10_program.go:174", after := #[{ on := 7, ground := Ground.data }, { on := 5, ground := Ground.chain }], guard := none }
def oPgmVal4O7 : Oper := { dst := some 25, op := Op.pick (Operand.tmp 20) (Operand.const (Value.bool true)) (Operand.tmp 24), type := 4, pos := "l10_program.go:174", after := #[{ on := 2, ground := Ground.data }, { on := 6, ground := Ground.data }], guard := none }
def oPgmVal4O6 : Oper := { dst := some 24, op := Op.unOp UnOp.not 4 (Operand.tmp 23), type := 4, pos := "l10_program.go:174", after := #[{ on := 5, ground := Ground.data }, { on := 2, ground := Ground.guard }], guard := some (2, false) }
def oPgmVal4O5 : Oper := { dst := some 23, op := Op.call { callee := Callee.value (Operand.func 167), args := #[Operand.tmp 22], argTypes := #[9] }, type := 4, pos := "l10_program.go:174", after := #[{ on := 4, ground := Ground.data }, { on := 2, ground := Ground.chain }, { on := 2, ground := Ground.guard }], guard := some (2, false) }
def oPgmVal4O4 : Oper := { dst := some 22, op := Op.load 9 (Operand.tmp 21), type := 9, pos := "l10_program.go:174", after := #[{ on := 3, ground := Ground.data }, { on := 2, ground := Ground.guard }], guard := some (2, false) }
def oPgmVal4O3 : Oper := { dst := some 21, op := Op.fieldAddr 112 (Operand.tmp 4) 0, type := 0, pos := "l10_program.go:174", after := #[{ on := 2, ground := Ground.guard }], guard := some (2, false) }
def oPgmVal4O2 : Oper := { dst := some 20, op := Op.move (Operand.tmp 19), type := 4, pos := "l10_program.go:174", after := #[{ on := 1, ground := Ground.data }], guard := none }
def oPgmVal4O1 : Oper := { dst := some 19, op := Op.unOp UnOp.not 4 (Operand.tmp 18), type := 4, pos := "l10_program.go:174", after := #[{ on := 0, ground := Ground.data }], guard := none }
def oPgmVal4O0 : Oper := { dst := some 18, op := Op.move (Operand.tmp 8), type := 4, pos := "l10_program.go:174", after := #[], guard := none }
namespace ProgI
open RowK Mem ProgM
theorem ssl_small {xs : List SumT} {n : Nat} (h : xs.length + szs szSum xs ≤ n) : xs.length + szs ssl xs ≤ n := by
 have : szs ssl xs ≤ szs szSum xs := ssl_le xs
 omega
theorem sums_small {z0 : Bool} {x1 : List SumT} {z2 : ByteArray} (h : szArgU (z0, x1, z2) ≤ 10000000) : ∀ x ∈ x1, ∀ t ∈ x.2, t.2.size ≤ 9223372036854775807 := fun x hx t ht => by
 simp only [szArgU] at h
 have h1 := szs_mem (sz := szSum) hx
 have h2 : t.2.size ≤ szSum x := by
  have h3 := szs_mem (sz := tsz) ht
  have e : tsz t = t.2.size := rfl
  show t.2.size ≤ termsSize x.2
  unfold termsSize
  omega
 omega
set_option maxHeartbeats 4000000 in
set_option maxRecDepth 100000 in
theorem validPattern (z0 : ByteArray) (z1 : Bool) (z2 z3 : ByteArray) (w : World) (h0 : z0.size ≤ 9223372036854775807) (h2 : z2.size ≤ 9223372036854775807) (h3 : z3.size ≤ 9223372036854775807) :
  Calls Tryz.prog 173 #[.agg #[.string z0, .bool z1, .string z2, .string z3]] w fun e w' => e = .returned (.bool (patV (z0, z1, z2, z3))) ∧ Below w.heap.size w w' := by
 have BB0 := Lib.hid ((Below.refl w.heap.size w).alloc (Nat.le_refl _) (Obj.cells #[Value.string z0, Value.bool z1, Value.string z2, Value.string z3] 105))
 have V0 := Lib.hid (Lvar.new w #[Value.string z0, Value.bool z1, Value.string z2, Value.string z3] 105)
 have EL := Lib.hid (fun W (_h : Below w.heap.size w W) => NameS.implList z0 W (by unfold maxLen; exact h0))
 have EH := Lib.hid (fun W (_h : Below w.heap.size w W) => ArgI.intName z2 h2 W)
 have ET := Lib.hid (fun W (_h : Below w.heap.size w W) => NameS.implList z3 W (by unfold maxLen; exact h3))
 have HO := Lib.hid (show patV (z0, z1, z2, z3) = ((if z1 then ArgM.intName z2 && NameM.listName z3 else decide (z2.size = 0) && decide (z3.size = 0)) && NameM.listName z0) from rfl)
 have hse2 := ArgI.str_empty z2
 have hse3 := ArgI.str_empty z3
 generalize patV (z0, z1, z2, z3) = R at *
 generalize NameM.listName z0 = t0 at *
 generalize ArgM.intName z2 = t2 at *
 generalize NameM.listName z3 = t3 at *
 clear h0 h2 h3
 cases z1 with
 | false =>
  by_cases e2 : z2.size = 0
  ·rw [decide_eq_true e2] at hse2
   by_cases e3 : z3.size = 0
   ·rw [decide_eq_true e3] at hse3
    have HF := Lib.hid (show R = t0 by rw [HO.out]; simp [e2, e3])
    go_enter Tryz.func173, Tryz.ntmps173
    go_wp2_with fail
    refine (Calls.mono (EL.out _ ?_)) ?_
    ·first | exact BB0.out | exact BB0.out.drew | exact below_drewN BB0.out _
    rintro e w1 ⟨rfl, b1⟩
    have BB1 := Lib.hid (show Below w.heap.size w w1 from by first | exact BB0.out.trans (b1.mono BB0.out.size) | exact BB0.out.drew.trans (b1.mono BB0.out.size))
    clear b1
    go_wp2
    go_ret
    exact ⟨ArgI.ret_b HF.out.symm, BB1.out⟩
   ·rw [decide_eq_false e3] at hse3
    have HF := Lib.hid (show R = false by rw [HO.out]; simp [e2, e3])
    go_enter Tryz.func173, Tryz.ntmps173
    go_wp2
    go_ret
    exact ⟨ArgI.ret_b HF.out.symm, BB0.out⟩
  ·rw [decide_eq_false e2] at hse2
   have HF := Lib.hid (show R = false by rw [HO.out]; simp [e2])
   go_enter Tryz.func173, Tryz.ntmps173
   go_wp2
   go_ret
   exact ⟨ArgI.ret_b HF.out.symm, BB0.out⟩
 | true =>
  clear hse2 hse3
  cases t2 with
  | false =>
   have HF := Lib.hid (show R = false by rw [HO.out]; simp)
   go_enter Tryz.func173, Tryz.ntmps173
   go_wp2_with fail
   refine (Calls.mono (EH.out _ ?_)) ?_
   ·first | exact BB0.out | exact BB0.out.drew | exact below_drewN BB0.out _
   rintro e w1 ⟨rfl, b1⟩
   have BB1 := Lib.hid (show Below w.heap.size w w1 from by first | exact BB0.out.trans (b1.mono BB0.out.size) | exact BB0.out.drew.trans (b1.mono BB0.out.size))
   have V1 := Lib.hid (show Lvar w1 _ _ from by first | exact V0.out.below b1 | exact (V0.out.below (Below.refl _ _).drew).below b1)
   have v1_0 := V1.out.cell 0 (.string z0) rfl
   have v1_1 := V1.out.cell 1 (.bool true) rfl
   have v1_2 := V1.out.cell 2 (.string z2) rfl
   have v1_3 := V1.out.cell 3 (.string z3) rfl
   clear b1
   go_wp2
   go_ret
   exact ⟨ArgI.ret_b HF.out.symm, BB1.out⟩
  | true =>
   cases t3 with
   | false =>
    have HF := Lib.hid (show R = false by rw [HO.out]; simp)
    go_enter Tryz.func173, Tryz.ntmps173
    go_wp2_with fail
    refine (Calls.mono (EH.out _ ?_)) ?_
    ·first | exact BB0.out | exact BB0.out.drew | exact below_drewN BB0.out _
    rintro e w1 ⟨rfl, b1⟩
    have BB1 := Lib.hid (show Below w.heap.size w w1 from by first | exact BB0.out.trans (b1.mono BB0.out.size) | exact BB0.out.drew.trans (b1.mono BB0.out.size))
    have V1 := Lib.hid (show Lvar w1 _ _ from by first | exact V0.out.below b1 | exact (V0.out.below (Below.refl _ _).drew).below b1)
    have v1_0 := V1.out.cell 0 (.string z0) rfl
    have v1_1 := V1.out.cell 1 (.bool true) rfl
    have v1_2 := V1.out.cell 2 (.string z2) rfl
    have v1_3 := V1.out.cell 3 (.string z3) rfl
    clear b1
    go_wp2_with fail
    refine (Calls.mono (ET.out _ ?_)) ?_
    ·first | exact BB1.out | exact BB1.out.drew | exact below_drewN BB1.out _
    rintro e w2 ⟨rfl, b2⟩
    have BB2 := Lib.hid (show Below w.heap.size w w2 from by first | exact BB1.out.trans (b2.mono BB1.out.size) | exact BB1.out.drew.trans (b2.mono BB1.out.size))
    have V2 := Lib.hid (show Lvar w2 _ _ from by first | exact V1.out.below b2 | exact (V1.out.below (Below.refl _ _).drew).below b2)
    have v2_0 := V2.out.cell 0 (.string z0) rfl
    have v2_1 := V2.out.cell 1 (.bool true) rfl
    have v2_2 := V2.out.cell 2 (.string z2) rfl
    have v2_3 := V2.out.cell 3 (.string z3) rfl
    clear v1_0 v1_1 v1_2 v1_3
    clear b2
    go_wp2
    go_ret
    exact ⟨ArgI.ret_b HF.out.symm, BB2.out⟩
   | true =>
    have HF := Lib.hid (show R = t0 by rw [HO.out]; simp)
    go_enter Tryz.func173, Tryz.ntmps173
    go_wp2_with fail
    refine (Calls.mono (EH.out _ ?_)) ?_
    ·first | exact BB0.out | exact BB0.out.drew | exact below_drewN BB0.out _
    rintro e w1 ⟨rfl, b1⟩
    have BB1 := Lib.hid (show Below w.heap.size w w1 from by first | exact BB0.out.trans (b1.mono BB0.out.size) | exact BB0.out.drew.trans (b1.mono BB0.out.size))
    have V1 := Lib.hid (show Lvar w1 _ _ from by first | exact V0.out.below b1 | exact (V0.out.below (Below.refl _ _).drew).below b1)
    have v1_0 := V1.out.cell 0 (.string z0) rfl
    have v1_1 := V1.out.cell 1 (.bool true) rfl
    have v1_2 := V1.out.cell 2 (.string z2) rfl
    have v1_3 := V1.out.cell 3 (.string z3) rfl
    clear b1
    go_wp2_with fail
    refine (Calls.mono (ET.out _ ?_)) ?_
    ·first | exact BB1.out | exact BB1.out.drew | exact below_drewN BB1.out _
    rintro e w2 ⟨rfl, b2⟩
    have BB2 := Lib.hid (show Below w.heap.size w w2 from by first | exact BB1.out.trans (b2.mono BB1.out.size) | exact BB1.out.drew.trans (b2.mono BB1.out.size))
    have V2 := Lib.hid (show Lvar w2 _ _ from by first | exact V1.out.below b2 | exact (V1.out.below (Below.refl _ _).drew).below b2)
    have v2_0 := V2.out.cell 0 (.string z0) rfl
    have v2_1 := V2.out.cell 1 (.bool true) rfl
    have v2_2 := V2.out.cell 2 (.string z2) rfl
    have v2_3 := V2.out.cell 3 (.string z3) rfl
    clear v1_0 v1_1 v1_2 v1_3
    clear b2
    go_wp2_with fail
    refine (Calls.mono (EL.out _ ?_)) ?_
    ·first | exact BB2.out | exact BB2.out.drew | exact below_drewN BB2.out _
    rintro e w3 ⟨rfl, b3⟩
    have BB3 := Lib.hid (show Below w.heap.size w w3 from by first | exact BB2.out.trans (b3.mono BB2.out.size) | exact BB2.out.drew.trans (b3.mono BB2.out.size))
    have V3 := Lib.hid (show Lvar w3 _ _ from by first | exact V2.out.below b3 | exact (V2.out.below (Below.refl _ _).drew).below b3)
    have v3_0 := V3.out.cell 0 (.string z0) rfl
    have v3_1 := V3.out.cell 1 (.bool true) rfl
    have v3_2 := V3.out.cell 2 (.string z2) rfl
    have v3_3 := V3.out.cell 3 (.string z3) rfl
    clear v2_0 v2_1 v2_2 v2_3
    clear b3
    go_wp2
    go_ret
    exact ⟨ArgI.ret_b HF.out.symm, BB3.out⟩
set_option maxHeartbeats 4000000 in
set_option maxRecDepth 100000 in
theorem sees (sv : Value) (N : Option Addr) (cn : Nat) (sc ns : List ByteArray) (w : World) (hs : Scoped w sv sc) (hn : StrK.SRow w N ns) (hl : ns.length ≤ 100000000) (hl2 : sc.length ≤ 100000000) :
  Calls Tryz.prog 177 #[sv, .slice N ns.length cn] w fun e w' => e = .returned (.bool (decide ((NameM.wo ns sc).length = 0))) ∧ Below w.heap.size w w' := by
 obtain ⟨F, lb, rfl, eg, hcall⟩ := hs
 have HC := Lib.hid (hcall w (Below.refl _ _))
 clear hcall
 have WI := Lib.hid (fun W (h : Below w.heap.size w W) B d (hB : StrK.SRow W B sc) => NameS.implWithout N B cn d ns sc W (hn.below h) hB hl hl2)
 have hwl := NameM.wo_length ns sc
 have hz : (((NameM.wo ns sc).length : Int) == 0) = decide ((NameM.wo ns sc).length = 0) := by
  by_cases h : (NameM.wo ns sc).length = 0
  ·rw [h]; rfl
  ·rw [decide_eq_false h]; exact beq_eq_false_iff_ne.2 (by omega)
 generalize NameM.wo ns sc = o at *
 go_enter Tryz.func177, Tryz.ntmps177
 go_wp2_with (go_at_fn F; refine (Calls.mono HC.out) ?_; rintro e w1 ⟨v1, rfl, ho, b1⟩)
 obtain ⟨S, cs, hv, oS, _⟩ := gave_own ho b1
 injection hv with hv
 subst hv
 have W1 := Lib.hid (WI.out w1 b1 S cs (own_SR oS).1)
 have B1 := Lib.hid b1
 clear ho b1 oS
 go_wp2_with fail
 refine (Calls.mono W1.out) ?_
 rintro e w2 ⟨Q, cq, rfl, _, _, b2, _, _⟩
 have B2 := Lib.hid (below_step B1.out b2)
 clear b2
 go_wp2
 go_ret
 exact ⟨ArgI.ret_b (by first | exact hz | simp [List.length_eq_zero_iff]), B2.out⟩
set_option maxHeartbeats 4000000 in
set_option maxRecDepth 100000 in
theorem visible (z0 : Bool) (A1 : Option Addr) (c1 : Nat) (x1 : List SumT) (z2 : ByteArray) (l : Bool) (sv : Value) (sc : List ByteArray) (w : World) (h1 : ArgS Mem.sum w A1 x1.length c1 x1) (hl : szArgU (z0, x1, z2) ≤ 10000000) (hs : Scoped w sv sc) (hl2 : sc.length ≤ 100000000) :
  Calls Tryz.prog 131 #[.agg #[.bool z0, .slice A1 x1.length c1, .string z2], .bool l, sv] w fun e w' => e = .returned (.bool (argIn (z0, x1, z2) l sc)) ∧ Below w.heap.size w w' := by
 have ha : x1.length + szs ssl x1 ≤ 10000000 := ssl_small (by simp only [szArgU] at hl; omega)
 have hts : ∀ x ∈ x1, ∀ t ∈ x.2, t.2.size ≤ 9223372036854775807 := sums_small (z0 := z0) (z2 := z2) hl
 have hz2 : z2.size ≤ 9223372036854775807 := by simp only [szArgU] at hl; omega
 have BB0 := Lib.hid ((Below.refl w.heap.size w).alloc (Nat.le_refl _) (Obj.cells #[Value.bool z0, Value.slice A1 x1.length c1, Value.string z2] 46))
 have V0 := Lib.hid (Lvar.new w #[Value.bool z0, Value.slice A1 x1.length c1, Value.string z2] 46)
 have EV := Lib.hid (fun W (h : Below w.heap.size w W) => ArgI.validArg z0 A1 c1 x1 z2 W (h1.below h) (by omega) hts hz2)
 have EN := Lib.hid (fun W (h : Below w.heap.size w W) => ArgI.names z0 z2 A1 c1 x1 W (h1.below h) ha)
 have hnl : (SortM.srtB (ArgI.nmA x1 z2)).length ≤ 100000000 := Nat.le_trans (SortM.srtB_length _) (ArgI.nmA_len x1 z2 ha)
 have ES := Lib.hid (fun W (h : Below w.heap.size w W) N cn (hN : StrK.SRow W N (SortM.srtB (ArgI.nmA x1 z2))) => sees sv N cn sc _ W (hs.below h) hN hnl hl2)
 have HO := Lib.hid (show argIn (z0, x1, z2) l sc = (ArgM.argV (z0, x1, z2) && ((z0 == l) && decide ((NameM.wo (SortM.srtB (ArgI.nmA x1 z2)) sc).length = 0))) from rfl)
 generalize argIn (z0, x1, z2) l sc = R at *
 generalize ArgM.argV (z0, x1, z2) = t0 at *
 generalize decide ((NameM.wo (SortM.srtB (ArgI.nmA x1 z2)) sc).length = 0) = t1 at *
 clear h1 hl hs ha hts hz2
 cases t0 with
 | false =>
  have HF := Lib.hid (show R = false by rw [HO.out]; simp)
  go_enter Tryz.func131, Tryz.ntmps131
  go_wp2_with fail
  refine (Calls.mono (EV.out _ ?_)) ?_
  ·first | exact BB0.out | exact BB0.out.drew | exact below_drewN BB0.out _
  rintro e w1 ⟨rfl, b1⟩
  have BB1 := Lib.hid (show Below w.heap.size w w1 from by first | exact BB0.out.trans (b1.mono BB0.out.size) | exact BB0.out.drew.trans (b1.mono BB0.out.size))
  clear b1
  go_wp2
  go_ret
  exact ⟨ArgI.ret_b HF.out.symm, BB1.out⟩
 | true =>
  cases z0 <;> cases l
  case false.true =>
   have HF := Lib.hid (show R = false by rw [HO.out]; simp)
   go_enter Tryz.func131, Tryz.ntmps131
   go_wp2_with fail
   refine (Calls.mono (EV.out _ ?_)) ?_
   ·first | exact BB0.out | exact BB0.out.drew | exact below_drewN BB0.out _
   rintro e w1 ⟨rfl, b1⟩
   have BB1 := Lib.hid (show Below w.heap.size w w1 from by first | exact BB0.out.trans (b1.mono BB0.out.size) | exact BB0.out.drew.trans (b1.mono BB0.out.size))
   have V1 := Lib.hid (show Lvar w1 _ _ from by first | exact V0.out.below b1 | exact (V0.out.below (Below.refl _ _).drew).below b1)
   have v1_0 := V1.out.cell 0 (.bool false) rfl
   have v1_1 := V1.out.cell 1 (.slice A1 x1.length c1) rfl
   have v1_2 := V1.out.cell 2 (.string z2) rfl
   clear b1
   go_wp2
   go_ret
   exact ⟨ArgI.ret_b HF.out.symm, BB1.out⟩
  case true.false =>
   have HF := Lib.hid (show R = false by rw [HO.out]; simp)
   go_enter Tryz.func131, Tryz.ntmps131
   go_wp2_with fail
   refine (Calls.mono (EV.out _ ?_)) ?_
   ·first | exact BB0.out | exact BB0.out.drew | exact below_drewN BB0.out _
   rintro e w1 ⟨rfl, b1⟩
   have BB1 := Lib.hid (show Below w.heap.size w w1 from by first | exact BB0.out.trans (b1.mono BB0.out.size) | exact BB0.out.drew.trans (b1.mono BB0.out.size))
   have V1 := Lib.hid (show Lvar w1 _ _ from by first | exact V0.out.below b1 | exact (V0.out.below (Below.refl _ _).drew).below b1)
   have v1_0 := V1.out.cell 0 (.bool true) rfl
   have v1_1 := V1.out.cell 1 (.slice A1 x1.length c1) rfl
   have v1_2 := V1.out.cell 2 (.string z2) rfl
   clear b1
   go_wp2
   go_ret
   exact ⟨ArgI.ret_b HF.out.symm, BB1.out⟩
  case false.false =>
   have HF := Lib.hid (show R = t1 by rw [HO.out]; simp)
   go_enter Tryz.func131, Tryz.ntmps131
   go_wp2_with fail
   refine (Calls.mono (EV.out _ BB0.out)) ?_
   rintro e w1 ⟨rfl, b1⟩
   have BB1 := Lib.hid (BB0.out.trans (b1.mono BB0.out.size))
   have V1 := Lib.hid (V0.out.below b1)
   have v1_0 := V1.out.cell 0 (.bool false) rfl
   have v1_1 := V1.out.cell 1 (.slice A1 x1.length c1) rfl
   have v1_2 := V1.out.cell 2 (.string z2) rfl
   clear b1
   go_wp2_with fail
   refine (Calls.mono (EN.out _ ?_)) ?_
   ·first | exact BB1.out | exact BB1.out.drew | exact below_drewN BB1.out _
   rintro e w2 ⟨N, cn, rfl, rN, _, b2, _, _⟩
   have BB2 := Lib.hid (show Below w.heap.size w w2 from by first | exact BB1.out.trans (b2.mono BB1.out.size) | exact BB1.out.drew.trans (b2.mono BB1.out.size))
   have ES2 := Lib.hid (ES.out w2 BB2.out N cn rN)
   clear b2 rN v1_0 v1_1 v1_2
   go_wp2_with fail
   refine (Calls.mono ES2.out) ?_
   rintro e w3 ⟨rfl, b3⟩
   have BB3 := Lib.hid (below_step BB2.out b3)
   clear b3
   go_wp2
   go_ret
   exact ⟨ArgI.ret_b HF.out.symm, BB3.out⟩
  case true.true =>
   have HF := Lib.hid (show R = t1 by rw [HO.out]; simp)
   go_enter Tryz.func131, Tryz.ntmps131
   go_wp2_with fail
   refine (Calls.mono (EV.out _ BB0.out)) ?_
   rintro e w1 ⟨rfl, b1⟩
   have BB1 := Lib.hid (BB0.out.trans (b1.mono BB0.out.size))
   have V1 := Lib.hid (V0.out.below b1)
   have v1_0 := V1.out.cell 0 (.bool true) rfl
   have v1_1 := V1.out.cell 1 (.slice A1 x1.length c1) rfl
   have v1_2 := V1.out.cell 2 (.string z2) rfl
   clear b1
   go_wp2_with fail
   refine (Calls.mono (EN.out _ ?_)) ?_
   ·first | exact BB1.out | exact BB1.out.drew | exact below_drewN BB1.out _
   rintro e w2 ⟨N, cn, rfl, rN, _, b2, _, _⟩
   have BB2 := Lib.hid (show Below w.heap.size w w2 from by first | exact BB1.out.trans (b2.mono BB1.out.size) | exact BB1.out.drew.trans (b2.mono BB1.out.size))
   have ES2 := Lib.hid (ES.out w2 BB2.out N cn rN)
   clear b2 rN v1_0 v1_1 v1_2
   go_wp2_with fail
   refine (Calls.mono ES2.out) ?_
   rintro e w3 ⟨rfl, b3⟩
   have BB3 := Lib.hid (below_step BB2.out b3)
   clear b3
   go_wp2
   go_ret
   exact ⟨ArgI.ret_b HF.out.symm, BB3.out⟩
end ProgI
end Go.Proofs.YtbbllkhmenpnlaaGreat

/-
  Programs: validity of rules, of the program (made by tools/s10v.py): a call.
-/
namespace Go.Proofs.YtbbllkhmenpnlaaGreat
open Go.RowKit
namespace ProgI
open RowK Mem ProgM
theorem ArgS_one {α : Type} {r : Rep α} {q : Bool} {w : World} {f : List Nat} {cs : List Value} {x : α} {b o c : Nat} (hb : b < w.heap.size) (hr : r.rep q w f cs x) (hc : ∀ i, i < r.n → w.cell? ⟨b, o + i, none⟩ = cs[i]?) (h1 : 1 ≤ c) : ArgS r w (some ⟨b, o, none⟩) 1 c [x] := by
 refine ⟨false, b :: fps [(f, cs, x)], _, c, rfl, h1, Or.inr ⟨b, o, [(f, cs, x)], rfl, rfl, by simp, rfl, hb, ?_, fun _ => ⟨b, o, rfl, ⟨Nat.le_refl _, Nat.lt_succ_self _, by omega⟩, fun j v hj => ?_⟩, fun h => by cases h⟩⟩
 ·intro e he
  obtain rfl := List.mem_singleton.1 he
  exact r.loose hr
 ·have e : cells [(f, cs, x)] = cs := by simp [cells]
  rw [e] at hj
  have hl := r.len hr
  have := (List.getElem?_eq_some_iff.1 hj).1
  rw [hc j (by omega), hj]
theorem ArgS_sub {α : Type} {r : Rep α} {w : World} {A : Option Addr} {n c d : Nat} {xs : List α} (h : ArgS r w A n c xs) {k : Nat} (hk : k < xs.length) (hd : 1 ≤ d) : ∃ b o, A = some ⟨b, o, none⟩ ∧ ArgS r w (some ⟨b, o + k * r.n, none⟩) 1 d [xs[k]] := by
 obtain ⟨q, fp, h⟩ := h
 obtain ⟨b, o, f, cs, rfl, hb, hr, hc, _⟩ := slice_at h hk
 exact ⟨b, o, rfl, ArgS_one hb hr hc hd⟩
theorem str_at10 {w : World} {A : Option Addr} {n c : Nat} {xs : List ByteArray} (h : ArgS Rep.str w A n c xs) {k : Nat} (hk : k < xs.length) :
  ∃ b o, A = some ⟨b, o, none⟩ ∧ b < w.heap.size ∧ w.cell? ⟨b, o + k, none⟩ = some (.string xs[k]) := by
 obtain ⟨q, fp, h⟩ := h
 obtain ⟨b, o, f, cs, rfl, hb, hr, hc, _⟩ := slice_at h hk
 obtain ⟨_, rfl⟩ := hr
 have hn : Rep.str.n = 1 := rfl
 rw [hn, Nat.mul_one] at hc
 exact ⟨b, o, rfl, hb, hc 0 (by omega)⟩
theorem argsV_step {sc : List ByteArray} {l : List ArgT} {ps : List ByteArray} {k : Nat} (h1 : k < l.length) (h2 : k < ps.length) : argsV sc (l.drop k) (ps.drop k) = (argIn l[k] (NameM.listName ps[k]) sc && argsV sc (l.drop (k + 1)) (ps.drop (k + 1))) := by
 rw [List.drop_eq_getElem_cons h1, List.drop_eq_getElem_cons h2]; rfl
theorem argsV_end {sc : List ByteArray} {l : List ArgT} {ps : List ByteArray} : argsV sc (l.drop l.length) ps = true := by
 rw [List.drop_length]; cases ps <;> rfl
theorem str_le {ss : List ByteArray} {k : Nat} (hk : k < ss.length) {n : Nat} (h : szs szStr ss ≤ n) : ss[k].size ≤ n := Nat.le_trans (szs_mem (sz := szStr) (List.getElem_mem hk)) h
set_option maxHeartbeats 4000000 in
set_option maxRecDepth 100000 in
theorem validCall (A B : Option Addr) (m c d : Nat) (fs : List FunctionT) (z0 z1 : ByteArray) (A2 : Option Addr) (c2 : Nat) (x2 : List ArgT) (sv : Value) (sc : List ByteArray) (w : World)
    (hA : ArgS fn w A fs.length c fs) (hl : fs.length + szs szFunctionU fs ≤ 10000000) (h2 : ArgS arg w A2 x2.length c2 x2) (hlc : szCallU (z0, z1, x2) ≤ 10000000) (hs : Scoped w sv sc) (hl2 : sc.length ≤ 100000000) :
    Calls Tryz.prog 132 #[.agg #[.slice A fs.length c, .slice B m d], .agg #[.string z0, .string z1, .slice A2 x2.length c2], sv] w fun e w' => e = .returned (.bool (callV fs (z0, z1, x2) sc)) ∧ Below w.heap.size w w' := by
  have b0 : Below w.heap.size w ((w.alloc (Obj.cells #[Value.slice A fs.length c, Value.slice B m d] 27)).alloc (Obj.cells #[Value.string z0, Value.string z1, Value.slice A2 x2.length c2] 112)) := ((Below.refl _ _).alloc (Nat.le_refl _) _).alloc (by simp) _
  have B0 := Lib.hid b0
  have V0 := Lvar.new (w.alloc (Obj.cells #[Value.slice A fs.length c, Value.slice B m d] 27)) #[Value.string z0, Value.string z1, Value.slice A2 x2.length c2] 112
  simp only [World.size_alloc] at V0
  have V0 := Lib.hid V0
  have FF := Lib.hid (find A B m c d fs z1 _ (hA.below b0) (by omega))
  have HS := Lib.hid hs
  have H2 := Lib.hid h2
  have HFS := Lib.hid (find_small (nm := z1) hl)
  simp only [szCallU] at hlc
  have HLC := Lib.hid hlc
  have hxl : x2.length ≤ 10000000 := by omega
  have EV := Lib.hid (fun W => NameS.implValid z0 W (by unfold maxLen; omega))
  have EL := Lib.hid (fun W => NameS.implList z0 W (by unfold maxLen; omega))
  have HO := Lib.hid (show callV fs (z0, z1, x2) sc = ((findF fs z1).isSome && callF ((findF fs z1).getD zeroF) (z0, z1, x2) sc) from rfl)
  generalize callV fs (z0, z1, x2) sc = R at *
  clear hA h2 b0 hl hs hlc
  go_enter Tryz.func132, Tryz.ntmps132
  go_wp2_with fail
  refine (Calls.mono FF.out) ?_
  rintro e w1 ⟨D1, d1, D3, d3, rfl, o1, b1⟩
  have B1 := Lib.hid (below_step B0.out b1)
  have V1 := Lib.hid (V0.out.below b1)
  have O1 := Lib.hid o1
  have hz := b1.size
  simp only [World.size_alloc] at hz
  clear o1 b1
  cases hF : findF fs z1 with
  | none =>
    have HR := Lib.hid (show R = false by rw [HO.out, hF]; rfl)
    have FIN := Lib.hid (B1.out.alloc B1.out.size (Obj.cells #[Value.string ByteArray.empty, Value.slice D1 0 d1, Value.bool false, Value.slice D3 0 d3] 98))
    simp only [Option.getD_none, Option.isSome_none, zeroF, List.length_nil]
    clear hF HO
    go_wp2
    go_quiet (fail)
    go_wp2
    go_ret
    exact ⟨ArgI.ret_b HR.out.symm, below_drewN FIN.out _⟩
  | some f =>
    rw [hF] at HO HFS
    obtain ⟨fz0, fx1, fz2, fx3⟩ := f
    have O2 := O1.out
    rw [hF] at O2
    have O2 := Lib.hid (OwnR.arg (show OwnR fn _ w1.heap.size w1 [.string fz0, .slice D1 fx1.length d1, .bool fz2, .slice D3 fx3.length d3] (fz0, fx1, fz2, fx3) from O2))
    have hfz : szFunctionU (fz0, fx1, fz2, fx3) ≤ 10000000 := HFS.out
    simp only [szFunctionU] at hfz
    have hfx : fx1.length ≤ 10000000 := by omega
    have HFZ := Lib.hid (show szs szStr fx1 ≤ 10000000 by omega)
    have HO := Lib.hid (show R = (NameM.validName z0 && ((NameM.listName z0 == fz2) && (decide (x2.length = fx1.length) && argsV sc x2 fx1))) by rw [HO.out]; rfl)
    simp only [Option.getD_some, Option.isSome_some]
    clear hF O1 HFS hfz
    have V2 := Lib.hid (V1.out.alloc (Obj.cells #[Value.string fz0, Value.slice D1 fx1.length d1, Value.bool fz2, Value.slice D3 fx3.length d3] 98))
    have L2 := Lib.hid (Lvar.new w1 #[Value.string fz0, Value.slice D1 fx1.length d1, Value.bool fz2, Value.slice D3 fx3.length d3] 98)
    have B2 := Lib.hid (B1.out.alloc B1.out.size (Obj.cells #[Value.string fz0, Value.slice D1 fx1.length d1, Value.bool fz2, Value.slice D3 fx3.length d3] 98))
    have O3 := Lib.hid ((arg_fn O2.out).1.below ((Below.refl w1.heap.size w1).alloc (Nat.le_refl _) (Obj.cells #[Value.string fz0, Value.slice D1 fx1.length d1, Value.bool fz2, Value.slice D3 fx3.length d3] 98)))
    have hzw : w1.heap.size + 1 ≤ (w1.alloc (Obj.cells #[Value.string fz0, Value.slice D1 fx1.length d1, Value.bool fz2, Value.slice D3 fx3.length d3] 98)).heap.size := by simp
    clear O2 V1 V0 FF
    obtain ⟨q, hq⟩ : ∃ q : Bool, q = (NameM.validName z0 && ((NameM.listName z0 == fz2) && decide (x2.length = fx1.length))) := ⟨_, rfl⟩
    have HQ := Lib.hid hq
    have HLN := Lib.hid (show q = true → x2.length = fx1.length from fun h => by rw [hq] at h; simp only [Bool.and_eq_true, decide_eq_true_eq] at h; exact h.2.2)
    have HO := Lib.hid (show R = (q && argsV sc x2 fx1) by rw [HO.out, hq]; simp only [Bool.and_assoc])
    clear hq
    generalize NameM.validName z0 = tv at *
    generalize NameM.listName z0 = tl at *
    go_upto_region 2 with fail
    generalize w1.alloc (Obj.cells #[Value.string fz0, Value.slice D1 fx1.length d1, Value.bool fz2, Value.slice D3 fx3.length d3] 98) = w2 at *
    have VV := V2.out
    have LL := L2.out
    have v2_0 : w2.cell? ⟨w.heap.size + 1, 0, none⟩ = some (.string z0) := VV.cell 0 _ rfl
    have v2_2 : w2.cell? ⟨w.heap.size + 1, 2, none⟩ = some (.slice A2 x2.length c2) := VV.cell 2 _ rfl
    have l2_1 : w2.cell? ⟨w1.heap.size, 1, none⟩ = some (.slice D1 fx1.length d1) := LL.cell 1 _ rfl
    have l2_2 : w2.cell? ⟨w1.heap.size, 2, none⟩ = some (.bool fz2) := LL.cell 2 _ rfl
    clear VV LL
    have D2 := Lib.hid (Below.refl w2.heap.size w2).drew
    go_cut [42] (fun s wx => s = .bool (!q) ∧ Below w2.heap.size w2 wx)
    case first =>
      have KS := Lib.hid (fun W (h : Below w2.heap.size w2 W) => (show W.cell? ⟨w.heap.size + 1, 0, none⟩ = some (Value.string z0) ∧ W.cell? ⟨w.heap.size + 1, 2, none⟩ = some (Value.slice A2 x2.length c2) ∧ W.cell? ⟨w1.heap.size, 1, none⟩ = some (Value.slice D1 fx1.length d1) ∧ W.cell? ⟨w1.heap.size, 2, none⟩ = some (Value.bool fz2) from ⟨(V2.out.below h).cell 0 _ rfl, (V2.out.below h).cell 2 _ rfl, (L2.out.below h).cell 1 _ rfl, (L2.out.below h).cell 2 _ rfl⟩))
      have D2r := Lib.hid (Below.refl w2.heap.size w2)
      cases tv with
      | false =>
        have HF := Lib.hid (show q = false by rw [HQ.out]; simp)
        refine wp_region_held_drew (S := (fun w' => w'.cell? ⟨w.heap.size + 1, 0, none⟩ = some (Value.string z0) ∧ w'.cell? ⟨w.heap.size + 1, 2, none⟩ = some (Value.slice A2 x2.length c2) ∧ w'.cell? ⟨w1.heap.size, 1, none⟩ = some (Value.slice D1 fx1.length d1) ∧ w'.cell? ⟨w1.heap.size, 2, none⟩ = some (Value.bool fz2))) (by kernel_rfl) ?_ (fun hHeld => ?_)
        · (try dsimp only); first | exact KS.out _ D2.out | exact KS.out _ D2r.out
        refine tkW 0 oPgmVal4O0 ?v1_0 ?hy1_0 ?r1_0
        case hy1_0 => (intro w hSw; (try dsimp only at hSw); (try unfold oPgmVal4O0); go_simp; try (with_reducible rfl))
        (try simp only [oPgmVal4O0, Act.put, zA, zB, zC])
        refine tkW 1 oPgmVal4O1 ?v1_1 ?hy1_1 ?r1_1
        case hy1_1 => (intro w hSw; (try dsimp only at hSw); (try unfold oPgmVal4O1); go_simp; try (with_reducible rfl))
        (try simp only [oPgmVal4O1, Act.put, zA, zB, zC])
        refine tkW 2 oPgmVal4O2 ?v1_2 ?hy1_2 ?r1_2
        case hy1_2 => (intro w hSw; (try dsimp only at hSw); (try unfold oPgmVal4O2); go_simp; try (with_reducible rfl))
        (try simp only [oPgmVal4O2, Act.put, zA, zB, zC])
        refine tkW 3 oPgmVal4O3 ?v1_3 ?hy1_3 ?r1_3
        case hy1_3 => (intro w hSw; (try dsimp only at hSw); (try unfold oPgmVal4O3); go_simp; try (with_reducible rfl))
        (try simp only [oPgmVal4O3, Act.put, zA, zB, zC])
        refine tkW 4 oPgmVal4O4 ?v1_4 ?hy1_4 ?r1_4
        case hy1_4 => (intro w hSw; (try dsimp only at hSw); (try unfold oPgmVal4O4); go_simp; try (with_reducible rfl))
        (try simp only [oPgmVal4O4, Act.put, zA, zB, zC])
        refine wpAnyH_ready (rs := [5]) (by kernel_rfl) (by simp) ?_
        refine AllReadyH.cons (o := oPgmVal4O5) rfl (fun K hK => ?_) AllReadyH.nil
        ((try unfold oPgmVal4O5); go_simp)
        go_at_call 167; (with_reducible refine (Calls.mono (EV.out _)) ?_); rintro e w3 ⟨rfl, b3⟩; (have D3 := Lib.hid (show Below w2.heap.size w2 w3 from by first | exact below_step D2.out b3 | exact b3)); clear b3
        refine hK.out _ _ ?_ (fun hHeld2 => ?_)
        · (try dsimp only); exact KS.out _ D3.out
        clear hK K
        (try simp only [oPgmVal4O5, Act.put, zA, zB, zC])
        refine tkW 6 oPgmVal4O6 ?v1_6 ?hy1_6 ?r1_6
        case hy1_6 => (intro w hSw; (try dsimp only at hSw); (try unfold oPgmVal4O6); go_simp; try (with_reducible rfl))
        (try simp only [oPgmVal4O6, Act.put, zA, zB, zC])
        refine tkW 7 oPgmVal4O7 ?v1_7 ?hy1_7 ?r1_7
        case hy1_7 => (intro w hSw; (try dsimp only at hSw); (try unfold oPgmVal4O7); go_simp; try (with_reducible rfl))
        (try simp only [oPgmVal4O7, Act.put, zA, zB, zC])
        refine tkW 8 oPgmVal4O8 ?v1_8 ?hy1_8 ?r1_8
        case hy1_8 => (intro w hSw; (try dsimp only at hSw); (try unfold oPgmVal4O8); go_simp; try (with_reducible rfl))
        (try simp only [oPgmVal4O8, Act.put, zA, zB, zC])
        refine tkU 9 oPgmVal4O9 ?_
        (try simp only [oPgmVal4O9, Act.put, zA, zB, zC])
        refine tkU 10 oPgmVal4O10 ?_
        (try simp only [oPgmVal4O10, Act.put, zA, zB, zC])
        refine tkU 11 oPgmVal4O11 ?_
        (try simp only [oPgmVal4O11, Act.put, zA, zB, zC])
        refine tkU 12 oPgmVal4O12 ?_
        (try simp only [oPgmVal4O12, Act.put, zA, zB, zC])
        refine tkU 13 oPgmVal4O13 ?_
        (try simp only [oPgmVal4O13, Act.put, zA, zB, zC])
        refine tkU 14 oPgmVal4O14 ?_
        (try simp only [oPgmVal4O14, Act.put, zA, zB, zC])
        refine tkW 15 oPgmVal4O15 ?v1_15 ?hy1_15 ?r1_15
        case hy1_15 => (intro w hSw; (try dsimp only at hSw); (try unfold oPgmVal4O15); go_simp; try (with_reducible rfl))
        (try simp only [oPgmVal4O15, Act.put, zA, zB, zC])
        refine tkW 16 oPgmVal4O16 ?v1_16 ?hy1_16 ?r1_16
        case hy1_16 => (intro w hSw; (try dsimp only at hSw); (try unfold oPgmVal4O16); go_simp; try (with_reducible rfl))
        (try simp only [oPgmVal4O16, Act.put, zA, zB, zC])
        refine tkU 17 oPgmVal4O17 ?_
        (try simp only [oPgmVal4O17, Act.put, zA, zB, zC])
        refine tkU 18 oPgmVal4O18 ?_
        (try simp only [oPgmVal4O18, Act.put, zA, zB, zC])
        refine tkU 19 oPgmVal4O19 ?_
        (try simp only [oPgmVal4O19, Act.put, zA, zB, zC])
        refine tkU 20 oPgmVal4O20 ?_
        (try simp only [oPgmVal4O20, Act.put, zA, zB, zC])
        refine tkU 21 oPgmVal4O21 ?_
        (try simp only [oPgmVal4O21, Act.put, zA, zB, zC])
        refine tkU 22 oPgmVal4O22 ?_
        (try simp only [oPgmVal4O22, Act.put, zA, zB, zC])
        refine tkU 23 oPgmVal4O23 ?_
        (try simp only [oPgmVal4O23, Act.put, zA, zB, zC])
        refine tkW 24 oPgmVal4O24 ?v1_24 ?hy1_24 ?r1_24
        case hy1_24 => (intro w hSw; (try dsimp only at hSw); (try unfold oPgmVal4O24); go_simp; try (with_reducible rfl))
        (try simp only [oPgmVal4O24, Act.put, zA, zB, zC])
        refine wpAnyH_done (by kernel_rfl) ?_ _
        all_goals
          go_wp2_with fail
          go_meet
          exact ⟨by rw [HF.out]; rfl, by first | exact D3.out | exact D3.out.drew⟩
      | true =>
        obtain ⟨bq, hbq⟩ : ∃ bq : Bool, bq = ((x2.length : Int) != (fx1.length : Int)) := ⟨_, rfl⟩
        have hne : ((x2.length : Int) != (fx1.length : Int)) = bq := hbq.symm
        have hdq : decide (x2.length = fx1.length) = !bq := by
          rw [hbq]
          by_cases h : x2.length = fx1.length
          · rw [decide_eq_true h, h]; simp
          · rw [decide_eq_false h, show ((x2.length : Int) != (fx1.length : Int)) = true from by simp; omega]; rfl
        have HL1 := Lib.hid (show tl = fz2 → q = !bq from fun h1 => by rw [HQ.out, h1, hdq]; simp)
        have HL0 := Lib.hid (show tl ≠ fz2 → q = false from fun h1 => by rw [HQ.out, beq_eq_false_iff_ne.2 h1]; simp)
        clear HQ HLN HO hbq hdq
        cases tl <;> cases fz2
        case false.false =>
          have HF := Lib.hid (HL1.out rfl)
          refine wp_region_held_drew (S := (fun w' => w'.cell? ⟨w.heap.size + 1, 0, none⟩ = some (Value.string z0) ∧ w'.cell? ⟨w.heap.size + 1, 2, none⟩ = some (Value.slice A2 x2.length c2) ∧ w'.cell? ⟨w1.heap.size, 1, none⟩ = some (Value.slice D1 fx1.length d1) ∧ w'.cell? ⟨w1.heap.size, 2, none⟩ = some (Value.bool false))) (by kernel_rfl) ?_ (fun hHeld => ?_)
          · (try dsimp only); first | exact KS.out _ D2.out | exact KS.out _ D2r.out
          refine tkW 0 oPgmVal4O0 ?v2_0 ?hy2_0 ?r2_0
          case hy2_0 => (intro w hSw; (try dsimp only at hSw); (try unfold oPgmVal4O0); go_simp; try (with_reducible rfl))
          (try simp only [oPgmVal4O0, Act.put, zA, zB, zC])
          refine tkW 1 oPgmVal4O1 ?v2_1 ?hy2_1 ?r2_1
          case hy2_1 => (intro w hSw; (try dsimp only at hSw); (try unfold oPgmVal4O1); go_simp; try (with_reducible rfl))
          (try simp only [oPgmVal4O1, Act.put, zA, zB, zC])
          refine tkW 2 oPgmVal4O2 ?v2_2 ?hy2_2 ?r2_2
          case hy2_2 => (intro w hSw; (try dsimp only at hSw); (try unfold oPgmVal4O2); go_simp; try (with_reducible rfl))
          (try simp only [oPgmVal4O2, Act.put, zA, zB, zC])
          refine tkW 3 oPgmVal4O3 ?v2_3 ?hy2_3 ?r2_3
          case hy2_3 => (intro w hSw; (try dsimp only at hSw); (try unfold oPgmVal4O3); go_simp; try (with_reducible rfl))
          (try simp only [oPgmVal4O3, Act.put, zA, zB, zC])
          refine tkW 4 oPgmVal4O4 ?v2_4 ?hy2_4 ?r2_4
          case hy2_4 => (intro w hSw; (try dsimp only at hSw); (try unfold oPgmVal4O4); go_simp; try (with_reducible rfl))
          (try simp only [oPgmVal4O4, Act.put, zA, zB, zC])
          refine wpAnyH_ready (rs := [5]) (by kernel_rfl) (by simp) ?_
          refine AllReadyH.cons (o := oPgmVal4O5) rfl (fun K hK => ?_) AllReadyH.nil
          ((try unfold oPgmVal4O5); go_simp)
          go_at_call 167; (with_reducible refine (Calls.mono (EV.out _)) ?_); rintro e w3 ⟨rfl, b3⟩; (have D3 := Lib.hid (show Below w2.heap.size w2 w3 from by first | exact below_step D2.out b3 | exact b3)); clear b3
          refine hK.out _ _ ?_ (fun hHeld2 => ?_)
          · (try dsimp only); exact KS.out _ D3.out
          clear hK K
          (try simp only [oPgmVal4O5, Act.put, zA, zB, zC])
          refine tkW 6 oPgmVal4O6 ?v2_6 ?hy2_6 ?r2_6
          case hy2_6 => (intro w hSw; (try dsimp only at hSw); (try unfold oPgmVal4O6); go_simp; try (with_reducible rfl))
          (try simp only [oPgmVal4O6, Act.put, zA, zB, zC])
          refine tkW 7 oPgmVal4O7 ?v2_7 ?hy2_7 ?r2_7
          case hy2_7 => (intro w hSw; (try dsimp only at hSw); (try unfold oPgmVal4O7); go_simp; try (with_reducible rfl))
          (try simp only [oPgmVal4O7, Act.put, zA, zB, zC])
          refine tkW 8 oPgmVal4O8 ?v2_8 ?hy2_8 ?r2_8
          case hy2_8 => (intro w hSw; (try dsimp only at hSw); (try unfold oPgmVal4O8); go_simp; try (with_reducible rfl))
          (try simp only [oPgmVal4O8, Act.put, zA, zB, zC])
          refine tkW 9 oPgmVal4O9 ?v2_9 ?hy2_9 ?r2_9
          case hy2_9 => (intro w hSw; (try dsimp only at hSw); (try unfold oPgmVal4O9); go_simp; try (with_reducible rfl))
          (try simp only [oPgmVal4O9, Act.put, zA, zB, zC])
          refine tkW 10 oPgmVal4O10 ?v2_10 ?hy2_10 ?r2_10
          case hy2_10 => (intro w hSw; (try dsimp only at hSw); (try unfold oPgmVal4O10); go_simp; try (with_reducible rfl))
          (try simp only [oPgmVal4O10, Act.put, zA, zB, zC])
          refine tkW 12 oPgmVal4O12 ?v2_12 ?hy2_12 ?r2_12
          case hy2_12 => (intro w hSw; (try dsimp only at hSw); (try unfold oPgmVal4O12); go_simp; try (with_reducible rfl))
          (try simp only [oPgmVal4O12, Act.put, zA, zB, zC])
          refine tkW 13 oPgmVal4O13 ?v2_13 ?hy2_13 ?r2_13
          case hy2_13 => (intro w hSw; (try dsimp only at hSw); (try unfold oPgmVal4O13); go_simp; try (with_reducible rfl))
          (try simp only [oPgmVal4O13, Act.put, zA, zB, zC])
          refine wpAnyH_ready (rs := [11]) (by kernel_rfl) (by simp) ?_
          refine AllReadyH.cons (o := oPgmVal4O11) rfl (fun K hK => ?_) AllReadyH.nil
          ((try unfold oPgmVal4O11); go_simp)
          go_at_call 168; (with_reducible refine (Calls.mono (EL.out _)) ?_); rintro e w4 ⟨rfl, b4⟩; (have D4 := Lib.hid (show Below w2.heap.size w2 w4 from by first | exact below_step D3.out b4 | exact below_step D3.out.drew b4)); clear b4
          refine hK.out _ _ ?_ (fun hHeld2 => ?_)
          · (try dsimp only); exact KS.out _ D4.out
          clear hK K
          (try simp only [oPgmVal4O11, Act.put, zA, zB, zC])
          refine tkW 14 oPgmVal4O14 ?v2_14 ?hy2_14 ?r2_14
          case hy2_14 => (intro w hSw; (try dsimp only at hSw); (try unfold oPgmVal4O14); go_simp; try (with_reducible rfl))
          (try simp only [oPgmVal4O14, Act.put, zA, zB, zC])
          refine tkW 15 oPgmVal4O15 ?v2_15 ?hy2_15 ?r2_15
          case hy2_15 => (intro w hSw; (try dsimp only at hSw); (try unfold oPgmVal4O15); go_simp; try (with_reducible rfl))
          (try simp only [oPgmVal4O15, Act.put, zA, zB, zC])
          refine tkW 16 oPgmVal4O16 ?v2_16 ?hy2_16 ?r2_16
          case hy2_16 => (intro w hSw; (try dsimp only at hSw); (try unfold oPgmVal4O16); go_simp; try (with_reducible rfl))
          (try simp only [oPgmVal4O16, Act.put, zA, zB, zC])
          refine tkW 17 oPgmVal4O17 ?v2_17 ?hy2_17 ?r2_17
          case hy2_17 => (intro w hSw; (try dsimp only at hSw); (try unfold oPgmVal4O17); go_simp; try (with_reducible rfl))
          (try simp only [oPgmVal4O17, Act.put, zA, zB, zC])
          refine tkW 18 oPgmVal4O18 ?v2_18 ?hy2_18 ?r2_18
          case hy2_18 => (intro w hSw; (try dsimp only at hSw); (try unfold oPgmVal4O18); go_simp; try (with_reducible rfl))
          (try simp only [oPgmVal4O18, Act.put, zA, zB, zC])
          refine tkW 19 oPgmVal4O19 ?v2_19 ?hy2_19 ?r2_19
          case hy2_19 => (intro w hSw; (try dsimp only at hSw); (try unfold oPgmVal4O19); go_simp; try (with_reducible rfl))
          (try simp only [oPgmVal4O19, Act.put, zA, zB, zC])
          refine tkW 20 oPgmVal4O20 ?v2_20 ?hy2_20 ?r2_20
          case hy2_20 => (intro w hSw; (try dsimp only at hSw); (try unfold oPgmVal4O20); go_simp; try (with_reducible rfl))
          (try simp only [oPgmVal4O20, Act.put, zA, zB, zC])
          refine tkW 21 oPgmVal4O21 ?v2_21 ?hy2_21 ?r2_21
          case hy2_21 => (intro w hSw; (try dsimp only at hSw); (try unfold oPgmVal4O21); go_simp; try (with_reducible rfl))
          (try simp only [oPgmVal4O21, Act.put, zA, zB, zC])
          refine tkW 22 oPgmVal4O22 ?v2_22 ?hy2_22 ?r2_22
          case hy2_22 => (intro w hSw; (try dsimp only at hSw); (try unfold oPgmVal4O22); go_simp; try (with_reducible rfl))
          (try simp only [oPgmVal4O22, Act.put, zA, zB, zC])
          refine tkW 23 oPgmVal4O23 ?v2_23 ?hy2_23 ?r2_23
          case hy2_23 => (intro w hSw; (try dsimp only at hSw); (try unfold oPgmVal4O23); go_simp; try (with_reducible rfl))
          (try simp only [oPgmVal4O23, Act.put, zA, zB, zC])
          refine tkW 24 oPgmVal4O24 ?v2_24 ?hy2_24 ?r2_24
          case hy2_24 => (intro w hSw; (try dsimp only at hSw); (try unfold oPgmVal4O24); go_simp; try (with_reducible rfl))
          (try simp only [oPgmVal4O24, Act.put, zA, zB, zC])
          refine wpAnyH_done (by kernel_rfl) ?_ _
          all_goals
            go_wp2_with fail
            go_meet
            exact ⟨by rw [HF.out]; simp, by first | exact D4.out | exact D4.out.drew⟩
        case false.true =>
          have HF := Lib.hid (HL0.out (by decide))
          refine wp_region_held_drew (S := (fun w' => w'.cell? ⟨w.heap.size + 1, 0, none⟩ = some (Value.string z0) ∧ w'.cell? ⟨w.heap.size + 1, 2, none⟩ = some (Value.slice A2 x2.length c2) ∧ w'.cell? ⟨w1.heap.size, 1, none⟩ = some (Value.slice D1 fx1.length d1) ∧ w'.cell? ⟨w1.heap.size, 2, none⟩ = some (Value.bool true))) (by kernel_rfl) ?_ (fun hHeld => ?_)
          · (try dsimp only); first | exact KS.out _ D2.out | exact KS.out _ D2r.out
          refine tkW 0 oPgmVal4O0 ?v3_0 ?hy3_0 ?r3_0
          case hy3_0 => (intro w hSw; (try dsimp only at hSw); (try unfold oPgmVal4O0); go_simp; try (with_reducible rfl))
          (try simp only [oPgmVal4O0, Act.put, zA, zB, zC])
          refine tkW 1 oPgmVal4O1 ?v3_1 ?hy3_1 ?r3_1
          case hy3_1 => (intro w hSw; (try dsimp only at hSw); (try unfold oPgmVal4O1); go_simp; try (with_reducible rfl))
          (try simp only [oPgmVal4O1, Act.put, zA, zB, zC])
          refine tkW 2 oPgmVal4O2 ?v3_2 ?hy3_2 ?r3_2
          case hy3_2 => (intro w hSw; (try dsimp only at hSw); (try unfold oPgmVal4O2); go_simp; try (with_reducible rfl))
          (try simp only [oPgmVal4O2, Act.put, zA, zB, zC])
          refine tkW 3 oPgmVal4O3 ?v3_3 ?hy3_3 ?r3_3
          case hy3_3 => (intro w hSw; (try dsimp only at hSw); (try unfold oPgmVal4O3); go_simp; try (with_reducible rfl))
          (try simp only [oPgmVal4O3, Act.put, zA, zB, zC])
          refine tkW 4 oPgmVal4O4 ?v3_4 ?hy3_4 ?r3_4
          case hy3_4 => (intro w hSw; (try dsimp only at hSw); (try unfold oPgmVal4O4); go_simp; try (with_reducible rfl))
          (try simp only [oPgmVal4O4, Act.put, zA, zB, zC])
          refine wpAnyH_ready (rs := [5]) (by kernel_rfl) (by simp) ?_
          refine AllReadyH.cons (o := oPgmVal4O5) rfl (fun K hK => ?_) AllReadyH.nil
          ((try unfold oPgmVal4O5); go_simp)
          go_at_call 167; (with_reducible refine (Calls.mono (EV.out _)) ?_); rintro e w3 ⟨rfl, b3⟩; (have D3 := Lib.hid (show Below w2.heap.size w2 w3 from by first | exact below_step D2.out b3 | exact b3)); clear b3
          refine hK.out _ _ ?_ (fun hHeld2 => ?_)
          · (try dsimp only); exact KS.out _ D3.out
          clear hK K
          (try simp only [oPgmVal4O5, Act.put, zA, zB, zC])
          refine tkW 6 oPgmVal4O6 ?v3_6 ?hy3_6 ?r3_6
          case hy3_6 => (intro w hSw; (try dsimp only at hSw); (try unfold oPgmVal4O6); go_simp; try (with_reducible rfl))
          (try simp only [oPgmVal4O6, Act.put, zA, zB, zC])
          refine tkW 7 oPgmVal4O7 ?v3_7 ?hy3_7 ?r3_7
          case hy3_7 => (intro w hSw; (try dsimp only at hSw); (try unfold oPgmVal4O7); go_simp; try (with_reducible rfl))
          (try simp only [oPgmVal4O7, Act.put, zA, zB, zC])
          refine tkW 8 oPgmVal4O8 ?v3_8 ?hy3_8 ?r3_8
          case hy3_8 => (intro w hSw; (try dsimp only at hSw); (try unfold oPgmVal4O8); go_simp; try (with_reducible rfl))
          (try simp only [oPgmVal4O8, Act.put, zA, zB, zC])
          refine tkW 9 oPgmVal4O9 ?v3_9 ?hy3_9 ?r3_9
          case hy3_9 => (intro w hSw; (try dsimp only at hSw); (try unfold oPgmVal4O9); go_simp; try (with_reducible rfl))
          (try simp only [oPgmVal4O9, Act.put, zA, zB, zC])
          refine tkW 10 oPgmVal4O10 ?v3_10 ?hy3_10 ?r3_10
          case hy3_10 => (intro w hSw; (try dsimp only at hSw); (try unfold oPgmVal4O10); go_simp; try (with_reducible rfl))
          (try simp only [oPgmVal4O10, Act.put, zA, zB, zC])
          refine tkW 12 oPgmVal4O12 ?v3_12 ?hy3_12 ?r3_12
          case hy3_12 => (intro w hSw; (try dsimp only at hSw); (try unfold oPgmVal4O12); go_simp; try (with_reducible rfl))
          (try simp only [oPgmVal4O12, Act.put, zA, zB, zC])
          refine tkW 13 oPgmVal4O13 ?v3_13 ?hy3_13 ?r3_13
          case hy3_13 => (intro w hSw; (try dsimp only at hSw); (try unfold oPgmVal4O13); go_simp; try (with_reducible rfl))
          (try simp only [oPgmVal4O13, Act.put, zA, zB, zC])
          refine wpAnyH_ready (rs := [11]) (by kernel_rfl) (by simp) ?_
          refine AllReadyH.cons (o := oPgmVal4O11) rfl (fun K hK => ?_) AllReadyH.nil
          ((try unfold oPgmVal4O11); go_simp)
          go_at_call 168; (with_reducible refine (Calls.mono (EL.out _)) ?_); rintro e w4 ⟨rfl, b4⟩; (have D4 := Lib.hid (show Below w2.heap.size w2 w4 from by first | exact below_step D3.out b4 | exact below_step D3.out.drew b4)); clear b4
          refine hK.out _ _ ?_ (fun hHeld2 => ?_)
          · (try dsimp only); exact KS.out _ D4.out
          clear hK K
          (try simp only [oPgmVal4O11, Act.put, zA, zB, zC])
          refine tkW 14 oPgmVal4O14 ?v3_14 ?hy3_14 ?r3_14
          case hy3_14 => (intro w hSw; (try dsimp only at hSw); (try unfold oPgmVal4O14); go_simp; try (with_reducible rfl))
          (try simp only [oPgmVal4O14, Act.put, zA, zB, zC])
          refine tkW 15 oPgmVal4O15 ?v3_15 ?hy3_15 ?r3_15
          case hy3_15 => (intro w hSw; (try dsimp only at hSw); (try unfold oPgmVal4O15); go_simp; try (with_reducible rfl))
          (try simp only [oPgmVal4O15, Act.put, zA, zB, zC])
          refine tkW 16 oPgmVal4O16 ?v3_16 ?hy3_16 ?r3_16
          case hy3_16 => (intro w hSw; (try dsimp only at hSw); (try unfold oPgmVal4O16); go_simp; try (with_reducible rfl))
          (try simp only [oPgmVal4O16, Act.put, zA, zB, zC])
          refine tkU 17 oPgmVal4O17 ?_
          (try simp only [oPgmVal4O17, Act.put, zA, zB, zC])
          refine tkU 18 oPgmVal4O18 ?_
          (try simp only [oPgmVal4O18, Act.put, zA, zB, zC])
          refine tkU 19 oPgmVal4O19 ?_
          (try simp only [oPgmVal4O19, Act.put, zA, zB, zC])
          refine tkU 20 oPgmVal4O20 ?_
          (try simp only [oPgmVal4O20, Act.put, zA, zB, zC])
          refine tkU 21 oPgmVal4O21 ?_
          (try simp only [oPgmVal4O21, Act.put, zA, zB, zC])
          refine tkU 22 oPgmVal4O22 ?_
          (try simp only [oPgmVal4O22, Act.put, zA, zB, zC])
          refine tkU 23 oPgmVal4O23 ?_
          (try simp only [oPgmVal4O23, Act.put, zA, zB, zC])
          refine tkW 24 oPgmVal4O24 ?v3_24 ?hy3_24 ?r3_24
          case hy3_24 => (intro w hSw; (try dsimp only at hSw); (try unfold oPgmVal4O24); go_simp; try (with_reducible rfl))
          (try simp only [oPgmVal4O24, Act.put, zA, zB, zC])
          refine wpAnyH_done (by kernel_rfl) ?_ _
          all_goals
            go_wp2_with fail
            go_meet
            exact ⟨by rw [HF.out]; rfl, by first | exact D4.out | exact D4.out.drew⟩
        case true.false =>
          have HF := Lib.hid (HL0.out (by decide))
          refine wp_region_held_drew (S := (fun w' => w'.cell? ⟨w.heap.size + 1, 0, none⟩ = some (Value.string z0) ∧ w'.cell? ⟨w.heap.size + 1, 2, none⟩ = some (Value.slice A2 x2.length c2) ∧ w'.cell? ⟨w1.heap.size, 1, none⟩ = some (Value.slice D1 fx1.length d1) ∧ w'.cell? ⟨w1.heap.size, 2, none⟩ = some (Value.bool false))) (by kernel_rfl) ?_ (fun hHeld => ?_)
          · (try dsimp only); first | exact KS.out _ D2.out | exact KS.out _ D2r.out
          refine tkW 0 oPgmVal4O0 ?v4_0 ?hy4_0 ?r4_0
          case hy4_0 => (intro w hSw; (try dsimp only at hSw); (try unfold oPgmVal4O0); go_simp; try (with_reducible rfl))
          (try simp only [oPgmVal4O0, Act.put, zA, zB, zC])
          refine tkW 1 oPgmVal4O1 ?v4_1 ?hy4_1 ?r4_1
          case hy4_1 => (intro w hSw; (try dsimp only at hSw); (try unfold oPgmVal4O1); go_simp; try (with_reducible rfl))
          (try simp only [oPgmVal4O1, Act.put, zA, zB, zC])
          refine tkW 2 oPgmVal4O2 ?v4_2 ?hy4_2 ?r4_2
          case hy4_2 => (intro w hSw; (try dsimp only at hSw); (try unfold oPgmVal4O2); go_simp; try (with_reducible rfl))
          (try simp only [oPgmVal4O2, Act.put, zA, zB, zC])
          refine tkW 3 oPgmVal4O3 ?v4_3 ?hy4_3 ?r4_3
          case hy4_3 => (intro w hSw; (try dsimp only at hSw); (try unfold oPgmVal4O3); go_simp; try (with_reducible rfl))
          (try simp only [oPgmVal4O3, Act.put, zA, zB, zC])
          refine tkW 4 oPgmVal4O4 ?v4_4 ?hy4_4 ?r4_4
          case hy4_4 => (intro w hSw; (try dsimp only at hSw); (try unfold oPgmVal4O4); go_simp; try (with_reducible rfl))
          (try simp only [oPgmVal4O4, Act.put, zA, zB, zC])
          refine wpAnyH_ready (rs := [5]) (by kernel_rfl) (by simp) ?_
          refine AllReadyH.cons (o := oPgmVal4O5) rfl (fun K hK => ?_) AllReadyH.nil
          ((try unfold oPgmVal4O5); go_simp)
          go_at_call 167; (with_reducible refine (Calls.mono (EV.out _)) ?_); rintro e w3 ⟨rfl, b3⟩; (have D3 := Lib.hid (show Below w2.heap.size w2 w3 from by first | exact below_step D2.out b3 | exact b3)); clear b3
          refine hK.out _ _ ?_ (fun hHeld2 => ?_)
          · (try dsimp only); exact KS.out _ D3.out
          clear hK K
          (try simp only [oPgmVal4O5, Act.put, zA, zB, zC])
          refine tkW 6 oPgmVal4O6 ?v4_6 ?hy4_6 ?r4_6
          case hy4_6 => (intro w hSw; (try dsimp only at hSw); (try unfold oPgmVal4O6); go_simp; try (with_reducible rfl))
          (try simp only [oPgmVal4O6, Act.put, zA, zB, zC])
          refine tkW 7 oPgmVal4O7 ?v4_7 ?hy4_7 ?r4_7
          case hy4_7 => (intro w hSw; (try dsimp only at hSw); (try unfold oPgmVal4O7); go_simp; try (with_reducible rfl))
          (try simp only [oPgmVal4O7, Act.put, zA, zB, zC])
          refine tkW 8 oPgmVal4O8 ?v4_8 ?hy4_8 ?r4_8
          case hy4_8 => (intro w hSw; (try dsimp only at hSw); (try unfold oPgmVal4O8); go_simp; try (with_reducible rfl))
          (try simp only [oPgmVal4O8, Act.put, zA, zB, zC])
          refine tkW 9 oPgmVal4O9 ?v4_9 ?hy4_9 ?r4_9
          case hy4_9 => (intro w hSw; (try dsimp only at hSw); (try unfold oPgmVal4O9); go_simp; try (with_reducible rfl))
          (try simp only [oPgmVal4O9, Act.put, zA, zB, zC])
          refine tkW 10 oPgmVal4O10 ?v4_10 ?hy4_10 ?r4_10
          case hy4_10 => (intro w hSw; (try dsimp only at hSw); (try unfold oPgmVal4O10); go_simp; try (with_reducible rfl))
          (try simp only [oPgmVal4O10, Act.put, zA, zB, zC])
          refine tkW 12 oPgmVal4O12 ?v4_12 ?hy4_12 ?r4_12
          case hy4_12 => (intro w hSw; (try dsimp only at hSw); (try unfold oPgmVal4O12); go_simp; try (with_reducible rfl))
          (try simp only [oPgmVal4O12, Act.put, zA, zB, zC])
          refine tkW 13 oPgmVal4O13 ?v4_13 ?hy4_13 ?r4_13
          case hy4_13 => (intro w hSw; (try dsimp only at hSw); (try unfold oPgmVal4O13); go_simp; try (with_reducible rfl))
          (try simp only [oPgmVal4O13, Act.put, zA, zB, zC])
          refine wpAnyH_ready (rs := [11]) (by kernel_rfl) (by simp) ?_
          refine AllReadyH.cons (o := oPgmVal4O11) rfl (fun K hK => ?_) AllReadyH.nil
          ((try unfold oPgmVal4O11); go_simp)
          go_at_call 168; (with_reducible refine (Calls.mono (EL.out _)) ?_); rintro e w4 ⟨rfl, b4⟩; (have D4 := Lib.hid (show Below w2.heap.size w2 w4 from by first | exact below_step D3.out b4 | exact below_step D3.out.drew b4)); clear b4
          refine hK.out _ _ ?_ (fun hHeld2 => ?_)
          · (try dsimp only); exact KS.out _ D4.out
          clear hK K
          (try simp only [oPgmVal4O11, Act.put, zA, zB, zC])
          refine tkW 14 oPgmVal4O14 ?v4_14 ?hy4_14 ?r4_14
          case hy4_14 => (intro w hSw; (try dsimp only at hSw); (try unfold oPgmVal4O14); go_simp; try (with_reducible rfl))
          (try simp only [oPgmVal4O14, Act.put, zA, zB, zC])
          refine tkW 15 oPgmVal4O15 ?v4_15 ?hy4_15 ?r4_15
          case hy4_15 => (intro w hSw; (try dsimp only at hSw); (try unfold oPgmVal4O15); go_simp; try (with_reducible rfl))
          (try simp only [oPgmVal4O15, Act.put, zA, zB, zC])
          refine tkW 16 oPgmVal4O16 ?v4_16 ?hy4_16 ?r4_16
          case hy4_16 => (intro w hSw; (try dsimp only at hSw); (try unfold oPgmVal4O16); go_simp; try (with_reducible rfl))
          (try simp only [oPgmVal4O16, Act.put, zA, zB, zC])
          refine tkU 17 oPgmVal4O17 ?_
          (try simp only [oPgmVal4O17, Act.put, zA, zB, zC])
          refine tkU 18 oPgmVal4O18 ?_
          (try simp only [oPgmVal4O18, Act.put, zA, zB, zC])
          refine tkU 19 oPgmVal4O19 ?_
          (try simp only [oPgmVal4O19, Act.put, zA, zB, zC])
          refine tkU 20 oPgmVal4O20 ?_
          (try simp only [oPgmVal4O20, Act.put, zA, zB, zC])
          refine tkU 21 oPgmVal4O21 ?_
          (try simp only [oPgmVal4O21, Act.put, zA, zB, zC])
          refine tkU 22 oPgmVal4O22 ?_
          (try simp only [oPgmVal4O22, Act.put, zA, zB, zC])
          refine tkU 23 oPgmVal4O23 ?_
          (try simp only [oPgmVal4O23, Act.put, zA, zB, zC])
          refine tkW 24 oPgmVal4O24 ?v4_24 ?hy4_24 ?r4_24
          case hy4_24 => (intro w hSw; (try dsimp only at hSw); (try unfold oPgmVal4O24); go_simp; try (with_reducible rfl))
          (try simp only [oPgmVal4O24, Act.put, zA, zB, zC])
          refine wpAnyH_done (by kernel_rfl) ?_ _
          all_goals
            go_wp2_with fail
            go_meet
            exact ⟨by rw [HF.out]; rfl, by first | exact D4.out | exact D4.out.drew⟩
        case true.true =>
          have HF := Lib.hid (HL1.out rfl)
          refine wp_region_held_drew (S := (fun w' => w'.cell? ⟨w.heap.size + 1, 0, none⟩ = some (Value.string z0) ∧ w'.cell? ⟨w.heap.size + 1, 2, none⟩ = some (Value.slice A2 x2.length c2) ∧ w'.cell? ⟨w1.heap.size, 1, none⟩ = some (Value.slice D1 fx1.length d1) ∧ w'.cell? ⟨w1.heap.size, 2, none⟩ = some (Value.bool true))) (by kernel_rfl) ?_ (fun hHeld => ?_)
          · (try dsimp only); first | exact KS.out _ D2.out | exact KS.out _ D2r.out
          refine tkW 0 oPgmVal4O0 ?v5_0 ?hy5_0 ?r5_0
          case hy5_0 => (intro w hSw; (try dsimp only at hSw); (try unfold oPgmVal4O0); go_simp; try (with_reducible rfl))
          (try simp only [oPgmVal4O0, Act.put, zA, zB, zC])
          refine tkW 1 oPgmVal4O1 ?v5_1 ?hy5_1 ?r5_1
          case hy5_1 => (intro w hSw; (try dsimp only at hSw); (try unfold oPgmVal4O1); go_simp; try (with_reducible rfl))
          (try simp only [oPgmVal4O1, Act.put, zA, zB, zC])
          refine tkW 2 oPgmVal4O2 ?v5_2 ?hy5_2 ?r5_2
          case hy5_2 => (intro w hSw; (try dsimp only at hSw); (try unfold oPgmVal4O2); go_simp; try (with_reducible rfl))
          (try simp only [oPgmVal4O2, Act.put, zA, zB, zC])
          refine tkW 3 oPgmVal4O3 ?v5_3 ?hy5_3 ?r5_3
          case hy5_3 => (intro w hSw; (try dsimp only at hSw); (try unfold oPgmVal4O3); go_simp; try (with_reducible rfl))
          (try simp only [oPgmVal4O3, Act.put, zA, zB, zC])
          refine tkW 4 oPgmVal4O4 ?v5_4 ?hy5_4 ?r5_4
          case hy5_4 => (intro w hSw; (try dsimp only at hSw); (try unfold oPgmVal4O4); go_simp; try (with_reducible rfl))
          (try simp only [oPgmVal4O4, Act.put, zA, zB, zC])
          refine wpAnyH_ready (rs := [5]) (by kernel_rfl) (by simp) ?_
          refine AllReadyH.cons (o := oPgmVal4O5) rfl (fun K hK => ?_) AllReadyH.nil
          ((try unfold oPgmVal4O5); go_simp)
          go_at_call 167; (with_reducible refine (Calls.mono (EV.out _)) ?_); rintro e w3 ⟨rfl, b3⟩; (have D3 := Lib.hid (show Below w2.heap.size w2 w3 from by first | exact below_step D2.out b3 | exact b3)); clear b3
          refine hK.out _ _ ?_ (fun hHeld2 => ?_)
          · (try dsimp only); exact KS.out _ D3.out
          clear hK K
          (try simp only [oPgmVal4O5, Act.put, zA, zB, zC])
          refine tkW 6 oPgmVal4O6 ?v5_6 ?hy5_6 ?r5_6
          case hy5_6 => (intro w hSw; (try dsimp only at hSw); (try unfold oPgmVal4O6); go_simp; try (with_reducible rfl))
          (try simp only [oPgmVal4O6, Act.put, zA, zB, zC])
          refine tkW 7 oPgmVal4O7 ?v5_7 ?hy5_7 ?r5_7
          case hy5_7 => (intro w hSw; (try dsimp only at hSw); (try unfold oPgmVal4O7); go_simp; try (with_reducible rfl))
          (try simp only [oPgmVal4O7, Act.put, zA, zB, zC])
          refine tkW 8 oPgmVal4O8 ?v5_8 ?hy5_8 ?r5_8
          case hy5_8 => (intro w hSw; (try dsimp only at hSw); (try unfold oPgmVal4O8); go_simp; try (with_reducible rfl))
          (try simp only [oPgmVal4O8, Act.put, zA, zB, zC])
          refine tkW 9 oPgmVal4O9 ?v5_9 ?hy5_9 ?r5_9
          case hy5_9 => (intro w hSw; (try dsimp only at hSw); (try unfold oPgmVal4O9); go_simp; try (with_reducible rfl))
          (try simp only [oPgmVal4O9, Act.put, zA, zB, zC])
          refine tkW 10 oPgmVal4O10 ?v5_10 ?hy5_10 ?r5_10
          case hy5_10 => (intro w hSw; (try dsimp only at hSw); (try unfold oPgmVal4O10); go_simp; try (with_reducible rfl))
          (try simp only [oPgmVal4O10, Act.put, zA, zB, zC])
          refine tkW 12 oPgmVal4O12 ?v5_12 ?hy5_12 ?r5_12
          case hy5_12 => (intro w hSw; (try dsimp only at hSw); (try unfold oPgmVal4O12); go_simp; try (with_reducible rfl))
          (try simp only [oPgmVal4O12, Act.put, zA, zB, zC])
          refine tkW 13 oPgmVal4O13 ?v5_13 ?hy5_13 ?r5_13
          case hy5_13 => (intro w hSw; (try dsimp only at hSw); (try unfold oPgmVal4O13); go_simp; try (with_reducible rfl))
          (try simp only [oPgmVal4O13, Act.put, zA, zB, zC])
          refine wpAnyH_ready (rs := [11]) (by kernel_rfl) (by simp) ?_
          refine AllReadyH.cons (o := oPgmVal4O11) rfl (fun K hK => ?_) AllReadyH.nil
          ((try unfold oPgmVal4O11); go_simp)
          go_at_call 168; (with_reducible refine (Calls.mono (EL.out _)) ?_); rintro e w4 ⟨rfl, b4⟩; (have D4 := Lib.hid (show Below w2.heap.size w2 w4 from by first | exact below_step D3.out b4 | exact below_step D3.out.drew b4)); clear b4
          refine hK.out _ _ ?_ (fun hHeld2 => ?_)
          · (try dsimp only); exact KS.out _ D4.out
          clear hK K
          (try simp only [oPgmVal4O11, Act.put, zA, zB, zC])
          refine tkW 14 oPgmVal4O14 ?v5_14 ?hy5_14 ?r5_14
          case hy5_14 => (intro w hSw; (try dsimp only at hSw); (try unfold oPgmVal4O14); go_simp; try (with_reducible rfl))
          (try simp only [oPgmVal4O14, Act.put, zA, zB, zC])
          refine tkW 15 oPgmVal4O15 ?v5_15 ?hy5_15 ?r5_15
          case hy5_15 => (intro w hSw; (try dsimp only at hSw); (try unfold oPgmVal4O15); go_simp; try (with_reducible rfl))
          (try simp only [oPgmVal4O15, Act.put, zA, zB, zC])
          refine tkW 16 oPgmVal4O16 ?v5_16 ?hy5_16 ?r5_16
          case hy5_16 => (intro w hSw; (try dsimp only at hSw); (try unfold oPgmVal4O16); go_simp; try (with_reducible rfl))
          (try simp only [oPgmVal4O16, Act.put, zA, zB, zC])
          refine tkW 17 oPgmVal4O17 ?v5_17 ?hy5_17 ?r5_17
          case hy5_17 => (intro w hSw; (try dsimp only at hSw); (try unfold oPgmVal4O17); go_simp; try (with_reducible rfl))
          (try simp only [oPgmVal4O17, Act.put, zA, zB, zC])
          refine tkW 18 oPgmVal4O18 ?v5_18 ?hy5_18 ?r5_18
          case hy5_18 => (intro w hSw; (try dsimp only at hSw); (try unfold oPgmVal4O18); go_simp; try (with_reducible rfl))
          (try simp only [oPgmVal4O18, Act.put, zA, zB, zC])
          refine tkW 19 oPgmVal4O19 ?v5_19 ?hy5_19 ?r5_19
          case hy5_19 => (intro w hSw; (try dsimp only at hSw); (try unfold oPgmVal4O19); go_simp; try (with_reducible rfl))
          (try simp only [oPgmVal4O19, Act.put, zA, zB, zC])
          refine tkW 20 oPgmVal4O20 ?v5_20 ?hy5_20 ?r5_20
          case hy5_20 => (intro w hSw; (try dsimp only at hSw); (try unfold oPgmVal4O20); go_simp; try (with_reducible rfl))
          (try simp only [oPgmVal4O20, Act.put, zA, zB, zC])
          refine tkW 21 oPgmVal4O21 ?v5_21 ?hy5_21 ?r5_21
          case hy5_21 => (intro w hSw; (try dsimp only at hSw); (try unfold oPgmVal4O21); go_simp; try (with_reducible rfl))
          (try simp only [oPgmVal4O21, Act.put, zA, zB, zC])
          refine tkW 22 oPgmVal4O22 ?v5_22 ?hy5_22 ?r5_22
          case hy5_22 => (intro w hSw; (try dsimp only at hSw); (try unfold oPgmVal4O22); go_simp; try (with_reducible rfl))
          (try simp only [oPgmVal4O22, Act.put, zA, zB, zC])
          refine tkW 23 oPgmVal4O23 ?v5_23 ?hy5_23 ?r5_23
          case hy5_23 => (intro w hSw; (try dsimp only at hSw); (try unfold oPgmVal4O23); go_simp; try (with_reducible rfl))
          (try simp only [oPgmVal4O23, Act.put, zA, zB, zC])
          refine tkW 24 oPgmVal4O24 ?v5_24 ?hy5_24 ?r5_24
          case hy5_24 => (intro w hSw; (try dsimp only at hSw); (try unfold oPgmVal4O24); go_simp; try (with_reducible rfl))
          (try simp only [oPgmVal4O24, Act.put, zA, zB, zC])
          refine wpAnyH_done (by kernel_rfl) ?_ _
          all_goals
            go_wp2_with fail
            go_meet
            exact ⟨by rw [HF.out]; simp, by first | exact D4.out | exact D4.out.drew⟩
    case rest =>
      obtain ⟨w4, rfl⟩ : ∃ w4 : World, w4 = wc := ⟨_, rfl⟩
      obtain ⟨rfl, b4⟩ := hcut
      have B4 := Lib.hid (below_step B2.out b4)
      have V4 := Lib.hid (V2.out.below b4)
      have L4 := Lib.hid (L2.out.below b4)
      have O5 := Lib.hid (O3.out.below b4)
      have v4_2 : w4.cell? ⟨w.heap.size + 1, 2, none⟩ = some (.slice A2 x2.length c2) := V4.out.cell 2 _ rfl
      clear b4 v2_0 v2_2 l2_1 l2_2 V2 L2 O3 B2 D2 HQ EV EL
      cases q with
      | false =>
        have HF := Lib.hid (show R = false by rw [HO.out]; rfl)
        go_wp2
        go_ret
        exact ⟨ArgI.ret_b HF.out.symm, B4.out⟩
      | true =>
        have HLE := Lib.hid (show x2.length = fx1.length from HLN.out (by simp))
        have HO := Lib.hid (show R = argsV sc x2 fx1 by rw [HO.out]; rfl)
        go_wp2
        go_loopw [46] (fun i wr => ∃ k : Nat, k ≤ x2.length ∧ i = .int .i64 k ∧ Hid (argsV sc (x2.drop k) (fx1.drop k) = R) ∧ Below w4.heap.size w4 wr) (fun i _ => x2.length - (intOf i).toNat)
        case atStart => exact ⟨0, Nat.zero_le _, rfl, Lib.hid HO.out.symm, Below.refl _ _⟩
        case round =>
          obtain ⟨k, hk, rfl, hall, hb⟩ := hrel
          have HAL := Lib.hid hall.out
          have HB := Lib.hid hb
          clear hall hb v4_2
          have bw : Below w.heap.size w wr := B4.out.trans (HB.out.mono B4.out.size)
          have BW := Lib.hid bw
          by_cases hlt : k < x2.length
          · have hlt2 : k < fx1.length := by have := HLE.out; omega
            obtain ⟨b1, o1, X1, e1, rfl, hbb1, g0, g1, g2, r1⟩ := (H2.out.below bw).arg_at hlt
            obtain ⟨b2, o2, rfl, hbb2, g3⟩ := str_at10 (O5.out.below HB.out) hlt2
            have hsz : szArgU x2[k] ≤ 10000000 := by
              have h9 := szs_mem (sz := szArgU) (List.getElem_mem hlt)
              have := HLC.out
              omega
            have hss := str_le hlt2 HFZ.out
            have HST := Lib.hid (argsV_step (sc := sc) hlt hlt2)
            have LW := (L4.out.below HB.out)
            have l1 : wr.cell? ⟨w1.heap.size, 1, none⟩ = some (.slice (some ⟨b2, o2, none⟩) x2.length d1) := by
              rw [HLE.out]; exact LW.cell 1 _ rfl
            have hlx : x2.length = fx1.length := HLE.out
            generalize x2[k] = x at *
            generalize fx1[k] = y at *
            obtain ⟨q0, q1, q2⟩ := x
            simp only at g0 g1 g2 r1
            have hd : Below wr.heap.size wr (wr.alloc (Obj.cells #[Value.bool q0, Value.slice X1 q1.length e1, Value.string q2] 46)) := (Below.refl _ _).alloc (Nat.le_refl _) _
            have XV := Lvar.new wr #[Value.bool q0, Value.slice X1 q1.length e1, Value.string q2] 46
            have lw1 := LW.alloc (Obj.cells #[Value.bool q0, Value.slice X1 q1.length e1, Value.string q2] 46)
            have EN := Lib.hid (fun W => NameS.implList y W (by unfold maxLen; omega))
            have EA := Lib.hid (fun W (h : Below wr.heap.size wr W) l => visible q0 X1 e1 q1 q2 l sv sc W (r1.below h) hsz (HS.out.below (below_step bw h)) hl2)
            have hi0 : (0 : Int) ≤ (k : Int) := by omega
            have hi1 : (k : Int) < (x2.length : Int) := by omega
            have hgs : (wr.alloc (Obj.cells #[Value.bool q0, Value.slice X1 q1.length e1, Value.string q2] 46)).cell? ⟨b2, o2 + k, none⟩ = some (.string y) := (hd.cell hbb2).trans g3
            clear r1 hsz hss bw LW hlx l1
            generalize NameM.listName y = ty at *
            have EA2 := Lib.hid (fun W (h : Below wr.heap.size wr W) => EA.out W h ty)
            generalize argIn (q0, q1, q2) ty sc = ta at *
            go_upto_region 7 with fail
            generalize wr.alloc (Obj.cells #[Value.bool q0, Value.slice X1 q1.length e1, Value.string q2] 46) = w5 at *
            have HD := Lib.hid hd.drew
            have HXV := Lib.hid XV
            have x0 : w5.cell? ⟨wr.heap.size, 0, none⟩ = some (.bool q0) := XV.cell 0 _ rfl
            have x1 : w5.cell? ⟨wr.heap.size, 1, none⟩ = some (.slice X1 q1.length e1) := XV.cell 1 _ rfl
            have x2' : w5.cell? ⟨wr.heap.size, 2, none⟩ = some (.string q2) := XV.cell 2 _ rfl
            have l1 : w5.cell? ⟨w1.heap.size, 1, none⟩ = some (.slice (some ⟨b2, o2, none⟩) x2.length d1) := by
              rw [HLE.out]; exact lw1.cell 1 _ rfl
            clear XV hd lw1 g0 g1 g2 g3
            cases ta with
            | false =>
              have HF := Lib.hid (show R = false by rw [← HAL.out, HST.out]; rfl)
              go_wp2_with fail
              go_region_law (first
                | (go_simp; first
                  | (go_at_call 168; (with_reducible refine (Calls.mono (EN.out _)) ?_); rintro e w6 ⟨rfl, b6⟩; (have HD6 := Lib.hid (below_step HD.out b6)); (have X6 := (HXV.out.below (Below.refl _ _).drew).below b6); (have x60 : w6.cell? ⟨wr.heap.size, 0, none⟩ = some (.bool q0) := X6.cell 0 _ rfl); (have x61 : w6.cell? ⟨wr.heap.size, 1, none⟩ = some (.slice X1 q1.length e1) := X6.cell 1 _ rfl); (have x62 : w6.cell? ⟨wr.heap.size, 2, none⟩ = some (.string q2) := X6.cell 2 _ rfl); clear b6 X6)
                  | (go_at_call 131; (with_reducible refine (Calls.mono (EA2.out _ HD6.out)) ?_); rintro e w7 ⟨rfl, b7⟩; (have HD7 := Lib.hid (below_step HD6.out b7)); clear b7)))
              all_goals
                have B7 := Lib.hid (below_step BW.out HD7.out)
                go_wp2
                go_ret
                exact ⟨ArgI.ret_b HF.out.symm, B7.out⟩
            | true =>
              have HF := Lib.hid (show argsV sc (x2.drop (k + 1)) (fx1.drop (k + 1)) = R by rw [← HAL.out, HST.out]; rfl)
              go_wp2_with fail
              go_region_law (first
                | (go_simp; first
                  | (go_at_call 168; (with_reducible refine (Calls.mono (EN.out _)) ?_); rintro e w6 ⟨rfl, b6⟩; (have HD6 := Lib.hid (below_step HD.out b6)); (have X6 := (HXV.out.below (Below.refl _ _).drew).below b6); (have x60 : w6.cell? ⟨wr.heap.size, 0, none⟩ = some (.bool q0) := X6.cell 0 _ rfl); (have x61 : w6.cell? ⟨wr.heap.size, 1, none⟩ = some (.slice X1 q1.length e1) := X6.cell 1 _ rfl); (have x62 : w6.cell? ⟨wr.heap.size, 2, none⟩ = some (.string q2) := X6.cell 2 _ rfl); clear b6 X6)
                  | (go_at_call 131; (with_reducible refine (Calls.mono (EA2.out _ HD6.out)) ?_); rintro e w7 ⟨rfl, b7⟩; (have HD7 := Lib.hid (below_step HD6.out b7)); clear b7)))
              all_goals
                have B7 := Lib.hid (below_step HB.out HD7.out)
                go_wp2
                go_roundw
                case rel => exact ⟨k + 1, by omega, by go_num, HF, B7.out⟩
                case measure => simp [intOf]; omega
          · obtain rfl : k = x2.length := by omega
            have HF := Lib.hid (show R = true by rw [← HAL.out]; exact argsV_end)
            go_wp2
            go_ret
            exact ⟨ArgI.ret_b HF.out.symm, BW.out⟩

end ProgI
end Go.Proofs.YtbbllkhmenpnlaaGreat

/-
  Programs: validity of rules, of the program (made by tools/s10v.py): the patterns of a rule.
-/
namespace Go.Proofs.YtbbllkhmenpnlaaGreat
open Go.RowKit
namespace ProgI
open RowK Mem ProgM
theorem own_below {B k n : Nat} {e : TypeId} {v : Value} {xs : List Value} {w w' : World} (h : w.ownsRow B e k v n xs) (hb : Below w.heap.size w w') : w'.ownsRow B e k v n xs :=
 h.kept (row := none) ⟨hb.os, hb.tape, hb.output, hb.size, fun j hj _ => hb.block j hj⟩ (by cases hv : v.ownBlock <;> simp)
set_option maxHeartbeats 4000000 in
set_option maxRecDepth 100000 in
theorem arePatterns (fz0 : ByteArray) (D1 : Option Addr) (d1 : Nat) (fx1 : List ByteArray) (fz2 : Bool) (D3 : Option Addr) (d3 : Nat) (fx3 : List (Int × List Int)) (Q : Option Addr) (cq : Nat) (ps : List PatternT) (w : World)
  (h1 : ArgS Rep.str w D1 fx1.length d1 fx1) (hp : ArgS pat w Q ps.length cq ps) (hl : fx1.length ≤ 10000000) (hps : ps.length + szs szPatternU ps ≤ 10000000) :
  Calls Tryz.prog 129 #[.agg #[.string fz0, .slice D1 fx1.length d1, .bool fz2, .slice D3 fx3.length d3], .slice Q ps.length cq] w fun e w' => e = .returned (.bool (patsV fx1 ps)) ∧ Below w.heap.size w w' := by
 obtain ⟨i0, hi, hz0, hz1, hz2⟩ := info_parts strInfoU
 obtain ⟨w1, hw1⟩ : ∃ u, u = w.alloc (Obj.cells #[Value.string fz0, Value.slice D1 fx1.length d1, Value.bool fz2, Value.slice D3 fx3.length d3] 98) := ⟨_, rfl⟩
 have B0 := Lib.hid (show Below w.heap.size w w1 by rw [hw1]; exact (Below.refl _ _).alloc (Nat.le_refl _) _)
 have V0 := Lib.hid (show Lvar w1 w.heap.size #[Value.string fz0, Value.slice D1 fx1.length d1, Value.bool fz2, Value.slice D3 fx3.length d3] by rw [hw1]; exact Lvar.new w _ _)
 have HP := Lib.hid hp
 have HPS := Lib.hid hps
 have H1 := Lib.hid (fun W (h : Below w1.heap.size w1 W) => h1.below (below_step B0.out h))
 have hpl : ps.length ≤ 10000000 := by omega
 obtain ⟨R, hR⟩ : ∃ R, R = patsV fx1 ps := ⟨_, rfl⟩
 rw [← hR]
 have HRR := Lib.hid hR
 clear hp hps h1 hR
 go_enter Tryz.func129, Tryz.ntmps129
 go_wp2
 go_loopw [5, 10] (fun v i wr => ∃ (k : Nat) (done : List ByteArray), k ≤ ps.length ∧ i = .int .i64 k ∧ Hid (done = (ps.take k).map (·.1) ∧ (ps.take k).all patV = true) ∧ Names10 w1 v done wr) (fun _ i _ => ps.length - (intOf i).toNat)
 case atStart => exact ⟨0, [], Nat.zero_le _, rfl, Lib.hid ⟨rfl, rfl⟩, World.ownsRow_nil _ _ _ _, by rw [hw1]; exact Below.refl _ _⟩
 case round =>
  clear hw1
  obtain ⟨k, done, hk, rfl, hdone, hN⟩ := hrel
  have HD := Lib.hid hdone.out.1
  have HAL := Lib.hid hdone.out.2
  have HN := Lib.hid hN
  have hdl : done.length ≤ 10000000 := by rw [HD.out, List.length_map, List.length_take]; omega
  clear hN hdone
  have bw := below_step B0.out HN.out.2
  have BW := Lib.hid bw
  by_cases hlt : k < ps.length
  ·obtain ⟨b, o, rfl, hbb, g0, g1, g2, g3⟩ := (HP.out.below bw).pat_at hlt
   have hsz : szPatternU ps[k] ≤ 10000000 := by
    have := HPS.out
    have := szs_mem (sz := szPatternU) (List.getElem_mem hlt)
    omega
   have HST := Lib.hid (show (ps.take (k + 1)).map (·.1) = (ps.take k).map (·.1) ++ [ps[k].1] by rw [take_snoc hlt, List.map_append]; rfl)
   have HNO := Lib.hid (show patV ps[k] = false → R = false from fun h => by rw [HRR.out]; unfold patsV; rw [show ps.all patV = false from List.all_eq_false.2 ⟨ps[k], List.getElem_mem hlt, by simp [h]⟩]; rfl)
   have HYE := Lib.hid (show patV ps[k] = true → (ps.take (k + 1)).all patV = true from fun h => by rw [take_snoc hlt, List.all_append, HAL.out]; simp [h])
   clear bw
   generalize ps[k] = x at *
   obtain ⟨y0, y1, y2, y3⟩ := x
   simp only at g0 g1 g2 g3
   simp only [szPatternU] at hsz
   have hi0 : (0 : Int) ≤ (k : Int) := by omega
   have hi1 : (k : Int) < (ps.length : Int) := by omega
   have hd : Below wr.heap.size wr (wr.alloc (Obj.cells #[Value.string y0, Value.bool y1, Value.string y2, Value.string y3] 105)) := (Below.refl _ _).alloc (Nat.le_refl _) _
   have HDD := Lib.hid hd
   have XV := Lib.hid (Lvar.new wr #[Value.string y0, Value.bool y1, Value.string y2, Value.string y3] 105)
   have EV := Lib.hid (validPattern y0 y1 y2 y3 (wr.alloc (Obj.cells #[Value.string y0, Value.bool y1, Value.string y2, Value.string y3] 105)) (by omega) (by omega) (by omega))
   clear hd hsz
   generalize patV (y0, y1, y2, y3) = t at *
   cases t with
   | false =>
    have HR := Lib.hid (HNO.out rfl)
    go_wp2_with fail
    refine (Calls.mono EV.out) ?_
    rintro e w3 ⟨rfl, b3⟩
    have B3 := Lib.hid (below_step BW.out (below_step HDD.out b3))
    clear b3
    go_wp2
    go_ret
    exact ⟨ArgI.ret_b HR.out.symm, B3.out⟩
   | true =>
    have HT := Lib.hid (HYE.out rfl)
    have HF := Lib.hid (show done ++ [y0] = (ps.take (k + 1)).map (·.1) by rw [HST.out, HD.out])
    go_wp2_with fail
    refine (Calls.mono EV.out) ?_
    rintro e w3 ⟨rfl, b3⟩
    have D3 := Lib.hid (below_step HDD.out b3)
    have x30 : w3.cell? ⟨wr.heap.size, 0, none⟩ = some (.string y0) := (XV.out.below b3).cell 0 _ rfl
    have hown := own_below HN.out.1 D3.out
    have hs3 := D3.out.size
    have RN := Lib.hid (show Row 0 (w3.alloc (Obj.cells #[Value.string y0] 9)).heap.size (w3.alloc (Obj.cells #[Value.string y0] 9)) (some ⟨w3.heap.size, 0, none⟩) [.string y0] from by have h9 := row_new (heap_alloc_new w3 (Obj.cells #[Value.string y0] 9)); simpa using h9)
    clear b3 XV EV
    go_wp2_with (at_builtin; (refine wpList_append_rowW rfl _ _ _ rfl 9 i0 (.string ByteArray.empty) 1 16 w1.heap.size Tryz.underlying31 hi hz0 hz1 hz2 rfl (by decide) _ done.length (done.map Value.string) rfl (hown.alloc _) _ 1 _ [.string y0] rfl rfl RN.out (by simp [Value.oneCell']) (by unfold maxLen; omega) (by omega) (by have := HN.out.2.size; simp; omega) ?_); intro v5 w5 hown5 hgrow hwh)
    have BB : Below w1.heap.size w1 w5 := ((HN.out.2.trans (D3.out.mono HN.out.2.size)).alloc (by have := HN.out.2.size; omega) (Obj.cells #[Value.string y0] 9)).grown hgrow (by have := HN.out.2.size; simp; omega) (fun g e => (hown.lt g e).1)
    have NN := Lib.hid (show Names10 w1 v5 (done ++ [y0]) w5 from ⟨by simpa using hown5, BB⟩)
    clear hown5 hgrow hwh hown BB
    go_wp2
    go_roundw
    case rel => exact ⟨k + 1, done ++ [y0], by omega, by go_num, Lib.hid ⟨HF.out, HT.out⟩, NN.out⟩
    case measure => simp [intOf]; omega
  ·obtain rfl : k = ps.length := by omega
   have hdd : done = ps.map (·.1) := by rw [HD.out, List.take_length]
   have hal : ps.all patV = true := by have := HAL.out; rwa [List.take_length] at this
   have HO := Lib.hid (show R = (NameS.dist done && decide ((NameM.wo done fx1).length = 0)) by rw [HRR.out]; unfold patsV; rw [hal, hdd]; rfl)
   obtain ⟨N, cn, hv, oN, _⟩ := gave_own HN.out.1 HN.out.2
   injection hv with hv
   subst hv
   have l0 : wr.cell? ⟨w.heap.size, 1, none⟩ = some (.slice D1 fx1.length d1) := (V0.out.below HN.out.2).cell 1 _ rfl
   have DI := Lib.hid (NameS.implDistinct N cn done wr (own_SR oN).1 (by omega))
   have hwl := NameM.wo_length done fx1
   have V1 := Lib.hid (V0.out.below HN.out.2)
   have WO := Lib.hid (fun W (h : Below wr.heap.size wr W) => by
    obtain ⟨q, fp, h9⟩ := H1.out W (below_step HN.out.2 h)
    exact NameS.implWithout N D1 cn d1 done fx1 W ((own_SR oN).1.below h) (strs_open h9).1 (by omega) (by omega))
   have hz : (((NameM.wo done fx1).length : Int) == 0) = decide ((NameM.wo done fx1).length = 0) := by
    by_cases h : (NameM.wo done fx1).length = 0
    ·rw [h]; rfl
    ·rw [decide_eq_false h]; exact beq_eq_false_iff_ne.2 (by omega)
   clear hdd hal oN
   generalize NameS.dist done = t1 at *
   generalize NameM.wo done fx1 = oo at *
   cases t1 with
   | false =>
    have HF := Lib.hid (show R = false by rw [HO.out]; rfl)
    go_wp2_with fail
    refine (Calls.mono DI.out) ?_
    rintro e w3 ⟨rfl, b3⟩
    have B3 := Lib.hid (below_step BW.out b3)
    clear b3
    go_wp2
    go_ret
    exact ⟨ArgI.ret_b HF.out.symm, B3.out⟩
   | true =>
    have HF := Lib.hid (show R = decide (oo.length = 0) by rw [HO.out]; rfl)
    go_wp2_with fail
    refine (Calls.mono DI.out) ?_
    rintro e w3 ⟨rfl, b3⟩
    have WO3 := Lib.hid (WO.out w3 b3)
    have B3 := Lib.hid (below_step BW.out b3)
    have l3 : w3.cell? ⟨w.heap.size, 1, none⟩ = some (.slice D1 fx1.length d1) := (V1.out.below b3).cell 1 _ rfl
    clear b3 l0
    go_wp2_with fail
    refine (Calls.mono WO3.out) ?_
    rintro e w4 ⟨O4, c4, rfl, _, _, b4, _, _⟩
    have B4 := Lib.hid (below_step B3.out b4)
    clear b4
    go_wp2
    go_ret
    exact ⟨ArgI.ret_b (by rw [HF.out]; first | exact hz | simp [List.length_eq_zero_iff]), B4.out⟩
end ProgI
end Go.Proofs.YtbbllkhmenpnlaaGreat

/-
  Programs: validity of rules, of the program (made by tools/s10v.py): a rule.
-/
namespace Go.Proofs.YtbbllkhmenpnlaaGreat
open Go.RowKit
namespace ProgI
open RowK Mem ProgM
theorem szs_one {α : Type} {sz : α → Nat} (x : α) : szs sz [x] = sz x := by simp [szs]
theorem guardsV_step {sc : List ByteArray} {gs : List SumT} {k : Nat} (h : k < gs.length) : guardsV (gs.drop k) sc = (argIn (false, [gs[k]], ⟨#[]⟩) false sc && guardsV (gs.drop (k + 1)) sc) := by
 rw [List.drop_eq_getElem_cons h]; rfl
theorem restV_step {fs : List FunctionT} {l : Bool} {res : ArgT} {sc : List ByteArray} {cs : List CallT} {k : Nat} (h : k < cs.length) : restV fs l res sc (cs.drop k) = (callV fs cs[k] sc && restV fs l res (sc ++ [cs[k].1]) (cs.drop (k + 1))) := by
 rw [List.drop_eq_getElem_cons h]; rfl
set_option maxHeartbeats 8000000 in
set_option maxRecDepth 100000 in
theorem validRule (A B : Option Addr) (m c d : Nat) (fs : List FunctionT) (z0 : ByteArray) (A1 : Option Addr) (c1 : Nat) (x1 : List PatternT) (A2 : Option Addr) (c2 : Nat) (x2 : List SumT) (A3 : Option Addr) (c3 : Nat) (x3 : List CallT) (z4 : Bool) (A5 : Option Addr) (c5 : Nat) (x5 : List SumT) (z6 : ByteArray) (w : World)
  (hA : ArgS fn w A fs.length c fs) (hl : fs.length + szs szFunctionU fs ≤ 10000000) (h1 : ArgS pat w A1 x1.length c1 x1) (h2 : ArgS Mem.sum w A2 x2.length c2 x2) (h3 : ArgS call w A3 x3.length c3 x3) (h5 : ArgS Mem.sum w A5 x5.length c5 x5) (hr : szRuleU (z0, x1, x2, x3, z4, x5, z6) ≤ 10000000) :
  Calls Tryz.prog 87 #[.agg #[.slice A fs.length c, .slice B m d], .agg #[.string z0, .slice A1 x1.length c1, .slice A2 x2.length c2, .slice A3 x3.length c3, .bool z4, .slice A5 x5.length c5, .string z6]] w fun e w' => e = .returned (.bool (ruleV fs (z0, x1, x2, x3, z4, x5, z6))) ∧ Below w.heap.size w w' := by
 have b0 : Below w.heap.size w ((w.alloc (Obj.cells #[Value.slice A fs.length c, Value.slice B m d] 27)).alloc (Obj.cells #[Value.string z0, Value.slice A1 x1.length c1, Value.slice A2 x2.length c2, Value.slice A3 x3.length c3, Value.bool z4, Value.slice A5 x5.length c5, Value.string z6] 48)) := ((Below.refl _ _).alloc (Nat.le_refl _) _).alloc (by simp) _
 have B0 := Lib.hid b0
 have P0 := Lib.hid ((Lvar.new w #[Value.slice A fs.length c, Value.slice B m d] 27).alloc (Obj.cells #[Value.string z0, Value.slice A1 x1.length c1, Value.slice A2 x2.length c2, Value.slice A3 x3.length c3, Value.bool z4, Value.slice A5 x5.length c5, Value.string z6] 48))
 have V0 := Lvar.new (w.alloc (Obj.cells #[Value.slice A fs.length c, Value.slice B m d] 27)) #[Value.string z0, Value.slice A1 x1.length c1, Value.slice A2 x2.length c2, Value.slice A3 x3.length c3, Value.bool z4, Value.slice A5 x5.length c5, Value.string z6] 48
 simp only [World.size_alloc] at V0
 have V0 := Lib.hid V0
 have FF := Lib.hid (find A B m c d fs z0 _ (hA.below b0) (by omega))
 have HA := Lib.hid hA
 have HLF := Lib.hid hl
 have H1 := Lib.hid h1
 have H2 := Lib.hid h2
 have H3 := Lib.hid h3
 have H5 := Lib.hid h5
 simp only [szRuleU, szArgU] at hr
 have HRS := Lib.hid hr
 have hxl : x1.length ≤ 10000000 ∧ x2.length ≤ 10000000 ∧ x3.length ≤ 10000000 := by omega
 have HFS := Lib.hid (find_small (nm := z0) hl)
 have HO := Lib.hid (show ruleV fs (z0, x1, x2, x3, z4, x5, z6) = ((findF fs z0).isSome && ruleF fs ((findF fs z0).getD zeroF) (z0, x1, x2, x3, z4, x5, z6)) from rfl)
 generalize ruleV fs (z0, x1, x2, x3, z4, x5, z6) = R at *
 clear hA h1 h2 h3 h5 b0 hl hr
 go_enter Tryz.func87, Tryz.ntmps87
 go_wp2_with fail
 refine (Calls.mono FF.out) ?_
 rintro e w1 ⟨D1, d1, D3, d3, rfl, o1, b1⟩
 have B1 := Lib.hid (below_step B0.out b1)
 have V1 := Lib.hid (V0.out.below b1)
 have P1 := Lib.hid (P0.out.below b1)
 have O1 := Lib.hid o1
 have hz := b1.size
 simp only [World.size_alloc] at hz
 clear o1 b1
 cases hF : findF fs z0 with
 | none =>
  have HR := Lib.hid (show R = false by rw [HO.out, hF]; rfl)
  have FIN := Lib.hid (B1.out.alloc B1.out.size (Obj.cells #[Value.string ByteArray.empty, Value.slice D1 0 d1, Value.bool false, Value.slice D3 0 d3] 98))
  simp only [Option.getD_none, Option.isSome_none, zeroF, List.length_nil]
  clear hF HO
  go_wp2
  go_ret
  exact ⟨ArgI.ret_b HR.out.symm, FIN.out⟩
 | some f =>
  rw [hF] at HO HFS
  obtain ⟨fz0, fx1, fz2, fx3⟩ := f
  have O2 := O1.out
  rw [hF] at O2
  have O2 := Lib.hid (OwnR.arg (show OwnR fn _ w1.heap.size w1 [.string fz0, .slice D1 fx1.length d1, .bool fz2, .slice D3 fx3.length d3] (fz0, fx1, fz2, fx3) from O2))
  have hfz : szFunctionU (fz0, fx1, fz2, fx3) ≤ 10000000 := HFS.out
  simp only [szFunctionU] at hfz
  have hfx : fx1.length ≤ 10000000 := by omega
  have hnl := nmP_len x1
  have HO := Lib.hid (show R = (patsV fx1 x1 && (decide (x2.length ≤ 2) && (decide (x3.length ≤ 2) && (guardsV x2 (fx1 ++ nmP x1) && restV fs fz2 (z4, x5, z6) (fx1 ++ nmP x1) x3)))) by rw [HO.out]; rfl)
  simp only [Option.getD_some, Option.isSome_some]
  clear hF O1 HFS hfz
  have V2 := Lib.hid (V1.out.alloc (Obj.cells #[Value.string fz0, Value.slice D1 fx1.length d1, Value.bool fz2, Value.slice D3 fx3.length d3] 98))
  have P2 := Lib.hid (P1.out.alloc (Obj.cells #[Value.string fz0, Value.slice D1 fx1.length d1, Value.bool fz2, Value.slice D3 fx3.length d3] 98))
  have L2 := Lib.hid (Lvar.new w1 #[Value.string fz0, Value.slice D1 fx1.length d1, Value.bool fz2, Value.slice D3 fx3.length d3] 98)
  have B2 := Lib.hid (B1.out.alloc B1.out.size (Obj.cells #[Value.string fz0, Value.slice D1 fx1.length d1, Value.bool fz2, Value.slice D3 fx3.length d3] 98))
  have O3 := Lib.hid ((arg_fn O2.out).1.below ((Below.refl w1.heap.size w1).alloc (Nat.le_refl _) (Obj.cells #[Value.string fz0, Value.slice D1 fx1.length d1, Value.bool fz2, Value.slice D3 fx3.length d3] 98)))
  have hzw : w1.heap.size + 1 ≤ (w1.alloc (Obj.cells #[Value.string fz0, Value.slice D1 fx1.length d1, Value.bool fz2, Value.slice D3 fx3.length d3] 98)).heap.size := by simp
  clear O2 V1 V0 P1 P0 FF
  go_upto_region 2 with fail
  generalize w1.alloc (Obj.cells #[Value.string fz0, Value.slice D1 fx1.length d1, Value.bool fz2, Value.slice D3 fx3.length d3] 98) = w2 at *
  have EP := Lib.hid (arePatterns fz0 D1 d1 fx1 fz2 D3 d3 fx3 A1 c1 x1 w2 O3.out (H1.out.below B2.out) hfx (by have := HRS.out; omega))
  have v1 : w2.cell? ⟨w.heap.size + 1, 1, none⟩ = some (.slice A1 x1.length c1) := V2.out.cell 1 _ rfl
  have l0 : w2.cell? ⟨w1.heap.size, 0, none⟩ = some (.string fz0) := L2.out.cell 0 _ rfl
  have l1 : w2.cell? ⟨w1.heap.size, 1, none⟩ = some (.slice D1 fx1.length d1) := L2.out.cell 1 _ rfl
  have l2 : w2.cell? ⟨w1.heap.size, 2, none⟩ = some (.bool fz2) := L2.out.cell 2 _ rfl
  have l3 : w2.cell? ⟨w1.heap.size, 3, none⟩ = some (.slice D3 fx3.length d3) := L2.out.cell 3 _ rfl
  generalize patsV fx1 x1 = tp at *
  cases tp with
  | false =>
   have HF := Lib.hid (show R = false by rw [HO.out]; rfl)
   go_wp2_with fail
   refine (Calls.mono EP.out) ?_
   rintro e w3 ⟨rfl, b3⟩
   have B3 := Lib.hid (below_step B2.out b3)
   clear b3
   go_wp2
   go_ret
   exact ⟨ArgI.ret_b HF.out.symm, B3.out⟩
  | true =>
   go_wp2_with fail
   refine (Calls.mono EP.out) ?_
   rintro e w3 ⟨rfl, b3⟩
   have B3 := Lib.hid (below_step B2.out b3)
   have V3 := Lib.hid (V2.out.below b3)
   have P3 := Lib.hid (P2.out.below b3)
   have L3 := Lib.hid (L2.out.below b3)
   have O4 := Lib.hid (O3.out.below b3)
   have v31 : w3.cell? ⟨w.heap.size + 1, 1, none⟩ = some (.slice A1 x1.length c1) := V3.out.cell 1 _ rfl
   have v32 : w3.cell? ⟨w.heap.size + 1, 2, none⟩ = some (.slice A2 x2.length c2) := V3.out.cell 2 _ rfl
   have v33 : w3.cell? ⟨w.heap.size + 1, 3, none⟩ = some (.slice A3 x3.length c3) := V3.out.cell 3 _ rfl
   have l30 : w3.cell? ⟨w1.heap.size, 0, none⟩ = some (.string fz0) := L3.out.cell 0 _ rfl
   have l31 : w3.cell? ⟨w1.heap.size, 1, none⟩ = some (.slice D1 fx1.length d1) := L3.out.cell 1 _ rfl
   have l32 : w3.cell? ⟨w1.heap.size, 2, none⟩ = some (.bool fz2) := L3.out.cell 2 _ rfl
   have l33 : w3.cell? ⟨w1.heap.size, 3, none⟩ = some (.slice D3 fx3.length d3) := L3.out.cell 3 _ rfl
   clear b3 V2 P2 L2 O3 B2 v1 l0 l1 l2 l3
   by_cases n2 : x2.length ≤ 2
   ·have hq2 : decide ((x2.length : Int) > 2) = false := decide_eq_false (by omega)
    by_cases n3 : x3.length ≤ 2
    ·have hq3 : decide ((x3.length : Int) > 2) = false := decide_eq_false (by omega)
     have HO := Lib.hid (show R = (guardsV x2 (fx1 ++ nmP x1) && restV fs fz2 (z4, x5, z6) (fx1 ++ nmP x1) x3) by rw [HO.out, decide_eq_true n2, decide_eq_true n3]; rfl)
     have OP := Lib.hid (opening fz0 D1 d1 fx1 fz2 D3 d3 fx3 A1 c1 x1 w3 O4.out (H1.out.below B3.out) (by omega) (by omega))
     have hscl : (fx1 ++ nmP x1).length ≤ 30000000 := by rw [List.length_append]; omega
     generalize fx1 ++ nmP x1 = sc at *
     go_wp2_with fail
     refine (Calls.mono OP.out) ?_
     rintro e w4 ⟨sv, rfl, hS, b4⟩
     have B4 := Lib.hid (below_step B3.out b4)
     have V4 := Lib.hid (V3.out.below b4)
     have P4 := Lib.hid (P3.out.below b4)
     have L4 := Lib.hid (L3.out.below b4)
     have HS := Lib.hid hS
     have v42 : w4.cell? ⟨w.heap.size + 1, 2, none⟩ = some (.slice A2 x2.length c2) := V4.out.cell 2 _ rfl
     clear b4 V3 P3 L3 O4 B3 v31 v32 v33 l30 l31 l32 l33 hS OP EP
     go_wp2
     go_loopw [47] (fun i wr => ∃ k : Nat, k ≤ x2.length ∧ i = .int .i64 k ∧ Hid ((guardsV (x2.drop k) sc && restV fs fz2 (z4, x5, z6) sc x3) = R) ∧ Below w4.heap.size w4 wr) (fun i _ => x2.length - (intOf i).toNat)
     case atStart => exact ⟨0, Nat.zero_le _, rfl, Lib.hid HO.out.symm, Below.refl _ _⟩
     case round =>
      clear v42
      obtain ⟨k, hk, rfl, hall, hb⟩ := hrel
      have HAL := Lib.hid hall.out
      have HB := Lib.hid hb
      clear hall hb
      have BW := Lib.hid (below_step B4.out HB.out)
      by_cases hlt : k < x2.length
      ·obtain ⟨b1, o1, G1, e1, rfl, hbb1, g0, g1, r1⟩ := (H2.out.below BW.out).sum_at hlt
       have hsz : szSum x2[k] ≤ 9000000 + 1000000 := by
        have := HRS.out
        have := szs_mem (sz := szSum) (List.getElem_mem hlt)
        omega
       have hszz : 1 + szSum x2[k] ≤ 10000000 := by
        have := HRS.out
        have := szs_mem (sz := szSum) (List.getElem_mem hlt)
        omega
       have HST := Lib.hid (guardsV_step (sc := sc) hlt)
       generalize x2[k] = x at *
       obtain ⟨y, ys⟩ := x
       simp only at g0 g1 r1
       have hi0 : (0 : Int) ≤ (k : Int) := by omega
       have hi1 : (k : Int) < (x2.length : Int) := by omega
       have hd : Below wr.heap.size wr ((wr.alloc (Obj.cells #[Value.int .i64 y, Value.slice G1 ys.length e1] 101)).alloc (Obj.cells #[Value.int .i64 y, Value.slice G1 ys.length e1] 101)) := ((Below.refl _ _).alloc (Nat.le_refl _) _).alloc (by simp) _
       have GL := Lvar.new (wr.alloc (Obj.cells #[Value.int .i64 y, Value.slice G1 ys.length e1] 101)) #[Value.int .i64 y, Value.slice G1 ys.length e1] 101
       simp only [World.size_alloc] at GL
       have hone : ArgS Mem.sum ((wr.alloc (Obj.cells #[Value.int .i64 y, Value.slice G1 ys.length e1] 101)).alloc (Obj.cells #[Value.int .i64 y, Value.slice G1 ys.length e1] 101)) (some ⟨wr.heap.size + 1, 0, none⟩) 1 1 [(y, ys)] := by
        obtain ⟨q9, f9, r9⟩ := r1.below hd
        refine ArgS_one (cs := [.int .i64 y, .slice G1 ys.length e1]) GL.lt (f := f9) (Mem.sum_close (show Mem.terms.rep q9 _ f9 _ _ from r9)) (fun i hi => ?_) (Nat.le_refl _)
        have hn : Mem.sum.n = 2 := rfl
        rw [hn] at hi
        match i, hi with
        | 0, _ => exact GL.cell 0 _ rfl
        | 1, _ => exact GL.cell 1 _ rfl
       have EA := visible false (some ⟨wr.heap.size + 1, 0, none⟩) 1 [(y, ys)] ⟨#[]⟩ false sv sc _ hone (by simp only [szArgU, szs_one, List.length_singleton]; show 1 + szSum (y, ys) + 0 ≤ 10000000; omega) (HS.out.below (below_step HB.out hd)) (by omega)
       simp only [List.length_singleton] at EA
       have EA := Lib.hid EA
       have HD := Lib.hid hd
       clear hone GL hsz hszz r1 hd
       generalize argIn (false, [(y, ys)], ⟨#[]⟩) false sc = ta at *
       cases ta with
       | false =>
        have HF := Lib.hid (show R = false by rw [← HAL.out, HST.out]; rfl)
        go_wp2_with fail
        refine (Calls.mono EA.out) ?_
        rintro e w6 ⟨rfl, b6⟩
        have B6 := Lib.hid (below_step BW.out (below_step HD.out b6))
        clear b6
        go_wp2
        go_ret
        exact ⟨ArgI.ret_b HF.out.symm, B6.out⟩
       | true =>
        have HF := Lib.hid (show (guardsV (x2.drop (k + 1)) sc && restV fs fz2 (z4, x5, z6) sc x3) = R by rw [← HAL.out, HST.out]; rfl)
        go_wp2_with fail
        refine (Calls.mono EA.out) ?_
        rintro e w6 ⟨rfl, b6⟩
        have B6 := Lib.hid (below_step HB.out (below_step HD.out b6))
        clear b6
        go_wp2
        go_roundw
        case rel => exact ⟨k + 1, by omega, by go_num, HF, B6.out⟩
        case measure => simp [intOf]; omega
      ·obtain rfl : k = x2.length := by omega
       have HO := Lib.hid (show R = restV fs fz2 (z4, x5, z6) sc x3 by rw [← HAL.out, List.drop_length]; rfl)
       have v53 : wr.cell? ⟨w.heap.size + 1, 3, none⟩ = some (.slice A3 x3.length c3) := (V4.out.below HB.out).cell 3 _ rfl
       have HS5 := Lib.hid (HS.out.below HB.out)
       have HB5 := Lib.hid HB.out
       clear HAL
       go_wp2
       go_loopw [7, 61] (fun s i wr => ∃ (k : Nat) (sck : List ByteArray) (sw : Value), k ≤ x3.length ∧ i = .int .i64 k ∧ sw = s ∧ Hid (restV fs fz2 (z4, x5, z6) sck (x3.drop k) = R) ∧ Hid (sck.length ≤ 30000000 + k) ∧ Hid (Scoped wr sw sck) ∧ Below w4.heap.size w4 wr) (fun _ i _ => x3.length - (intOf i).toNat)
       case atStart => exact ⟨0, sc, _, Nat.zero_le _, rfl, rfl, Lib.hid HO.out.symm, Lib.hid hscl, HS5, HB5.out⟩
       case round =>
        clear v53 HS5 HB5 HB BW HS
        obtain ⟨k, sck, s, hk, rfl, rfl, hall, hlen, HS, hb⟩ := hrel
        have HAL := Lib.hid hall.out
        have HB := Lib.hid hb
        have hskl : sck.length ≤ 30000002 := by have := hlen.out; omega
        clear hall hb
        have BW := Lib.hid (below_step B4.out HB.out)
        have VW := Lib.hid (V4.out.below HB.out)
        have PW := Lib.hid (P4.out.below HB.out)
        have LW := Lib.hid (L4.out.below HB.out)
        by_cases hlt : k < x3.length
        ·obtain ⟨b1, o1, G1, e1, rfl, hbb1, g0, g1, g2, r1⟩ := (H3.out.below BW.out).call_at hlt
         have hsz : szCallU x3[k] ≤ 10000000 := by
          have := HRS.out
          have := szs_mem (sz := szCallU) (List.getElem_mem hlt)
          omega
         have HST := Lib.hid (restV_step (fs := fs) (l := fz2) (res := (z4, x5, z6)) (sc := sck) hlt)
         generalize x3[k] = x at *
         obtain ⟨y0, y1, ya⟩ := x
         simp only at g0 g1 g2 r1
         have hi0 : (0 : Int) ≤ (k : Int) := by omega
         have hi1 : (k : Int) < (x3.length : Int) := by omega
         have hd : Below wr.heap.size wr (wr.alloc (Obj.cells #[Value.string y0, Value.string y1, Value.slice G1 ya.length e1] 112)) := (Below.refl _ _).alloc (Nat.le_refl _) _
         have XV := Lib.hid (Lvar.new wr #[Value.string y0, Value.string y1, Value.slice G1 ya.length e1] 112)
         have HD := Lib.hid hd
         have CV := Lib.hid (validCall A B m c d fs y0 y1 G1 e1 ya s sck _ ((HA.out.below BW.out).below hd) HLF.out (r1.below hd) hsz (HS.out.below hd) (by omega))
         have hpw := PW.out.lt
         have hvw := VW.out.lt
         have p0 : wr.cell? ⟨w.heap.size, 0, none⟩ = some (.slice A fs.length c) := PW.out.cell 0 _ rfl
         have p1 : wr.cell? ⟨w.heap.size, 1, none⟩ = some (.slice B m d) := PW.out.cell 1 _ rfl
         clear r1 hsz hd
         generalize callV fs (y0, y1, ya) sck = ta at *
         cases ta with
         | false =>
          have HF := Lib.hid (show R = false by rw [← HAL.out, HST.out]; rfl)
          go_wp2_with fail
          refine (Calls.mono CV.out) ?_
          rintro e w6 ⟨rfl, b6⟩
          have B6 := Lib.hid (below_step BW.out (below_step HD.out b6))
          clear b6
          go_wp2
          go_ret
          exact ⟨ArgI.ret_b HF.out.symm, B6.out⟩
         | true =>
          have HF := Lib.hid (show restV fs fz2 (z4, x5, z6) (sck ++ [y0]) (x3.drop (k + 1)) = R by rw [← HAL.out, HST.out]; rfl)
          go_wp2_with fail
          refine (Calls.mono CV.out) ?_
          rintro e w6 ⟨rfl, b6⟩
          have D6 := Lib.hid (below_step HD.out b6)
          have x60 : w6.cell? ⟨wr.heap.size, 0, none⟩ = some (.string y0) := (XV.out.below b6).cell 0 _ rfl
          have hd7 : Below w6.heap.size w6 (w6.alloc (Obj.cells #[Value.string y0] 9)) := (Below.refl _ _).alloc (Nat.le_refl _) _
          have YL := Lvar.new w6 #[Value.string y0] 9
          have WN := withNames s (some ⟨w6.heap.size, 0, none⟩) 1 sck [y0] _ ((HS.out.below D6.out).below hd7) (ArgS_one (cs := [.string y0]) (f := []) (q := false) YL.lt ⟨rfl, rfl⟩ (fun i hi => by
           have hn : Rep.str.n = 1 := rfl
           rw [hn] at hi
           obtain rfl : i = 0 := by omega
           exact YL.cell 0 _ rfl) (Nat.le_refl _)) (by simp; omega)
          simp only [List.length_singleton] at WN
          have WN := Lib.hid WN
          have HD7 := Lib.hid hd7
          clear b6 hd7 YL
          go_wp2_with fail
          refine (Calls.mono WN.out) ?_
          rintro e w7 ⟨v7, rfl, hS7, b7⟩
          have HS7 := Lib.hid hS7
          have B7 := Lib.hid (below_step HB.out (below_step D6.out (below_step HD7.out b7)))
          have hlen7 := Lib.hid (show (sck ++ [y0]).length ≤ 30000000 + (k + 1) by rw [List.length_append]; have := hlen.out; simp; omega)
          clear b7 hS7
          go_wp2
          go_roundw
          case rel => exact ⟨k + 1, sck ++ [y0], _, by omega, by go_num, rfl, HF, hlen7, HS7, B7.out⟩
          case measure => simp [intOf]; omega
        ·obtain rfl : k = x3.length := by omega
         have HO := Lib.hid (show R = (argIn (z4, x5, z6) fz2 sck && NameS.dist sck) by rw [← HAL.out, List.drop_length]; rfl)
         have EA := Lib.hid (visible z4 A5 c5 x5 z6 fz2 s sck wr (H5.out.below BW.out) (by have := HRS.out; simp only [szArgU]; omega) HS.out (by omega))
         have v3 : wr.cell? ⟨w.heap.size + 1, 3, none⟩ = some (.slice A3 x3.length c3) := VW.out.cell 3 _ rfl
         have v4 : wr.cell? ⟨w.heap.size + 1, 4, none⟩ = some (.bool z4) := VW.out.cell 4 _ rfl
         have v5 : wr.cell? ⟨w.heap.size + 1, 5, none⟩ = some (.slice A5 x5.length c5) := VW.out.cell 5 _ rfl
         have v6 : wr.cell? ⟨w.heap.size + 1, 6, none⟩ = some (.string z6) := VW.out.cell 6 _ rfl
         have l2 : wr.cell? ⟨w1.heap.size, 2, none⟩ = some (.bool fz2) := LW.out.cell 2 _ rfl
         generalize argIn (z4, x5, z6) fz2 sck = ta at *
         have HS9 := HS.out
         obtain ⟨F, lb, rfl, eg, hcall⟩ := HS9
         have HCL := Lib.hid hcall
         clear HAL hcall
         cases ta with
         | false =>
          have HF := Lib.hid (show R = false by rw [HO.out]; rfl)
          go_wp2_with fail
          refine (Calls.mono EA.out) ?_
          rintro e w6 ⟨rfl, b6⟩
          have B6 := Lib.hid (below_step BW.out b6)
          clear b6
          go_wp2
          go_ret
          exact ⟨ArgI.ret_b HF.out.symm, B6.out⟩
         | true =>
          have HF := Lib.hid (show R = NameS.dist sck by rw [HO.out]; rfl)
          go_wp2_with fail
          refine (Calls.mono EA.out) ?_
          rintro e w6 ⟨rfl, b6⟩
          have HC6 := Lib.hid (HCL.out w6 b6)
          have B6 := Lib.hid (below_step BW.out b6)
          clear b6
          go_wp2_with (go_at_fn F; refine (Calls.mono HC6.out) ?_; rintro e w7 ⟨v7, rfl, ho7, b7⟩)
          obtain ⟨N, cn, hv, oN, _⟩ := gave_own ho7 b7
          injection hv with hv
          subst hv
          have DI := Lib.hid (NameS.implDistinct N cn sck w7 (own_SR oN).1 (by omega))
          have B7 := Lib.hid (below_step B6.out b7)
          clear ho7 b7 oN
          go_wp2_with fail
          refine (Calls.mono DI.out) ?_
          rintro e w8 ⟨rfl, b8⟩
          have B8 := Lib.hid (below_step B7.out b8)
          clear b8
          go_wp2
          go_ret
          exact ⟨ArgI.ret_b HF.out.symm, B8.out⟩
    ·have hq3 : decide ((x3.length : Int) > 2) = true := decide_eq_true (by omega)
     have HF := Lib.hid (show R = false by rw [HO.out, decide_eq_false n3]; simp)
     go_wp2
     go_ret
     exact ⟨ArgI.ret_b HF.out.symm, B3.out⟩
   ·have hq2 : decide ((x2.length : Int) > 2) = true := decide_eq_true (by omega)
    have HF := Lib.hid (show R = false by rw [HO.out, decide_eq_false n2]; simp)
    go_wp2
    go_ret
    exact ⟨ArgI.ret_b HF.out.symm, B3.out⟩
end ProgI
end Go.Proofs.YtbbllkhmenpnlaaGreat
