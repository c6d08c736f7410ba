import Derived.Test.YtbbllkhmenpnlaaGreatReachOf
import Derived.Test.YtbbllkhmenpnlaaGreatCompI
import Derived.Test.YtbbllkhmenpnlaaGreatInnerS
/-
  IsRecursive, as mathematics (made by tools/s13c.py).
-/
namespace Go.Proofs.YtbbllkhmenpnlaaGreat
open Go.RowKit
def oRecIO11 : Oper := { dst := some 4, op := Op.assign (Operand.tmp 15), type := 4, pos := "l13_graph.go:144", after := #[{ on := 10, ground := Ground.data }, { on := 7, ground := Ground.chain }, { on := 0, ground := Ground.phase }, { on := 1, ground := Ground.phase }, { on := 2, ground := Ground.phase }, { on := 3, ground := Ground.phase }, { on := 4, ground := Ground.phase }, { on := 5, ground := Ground.phase }, { on := 6, ground := Ground.phase }, { on := 7, ground := Ground.phase }, { on := 8, ground := Ground.phase }, { on := 9, ground := Ground.phase }, { on := 10, ground := Ground.phase }], guard := none }
def oRecIO10 : Oper := { dst := some 15, op := Op.pick (Operand.tmp 7) (Operand.tmp 14) (Operand.const (Value.bool false)), type := 4, pos := "l13_graph.go:144", after := #[{ on := 2, ground := Ground.data }, { on := 9, ground := Ground.data }], guard := none }
def oRecIO9 : Oper := { dst := some 14, op := Op.binOp BinOp.gtr 3 (Operand.tmp 13) (Operand.const (Value.int IntKind.i64 0)) 3, type := 4, pos := "l13_graph.go:144", after := #[{ on := 8, ground := Ground.data }, { on := 2, ground := Ground.guard }], guard := some (2, true) }
def oRecIO8 : Oper := { dst := some 13, op := Op.call { callee := Callee.builtin Builtin.len, args := #[Operand.tmp 12], argTypes := #[37] }, type := 3, pos := "l13_graph.go:144", after := #[{ on := 7, ground := Ground.data }, { on := 2, ground := Ground.guard }], guard := some (2, true) }
def oRecIO7 : Oper := { dst := some 12, op := Op.call { callee := Callee.value (Operand.func 19), args := #[Operand.tmp 8, Operand.tmp 11], argTypes := #[27, 31] }, type := 37, pos := "l13_graph.go:144", after := #[{ on := 3, ground := Ground.data }, { on := 6, ground := Ground.data }, { on := 6, ground := Ground.chain }, { on := 2, ground := Ground.guard }], guard := some (2, true) }
def oRecIO6 : Oper := { dst := some 11, op := Op.call { callee := Callee.value (Operand.func 54), args := #[Operand.tmp 9, Operand.tmp 10], argTypes := #[27, 9] }, type := 31, pos := "l13_graph.go:144", after := #[{ on := 4, ground := Ground.data }, { on := 5, ground := Ground.data }, { on := 2, ground := Ground.chain }, { on := 2, ground := Ground.guard }], guard := some (2, true) }
def oRecIO5 : Oper := { dst := some 10, op := Op.move (Operand.tmp 1), type := 9, pos := "l13_graph.go:144", after := #[{ on := 2, ground := Ground.guard }], guard := some (2, true) }
def oRecIO4 : Oper := { dst := some 9, op := Op.load 27 (Operand.tmp 2), type := 27, pos := "l13_graph.go:144", after := #[{ on := 2, ground := Ground.guard }], guard := some (2, true) }
def oRecIO3 : Oper := { dst := some 8, op := Op.load 27 (Operand.tmp 2), type := 27, pos := "l13_graph.go:144", after := #[{ on := 2, ground := Ground.guard }], guard := some (2, true) }
def oRecIO2 : Oper := { dst := some 7, op := Op.move (Operand.tmp 6), type := 4, pos := "l13_graph.go:144", after := #[{ on := 1, ground := Ground.data }, { on := 1, ground := Ground.chain }], guard := none }
def oRecIO1 : Oper := { dst := some 6, op := Op.call { callee := Callee.value (Operand.func 46), args := #[Operand.tmp 5], argTypes := #[27] }, type := 4, pos := "l13_graph.go:144", after := #[{ on := 0, ground := Ground.data }], guard := none }
def oRecIO0 : Oper := { dst := some 5, op := Op.load 27 (Operand.tmp 2), type := 27, pos := "l13_graph.go:144", after := #[], guard := none }
namespace GraphM
open RowK Mem ProgM
noncomputable def recB (fs : List FunctionT) (rs : List RuleT) (nm : ByteArray) : Bool := progV fs rs && decide (0 < ((edgesA rs).filter (innerP rs (compL (names fs) (arrows rs) nm))).length)
theorem recB_model (fs : List FunctionT) (rs : List RuleT) (nm : ByteArray) : recB fs rs nm = decide (((@ite _ (progV fs rs = true) _ ((edgesA rs).filter (innerP rs (@ite _ (progV fs rs = true) _ (compL (names fs) (arrows rs) nm) []))) []).length : Int) > 0) := by
 unfold recB
 cases progV fs rs with
 | false => simp
 | true =>
  simp only [if_true, Bool.true_and]
  rw [Bool.eq_iff_iff]
  simp only [decide_eq_true_iff]
  omega
theorem comp_len (q : Bool) {fs : List FunctionT} {rs : List RuleT} (nm : ByteArray) (h : fs.length ≤ 9000000) : (@ite _ (q = true) _ (compL (names fs) (arrows rs) nm) []).length ≤ 1000000000 := by
 split
 ·have h1 := compL_len (ns := names fs) (G := arrows rs) (a := nm)
  unfold names at h1 ⊢
  rw [List.length_map] at h1
  omega
 ·exact Nat.zero_le _
end GraphM
end Go.Proofs.YtbbllkhmenpnlaaGreat

/-
  IsRecursive of the program (made by tools/s13c.py).
-/
namespace Go.Proofs.YtbbllkhmenpnlaaGreat
open Go.RowKit
namespace GraphI
open RowK Mem GraphM ProgM MapK
set_option maxHeartbeats 4000000 in
set_option maxRecDepth 100000 in
theorem isRecursive (A B : Option Addr) (c d : Nat) (fs : List FunctionT) (rs : List RuleT) (nm : ByteArray) (w : World) (hA : ArgS Mem.fn w A fs.length c fs) (hB : ArgS rule w B rs.length d rs) (hl : szProgramU (fs, rs) ≤ 9000000) (hn : nm.size ≤ maxLen) :
  Calls Tryz.prog 18 #[.agg #[.slice A fs.length c, .slice B rs.length d], .string nm] w fun e w' => e = .returned (.bool (recB fs rs nm)) ∧ Below w.heap.size w w' := by
 have b0 : Below w.heap.size w (w.alloc (Obj.cells #[Value.slice A fs.length c, Value.slice B rs.length d] 27)) := (Below.refl _ _).alloc (Nat.le_refl _) _
 have V0 := Lvar.new w #[Value.slice A fs.length c, Value.slice B rs.length d] 27
 have hfs : fs.length ≤ 9000000 := by simp only [szProgramU] at hl; omega
 have KS := Lib.hid (fun (W : World) (h : Below (w.alloc (Obj.cells #[Value.slice A fs.length c, Value.slice B rs.length d] 27)).heap.size (w.alloc (Obj.cells #[Value.slice A fs.length c, Value.slice B rs.length d] 27)) W) => (⟨(V0.below h).cell 0 _ rfl, (V0.below h).cell 1 _ rfl⟩ : W.cell? ⟨w.heap.size, 0, none⟩ = some (Value.slice A fs.length c) ∧ W.cell? ⟨w.heap.size, 1, none⟩ = some (Value.slice B rs.length d)))
 have D0 := Lib.hid (Below.refl (w.alloc (Obj.cells #[Value.slice A fs.length c, Value.slice B rs.length d] 27)).heap.size (w.alloc (Obj.cells #[Value.slice A fs.length c, Value.slice B rs.length d] 27))).drew
 have D0r := Lib.hid (Below.refl (w.alloc (Obj.cells #[Value.slice A fs.length c, Value.slice B rs.length d] 27)).heap.size (w.alloc (Obj.cells #[Value.slice A fs.length c, Value.slice B rs.length d] 27)))
 have B0 := Lib.hid b0
 have PV := Lib.hid (fun (W : World) (h : Below (w.alloc (Obj.cells #[Value.slice A fs.length c, Value.slice B rs.length d] 27)).heap.size (w.alloc (Obj.cells #[Value.slice A fs.length c, Value.slice B rs.length d] 27)) W) => ProgI.validProg A B c d fs rs W (hA.below (below_step b0 h)) (hB.below (below_step b0 h)) hl)
 have hcl : (compL (names fs) (arrows rs) nm).length ≤ 1000000000 := by
  have h1 := comp_len true (rs := rs) nm hfs
  simpa using h1
 have HO := Lib.hid (show recB fs rs nm = (progV fs rs && decide (0 < ((edgesA rs).filter (innerP rs (compL (names fs) (arrows rs) nm))).length)) from rfl)
 cases hv : progV fs rs with
 | false =>
  rw [hv] at PV HO
  have HF := Lib.hid (show recB fs rs nm = false by rw [HO.out]; rfl)
  generalize recB fs rs nm = R at *
  clear hv hA hB hl hfs b0 V0 HO hcl
  go_enter Tryz.func18, Tryz.ntmps18
  go_wp2_with fail
  refine wp_region_held_drew (S := (fun W => W.cell? ⟨w.heap.size, 0, none⟩ = some (Value.slice A fs.length c) ∧ W.cell? ⟨w.heap.size, 1, none⟩ = some (Value.slice B rs.length d))) (by kernel_rfl) ?_ (fun hHeld => ?_)
  ·(try dsimp only); first | exact KS.out _ D0.out | exact KS.out _ D0r.out
  refine tkW 0 oRecIO0 ?v8_0 ?hy8_0 ?r8_0
  case hy8_0 => (intro w hSw; (try dsimp only at hSw); (try unfold oRecIO0); go_simp; try (with_reducible rfl))
  (try simp only [oRecIO0, Act.put, zA, zB, zC])
  refine wpAnyH_ready (rs := [1]) (by kernel_rfl) (by simp) ?_
  refine AllReadyH.cons (o := oRecIO1) rfl (fun K hK => ?_) AllReadyH.nil
  ((try unfold oRecIO1); go_simp)
  go_at_call 46; (with_reducible refine (Calls.mono (PV.out _ D0.out)) ?_); rintro e w1 ⟨rfl, b1⟩; (have D1 := Lib.hid (below_step D0.out b1)); clear b1
  refine hK.out _ _ ?_ (fun hHeld2 => ?_)
  ·(try dsimp only); exact KS.out _ D1.out
  clear hK K
  (try simp only [oRecIO1, Act.put, zA, zB, zC])
  refine tkW 2 oRecIO2 ?v8_2 ?hy8_2 ?r8_2
  case hy8_2 => (intro w hSw; (try dsimp only at hSw); (try unfold oRecIO2); go_simp; try (with_reducible rfl))
  (try simp only [oRecIO2, Act.put, zA, zB, zC])
  refine tkU 3 oRecIO3 ?_
  (try simp only [oRecIO3, Act.put, zA, zB, zC])
  refine tkU 4 oRecIO4 ?_
  (try simp only [oRecIO4, Act.put, zA, zB, zC])
  refine tkU 5 oRecIO5 ?_
  (try simp only [oRecIO5, Act.put, zA, zB, zC])
  refine tkU 6 oRecIO6 ?_
  (try simp only [oRecIO6, Act.put, zA, zB, zC])
  refine tkU 7 oRecIO7 ?_
  (try simp only [oRecIO7, Act.put, zA, zB, zC])
  refine tkU 8 oRecIO8 ?_
  (try simp only [oRecIO8, Act.put, zA, zB, zC])
  refine tkU 9 oRecIO9 ?_
  (try simp only [oRecIO9, Act.put, zA, zB, zC])
  refine tkW 10 oRecIO10 ?v8_10 ?hy8_10 ?r8_10
  case hy8_10 => (intro w hSw; (try dsimp only at hSw); (try unfold oRecIO10); go_simp; try (with_reducible rfl))
  (try simp only [oRecIO10, Act.put, zA, zB, zC])
  refine tkW 11 oRecIO11 ?v8_11 ?hy8_11 ?r8_11
  case hy8_11 => (intro w hSw; (try dsimp only at hSw); (try unfold oRecIO11); go_simp; try (with_reducible rfl))
  (try simp only [oRecIO11, Act.put, zA, zB, zC])
  refine wpAnyH_done (by kernel_rfl) ?_ _
  go_wp2
  go_ret
  exact ⟨by rw [HF.out]; rfl, by first | exact below_step B0.out D1.out | exact below_step B0.out D1.out.drew⟩
 | true =>
  have CO := Lib.hid (fun (W : World) (h : Below (w.alloc (Obj.cells #[Value.slice A fs.length c, Value.slice B rs.length d] 27)).heap.size (w.alloc (Obj.cells #[Value.slice A fs.length c, Value.slice B rs.length d] 27)) W) => componentOf A B c d fs rs nm W (hA.below (below_step b0 h)) (hB.below (below_step b0 h)) hl hv hn)
  have IE := Lib.hid (fun (L : Option Addr) (lc : Nat) (W : World) (h : Below (w.alloc (Obj.cells #[Value.slice A fs.length c, Value.slice B rs.length d] 27)).heap.size (w.alloc (Obj.cells #[Value.slice A fs.length c, Value.slice B rs.length d] 27)) W) (hL : ArgS Rep.str W L (compL (names fs) (arrows rs) nm).length lc (compL (names fs) (arrows rs) nm)) => innerEdges A B L c d lc fs rs _ W (hA.below (below_step b0 h)) (hB.below (below_step b0 h)) hL hl hcl)
  rw [hv] at PV HO IE
  simp only [if_true] at IE
  generalize compL (names fs) (arrows rs) nm = T at *
  generalize (edgesA rs).filter (innerP rs T) = U at *
  have HF := Lib.hid (show recB fs rs nm = decide ((U.length : Int) > 0) by rw [HO.out, Bool.true_and, Bool.eq_iff_iff]; simp only [decide_eq_true_iff]; omega)
  generalize recB fs rs nm = R at *
  clear hv hA hB hl hfs b0 V0 HO hcl
  go_enter Tryz.func18, Tryz.ntmps18
  go_wp2_with fail
  refine wp_region_held_drew (S := (fun W => W.cell? ⟨w.heap.size, 0, none⟩ = some (Value.slice A fs.length c) ∧ W.cell? ⟨w.heap.size, 1, none⟩ = some (Value.slice B rs.length d))) (by kernel_rfl) ?_ (fun hHeld => ?_)
  ·(try dsimp only); first | exact KS.out _ D0.out | exact KS.out _ D0r.out
  refine tkW 0 oRecIO0 ?v9_0 ?hy9_0 ?r9_0
  case hy9_0 => (intro w hSw; (try dsimp only at hSw); (try unfold oRecIO0); go_simp; try (with_reducible rfl))
  (try simp only [oRecIO0, Act.put, zA, zB, zC])
  refine wpAnyH_ready (rs := [1]) (by kernel_rfl) (by simp) ?_
  refine AllReadyH.cons (o := oRecIO1) rfl (fun K hK => ?_) AllReadyH.nil
  ((try unfold oRecIO1); go_simp)
  go_at_call 46; (with_reducible refine (Calls.mono (PV.out _ D0.out)) ?_); rintro e w1 ⟨rfl, b1⟩; (have D1 := Lib.hid (below_step D0.out b1)); clear b1
  refine hK.out _ _ ?_ (fun hHeld2 => ?_)
  ·(try dsimp only); exact KS.out _ D1.out
  clear hK K
  (try simp only [oRecIO1, Act.put, zA, zB, zC])
  refine tkW 2 oRecIO2 ?v9_2 ?hy9_2 ?r9_2
  case hy9_2 => (intro w hSw; (try dsimp only at hSw); (try unfold oRecIO2); go_simp; try (with_reducible rfl))
  (try simp only [oRecIO2, Act.put, zA, zB, zC])
  refine tkW 3 oRecIO3 ?v9_3 ?hy9_3 ?r9_3
  case hy9_3 => (intro w hSw; (try dsimp only at hSw); (try unfold oRecIO3); go_simp; try (with_reducible rfl))
  (try simp only [oRecIO3, Act.put, zA, zB, zC])
  refine tkW 4 oRecIO4 ?v9_4 ?hy9_4 ?r9_4
  case hy9_4 => (intro w hSw; (try dsimp only at hSw); (try unfold oRecIO4); go_simp; try (with_reducible rfl))
  (try simp only [oRecIO4, Act.put, zA, zB, zC])
  refine tkW 5 oRecIO5 ?v9_5 ?hy9_5 ?r9_5
  case hy9_5 => (intro w hSw; (try dsimp only at hSw); (try unfold oRecIO5); go_simp; try (with_reducible rfl))
  (try simp only [oRecIO5, Act.put, zA, zB, zC])
  refine wpAnyH_ready (rs := [6]) (by kernel_rfl) (by simp) ?_
  refine AllReadyH.cons (o := oRecIO6) rfl (fun K hK => ?_) AllReadyH.nil
  ((try unfold oRecIO6); go_simp)
  go_at_call 54; (with_reducible refine (Calls.mono (CO.out _ D1.out)) ?_); rintro e w2 ⟨R9, cr, rfl, oR, b2⟩; (have D2 := Lib.hid (below_step D1.out b2)); (have OR := Lib.hid oR.arg); clear b2 oR
  refine hK.out _ _ ?_ (fun hHeld2 => ?_)
  ·(try dsimp only); exact KS.out _ D2.out
  clear hK K
  (try simp only [oRecIO6, Act.put, zA, zB, zC])
  refine wpAnyH_ready (rs := [7]) (by kernel_rfl) (by simp) ?_
  refine AllReadyH.cons (o := oRecIO7) rfl (fun K hK => ?_) AllReadyH.nil
  ((try unfold oRecIO7); go_simp)
  go_at_call 19; (with_reducible refine (Calls.mono (IE.out R9 cr _ D2.out OR.out)) ?_); rintro e w3 ⟨E9, ce, rfl, oE, b3⟩; (have D3 := Lib.hid (below_step D2.out b3)); clear b3 oE
  refine hK.out _ _ ?_ (fun hHeld2 => ?_)
  ·(try dsimp only); exact KS.out _ D3.out
  clear hK K
  (try simp only [oRecIO7, Act.put, zA, zB, zC])
  refine tkW 8 oRecIO8 ?v9_8 ?hy9_8 ?r9_8
  case hy9_8 => (intro w hSw; (try dsimp only at hSw); (try unfold oRecIO8); go_simp; try (with_reducible rfl))
  (try simp only [oRecIO8, Act.put, zA, zB, zC])
  refine tkW 9 oRecIO9 ?v9_9 ?hy9_9 ?r9_9
  case hy9_9 => (intro w hSw; (try dsimp only at hSw); (try unfold oRecIO9); go_simp; try (with_reducible rfl))
  (try simp only [oRecIO9, Act.put, zA, zB, zC])
  refine tkW 10 oRecIO10 ?v9_10 ?hy9_10 ?r9_10
  case hy9_10 => (intro w hSw; (try dsimp only at hSw); (try unfold oRecIO10); go_simp; try (with_reducible rfl))
  (try simp only [oRecIO10, Act.put, zA, zB, zC])
  refine tkW 11 oRecIO11 ?v9_11 ?hy9_11 ?r9_11
  case hy9_11 => (intro w hSw; (try dsimp only at hSw); (try unfold oRecIO11); go_simp; try (with_reducible rfl))
  (try simp only [oRecIO11, Act.put, zA, zB, zC])
  refine wpAnyH_done (by kernel_rfl) ?_ _
  go_wp2
  go_ret
  exact ⟨by rw [HF.out]; simp, by first | exact below_step B0.out D3.out | exact below_step B0.out D3.out.drew⟩
end GraphI
end Go.Proofs.YtbbllkhmenpnlaaGreat
