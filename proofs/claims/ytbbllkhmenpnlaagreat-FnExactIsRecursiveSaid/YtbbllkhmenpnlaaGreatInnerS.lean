import Derived.Test.YtbbllkhmenpnlaaGreatEdgeI2
import Derived.Deep.RegionHeld3
import Derived.Test.YtbbllkhmenpnlaaGreatOwnMore
/-
  InnerEdges of the program (made by tools/s13.py).
-/
namespace Go.Proofs.YtbbllkhmenpnlaaGreat
open Go.RowKit
def oInnerSO34 : Oper := { dst := some 36, op := Op.pick (Operand.tmp 26) (Operand.tmp 35) (Operand.const (Value.bool false)), type := 4, pos := "l13_graph.go:92", after := #[{ on := 9, ground := Ground.data }, { on := 18, ground := Ground.data }], guard := none }
def oInnerSO33 : Oper := { dst := some 35, op := Op.binOp BinOp.geq 3 (Operand.tmp 34) (Operand.const (Value.int IntKind.i64 0)) 3, type := 4, pos := "l13_graph.go:92", after := #[{ on := 17, ground := Ground.data }, { on := 9, ground := Ground.guard }], guard := some (9, true) }
def oInnerSO32 : Oper := { dst := some 34, op := Op.call { callee := Callee.value (Operand.func 17), args := #[Operand.tmp 27, Operand.tmp 33], argTypes := #[31, 9] }, type := 3, pos := "l13_graph.go:92", after := #[{ on := 10, ground := Ground.data }, { on := 16, ground := Ground.data }, { on := 16, ground := Ground.chain }, { on := 9, ground := Ground.guard }], guard := some (9, true) }
def oInnerSO31 : Oper := { dst := some 33, op := Op.call { callee := Callee.value (Operand.func 65), args := #[Operand.tmp 28, Operand.tmp 32], argTypes := #[27, 50] }, type := 9, pos := "l13_graph.go:92", after := #[{ on := 11, ground := Ground.data }, { on := 15, ground := Ground.data }, { on := 9, ground := Ground.chain }, { on := 9, ground := Ground.guard }], guard := some (9, true) }
def oInnerSO30 : Oper := { dst := some 32, op := Op.load 50 (Operand.tmp 31), type := 50, pos := "l13_graph.go:92", after := #[{ on := 14, ground := Ground.data }, { on := 9, ground := Ground.guard }], guard := some (9, true) }
def oInnerSO29 : Oper := { dst := some 31, op := Op.indexAddr 37 (Operand.tmp 29) (Operand.tmp 30), type := 0, pos := "l13_graph.go:92", after := #[{ on := 12, ground := Ground.data }, { on := 13, ground := Ground.data }, { on := 9, ground := Ground.guard }], guard := some (9, true) }
def oInnerSO28 : Oper := { dst := some 30, op := Op.move (Operand.tmp 7), type := 3, pos := "l13_graph.go:92", after := #[{ on := 9, ground := Ground.guard }], guard := some (9, true) }
def oInnerSO27 : Oper := { dst := some 29, op := Op.move (Operand.tmp 6), type := 37, pos := "l13_graph.go:92", after := #[{ on := 9, ground := Ground.guard }], guard := some (9, true) }
def oInnerSO26 : Oper := { dst := some 28, op := Op.load 27 (Operand.tmp 2), type := 27, pos := "l13_graph.go:92", after := #[{ on := 9, ground := Ground.guard }], guard := some (9, true) }
def oInnerSO25 : Oper := { dst := some 27, op := Op.move (Operand.tmp 1), type := 31, pos := "l13_graph.go:92", after := #[{ on := 9, ground := Ground.guard }], guard := some (9, true) }
def oInnerSO24 : Oper := { dst := some 26, op := Op.move (Operand.tmp 25), type := 4, pos := "l13_graph.go:92", after := #[{ on := 8, ground := Ground.data }, { on := 7, ground := Ground.chain }], guard := none }
def oInnerSO23 : Oper := { dst := some 25, op := Op.binOp BinOp.geq 3 (Operand.tmp 24) (Operand.const (Value.int IntKind.i64 0)) 3, type := 4, pos := "l13_graph.go:92", after := #[{ on := 7, ground := Ground.data }], guard := none }
def oInnerSO22 : Oper := { dst := some 24, op := Op.call { callee := Callee.value (Operand.func 17), args := #[Operand.tmp 17, Operand.tmp 23], argTypes := #[31, 9] }, type := 3, pos := "l13_graph.go:92", after := #[{ on := 0, ground := Ground.data }, { on := 6, ground := Ground.data }, { on := 6, ground := Ground.chain }], guard := none }
def oInnerSO21 : Oper := { dst := some 23, op := Op.call { callee := Callee.value (Operand.func 64), args := #[Operand.tmp 18, Operand.tmp 22], argTypes := #[27, 50] }, type := 9, pos := "l13_graph.go:92", after := #[{ on := 1, ground := Ground.data }, { on := 5, ground := Ground.data }], guard := none }
def oInnerSO20 : Oper := { dst := some 22, op := Op.load 50 (Operand.tmp 21), type := 50, pos := "l13_graph.go:92", after := #[{ on := 4, ground := Ground.data }], guard := none }
def oInnerSO19 : Oper := { dst := some 21, op := Op.indexAddr 37 (Operand.tmp 19) (Operand.tmp 20), type := 0, pos := "l13_graph.go:92", after := #[{ on := 2, ground := Ground.data }, { on := 3, ground := Ground.data }], guard := none }
def oInnerSO18 : Oper := { dst := some 20, op := Op.move (Operand.tmp 7), type := 3, pos := "l13_graph.go:92", after := #[], guard := none }
def oInnerSO17 : Oper := { dst := some 19, op := Op.move (Operand.tmp 6), type := 37, pos := "l13_graph.go:92", after := #[], guard := none }
def oInnerSO16 : Oper := { dst := some 18, op := Op.load 27 (Operand.tmp 2), type := 27, pos := "l13_graph.go:92", after := #[], guard := none }
def oInnerSO15 : Oper := { dst := some 17, op := Op.move (Operand.tmp 1), type := 31, pos := "l13_graph.go:92", after := #[], guard := none }
def oInnerSO14 : Oper := { dst := some 4, op := Op.assign (Operand.tmp 18), type := 4, pos := "l13_graph.go:154", after := #[{ on := 13, ground := Ground.data }, { on := 11, ground := Ground.chain }, { on := 0, ground := Ground.phase }, { on := 1, ground := Ground.phase }, { on := 2, ground := Ground.phase }, { on := 3, ground := Ground.phase }, { on := 4, ground := Ground.phase }, { on := 5, ground := Ground.phase }, { on := 6, ground := Ground.phase }, { on := 7, ground := Ground.phase }, { on := 8, ground := Ground.phase }, { on := 9, ground := Ground.phase }, { on := 10, ground := Ground.phase }, { on := 11, ground := Ground.phase }, { on := 12, ground := Ground.phase }, { on := 13, ground := Ground.phase }], guard := none }
def oInnerSO13 : Oper := { dst := some 18, op := Op.pick (Operand.tmp 11) (Operand.tmp 17) (Operand.const (Value.bool false)), type := 4, pos := "l13_graph.go:154", after := #[{ on := 6, ground := Ground.data }, { on := 12, ground := Ground.data }], guard := none }
def oInnerSO12 : Oper := { dst := some 17, op := Op.binOp BinOp.geq 3 (Operand.tmp 16) (Operand.const (Value.int IntKind.i64 0)) 3, type := 4, pos := "l13_graph.go:154", after := #[{ on := 11, ground := Ground.data }, { on := 6, ground := Ground.guard }], guard := some (6, true) }
def oInnerSO11 : Oper := { dst := some 16, op := Op.call { callee := Callee.value (Operand.func 57), args := #[Operand.tmp 12, Operand.tmp 15], argTypes := #[31, 9] }, type := 3, pos := "l13_graph.go:154", after := #[{ on := 7, ground := Ground.data }, { on := 10, ground := Ground.data }, { on := 10, ground := Ground.chain }, { on := 6, ground := Ground.guard }], guard := some (6, true) }
def oInnerSO10 : Oper := { dst := some 15, op := Op.call { callee := Callee.value (Operand.func 59), args := #[Operand.tmp 13, Operand.tmp 14], argTypes := #[27, 50] }, type := 9, pos := "l13_graph.go:154", after := #[{ on := 8, ground := Ground.data }, { on := 9, ground := Ground.data }, { on := 6, ground := Ground.chain }, { on := 6, ground := Ground.guard }], guard := some (6, true) }
def oInnerSO9 : Oper := { dst := some 14, op := Op.load 50 (Operand.tmp 3), type := 50, pos := "l13_graph.go:154", after := #[{ on := 6, ground := Ground.guard }], guard := some (6, true) }
def oInnerSO8 : Oper := { dst := some 13, op := Op.load 27 (Operand.tmp 2), type := 27, pos := "l13_graph.go:154", after := #[{ on := 6, ground := Ground.guard }], guard := some (6, true) }
def oInnerSO7 : Oper := { dst := some 12, op := Op.load 31 (Operand.tmp 1), type := 31, pos := "l13_graph.go:154", after := #[{ on := 6, ground := Ground.guard }], guard := some (6, true) }
def oInnerSO6 : Oper := { dst := some 11, op := Op.move (Operand.tmp 10), type := 4, pos := "l13_graph.go:154", after := #[{ on := 5, ground := Ground.data }, { on := 4, ground := Ground.chain }], guard := none }
def oInnerSO5 : Oper := { dst := some 10, op := Op.binOp BinOp.geq 3 (Operand.tmp 9) (Operand.const (Value.int IntKind.i64 0)) 3, type := 4, pos := "l13_graph.go:154", after := #[{ on := 4, ground := Ground.data }], guard := none }
def oInnerSO4 : Oper := { dst := some 9, op := Op.call { callee := Callee.value (Operand.func 57), args := #[Operand.tmp 5, Operand.tmp 8], argTypes := #[31, 9] }, type := 3, pos := "l13_graph.go:154", after := #[{ on := 0, ground := Ground.data }, { on := 3, ground := Ground.data }, { on := 3, ground := Ground.chain }], guard := none }
def oInnerSO3 : Oper := { dst := some 8, op := Op.call { callee := Callee.value (Operand.func 58), args := #[Operand.tmp 6, Operand.tmp 7], argTypes := #[27, 50] }, type := 9, pos := "l13_graph.go:154", after := #[{ on := 1, ground := Ground.data }, { on := 2, ground := Ground.data }], guard := none }
def oInnerSO2 : Oper := { dst := some 7, op := Op.load 50 (Operand.tmp 3), type := 50, pos := "l13_graph.go:154", after := #[], guard := none }
def oInnerSO1 : Oper := { dst := some 6, op := Op.load 27 (Operand.tmp 2), type := 27, pos := "l13_graph.go:154", after := #[], guard := none }
def oInnerSO0 : Oper := { dst := some 5, op := Op.load 31 (Operand.tmp 1), type := 31, pos := "l13_graph.go:154", after := #[], guard := none }
namespace GraphI
open RowK Mem GraphM ProgM
theorem idx_dec (ss : List ByteArray) (x : ByteArray) : decide (0 ≤ Lib.idxOfS ss x) = (@decide (x ∈ ss) (Classical.propDecidable _)) := by
 rw [Bool.eq_iff_iff, decide_eq_true_iff, @decide_eq_true_iff _ (Classical.propDecidable _)]
 exact Lib.idxOfS_nonneg_iff ss x
theorem inner_idx (rs : List RuleT) (ss : List ByteArray) (e : EdgeT) : innerP rs ss e = (decide (0 ≤ Lib.idxOfS ss (fromE rs e)) && decide (0 ≤ Lib.idxOfS ss (toE rs e))) := by rw [idx_dec, idx_dec]; rfl
set_option maxHeartbeats 4000000 in
set_option maxRecDepth 100000 in
theorem innerIn (bl bp : Nat) (L A B : Option Addr) (lc n c d : Nat) (ss : List ByteArray) (rs : List RuleT) (k i : Nat) (w : World) (VL : Lvar w bl #[.slice L ss.length lc]) (VP : Lvar w bp #[.slice A n c, .slice B rs.length d])
  (hB : ArgS rule w B rs.length d rs) (hl : rs.length + szs szRuleU rs ≤ 9000000) (hL : ArgS Rep.str w L ss.length lc ss) (hls : ss.length ≤ 1000000000) (hk : k < rs.length) (hi : i < rs[k].2.2.2.1.length) :
  Calls Tryz.prog 56 #[.agg #[.int .i64 (k : Int), .int .i64 (i : Int)], .pointer (some ⟨bl, 0, none⟩), .pointer (some ⟨bp, 0, none⟩)] w fun e w' => e = .returned (.bool (innerP rs ss ((k : Int), (i : Int)))) ∧ Below w.heap.size w w' := by
 have b0 : Below w.heap.size w (w.alloc (Obj.cells #[Value.int .i64 (k : Int), Value.int .i64 (i : Int)] 50)) := (Below.refl _ _).alloc (Nat.le_refl _) _
 have V0 := Lvar.new w #[Value.int .i64 (k : Int), Value.int .i64 (i : Int)] 50
 have VL0 := VL.below b0
 have VP0 := VP.below b0
 have KS := Lib.hid (fun (W : World) (h : Below (w.alloc (Obj.cells #[Value.int .i64 (k : Int), Value.int .i64 (i : Int)] 50)).heap.size (w.alloc (Obj.cells #[Value.int .i64 (k : Int), Value.int .i64 (i : Int)] 50)) W) => (⟨(VL0.below h).cell 0 _ rfl, (VP0.below h).cell 0 _ rfl, (VP0.below h).cell 1 _ rfl, (V0.below h).cell 0 _ rfl, (V0.below h).cell 1 _ rfl⟩ : W.cell? ⟨bl, 0, none⟩ = some (Value.slice L ss.length lc) ∧ W.cell? ⟨bp, 0, none⟩ = some (Value.slice A n c) ∧ W.cell? ⟨bp, 1, none⟩ = some (Value.slice B rs.length d) ∧ W.cell? ⟨w.heap.size, 0, none⟩ = some (Value.int .i64 (k : Int)) ∧ W.cell? ⟨w.heap.size, 1, none⟩ = some (Value.int .i64 (i : Int))))
 have C1 := Lib.hid (fun (W : World) (h : Below (w.alloc (Obj.cells #[Value.int .i64 (k : Int), Value.int .i64 (i : Int)] 50)).heap.size (w.alloc (Obj.cells #[Value.int .i64 (k : Int), Value.int .i64 (i : Int)] 50)) W) => callerOf A B n c d rs k i W (hB.below (below_step b0 h)) hl hk)
 have C2 := Lib.hid (fun (W : World) (h : Below (w.alloc (Obj.cells #[Value.int .i64 (k : Int), Value.int .i64 (i : Int)] 50)).heap.size (w.alloc (Obj.cells #[Value.int .i64 (k : Int), Value.int .i64 (i : Int)] 50)) W) => calledBy A B n c d rs k i W (hB.below (below_step b0 h)) hl hk hi)
 have hS : ∀ W, Below (w.alloc (Obj.cells #[Value.int .i64 (k : Int), Value.int .i64 (i : Int)] 50)).heap.size (w.alloc (Obj.cells #[Value.int .i64 (k : Int), Value.int .i64 (i : Int)] 50)) W → StrK.SRow W L ss := fun W h => by
  obtain ⟨q, fp, h9⟩ := hL.below (below_step b0 h)
  exact (strs_open h9).1
 have I1 := Lib.hid (fun (W : World) (h : Below (w.alloc (Obj.cells #[Value.int .i64 (k : Int), Value.int .i64 (i : Int)] 50)).heap.size (w.alloc (Obj.cells #[Value.int .i64 (k : Int), Value.int .i64 (i : Int)] 50)) W) => NameS.implIndex L lc ss (fromE rs ((k : Int), (i : Int))) W (hS W h) (by omega))
 have I2 := Lib.hid (fun (W : World) (h : Below (w.alloc (Obj.cells #[Value.int .i64 (k : Int), Value.int .i64 (i : Int)] 50)).heap.size (w.alloc (Obj.cells #[Value.int .i64 (k : Int), Value.int .i64 (i : Int)] 50)) W) => NameS.implIndex L lc ss (toE rs ((k : Int), (i : Int))) W (hS W h) (by omega))
 have D0 := Lib.hid (Below.refl (w.alloc (Obj.cells #[Value.int .i64 (k : Int), Value.int .i64 (i : Int)] 50)).heap.size (w.alloc (Obj.cells #[Value.int .i64 (k : Int), Value.int .i64 (i : Int)] 50))).drew
 have D0r := Lib.hid (Below.refl (w.alloc (Obj.cells #[Value.int .i64 (k : Int), Value.int .i64 (i : Int)] 50)).heap.size (w.alloc (Obj.cells #[Value.int .i64 (k : Int), Value.int .i64 (i : Int)] 50)))
 have HO := Lib.hid (inner_idx rs ss ((k : Int), (i : Int)))
 have B0 := Lib.hid b0
 generalize innerP rs ss ((k : Int), (i : Int)) = R at *
 generalize fromE rs ((k : Int), (i : Int)) = f1 at *
 generalize toE rs ((k : Int), (i : Int)) = f2 at *
 generalize Lib.idxOfS ss f1 = y1 at *
 generalize Lib.idxOfS ss f2 = y2 at *
 clear VL VP hB hL hl hls hk hi b0 V0 VL0 VP0 hS
 by_cases h1 : 0 ≤ y1
 ·have e1 : decide (0 ≤ y1) = true := decide_eq_true h1
  have HF := Lib.hid (show R = decide (0 ≤ y2) by rw [HO.out, e1]; rfl)
  clear h1
  go_enter Tryz.func56, Tryz.ntmps56
  go_wp2_with fail
  refine wp_region_held_drew (S := (fun W => W.cell? ⟨bl, 0, none⟩ = some (Value.slice L ss.length lc) ∧ W.cell? ⟨bp, 0, none⟩ = some (Value.slice A n c) ∧ W.cell? ⟨bp, 1, none⟩ = some (Value.slice B rs.length d) ∧ W.cell? ⟨w.heap.size, 0, none⟩ = some (Value.int .i64 (k : Int)) ∧ W.cell? ⟨w.heap.size, 1, none⟩ = some (Value.int .i64 (i : Int)))) (by kernel_rfl) ?_ (fun hHeld => ?_)
  ·(try dsimp only); first | exact KS.out _ D0.out | exact KS.out _ D0r.out
  refine tkW 0 oInnerSO0 ?v1_0 ?hy1_0 ?r1_0
  case hy1_0 => (intro w hSw; (try dsimp only at hSw); (try unfold oInnerSO0); go_simp; try (with_reducible rfl))
  (try simp only [oInnerSO0, Act.put, zA, zB, zC])
  refine tkW 1 oInnerSO1 ?v1_1 ?hy1_1 ?r1_1
  case hy1_1 => (intro w hSw; (try dsimp only at hSw); (try unfold oInnerSO1); go_simp; try (with_reducible rfl))
  (try simp only [oInnerSO1, Act.put, zA, zB, zC])
  refine tkW 2 oInnerSO2 ?v1_2 ?hy1_2 ?r1_2
  case hy1_2 => (intro w hSw; (try dsimp only at hSw); (try unfold oInnerSO2); go_simp; try (with_reducible rfl))
  (try simp only [oInnerSO2, Act.put, zA, zB, zC])
  refine wpAnyH_ready (rs := [3]) (by kernel_rfl) (by simp) ?_
  refine AllReadyH.cons (o := oInnerSO3) rfl (fun K hK => ?_) AllReadyH.nil
  ((try unfold oInnerSO3); go_simp)
  go_at_call 58; (with_reducible refine (Calls.mono (C1.out _ D0.out)) ?_); rintro e w1 ⟨rfl, b1⟩; (have D1 := Lib.hid (below_step D0.out b1)); clear b1
  refine hK.out _ _ ?_ (fun hHeld2 => ?_)
  ·(try dsimp only); exact KS.out _ D1.out
  clear hK K
  (try simp only [oInnerSO3, Act.put, zA, zB, zC])
  refine wpAnyH_ready (rs := [4]) (by kernel_rfl) (by simp) ?_
  refine AllReadyH.cons (o := oInnerSO4) rfl (fun K hK => ?_) AllReadyH.nil
  ((try unfold oInnerSO4); go_simp)
  go_at_call 57; (with_reducible refine (Calls.mono (I1.out _ D1.out)) ?_); rintro e w9 ⟨rfl, rfl⟩
  refine hK.out _ _ ?_ (fun hHeld2 => ?_)
  ·(try dsimp only); exact KS.out _ D1.out
  clear hK K
  (try simp only [oInnerSO4, Act.put, zA, zB, zC])
  refine tkW 5 oInnerSO5 ?v1_5 ?hy1_5 ?r1_5
  case hy1_5 => (intro w hSw; (try dsimp only at hSw); (try unfold oInnerSO5); go_simp; try (with_reducible rfl))
  (try simp only [oInnerSO5, Act.put, zA, zB, zC])
  refine tkW 6 oInnerSO6 ?v1_6 ?hy1_6 ?r1_6
  case hy1_6 => (intro w hSw; (try dsimp only at hSw); (try unfold oInnerSO6); go_simp; try (with_reducible rfl))
  (try simp only [oInnerSO6, Act.put, zA, zB, zC])
  refine tkW 7 oInnerSO7 ?v1_7 ?hy1_7 ?r1_7
  case hy1_7 => (intro w hSw; (try dsimp only at hSw); (try unfold oInnerSO7); go_simp; try (with_reducible rfl))
  (try simp only [oInnerSO7, Act.put, zA, zB, zC])
  refine tkW 8 oInnerSO8 ?v1_8 ?hy1_8 ?r1_8
  case hy1_8 => (intro w hSw; (try dsimp only at hSw); (try unfold oInnerSO8); go_simp; try (with_reducible rfl))
  (try simp only [oInnerSO8, Act.put, zA, zB, zC])
  refine tkW 9 oInnerSO9 ?v1_9 ?hy1_9 ?r1_9
  case hy1_9 => (intro w hSw; (try dsimp only at hSw); (try unfold oInnerSO9); go_simp; try (with_reducible rfl))
  (try simp only [oInnerSO9, Act.put, zA, zB, zC])
  refine wpAnyH_ready (rs := [10]) (by kernel_rfl) (by simp) ?_
  refine AllReadyH.cons (o := oInnerSO10) rfl (fun K hK => ?_) AllReadyH.nil
  ((try unfold oInnerSO10); go_simp)
  go_at_call 59; (with_reducible refine (Calls.mono (C2.out _ D1.out)) ?_); rintro e w2 ⟨rfl, b2⟩; (have D2 := Lib.hid (below_step D1.out b2)); clear b2
  refine hK.out _ _ ?_ (fun hHeld2 => ?_)
  ·(try dsimp only); exact KS.out _ D2.out
  clear hK K
  (try simp only [oInnerSO10, Act.put, zA, zB, zC])
  refine wpAnyH_ready (rs := [11]) (by kernel_rfl) (by simp) ?_
  refine AllReadyH.cons (o := oInnerSO11) rfl (fun K hK => ?_) AllReadyH.nil
  ((try unfold oInnerSO11); go_simp)
  go_at_call 57; (with_reducible refine (Calls.mono (I2.out _ D2.out)) ?_); rintro e w8 ⟨rfl, rfl⟩
  refine hK.out _ _ ?_ (fun hHeld2 => ?_)
  ·(try dsimp only); exact KS.out _ D2.out
  clear hK K
  (try simp only [oInnerSO11, Act.put, zA, zB, zC])
  refine tkW 12 oInnerSO12 ?v1_12 ?hy1_12 ?r1_12
  case hy1_12 => (intro w hSw; (try dsimp only at hSw); (try unfold oInnerSO12); go_simp; try (with_reducible rfl))
  (try simp only [oInnerSO12, Act.put, zA, zB, zC])
  refine tkW 13 oInnerSO13 ?v1_13 ?hy1_13 ?r1_13
  case hy1_13 => (intro w hSw; (try dsimp only at hSw); (try unfold oInnerSO13); go_simp; try (with_reducible rfl))
  (try simp only [oInnerSO13, Act.put, zA, zB, zC])
  refine tkW 14 oInnerSO14 ?v1_14 ?hy1_14 ?r1_14
  case hy1_14 => (intro w hSw; (try dsimp only at hSw); (try unfold oInnerSO14); go_simp; try (with_reducible rfl))
  (try simp only [oInnerSO14, Act.put, zA, zB, zC])
  refine wpAnyH_done (by kernel_rfl) ?_ _
  go_wp2
  go_ret
  exact ⟨by rw [HF.out]; rfl, by first | exact below_step B0.out D2.out | exact below_step B0.out D2.out.drew⟩
 ·have e1 : decide (0 ≤ y1) = false := decide_eq_false h1
  have HF := Lib.hid (show R = false by rw [HO.out, e1]; rfl)
  clear h1
  go_enter Tryz.func56, Tryz.ntmps56
  go_wp2_with fail
  refine wp_region_held_drew (S := (fun W => W.cell? ⟨bl, 0, none⟩ = some (Value.slice L ss.length lc) ∧ W.cell? ⟨bp, 0, none⟩ = some (Value.slice A n c) ∧ W.cell? ⟨bp, 1, none⟩ = some (Value.slice B rs.length d) ∧ W.cell? ⟨w.heap.size, 0, none⟩ = some (Value.int .i64 (k : Int)) ∧ W.cell? ⟨w.heap.size, 1, none⟩ = some (Value.int .i64 (i : Int)))) (by kernel_rfl) ?_ (fun hHeld => ?_)
  ·(try dsimp only); first | exact KS.out _ D0.out | exact KS.out _ D0r.out
  refine tkW 0 oInnerSO0 ?v2_0 ?hy2_0 ?r2_0
  case hy2_0 => (intro w hSw; (try dsimp only at hSw); (try unfold oInnerSO0); go_simp; try (with_reducible rfl))
  (try simp only [oInnerSO0, Act.put, zA, zB, zC])
  refine tkW 1 oInnerSO1 ?v2_1 ?hy2_1 ?r2_1
  case hy2_1 => (intro w hSw; (try dsimp only at hSw); (try unfold oInnerSO1); go_simp; try (with_reducible rfl))
  (try simp only [oInnerSO1, Act.put, zA, zB, zC])
  refine tkW 2 oInnerSO2 ?v2_2 ?hy2_2 ?r2_2
  case hy2_2 => (intro w hSw; (try dsimp only at hSw); (try unfold oInnerSO2); go_simp; try (with_reducible rfl))
  (try simp only [oInnerSO2, Act.put, zA, zB, zC])
  refine wpAnyH_ready (rs := [3]) (by kernel_rfl) (by simp) ?_
  refine AllReadyH.cons (o := oInnerSO3) rfl (fun K hK => ?_) AllReadyH.nil
  ((try unfold oInnerSO3); go_simp)
  go_at_call 58; (with_reducible refine (Calls.mono (C1.out _ D0.out)) ?_); rintro e w1 ⟨rfl, b1⟩; (have D1 := Lib.hid (below_step D0.out b1)); clear b1
  refine hK.out _ _ ?_ (fun hHeld2 => ?_)
  ·(try dsimp only); exact KS.out _ D1.out
  clear hK K
  (try simp only [oInnerSO3, Act.put, zA, zB, zC])
  refine wpAnyH_ready (rs := [4]) (by kernel_rfl) (by simp) ?_
  refine AllReadyH.cons (o := oInnerSO4) rfl (fun K hK => ?_) AllReadyH.nil
  ((try unfold oInnerSO4); go_simp)
  go_at_call 57; (with_reducible refine (Calls.mono (I1.out _ D1.out)) ?_); rintro e w9 ⟨rfl, rfl⟩
  refine hK.out _ _ ?_ (fun hHeld2 => ?_)
  ·(try dsimp only); exact KS.out _ D1.out
  clear hK K
  (try simp only [oInnerSO4, Act.put, zA, zB, zC])
  refine tkW 5 oInnerSO5 ?v2_5 ?hy2_5 ?r2_5
  case hy2_5 => (intro w hSw; (try dsimp only at hSw); (try unfold oInnerSO5); go_simp; try (with_reducible rfl))
  (try simp only [oInnerSO5, Act.put, zA, zB, zC])
  refine tkW 6 oInnerSO6 ?v2_6 ?hy2_6 ?r2_6
  case hy2_6 => (intro w hSw; (try dsimp only at hSw); (try unfold oInnerSO6); go_simp; try (with_reducible rfl))
  (try simp only [oInnerSO6, Act.put, zA, zB, zC])
  refine tkU 7 oInnerSO7 ?_
  (try simp only [oInnerSO7, Act.put, zA, zB, zC])
  refine tkU 8 oInnerSO8 ?_
  (try simp only [oInnerSO8, Act.put, zA, zB, zC])
  refine tkU 9 oInnerSO9 ?_
  (try simp only [oInnerSO9, Act.put, zA, zB, zC])
  refine tkU 10 oInnerSO10 ?_
  (try simp only [oInnerSO10, Act.put, zA, zB, zC])
  refine tkU 11 oInnerSO11 ?_
  (try simp only [oInnerSO11, Act.put, zA, zB, zC])
  refine tkU 12 oInnerSO12 ?_
  (try simp only [oInnerSO12, Act.put, zA, zB, zC])
  refine tkW 13 oInnerSO13 ?v2_13 ?hy2_13 ?r2_13
  case hy2_13 => (intro w hSw; (try dsimp only at hSw); (try unfold oInnerSO13); go_simp; try (with_reducible rfl))
  (try simp only [oInnerSO13, Act.put, zA, zB, zC])
  refine tkW 14 oInnerSO14 ?v2_14 ?hy2_14 ?r2_14
  case hy2_14 => (intro w hSw; (try dsimp only at hSw); (try unfold oInnerSO14); go_simp; try (with_reducible rfl))
  (try simp only [oInnerSO14, Act.put, zA, zB, zC])
  refine wpAnyH_done (by kernel_rfl) ?_ _
  go_wp2
  go_ret
  exact ⟨by rw [HF.out]; rfl, by first | exact below_step B0.out D1.out | exact below_step B0.out D1.out.drew⟩
set_option maxHeartbeats 4000000 in
set_option maxRecDepth 100000 in
theorem innerEdges (A B L : Option Addr) (c d lc : Nat) (fs : List FunctionT) (rs : List RuleT) (ss : List ByteArray) (w : World) (hA : ArgS Mem.fn w A fs.length c fs) (hB : ArgS rule w B rs.length d rs) (hL : ArgS Rep.str w L ss.length lc ss) (hl : szProgramU (fs, rs) ≤ 9000000) (hls : ss.length ≤ 1000000000) :
  Calls Tryz.prog 19 #[.agg #[.slice A fs.length c, .slice B rs.length d], .slice L ss.length lc] w (GaveE w (if progV fs rs = true then (edgesA rs).filter (innerP rs ss) else [])) := by
 have eg : ∀ args W, (callFunc 56 args).run Tryz.prog W = .ok (.enter 56 args) W := enters_of Tryz.func56 (by kernel_rfl) rfl
 have b0 : Below w.heap.size w ((w.alloc (Obj.cells #[Value.slice A fs.length c, Value.slice B rs.length d] 27)).alloc (Obj.cells #[Value.slice L ss.length lc] 31)) := ((Below.refl _ _).alloc (Nat.le_refl _) _).alloc (by simp) _
 have V0 := (Lvar.new w #[Value.slice A fs.length c, Value.slice B rs.length d] 27).alloc (Obj.cells #[Value.slice L ss.length lc] 31)
 have U0 := Lvar.new (w.alloc (Obj.cells #[Value.slice A fs.length c, Value.slice B rs.length d] 27)) #[Value.slice L ss.length lc] 31
 simp only [World.size_alloc] at U0
 have PV := Lib.hid (ProgI.validProg A B c d fs rs _ (hA.below b0) (hB.below b0) hl)
 have hrl : rs.length + szs szRuleU rs ≤ 9000000 := by simp only [szProgramU] at hl; omega
 have EW := Lib.hid (fun W (h : Below ((w.alloc (Obj.cells #[Value.slice A fs.length c, Value.slice B rs.length d] 27)).alloc (Obj.cells #[Value.slice L ss.length lc] 31)).heap.size ((w.alloc (Obj.cells #[Value.slice A fs.length c, Value.slice B rs.length d] 27)).alloc (Obj.cells #[Value.slice L ss.length lc] 31)) W) => edgesWhere 56 #[.pointer (some ⟨w.heap.size + 1, 0, none⟩), .pointer (some ⟨w.heap.size, 0, none⟩)] eg (innerP rs ss) A B fs.length c d rs W (hB.below (below_step b0 h)) hrl (fun k i W2 h2 hx => by
  obtain ⟨hk, hi⟩ := hx
  have h3 := below_step h h2
  have h4 := below_step b0 h3
  exact innerIn (w.heap.size + 1) w.heap.size L A B lc fs.length c d ss rs k i W2 (U0.below h3) (V0.below h3) (hB.below h4) hrl (hL.below h4) hls hk hi))
 have B0 := Lib.hid b0
 have HV := Lib.hid V0
 have HU := Lib.hid U0
 clear hA hB hL b0 V0 U0 hl hrl
 cases hv : progV fs rs with
 | false =>
  rw [hv] at PV
  rw [if_neg (by simp)]
  clear hv EW
  go_enter Tryz.func19, Tryz.ntmps19
  go_wp2_with fail
  refine (Calls.mono PV.out) ?_
  rintro e w1 ⟨rfl, b1⟩
  have B1 := Lib.hid (below_step B0.out b1)
  clear b1
  go_wp2
  go_ret
  exact gaveE_nil _ _ B1.out
 | true =>
  rw [hv] at PV
  rw [if_pos rfl]
  clear hv
  go_enter Tryz.func19, Tryz.ntmps19
  go_wp2_with fail
  refine (Calls.mono PV.out) ?_
  rintro e w1 ⟨rfl, b1⟩
  have B1 := Lib.hid (below_step B0.out b1)
  have EW1 := Lib.hid (EW.out w1 b1)
  have V1 := HV.out.below b1
  have l0 : w1.cell? ⟨w.heap.size, 0, none⟩ = some (.slice A fs.length c) := V1.cell 0 _ rfl
  have l1 : w1.cell? ⟨w.heap.size, 1, none⟩ = some (.slice B rs.length d) := V1.cell 1 _ rfl
  clear b1 V1
  go_wp2_with fail
  refine (Calls.mono EW1.out) ?_
  rintro e w2 ⟨R, cr, rfl, oR, b2⟩
  have FIN := Lib.hid (gaveE_to (w := w) B1.out (show GaveE w1 _ _ w2 from ⟨R, cr, rfl, oR, b2⟩))
  clear oR b2
  go_wp2
  go_ret
  exact FIN.out
end GraphI
end Go.Proofs.YtbbllkhmenpnlaaGreat

/-
  InnerEdges of the model (made by tools/s13.py).
-/
namespace Go.Proofs.YtbbllkhmenpnlaaGreat
open Go.RowKit
namespace GraphS
open RowK Mem GraphM ProgM
theorem valid_mem {q : Bool} {rs : List RuleT} {e : EdgeT} (h : e ∈ (if q = true then edgesA rs else [])) : e ∈ edgesA rs := by
 split at h
 ·exact h
 ·cases h
set_option maxHeartbeats 4000000 in
set_option maxRecDepth 100000 in
theorem innerEdges (A B L : Option Addr) (c d lc : Nat) (fs : List FunctionT) (rs : List RuleT) (ss : List ByteArray) (w : World) (hA : ArgS Mem.fn w A fs.length c fs) (hB : ArgS rule w B rs.length d rs) (hL : ArgS Rep.str w L ss.length lc ss) (hl : szProgramU (fs, rs) ≤ 9000000) (hls : ss.length ≤ 1000000000) :
  Calls Tryz.prog 26 #[.agg #[.slice A fs.length c, .slice B rs.length d], .slice L ss.length lc] w (GaveE w (if progV fs rs = true then (edgesA rs).filter (innerP rs ss) else [])) := by
 obtain ⟨i0, hi, hz0, hz1, hz2⟩ := info_parts infoEdge
 have b0 : Below w.heap.size w ((w.alloc (Obj.cells #[Value.slice A fs.length c, Value.slice B rs.length d] 27)).alloc (Obj.cells #[] 50)) := ((Below.refl _ _).alloc (Nat.le_refl _) _).alloc (by simp) _
 have V0 := (Lvar.new w #[Value.slice A fs.length c, Value.slice B rs.length d] 27).alloc (Obj.cells #[] 50)
 have E0 : ((w.alloc (Obj.cells #[Value.slice A fs.length c, Value.slice B rs.length d] 27)).alloc (Obj.cells #[] 50)).heap[w.heap.size + 1]? = some (Obj.cells #[] 50 (0, 0)) := by
  have h9 := heap_alloc_new (w.alloc (Obj.cells #[Value.slice A fs.length c, Value.slice B rs.length d] 27)) (Obj.cells #[] 50)
  simp only [World.size_alloc] at h9
  exact h9
 have O0 := ProgS.own_none (size := 2) E0 (Nat.le_refl _)
 have ED := Lib.hid (edgesOf A B c d fs rs _ (hA.below b0) (hB.below b0) hl)
 have hrl : rs.length + szs szRuleU rs ≤ 9000000 := by simp only [szProgramU] at hl; omega
 have HTL := edges_small (progV fs rs) hrl
 rw [szEdges] at HTL
 have HM := Lib.hid (fun e (h : e ∈ (if progV fs rs = true then edgesA rs else [])) => edgesA_at (valid_mem h))
 have HR := Lib.hid (show (if progV fs rs = true then (edgesA rs).filter (innerP rs ss) else []) = (if progV fs rs = true then edgesA rs else []).filter (innerP rs ss) by split <;> simp)
 rw [HR.out]
 generalize (if progV fs rs = true then edgesA rs else []) = T at *
 have C1 := Lib.hid (fun (W : World) (h : Below w.heap.size w W) (k i : Nat) (hk : k < rs.length) => callerOf A B fs.length c d rs k i W (hB.below h) hrl hk)
 have C2 := Lib.hid (fun (W : World) (h : Below w.heap.size w W) (k i : Nat) (hk : k < rs.length) (hi : i < rs[k].2.2.2.1.length) => calledBy A B fs.length c d rs k i W (hB.below h) hrl hk hi)
 have hS : ∀ W, Below w.heap.size w W → StrK.SRow W L ss := fun W h => by
  obtain ⟨q, fp, h9⟩ := hL.below h
  exact (strs_open h9).1
 have II := Lib.hid (fun (W : World) (h : Below w.heap.size w W) (f : ByteArray) => NameS.specIndex L lc ss f W (hS W h) (by omega))
 have HE0 := Lib.hid (show EdgesB w (w.heap.size + 1) #[Value.slice A fs.length c, Value.slice B rs.length d] _ [] _ from ⟨O0, b0, V0, by simp⟩)
 have hT9 : T.length ≤ 9000000 := by omega
 clear hA hB b0 V0 hl hrl E0 O0 HR HTL hS
 go_enter Tryz.func26, Tryz.ntmps26
 go_wp2_with fail
 refine (Calls.mono ED.out) ?_
 rintro e w1 ⟨X, cx, rfl, oX, b1⟩
 have HE1 := Lib.hid (HE0.out.below b1)
 simp only [World.size_alloc] at oX
 have OX := Lib.hid oX
 have hs1 := b1.size
 simp only [World.size_alloc] at hs1
 have HS1 := Lib.hid hs1
 clear b1 HE0 oX hs1
 go_wp2
 go_loopw [5, 7] (fun v i wr => ∃ (k : Nat) (done : List EdgeT), k ≤ T.length ∧ i = .int .i64 k ∧ Hid (done = (T.take k).filter (innerP rs ss)) ∧ EdgesB w (w.heap.size + 1) #[Value.slice A fs.length c, Value.slice B rs.length d] v done wr ∧ OwnS edge (w.heap.size + 1 + 1) w1.heap.size wr X T.length cx T ∧ Apart w w1 v) (fun _ i _ => T.length - (intOf i).toNat)
 case atStart => exact ⟨0, [], Nat.zero_le _, rfl, Lib.hid rfl, HE1.out, OX.out, fun g hg => Or.inl (by injection hg with hg; exact hg.symm)⟩
 case round =>
  obtain ⟨k, done, hk, rfl, hdone, hN, hB1, hap⟩ := hrel
  have HD := Lib.hid hdone.out
  have HN := Lib.hid hN
  have HB1 := Lib.hid hB1
  have HAP := Lib.hid hap
  have hsw := hB1.1
  have hdl : done.length ≤ 9000000 := by
   rw [HD.out]
   have h2 := List.length_filter_le (innerP rs ss) (T.take k)
   rw [List.length_take] at h2
   omega
  have hsz := hN.2.1.size
  have hbs := hN.2.2.2
  clear hdone hN HE1 hap
  by_cases hlt : k < T.length
  ·obtain ⟨b, o, hX, hbb, g0, g1⟩ := (OwnS.arg hB1).edge_at hlt
   subst hX
   obtain ⟨j, i, hj, hi9, he⟩ := HM.out T[k] (List.getElem_mem hlt)
   have HST := Lib.hid (show (T.take (k + 1)).filter (innerP rs ss) = done ++ [((j : Int), (i : Int))].filter (innerP rs ss) by rw [take_snoc hlt, List.filter_append, HD.out, he])
   rw [he] at g0 g1
   simp only at g0 g1
   have hi0 : (0 : Int) ≤ (k : Int) := by omega
   have hi1 : (k : Int) < (T.length : Int) := by omega
   have VP := HN.out.2.2.1
   have p0 : wr.cell? ⟨w.heap.size, 0, none⟩ = some (.slice A fs.length c) := VP.cell 0 _ rfl
   have p1 : wr.cell? ⟨w.heap.size, 1, none⟩ = some (.slice B rs.length d) := VP.cell 1 _ rfl
   have hX9 : b < wr.heap.size := hbb
   have KS := Lib.hid (fun (W : World) (h : Below wr.heap.size wr W) => (⟨(VP.below h).cell 0 _ rfl, (VP.below h).cell 1 _ rfl, (h.cell (p := ⟨b, o + k * 2, none⟩) hbb).trans g0, (h.cell (p := ⟨b, o + k * 2 + 1, none⟩) hbb).trans g1⟩ : W.cell? ⟨w.heap.size, 0, none⟩ = some (Value.slice A fs.length c) ∧ W.cell? ⟨w.heap.size, 1, none⟩ = some (Value.slice B rs.length d) ∧ W.cell? ⟨b, o + k * 2, none⟩ = some (Value.int .i64 (j : Int)) ∧ W.cell? ⟨b, o + k * 2 + 1, none⟩ = some (Value.int .i64 (i : Int))))
   have C1 := Lib.hid (fun (W : World) (h : Below wr.heap.size wr W) => C1.out W (below_step HN.out.2.1 h) j i hj)
   have C2 := Lib.hid (fun (W : World) (h : Below wr.heap.size wr W) => C2.out W (below_step HN.out.2.1 h) j i hj hi9)
   have I1 := Lib.hid (fun (W : World) (h : Below wr.heap.size wr W) => II.out W (below_step HN.out.2.1 h) (fromE rs ((j : Int), (i : Int))))
   have I2 := Lib.hid (fun (W : World) (h : Below wr.heap.size wr W) => II.out W (below_step HN.out.2.1 h) (toE rs ((j : Int), (i : Int))))
   have D0 := Lib.hid (Below.refl wr.heap.size wr).drew
   have D0r := Lib.hid (Below.refl wr.heap.size wr)
   obtain ⟨q, hq⟩ : ∃ q : Bool, q = innerP rs ss ((j : Int), (i : Int)) := ⟨_, rfl⟩
   have HO := Lib.hid (show q = _ from hq.trans (GraphI.inner_idx rs ss ((j : Int), (i : Int))))
   have HQ := Lib.hid hq
   generalize fromE rs ((j : Int), (i : Int)) = f1 at *
   generalize toE rs ((j : Int), (i : Int)) = f2 at *
   generalize Lib.idxOfS ss f1 = y1 at *
   generalize Lib.idxOfS ss f2 = y2 at *
   have hj9 : T.length ≤ 9000000 := hT9
   clear HM he hq VP hi9 hj II
   go_upto_region 6 with fail
   go_cut [36] (fun s wx => s = .bool q ∧ Below wr.heap.size wr wx)
   case first =>
    by_cases h1 : 0 ≤ y1
    ·have e1 : decide (0 ≤ y1) = true := decide_eq_true h1
     have HF := Lib.hid (show q = decide (0 ≤ y2) by rw [HO.out, e1]; rfl)
     clear h1
     refine wp_region_held_drew (S := (fun W => W.cell? ⟨w.heap.size, 0, none⟩ = some (Value.slice A fs.length c) ∧ W.cell? ⟨w.heap.size, 1, none⟩ = some (Value.slice B rs.length d) ∧ W.cell? ⟨b, o + k * 2, none⟩ = some (Value.int .i64 (j : Int)) ∧ W.cell? ⟨b, o + k * 2 + 1, none⟩ = some (Value.int .i64 (i : Int)))) (by kernel_rfl) ?_ (fun hHeld => ?_)
     ·(try dsimp only); first | exact KS.out _ D0.out | exact KS.out _ D0r.out
     refine tkW 0 oInnerSO15 ?v3_0 ?hy3_0 ?r3_0
     case hy3_0 => (intro w hSw; (try dsimp only at hSw); (try unfold oInnerSO15); go_simp; try (with_reducible rfl))
     (try simp only [oInnerSO15, Act.put, zA, zB, zC])
     refine tkW 1 oInnerSO16 ?v3_1 ?hy3_1 ?r3_1
     case hy3_1 => (intro w hSw; (try dsimp only at hSw); (try unfold oInnerSO16); go_simp; try (with_reducible rfl))
     (try simp only [oInnerSO16, Act.put, zA, zB, zC])
     refine tkW 2 oInnerSO17 ?v3_2 ?hy3_2 ?r3_2
     case hy3_2 => (intro w hSw; (try dsimp only at hSw); (try unfold oInnerSO17); go_simp; try (with_reducible rfl))
     (try simp only [oInnerSO17, Act.put, zA, zB, zC])
     refine tkW 3 oInnerSO18 ?v3_3 ?hy3_3 ?r3_3
     case hy3_3 => (intro w hSw; (try dsimp only at hSw); (try unfold oInnerSO18); go_simp; try (with_reducible rfl))
     (try simp only [oInnerSO18, Act.put, zA, zB, zC])
     refine tkW 4 oInnerSO19 ?v3_4 ?hy3_4 ?r3_4
     case hy3_4 => (intro w hSw; (try dsimp only at hSw); (try unfold oInnerSO19); go_simp; try (with_reducible rfl))
     (try simp only [oInnerSO19, Act.put, zA, zB, zC])
     refine tkW 5 oInnerSO20 ?v3_5 ?hy3_5 ?r3_5
     case hy3_5 => (intro w hSw; (try dsimp only at hSw); (try unfold oInnerSO20); go_simp; try (with_reducible rfl))
     (try simp only [oInnerSO20, Act.put, zA, zB, zC])
     refine wpAnyH_ready (rs := [6]) (by kernel_rfl) (by simp) ?_
     refine AllReadyH.cons (o := oInnerSO21) rfl (fun K hK => ?_) AllReadyH.nil
     ((try unfold oInnerSO21); go_simp)
     go_at_call 64; (with_reducible refine (Calls.mono (C1.out _ D0.out)) ?_); rintro e w1 ⟨rfl, b1⟩; (have D1 := Lib.hid (below_step D0.out b1)); clear b1
     refine hK.out _ _ ?_ (fun hHeld2 => ?_)
     ·(try dsimp only); exact KS.out _ D1.out
     clear hK K
     (try simp only [oInnerSO21, Act.put, zA, zB, zC])
     refine wpAnyH_ready (rs := [7]) (by kernel_rfl) (by simp) ?_
     refine AllReadyH.cons (o := oInnerSO22) rfl (fun K hK => ?_) AllReadyH.nil
     ((try unfold oInnerSO22); go_simp)
     go_at_call 17; (with_reducible refine (Calls.mono (I1.out _ D1.out)) ?_); rintro e w9 ⟨rfl, rfl⟩
     refine hK.out _ _ ?_ (fun hHeld2 => ?_)
     ·(try dsimp only); exact KS.out _ D1.out
     clear hK K
     (try simp only [oInnerSO22, Act.put, zA, zB, zC])
     refine tkW 8 oInnerSO23 ?v3_8 ?hy3_8 ?r3_8
     case hy3_8 => (intro w hSw; (try dsimp only at hSw); (try unfold oInnerSO23); go_simp; try (with_reducible rfl))
     (try simp only [oInnerSO23, Act.put, zA, zB, zC])
     refine tkW 9 oInnerSO24 ?v3_9 ?hy3_9 ?r3_9
     case hy3_9 => (intro w hSw; (try dsimp only at hSw); (try unfold oInnerSO24); go_simp; try (with_reducible rfl))
     (try simp only [oInnerSO24, Act.put, zA, zB, zC])
     refine tkW 10 oInnerSO25 ?v3_10 ?hy3_10 ?r3_10
     case hy3_10 => (intro w hSw; (try dsimp only at hSw); (try unfold oInnerSO25); go_simp; try (with_reducible rfl))
     (try simp only [oInnerSO25, Act.put, zA, zB, zC])
     refine tkW 11 oInnerSO26 ?v3_11 ?hy3_11 ?r3_11
     case hy3_11 => (intro w hSw; (try dsimp only at hSw); (try unfold oInnerSO26); go_simp; try (with_reducible rfl))
     (try simp only [oInnerSO26, Act.put, zA, zB, zC])
     refine tkW 12 oInnerSO27 ?v3_12 ?hy3_12 ?r3_12
     case hy3_12 => (intro w hSw; (try dsimp only at hSw); (try unfold oInnerSO27); go_simp; try (with_reducible rfl))
     (try simp only [oInnerSO27, Act.put, zA, zB, zC])
     refine tkW 13 oInnerSO28 ?v3_13 ?hy3_13 ?r3_13
     case hy3_13 => (intro w hSw; (try dsimp only at hSw); (try unfold oInnerSO28); go_simp; try (with_reducible rfl))
     (try simp only [oInnerSO28, Act.put, zA, zB, zC])
     refine tkW 14 oInnerSO29 ?v3_14 ?hy3_14 ?r3_14
     case hy3_14 => (intro w hSw; (try dsimp only at hSw); (try unfold oInnerSO29); go_simp; try (with_reducible rfl))
     (try simp only [oInnerSO29, Act.put, zA, zB, zC])
     refine tkW 15 oInnerSO30 ?v3_15 ?hy3_15 ?r3_15
     case hy3_15 => (intro w hSw; (try dsimp only at hSw); (try unfold oInnerSO30); go_simp; try (with_reducible rfl))
     (try simp only [oInnerSO30, Act.put, zA, zB, zC])
     refine wpAnyH_ready (rs := [16]) (by kernel_rfl) (by simp) ?_
     refine AllReadyH.cons (o := oInnerSO31) rfl (fun K hK => ?_) AllReadyH.nil
     ((try unfold oInnerSO31); go_simp)
     go_at_call 65; (with_reducible refine (Calls.mono (C2.out _ D1.out)) ?_); rintro e w2 ⟨rfl, b2⟩; (have D2 := Lib.hid (below_step D1.out b2)); clear b2
     refine hK.out _ _ ?_ (fun hHeld2 => ?_)
     ·(try dsimp only); exact KS.out _ D2.out
     clear hK K
     (try simp only [oInnerSO31, Act.put, zA, zB, zC])
     refine wpAnyH_ready (rs := [17]) (by kernel_rfl) (by simp) ?_
     refine AllReadyH.cons (o := oInnerSO32) rfl (fun K hK => ?_) AllReadyH.nil
     ((try unfold oInnerSO32); go_simp)
     go_at_call 17; (with_reducible refine (Calls.mono (I2.out _ D2.out)) ?_); rintro e w8 ⟨rfl, rfl⟩
     refine hK.out _ _ ?_ (fun hHeld2 => ?_)
     ·(try dsimp only); exact KS.out _ D2.out
     clear hK K
     (try simp only [oInnerSO32, Act.put, zA, zB, zC])
     refine tkW 18 oInnerSO33 ?v3_18 ?hy3_18 ?r3_18
     case hy3_18 => (intro w hSw; (try dsimp only at hSw); (try unfold oInnerSO33); go_simp; try (with_reducible rfl))
     (try simp only [oInnerSO33, Act.put, zA, zB, zC])
     refine tkW 19 oInnerSO34 ?v3_19 ?hy3_19 ?r3_19
     case hy3_19 => (intro w hSw; (try dsimp only at hSw); (try unfold oInnerSO34); go_simp; try (with_reducible rfl))
     (try simp only [oInnerSO34, Act.put, zA, zB, zC])
     refine wpAnyH_done (by kernel_rfl) ?_ _
     all_goals
      go_wp2_with fail
      go_meet
      exact ⟨by rw [HF.out], by first | exact D2.out | exact D2.out.drew⟩
    ·have e1 : decide (0 ≤ y1) = false := decide_eq_false h1
     have HF := Lib.hid (show q = false by rw [HO.out, e1]; rfl)
     clear h1
     refine wp_region_held_drew (S := (fun W => W.cell? ⟨w.heap.size, 0, none⟩ = some (Value.slice A fs.length c) ∧ W.cell? ⟨w.heap.size, 1, none⟩ = some (Value.slice B rs.length d) ∧ W.cell? ⟨b, o + k * 2, none⟩ = some (Value.int .i64 (j : Int)) ∧ W.cell? ⟨b, o + k * 2 + 1, none⟩ = some (Value.int .i64 (i : Int)))) (by kernel_rfl) ?_ (fun hHeld => ?_)
     ·(try dsimp only); first | exact KS.out _ D0.out | exact KS.out _ D0r.out
     refine tkW 0 oInnerSO15 ?v4_0 ?hy4_0 ?r4_0
     case hy4_0 => (intro w hSw; (try dsimp only at hSw); (try unfold oInnerSO15); go_simp; try (with_reducible rfl))
     (try simp only [oInnerSO15, Act.put, zA, zB, zC])
     refine tkW 1 oInnerSO16 ?v4_1 ?hy4_1 ?r4_1
     case hy4_1 => (intro w hSw; (try dsimp only at hSw); (try unfold oInnerSO16); go_simp; try (with_reducible rfl))
     (try simp only [oInnerSO16, Act.put, zA, zB, zC])
     refine tkW 2 oInnerSO17 ?v4_2 ?hy4_2 ?r4_2
     case hy4_2 => (intro w hSw; (try dsimp only at hSw); (try unfold oInnerSO17); go_simp; try (with_reducible rfl))
     (try simp only [oInnerSO17, Act.put, zA, zB, zC])
     refine tkW 3 oInnerSO18 ?v4_3 ?hy4_3 ?r4_3
     case hy4_3 => (intro w hSw; (try dsimp only at hSw); (try unfold oInnerSO18); go_simp; try (with_reducible rfl))
     (try simp only [oInnerSO18, Act.put, zA, zB, zC])
     refine tkW 4 oInnerSO19 ?v4_4 ?hy4_4 ?r4_4
     case hy4_4 => (intro w hSw; (try dsimp only at hSw); (try unfold oInnerSO19); go_simp; try (with_reducible rfl))
     (try simp only [oInnerSO19, Act.put, zA, zB, zC])
     refine tkW 5 oInnerSO20 ?v4_5 ?hy4_5 ?r4_5
     case hy4_5 => (intro w hSw; (try dsimp only at hSw); (try unfold oInnerSO20); go_simp; try (with_reducible rfl))
     (try simp only [oInnerSO20, Act.put, zA, zB, zC])
     refine wpAnyH_ready (rs := [6]) (by kernel_rfl) (by simp) ?_
     refine AllReadyH.cons (o := oInnerSO21) rfl (fun K hK => ?_) AllReadyH.nil
     ((try unfold oInnerSO21); go_simp)
     go_at_call 64; (with_reducible refine (Calls.mono (C1.out _ D0.out)) ?_); rintro e w1 ⟨rfl, b1⟩; (have D1 := Lib.hid (below_step D0.out b1)); clear b1
     refine hK.out _ _ ?_ (fun hHeld2 => ?_)
     ·(try dsimp only); exact KS.out _ D1.out
     clear hK K
     (try simp only [oInnerSO21, Act.put, zA, zB, zC])
     refine wpAnyH_ready (rs := [7]) (by kernel_rfl) (by simp) ?_
     refine AllReadyH.cons (o := oInnerSO22) rfl (fun K hK => ?_) AllReadyH.nil
     ((try unfold oInnerSO22); go_simp)
     go_at_call 17; (with_reducible refine (Calls.mono (I1.out _ D1.out)) ?_); rintro e w9 ⟨rfl, rfl⟩
     refine hK.out _ _ ?_ (fun hHeld2 => ?_)
     ·(try dsimp only); exact KS.out _ D1.out
     clear hK K
     (try simp only [oInnerSO22, Act.put, zA, zB, zC])
     refine tkW 8 oInnerSO23 ?v4_8 ?hy4_8 ?r4_8
     case hy4_8 => (intro w hSw; (try dsimp only at hSw); (try unfold oInnerSO23); go_simp; try (with_reducible rfl))
     (try simp only [oInnerSO23, Act.put, zA, zB, zC])
     refine tkW 9 oInnerSO24 ?v4_9 ?hy4_9 ?r4_9
     case hy4_9 => (intro w hSw; (try dsimp only at hSw); (try unfold oInnerSO24); go_simp; try (with_reducible rfl))
     (try simp only [oInnerSO24, Act.put, zA, zB, zC])
     refine tkU 10 oInnerSO25 ?_
     (try simp only [oInnerSO25, Act.put, zA, zB, zC])
     refine tkU 11 oInnerSO26 ?_
     (try simp only [oInnerSO26, Act.put, zA, zB, zC])
     refine tkU 12 oInnerSO27 ?_
     (try simp only [oInnerSO27, Act.put, zA, zB, zC])
     refine tkU 13 oInnerSO28 ?_
     (try simp only [oInnerSO28, Act.put, zA, zB, zC])
     refine tkU 14 oInnerSO29 ?_
     (try simp only [oInnerSO29, Act.put, zA, zB, zC])
     refine tkU 15 oInnerSO30 ?_
     (try simp only [oInnerSO30, Act.put, zA, zB, zC])
     refine tkU 16 oInnerSO31 ?_
     (try simp only [oInnerSO31, Act.put, zA, zB, zC])
     refine tkU 17 oInnerSO32 ?_
     (try simp only [oInnerSO32, Act.put, zA, zB, zC])
     refine tkU 18 oInnerSO33 ?_
     (try simp only [oInnerSO33, Act.put, zA, zB, zC])
     refine tkW 19 oInnerSO34 ?v4_19 ?hy4_19 ?r4_19
     case hy4_19 => (intro w hSw; (try dsimp only at hSw); (try unfold oInnerSO34); go_simp; try (with_reducible rfl))
     (try simp only [oInnerSO34, Act.put, zA, zB, zC])
     refine wpAnyH_done (by kernel_rfl) ?_ _
     all_goals
      go_wp2_with fail
      go_meet
      exact ⟨by rw [HF.out], by first | exact D1.out | exact D1.out.drew⟩
   case rest =>
    obtain ⟨rfl, hbx⟩ := hcut
    have HBX := Lib.hid hbx
    obtain ⟨_, _, q2, q3⟩ := KS.out wc hbx
    have hbw : b < wc.heap.size := Nat.lt_of_lt_of_le hX9 hbx.size
    have hsx := hbx.size
    clear hbx g0 g1 p0 p1 C1 C2 I1 I2 D0 D0r KS HO
    cases q with
    | true =>
     have HF := Lib.hid (show done ++ [((j : Int), (i : Int))] = (T.take (k + 1)).filter (innerP rs ss) by rw [HST.out]; simp [← HQ.out])
     have HO := Lib.hid ((HN.out.below HBX.out).1.alloc (Obj.cells #[Value.int .i64 (j : Int), Value.int .i64 (i : Int)] 50))
     have RN := Lib.hid (show Row 0 (wc.alloc (Obj.cells #[Value.int .i64 (j : Int), Value.int .i64 (i : Int)] 50)).heap.size (wc.alloc (Obj.cells #[Value.int .i64 (j : Int), Value.int .i64 (i : Int)] 50)) (some ⟨wc.heap.size, 0, none⟩) [.int .i64 (j : Int), .int .i64 (i : Int)] from row_new (heap_alloc_new wc (Obj.cells #[Value.int .i64 (j : Int), Value.int .i64 (i : Int)] 50)))
     have hb1 := Lib.hid (show Below wc.heap.size wc (wc.alloc (Obj.cells #[Value.int .i64 (j : Int), Value.int .i64 (i : Int)] 50)) from (Below.refl _ _).alloc (Nat.le_refl _) _)
     go_upto_region 5 with (at_builtin; go_loud (refine wpList_append_rowW rfl _ _ _ rfl 50 i0 (.agg #[.int .i64 0, .int .i64 0]) 2 16 (w.heap.size + 1) Tryz.underlying37 hi hz0 hz1 hz2 rfl (by decide) _ done.length (ecells done) rfl HO.out _ 1 _ [.int .i64 (j : Int), .int .i64 (i : Int)] rfl rfl RN.out (by simp [Value.oneCell']) (by unfold maxLen; omega) (by omega) (by simp; omega) ?_); intro v5 w5 hown5 hgrow hwh)
     have NN := Lib.hid ((HN.out.below HBX.out).grow (e := ((j : Int), (i : Int))) (Nat.le_refl _) hb1.out hgrow hown5)
     have BB := Lib.hid (ownS_grown (OwnS.below (OwnS.below HB1.out HBX.out) hb1.out) hgrow (fun g hg => by have := HAP.out g hg; have := HS1.out; omega))
     have AP := Lib.hid (Apart.next HAP.out hwh (Nat.le_trans hsw (Nat.le_trans HBX.out.size hb1.out.size)))
     clear hown5 hgrow hwh q2 q3
     go_wp2
     go_roundw
     case rel => exact ⟨k + 1, done ++ [((j : Int), (i : Int))], by omega, by go_num, HF, NN.out, BB.out, AP.out⟩
     case measure => simp [intOf]; omega
    | false =>
     have HF := Lib.hid (show done = (T.take (k + 1)).filter (innerP rs ss) by rw [HST.out]; simp [← HQ.out])
     have NN := Lib.hid (HN.out.below HBX.out)
     have BB := Lib.hid (OwnS.below HB1.out HBX.out)
     have AP := HAP
     go_wp2
     go_roundw
     case rel => exact ⟨k + 1, done, by omega, by go_num, HF, NN.out, BB.out, AP.out⟩
     case measure => simp [intOf]; omega
  ·obtain rfl : k = T.length := by omega
   have FIN := Lib.hid (HN.out.gave (Nat.le_refl _))
   have HF := Lib.hid (show T.filter (innerP rs ss) = done by rw [HD.out, List.take_length])
   go_wp2
   go_ret
   rw [HF.out]
   exact FIN.out
end GraphS
end Go.Proofs.YtbbllkhmenpnlaaGreat
