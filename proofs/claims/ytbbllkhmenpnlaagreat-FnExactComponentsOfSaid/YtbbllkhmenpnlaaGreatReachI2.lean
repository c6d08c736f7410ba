import Derived.Test.YtbbllkhmenpnlaaGreatReachOf
import Derived.Deep.RegionHeld3
/-
  Who is called, who is closed, who is open at the start, of the program (made by tools/s13r.py).
-/
namespace Go.Proofs.YtbbllkhmenpnlaaGreat
open Go.RowKit
def oReachI2O13 : Oper := { dst := some 5, op := Op.assign (Operand.tmp 18), type := 4, pos := "l13_graph.go:65", after := #[{ on := 12, ground := Ground.data }, { on := 9, ground := Ground.chain }, { on := 0, ground := Ground.phase }, { on := 1, ground := Ground.phase }, { on := 2, ground := Ground.phase }, { on := 3, ground := Ground.phase }, { on := 4, ground := Ground.phase }, { on := 5, ground := Ground.phase }, { on := 6, ground := Ground.phase }, { on := 7, ground := Ground.phase }, { on := 8, ground := Ground.phase }, { on := 9, ground := Ground.phase }, { on := 10, ground := Ground.phase }, { on := 11, ground := Ground.phase }, { on := 12, ground := Ground.phase }], guard := none }
def oReachI2O12 : Oper := { dst := some 18, op := Op.pick (Operand.tmp 12) (Operand.tmp 17) (Operand.const (Value.bool false)), type := 4, pos := "l13_graph.go:65", after := #[{ on := 6, ground := Ground.data }, { on := 11, ground := Ground.data }], guard := none }
def oReachI2O11 : Oper := { dst := some 17, op := Op.binOp BinOp.eql 9 (Operand.tmp 15) (Operand.tmp 16) 9, type := 4, pos := "l13_graph.go:65", after := #[{ on := 9, ground := Ground.data }, { on := 10, ground := Ground.data }, { on := 6, ground := Ground.guard }], guard := some (6, true) }
def oReachI2O10 : Oper := { dst := some 15, op := Op.call { callee := Callee.value (Operand.func 59), args := #[Operand.tmp 13, Operand.tmp 14], argTypes := #[27, 50] }, type := 9, pos := "l13_graph.go:65", after := #[{ on := 7, ground := Ground.data }, { on := 8, ground := Ground.data }, { on := 6, ground := Ground.chain }, { on := 6, ground := Ground.guard }], guard := some (6, true) }
def oReachI2O9 : Oper := { dst := some 16, op := Op.load 9 (Operand.tmp 3), type := 9, pos := "l13_graph.go:65", after := #[{ on := 6, ground := Ground.guard }], guard := some (6, true) }
def oReachI2O8 : Oper := { dst := some 14, op := Op.load 50 (Operand.tmp 4), type := 50, pos := "l13_graph.go:65", after := #[{ on := 6, ground := Ground.guard }], guard := some (6, true) }
def oReachI2O7 : Oper := { dst := some 13, op := Op.load 27 (Operand.tmp 2), type := 27, pos := "l13_graph.go:65", after := #[{ on := 6, ground := Ground.guard }], guard := some (6, true) }
def oReachI2O6 : Oper := { dst := some 12, op := Op.move (Operand.tmp 11), type := 4, pos := "l13_graph.go:65", after := #[{ on := 5, ground := Ground.data }, { on := 3, ground := Ground.chain }], guard := none }
def oReachI2O5 : Oper := { dst := some 11, op := Op.unOp UnOp.not 4 (Operand.tmp 10), type := 4, pos := "l13_graph.go:65", after := #[{ on := 4, ground := Ground.data }], guard := none }
def oReachI2O4 : Oper := { dst := some 10, op := Op.lookup 74 (Operand.tmp 6) (Operand.tmp 9) false, type := 4, pos := "l13_graph.go:65", after := #[{ on := 0, ground := Ground.data }, { on := 3, ground := Ground.data }], guard := none }
def oReachI2O3 : Oper := { dst := some 9, op := Op.call { callee := Callee.value (Operand.func 58), args := #[Operand.tmp 7, Operand.tmp 8], argTypes := #[27, 50] }, type := 9, pos := "l13_graph.go:65", after := #[{ on := 1, ground := Ground.data }, { on := 2, ground := Ground.data }], guard := none }
def oReachI2O2 : Oper := { dst := some 8, op := Op.load 50 (Operand.tmp 4), type := 50, pos := "l13_graph.go:65", after := #[], guard := none }
def oReachI2O1 : Oper := { dst := some 7, op := Op.load 27 (Operand.tmp 2), type := 27, pos := "l13_graph.go:65", after := #[], guard := none }
def oReachI2O0 : Oper := { dst := some 6, op := Op.load 74 (Operand.tmp 1), type := 74, pos := "l13_graph.go:65", after := #[], guard := none }
namespace GraphI
open RowK Mem GraphM ProgM MapK
set_option maxHeartbeats 4000000 in
set_option maxRecDepth 100000 in
theorem callIn (bo bp bn b : Nat) (A B : Option Addr) (n c d : Nat) (nm : ByteArray) (f : ByteArray → Bool) (sz : Nat) (rs : List RuleT) (k i : Nat) (w : World) (VO : Lvar w bo #[.map (some b)]) (VP : Lvar w bp #[.slice A n c, .slice B rs.length d]) (VN : Lvar w bn #[.string nm])
  (M : MapO w b f sz) (hB : ArgS rule w B rs.length d rs) (hl : rs.length + szs szRuleU rs ≤ 9000000) (hk : k < rs.length) (hi : i < rs[k].2.2.2.1.length) :
  Calls Tryz.prog 180 #[.agg #[.int .i64 (k : Int), .int .i64 (i : Int)], .pointer (some ⟨bo, 0, none⟩), .pointer (some ⟨bp, 0, none⟩), .pointer (some ⟨bn, 0, none⟩)] w fun e w' => e = .returned (.bool (calledP rs f nm ((k : Int), (i : Int)))) ∧ Below w.heap.size w w' := by
 have b0 : Below w.heap.size w (w.alloc (Obj.cells #[Value.int .i64 (k : Int), Value.int .i64 (i : Int)] 50)) := (Below.refl _ _).alloc (Nat.le_refl _) _
 have V0 := Lvar.new w #[Value.int .i64 (k : Int), Value.int .i64 (i : Int)] 50
 have VO0 := VO.below b0
 have VP0 := VP.below b0
 have VN0 := VN.below b0
 have M0 := M.below b0
 have hfs := from_size (i := i) hk hl
 have KS := Lib.hid (fun (W : World) (h : Below (w.alloc (Obj.cells #[Value.int .i64 (k : Int), Value.int .i64 (i : Int)] 50)).heap.size (w.alloc (Obj.cells #[Value.int .i64 (k : Int), Value.int .i64 (i : Int)] 50)) W) => (⟨(VO0.below h).cell 0 _ rfl, (VP0.below h).cell 0 _ rfl, (VP0.below h).cell 1 _ rfl, (VN0.below h).cell 0 _ rfl, (V0.below h).cell 0 _ rfl, (V0.below h).cell 1 _ rfl, (M0.below h).look _ (by unfold maxLen; omega)⟩ : W.cell? ⟨bo, 0, none⟩ = some (Value.map (some b)) ∧ W.cell? ⟨bp, 0, none⟩ = some (Value.slice A n c) ∧ W.cell? ⟨bp, 1, none⟩ = some (Value.slice B rs.length d) ∧ W.cell? ⟨bn, 0, none⟩ = some (Value.string nm) ∧ W.cell? ⟨w.heap.size, 0, none⟩ = some (Value.int .i64 (k : Int)) ∧ W.cell? ⟨w.heap.size, 1, none⟩ = some (Value.int .i64 (i : Int)) ∧ (Instr.lookup 74 (.map (some b)) (.string (fromE rs ((k : Int), (i : Int)))) false).run Tryz.prog W = .ok (.bool (f (fromE rs ((k : Int), (i : Int))))) W))
 have C1 := Lib.hid (fun (W : World) (h : Below (w.alloc (Obj.cells #[Value.int .i64 (k : Int), Value.int .i64 (i : Int)] 50)).heap.size (w.alloc (Obj.cells #[Value.int .i64 (k : Int), Value.int .i64 (i : Int)] 50)) W) => callerOf A B n c d rs k i W (hB.below (below_step b0 h)) hl hk)
 have C2 := Lib.hid (fun (W : World) (h : Below (w.alloc (Obj.cells #[Value.int .i64 (k : Int), Value.int .i64 (i : Int)] 50)).heap.size (w.alloc (Obj.cells #[Value.int .i64 (k : Int), Value.int .i64 (i : Int)] 50)) W) => calledBy A B n c d rs k i W (hB.below (below_step b0 h)) hl hk hi)
 have D0 := Lib.hid (Below.refl (w.alloc (Obj.cells #[Value.int .i64 (k : Int), Value.int .i64 (i : Int)] 50)).heap.size (w.alloc (Obj.cells #[Value.int .i64 (k : Int), Value.int .i64 (i : Int)] 50))).drew
 have D0r := Lib.hid (Below.refl (w.alloc (Obj.cells #[Value.int .i64 (k : Int), Value.int .i64 (i : Int)] 50)).heap.size (w.alloc (Obj.cells #[Value.int .i64 (k : Int), Value.int .i64 (i : Int)] 50)))
 have HO := Lib.hid (show calledP rs f nm ((k : Int), (i : Int)) = (!f (fromE rs ((k : Int), (i : Int))) && ((toE rs ((k : Int), (i : Int))).toList == nm.toList)) from rfl)
 have B0 := Lib.hid b0
 generalize calledP rs f nm ((k : Int), (i : Int)) = R at *
 generalize fromE rs ((k : Int), (i : Int)) = f1 at *
 generalize toE rs ((k : Int), (i : Int)) = f2 at *
 generalize f f1 = q at *
 clear VO VP VN M hB hl hk hi b0 V0 VO0 VP0 VN0 M0 hfs
 cases q with
 | false =>
  have HF := Lib.hid (show R = (f2.toList == nm.toList) by rw [HO.out]; rfl)
  go_enter Tryz.func180, Tryz.ntmps180
  go_wp2_with fail
  refine wp_region_held_drew (S := (fun W => W.cell? ⟨bo, 0, none⟩ = some (Value.map (some b)) ∧ W.cell? ⟨bp, 0, none⟩ = some (Value.slice A n c) ∧ W.cell? ⟨bp, 1, none⟩ = some (Value.slice B rs.length d) ∧ W.cell? ⟨bn, 0, none⟩ = some (Value.string nm) ∧ W.cell? ⟨w.heap.size, 0, none⟩ = some (Value.int .i64 (k : Int)) ∧ W.cell? ⟨w.heap.size, 1, none⟩ = some (Value.int .i64 (i : Int)) ∧ (Instr.lookup 74 (.map (some b)) (.string f1) false).run Tryz.prog W = .ok (.bool false) W)) (by kernel_rfl) ?_ (fun hHeld => ?_)
  ·(try dsimp only); first | exact KS.out _ D0.out | exact KS.out _ D0r.out
  refine tkW 0 oReachI2O0 ?v5_0 ?hy5_0 ?r5_0
  case hy5_0 => (intro w hSw; (try dsimp only at hSw); (try unfold oReachI2O0); go_simp; try (with_reducible rfl))
  (try simp only [oReachI2O0, Act.put, zA, zB, zC])
  refine tkW 1 oReachI2O1 ?v5_1 ?hy5_1 ?r5_1
  case hy5_1 => (intro w hSw; (try dsimp only at hSw); (try unfold oReachI2O1); go_simp; try (with_reducible rfl))
  (try simp only [oReachI2O1, Act.put, zA, zB, zC])
  refine tkW 2 oReachI2O2 ?v5_2 ?hy5_2 ?r5_2
  case hy5_2 => (intro w hSw; (try dsimp only at hSw); (try unfold oReachI2O2); go_simp; try (with_reducible rfl))
  (try simp only [oReachI2O2, Act.put, zA, zB, zC])
  refine wpAnyH_ready (rs := [3]) (by kernel_rfl) (by simp) ?_
  refine AllReadyH.cons (o := oReachI2O3) rfl (fun K hK => ?_) AllReadyH.nil
  ((try unfold oReachI2O3); go_simp)
  go_at_call 58; (with_reducible refine (Calls.mono (C1.out _ D0.out)) ?_); rintro e w1 ⟨rfl, b1⟩; (have D1 := Lib.hid (below_step D0.out b1)); clear b1
  refine hK.out _ _ ?_ (fun hHeld2 => ?_)
  ·(try dsimp only); exact KS.out _ D1.out
  clear hK K
  (try simp only [oReachI2O3, Act.put, zA, zB, zC])
  refine tkW 4 oReachI2O4 ?v5_4 ?hy5_4 ?r5_4
  case hy5_4 => (intro w hSw; (try dsimp only at hSw); (try unfold oReachI2O4); go_simp; try (with_reducible rfl))
  (try simp only [oReachI2O4, Act.put, zA, zB, zC])
  refine tkW 5 oReachI2O5 ?v5_5 ?hy5_5 ?r5_5
  case hy5_5 => (intro w hSw; (try dsimp only at hSw); (try unfold oReachI2O5); go_simp; try (with_reducible rfl))
  (try simp only [oReachI2O5, Act.put, zA, zB, zC])
  refine tkW 6 oReachI2O6 ?v5_6 ?hy5_6 ?r5_6
  case hy5_6 => (intro w hSw; (try dsimp only at hSw); (try unfold oReachI2O6); go_simp; try (with_reducible rfl))
  (try simp only [oReachI2O6, Act.put, zA, zB, zC])
  refine tkW 7 oReachI2O7 ?v5_7 ?hy5_7 ?r5_7
  case hy5_7 => (intro w hSw; (try dsimp only at hSw); (try unfold oReachI2O7); go_simp; try (with_reducible rfl))
  (try simp only [oReachI2O7, Act.put, zA, zB, zC])
  refine tkW 8 oReachI2O8 ?v5_8 ?hy5_8 ?r5_8
  case hy5_8 => (intro w hSw; (try dsimp only at hSw); (try unfold oReachI2O8); go_simp; try (with_reducible rfl))
  (try simp only [oReachI2O8, Act.put, zA, zB, zC])
  refine tkW 10 oReachI2O9 ?v5_10 ?hy5_10 ?r5_10
  case hy5_10 => (intro w hSw; (try dsimp only at hSw); (try unfold oReachI2O9); go_simp; try (with_reducible rfl))
  (try simp only [oReachI2O9, Act.put, zA, zB, zC])
  refine wpAnyH_ready (rs := [9]) (by kernel_rfl) (by simp) ?_
  refine AllReadyH.cons (o := oReachI2O10) rfl (fun K hK => ?_) AllReadyH.nil
  ((try unfold oReachI2O10); go_simp)
  go_at_call 59; (with_reducible refine (Calls.mono (C2.out _ D1.out)) ?_); rintro e w2 ⟨rfl, b2⟩; (have D2 := Lib.hid (below_step D1.out b2)); clear b2
  refine hK.out _ _ ?_ (fun hHeld2 => ?_)
  ·(try dsimp only); exact KS.out _ D2.out
  clear hK K
  (try simp only [oReachI2O10, Act.put, zA, zB, zC])
  refine tkW 11 oReachI2O11 ?v5_11 ?hy5_11 ?r5_11
  case hy5_11 => (intro w hSw; (try dsimp only at hSw); (try unfold oReachI2O11); go_simp; try (with_reducible rfl))
  (try simp only [oReachI2O11, Act.put, zA, zB, zC])
  refine tkW 12 oReachI2O12 ?v5_12 ?hy5_12 ?r5_12
  case hy5_12 => (intro w hSw; (try dsimp only at hSw); (try unfold oReachI2O12); go_simp; try (with_reducible rfl))
  (try simp only [oReachI2O12, Act.put, zA, zB, zC])
  refine tkW 13 oReachI2O13 ?v5_13 ?hy5_13 ?r5_13
  case hy5_13 => (intro w hSw; (try dsimp only at hSw); (try unfold oReachI2O13); go_simp; try (with_reducible rfl))
  (try simp only [oReachI2O13, Act.put, zA, zB, zC])
  refine wpAnyH_done (by kernel_rfl) ?_ _
  go_wp2
  go_ret
  exact ⟨by rw [HF.out]; rfl, by first | exact below_step B0.out D2.out | exact below_step B0.out D2.out.drew⟩
 | true =>
  have HF := Lib.hid (show R = false by rw [HO.out]; rfl)
  go_enter Tryz.func180, Tryz.ntmps180
  go_wp2_with fail
  refine wp_region_held_drew (S := (fun W => W.cell? ⟨bo, 0, none⟩ = some (Value.map (some b)) ∧ W.cell? ⟨bp, 0, none⟩ = some (Value.slice A n c) ∧ W.cell? ⟨bp, 1, none⟩ = some (Value.slice B rs.length d) ∧ W.cell? ⟨bn, 0, none⟩ = some (Value.string nm) ∧ W.cell? ⟨w.heap.size, 0, none⟩ = some (Value.int .i64 (k : Int)) ∧ W.cell? ⟨w.heap.size, 1, none⟩ = some (Value.int .i64 (i : Int)) ∧ (Instr.lookup 74 (.map (some b)) (.string f1) false).run Tryz.prog W = .ok (.bool true) W)) (by kernel_rfl) ?_ (fun hHeld => ?_)
  ·(try dsimp only); first | exact KS.out _ D0.out | exact KS.out _ D0r.out
  refine tkW 0 oReachI2O0 ?v6_0 ?hy6_0 ?r6_0
  case hy6_0 => (intro w hSw; (try dsimp only at hSw); (try unfold oReachI2O0); go_simp; try (with_reducible rfl))
  (try simp only [oReachI2O0, Act.put, zA, zB, zC])
  refine tkW 1 oReachI2O1 ?v6_1 ?hy6_1 ?r6_1
  case hy6_1 => (intro w hSw; (try dsimp only at hSw); (try unfold oReachI2O1); go_simp; try (with_reducible rfl))
  (try simp only [oReachI2O1, Act.put, zA, zB, zC])
  refine tkW 2 oReachI2O2 ?v6_2 ?hy6_2 ?r6_2
  case hy6_2 => (intro w hSw; (try dsimp only at hSw); (try unfold oReachI2O2); go_simp; try (with_reducible rfl))
  (try simp only [oReachI2O2, Act.put, zA, zB, zC])
  refine wpAnyH_ready (rs := [3]) (by kernel_rfl) (by simp) ?_
  refine AllReadyH.cons (o := oReachI2O3) rfl (fun K hK => ?_) AllReadyH.nil
  ((try unfold oReachI2O3); go_simp)
  go_at_call 58; (with_reducible refine (Calls.mono (C1.out _ D0.out)) ?_); rintro e w1 ⟨rfl, b1⟩; (have D1 := Lib.hid (below_step D0.out b1)); clear b1
  refine hK.out _ _ ?_ (fun hHeld2 => ?_)
  ·(try dsimp only); exact KS.out _ D1.out
  clear hK K
  (try simp only [oReachI2O3, Act.put, zA, zB, zC])
  refine tkW 4 oReachI2O4 ?v6_4 ?hy6_4 ?r6_4
  case hy6_4 => (intro w hSw; (try dsimp only at hSw); (try unfold oReachI2O4); go_simp; try (with_reducible rfl))
  (try simp only [oReachI2O4, Act.put, zA, zB, zC])
  refine tkW 5 oReachI2O5 ?v6_5 ?hy6_5 ?r6_5
  case hy6_5 => (intro w hSw; (try dsimp only at hSw); (try unfold oReachI2O5); go_simp; try (with_reducible rfl))
  (try simp only [oReachI2O5, Act.put, zA, zB, zC])
  refine tkW 6 oReachI2O6 ?v6_6 ?hy6_6 ?r6_6
  case hy6_6 => (intro w hSw; (try dsimp only at hSw); (try unfold oReachI2O6); go_simp; try (with_reducible rfl))
  (try simp only [oReachI2O6, Act.put, zA, zB, zC])
  refine tkU 7 oReachI2O7 ?_
  (try simp only [oReachI2O7, Act.put, zA, zB, zC])
  refine tkU 8 oReachI2O8 ?_
  (try simp only [oReachI2O8, Act.put, zA, zB, zC])
  refine tkU 9 oReachI2O10 ?_
  (try simp only [oReachI2O10, Act.put, zA, zB, zC])
  refine tkU 10 oReachI2O9 ?_
  (try simp only [oReachI2O9, Act.put, zA, zB, zC])
  refine tkU 11 oReachI2O11 ?_
  (try simp only [oReachI2O11, Act.put, zA, zB, zC])
  refine tkW 12 oReachI2O12 ?v6_12 ?hy6_12 ?r6_12
  case hy6_12 => (intro w hSw; (try dsimp only at hSw); (try unfold oReachI2O12); go_simp; try (with_reducible rfl))
  (try simp only [oReachI2O12, Act.put, zA, zB, zC])
  refine tkW 13 oReachI2O13 ?v6_13 ?hy6_13 ?r6_13
  case hy6_13 => (intro w hSw; (try dsimp only at hSw); (try unfold oReachI2O13); go_simp; try (with_reducible rfl))
  (try simp only [oReachI2O13, Act.put, zA, zB, zC])
  refine wpAnyH_done (by kernel_rfl) ?_ _
  go_wp2
  go_ret
  exact ⟨by rw [HF.out]; rfl, by first | exact below_step B0.out D1.out | exact below_step B0.out D1.out.drew⟩
set_option maxHeartbeats 4000000 in
set_option maxRecDepth 100000 in
theorem isCalled (b : Nat) (A B : Option Addr) (n c d : Nat) (nm : ByteArray) (f : ByteArray → Bool) (sz : Nat) (rs : List RuleT) (w : World) (M : MapO w b f sz) (hB : ArgS rule w B rs.length d rs) (hl : rs.length + szs szRuleU rs ≤ 9000000) :
  Calls Tryz.prog 134 #[.map (some b), .agg #[.slice A n c, .slice B rs.length d], .string nm] w fun e w' => e = .returned (.bool (calledF rs f nm)) ∧ Below w.heap.size w w' := by
 have eg : ∀ args W, (callFunc 180 args).run Tryz.prog W = .ok (.enter 180 args) W := enters_of Tryz.func180 (by kernel_rfl) rfl
 have b0 : Below w.heap.size w (((w.alloc (Obj.cells #[Value.map (some b)] 74)).alloc (Obj.cells #[Value.slice A n c, Value.slice B rs.length d] 27)).alloc (Obj.cells #[Value.string nm] 9)) := (((Below.refl _ _).alloc (Nat.le_refl _) _).alloc (by simp) _).alloc (by simp; omega) _
 have V0 := ((Lvar.new w #[Value.map (some b)] 74).alloc (Obj.cells #[Value.slice A n c, Value.slice B rs.length d] 27)).alloc (Obj.cells #[Value.string nm] 9)
 have V1 := (Lvar.new (w.alloc (Obj.cells #[Value.map (some b)] 74)) #[Value.slice A n c, Value.slice B rs.length d] 27).alloc (Obj.cells #[Value.string nm] 9)
 have V2 := Lvar.new ((w.alloc (Obj.cells #[Value.map (some b)] 74)).alloc (Obj.cells #[Value.slice A n c, Value.slice B rs.length d] 27)) #[Value.string nm] 9
 simp only [World.size_alloc] at V1 V2
 have EW := Lib.hid (edgesWhere 180 #[.pointer (some ⟨w.heap.size, 0, none⟩), .pointer (some ⟨w.heap.size + 1, 0, none⟩), .pointer (some ⟨w.heap.size + 1 + 1, 0, none⟩)] eg (calledP rs f nm) A B n c d rs _ (hB.below b0) hl (fun k i W2 h2 hx => by
  obtain ⟨hk, hi⟩ := hx
  have h4 := below_step b0 h2
  exact callIn w.heap.size (w.heap.size + 1) (w.heap.size + 1 + 1) b A B n c d nm f sz rs k i W2 (V0.below h2) (V1.below h2) (V2.below h2) (M.below h4) (hB.below h4) hl hk hi))
 have B0 := Lib.hid b0
 have HO := Lib.hid (show calledF rs f nm = decide (0 < ((edgesA rs).filter (calledP rs f nm)).length) from rfl)
 clear M hB hl b0 V0 V1 V2
 unfold GaveE at EW
 generalize calledF rs f nm = R at *
 generalize (edgesA rs).filter (calledP rs f nm) = T at *
 go_enter Tryz.func134, Tryz.ntmps134
 go_wp2_with fail
 refine (Calls.mono EW.out) ?_
 rintro e w1 ⟨X, cx, rfl, oX, b1⟩
 have B1 := Lib.hid (below_step B0.out b1)
 clear b1 oX
 have HF := Lib.hid (show R = decide ((T.length : Int) > 0) by rw [HO.out, Bool.eq_iff_iff]; simp only [decide_eq_true_iff]; omega)
 go_wp2
 go_ret
 exact ⟨by rw [HF.out]; simp, B1.out⟩
def GaveO (w : World) (ss : List ByteArray) (e : Ending) (w' : World) : Prop := ∃ v, e = .returned v ∧ w'.ownsRow w.heap.size 9 1 v ss.length (ss.map Value.string) ∧ Below w.heap.size w w'
theorem GaveO.gave {w w' : World} {ss : List ByteArray} {e : Ending} (h : GaveO w ss e w') : ProgI.GaveS w ss e w' := by
 obtain ⟨v, rfl, h1, h2⟩ := h
 exact ProgI.gave_own h1 h2
theorem gaveO_to {w w1 w2 : World} {ss : List ByteArray} {e : Ending} (hb : Below w.heap.size w w1) (h : GaveO w1 ss e w2) : GaveO w ss e w2 := by
 obtain ⟨v, rfl, ⟨e, h1⟩, h2⟩ := h
 refine ⟨v, rfl, ⟨e, ?_⟩, hb.trans (h2.mono hb.size)⟩
 rcases h1 with h | ⟨g, cap, cur, a, b, c⟩
 ·exact Or.inl h
 ·exact Or.inr ⟨g, cap, cur, a, Nat.le_trans hb.size b, c⟩
set_option maxHeartbeats 4000000 in
set_option maxRecDepth 100000 in
theorem closedO (b : Nat) (A : Option Addr) (VB : Value) (c : Nat) (f : ByteArray → Bool) (sz : Nat) (fs : List FunctionT) (w : World) (M : MapO w b f sz) (hA : ArgS Mem.fn w A fs.length c fs) (hl : fs.length + szs szFunctionU fs ≤ 9000000) :
  Calls Tryz.prog 88 #[.map (some b), .agg #[.slice A fs.length c, VB]] w (GaveO w ((names fs).filter fun x => !f x)) := by
 obtain ⟨i0, hi, hz0, hz1, hz2⟩ := info_parts strInfoU
 have b0 : Below w.heap.size w (w.alloc (Obj.cells #[Value.slice A fs.length c, VB] 27)) := (Below.refl _ _).alloc (Nat.le_refl _) _
 have B0 := Lib.hid b0
 have HA := Lib.hid hA
 have HM := Lib.hid M
 have hfl : fs.length ≤ 9000000 := by omega
 have HL := Lib.hid hl
 clear hA M hl b0
 go_enter Tryz.func88, Tryz.ntmps88
 go_wp2
 go_loopw [5, 11] (fun v i wr => ∃ (k : Nat) (done : List ByteArray), k ≤ fs.length ∧ i = .int .i64 k ∧ Hid (done = ((fs.take k).map (·.1)).filter fun x => !f x) ∧ ProgI.Names10 w v done wr) (fun _ i _ => fs.length - (intOf i).toNat)
 case atStart => exact ⟨0, [], Nat.zero_le _, rfl, Lib.hid rfl, World.ownsRow_nil _ _ _ _, B0.out⟩
 case round =>
  obtain ⟨k, done, hk, rfl, hdone, hN⟩ := hrel
  have HD := Lib.hid hdone.out
  have HN := Lib.hid hN
  have hdl : done.length ≤ 9000000 := by
   rw [HD.out]
   have h2 := List.length_filter_le (fun x => !f x) ((fs.take k).map (·.1))
   rw [List.length_map, List.length_take] at h2
   omega
  clear hdone hN
  by_cases hlt : k < fs.length
  ·obtain ⟨b1, o1, A1, c1, A3, c3, rfl, hbb, g0, g1, g2, g3, _, _⟩ := (HA.out.below HN.out.2).fn_at hlt
   have hzs : fs[k].1.size ≤ 9000000 := by
    have h1 := HL.out
    have h2 := szs_mem (sz := szFunctionU) (List.getElem_mem hlt)
    simp only [szFunctionU] at h2
    omega
   have HST := Lib.hid (show ((fs.take (k + 1)).map (·.1)).filter (fun x => !f x) = done ++ [fs[k].1].filter (fun x => !f x) by rw [names_take fs hlt, List.filter_append, HD.out])
   generalize fs[k] = x at *
   obtain ⟨z0, x1, z2, x3⟩ := x
   simp only at g0 g1 g2 g3 hzs HST
   have hi0 : (0 : Int) ≤ (k : Int) := by omega
   have hi1 : (k : Int) < (fs.length : Int) := by omega
   have hd : Below wr.heap.size wr (wr.alloc (Obj.cells #[Value.string z0, Value.slice A1 x1.length c1, Value.bool z2, Value.slice A3 x3.length c3] 98)) := (Below.refl _ _).alloc (Nat.le_refl _) _
   have hlk := ((HM.out.below HN.out.2).below hd).look z0 (by unfold maxLen; omega)
   have HDD := Lib.hid hd
   clear hd
   cases hq : f z0 with
   | true =>
    rw [hq] at hlk
    have HF := Lib.hid (show done = ((fs.take (k + 1)).map (·.1)).filter (fun x => !f x) by rw [HST.out]; simp [hq])
    have NN := Lib.hid (show ProgI.Names10 w _ done _ from ⟨HN.out.1.alloc _, HN.out.2.trans (HDD.out.mono HN.out.2.size)⟩)
    clear hq HST
    go_wp2
    go_roundw
    case rel => exact ⟨k + 1, done, by omega, by go_num, HF, NN.out⟩
    case measure => simp [intOf]; omega
   | false =>
    rw [hq] at hlk
    have HF := Lib.hid (show done ++ [z0] = ((fs.take (k + 1)).map (·.1)).filter (fun x => !f x) by rw [HST.out]; simp [hq])
    have hown := HN.out.1
    have RN := Lib.hid (show Row 0 ((wr.alloc (Obj.cells #[Value.string z0, Value.slice A1 x1.length c1, Value.bool z2, Value.slice A3 x3.length c3] 98)).alloc (Obj.cells #[Value.string z0] 9)).heap.size ((wr.alloc (Obj.cells #[Value.string z0, Value.slice A1 x1.length c1, Value.bool z2, Value.slice A3 x3.length c3] 98)).alloc (Obj.cells #[Value.string z0] 9)) (some ⟨wr.heap.size + 1, 0, none⟩) [.string z0] from by have h9 := row_new (heap_alloc_new (wr.alloc (Obj.cells #[Value.string z0, Value.slice A1 x1.length c1, Value.bool z2, Value.slice A3 x3.length c3] 98)) (Obj.cells #[Value.string z0] 9)); simp only [World.size_alloc] at h9 ⊢; exact h9)
    clear hq HST
    go_wp2_with (at_builtin; (refine wpList_append_rowW rfl _ _ _ rfl 9 i0 (.string ByteArray.empty) 1 16 w.heap.size Tryz.underlying31 hi hz0 hz1 hz2 rfl (by decide) _ done.length (done.map Value.string) rfl ((hown.alloc _).alloc _) _ 1 _ [.string z0] rfl rfl RN.out (by simp [Value.oneCell']) (by unfold maxLen; omega) (by omega) (by have := HN.out.2.size; simp; omega) ?_); intro v5 w5 hown5 hgrow hwh)
    have BB : Below w.heap.size w w5 := ((HN.out.2.trans (HDD.out.mono HN.out.2.size)).alloc (by have := HN.out.2.size; simp; omega) (Obj.cells #[Value.string z0] 9)).grown hgrow (by have := HN.out.2.size; simp; omega) (fun g e => (hown.lt g e).1)
    have NN := Lib.hid (show ProgI.Names10 w v5 (done ++ [z0]) w5 from ⟨by simpa using hown5, BB⟩)
    clear hown5 hgrow hwh hown BB
    go_wp2
    go_roundw
    case rel => exact ⟨k + 1, done ++ [z0], by omega, by go_num, HF, NN.out⟩
    case measure => simp [intOf]; omega
  ·obtain rfl : k = fs.length := by omega
   have FIN := Lib.hid (show GaveO w done (.returned _) wr from ⟨_, rfl, HN.out.1, HN.out.2⟩)
   have HF := Lib.hid (show (names fs).filter (fun x => !f x) = done by rw [HD.out, List.take_length]; rfl)
   go_wp2
   go_ret
   rw [HF.out]
   exact FIN.out
end GraphI
end Go.Proofs.YtbbllkhmenpnlaaGreat

/-
  closeCalled, reachable, ReachableFrom of the program (made by tools/s13r.py).
-/
namespace Go.Proofs.YtbbllkhmenpnlaaGreat
open Go.RowKit
namespace GraphI
open RowK Mem GraphM ProgM MapK
theorem below_but {w0 w w' : World} {b : Nat} (h : Below w0.heap.size w0 w) (hg : w.grownBy w' (some b)) (hb : w0.heap.size ≤ b) : Below w0.heap.size w0 w' := h.grown hg h.size (fun g e => by injection e with e; omega)
set_option maxHeartbeats 4000000 in
set_option maxRecDepth 100000 in
theorem closeCalled (w0 : World) (b : Nat) (A B : Option Addr) (n c d : Nat) (f : ByteArray → Bool) (sz : Nat) (rs : List RuleT) (w : World) (M : MapO w b f sz) (hB : ArgS rule w0 B rs.length d rs) (hl : rs.length + szs szRuleU rs ≤ 9000000) (h0 : Below w0.heap.size w0 w) (hb : w0.heap.size ≤ b) :
  Calls Tryz.prog 90 #[.map (some b), .agg #[.slice A n c, .slice B rs.length d]] w fun e w' => ∃ f' sz', e = .returned (.bool (decide (sz' < sz))) ∧ MapO w' b f' sz' ∧ Closing rs f sz f' sz' ∧ w.grownBy w' (some b) := by
 have b0 : Below w.heap.size w (w.alloc (Obj.cells #[Value.slice A n c, Value.slice B rs.length d] 27)) := (Below.refl _ _).alloc (Nat.le_refl _) _
 have M0 := M.below b0
 have V0 := Lvar.new w #[Value.slice A n c, Value.slice B rs.length d] 27
 have hbl := M.lt
 have g0 : w.grownBy (w.alloc (Obj.cells #[Value.slice A n c, Value.slice B rs.length d] 27)) (some b) := World.grownBy_alloc w _ _
 have hsz := map_size M
 have HB := Lib.hid hB
 have H0 := Lib.hid h0
 clear hB h0 b0 M
 go_enter Tryz.func90, Tryz.ntmps90
 go_upto_region 3 with (first
  | (at_len; refine at_len_ rfl _ rfl rfl M0 ?_)
  | (at_range; refine at_range_ (r := w.heap.size + 1) rfl _ rfl rfl M0 (by simp) ?_; intro w1 left0 cnt0 hrg0 hleft hg0 hs0))
 have HG0 := Lib.hid (Going.start (rs := rs) (n := sz) hleft)
 have V1 := Lib.hid (lvar_grown V0 hg0 (by simp))
 have G1 := Lib.hid (g0.andThen (hg0.but (some b)) (fun j hj => by cases hj; exact Or.inr rfl))
 have HR0 := Lib.hid hrg0
 clear hrg0 hleft hg0 hs0 g0 V0 M0
 go_frame
 go_loopw [6] (fun _ wr => ∃ f1 n1 left cnt, RangeO wr b (w.heap.size + 1) f1 n1 left cnt ∧ Lvar wr w.heap.size #[Value.slice A n c, Value.slice B rs.length d] ∧ w.grownBy wr (some b) ∧ Going rs f sz f1 n1 left) (fun _ wr => wr.rangeLeft b (w.heap.size + 1))
 case atStart => exact ⟨f, sz, left0, cnt0, HR0.out, V1.out, G1.out, HG0.out⟩
 case round =>
  obtain ⟨f1, n1, left, cnt, hrg, hV, hgw, hgo⟩ := hrel
  have HGO := Lib.hid hgo
  have HV := Lib.hid hV
  have HGW := Lib.hid hgw
  have HRG := Lib.hid hrg
  clear hgo hV hgw HG0 V1 G1 HR0
  go_wp2_with (first | (at_next; refine at_next_ rfl _ rfl rfl hrg ?_ ?_) | go_in)
  ·intro hl0
   have FIN := Lib.hid (HGO.out.done hl0)
   have MM := hrg.map
   clear hl0
   go_wp2_with (at_len; refine at_len_ rfl _ rfl rfl MM ?_)
   go_ret
   exact ⟨f1, n1, by simp, MM, FIN.out, HGW.out⟩
  ·intro s q w2 cnt2 hs hls hfs hrg2 hlt hg2 hs2 hen
   have HG2 := Lib.hid (HGW.out.andThen hg2 (fun j hj => by cases hj; exact Or.inl (by omega)))
   have V2 := lvar_grown HV.out hg2 (by simp)
   have p0 : w2.cell? ⟨w.heap.size, 0, none⟩ = some (.slice A n c) := V2.cell 0 _ rfl
   have p1 : w2.cell? ⟨w.heap.size, 1, none⟩ = some (.slice B rs.length d) := V2.cell 1 _ rfl
   have IC := Lib.hid (isCalled b A B n c d s f1 n1 rs w2 hrg2.map (HB.out.below (below_but H0.out HG2.out hb)) hl)
   have HRG2 := Lib.hid hrg2
   have HV2 := Lib.hid V2
   clear hrg hrg2 V2 hg2 hls
   cases hq : calledF rs f1 s with
   | false =>
    rw [hq] at IC
    have GO := Lib.hid (HGO.out.stays hq)
    clear hq
    go_wp2_with fail
    refine (Calls.mono IC.out) ?_
    rintro e w3 ⟨rfl, b3⟩
    have RR := Lib.hid (HRG2.out.below b3)
    have VV := Lib.hid (HV2.out.below b3)
    have GG := Lib.hid (show w.grownBy w3 (some b) from HG2.out.andThen (StrK.only_below b3 none) (fun j hj => by cases hj))
    clear b3
    go_wp2
    go_roundw
    case rel => exact ⟨_, _, _, cnt2, RR.out, VV.out, GG.out, GO.out⟩
    case measure => rw [RR.out.left_eq, HRG.out.left_eq]; exact hlt
   | true =>
    rw [hq] at IC
    have HQ := Lib.hid hq
    clear hq
    go_wp2_with fail
    refine (Calls.mono IC.out) ?_
    rintro e w3 ⟨rfl, b3⟩
    have RR := HRG2.out.below b3
    have VV := Lib.hid (HV2.out.below b3)
    have GG := Lib.hid (show w.grownBy w3 (some b) from HG2.out.andThen (StrK.only_below b3 none) (fun j hj => by cases hj))
    clear b3 p0 p1
    go_wp2_with (at_delete; refine at_del_range rfl _ _ rfl rfl RR s rfl hs ?_; intro w4 n4 cnt4 hrg4 hle hn4 hg4 hs4; go_frame)
    have RR4 := Lib.hid hrg4
    have VV4 := Lib.hid (lvar_grown VV.out hg4 (by intro e; injection e with e; omega))
    have GG4 := Lib.hid (show w.grownBy w4 (some b) from GG.out.andThen hg4 (fun j hj => by cases hj; exact Or.inr rfl))
    rw [hfs] at hn4
    have hn5 : n4 < n1 := by simp at hn4; omega
    have GO := Lib.hid (fun left' : Lit → Bool => HGO.out.goes (m := n4) (left' := left') HQ.out hn5)
    clear hrg4 hg4 hs4 hn4 hn5
    go_roundw
    case rel => exact ⟨_, _, _, cnt4, RR4.out, VV4.out, GG4.out, GO.out _⟩
    case measure => rw [RR4.out.left_eq, HRG.out.left_eq]; omega
def more (v : Value) : Nat := match v with | .bool true => 1 | _ => 0
theorem gaveS_to {w w1 w2 : World} {ss : List ByteArray} {e : Ending} (hb : Below w.heap.size w w1) (h : ProgI.GaveS w1 ss e w2) : ProgI.GaveS w ss e w2 := by
 obtain ⟨A, c, he, ho, h2⟩ := h
 exact ⟨A, c, he, ho.wider hb.size (Nat.le_refl _) (Nat.le_refl _), hb.trans (h2.mono hb.size)⟩
set_option maxHeartbeats 4000000 in
set_option maxRecDepth 100000 in
theorem allOpen (A : Option Addr) (VB : Value) (c : Nat) (fs : List FunctionT) (w : World) (hA : ArgS Mem.fn w A fs.length c fs) (hl : fs.length + szs szFunctionU fs ≤ 9000000) :
  Calls Tryz.prog 47 #[.agg #[.slice A fs.length c, VB]] w fun e w' => ∃ b f sz, e = .returned (.map (some b)) ∧ w.heap.size ≤ b ∧ MapO w' b f sz ∧ (∀ x, f x = true ↔ x ∈ names fs) ∧ Below w.heap.size w w' := by
 have b0 : Below w.heap.size w ((w.alloc (Obj.cells #[Value.slice A fs.length c, VB] 27)).alloc (Obj.map #[] 0)) := ((Below.refl _ _).alloc (Nat.le_refl _) _).alloc (by simp) _
 have M0 := madeO (w.alloc (Obj.cells #[Value.slice A fs.length c, VB] 27))
 simp only [World.size_alloc] at M0
 have HM0 := Lib.hid M0
 have B0 := Lib.hid b0
 have HA := Lib.hid hA
 have hfl : fs.length ≤ 9000000 := by omega
 have HL := Lib.hid hl
 clear hA hl b0 M0
 have hmm := @run_makeMap Tryz.prog
 go_enter Tryz.func47, Tryz.ntmps47
 go_wp2
 clear hmm
 go_loopw [10] (fun i wr => ∃ (k : Nat) (f : ByteArray → Bool) (sz : Nat), k ≤ fs.length ∧ i = .int .i64 k ∧ MapO wr (w.heap.size + 1) f sz ∧ sz ≤ k ∧ Hid (∀ x, f x = true ↔ x ∈ (fs.take k).map (·.1)) ∧ Below w.heap.size w wr) (fun i _ => fs.length - (intOf i).toNat)
 case atStart => exact ⟨0, _, 0, Nat.zero_le _, rfl, HM0.out, Nat.le_refl _, Lib.hid (fun x => by simp), B0.out⟩
 case round =>
  obtain ⟨k, f, sz, hk, rfl, hM, hszk, hf, hb⟩ := hrel
  have HF := Lib.hid hf.out
  have HM := Lib.hid hM
  have HB := Lib.hid hb
  clear hM hf hb HM0
  by_cases hlt : k < fs.length
  ·obtain ⟨b1, o1, A1, c1, A3, c3, rfl, hbb, g0, g1, g2, g3, _, _⟩ := (HA.out.below HB.out).fn_at hlt
   have hzs : fs[k].1.size ≤ 9000000 := by
    have h1 := HL.out
    have h2 := szs_mem (sz := szFunctionU) (List.getElem_mem hlt)
    simp only [szFunctionU] at h2
    omega
   have HST := Lib.hid (names_take fs hlt)
   generalize fs[k] = x at *
   obtain ⟨z0, x1, z2, x3⟩ := x
   simp only at g0 g1 g2 g3 hzs HST
   have hi0 : (0 : Int) ≤ (k : Int) := by omega
   have hi1 : (k : Int) < (fs.length : Int) := by omega
   have hd : Below wr.heap.size wr (wr.alloc (Obj.cells #[Value.string z0, Value.slice A1 x1.length c1, Value.bool z2, Value.slice A3 x3.length c3] 98)) := (Below.refl _ _).alloc (Nat.le_refl _) _
   obtain ⟨w2, hrun, M2, hg2⟩ := (HM.out.below hd).store (by omega) z0 (by unfold maxLen; omega)
   have MM := Lib.hid M2
   have hzz : (if f z0 = true then sz else sz + 1) ≤ k + 1 := by split <;> omega
   have HZ := Lib.hid hzz
   have BB := Lib.hid (show Below w.heap.size w w2 from below_but (HB.out.trans (hd.mono HB.out.size)) hg2 (by omega))
   have FF := Lib.hid (show ∀ x, putF f z0 x = true ↔ x ∈ (fs.take (k + 1)).map (·.1) from fun x => by rw [HST.out, putF_iff, HF.out x, List.mem_append, List.mem_singleton]; exact Or.comm)
   clear M2 hzz hg2 hd HF
   go_wp2
   go_roundw
   case rel => exact ⟨k + 1, _, _, by omega, by go_num, MM.out, HZ.out, FF, BB.out⟩
   case measure => simp [intOf]; omega
  ·obtain rfl : k = fs.length := by omega
   go_wp2
   go_ret
   exact ⟨w.heap.size + 1, f, sz, rfl, by omega, HM.out, fun x => by have h := HF.out x; rw [List.take_length] at h; exact h, HB.out⟩
set_option maxHeartbeats 4000000 in
set_option maxRecDepth 100000 in
theorem reachableO (A B : Option Addr) (c d : Nat) (fs : List FunctionT) (rs : List RuleT) (nm : ByteArray) (w : World) (hA : ArgS Mem.fn w A fs.length c fs) (hB : ArgS rule w B rs.length d rs) (hl : szProgramU (fs, rs) ≤ 9000000) (hv : progV fs rs = true) (hn : nm.size ≤ maxLen) :
  Calls Tryz.prog 52 #[.agg #[.slice A fs.length c, .slice B rs.length d], .string nm] w (GaveO w (rchL (names fs) (arrows rs) nm)) := by
 have b0 : Below w.heap.size w (w.alloc (Obj.cells #[Value.slice A fs.length c, Value.slice B rs.length d] 27)) := (Below.refl _ _).alloc (Nat.le_refl _) _
 have V0 := Lvar.new w #[Value.slice A fs.length c, Value.slice B rs.length d] 27
 have hfl : fs.length + szs szFunctionU fs ≤ 9000000 := by simp only [szProgramU] at hl; omega
 have hrl : rs.length + szs szRuleU rs ≤ 9000000 := by simp only [szProgramU] at hl; omega
 have AO := Lib.hid (allOpen A (.slice B rs.length d) c fs _ (hA.below b0) hfl)
 have CC := Lib.hid (fun b f sz W (M : MapO W b f sz) (h : Below w.heap.size w W) (hb : w.heap.size ≤ b) => closeCalled w b A B fs.length c d f sz rs W M hB hrl h hb)
 have CL := Lib.hid (fun b f sz W (M : MapO W b f sz) (h : Below w.heap.size w W) => closedO b A (.slice B rs.length d) c f sz fs W M (hA.below h) hfl)
 have B0 := Lib.hid b0
 have HV := Lib.hid V0
 have PV := Lib.hid hv
 clear hA hB b0 V0 hl hfl hrl hv
 go_enter Tryz.func52, Tryz.ntmps52
 go_wp2_with fail
 refine (Calls.mono AO.out) ?_
 rintro e w1 ⟨b, f, sz, rfl, hbb, M, hf, b1⟩
 have B1 := Lib.hid (below_step B0.out b1)
 have V1 := Lib.hid (HV.out.below b1)
 have HF := Lib.hid hf
 simp only [World.size_alloc] at hbb
 clear b1 hf
 go_upto_region 4 with (at_delete; refine at_del rfl _ _ rfl rfl M nm rfl hn ?_; intro w2 n2 M2 hn2 hg2 hs2)
 have B2 := Lib.hid (below_but B1.out hg2 (by omega))
 have V2 := Lib.hid (lvar_grown V1.out hg2 (by intro e; injection e with e; omega))
 have HM2 := Lib.hid M2
 have OP := Lib.hid (Opened.start (rs := rs) (a := nm) HF.out)
 clear M M2 hn2 hg2 hs2 V1
 go_loopw [6] (fun v wr => ∃ f sz t, v = .bool t ∧ MapO wr b f sz ∧ Lvar wr w.heap.size #[Value.slice A fs.length c, Value.slice B rs.length d] ∧ Below w.heap.size w wr ∧ Opened fs rs nm f t) (fun v wr => 2 * mapSize wr b + more v)
 case atStart => exact ⟨_, n2, true, rfl, HM2.out, V2.out, B2.out, OP.out⟩
 case round =>
  obtain ⟨f1, n1, t, rfl, hM, hV, hB1, hO⟩ := hrel
  have HM := Lib.hid hM
  have HVV := Lib.hid hV
  have HB1 := Lib.hid hB1
  have HO := Lib.hid hO
  have p0 : wr.cell? ⟨w.heap.size, 0, none⟩ = some (.slice A fs.length c) := hV.cell 0 _ rfl
  have p1 : wr.cell? ⟨w.heap.size, 1, none⟩ = some (.slice B rs.length d) := hV.cell 1 _ rfl
  clear hM hV hB1 hO HM2 V2 B2 OP
  cases t with
  | true =>
   have C9 := Lib.hid (CC.out b f1 n1 wr HM.out HB1.out (by omega))
   go_wp2_with fail
   refine (Calls.mono C9.out) ?_
   rintro e w3 ⟨f3, n3, rfl, M3, hC, hg3⟩
   have MM := Lib.hid M3
   have HC1 := Lib.hid hC.1
   have VV := Lib.hid (lvar_grown HVV.out hg3 (by intro e; injection e with e; omega))
   have BB := Lib.hid (below_but HB1.out hg3 (by omega))
   have OO := Lib.hid (HO.out.next PV.out hC)
   clear M3 hC hg3
   go_wp2
   go_roundw
   case rel => exact ⟨f3, n3, _, rfl, MM.out, VV.out, BB.out, OO.out⟩
   case measure =>
    rw [MM.out.size_eq, HM.out.size_eq]
    have h1 := (show n3 ≤ n1 from by have := HC1.out; exact this)
    by_cases h : n3 < n1
    ·rw [decide_eq_true h]
     show 2 * n3 + 1 < 2 * n1 + 1
     omega
    ·rw [decide_eq_false h]
     show 2 * n3 + 0 < 2 * n1 + 1
     omega
  | false =>
   have C9 := Lib.hid (CL.out b f1 n1 wr HM.out HB1.out)
   rw [HO.out.fin PV.out] at C9
   go_wp2_with fail
   refine (Calls.mono C9.out) ?_
   rintro e w3 ⟨R, rfl, oR, b3⟩
   have FIN := Lib.hid (gaveO_to (w := w) HB1.out (show GaveO wr _ _ w3 from ⟨R, rfl, oR, b3⟩))
   clear oR b3
   go_wp2
   go_ret
   exact FIN.out
theorem reachable (A B : Option Addr) (c d : Nat) (fs : List FunctionT) (rs : List RuleT) (nm : ByteArray) (w : World) (hA : ArgS Mem.fn w A fs.length c fs) (hB : ArgS rule w B rs.length d rs) (hl : szProgramU (fs, rs) ≤ 9000000) (hv : progV fs rs = true) (hn : nm.size ≤ maxLen) :
  Calls Tryz.prog 52 #[.agg #[.slice A fs.length c, .slice B rs.length d], .string nm] w (ProgI.GaveS w (rchL (names fs) (arrows rs) nm)) := (reachableO A B c d fs rs nm w hA hB hl hv hn).mono fun _ _ h => h.gave
end GraphI
end Go.Proofs.YtbbllkhmenpnlaaGreat
