import Derived.Test.YtbbllkhmenpnlaaGreatArgImpl2
import Derived.Test.YtbbllkhmenpnlaaGreatArithSpec
import Derived.Deep.RegionHeld3
/-
  The model's sums and arguments: validity.
-/
namespace Go.Proofs.YtbbllkhmenpnlaaGreat
open Go.RowKit
def oArgSpecO35 : Oper := { dst := some 52, op := Op.pick (Operand.tmp 37) (Operand.const (Value.bool true)) (Operand.tmp 51), type := 4, pos := "l09_arg.go:8", after := #[{ on := 20, ground := Ground.data }, { on := 34, ground := Ground.data }], guard := none }
def oArgSpecO34 : Oper := { dst := some 51, op := Op.pick (Operand.tmp 40) (Operand.tmp 50) (Operand.const (Value.bool false)), type := 4, pos := "l09_arg.go:8", after := #[{ on := 23, ground := Ground.data }, { on := 33, ground := Ground.data }, { on := 20, ground := Ground.guard }], guard := some (20, false) }
def oArgSpecO33 : Oper := { dst := some 50, op := Op.binOp BinOp.geq 9 (Operand.tmp 47) (Operand.tmp 49) 9, type := 4, pos := "l09_arg.go:8", after := #[{ on := 30, ground := Ground.data }, { on := 32, ground := Ground.data }, { on := 23, ground := Ground.guard }], guard := some (23, true) }
def oArgSpecO32 : Oper := { dst := some 49, op := Op.load 9 (Operand.tmp 48), type := 9, pos := "l09_arg.go:8", after := #[{ on := 31, ground := Ground.data }, { on := 23, ground := Ground.guard }], guard := some (23, true) }
def oArgSpecO31 : Oper := { dst := some 48, op := Op.fieldAddr 161 (Operand.tmp 4) 1, type := 0, pos := "l09_arg.go:8", after := #[{ on := 23, ground := Ground.guard }], guard := some (23, true) }
def oArgSpecO30 : Oper := { dst := some 47, op := Op.load 9 (Operand.tmp 46), type := 9, pos := "l09_arg.go:8", after := #[{ on := 29, ground := Ground.data }, { on := 23, ground := Ground.guard }], guard := some (23, true) }
def oArgSpecO29 : Oper := { dst := some 46, op := Op.fieldAddr 161 (Operand.tmp 45) 1, type := 0, pos := "l09_arg.go:8", after := #[{ on := 28, ground := Ground.data }, { on := 23, ground := Ground.guard }], guard := some (23, true) }
def oArgSpecO28 : Oper := { dst := some 45, op := Op.indexAddr 99 (Operand.tmp 42) (Operand.tmp 44), type := 0, pos := "l09_arg.go:8", after := #[{ on := 25, ground := Ground.data }, { on := 27, ground := Ground.data }, { on := 23, ground := Ground.guard }], guard := some (23, true) }
def oArgSpecO27 : Oper := { dst := some 44, op := Op.binOp BinOp.sub 3 (Operand.tmp 43) (Operand.const (Value.int IntKind.i64 1)) 3, type := 3, pos := "l09_arg.go:8", after := #[{ on := 26, ground := Ground.data }, { on := 23, ground := Ground.guard }], guard := some (23, true) }
def oArgSpecO26 : Oper := { dst := some 43, op := Op.move (Operand.tmp 3), type := 3, pos := "l09_arg.go:8", after := #[{ on := 23, ground := Ground.guard }], guard := some (23, true) }
def oArgSpecO25 : Oper := { dst := some 42, op := Op.load 99 (Operand.tmp 41), type := 99, pos := "l09_arg.go:8", after := #[{ on := 24, ground := Ground.data }, { on := 23, ground := Ground.guard }], guard := some (23, true) }
def oArgSpecO24 : Oper := { dst := some 41, op := Op.fieldAddr 101 (Operand.tmp 1) 1, type := 0, pos := "l09_arg.go:8", after := #[{ on := 23, ground := Ground.guard }], guard := some (23, true) }
def oArgSpecO23 : Oper := { dst := some 40, op := Op.move (Operand.tmp 39), type := 4, pos := "l09_arg.go:8", after := #[{ on := 22, ground := Ground.data }, { on := 20, ground := Ground.chain }, { on := 20, ground := Ground.guard }], guard := some (20, false) }
def oArgSpecO22 : Oper := { dst := some 39, op := Op.binOp BinOp.gtr 3 (Operand.tmp 38) (Operand.const (Value.int IntKind.i64 0)) 3, type := 4, pos := "l09_arg.go:8", after := #[{ on := 21, ground := Ground.data }, { on := 20, ground := Ground.guard }], guard := some (20, false) }
def oArgSpecO21 : Oper := { dst := some 38, op := Op.move (Operand.tmp 3), type := 3, pos := "l09_arg.go:8", after := #[{ on := 20, ground := Ground.guard }], guard := some (20, false) }
def oArgSpecO20 : Oper := { dst := some 37, op := Op.move (Operand.tmp 36), type := 4, pos := "l09_arg.go:8", after := #[{ on := 19, ground := Ground.data }, { on := 18, ground := Ground.chain }], guard := none }
def oArgSpecO19 : Oper := { dst := some 36, op := Op.pick (Operand.tmp 32) (Operand.const (Value.bool true)) (Operand.tmp 35), type := 4, pos := "l09_arg.go:8", after := #[{ on := 15, ground := Ground.data }, { on := 18, ground := Ground.data }], guard := none }
def oArgSpecO18 : Oper := { dst := some 35, op := Op.call { callee := Callee.value (Operand.func 137), args := #[Operand.tmp 34], argTypes := #[9] }, type := 4, pos := "l09_arg.go:8", after := #[{ on := 17, ground := Ground.data }, { on := 15, ground := Ground.chain }, { on := 15, ground := Ground.guard }], guard := some (15, false) }
def oArgSpecO17 : Oper := { dst := some 34, op := Op.load 9 (Operand.tmp 33), type := 9, pos := "l09_arg.go:8", after := #[{ on := 16, ground := Ground.data }, { on := 15, ground := Ground.guard }], guard := some (15, false) }
def oArgSpecO16 : Oper := { dst := some 33, op := Op.fieldAddr 161 (Operand.tmp 4) 1, type := 0, pos := "l09_arg.go:8", after := #[{ on := 15, ground := Ground.guard }], guard := some (15, false) }
def oArgSpecO15 : Oper := { dst := some 32, op := Op.move (Operand.tmp 31), type := 4, pos := "l09_arg.go:8", after := #[{ on := 14, ground := Ground.data }, { on := 12, ground := Ground.chain }], guard := none }
def oArgSpecO14 : Oper := { dst := some 31, op := Op.pick (Operand.tmp 26) (Operand.const (Value.bool true)) (Operand.tmp 30), type := 4, pos := "l09_arg.go:8", after := #[{ on := 9, ground := Ground.data }, { on := 13, ground := Ground.data }], guard := none }
def oArgSpecO13 : Oper := { dst := some 30, op := Op.unOp UnOp.not 4 (Operand.tmp 29), type := 4, pos := "l09_arg.go:8", after := #[{ on := 12, ground := Ground.data }, { on := 9, ground := Ground.guard }], guard := some (9, false) }
def oArgSpecO12 : Oper := { dst := some 29, op := Op.call { callee := Callee.value (Operand.func 136), args := #[Operand.tmp 28], argTypes := #[9] }, type := 4, pos := "l09_arg.go:8", after := #[{ on := 11, ground := Ground.data }, { on := 9, ground := Ground.chain }, { on := 9, ground := Ground.guard }], guard := some (9, false) }
def oArgSpecO11 : Oper := { dst := some 28, op := Op.load 9 (Operand.tmp 27), type := 9, pos := "l09_arg.go:8", after := #[{ on := 10, ground := Ground.data }, { on := 9, ground := Ground.guard }], guard := some (9, false) }
def oArgSpecO10 : Oper := { dst := some 27, op := Op.fieldAddr 161 (Operand.tmp 4) 1, type := 0, pos := "l09_arg.go:8", after := #[{ on := 9, ground := Ground.guard }], guard := some (9, false) }
def oArgSpecO9 : Oper := { dst := some 26, op := Op.move (Operand.tmp 25), type := 4, pos := "l09_arg.go:8", after := #[{ on := 8, ground := Ground.data }, { on := 6, ground := Ground.chain }], guard := none }
def oArgSpecO8 : Oper := { dst := some 25, op := Op.pick (Operand.tmp 20) (Operand.const (Value.bool true)) (Operand.tmp 24), type := 4, pos := "l09_arg.go:8", after := #[{ on := 3, ground := Ground.data }, { on := 7, ground := Ground.data }], guard := none }
def oArgSpecO7 : Oper := { dst := some 24, op := Op.unOp UnOp.not 4 (Operand.tmp 23), type := 4, pos := "l09_arg.go:8", after := #[{ on := 6, ground := Ground.data }, { on := 3, ground := Ground.guard }], guard := some (3, false) }
def oArgSpecO6 : Oper := { dst := some 23, op := Op.call { callee := Callee.value (Operand.func 184), args := #[Operand.tmp 22], argTypes := #[3] }, type := 4, pos := "l09_arg.go:8", after := #[{ on := 5, ground := Ground.data }, { on := 3, ground := Ground.chain }, { on := 3, ground := Ground.guard }], guard := some (3, false) }
def oArgSpecO5 : Oper := { dst := some 22, op := Op.load 3 (Operand.tmp 21), type := 3, pos := "l09_arg.go:8", after := #[{ on := 4, ground := Ground.data }, { on := 3, ground := Ground.guard }], guard := some (3, false) }
def oArgSpecO4 : Oper := { dst := some 21, op := Op.fieldAddr 161 (Operand.tmp 4) 0, type := 0, pos := "l09_arg.go:8", after := #[{ on := 3, ground := Ground.guard }], guard := some (3, false) }
def oArgSpecO3 : Oper := { dst := some 20, op := Op.move (Operand.tmp 19), type := 4, pos := "l09_arg.go:8", after := #[{ on := 2, ground := Ground.data }], guard := none }
def oArgSpecO2 : Oper := { dst := some 19, op := Op.binOp BinOp.eql 3 (Operand.tmp 18) (Operand.const (Value.int IntKind.i64 0)) 3, type := 4, pos := "l09_arg.go:8", after := #[{ on := 1, ground := Ground.data }], guard := none }
def oArgSpecO1 : Oper := { dst := some 18, op := Op.load 3 (Operand.tmp 17), type := 3, pos := "l09_arg.go:8", after := #[{ on := 0, ground := Ground.data }], guard := none }
def oArgSpecO0 : Oper := { dst := some 17, op := Op.fieldAddr 161 (Operand.tmp 4) 0, type := 0, pos := "l09_arg.go:8", after := #[], guard := none }
namespace ArgP
open RowK Mem ArgM ArgI

theorem termV_k {z : Int} {s : ByteArray} : termV (z, s) = (decide (z ≠ 0) && ArithM.inF z && (NameM.validName s && !NameM.listName s)) := rfl
theorem sum_bad {z : Int} {xs : List (Int × ByteArray)} {k : Nat} {x : Int × ByteArray} (hk : xs[k]? = some x) (h : termV x = false) : sumV (z, xs) = false := by
 cases e : sumV (z, xs) with
 | false => rfl
 | true => rw [(sumV_iff.1 e).2.2.1 x (List.mem_of_getElem? hk)] at h; cases h
theorem sum_ord {z : Int} {xs : List (Int × ByteArray)} {k : Nat} {a b : Int × ByteArray} (h1 : xs[k]? = some a) (h2 : xs[k + 1]? = some b) (h : ascN a b = false) : sumV (z, xs) = false := by
 cases e : sumV (z, xs) with
 | false => rfl
 | true => rw [ordT_iff.1 (sumV_iff.1 e).2.2.2 k a b h1 h2] at h; cases h
theorem sum_end {z : Int} {xs : List (Int × ByteArray)} (h1 : ∀ j x, j < xs.length → xs[j]? = some x → termV x = true) (h2 : ∀ j a b, j < xs.length → xs[j]? = some a → xs[j + 1]? = some b → ascN a b = true) : sumV (z, xs) = (ArithM.inF z && decide (xs.length ≤ 4)) := by
 have a : xs.all termV = true := List.all_eq_true.2 fun x hx => by
  obtain ⟨j, hj⟩ := List.getElem?_of_mem hx
  exact h1 j x (List.getElem?_eq_some_iff.1 hj).1 hj
 have b : ordT xs = true := ordT_iff.2 fun j a b ha hb => h2 j a b (List.getElem?_eq_some_iff.1 ha).1 ha hb
 show (ArithM.inF z && decide (xs.length ≤ 4) && (xs.all termV && ordT xs)) = _
 rw [a, b]
 simp

set_option maxHeartbeats 1000000 in
set_option maxRecDepth 100000 in
theorem validSum (z : Int) (A : Option Addr) (c : Nat) (xs : List (Int × ByteArray)) (w : World) (hA : ArgS term w A xs.length c xs) (hl : xs.length ≤ 1000000000) (hs : ∀ t ∈ xs, t.2.size ≤ 9223372036854775807) :
  Calls Tryz.prog 140 #[.agg #[.int .i64 z, .slice A xs.length c]] w fun e w' => e = .returned (.bool (sumV (z, xs))) ∧ Below w.heap.size w w' := by
 have FZ := Lib.hid (ArithS.fits z)
 have HBAD0 := Lib.hid (fun k x hk h => sum_bad (z := z) (xs := xs) (k := k) (x := x) hk h)
 have HORD0 := Lib.hid (fun k a b h1 h2 h => sum_ord (z := z) (xs := xs) (k := k) (a := a) (b := b) h1 h2 h)
 have HEND := Lib.hid (fun h1 h2 => sum_end (z := z) (xs := xs) h1 h2)
 have B0 := Lib.hid ((Below.refl w.heap.size w).alloc (Nat.le_refl _) (Obj.cells #[Value.int IntKind.i64 z, Value.slice A xs.length c] 101))
 have V0 := Lib.hid (Lvar.new w #[Value.int IntKind.i64 z, Value.slice A xs.length c] 101)
 have HA := Lib.hid hA
 have HSS := Lib.hid hs
 have hund : undef = Value.tuple #[] := rfl
 have hnb1 : ((none : Option Bool) == some true) = false := rfl
 have hnb2 : ((none : Option Bool) == some false) = false := rfl
 generalize sumV (z, xs) = R at *
 clear hA hs
 go_enter Tryz.func140, Tryz.ntmps140
 go_wp2
 go_loopw [3] (fun i wr => ∃ k : Nat, k ≤ xs.length ∧ i = .int .i64 k ∧ (∀ j x, j < k → xs[j]? = some x → termV x = true) ∧ (∀ j a b, j + 1 < k → xs[j]? = some a → xs[j + 1]? = some b → ascN a b = true) ∧ Below w.heap.size w wr ∧ Lvar wr w.heap.size #[Value.int IntKind.i64 z, Value.slice A xs.length c]) (fun i _ => xs.length - (intOf i).toNat)
 case atStart => exact ⟨0, Nat.zero_le _, rfl, (fun j x hj => absurd hj (Nat.not_lt_zero _)), (fun j a b hj => absurd hj (Nat.not_lt_zero _)), B0.out, V0.out⟩
 case round =>
  obtain ⟨k, hk, rfl, hterm, hord, hb, hv⟩ := hrel
  have HTE := Lib.hid hterm
  have HOR := Lib.hid hord
  have HB := Lib.hid hb
  have HV := Lib.hid hv
  have v0 := hv.cell 0 (.int .i64 z) rfl
  have v1 := hv.cell 1 (.slice A xs.length c) rfl
  clear hterm hord hb hv V0 B0
  by_cases hlt : k < xs.length
  ·obtain ⟨b, o, rfl, hbb, c0, c1⟩ := (HA.out.below HB.out).term_at hlt
   have hsz := HSS.out _ (List.getElem_mem hlt)
   have HG := Lib.hid (List.getElem?_eq_getElem hlt)
   have HBAD := Lib.hid (fun h => HBAD0.out k _ HG.out h)
   generalize xs[k] = x at *
   obtain ⟨u, s⟩ := x
   simp only at c0 c1 hsz
   have VN := Lib.hid (fun W => NameS.specValid s W (by unfold maxLen; exact hsz))
   have LN := Lib.hid (fun W => NameS.specList s W (by unfold maxLen; exact hsz))
   have FT := Lib.hid (ArithS.fits u)
   have T := Lib.hid (Lvar.new wr #[Value.int .i64 u, Value.string s] 161)
   have t1 : Below wr.heap.size wr (wr.alloc (Obj.cells #[Value.int .i64 u, Value.string s] 161)) := (Below.refl _ _).alloc (Nat.le_refl _) _
   have VS := Lib.hid (HV.out.below t1)
   have B1 := Lib.hid (HB.out.trans (t1.mono HB.out.size))
   have hi0 : (0 : Int) ≤ (k : Int) := by omega
   have hi1 : (k : Int) < (xs.length : Int) := by omega
   have HTV := Lib.hid (termV_k (z := u) (s := s))
   clear t1 HV HBAD0
   generalize NameM.validName s = vn at *
   generalize NameM.listName s = ln at *
   generalize ArithM.inF u = ff at *
   by_cases h0 : u = 0
   ·have hq : (u == 0) = true := beq_iff_eq.2 h0
    have HF := Lib.hid (show R = false from HBAD.out (by rw [HTV.out, h0]; rfl))
    clear h0
    go_wp2
    go_quiet (fail)
    go_wp2
    go_ret
    exact ⟨ret_b HF.out.symm, below_drewN B1.out _⟩
   ·have hq : (u == 0) = false := beq_eq_false_iff_ne.2 h0
    have HTV := Lib.hid (HTV.out.trans (by rw [decide_eq_true h0]))
    clear h0
    cases ff with
    | false =>
     have HF := Lib.hid (show R = false from HBAD.out (by rw [HTV.out]; rfl))
     go_wp2_with fail
     refine wp_region_held_drew (S := (fun w' => w'.cell? ⟨wr.heap.size, 0, none⟩ = some (.int .i64 u) ∧ w'.cell? ⟨wr.heap.size, 1, none⟩ = some (.string s) ∧ w'.cell? ⟨w.heap.size, 1, none⟩ = some (.slice (some ⟨b, o, none⟩) xs.length c))) (by kernel_rfl) ?_ (fun hHeld => ?_)
     ·(try dsimp only); exact ⟨(T.out.below (Below.refl _ _).drew).cell 0 _ rfl, (T.out.below (Below.refl _ _).drew).cell 1 _ rfl, (VS.out.below (Below.refl _ _).drew).cell 1 _ rfl⟩
     refine tkW 0 oArgSpecO0 ?v1_0 ?hy1_0 ?r1_0
     case hy1_0 => (intro w hSw; (try dsimp only at hSw); (try unfold oArgSpecO0); go_simp; try (with_reducible rfl))
     (try simp only [oArgSpecO0, Act.put, zA, zB, zC])
     refine tkW 1 oArgSpecO1 ?v1_1 ?hy1_1 ?r1_1
     case hy1_1 => (intro w hSw; (try dsimp only at hSw); (try unfold oArgSpecO1); go_simp; try (with_reducible rfl))
     (try simp only [oArgSpecO1, Act.put, zA, zB, zC])
     refine tkW 2 oArgSpecO2 ?v1_2 ?hy1_2 ?r1_2
     case hy1_2 => (intro w hSw; (try dsimp only at hSw); (try unfold oArgSpecO2); go_simp; try (with_reducible rfl))
     (try simp only [oArgSpecO2, Act.put, zA, zB, zC])
     refine tkW 3 oArgSpecO3 ?v1_3 ?hy1_3 ?r1_3
     case hy1_3 => (intro w hSw; (try dsimp only at hSw); (try unfold oArgSpecO3); go_simp; try (with_reducible rfl))
     (try simp only [oArgSpecO3, Act.put, zA, zB, zC])
     refine tkW 4 oArgSpecO4 ?v1_4 ?hy1_4 ?r1_4
     case hy1_4 => (intro w hSw; (try dsimp only at hSw); (try unfold oArgSpecO4); go_simp; try (with_reducible rfl))
     (try simp only [oArgSpecO4, Act.put, zA, zB, zC])
     refine tkW 5 oArgSpecO5 ?v1_5 ?hy1_5 ?r1_5
     case hy1_5 => (intro w hSw; (try dsimp only at hSw); (try unfold oArgSpecO5); go_simp; try (with_reducible rfl))
     (try simp only [oArgSpecO5, Act.put, zA, zB, zC])
     refine wpAnyH_ready (rs := [6]) (by kernel_rfl) (by simp) ?_
     refine AllReadyH.cons (o := oArgSpecO6) rfl (fun K hK => ?_) AllReadyH.nil
     ((try unfold oArgSpecO6); go_simp)
     (go_at_call 184; refine (Calls.mono (FT.out _)) ?_; rintro e w1 ⟨rfl, rfl⟩)
     refine hK.out _ _ ?_ (fun hHeld2 => ?_)
     ·(try dsimp only); exact ⟨(T.out.below (Below.refl _ _).drew).cell 0 _ rfl, (T.out.below (Below.refl _ _).drew).cell 1 _ rfl, (VS.out.below (Below.refl _ _).drew).cell 1 _ rfl⟩
     clear hK K
     (try simp only [oArgSpecO6, Act.put, zA, zB, zC])
     refine tkW 7 oArgSpecO7 ?v1_7 ?hy1_7 ?r1_7
     case hy1_7 => (intro w hSw; (try dsimp only at hSw); (try unfold oArgSpecO7); go_simp; try (with_reducible rfl))
     (try simp only [oArgSpecO7, Act.put, zA, zB, zC])
     refine tkW 8 oArgSpecO8 ?v1_8 ?hy1_8 ?r1_8
     case hy1_8 => (intro w hSw; (try dsimp only at hSw); (try unfold oArgSpecO8); go_simp; try (with_reducible rfl))
     (try simp only [oArgSpecO8, Act.put, zA, zB, zC])
     refine tkW 9 oArgSpecO9 ?v1_9 ?hy1_9 ?r1_9
     case hy1_9 => (intro w hSw; (try dsimp only at hSw); (try unfold oArgSpecO9); go_simp; try (with_reducible rfl))
     (try simp only [oArgSpecO9, Act.put, zA, zB, zC])
     refine tkU 10 oArgSpecO10 ?_
     (try simp only [oArgSpecO10, Act.put, zA, zB, zC])
     refine tkU 11 oArgSpecO11 ?_
     (try simp only [oArgSpecO11, Act.put, zA, zB, zC])
     refine tkU 12 oArgSpecO12 ?_
     (try simp only [oArgSpecO12, Act.put, zA, zB, zC])
     refine tkU 13 oArgSpecO13 ?_
     (try simp only [oArgSpecO13, Act.put, zA, zB, zC])
     refine tkW 14 oArgSpecO14 ?v1_14 ?hy1_14 ?r1_14
     case hy1_14 => (intro w hSw; (try dsimp only at hSw); (try unfold oArgSpecO14); go_simp; try (with_reducible rfl))
     (try simp only [oArgSpecO14, Act.put, zA, zB, zC])
     refine tkW 15 oArgSpecO15 ?v1_15 ?hy1_15 ?r1_15
     case hy1_15 => (intro w hSw; (try dsimp only at hSw); (try unfold oArgSpecO15); go_simp; try (with_reducible rfl))
     (try simp only [oArgSpecO15, Act.put, zA, zB, zC])
     refine tkU 16 oArgSpecO16 ?_
     (try simp only [oArgSpecO16, Act.put, zA, zB, zC])
     refine tkU 17 oArgSpecO17 ?_
     (try simp only [oArgSpecO17, Act.put, zA, zB, zC])
     refine tkU 18 oArgSpecO18 ?_
     (try simp only [oArgSpecO18, Act.put, zA, zB, zC])
     refine tkW 19 oArgSpecO19 ?v1_19 ?hy1_19 ?r1_19
     case hy1_19 => (intro w hSw; (try dsimp only at hSw); (try unfold oArgSpecO19); go_simp; try (with_reducible rfl))
     (try simp only [oArgSpecO19, Act.put, zA, zB, zC])
     refine tkW 20 oArgSpecO20 ?v1_20 ?hy1_20 ?r1_20
     case hy1_20 => (intro w hSw; (try dsimp only at hSw); (try unfold oArgSpecO20); go_simp; try (with_reducible rfl))
     (try simp only [oArgSpecO20, Act.put, zA, zB, zC])
     refine tkU 21 oArgSpecO21 ?_
     (try simp only [oArgSpecO21, Act.put, zA, zB, zC])
     refine tkU 22 oArgSpecO22 ?_
     (try simp only [oArgSpecO22, Act.put, zA, zB, zC])
     refine tkU 23 oArgSpecO23 ?_
     (try simp only [oArgSpecO23, Act.put, zA, zB, zC])
     refine tkU 24 oArgSpecO24 ?_
     (try simp only [oArgSpecO24, Act.put, zA, zB, zC])
     refine tkU 25 oArgSpecO25 ?_
     (try simp only [oArgSpecO25, Act.put, zA, zB, zC])
     refine tkU 26 oArgSpecO26 ?_
     (try simp only [oArgSpecO26, Act.put, zA, zB, zC])
     refine tkU 27 oArgSpecO27 ?_
     (try simp only [oArgSpecO27, Act.put, zA, zB, zC])
     refine tkU 28 oArgSpecO28 ?_
     (try simp only [oArgSpecO28, Act.put, zA, zB, zC])
     refine tkU 29 oArgSpecO29 ?_
     (try simp only [oArgSpecO29, Act.put, zA, zB, zC])
     refine tkU 30 oArgSpecO30 ?_
     (try simp only [oArgSpecO30, Act.put, zA, zB, zC])
     refine tkU 31 oArgSpecO31 ?_
     (try simp only [oArgSpecO31, Act.put, zA, zB, zC])
     refine tkU 32 oArgSpecO32 ?_
     (try simp only [oArgSpecO32, Act.put, zA, zB, zC])
     refine tkU 33 oArgSpecO33 ?_
     (try simp only [oArgSpecO33, Act.put, zA, zB, zC])
     refine tkU 34 oArgSpecO34 ?_
     (try simp only [oArgSpecO34, Act.put, zA, zB, zC])
     refine tkW 35 oArgSpecO35 ?v1_35 ?hy1_35 ?r1_35
     case hy1_35 => (intro w hSw; (try dsimp only at hSw); (try unfold oArgSpecO35); go_simp; try (with_reducible rfl))
     (try simp only [oArgSpecO35, Act.put, zA, zB, zC])
     refine wpAnyH_done (by kernel_rfl) ?_ _
     all_goals
      have BE := Lib.hid (B1.out.trans ((show Below (wr.alloc (Obj.cells #[Value.int .i64 u, Value.string s] 161)).heap.size (wr.alloc (Obj.cells #[Value.int .i64 u, Value.string s] 161)) _ from (Below.refl _ _).drew).mono B1.out.size))
      go_wp2
      go_ret
      exact ⟨ret_b HF.out.symm, BE.out⟩
    | true =>
     cases vn with
     | false =>
      have HF := Lib.hid (show R = false from HBAD.out (by rw [HTV.out]; rfl))
      go_wp2_with fail
      refine wp_region_held_drew (S := (fun w' => w'.cell? ⟨wr.heap.size, 0, none⟩ = some (.int .i64 u) ∧ w'.cell? ⟨wr.heap.size, 1, none⟩ = some (.string s) ∧ w'.cell? ⟨w.heap.size, 1, none⟩ = some (.slice (some ⟨b, o, none⟩) xs.length c))) (by kernel_rfl) ?_ (fun hHeld => ?_)
      ·(try dsimp only); exact ⟨(T.out.below (Below.refl _ _).drew).cell 0 _ rfl, (T.out.below (Below.refl _ _).drew).cell 1 _ rfl, (VS.out.below (Below.refl _ _).drew).cell 1 _ rfl⟩
      refine tkW 0 oArgSpecO0 ?v2_0 ?hy2_0 ?r2_0
      case hy2_0 => (intro w hSw; (try dsimp only at hSw); (try unfold oArgSpecO0); go_simp; try (with_reducible rfl))
      (try simp only [oArgSpecO0, Act.put, zA, zB, zC])
      refine tkW 1 oArgSpecO1 ?v2_1 ?hy2_1 ?r2_1
      case hy2_1 => (intro w hSw; (try dsimp only at hSw); (try unfold oArgSpecO1); go_simp; try (with_reducible rfl))
      (try simp only [oArgSpecO1, Act.put, zA, zB, zC])
      refine tkW 2 oArgSpecO2 ?v2_2 ?hy2_2 ?r2_2
      case hy2_2 => (intro w hSw; (try dsimp only at hSw); (try unfold oArgSpecO2); go_simp; try (with_reducible rfl))
      (try simp only [oArgSpecO2, Act.put, zA, zB, zC])
      refine tkW 3 oArgSpecO3 ?v2_3 ?hy2_3 ?r2_3
      case hy2_3 => (intro w hSw; (try dsimp only at hSw); (try unfold oArgSpecO3); go_simp; try (with_reducible rfl))
      (try simp only [oArgSpecO3, Act.put, zA, zB, zC])
      refine tkW 4 oArgSpecO4 ?v2_4 ?hy2_4 ?r2_4
      case hy2_4 => (intro w hSw; (try dsimp only at hSw); (try unfold oArgSpecO4); go_simp; try (with_reducible rfl))
      (try simp only [oArgSpecO4, Act.put, zA, zB, zC])
      refine tkW 5 oArgSpecO5 ?v2_5 ?hy2_5 ?r2_5
      case hy2_5 => (intro w hSw; (try dsimp only at hSw); (try unfold oArgSpecO5); go_simp; try (with_reducible rfl))
      (try simp only [oArgSpecO5, Act.put, zA, zB, zC])
      refine wpAnyH_ready (rs := [6]) (by kernel_rfl) (by simp) ?_
      refine AllReadyH.cons (o := oArgSpecO6) rfl (fun K hK => ?_) AllReadyH.nil
      ((try unfold oArgSpecO6); go_simp)
      (go_at_call 184; refine (Calls.mono (FT.out _)) ?_; rintro e w1 ⟨rfl, rfl⟩)
      refine hK.out _ _ ?_ (fun hHeld2 => ?_)
      ·(try dsimp only); exact ⟨(T.out.below (Below.refl _ _).drew).cell 0 _ rfl, (T.out.below (Below.refl _ _).drew).cell 1 _ rfl, (VS.out.below (Below.refl _ _).drew).cell 1 _ rfl⟩
      clear hK K
      (try simp only [oArgSpecO6, Act.put, zA, zB, zC])
      refine tkW 7 oArgSpecO7 ?v2_7 ?hy2_7 ?r2_7
      case hy2_7 => (intro w hSw; (try dsimp only at hSw); (try unfold oArgSpecO7); go_simp; try (with_reducible rfl))
      (try simp only [oArgSpecO7, Act.put, zA, zB, zC])
      refine tkW 8 oArgSpecO8 ?v2_8 ?hy2_8 ?r2_8
      case hy2_8 => (intro w hSw; (try dsimp only at hSw); (try unfold oArgSpecO8); go_simp; try (with_reducible rfl))
      (try simp only [oArgSpecO8, Act.put, zA, zB, zC])
      refine tkW 9 oArgSpecO9 ?v2_9 ?hy2_9 ?r2_9
      case hy2_9 => (intro w hSw; (try dsimp only at hSw); (try unfold oArgSpecO9); go_simp; try (with_reducible rfl))
      (try simp only [oArgSpecO9, Act.put, zA, zB, zC])
      refine tkW 10 oArgSpecO10 ?v2_10 ?hy2_10 ?r2_10
      case hy2_10 => (intro w hSw; (try dsimp only at hSw); (try unfold oArgSpecO10); go_simp; try (with_reducible rfl))
      (try simp only [oArgSpecO10, Act.put, zA, zB, zC])
      refine tkW 11 oArgSpecO11 ?v2_11 ?hy2_11 ?r2_11
      case hy2_11 => (intro w hSw; (try dsimp only at hSw); (try unfold oArgSpecO11); go_simp; try (with_reducible rfl))
      (try simp only [oArgSpecO11, Act.put, zA, zB, zC])
      refine wpAnyH_ready (rs := [12]) (by kernel_rfl) (by simp) ?_
      refine AllReadyH.cons (o := oArgSpecO12) rfl (fun K hK => ?_) AllReadyH.nil
      ((try unfold oArgSpecO12); go_simp)
      (go_at_call 136; refine (Calls.mono (VN.out _)) ?_; rintro e w2 ⟨rfl, b2⟩)
      refine hK.out _ _ ?_ (fun hHeld2 => ?_)
      ·(try dsimp only); exact ⟨(T.out.below ((Below.refl _ _).drew.trans (b2.mono (Nat.le_refl _)))).cell 0 _ rfl, (T.out.below ((Below.refl _ _).drew.trans (b2.mono (Nat.le_refl _)))).cell 1 _ rfl, (VS.out.below ((Below.refl _ _).drew.trans (b2.mono (Nat.le_refl _)))).cell 1 _ rfl⟩
      clear hK K
      (try simp only [oArgSpecO12, Act.put, zA, zB, zC])
      refine tkW 13 oArgSpecO13 ?v2_13 ?hy2_13 ?r2_13
      case hy2_13 => (intro w hSw; (try dsimp only at hSw); (try unfold oArgSpecO13); go_simp; try (with_reducible rfl))
      (try simp only [oArgSpecO13, Act.put, zA, zB, zC])
      refine tkW 14 oArgSpecO14 ?v2_14 ?hy2_14 ?r2_14
      case hy2_14 => (intro w hSw; (try dsimp only at hSw); (try unfold oArgSpecO14); go_simp; try (with_reducible rfl))
      (try simp only [oArgSpecO14, Act.put, zA, zB, zC])
      refine tkW 15 oArgSpecO15 ?v2_15 ?hy2_15 ?r2_15
      case hy2_15 => (intro w hSw; (try dsimp only at hSw); (try unfold oArgSpecO15); go_simp; try (with_reducible rfl))
      (try simp only [oArgSpecO15, Act.put, zA, zB, zC])
      refine tkU 16 oArgSpecO16 ?_
      (try simp only [oArgSpecO16, Act.put, zA, zB, zC])
      refine tkU 17 oArgSpecO17 ?_
      (try simp only [oArgSpecO17, Act.put, zA, zB, zC])
      refine tkU 18 oArgSpecO18 ?_
      (try simp only [oArgSpecO18, Act.put, zA, zB, zC])
      refine tkW 19 oArgSpecO19 ?v2_19 ?hy2_19 ?r2_19
      case hy2_19 => (intro w hSw; (try dsimp only at hSw); (try unfold oArgSpecO19); go_simp; try (with_reducible rfl))
      (try simp only [oArgSpecO19, Act.put, zA, zB, zC])
      refine tkW 20 oArgSpecO20 ?v2_20 ?hy2_20 ?r2_20
      case hy2_20 => (intro w hSw; (try dsimp only at hSw); (try unfold oArgSpecO20); go_simp; try (with_reducible rfl))
      (try simp only [oArgSpecO20, Act.put, zA, zB, zC])
      refine tkU 21 oArgSpecO21 ?_
      (try simp only [oArgSpecO21, Act.put, zA, zB, zC])
      refine tkU 22 oArgSpecO22 ?_
      (try simp only [oArgSpecO22, Act.put, zA, zB, zC])
      refine tkU 23 oArgSpecO23 ?_
      (try simp only [oArgSpecO23, Act.put, zA, zB, zC])
      refine tkU 24 oArgSpecO24 ?_
      (try simp only [oArgSpecO24, Act.put, zA, zB, zC])
      refine tkU 25 oArgSpecO25 ?_
      (try simp only [oArgSpecO25, Act.put, zA, zB, zC])
      refine tkU 26 oArgSpecO26 ?_
      (try simp only [oArgSpecO26, Act.put, zA, zB, zC])
      refine tkU 27 oArgSpecO27 ?_
      (try simp only [oArgSpecO27, Act.put, zA, zB, zC])
      refine tkU 28 oArgSpecO28 ?_
      (try simp only [oArgSpecO28, Act.put, zA, zB, zC])
      refine tkU 29 oArgSpecO29 ?_
      (try simp only [oArgSpecO29, Act.put, zA, zB, zC])
      refine tkU 30 oArgSpecO30 ?_
      (try simp only [oArgSpecO30, Act.put, zA, zB, zC])
      refine tkU 31 oArgSpecO31 ?_
      (try simp only [oArgSpecO31, Act.put, zA, zB, zC])
      refine tkU 32 oArgSpecO32 ?_
      (try simp only [oArgSpecO32, Act.put, zA, zB, zC])
      refine tkU 33 oArgSpecO33 ?_
      (try simp only [oArgSpecO33, Act.put, zA, zB, zC])
      refine tkU 34 oArgSpecO34 ?_
      (try simp only [oArgSpecO34, Act.put, zA, zB, zC])
      refine tkW 35 oArgSpecO35 ?v2_35 ?hy2_35 ?r2_35
      case hy2_35 => (intro w hSw; (try dsimp only at hSw); (try unfold oArgSpecO35); go_simp; try (with_reducible rfl))
      (try simp only [oArgSpecO35, Act.put, zA, zB, zC])
      refine wpAnyH_done (by kernel_rfl) ?_ _
      all_goals
       have BE := Lib.hid (B1.out.trans ((show Below (wr.alloc (Obj.cells #[Value.int .i64 u, Value.string s] 161)).heap.size (wr.alloc (Obj.cells #[Value.int .i64 u, Value.string s] 161)) _ from (Below.refl _ _).drew.trans (b2.mono (Nat.le_refl _))).mono B1.out.size))
       go_wp2
       go_ret
       exact ⟨ret_b HF.out.symm, BE.out⟩
     | true =>
      cases ln with
      | true =>
       have HF := Lib.hid (show R = false from HBAD.out (by rw [HTV.out]; rfl))
       go_wp2_with fail
       refine wp_region_held_drew (S := (fun w' => w'.cell? ⟨wr.heap.size, 0, none⟩ = some (.int .i64 u) ∧ w'.cell? ⟨wr.heap.size, 1, none⟩ = some (.string s) ∧ w'.cell? ⟨w.heap.size, 1, none⟩ = some (.slice (some ⟨b, o, none⟩) xs.length c))) (by kernel_rfl) ?_ (fun hHeld => ?_)
       ·(try dsimp only); exact ⟨(T.out.below (Below.refl _ _).drew).cell 0 _ rfl, (T.out.below (Below.refl _ _).drew).cell 1 _ rfl, (VS.out.below (Below.refl _ _).drew).cell 1 _ rfl⟩
       refine tkW 0 oArgSpecO0 ?v3_0 ?hy3_0 ?r3_0
       case hy3_0 => (intro w hSw; (try dsimp only at hSw); (try unfold oArgSpecO0); go_simp; try (with_reducible rfl))
       (try simp only [oArgSpecO0, Act.put, zA, zB, zC])
       refine tkW 1 oArgSpecO1 ?v3_1 ?hy3_1 ?r3_1
       case hy3_1 => (intro w hSw; (try dsimp only at hSw); (try unfold oArgSpecO1); go_simp; try (with_reducible rfl))
       (try simp only [oArgSpecO1, Act.put, zA, zB, zC])
       refine tkW 2 oArgSpecO2 ?v3_2 ?hy3_2 ?r3_2
       case hy3_2 => (intro w hSw; (try dsimp only at hSw); (try unfold oArgSpecO2); go_simp; try (with_reducible rfl))
       (try simp only [oArgSpecO2, Act.put, zA, zB, zC])
       refine tkW 3 oArgSpecO3 ?v3_3 ?hy3_3 ?r3_3
       case hy3_3 => (intro w hSw; (try dsimp only at hSw); (try unfold oArgSpecO3); go_simp; try (with_reducible rfl))
       (try simp only [oArgSpecO3, Act.put, zA, zB, zC])
       refine tkW 4 oArgSpecO4 ?v3_4 ?hy3_4 ?r3_4
       case hy3_4 => (intro w hSw; (try dsimp only at hSw); (try unfold oArgSpecO4); go_simp; try (with_reducible rfl))
       (try simp only [oArgSpecO4, Act.put, zA, zB, zC])
       refine tkW 5 oArgSpecO5 ?v3_5 ?hy3_5 ?r3_5
       case hy3_5 => (intro w hSw; (try dsimp only at hSw); (try unfold oArgSpecO5); go_simp; try (with_reducible rfl))
       (try simp only [oArgSpecO5, Act.put, zA, zB, zC])
       refine wpAnyH_ready (rs := [6]) (by kernel_rfl) (by simp) ?_
       refine AllReadyH.cons (o := oArgSpecO6) rfl (fun K hK => ?_) AllReadyH.nil
       ((try unfold oArgSpecO6); go_simp)
       (go_at_call 184; refine (Calls.mono (FT.out _)) ?_; rintro e w1 ⟨rfl, rfl⟩)
       refine hK.out _ _ ?_ (fun hHeld2 => ?_)
       ·(try dsimp only); exact ⟨(T.out.below (Below.refl _ _).drew).cell 0 _ rfl, (T.out.below (Below.refl _ _).drew).cell 1 _ rfl, (VS.out.below (Below.refl _ _).drew).cell 1 _ rfl⟩
       clear hK K
       (try simp only [oArgSpecO6, Act.put, zA, zB, zC])
       refine tkW 7 oArgSpecO7 ?v3_7 ?hy3_7 ?r3_7
       case hy3_7 => (intro w hSw; (try dsimp only at hSw); (try unfold oArgSpecO7); go_simp; try (with_reducible rfl))
       (try simp only [oArgSpecO7, Act.put, zA, zB, zC])
       refine tkW 8 oArgSpecO8 ?v3_8 ?hy3_8 ?r3_8
       case hy3_8 => (intro w hSw; (try dsimp only at hSw); (try unfold oArgSpecO8); go_simp; try (with_reducible rfl))
       (try simp only [oArgSpecO8, Act.put, zA, zB, zC])
       refine tkW 9 oArgSpecO9 ?v3_9 ?hy3_9 ?r3_9
       case hy3_9 => (intro w hSw; (try dsimp only at hSw); (try unfold oArgSpecO9); go_simp; try (with_reducible rfl))
       (try simp only [oArgSpecO9, Act.put, zA, zB, zC])
       refine tkW 10 oArgSpecO10 ?v3_10 ?hy3_10 ?r3_10
       case hy3_10 => (intro w hSw; (try dsimp only at hSw); (try unfold oArgSpecO10); go_simp; try (with_reducible rfl))
       (try simp only [oArgSpecO10, Act.put, zA, zB, zC])
       refine tkW 11 oArgSpecO11 ?v3_11 ?hy3_11 ?r3_11
       case hy3_11 => (intro w hSw; (try dsimp only at hSw); (try unfold oArgSpecO11); go_simp; try (with_reducible rfl))
       (try simp only [oArgSpecO11, Act.put, zA, zB, zC])
       refine wpAnyH_ready (rs := [12]) (by kernel_rfl) (by simp) ?_
       refine AllReadyH.cons (o := oArgSpecO12) rfl (fun K hK => ?_) AllReadyH.nil
       ((try unfold oArgSpecO12); go_simp)
       (go_at_call 136; refine (Calls.mono (VN.out _)) ?_; rintro e w2 ⟨rfl, b2⟩)
       refine hK.out _ _ ?_ (fun hHeld2 => ?_)
       ·(try dsimp only); exact ⟨(T.out.below ((Below.refl _ _).drew.trans (b2.mono (Nat.le_refl _)))).cell 0 _ rfl, (T.out.below ((Below.refl _ _).drew.trans (b2.mono (Nat.le_refl _)))).cell 1 _ rfl, (VS.out.below ((Below.refl _ _).drew.trans (b2.mono (Nat.le_refl _)))).cell 1 _ rfl⟩
       clear hK K
       (try simp only [oArgSpecO12, Act.put, zA, zB, zC])
       refine tkW 13 oArgSpecO13 ?v3_13 ?hy3_13 ?r3_13
       case hy3_13 => (intro w hSw; (try dsimp only at hSw); (try unfold oArgSpecO13); go_simp; try (with_reducible rfl))
       (try simp only [oArgSpecO13, Act.put, zA, zB, zC])
       refine tkW 14 oArgSpecO14 ?v3_14 ?hy3_14 ?r3_14
       case hy3_14 => (intro w hSw; (try dsimp only at hSw); (try unfold oArgSpecO14); go_simp; try (with_reducible rfl))
       (try simp only [oArgSpecO14, Act.put, zA, zB, zC])
       refine tkW 15 oArgSpecO15 ?v3_15 ?hy3_15 ?r3_15
       case hy3_15 => (intro w hSw; (try dsimp only at hSw); (try unfold oArgSpecO15); go_simp; try (with_reducible rfl))
       (try simp only [oArgSpecO15, Act.put, zA, zB, zC])
       refine tkW 16 oArgSpecO16 ?v3_16 ?hy3_16 ?r3_16
       case hy3_16 => (intro w hSw; (try dsimp only at hSw); (try unfold oArgSpecO16); go_simp; try (with_reducible rfl))
       (try simp only [oArgSpecO16, Act.put, zA, zB, zC])
       refine tkW 17 oArgSpecO17 ?v3_17 ?hy3_17 ?r3_17
       case hy3_17 => (intro w hSw; (try dsimp only at hSw); (try unfold oArgSpecO17); go_simp; try (with_reducible rfl))
       (try simp only [oArgSpecO17, Act.put, zA, zB, zC])
       refine wpAnyH_ready (rs := [18]) (by kernel_rfl) (by simp) ?_
       refine AllReadyH.cons (o := oArgSpecO18) rfl (fun K hK => ?_) AllReadyH.nil
       ((try unfold oArgSpecO18); go_simp)
       (go_at_call 137; refine (Calls.mono (LN.out _)) ?_; rintro e w3 ⟨rfl, b3⟩)
       refine hK.out _ _ ?_ (fun hHeld2 => ?_)
       ·(try dsimp only); exact ⟨(T.out.below (((Below.refl _ _).drew.trans (b2.mono (Nat.le_refl _))).trans (b3.mono (by have := b2.size; simpa using this)))).cell 0 _ rfl, (T.out.below (((Below.refl _ _).drew.trans (b2.mono (Nat.le_refl _))).trans (b3.mono (by have := b2.size; simpa using this)))).cell 1 _ rfl, (VS.out.below (((Below.refl _ _).drew.trans (b2.mono (Nat.le_refl _))).trans (b3.mono (by have := b2.size; simpa using this)))).cell 1 _ rfl⟩
       clear hK K
       (try simp only [oArgSpecO18, Act.put, zA, zB, zC])
       refine tkW 19 oArgSpecO19 ?v3_19 ?hy3_19 ?r3_19
       case hy3_19 => (intro w hSw; (try dsimp only at hSw); (try unfold oArgSpecO19); go_simp; try (with_reducible rfl))
       (try simp only [oArgSpecO19, Act.put, zA, zB, zC])
       refine tkW 20 oArgSpecO20 ?v3_20 ?hy3_20 ?r3_20
       case hy3_20 => (intro w hSw; (try dsimp only at hSw); (try unfold oArgSpecO20); go_simp; try (with_reducible rfl))
       (try simp only [oArgSpecO20, Act.put, zA, zB, zC])
       refine tkU 21 oArgSpecO21 ?_
       (try simp only [oArgSpecO21, Act.put, zA, zB, zC])
       refine tkU 22 oArgSpecO22 ?_
       (try simp only [oArgSpecO22, Act.put, zA, zB, zC])
       refine tkU 23 oArgSpecO23 ?_
       (try simp only [oArgSpecO23, Act.put, zA, zB, zC])
       refine tkU 24 oArgSpecO24 ?_
       (try simp only [oArgSpecO24, Act.put, zA, zB, zC])
       refine tkU 25 oArgSpecO25 ?_
       (try simp only [oArgSpecO25, Act.put, zA, zB, zC])
       refine tkU 26 oArgSpecO26 ?_
       (try simp only [oArgSpecO26, Act.put, zA, zB, zC])
       refine tkU 27 oArgSpecO27 ?_
       (try simp only [oArgSpecO27, Act.put, zA, zB, zC])
       refine tkU 28 oArgSpecO28 ?_
       (try simp only [oArgSpecO28, Act.put, zA, zB, zC])
       refine tkU 29 oArgSpecO29 ?_
       (try simp only [oArgSpecO29, Act.put, zA, zB, zC])
       refine tkU 30 oArgSpecO30 ?_
       (try simp only [oArgSpecO30, Act.put, zA, zB, zC])
       refine tkU 31 oArgSpecO31 ?_
       (try simp only [oArgSpecO31, Act.put, zA, zB, zC])
       refine tkU 32 oArgSpecO32 ?_
       (try simp only [oArgSpecO32, Act.put, zA, zB, zC])
       refine tkU 33 oArgSpecO33 ?_
       (try simp only [oArgSpecO33, Act.put, zA, zB, zC])
       refine tkU 34 oArgSpecO34 ?_
       (try simp only [oArgSpecO34, Act.put, zA, zB, zC])
       refine tkW 35 oArgSpecO35 ?v3_35 ?hy3_35 ?r3_35
       case hy3_35 => (intro w hSw; (try dsimp only at hSw); (try unfold oArgSpecO35); go_simp; try (with_reducible rfl))
       (try simp only [oArgSpecO35, Act.put, zA, zB, zC])
       refine wpAnyH_done (by kernel_rfl) ?_ _
       all_goals
        have BE := Lib.hid (B1.out.trans ((show Below (wr.alloc (Obj.cells #[Value.int .i64 u, Value.string s] 161)).heap.size (wr.alloc (Obj.cells #[Value.int .i64 u, Value.string s] 161)) _ from ((Below.refl _ _).drew.trans (b2.mono (Nat.le_refl _))).trans (b3.mono (by have := b2.size; simpa using this))).mono B1.out.size))
        go_wp2
        go_ret
        exact ⟨ret_b HF.out.symm, BE.out⟩
      | false =>
       have HYES := Lib.hid (show termV (u, s) = true by rw [HTV.out]; rfl)
       have HT2 := Lib.hid (show ∀ j x, j < k + 1 → xs[j]? = some x → termV x = true from fun j x hj hx => by
        by_cases e : j = k
        ·subst e
         obtain rfl := Option.some.inj (HG.out.symm.trans hx)
         exact HYES.out
        ·exact HTE.out j x (by omega) hx)
       by_cases hk0 : k = 0
       ·have hq2 : decide ((k : Int) > 0) = false := decide_eq_false (by omega)
        have hq2n : decide (0 < k) = false := decide_eq_false (by omega)
        have HK0 := Lib.hid hk0
        clear hk0
        go_wp2_with fail
        refine wp_region_held_drew (S := (fun w' => w'.cell? ⟨wr.heap.size, 0, none⟩ = some (.int .i64 u) ∧ w'.cell? ⟨wr.heap.size, 1, none⟩ = some (.string s) ∧ w'.cell? ⟨w.heap.size, 1, none⟩ = some (.slice (some ⟨b, o, none⟩) xs.length c))) (by kernel_rfl) ?_ (fun hHeld => ?_)
        ·(try dsimp only); exact ⟨(T.out.below (Below.refl _ _).drew).cell 0 _ rfl, (T.out.below (Below.refl _ _).drew).cell 1 _ rfl, (VS.out.below (Below.refl _ _).drew).cell 1 _ rfl⟩
        refine tkW 0 oArgSpecO0 ?v4_0 ?hy4_0 ?r4_0
        case hy4_0 => (intro w hSw; (try dsimp only at hSw); (try unfold oArgSpecO0); go_simp; try (with_reducible rfl))
        (try simp only [oArgSpecO0, Act.put, zA, zB, zC])
        refine tkW 1 oArgSpecO1 ?v4_1 ?hy4_1 ?r4_1
        case hy4_1 => (intro w hSw; (try dsimp only at hSw); (try unfold oArgSpecO1); go_simp; try (with_reducible rfl))
        (try simp only [oArgSpecO1, Act.put, zA, zB, zC])
        refine tkW 2 oArgSpecO2 ?v4_2 ?hy4_2 ?r4_2
        case hy4_2 => (intro w hSw; (try dsimp only at hSw); (try unfold oArgSpecO2); go_simp; try (with_reducible rfl))
        (try simp only [oArgSpecO2, Act.put, zA, zB, zC])
        refine tkW 3 oArgSpecO3 ?v4_3 ?hy4_3 ?r4_3
        case hy4_3 => (intro w hSw; (try dsimp only at hSw); (try unfold oArgSpecO3); go_simp; try (with_reducible rfl))
        (try simp only [oArgSpecO3, Act.put, zA, zB, zC])
        refine tkW 4 oArgSpecO4 ?v4_4 ?hy4_4 ?r4_4
        case hy4_4 => (intro w hSw; (try dsimp only at hSw); (try unfold oArgSpecO4); go_simp; try (with_reducible rfl))
        (try simp only [oArgSpecO4, Act.put, zA, zB, zC])
        refine tkW 5 oArgSpecO5 ?v4_5 ?hy4_5 ?r4_5
        case hy4_5 => (intro w hSw; (try dsimp only at hSw); (try unfold oArgSpecO5); go_simp; try (with_reducible rfl))
        (try simp only [oArgSpecO5, Act.put, zA, zB, zC])
        refine wpAnyH_ready (rs := [6]) (by kernel_rfl) (by simp) ?_
        refine AllReadyH.cons (o := oArgSpecO6) rfl (fun K hK => ?_) AllReadyH.nil
        ((try unfold oArgSpecO6); go_simp)
        (go_at_call 184; refine (Calls.mono (FT.out _)) ?_; rintro e w1 ⟨rfl, rfl⟩)
        refine hK.out _ _ ?_ (fun hHeld2 => ?_)
        ·(try dsimp only); exact ⟨(T.out.below (Below.refl _ _).drew).cell 0 _ rfl, (T.out.below (Below.refl _ _).drew).cell 1 _ rfl, (VS.out.below (Below.refl _ _).drew).cell 1 _ rfl⟩
        clear hK K
        (try simp only [oArgSpecO6, Act.put, zA, zB, zC])
        refine tkW 7 oArgSpecO7 ?v4_7 ?hy4_7 ?r4_7
        case hy4_7 => (intro w hSw; (try dsimp only at hSw); (try unfold oArgSpecO7); go_simp; try (with_reducible rfl))
        (try simp only [oArgSpecO7, Act.put, zA, zB, zC])
        refine tkW 8 oArgSpecO8 ?v4_8 ?hy4_8 ?r4_8
        case hy4_8 => (intro w hSw; (try dsimp only at hSw); (try unfold oArgSpecO8); go_simp; try (with_reducible rfl))
        (try simp only [oArgSpecO8, Act.put, zA, zB, zC])
        refine tkW 9 oArgSpecO9 ?v4_9 ?hy4_9 ?r4_9
        case hy4_9 => (intro w hSw; (try dsimp only at hSw); (try unfold oArgSpecO9); go_simp; try (with_reducible rfl))
        (try simp only [oArgSpecO9, Act.put, zA, zB, zC])
        refine tkW 10 oArgSpecO10 ?v4_10 ?hy4_10 ?r4_10
        case hy4_10 => (intro w hSw; (try dsimp only at hSw); (try unfold oArgSpecO10); go_simp; try (with_reducible rfl))
        (try simp only [oArgSpecO10, Act.put, zA, zB, zC])
        refine tkW 11 oArgSpecO11 ?v4_11 ?hy4_11 ?r4_11
        case hy4_11 => (intro w hSw; (try dsimp only at hSw); (try unfold oArgSpecO11); go_simp; try (with_reducible rfl))
        (try simp only [oArgSpecO11, Act.put, zA, zB, zC])
        refine wpAnyH_ready (rs := [12]) (by kernel_rfl) (by simp) ?_
        refine AllReadyH.cons (o := oArgSpecO12) rfl (fun K hK => ?_) AllReadyH.nil
        ((try unfold oArgSpecO12); go_simp)
        (go_at_call 136; refine (Calls.mono (VN.out _)) ?_; rintro e w2 ⟨rfl, b2⟩)
        refine hK.out _ _ ?_ (fun hHeld2 => ?_)
        ·(try dsimp only); exact ⟨(T.out.below ((Below.refl _ _).drew.trans (b2.mono (Nat.le_refl _)))).cell 0 _ rfl, (T.out.below ((Below.refl _ _).drew.trans (b2.mono (Nat.le_refl _)))).cell 1 _ rfl, (VS.out.below ((Below.refl _ _).drew.trans (b2.mono (Nat.le_refl _)))).cell 1 _ rfl⟩
        clear hK K
        (try simp only [oArgSpecO12, Act.put, zA, zB, zC])
        refine tkW 13 oArgSpecO13 ?v4_13 ?hy4_13 ?r4_13
        case hy4_13 => (intro w hSw; (try dsimp only at hSw); (try unfold oArgSpecO13); go_simp; try (with_reducible rfl))
        (try simp only [oArgSpecO13, Act.put, zA, zB, zC])
        refine tkW 14 oArgSpecO14 ?v4_14 ?hy4_14 ?r4_14
        case hy4_14 => (intro w hSw; (try dsimp only at hSw); (try unfold oArgSpecO14); go_simp; try (with_reducible rfl))
        (try simp only [oArgSpecO14, Act.put, zA, zB, zC])
        refine tkW 15 oArgSpecO15 ?v4_15 ?hy4_15 ?r4_15
        case hy4_15 => (intro w hSw; (try dsimp only at hSw); (try unfold oArgSpecO15); go_simp; try (with_reducible rfl))
        (try simp only [oArgSpecO15, Act.put, zA, zB, zC])
        refine tkW 16 oArgSpecO16 ?v4_16 ?hy4_16 ?r4_16
        case hy4_16 => (intro w hSw; (try dsimp only at hSw); (try unfold oArgSpecO16); go_simp; try (with_reducible rfl))
        (try simp only [oArgSpecO16, Act.put, zA, zB, zC])
        refine tkW 17 oArgSpecO17 ?v4_17 ?hy4_17 ?r4_17
        case hy4_17 => (intro w hSw; (try dsimp only at hSw); (try unfold oArgSpecO17); go_simp; try (with_reducible rfl))
        (try simp only [oArgSpecO17, Act.put, zA, zB, zC])
        refine wpAnyH_ready (rs := [18]) (by kernel_rfl) (by simp) ?_
        refine AllReadyH.cons (o := oArgSpecO18) rfl (fun K hK => ?_) AllReadyH.nil
        ((try unfold oArgSpecO18); go_simp)
        (go_at_call 137; refine (Calls.mono (LN.out _)) ?_; rintro e w3 ⟨rfl, b3⟩)
        refine hK.out _ _ ?_ (fun hHeld2 => ?_)
        ·(try dsimp only); exact ⟨(T.out.below (((Below.refl _ _).drew.trans (b2.mono (Nat.le_refl _))).trans (b3.mono (by have := b2.size; simpa using this)))).cell 0 _ rfl, (T.out.below (((Below.refl _ _).drew.trans (b2.mono (Nat.le_refl _))).trans (b3.mono (by have := b2.size; simpa using this)))).cell 1 _ rfl, (VS.out.below (((Below.refl _ _).drew.trans (b2.mono (Nat.le_refl _))).trans (b3.mono (by have := b2.size; simpa using this)))).cell 1 _ rfl⟩
        clear hK K
        (try simp only [oArgSpecO18, Act.put, zA, zB, zC])
        refine tkW 19 oArgSpecO19 ?v4_19 ?hy4_19 ?r4_19
        case hy4_19 => (intro w hSw; (try dsimp only at hSw); (try unfold oArgSpecO19); go_simp; try (with_reducible rfl))
        (try simp only [oArgSpecO19, Act.put, zA, zB, zC])
        refine tkW 20 oArgSpecO20 ?v4_20 ?hy4_20 ?r4_20
        case hy4_20 => (intro w hSw; (try dsimp only at hSw); (try unfold oArgSpecO20); go_simp; try (with_reducible rfl))
        (try simp only [oArgSpecO20, Act.put, zA, zB, zC])
        refine tkW 21 oArgSpecO21 ?v4_21 ?hy4_21 ?r4_21
        case hy4_21 => (intro w hSw; (try dsimp only at hSw); (try unfold oArgSpecO21); go_simp; try (with_reducible rfl))
        (try simp only [oArgSpecO21, Act.put, zA, zB, zC])
        refine tkW 22 oArgSpecO22 ?v4_22 ?hy4_22 ?r4_22
        case hy4_22 => (intro w hSw; (try dsimp only at hSw); (try unfold oArgSpecO22); go_simp; try (with_reducible rfl))
        (try simp only [oArgSpecO22, Act.put, zA, zB, zC])
        refine tkW 23 oArgSpecO23 ?v4_23 ?hy4_23 ?r4_23
        case hy4_23 => (intro w hSw; (try dsimp only at hSw); (try unfold oArgSpecO23); go_simp; try (with_reducible rfl))
        (try simp only [oArgSpecO23, Act.put, zA, zB, zC])
        refine tkU 24 oArgSpecO24 ?_
        (try simp only [oArgSpecO24, Act.put, zA, zB, zC])
        refine tkU 25 oArgSpecO25 ?_
        (try simp only [oArgSpecO25, Act.put, zA, zB, zC])
        refine tkU 26 oArgSpecO26 ?_
        (try simp only [oArgSpecO26, Act.put, zA, zB, zC])
        refine tkU 27 oArgSpecO27 ?_
        (try simp only [oArgSpecO27, Act.put, zA, zB, zC])
        refine tkU 28 oArgSpecO28 ?_
        (try simp only [oArgSpecO28, Act.put, zA, zB, zC])
        refine tkU 29 oArgSpecO29 ?_
        (try simp only [oArgSpecO29, Act.put, zA, zB, zC])
        refine tkU 30 oArgSpecO30 ?_
        (try simp only [oArgSpecO30, Act.put, zA, zB, zC])
        refine tkU 31 oArgSpecO31 ?_
        (try simp only [oArgSpecO31, Act.put, zA, zB, zC])
        refine tkU 32 oArgSpecO32 ?_
        (try simp only [oArgSpecO32, Act.put, zA, zB, zC])
        refine tkU 33 oArgSpecO33 ?_
        (try simp only [oArgSpecO33, Act.put, zA, zB, zC])
        refine tkW 34 oArgSpecO34 ?v4_34 ?hy4_34 ?r4_34
        case hy4_34 => (intro w hSw; (try dsimp only at hSw); (try unfold oArgSpecO34); go_simp; try (with_reducible rfl))
        (try simp only [oArgSpecO34, Act.put, zA, zB, zC])
        refine tkW 35 oArgSpecO35 ?v4_35 ?hy4_35 ?r4_35
        case hy4_35 => (intro w hSw; (try dsimp only at hSw); (try unfold oArgSpecO35); go_simp; try (with_reducible rfl))
        (try simp only [oArgSpecO35, Act.put, zA, zB, zC])
        refine wpAnyH_done (by kernel_rfl) ?_ _
        all_goals
         have BE := Lib.hid (B1.out.trans ((show Below (wr.alloc (Obj.cells #[Value.int .i64 u, Value.string s] 161)).heap.size (wr.alloc (Obj.cells #[Value.int .i64 u, Value.string s] 161)) _ from ((Below.refl _ _).drew.trans (b2.mono (Nat.le_refl _))).trans (b3.mono (by have := b2.size; simpa using this))).mono B1.out.size))
         have VE := Lib.hid (VS.out.below (show Below (wr.alloc (Obj.cells #[Value.int .i64 u, Value.string s] 161)).heap.size (wr.alloc (Obj.cells #[Value.int .i64 u, Value.string s] 161)) _ from ((Below.refl _ _).drew.trans (b2.mono (Nat.le_refl _))).trans (b3.mono (by have := b2.size; simpa using this))))
         have vv1 := VE.out.cell 1 (.slice (some ⟨b, o, none⟩) xs.length c) rfl
         go_wp2
         refine ⟨?_, ?measure⟩
         ·(repeat apply Exists.intro)
          refine ⟨?rel9, rfl⟩
          case rel9 => exact ⟨k + 1, by omega, by go_num, HT2.out, (fun j a b hj => by have := HK0.out; omega), BE.out, VE.out⟩
         case measure => simp [intOf]; omega
       ·obtain ⟨q, hkq⟩ : ∃ q, k = q + 1 := ⟨k - 1, by omega⟩
        have HKQ := Lib.hid hkq
        have hltq : q < xs.length := by omega
        obtain ⟨b1, o1, e1, hbbw, _, pc⟩ := (HA.out.below HB.out).term_at hltq
        injection e1 with e1; injection e1 with e1 e2; subst e1; subst e2
        have HG1 := Lib.hid (List.getElem?_eq_getElem hltq)
        generalize xs[q] = y at *
        obtain ⟨uq, pn⟩ := y
        simp only at pc
        have hbb1 : b < (wr.alloc (Obj.cells #[Value.int .i64 u, Value.string s] 161)).heap.size := by simp; omega
        have pcw := (((Below.refl wr.heap.size wr).alloc (Nat.le_refl _) (Obj.cells #[Value.int .i64 u, Value.string s] 161)).cell (p := ⟨b, o + q * 2 + 1, none⟩) hbbw).trans pc
        have hq1 : (k : Int) - 1 = (q : Int) := by omega
        have hq2 : decide ((k : Int) > 0) = true := decide_eq_true (by omega)
        have hq2n : decide (0 < k) = true := decide_eq_true (by omega)
        have HGK := Lib.hid (show xs[q + 1]? = some (u, s) by rw [← hkq]; exact HG.out)
        have hq3 : (0 : Int) ≤ (q : Int) := by omega
        have hwq : IntKind.i64.wrap (q : Int) = (q : Int) := IntWalk.i64_in _ ⟨by omega, by omega⟩
        have hq4 : (q : Int) < (xs.length : Int) := by omega
        clear hkq hk0
        have hless := bytes_less pn s
        cases hc : decide (pn.data.toList < s.data.toList) with
        | true =>
         rw [hc] at hless
         have HO2 := Lib.hid (show ∀ j a b, j + 1 < k + 1 → xs[j]? = some a → xs[j + 1]? = some b → ascN a b = true from fun j a b hj h1 h2 => by
          by_cases e : j = q
          ·subst e
           obtain rfl := Option.some.inj (HG1.out.symm.trans h1)
           obtain rfl := Option.some.inj (HGK.out.symm.trans h2)
           exact hc
          ·exact HOR.out j a b (by have := HKQ.out; omega) h1 h2)
         clear hc
         go_wp2_with fail
         refine wp_region_held_drew (S := (fun w' => w'.cell? ⟨wr.heap.size, 0, none⟩ = some (.int .i64 u) ∧ w'.cell? ⟨wr.heap.size, 1, none⟩ = some (.string s) ∧ w'.cell? ⟨w.heap.size, 1, none⟩ = some (.slice (some ⟨b, o, none⟩) xs.length c) ∧ w'.cell? ⟨b, o + q * 2 + 1, none⟩ = some (.string pn))) (by kernel_rfl) ?_ (fun hHeld => ?_)
         ·(try dsimp only); exact ⟨(T.out.below (Below.refl _ _).drew).cell 0 _ rfl, (T.out.below (Below.refl _ _).drew).cell 1 _ rfl, (VS.out.below (Below.refl _ _).drew).cell 1 _ rfl, ((Below.refl _ _).drew.cell (p := ⟨b, o + q * 2 + 1, none⟩) hbb1).trans pcw⟩
         refine tkW 0 oArgSpecO0 ?v5_0 ?hy5_0 ?r5_0
         case hy5_0 => (intro w hSw; (try dsimp only at hSw); (try unfold oArgSpecO0); go_simp; try (with_reducible rfl))
         (try simp only [oArgSpecO0, Act.put, zA, zB, zC])
         refine tkW 1 oArgSpecO1 ?v5_1 ?hy5_1 ?r5_1
         case hy5_1 => (intro w hSw; (try dsimp only at hSw); (try unfold oArgSpecO1); go_simp; try (with_reducible rfl))
         (try simp only [oArgSpecO1, Act.put, zA, zB, zC])
         refine tkW 2 oArgSpecO2 ?v5_2 ?hy5_2 ?r5_2
         case hy5_2 => (intro w hSw; (try dsimp only at hSw); (try unfold oArgSpecO2); go_simp; try (with_reducible rfl))
         (try simp only [oArgSpecO2, Act.put, zA, zB, zC])
         refine tkW 3 oArgSpecO3 ?v5_3 ?hy5_3 ?r5_3
         case hy5_3 => (intro w hSw; (try dsimp only at hSw); (try unfold oArgSpecO3); go_simp; try (with_reducible rfl))
         (try simp only [oArgSpecO3, Act.put, zA, zB, zC])
         refine tkW 4 oArgSpecO4 ?v5_4 ?hy5_4 ?r5_4
         case hy5_4 => (intro w hSw; (try dsimp only at hSw); (try unfold oArgSpecO4); go_simp; try (with_reducible rfl))
         (try simp only [oArgSpecO4, Act.put, zA, zB, zC])
         refine tkW 5 oArgSpecO5 ?v5_5 ?hy5_5 ?r5_5
         case hy5_5 => (intro w hSw; (try dsimp only at hSw); (try unfold oArgSpecO5); go_simp; try (with_reducible rfl))
         (try simp only [oArgSpecO5, Act.put, zA, zB, zC])
         refine wpAnyH_ready (rs := [6]) (by kernel_rfl) (by simp) ?_
         refine AllReadyH.cons (o := oArgSpecO6) rfl (fun K hK => ?_) AllReadyH.nil
         ((try unfold oArgSpecO6); go_simp)
         (go_at_call 184; refine (Calls.mono (FT.out _)) ?_; rintro e w1 ⟨rfl, rfl⟩)
         refine hK.out _ _ ?_ (fun hHeld2 => ?_)
         ·(try dsimp only); exact ⟨(T.out.below (Below.refl _ _).drew).cell 0 _ rfl, (T.out.below (Below.refl _ _).drew).cell 1 _ rfl, (VS.out.below (Below.refl _ _).drew).cell 1 _ rfl, ((Below.refl _ _).drew.cell (p := ⟨b, o + q * 2 + 1, none⟩) hbb1).trans pcw⟩
         clear hK K
         (try simp only [oArgSpecO6, Act.put, zA, zB, zC])
         refine tkW 7 oArgSpecO7 ?v5_7 ?hy5_7 ?r5_7
         case hy5_7 => (intro w hSw; (try dsimp only at hSw); (try unfold oArgSpecO7); go_simp; try (with_reducible rfl))
         (try simp only [oArgSpecO7, Act.put, zA, zB, zC])
         refine tkW 8 oArgSpecO8 ?v5_8 ?hy5_8 ?r5_8
         case hy5_8 => (intro w hSw; (try dsimp only at hSw); (try unfold oArgSpecO8); go_simp; try (with_reducible rfl))
         (try simp only [oArgSpecO8, Act.put, zA, zB, zC])
         refine tkW 9 oArgSpecO9 ?v5_9 ?hy5_9 ?r5_9
         case hy5_9 => (intro w hSw; (try dsimp only at hSw); (try unfold oArgSpecO9); go_simp; try (with_reducible rfl))
         (try simp only [oArgSpecO9, Act.put, zA, zB, zC])
         refine tkW 10 oArgSpecO10 ?v5_10 ?hy5_10 ?r5_10
         case hy5_10 => (intro w hSw; (try dsimp only at hSw); (try unfold oArgSpecO10); go_simp; try (with_reducible rfl))
         (try simp only [oArgSpecO10, Act.put, zA, zB, zC])
         refine tkW 11 oArgSpecO11 ?v5_11 ?hy5_11 ?r5_11
         case hy5_11 => (intro w hSw; (try dsimp only at hSw); (try unfold oArgSpecO11); go_simp; try (with_reducible rfl))
         (try simp only [oArgSpecO11, Act.put, zA, zB, zC])
         refine wpAnyH_ready (rs := [12]) (by kernel_rfl) (by simp) ?_
         refine AllReadyH.cons (o := oArgSpecO12) rfl (fun K hK => ?_) AllReadyH.nil
         ((try unfold oArgSpecO12); go_simp)
         (go_at_call 136; refine (Calls.mono (VN.out _)) ?_; rintro e w2 ⟨rfl, b2⟩)
         refine hK.out _ _ ?_ (fun hHeld2 => ?_)
         ·(try dsimp only); exact ⟨(T.out.below ((Below.refl _ _).drew.trans (b2.mono (Nat.le_refl _)))).cell 0 _ rfl, (T.out.below ((Below.refl _ _).drew.trans (b2.mono (Nat.le_refl _)))).cell 1 _ rfl, (VS.out.below ((Below.refl _ _).drew.trans (b2.mono (Nat.le_refl _)))).cell 1 _ rfl, (((Below.refl _ _).drew.trans (b2.mono (Nat.le_refl _))).cell (p := ⟨b, o + q * 2 + 1, none⟩) hbb1).trans pcw⟩
         clear hK K
         (try simp only [oArgSpecO12, Act.put, zA, zB, zC])
         refine tkW 13 oArgSpecO13 ?v5_13 ?hy5_13 ?r5_13
         case hy5_13 => (intro w hSw; (try dsimp only at hSw); (try unfold oArgSpecO13); go_simp; try (with_reducible rfl))
         (try simp only [oArgSpecO13, Act.put, zA, zB, zC])
         refine tkW 14 oArgSpecO14 ?v5_14 ?hy5_14 ?r5_14
         case hy5_14 => (intro w hSw; (try dsimp only at hSw); (try unfold oArgSpecO14); go_simp; try (with_reducible rfl))
         (try simp only [oArgSpecO14, Act.put, zA, zB, zC])
         refine tkW 15 oArgSpecO15 ?v5_15 ?hy5_15 ?r5_15
         case hy5_15 => (intro w hSw; (try dsimp only at hSw); (try unfold oArgSpecO15); go_simp; try (with_reducible rfl))
         (try simp only [oArgSpecO15, Act.put, zA, zB, zC])
         refine tkW 16 oArgSpecO16 ?v5_16 ?hy5_16 ?r5_16
         case hy5_16 => (intro w hSw; (try dsimp only at hSw); (try unfold oArgSpecO16); go_simp; try (with_reducible rfl))
         (try simp only [oArgSpecO16, Act.put, zA, zB, zC])
         refine tkW 17 oArgSpecO17 ?v5_17 ?hy5_17 ?r5_17
         case hy5_17 => (intro w hSw; (try dsimp only at hSw); (try unfold oArgSpecO17); go_simp; try (with_reducible rfl))
         (try simp only [oArgSpecO17, Act.put, zA, zB, zC])
         refine wpAnyH_ready (rs := [18]) (by kernel_rfl) (by simp) ?_
         refine AllReadyH.cons (o := oArgSpecO18) rfl (fun K hK => ?_) AllReadyH.nil
         ((try unfold oArgSpecO18); go_simp)
         (go_at_call 137; refine (Calls.mono (LN.out _)) ?_; rintro e w3 ⟨rfl, b3⟩)
         refine hK.out _ _ ?_ (fun hHeld2 => ?_)
         ·(try dsimp only); exact ⟨(T.out.below (((Below.refl _ _).drew.trans (b2.mono (Nat.le_refl _))).trans (b3.mono (by have := b2.size; simpa using this)))).cell 0 _ rfl, (T.out.below (((Below.refl _ _).drew.trans (b2.mono (Nat.le_refl _))).trans (b3.mono (by have := b2.size; simpa using this)))).cell 1 _ rfl, (VS.out.below (((Below.refl _ _).drew.trans (b2.mono (Nat.le_refl _))).trans (b3.mono (by have := b2.size; simpa using this)))).cell 1 _ rfl, ((((Below.refl _ _).drew.trans (b2.mono (Nat.le_refl _))).trans (b3.mono (by have := b2.size; simpa using this))).cell (p := ⟨b, o + q * 2 + 1, none⟩) hbb1).trans pcw⟩
         clear hK K
         (try simp only [oArgSpecO18, Act.put, zA, zB, zC])
         refine tkW 19 oArgSpecO19 ?v5_19 ?hy5_19 ?r5_19
         case hy5_19 => (intro w hSw; (try dsimp only at hSw); (try unfold oArgSpecO19); go_simp; try (with_reducible rfl))
         (try simp only [oArgSpecO19, Act.put, zA, zB, zC])
         refine tkW 20 oArgSpecO20 ?v5_20 ?hy5_20 ?r5_20
         case hy5_20 => (intro w hSw; (try dsimp only at hSw); (try unfold oArgSpecO20); go_simp; try (with_reducible rfl))
         (try simp only [oArgSpecO20, Act.put, zA, zB, zC])
         refine tkW 21 oArgSpecO21 ?v5_21 ?hy5_21 ?r5_21
         case hy5_21 => (intro w hSw; (try dsimp only at hSw); (try unfold oArgSpecO21); go_simp; try (with_reducible rfl))
         (try simp only [oArgSpecO21, Act.put, zA, zB, zC])
         refine tkW 22 oArgSpecO22 ?v5_22 ?hy5_22 ?r5_22
         case hy5_22 => (intro w hSw; (try dsimp only at hSw); (try unfold oArgSpecO22); go_simp; try (with_reducible rfl))
         (try simp only [oArgSpecO22, Act.put, zA, zB, zC])
         refine tkW 23 oArgSpecO23 ?v5_23 ?hy5_23 ?r5_23
         case hy5_23 => (intro w hSw; (try dsimp only at hSw); (try unfold oArgSpecO23); go_simp; try (with_reducible rfl))
         (try simp only [oArgSpecO23, Act.put, zA, zB, zC])
         refine tkW 24 oArgSpecO24 ?v5_24 ?hy5_24 ?r5_24
         case hy5_24 => (intro w hSw; (try dsimp only at hSw); (try unfold oArgSpecO24); go_simp; try (with_reducible rfl))
         (try simp only [oArgSpecO24, Act.put, zA, zB, zC])
         refine tkW 25 oArgSpecO25 ?v5_25 ?hy5_25 ?r5_25
         case hy5_25 => (intro w hSw; (try dsimp only at hSw); (try unfold oArgSpecO25); go_simp; try (with_reducible rfl))
         (try simp only [oArgSpecO25, Act.put, zA, zB, zC])
         refine tkW 26 oArgSpecO26 ?v5_26 ?hy5_26 ?r5_26
         case hy5_26 => (intro w hSw; (try dsimp only at hSw); (try unfold oArgSpecO26); go_simp; try (with_reducible rfl))
         (try simp only [oArgSpecO26, Act.put, zA, zB, zC])
         refine tkW 27 oArgSpecO27 ?v5_27 ?hy5_27 ?r5_27
         case hy5_27 => (intro w hSw; (try dsimp only at hSw); (try unfold oArgSpecO27); go_simp; try (with_reducible rfl))
         (try simp only [oArgSpecO27, Act.put, zA, zB, zC])
         refine tkW 28 oArgSpecO28 ?v5_28 ?hy5_28 ?r5_28
         case hy5_28 => (intro w hSw; (try dsimp only at hSw); (try unfold oArgSpecO28); go_simp; try (with_reducible rfl))
         (try simp only [oArgSpecO28, Act.put, zA, zB, zC])
         refine tkW 29 oArgSpecO29 ?v5_29 ?hy5_29 ?r5_29
         case hy5_29 => (intro w hSw; (try dsimp only at hSw); (try unfold oArgSpecO29); go_simp; try (with_reducible rfl))
         (try simp only [oArgSpecO29, Act.put, zA, zB, zC])
         refine tkW 30 oArgSpecO30 ?v5_30 ?hy5_30 ?r5_30
         case hy5_30 => (intro w hSw; (try dsimp only at hSw); (try unfold oArgSpecO30); go_simp; try (with_reducible rfl))
         (try simp only [oArgSpecO30, Act.put, zA, zB, zC])
         refine tkW 31 oArgSpecO31 ?v5_31 ?hy5_31 ?r5_31
         case hy5_31 => (intro w hSw; (try dsimp only at hSw); (try unfold oArgSpecO31); go_simp; try (with_reducible rfl))
         (try simp only [oArgSpecO31, Act.put, zA, zB, zC])
         refine tkW 32 oArgSpecO32 ?v5_32 ?hy5_32 ?r5_32
         case hy5_32 => (intro w hSw; (try dsimp only at hSw); (try unfold oArgSpecO32); go_simp; try (with_reducible rfl))
         (try simp only [oArgSpecO32, Act.put, zA, zB, zC])
         refine tkW 33 oArgSpecO33 ?v5_33 ?hy5_33 ?r5_33
         case hy5_33 => (intro w hSw; (try dsimp only at hSw); (try unfold oArgSpecO33); go_simp; try (with_reducible rfl))
         (try simp only [oArgSpecO33, Act.put, zA, zB, zC])
         refine tkW 34 oArgSpecO34 ?v5_34 ?hy5_34 ?r5_34
         case hy5_34 => (intro w hSw; (try dsimp only at hSw); (try unfold oArgSpecO34); go_simp; try (with_reducible rfl))
         (try simp only [oArgSpecO34, Act.put, zA, zB, zC])
         refine tkW 35 oArgSpecO35 ?v5_35 ?hy5_35 ?r5_35
         case hy5_35 => (intro w hSw; (try dsimp only at hSw); (try unfold oArgSpecO35); go_simp; try (with_reducible rfl))
         (try simp only [oArgSpecO35, Act.put, zA, zB, zC])
         refine wpAnyH_done (by kernel_rfl) ?_ _
         all_goals
          have BE := Lib.hid (B1.out.trans ((show Below (wr.alloc (Obj.cells #[Value.int .i64 u, Value.string s] 161)).heap.size (wr.alloc (Obj.cells #[Value.int .i64 u, Value.string s] 161)) _ from ((Below.refl _ _).drew.trans (b2.mono (Nat.le_refl _))).trans (b3.mono (by have := b2.size; simpa using this))).mono B1.out.size))
          have VE := Lib.hid (VS.out.below (show Below (wr.alloc (Obj.cells #[Value.int .i64 u, Value.string s] 161)).heap.size (wr.alloc (Obj.cells #[Value.int .i64 u, Value.string s] 161)) _ from ((Below.refl _ _).drew.trans (b2.mono (Nat.le_refl _))).trans (b3.mono (by have := b2.size; simpa using this))))
          have vv1 := VE.out.cell 1 (.slice (some ⟨b, o, none⟩) xs.length c) rfl
          go_wp2
          refine ⟨?_, ?measure⟩
          ·(repeat apply Exists.intro)
           refine ⟨?rel8, rfl⟩
           case rel8 => exact ⟨k + 1, by omega, by go_num, HT2.out, HO2.out, BE.out, VE.out⟩
          case measure => simp [intOf]; omega
        | false =>
         rw [hc] at hless
         have HF := Lib.hid (show R = false from HORD0.out q _ _ HG1.out HGK.out hc)
         clear hc
         go_wp2_with fail
         refine wp_region_held_drew (S := (fun w' => w'.cell? ⟨wr.heap.size, 0, none⟩ = some (.int .i64 u) ∧ w'.cell? ⟨wr.heap.size, 1, none⟩ = some (.string s) ∧ w'.cell? ⟨w.heap.size, 1, none⟩ = some (.slice (some ⟨b, o, none⟩) xs.length c) ∧ w'.cell? ⟨b, o + q * 2 + 1, none⟩ = some (.string pn))) (by kernel_rfl) ?_ (fun hHeld => ?_)
         ·(try dsimp only); exact ⟨(T.out.below (Below.refl _ _).drew).cell 0 _ rfl, (T.out.below (Below.refl _ _).drew).cell 1 _ rfl, (VS.out.below (Below.refl _ _).drew).cell 1 _ rfl, ((Below.refl _ _).drew.cell (p := ⟨b, o + q * 2 + 1, none⟩) hbb1).trans pcw⟩
         refine tkW 0 oArgSpecO0 ?v6_0 ?hy6_0 ?r6_0
         case hy6_0 => (intro w hSw; (try dsimp only at hSw); (try unfold oArgSpecO0); go_simp; try (with_reducible rfl))
         (try simp only [oArgSpecO0, Act.put, zA, zB, zC])
         refine tkW 1 oArgSpecO1 ?v6_1 ?hy6_1 ?r6_1
         case hy6_1 => (intro w hSw; (try dsimp only at hSw); (try unfold oArgSpecO1); go_simp; try (with_reducible rfl))
         (try simp only [oArgSpecO1, Act.put, zA, zB, zC])
         refine tkW 2 oArgSpecO2 ?v6_2 ?hy6_2 ?r6_2
         case hy6_2 => (intro w hSw; (try dsimp only at hSw); (try unfold oArgSpecO2); go_simp; try (with_reducible rfl))
         (try simp only [oArgSpecO2, Act.put, zA, zB, zC])
         refine tkW 3 oArgSpecO3 ?v6_3 ?hy6_3 ?r6_3
         case hy6_3 => (intro w hSw; (try dsimp only at hSw); (try unfold oArgSpecO3); go_simp; try (with_reducible rfl))
         (try simp only [oArgSpecO3, Act.put, zA, zB, zC])
         refine tkW 4 oArgSpecO4 ?v6_4 ?hy6_4 ?r6_4
         case hy6_4 => (intro w hSw; (try dsimp only at hSw); (try unfold oArgSpecO4); go_simp; try (with_reducible rfl))
         (try simp only [oArgSpecO4, Act.put, zA, zB, zC])
         refine tkW 5 oArgSpecO5 ?v6_5 ?hy6_5 ?r6_5
         case hy6_5 => (intro w hSw; (try dsimp only at hSw); (try unfold oArgSpecO5); go_simp; try (with_reducible rfl))
         (try simp only [oArgSpecO5, Act.put, zA, zB, zC])
         refine wpAnyH_ready (rs := [6]) (by kernel_rfl) (by simp) ?_
         refine AllReadyH.cons (o := oArgSpecO6) rfl (fun K hK => ?_) AllReadyH.nil
         ((try unfold oArgSpecO6); go_simp)
         (go_at_call 184; refine (Calls.mono (FT.out _)) ?_; rintro e w1 ⟨rfl, rfl⟩)
         refine hK.out _ _ ?_ (fun hHeld2 => ?_)
         ·(try dsimp only); exact ⟨(T.out.below (Below.refl _ _).drew).cell 0 _ rfl, (T.out.below (Below.refl _ _).drew).cell 1 _ rfl, (VS.out.below (Below.refl _ _).drew).cell 1 _ rfl, ((Below.refl _ _).drew.cell (p := ⟨b, o + q * 2 + 1, none⟩) hbb1).trans pcw⟩
         clear hK K
         (try simp only [oArgSpecO6, Act.put, zA, zB, zC])
         refine tkW 7 oArgSpecO7 ?v6_7 ?hy6_7 ?r6_7
         case hy6_7 => (intro w hSw; (try dsimp only at hSw); (try unfold oArgSpecO7); go_simp; try (with_reducible rfl))
         (try simp only [oArgSpecO7, Act.put, zA, zB, zC])
         refine tkW 8 oArgSpecO8 ?v6_8 ?hy6_8 ?r6_8
         case hy6_8 => (intro w hSw; (try dsimp only at hSw); (try unfold oArgSpecO8); go_simp; try (with_reducible rfl))
         (try simp only [oArgSpecO8, Act.put, zA, zB, zC])
         refine tkW 9 oArgSpecO9 ?v6_9 ?hy6_9 ?r6_9
         case hy6_9 => (intro w hSw; (try dsimp only at hSw); (try unfold oArgSpecO9); go_simp; try (with_reducible rfl))
         (try simp only [oArgSpecO9, Act.put, zA, zB, zC])
         refine tkW 10 oArgSpecO10 ?v6_10 ?hy6_10 ?r6_10
         case hy6_10 => (intro w hSw; (try dsimp only at hSw); (try unfold oArgSpecO10); go_simp; try (with_reducible rfl))
         (try simp only [oArgSpecO10, Act.put, zA, zB, zC])
         refine tkW 11 oArgSpecO11 ?v6_11 ?hy6_11 ?r6_11
         case hy6_11 => (intro w hSw; (try dsimp only at hSw); (try unfold oArgSpecO11); go_simp; try (with_reducible rfl))
         (try simp only [oArgSpecO11, Act.put, zA, zB, zC])
         refine wpAnyH_ready (rs := [12]) (by kernel_rfl) (by simp) ?_
         refine AllReadyH.cons (o := oArgSpecO12) rfl (fun K hK => ?_) AllReadyH.nil
         ((try unfold oArgSpecO12); go_simp)
         (go_at_call 136; refine (Calls.mono (VN.out _)) ?_; rintro e w2 ⟨rfl, b2⟩)
         refine hK.out _ _ ?_ (fun hHeld2 => ?_)
         ·(try dsimp only); exact ⟨(T.out.below ((Below.refl _ _).drew.trans (b2.mono (Nat.le_refl _)))).cell 0 _ rfl, (T.out.below ((Below.refl _ _).drew.trans (b2.mono (Nat.le_refl _)))).cell 1 _ rfl, (VS.out.below ((Below.refl _ _).drew.trans (b2.mono (Nat.le_refl _)))).cell 1 _ rfl, (((Below.refl _ _).drew.trans (b2.mono (Nat.le_refl _))).cell (p := ⟨b, o + q * 2 + 1, none⟩) hbb1).trans pcw⟩
         clear hK K
         (try simp only [oArgSpecO12, Act.put, zA, zB, zC])
         refine tkW 13 oArgSpecO13 ?v6_13 ?hy6_13 ?r6_13
         case hy6_13 => (intro w hSw; (try dsimp only at hSw); (try unfold oArgSpecO13); go_simp; try (with_reducible rfl))
         (try simp only [oArgSpecO13, Act.put, zA, zB, zC])
         refine tkW 14 oArgSpecO14 ?v6_14 ?hy6_14 ?r6_14
         case hy6_14 => (intro w hSw; (try dsimp only at hSw); (try unfold oArgSpecO14); go_simp; try (with_reducible rfl))
         (try simp only [oArgSpecO14, Act.put, zA, zB, zC])
         refine tkW 15 oArgSpecO15 ?v6_15 ?hy6_15 ?r6_15
         case hy6_15 => (intro w hSw; (try dsimp only at hSw); (try unfold oArgSpecO15); go_simp; try (with_reducible rfl))
         (try simp only [oArgSpecO15, Act.put, zA, zB, zC])
         refine tkW 16 oArgSpecO16 ?v6_16 ?hy6_16 ?r6_16
         case hy6_16 => (intro w hSw; (try dsimp only at hSw); (try unfold oArgSpecO16); go_simp; try (with_reducible rfl))
         (try simp only [oArgSpecO16, Act.put, zA, zB, zC])
         refine tkW 17 oArgSpecO17 ?v6_17 ?hy6_17 ?r6_17
         case hy6_17 => (intro w hSw; (try dsimp only at hSw); (try unfold oArgSpecO17); go_simp; try (with_reducible rfl))
         (try simp only [oArgSpecO17, Act.put, zA, zB, zC])
         refine wpAnyH_ready (rs := [18]) (by kernel_rfl) (by simp) ?_
         refine AllReadyH.cons (o := oArgSpecO18) rfl (fun K hK => ?_) AllReadyH.nil
         ((try unfold oArgSpecO18); go_simp)
         (go_at_call 137; refine (Calls.mono (LN.out _)) ?_; rintro e w3 ⟨rfl, b3⟩)
         refine hK.out _ _ ?_ (fun hHeld2 => ?_)
         ·(try dsimp only); exact ⟨(T.out.below (((Below.refl _ _).drew.trans (b2.mono (Nat.le_refl _))).trans (b3.mono (by have := b2.size; simpa using this)))).cell 0 _ rfl, (T.out.below (((Below.refl _ _).drew.trans (b2.mono (Nat.le_refl _))).trans (b3.mono (by have := b2.size; simpa using this)))).cell 1 _ rfl, (VS.out.below (((Below.refl _ _).drew.trans (b2.mono (Nat.le_refl _))).trans (b3.mono (by have := b2.size; simpa using this)))).cell 1 _ rfl, ((((Below.refl _ _).drew.trans (b2.mono (Nat.le_refl _))).trans (b3.mono (by have := b2.size; simpa using this))).cell (p := ⟨b, o + q * 2 + 1, none⟩) hbb1).trans pcw⟩
         clear hK K
         (try simp only [oArgSpecO18, Act.put, zA, zB, zC])
         refine tkW 19 oArgSpecO19 ?v6_19 ?hy6_19 ?r6_19
         case hy6_19 => (intro w hSw; (try dsimp only at hSw); (try unfold oArgSpecO19); go_simp; try (with_reducible rfl))
         (try simp only [oArgSpecO19, Act.put, zA, zB, zC])
         refine tkW 20 oArgSpecO20 ?v6_20 ?hy6_20 ?r6_20
         case hy6_20 => (intro w hSw; (try dsimp only at hSw); (try unfold oArgSpecO20); go_simp; try (with_reducible rfl))
         (try simp only [oArgSpecO20, Act.put, zA, zB, zC])
         refine tkW 21 oArgSpecO21 ?v6_21 ?hy6_21 ?r6_21
         case hy6_21 => (intro w hSw; (try dsimp only at hSw); (try unfold oArgSpecO21); go_simp; try (with_reducible rfl))
         (try simp only [oArgSpecO21, Act.put, zA, zB, zC])
         refine tkW 22 oArgSpecO22 ?v6_22 ?hy6_22 ?r6_22
         case hy6_22 => (intro w hSw; (try dsimp only at hSw); (try unfold oArgSpecO22); go_simp; try (with_reducible rfl))
         (try simp only [oArgSpecO22, Act.put, zA, zB, zC])
         refine tkW 23 oArgSpecO23 ?v6_23 ?hy6_23 ?r6_23
         case hy6_23 => (intro w hSw; (try dsimp only at hSw); (try unfold oArgSpecO23); go_simp; try (with_reducible rfl))
         (try simp only [oArgSpecO23, Act.put, zA, zB, zC])
         refine tkW 24 oArgSpecO24 ?v6_24 ?hy6_24 ?r6_24
         case hy6_24 => (intro w hSw; (try dsimp only at hSw); (try unfold oArgSpecO24); go_simp; try (with_reducible rfl))
         (try simp only [oArgSpecO24, Act.put, zA, zB, zC])
         refine tkW 25 oArgSpecO25 ?v6_25 ?hy6_25 ?r6_25
         case hy6_25 => (intro w hSw; (try dsimp only at hSw); (try unfold oArgSpecO25); go_simp; try (with_reducible rfl))
         (try simp only [oArgSpecO25, Act.put, zA, zB, zC])
         refine tkW 26 oArgSpecO26 ?v6_26 ?hy6_26 ?r6_26
         case hy6_26 => (intro w hSw; (try dsimp only at hSw); (try unfold oArgSpecO26); go_simp; try (with_reducible rfl))
         (try simp only [oArgSpecO26, Act.put, zA, zB, zC])
         refine tkW 27 oArgSpecO27 ?v6_27 ?hy6_27 ?r6_27
         case hy6_27 => (intro w hSw; (try dsimp only at hSw); (try unfold oArgSpecO27); go_simp; try (with_reducible rfl))
         (try simp only [oArgSpecO27, Act.put, zA, zB, zC])
         refine tkW 28 oArgSpecO28 ?v6_28 ?hy6_28 ?r6_28
         case hy6_28 => (intro w hSw; (try dsimp only at hSw); (try unfold oArgSpecO28); go_simp; try (with_reducible rfl))
         (try simp only [oArgSpecO28, Act.put, zA, zB, zC])
         refine tkW 29 oArgSpecO29 ?v6_29 ?hy6_29 ?r6_29
         case hy6_29 => (intro w hSw; (try dsimp only at hSw); (try unfold oArgSpecO29); go_simp; try (with_reducible rfl))
         (try simp only [oArgSpecO29, Act.put, zA, zB, zC])
         refine tkW 30 oArgSpecO30 ?v6_30 ?hy6_30 ?r6_30
         case hy6_30 => (intro w hSw; (try dsimp only at hSw); (try unfold oArgSpecO30); go_simp; try (with_reducible rfl))
         (try simp only [oArgSpecO30, Act.put, zA, zB, zC])
         refine tkW 31 oArgSpecO31 ?v6_31 ?hy6_31 ?r6_31
         case hy6_31 => (intro w hSw; (try dsimp only at hSw); (try unfold oArgSpecO31); go_simp; try (with_reducible rfl))
         (try simp only [oArgSpecO31, Act.put, zA, zB, zC])
         refine tkW 32 oArgSpecO32 ?v6_32 ?hy6_32 ?r6_32
         case hy6_32 => (intro w hSw; (try dsimp only at hSw); (try unfold oArgSpecO32); go_simp; try (with_reducible rfl))
         (try simp only [oArgSpecO32, Act.put, zA, zB, zC])
         refine tkW 33 oArgSpecO33 ?v6_33 ?hy6_33 ?r6_33
         case hy6_33 => (intro w hSw; (try dsimp only at hSw); (try unfold oArgSpecO33); go_simp; try (with_reducible rfl))
         (try simp only [oArgSpecO33, Act.put, zA, zB, zC])
         refine tkW 34 oArgSpecO34 ?v6_34 ?hy6_34 ?r6_34
         case hy6_34 => (intro w hSw; (try dsimp only at hSw); (try unfold oArgSpecO34); go_simp; try (with_reducible rfl))
         (try simp only [oArgSpecO34, Act.put, zA, zB, zC])
         refine tkW 35 oArgSpecO35 ?v6_35 ?hy6_35 ?r6_35
         case hy6_35 => (intro w hSw; (try dsimp only at hSw); (try unfold oArgSpecO35); go_simp; try (with_reducible rfl))
         (try simp only [oArgSpecO35, Act.put, zA, zB, zC])
         refine wpAnyH_done (by kernel_rfl) ?_ _
         all_goals
          have BE := Lib.hid (B1.out.trans ((show Below (wr.alloc (Obj.cells #[Value.int .i64 u, Value.string s] 161)).heap.size (wr.alloc (Obj.cells #[Value.int .i64 u, Value.string s] 161)) _ from ((Below.refl _ _).drew.trans (b2.mono (Nat.le_refl _))).trans (b3.mono (by have := b2.size; simpa using this))).mono B1.out.size))
          go_wp2
          go_ret
          exact ⟨ret_b HF.out.symm, BE.out⟩
  ·obtain rfl : k = xs.length := by omega
   have HR := Lib.hid (HEND.out HTE.out (fun j a b hj h1 h2 => HOR.out j a b (by have := (List.getElem?_eq_some_iff.1 h2).1; omega) h1 h2))
   generalize ArithM.inF z = f at *
   cases f with
   | false =>
    have HF := Lib.hid (show R = false by rw [HR.out]; rfl)
    go_wp2_with fail
    refine (Calls.mono (FZ.out _)) ?_
    rintro e w1 ⟨rfl, rfl⟩
    go_wp2
    go_ret
    exact ⟨ret_b HF.out.symm, HB.out⟩
   | true =>
    by_cases h4 : xs.length ≤ 4
    ·have hq : decide ((xs.length : Int) ≤ 4) = true := decide_eq_true (by omega)
     have HF := Lib.hid (show R = true by rw [HR.out, decide_eq_true h4]; rfl)
     go_wp2_with fail
     refine (Calls.mono (FZ.out _)) ?_
     rintro e w1 ⟨rfl, rfl⟩
     go_wp2
     go_ret
     exact ⟨ret_b HF.out.symm, HB.out⟩
    ·have hq : decide ((xs.length : Int) ≤ 4) = false := decide_eq_false (by omega)
     have HF := Lib.hid (show R = false by rw [HR.out, decide_eq_false h4]; rfl)
     go_wp2_with fail
     refine (Calls.mono (FZ.out _)) ?_
     rintro e w1 ⟨rfl, rfl⟩
     go_wp2
     go_ret
     exact ⟨ret_b HF.out.symm, HB.out⟩

set_option maxHeartbeats 2000000 in
set_option maxRecDepth 100000 in
theorem validArg (p : Bool) (A : Option Addr) (c : Nat) (xs : List SumT) (s : ByteArray) (w : World) (hA : ArgS Mem.sum w A xs.length c xs) (hl : xs.length + szs ssl xs ≤ 1000000000) (hs : ∀ x ∈ xs, ∀ t ∈ x.2, t.2.size ≤ 9223372036854775807) (hb : s.size ≤ 9223372036854775807) :
  Calls Tryz.prog 141 #[.agg #[.bool p, .slice A xs.length c, .string s]] w fun e w' => e = .returned (.bool (argV (p, xs, s))) ∧ Below w.heap.size w w' := by
 have B0 := Lib.hid ((Below.refl w.heap.size w).alloc (Nat.le_refl _) (Obj.cells #[Value.bool p, Value.slice A xs.length c, Value.string s] 46))
 have V0 := Lib.hid (Lvar.new w #[Value.bool p, Value.slice A xs.length c, Value.string s] 46)
 have LN := Lib.hid (fun W => NameS.specList s W (by unfold maxLen; exact hb))
 have HO := Lib.hid (argV_form p xs s)
 have HI := Lib.hid (show intV xs s = (decide (xs.length = 1) && (decide (s.size = 0) && xs.all sumV)) from rfl)
 have HLI := Lib.hid (show lstV xs s = (decide (xs.length ≤ 3) && ((decide (s.size = 0) || NameM.listName s) && xs.all sumV)) from rfl)
 have hxl : xs.length ≤ 1000000000 := by omega
 have hse := str_empty s
 have HL := Lib.hid hl
 have HA := Lib.hid hA
 have HSS := Lib.hid hs
 generalize argV (p, xs, s) = R at *
 generalize intV xs s = RI at *
 generalize lstV xs s = RL at *
 generalize NameM.listName s = ln at *
 clear hA hs hl
 go_enter Tryz.func141, Tryz.ntmps141
 go_wp2
 go_loopw [3] (fun i wr => ∃ k : Nat, k ≤ xs.length ∧ i = .int .i64 k ∧ (xs.take k).all sumV = true ∧ Below w.heap.size w wr ∧ Lvar wr w.heap.size #[Value.bool p, Value.slice A xs.length c, Value.string s]) (fun i _ => xs.length - (intOf i).toNat)
 case atStart => exact ⟨0, Nat.zero_le _, rfl, rfl, B0.out, V0.out⟩
 case round =>
  obtain ⟨k, hk, rfl, hall, hb, hv⟩ := hrel
  have HAL := Lib.hid hall
  have HB := Lib.hid hb
  have HV := Lib.hid hv
  have v0 := hv.cell 0 (.bool p) rfl
  have v1 := hv.cell 1 (.slice A xs.length c) rfl
  have v2 := hv.cell 2 (.string s) rfl
  clear hall hb hv V0 B0
  by_cases hlt : k < xs.length
  ·obtain ⟨b2, o, B, d, rfl, hbb, c0, c1, hts⟩ := (HA.out.below HB.out).sum_at hlt
   have hs9 := sum_len hlt HL.out
   have hsz := HSS.out _ (List.getElem_mem hlt)
   have HN := Lib.hid (fun h => all_fail (p := sumV) hlt h)
   have HY := Lib.hid (fun h => all_snoc (p := sumV) hlt HAL.out h)
   generalize xs[k] = x at *
   obtain ⟨z, ts⟩ := x
   simp only at c0 c1 hs9 hts hsz
   have VL := Lib.hid (validSum z B d ts wr hts hs9 hsz)
   have hi0 : (0 : Int) ≤ (k : Int) := by omega
   have hi1 : (k : Int) < (xs.length : Int) := by omega
   generalize sumV (z, ts) = t at *
   clear hs9 hts hsz
   cases t with
   | false =>
    have HX := Lib.hid (HN.out rfl)
    have HF := Lib.hid (show R = false by rw [HO.out, HI.out, HLI.out, HX.out]; cases p <;> simp)
    clear HN HY
    go_wp2_with fail
    refine (Calls.mono VL.out) ?_
    rintro e w1 ⟨rfl, b1⟩
    have B1 := Lib.hid (HB.out.trans (b1.mono HB.out.size))
    clear b1
    go_wp2
    go_ret
    exact ⟨ret_b HF.out.symm, B1.out⟩
   | true =>
    have HT := Lib.hid (HY.out rfl)
    clear HN HY
    go_wp2_with fail
    refine (Calls.mono VL.out) ?_
    rintro e w1 ⟨rfl, b1⟩
    have B1 := Lib.hid (HB.out.trans (b1.mono HB.out.size))
    have V1 := Lib.hid (HV.out.below b1)
    clear b1
    go_wp2
    go_roundw
    case rel => exact ⟨k + 1, by omega, by go_num, HT.out, B1.out, V1.out⟩
    case measure => simp [intOf]; omega
  ·obtain rfl : k = xs.length := by omega
   have HX := Lib.hid (show xs.all sumV = true by have := HAL.out; rwa [List.take_length] at this)
   clear HAL
   rw [HX.out] at HI HLI
   cases p with
   | false =>
    by_cases h1 : xs.length = 1
    ·have v1' := v1
     rw [h1] at v1'
     clear v1
     by_cases h2 : s.size = 0
     ·rw [decide_eq_true h2] at hse
      have HF := Lib.hid (show R = true by rw [HO.out, HI.out, decide_eq_true h1, decide_eq_true h2]; rfl)
      go_wp2
      go_ret
      exact ⟨ret_b HF.out.symm, HB.out⟩
     ·rw [decide_eq_false h2] at hse
      have HF := Lib.hid (show R = false by rw [HO.out, HI.out, decide_eq_true h1, decide_eq_false h2]; rfl)
      go_wp2
      go_ret
      exact ⟨ret_b HF.out.symm, HB.out⟩
    ·have hq : ((xs.length : Int) == 1) = false := beq_eq_false_iff_ne.2 (by omega)
     have HF := Lib.hid (show R = false by rw [HO.out, HI.out, decide_eq_false h1]; rfl)
     go_wp2
     go_ret
     exact ⟨ret_b HF.out.symm, HB.out⟩
   | true =>
    by_cases h1 : xs.length ≤ 3
    ·have hq : decide ((xs.length : Int) ≤ 3) = true := decide_eq_true (by omega)
     by_cases h2 : s.size = 0
     ·rw [decide_eq_true h2] at hse
      have HF := Lib.hid (show R = true by rw [HO.out, HLI.out, decide_eq_true h1, decide_eq_true h2]; simp)
      go_wp2
      go_ret
      exact ⟨ret_b HF.out.symm, HB.out⟩
     ·rw [decide_eq_false h2] at hse
      have HF := Lib.hid (show R = ln by rw [HO.out, HLI.out, decide_eq_true h1, decide_eq_false h2]; simp)
      go_wp2_with fail
      refine (Calls.mono (LN.out _)) ?_
      rintro e w1 ⟨rfl, b1⟩
      have B1 := Lib.hid (HB.out.trans (b1.mono HB.out.size))
      clear b1
      go_wp2
      go_ret
      exact ⟨ret_b HF.out.symm, B1.out⟩
    ·have hq : decide ((xs.length : Int) ≤ 3) = false := decide_eq_false (by omega)
     have HF := Lib.hid (show R = false by rw [HO.out, HLI.out, decide_eq_false h1]; rfl)
     go_wp2
     go_ret
     exact ⟨ret_b HF.out.symm, HB.out⟩
end ArgP
end Go.Proofs.YtbbllkhmenpnlaaGreat
