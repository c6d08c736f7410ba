import Derived.Test.YtbbllkhmenpnlaaGreatPgmValS4
import Derived.Handy
import Derived.Test.YtbbllkhmenpnlaaGreatPgmArg
import Derived.Deep.RegionHeld3
import Derived.BigQuiet
/-
  Programs: validity (made by tools/s10p.py): every.
-/
namespace Go.Proofs.YtbbllkhmenpnlaaGreat
open Go.RowKit
namespace ProgI
open RowK Mem ProgM
set_option maxHeartbeats 4000000 in
set_option maxRecDepth 100000 in
theorem everyStr (F : Nat) (lb : Array Value) (eg : ∀ args W, (callFunc F args).run Tryz.prog W = .ok (.enter F args) W) (p : ByteArray → Bool) (A : Option Addr) (c : Nat) (xs : List ByteArray) (w : World) (hA : ArgS Rep.str w A xs.length c xs) (hl : xs.length + szs szStr xs ≤ 9000000)
  (hp : ∀ (x : ByteArray) (W : World), Below w.heap.size w W → x.size ≤ 9000000 → Calls Tryz.prog F (#[.string x] ++ lb) W fun e w' => e = .returned (.bool (p x)) ∧ Below W.heap.size W w') :
  Calls Tryz.prog 169 #[.slice A xs.length c, .func (.func F) #[] lb] w fun e w' => e = .returned (.bool (xs.all p)) ∧ Below w.heap.size w w' := by
 have hxl : xs.length ≤ 9000000 := by omega
 have HL := Lib.hid hl
 have HA := Lib.hid hA
 have HP := Lib.hid hp
 obtain ⟨R, hR⟩ : ∃ R, R = xs.all p := ⟨_, rfl⟩
 rw [← hR]
 have HRR := Lib.hid hR
 clear hA hp hl hR
 go_enter Tryz.func169, Tryz.ntmps169
 go_wp2
 go_loopw [9] (fun i wr => ∃ k : Nat, k ≤ xs.length ∧ i = .int .i64 k ∧ Hid ((xs.drop k).all p = R) ∧ Below w.heap.size w wr) (fun i _ => xs.length - (intOf i).toNat)
 case atStart => exact ⟨0, Nat.zero_le _, rfl, Lib.hid HRR.out.symm, Below.refl _ _⟩
 case round =>
  obtain ⟨k, hk, rfl, hall, hb⟩ := hrel
  have HAL := Lib.hid hall.out
  have HB := Lib.hid hb
  clear hall hb
  by_cases hlt : k < xs.length
  ·skip
   obtain ⟨b1, o1, rfl, hbb1, g0⟩ := str_at10 (HA.out.below HB.out) hlt
   have hsz : xs[k].size ≤ 9000000 := by
    have := HL.out
    exact str_le hlt (by omega)
   have HST := Lib.hid (show (xs.drop k).all p = (p xs[k] && (xs.drop (k + 1)).all p) by rw [List.drop_eq_getElem_cons hlt]; rfl)
   generalize xs[k] = x at *
   have hi0 : (0 : Int) ≤ (k : Int) := by omega
   have hi1 : (k : Int) < (xs.length : Int) := by omega
   have hd : Below wr.heap.size wr wr := Below.refl _ _
   have HC := Lib.hid (HP.out x wr HB.out hsz)
   have HD := Lib.hid hd
   clear hd hsz
   generalize p x = t at *
   cases t with
   | false =>
    have HF := Lib.hid (show R = false by rw [← HAL.out, HST.out]; rfl)
    go_wp2_with (go_at_fn F; refine (Calls.mono HC.out) ?_; rintro e w1 ⟨rfl, b1⟩)
    have B1 := Lib.hid (below_step HB.out (below_step HD.out b1))
    go_ret
    exact ⟨ArgI.ret_b HF.out.symm, B1.out⟩
   | true =>
    have HF := Lib.hid (show (xs.drop (k + 1)).all p = R by rw [← HAL.out, HST.out]; rfl)
    go_wp2_with (go_at_fn F; refine (Calls.mono HC.out) ?_; rintro e w1 ⟨rfl, b1⟩)
    have B1 := Lib.hid (below_step HB.out (below_step HD.out b1))
    go_roundw
    case rel => exact ⟨k + 1, by omega, by go_num, HF, B1.out⟩
    case measure => simp [intOf]; omega
  ·obtain rfl : k = xs.length := by omega
   have HF := Lib.hid (show R = true by rw [← HAL.out, List.drop_length]; rfl)
   go_wp2
   go_ret
   exact ⟨ArgI.ret_b HF.out.symm, HB.out⟩
set_option maxHeartbeats 4000000 in
set_option maxRecDepth 100000 in
theorem everyLin (F : Nat) (lb : Array Value) (eg : ∀ args W, (callFunc F args).run Tryz.prog W = .ok (.enter F args) W) (p : (Int × List Int) → Bool) (A : Option Addr) (c : Nat) (xs : List (Int × List Int)) (w : World) (hA : ArgS Mem.lin w A xs.length c xs) (hl : xs.length + szs szLin xs ≤ 9000000)
  (hp : ∀ (z0 : Int) (A1 : Option Addr) (c1 : Nat) (x1 : List Int) (lo hi : Nat) (W : World), Below w.heap.size w W → Row lo hi W A1 (IntK.iv x1) → x1.length ≤ 9000000 → Calls Tryz.prog F (#[.agg #[.int .i64 z0, .slice A1 x1.length c1]] ++ lb) W fun e w' => e = .returned (.bool (p (z0, x1))) ∧ Below W.heap.size W w') :
  Calls Tryz.prog 125 #[.slice A xs.length c, .func (.func F) #[] lb] w fun e w' => e = .returned (.bool (xs.all p)) ∧ Below w.heap.size w w' := by
 have hxl : xs.length ≤ 9000000 := by omega
 have HL := Lib.hid hl
 have HA := Lib.hid hA
 have HP := Lib.hid hp
 obtain ⟨R, hR⟩ : ∃ R, R = xs.all p := ⟨_, rfl⟩
 rw [← hR]
 have HRR := Lib.hid hR
 clear hA hp hl hR
 go_enter Tryz.func125, Tryz.ntmps125
 go_wp2
 go_loopw [9] (fun i wr => ∃ k : Nat, k ≤ xs.length ∧ i = .int .i64 k ∧ Hid ((xs.drop k).all p = R) ∧ Below w.heap.size w wr) (fun i _ => xs.length - (intOf i).toNat)
 case atStart => exact ⟨0, Nat.zero_le _, rfl, Lib.hid HRR.out.symm, Below.refl _ _⟩
 case round =>
  obtain ⟨k, hk, rfl, hall, hb⟩ := hrel
  have HAL := Lib.hid hall.out
  have HB := Lib.hid hb
  clear hall hb
  by_cases hlt : k < xs.length
  ·skip
   obtain ⟨q9, f9, h9⟩ := HA.out.below HB.out
   obtain ⟨b1, o1, A1, c1, lo, hi, rfl, hbb1, g0, g1, _, r1⟩ := lins_at h9 hlt
   have hsz : xs[k].2.length ≤ 9000000 := by
    have := HL.out
    have := szs_mem (sz := szLin) (List.getElem_mem hlt)
    have e : szLin xs[k] = xs[k].2.length := rfl
    omega
   have HST := Lib.hid (show (xs.drop k).all p = (p xs[k] && (xs.drop (k + 1)).all p) by rw [List.drop_eq_getElem_cons hlt]; rfl)
   generalize xs[k] = x at *
   obtain ⟨z0, x1⟩ := x
   simp only at g0 g1 r1 hsz
   have hi0 : (0 : Int) ≤ (k : Int) := by omega
   have hi1 : (k : Int) < (xs.length : Int) := by omega
   have hd : Below wr.heap.size wr (wr.alloc (Obj.cells #[Value.int .i64 z0, Value.slice A1 x1.length c1] 108)) := (Below.refl _ _).alloc (Nat.le_refl _) _
   have HC := Lib.hid (HP.out z0 A1 c1 x1 lo hi (wr.alloc (Obj.cells #[Value.int .i64 z0, Value.slice A1 x1.length c1] 108)) (below_step HB.out hd) (r1.below hd) hsz)
   have HD := Lib.hid hd
   clear r1 hd hsz
   generalize p (z0, x1) = t at *
   cases t with
   | false =>
    have HF := Lib.hid (show R = false by rw [← HAL.out, HST.out]; rfl)
    go_wp2_with (go_at_fn F; refine (Calls.mono HC.out) ?_; rintro e w1 ⟨rfl, b1⟩)
    have B1 := Lib.hid (below_step HB.out (below_step HD.out b1))
    go_ret
    exact ⟨ArgI.ret_b HF.out.symm, B1.out⟩
   | true =>
    have HF := Lib.hid (show (xs.drop (k + 1)).all p = R by rw [← HAL.out, HST.out]; rfl)
    go_wp2_with (go_at_fn F; refine (Calls.mono HC.out) ?_; rintro e w1 ⟨rfl, b1⟩)
    have B1 := Lib.hid (below_step HB.out (below_step HD.out b1))
    go_roundw
    case rel => exact ⟨k + 1, by omega, by go_num, HF, B1.out⟩
    case measure => simp [intOf]; omega
  ·obtain rfl : k = xs.length := by omega
   have HF := Lib.hid (show R = true by rw [← HAL.out, List.drop_length]; rfl)
   go_wp2
   go_ret
   exact ⟨ArgI.ret_b HF.out.symm, HB.out⟩
set_option maxHeartbeats 4000000 in
set_option maxRecDepth 100000 in
theorem everyFn (F : Nat) (lb : Array Value) (eg : ∀ args W, (callFunc F args).run Tryz.prog W = .ok (.enter F args) W) (p : FunctionT → Bool) (A : Option Addr) (c : Nat) (xs : List FunctionT) (w : World) (hA : ArgS Mem.fn w A xs.length c xs) (hl : xs.length + szs szFunctionU xs ≤ 9000000)
  (hp : ∀ (z0 : ByteArray) (A1 : Option Addr) (c1 : Nat) (x1 : List ByteArray) (z2 : Bool) (A3 : Option Addr) (c3 : Nat) (x3 : List (Int × List Int)) (W : World), Below w.heap.size w W → ArgS Rep.str W A1 x1.length c1 x1 → ArgS Mem.lin W A3 x3.length c3 x3 → szFunctionU (z0, x1, z2, x3) ≤ 9000000 → Calls Tryz.prog F (#[.agg #[.string z0, .slice A1 x1.length c1, .bool z2, .slice A3 x3.length c3]] ++ lb) W fun e w' => e = .returned (.bool (p (z0, x1, z2, x3))) ∧ Below W.heap.size W w') :
  Calls Tryz.prog 83 #[.slice A xs.length c, .func (.func F) #[] lb] w fun e w' => e = .returned (.bool (xs.all p)) ∧ Below w.heap.size w w' := by
 have hxl : xs.length ≤ 9000000 := by omega
 have HL := Lib.hid hl
 have HA := Lib.hid hA
 have HP := Lib.hid hp
 obtain ⟨R, hR⟩ : ∃ R, R = xs.all p := ⟨_, rfl⟩
 rw [← hR]
 have HRR := Lib.hid hR
 clear hA hp hl hR
 go_enter Tryz.func83, Tryz.ntmps83
 go_wp2
 go_loopw [9] (fun i wr => ∃ k : Nat, k ≤ xs.length ∧ i = .int .i64 k ∧ Hid ((xs.drop k).all p = R) ∧ Below w.heap.size w wr) (fun i _ => xs.length - (intOf i).toNat)
 case atStart => exact ⟨0, Nat.zero_le _, rfl, Lib.hid HRR.out.symm, Below.refl _ _⟩
 case round =>
  obtain ⟨k, hk, rfl, hall, hb⟩ := hrel
  have HAL := Lib.hid hall.out
  have HB := Lib.hid hb
  clear hall hb
  by_cases hlt : k < xs.length
  ·skip
   obtain ⟨b1, o1, A1, c1, A3, c3, rfl, hbb1, g0, g1, g2, g3, r1, r3⟩ := (HA.out.below HB.out).fn_at hlt
   have hsz : szFunctionU xs[k] ≤ 9000000 := by
    have := HL.out
    have := szs_mem (sz := szFunctionU) (List.getElem_mem hlt)
    omega
   have HST := Lib.hid (show (xs.drop k).all p = (p xs[k] && (xs.drop (k + 1)).all p) by rw [List.drop_eq_getElem_cons hlt]; rfl)
   generalize xs[k] = x at *
   obtain ⟨z0, x1, z2, x3⟩ := x
   simp only at g0 g1 g2 g3 r1 r3 hsz
   have hi0 : (0 : Int) ≤ (k : Int) := by omega
   have hi1 : (k : Int) < (xs.length : Int) := by omega
   have hd : Below wr.heap.size wr (wr.alloc (Obj.cells #[Value.string z0, Value.slice A1 x1.length c1, Value.bool z2, Value.slice A3 x3.length c3] 98)) := (Below.refl _ _).alloc (Nat.le_refl _) _
   have HC := Lib.hid (HP.out z0 A1 c1 x1 z2 A3 c3 x3 (wr.alloc (Obj.cells #[Value.string z0, Value.slice A1 x1.length c1, Value.bool z2, Value.slice A3 x3.length c3] 98)) (below_step HB.out hd) (r1.below hd) (r3.below hd) hsz)
   have HD := Lib.hid hd
   clear r1 r3 hd hsz
   generalize p (z0, x1, z2, x3) = t at *
   cases t with
   | false =>
    have HF := Lib.hid (show R = false by rw [← HAL.out, HST.out]; rfl)
    go_wp2_with (go_at_fn F; refine (Calls.mono HC.out) ?_; rintro e w1 ⟨rfl, b1⟩)
    have B1 := Lib.hid (below_step HB.out (below_step HD.out b1))
    go_ret
    exact ⟨ArgI.ret_b HF.out.symm, B1.out⟩
   | true =>
    have HF := Lib.hid (show (xs.drop (k + 1)).all p = R by rw [← HAL.out, HST.out]; rfl)
    go_wp2_with (go_at_fn F; refine (Calls.mono HC.out) ?_; rintro e w1 ⟨rfl, b1⟩)
    have B1 := Lib.hid (below_step HB.out (below_step HD.out b1))
    go_roundw
    case rel => exact ⟨k + 1, by omega, by go_num, HF, B1.out⟩
    case measure => simp [intOf]; omega
  ·obtain rfl : k = xs.length := by omega
   have HF := Lib.hid (show R = true by rw [← HAL.out, List.drop_length]; rfl)
   go_wp2
   go_ret
   exact ⟨ArgI.ret_b HF.out.symm, HB.out⟩
set_option maxHeartbeats 4000000 in
set_option maxRecDepth 100000 in
theorem everyRule (F : Nat) (lb : Array Value) (eg : ∀ args W, (callFunc F args).run Tryz.prog W = .ok (.enter F args) W) (p : RuleT → Bool) (A : Option Addr) (c : Nat) (xs : List RuleT) (w : World) (hA : ArgS Mem.rule w A xs.length c xs) (hl : xs.length + szs szRuleU xs ≤ 9000000)
  (hp : ∀ (z0 : ByteArray) (A1 : Option Addr) (c1 : Nat) (x1 : List PatternT) (A2 : Option Addr) (c2 : Nat) (x2 : List SumT) (A3 : Option Addr) (c3 : Nat) (x3 : List CallT) (z4 : Bool) (A5 : Option Addr) (c5 : Nat) (x5 : List SumT) (z6 : ByteArray) (W : World), Below w.heap.size w W → ArgS Mem.pat W A1 x1.length c1 x1 → ArgS Mem.sum W A2 x2.length c2 x2 → ArgS Mem.call W A3 x3.length c3 x3 → ArgS Mem.sum W A5 x5.length c5 x5 → szRuleU (z0, x1, x2, x3, (z4, x5, z6)) ≤ 9000000 → Calls Tryz.prog F (#[.agg #[.string z0, .slice A1 x1.length c1, .slice A2 x2.length c2, .slice A3 x3.length c3, .bool z4, .slice A5 x5.length c5, .string z6]] ++ lb) W fun e w' => e = .returned (.bool (p (z0, x1, x2, x3, (z4, x5, z6)))) ∧ Below W.heap.size W w') :
  Calls Tryz.prog 85 #[.slice A xs.length c, .func (.func F) #[] lb] w fun e w' => e = .returned (.bool (xs.all p)) ∧ Below w.heap.size w w' := by
 have hxl : xs.length ≤ 9000000 := by omega
 have HL := Lib.hid hl
 have HA := Lib.hid hA
 have HP := Lib.hid hp
 obtain ⟨R, hR⟩ : ∃ R, R = xs.all p := ⟨_, rfl⟩
 rw [← hR]
 have HRR := Lib.hid hR
 clear hA hp hl hR
 go_enter Tryz.func85, Tryz.ntmps85
 go_wp2
 go_loopw [9] (fun i wr => ∃ k : Nat, k ≤ xs.length ∧ i = .int .i64 k ∧ Hid ((xs.drop k).all p = R) ∧ Below w.heap.size w wr) (fun i _ => xs.length - (intOf i).toNat)
 case atStart => exact ⟨0, Nat.zero_le _, rfl, Lib.hid HRR.out.symm, Below.refl _ _⟩
 case round =>
  obtain ⟨k, hk, rfl, hall, hb⟩ := hrel
  have HAL := Lib.hid hall.out
  have HB := Lib.hid hb
  clear hall hb
  by_cases hlt : k < xs.length
  ·skip
   obtain ⟨b1, o1, A1, c1, A2, c2, A3, c3, A5, c5, rfl, hbb1, g0, g1, g2, g3, g4, g5, g6, r1, r2, r3, r5⟩ := (HA.out.below HB.out).rule_at hlt
   have hsz : szRuleU xs[k] ≤ 9000000 := by
    have := HL.out
    have := szs_mem (sz := szRuleU) (List.getElem_mem hlt)
    omega
   have HST := Lib.hid (show (xs.drop k).all p = (p xs[k] && (xs.drop (k + 1)).all p) by rw [List.drop_eq_getElem_cons hlt]; rfl)
   generalize xs[k] = x at *
   obtain ⟨z0, x1, x2, x3, ⟨z4, x5, z6⟩⟩ := x
   simp only at g0 g1 g2 g3 g4 g5 g6 r1 r2 r3 r5 hsz
   have hi0 : (0 : Int) ≤ (k : Int) := by omega
   have hi1 : (k : Int) < (xs.length : Int) := by omega
   have hd : Below wr.heap.size wr (wr.alloc (Obj.cells #[Value.string z0, Value.slice A1 x1.length c1, Value.slice A2 x2.length c2, Value.slice A3 x3.length c3, Value.bool z4, Value.slice A5 x5.length c5, Value.string z6] 48)) := (Below.refl _ _).alloc (Nat.le_refl _) _
   have HC := Lib.hid (HP.out z0 A1 c1 x1 A2 c2 x2 A3 c3 x3 z4 A5 c5 x5 z6 (wr.alloc (Obj.cells #[Value.string z0, Value.slice A1 x1.length c1, Value.slice A2 x2.length c2, Value.slice A3 x3.length c3, Value.bool z4, Value.slice A5 x5.length c5, Value.string z6] 48)) (below_step HB.out hd) (r1.below hd) (r2.below hd) (r3.below hd) (r5.below hd) hsz)
   have HD := Lib.hid hd
   clear r1 r2 r3 r5 hd hsz
   generalize p (z0, x1, x2, x3, (z4, x5, z6)) = t at *
   cases t with
   | false =>
    have HF := Lib.hid (show R = false by rw [← HAL.out, HST.out]; rfl)
    go_wp2_with (go_at_fn F; refine (Calls.mono HC.out) ?_; rintro e w1 ⟨rfl, b1⟩)
    have B1 := Lib.hid (below_step HB.out (below_step HD.out b1))
    go_ret
    exact ⟨ArgI.ret_b HF.out.symm, B1.out⟩
   | true =>
    have HF := Lib.hid (show (xs.drop (k + 1)).all p = R by rw [← HAL.out, HST.out]; rfl)
    go_wp2_with (go_at_fn F; refine (Calls.mono HC.out) ?_; rintro e w1 ⟨rfl, b1⟩)
    have B1 := Lib.hid (below_step HB.out (below_step HD.out b1))
    go_roundw
    case rel => exact ⟨k + 1, by omega, by go_num, HF, B1.out⟩
    case measure => simp [intOf]; omega
  ·obtain rfl : k = xs.length := by omega
   have HF := Lib.hid (show R = true by rw [← HAL.out, List.drop_length]; rfl)
   go_wp2
   go_ret
   exact ⟨ArgI.ret_b HF.out.symm, HB.out⟩
end ProgI
end Go.Proofs.YtbbllkhmenpnlaaGreat

/-
  Programs: validity (made by tools/s10p.py): of the program.
-/
namespace Go.Proofs.YtbbllkhmenpnlaaGreat
open Go.RowKit
namespace ProgI
open RowK Mem ProgM
set_option maxHeartbeats 4000000 in
set_option maxRecDepth 100000 in
theorem validParams (A : Option Addr) (c : Nat) (ss : List ByteArray) (w : World) (hA : ArgS Rep.str w A ss.length c ss) (hl : ss.length + szs szStr ss ≤ 9000000) :
  Calls Tryz.prog 124 #[.slice A ss.length c] w fun e w' => e = .returned (.bool (paramsV ss)) ∧ Below w.heap.size w w' := by
 have eg : ∀ args W, (callFunc 167 args).run Tryz.prog W = .ok (.enter 167 args) W := enters_of Tryz.func167 (by kernel_rfl) rfl
 have DI := Lib.hid (by
  obtain ⟨q, fp, h9⟩ := hA
  exact NameS.implDistinct A c ss w (strs_open h9).1 (by omega))
 have EV := Lib.hid (fun W (h : Below w.heap.size w W) => everyStr 167 #[] eg NameM.validName A c ss W (hA.below h) hl (fun x W2 h2 hx => by
  have := NameS.implValid x W2 (by unfold maxLen; omega)
  simpa using this))
 have HO := Lib.hid (show paramsV ss = (decide (ss.length ≤ 2) && (NameS.dist ss && ss.all NameM.validName)) from rfl)
 generalize paramsV ss = R at *
 generalize NameS.dist ss = t1 at *
 generalize ss.all NameM.validName = t2 at *
 clear hA hl eg
 by_cases n2 : ss.length ≤ 2
 ·have hq : decide ((ss.length : Int) ≤ 2) = true := decide_eq_true (by omega)
  cases t1 with
  | false =>
   have HF := Lib.hid (show R = false by rw [HO.out]; simp)
   go_enter Tryz.func124, Tryz.ntmps124
   go_wp2_with fail
   refine (Calls.mono DI.out) ?_
   rintro e w1 ⟨rfl, b1⟩
   have B1 := Lib.hid b1
   clear b1
   go_wp2
   go_ret
   exact ⟨ArgI.ret_b HF.out.symm, B1.out⟩
  | true =>
   have HF := Lib.hid (show R = t2 by rw [HO.out, decide_eq_true n2]; rfl)
   go_enter Tryz.func124, Tryz.ntmps124
   go_wp2_with fail
   refine (Calls.mono DI.out) ?_
   rintro e w1 ⟨rfl, b1⟩
   have EV1 := Lib.hid (EV.out w1 b1)
   have B1 := Lib.hid b1
   clear b1
   go_wp2_with fail
   refine (Calls.mono EV1.out) ?_
   rintro e w2 ⟨rfl, b2⟩
   have B2 := Lib.hid (below_step B1.out b2)
   clear b2
   go_wp2
   go_ret
   exact ⟨ArgI.ret_b HF.out.symm, B2.out⟩
 ·have hq : decide ((ss.length : Int) ≤ 2) = false := decide_eq_false (by omega)
  have HF := Lib.hid (show R = false by rw [HO.out, decide_eq_false n2]; rfl)
  go_enter Tryz.func124, Tryz.ntmps124
  go_wp2
  go_ret
  exact ⟨ArgI.ret_b HF.out.symm, Below.refl _ _⟩
set_option maxHeartbeats 4000000 in
set_option maxRecDepth 100000 in
theorem linIn (b : Nat) (u0 : ByteArray) (B1 : Option Addr) (d1 : Nat) (y1 : List ByteArray) (u2 : Bool) (v3 : Value) (z0 : Int) (A1 : Option Addr) (c1 : Nat) (x1 : List Int) (lo hi : Nat) (w : World) (hV : Lvar w b #[.string u0, .slice B1 y1.length d1, .bool u2, v3]) (hA : Row lo hi w A1 (IntK.iv x1)) (hl : x1.length ≤ 9000000) :
  Calls Tryz.prog 126 #[.agg #[.int .i64 z0, .slice A1 x1.length c1], .pointer (some ⟨b, 0, none⟩)] w fun e w' => e = .returned (.bool (LinM.vldB z0 x1 (y1.length : Int))) ∧ Below w.heap.size w w' := by
 have b0 : Below w.heap.size w (w.alloc (Obj.cells #[Value.int .i64 z0, Value.slice A1 x1.length c1] 108)) := (Below.refl _ _).alloc (Nat.le_refl _) _
 have q1 : w.cell? ⟨b, 1, none⟩ = some (.slice B1 y1.length d1) := hV.cell 1 _ rfl
 have hbl := hV.lt
 have VL := Lib.hid (LinI.valid lo hi z0 A1 c1 x1 (y1.length : Int) _ (hA.below b0) (by omega))
 have B0 := Lib.hid b0
 clear hA hV b0
 go_enter Tryz.func126, Tryz.ntmps126
 go_wp2_with fail
 refine (Calls.mono VL.out) ?_
 rintro e w1 ⟨rfl, b1⟩
 have B1 := Lib.hid (below_step B0.out b1)
 clear b1
 go_wp2
 go_ret
 exact ⟨rfl, B1.out⟩
set_option maxHeartbeats 4000000 in
set_option maxRecDepth 100000 in
theorem validFn (z0 : ByteArray) (A1 : Option Addr) (c1 : Nat) (x1 : List ByteArray) (z2 : Bool) (A3 : Option Addr) (c3 : Nat) (x3 : List (Int × List Int)) (w : World) (h1 : ArgS Rep.str w A1 x1.length c1 x1) (h3 : ArgS Mem.lin w A3 x3.length c3 x3) (hl : szFunctionU (z0, x1, z2, x3) ≤ 9000000) :
  Calls Tryz.prog 84 #[.agg #[.string z0, .slice A1 x1.length c1, .bool z2, .slice A3 x3.length c3]] w fun e w' => e = .returned (.bool (fnV (z0, x1, z2, x3))) ∧ Below w.heap.size w w' := by
 have eg : ∀ args W, (callFunc 126 args).run Tryz.prog W = .ok (.enter 126 args) W := enters_of Tryz.func126 (by kernel_rfl) rfl
 simp only [szFunctionU] at hl
 have b0 : Below w.heap.size w (w.alloc (Obj.cells #[Value.string z0, Value.slice A1 x1.length c1, Value.bool z2, Value.slice A3 x3.length c3] 98)) := (Below.refl _ _).alloc (Nat.le_refl _) _
 have V0 := Lvar.new w #[Value.string z0, Value.slice A1 x1.length c1, Value.bool z2, Value.slice A3 x3.length c3] 98
 have EN := Lib.hid (fun W => ArgI.intName z0 (by omega) W)
 have EP := Lib.hid (fun W (h : Below w.heap.size w W) => validParams A1 c1 x1 W (h1.below h) (by omega))
 have EV := Lib.hid (fun W (h : Below (w.alloc (Obj.cells #[Value.string z0, Value.slice A1 x1.length c1, Value.bool z2, Value.slice A3 x3.length c3] 98)).heap.size (w.alloc (Obj.cells #[Value.string z0, Value.slice A1 x1.length c1, Value.bool z2, Value.slice A3 x3.length c3] 98)) W) => everyLin 126 #[.pointer (some ⟨w.heap.size, 0, none⟩)] eg (fun l => LinM.vldB l.1 l.2 (x1.length : Int)) A3 c3 x3 W (h3.below (below_step b0 h)) (by omega) (fun y0 B1 d1 y1 lo hi W2 h2 hr hy => linIn w.heap.size z0 A1 c1 x1 z2 _ y0 B1 d1 y1 lo hi W2 ((V0.below h).below h2) hr hy))
 have B0 := Lib.hid b0
 have HV := Lib.hid V0
 have HO := Lib.hid (show fnV (z0, x1, z2, x3) = (ArgM.intName z0 && (paramsV x1 && (decide (x3.length ≤ 2) && x3.all fun l => LinM.vldB l.1 l.2 (x1.length : Int)))) from rfl)
 generalize fnV (z0, x1, z2, x3) = R at *
 generalize ArgM.intName z0 = t0 at *
 generalize paramsV x1 = t1 at *
 generalize (x3.all fun l => LinM.vldB l.1 l.2 (x1.length : Int)) = t2 at *
 have hx3 : x3.length ≤ 9000000 := by omega
 clear h1 h3 hl eg b0 V0
 cases t0 with
 | false =>
  have HF := Lib.hid (show R = false by rw [HO.out]; rfl)
  go_enter Tryz.func84, Tryz.ntmps84
  go_wp2_with fail
  refine (Calls.mono (EN.out _)) ?_
  rintro e w1 ⟨rfl, b1⟩
  have B1 := Lib.hid (below_step B0.out b1)
  clear b1
  go_wp2
  go_ret
  exact ⟨ArgI.ret_b HF.out.symm, B1.out⟩
 | true =>
  go_enter Tryz.func84, Tryz.ntmps84
  go_wp2_with fail
  refine (Calls.mono (EN.out _)) ?_
  rintro e w1 ⟨rfl, b1⟩
  have D1 := Lib.hid b1
  have B1 := Lib.hid (below_step B0.out b1)
  have V1 := Lib.hid (HV.out.below b1)
  have v1 : w1.cell? ⟨w.heap.size, 1, none⟩ = some (.slice A1 x1.length c1) := V1.out.cell 1 _ rfl
  clear b1
  cases t1 with
  | false =>
   have HF := Lib.hid (show R = false by rw [HO.out]; rfl)
   go_wp2_with fail
   refine (Calls.mono (EP.out _ B1.out)) ?_
   rintro e w2 ⟨rfl, b2⟩
   have B2 := Lib.hid (below_step B1.out b2)
   clear b2
   go_wp2
   go_ret
   exact ⟨ArgI.ret_b HF.out.symm, B2.out⟩
  | true =>
   go_wp2_with fail
   refine (Calls.mono (EP.out _ B1.out)) ?_
   rintro e w2 ⟨rfl, b2⟩
   have D2 := Lib.hid (below_step D1.out b2)
   have B2 := Lib.hid (below_step B1.out b2)
   have v23 : w2.cell? ⟨w.heap.size, 3, none⟩ = some (.slice A3 x3.length c3) := (V1.out.below b2).cell 3 _ rfl
   clear b2 v1
   by_cases n2 : x3.length ≤ 2
   ·have hq : decide ((x3.length : Int) > 2) = false := decide_eq_false (by omega)
    have HF := Lib.hid (show R = t2 by rw [HO.out, decide_eq_true n2]; rfl)
    have EV2 := Lib.hid (EV.out w2 D2.out)
    go_wp2_with fail
    refine (Calls.mono EV2.out) ?_
    rintro e w3 ⟨rfl, b3⟩
    have B3 := Lib.hid (below_step B2.out b3)
    clear b3
    go_wp2
    go_ret
    exact ⟨ArgI.ret_b HF.out.symm, B3.out⟩
   ·have hq : decide ((x3.length : Int) > 2) = true := decide_eq_true (by omega)
    have HF := Lib.hid (show R = false by rw [HO.out, decide_eq_false n2]; rfl)
    go_wp2
    go_ret
    exact ⟨ArgI.ret_b HF.out.symm, B2.out⟩
set_option maxHeartbeats 4000000 in
set_option maxRecDepth 100000 in
theorem ruleIn (b : Nat) (A B : Option Addr) (m c d : Nat) (fs : List FunctionT) (z0 : ByteArray) (A1 : Option Addr) (c1 : Nat) (x1 : List PatternT) (A2 : Option Addr) (c2 : Nat) (x2 : List SumT) (A3 : Option Addr) (c3 : Nat) (x3 : List CallT) (z4 : Bool) (A5 : Option Addr) (c5 : Nat) (x5 : List SumT) (z6 : ByteArray) (w : World) (hV : Lvar w b #[.slice A fs.length c, .slice B m d]) (hA : ArgS Mem.fn w A fs.length c fs) (hl : fs.length + szs szFunctionU fs ≤ 9000000)
  (h1 : ArgS Mem.pat w A1 x1.length c1 x1) (h2 : ArgS Mem.sum w A2 x2.length c2 x2) (h3 : ArgS Mem.call w A3 x3.length c3 x3) (h5 : ArgS Mem.sum w A5 x5.length c5 x5) (hr : szRuleU (z0, x1, x2, x3, (z4, x5, z6)) ≤ 9000000) :
  Calls Tryz.prog 86 #[.agg #[.string z0, .slice A1 x1.length c1, .slice A2 x2.length c2, .slice A3 x3.length c3, .bool z4, .slice A5 x5.length c5, .string z6], .pointer (some ⟨b, 0, none⟩)] w fun e w' => e = .returned (.bool (ruleV fs (z0, x1, x2, x3, (z4, x5, z6)))) ∧ Below w.heap.size w w' := by
 have b0 : Below w.heap.size w (w.alloc (Obj.cells #[Value.string z0, Value.slice A1 x1.length c1, Value.slice A2 x2.length c2, Value.slice A3 x3.length c3, Value.bool z4, Value.slice A5 x5.length c5, Value.string z6] 48)) := (Below.refl _ _).alloc (Nat.le_refl _) _
 have q0 : w.cell? ⟨b, 0, none⟩ = some (.slice A fs.length c) := hV.cell 0 _ rfl
 have q1 : w.cell? ⟨b, 1, none⟩ = some (.slice B m d) := hV.cell 1 _ rfl
 have hbl := hV.lt
 have VR := Lib.hid (validRule A B m c d fs z0 A1 c1 x1 A2 c2 x2 A3 c3 x3 z4 A5 c5 x5 z6 _ (hA.below b0) (by omega) (h1.below b0) (h2.below b0) (h3.below b0) (h5.below b0) (by omega))
 have B0 := Lib.hid b0
 clear hA hV b0 h1 h2 h3 h5
 go_enter Tryz.func86, Tryz.ntmps86
 go_wp2_with fail
 refine (Calls.mono VR.out) ?_
 rintro e w1 ⟨rfl, b1⟩
 have B1 := Lib.hid (below_step B0.out b1)
 clear b1
 go_wp2
 go_ret
 exact ⟨rfl, B1.out⟩
set_option maxHeartbeats 4000000 in
set_option maxRecDepth 100000 in
theorem validProg (A B : Option Addr) (c d : Nat) (fs : List FunctionT) (rs : List RuleT) (w : World) (hA : ArgS Mem.fn w A fs.length c fs) (hB : ArgS Mem.rule w B rs.length d rs) (hl : szProgramU (fs, rs) ≤ 9000000) :
  Calls Tryz.prog 46 #[.agg #[.slice A fs.length c, .slice B rs.length d]] w fun e w' => e = .returned (.bool (progV fs rs)) ∧ Below w.heap.size w w' := by
 have eg : ∀ args W, (callFunc 86 args).run Tryz.prog W = .ok (.enter 86 args) W := enters_of Tryz.func86 (by kernel_rfl) rfl
 have eg2 : ∀ args W, (callFunc 84 args).run Tryz.prog W = .ok (.enter 84 args) W := enters_of Tryz.func84 (by kernel_rfl) rfl
 obtain ⟨i0, hi, hz0, hz1, hz2⟩ := info_parts strInfoU
 simp only [szProgramU] at hl
 obtain ⟨w1, hw1⟩ : ∃ u, u = w.alloc (Obj.cells #[Value.slice A fs.length c, Value.slice B rs.length d] 27) := ⟨_, rfl⟩
 have B0 := Lib.hid (show Below w.heap.size w w1 by rw [hw1]; exact (Below.refl _ _).alloc (Nat.le_refl _) _)
 have V0 := Lib.hid (show Lvar w1 w.heap.size #[Value.slice A fs.length c, Value.slice B rs.length d] by rw [hw1]; exact Lvar.new w _ _)
 have EF := Lib.hid (fun W (h : Below w1.heap.size w1 W) => everyFn 84 #[] eg2 fnV A c fs W (hA.below (below_step B0.out h)) (by omega) (fun z0 A1 c1 x1 z2 A3 c3 x3 W2 h2 k1 k3 hs => by
  have := validFn z0 A1 c1 x1 z2 A3 c3 x3 W2 k1 k3 hs
  simpa using this))
 have ER := Lib.hid (fun W (h : Below w1.heap.size w1 W) => everyRule 86 #[.pointer (some ⟨w.heap.size, 0, none⟩)] eg (ruleV fs) B d rs W (hB.below (below_step B0.out h)) (by omega) (fun z0 A1 c1 x1 A2 c2 x2 A3 c3 x3 z4 A5 c5 x5 z6 W2 h2 k1 k2 k3 k5 hs => ruleIn w.heap.size A B rs.length c d fs z0 A1 c1 x1 A2 c2 x2 A3 c3 x3 z4 A5 c5 x5 z6 W2 ((V0.out.below h).below h2) (hA.below (below_step B0.out (below_step h h2))) (by omega) k1 k2 k3 k5 hs))
 have HA := Lib.hid hA
 have hfl : fs.length ≤ 9000000 ∧ rs.length ≤ 9000000 := by omega
 have HO := Lib.hid (show progV fs rs = ((decide (fs.length ≠ 0) && (decide (fs.length ≤ 3) && decide (rs.length ≤ 8))) && (NameS.dist (fs.map (·.1)) && (fs.all fnV && rs.all (ruleV fs)))) from rfl)
 generalize progV fs rs = R at *
 generalize fs.all fnV = tf at *
 generalize rs.all (ruleV fs) = tr at *
 clear hA hB hl eg eg2
 have NEG := Lib.hid (fun (h : (decide (fs.length ≠ 0) && (decide (fs.length ≤ 3) && decide (rs.length ≤ 8))) = false) => (show R = false by rw [HO.out, h]; rfl))
 by_cases n0 : fs.length = 0
 ·have HF := Lib.hid (NEG.out (by simp [n0]))
  have hq : ((fs.length : Int) == 0) = true := by simp [n0]
  have B1 := Lib.hid (show Below w.heap.size w (w.alloc (Obj.cells #[Value.slice A fs.length c, Value.slice B rs.length d] 27)) from (Below.refl _ _).alloc (Nat.le_refl _) _)
  clear n0
  go_enter Tryz.func46, Tryz.ntmps46
  go_wp2
  go_ret
  exact ⟨ArgI.ret_b HF.out.symm, B1.out⟩
 ·have hq0 : ((fs.length : Int) == 0) = false := beq_eq_false_iff_ne.2 (by omega)
  by_cases n3 : fs.length ≤ 3
  ·have hq3 : decide ((fs.length : Int) > 3) = false := decide_eq_false (by omega)
   by_cases n8 : rs.length ≤ 8
   ·have hq8 : decide ((rs.length : Int) > 8) = false := decide_eq_false (by omega)
    have HO := Lib.hid (show R = (NameS.dist (fs.map (·.1)) && (tf && tr)) by rw [HO.out, decide_eq_true n0, decide_eq_true n3, decide_eq_true n8]; rfl)
    clear NEG
    go_enter Tryz.func46, Tryz.ntmps46
    go_wp2
    go_loopw [3, 25] (fun v i wr => ∃ (k : Nat) (done : List ByteArray), k ≤ fs.length ∧ i = .int .i64 k ∧ Hid (done = (fs.take k).map (·.1)) ∧ Names10 w1 v done wr) (fun _ i _ => fs.length - (intOf i).toNat)
    case atStart => exact ⟨0, [], Nat.zero_le _, rfl, Lib.hid rfl, World.ownsRow_nil _ _ _ _, by rw [hw1]; exact Below.refl _ _⟩
    case round =>
     clear hw1
     obtain ⟨k, done, hk, rfl, hdone, hN⟩ := hrel
     have HD := Lib.hid hdone.out
     have HN := Lib.hid hN
     have hdl : done.length ≤ 10000000 := by rw [HD.out, List.length_map, List.length_take]; omega
     clear hN hdone
     have bw := below_step B0.out HN.out.2
     have BW := Lib.hid bw
     by_cases hlt : k < fs.length
     ·obtain ⟨b1, o1, G1, e1, G3, e3, rfl, hbb1, g0, g1, g2, g3, r1, r3⟩ := (HA.out.below bw).fn_at hlt
      have HST := Lib.hid (show (fs.take (k + 1)).map (·.1) = (fs.take k).map (·.1) ++ [fs[k].1] by rw [take_snoc hlt, List.map_append]; rfl)
      clear bw r1 r3
      generalize fs[k] = x at *
      obtain ⟨y0, y1, y2, y3⟩ := x
      simp only at g0 g1 g2 g3
      have hi0 : (0 : Int) ≤ (k : Int) := by omega
      have hi1 : (k : Int) < (fs.length : Int) := by omega
      have HDD := Lib.hid (show Below wr.heap.size wr (wr.alloc (Obj.cells #[Value.string y0, Value.slice G1 y1.length e1, Value.bool y2, Value.slice G3 y3.length e3] 98)) from (Below.refl _ _).alloc (Nat.le_refl _) _)
      have HF := Lib.hid (show done ++ [y0] = (fs.take (k + 1)).map (·.1) by rw [HST.out, HD.out])
      have hown := HN.out.1
      have RN := Lib.hid (show Row 0 ((wr.alloc (Obj.cells #[Value.string y0, Value.slice G1 y1.length e1, Value.bool y2, Value.slice G3 y3.length e3] 98)).alloc (Obj.cells #[Value.string y0] 9)).heap.size ((wr.alloc (Obj.cells #[Value.string y0, Value.slice G1 y1.length e1, Value.bool y2, Value.slice G3 y3.length e3] 98)).alloc (Obj.cells #[Value.string y0] 9)) (some ⟨wr.heap.size + 1, 0, none⟩) [.string y0] from by have h9 := row_new (heap_alloc_new (wr.alloc (Obj.cells #[Value.string y0, Value.slice G1 y1.length e1, Value.bool y2, Value.slice G3 y3.length e3] 98)) (Obj.cells #[Value.string y0] 9)); simpa using h9)
      go_wp2_with (at_builtin; (refine wpList_append_rowW rfl _ _ _ rfl 9 i0 (.string ByteArray.empty) 1 16 w1.heap.size Tryz.underlying31 hi hz0 hz1 hz2 rfl (by decide) _ done.length (done.map Value.string) rfl ((hown.alloc _).alloc _) _ 1 _ [.string y0] rfl rfl RN.out (by simp [Value.oneCell']) (by unfold maxLen; omega) (by omega) (by have := HN.out.2.size; simp; omega) ?_); intro v5 w5 hown5 hgrow hwh)
      have BB : Below w1.heap.size w1 w5 := ((HN.out.2.trans (HDD.out.mono HN.out.2.size)).alloc (by have := HN.out.2.size; simp; omega) (Obj.cells #[Value.string y0] 9)).grown hgrow (by have := HN.out.2.size; simp; omega) (fun g e => (hown.lt g e).1)
      have NN := Lib.hid (show Names10 w1 v5 (done ++ [y0]) w5 from ⟨by simpa using hown5, BB⟩)
      clear hown5 hgrow hwh hown BB
      go_wp2
      go_roundw
      case rel => exact ⟨k + 1, done ++ [y0], by omega, by go_num, HF, NN.out⟩
      case measure => simp [intOf]; omega
     ·obtain rfl : k = fs.length := by omega
      have hdd : done = fs.map (·.1) := by rw [HD.out, List.take_length]
      have HO := Lib.hid (show R = (NameS.dist done && (tf && tr)) by rw [HO.out, hdd])
      obtain ⟨N, cn, hv, oN, _⟩ := gave_own HN.out.1 HN.out.2
      injection hv with hv
      subst hv
      have DI := Lib.hid (NameS.implDistinct N cn done wr (own_SR oN).1 (by omega))
      have V1 := Lib.hid (V0.out.below HN.out.2)
      have HNB := Lib.hid HN.out.2
      clear hdd oN
      generalize NameS.dist done = t1 at *
      cases t1 with
      | false =>
       have HF := Lib.hid (show R = false by rw [HO.out]; rfl)
       go_wp2_with fail
       refine (Calls.mono DI.out) ?_
       rintro e w3 ⟨rfl, b3⟩
       have B3 := Lib.hid (below_step BW.out b3)
       clear b3
       go_wp2
       go_ret
       exact ⟨ArgI.ret_b HF.out.symm, B3.out⟩
      | true =>
       have HO := Lib.hid (show R = (tf && tr) by rw [HO.out]; rfl)
       go_wp2_with fail
       refine (Calls.mono DI.out) ?_
       rintro e w3 ⟨rfl, b3⟩
       have D3 := Lib.hid (below_step HNB.out b3)
       have EF3 := Lib.hid (EF.out w3 D3.out)
       have B3 := Lib.hid (below_step BW.out b3)
       have V3 := Lib.hid (V1.out.below b3)
       have p0 : w3.cell? ⟨w.heap.size, 0, none⟩ = some (.slice A fs.length c) := V3.out.cell 0 _ rfl
       clear b3
       cases tf with
       | false =>
        have HF := Lib.hid (show R = false by rw [HO.out]; rfl)
        go_wp2_with fail
        refine (Calls.mono EF3.out) ?_
        rintro e w4 ⟨rfl, b4⟩
        have B4 := Lib.hid (below_step B3.out b4)
        clear b4
        go_wp2
        go_ret
        exact ⟨ArgI.ret_b HF.out.symm, B4.out⟩
       | true =>
        have HF := Lib.hid (show R = tr by rw [HO.out]; rfl)
        go_wp2_with fail
        refine (Calls.mono EF3.out) ?_
        rintro e w4 ⟨rfl, b4⟩
        have ER4 := Lib.hid (ER.out w4 (below_step D3.out b4))
        have B4 := Lib.hid (below_step B3.out b4)
        have p1 : w4.cell? ⟨w.heap.size, 1, none⟩ = some (.slice B rs.length d) := (V3.out.below b4).cell 1 _ rfl
        clear b4 p0
        go_wp2_with fail
        refine (Calls.mono ER4.out) ?_
        rintro e w5 ⟨rfl, b5⟩
        have B5 := Lib.hid (below_step B4.out b5)
        clear b5
        go_wp2
        go_ret
        exact ⟨ArgI.ret_b HF.out.symm, B5.out⟩
   ·have HF := Lib.hid (NEG.out (by simp [n8]))
    have hq : decide ((rs.length : Int) > 8) = true := decide_eq_true (by omega)
    have B1 := Lib.hid (show Below w.heap.size w (w.alloc (Obj.cells #[Value.slice A fs.length c, Value.slice B rs.length d] 27)) from (Below.refl _ _).alloc (Nat.le_refl _) _)
    go_enter Tryz.func46, Tryz.ntmps46
    go_wp2
    go_ret
    exact ⟨ArgI.ret_b HF.out.symm, B1.out⟩
  ·have HF := Lib.hid (NEG.out (by simp [n3]))
   have hq : decide ((fs.length : Int) > 3) = true := decide_eq_true (by omega)
   have B1 := Lib.hid (show Below w.heap.size w (w.alloc (Obj.cells #[Value.slice A fs.length c, Value.slice B rs.length d] 27)) from (Below.refl _ _).alloc (Nat.le_refl _) _)
   go_enter Tryz.func46, Tryz.ntmps46
   go_wp2
   go_ret
   exact ⟨ArgI.ret_b HF.out.symm, B1.out⟩
end ProgI
end Go.Proofs.YtbbllkhmenpnlaaGreat

/-
  Programs: validity (made by tools/s10p.py): of the model.
-/
namespace Go.Proofs.YtbbllkhmenpnlaaGreat
open Go.RowKit
namespace ProgS
open RowK Mem ProgM ProgI
set_option maxHeartbeats 4000000 in
set_option maxRecDepth 100000 in
theorem names5 (A : Option Addr) (c : Nat) (ss : List ByteArray) (w : World) (hA : ArgS Rep.str w A ss.length c ss) (hl : ss.length + szs szStr ss ≤ 9000000) :
  Calls Tryz.prog 95 #[.slice A ss.length c] w fun e w' => e = .returned (.bool (ss.all NameM.validName && NameS.dist ss)) ∧ Below w.heap.size w w' := by
 have hcap := (ArgS.cap hA).2
 have HA := Lib.hid hA
 have HL := Lib.hid hl
 have DI := Lib.hid (fun W (h : Below w.heap.size w W) => by
  obtain ⟨q, fp, h9⟩ := hA.below h
  exact NameS.specDistinct A c ss W (strs_open h9).1 (by omega) hcap)
 have hxl : ss.length ≤ 9000000 := by omega
 obtain ⟨R, hR⟩ : ∃ R, R = (ss.all NameM.validName && NameS.dist ss) := ⟨_, rfl⟩
 rw [← hR]
 have HRR := Lib.hid hR
 clear hA hl hR
 go_enter Tryz.func95, Tryz.ntmps95
 go_wp2
 go_loopw [3] (fun i wr => ∃ k : Nat, k ≤ ss.length ∧ i = .int .i64 k ∧ Hid (((ss.drop k).all NameM.validName && NameS.dist ss) = R) ∧ Below w.heap.size w wr) (fun i _ => ss.length - (intOf i).toNat)
 case atStart => exact ⟨0, Nat.zero_le _, rfl, Lib.hid HRR.out.symm, Below.refl _ _⟩
 case round =>
  obtain ⟨k, hk, rfl, hall, hb⟩ := hrel
  have HAL := Lib.hid hall.out
  have HB := Lib.hid hb
  clear hall hb
  by_cases hlt : k < ss.length
  ·obtain ⟨b1, o1, rfl, hbb1, g0⟩ := str_at10 (HA.out.below HB.out) hlt
   have hsz : ss[k].size ≤ 9000000 := by
    have := HL.out
    exact str_le hlt (by omega)
   have HST := Lib.hid (show (ss.drop k).all NameM.validName = (NameM.validName ss[k] && (ss.drop (k + 1)).all NameM.validName) by rw [List.drop_eq_getElem_cons hlt]; rfl)
   generalize ss[k] = x at *
   have hi0 : (0 : Int) ≤ (k : Int) := by omega
   have hi1 : (k : Int) < (ss.length : Int) := by omega
   have EV := Lib.hid (NameS.specValid x wr (by unfold maxLen; omega))
   clear hsz
   generalize NameM.validName x = t at *
   cases t with
   | false =>
    have HF := Lib.hid (show R = false by rw [← HAL.out, HST.out]; rfl)
    go_wp2_with fail
    refine (Calls.mono EV.out) ?_
    rintro e w1 ⟨rfl, b1⟩
    have B1 := Lib.hid (below_step HB.out b1)
    clear b1
    go_wp2
    go_ret
    exact ⟨ArgI.ret_b HF.out.symm, B1.out⟩
   | true =>
    have HF := Lib.hid (show ((ss.drop (k + 1)).all NameM.validName && NameS.dist ss) = R by rw [← HAL.out, HST.out]; rfl)
    go_wp2_with fail
    refine (Calls.mono EV.out) ?_
    rintro e w1 ⟨rfl, b1⟩
    have B1 := Lib.hid (below_step HB.out b1)
    clear b1
    go_wp2
    go_roundw
    case rel => exact ⟨k + 1, by omega, by go_num, HF, B1.out⟩
    case measure => simp [intOf]; omega
  ·obtain rfl : k = ss.length := by omega
   have HF := Lib.hid (show R = NameS.dist ss by rw [← HAL.out, List.drop_length]; rfl)
   have DI1 := Lib.hid (DI.out wr HB.out)
   go_wp2_with fail
   refine (Calls.mono DI1.out) ?_
   rintro e w1 ⟨rfl, b1⟩
   have B1 := Lib.hid (below_step HB.out b1)
   clear b1
   go_wp2
   go_ret
   exact ⟨ArgI.ret_b HF.out.symm, B1.out⟩
set_option maxHeartbeats 4000000 in
set_option maxRecDepth 100000 in
theorem in13 (n : Int) (w : World) :
  Calls Tryz.prog 97 #[.int .i64 n, .int .i64 1, .int .i64 3] w fun e w' => e = .returned (.bool (decide (1 ≤ n) && decide (n ≤ 3))) ∧ w = w' := by
 go_enter Tryz.func97, Tryz.ntmps97
 go_wp2
 all_goals
  go_ret
  exact ⟨ArithI.ret_bool (by simp_all; try omega), rfl⟩
set_option maxHeartbeats 8000000 in
set_option maxRecDepth 100000 in
theorem functions (A : Option Addr) (c : Nat) (fs : List FunctionT) (w : World) (hA : ArgS Mem.fn w A fs.length c fs) (hl : fs.length + szs szFunctionU fs ≤ 9000000) :
  Calls Tryz.prog 60 #[.slice A fs.length c] w fun e w' => e = .returned (.bool (fs.all fnV && ((decide (1 ≤ (fs.length : Int)) && decide ((fs.length : Int) ≤ 3)) && NameS.dist (fs.map (·.1))))) ∧ Below w.heap.size w w' := by
 obtain ⟨i0, hi, hz0, hz1, hz2⟩ := info_parts strInfoU
 have HA := Lib.hid hA
 have HL := Lib.hid hl
 have hxl : fs.length ≤ 9000000 := by omega
 obtain ⟨R, hR⟩ : ∃ R, R = (fs.all fnV && ((decide (1 ≤ (fs.length : Int)) && decide ((fs.length : Int) ≤ 3)) && NameS.dist (fs.map (·.1)))) := ⟨_, rfl⟩
 rw [← hR]
 have HRR := Lib.hid hR
 have N0 := Lib.hid (show Names10 w (.slice (some ⟨w.heap.size, 0, none⟩) 0 0) [] (w.alloc (Obj.cells #[] 9)) from ⟨own_none (heap_alloc_new _ _) (Nat.le_refl _), (Below.refl _ _).alloc (Nat.le_refl _) _⟩)
 clear hA hl hR
 go_enter Tryz.func60, Tryz.ntmps60
 go_wp2
 go_loopw [3, 4] (fun v i wr => ∃ (k : Nat) (done : List ByteArray), k ≤ fs.length ∧ i = .int .i64 k ∧ Hid (done = (fs.take k).map (·.1)) ∧ Hid (((fs.drop k).all fnV && ((decide (1 ≤ (fs.length : Int)) && decide ((fs.length : Int) ≤ 3)) && NameS.dist (fs.map (·.1)))) = R) ∧ Names10 w v done wr) (fun _ i _ => fs.length - (intOf i).toNat)
 case atStart => exact ⟨0, [], Nat.zero_le _, rfl, Lib.hid rfl, Lib.hid HRR.out.symm, N0.out⟩
 case round =>
  clear N0
  obtain ⟨k, done, hk, rfl, hdone, hal, hN⟩ := hrel
  have HD := Lib.hid hdone.out
  have HAL := Lib.hid hal.out
  have HN := Lib.hid hN
  have hdl : done.length ≤ 10000000 := by rw [HD.out, List.length_map, List.length_take]; omega
  clear hN hdone hal
  have BW := Lib.hid HN.out.2
  by_cases hlt : k < fs.length
  ·obtain ⟨b1, o1, G1, e1, G3, e3, rfl, hbb1, g0, g1, g2, g3, r1, r3⟩ := (HA.out.below BW.out).fn_at hlt
   have hsz : szFunctionU fs[k] ≤ 9000000 := by
    have := HL.out
    have := szs_mem (sz := szFunctionU) (List.getElem_mem hlt)
    omega
   have HSM := Lib.hid (show (fs.take (k + 1)).map (·.1) = (fs.take k).map (·.1) ++ [fs[k].1] by rw [take_snoc hlt, List.map_append]; rfl)
   have HST := Lib.hid (show (fs.drop k).all fnV = (fnV fs[k] && (fs.drop (k + 1)).all fnV) by rw [List.drop_eq_getElem_cons hlt]; rfl)
   generalize fs[k] = x at *
   obtain ⟨y0, y1, y2, y3⟩ := x
   simp only at g0 g1 g2 g3 r1 r3
   simp only [szFunctionU] at hsz
   have hi0 : (0 : Int) ≤ (k : Int) := by omega
   have hi1 : (k : Int) < (fs.length : Int) := by omega
   obtain ⟨T, hT⟩ : ∃ T, T = ((fs.drop (k + 1)).all fnV && ((decide (1 ≤ (fs.length : Int)) && decide ((fs.length : Int) ≤ 3)) && NameS.dist (fs.map (·.1)))) := ⟨_, rfl⟩
   have HTT := Lib.hid hT
   have HST := Lib.hid (show R = ((ArgM.intName y0 && (paramsV y1 && (decide (y3.length ≤ 2) && y3.all fun l => LinM.vldB l.1 l.2 (y1.length : Int)))) && T) by
    rw [← HAL.out, HST.out, hT, Bool.and_assoc]; rfl)
   clear hT
   have HDD := Lib.hid (show Below wr.heap.size wr (wr.alloc (Obj.cells #[Value.string y0, Value.slice G1 y1.length e1, Value.bool y2, Value.slice G3 y3.length e3] 98)) from (Below.refl _ _).alloc (Nat.le_refl _) _)
   have XV := Lib.hid (Lvar.new wr #[Value.string y0, Value.slice G1 y1.length e1, Value.bool y2, Value.slice G3 y3.length e3] 98)
   have EN := Lib.hid (fun W => intName y0 (by omega) W)
   have E5 := Lib.hid (fun W (h : Below wr.heap.size wr W) => names5 G1 e1 y1 W (r1.below h) (by omega))
   have R3 := Lib.hid r3
   have hy1 : y1.length ≤ 9000000 := by omega
   have hy3 : y3.length ≤ 9000000 := by omega
   have HY3 := Lib.hid (show y3.length + szs szLin y3 ≤ 9000000 by omega)
   have HPV := Lib.hid (show paramsV y1 = (decide (y1.length ≤ 2) && (y1.all NameM.validName && NameS.dist y1)) from by unfold paramsV; rw [Bool.and_comm (NameS.dist y1)])
   rw [HPV.out] at HST
   clear r1 r3 hsz HPV
   generalize ArgM.intName y0 = t0 at *
   generalize (y1.all NameM.validName && NameS.dist y1) = t1 at *
   go_upto_region 6 with fail
   generalize wr.alloc (Obj.cells #[Value.string y0, Value.slice G1 y1.length e1, Value.bool y2, Value.slice G3 y3.length e3] 98) = w2 at *
   have x0 : w2.cell? ⟨wr.heap.size, 0, none⟩ = some (.string y0) := XV.out.cell 0 _ rfl
   have x1 : w2.cell? ⟨wr.heap.size, 1, none⟩ = some (.slice G1 y1.length e1) := XV.out.cell 1 _ rfl
   cases t0 with
   | false =>
    have HF := Lib.hid (show R = false by rw [HST.out]; rfl)
    go_wp2_with fail
    refine (Calls.mono (EN.out _)) ?_
    rintro e w3 ⟨rfl, b3⟩
    have B3 := Lib.hid (below_step BW.out (below_step HDD.out b3))
    clear b3
    go_wp2
    go_ret
    exact ⟨ArgI.ret_b HF.out.symm, B3.out⟩
   | true =>
    go_wp2_with fail
    refine (Calls.mono (EN.out _)) ?_
    rintro e w3 ⟨rfl, b3⟩
    have D3 := Lib.hid (below_step HDD.out b3)
    have X3 := Lib.hid (XV.out.below b3)
    have z1 : w3.cell? ⟨wr.heap.size, 1, none⟩ = some (.slice G1 y1.length e1) := X3.out.cell 1 _ rfl
    clear b3 x0 x1 XV
    by_cases n1 : y1.length ≤ 2
    ·have hq1 : decide ((y1.length : Int) > 2) = false := decide_eq_false (by omega)
     cases t1 with
     | false =>
      have HF := Lib.hid (show R = false by rw [HST.out]; simp)
      go_wp2_with fail
      refine (Calls.mono (E5.out _ D3.out)) ?_
      rintro e w4 ⟨rfl, b4⟩
      have B4 := Lib.hid (below_step BW.out (below_step D3.out b4))
      clear b4
      go_wp2
      go_ret
      exact ⟨ArgI.ret_b HF.out.symm, B4.out⟩
     | true =>
      go_wp2_with fail
      refine (Calls.mono (E5.out _ D3.out)) ?_
      rintro e w4 ⟨rfl, b4⟩
      have D4 := Lib.hid (below_step D3.out b4)
      have X4 := Lib.hid (X3.out.below b4)
      have z3 : w4.cell? ⟨wr.heap.size, 3, none⟩ = some (.slice G3 y3.length e3) := X4.out.cell 3 _ rfl
      clear b4 z1 X3
      by_cases n3 : y3.length ≤ 2
      ·have hq3 : decide ((y3.length : Int) > 2) = false := decide_eq_false (by omega)
       have HST := Lib.hid (show R = ((y3.all fun l => LinM.vldB l.1 l.2 (y1.length : Int)) && T) by rw [HST.out, decide_eq_true n1, decide_eq_true n3]; rfl)
       have HWO := Lib.hid HN.out
       obtain ⟨wo, hwo⟩ : ∃ u, u = wr := ⟨_, rfl⟩
       subst hwo
       go_wp2
       go_loopw [6] (fun i wr => ∃ m : Nat, m ≤ y3.length ∧ i = .int .i64 m ∧ Hid ((((y3.drop m).all fun l => LinM.vldB l.1 l.2 (y1.length : Int)) && T) = R) ∧ Below w4.heap.size w4 wr) (fun i _ => y3.length - (intOf i).toNat)
       case atStart => exact ⟨0, Nat.zero_le _, rfl, Lib.hid HST.out.symm, Below.refl _ _⟩
       case round =>
        clear z3 g0 g1 g2 g3
        obtain ⟨m, hm, rfl, hall, hb⟩ := hrel
        have HAM := Lib.hid hall.out
        have HBM := Lib.hid hb
        clear hall hb
        have DM := Lib.hid (below_step D4.out HBM.out)
        have XM := Lib.hid (X4.out.below HBM.out)
        have zm3 : wr.cell? ⟨wo.heap.size, 3, none⟩ = some (.slice G3 y3.length e3) := XM.out.cell 3 _ rfl
        by_cases hmt : m < y3.length
        ·obtain ⟨q9, f9, h9⟩ := R3.out.below DM.out
         obtain ⟨b5, o5, P1, f1, lo, hi5, rfl, hbb5, i0', i1', _, r5⟩ := lins_at h9 hmt
         have hsz : y3[m].2.length ≤ 9000000 := by
          have := HY3.out
          have := szs_mem (sz := szLin) (List.getElem_mem hmt)
          have e : szLin y3[m] = y3[m].2.length := rfl
          omega
         have HSL := Lib.hid (show ((y3.drop m).all fun l => LinM.vldB l.1 l.2 (y1.length : Int)) = (LinM.vldB y3[m].1 y3[m].2 (y1.length : Int) && (y3.drop (m + 1)).all fun l => LinM.vldB l.1 l.2 (y1.length : Int)) by rw [List.drop_eq_getElem_cons hmt]; rfl)
         generalize y3[m] = x at *
         obtain ⟨z, zs⟩ := x
         simp only at i0' i1' r5 hsz
         have hj0 : (0 : Int) ≤ (m : Int) := by omega
         have hj1 : (m : Int) < (y3.length : Int) := by omega
         have KS := Lib.hid (fun W (h : Below wr.heap.size wr W) => (show W.cell? ⟨wo.heap.size, 1, none⟩ = some (Value.slice G1 y1.length e1) ∧ W.cell? ⟨wo.heap.size, 3, none⟩ = some (Value.slice (some ⟨b5, o5, none⟩) y3.length e3) ∧ W.cell? ⟨b5, o5 + m * 2, none⟩ = some (Value.int .i64 z) ∧ W.cell? ⟨b5, o5 + m * 2 + 1, none⟩ = some (Value.slice P1 zs.length f1) from
          ⟨(XM.out.below h).cell 1 _ rfl, (XM.out.below h).cell 3 _ rfl, (h.cell (p := ⟨b5, o5 + m * 2, none⟩) hbb5).trans i0', (h.cell (p := ⟨b5, o5 + m * 2 + 1, none⟩) hbb5).trans i1'⟩))
         have F2 := Lib.hid (Below.refl wr.heap.size wr).drew
         have F2r := Lib.hid (Below.refl wr.heap.size wr)
         have VL := Lib.hid (fun W (h : Below wr.heap.size wr W) => LinS.valid lo hi5 z P1 f1 zs (y1.length : Int) W (r5.below h) (by omega))
         clear r5 hsz h9
         generalize LinM.vldB z zs (y1.length : Int) = ta at *
         cases ta
         case false =>
          have HF := Lib.hid (show R = false by rw [← HAM.out, HSL.out]; rfl)
          go_wp2_with fail
          go_region_held3 (fun w' => w'.cell? ⟨wo.heap.size, 1, none⟩ = some (Value.slice G1 y1.length e1) ∧ w'.cell? ⟨wo.heap.size, 3, none⟩ = some (Value.slice (some ⟨b5, o5, none⟩) y3.length e3) ∧ w'.cell? ⟨b5, o5 + m * 2, none⟩ = some (Value.int .i64 z) ∧ w'.cell? ⟨b5, o5 + m * 2 + 1, none⟩ = some (Value.slice P1 zs.length f1))
           (first | with_reducible exact KS.out _ F4.out | with_reducible exact KS.out _ F2.out | with_reducible exact KS.out _ F2r.out | go_keep)
           (first | (go_at_call 96; (with_reducible refine (Calls.mono (VL.out _ (by first | exact F2.out | exact F2r.out))) ?_); rintro e wz ⟨rfl, b4⟩; (have F4 := Lib.hid (show Below wr.heap.size wr wz from by first | exact below_step F2.out b4 | exact b4)); clear b4))
          all_goals
           have B7 := Lib.hid (show Below w.heap.size w _ from below_step BW.out (below_step DM.out F4.out))
           go_wp2
           go_ret
           exact ⟨ArgI.ret_b HF.out.symm, by first | exact B7.out | exact B7.out.drew⟩
         case true =>
          have HF := Lib.hid (show (((y3.drop (m + 1)).all fun l => LinM.vldB l.1 l.2 (y1.length : Int)) && T) = R by rw [← HAM.out, HSL.out]; rfl)
          go_wp2_with fail
          go_region_held3 (fun w' => w'.cell? ⟨wo.heap.size, 1, none⟩ = some (Value.slice G1 y1.length e1) ∧ w'.cell? ⟨wo.heap.size, 3, none⟩ = some (Value.slice (some ⟨b5, o5, none⟩) y3.length e3) ∧ w'.cell? ⟨b5, o5 + m * 2, none⟩ = some (Value.int .i64 z) ∧ w'.cell? ⟨b5, o5 + m * 2 + 1, none⟩ = some (Value.slice P1 zs.length f1))
           (first | with_reducible exact KS.out _ F4.out | with_reducible exact KS.out _ F2.out | with_reducible exact KS.out _ F2r.out | go_keep)
           (first | (go_at_call 96; (with_reducible refine (Calls.mono (VL.out _ (by first | exact F2.out | exact F2r.out))) ?_); rintro e wz ⟨rfl, b4⟩; (have F4 := Lib.hid (show Below wr.heap.size wr wz from by first | exact below_step F2.out b4 | exact b4)); clear b4))
          all_goals
           have B7 := Lib.hid (show Below w4.heap.size w4 _ from below_step HBM.out F4.out)
           go_wp2
           go_roundw
           case rel => exact ⟨m + 1, by omega, by go_num, HF, by first | exact B7.out | exact B7.out.drew⟩
           case measure => simp [intOf]; omega
        ·obtain rfl : m = y3.length := by omega
         have HRT := Lib.hid (show T = R by rw [← HAM.out, List.drop_length]; rfl)
         have xm0 : wr.cell? ⟨wo.heap.size, 0, none⟩ = some (.string y0) := XM.out.cell 0 _ rfl
         have HF := Lib.hid (show done ++ [y0] = (fs.take (k + 1)).map (·.1) by rw [HSM.out, HD.out])
         have hown := own_below HWO.out.1 DM.out
         have hsw := DM.out.size
         have hsw2 := HWO.out.2.size
         have RN := Lib.hid (show Row 0 (wr.alloc (Obj.cells #[Value.string y0] 9)).heap.size (wr.alloc (Obj.cells #[Value.string y0] 9)) (some ⟨wr.heap.size, 0, none⟩) [.string y0] from by have h9 := row_new (heap_alloc_new wr (Obj.cells #[Value.string y0] 9)); simpa using h9)
         go_wp2_with (at_builtin; (refine wpList_append_rowW rfl _ _ _ rfl 9 i0 (.string ByteArray.empty) 1 16 w.heap.size Tryz.underlying31 hi hz0 hz1 hz2 rfl (by decide) _ done.length (done.map Value.string) rfl (hown.alloc _) _ 1 _ [.string y0] rfl rfl RN.out (by simp [Value.oneCell']) (by unfold maxLen; omega) (by omega) (by simp; omega) ?_); intro v5 w5 hown5 hgrow hwh)
         have BB : Below w.heap.size w w5 := ((below_step HWO.out.2 DM.out).alloc (by omega) (Obj.cells #[Value.string y0] 9)).grown hgrow (by simp; omega) (fun g e => (hown.lt g e).1)
         have NN := Lib.hid (show Names10 w v5 (done ++ [y0]) w5 from ⟨by simpa using hown5, BB⟩)
         have HTR := Lib.hid (show ((fs.drop (k + 1)).all fnV && ((decide (1 ≤ (fs.length : Int)) && decide ((fs.length : Int) ≤ 3)) && NameS.dist (fs.map (·.1)))) = R by rw [← HTT.out, HRT.out])
         clear hown5 hgrow hwh hown BB
         go_wp2
         go_roundw
         case rel => exact ⟨k + 1, done ++ [y0], by omega, by go_num, HF, HTR, NN.out⟩
         case measure => simp [intOf]; omega
      ·have hq3 : decide ((y3.length : Int) > 2) = true := decide_eq_true (by omega)
       have HF := Lib.hid (show R = false by rw [HST.out, decide_eq_false n3]; simp)
       have B4 := Lib.hid (below_step BW.out D4.out)
       go_wp2
       go_ret
       exact ⟨ArgI.ret_b HF.out.symm, B4.out⟩
    ·have hq1 : decide ((y1.length : Int) > 2) = true := decide_eq_true (by omega)
     have HF := Lib.hid (show R = false by rw [HST.out, decide_eq_false n1]; simp)
     have B3 := Lib.hid (below_step BW.out D3.out)
     go_wp2
     go_ret
     exact ⟨ArgI.ret_b HF.out.symm, B3.out⟩
  ·obtain rfl : k = fs.length := by omega
   have hdd : done = fs.map (·.1) := by rw [HD.out, List.take_length]
   have HO := Lib.hid (show R = ((decide (1 ≤ (fs.length : Int)) && decide ((fs.length : Int) ≤ 3)) && NameS.dist done) by rw [← HAL.out, List.drop_length, hdd]; rfl)
   obtain ⟨N, cn, hv, oN, _⟩ := gave_own HN.out.1 HN.out.2
   injection hv with hv
   subst hv
   have hcp := (ArgS.cap oN.arg).2
   have DI := Lib.hid (NameS.specDistinct N cn done wr (own_SR oN).1 (by omega) hcp)
   have IN := Lib.hid (in13 (fs.length : Int) wr)
   clear hdd oN
   generalize (decide (1 ≤ (fs.length : Int)) && decide ((fs.length : Int) ≤ 3)) = ti at *
   generalize NameS.dist done = t1 at *
   cases ti with
   | false =>
    have HF := Lib.hid (show R = false by rw [HO.out]; rfl)
    go_wp2_with fail
    refine (Calls.mono IN.out) ?_
    rintro e w3 ⟨rfl, rfl⟩
    go_wp2
    go_ret
    exact ⟨ArgI.ret_b HF.out.symm, BW.out⟩
   | true =>
    have HF := Lib.hid (show R = t1 by rw [HO.out]; rfl)
    go_wp2_with fail
    refine (Calls.mono IN.out) ?_
    rintro e w3 ⟨rfl, rfl⟩
    go_wp2_with fail
    refine (Calls.mono DI.out) ?_
    rintro e w4 ⟨rfl, b4⟩
    have B4 := Lib.hid (below_step BW.out b4)
    clear b4
    go_wp2
    go_ret
    exact ⟨ArgI.ret_b HF.out.symm, B4.out⟩
set_option maxHeartbeats 4000000 in
set_option maxRecDepth 100000 in
theorem validProg (A B : Option Addr) (c d : Nat) (fs : List FunctionT) (rs : List RuleT) (w : World) (hA : ArgS Mem.fn w A fs.length c fs) (hB : ArgS Mem.rule w B rs.length d rs) (hl : szProgramU (fs, rs) ≤ 9000000) :
  Calls Tryz.prog 21 #[.agg #[.slice A fs.length c, .slice B rs.length d]] w fun e w' => e = .returned (.bool (progV fs rs)) ∧ Below w.heap.size w w' := by
 simp only [szProgramU] at hl
 have b0 : Below w.heap.size w (w.alloc (Obj.cells #[Value.slice A fs.length c, Value.slice B rs.length d] 27)) := (Below.refl _ _).alloc (Nat.le_refl _) _
 have V0 := Lib.hid (Lvar.new w #[Value.slice A fs.length c, Value.slice B rs.length d] 27)
 have EF := Lib.hid (functions A c fs _ (hA.below b0) (by omega))
 have B0 := Lib.hid b0
 have HA := Lib.hid hA
 have HB := Lib.hid hB
 have HL := Lib.hid hl
 have hfl : fs.length ≤ 9000000 ∧ rs.length ≤ 9000000 := by omega
 have HO := Lib.hid (show progV fs rs = ((fs.all fnV && ((decide (1 ≤ (fs.length : Int)) && decide ((fs.length : Int) ≤ 3)) && NameS.dist (fs.map (·.1)))) && (decide (rs.length ≤ 8) && rs.all (ruleV fs))) from by
  unfold progV
  have e1 : decide (1 ≤ (fs.length : Int)) = decide (fs.length ≠ 0) := by
   by_cases h : fs.length = 0
   ·rw [decide_eq_false (by omega), decide_eq_false (by omega)]
   ·rw [decide_eq_true (by omega), decide_eq_true h]
  have e2 : decide ((fs.length : Int) ≤ 3) = decide (fs.length ≤ 3) := by
   by_cases h : fs.length ≤ 3
   ·rw [decide_eq_true (by omega), decide_eq_true h]
   ·rw [decide_eq_false (by omega), decide_eq_false h]
  rw [e1, e2]
  cases fs.all fnV <;> cases decide (fs.length ≠ 0) <;> cases decide (fs.length ≤ 3) <;> cases decide (rs.length ≤ 8) <;> cases NameS.dist (fs.map (·.1)) <;> cases rs.all (ruleV fs) <;> rfl)
 generalize progV fs rs = R at *
 generalize (fs.all fnV && ((decide (1 ≤ (fs.length : Int)) && decide ((fs.length : Int) ≤ 3)) && NameS.dist (fs.map (·.1)))) = tf at *
 clear hA hB hl b0
 cases tf with
 | false =>
  have HF := Lib.hid (show R = false by rw [HO.out]; rfl)
  go_enter Tryz.func21, Tryz.ntmps21
  go_wp2_with fail
  refine (Calls.mono EF.out) ?_
  rintro e w1 ⟨rfl, b1⟩
  have B1 := Lib.hid (below_step B0.out b1)
  clear b1
  go_wp2
  go_ret
  exact ⟨ArgI.ret_b HF.out.symm, B1.out⟩
 | true =>
  go_enter Tryz.func21, Tryz.ntmps21
  go_wp2_with fail
  refine (Calls.mono EF.out) ?_
  rintro e w1 ⟨rfl, b1⟩
  have B1 := Lib.hid (below_step B0.out b1)
  have V1 := Lib.hid (V0.out.below b1)
  have p1 : w1.cell? ⟨w.heap.size, 1, none⟩ = some (.slice B rs.length d) := V1.out.cell 1 _ rfl
  clear b1 V0 B0
  by_cases n8 : rs.length ≤ 8
  ·have hq8 : decide ((rs.length : Int) > 8) = false := decide_eq_false (by omega)
   have HO := Lib.hid (show R = rs.all (ruleV fs) by rw [HO.out, decide_eq_true n8]; rfl)
   go_wp2
   go_loopw [3] (fun i wr => ∃ k : Nat, k ≤ rs.length ∧ i = .int .i64 k ∧ Hid ((rs.drop k).all (ruleV fs) = R) ∧ Below w1.heap.size w1 wr) (fun i _ => rs.length - (intOf i).toNat)
   case atStart => exact ⟨0, Nat.zero_le _, rfl, Lib.hid HO.out.symm, Below.refl _ _⟩
   case round =>
    clear p1
    obtain ⟨k, hk, rfl, hall, hb⟩ := hrel
    have HAL := Lib.hid hall.out
    have HBW := Lib.hid hb
    clear hall hb
    have BW := Lib.hid (below_step B1.out HBW.out)
    have VW := Lib.hid (V1.out.below HBW.out)
    have q1 : wr.cell? ⟨w.heap.size, 1, none⟩ = some (.slice B rs.length d) := VW.out.cell 1 _ rfl
    by_cases hlt : k < rs.length
    ·obtain ⟨b1, o1, E1, f1, E2, f2, E3, f3, E5, f5, rfl, hbb1, g0, g1, g2, g3, g4, g5, g6, r1, r2, r3, r5⟩ := (HB.out.below BW.out).rule_at hlt
     have hsz : szRuleU rs[k] ≤ 9000000 := by
      have := HL.out
      have := szs_mem (sz := szRuleU) (List.getElem_mem hlt)
      omega
     have HST := Lib.hid (show (rs.drop k).all (ruleV fs) = (ruleV fs rs[k] && (rs.drop (k + 1)).all (ruleV fs)) by rw [List.drop_eq_getElem_cons hlt]; rfl)
     generalize rs[k] = x at *
     obtain ⟨z0, x1, x2, x3, z4, x5, z6⟩ := x
     simp only at g0 g1 g2 g3 g4 g5 g6 r1 r2 r3 r5 hsz
     have hi0 : (0 : Int) ≤ (k : Int) := by omega
     have hi1 : (k : Int) < (rs.length : Int) := by omega
     have VR := Lib.hid (fun W (h : Below wr.heap.size wr W) => validRule A (some ⟨b1, o1, none⟩) rs.length c d fs z0 E1 f1 x1 E2 f2 x2 E3 f3 x3 z4 E5 f5 x5 z6 W (HA.out.below (below_step BW.out h)) (by have := HL.out; omega) (r1.below h) (r2.below h) (r3.below h) (r5.below h) hsz)
     have KS := Lib.hid (fun W (h : Below wr.heap.size wr W) => (show W.cell? ⟨w.heap.size, 0, none⟩ = some (Value.slice A fs.length c) ∧ W.cell? ⟨w.heap.size, 1, none⟩ = some (Value.slice (some ⟨b1, o1, none⟩) rs.length d) ∧ W.cell? ⟨b1, o1 + k * 7, none⟩ = some (Value.string z0) ∧ W.cell? ⟨b1, o1 + k * 7 + 1, none⟩ = some (Value.slice E1 x1.length f1) ∧ W.cell? ⟨b1, o1 + k * 7 + 2, none⟩ = some (Value.slice E2 x2.length f2) ∧ W.cell? ⟨b1, o1 + k * 7 + 3, none⟩ = some (Value.slice E3 x3.length f3) ∧ W.cell? ⟨b1, o1 + k * 7 + 4, none⟩ = some (Value.bool z4) ∧ W.cell? ⟨b1, o1 + k * 7 + 5, none⟩ = some (Value.slice E5 x5.length f5) ∧ W.cell? ⟨b1, o1 + k * 7 + 6, none⟩ = some (Value.string z6) from ⟨(VW.out.below h).cell 0 _ rfl, (VW.out.below h).cell 1 _ rfl, (h.cell (p := ⟨b1, o1 + k * 7, none⟩) hbb1).trans g0, (h.cell (p := ⟨b1, o1 + k * 7 + 1, none⟩) hbb1).trans g1, (h.cell (p := ⟨b1, o1 + k * 7 + 2, none⟩) hbb1).trans g2, (h.cell (p := ⟨b1, o1 + k * 7 + 3, none⟩) hbb1).trans g3, (h.cell (p := ⟨b1, o1 + k * 7 + 4, none⟩) hbb1).trans g4, (h.cell (p := ⟨b1, o1 + k * 7 + 5, none⟩) hbb1).trans g5, (h.cell (p := ⟨b1, o1 + k * 7 + 6, none⟩) hbb1).trans g6⟩))
     have D2 := Lib.hid (Below.refl wr.heap.size wr).drew
     have D2r := Lib.hid (Below.refl wr.heap.size wr)
     clear r1 r2 r3 r5 hsz
     generalize ruleV fs (z0, x1, x2, x3, z4, x5, z6) = ta at *
     cases ta
     case false =>
      have HF := Lib.hid (show R = false by rw [← HAL.out, HST.out]; rfl)
      go_wp2_with fail
      go_region_held3 (fun w' => w'.cell? ⟨w.heap.size, 0, none⟩ = some (Value.slice A fs.length c) ∧ w'.cell? ⟨w.heap.size, 1, none⟩ = some (Value.slice (some ⟨b1, o1, none⟩) rs.length d) ∧ w'.cell? ⟨b1, o1 + k * 7, none⟩ = some (Value.string z0) ∧ w'.cell? ⟨b1, o1 + k * 7 + 1, none⟩ = some (Value.slice E1 x1.length f1) ∧ w'.cell? ⟨b1, o1 + k * 7 + 2, none⟩ = some (Value.slice E2 x2.length f2) ∧ w'.cell? ⟨b1, o1 + k * 7 + 3, none⟩ = some (Value.slice E3 x3.length f3) ∧ w'.cell? ⟨b1, o1 + k * 7 + 4, none⟩ = some (Value.bool z4) ∧ w'.cell? ⟨b1, o1 + k * 7 + 5, none⟩ = some (Value.slice E5 x5.length f5) ∧ w'.cell? ⟨b1, o1 + k * 7 + 6, none⟩ = some (Value.string z6))
       (first | with_reducible exact KS.out _ D4.out | with_reducible exact KS.out _ D2.out | with_reducible exact KS.out _ D2r.out | go_keep)
       (first | (go_at_call 61; (with_reducible refine (Calls.mono (VR.out _ (by first | exact D2.out | exact D2r.out))) ?_); rintro e wz ⟨rfl, b4⟩; (have D4 := Lib.hid (show Below wr.heap.size wr wz from by first | exact below_step D2.out b4 | exact b4)); clear b4))
      all_goals
       have B7 := Lib.hid (show Below w.heap.size w _ from below_step BW.out D4.out)
       go_wp2
       go_ret
       exact ⟨ArgI.ret_b HF.out.symm, by first | exact B7.out | exact B7.out.drew⟩
     case true =>
      have HF := Lib.hid (show (rs.drop (k + 1)).all (ruleV fs) = R by rw [← HAL.out, HST.out]; rfl)
      go_wp2_with fail
      go_region_held3 (fun w' => w'.cell? ⟨w.heap.size, 0, none⟩ = some (Value.slice A fs.length c) ∧ w'.cell? ⟨w.heap.size, 1, none⟩ = some (Value.slice (some ⟨b1, o1, none⟩) rs.length d) ∧ w'.cell? ⟨b1, o1 + k * 7, none⟩ = some (Value.string z0) ∧ w'.cell? ⟨b1, o1 + k * 7 + 1, none⟩ = some (Value.slice E1 x1.length f1) ∧ w'.cell? ⟨b1, o1 + k * 7 + 2, none⟩ = some (Value.slice E2 x2.length f2) ∧ w'.cell? ⟨b1, o1 + k * 7 + 3, none⟩ = some (Value.slice E3 x3.length f3) ∧ w'.cell? ⟨b1, o1 + k * 7 + 4, none⟩ = some (Value.bool z4) ∧ w'.cell? ⟨b1, o1 + k * 7 + 5, none⟩ = some (Value.slice E5 x5.length f5) ∧ w'.cell? ⟨b1, o1 + k * 7 + 6, none⟩ = some (Value.string z6))
       (first | with_reducible exact KS.out _ D4.out | with_reducible exact KS.out _ D2.out | with_reducible exact KS.out _ D2r.out | go_keep)
       (first | (go_at_call 61; (with_reducible refine (Calls.mono (VR.out _ (by first | exact D2.out | exact D2r.out))) ?_); rintro e wz ⟨rfl, b4⟩; (have D4 := Lib.hid (show Below wr.heap.size wr wz from by first | exact below_step D2.out b4 | exact b4)); clear b4))
      all_goals
       have B7 := Lib.hid (show Below w1.heap.size w1 _ from below_step HBW.out D4.out)
       go_wp2
       go_roundw
       case rel => exact ⟨k + 1, by omega, by go_num, HF, by first | exact B7.out | exact B7.out.drew⟩
       case measure => simp [intOf]; omega
    ·obtain rfl : k = rs.length := by omega
     have HF := Lib.hid (show R = true by rw [← HAL.out, List.drop_length]; rfl)
     go_wp2
     go_ret
     exact ⟨ArgI.ret_b HF.out.symm, BW.out⟩
  ·have hq8 : decide ((rs.length : Int) > 8) = true := decide_eq_true (by omega)
   have HF := Lib.hid (show R = false by rw [HO.out, decide_eq_false n8]; rfl)
   go_wp2
   go_ret
   exact ⟨ArgI.ret_b HF.out.symm, B1.out⟩
end ProgS
namespace ProgI
open RowK Mem ProgM
end ProgI
namespace ProgS
open RowK Mem ProgM ProgI
end ProgS
end Go.Proofs.YtbbllkhmenpnlaaGreat
