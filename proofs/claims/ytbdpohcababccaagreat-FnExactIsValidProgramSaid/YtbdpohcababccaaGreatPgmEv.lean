import Derived.Test.YtbdpohcababccaaGreatPgmValS4
import Derived.Handy
/-
  Programs: validity (made by tools/s10p.py): every.
-/
namespace Go.Proofs.YtbdpohcababccaaGreat
open Go.RowKit
namespace ProgI
open RowK Mem ProgM
set_option maxHeartbeats 4000000 in
set_option maxRecDepth 100000 in
theorem everyStr (F : Nat) (lb : Array Value) (eg : ∀ args W, (callFunc F args).run Tryz.prog W = .ok (.enter F args) W) (p : ByteArray → Bool) (A : Option Addr) (c : Nat) (xs : List ByteArray) (w : World) (hA : ArgS Rep.str w A xs.length c xs) (hl : xs.length + szs szStr xs ≤ 9000000)
    (hp : ∀ (x : ByteArray) (W : World), Below w.heap.size w W → x.size ≤ 9000000 → Calls Tryz.prog F (#[.string x] ++ lb) W fun e w' => e = .returned (.bool (p x)) ∧ Below W.heap.size W w') :
    Calls Tryz.prog 123 #[.slice A xs.length c, .func (.func F) #[] lb] w fun e w' => e = .returned (.bool (xs.all p)) ∧ Below w.heap.size w w' := by
  have hxl : xs.length ≤ 9000000 := by omega
  have HL := Lib.hid hl
  have HA := Lib.hid hA
  have HP := Lib.hid hp
  obtain ⟨R, hR⟩ : ∃ R, R = xs.all p := ⟨_, rfl⟩
  rw [← hR]
  have HRR := Lib.hid hR
  clear hA hp hl hR
  go_enter Tryz.func123, Tryz.ntmps123
  go_wp2
  go_loopw [9] (fun i wr => ∃ k : Nat, k ≤ xs.length ∧ i = .int .i64 k ∧ Hid ((xs.drop k).all p = R) ∧ Below w.heap.size w wr) (fun i _ => xs.length - (intOf i).toNat)
  case atStart => exact ⟨0, Nat.zero_le _, rfl, Lib.hid HRR.out.symm, Below.refl _ _⟩
  case round =>
    obtain ⟨k, hk, rfl, hall, hb⟩ := hrel
    have HAL := Lib.hid hall.out
    have HB := Lib.hid hb
    clear hall hb
    by_cases hlt : k < xs.length
    · skip
      obtain ⟨b1, o1, rfl, hbb1, g0⟩ := str_at10 (HA.out.below HB.out) hlt
      have hsz : xs[k].size ≤ 9000000 := by
        have := HL.out
        exact str_le hlt (by omega)
      have HST := Lib.hid (show (xs.drop k).all p = (p xs[k] && (xs.drop (k + 1)).all p) by rw [List.drop_eq_getElem_cons hlt]; rfl)
      generalize xs[k] = x at *
      have hi0 : (0 : Int) ≤ (k : Int) := by omega
      have hi1 : (k : Int) < (xs.length : Int) := by omega
      have hd : Below wr.heap.size wr wr := Below.refl _ _
      have HC := Lib.hid (HP.out x wr HB.out hsz)
      have HD := Lib.hid hd
      clear hd hsz
      generalize p x = t at *
      cases t with
      | false =>
        have HF := Lib.hid (show R = false by rw [← HAL.out, HST.out]; rfl)
        go_wp2_with (go_at_fn F; refine (Calls.mono HC.out) ?_; rintro e w1 ⟨rfl, b1⟩)
        have B1 := Lib.hid (below_step HB.out (below_step HD.out b1))
        go_ret
        exact ⟨ArgI.ret_b HF.out.symm, B1.out⟩
      | true =>
        have HF := Lib.hid (show (xs.drop (k + 1)).all p = R by rw [← HAL.out, HST.out]; rfl)
        go_wp2_with (go_at_fn F; refine (Calls.mono HC.out) ?_; rintro e w1 ⟨rfl, b1⟩)
        have B1 := Lib.hid (below_step HB.out (below_step HD.out b1))
        go_roundw
        case rel => exact ⟨k + 1, by omega, by go_num, HF, B1.out⟩
        case measure => simp [intOf]; omega
    · obtain rfl : k = xs.length := by omega
      have HF := Lib.hid (show R = true by rw [← HAL.out, List.drop_length]; rfl)
      go_wp2
      go_ret
      exact ⟨ArgI.ret_b HF.out.symm, HB.out⟩
set_option maxHeartbeats 4000000 in
set_option maxRecDepth 100000 in
theorem everyLin (F : Nat) (lb : Array Value) (eg : ∀ args W, (callFunc F args).run Tryz.prog W = .ok (.enter F args) W) (p : (Int × List Int) → Bool) (A : Option Addr) (c : Nat) (xs : List (Int × List Int)) (w : World) (hA : ArgS Mem.lin w A xs.length c xs) (hl : xs.length + szs szLin xs ≤ 9000000)
    (hp : ∀ (z0 : Int) (A1 : Option Addr) (c1 : Nat) (x1 : List Int) (lo hi : Nat) (W : World), Below w.heap.size w W → Row lo hi W A1 (IntK.iv x1) → x1.length ≤ 9000000 → Calls Tryz.prog F (#[.agg #[.int .i64 z0, .slice A1 x1.length c1]] ++ lb) W fun e w' => e = .returned (.bool (p (z0, x1))) ∧ Below W.heap.size W w') :
    Calls Tryz.prog 75 #[.slice A xs.length c, .func (.func F) #[] lb] w fun e w' => e = .returned (.bool (xs.all p)) ∧ Below w.heap.size w w' := by
  have hxl : xs.length ≤ 9000000 := by omega
  have HL := Lib.hid hl
  have HA := Lib.hid hA
  have HP := Lib.hid hp
  obtain ⟨R, hR⟩ : ∃ R, R = xs.all p := ⟨_, rfl⟩
  rw [← hR]
  have HRR := Lib.hid hR
  clear hA hp hl hR
  go_enter Tryz.func75, Tryz.ntmps75
  go_wp2
  go_loopw [9] (fun i wr => ∃ k : Nat, k ≤ xs.length ∧ i = .int .i64 k ∧ Hid ((xs.drop k).all p = R) ∧ Below w.heap.size w wr) (fun i _ => xs.length - (intOf i).toNat)
  case atStart => exact ⟨0, Nat.zero_le _, rfl, Lib.hid HRR.out.symm, Below.refl _ _⟩
  case round =>
    obtain ⟨k, hk, rfl, hall, hb⟩ := hrel
    have HAL := Lib.hid hall.out
    have HB := Lib.hid hb
    clear hall hb
    by_cases hlt : k < xs.length
    · skip
      obtain ⟨q9, f9, h9⟩ := HA.out.below HB.out
      obtain ⟨b1, o1, A1, c1, lo, hi, rfl, hbb1, g0, g1, _, r1⟩ := lins_at h9 hlt
      have hsz : xs[k].2.length ≤ 9000000 := by
        have := HL.out
        have := szs_mem (sz := szLin) (List.getElem_mem hlt)
        have e : szLin xs[k] = xs[k].2.length := rfl
        omega
      have HST := Lib.hid (show (xs.drop k).all p = (p xs[k] && (xs.drop (k + 1)).all p) by rw [List.drop_eq_getElem_cons hlt]; rfl)
      generalize xs[k] = x at *
      obtain ⟨z0, x1⟩ := x
      simp only at g0 g1 r1 hsz
      have hi0 : (0 : Int) ≤ (k : Int) := by omega
      have hi1 : (k : Int) < (xs.length : Int) := by omega
      have hd : Below wr.heap.size wr (wr.alloc (Obj.cells #[Value.int .i64 z0, Value.slice A1 x1.length c1] 125)) := (Below.refl _ _).alloc (Nat.le_refl _) _
      have HC := Lib.hid (HP.out z0 A1 c1 x1 lo hi (wr.alloc (Obj.cells #[Value.int .i64 z0, Value.slice A1 x1.length c1] 125)) (below_step HB.out hd) (r1.below hd) hsz)
      have HD := Lib.hid hd
      clear r1 hd hsz
      generalize p (z0, x1) = t at *
      cases t with
      | false =>
        have HF := Lib.hid (show R = false by rw [← HAL.out, HST.out]; rfl)
        go_wp2_with (go_at_fn F; refine (Calls.mono HC.out) ?_; rintro e w1 ⟨rfl, b1⟩)
        have B1 := Lib.hid (below_step HB.out (below_step HD.out b1))
        go_ret
        exact ⟨ArgI.ret_b HF.out.symm, B1.out⟩
      | true =>
        have HF := Lib.hid (show (xs.drop (k + 1)).all p = R by rw [← HAL.out, HST.out]; rfl)
        go_wp2_with (go_at_fn F; refine (Calls.mono HC.out) ?_; rintro e w1 ⟨rfl, b1⟩)
        have B1 := Lib.hid (below_step HB.out (below_step HD.out b1))
        go_roundw
        case rel => exact ⟨k + 1, by omega, by go_num, HF, B1.out⟩
        case measure => simp [intOf]; omega
    · obtain rfl : k = xs.length := by omega
      have HF := Lib.hid (show R = true by rw [← HAL.out, List.drop_length]; rfl)
      go_wp2
      go_ret
      exact ⟨ArgI.ret_b HF.out.symm, HB.out⟩
set_option maxHeartbeats 4000000 in
set_option maxRecDepth 100000 in
theorem everyFn (F : Nat) (lb : Array Value) (eg : ∀ args W, (callFunc F args).run Tryz.prog W = .ok (.enter F args) W) (p : FunctionT → Bool) (A : Option Addr) (c : Nat) (xs : List FunctionT) (w : World) (hA : ArgS Mem.fn w A xs.length c xs) (hl : xs.length + szs szFunctionU xs ≤ 9000000)
    (hp : ∀ (z0 : ByteArray) (A1 : Option Addr) (c1 : Nat) (x1 : List ByteArray) (z2 : Bool) (A3 : Option Addr) (c3 : Nat) (x3 : List (Int × List Int)) (W : World), Below w.heap.size w W → ArgS Rep.str W A1 x1.length c1 x1 → ArgS Mem.lin W A3 x3.length c3 x3 → szFunctionU (z0, x1, z2, x3) ≤ 9000000 → Calls Tryz.prog F (#[.agg #[.string z0, .slice A1 x1.length c1, .bool z2, .slice A3 x3.length c3]] ++ lb) W fun e w' => e = .returned (.bool (p (z0, x1, z2, x3))) ∧ Below W.heap.size W w') :
    Calls Tryz.prog 28 #[.slice A xs.length c, .func (.func F) #[] lb] w fun e w' => e = .returned (.bool (xs.all p)) ∧ Below w.heap.size w w' := by
  have hxl : xs.length ≤ 9000000 := by omega
  have HL := Lib.hid hl
  have HA := Lib.hid hA
  have HP := Lib.hid hp
  obtain ⟨R, hR⟩ : ∃ R, R = xs.all p := ⟨_, rfl⟩
  rw [← hR]
  have HRR := Lib.hid hR
  clear hA hp hl hR
  go_enter Tryz.func28, Tryz.ntmps28
  go_wp2
  go_loopw [9] (fun i wr => ∃ k : Nat, k ≤ xs.length ∧ i = .int .i64 k ∧ Hid ((xs.drop k).all p = R) ∧ Below w.heap.size w wr) (fun i _ => xs.length - (intOf i).toNat)
  case atStart => exact ⟨0, Nat.zero_le _, rfl, Lib.hid HRR.out.symm, Below.refl _ _⟩
  case round =>
    obtain ⟨k, hk, rfl, hall, hb⟩ := hrel
    have HAL := Lib.hid hall.out
    have HB := Lib.hid hb
    clear hall hb
    by_cases hlt : k < xs.length
    · skip
      obtain ⟨b1, o1, A1, c1, A3, c3, rfl, hbb1, g0, g1, g2, g3, r1, r3⟩ := (HA.out.below HB.out).fn_at hlt
      have hsz : szFunctionU xs[k] ≤ 9000000 := by
        have := HL.out
        have := szs_mem (sz := szFunctionU) (List.getElem_mem hlt)
        omega
      have HST := Lib.hid (show (xs.drop k).all p = (p xs[k] && (xs.drop (k + 1)).all p) by rw [List.drop_eq_getElem_cons hlt]; rfl)
      generalize xs[k] = x at *
      obtain ⟨z0, x1, z2, x3⟩ := x
      simp only at g0 g1 g2 g3 r1 r3 hsz
      have hi0 : (0 : Int) ≤ (k : Int) := by omega
      have hi1 : (k : Int) < (xs.length : Int) := by omega
      have hd : Below wr.heap.size wr (wr.alloc (Obj.cells #[Value.string z0, Value.slice A1 x1.length c1, Value.bool z2, Value.slice A3 x3.length c3] 41)) := (Below.refl _ _).alloc (Nat.le_refl _) _
      have HC := Lib.hid (HP.out z0 A1 c1 x1 z2 A3 c3 x3 (wr.alloc (Obj.cells #[Value.string z0, Value.slice A1 x1.length c1, Value.bool z2, Value.slice A3 x3.length c3] 41)) (below_step HB.out hd) (r1.below hd) (r3.below hd) hsz)
      have HD := Lib.hid hd
      clear r1 r3 hd hsz
      generalize p (z0, x1, z2, x3) = t at *
      cases t with
      | false =>
        have HF := Lib.hid (show R = false by rw [← HAL.out, HST.out]; rfl)
        go_wp2_with (go_at_fn F; refine (Calls.mono HC.out) ?_; rintro e w1 ⟨rfl, b1⟩)
        have B1 := Lib.hid (below_step HB.out (below_step HD.out b1))
        go_ret
        exact ⟨ArgI.ret_b HF.out.symm, B1.out⟩
      | true =>
        have HF := Lib.hid (show (xs.drop (k + 1)).all p = R by rw [← HAL.out, HST.out]; rfl)
        go_wp2_with (go_at_fn F; refine (Calls.mono HC.out) ?_; rintro e w1 ⟨rfl, b1⟩)
        have B1 := Lib.hid (below_step HB.out (below_step HD.out b1))
        go_roundw
        case rel => exact ⟨k + 1, by omega, by go_num, HF, B1.out⟩
        case measure => simp [intOf]; omega
    · obtain rfl : k = xs.length := by omega
      have HF := Lib.hid (show R = true by rw [← HAL.out, List.drop_length]; rfl)
      go_wp2
      go_ret
      exact ⟨ArgI.ret_b HF.out.symm, HB.out⟩
set_option maxHeartbeats 4000000 in
set_option maxRecDepth 100000 in
theorem everyRule (F : Nat) (lb : Array Value) (eg : ∀ args W, (callFunc F args).run Tryz.prog W = .ok (.enter F args) W) (p : RuleT → Bool) (A : Option Addr) (c : Nat) (xs : List RuleT) (w : World) (hA : ArgS Mem.rule w A xs.length c xs) (hl : xs.length + szs szRuleU xs ≤ 9000000)
    (hp : ∀ (z0 : ByteArray) (A1 : Option Addr) (c1 : Nat) (x1 : List PatternT) (A2 : Option Addr) (c2 : Nat) (x2 : List SumT) (A3 : Option Addr) (c3 : Nat) (x3 : List CallT) (z4 : Bool) (A5 : Option Addr) (c5 : Nat) (x5 : List SumT) (z6 : ByteArray) (W : World), Below w.heap.size w W → ArgS Mem.pat W A1 x1.length c1 x1 → ArgS Mem.sum W A2 x2.length c2 x2 → ArgS Mem.call W A3 x3.length c3 x3 → ArgS Mem.sum W A5 x5.length c5 x5 → szRuleU (z0, x1, x2, x3, (z4, x5, z6)) ≤ 9000000 → Calls Tryz.prog F (#[.agg #[.string z0, .slice A1 x1.length c1, .slice A2 x2.length c2, .slice A3 x3.length c3, .bool z4, .slice A5 x5.length c5, .string z6]] ++ lb) W fun e w' => e = .returned (.bool (p (z0, x1, x2, x3, (z4, x5, z6)))) ∧ Below W.heap.size W w') :
    Calls Tryz.prog 30 #[.slice A xs.length c, .func (.func F) #[] lb] w fun e w' => e = .returned (.bool (xs.all p)) ∧ Below w.heap.size w w' := by
  have hxl : xs.length ≤ 9000000 := by omega
  have HL := Lib.hid hl
  have HA := Lib.hid hA
  have HP := Lib.hid hp
  obtain ⟨R, hR⟩ : ∃ R, R = xs.all p := ⟨_, rfl⟩
  rw [← hR]
  have HRR := Lib.hid hR
  clear hA hp hl hR
  go_enter Tryz.func30, Tryz.ntmps30
  go_wp2
  go_loopw [9] (fun i wr => ∃ k : Nat, k ≤ xs.length ∧ i = .int .i64 k ∧ Hid ((xs.drop k).all p = R) ∧ Below w.heap.size w wr) (fun i _ => xs.length - (intOf i).toNat)
  case atStart => exact ⟨0, Nat.zero_le _, rfl, Lib.hid HRR.out.symm, Below.refl _ _⟩
  case round =>
    obtain ⟨k, hk, rfl, hall, hb⟩ := hrel
    have HAL := Lib.hid hall.out
    have HB := Lib.hid hb
    clear hall hb
    by_cases hlt : k < xs.length
    · skip
      obtain ⟨b1, o1, A1, c1, A2, c2, A3, c3, A5, c5, rfl, hbb1, g0, g1, g2, g3, g4, g5, g6, r1, r2, r3, r5⟩ := (HA.out.below HB.out).rule_at hlt
      have hsz : szRuleU xs[k] ≤ 9000000 := by
        have := HL.out
        have := szs_mem (sz := szRuleU) (List.getElem_mem hlt)
        omega
      have HST := Lib.hid (show (xs.drop k).all p = (p xs[k] && (xs.drop (k + 1)).all p) by rw [List.drop_eq_getElem_cons hlt]; rfl)
      generalize xs[k] = x at *
      obtain ⟨z0, x1, x2, x3, ⟨z4, x5, z6⟩⟩ := x
      simp only at g0 g1 g2 g3 g4 g5 g6 r1 r2 r3 r5 hsz
      have hi0 : (0 : Int) ≤ (k : Int) := by omega
      have hi1 : (k : Int) < (xs.length : Int) := by omega
      have hd : Below wr.heap.size wr (wr.alloc (Obj.cells #[Value.string z0, Value.slice A1 x1.length c1, Value.slice A2 x2.length c2, Value.slice A3 x3.length c3, Value.bool z4, Value.slice A5 x5.length c5, Value.string z6] 38)) := (Below.refl _ _).alloc (Nat.le_refl _) _
      have HC := Lib.hid (HP.out z0 A1 c1 x1 A2 c2 x2 A3 c3 x3 z4 A5 c5 x5 z6 (wr.alloc (Obj.cells #[Value.string z0, Value.slice A1 x1.length c1, Value.slice A2 x2.length c2, Value.slice A3 x3.length c3, Value.bool z4, Value.slice A5 x5.length c5, Value.string z6] 38)) (below_step HB.out hd) (r1.below hd) (r2.below hd) (r3.below hd) (r5.below hd) hsz)
      have HD := Lib.hid hd
      clear r1 r2 r3 r5 hd hsz
      generalize p (z0, x1, x2, x3, (z4, x5, z6)) = t at *
      cases t with
      | false =>
        have HF := Lib.hid (show R = false by rw [← HAL.out, HST.out]; rfl)
        go_wp2_with (go_at_fn F; refine (Calls.mono HC.out) ?_; rintro e w1 ⟨rfl, b1⟩)
        have B1 := Lib.hid (below_step HB.out (below_step HD.out b1))
        go_ret
        exact ⟨ArgI.ret_b HF.out.symm, B1.out⟩
      | true =>
        have HF := Lib.hid (show (xs.drop (k + 1)).all p = R by rw [← HAL.out, HST.out]; rfl)
        go_wp2_with (go_at_fn F; refine (Calls.mono HC.out) ?_; rintro e w1 ⟨rfl, b1⟩)
        have B1 := Lib.hid (below_step HB.out (below_step HD.out b1))
        go_roundw
        case rel => exact ⟨k + 1, by omega, by go_num, HF, B1.out⟩
        case measure => simp [intOf]; omega
    · obtain rfl : k = xs.length := by omega
      have HF := Lib.hid (show R = true by rw [← HAL.out, List.drop_length]; rfl)
      go_wp2
      go_ret
      exact ⟨ArgI.ret_b HF.out.symm, HB.out⟩
end ProgI
end Go.Proofs.YtbdpohcababccaaGreat
