import Derived.Test.YtnbgmhlhbcoicaaFarkCheck
/-
  The program's certificates: the checks.
-/
namespace Go.Proofs.Ytnbgmhlhbcoicaa
open Go.RowKit
namespace FarkI
open RowK Mem LinM FarkM LinI

set_option maxHeartbeats 1000000 in
set_option maxRecDepth 100000 in
theorem contraRef (v : Value) (r : Option (Int × List Int)) (w : World) (h8 : (r.getD (0, [])).2.length ≤ 1000000000) (hc : ∀ W, Below w.heap.size w W → Calls Try.prog 50 #[v] W (GaveOC W r)) :
    Calls Try.prog 49 #[.func (.func 50) #[v] #[]] w fun e w' => e = .returned (.bool (contra r)) ∧ Below w.heap.size w w' := by
  have HC := Lib.hid hc
  clear hc
  cases r with
  | none =>
    go_enter Try.func49, Try.ntmps49
    go_wp2_with fail
    refine (Calls.mono (HC.out _ (Below.refl _ _))) ?_
    rintro e w1 ⟨G, g, e1, r1, f1, b1, hg1⟩
    have e1 := (show e = .returned (.tuple #[.agg #[.int .i64 0, .slice G 0 g], .bool false]) from e1)
    subst e1
    have HB := Lib.hid (b1.alloc b1.size (Obj.cells #[Value.int IntKind.i64 0, Value.slice G 0 g] 29))
    clear r1 f1 b1
    go_wp2
    go_ret
    exact ⟨rfl, HB.out⟩
  | some s =>
    go_enter Try.func49, Try.ntmps49
    go_wp2_with fail
    refine (Calls.mono (HC.out _ (Below.refl _ _))) ?_
    rintro e w1 ⟨G, g, e1, r1, f1, b1, hg1⟩
    have e1 := (show e = .returned (.tuple #[.agg #[.int .i64 s.1, .slice G s.2.length g], .bool true]) from e1)
    subst e1
    have r1 := (show Row w.heap.size w1.heap.size w1 G (IntK.iv s.2) from r1)
    have a2 : Below w1.heap.size w1 (w1.alloc (Obj.cells #[Value.int IntKind.i64 s.1, Value.slice G s.2.length g] 29)) := (Below.refl _ _).alloc (Nat.le_refl _) _
    have IC := Lib.hid (isConst _ _ s.1 G g s.2 _ (r1.below a2) h8)
    have HB := Lib.hid (b1.alloc b1.size (Obj.cells #[Value.int IntKind.i64 s.1, Value.slice G s.2.length g] 29))
    have HV := Lib.hid (Lvar.new w1 #[Value.int IntKind.i64 s.1, Value.slice G s.2.length g] 29)
    have HR := Lib.hid (show contra (some s) = (isC s.2 && decide (s.1 < 0)) from rfl)
    clear r1 f1 b1 a2
    go_wp2_with fail
    refine (Calls.mono IC.out) ?_
    rintro e w2 ⟨rfl, b2⟩
    have V2 := Lib.hid (HV.out.below b2)
    have B2 := Lib.hid (HB.out.trans (b2.mono HB.out.size))
    have v0 := V2.out.cell 0 (.int .i64 s.1) rfl
    clear b2
    generalize isC s.2 = t at *
    cases t with
    | false =>
      have HF := Lib.hid (show contra (some s) = false from HR.out)
      go_wp2
      go_ret
      exact ⟨by rw [HF.out]; try rfl, B2.out⟩
    | true =>
      by_cases hs : s.1 < 0
      · have HF := Lib.hid (show contra (some s) = true by rw [HR.out, decide_eq_true hs]; rfl)
        have hs' : decide (s.1 < 0) = true := decide_eq_true hs
        clear hs
        go_wp2
        go_ret
        exact ⟨by rw [HF.out]; try simp [hs'], B2.out⟩
      · have HF := Lib.hid (show contra (some s) = false by rw [HR.out, decide_eq_false hs]; rfl)
        have hs' : decide (s.1 < 0) = false := decide_eq_false hs
        clear hs
        go_wp2
        go_ret
        exact ⟨by rw [HF.out]; try simp [hs'], B2.out⟩

set_option maxHeartbeats 1000000 in
set_option maxRecDepth 100000 in
theorem contraRows (v : Value) (r : Option (Int × List Int)) (w : World) (h8 : (r.getD (0, [])).2.length ≤ 1000000000) (hc : ∀ W, Below w.heap.size w W → Calls Try.prog 58 #[v] W (GaveOC W r)) :
    Calls Try.prog 49 #[.func (.func 58) #[v] #[]] w fun e w' => e = .returned (.bool (contra r)) ∧ Below w.heap.size w w' := by
  have HC := Lib.hid hc
  clear hc
  cases r with
  | none =>
    go_enter Try.func49, Try.ntmps49
    go_wp2_with fail
    refine (Calls.mono (HC.out _ (Below.refl _ _))) ?_
    rintro e w1 ⟨G, g, e1, r1, f1, b1, hg1⟩
    have e1 := (show e = .returned (.tuple #[.agg #[.int .i64 0, .slice G 0 g], .bool false]) from e1)
    subst e1
    have HB := Lib.hid (b1.alloc b1.size (Obj.cells #[Value.int IntKind.i64 0, Value.slice G 0 g] 29))
    clear r1 f1 b1
    go_wp2
    go_ret
    exact ⟨rfl, HB.out⟩
  | some s =>
    go_enter Try.func49, Try.ntmps49
    go_wp2_with fail
    refine (Calls.mono (HC.out _ (Below.refl _ _))) ?_
    rintro e w1 ⟨G, g, e1, r1, f1, b1, hg1⟩
    have e1 := (show e = .returned (.tuple #[.agg #[.int .i64 s.1, .slice G s.2.length g], .bool true]) from e1)
    subst e1
    have r1 := (show Row w.heap.size w1.heap.size w1 G (IntK.iv s.2) from r1)
    have a2 : Below w1.heap.size w1 (w1.alloc (Obj.cells #[Value.int IntKind.i64 s.1, Value.slice G s.2.length g] 29)) := (Below.refl _ _).alloc (Nat.le_refl _) _
    have IC := Lib.hid (isConst _ _ s.1 G g s.2 _ (r1.below a2) h8)
    have HB := Lib.hid (b1.alloc b1.size (Obj.cells #[Value.int IntKind.i64 s.1, Value.slice G s.2.length g] 29))
    have HV := Lib.hid (Lvar.new w1 #[Value.int IntKind.i64 s.1, Value.slice G s.2.length g] 29)
    have HR := Lib.hid (show contra (some s) = (isC s.2 && decide (s.1 < 0)) from rfl)
    clear r1 f1 b1 a2
    go_wp2_with fail
    refine (Calls.mono IC.out) ?_
    rintro e w2 ⟨rfl, b2⟩
    have V2 := Lib.hid (HV.out.below b2)
    have B2 := Lib.hid (HB.out.trans (b2.mono HB.out.size))
    have v0 := V2.out.cell 0 (.int .i64 s.1) rfl
    clear b2
    generalize isC s.2 = t at *
    cases t with
    | false =>
      have HF := Lib.hid (show contra (some s) = false from HR.out)
      go_wp2
      go_ret
      exact ⟨by rw [HF.out]; try rfl, B2.out⟩
    | true =>
      by_cases hs : s.1 < 0
      · have HF := Lib.hid (show contra (some s) = true by rw [HR.out, decide_eq_true hs]; rfl)
        have hs' : decide (s.1 < 0) = true := decide_eq_true hs
        clear hs
        go_wp2
        go_ret
        exact ⟨by rw [HF.out]; try simp [hs'], B2.out⟩
      · have HF := Lib.hid (show contra (some s) = false by rw [HR.out, decide_eq_false hs]; rfl)
        have hs' : decide (s.1 < 0) = false := decide_eq_false hs
        clear hs
        go_wp2
        go_ret
        exact ⟨by rw [HF.out]; try simp [hs'], B2.out⟩

set_option maxHeartbeats 1000000 in
set_option maxRecDepth 100000 in
theorem checkEmpty (lo hi : Nat) (N : Int) (A M : Option Addr) (c d : Nat) (xs : List (Int × List Int)) (ms : List Int) (w : World) (hA : SysK.Arg w A xs.length c xs) (hl : linsSize xs ≤ 1000000000) (hM : Row lo hi w M (IntK.iv ms)) (hlm : ms.length ≤ 1000000000) :
    Calls Try.prog 25 #[.agg #[.int .i64 N, .slice A xs.length c], .slice M ms.length d] w fun e w' => e = .returned (.bool (checkE N xs ms)) ∧ Below w.heap.size w w' := by
  have hmf : ∀ (fn : Fn) (first cap : Array Value) (w : World), (Instr.makeFunc fn first cap).run Try.prog w = .ok (.func fn first cap) w := fun _ _ _ _ => rfl
  have bb : Below w.heap.size w (w.alloc (Obj.cells #[Value.int IntKind.i64 N, Value.slice A xs.length c] 26)) := (Below.refl _ _).alloc (Nat.le_refl _) _
  have BB := Lib.hid bb
  have CO := Lib.hid (contraRows (.agg #[.int .i64 N, .slice A xs.length c, .slice M ms.length d]) (combR N xs ms) _ (by have := combR_small N xs ms; omega) (fun W hW => sumC lo hi N A M c d xs ms W ((hA.below bb).below hW) hl ((hM.below bb).below hW) hlm))
  rw [contra_empty] at CO
  generalize checkE N xs ms = R at *
  clear bb hA hM hl
  go_enter Try.func25, Try.ntmps25
  go_wp2_with fail
  refine (Calls.mono CO.out) ?_
  rintro e w1 ⟨rfl, b1⟩
  have B1 := Lib.hid (BB.out.trans (b1.mono BB.out.size))
  clear b1
  go_wp2
  go_ret
  exact ⟨rfl, B1.out⟩

set_option maxHeartbeats 1000000 in
set_option maxRecDepth 100000 in
theorem checkFarkas (lo hi lo' hi' : Nat) (N : Int) (A M T : Option Addr) (c d e0 : Nat) (xs : List (Int × List Int)) (ms : List Int) (tz : Int) (ts : List Int) (sc : Int) (w : World) (hA : SysK.Arg w A xs.length c xs) (hl : linsSize xs ≤ 1000000000) (hM : Row lo hi w M (IntK.iv ms)) (hlm : ms.length ≤ 1000000000) (hT : Row lo' hi' w T (IntK.iv ts)) (hlt : ts.length ≤ 1000000000) :
    Calls Try.prog 12 #[.agg #[.int .i64 N, .slice A xs.length c], .agg #[.int .i64 tz, .slice T ts.length e0], .agg #[.int .i64 sc, .slice M ms.length d]] w fun e w' => e = .returned (.bool (checkF N xs (tz, ts) sc ms)) ∧ Below w.heap.size w w' := by
  have hmf : ∀ (fn : Fn) (first cap : Array Value) (w : World), (Instr.makeFunc fn first cap).run Try.prog w = .ok (.func fn first cap) w := fun _ _ _ _ => rfl
  have bb : Below w.heap.size w (((w.alloc (Obj.cells #[Value.int IntKind.i64 N, Value.slice A xs.length c] 26)).alloc (Obj.cells #[Value.int IntKind.i64 tz, Value.slice T ts.length e0] 29)).alloc (Obj.cells #[Value.int IntKind.i64 sc, Value.slice M ms.length d] 31)) := (((Below.refl _ _).alloc (Nat.le_refl _) _).alloc (by simp) _).alloc (by simp; omega) _
  have BB := Lib.hid bb
  have CO := Lib.hid (contraRef (.agg #[.int .i64 N, .slice A xs.length c, .slice M ms.length d, .int .i64 tz, .slice T ts.length e0, .int .i64 sc]) (refS N xs (tz, ts) sc ms) _ (by have := refS_small N xs (tz, ts) sc ms; omega) (fun W hW => refC lo hi lo' hi' N A M T c d e0 xs ms tz ts sc W ((hA.below bb).below hW) hl ((hM.below bb).below hW) hlm ((hT.below bb).below hW) hlt))
  rw [contra_check] at CO
  generalize checkF N xs (tz, ts) sc ms = R at *
  clear bb hA hM hT hl
  go_enter Try.func12, Try.ntmps12
  go_wp2_with fail
  refine (Calls.mono CO.out) ?_
  rintro e w1 ⟨rfl, b1⟩
  have B1 := Lib.hid (BB.out.trans (b1.mono BB.out.size))
  clear b1
  go_wp2
  go_ret
  exact ⟨rfl, B1.out⟩
end FarkI
end Go.Proofs.Ytnbgmhlhbcoicaa
