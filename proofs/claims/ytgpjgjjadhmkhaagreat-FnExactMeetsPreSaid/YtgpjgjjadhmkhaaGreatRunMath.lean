import Derived.Test.YtgpjgjjadhmkhaaGreatPgmDec0
import Derived.Test.YtgpjgjjadhmkhaaGreatArithSpec
import Derived.Test.YtgpjgjjadhmkhaaGreatPgmMath
/-
  Values and outcomes: as mathematics (made by tools/s12.py).
-/
namespace Go.Proofs.YtgpjgjjadhmkhaaGreat
namespace ValM
/-- The value is valid. -/
def valV (z0 : Bool) (z1 : Int) (xs : List Int) : Bool := if z0 then decide (z1 = 0) && decide (xs.length ≤ 40) && xs.all ArithM.inF else ArithM.inF z1 && decide (xs.length = 0)
def sizeV (z0 : Bool) (z1 : Int) (xs : List Int) : Int := if z0 then (xs.length : Int) else z1
theorem val_list {xs : List Int} (h : xs.length ≤ 40) : valV true 0 xs = xs.all ArithM.inF := by simp [valV, h]
theorem val_n {z : Int} {xs : List Int} (h : ¬ z = 0) : valV true z xs = false := by simp [valV, h]
theorem val_long {xs : List Int} {z : Int} (h : ¬ xs.length ≤ 40) : valV true z xs = false := by unfold valV; rw [decide_eq_false h]; simp
theorem len0 (n : Nat) : ((n : Int) == 0) = decide (n = 0) := by rw [Bool.eq_iff_iff]; simp
theorem val_int {z : Int} {xs : List Int} : valV false z xs = (ArithM.inF z && decide (xs.length = 0)) := by simp [valV]
end ValM
end Go.Proofs.YtgpjgjjadhmkhaaGreat

/-
  Runs: arguments as mathematics (made by tools/s12f.py).
-/
namespace Go.Proofs.YtgpjgjjadhmkhaaGreat
open Go.RowKit
namespace RunM
open Mem ProgM ProgI ValM
def kindsV : List ValueT → Bs → Bool
  | v :: vs, p :: ps => (valV v.1 v.2.1 v.2.2 && (v.1 == NameM.listName p)) && kindsV vs ps
  | _, _ => true
def argsOk (ps : Bs) (vs : List ValueT) : Bool := decide (vs.length = ps.length) && kindsV vs ps
/-- The function that may be called with these arguments. -/
def forM (fs : List FunctionT) (rs : List RuleT) (nm : ByteArray) (vs : List ValueT) : Option FunctionT :=
  if progV fs rs then (match findF fs nm with | some f => if argsOk f.2.1 vs then some f else none | none => none) else none
def sizesV (vs : List ValueT) : List Int := vs.map fun v => sizeV v.1 v.2.1 v.2.2
def meetsM (fs : List FunctionT) (rs : List RuleT) (nm : ByteArray) (vs : List ValueT) : Bool :=
  match forM fs rs nm vs with
  | some f => SysS.satB vs.length f.2.2.2 (sizesV vs)
  | none => false
theorem for_bad {fs : List FunctionT} {rs : List RuleT} {nm : ByteArray} {vs : List ValueT} (h : progV fs rs = false) : forM fs rs nm vs = none := by simp [forM, h]
theorem for_none {fs : List FunctionT} {rs : List RuleT} {nm : ByteArray} {vs : List ValueT} (h : findF fs nm = none) : forM fs rs nm vs = none := by simp [forM, h]
theorem for_some {fs : List FunctionT} {rs : List RuleT} {nm : ByteArray} {vs : List ValueT} {f : FunctionT} (hp : progV fs rs = true) (h : findF fs nm = some f) : forM fs rs nm vs = if argsOk f.2.1 vs then some f else none := by simp [forM, hp, h]
theorem ok_len {ps : Bs} {vs : List ValueT} (h : ¬ vs.length = ps.length) : argsOk ps vs = false := by unfold argsOk; rw [decide_eq_false h]; rfl
theorem ok_kinds {ps : Bs} {vs : List ValueT} (h : vs.length = ps.length) : argsOk ps vs = kindsV vs ps := by unfold argsOk; rw [decide_eq_true h]; rfl
theorem kinds_step {ps : Bs} {vs : List ValueT} {k : Nat} (h1 : k < vs.length) (h2 : k < ps.length) :
    kindsV (vs.drop k) (ps.drop k) = ((valV vs[k].1 vs[k].2.1 vs[k].2.2 && (vs[k].1 == NameM.listName ps[k])) && kindsV (vs.drop (k + 1)) (ps.drop (k + 1))) := by
  rw [List.drop_eq_getElem_cons h1, List.drop_eq_getElem_cons h2]
  rfl
end RunM
end Go.Proofs.YtgpjgjjadhmkhaaGreat
