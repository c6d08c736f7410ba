import Derived.Test.YtgpjgjjadhmkhaaGreatFrameSys
import Derived.Test.YtgpjgjjadhmkhaaGreatRepUni
import Derived.Test.YtgpjgjjadhmkhaaGreatRepInt
/-
  Arguments of a law, opened: strings, expressions, sums in the one form (made by tools/ukit.py).
-/
namespace Go.Proofs.YtgpjgjjadhmkhaaGreat
open Go.ChangeShapes Go.WideShapes Go.ChangeAt Go.RowKit Go.Joins Go.Deep
namespace Frame
open RowK Mem
variable {H : Type} {enc : TypeId × Value → H} {P : Program}
theorem list2 {α : Type} {cs : List α} (h : cs.length = 2) : ∃ a0 a1, cs = [a0, a1] := by
  match cs, h with
  | [a0, a1], _ => exact ⟨a0, a1, rfl⟩
theorem list3 {α : Type} {cs : List α} (h : cs.length = 3) : ∃ a0 a1 a2, cs = [a0, a1, a2] := by
  match cs, h with
  | [a0, a1, a2], _ => exact ⟨a0, a1, a2, rfl⟩
theorem list4 {α : Type} {cs : List α} (h : cs.length = 4) : ∃ a0 a1 a2 a3, cs = [a0, a1, a2, a3] := by
  match cs, h with
  | [a0, a1, a2, a3], _ => exact ⟨a0, a1, a2, a3, rfl⟩
theorem list5 {α : Type} {cs : List α} (h : cs.length = 5) : ∃ a0 a1 a2 a3 a4, cs = [a0, a1, a2, a3, a4] := by
  match cs, h with
  | [a0, a1, a2, a3, a4], _ => exact ⟨a0, a1, a2, a3, a4, rfl⟩
theorem list7 {α : Type} {cs : List α} (h : cs.length = 7) : ∃ a0 a1 a2 a3 a4 a5 a6, cs = [a0, a1, a2, a3, a4, a5, a6] := by
  match cs, h with
  | [a0, a1, a2, a3, a4, a5, a6], _ => exact ⟨a0, a1, a2, a3, a4, a5, a6, rfl⟩
theorem trodU_str {W : World} {n : Nat} {cs : List Value} {y : DataW H × List MemPlace} {ts : TypeId} (hts : P.underlying ts = some .string) (h : DataW.trod enc P W 0 (fun _ => true) true n ts cs = some y) : ∃ fp p, Rep.str.rep false W fp cs p ∧ WfStr p := by
  obtain ⟨s, e, _, hw⟩ := DataW.trod_string hts h
  subst e
  exact ⟨[], s, ⟨rfl, rfl⟩, by unfold maxLen at hw; exact hw⟩
theorem trodU_lin {W : World} {e ti tl : TypeId} (T : IsLin P e ti tl) {n : Nat} {cs : List Value} {y : DataW H × List MemPlace} (h : DataW.trod enc P W 0 (fun _ => true) true n e cs = some y) (hlt : ∀ x ∈ y.2, x.block < W.heap.size) :
    ∃ fp p, lin.rep false W fp cs p ∧ WfLinU p := trod_lin T h hlt
theorem isLinU : IsLin Tryz.prog 252 3 31 :=
  ⟨⟨_, _, Tryz.underlying252, rfl, rfl, rfl, rfl⟩, Tryz.underlying3, Tryz.underlying31, by kernel_rfl, by kernel_rfl, by kernel_rfl⟩
theorem isSumU : IsSum Tryz.prog 258 256 294 3 9 :=
  ⟨⟨_, _, Tryz.underlying258, rfl, rfl, rfl, rfl⟩, ⟨_, _, Tryz.underlying294, rfl, rfl, rfl, rfl⟩, Tryz.underlying3, Tryz.underlying9, Tryz.underlying256, by kernel_rfl, by kernel_rfl, by kernel_rfl, by kernel_rfl, by kernel_rfl⟩
end Frame
end Go.Proofs.YtgpjgjjadhmkhaaGreat

/-
  Integers as elements of an argument's slices.
-/
namespace Go.Proofs.YtgpjgjjadhmkhaaGreat
open Go.ChangeShapes Go.WideShapes Go.ChangeAt Go.RowKit Go.Joins Go.Deep
namespace Frame
open RowK Mem
variable {H : Type} {P : Program} {enc : TypeId × Value → H}
theorem trodU_int {W : World} {n : Nat} {cs : List Value} {y : DataW H × List MemPlace} {ts : TypeId} (hts : P.underlying ts = some (.int .i64)) (h : DataW.trod enc P W 0 (fun _ => true) true n ts cs = some y) : ∃ fp p, Rep.int.rep false W fp cs p ∧ WfInt p := by
  obtain ⟨s, e, _, hw⟩ := DataW.trod_int hts h
  subst e
  exact ⟨[], s, ⟨rfl, rfl⟩, hw⟩
end Frame
end Go.Proofs.YtgpjgjjadhmkhaaGreat
