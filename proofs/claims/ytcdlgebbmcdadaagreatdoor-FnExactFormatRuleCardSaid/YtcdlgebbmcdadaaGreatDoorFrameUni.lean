import Derived.Test.YtcdlgebbmcdadaaGreatDoorFrameArg
import Derived.Test.YtcdlgebbmcdadaaGreatDoorFrame
import Derived.Test.YtcdlgebbmcdadaaGreatDoorRepGen
import Derived.Lib.SmallJoins
import Derived.ChangeSlices
import Derived.Test.YtcdlgebbmcdadaaGreatDoorRepSys
import Derived.Deep.Slices
import Derived.ChangeSame
import Derived.Test.YtcdlgebbmcdadaaGreatDoorRepUni
/-
  Arguments of a law, opened: strings, expressions, sums in the one form (made by tools/ukit.py).
-/
namespace Go.Proofs.YtcdlgebbmcdadaaGreatDoor
open Go.ChangeShapes Go.WideShapes Go.ChangeAt Go.RowKit Go.Joins Go.Deep
namespace Frame
open RowK Mem
variable {H : Type} {enc : TypeId × Value → H} {P : Program}
theorem list3 {α : Type} {cs : List α} (h : cs.length = 3) : ∃ a0 a1 a2, cs = [a0, a1, a2] := by
  match cs, h with
  | [a0, a1, a2], _ => exact ⟨a0, a1, a2, rfl⟩
theorem list4 {α : Type} {cs : List α} (h : cs.length = 4) : ∃ a0 a1 a2 a3, cs = [a0, a1, a2, a3] := by
  match cs, h with
  | [a0, a1, a2, a3], _ => exact ⟨a0, a1, a2, a3, rfl⟩
theorem list5 {α : Type} {cs : List α} (h : cs.length = 5) : ∃ a0 a1 a2 a3 a4, cs = [a0, a1, a2, a3, a4] := by
  match cs, h with
  | [a0, a1, a2, a3, a4], _ => exact ⟨a0, a1, a2, a3, a4, rfl⟩
theorem list7 {α : Type} {cs : List α} (h : cs.length = 7) : ∃ a0 a1 a2 a3 a4 a5 a6, cs = [a0, a1, a2, a3, a4, a5, a6] := by
  match cs, h with
  | [a0, a1, a2, a3, a4, a5, a6], _ => exact ⟨a0, a1, a2, a3, a4, a5, a6, rfl⟩
theorem isSumU : IsSum Tryz.prog 72 70 129 3 9 :=
  ⟨⟨_, _, Tryz.underlying72, rfl, rfl, rfl, rfl⟩, ⟨_, _, Tryz.underlying129, rfl, rfl, rfl, rfl⟩, Tryz.underlying3, Tryz.underlying9, Tryz.underlying70, by kernel_rfl, by kernel_rfl, by kernel_rfl, by kernel_rfl, by kernel_rfl⟩
end Frame
end Go.Proofs.YtcdlgebbmcdadaaGreatDoor
